import Derived.Test.YtjedgkcpkieaeaaSqM
import Derived.Deep.Cut
set_option linter.unusedSimpArgs false
set_option linter.unusedVariables false
namespace Go.Proofs.Ytjedgkcpkieaeaa
open Go.RowKit

/-! Slices of bools, of numbers, of acknowledgements; refunds. -/
def bC (b : Bool) : List Value := [.bool b]
def iC (z : Int) : List Value := [.int .i64 z]
structure Akn where (g i : Int)
def kC (x : Akn) : List Value := [.int .i64 x.g, .int .i64 x.i]
structure Rfd where (s r : Int) (v : Value) (t : Int)
def rC (x : Rfd) : List Value := [.int .i64 x.s, .int .i64 x.r, x.v, .int .i64 x.t]
def zRf : Rfd := ⟨0, 0, .slice none 0 0, 0⟩
theorem bC_len (x : Bool) : (bC x).length = 1 := rfl
theorem iC_len (x : Int) : (iC x).length = 1 := rfl
theorem kC_len (x : Akn) : (kC x).length = 2 := rfl
theorem one_b (x : Bool) : ∀ v ∈ bC x, v.oneCell' = true := by intro v hv; simp [bC] at hv; subst hv; rfl
theorem one_i (x : Int) : ∀ v ∈ iC x, v.oneCell' = true := by intro v hv; simp [iC] at hv; subst hv; rfl
theorem one_k (x : Akn) : ∀ v ∈ kC x, v.oneCell' = true := by intro v hv; simp [kC] at hv; rcases hv with rfl | rfl <;> rfl
theorem one_r (s r t : Int) (a : Option Addr) (n c : Nat) : ∀ v ∈ rC ⟨s, r, .slice a n c, t⟩, v.oneCell' = true := by intro v hv; simp [rC] at hv; rcases hv with rfl | rfl | rfl | rfl <;> rfl
theorem one_one {v : Value} (h : v.oneCell' = true) : ∀ u ∈ [v], u.oneCell' = true := by intro u hu; simp at hu; subst hu; exact h
theorem Try.infoBo : (Try.prog.info? 4).map (fun i => (i.zero, i.size, i.bytes)) = some (some (.bool false), 1, 1) := by kernel_rfl
theorem Try.infoIn : (Try.prog.info? 3).map (fun i => (i.zero, i.size, i.bytes)) = some (some (.int .i64 0), 1, 8) := by kernel_rfl
theorem Try.infoAk : (Try.prog.info? 32).map (fun i => (i.zero, i.size, i.bytes)) = some (some (aV (kC ⟨0, 0⟩)), 2, 16) := by kernel_rfl
theorem Try.in1 : (Try.prog.info? 3).map (·.size) = some 1 := by kernel_rfl
theorem Try.in1b : (Try.prog.info? 4).map (·.size) = some 1 := by kernel_rfl
theorem Try.in1e : (Try.prog.info? 33).map (·.size) = some 1 := by kernel_rfl
theorem Try.in1s : (Try.prog.info? 25).map (·.size) = some 1 := by kernel_rfl
theorem Try.inR : (Try.prog.info? 27).map (fun i => (i.zero, i.size)) = some (some (aV (rC zRf)), 4) := by kernel_rfl
theorem Try.inK : (Try.prog.info? 32).map (fun i => (i.zero, i.size)) = some (some (aV (kC ⟨0, 0⟩)), 2) := by kernel_rfl
theorem szR (x : Rfd) : (Try.prog.info? 27).map (·.size) = some (rC x).length := by show _ = some 4; kernel_rfl
theorem szK (x : Akn) : (Try.prog.info? 32).map (·.size) = some (kC x).length := by show _ = some 2; kernel_rfl
theorem b_r0 : Try.prog.built 27 [] = some (rC zRf).toArray := by kernel_rfl
theorem b_r3 (s r : Int) (a : Option Addr) (n c : Nat) : Try.prog.built 27 [(0, .int .i64 s), (1, .int .i64 r), (2, .slice a n c)] = some (rC ⟨s, r, .slice a n c, 0⟩).toArray := by kernel_rfl
theorem b_r2 (s r : Int) : Try.prog.built 27 [(0, .int .i64 s), (1, .int .i64 r)] = some (rC ⟨s, r, .slice none 0 0, 0⟩).toArray := by kernel_rfl
theorem b_r4 (s r t : Int) : Try.prog.built 27 [(0, .int .i64 s), (1, .int .i64 r), (3, .int .i64 t)] = some (rC ⟨s, r, .slice none 0 0, t⟩).toArray := by kernel_rfl
theorem at_rs (x : Rfd) : At (rC x) 0 [.int .i64 x.s] := ⟨[], _, rfl, rfl⟩
theorem at_rr (x : Rfd) : At (rC x) 1 [.int .i64 x.r] := ⟨[.int .i64 x.s], _, rfl, rfl⟩
theorem at_rv (x : Rfd) : At (rC x) 2 [x.v] := ⟨[.int .i64 x.s, .int .i64 x.r], _, rfl, rfl⟩
theorem at_rt (x : Rfd) : At (rC x) 3 [.int .i64 x.t] := ⟨[.int .i64 x.s, .int .i64 x.r, x.v], [], rfl, rfl⟩
theorem pt_r (x y : Rfd) : Pt (rC x) 0 (rC y) (rC y) := Pt.self rfl
theorem pt_rv (x : Rfd) (v : Value) : Pt (rC x) 2 [v] (rC { x with v := v }) := ⟨[.int .i64 x.s, .int .i64 x.r], [x.v], [.int .i64 x.t], rfl, rfl, rfl, rfl⟩
theorem pt_rt (x : Rfd) (t : Int) : Pt (rC x) 3 [.int .i64 t] (rC { x with t := t }) := ⟨[.int .i64 x.s, .int .i64 x.r, x.v], [.int .i64 x.t], [], rfl, rfl, rfl, rfl⟩
theorem at_kg (x : Akn) : At (kC x) 0 [.int .i64 x.g] := ⟨[], _, rfl, rfl⟩
theorem at_ki (x : Akn) : At (kC x) 1 [.int .i64 x.i] := ⟨[.int .i64 x.g], [], rfl, rfl⟩

abbrev Sb (w : World) (s : Sx Bool) : Prop := Sx.Ok bC 1 w s
abbrev Si (w : World) (s : Sx Int) : Prop := Sx.Ok iC 1 w s
abbrev Sk (w : World) (s : Sx Akn) : Prop := Sx.Ok kC 2 w s
abbrev Ob (w : World) (base : Nat) (v : Value) (l : List Bool) : Prop := w.ownsRow base 4 1 v l.length (l.flatMap bC)
abbrev Oi (w : World) (base : Nat) (v : Value) (l : List Int) : Prop := w.ownsRow base 3 1 v l.length (l.flatMap iC)
abbrev Ok21 (w : World) (base : Nat) (v : Value) (l : List Akn) : Prop := w.ownsRow base 32 2 v l.length (l.flatMap kC)
theorem Ob.sb {w : World} {base : Nat} {v : Value} {l : List Bool} (h : Ob w base v l) : ∃ s : Sx Bool, v = s.v ∧ s.xs = l ∧ Sb w s ∧ (∀ x, s.a = some x → base ≤ x.block ∧ v.ownBlock = some x.block) := own_sx h (fun x _ => bC_len x)
theorem Oi.si {w : World} {base : Nat} {v : Value} {l : List Int} (h : Oi w base v l) : ∃ s : Sx Int, v = s.v ∧ s.xs = l ∧ Si w s ∧ (∀ x, s.a = some x → base ≤ x.block ∧ v.ownBlock = some x.block) := own_sx h (fun x _ => iC_len x)
theorem Ok21.sk {w : World} {base : Nat} {v : Value} {l : List Akn} (h : Ok21 w base v l) : ∃ s : Sx Akn, v = s.v ∧ s.xs = l ∧ Sk w s ∧ (∀ x, s.a = some x → base ≤ x.block ∧ v.ownBlock = some x.block) := own_sx h (fun x _ => kC_len x)
theorem Sb.at_ {w : World} {s : Sx Bool} (h : Sb w s) {k : Nat} (hk : k < s.n) : ∃ b off, s.a = some ⟨b, off, none⟩ ∧ b < w.heap.size ∧ w.cell? ⟨b, off + k, none⟩ = some (.bool (s.xs.getD k false)) := by
  have hl : k < s.xs.length := by rw [h.len]; exact hk
  obtain ⟨b, off, h1, h2, h3⟩ := Sx.Ok.at_ h (List.getElem?_eq_getElem hl)
  refine ⟨b, off, h1, h2, ?_⟩
  have := h3 0 _ rfl
  simpa [hl] using this
theorem Si.at_ {w : World} {s : Sx Int} (h : Si w s) {k : Nat} (hk : k < s.n) : ∃ b off, s.a = some ⟨b, off, none⟩ ∧ b < w.heap.size ∧ w.cell? ⟨b, off + k, none⟩ = some (.int .i64 (s.xs.getD k 0)) := by
  have hl : k < s.xs.length := by rw [h.len]; exact hk
  obtain ⟨b, off, h1, h2, h3⟩ := Sx.Ok.at_ h (List.getElem?_eq_getElem hl)
  refine ⟨b, off, h1, h2, ?_⟩
  have := h3 0 _ rfl
  simpa [hl] using this
theorem Sk.at_ {w : World} {s : Sx Akn} (h : Sk w s) {k : Nat} (hk : k < s.n) : ∃ x b off, s.xs[k]? = some x ∧ s.a = some ⟨b, off, none⟩ ∧ b < w.heap.size ∧ w.rangeAt b (off + k * 2) (kC x) := by
  have hl : k < s.xs.length := by rw [h.len]; exact hk
  obtain ⟨b, off, h1, h2, h3⟩ := Sx.Ok.at_ h (List.getElem?_eq_getElem hl)
  exact ⟨_, b, off, List.getElem?_eq_getElem hl, h1, h2, h3⟩
theorem bC_flat (l : List Bool) : l.flatMap bC = l.map Value.bool := by
  induction l with
  | nil => rfl
  | cons x t ih => rw [List.flatMap_cons, ih]; rfl
theorem made_b (n : Nat) : (madeCells (Value.bool false).cells (n * 1)) = ((List.replicate n false).flatMap bC).toArray := by
  rw [bC_flat]
  apply Array.ext
  · simp [madeCells]
  · intro i h1 h2; simp [madeCells, Value.cells, Nat.mod_one]
theorem info_b : ∃ i, Try.prog.info? 4 = some i ∧ i.zero = some (.bool false) ∧ i.size = 1 ∧ i.bytes = 1 := by
  have h := Try.infoBo
  cases hq : Try.prog.info? 4 with
  | none => rw [hq] at h; simp at h
  | some i =>
    rw [hq] at h
    simp only [Option.map_some, Option.some.injEq, Prod.mk.injEq] at h
    exact ⟨i, rfl, h.1, h.2.1, h.2.2⟩

section
variable {ops : Array Oper} {rest : List Oper} {o : Oper} {a : Act} {w w0 : World} {Q : Exit → Act → World → Prop} {rows : List Row} {K : World → Prop}
/-- make([]bool, n): a row more -/
theorem wl_make (hw : Region.wanted o (yielded ops a.tmps) = true) (l c : Operand) (ho : o.op = .makeSlice 25 l c) (n : Nat) (hl : a.eval l = .int .i64 n) (hc : a.eval c = .int .i64 n) (hn : n ≤ 1048576) (hS : Hs17 w0 rows K w)
    (h : ∀ g w', Hs17 w0 ((g, 4, (List.replicate n false).flatMap bC) :: rows) K w' → wpList Try.prog ops Q rest (a.put o.dst (.slice (some ⟨g, 0, none⟩) n n)) w') : wpList Try.prog ops Q (o :: rest) a w := by
  obtain ⟨i, hi, hz, hsz, hby⟩ := info_b
  have hr := run_make (P := Try.prog) w 25 4 i _ Try.underlying25 hi hz .i64 .i64 n n (by omega) (Int.le_refl _) (by rw [hby]; omega) (by omega)
  rw [hsz, Int.toNat_natCast, made_b] at hr
  refine wl hw fun k hk => ?_
  unfold Oper.wp
  simp [execOp, ho, hl, hc, hr, Result.andThen]
  exact hk _ _ (h _ _ (hS.alloc 4 _))
/-- copy of all of a slice into a row of as many -/
theorem wl_copy (hg : o.guard = none) (hw : Region.wanted o (yielded ops a.tmps) = true) (d s : Operand) (ho : o.op = .call { callee := .builtin .copy, args := #[d, s], argTypes := #[25, 25] }) (i : Nat) {g : Nat} {cur : List Value} (hi : rows[i]? = some (g, 4, cur)) (sa : Option Addr) (n sc : Nat) (hd : a.eval d = .slice (some ⟨g, 0, none⟩) n n) (hs : a.eval s = .slice sa n sc) (l : List Bool) (hq : Sb w ⟨sa, n, sc, l⟩) (hcur : cur.length = n) (hS : Hs17 w0 rows K w)
    (h : ∀ w', Hs17 w0 (rows.set i (g, 4, l.flatMap bC)) K w' → wpList Try.prog ops Q rest (a.put o.dst (.int .i64 n)) w') : wpList Try.prog ops Q (o :: rest) a w := by
  have hl : l.length = n := hq.len
  have hA := hS.get i hi
  have hfl : (l.flatMap bC).length = n := by rw [flat_len (fun x _ => bC_len x), hl, Nat.mul_one]
  by_cases h0 : n = 0
  · subst h0
    obtain rfl := List.eq_nil_of_length_eq_zero hl
    obtain rfl := List.eq_nil_of_length_eq_zero hcur
    refine wpList_copy_nothing hg d s 25 25 ho 4 Try.underlying25 Try.in1b _ _ _ _ _ _ hd hs rfl ?_
    have := h w (by
      have e : rows.set i (g, 4, List.flatMap bC []) = rows := by
        apply List.ext_getElem?
        intro j
        rw [List.getElem?_set]
        split
        · rename_i e; subst e
          rw [if_pos (List.getElem?_eq_some_iff.1 hi).1, hi]; rfl
        · rfl
      rw [e]; exact hS)
    exact this
  · obtain ⟨b, off, ha, hb, -⟩ := hq.lies (by simp only; omega)
    simp only at ha
    subst ha
    refine wpList_copy_own hg d s 25 25 ho 4 Try.underlying25 Try.in1b g 0 n n ⟨b, off, none⟩ n sc hd hs cur.toArray 4 hA (l.flatMap bC) (by rw [hfl]; exact (Nat.min_self n).symm) (fun j v hv => by rw [addr_add]; exact hq.flat (fun x _ => bC_len x) (by omega) rfl j v hv) (by simp [hfl, hcur]) (fun v hv => by obtain ⟨z, _, hu⟩ := List.mem_flatMap.1 hv; exact one_b z v hu) ?_
    have e : cur.toArray.toList.take 0 ++ (l.flatMap bC ++ cur.toArray.toList.drop (0 + (l.flatMap bC).length)) = l.flatMap bC := by
      rw [hfl, List.take_zero, List.nil_append, List.drop_of_length_le (by simp [hcur]), List.append_nil]
    rw [e]
    have e3 : (a.put o.dst (goInt (l.flatMap bC).length)) = a.put o.dst (.int .i64 n) := by rw [hfl]; rfl
    rw [e3]
    exact h _ (hS.chg i hi (hA.setRow (l.flatMap bC)) ((But.refl g w).setRow _))
/-- a load of one cell that is no row's -/
theorem wl_loadC (hw : Region.wanted o (yielded ops a.tmps) = true) (t : TypeId) (x : Operand) (ho : o.op = .load t x) (b off : Nat) (hx : a.eval x = .pointer (some ⟨b, off, none⟩)) (v : Value) (hc : w.cell? ⟨b, off, none⟩ = some v) {d : TypeDesc} (hu : Try.prog.underlying t = some d) (hd : d.isRow = false)
    (h : wpList Try.prog ops Q rest (a.put o.dst v) w) : wpList Try.prog ops Q (o :: rest) a w := by
  have hA : (isAgg t).run Try.prog w = .ok false w := by
    unfold isAgg
    rw [Sem.run_bind, run_underlying hu w]
    cases d <;> simp_all [TypeDesc.isRow]
  have hl : (loadVar t ⟨b, off, none⟩).run Try.prog w = .ok v w := by
    simp [loadVar, Sem.run_bind, hA, run_load, hc]
  refine wv v hw ?_ h
  unfold execOp
  simp only [ho, hx, Instr.loadAt, Instr.sureAddr, Sem.run_bind, Sem.run_pure, Result.andThen_ok, hl]
end
section
variable {ops : Array Oper} {rest : List Oper} {o : Oper} {a : Act} {w w0 : World} {Q : Exit → Act → World → Prop} {rows : List Row} {K : World → Prop}
/-- one number, one bool, one acknowledgement as a slice; appended to a row of one's own -/
theorem wl_bs1i (hw : Region.wanted o (yielded ops a.tmps) = true) (x : Operand) (ho : o.op = .buildSlice 38 1 #[(0, x)]) (z : Int) (hx : a.eval x = .int .i64 z) (hS : Hs17 w0 rows K w)
    (h : ∀ g w', Hs17 w0 ((g, 3, iC z) :: rows) K w' → wpList Try.prog ops Q rest (a.put o.dst (.slice (some ⟨g, 0, none⟩) 1 1)) w') : wpList Try.prog ops Q (o :: rest) a w :=
  wl hw fun k hk => op_bs1G 38 3 x ho Try.underlying38 Try.infoIn _ (iC z) hx rfl rfl (by omega) (by omega) hS (fun g w' h1 => hk _ _ (h g w' h1))
theorem wl_bs1b (hw : Region.wanted o (yielded ops a.tmps) = true) (x : Operand) (ho : o.op = .buildSlice 25 1 #[(0, x)]) (z : Bool) (hx : a.eval x = .bool z) (hS : Hs17 w0 rows K w)
    (h : ∀ g w', Hs17 w0 ((g, 4, bC z) :: rows) K w' → wpList Try.prog ops Q rest (a.put o.dst (.slice (some ⟨g, 0, none⟩) 1 1)) w') : wpList Try.prog ops Q (o :: rest) a w :=
  wl hw fun k hk => op_bs1G 25 4 x ho Try.underlying25 Try.infoBo _ (bC z) hx rfl rfl (by omega) (by omega) hS (fun g w' h1 => hk _ _ (h g w' h1))
theorem wl_bs1k (hw : Region.wanted o (yielded ops a.tmps) = true) (x : Operand) (ho : o.op = .buildSlice 22 1 #[(0, x)]) (z : Akn) (hx : a.eval x = aV (kC z)) (hS : Hs17 w0 rows K w)
    (h : ∀ g w', Hs17 w0 ((g, 32, kC z) :: rows) K w' → wpList Try.prog ops Q rest (a.put o.dst (.slice (some ⟨g, 0, none⟩) 1 1)) w') : wpList Try.prog ops Q (o :: rest) a w :=
  wl hw fun k hk => op_bs1G 22 32 x ho Try.underlying22 Try.infoAk _ (kC z) hx rfl rfl (by omega) (by omega) hS (fun g w' h1 => hk _ _ (h g w' h1))
theorem wl_appi (hw : Region.wanted o (yielded ops a.tmps) = true) (s x : Operand) (ho : o.op = .call { callee := .builtin .append, args := #[s, x], argTypes := #[38, 38] })
    {base : Nat} {v : Value} {xs : List Int} (hs : a.eval s = v) (hown : Oi w base v xs) (y : Sx Int) (hy : Si w y) (hx : a.eval x = y.v) (hb : (xs.length + y.n) * 8 ≤ 140737488355328) (hbase : base ≤ w.heap.size)
    (h : ∀ v' w', Oi w' base v' (xs ++ y.xs) → w.grownBy w' v.ownBlock → (v'.ownBlock = v.ownBlock ∨ v'.ownBlock = some w.heap.size) → wpList Try.prog ops Q rest (a.put o.dst v') w') : wpList Try.prog ops Q (o :: rest) a w :=
  wl hw fun k hk => op_appendL s x 38 ho Try.underlying38 Try.infoIn rfl (by omega) hs hown y hy (fun z _ => iC_len z) (fun z _ => one_i z) hx hb (by omega) hbase (fun v' w' h1 h2 h3 => hk _ _ (h v' w' h1 h2 h3))
theorem wl_appb (hw : Region.wanted o (yielded ops a.tmps) = true) (s x : Operand) (ho : o.op = .call { callee := .builtin .append, args := #[s, x], argTypes := #[25, 25] })
    {base : Nat} {v : Value} {xs : List Bool} (hs : a.eval s = v) (hown : Ob w base v xs) (y : Sx Bool) (hy : Sb w y) (hx : a.eval x = y.v) (hb : (xs.length + y.n) * 1 ≤ 140737488355328) (hbase : base ≤ w.heap.size)
    (h : ∀ v' w', Ob w' base v' (xs ++ y.xs) → w.grownBy w' v.ownBlock → (v'.ownBlock = v.ownBlock ∨ v'.ownBlock = some w.heap.size) → wpList Try.prog ops Q rest (a.put o.dst v') w') : wpList Try.prog ops Q (o :: rest) a w :=
  wl hw fun k hk => op_appendL s x 25 ho Try.underlying25 Try.infoBo rfl (by omega) hs hown y hy (fun z _ => bC_len z) (fun z _ => one_b z) hx hb (by omega) hbase (fun v' w' h1 h2 h3 => hk _ _ (h v' w' h1 h2 h3))
theorem wl_appk (hw : Region.wanted o (yielded ops a.tmps) = true) (s x : Operand) (ho : o.op = .call { callee := .builtin .append, args := #[s, x], argTypes := #[22, 22] })
    {base : Nat} {v : Value} {xs : List Akn} (hs : a.eval s = v) (hown : Ok21 w base v xs) (y : Sx Akn) (hy : Sk w y) (hx : a.eval x = y.v) (hb : (xs.length + y.n) * 16 ≤ 140737488355328) (hbase : base ≤ w.heap.size)
    (h : ∀ v' w', Ok21 w' base v' (xs ++ y.xs) → w.grownBy w' v.ownBlock → (v'.ownBlock = v.ownBlock ∨ v'.ownBlock = some w.heap.size) → wpList Try.prog ops Q rest (a.put o.dst v') w') : wpList Try.prog ops Q (o :: rest) a w :=
  wl hw fun k hk => op_appendL s x 22 ho Try.underlying22 Try.infoAk rfl (by omega) hs hown y hy (fun z _ => kC_len z) (fun z _ => one_k z) hx hb (by omega) hbase (fun v' w' h1 h2 h3 => hk _ _ (h v' w' h1 h2 h3))
end
/-! The missing of a list. -/
def msF (l : List Bool) (k : Nat) : List Int := ((List.range k).filter (fun i => !l.getD i false)).map (fun i : Nat => (i : Int) + 1)
theorem msF_zero (l : List Bool) : msF l 0 = [] := rfl
theorem msF_yes (l : List Bool) (k : Nat) (h : l.getD k false = true) : msF l (k + 1) = msF l k := by
  rw [msF, List.range_succ, List.filter_append, List.map_append]
  simp [msF] at h ⊢; simp [h]
theorem msF_no (l : List Bool) (k : Nat) (h : l.getD k false = false) : msF l (k + 1) = msF l k ++ [(k : Int) + 1] := by
  rw [msF, List.range_succ, List.filter_append, List.map_append]
  simp [msF] at h ⊢; simp [h]
theorem msF_len (l : List Bool) (k : Nat) : (msF l k).length ≤ k := by
  rw [msF, List.length_map]
  exact Nat.le_trans (List.length_filter_le _ _) (by simp)
end Go.Proofs.Ytjedgkcpkieaeaa
