import Derived.Test.YtdcaojiiaocnaaaDoorQGalZ
import Derived.Test.YtdcaojiiaocnaaaDoorQGbbZ
import Derived.Test.YtdcaojiiaocnaaaDoorQShP25
import Derived.Lib.SmallJoins
import Derived.Test.YtdcaojiiaocnaaaDoorQSfM
set_option linter.unusedSimpArgs false
set_option linter.unusedVariables false
namespace Go.Proofs.YtdcaojiiaocnaaaDoor
open Go.RowKit

/-! What the law's calls find; a slice of bytes that is written out. -/
def Pk25 (w : World) : Prop := ETy w ∧ MLn w ∧ P10 w
theorem cell_old25 {w w' : World} {g i : Nat} {v : Value} (h : w.cell? ⟨g, i, none⟩ = some v) (ho : Old w w') : w'.cell? ⟨g, i, none⟩ = some v := by
  have hl : g < w.heap.size := cell_lt h
  rw [← h]
  unfold World.cell?
  rw [ho.block g hl]
theorem pk_old {w w' : World} (h : Pk25 w) (ho : Old w w') : Pk25 w' := by
  obtain ⟨h1, ⟨m, h2⟩, h3⟩ := h
  exact ⟨cell_old25 h1 ho, ⟨m, cell_old25 h2 ho⟩, p10_old h3 ho⟩
theorem flat_u25 : ∀ l : List Int, ((l.map (Value.int .u8)).flatMap cellsL) = l.flatMap uC
  | [] => rfl
  | x :: l => by
    rw [List.map_cons, List.flatMap_cons, flat_u25 l]; rfl
theorem op_bsB {o : Oper} {a : Act} {w w0 : World} {k : Act → World → Prop} {Q : Exit → Act → World → Prop} {rows : List Row} {K : World → Prop} (ps : List Int) (hp0 : 0 < ps.length) (hp1 : ps.length ≤ 1000) (n : Nat) (hn : n = ps.length) (os : Array (Nat × Operand)) (ho : o.op = .buildSlice 28 n os) (hos : os.toList.map (fun p => (p.1, a.eval p.2)) = prts (ps.map (Value.int .u8)) 0) (hS : Hs17 w0 rows K w)
    (h : ∀ g w', Hs17 w0 ((g, 5, ps.flatMap uC) :: rows) K w' → k (a.put o.dst (.slice (some ⟨g, 0, none⟩) n n)) w') : o.wp Tryd.prog a w k Q := by
  subst hn
  obtain ⟨i, hi, hz, hs⟩ : ∃ i, Tryd.prog.info? 5 = some i ∧ i.zero = some (.int .u8 0) ∧ i.size = 1 := by
    have hq := Tryd.infoBy
    cases hi : Tryd.prog.info? 5 with
    | none => rw [hi] at hq; simp at hq
    | some i =>
      rw [hi] at hq
      simp only [Option.map_some, Option.some.injEq, Prod.mk.injEq] at hq
      exact ⟨i, rfl, hq.1, hq.2.1⟩
  have hr := run_bsG (P := Tryd.prog) w 28 5 i _ (ps.map (Value.int .u8)) 1 Tryd.underlying28 hi hs hz (fun v hv => by simp at hv; obtain ⟨s, -, rfl⟩ := hv; rfl) (by simp; omega) (by simp; omega)
  rw [flat_u25, List.length_map] at hr
  have hr' : (Instr.buildSlice 28 ps.length (os.map fun p => (p.1, a.eval p.2))).run Tryd.prog w = .ok (.slice (some ⟨w.heap.size, 0, none⟩) ps.length ps.length) (w.alloc (.cells (ps.flatMap uC).toArray 5)) := by
    have e : (os.map fun p => (p.1, a.eval p.2)) = (prts (ps.map (Value.int .u8)) 0).toArray := by
      apply Array.ext'; rw [Array.toList_map, hos]
    rw [e]; exact hr
  unfold Oper.wp
  simp [execOp, ho, hr', Result.andThen]
  exact h _ _ (hS.alloc 5 (ps.flatMap uC))
theorem wl_bsB {ops : Array Oper} {rest : List Oper} {o : Oper} {a : Act} {w w0 : World} {Q : Exit → Act → World → Prop} {rows : List Row} {K : World → Prop} (hw : Region.wanted o (yielded ops a.tmps) = true) (ps : List Int) (hp0 : 0 < ps.length) (hp1 : ps.length ≤ 1000) (n : Nat) (hn : n = ps.length) (os : Array (Nat × Operand)) (ho : o.op = .buildSlice 28 n os) (hos : os.toList.map (fun p => (p.1, a.eval p.2)) = prts (ps.map (Value.int .u8)) 0) (hS : Hs17 w0 rows K w)
    (h : ∀ g w', Hs17 w0 ((g, 5, ps.flatMap uC) :: rows) K w' → wpList Tryd.prog ops Q rest (a.put o.dst (.slice (some ⟨g, 0, none⟩) n n)) w') : wpList Tryd.prog ops Q (o :: rest) a w :=
  wl hw fun k hk => op_bsB ps hp0 hp1 n hn os ho hos hS (fun g w' h1 => hk _ _ (h g w' h1))
/-- a slice of bytes written out and turned to bytes -/
theorem wl_litB {ops : Array Oper} {rest : List Oper} {o1 o2 : Oper} {a : Act} {w : World} {Q : Exit → Act → World → Prop} (hw : Region.wanted o1 (yielded ops a.tmps) = true) (ps : List Int) (hp0 : 0 < ps.length) (hp1 : ps.length ≤ 1000) (n : Nat) (hn : n = ps.length) (os : Array (Nat × Operand)) (ho : o1.op = .buildSlice 28 n os) (hos : os.toList.map (fun p => (p.1, a.eval p.2)) = prts (ps.map (Value.int .u8)) 0)
    (hw2 : ∀ v, Region.wanted o2 (yielded ops (a.put o1.dst v).tmps) = true) (x : Operand) (ho2 : o2.op = .convert 28 28 x) (hx : ∀ v, (a.put o1.dst v).eval x = v)
    (h : ∀ g w', Below w.heap.size w w' → Su w' ⟨some ⟨g, 0, none⟩, n, n, ps⟩ → wpList Tryd.prog ops Q rest ((a.put o1.dst (.slice (some ⟨g, 0, none⟩) n n)).put o2.dst (.slice (some ⟨g, 0, none⟩) n n)) w') : wpList Tryd.prog ops Q (o1 :: o2 :: rest) a w := by
  subst hn
  obtain ⟨i, hi, hz, hs⟩ : ∃ i, Tryd.prog.info? 5 = some i ∧ i.zero = some (.int .u8 0) ∧ i.size = 1 := by
    have hq := Tryd.infoBy
    cases hi : Tryd.prog.info? 5 with
    | none => rw [hi] at hq; simp at hq
    | some i =>
      rw [hi] at hq
      simp only [Option.map_some, Option.some.injEq, Prod.mk.injEq] at hq
      exact ⟨i, rfl, hq.1, hq.2.1⟩
  have hr := run_bsG (P := Tryd.prog) w 28 5 i _ (ps.map (Value.int .u8)) 1 Tryd.underlying28 hi hs hz (fun v hv => by simp at hv; obtain ⟨s, -, rfl⟩ := hv; rfl) (by simp; omega) (by simp; omega)
  rw [flat_u25, List.length_map] at hr
  have hr' : (Instr.buildSlice 28 ps.length (os.map fun p => (p.1, a.eval p.2))).run Tryd.prog w = .ok (.slice (some ⟨w.heap.size, 0, none⟩) ps.length ps.length) (w.alloc (.cells (ps.flatMap uC).toArray 5)) := by
    have e : (os.map fun p => (p.1, a.eval p.2)) = (prts (ps.map (Value.int .u8)) 0).toArray := by
      apply Array.ext'; rw [Array.toList_map, hos]
    rw [e]; exact hr
  refine wl hw fun k hk => ?_
  unfold Oper.wp
  simp [execOp, ho, hr', Result.andThen]
  refine hk _ _ ?_
  refine wl (hw2 _) fun k2 hk2 => ?_
  have hc := Go.Joins.run_convert_bytes_const_at (P := Tryd.prog) w 28 5 (ps.flatMap uC).toArray ps.length ps.length w.heap.size rfl Tryd.underlying28 Tryd.underlying5
  unfold Oper.wp
  simp [execOp, ho2, hx, hc, Result.andThen]
  refine hk2 _ _ (h _ _ ((Below.refl _ _).alloc (Nat.le_refl _) _) ⟨rfl, Nat.le_refl _, by show ps.length ≤ maxLen; unfold maxLen; omega, (fun h => by cases h), fun _ => ⟨w.heap.size, 0, rfl, by simp, fun i x hi j v hv => ?_⟩⟩)
  have hc := flat_at (f := uC) (sz := 1) (fun x _ => uC_len x) hi j v hv
  rw [Nat.zero_add, World.cell?_alloc_mark]
  simpa using hc
theorem arr_su25 {w : World} {g : Nat} {l : List Int} (hA : Arr w g 5 (l.flatMap uC)) (hm : l.length ≤ maxLen) : Su w ⟨some ⟨g, 0, none⟩, l.length, l.length, l⟩ := by
  refine ⟨rfl, Nat.le_refl _, hm, (fun h => by cases h), fun _ => ⟨g, 0, rfl, hA.lt, fun i x hi j v hv => ?_⟩⟩
  have hc := flat_at (f := uC) (sz := 1) (fun x _ => uC_len x) hi j v hv
  rw [Nat.zero_add, hA.cell]
  exact hc
/-- the line that lives reads -/
def ridB : List Int := [114, 105, 100, 101, 32, 49, 32, 55, 32, 50]
theorem rid_parse : parseL ridB = (⟨2, 1, 2, 7, 0, []⟩, 0, 0) := by kernel_rfl
theorem rid_format : formatL ⟨2, 1, 2, 7, 0, []⟩ = some ridB := by kernel_rfl
theorem rid_isB : IsB ridB := by unfold ridB; intro c hc; simp at hc; omega
theorem ok_rid (b : List Int) : OkO ⟨2, 1, 2, 7, 0, b⟩ := ⟨(by constructor <;> (show _ ≤ _) <;> first | (show (-9223372036854775808 : Int) ≤ 1; decide) | (show (1 : Int) ≤ 9223372036854775807; decide) : I64 1), (by constructor <;> (show _ ≤ _) <;> first | (show (-9223372036854775808 : Int) ≤ 2; decide) | (show (2 : Int) ≤ 9223372036854775807; decide) : I64 2), (by constructor <;> (show _ ≤ _) <;> first | (show (-9223372036854775808 : Int) ≤ 7; decide) | (show (7 : Int) ≤ 9223372036854775807; decide) : I64 7), (by constructor <;> (show _ ≤ _) <;> first | (show (-9223372036854775808 : Int) ≤ 0; decide) | (show (0 : Int) ≤ 9223372036854775807; decide) : I64 0)⟩
theorem b_ride : Tryd.prog.built 30 [(0, .int .i64 2), (1, .int .i64 1), (3, .int .i64 7), (2, .int .i64 2)] = some (opC 2 1 2 7 0 (.slice none 0 0)).toArray := by kernel_rfl
end Go.Proofs.YtdcaojiiaocnaaaDoor

set_option linter.unusedSimpArgs false
set_option linter.unusedVariables false
namespace Go.Proofs.YtdcaojiiaocnaaaDoor

/-! What must have a line. -/
def costL (l : Int) : Nat := if l = 66 then 2101 else 20
theorem cmd_cost : ∀ k, k < 22 → (cmdW k).length + 1 + ((cmdF k).map costL).sum ≤ 2201 := by decide
theorem tell_cost {o : Opq} {l : Int} {f : List Int} (hb : o.b.length ≤ 1050) (h : tellL o l = some f) : f.length + 1 ≤ costL l := by
  unfold tellL at h
  unfold costL
  split at h
  · rename_i h66
    rw [if_pos h66]
    split at h
    · simp only [Option.some.injEq] at h; subst h; simp
    · split at h
      · simp only [Option.some.injEq] at h; subst h; rw [hexL_length]; omega
      · cases h
  · rename_i h66
    rw [if_neg h66]
    split at h
    · rename_i hn
      simp only [Option.some.injEq] at h
      subst h
      have := (dec_len18 (getL o l)).2 hn
      omega
    · cases h
theorem tellF_cost {o : Opq} (hb : o.b.length ≤ 1050) : ∀ {ls : List Int} {fs : List (List Int)}, tellF o ls = some fs → (fs.map (fun f => f.length + 1)).sum ≤ (ls.map costL).sum
  | [], fs, h => by simp [tellF] at h; subst h; simp
  | l :: ls, fs, h => by
    unfold tellF at h
    split at h
    · rename_i f gs h1 h2
      simp only [Option.some.injEq] at h
      subst h
      have := tellF_cost hb h2
      have := tell_cost hb h1
      simp only [List.map_cons, List.sum_cons]; omega
    · cases h
theorem tellF_some {o : Opq} : ∀ {ls : List Int}, (∀ l ∈ ls, (tellL o l).isSome = true) → ∃ fs, tellF o ls = some fs
  | [], _ => ⟨[], rfl⟩
  | l :: ls, h => by
    obtain ⟨fs, h2⟩ := tellF_some (o := o) (ls := ls) (fun x hx => h x (by simp [hx]))
    obtain ⟨f, h1⟩ := Option.isSome_iff_exists.1 (h l (by simp))
    exact ⟨f :: fs, by unfold tellF; rw [h1, h2]⟩
theorem tellF_same {a b : Opq} : ∀ {ls : List Int}, (∀ l ∈ ls, tellL a l = tellL b l) → tellF a ls = tellF b ls
  | [], _ => rfl
  | l :: ls, h => by
    unfold tellF
    rw [h l (by simp), tellF_same (ls := ls) (fun x hx => h x (by simp [hx]))]
theorem slim_k (o : Opq) (hk : 1 ≤ o.k ∧ o.k ≤ 21) : (slimL o).k = o.k := (set_fold o (cmdF o.k.toNat) ⟨o.k, 0, 0, 0, 0, []⟩ (cmdF_ok _ (by omega))).1
theorem slim_tell (o : Opq) (hk : 1 ≤ o.k ∧ o.k ≤ 21) : ∀ l ∈ cmdF o.k.toNat, tellL (slimL o) l = tellL o l := fun l hl =>
  tell_same (((set_fold o (cmdF o.k.toNat) ⟨o.k, 0, 0, 0, 0, []⟩ (cmdF_ok _ (by omega))).2 l (cmdF_ok _ (by omega) l hl)).1 hl)
theorem slim_format (o : Opq) : formatL (slimL o) = formatL o := by
  by_cases hk : 1 ≤ o.k ∧ o.k ≤ 21
  · have h1 := slim_k o hk
    unfold formatL
    rw [h1, if_pos hk, if_pos hk, tellF_same (slim_tell o hk)]
  · have h1 : (slimL o).k = o.k := by
      have e : cmdF o.k.toNat = [] := by
        by_cases h0 : o.k.toNat = 0
        · rw [h0]; rfl
        · obtain ⟨j, hj⟩ : ∃ j, o.k.toNat = j + 22 := ⟨o.k.toNat - 22, by omega⟩
          rw [hj]; rfl
      unfold slimL; rw [e]; rfl
    unfold formatL
    rw [h1, if_neg hk, if_neg hk]
/-- a narrow operation has a line -/
theorem may_format {o : Opq} (hk : 1 ≤ o.k ∧ o.k ≤ 21) (hn : (slimL o).n.natAbs < nineQ) (ho : (slimL o).o.natAbs < nineQ) (hc : (slimL o).c.natAbs < nineQ) (hp : (slimL o).p.natAbs < nineQ) (hb : (slimL o).b.length ≤ 1050) : (formatL o).isSome = true := by
  rw [← slim_format]
  have h1 := slim_k o hk
  generalize slimL o = q at *
  have hkn : q.k.toNat < 22 := by omega
  have hs : ∀ l ∈ cmdF q.k.toNat, (tellL q l).isSome = true := fun l hl => by
    unfold tellL
    rcases cmdF_ok _ hkn l hl with rfl | rfl | rfl | rfl | rfl
    · rw [if_neg (by omega), show getL q 78 = q.n from rfl, if_pos hn]; rfl
    · rw [if_neg (by omega), show getL q 79 = q.o from rfl, if_pos ho]; rfl
    · rw [if_neg (by omega), show getL q 67 = q.c from rfl, if_pos hc]; rfl
    · rw [if_neg (by omega), show getL q 80 = q.p from rfl, if_pos hp]; rfl
    · rw [if_pos rfl]
      split
      · rfl
      · rw [if_pos (by omega)]; rfl
  obtain ⟨fs, hfs⟩ := tellF_some hs
  have h2 := tellF_cost hb hfs
  have h3 := cmd_cost _ hkn
  have h4 := join_len (cmdW q.k.toNat :: fs) (by simp)
  simp only [List.map_cons, List.sum_cons] at h4
  unfold formatL
  rw [if_pos (by omega), hfs]
  simp only
  rw [if_pos (by omega)]; rfl
end Go.Proofs.YtdcaojiiaocnaaaDoor
