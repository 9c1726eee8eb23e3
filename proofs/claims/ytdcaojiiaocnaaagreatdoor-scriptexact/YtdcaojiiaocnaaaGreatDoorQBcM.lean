import Derived.Test.YtdcaojiiaocnaaaGreatDoorQScM
import Derived.Test.YtdcaojiiaocnaaaGreatDoorQSqM
import Derived.Test.YtdcaojiiaocnaaaGreatDoorQOpenG
import Derived.Laws.AppendOwn
import Derived.Deep.DeepCutAuto
import Derived.Deep.QuietTactic
import Derived.BigQuiet
import Derived.Deep.Cut
set_option linter.unusedSimpArgs false
set_option linter.unusedVariables false
namespace Go.Proofs.YtdcaojiiaocnaaaGreatDoor
open Go.RowKit

/-! Bytes, strings as cells. -/
def uC (z : Int) : List Value := [.int .u8 z]
def iC (z : Int) : List Value := [.int .i64 z]
def bC (b : Bool) : List Value := [.bool b]
theorem uC_len (x : Int) : (uC x).length = 1 := rfl
theorem iC_len (x : Int) : (iC x).length = 1 := rfl
theorem bC_len (x : Bool) : (bC x).length = 1 := rfl
theorem one_u (x : Int) : ∀ v ∈ uC x, v.oneCell' = true := by intro v hv; simp [uC] at hv; subst hv; rfl
theorem one_b (x : Bool) : ∀ v ∈ bC x, v.oneCell' = true := by intro v hv; simp [bC] at hv; subst hv; rfl
theorem one_one {v : Value} (h : v.oneCell' = true) : ∀ u ∈ [v], u.oneCell' = true := by intro u hu; simp at hu; subst hu; exact h
theorem Tryz.j1i : (Tryz.prog.info? 3).map (·.size) = some 1 := by kernel_rfl
theorem Tryz.j1b : (Tryz.prog.info? 4).map (·.size) = some 1 := by kernel_rfl
theorem Tryz.j1s : (Tryz.prog.info? 28).map (·.size) = some 1 := by kernel_rfl
theorem Tryz.j1u : (Tryz.prog.info? 5).map (·.size) = some 1 := by kernel_rfl
theorem Tryz.infoBy : (Tryz.prog.info? 5).map (fun i => (i.zero, i.size, i.bytes)) = some (some (.int .u8 0), 1, 1) := by kernel_rfl
theorem Tryz.infoBo : (Tryz.prog.info? 4).map (fun i => (i.zero, i.size, i.bytes)) = some (some (.bool false), 1, 1) := by kernel_rfl
theorem Tryz.j1ss : (Tryz.prog.info? 24).map (·.size) = some 1 := by kernel_rfl
theorem Tryz.j1l : (Tryz.prog.info? 2).map (·.size) = some 1 := by kernel_rfl
theorem Tryz.j1t : (Tryz.prog.info? 9).map (·.size) = some 1 := by kernel_rfl
abbrev Su (w : World) (s : Sx Int) : Prop := Sx.Ok uC 1 w s
abbrev Ou (w : World) (base : Nat) (v : Value) (l : List Int) : Prop := w.ownsRow base 5 1 v l.length (l.flatMap uC)
theorem Ou.su {w : World} {base : Nat} {v : Value} {l : List Int} (h : Ou w base v l) : ∃ s : Sx Int, v = s.v ∧ s.xs = l ∧ Su w s ∧ (∀ x, s.a = some x → base ≤ x.block ∧ v.ownBlock = some x.block) := own_sx h (fun x _ => uC_len x)
theorem Su.at_ {w : World} {s : Sx Int} (h : Su w s) {k : Nat} (hk : k < s.n) : ∃ b off, s.a = some ⟨b, off, none⟩ ∧ b < w.heap.size ∧ w.cell? ⟨b, off + k, none⟩ = some (.int .u8 (s.xs.getD k 0)) := by
  have hl : k < s.xs.length := by rw [h.len]; exact hk
  obtain ⟨b, off, h1, h2, h3⟩ := Sx.Ok.at_ h (List.getElem?_eq_getElem hl)
  refine ⟨b, off, h1, h2, ?_⟩
  have := h3 0 _ rfl
  simpa [hl] using this
section
variable {ops : Array Oper} {rest : List Oper} {o : Oper} {a : Act} {w w0 : World} {Q : Exit → Act → World → Prop} {rows : List Row} {K : World → Prop}
theorem ex_loadC {P : Program} {o : Oper} {a : Act} {w : World} (t : TypeId) (x : Operand) (ho : o.op = .load t x) (g off : Nat) (hx : a.eval x = .pointer (some ⟨g, off, none⟩)) (v : Value) (hc : w.cell? ⟨g, off, none⟩ = some v) {d : TypeDesc} (hu : P.underlying t = some d) (hd : d.isRow = false) :
    (execOp a.eval o).run P w = .ok (.value v) w := by
  have hA : (isAgg t).run P w = .ok false w := by
    unfold isAgg
    rw [Sem.run_bind, run_underlying hu w]
    cases d <;> simp_all [TypeDesc.isRow]
  have hl : (loadVar t ⟨g, off, none⟩).run P w = .ok v w := by
    simp [loadVar, Sem.run_bind, hA, run_load, hc]
  unfold execOp
  simp only [ho, hx, Instr.loadAt, Instr.sureAddr, Sem.run_bind, Sem.run_pure, Result.andThen_ok, hl]
theorem wl_loadC (hw : Region.wanted o (yielded ops a.tmps) = true) (t : TypeId) (x : Operand) (ho : o.op = .load t x) (b off : Nat) (hx : a.eval x = .pointer (some ⟨b, off, none⟩)) (v : Value) (hc : w.cell? ⟨b, off, none⟩ = some v) {d : TypeDesc} (hu : Tryz.prog.underlying t = some d) (hd : d.isRow = false)
    (h : wpList Tryz.prog ops Q rest (a.put o.dst v) w) : wpList Tryz.prog ops Q (o :: rest) a w := wv v hw (ex_loadC t x ho b off hx v hc hu hd) h
theorem yl_loadC {S : World → Prop} (hw : Region.wanted o (yielded ops a.tmps) = true) (t : TypeId) (x : Operand) (ho : o.op = .load t x) (b off : Nat) (hx : a.eval x = .pointer (some ⟨b, off, none⟩)) (v : Value) (hc : ∀ w, S w → w.cell? ⟨b, off, none⟩ = some v) {d : TypeDesc} (hu : Tryz.prog.underlying t = some d) (hd : d.isRow = false) : YieldsIf Tryz.prog ops S o v a :=
  .inl ⟨hw, fun w hS => ex_loadC t x ho b off hx v (hc w hS) hu hd⟩
theorem yl_loadR {S : World → Prop} (hw : Region.wanted o (yielded ops a.tmps) = true) (t : TypeId) (x : Operand) (ho : o.op = .load t x) (g off : Nat) (hx : a.eval x = .pointer (some ⟨g, off, none⟩)) (p : List Value) (hr : ∀ w, S w → w.rangeAt g off p) {d : TypeDesc} (hu : Tryz.prog.underlying t = some d) (hd : d.isRow = true) (hz : (Tryz.prog.info? t).map (·.size) = some p.length) : YieldsIf Tryz.prog ops S o (aV p) a :=
  .inl ⟨hw, fun w hS => ex_loadR t x ho g off hx p (hr w hS) hu hd hz⟩
theorem wl_bs1u (hw : Region.wanted o (yielded ops a.tmps) = true) (x : Operand) (ho : o.op = .buildSlice 28 1 #[(0, x)]) (z : Int) (hx : a.eval x = .int .u8 z) (hS : Hs17 w0 rows K w)
    (h : ∀ g w', Hs17 w0 ((g, 5, uC z) :: rows) K w' → wpList Tryz.prog ops Q rest (a.put o.dst (.slice (some ⟨g, 0, none⟩) 1 1)) w') : wpList Tryz.prog ops Q (o :: rest) a w :=
  wl hw fun k hk => op_bs1G 28 5 x ho Tryz.underlying28 Tryz.infoBy _ (uC z) hx rfl rfl (by omega) (by omega) hS (fun g w' h1 => hk _ _ (h g w' h1))
theorem wl_appu (hw : Region.wanted o (yielded ops a.tmps) = true) (s x : Operand) (ho : o.op = .call { callee := .builtin .append, args := #[s, x], argTypes := #[28, 28] })
    {base : Nat} {v : Value} {xs : List Int} (hs : a.eval s = v) (hown : Ou w base v xs) (y : Sx Int) (hy : Su w y) (hx : a.eval x = y.v) (hb : (xs.length + y.n) * 1 ≤ 140737488355328) (hbase : base ≤ w.heap.size)
    (h : ∀ v' w', Ou w' base v' (xs ++ y.xs) → w.grownBy w' v.ownBlock → (v'.ownBlock = v.ownBlock ∨ v'.ownBlock = some w.heap.size) → wpList Tryz.prog ops Q rest (a.put o.dst v') w') : wpList Tryz.prog ops Q (o :: rest) a w :=
  wl hw fun k hk => op_appendL s x 28 ho Tryz.underlying28 Tryz.infoBy rfl (by omega) hs hown y hy (fun z _ => uC_len z) (fun z _ => one_u z) hx hb (by omega) hbase (fun v' w' h1 h2 h3 => hk _ _ (h v' w' h1 h2 h3))
end
theorem Ou.ok {w : World} {B : Nat} {s : Sx Int} (h : Ou w B s.v s.xs) : Su w s := by
  obtain ⟨s', e, hx, hs, -⟩ := Ou.su h
  obtain ⟨a, n, c, xs⟩ := s
  obtain ⟨a', n', c', xs'⟩ := s'
  simp only [Sx.v, Value.slice.injEq] at e hx
  obtain ⟨rfl, rfl, rfl⟩ := e
  subst hx
  exact hs
theorem grown_none {w w' : World} (h : w.grownBy w' (Value.slice none 0 0).ownBlock) : Below w.heap.size w w' := ⟨h.os, h.tape, h.output, h.size, fun k hk => h.block k hk (by simp [Value.ownBlock])⟩
section
variable {α : Type} {f : α → List Value} {sz : Nat} {w w0 : World} {o : Oper} {a : Act} {k : Act → World → Prop} {Q : Exit → Act → World → Prop} {ops : Array Oper} {rest : List Oper} {rows : List Row} {K : World → Prop}
theorem op_appN {P : Program} (s x : Operand) (t : TypeId) (ho : o.op = .call { callee := .builtin .append, args := #[s, x], argTypes := #[t, t] })
    {e : TypeId} {zv : Value} {bytes : Nat} (ht : P.underlying t = some (.slice e)) (hi : (P.info? e).map (fun i => (i.zero, i.size, i.bytes)) = some (some zv, sz, bytes)) (hzs : zv.cells.size = sz) (hsz : 0 < sz)
    (hs : a.eval s = .slice none 0 0) (y : Sx α) (hy : y.Ok f sz w) (hl : ∀ z, (f z).length = sz) (h1 : ∀ z, ∀ u ∈ f z, u.oneCell' = true) (hx : a.eval x = y.v)
    (hb : y.n * bytes ≤ 140737488355328) (hb1 : 0 < bytes)
    (h : ∀ s' : Sx α, ∀ w', s'.xs = y.xs → w'.ownsRow w.heap.size e sz s'.v s'.xs.length (s'.xs.flatMap f) → Below w.heap.size w w' → k (a.put o.dst s'.v) w') : o.wp P a w k Q := by
  refine op_appendL (xs := ([] : List α)) s x t ho ht hi hzs hsz hs (own_nil w w.heap.size e) y hy (fun z _ => hl z) (fun z _ => h1 z) hx (by simpa using hb) hb1 (Nat.le_refl _) (fun v' w' q1 q2 q3 => ?_)
  rw [List.nil_append] at q1
  obtain ⟨s', rfl, hx', -, -⟩ := own_sx q1 (fun z _ => hl z)
  exact h s' w' hx' (by rw [hx']; exact q1) (grown_none q2)
theorem wl_apnu (hw : Region.wanted o (yielded ops a.tmps) = true) (s x : Operand) (ho : o.op = .call { callee := .builtin .append, args := #[s, x], argTypes := #[28, 28] }) (hs : a.eval s = .slice none 0 0) (y : Sx Int) (hy : Su w y) (hx : a.eval x = y.v) (hb : y.n ≤ 1048576)
    (h : ∀ s' : Sx Int, ∀ w', s'.xs = y.xs → Ou w' w.heap.size s'.v s'.xs → Below w.heap.size w w' → wpList Tryz.prog ops Q rest (a.put o.dst s'.v) w') : wpList Tryz.prog ops Q (o :: rest) a w :=
  wl hw fun k hk => op_appN s x 28 ho Tryz.underlying28 Tryz.infoBy rfl (by omega) hs y hy uC_len one_u hx (by omega) (by omega) (fun s' w' q1 q2 q3 => hk _ _ (h s' w' q1 q2 q3))
end
theorem RowG.sx24 {α : Type} {f : α → List Value} {sz : Nat} {e : TypeId} {w0 w : World} {rows R : List Row} {K : World → Prop} {s : Sx α} {l : List α} (h : RowG f sz e s l R) (hf : ∀ x ∈ l, (f x).length = sz) (hR : ∀ p ∈ R, p ∈ rows) (hS : Hs17 w0 rows K w) : Sx.Ok f sz w ⟨s.a, s.n, s.c, l⟩ := by
  obtain ⟨sa, sn, sc, sx⟩ := s
  obtain ⟨hl, h⟩ := h
  simp only at hl h ⊢
  rcases h with ⟨rfl, rfl, rfl, rfl⟩ | ⟨g, sp, rfl, hle, hmx, hsz, rfl⟩
  · exact ⟨hl, Nat.le_refl _, Nat.zero_le _, fun _ => ⟨rfl, rfl⟩, fun h => absurd h (by simp)⟩
  · have hA := hS.arr (g, e, l.flatMap f ++ sp) (hR _ (by simp))
    refine ⟨hl, hle, hmx, (fun h => by cases h), fun _ => ⟨g, 0, rfl, hA.lt, fun i x hi j v hv => ?_⟩⟩
    have hc := flat_at hf hi j v hv
    rw [Nat.zero_add, hA.cell]
    rw [List.getElem?_append_left (by have := (List.getElem?_eq_some_iff.1 hc).1; exact this)]
    exact hc
theorem wi_of24 {z : Int} (h0 : -9223372036854775808 ≤ z) (h1 : z ≤ 9223372036854775807) : IntKind.i64.wrap z = z := by
  rw [IntWalk.i64_left z]
  unfold wrap64
  omega
theorem below_drewN24 (w : World) (k : Nat) : Below w.heap.size w (w.drewN k) := by
  induction k with
  | zero => exact Below.refl _ _
  | succ k ih => exact ih.drew
theorem take_su {a b : List Int} {k : Nat} (ha : k < a.length) (hb : k < b.length) (h : a.take k = b.take k) (e : a.getD k 0 = b.getD k 0) : a.take (k + 1) = b.take (k + 1) := by
  rw [List.take_add_one, List.take_add_one, h, List.getElem?_eq_getElem ha, List.getElem?_eq_getElem hb]
  simp [ha, hb] at e
  rw [e]
set_option maxHeartbeats 2000000 in
set_option maxRecDepth 100000 in
theorem same_any (a b : Sx Int) (w : World) (ha : Su w a) (hb : Su w b) (hn : a.n ≤ 1048576) :
    Calls Tryz.prog 12 #[a.v, b.v] w fun e w' => e = .returned (.bool (decide (a.xs = b.xs))) ∧ Below w.heap.size w w' := by
  obtain ⟨aa, an, ac, al⟩ := a
  obtain ⟨ba, bn, bc, bl⟩ := b
  have ha1 : al.length = an := ha.len
  have hb1 : bl.length = bn := hb.len
  have hn' : an ≤ 1048576 := hn
  have hbm : bn ≤ 9223372036854775807 := by have := hb.le; have := hb.mx; unfold maxLen at this; simp only at *; omega
  simp only [Sx.v]
  by_cases hlen : an = bn
  · subst hlen
    have HA := hide ha
    have HB := hide hb
    have HL := hide ha1
    have HL2 := hide hb1
    clear ha hb ha1 hb1 hn
    generalize hD : decide (al = bl) = D
    have HD := hide hD
    clear hD
    go_enter Tryz.func12, Tryz.ntmps12
    go_wp2_with fail
    go_loopw [5] (fun i wr => ∃ k : Nat, k ≤ an ∧ i = .int .i64 k ∧ Hid (al.take k = bl.take k) ∧ ∃ m, wr = w.drewN m) (fun i _ => an - (intOf i).toNat)
    case atStart => exact ⟨0, by omega, rfl, hide rfl, 0, rfl⟩
    case round =>
      obtain ⟨k, hk, rfl, HT, m, hwr0⟩ := hrel
      have hwr := hide hwr0
      clear hwr0
      by_cases hlt : k < an
      · obtain ⟨ab, ao, haa, -, hac⟩ := Sx.Ok.at_ (unhide HA) (i := k) (List.getElem?_eq_getElem (by show k < al.length; rw [unhide HL]; exact hlt))
        obtain ⟨bb, bo, hba, -, hbc⟩ := Sx.Ok.at_ (unhide HB) (i := k) (List.getElem?_eq_getElem (by show k < bl.length; rw [unhide HL2]; exact hlt))
        have haa' : aa = some ⟨ab, ao, none⟩ := haa
        have hba' : ba = some ⟨bb, bo, none⟩ := hba
        subst haa' hba'
        have ca : wr.cell? ⟨ab, ao + k, none⟩ = some (.int .u8 (al.getD k 0)) := by
          have h1 := hac 0 _ rfl
          have hk1 : k < al.length := by rw [unhide HL]; exact hlt
          rw [unhide hwr]; simpa [hk1] using h1
        have cb : wr.cell? ⟨bb, bo + k, none⟩ = some (.int .u8 (bl.getD k 0)) := by
          have h1 := hbc 0 _ rfl
          have hk1 : k < bl.length := by rw [unhide HL2]; exact hlt
          rw [unhide hwr]; simpa [hk1] using h1
        obtain ⟨x, hx⟩ : ∃ x, al.getD k 0 = x := ⟨_, rfl⟩
        obtain ⟨y, hy⟩ : ∃ y, bl.getD k 0 = y := ⟨_, rfl⟩
        rw [hx] at ca
        rw [hy] at cb
        have HX := hide hx
        have HY := hide hy
        have hkz : (k : Int) < (an : Int) := by omega
        clear haa hba hac hbc hx hy
        by_cases hxy : x = y
        · subst hxy
          have HT' : Hid (al.take (k + 1) = bl.take (k + 1)) := hide (take_su (by rw [unhide HL]; omega) (by rw [unhide HL2]; omega) (unhide HT) ((unhide HX).trans (unhide HY).symm))
          go_wp2_with fail
          go_quiet (fail)
          go_wp2
          go_roundw
          case rel => exact ⟨k + 1, by omega, by go_num, HT', _, by rw [unhide hwr]; exact World.drewN_drewN _ _ _⟩
          case measure => simp [intOf]; omega
        · have HF : Hid (D = false) := by
            rw [← unhide HD]
            refine hide (decide_eq_false (fun e => hxy ?_))
            rw [← unhide HX, ← unhide HY, e]
          go_wp2_with fail
          go_quiet (fail)
          go_wp2
          go_ret
          rw [unhide HF]
          exact ⟨rfl, by rw [unhide hwr, World.drewN_drewN]; exact below_drewN24 _ _⟩
      · have hkd : decide ((k : Int) < (an : Int)) = false := by simp; omega
        have HF : Hid (D = true) := by
          rw [← unhide HD]
          refine hide (decide_eq_true ?_)
          have h := unhide HT
          rw [List.take_of_length_le (by rw [unhide HL]; omega), List.take_of_length_le (by rw [unhide HL2]; omega)] at h
          exact h
        go_wp2
        go_ret
        rw [unhide HF]
        exact ⟨rfl, by rw [unhide hwr]; exact below_drewN24 _ _⟩
  · have hne : ¬ al = bl := fun e => hlen (by rw [← ha1, ← hb1, e])
    have hnz : ¬ (an : Int) = (bn : Int) := by omega
    rw [decide_eq_false hne]
    clear hne ha hb ha1 hb1 hn
    go_enter Tryz.func12, Tryz.ntmps12
    go_wp2_with fail
    go_ret
    exact ⟨rfl, Below.refl _ _⟩
theorem same_t {a b : Sx Int} {w : World} (ha : Su w a) (hb : Su w b) (hn : a.n ≤ 1048576) (h : a.xs = b.xs) :
    Calls Tryz.prog 12 #[a.v, b.v] w fun e w' => e = .returned (.bool true) ∧ Below w.heap.size w w' := by
  have := same_any a b w ha hb hn
  rw [decide_eq_true h] at this; exact this
def I64 (z : Int) : Prop := -9223372036854775808 ≤ z ∧ z ≤ 9223372036854775807
/-- bytes as a string -/
theorem conv_su {w : World} {s : Sx Int} (h : Su w s) : (convert 28 9 s.v).run Tryz.prog w = .ok (.string (strOfNums s.xs)) w := by
  obtain ⟨a, n, c, l⟩ := s
  have hl := h.len
  simp only at hl
  cases a with
  | none =>
    obtain ⟨h1, h2⟩ := h.nn rfl
    simp only at h1 h2
    subst h1 h2
    have : l = [] := List.eq_nil_of_length_eq_zero hl
    subst this
    exact run_convert_bytes_nil w 28 5 Tryz.underlying28 Tryz.underlying5 0 0 9 Tryz.underlying9
  | some ad =>
    by_cases h0 : n = 0
    · subst h0
      have : l = [] := List.eq_nil_of_length_eq_zero hl
      subst this
      simp only [Sx.v]
      have hlc : (loadCells ad 0).run Tryz.prog w = .ok (([] : List Int).map (Value.int .u8)).toArray w := by
        have := run_loadCells_list (P := Tryz.prog) w ad [] (fun j v hj => by simp at hj)
        simpa using this
      rw [run_convert_bytes_string w 28 9 5 _ 0 c Tryz.underlying28 Tryz.underlying5 Tryz.underlying9, run_bytesToString w ad 0 c [] hlc]
      rfl
    · obtain ⟨b, off, hab, _, hc⟩ := h.lies (by show 0 < n; omega)
      obtain rfl : ad = ⟨b, off, none⟩ := Option.some.inj hab
      simp only [Sx.v]
      refine run_convert_bytes_arg w 28 5 Tryz.underlying28 Tryz.underlying5 b off n c l hl (fun i hi => ?_) 9 Tryz.underlying9
      have hi : i < l.length := by rw [hl]; exact hi
      have h9 := hc i (l[i]) (List.getElem?_eq_getElem hi) 0 _ rfl
      rw [Nat.mul_one, Nat.add_zero] at h9
      rw [getD_lt _ _ hi]; exact h9
section
variable {ops : Array Oper} {rest : List Oper} {o : Oper} {a : Act} {w w0 : World} {Q : Exit → Act → World → Prop} {rows : List Row} {K : World → Prop}
theorem ex_conv (x : Operand) (ho : o.op = .convert 28 9 x) (s : Sx Int) (hx : a.eval x = s.v) (h : Su w s) : (execOp a.eval o).run Tryz.prog w = .ok (.value (.string (strOfNums s.xs))) w := by
  have := conv_su h
  simp [execOp, ho, hx, this, Result.andThen]
end
theorem u8_of25 {z : Int} (h0 : 0 ≤ z) (h1 : z ≤ 255) : IntKind.u8.wrap z = z := by
  unfold IntKind.wrap; simp [IntKind.bits, IntKind.signed]; omega
theorem str_app (a b : List Int) : strOfNums a ++ strOfNums b = strOfNums (a ++ b) := strOfNums_append a b
theorem str_sz (l : List Int) : (strOfNums l).size = l.length := strOfNums_sz l
end Go.Proofs.YtdcaojiiaocnaaaGreatDoor
