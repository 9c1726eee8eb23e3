import Derived.Test.YtaepmfkdnjembaaBaM
import Derived.Maps.RangeWalk
import Derived.Maps.OwnSet
set_option linter.unusedSimpArgs false
set_option linter.unusedVariables false
namespace Go.Proofs.Ytaepmfkdnjembaa
open Go.RowKit Go.Maps

/-! A map of messages under their numbers. -/
def hElem (v : Value) : Option (DataW Value × List MemPlace) := match v with | .agg _ => some (.held v, []) | _ => none
theorem hElem_mk (x : Ms) : hElem (aV (mC x)) = some (.held (aV (mC x)), []) := rfl
theorem hElem_inv {v : Value} {z : DataW Value × List MemPlace} (h : hElem v = some z) : z = (.held v, []) := by
  unfold hElem at h
  split at h <;> simp at h
  exact h.symm
theorem kLaw : Keyed Try.prog 3 := int_keyed Try.underlying3
def I64 (z : Int) : Prop := -9223372036854775808 ≤ z ∧ z ≤ 9223372036854775807
theorem kKey {z : Int} (h : I64 z) : keyOf Try.prog 3 (.int .i64 z) = some (.int .i64 z) :=
  keyOf_int_mk Try.underlying3 (WalkArith.wf_i64 (by unfold I64 at h; omega))
theorem kIs (z : Int) : WideAt.IsKeyLit (.int .i64 z) := trivial
theorem own_tight {w : World} {b n : Nat} {D : DataW Value} (h : w.ownsMap Try.prog 3 hElem b n D) : w.ownsMap Try.prog 3 hElem b (Maps.size D) D := by
  obtain ⟨es, clock, hb, F, hs, rfl⟩ := h
  refine ⟨es, clock, hb, F, ?_, rfl⟩
  rw [Maps.size_eq, length_sorted]; simp
/-- no message -/
def zM : Ms := ⟨0, 0, 0, ⟨none, 0, 0, []⟩⟩
theorem zM_cells : mC zM = msC 0 0 0 (.slice none 0 0) := rfl
def lkO (ms : List Ms) (z : Int) : Option Ms := ms.find? (fun m => m.i == z)
def lkV (ms : List Ms) (z : Int) : Ms := (lkO ms z).getD zM
def lkB (ms : List Ms) (z : Int) : Bool := ms.any (fun m => m.i == z)
def dlM (ms : List Ms) (z : Int) : List Ms := ms.filter (fun m => !(m.i == z))
def Up (ms : List Ms) : Prop := ms.Pairwise (fun m m' => m.i < m'.i)
theorem lkB_mem {ms : List Ms} {m : Ms} (h : m ∈ ms) : lkB ms m.i = true := List.any_eq_true.2 ⟨m, h, by simp⟩
theorem lkO_mem {ms : List Ms} (hu : Up ms) {m : Ms} (h : m ∈ ms) : lkO ms m.i = some m := by
  induction ms with
  | nil => cases h
  | cons a r ih =>
    obtain ⟨h1, h2⟩ := List.pairwise_cons.1 hu
    rw [lkO, List.find?_cons]
    rcases List.mem_cons.1 h with rfl | h
    · simp
    · have := h1 m h
      have e : (a.i == m.i) = false := by rw [beq_eq_false_iff_ne]; omega
      rw [e]; exact ih h2 h
theorem lkV_mem {ms : List Ms} (hu : Up ms) {m : Ms} (h : m ∈ ms) : lkV ms m.i = m := by rw [lkV, lkO_mem hu h]; rfl
theorem lkB_yes {ms : List Ms} {z : Int} (h : lkB ms z = true) : lkV ms z ∈ ms ∧ (lkV ms z).i = z := by
  obtain ⟨m, hm, he⟩ := List.any_eq_true.1 h
  obtain ⟨x, hx⟩ : ∃ x, lkO ms z = some x := by
    cases hq : lkO ms z with
    | some x => exact ⟨x, rfl⟩
    | none =>
      have := List.find?_eq_none.1 hq m hm
      exact absurd he this
  have h1 := List.mem_of_find?_eq_some hx
  have h2 := List.find?_some hx
  rw [lkV, hx]
  exact ⟨h1, by simpa using h2⟩
theorem lkB_no {ms : List Ms} {z : Int} (h : lkB ms z = false) : lkV ms z = zM := by
  have : lkO ms z = none := List.find?_eq_none.2 (fun m hm he => by
    have h1 : lkB ms z = true := List.any_eq_true.2 ⟨m, hm, he⟩
    rw [h] at h1; cases h1)
  rw [lkV, this]; rfl
theorem Up.dl {ms : List Ms} (h : Up ms) (z : Int) : Up (dlM ms z) := h.sublist List.filter_sublist
theorem dl_no {ms : List Ms} {z : Int} (h : lkB ms z = false) : dlM ms z = ms := List.filter_eq_self.2 (fun m hm => by
  cases hq : (m.i == z) with
  | false => rfl
  | true =>
    have h1 : lkB ms z = true := List.any_eq_true.2 ⟨m, hm, hq⟩
    rw [h] at h1; cases h1)
theorem lkB_dl (ms : List Ms) (z y : Int) : lkB (dlM ms z) y = (lkB ms y && !(y == z)) := by
  induction ms with
  | nil => rfl
  | cons a r ih =>
    have e : lkB (a :: r) y = ((a.i == y) || lkB r y) := rfl
    rw [e]
    by_cases hz : a.i = z
    · have e2 : dlM (a :: r) z = dlM r z := by simp [dlM, List.filter_cons, hz]
      rw [e2, ih, hz]
      by_cases hy : z = y
      · subst hy; simp
      · have : (z == y) = false := by simpa using hy
        rw [this, Bool.false_or]
    · have e2 : dlM (a :: r) z = a :: dlM r z := by simp [dlM, List.filter_cons, hz]
      have e3 : lkB (a :: dlM r z) y = ((a.i == y) || lkB (dlM r z) y) := rfl
      rw [e2, e3, ih]
      by_cases hy : a.i = y
      · subst hy
        have : (a.i == z) = false := by simpa using hz
        simp [this]
      · have : (a.i == y) = false := by simpa using hy
        rw [this, Bool.false_or, Bool.false_or]
theorem dl_len {ms : List Ms} (hu : Up ms) (z : Int) : (dlM ms z).length = if lkB ms z = true then ms.length - 1 else ms.length := by
  induction ms with
  | nil => rfl
  | cons a r ih =>
    obtain ⟨h1, h2⟩ := List.pairwise_cons.1 hu
    have e : lkB (a :: r) z = ((a.i == z) || lkB r z) := rfl
    by_cases hz : a.i = z
    · have e3 : lkB r z = false := by
        cases hq : lkB r z with
        | false => rfl
        | true =>
          obtain ⟨m, hm, he⟩ := List.any_eq_true.1 hq
          have := h1 m hm
          have h9 : m.i = z := by simpa using he
          omega
      have e2 : dlM (a :: r) z = dlM r z := by simp [dlM, List.filter_cons, hz]
      rw [e2, dl_no e3, e, hz]; simp
    · have e2 : dlM (a :: r) z = a :: dlM r z := by simp [dlM, List.filter_cons, hz]
      have : (a.i == z) = false := by simpa using hz
      rw [e2, e, this, Bool.false_or, List.length_cons, ih h2]
      split
      · rename_i hq
        have : 0 < r.length := by
          obtain ⟨m, hm, -⟩ := List.any_eq_true.1 hq
          exact List.length_pos_of_mem hm
        simp; omega
      · rfl
/-- the map in memory -/
def MW (w : World) (b : Nat) (ms : List Ms) : Prop :=
  ∃ D, w.ownsMap Try.prog 3 hElem b (Maps.size D) D ∧ (∀ z : Int, Maps.has D (.int .i64 z) = lkB ms z) ∧ (∀ m ∈ ms, ∀ zd, D.atKey (.int .i64 m.i) zd = .held (aV (mC m))) ∧ Maps.size D = ms.length
theorem MW.blk {w w' : World} {b : Nat} {ms : List Ms} (h : MW w b ms) (hb : w'.heap[b]? = w.heap[b]?) : MW w' b ms := by
  obtain ⟨D, ⟨es, clock, hb1, F, hz, hD⟩, h2⟩ := h
  exact ⟨D, ⟨es, clock, hb.trans hb1, F, hz, hD⟩, h2⟩
theorem MW.lt {w : World} {b : Nat} {ms : List Ms} (h : MW w b ms) : b < w.heap.size := by
  obtain ⟨D, h1, -⟩ := h; exact h1.lt
theorem MW.ne {w : World} {b p : Nat} {ms : List Ms} (h : MW w b ms) {ty : TypeId} {l : List Value} (ha : Arr w p ty l) : p ≠ b := by
  rintro rfl
  obtain ⟨D, ⟨es, clock, hb1, -⟩, -⟩ := h
  unfold Arr at ha
  rw [hb1] at ha; cases ha
theorem MW.neO {w : World} {b : Nat} {ms : List Ms} (h : MW w b ms) {base e sz n : Nat} {v : Value} {xs : List Value} (ho : w.ownsRow base e sz v n xs) : v.ownBlock ≠ some b := fun hv => by
  obtain ⟨D, ⟨es, clock, hb1, -⟩, -⟩ := h
  rcases ho.2 with ⟨rfl, -⟩ | ⟨g, cap, cur, rfl, -, hg, -⟩
  · cases hv
  · cases hv
    rw [hb1] at hg; cases hg
theorem MW.put {w : World} {b : Nat} {ms : List Ms} (h : MW w b ms) (x : Ms) (hz : I64 x.i) (hno : lkB ms x.i = false) (hn : ms.length ≤ 4096) :
    ∃ w', (Instr.mapUpdate 65 (.map (some b)) (.int .i64 x.i) (aV (mC x))).run Try.prog w = .ok () w' ∧ MW w' b (ms ++ [x]) ∧ But b w w' := by
  obtain ⟨D, h1, h2, h3, h4⟩ := h
  obtain ⟨w', hr, ho, hg⟩ := h1.update (val := aV (mC x)) kLaw Try.underlying65 (by unfold maxLen; omega) (kKey hz) (hElem_mk x)
  have hD := h1.isMap
  have ht := h1.tidy kLaw
  refine ⟨w', hr, ⟨_, own_tight ho, ?_, ?_, ?_⟩, ⟨hg.os, hg.tape, hg.output, hg.size, fun i hi hne => hg.block i hi (fun e => hne (Option.some.inj e))⟩⟩
  · intro y
    have e : lkB (ms ++ [x]) y = (lkB ms y || (x.i == y)) := by simp [lkB]
    rw [e]
    by_cases hy : y = x.i
    · subst hy; rw [has_put_same hD (kIs _)]; simp
    · rw [has_put_other (fun e => hy (by cases e; rfl)), h2 y]
      have : (x.i == y) = false := by rw [beq_eq_false_iff_ne]; exact fun e => hy e.symm
      rw [this, Bool.or_false]
  · intro m hm zd
    rcases List.mem_append.1 hm with hm | hm
    · have hne : m.i ≠ x.i := fun e => by have := lkB_mem hm; rw [e, hno] at this; cases this
      rw [atKey_put_other (fun e => hne (by simp only [Lit.int.injEq, true_and] at e; exact e))]
      exact h3 m hm zd
    · rw [List.mem_singleton] at hm; subst hm
      exact atKey_put_same hD (kIs _) _ _
  · rw [size_put ht, h2, hno]; simp [h4]
theorem MW.del {w : World} {b : Nat} {ms : List Ms} (h : MW w b ms) (hu : Up ms) {z : Int} (hz : I64 z) (ty : TypeId) :
    ∃ w', (Builtin.delete_ #[65, 3] ty #[.map (some b), .int .i64 z]).run Try.prog w = .ok (.tuple #[]) w' ∧ MW w' b (dlM ms z) ∧ But b w w' := by
  obtain ⟨D, h1, h2, h3, h4⟩ := h
  obtain ⟨w', hr, ho, hg0⟩ := h1.drop kLaw Try.underlying65 (kKey hz) ty
  have hg := hg0.grown
  have ht := h1.tidy kLaw
  refine ⟨w', hr, ⟨_, own_tight ho, ?_, ?_, ?_⟩, ⟨hg.os, hg.tape, hg.output, hg.size, fun i hi hne => hg.block i hi (fun e => hne (Option.some.inj e))⟩⟩
  · intro y
    rw [lkB_dl]
    by_cases hy : y = z
    · subst hy; rw [has_del_same]; simp
    · rw [has_del_other (fun e => hy (by cases e; rfl)), h2 y]; simp [hy]
  · intro m hm zd
    obtain ⟨hm, he⟩ := List.mem_filter.1 hm
    have hne : m.i ≠ z := by simpa using he
    rw [atKey_del_other (fun e => hne (by simp only [Lit.int.injEq, true_and] at e; exact e))]
    exact h3 m hm zd
  · have hs := size_del (k := .int .i64 z) ht
    rw [h2, h4] at hs
    rw [dl_len hu]
    split
    · rename_i hq; rw [hq] at hs; simp at hs; omega
    · rename_i hq
      have hq' : lkB ms z = false := by simpa using hq
      rw [hq'] at hs; simp at hs; exact hs
theorem zeroMs (w : World) : (zeroValue 32).run Try.prog w = .ok (aV (mC zM)) w := by kernel_rfl
theorem MW.look {w : World} {b : Nat} {ms : List Ms} (h : MW w b ms) {z : Int} (hz : I64 z) :
    (Instr.lookup 65 (.map (some b)) (.int .i64 z) true).run Try.prog w = .ok (.tuple #[aV (mC (lkV ms z)), .bool (lkB ms z)]) w := by
  obtain ⟨D, h1, h2, h3, h4⟩ := h
  obtain ⟨v, ps, hr, hv⟩ := h1.look_ok kLaw Try.underlying65 (zeroMs w) (hElem_mk zM) (kKey hz)
  rw [h2 z] at hr
  rw [hr]
  cases hb : lkB ms z with
  | false =>
    have hat : D.atKey (.int .i64 z) (.held (aV (mC zM))) = .held (aV (mC zM)) := atKey_of_not_has (by rw [h2 z, hb]) _
    rw [hat] at hv
    have := hElem_inv hv
    simp only [Prod.mk.injEq, DataW.held.injEq] at this
    rw [lkB_no hb, ← this.1]
  | true =>
    obtain ⟨q1, q2⟩ := lkB_yes hb
    have hat := h3 _ q1 (.held (aV (mC zM)))
    rw [q2] at hat
    rw [hat] at hv
    have := hElem_inv hv
    simp only [Prod.mk.injEq, DataW.held.injEq] at this
    rw [← this.1]
theorem MW.look1 {w : World} {b : Nat} {ms : List Ms} (h : MW w b ms) {m : Ms} (hm : m ∈ ms) (hz : I64 m.i) :
    (Instr.lookup 65 (.map (some b)) (.int .i64 m.i) false).run Try.prog w = .ok (aV (mC m)) w := by
  obtain ⟨D, h1, h2, h3, h4⟩ := h
  obtain ⟨v, ps, hr, hv⟩ := h1.lookup kLaw Try.underlying65 (zeroMs w) (hElem_mk zM) (kKey hz)
  rw [h3 m hm] at hv
  have := hElem_inv hv
  simp only [Prod.mk.injEq, DataW.held.injEq] at this
  rw [hr, ← this.1]
theorem MW.len {w : World} {b : Nat} {ms : List Ms} (h : MW w b ms) (ty : TypeId) :
    (Builtin.len_ #[65] ty #[.map (some b)]).run Try.prog w = .ok (.int .i64 ms.length) w := by
  obtain ⟨D, h1, h2, h3, h4⟩ := h
  rw [h1.len Try.underlying65 ty, h4]
theorem MW.made (w : World) : MW (w.alloc (.map #[] 0)) w.heap.size [] := ⟨.map [], World.ownsMap_made w _ _ _, fun z => rfl, (fun z hx => by cases hx), rfl⟩
/-- the numbers of what is there, rising -/
theorem ids_up {ms : List Ms} (hu : Up ms) : (ms.map (·.i)).Pairwise (fun x y => decide (x ≤ y) = true) := by
  rw [List.pairwise_map]
  exact hu.imp (fun h => by simp; omega)
theorem MW.nums {w : World} {b : Nat} {ms : List Ms} (h : MW w b ms) (hu : Up ms) (hn : ms.length ≤ 4096) :
    Calls Try.prog 32 #[.map (some b)] w fun e w' => ∃ v, e = .returned v ∧ w'.ownsRow w.heap.size 3 1 v (ms.map (·.i)).length ((ms.map (·.i)).flatMap iC) ∧ Below w.heap.size w w' := by
  obtain ⟨D, h1, h2, h3, h4⟩ := h
  refine (numbers_any b _ D hElem w h1 (by rw [h4]; unfold maxLen; omega) (by rw [h4]; omega)).mono ?_
  rintro e w' ⟨v, ss, rfl, hp, hO, -, hb⟩
  have hnd : (ms.map (·.i)).Nodup := by
    rw [List.Nodup, List.pairwise_map]
    exact hu.imp (fun h => by omega)
  have hperm : (ms.map (·.i)).Perm (intKeys D) := by
    obtain ⟨es, rfl, hpw, _⟩ := h1.entries kLaw
    obtain ⟨es', hD', hko⟩ := h1.keysOf
    obtain rfl : es = es' := by simpa using hD'
    refine perm_intKeys hpw (fun p hp => by obtain ⟨v, hv⟩ := hko p hp; obtain ⟨x, _, hx, _⟩ := Maps.keyOf_i64 Try.underlying3 hv; exact ⟨x, hx⟩) hnd (fun x => ?_)
    rw [h2 x]
    constructor
    · intro hx
      obtain ⟨m, hm, rfl⟩ := List.mem_map.1 hx
      exact lkB_mem hm
    · intro hx
      obtain ⟨q1, q2⟩ := lkB_yes hx
      exact List.mem_map.2 ⟨_, q1, q2⟩
  have hss : ss.mergeSort (fun x y => decide (x ≤ y)) = ms.map (·.i) := by
    have := mergeSort_of_perm_i (hp.trans hperm.symm)
    rw [this]
    exact List.mergeSort_of_pairwise (ids_up hu)
  have hlen : ss.length = (ms.map (·.i)).length := (hp.trans hperm.symm).length_eq
  rw [hss, hlen] at hO
  refine ⟨v, rfl, ?_, hb⟩
  have e : ∀ l : List Int, l.flatMap iC = l.map encZ := fun l => by
    induction l with
    | nil => rfl
    | cons x t ih => rw [List.flatMap_cons, ih]; rfl
  rw [e]; exact hO
end Go.Proofs.Ytaepmfkdnjembaa
