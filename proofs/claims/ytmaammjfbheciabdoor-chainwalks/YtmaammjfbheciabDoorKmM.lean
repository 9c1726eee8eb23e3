import Derived.Test.YtmaammjfbheciabDoorCiW
import Derived.Test.YtmaammjfbheciabDoorMemX
import Derived.Maps.RangeWalk
import Derived.Maps.OwnSet
set_option linter.unusedVariables false
namespace Go.Proofs.YtmaammjfbheciabDoor
open Go.RowKit Go.Maps

/-- how what is kept reads: as itself -/
def hElem (v : Value) : Option (DataW Value × List MemPlace) := match v with | .agg _ => some (.held v, []) | _ => none
theorem hElem_mk (l : List Int) : hElem (hV l) = some (.held (hV l), []) := rfl
theorem hElem_inv {v : Value} {z : DataW Value × List MemPlace} (h : hElem v = some z) : z = (.held v, []) := by
  unfold hElem at h
  split at h <;> simp at h
  exact h.symm
theorem hElem_agg {v : Value} {z : DataW Value × List MemPlace} (h : hElem v = some z) : ∃ c, v = .agg c := by
  unfold hElem at h
  split at h <;> simp at h
  exact ⟨_, rfl⟩
theorem kLaw : Keyed Tryd.prog 3 := int_keyed Tryd.underlying3
theorem kKey {k : Nat} (h : k ≤ 4096) : keyOf Tryd.prog 3 (.int .i64 k) = some (.int .i64 k) :=
  keyOf_int_mk Tryd.underlying3 (WalkArith.wf_i64 (by omega))
theorem kIs (z : Int) : WideAt.IsKeyLit (.int .i64 z) := trivial
theorem own_tight {w : World} {b n : Nat} {D : DataW Value} (h : w.ownsMap Tryd.prog 3 hElem b n D) : w.ownsMap Tryd.prog 3 hElem b (Maps.size D) D := by
  obtain ⟨es, clock, hb, F, hs, rfl⟩ := h
  refine ⟨es, clock, hb, F, ?_, rfl⟩
  rw [Maps.size_eq, length_sorted]; simp
/-- a map that holds f k at each of the keys ks -/
def KM (w : World) (b : Nat) (ks : List Nat) (f : Nat → List Int) : Prop :=
  ∃ D, w.ownsMap Tryd.prog 3 hElem b ks.length D ∧ (∀ z : Int, Maps.has D (.int .i64 z) = ks.any (fun k => z == (k : Int))) ∧ (∀ k ∈ ks, ∀ zd, D.atKey (.int .i64 (k : Int)) zd = .held (hV (f k))) ∧ Maps.size D = ks.length
theorem KM.grown {w w' : World} {b : Nat} {ks : List Nat} {f : Nat → List Int} (h : KM w b ks f) {S : Nat → Prop} (hb : Buts S w w') (hs : ¬ S b) : KM w' b ks f := by
  obtain ⟨D, h1, h2⟩ := h
  refine ⟨D, ?_, h2⟩
  obtain ⟨es, clock, hb1, F, hz, hD⟩ := h1
  refine ⟨es, clock, (hb.block b ?_ hs).trans hb1, F, hz, hD⟩
  by_cases hlt : b < w.heap.size
  · exact hlt
  · rw [Array.getElem?_eq_none (by omega)] at hb1; cases hb1
theorem KM.later {w w' : World} {b : Nat} {ks : List Nat} {f : Nat → List Int} (h : KM w b ks f) (hb : Below w.heap.size w w') : KM w' b ks f := h.grown (Buts.of_below (S := fun _ => False) hb) (fun h => h)
theorem KM.ne {w : World} {b p : Nat} {ks : List Nat} {f : Nat → List Int} (h : KM w b ks f) {ty : TypeId} {l : List Value} (ha : Arr w p ty l) : p ≠ b := by
  rintro rfl
  obtain ⟨D, ⟨es, clock, hb1, -⟩, -⟩ := h
  unfold Arr at ha
  rw [hb1] at ha; cases ha
theorem KM.lt {w : World} {b : Nat} {ks : List Nat} {f : Nat → List Int} (h : KM w b ks f) : b < w.heap.size := by
  obtain ⟨D, h1, -⟩ := h; exact h1.lt
theorem any_key (ks : List Nat) (k : Nat) : ks.any (fun j => ((k : Int) == (j : Int))) = decide (k ∈ ks) := by
  induction ks with
  | nil => simp
  | cons a r ih =>
    rw [List.any_cons, ih]
    by_cases h : k = a
    · subst h; simp
    · have : ((k : Int) == (a : Int)) = false := by rw [beq_eq_false_iff_ne]; omega
      rw [this]; simp [h]
/-- one more -/
theorem KM.put {w : World} {b : Nat} {ks : List Nat} {f : Nat → List Int} (h : KM w b ks f) {k : Nat} (hk : k ≤ 4096) (hn : k ∉ ks) (hl : ks.length ≤ 100000) :
    ∃ w', (Instr.mapUpdate 39 (.map (some b)) (.int .i64 k) (hV (f k))).run Tryd.prog w = .ok () w' ∧ KM w' b (k :: ks) f ∧ Buts (· = b) w w' := by
  obtain ⟨D, h1, h2, h3, h4⟩ := h
  obtain ⟨w', hr, ho, hg⟩ := h1.update (val := hV (f k)) kLaw Tryd.underlying39 (by unfold maxLen; omega) (kKey hk) (hElem_mk (f k))
  have hD := h1.isMap
  have ht := h1.tidy kLaw
  have hfl : Maps.has D (.int .i64 (k : Int)) = false := by rw [h2, any_key]; exact decide_eq_false hn
  refine ⟨w', hr, ⟨_, ho, ?_, ?_, ?_⟩, ⟨hg.os, hg.tape, hg.output, hg.size, fun i hi hne => hg.block i hi (fun e => hne (Option.some.inj e))⟩⟩
  · intro z
    rw [List.any_cons, ← h2 z]
    by_cases hz : z = k
    · subst hz; rw [has_put_same hD (kIs _)]; simp
    · rw [has_put_other (fun e => hz (by cases e; rfl))]
      have : (z == (k : Int)) = false := by rw [beq_eq_false_iff_ne]; exact hz
      rw [this, Bool.false_or]
  · intro j hj zd
    rcases List.mem_cons.1 hj with rfl | hj
    · exact atKey_put_same hD (kIs _) _ _
    · rw [atKey_put_other (fun e => hn (by cases e; exact hj))]
      exact h3 j hj zd
  · rw [size_put ht, hfl]; simp [h4]
/-- the last is taken off -/
theorem KM.del {w : World} {b k : Nat} {ks : List Nat} {f : Nat → List Int} (h : KM w b (k :: ks) f) (hk : k ≤ 4096) (hn : k ∉ ks) (ty : TypeId) :
    ∃ w', (Builtin.delete_ #[39, 3] ty #[.map (some b), .int .i64 k]).run Tryd.prog w = .ok (.tuple #[]) w' ∧ KM w' b ks f ∧ Buts (· = b) w w' := by
  obtain ⟨D, h1, h2, h3, h4⟩ := h
  obtain ⟨w', hr, ho, hg0⟩ := h1.drop kLaw Tryd.underlying39 (kKey hk) ty
  have hg := hg0.grown
  have ht := h1.tidy kLaw
  have htr : Maps.has D (.int .i64 (k : Int)) = true := by rw [h2, any_key]; simp
  have hsz : Maps.size (D.del (.int .i64 (k : Int))) = ks.length := by
    have := size_del (k := .int .i64 (k : Int)) ht
    rw [htr, h4] at this; simp at this; exact this
  refine ⟨w', hr, ⟨_, hsz ▸ own_tight ho, ?_, ?_, hsz⟩, ⟨hg.os, hg.tape, hg.output, hg.size, fun i hi hne => hg.block i hi (fun e => hne (Option.some.inj e))⟩⟩
  · intro z
    by_cases hz : z = k
    · subst hz
      rw [has_del_same, any_key]; exact (decide_eq_false hn).symm
    · rw [has_del_other (fun e => hz (by cases e; rfl)), h2 z, List.any_cons]
      have : (z == (k : Int)) = false := by rw [beq_eq_false_iff_ne]; exact hz
      rw [this, Bool.false_or]
  · intro j hj zd
    rw [atKey_del_other (fun e => hn (by cases e; exact hj))]
    exact h3 j (List.mem_cons_of_mem _ hj) zd
theorem zeroHash (w : World) : (zeroValue 23).run Tryd.prog w = .ok (.agg (U8 (List.replicate 32 0)).toArray) w := by kernel_rfl
theorem KM.look {w : World} {b k : Nat} {ks : List Nat} {f : Nat → List Int} (h : KM w b ks f) (hk : k ≤ 4096) (hm : k ∈ ks) :
    (Instr.lookup 39 (.map (some b)) (.int .i64 k) false).run Tryd.prog w = .ok (hV (f k)) w := by
  obtain ⟨D, h1, h2, h3, h4⟩ := h
  obtain ⟨v, ps, hr, hv⟩ := h1.lookup kLaw Tryd.underlying39 (zeroHash w) (hElem_mk zeroH) (kKey hk)
  rw [h3 k hm] at hv
  have := hElem_inv hv
  simp only [Prod.mk.injEq, DataW.held.injEq] at this
  rw [hr, ← this.1]
theorem KM.len {w : World} {b : Nat} {ks : List Nat} {f : Nat → List Int} (h : KM w b ks f) (ty : TypeId) :
    (Builtin.len_ #[39] ty #[.map (some b)]).run Tryd.prog w = .ok (.int .i64 ks.length) w := by
  obtain ⟨D, h1, h2, h3, h4⟩ := h
  rw [h1.len Tryd.underlying39 ty, h4]
/-- a new map with one entry -/
theorem KM.first {w w' : World} {v : List Int} {f : Nat → List Int} (hf : f 0 = v) :
    ∃ w', (Instr.mapUpdate 39 (.map (some w.heap.size)) (.int .i64 0) (hV v)).run Tryd.prog (w.alloc (.map #[] 0)) = .ok () w' ∧ KM w' w.heap.size [0] f ∧ Below w.heap.size w w' := by
  have h0 : KM (w.alloc (.map #[] 0)) w.heap.size [] f := by
    refine ⟨.map [], World.ownsMap_made w _ _ _, fun z => rfl, fun k hk => by simp at hk, rfl⟩
  obtain ⟨w', h1, h2, h3⟩ := h0.put (k := 0) (by omega) (by simp) (by simp)
  rw [hf] at h1
  exact ⟨w', h1, h2, ((Below.refl _ _).alloc (Nat.le_refl _) _).trans (h3.below (by simp) (fun k hk => by omega))⟩
end Go.Proofs.YtmaammjfbheciabDoor
