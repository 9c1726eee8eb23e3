import Derived.Test.YtibebhlblmdcgaaQSmG
import Derived.Maps.RangeWalk
import Derived.Maps.OwnSet
set_option linter.unusedSimpArgs false
set_option linter.unusedVariables false
namespace Go.Proofs.Ytibebhlblmdcgaa
open Go.RowKit Go.Maps

/-- how what is kept reads: as itself -/
def hElem (v : Value) : Option (DataW Value × List MemPlace) := match v with | .agg _ => some (.held v, []) | _ => none
theorem hElem_mk (x : Wnt) : hElem (aV (wC x)) = some (.held (aV (wC x)), []) := rfl
theorem hElem_inv {v : Value} {z : DataW Value × List MemPlace} (h : hElem v = some z) : z = (.held v, []) := by
  unfold hElem at h
  split at h <;> simp at h
  exact h.symm
theorem kLaw : Keyed Try.prog 3 := int_keyed Try.underlying3
def I64 (z : Int) : Prop := -9223372036854775808 ≤ z ∧ z ≤ 9223372036854775807
theorem kKey {z : Int} (h : I64 z) : keyOf Try.prog 3 (.int .i64 z) = some (.int .i64 z) :=
  keyOf_int_mk Try.underlying3 (WalkArith.wf_i64 (by unfold I64 at h; omega))
theorem kIs (z : Int) : WideAt.IsKeyLit (.int .i64 z) := trivial
/-- a map of wants, at most n of them -/
def MW (w : World) (b n : Nat) (m : Int → Option Wnt) : Prop :=
  ∃ D k, k ≤ n ∧ w.ownsMap Try.prog 3 hElem b k D ∧ (∀ z : Int, Maps.has D (.int .i64 z) = (m z).isSome) ∧ (∀ z x, m z = some x → ∀ zd, D.atKey (.int .i64 z) zd = .held (aV (wC x)))
theorem MW.later {w w' : World} {b n : Nat} {m : Int → Option Wnt} (h : MW w b n m) (hb : ∀ k, k = b → k < w.heap.size → w'.heap[k]? = w.heap[k]?) : MW w' b n m := by
  obtain ⟨D, k, hk, h1, h2⟩ := h
  have hlt := h1.lt
  obtain ⟨es, clock, hb1, F, hz, hD⟩ := h1
  exact ⟨D, k, hk, ⟨es, clock, (hb b rfl hlt).trans hb1, F, hz, hD⟩, h2⟩
theorem MW.bel {w w' : World} {b n : Nat} {m : Int → Option Wnt} (h : MW w b n m) (hb : Below w.heap.size w w') : MW w' b n m := h.later (fun k _ hk => hb.block k hk)
theorem MW.lt {w : World} {b n : Nat} {m : Int → Option Wnt} (h : MW w b n m) : b < w.heap.size := by
  obtain ⟨D, k, -, h1, -⟩ := h; exact h1.lt
theorem MW.ne {w : World} {b n p : Nat} {m : Int → Option Wnt} (h : MW w b n m) {ty : TypeId} {l : List Value} (ha : Arr w p ty l) : p ≠ b := by
  rintro rfl
  obtain ⟨D, k, -, ⟨es, clock, hb1, -⟩, -⟩ := h
  unfold Arr at ha
  rw [hb1] at ha; cases ha
def mSet (m : Int → Option Wnt) (z : Int) (o : Option Wnt) : Int → Option Wnt := fun y => if y = z then o else m y
theorem MW.put {w : World} {b n : Nat} {m : Int → Option Wnt} (h : MW w b n m) {z : Int} (hz : I64 z) (x : Wnt) (hn : n ≤ 1000000000) :
    ∃ w', (Instr.mapUpdate 51 (.map (some b)) (.int .i64 z) (aV (wC x))).run Try.prog w = .ok () w' ∧ MW w' b (n + 1) (mSet m z (some x)) ∧ But b w w' := by
  obtain ⟨D, k, hk, h1, h2, h3⟩ := h
  obtain ⟨w', hr, ho, hg⟩ := h1.update (val := aV (wC x)) kLaw Try.underlying51 (by unfold maxLen; omega) (kKey hz) (hElem_mk x)
  have hD := h1.isMap
  refine ⟨w', hr, ⟨_, k + 1, by omega, ho, ?_, ?_⟩, ⟨hg.os, hg.tape, hg.output, hg.size, fun i hi hne => hg.block i hi (fun e => hne (Option.some.inj e))⟩⟩
  · intro y
    unfold mSet
    by_cases hy : y = z
    · subst hy; rw [has_put_same hD (kIs _), if_pos rfl]; rfl
    · rw [has_put_other (fun e => hy (by cases e; rfl)), if_neg hy]; exact h2 y
  · intro y x' hx zd
    unfold mSet at hx
    by_cases hy : y = z
    · subst hy
      rw [if_pos rfl] at hx
      cases hx
      exact atKey_put_same hD (kIs _) _ _
    · rw [if_neg hy] at hx
      rw [atKey_put_other (fun e => hy (by cases e; rfl))]
      exact h3 y x' hx zd
theorem MW.del {w : World} {b n : Nat} {m : Int → Option Wnt} (h : MW w b n m) {z : Int} (hz : I64 z) (ty : TypeId) :
    ∃ w', (Builtin.delete_ #[51, 3] ty #[.map (some b), .int .i64 z]).run Try.prog w = .ok (.tuple #[]) w' ∧ MW w' b n (mSet m z none) ∧ But b w w' := by
  obtain ⟨D, k, hk, h1, h2, h3⟩ := h
  obtain ⟨w', hr, ho, hg0⟩ := h1.drop kLaw Try.underlying51 (kKey hz) ty
  have hg := hg0.grown
  refine ⟨w', hr, ⟨_, k, hk, ho, ?_, ?_⟩, ⟨hg.os, hg.tape, hg.output, hg.size, fun i hi hne => hg.block i hi (fun e => hne (Option.some.inj e))⟩⟩
  · intro y
    unfold mSet
    by_cases hy : y = z
    · subst hy; rw [has_del_same, if_pos rfl]; rfl
    · rw [has_del_other (fun e => hy (by cases e; rfl)), if_neg hy]; exact h2 y
  · intro y x' hx zd
    unfold mSet at hx
    by_cases hy : y = z
    · rw [if_pos hy] at hx; cases hx
    · rw [if_neg hy] at hx
      rw [atKey_del_other (fun e => hy (by cases e; rfl))]
      exact h3 y x' hx zd
theorem zeroWnt (w : World) : (zeroValue 53).run Try.prog w = .ok (aV (wC zWnt)) w := by kernel_rfl
theorem MW.look {w : World} {b n : Nat} {m : Int → Option Wnt} (h : MW w b n m) {z : Int} (hz : I64 z) :
    (m z = none ∧ ∃ c, (Instr.lookup 51 (.map (some b)) (.int .i64 z) true).run Try.prog w = .ok (.tuple #[aV c, .bool false]) w ∧ c.length = 4 ∧ ∃ x, c = wC x) ∨
    (∃ x, m z = some x ∧ (Instr.lookup 51 (.map (some b)) (.int .i64 z) true).run Try.prog w = .ok (.tuple #[aV (wC x), .bool true]) w) := by
  obtain ⟨D, k, hk, h1, h2, h3⟩ := h
  obtain ⟨v, ps, hr, hv⟩ := h1.look_ok kLaw Try.underlying51 (zeroWnt w) (hElem_mk zWnt) (kKey hz)
  rw [h2 z] at hr
  cases hm : m z with
  | none =>
    refine .inl ⟨rfl, wC zWnt, ?_, rfl, zWnt, rfl⟩
    rw [hm] at hr
    have hat : D.atKey (.int .i64 z) (.held (aV (wC zWnt))) = .held (aV (wC zWnt)) := atKey_of_not_has (by rw [h2 z, hm]; rfl) _
    rw [hat] at hv
    have := hElem_inv hv
    simp only [Prod.mk.injEq, DataW.held.injEq] at this
    rw [hr, ← this.1]; rfl
  | some x =>
    refine .inr ⟨x, rfl, ?_⟩
    rw [hm] at hr
    rw [h3 z x hm] at hv
    have := hElem_inv hv
    simp only [Prod.mk.injEq, DataW.held.injEq] at this
    rw [hr, ← this.1]; rfl
theorem MW.made (w : World) : MW (w.alloc (.map #[] 0)) w.heap.size 0 (fun _ => none) := ⟨.map [], 0, Nat.le_refl _, World.ownsMap_made w _ _ _, fun z => rfl, fun z x hx => by cases hx⟩
end Go.Proofs.Ytibebhlblmdcgaa
