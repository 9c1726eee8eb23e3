import Derived.Test.YtcdmomdajakocaaRgW
set_option linter.unusedVariables false
set_option linter.unusedSimpArgs false
namespace Go.Proofs.Ytcdmomdajakocaa
open Go.RowKit

/-- what both leaves -/
def BoP (p : Nat) (S O : Nat → Prop) (s' : FlS) (w : World) (e : Ending) (w' : World) : Prop :=
  ∃ v S', e = .returned (.tuple #[v, .bool true]) ∧ FSt p S s' w w' S' ∧ Rb w' v s' (fun k => (O k ∨ w.heap.size ≤ k) ∧ ¬ S' k)
theorem three_new (w : World) (t u : TypeId) (l m n : List Value) : Arr (((w.alloc (.cells l.toArray t)).alloc (.cells m.toArray u)).alloc (.cells n.toArray t)) w.heap.size t l ∧ Arr (((w.alloc (.cells l.toArray t)).alloc (.cells m.toArray u)).alloc (.cells n.toArray t)) (w.heap.size + 1) u m ∧ Arr (((w.alloc (.cells l.toArray t)).alloc (.cells m.toArray u)).alloc (.cells n.toArray t)) (w.heap.size + 2) t n ∧ Below w.heap.size w (((w.alloc (.cells l.toArray t)).alloc (.cells m.toArray u)).alloc (.cells n.toArray t)) ∧ (((w.alloc (.cells l.toArray t)).alloc (.cells m.toArray u)).alloc (.cells n.toArray t)).heap.size = w.heap.size + 3 := by
  have h1 : (w.alloc (.cells l.toArray t)).heap.size = w.heap.size + 1 := by simp
  have h2 : ((w.alloc (.cells l.toArray t)).alloc (.cells m.toArray u)).heap.size = w.heap.size + 2 := by simp
  have a2 := Arr.new (w.alloc (.cells l.toArray t)) u m
  rw [h1] at a2
  have a3 := Arr.new ((w.alloc (.cells l.toArray t)).alloc (.cells m.toArray u)) t n
  rw [h2] at a3
  exact ⟨((Arr.new w t l).alloc _).alloc _, a2.alloc _, a3, ((below_one w _).alloc (by rw [h1]; omega) _).alloc (by rw [h2]; omega) _, by simp⟩
theorem both_fin {w W1 w3 w4 WF : World} {p : Nat} {S S1 O : Nat → Prop} {s' : FlS} {v : Value} (hSw : ∀ k, S k → k < w.heap.size) (hO : ∀ k, O k → k < w.heap.size ∧ ¬ S k) (hz : W1.heap.size = w.heap.size + 3) (b1 : Below w.heap.size w W1) (U : Buts S W1 w3) (hF : Fl w3 p S1 s') (hat : ∀ k, S1 k → S k ∨ W1.heap.size ≤ k) (hR : Rb w4 v s' (fun k => O k ∨ w3.heap.size ≤ k)) (b4 : Below w3.heap.size w3 w4) (bF : Buts (· = w.heap.size + 2) w4 WF) :
    ∃ S', FSt p S s' w WF S' ∧ Rb WF v s' (fun k => (O k ∨ w.heap.size ≤ k) ∧ ¬ S' k) := by
  have hSl : ∀ k, S1 k → k < w3.heap.size := hF.lt
  have z3 := U.size
  refine ⟨S1, ⟨(hF.later b4).keep bF (fun k hk e => ?_), ?_, fun k hk => (hat k hk).imp id (fun h => by omega)⟩, (hR.keep bF (fun k hk e => ?_)).mono (fun k hk => ⟨hk.imp id (fun h => by omega), fun hs => ?_⟩)⟩
  · rcases hat k hk with h1 | h1
    · have := hSw k h1; omega
    · omega
  · exact ((Buts.of_below b1).trans' (U.trans (Buts.of_below b4)) (fun _ _ h => h)).trans' bF (fun k hk e => by omega)
  · rcases hk with hk | hk
    · have := hO k hk; omega
    · omega
  · rcases hk with hk | hk
    · have h1 := hO k hk
      rcases hat k hs with h2 | h2
      · exact h1.2 h2
      · omega
    · have := hSl k hs; omega
theorem both_fin2 {w W1 w3 w4 WF : World} {p : Nat} {S S1 O T : Nat → Prop} {s' : FlS} {v : Value} (hO : ∀ k, O k → k < w.heap.size ∧ ¬ S k) (hz : W1.heap.size = w.heap.size + 3) (b1 : Below w.heap.size w W1) (U : Buts S W1 w3) (hF : Fl w3 p S1 s') (hat : ∀ k, S1 k → S k ∨ W1.heap.size ≤ k) (hR : Rb w4 v s' (fun k => O k ∨ w3.heap.size ≤ k)) (b4 : Below w3.heap.size w3 w4) (bF : Buts T w4 WF) (hT1 : ∀ k, T k → w.heap.size ≤ k) (hT2 : ∀ k, T k → k < w3.heap.size) (hT3 : ∀ k, S1 k → ¬ T k) :
    ∃ S', FSt p S s' w WF S' ∧ Rb WF v s' (fun k => (O k ∨ w.heap.size ≤ k) ∧ ¬ S' k) := by
  have hSl : ∀ k, S1 k → k < w3.heap.size := hF.lt
  have z3 := U.size
  refine ⟨S1, ⟨(hF.later b4).keep bF hT3, ?_, fun k hk => (hat k hk).imp id (fun h => by omega)⟩, (hR.keep bF (fun k hk e => ?_)).mono (fun k hk => ⟨hk.imp id (fun h => by omega), fun hs => ?_⟩)⟩
  · exact ((Buts.of_below b1).trans' (U.trans (Buts.of_below b4)) (fun _ _ h => h)).trans' bF (fun k hk e => by have := hT1 k e; omega)
  · have h1 := hT1 k e
    have h2 := hT2 k e
    rcases hk with hk | hk
    · have := hO k hk; omega
    · omega
  · rcases hk with hk | hk
    · have h1 := hO k hk
      rcases hat k hs with h2 | h2
      · exact h1.2 h2
      · omega
    · have := hSl k hs; omega
end Go.Proofs.Ytcdmomdajakocaa
