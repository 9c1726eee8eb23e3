import Derived.Test.YtibebhlblmdcgaaQSpW17
set_option linter.unusedSimpArgs false
set_option linter.unusedVariables false
namespace Go.Proofs.Ytibebhlblmdcgaa
open Go.RowKit

/-- a row of entries of one's own among the rows, behind all others -/
structure Own17 (R : List Row) (v : Value) (xs : List Ent) : Prop where
  oe : ∀ X : World, (∀ p ∈ R, Arr X p.1 p.2.1 p.2.2) → Oe X 0 v xs
  at_ : ∀ k, v.ownBlock = some k → ∃ p ∈ R, p.1 = k
theorem Hs17.ownTail {w0 w w' : World} {rows : List Row} {K : World → Prop} {v : Value} {xs : List Ent} (hS : Hs17 w0 rows K w) (hb : Below w.heap.size w w') (hO : Oe w' w.heap.size v xs) :
    ∃ R, Own17 R v xs ∧ Hs17 w0 (rows ++ R) K w' := by
  rcases hO.own.2 with ⟨hv, h0⟩ | ⟨g, cap, cur, hv, hbg, hg, hle, hmx, hsz, ht⟩
  · obtain rfl : xs = [] := List.eq_nil_of_length_eq_zero h0
    subst hv
    exact ⟨[], ⟨fun X _ => Oe.nil _ _, fun k hk => by simp [Value.ownBlock] at hk⟩, by rw [List.append_nil]; exact hS.later hb⟩
  · have h' := hS.later hb
    have hA : Arr w' g 45 cur.toList := by unfold Arr; simpa using hg
    have hgs : ∀ p ∈ rows, p.1 ≠ g := fun p hp e => by have h3 := (hS.arr p hp).lt; omega
    refine ⟨[(g, 45, cur.toList)], ⟨fun X hX => ⟨⟨hO.own.1, .inr ⟨g, cap, cur, hv, Nat.zero_le _, by have := hX _ (List.mem_singleton.2 rfl); unfold Arr at this; simpa using this, hle, hmx, hsz, ht⟩⟩, hO.e⟩, fun k hk => ⟨_, List.mem_singleton.2 rfl, by rw [hv] at hk; simpa [Value.ownBlock] using hk⟩⟩, ?_, ?_, ?_, h'.bel, ?_⟩
    · rw [List.map_append, List.nodup_append]
      refine ⟨h'.nd, by simp, fun a ha b hb => ?_⟩
      obtain ⟨p, hp, rfl⟩ := List.mem_map.1 ha
      simp at hb; subst hb
      exact hgs p hp
    · intro p hp
      rcases List.mem_append.1 hp with hp | hp
      · exact h'.arr p hp
      · simp at hp; subst hp; exact hA
    · intro p hp
      rcases List.mem_append.1 hp with hp | hp
      · exact h'.old p hp
      · simp at hp; subst hp; exact Nat.le_trans hS.bel.size hbg
    · intro w'' q1 q2
      refine hS.keep w'' (Nat.le_trans hb.size q1) (fun k hk hp => ?_)
      refine (q2 k (Nat.lt_of_lt_of_le hk hb.size) (fun p hp' => ?_)).trans (hb.block k hk)
      rcases List.mem_append.1 hp' with hp' | hp'
      · exact hp p hp'
      · simp at hp'; subst hp'; show g ≠ k; omega
theorem Hs17.tailOe {w0 w : World} {rows R : List Row} {K : World → Prop} {v : Value} {xs : List Ent} (hS : Hs17 w0 (rows ++ R) K w) (hO : Own17 R v xs) : Oe w 0 v xs := hO.oe w (fun p hp => hS.arr p (List.mem_append_right _ hp))
/-- what has become of that row does not matter -/
theorem Hs17.dropTail {w0 w w' : World} {rows R : List Row} {K : World → Prop} {v : Value} {xs : List Ent} (hS : Hs17 w0 (rows ++ R) K w) (hO : Own17 R v xs) (hc : ChgV v w w') : Hs17 w0 rows K w' := by
  have hbl : ∀ k, k < w.heap.size → (∀ p ∈ R, p.1 ≠ k) → w'.heap[k]? = w.heap[k]? := fun k hk hn => hc.block k hk (fun e => by obtain ⟨p, hp, h⟩ := hO.at_ k e; exact hn p hp h)
  have hnd := hS.nd
  rw [List.map_append, List.nodup_append] at hnd
  refine ⟨hnd.1, fun p hp => ?_, fun p hp => hS.old p (List.mem_append_left _ hp), ⟨hc.os.trans hS.bel.os, hc.tape.trans hS.bel.tape, hc.output.trans hS.bel.output, Nat.le_trans hS.bel.size hc.size, fun k hk => ?_⟩, fun w'' h1 h2 => ?_⟩
  · have hA := hS.arr p (List.mem_append_left _ hp)
    exact (hbl p.1 hA.lt (fun q hq e => hnd.2.2 p.1 (List.mem_map.2 ⟨p, hp, rfl⟩) q.1 (List.mem_map.2 ⟨q, hq, rfl⟩) e.symm)).trans hA
  · exact (hbl k (Nat.lt_of_lt_of_le hk hS.bel.size) (fun q hq e => by have := hS.old q (List.mem_append_right _ hq); omega)).trans (hS.bel.block k hk)
  · refine hS.keep w'' (Nat.le_trans hc.size h1) (fun k hk hp => ?_)
    exact (h2 k (Nat.lt_of_lt_of_le hk hc.size) (fun p hp' => hp p (List.mem_append_left _ hp'))).trans (hbl k hk (fun q hq => hp q (List.mem_append_right _ hq)))
end Go.Proofs.Ytibebhlblmdcgaa
