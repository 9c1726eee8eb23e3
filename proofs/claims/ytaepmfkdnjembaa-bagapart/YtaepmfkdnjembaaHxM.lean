import Derived.Test.YtaepmfkdnjembaaLfM
import Derived.Test.YtaepmfkdnjembaaBlY
import Derived.Test.YtaepmfkdnjembaaSaW24
set_option linter.unusedSimpArgs false
set_option linter.unusedVariables false
namespace Go.Proofs.Ytaepmfkdnjembaa
open Go.RowKit

/-! A law's own frame: a bag in what is kept, all else in rows. -/
/-- what is kept whatever becomes of the rows lies in none of them -/
theorem Hs17.noBk {w0 w : World} {rows : List Row} {B gb mb last : Nat} {ms ex : List Ms} (hS : Hs17 w0 rows (BagW B gb mb ms ex last) w) : ∀ p ∈ rows, ¬ BkB gb mb ms ex p.1 := by
  have key : ∀ (o : Obj) (p : Row), p ∈ rows → BagW B gb mb ms ex last { w with heap := w.heap.set! p.1 o } := fun o p hp =>
    hS.keep _ (by simp) (fun k hk hq => by
      have := hq p hp
      simp [Array.getElem?_setIfInBounds, this])
  have at_ : ∀ (o : Obj) (p : Row), p ∈ rows → ({ w with heap := w.heap.set! p.1 o } : World).heap[p.1]? = some o := fun o p hp => by
    have := (hS.arr p hp).lt
    simp [Array.getElem?_setIfInBounds, this]
  intro p hp hk
  rcases hk with hk | hk | ⟨m, hm, hk⟩
  · have h := (key (.map #[] 0) p hp).st
    unfold Arr at h
    rw [← hk, at_ _ p hp] at h
    cases h
  · obtain ⟨D, ⟨es, clock, hb1, -⟩, -⟩ := (key (.cells #[] 0 (0, 0)) p hp).g.mp
    rw [← hk, at_ _ p hp] at hb1
    cases hb1
  · have hO := (key (.map #[] 0) p hp).g.bd m hm
    rcases hO.2 with ⟨hv, -⟩ | ⟨g, cap, cur, hv, -, hg, -⟩
    · rw [hv] at hk; cases hk
    · rw [hv] at hk
      cases hk
      rw [at_ _ p hp] at hg
      cases hg
/-- a new bag -/
theorem Hs17.bag0 {w0 w w' : World} {rows : List Row} {K : World → Prop} {gb mb : Nat} (hS : Hs17 w0 rows K w) (hG : BagW w.heap.size gb mb [] [] 0 w') (hb : Below w.heap.size w w') : Hs17 w0 rows (BagW w0.heap.size gb mb [] [] 0) w' := by
  have hs := hS.bel.size
  have hG' : BagW w0.heap.size gb mb [] [] 0 w' := ⟨hG.st, ⟨hG.g.mp, Nat.le_trans hs hG.g.lo, (fun m hm => by cases hm), List.Pairwise.nil, List.Pairwise.nil⟩, Nat.le_trans hs hG.lo, hG.le, hG.id, hG.bl⟩
  refine hS.kb (T := fun _ => False) (Buts.of_below hb) (fun _ _ h => h.elim) (fun w'' h1 h2 => hG'.keep (fun k hk => h2 k (hG'.lt hk).2 (fun p hp e => ?_)))
  have h3 := (hS.arr p hp).lt
  rcases hk with hk | hk | ⟨m, hm, -⟩
  · have := hG.lo; omega
  · have := hG.g.lo; omega
  · cases hm
/-- a row of bytes of one's own: into the caller's hands -/
theorem Hs17.rowEx {w0 w : World} {rows R : List Row} {gb mb last : Nat} {ms ex : List Ms} {s : Sx Int} {l : List Int} (hR : RowG uC 1 5 s l R) (hS : Hs17 w0 (rows ++ R) (BagW w0.heap.size gb mb ms ex last) w) (i f t : Int) : Hs17 w0 rows (BagW w0.heap.size gb mb ms (⟨i, f, t, ⟨s.a, s.n, s.c, l⟩⟩ :: ex) last) w := by
  have hnb := hS.noBk
  have hO : Ou w w0.heap.size s.v l := hR.own (fun x _ => uC_len x) hS
  have hnd := hS.nd
  rw [List.map_append, List.nodup_append] at hnd
  have hG := hS.K
  have hbk : ∀ k, s.v.ownBlock = some k → ¬ BkB gb mb ms ex k := fun k hk hq => by
    obtain ⟨p, hp, e⟩ := hR.block hk
    exact hnb p (by simp [hp]) (e ▸ hq)
  have hG' : BagW w0.heap.size gb mb ms (⟨i, f, t, ⟨s.a, s.n, s.c, l⟩⟩ :: ex) last w := by
    refine ⟨hG.st, ⟨hG.g.mp, hG.g.lo, fun m hm => ?_, ?_, hG.g.up⟩, hG.lo, hG.le, hG.id, hG.bl⟩
    · rcases List.mem_append.1 hm with hm | hm
      · exact hG.g.bd m (by simp [hm])
      · rcases List.mem_cons.1 hm with rfl | hm
        · exact hO
        · exact hG.g.bd m (by simp [hm])
    · have h1 := hG.g.ap
      have hx : ∀ m ∈ ms ++ ex, ∀ k, m.s.v.ownBlock = some k → s.v.ownBlock ≠ some k := fun m hm k hk e => hbk k e (.inr (.inr ⟨m, hm, hk⟩))
      unfold Apd at h1 ⊢
      rw [List.pairwise_append] at h1 ⊢
      refine ⟨h1.1, List.pairwise_cons.2 ⟨fun m hm k hk e => hx m (by simp [hm]) k e hk, h1.2.1⟩, fun a ha b hb => ?_⟩
      rcases List.mem_cons.1 hb with rfl | hb
      · exact hx a (by simp [ha])
      · exact h1.2.2 a ha b hb
  refine ⟨hnd.1, fun p hp => hS.arr p (by simp [hp]), fun p hp => hS.old p (by simp [hp]), hS.bel, fun w' h1 h2 => hG'.keep (fun k hk => h2 k (hG'.lt hk).2 (fun p hp e => ?_))⟩
  subst e
  rcases hk with hk | hk | ⟨m, hm, hk⟩
  · exact hnb p (by simp [hp]) (.inl hk)
  · exact hnb p (by simp [hp]) (.inr (.inl hk))
  · rcases List.mem_append.1 hm with hm | hm
    · exact hnb p (by simp [hp]) (.inr (.inr ⟨m, by simp [hm], hk⟩))
    · rcases List.mem_cons.1 hm with rfl | hm
      · obtain ⟨q, hq, e⟩ := hR.block hk
        exact hnd.2.2 _ (List.mem_map.2 ⟨p, hp, rfl⟩) _ (List.mem_map.2 ⟨q, hq, rfl⟩) e.symm
      · exact hnb p (by simp [hp]) (.inr (.inr ⟨m, by simp [hm], hk⟩))
theorem Hs17.fewer {w0 w : World} {rows : List Row} {B gb mb last : Nat} {ms ex ex' : List Ms} (hS : Hs17 w0 rows (BagW B gb mb ms ex last) w) (hs : List.Sublist ex' ex) : Hs17 w0 rows (BagW B gb mb ms ex' last) w := hS.weak (fun _ h => h.fewer hs)
/-- one byte in a row of its own -/
theorem rowG_one (g : Nat) (z : Int) : RowG uC 1 5 (⟨some ⟨g, 0, none⟩, 1, 1, [z]⟩ : Sx Int) [z] [(g, 5, uC z)] :=
  ⟨rfl, .inr ⟨g, [], rfl, Nat.le_refl _, by show 1 ≤ maxLen; unfold maxLen; omega, rfl, rfl⟩⟩
/-- bytes in the caller's hands can be read -/
theorem rd_ex {w0 : World} {rows : List Row} {B mb : Nat} {ms ex : List Ms} {m : Ms} (hm : m ∈ ex) : Rd24 w0 rows B mb ms ex m.s := fun w' h => Ou.ok (h.K.bd m (List.mem_append.2 (.inr hm)))
/-- bytes that were there before -/
theorem rd_old {w0 : World} {rows : List Row} {B mb : Nat} {ms ex : List Ms} {y : Sx Int} (hy : Su w0 y) : Rd24 w0 rows B mb ms ex y := fun w' h => hy.old (Old.of h.bel)
end Go.Proofs.Ytaepmfkdnjembaa
