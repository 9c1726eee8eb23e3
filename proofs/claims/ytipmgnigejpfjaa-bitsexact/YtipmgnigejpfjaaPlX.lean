import Derived.Test.YtipmgnigejpfjaaLdsX
import Derived.Test.YtipmgnigejpfjaaHeldX
namespace Go.Proofs.Ytipmgnigejpfjaa
open Go.RowKit

theorem okNil (w : World) : Sl.Ok w ⟨none, 0, 0, []⟩ := ⟨rfl, Nat.le_refl _, by simp, fun _ => ⟨rfl, rfl⟩, (fun x hx => by simp at hx), Lies.nil _ _⟩
/-! What a put leaves, and what is put. -/
theorem box_put {w : World} {gS N : Nat} {P Q : Nat → Sl} {lv wv : Value} {wr w' : World} {g : Nat} {l : List Value} (hA : Arr wr g 33 l) (hS : Shf w gS N P Q lv wv wr) (hB : But3 lv.ownBlock wv.ownBlock gS wr w') : Arr w' g 33 l :=
  hB.arr hA (own_ne_arr hS.lrow hA (by decide)) (own_ne_arr hS.wrow hA (by decide)) (arr_ne_arr hA hS.s (by decide))
theorem row_put {w : World} {gS N : Nat} {P Q : Nat → Sl} {lv wv : Value} {wr w' : World} {B g n c : Nat} {xs : List Value} (ho : wr.ownsRow B 5 1 (.slice (some ⟨g, 0, none⟩) n c) n xs) (hS : Shf w gS N P Q lv wv wr) (hB : But3 lv.ownBlock wv.ownBlock gS wr w') : w'.ownsRow B 5 1 (.slice (some ⟨g, 0, none⟩) n c) n xs := by
  have hA : ∃ cur, wr.heap[g]? = some (.cells cur 5 (0, 0)) := by
    rcases ho.2 with ⟨h1, -⟩ | ⟨g', cap, cur, h1, -, hg, -⟩
    · simp at h1
    · simp only [Value.slice.injEq, Option.some.injEq, Addr.mk.injEq, true_and, and_true] at h1
      rw [h1.1]; exact ⟨cur, hg⟩
  obtain ⟨cur0, hcur⟩ := hA
  have hA' : Arr wr g 5 cur0.toList := by unfold Arr; simpa using hcur
  refine ⟨ho.1, ?_⟩
  rcases ho.2 with h2 | ⟨g', cap, cur, h1, h2, h3, h4⟩
  · exact .inl h2
  · have e : g = g' := by simp only [Value.slice.injEq, Option.some.injEq, Addr.mk.injEq, true_and, and_true] at h1; exact h1.1
    subst e
    exact .inr ⟨g, cap, cur, h1, h2, (hB.block g hA'.lt (own_ne_arr hS.lrow hA' (by decide)) (own_ne_arr hS.wrow hA' (by decide)) (arr_ne_arr hA' hS.s (by decide))).trans h3, h4⟩
/-- what one call makes of the shelf -/
def Put (w : World) (gS N : Nat) (w' : World) : Prop := ∃ P Q lv wv, Shf w gS N P Q lv wv w'
theorem own_arr8 {w : World} {B g n : Nat} {L : List Int} (h : w.ownsRow B 5 1 (.slice (some ⟨g, 0, none⟩) n n) n (U8 L)) : Arr w g 5 (U8 L) := own_arr h
theorem Shf.but {w : World} {gS N : Nat} {P Q : Nat → Sl} {lv wv : Value} {wr w' : World} {g : Nat} (h : Shf w gS N P Q lv wv wr) (hb : But g wr w') (hP : ∀ i, i < N → (P i).Off (some g)) (hQ : ∀ i, i < N → (Q i).Off (some g))
    (hl : lv.ownBlock ≠ some g) (hw : wv.ownBlock ≠ some g) (hs : gS ≠ g) (hge : w.heap.size ≤ g) : Shf w gS N P Q lv wv w' := by
  have ok : ∀ s : Sl, s.Ok wr → s.Off (some g) → s.Ok w' := fun s hok ho => ⟨hok.len, hok.le, hok.mx, hok.nn, hok.isB, hb.lies hok.lies (fun hp x hx e => ho hp x hx (by rw [e]))⟩
  have own : ∀ {v : Value} {n : Nat} {xs : List Value}, wr.ownsRow w.heap.size 28 1 v n xs → v.ownBlock ≠ some g → w'.ownsRow w.heap.size 28 1 v n xs := fun {v n xs} ho hv => by
    refine ⟨ho.1, ?_⟩
    rcases ho.2 with h2 | ⟨g', cap, cur, h1, h2, h3, h4⟩
    · exact .inl h2
    · have hlt : g' < wr.heap.size := (ho.lt g' (by rw [h1]; rfl)).2
      exact .inr ⟨g', cap, cur, h1, h2, (hb.block g' hlt (fun e => hv (by rw [h1, e]; rfl))).trans h3, h4⟩
  refine ⟨hb.arr h.s hs, h.ge, own h.lrow hl, own h.wrow hw, h.apt, fun i hi => ⟨ok _ (h.p i hi).ok (hP i hi), (h.p i hi).full, fun hp => ?_⟩, fun i hi => ok _ (h.q i hi) (hQ i hi), h.eq, h.sz, h.pp, h.pq, h.ql, h.qw, h.qs, h.bel.trans (hb.below h.bel.size hge)⟩
  obtain ⟨g', e, hg', hA⟩ := (h.p i hi).row hp
  exact ⟨g', e, hg', hb.arr hA (fun e2 => hP i hi hp _ e (by rw [e2]))⟩
theorem Shf.offOld {w : World} {gS N : Nat} {P Q : Nat → Sl} {lv wv : Value} {w0 : World} (h : Shf w gS N P Q lv wv w0) (g : Nat) (hg : w0.heap.size ≤ g) : (∀ i, i < N → (P i).Off (some g)) ∧ (∀ i, i < N → (Q i).Off (some g)) :=
  ⟨fun i hi hp x hx e => by simp only [Option.some.injEq] at e; have := (h.p i hi).ok.blk hp x hx; omega, fun i hi hp x hx e => by simp only [Option.some.injEq] at e; have := (h.q i hi).blk hp x hx; omega⟩
theorem offNew {N : Nat} {P Q : Nat → Sl} {g : Nat} (h : (∀ i, i < N → (P i).Off (some g)) ∧ (∀ i, i < N → (Q i).Off (some g))) (p q : Sl) (hp : ∀ x, p.a = some x → g < x.block) (hq : ∀ x, q.a = some x → g < x.block) :
    (∀ i, i < N + 1 → (if i = N then p else P i).Off (some g)) ∧ (∀ i, i < N + 1 → (if i = N then q else Q i).Off (some g)) := by
  refine ⟨fun i hi => ?_, fun i hi => ?_⟩
  · by_cases e : i = N
    · simp only [e, if_true]; intro _ x hx e2; simp only [Option.some.injEq] at e2; have := hp x hx; omega
    · simp only [e, if_false]; exact h.1 i (by omega)
  · by_cases e : i = N
    · simp only [e, if_true]; intro _ x hx e2; simp only [Option.some.injEq] at e2; have := hq x hx; omega
    · simp only [e, if_false]; exact h.2 i (by omega)
theorem own_but {w w' : World} {B e g n c g0 : Nat} {xs : List Value} (h : w.ownsRow B e 1 (.slice (some ⟨g, 0, none⟩) n c) n xs) (hb : But g0 w w') (hg : g ≠ g0) : w'.ownsRow B e 1 (.slice (some ⟨g, 0, none⟩) n c) n xs := by
  refine ⟨h.1, ?_⟩
  rcases h.2 with h2 | ⟨g', cap, cur, h1, h2, h3, h4⟩
  · exact .inl h2
  · have e : g = g' := by simp only [Value.slice.injEq, Option.some.injEq, Addr.mk.injEq, true_and, and_true] at h1; exact h1.1
    subst e
    exact .inr ⟨g, cap, cur, h1, h2, (hb.block g (h.lt g rfl).2 hg).trans h3, h4⟩
theorem own_arrT {w : World} {B e g n c : Nat} {xs : List Value} (h : w.ownsRow B e 1 (.slice (some ⟨g, 0, none⟩) n c) n xs) : ∃ l, Arr w g e l := by
  rcases h.2 with ⟨h1, -⟩ | ⟨g', cap, cur, h1, -, hg, -⟩
  · simp at h1
  · simp only [Value.slice.injEq, Option.some.injEq, Addr.mk.injEq, true_and, and_true] at h1
    rw [h1.1]; exact ⟨cur.toList, by unfold Arr; simpa using hg⟩
theorem Shf.turned {w : World} {gS N : Nat} {P Q : Nat → Sl} {lv wv : Value} {wr w' : World} {B g n c : Nat} {xs : List Value} (h : Shf w gS N P Q lv wv wr) (ho : wr.ownsRow B 5 1 (.slice (some ⟨g, 0, none⟩) n c) n xs) (hb : But g wr w') (hO : (∀ i, i < N → (P i).Off (some g)) ∧ (∀ i, i < N → (Q i).Off (some g))) (hge : w.heap.size ≤ g) : Shf w gS N P Q lv wv w' := by
  obtain ⟨l, hA⟩ := own_arrT ho
  exact h.but hb hO.1 hO.2 (fun e => own_ne_arr h.lrow hA (by decide) e.symm) (fun e => own_ne_arr h.wrow hA (by decide) e.symm) (fun e => arr_ne_arr h.s hA (by decide) e) hge
/-- an answer in a block of its own, a want in another -/
theorem put_two {w : World} {gS N : Nat} {P Q : Nat → Sl} {lv wv : Value} {w0 wr : World} (h0 : Shf w gS N P Q lv wv w0) (hb0 : Below w0.heap.size w0 wr) (g n B1 B2 : Nat) (L : List Int) (v : Value)
    (hp : wr.ownsRow B1 5 1 (.slice (some ⟨g, 0, none⟩) n n) n (U8 L)) (hB1 : w0.heap.size ≤ B1) (hq : wr.ownsRow B2 5 1 v n (U8 L)) (hB2 : w0.heap.size ≤ B2) (hg : g < B2)
    (hL : IsB L) (hn : n ≤ 100000) (hN : N ≤ 4000000000000) :
    Calls Try.prog 34 #[.pointer (some ⟨gS, 0, none⟩), .slice (some ⟨g, 0, none⟩) n n, v] wr fun e w' => e = .returned (.bool true) ∧ (∃ p q lv' wv', Shf w gS (N + 1) (fun i => if i = N then p else P i) (fun i => if i = N then q else Q i) lv' wv' w' ∧ (∀ x, p.a = some x → w0.heap.size ≤ x.block) ∧ (∀ x, q.a = some x → w0.heap.size ≤ x.block)) ∧ But3 lv.ownBlock wv.ownBlock gS wr w' := by
  have okp := Sl.Ok.of_own hp hL
  obtain ⟨q, rfl, okq, hql, hqn, hqF⟩ := own_sl hq hL
  have hAns : Ans w.heap.size ⟨some ⟨g, 0, none⟩, n, n, L⟩ wr := ⟨okp, rfl, fun _ => ⟨g, rfl, Nat.le_trans (Nat.le_trans h0.bel.size hB1) (hp.lt g rfl).1, own_arr8 hp⟩⟩
  refine (put_any h0 hb0 ⟨some ⟨g, 0, none⟩, n, n, L⟩ q hAns okq hql.symm hn (fun x hx => by cases hx; exact Nat.le_trans hB1 (hp.lt g rfl).1) (fun x hx => Or.inl (Nat.le_trans hB2 (hqF x hx))) (fun _ y hy _ x hx e2 => by
    cases hy; simp only [Option.some.injEq] at e2; have := hqF x hx; omega) hN).mono ?_
  rintro e w' ⟨rfl, ⟨lv', wv', hS⟩, hB⟩
  exact ⟨rfl, ⟨_, _, lv', wv', hS, (fun x hx => by cases hx; exact Nat.le_trans hB1 (hp.lt g rfl).1), (fun x hx => Nat.le_trans hB2 (hqF x hx))⟩, hB⟩
theorem put_nil {w : World} {gS N : Nat} {P Q : Nat → Sl} {lv wv : Value} {w0 : World} (h0 : Shf w gS N P Q lv wv w0) (hN : N ≤ 4000000000000) :
    Calls Try.prog 34 #[.pointer (some ⟨gS, 0, none⟩), .slice none 0 0, .slice none 0 0] w0 fun e w' => e = .returned (.bool true) ∧ (∃ p q lv' wv', Shf w gS (N + 1) (fun i => if i = N then p else P i) (fun i => if i = N then q else Q i) lv' wv' w' ∧ (∀ x, p.a = some x → w0.heap.size ≤ x.block) ∧ (∀ x, q.a = some x → w0.heap.size ≤ x.block)) ∧ But3 lv.ownBlock wv.ownBlock gS w0 w' := by
  have hAns : Ans w.heap.size ⟨none, 0, 0, []⟩ w0 := ⟨okNil _, rfl, fun hp => absurd hp (by simp)⟩
  refine (put_any h0 (Below.refl _ _) ⟨none, 0, 0, []⟩ ⟨none, 0, 0, []⟩ hAns (okNil _) rfl (by simp) (fun x hx => by cases hx) (fun x hx => by cases hx) (fun hp => absurd hp (by simp)) hN).mono ?_
  rintro e w' ⟨rfl, ⟨lv', wv', hS⟩, hB⟩
  exact ⟨rfl, ⟨_, _, lv', wv', hS, (fun x hx => by cases hx), (fun x hx => by cases hx)⟩, hB⟩
end Go.Proofs.Ytipmgnigejpfjaa
