import Derived.Test.YtipmgnigejpfjaaShSX
namespace Go.Proofs.Ytipmgnigejpfjaa
open Go.RowKit

/-- all but three blocks are as they were -/
structure But3 (b1 b2 : Option Nat) (g : Nat) (w w' : World) : Prop where
  os : w'.os = w.os
  tape : w'.tape = w.tape
  output : w'.output = w.output
  size : w.heap.size ≤ w'.heap.size
  block : ∀ k, k < w.heap.size → some k ≠ b1 → some k ≠ b2 → k ≠ g → w'.heap[k]? = w.heap[k]?
theorem But3.ok {b1 b2 : Option Nat} {g : Nat} {w w' : World} (h : But3 b1 b2 g w w') {s : Sl} (hs : s.Ok w) (h1 : s.Off b1) (h2 : s.Off b2) (h3 : s.Off (some g)) : s.Ok w' := by
  refine ⟨hs.len, hs.le, hs.mx, hs.nn, hs.isB, fun hp => ?_⟩
  obtain ⟨b, off, ha, hlt, hc⟩ := hs.lies hp
  have e1 := h1 hp _ ha
  have e2 := h2 hp _ ha
  have e3 := h3 hp _ ha
  simp only [ne_eq, Option.some.injEq] at e3
  refine ⟨b, off, ha, Nat.lt_of_lt_of_le hlt h.size, fun i hi => ?_⟩
  rw [World.cell?_of_block (w := w) (a := ⟨b, off + i, none⟩) (h.block b hlt e1 e2 e3)]
  exact hc i hi
theorem But3.arr {b1 b2 : Option Nat} {g : Nat} {w w' : World} (h : But3 b1 b2 g w w') {k : Nat} {ty : TypeId} {l : List Value} (ha : Arr w k ty l) (h1 : some k ≠ b1) (h2 : some k ≠ b2) (h3 : k ≠ g) : Arr w' k ty l := (h.block k ha.lt h1 h2 h3).trans ha
theorem But3.below {b1 b2 : Option Nat} {g : Nat} {w w' : World} (h : But3 b1 b2 g w w') {B : Nat} (hB : B ≤ w.heap.size) (h1 : ∀ k, b1 = some k → B ≤ k) (h2 : ∀ k, b2 = some k → B ≤ k) (h3 : B ≤ g) : Below B w w' :=
  ⟨h.os, h.tape, h.output, h.size, fun k hk => h.block k (by omega) (fun e => by have := h1 k e.symm; omega) (fun e => by have := h2 k e.symm; omega) (by omega)⟩
theorem arr_ne_arr {w : World} {g g' : Nat} {ty ty' : TypeId} {l l' : List Value} (h : Arr w g ty l) (h' : Arr w g' ty' l') (ht : ty ≠ ty') : g ≠ g' := by
  intro e
  subst e
  unfold Arr at h h'
  rw [h] at h'
  simp only [Option.some.injEq, Obj.cells.injEq] at h'
  exact ht h'.2.1

/-- one more on the shelf -/
theorem Shf.put {w : World} {gS N : Nat} {P Q : Nat → Sl} {lv wv lv' wv' : Value} {w0 wr w5 : World} (h0 : Shf w gS N P Q lv wv w0) (hb0 : Below w0.heap.size w0 wr) (p q : Sl)
    (hp : Ans w.heap.size p wr) (hq : q.Ok wr) (he : p.l = q.l) (hn : p.n ≤ 100000) (hpF : ∀ x, p.a = some x → w0.heap.size ≤ x.block) (hqF : 0 < q.l.length → ∀ x, q.a = some x → w0.heap.size ≤ x.block ∨ x.block < w.heap.size)
    (hpq : 0 < p.l.length → ∀ y, p.a = some y → q.Off (some y.block))
    (hB : But3 lv.ownBlock wv.ownBlock gS wr w5) (hs : Arr w5 gS 26 [lv', wv'])
    (hl : w5.ownsRow w.heap.size 28 1 lv' (N + 1) (vsOf P N ++ [p.v])) (hw : w5.ownsRow w.heap.size 28 1 wv' (N + 1) (vsOf Q N ++ [q.v]))
    (hap : Apt lv' wv') (hlb : lv'.ownBlock = lv.ownBlock ∨ ∃ k, lv'.ownBlock = some k ∧ wr.heap.size ≤ k) (hwb : wv'.ownBlock = wv.ownBlock ∨ ∃ k, wv'.ownBlock = some k ∧ wr.heap.size ≤ k) :
    Shf w gS (N + 1) (fun i => if i = N then p else P i) (fun i => if i = N then q else Q i) lv' wv' w5 := by
  have h := h0.later hb0
  have ltl : ∀ k, lv.ownBlock = some k → k < w0.heap.size := fun k hk => (h0.lrow.lt k hk).2
  have ltw : ∀ k, wv.ownBlock = some k → k < w0.heap.size := fun k hk => (h0.wrow.lt k hk).2
  have lts : gS < w0.heap.size := h0.s.lt
  have fr : ∀ s : Sl, (∀ x, s.a = some x → w0.heap.size ≤ x.block) → s.Off lv.ownBlock ∧ s.Off wv.ownBlock ∧ s.Off (some gS) := fun s hF =>
    ⟨fun _ x hx e => by have := ltl _ e.symm; have := hF x hx; omega, fun _ x hx e => by have := ltw _ e.symm; have := hF x hx; omega, fun _ x hx e => by simp only [Option.some.injEq] at e; have := hF x hx; omega⟩
  have offl : ∀ s : Sl, s.Ok wr → s.Off lv.ownBlock → s.Off lv'.ownBlock := fun s hok ho => by
    rcases hlb with e | ⟨k, e, hk⟩
    · rw [e]; exact ho
    · rw [e]; intro hpos x hx e2; simp only [Option.some.injEq] at e2; have := hok.blk hpos x hx; omega
  have offw : ∀ s : Sl, s.Ok wr → s.Off wv.ownBlock → s.Off wv'.ownBlock := fun s hok ho => by
    rcases hwb with e | ⟨k, e, hk⟩
    · rw [e]; exact ho
    · rw [e]; intro hpos x hx e2; simp only [Option.some.injEq] at e2; have := hok.blk hpos x hx; omega
  have okP : ∀ s : Sl, Ans w.heap.size s wr → Ans w.heap.size s w5 := fun s hA => by
    have off : s.Off lv.ownBlock ∧ s.Off wv.ownBlock ∧ s.Off (some gS) := by
      refine ⟨fun hpos x hx e => ?_, fun hpos x hx e => ?_, fun hpos x hx e => ?_⟩ <;> obtain ⟨g, hg, -, ha⟩ := hA.row hpos <;> rw [hg] at hx <;> simp only [Option.some.injEq] at hx <;> subst hx
      · exact own_ne_arr h.lrow ha (by decide) e
      · exact own_ne_arr h.wrow ha (by decide) e
      · simp only [Option.some.injEq] at e
        exact arr_ne_arr ha h.s (by decide) e
    refine ⟨hB.ok hA.ok off.1 off.2.1 off.2.2, hA.full, fun hpos => ?_⟩
    obtain ⟨g, hg, hge, ha⟩ := hA.row hpos
    exact ⟨g, hg, hge, hB.arr ha (off.1 hpos _ hg) (off.2.1 hpos _ hg) (fun e => off.2.2 hpos _ hg (by rw [e]))⟩
  have frp := fr p hpF
  have frq : q.Off lv.ownBlock ∧ q.Off wv.ownBlock ∧ q.Off (some gS) :=
    ⟨fun hz x hx e => by have h1 := ltl _ e.symm; have h2 := (h0.lrow.lt _ e.symm).1; rcases hqF hz x hx with h3 | h3 <;> omega, fun hz x hx e => by have h1 := ltw _ e.symm; have h2 := (h0.wrow.lt _ e.symm).1; rcases hqF hz x hx with h3 | h3 <;> omega, fun hz x hx e => by simp only [Option.some.injEq] at e; have h2 := h0.ge; rcases hqF hz x hx with h3 | h3 <;> omega⟩
  have oldP : ∀ i, i < N → 0 < (P i).l.length → ∀ x, (P i).a = some x → x.block < w0.heap.size := fun i hi hpos x hx => (h0.p i hi).ok.blk hpos x hx
  have oldQ : ∀ i, i < N → 0 < (Q i).l.length → ∀ x, (Q i).a = some x → x.block < w0.heap.size := fun i hi hpos x hx => (h0.q i hi).blk hpos x hx
  refine ⟨hs, h0.ge, by rw [← vsOf_succ]; exact hl, by rw [← vsOf_succ]; exact hw, hap, fun i hi => ?_, fun i hi => ?_, fun i hi => ?_, fun i hi => ?_, fun i j hi hj hij => ?_, fun i j hi hj => ?_, fun i hi => ?_, fun i hi => ?_, fun i hi => ?_, ?_⟩
  · by_cases e : i = N
    · simp only [e, if_true]; exact okP p hp
    · simp only [e, if_false]; exact okP _ (h.p i (by omega))
  · by_cases e : i = N
    · simp only [e, if_true]; exact hB.ok hq frq.1 frq.2.1 frq.2.2
    · simp only [e, if_false]; exact hB.ok (h.q i (by omega)) (h0.ql i (by omega)) (h0.qw i (by omega)) (h0.qs i (by omega))
  · by_cases e : i = N
    · simp only [e, if_true]; exact he
    · simp only [e, if_false]; exact h0.eq i (by omega)
  · by_cases e : i = N
    · simp only [e, if_true]; exact hn
    · simp only [e, if_false]; exact h0.sz i (by omega)
  · by_cases ej : j = N
    · have ei : i ≠ N := by omega
      simp only [ej, ei, if_true, if_false]
      intro hpos y hy hpos2 x hx e2
      simp only [Option.some.injEq] at e2
      have := oldP i (by omega) hpos2 x hx
      have := hpF y hy
      omega
    · by_cases ei : i = N
      · simp only [ei, ej, if_true, if_false]
        intro hpos y hy hpos2 x hx e2
        simp only [Option.some.injEq] at e2
        have := oldP j (by omega) hpos y hy
        have := hpF x hx
        omega
      · simp only [ei, ej, if_false]; exact h0.pp i j (by omega) (by omega) hij
  · by_cases ei : i = N
    · by_cases ej : j = N
      · simp only [ei, ej, if_true]; exact hpq
      · simp only [ei, ej, if_true, if_false]
        intro hpos y hy hpos2 x hx e2
        simp only [Option.some.injEq] at e2
        have := oldQ j (by omega) hpos2 x hx
        have := hpF y hy
        omega
    · by_cases ej : j = N
      · simp only [ei, ej, if_true, if_false]
        intro hpos y hy hpos2 x hx e2
        simp only [Option.some.injEq] at e2
        have h1 := oldP i (by omega) hpos y hy
        obtain ⟨g, hg, hge, -⟩ := (h0.p i (by omega)).row hpos
        rw [hy] at hg
        simp only [Option.some.injEq] at hg
        subst hg
        simp only at e2 h1
        rcases hqF hpos2 x hx with h3 | h3 <;> omega
      · simp only [ei, ej, if_false]; exact h0.pq i j (by omega) (by omega)
  · by_cases e : i = N
    · simp only [e, if_true]; exact offl q hq frq.1
    · simp only [e, if_false]; exact offl _ (h.q i (by omega)) (h0.ql i (by omega))
  · by_cases e : i = N
    · simp only [e, if_true]; exact offw q hq frq.2.1
    · simp only [e, if_false]; exact offw _ (h.q i (by omega)) (h0.qw i (by omega))
  · by_cases e : i = N
    · simp only [e, if_true]; exact frq.2.2
    · simp only [e, if_false]; exact h0.qs i (by omega)
  · exact h.bel.trans (hB.below h.bel.size (fun k hk => (h0.lrow.lt k hk).1) (fun k hk => (h0.wrow.lt k hk).1) h0.ge)
end Go.Proofs.Ytipmgnigejpfjaa
