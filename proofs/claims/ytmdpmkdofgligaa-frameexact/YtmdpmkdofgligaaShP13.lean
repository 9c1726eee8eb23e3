import Derived.Test.YtmdpmkdofgligaaShS13
namespace Go.Proofs.Ytmdpmkdofgligaa
open Go.RowKit

/-- all but three blocks are as they were -/
structure But3 (b1 b2 : Option Nat) (g : Nat) (w w' : World) : Prop where
  os : w'.os = w.os
  tape : w'.tape = w.tape
  output : w'.output = w.output
  size : w.heap.size ≤ w'.heap.size
  block : ∀ k, k < w.heap.size → some k ≠ b1 → some k ≠ b2 → k ≠ g → w'.heap[k]? = w.heap[k]?
theorem But3.ok {b1 b2 : Option Nat} {g : Nat} {w w' : World} (h : But3 b1 b2 g w w') {s : Sl} (hs : s.Ok w) (h1 : s.Off b1) (h2 : s.Off b2) (h3 : s.Off (some g)) : s.Ok w' := by
  refine ⟨hs.len, hs.le, hs.mx, hs.nn, hs.isB, fun hp => ?_⟩
  obtain ⟨b, off, ha, hlt, hc⟩ := hs.lies hp
  have e1 := h1 hp _ ha
  have e2 := h2 hp _ ha
  have e3 := h3 hp _ ha
  simp only [ne_eq, Option.some.injEq] at e3
  refine ⟨b, off, ha, Nat.lt_of_lt_of_le hlt h.size, fun i hi => ?_⟩
  rw [World.cell?_of_block (w := w) (a := ⟨b, off + i, none⟩) (h.block b hlt e1 e2 e3)]
  exact hc i hi
theorem But3.arr {b1 b2 : Option Nat} {g : Nat} {w w' : World} (h : But3 b1 b2 g w w') {k : Nat} {ty : TypeId} {l : List Value} (ha : Arr w k ty l) (h1 : some k ≠ b1) (h2 : some k ≠ b2) (h3 : k ≠ g) : Arr w' k ty l := (h.block k ha.lt h1 h2 h3).trans ha
theorem But3.below {b1 b2 : Option Nat} {g : Nat} {w w' : World} (h : But3 b1 b2 g w w') {B : Nat} (hB : B ≤ w.heap.size) (h1 : ∀ k, b1 = some k → B ≤ k) (h2 : ∀ k, b2 = some k → B ≤ k) (h3 : B ≤ g) : Below B w w' :=
  ⟨h.os, h.tape, h.output, h.size, fun k hk => h.block k (by omega) (fun e => by have := h1 k e.symm; omega) (fun e => by have := h2 k e.symm; omega) (by omega)⟩
theorem arr_ne_arr {w : World} {g g' : Nat} {ty ty' : TypeId} {l l' : List Value} (h : Arr w g ty l) (h' : Arr w g' ty' l') (ht : ty ≠ ty') : g ≠ g' := by
  intro e
  subst e
  unfold Arr at h h'
  rw [h] at h'
  simp only [Option.some.injEq, Obj.cells.injEq] at h'
  exact ht h'.2.1

theorem own_typS {W : World} {base e sz n b : Nat} {v : Value} {xs : List Value} {cs : Array Value} {t : TypeId} {fr : Nat × Nat} (h : W.ownsRow base e sz v n xs) (hb : W.heap[b]? = some (.cells cs t fr)) (ht : t ≠ e) : v.ownBlock ≠ some b := by
  rcases h.2 with ⟨rfl, _⟩ | ⟨g, cap, cur, rfl, _, hgb, _⟩
  · simp [Value.ownBlock]
  · intro e'
    obtain rfl : g = b := by simpa [Value.ownBlock] using e'
    have := hb.symm.trans hgb
    simp at this
    exact ht this.2.1
/-- block g holds nothing of what is on the shelf -/
def Clr (N : Nat) (P Q : Nat → Sl) (g : Nat) : Prop := (∀ i, i < N → (P i).Off (some g)) ∧ ∀ i, i < N → (Q i).Off (some g)
/-- one more on the shelf -/
theorem Shf.putG {w : World} {gS N : Nat} {P Q : Nat → Sl} {lv wv lv' wv' : Value} {wr w5 : World} (h : Shf w gS N P Q lv wv wr) (p q : Sl)
    (hp : Ans w.heap.size p wr) (he : p.l = q.l) (hn : p.n ≤ 100000) (hpc : 0 < p.l.length → ∀ x, p.a = some x → Clr N P Q x.block)
    (hq : q.Ok w5) (hqo : w5.ownsRow wr.heap.size 5 1 q.v q.n (U8 q.l))
    (hB : But3 lv.ownBlock wv.ownBlock gS wr w5) (hs : Arr w5 gS 26 [lv', wv'])
    (hl : w5.ownsRow w.heap.size 29 1 lv' (N + 1) (vsOf P N ++ [p.v])) (hw : w5.ownsRow w.heap.size 29 1 wv' (N + 1) (vsOf Q N ++ [q.v]))
    (hap : Apt lv' wv') (hlb : lv'.ownBlock = lv.ownBlock ∨ ∃ k, lv'.ownBlock = some k ∧ wr.heap.size ≤ k) (hwb : wv'.ownBlock = wv.ownBlock ∨ ∃ k, wv'.ownBlock = some k ∧ wr.heap.size ≤ k) :
    Shf w gS (N + 1) (fun i => if i = N then p else P i) (fun i => if i = N then q else Q i) lv' wv' w5 ∧
      ∀ g, g < wr.heap.size → Clr N P Q g → p.Off (some g) → Clr (N + 1) (fun i => if i = N then p else P i) (fun i => if i = N then q else Q i) g := by
  have qat : ∀ x, q.a = some x → wr.heap.size ≤ x.block ∧ ∃ cs, w5.heap[x.block]? = some (.cells cs 5 (0, 0)) := by
    intro x hx
    rcases hqo.2 with ⟨h1, -⟩ | ⟨g, cap, cur, h1, h2, h3, -⟩
    · simp only [Sl.v, Value.slice.injEq] at h1; rw [h1.1] at hx; cases hx
    · simp only [Sl.v, Value.slice.injEq] at h1; rw [h1.1] at hx; cases hx; exact ⟨h2, _, h3⟩
  have qoff : ∀ g, g < wr.heap.size → q.Off (some g) := fun g hg _ x hx e => by
    simp only [Option.some.injEq] at e
    have := (qat x hx).1
    omega
  have offl : ∀ s : Sl, s.Ok wr → s.Off lv.ownBlock → s.Off lv'.ownBlock := fun s hok ho => by
    rcases hlb with e | ⟨k, e, hk⟩
    · rw [e]; exact ho
    · rw [e]; intro hpos x hx e2; simp only [Option.some.injEq] at e2; have := hok.blk hpos x hx; omega
  have offw : ∀ s : Sl, s.Ok wr → s.Off wv.ownBlock → s.Off wv'.ownBlock := fun s hok ho => by
    rcases hwb with e | ⟨k, e, hk⟩
    · rw [e]; exact ho
    · rw [e]; intro hpos x hx e2; simp only [Option.some.injEq] at e2; have := hok.blk hpos x hx; omega
  have okP : ∀ s : Sl, Ans w.heap.size s wr → Ans w.heap.size s w5 := fun s hA => by
    have off : s.Off lv.ownBlock ∧ s.Off wv.ownBlock ∧ s.Off (some gS) := by
      refine ⟨fun hpos x hx e => ?_, fun hpos x hx e => ?_, fun hpos x hx e => ?_⟩ <;> obtain ⟨g, E, hg, -, ha⟩ := hA.row hpos <;> rw [hg] at hx <;> simp only [Option.some.injEq] at hx <;> subst hx
      · exact own_ne_arr h.lrow ha (by decide) e
      · exact own_ne_arr h.wrow ha (by decide) e
      · simp only [Option.some.injEq] at e
        exact arr_ne_arr ha h.s (by decide) e
    refine ⟨hB.ok hA.ok off.1 off.2.1 off.2.2, hA.full, fun hpos => ?_⟩
    obtain ⟨g, E, hg, hge, ha⟩ := hA.row hpos
    exact ⟨g, E, hg, hge, hB.arr ha (off.1 hpos _ hg) (off.2.1 hpos _ hg) (fun e => off.2.2 hpos _ hg (by rw [e]))⟩
  refine ⟨⟨hs, h.ge, by rw [← vsOf_succ]; exact hl, by rw [← vsOf_succ]; exact hw, hap, fun i hi => ?_, fun i hi => ?_, fun i hi => ?_, fun i hi => ?_, fun i j hi hj hij => ?_, fun i j hi hj => ?_, fun i hi => ?_, fun i hi => ?_, fun i hi => ?_, ?_⟩, fun g hg hc hpg => ⟨fun i hi => ?_, fun i hi => ?_⟩⟩
  · by_cases e : i = N
    · simp only [e, if_true]; exact okP p hp
    · simp only [e, if_false]; exact okP _ (h.p i (by omega))
  · by_cases e : i = N
    · simp only [e, if_true]; exact hq
    · simp only [e, if_false]; exact hB.ok (h.q i (by omega)) (h.ql i (by omega)) (h.qw i (by omega)) (h.qs i (by omega))
  · by_cases e : i = N
    · simp only [e, if_true]; exact he
    · simp only [e, if_false]; exact h.eq i (by omega)
  · by_cases e : i = N
    · simp only [e, if_true]; exact hn
    · simp only [e, if_false]; exact h.sz i (by omega)
  · by_cases ej : j = N
    · have ei : i ≠ N := by omega
      simp only [ej, ei, if_true, if_false]
      exact fun hpos y hy => (hpc hpos y hy).1 i (by omega)
    · by_cases ei : i = N
      · simp only [ei, ej, if_true, if_false]
        intro hpos y hy hpos2 x hx e2
        simp only [Option.some.injEq] at e2
        exact (hpc hpos2 x hx).1 j (by omega) hpos y hy (by rw [e2])
      · simp only [ei, ej, if_false]; exact h.pp i j (by omega) (by omega) hij
  · by_cases ei : i = N
    · by_cases ej : j = N
      · simp only [ei, ej, if_true]
        exact fun hpos y hy => qoff _ (hp.ok.blk hpos y hy)
      · simp only [ei, ej, if_true, if_false]
        exact fun hpos y hy => (hpc hpos y hy).2 j (by omega)
    · by_cases ej : j = N
      · simp only [ei, ej, if_true, if_false]
        exact fun hpos y hy => qoff _ ((h.p i (by omega)).ok.blk hpos y hy)
      · simp only [ei, ej, if_false]; exact h.pq i j (by omega) (by omega)
  · by_cases e : i = N
    · simp only [e, if_true]
      intro _ x hx e2
      obtain ⟨-, cs, hcs⟩ := qat x hx
      exact own_typS hl hcs (by decide) e2.symm
    · simp only [e, if_false]; exact offl _ (h.q i (by omega)) (h.ql i (by omega))
  · by_cases e : i = N
    · simp only [e, if_true]
      intro _ x hx e2
      obtain ⟨-, cs, hcs⟩ := qat x hx
      exact own_typS hw hcs (by decide) e2.symm
    · simp only [e, if_false]; exact offw _ (h.q i (by omega)) (h.qw i (by omega))
  · by_cases e : i = N
    · simp only [e, if_true]; exact qoff _ h.s.lt
    · simp only [e, if_false]; exact h.qs i (by omega)
  · exact h.bel.trans (hB.below h.bel.size (fun k hk => (h.lrow.lt k hk).1) (fun k hk => (h.wrow.lt k hk).1) h.ge)
  · by_cases e : i = N
    · simp only [e, if_true]; exact hpg
    · simp only [e, if_false]; exact hc.1 i (by omega)
  · by_cases e : i = N
    · simp only [e, if_true]; exact qoff g hg
    · simp only [e, if_false]; exact hc.2 i (by omega)
end Go.Proofs.Ytmdpmkdofgligaa
