import Derived.Test.YtgnignloababhaaDoorMarkW
namespace Go.Proofs.YtgnignloababhaaDoor
open Go.RowKit

theorem own_ne_dg {w : World} {base gd n e sz : Nat} {v : Value} {xs : List Value} {M : List Int} (h : w.ownsRow base e sz v n xs) (hD : Dg w gd M) (he : e ≠ 40) : v.ownBlock ≠ some gd := by
  intro hv
  obtain ⟨st, held, hR, -⟩ := hD
  rcases h.2 with ⟨rfl, -⟩ | ⟨g, cap, cur, rfl, -, hg, -⟩
  · simp [Value.ownBlock] at hv
  · simp only [Value.ownBlock, Option.some.injEq] at hv
    subst hv
    have := hR.arr
    unfold Arr at this
    rw [hg] at this
    simp at this
    exact he this.2
theorem own_ne_own {w : World} {base base' n n' e e' sz sz' g : Nat} {v v' : Value} {xs xs' : List Value} (h : w.ownsRow base e sz v n xs) (h' : w.ownsRow base' e' sz' v' n' xs') (he : e ≠ e') (hg : v.ownBlock = some g) : v'.ownBlock ≠ some g := by
  intro hv
  rcases h.2 with ⟨rfl, -⟩ | ⟨g1, cap, cur, rfl, -, h1, -⟩
  · simp [Value.ownBlock] at hg
  rcases h'.2 with ⟨rfl, -⟩ | ⟨g2, cap, cur, rfl, -, h2, -⟩
  · simp [Value.ownBlock] at hv
  simp only [Value.ownBlock, Option.some.injEq] at hg hv
  subst hg hv
  rw [h1] at h2
  simp at h2
  exact he h2.2
/-- all but two blocks is as it was -/
structure But2 (g h : Nat) (w w' : World) : Prop where
  os : w'.os = w.os
  tape : w'.tape = w.tape
  output : w'.output = w.output
  size : w.heap.size ≤ w'.heap.size
  block : ∀ k, k < w.heap.size → k ≠ g → k ≠ h → w'.heap[k]? = w.heap[k]?
theorem But2.refl (g h : Nat) (w : World) : But2 g h w w := ⟨rfl, rfl, rfl, Nat.le_refl _, fun _ _ _ _ => rfl⟩
theorem But2.trans {g h : Nat} {a b c : World} (x : But2 g h a b) (y : But2 g h b c) : But2 g h a c :=
  ⟨y.os.trans x.os, y.tape.trans x.tape, y.output.trans x.output, Nat.le_trans x.size y.size, fun i hi hg hh => (y.block i (Nat.lt_of_lt_of_le hi x.size) hg hh).trans (x.block i hi hg hh)⟩
theorem But2.of_below {g h : Nat} {w w' : World} (x : Below w.heap.size w w') : But2 g h w w' := ⟨x.os, x.tape, x.output, x.size, fun i hi _ _ => x.block i hi⟩
theorem But2.of_but {g h : Nat} {w w' : World} (x : But g w w') : But2 g h w w' := ⟨x.os, x.tape, x.output, x.size, fun i hi hg _ => x.block i hi hg⟩
theorem But2.of_but' {g h : Nat} {w w' : World} (x : But h w w') : But2 g h w w' := ⟨x.os, x.tape, x.output, x.size, fun i hi _ hh => x.block i hi hh⟩
/-- a block that came later may be written as well -/
theorem But2.new {g h k : Nat} {a b c : World} (x : But2 g h a b) (y : But k b c) (hk : a.heap.size ≤ k) : But2 g h a c :=
  ⟨y.os.trans x.os, y.tape.trans x.tape, y.output.trans x.output, Nat.le_trans x.size y.size, fun i hi hg hh => (y.block i (Nat.lt_of_lt_of_le hi x.size) (by omega)).trans (x.block i hi hg hh)⟩
theorem dg_keep {w w' : World} {a b g : Nat} {M : List Int} (h : Dg w g M) (hB : But2 a b w w') (ha : g ≠ a) (hb : g ≠ b) : Dg w' g M := by
  obtain ⟨st, held, hR, hr⟩ := h
  exact ⟨st, held, ⟨(hB.block g hR.arr.lt ha hb).trans hR.arr, hR.stl, hR.hdl, hR.stW, hR.hdB⟩, hr⟩
theorem own_keep {w w' : World} {a b base e sz n : Nat} {v : Value} {xs : List Value} (h : w.ownsRow base e sz v n xs) (hB : But2 a b w w') (ha : v.ownBlock ≠ some a) (hb : v.ownBlock ≠ some b) : w'.ownsRow base e sz v n xs := by
  refine ⟨h.1, ?_⟩
  rcases h.2 with h2 | ⟨g, cap, cur, h1, h2, h3, h4⟩
  · exact .inl h2
  · have hgl : g < w.heap.size := (h.lt g (by rw [h1]; rfl)).2
    exact .inr ⟨g, cap, cur, h1, h2, (hB.block g hgl (fun e => ha (by rw [h1, e]; rfl)) (fun e => hb (by rw [h1, e]; rfl))).trans h3, h4⟩
theorem own_laterN {w w' : World} {base e sz n : Nat} {v : Value} {xs : List Value} (h : w.ownsRow base e sz v n xs) (hb : Below w.heap.size w w') : w'.ownsRow base e sz v n xs :=
  own_keep h (But2.of_below (g := w.heap.size) (h := w.heap.size) hb) (fun e => by have := (h.lt _ e).2; omega) (fun e => by have := (h.lt _ e).2; omega)

/-- the pairs -/
structure DG (w : World) (n gA c : Nat) (G : Nat → Nat) (B : Nat → Sl) (L : List Value) (wr : World) : Prop where
  row : wr.ownsRow w.heap.size 27 2 (.slice (some ⟨gA, 0, none⟩) n c) n L
  d : ∀ k, k < n → L[2 * k]? = some (.pointer (some ⟨G k, 0, none⟩))
  b : ∀ k, k < n → L[2 * k + 1]? = some (B k).v
  dg : ∀ k, k < n → Dg wr (G k) (B k).l
  own : ∀ k, k < n → wr.ownsRow w.heap.size 5 1 (B k).v (B k).n (U8 (B k).l)
  ne : ∀ i j, i < n → j < n → i ≠ j → G i ≠ G j
  ge : ∀ k, k < n → w.heap.size ≤ G k
  bel : Below w.heap.size w wr
theorem DG.later {w : World} {n gA c : Nat} {G : Nat → Nat} {B : Nat → Sl} {L : List Value} {wr w' : World} (h : DG w n gA c G B L wr) (hb : Below wr.heap.size wr w') : DG w n gA c G B L w' :=
  ⟨own_laterN h.row hb, h.d, h.b, fun k hk => (h.dg k hk).later hb, fun k hk => own_laterN (h.own k hk) hb, h.ne, h.ge, h.bel.trans (hb.mono h.bel.size)⟩
theorem DG.geA {w : World} {n gA c : Nat} {G : Nat → Nat} {B : Nat → Sl} {L : List Value} {wr : World} (h : DG w n gA c G B L wr) : w.heap.size ≤ gA ∧ gA < wr.heap.size := h.row.lt gA rfl
theorem DG.isB {w : World} {n gA c : Nat} {G : Nat → Nat} {B : Nat → Sl} {L : List Value} {wr : World} (h : DG w n gA c G B L wr) (k : Nat) (hk : k < n) : IsB (B k).l := by
  obtain ⟨_, _, _, _, _, h⟩ := h.dg k hk; exact h
theorem DG.ok {w : World} {n gA c : Nat} {G : Nat → Nat} {B : Nat → Sl} {L : List Value} {wr : World} (h : DG w n gA c G B L wr) (k : Nat) (hk : k < n) : (B k).Ok wr := by
  obtain ⟨s', hs', oks, hsl, -, -⟩ := own_sl (h.own k hk) (h.isB k hk)
  generalize B k = b at *
  obtain ⟨xa, xn, xc, xl⟩ := s'
  obtain ⟨ya, yn, yc, yl⟩ := b
  have hsl' : xl = yl := hsl
  simp only [Sl.v, Value.slice.injEq] at hs'
  obtain ⟨e1, e2, e3⟩ := hs'
  subst e1 e2 e3 hsl'; exact oks
theorem DG.gAne {w : World} {n gA c : Nat} {G : Nat → Nat} {B : Nat → Sl} {L : List Value} {wr : World} (h : DG w n gA c G B L wr) (k : Nat) (hk : k < n) : G k ≠ gA := fun e =>
  own_ne_dg h.row (h.dg k hk) (by decide) (by rw [e]; rfl)
theorem DG.cd {w : World} {n gA c : Nat} {G : Nat → Nat} {B : Nat → Sl} {L : List Value} {wr : World} (h : DG w n gA c G B L wr) (k : Nat) (hk : k < n) : wr.cell? ⟨gA, 2 * k, none⟩ = some (.pointer (some ⟨G k, 0, none⟩)) := by
  rw [h.row.cellAt (2 * k) (by omega)]; exact h.d k hk
theorem DG.cb {w : World} {n gA c : Nat} {G : Nat → Nat} {B : Nat → Sl} {L : List Value} {wr : World} (h : DG w n gA c G B L wr) (k : Nat) (hk : k < n) : wr.cell? ⟨gA, 2 * k + 1, none⟩ = some (B k).v := by
  rw [h.row.cellAt (2 * k + 1) (by omega)]; exact h.b k hk
/-- one pair put anew: its digest in its place has taken other bytes -/
theorem DG.put {w : World} {n gA c : Nat} {G : Nat → Nat} {B : Nat → Sl} {L L' : List Value} {wr w' : World} (h : DG w n gA c G B L wr) (k : Nat) (hk : k < n) (s' : Sl)
    (hrow : w'.ownsRow w.heap.size 27 2 (.slice (some ⟨gA, 0, none⟩) n c) n L') (hLd : L'[2 * k]? = some (.pointer (some ⟨G k, 0, none⟩))) (hLb : L'[2 * k + 1]? = some s'.v) (hLo : ∀ i, i ≠ 2 * k → i ≠ 2 * k + 1 → L'[i]? = L[i]?)
    (hD : Dg w' (G k) s'.l) (ho : w'.ownsRow w.heap.size 5 1 s'.v s'.n (U8 s'.l)) (hB : But2 (G k) gA wr w') :
    DG w n gA c G (fun i => if i = k then s' else B i) L' w' := by
  refine ⟨hrow, fun i hi => ?_, fun i hi => ?_, fun i hi => ?_, fun i hi => ?_, h.ne, h.ge, ?_⟩
  · by_cases e : i = k
    · subst e; exact hLd
    · rw [hLo _ (by omega) (by omega)]; exact h.d i hi
  · by_cases e : i = k
    · subst e; simpa using hLb
    · rw [hLo _ (by omega) (by omega)]; simp only [e, if_false]; exact h.b i hi
  · by_cases e : i = k
    · subst e; simpa using hD
    · simp only [e, if_false]
      exact dg_keep (h.dg i hi) hB (h.ne i k hi hk e) (h.gAne i hi)
  · by_cases e : i = k
    · subst e; simpa using ho
    · simp only [e, if_false]
      exact own_keep (h.own i hi) hB (own_ne_dg (h.own i hi) (h.dg k hk) (by decide)) (own_ne_own h.row (h.own i hi) (by decide) rfl)
  · exact h.bel.trans ⟨hB.os, hB.tape, hB.output, hB.size, fun i hi => hB.block i (Nat.lt_of_lt_of_le hi h.bel.size) (by have := h.ge k hk; omega) (by have := h.geA; omega)⟩
/-- one more pair -/
theorem DG.more {w : World} {n gA c : Nat} {G : Nat → Nat} {B : Nat → Sl} {L : List Value} {wr w' : World} (h : DG w n gA c G B L wr) (k : Nat) (hk : k < n) (gA' c' g' : Nat)
    (hrow : w'.ownsRow w.heap.size 27 2 (.slice (some ⟨gA', 0, none⟩) (n + 1) c') (n + 1) (L ++ [.pointer (some ⟨g', 0, none⟩), (B k).v]))
    (hD : Dg w' g' (B k).l) (hg : wr.heap.size ≤ g') (hB : But gA wr w') :
    DG w (n + 1) gA' c' (fun i => if i = n then g' else G i) (fun i => if i = n then B k else B i) (L ++ [.pointer (some ⟨g', 0, none⟩), (B k).v]) w' := by
  have hL : L.length = 2 * n := by rw [h.row.1]; omega
  have hB2 : But2 gA gA wr w' := But2.of_but hB
  have hle : ∀ i, i < n → G i < wr.heap.size := fun i hi => (h.dg i hi).lt
  refine ⟨hrow, fun i hi => ?_, fun i hi => ?_, fun i hi => ?_, fun i hi => ?_, fun i j hi hj hij => ?_, fun i hi => ?_, ?_⟩
  · by_cases e : i = n
    · subst e; rw [List.getElem?_append_right (by omega)]; simp [hL]
    · rw [List.getElem?_append_left (by omega)]; simp only [e, if_false]; exact h.d i (by omega)
  · by_cases e : i = n
    · subst e; rw [List.getElem?_append_right (by omega)]; simp [hL]
    · rw [List.getElem?_append_left (by omega)]; simp only [e, if_false]; exact h.b i (by omega)
  · by_cases e : i = n
    · subst e; simpa using hD
    · simp only [e, if_false]
      exact dg_keep (h.dg i (by omega)) hB2 (h.gAne i (by omega)) (h.gAne i (by omega))
  · have kp : ∀ j, j < n → w'.ownsRow w.heap.size 5 1 (B j).v (B j).n (U8 (B j).l) := fun j hj => own_keep (h.own j hj) hB2 (own_ne_own h.row (h.own j hj) (by decide) rfl) (own_ne_own h.row (h.own j hj) (by decide) rfl)
    by_cases e : i = n
    · subst e; simpa using kp k hk
    · simp only [e, if_false]; exact kp i (by omega)
  · by_cases e : i = n
    · by_cases e2 : j = n
      · omega
      · rw [if_pos e, if_neg e2]; have := hle j (by omega); omega
    · by_cases e2 : j = n
      · rw [if_neg e, if_pos e2]; have := hle i (by omega); omega
      · rw [if_neg e, if_neg e2]; exact h.ne i j (by omega) (by omega) hij
  · by_cases e : i = n
    · rw [if_pos e]; have := h.bel.size; omega
    · rw [if_neg e]; exact h.ge i (by omega)
  · exact h.bel.trans ⟨hB.os, hB.tape, hB.output, hB.size, fun i hi => hB.block i (Nat.lt_of_lt_of_le hi h.bel.size) (by have := h.geA; omega)⟩
end Go.Proofs.YtgnignloababhaaDoor
