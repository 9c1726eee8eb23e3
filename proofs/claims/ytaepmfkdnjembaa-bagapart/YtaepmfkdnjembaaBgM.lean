import Derived.Test.YtaepmfkdnjembaaMwM
set_option linter.unusedSimpArgs false
set_option linter.unusedVariables false
namespace Go.Proofs.Ytaepmfkdnjembaa
open Go.RowKit

/-! A bag in memory from block B on, and messages that were told, their bodies apart from all others. -/
def Apd (ms : List Ms) : Prop := ms.Pairwise (fun m m' => ∀ k, m.s.v.ownBlock = some k → m'.s.v.ownBlock ≠ some k)
/-- the map and the bodies -/
structure Bgm (B mb : Nat) (ms ex : List Ms) (w : World) : Prop where
  mp : MW w mb ms
  lo : B ≤ mb
  bd : ∀ m ∈ ms ++ ex, Ou w B m.s.v m.s.xs
  ap : Apd (ms ++ ex)
  up : Up ms
/-- the blocks of it -/
def BkM (mb : Nat) (ms ex : List Ms) (k : Nat) : Prop := k = mb ∨ ∃ m ∈ ms ++ ex, m.s.v.ownBlock = some k
theorem Bgm.lt {B mb : Nat} {ms ex : List Ms} {w : World} (h : Bgm B mb ms ex w) {k : Nat} (hk : BkM mb ms ex k) : B ≤ k ∧ k < w.heap.size := by
  rcases hk with rfl | ⟨m, hm, hk⟩
  · exact ⟨h.lo, h.mp.lt⟩
  · exact own_lt (h.bd m hm) hk
theorem Bgm.keep {B mb : Nat} {ms ex : List Ms} {w w' : World} (h : Bgm B mb ms ex w) (hk : ∀ k, BkM mb ms ex k → w'.heap[k]? = w.heap[k]?) : Bgm B mb ms ex w' :=
  ⟨h.mp.blk (hk _ (.inl rfl)), h.lo, fun m hm => own_blk (h.bd m hm) (fun g hg => hk g (.inr ⟨m, hm, hg⟩)), h.ap, h.up⟩
theorem Bgm.later {B mb : Nat} {ms ex : List Ms} {w w' : World} (h : Bgm B mb ms ex w) (hb : Below w.heap.size w w') : Bgm B mb ms ex w' := h.keep (fun k hk => hb.block k (h.lt hk).2)
/-- no row of bytes among these -/
def NoU (rows : List Row) : Bool := rows.all fun p => !(p.2.1 == 5)
def NoB (rows : List Row) : Bool := rows.all fun p => !(p.2.1 == 5) && !(p.2.1 == 67)
theorem NoB.u {rows : List Row} (h : NoB rows = true) : NoU rows = true := by
  unfold NoB at h; unfold NoU
  rw [List.all_eq_true] at h ⊢
  intro p hp
  have := h p hp
  simp at this ⊢; exact this.1
theorem Bgm.noRow {B mb : Nat} {ms ex : List Ms} {w w0 : World} {rows : List Row} {K : World → Prop} (h : Bgm B mb ms ex w) (hS : Hs17 w0 rows K w) (hn : NoU rows = true) : ∀ p ∈ rows, ¬ BkM mb ms ex p.1 := by
  intro p hp hk
  have hA := hS.arr p hp
  rcases hk with hk | ⟨m, hm, hk⟩
  · exact h.mp.ne hA hk
  · unfold NoU at hn
    rw [List.all_eq_true] at hn
    have := hn p hp
    exact own_arr_ne (h.bd m hm) hA (by simpa using this) hk
/-- what is kept turns to something else -/
theorem Hs17.kb {w0 w w' : World} {rows : List Row} {K K' : World → Prop} {T : Nat → Prop} (hS : Hs17 w0 rows K w) (hb : Buts T w w') (hT : ∀ k, k < w.heap.size → T k → w0.heap.size ≤ k ∧ ∀ p ∈ rows, p.1 ≠ k)
    (hK : ∀ w'', w'.heap.size ≤ w''.heap.size → (∀ k, k < w'.heap.size → (∀ p ∈ rows, p.1 ≠ k) → w''.heap[k]? = w'.heap[k]?) → K' w'') : Hs17 w0 rows K' w' := by
  have hbl := hS.bel
  refine ⟨hS.nd, fun p hp => ?_, hS.old, ⟨hb.os.trans hbl.os, hb.tape.trans hbl.tape, hb.output.trans hbl.output, Nat.le_trans hbl.size hb.size, fun k hk => ?_⟩, hK⟩
  · have hA := hS.arr p hp
    exact (hb.block _ hA.lt (fun ht => (hT _ hA.lt ht).2 p hp rfl)).trans hA
  · have hlt := Nat.lt_of_lt_of_le hk hbl.size
    exact (hb.block k hlt (fun ht => by have := (hT k hlt ht).1; omega)).trans (hbl.block k hk)
theorem Hs17.bgm {w0 w w' : World} {rows : List Row} {T : Nat → Prop} {B mb : Nat} {ms ex ms' ex' : List Ms} (hS : Hs17 w0 rows (Bgm B mb ms ex) w) (hn : NoU rows = true) (hw : w0.heap.size ≤ B) (hb : Buts T w w') (hT : ∀ k, T k → BkM mb ms ex k) (hG : Bgm B mb ms' ex' w') : Hs17 w0 rows (Bgm B mb ms' ex') w' := by
  have hG0 := hS.K
  have hnr := hG0.noRow hS hn
  have hS' : Hs17 w0 rows (fun _ => True) w' := hS.kb hb (fun k _ ht => ⟨Nat.le_trans hw (hG0.lt (hT k ht)).1, fun p hp e => hnr p hp (e ▸ hT k ht)⟩) (fun _ _ _ => trivial)
  have hnr' := hG.noRow hS' hn
  exact hS.kb hb (fun k _ ht => ⟨Nat.le_trans hw (hG0.lt (hT k ht)).1, fun p hp e => hnr p hp (e ▸ hT k ht)⟩) (fun w'' h1 h2 => hG.keep (fun k hk => h2 k (hG.lt hk).2 (fun p hp e => hnr' p hp (e ▸ hk))))
/-! A world cut off. -/
def wcut (B : Nat) (w : World) : World := { w with heap := w.heap.extract 0 B }
theorem wcut_size {B : Nat} {w : World} (h : B ≤ w.heap.size) : (wcut B w).heap.size = B := by simp [wcut]; omega
theorem wcut_at {B : Nat} {w : World} {k : Nat} (h : B ≤ w.heap.size) (hk : k < B) : (wcut B w).heap[k]? = w.heap[k]? := by
  simp only [wcut]
  rw [Array.getElem?_extract]
  simp
  omega
theorem below_wcut {B : Nat} {w : World} (h : B ≤ w.heap.size) : Below (wcut B w).heap.size (wcut B w) w :=
  ⟨rfl, rfl, rfl, by rw [wcut_size h]; exact h, fun k hk => by rw [wcut_size h] at hk; exact (wcut_at h hk).symm⟩
/-! The bag. -/
structure BagW (B gb mb : Nat) (ms ex : List Ms) (last : Nat) (w : World) : Prop where
  st : Arr w gb 67 (gbC last (.map (some mb)))
  g : Bgm B mb ms ex w
  lo : B ≤ gb
  le : ms.length ≤ 4096
  id : ∀ m ∈ ms, 1 ≤ m.i ∧ m.i ≤ last
  bl : ∀ m ∈ ms, m.s.xs.length ≤ 1024
def BkB (gb mb : Nat) (ms ex : List Ms) (k : Nat) : Prop := k = gb ∨ BkM mb ms ex k
theorem BagW.lt {B gb mb last : Nat} {ms ex : List Ms} {w : World} (h : BagW B gb mb ms ex last w) {k : Nat} (hk : BkB gb mb ms ex k) : B ≤ k ∧ k < w.heap.size := by
  rcases hk with rfl | hk
  · exact ⟨h.lo, h.st.lt⟩
  · exact h.g.lt hk
theorem BagW.keep {B gb mb last : Nat} {ms ex : List Ms} {w w' : World} (h : BagW B gb mb ms ex last w) (hk : ∀ k, BkB gb mb ms ex k → w'.heap[k]? = w.heap[k]?) : BagW B gb mb ms ex last w' :=
  ⟨(hk gb (.inl rfl)).trans h.st, h.g.keep (fun k hk' => hk k (.inr hk')), h.lo, h.le, h.id, h.bl⟩
theorem BagW.later {B gb mb last : Nat} {ms ex : List Ms} {w w' : World} (h : BagW B gb mb ms ex last w) (hb : Below w.heap.size w w') : BagW B gb mb ms ex last w' := h.keep (fun k hk => hb.block k (h.lt hk).2)
theorem BagW.noRow {B gb mb last : Nat} {ms ex : List Ms} {w w0 : World} {rows : List Row} {K : World → Prop} (h : BagW B gb mb ms ex last w) (hS : Hs17 w0 rows K w) (hn : NoB rows = true) : ∀ p ∈ rows, ¬ BkB gb mb ms ex p.1 := by
  intro p hp hk
  rcases hk with hk | hk
  · have hA := hS.arr p hp
    rw [hk] at hA
    unfold NoB at hn
    rw [List.all_eq_true] at hn
    have h1 := hn p hp
    have h2 := h.st
    unfold Arr at hA h2
    rw [hA] at h2
    simp only [Option.some.injEq, Obj.cells.injEq] at h2
    rw [h2.2.1] at h1
    simp at h1
  · exact h.g.noRow hS (NoB.u hn) p hp hk
/-- a call of the bag's, or one that writes to what was told -/
theorem Hs17.bag {w0 w w' : World} {rows : List Row} {T : Nat → Prop} {B gb mb last last' : Nat} {ms ex ms' ex' : List Ms} (hS : Hs17 w0 rows (BagW B gb mb ms ex last) w) (hn : NoB rows = true) (hw : w0.heap.size ≤ B) (hb : Buts T w w') (hT : ∀ k, T k → BkB gb mb ms ex k) (hG : BagW B gb mb ms' ex' last' w') : Hs17 w0 rows (BagW B gb mb ms' ex' last') w' := by
  have hG0 := hS.K
  have hnr := hG0.noRow hS hn
  have hS' : Hs17 w0 rows (fun _ => True) w' := hS.kb hb (fun k _ ht => ⟨Nat.le_trans hw (hG0.lt (hT k ht)).1, fun p hp e => hnr p hp (e ▸ hT k ht)⟩) (fun _ _ _ => trivial)
  have hnr' := hG.noRow hS' hn
  exact hS.kb hb (fun k _ ht => ⟨Nat.le_trans hw (hG0.lt (hT k ht)).1, fun p hp e => hnr p hp (e ▸ hT k ht)⟩) (fun w'' h1 h2 => hG.keep (fun k hk => h2 k (hG.lt hk).2 (fun p hp e => hnr' p hp (e ▸ hk))))
/-- the bag's own struct as a row: the calls' own frame -/
theorem BagW.open_ {B gb mb last : Nat} {ms ex : List Ms} {w : World} (h : BagW B gb mb ms ex last w) (hB : B ≤ w.heap.size) : Hs17 (wcut B w) [(gb, 67, gbC last (.map (some mb)))] (Bgm B mb ms ex) w := by
  have hne : ∀ k, BkM mb ms ex k → gb ≠ k := by
    rintro k (rfl | ⟨m, hm, hk⟩)
    · exact h.g.mp.ne h.st
    · rintro rfl
      exact own_arr_ne (h.g.bd m hm) h.st (by decide) hk
  refine ⟨by simp, fun p hp => ?_, fun p hp => ?_, below_wcut hB, fun w' h1 h2 => h.g.keep (fun k hk => h2 k (h.g.lt hk).2 (fun p hp => ?_))⟩
  · rw [List.mem_singleton] at hp; subst hp; exact h.st
  · rw [List.mem_singleton] at hp; subst hp; rw [wcut_size hB]; exact h.lo
  · rw [List.mem_singleton] at hp; subst hp; exact hne k hk
theorem BagW.size {B gb mb last : Nat} {ms ex : List Ms} {w : World} (h : BagW B gb mb ms ex last w) : B ≤ w.heap.size := by have := h.st.lt; have := h.lo; omega
/-- a message more that was told -/
theorem Bgm.more {B mb : Nat} {ms ex : List Ms} {w w' : World} (h : Bgm B mb ms ex w) (hB : B ≤ w.heap.size) (hb : Below w.heap.size w w') (x : Ms) (hO : Ou w' w.heap.size x.s.v x.s.xs) : Bgm B mb ms (x :: ex) w' := by
  have h' := h.later hb
  refine ⟨h'.mp, h'.lo, fun m hm => ?_, ?_, h'.up⟩
  · rcases List.mem_append.1 hm with hm | hm
    · exact h'.bd m (by simp [hm])
    · rcases List.mem_cons.1 hm with rfl | hm
      · exact own_mono hO hB
      · exact h'.bd m (by simp [hm])
  · have h1 := h.ap
    have hx : ∀ m ∈ ms ++ ex, ∀ k, m.s.v.ownBlock = some k → x.s.v.ownBlock ≠ some k := fun m hm k hk e => by
      have q1 := (own_lt (h.bd m hm) hk).2
      have q2 := (own_lt hO e).1
      omega
    unfold Apd at h1 ⊢
    rw [List.pairwise_append] at h1 ⊢
    refine ⟨h1.1, List.pairwise_cons.2 ⟨fun m hm k hk e => hx m (by simp [hm]) k e hk, h1.2.1⟩, fun a ha b hb => ?_⟩
    rcases List.mem_cons.1 hb with rfl | hb
    · exact hx a (by simp [ha])
    · exact h1.2.2 a ha b hb
theorem BagW.more {B gb mb last : Nat} {ms ex : List Ms} {w w' : World} (h : BagW B gb mb ms ex last w) (hb : Below w.heap.size w w') (x : Ms) (hO : Ou w' w.heap.size x.s.v x.s.xs) : BagW B gb mb ms (x :: ex) last w' :=
  ⟨h.st.later hb, h.g.more h.size hb x hO, h.lo, h.le, h.id, h.bl⟩
/-- fewer that were told -/
theorem Bgm.fewer {B mb : Nat} {ms ex ex' : List Ms} {w : World} (h : Bgm B mb ms ex w) (hs : List.Sublist ex' ex) : Bgm B mb ms ex' w :=
  have hs' := (List.Sublist.refl ms).append hs
  ⟨h.mp, h.lo, fun m hm => h.bd m (hs'.subset hm), List.Pairwise.sublist hs' h.ap, h.up⟩
theorem BagW.fewer {B gb mb last : Nat} {ms ex ex' : List Ms} {w : World} (h : BagW B gb mb ms ex last w) (hs : List.Sublist ex' ex) : BagW B gb mb ms ex' last w := ⟨h.st, h.g.fewer hs, h.lo, h.le, h.id, h.bl⟩
end Go.Proofs.Ytaepmfkdnjembaa
