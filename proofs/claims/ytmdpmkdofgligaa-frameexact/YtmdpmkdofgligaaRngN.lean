import Derived.RangeFuncNested
import Derived.RangeFuncBound
import Derived.RangeFuncCalls
import Derived.RangeFuncLeaves
import Derived.Shelf.Abstract
import Derived.Shelf.RegionOpen
import Derived.WalkKit
import Derived.OwnWalkIn
import Derived.TacticsInMore
import Derived.LoopNIn
import Derived.LoopIn
import Derived.Test.YtmdpmkdofgligaaProg
set_option linter.unusedVariables false
namespace Go.Proofs.Ytmdpmkdofgligaa
open Go.RowKit Go.Shelf

/-- an iterator that hands on what lies well in memory (R) where it hands it on -/
def SeqN {α : Type} (F : Fence) (n : Nat) (P : Program) (g : Nat) (lb : Array Value) (encs : α → Array Value) (R : α → World → World → Prop) (Kp : World → World → Prop) (S Sp : List α → Prop) (w : World) : Prop :=
  ∀ (l : Nat) (J Jx : List α → World → Prop) (W : World), Below w.heap.size w W → AbidesFrom W.heap.size J → AbidesFrom W.heap.size Jx →
    (∀ pre x W0 W1, J pre W0 → J pre W1 → R x W0 W1 → Sp (pre ++ [x]) → YieldAt F (n - 1) P l (encs x) W1 fun e W' => (e = .returned (.bool true) ∧ J (pre ++ [x]) W' ∧ Kp W1 W') ∨ (e = .returned (.bool false) ∧ Jx (pre ++ [x]) W')) →
    J [] W → CallsIn F n P g (#[.func (.yield l) #[] #[]] ++ lb) W fun e W' => (∃ v, e = .returned v) ∧ ((∃ xs, S xs ∧ J xs W') ∨ (∃ pre, Sp pre ∧ Jx pre W'))

section
variable {F : Fence} {n : Nat} {P : Program}

set_option maxHeartbeats 2000000 in
set_option maxRecDepth 100000 in
/-- a range over such an iterator: the body may count on R -/
theorem range_N {α : Type} {g : Operand} {ps : Array Tmp} {assign body : Code} {Q : Exit → Act → World → Prop} {a : Act} {w : World}
    (hro : F.round = none) (h1 : 1 ≤ n) {gf : Nat} {lb : Array Value} (hg : a.eval g = .func (.func gf) #[] lb) (hFg : F.fn gf) (eg : ∀ args w, (callFunc gf args).run P w = .ok (.enter gf args) w)
    {encs : α → Array Value} {R : α → World → World → Prop} {Kp : World → World → Prop} {S Sp : List α → Prop} {w0 : World} (hseq : SeqN F (n - 1) P gf lb encs R Kp S Sp w0)
    (hKt : ∀ {A B C : World}, Kp A B → Kp B C → Kp A C) (hKb : ∀ (W : World) (l : Nat) (o o' : Obj), w.heap.size ≤ l → W.heap[l]? = some o → o.isCells = false → o.isWalk = false → Kp W (W.putObj l o')) (hb0 : Below w0.heap.size w0 w) (hps : ∀ x, (encs x).size = ps.size)
    (I : List α → World → Prop) (Ix : Code → List α → World → Prop) (hI : OwnFrom w.heap.size I) (hIx : ∀ c, OwnFrom w.heap.size (Ix c)) (h0 : I [] w) (Ax : List α → α → Act → World → Prop) (hAx : ∀ pre x a', OwnFrom w.heap.size (fun (_ : Unit) W => Ax pre x a' W))
    (hassign : ∀ (l : Nat) (pre : List α) (x : α) (W0 W : World) (K : Act → World → Prop), I pre W0 → I pre W → R x W0 W → (∀ a' W', KeepsFrom w.heap.size W W' → Kp W W' → I pre W' → Ax pre x a' W' → K a' W') →
      assign.wpIn (F.inRound l) (n - 1 - 1) P (Exit.then K (fun _ _ _ => False)) { tmps := (ps.zip (encs x)).foldl (fun t (p, v) => t.setIfInBounds p v) a.tmps, defers := [] } W)
    (hbody : ∀ (l : Nat) (pre : List α) (x : α) (a' : Act) (W : World), w.heap.size ≤ l → I pre W → Ax pre x a' W → Sp (pre ++ [x]) → body.wpIn (F.inRound l) (n - 1 - 1) P (ownPostG w.heap.size Kp I Ix (pre ++ [x]) W) a' W)
    (hdone : ∀ (D : Nat) (xs : List α) (W : World), w.heap.size ≤ D → S xs → I xs W → W.heap[D]? = some (.deferred (some [])) → Q .normal { a with defers := { target := .collected D, args := #[] } :: a.defers } W)
    (hstop : ∀ (D : Nat) (c : Code) (pre : List α) (W : World), w.heap.size ≤ D → Sp pre → Ix c pre W → W.heap[D]? = some (.deferred (some [])) → c.wpIn F n P Q { a with defers := { target := .collected D, args := #[] } :: a.defers } W) :
    (Code.rangeFunc g ps assign body).wpIn F n P Q a w := by
  -- the worlds that the iterator sees: B the place of the loop's record
  refine wpIn_rangeFunc fun fn hfn => ?_
  rw [hro]
  obtain ⟨B, hB⟩ : ∃ B, B = w.heap.size + 1 := ⟨_, rfl⟩
  obtain ⟨lr, hlr⟩ : ∃ lr : LoopState → Option Code → Loop, lr = fun st pe => { state := st, pending := pe, fn, tmps := a.tmps, params := ps, assign, body, defers := w.heap.size } := ⟨_, rfl⟩
  obtain ⟨lo, hlo⟩ : ∃ lo : LoopState → Option Code → Obj, lo = fun st pe => .loop (lr st pe) := ⟨_, rfl⟩
  have lo1 : ∀ st pe, lo st pe = .loop (lr st pe) := fun st pe => by rw [hlo]
  have nc : ∀ st pe, (lo st pe).isCells = false := fun st pe => by rw [hlo]; rfl
  have nw : ∀ st pe, (lo st pe).isWalk = false := fun st pe => by rw [hlo]; rfl
  obtain ⟨W1, hW1⟩ : ∃ W1, (w.alloc (.deferred (some []))).alloc (lo .ready none) = W1 := ⟨_, rfl⟩
  have sz1 : W1.heap.size = w.heap.size + 2 := by rw [← hW1]; simp
  have hL1 : W1.heap[B]? = some (lo .ready none) := by
    have h := World.alloc_heap_new (w.alloc (.deferred (some []))) (lo .ready none)
    rw [World.size_alloc, ← hB, hW1] at h
    exact h
  have hD1 : W1.heap[w.heap.size]? = some (.deferred (some [])) := by rw [← hW1]; exact (Below.heap_alloc _ _ _ (by simp)).trans (World.alloc_heap_new w _)
  have hI1 : I [] W1 := by rw [← hW1]; exact hI.alloc _ (hI.alloc _ h0)
  have hb1 : Below w0.heap.size w0 W1 := by rw [← hW1]; exact hb0.trans ((((Below.refl _ w).alloc (Nat.le_refl _) _).alloc (by simp) _).mono hb0.size)
  have notw : ∀ {A : World} {row : Option Nat}, (∀ r, row = some r → W1.heap.size ≤ r ∧ ∃ o : Obj, A.heap[r]? = some o ∧ o.isWalk = true) → (∀ r, row = some r → w.heap.size ≤ r ∧ ∃ o : Obj, A.heap[r]? = some o ∧ o.isCells = false) :=
    fun hr r e => by obtain ⟨h2, o, ho, hw⟩ := hr r e; exact ⟨by omega, o, ho, Obj.not_cells_of_walk hw⟩
  have runs := hseq B (fun pre W => I pre W ∧ W.heap[B]? = some (lo .ready none) ∧ W.heap[w.heap.size]? = some (.deferred (some [])))
    (fun pre W => ∃ c, Ix c pre W ∧ W.heap[B]? = some (lo .done (some c)) ∧ W.heap[w.heap.size]? = some (.deferred (some []))) W1 hb1
    (fun s A C row hs hg' hr => ⟨hI s A C row hs.1 hg' (notw hr), (grownBy_keeps hg' (fun r e => (hr r e).2) hs.2.1 (nw _ _)).trans hs.2.1, (grownBy_keeps hg' (fun r e => (hr r e).2) hs.2.2 rfl).trans hs.2.2⟩)
    (fun s A C row hs hg' hr => by
      obtain ⟨c, hc, hl, hk⟩ := hs
      exact ⟨c, hIx c s A C row hc hg' (notw hr), (grownBy_keeps hg' (fun r e => (hr r e).2) hl (nw _ _)).trans hl, (grownBy_keeps hg' (fun r e => (hr r e).2) hk rfl).trans hk⟩)
    (by
      rintro pre x V0 V ⟨hi0, -, -⟩ ⟨hi, hl, hk⟩ hx hN
      have hy := run_yield (P := P) (args := encs x) ((lo1 _ _) ▸ hl) (by rw [hlr]; exact hps x)
      rw [hlr] at hy
      refine ⟨fn, _, assign, body, hy, roundIn_of_wpIn hfn (hassign _ pre x V0 V _ hi0 hi hx fun a' V1 kf kp i1 ax => ?_)⟩
      have l1 := kf.same _ _ (by omega) hl (nc _ _)
      have k1 := kf.same _ _ (Nat.le_refl _) hk rfl
      have lt1 : B < V1.heap.size := (Array.getElem?_eq_some_iff.1 l1).1
      have rb : (Instr.beginRound B).run P V1 = .ok () (V1.putObj B (lo .busy none)) := by
        have h := run_beginRound (P := P) ((lo1 _ _) ▸ l1) (by rw [hlr])
        rw [lo1 .busy none]
        rw [hlr] at h ⊢
        exact h
      refine ⟨_, rb, ?_⟩
      have l2 : (V1.putObj B (lo .busy none)).heap[B]? = some (lo .busy none) := World.putObj_heap_same lt1
      have k2 : (V1.putObj B (lo .busy none)).heap[w.heap.size]? = some (.deferred (some [])) := (World.putObj_heap_other (by omega)).trans k1
      refine wpIn_mono (hbody _ pre x a' (V1.putObj B (lo .busy none)) (by omega) (hI.putObj _ i1 (by omega) l1 (nc _ _)) ((hAx pre x a').putObj (s := ()) _ ax (by omega) l1 (nc _ _)) hN) ?_
      have out : ∀ (jump : Option Code) (V3 : World), KeepsFrom w.heap.size (V1.putObj B (lo .busy none)) V3 → V3.heap[B]? = some (lo .busy none) ∧ V3.heap[w.heap.size]? = some (.deferred (some [])) ∧
          (Instr.endRound B jump).run P V3 = .ok (.bool jump.isNone) (V3.putObj B (lo (if jump.isNone then .ready else .done) jump)) := fun jump V3 k3 => by
        have h3 := k3.same _ _ (by omega) l2 (nc _ _)
        refine ⟨h3, k3.same _ _ (Nat.le_refl _) k2 rfl, ?_⟩
        have h := run_endRound (P := P) jump ((lo1 _ _) ▸ h3)
        rw [lo1]
        rw [hlr] at h ⊢
        exact h
      have at3 : ∀ (V3 : World) (o : Obj), V3.heap[B]? = some (lo .busy none) → V3.heap[w.heap.size]? = some (.deferred (some [])) → (V3.putObj B o).heap[B]? = some o ∧ (V3.putObj B o).heap[w.heap.size]? = some (.deferred (some [])) := fun V3 o h3 d3 =>
        ⟨World.putObj_heap_same (Array.getElem?_eq_some_iff.1 h3).1, (World.putObj_heap_other (by omega)).trans d3⟩
      rintro e a3 V3 hp
      match e, hp with
      | .normal, ⟨k3, p3, i3⟩ =>
        obtain ⟨h3, d3, r3⟩ := out none V3 k3
        have q3 := at3 V3 (lo .ready none) h3 d3
        exact ⟨_, _, r3, .inl ⟨rfl, ⟨hI.putObj _ i3 (by omega) h3 (nc _ _), q3.1, q3.2⟩, hKt kp (hKt (hKt (hKb _ _ _ _ (by omega) l1 (nc _ _) (nw _ _)) p3) (hKb _ _ _ _ (by omega) h3 (nc _ _) (nw _ _)))⟩⟩
      | .ret, ⟨k3, i3⟩ =>
        obtain ⟨h3, d3, r3⟩ := out (some .ret) V3 k3
        have q3 := at3 V3 (lo .done (some .ret)) h3 d3
        exact ⟨_, _, r3, .inr ⟨rfl, .ret, (hIx _).putObj _ i3 (by omega) h3 (nc _ _), q3.1, q3.2⟩⟩
      | .exit id, ⟨k3, i3⟩ =>
        obtain ⟨h3, d3, r3⟩ := out (some (.exit id)) V3 k3
        have q3 := at3 V3 (lo .done (some (.exit id))) h3 d3
        exact ⟨_, _, r3, .inr ⟨rfl, .exit id, (hIx _).putObj _ i3 (by omega) h3 (nc _ _), q3.1, q3.2⟩⟩
      | .goto t, ⟨k3, i3⟩ =>
        obtain ⟨h3, d3, r3⟩ := out (some (.goto t)) V3 k3
        have q3 := at3 V3 (lo .done (some (.goto t))) h3 d3
        exact ⟨_, _, r3, .inr ⟨rfl, .goto t, (hIx _).putObj _ i3 (by omega) h3 (nc _ _), q3.1, q3.2⟩⟩
      | .panic _, h => exact h.elim
      | .outgrown, h => exact h.elim)
    ⟨hI1, hL1, hD1⟩
  refine ⟨B, [{ target := .collected w.heap.size, args := #[] }], W1, { target := .fn (.func gf) lb, args := #[.func (.yield B) #[] #[]] }, W1, gf, #[.func (.yield B) #[] #[]] ++ lb, W1, ?_, ?_, ?_, ?_, fun _ => h1, ?_⟩
  · rw [← hW1, hlo, hlr, hB]; exact run_enterLoop_outer _ _ _ _ _
  · simp only [resolve, hg]
    simp [go_sem]
  · intro f' hf'; simp [Target.leads] at hf'; subst hf'; exact hFg
  · simp [invoke, go_sem, eg]
  · refine runs.mono ?_
    rintro e V ⟨⟨v, rfl⟩, (⟨xs, hS, hi, hl, hk⟩ | ⟨pre, hSp, c, hi, hl, hk⟩)⟩
    · have h := run_endLoop (P := P) ((lo1 _ _) ▸ hl) (by rw [hlr]; simp)
      rw [hlr] at h
      exact ⟨none, _, h, hdone _ xs _ (Nat.le_refl _) hS (hI.putObj _ hi (by omega) hl (nc _ _)) ((World.putObj_heap_other (by omega)).trans hk)⟩
    · have h := run_endLoop (P := P) ((lo1 _ _) ▸ hl) (by rw [hlr]; simp)
      rw [hlr] at h
      exact ⟨some c, _, h, hstop _ c pre _ (Nat.le_refl _) hSp ((hIx c).putObj _ hi (by omega) hl (nc _ _)) ((World.putObj_heap_other (by omega)).trans hk)⟩
/-- both ways out lead to one place -/
theorem range_N2 {α : Type} {g : Operand} {ps : Array Tmp} {assign body : Code} {Q : Exit → Act → World → Prop} {a : Act} {w : World}
    (hro : F.round = none) (h1 : 1 ≤ n) {gf : Nat} {lb : Array Value} (hg : a.eval g = .func (.func gf) #[] lb) (hFg : F.fn gf) (eg : ∀ args w, (callFunc gf args).run P w = .ok (.enter gf args) w)
    {encs : α → Array Value} {R : α → World → World → Prop} {Kp : World → World → Prop} {S Sp : List α → Prop} {w0 : World} (hseq : SeqN F (n - 1) P gf lb encs R Kp S Sp w0)
    (hKt : ∀ {A B C : World}, Kp A B → Kp B C → Kp A C) (hKb : ∀ (W : World) (l : Nat) (o o' : Obj), w.heap.size ≤ l → W.heap[l]? = some o → o.isCells = false → o.isWalk = false → Kp W (W.putObj l o')) (hb0 : Below w0.heap.size w0 w) (hps : ∀ x, (encs x).size = ps.size)
    (I : List α → World → Prop) (Ix : Code → List α → World → Prop) (hI : OwnFrom w.heap.size I) (hIx : ∀ c, OwnFrom w.heap.size (Ix c)) (h0 : I [] w) (Ax : List α → α → Act → World → Prop) (hAx : ∀ pre x a', OwnFrom w.heap.size (fun (_ : Unit) W => Ax pre x a' W))
    (hassign : ∀ (l : Nat) (pre : List α) (x : α) (W0 W : World) (K : Act → World → Prop), I pre W0 → I pre W → R x W0 W → (∀ a' W', KeepsFrom w.heap.size W W' → Kp W W' → I pre W' → Ax pre x a' W' → K a' W') →
      assign.wpIn (F.inRound l) (n - 1 - 1) P (Exit.then K (fun _ _ _ => False)) { tmps := (ps.zip (encs x)).foldl (fun t (p, v) => t.setIfInBounds p v) a.tmps, defers := [] } W)
    (hbody : ∀ (l : Nat) (pre : List α) (x : α) (a' : Act) (W : World), w.heap.size ≤ l → I pre W → Ax pre x a' W → Sp (pre ++ [x]) → body.wpIn (F.inRound l) (n - 1 - 1) P (ownPostG w.heap.size Kp I Ix (pre ++ [x]) W) a' W)
    (Fin : List α → World → Prop) (hS : ∀ xs W, S xs → I xs W → Fin xs W) (hSp : ∀ c pre W, Sp pre → Ix c pre W → Fin pre W) (hQ : ∀ c pre a W, Ix c pre W → Q .normal a W → c.wpIn F n P Q a W)
    (hend : ∀ (D : Nat) (xs : List α) (W : World), w.heap.size ≤ D → Fin xs W → W.heap[D]? = some (.deferred (some [])) → Q .normal { a with defers := { target := .collected D, args := #[] } :: a.defers } W) :
    (Code.rangeFunc g ps assign body).wpIn F n P Q a w :=
  range_N hro h1 hg hFg eg hseq hKt hKb hb0 hps I Ix hI hIx h0 Ax hAx hassign hbody (fun D xs W hD h2 h3 h4 => hend D xs W hD (hS xs W h2 h3) h4)
    (fun D c pre W hD h2 h3 h4 => hQ c pre _ W h3 (hend D pre W hD (hSp c pre W h2 h3) h4))
end
end Go.Proofs.Ytmdpmkdofgligaa
