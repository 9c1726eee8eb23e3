import Derived.Test.YtmdpmkdofgligaaRngN
import Derived.Deep.RegionHeld3
set_option linter.unusedVariables false
namespace Go.Proofs.Ytmdpmkdofgligaa
open Go.RowKit Go.Shelf

/-- goes on, and nothing else -/
def Only (K : Act → World → Prop) : Exit → Act → World → Prop
  | .normal, a, w => K a w
  | _, _, _ => False
theorem only_lets {K : Act → World → Prop} : ¬ LetsOut (Only K) := fun ⟨_, _, h⟩ => h
theorem wpOpsIn_of {l n : Nat} {P : Program} {ops : Array Oper} {Q : Exit → Act → World → Prop} (hnd : ∀ (i : Nat) (o : Oper), ops[i]? = some o → ∀ c, o.op ≠ .defer c) (hL : ¬ LetsOut Q) :
    ∀ (sched : List Nat) (a : Act) (w : World), wpOps P ops Q sched a w → wpOpsIn (Fence.wide.inRound l) n P ops Q sched a w
  | [], a, w, h => h
  | i :: rest, a, w, h => by
    have ih := wpOpsIn_of (l := l) (n := n) (P := P) hnd hL rest
    unfold wpOps at h
    unfold wpOpsIn
    cases ho : ops[i]? with
    | none => rw [ho] at h; exact ih a w h
    | some o =>
      rw [ho] at h
      simp only at h ⊢
      by_cases hw : Region.wanted o (yielded ops a.tmps) = true
      · rw [if_pos hw] at h ⊢
        have h1 : o.wp P a w (wpOps P ops Q rest) Q := h.resolve_right (fun e => hL e.2)
        refine ⟨fun _ _ => trivial, ?_⟩
        rw [show (Fence.wide.inRound l).round = some l from rfl, Oper.semAt_some l a.eval o (hnd i o ho)]
        unfold Oper.wp at h1
        generalize (execOp a.eval o).run P w = r at h1 ⊢
        cases r with
        | ok x w' =>
          cases x with
          | value v => exact ih _ _ h1
          | skip => exact ih _ _ h1
          | defer d => exact ih _ _ h1
          | enter f args =>
            refine ⟨fun e => by simp [Fence.wide, Fence.inRound] at e, ?_⟩
            have h2 : Calls P f args w' _ := h1
            exact callsIn_wide.2 (h2.mono fun e w'' he => by
              cases e with
              | returned v => exact ih _ _ he
              | panicked c => exact he
              | outgrown => exact he)
          | row r args =>
            refine ⟨fun e => by simp [Fence.wide, Fence.inRound] at e, ?_⟩
            intro c cs _
            obtain ⟨v, w'', hv, hs⟩ := (h1 : Rows P r args w' _) c cs
            exact ⟨v, w'', ih _ _ hv, stepsIn_wide.2 hs⟩
          | _ => exact (h1 : False).elim
        | halt x w' =>
          cases x <;> first | exact h1 | exact h1.elim
      · rw [if_neg hw] at h ⊢
        exact ⟨fun _ _ => trivial, ih _ _ h⟩
/-- a region that draws its order, inside a round of a range -/
theorem regIn {l n id : Nat} {P : Program} {ops : Array Oper} {K : Act → World → Prop} {Q : Exit → Act → World → Prop} {S : World → Prop} {a : Act} {w : World} (hm : P.follows .mixedOrders = true) (hnd : (ops.toList.all fun o => match o.op with | .defer _ => false | _ => true) = true)
    (hS : S w.drew) (h : S w.drew → wpAnyH P .any ops (Only K) S ops.size (Array.replicate ops.size false) a w.drew) : (Code.region id ops true).wpIn (Fence.wide.inRound l) n P (Exit.then K Q) a w := by
  refine Code.wpIn_mono (Q := Only K) (fun e a w he => ?_) (wpIn_region_draw fun t => wpOpsIn_of (fun i o ho c hc => ?_) only_lets _ _ _ ?_)
  · cases e with
    | normal => exact he
    | _ => exact he.elim
  · have h1 := List.all_eq_true.1 hnd o (Array.mem_toList_iff.2 (Array.mem_of_getElem? ho))
    rw [hc] at h1
    simp at h1
  · simp only [Region.schedule, hm, Bool.true_or, if_true]
    exact wpAny_sound ops.size t _ a _ (wpAny_of_held _ _ _ _ (h hS))
end Go.Proofs.Ytmdpmkdofgligaa
