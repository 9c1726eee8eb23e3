import Derived.Test.YtdcaojiiaocnaaaDoorQGbgZ
import Derived.Lay
import Derived.Test.YtdcaojiiaocnaaaDoorQOpenG
import Derived.Test.YtdcaojiiaocnaaaDoorQBkW25
import Derived.Test.YtdcaojiiaocnaaaDoorTie
import Derived.Test.YtdcaojiiaocnaaaDoorCards
import Derived.SevenTiedAt
set_option linter.unusedSimpArgs false
set_option linter.unusedVariables false
namespace Go.Proofs.YtdcaojiiaocnaaaDoor
open Go.ChangeShapes Go.WideShapes Go.ChangeAt Go.WideMaps Go.WideElems Go.RowKit

/-! A world that meets what is laid: a pinned table is laid by the function, for the door's run is too great for it. -/
abbrev NM25 : List String := LD25.map (·.1)
abbrev PL25 : List (String × DataW Unit) := LD25.filter fun x => x.2.handleName?.isNone
def grt25 (G : List String) (L : List (String × DataW Unit)) : List (String × DataW Unit) := L.filter fun x => G.contains x.1
def witP (P : Program) (L : List (String × DataW Unit)) (w0 : World) : World := w0.layVars P L
theorem heap_call25 (w : World) (args : Array Value) : (w.forCall (fun _ _ => 0) ⟨#[], args, []⟩).memory.heap = w.heap := rfl
theorem wit_heap (os : Os) (args : Array Value) : ((witP Tryd.prog (grt25 NM25 PL25) (World.doorLaid Tryd.prog 4000 os)).forCall (fun _ _ => 0) ⟨#[], args, []⟩).memory.heap = ((World.doorLaid Tryd.prog 4000 os).layVars Tryd.prog (grt25 NM25 PL25)).heap := (heap_call25 _ _).trans (by unfold witP; rfl)
theorem e2_25 : (PL25.filter fun x => !NM25.contains x.1) = [] := by kernel_rfl
theorem door_fits (os : Os) : (World.doorLaid Tryd.prog 4000 os).layFits Tryd.prog (grt25 NM25 PL25) [] = true := by kernel_rfl
theorem door_ifaces (os : Os) (args : Array Value) : (World.doorLaid Tryd.prog 4000 os).layIfaces Tryd.prog (grt25 NM25 PL25) ((witP Tryd.prog (grt25 NM25 PL25) (World.doorLaid Tryd.prog 4000 os)).forCall (fun _ _ => 0) ⟨#[], args, []⟩).memory = true := by kernel_rfl
theorem lay_gen25 {P : Program} {w0 w' : World} (L : List (String × DataW Unit)) (G : List String) (hh : w'.heap = (w0.layVars P (grt25 G L)).heap) (hf : w0.layFits P (grt25 G L) [] = true) (hi : w0.layIfaces P (grt25 G L) w' = true) (he : (L.filter fun x => !G.contains x.1) = []) : laidMet P L w' :=
  laidMet_layVars G [] hh hf hi (by rw [he]; exact LaidIn.none)
theorem door_hd (os : Os) (args : Array Value) : laidMet Tryd.prog PL25 ((witP Tryd.prog (grt25 NM25 PL25) (World.doorLaid Tryd.prog 4000 os)).forCall (fun _ _ => 0) ⟨#[], args, []⟩).memory := by
  have h1 := wit_heap os args
  have h2 := door_fits os
  have h3 := door_ifaces os args
  have h4 := e2_25
  generalize ((witP Tryd.prog (grt25 NM25 PL25) (World.doorLaid Tryd.prog 4000 os)).forCall (fun _ _ => 0) ⟨#[], args, []⟩).memory = w' at h1 h3 ⊢
  generalize World.doorLaid Tryd.prog 4000 os = w0 at h1 h2 h3
  generalize PL25 = L at h1 h2 h3 h4 ⊢
  generalize NM25 = G at h1 h2 h3 h4
  exact lay_gen25 L G h1 h2 h3 h4
theorem door_met25 (os : Os) (args : Array Value) : laidMetH Tryd.prog LD25 ((witP Tryd.prog (grt25 NM25 PL25) (World.doorLaid Tryd.prog 4000 os)).forCall (fun _ _ => 0) ⟨#[], args, []⟩).memory :=
  laidMetH_of_parts3 (fuel := 8) (door_hd os args) (by kernel_rfl) (by kernel_rfl)
end Go.Proofs.YtdcaojiiaocnaaaDoor

namespace Go.Proofs.YtdcaojiiaocnaaaDoor.ScriptBackP
open Go.ChangeShapes Go.WideShapes Go.ChangeAt Go.WideMaps Go.WideElems Go.RowKit

set_option maxRecDepth 100000 in
theorem lifted (os : Os) (started : os.Started) (H : Type) (enc : TypeId × Value → H) :
    ReturnsInHanded {} Tryd.checked os 4 .any (fun w args => (Rows.scriptBackSpec.pre enc Tryd.prog Tryd.f4 [] false w args ∧ laidMetH Tryd.prog LD25 w) ∧ sizedMet enc Tryd.prog Tryd.f4 (OpenSpec.ofChange Rows.scriptBackSpec) false w args)
      (Rows.scriptBackSpec.post enc Tryd.prog Tryd.f4 false true false false) := by
  refine and_shaped25 (C := Tryd.checked) (X := fun w _ => laidMetH Tryd.prog LD25 w) (fun _ _ _ hh h => h.of_heap hh) own started (by kernel_rfl) Tryd.func4
    (ChangeSpec.witness_shaped (enc := enc) (C := Tryd.checked) (os := os) (X := fun w _ => laidMetH Tryd.prog LD25 w) false (witP Tryd.prog (grt25 NM25 PL25) (World.doorLaid Tryd.prog 4000 os)) #[aV (opC 0 0 0 0 0 (.slice none 0 0)), .slice none 0 0] 8 (World.layVars_os _ _ _) (World.shaped_of_ZipB (by kernel_rfl) (by kernel_rfl)) (by kernel_rfl) (by kernel_rfl) (by kernel_rfl) (door_met25 os _)) ?_
  intro W base args ds gs before hval0 hW _ hsz0 hL hSh _
  have hval : ∀ (j : Nat) t v, Tryd.f4.params[j]? = some t → args[j]? = some v → Value.okWide Tryd.prog W .any base t v := hval0
  have hW' := hW
  obtain ⟨p, q, hA0, hV, rfl, hfz, hnd⟩ := hW
  have hA : DataW.TrodAll enc Tryd.prog W 0 (fun _ => true) true Tryd.f4.params.toList args.toList ds p := hA0
  rw [Tryd.params4] at hA hval
  obtain ⟨v0, vs0, d0, ds0, p0, q0, hargs, rfl, rfl, h0, r0⟩ := trodAll_cons hA
  obtain ⟨v1, vs1, d1, ds1, p1, q1, rfl, rfl, rfl, h1, r1⟩ := trodAll_cons r0
  obtain ⟨rfl, rfl, rfl⟩ := trodAll_nil r1
  obtain rfl : args = #[v0, v1] := by cases args; simp_all
  obtain ⟨rfl, rfl⟩ := trodVars_none hV
  have k0 := h0
  have lt0 : ∀ x ∈ p0, x.block < W.heap.size := by obtain ⟨m, hm⟩ := k0; exact DataW.trod_lt m _ _ _ hm
  obtain ⟨s0, e0, ok0⟩ := open_op_v (hval 0 30 v0 rfl rfl) h0
  subst e0
  have k1 := h1
  have lt1 : ∀ x ∈ p1, x.block < W.heap.size := by obtain ⟨m, hm⟩ := k1; exact DataW.trod_lt m _ _ _ hm
  obtain ⟨s1, e1, ok1⟩ := open_y25_v (hval 1 28 v1 rfl rfl) h1
  subst e1
  have hP := pk_of hL hSh
  refine (back_law s0.k s0.n s0.o s0.c s0.p s0.s s1 W ok0.s ok1.1 ok0.b ok1.2 ⟨ok0.n, ok0.o, ok0.c, ok0.p⟩ hP).mono fun e W' ⟨he, bel⟩ => ?_
  subst he
  exact ⟨_, rfl, _, _, _, [], _, [], hW', trodAll_mk1 (shut_bool Tryd.underlying4 _), (trodAll_cons_mk (Below.trod laidOut (by kernel_rfl) (of_decide_eq_true (by kernel_rfl)) k0 bel lt0) (trodAll_cons_mk (Below.trod laidOut (by kernel_rfl) (of_decide_eq_true (by kernel_rfl)) k1 bel lt1) trodAll_mk0)), rfl, bel.frame _, fun h => by cases h⟩

theorem row : Rows.ScriptBackSaid :=
  OpenClaim.holds_of_wide 4 Tryd.f4 rfl rfl rfl rfl rfl rfl rfl ⟨rfl, rfl, rfl, rfl, rfl⟩ rfl rfl rfl rfl rfl (by kernel_rfl) Tryd.func4 (by kernel_rfl)
    (of_decide_eq_true (by kernel_rfl)) (by unfold Func.isWrapper; first | (rw [if_pos (by decide +kernel)]; kernel_rfl) | (rw [if_neg (by decide +kernel)]; exact ⟨rfl, rfl⟩))
    (fun os started H enc _ => lifted os started H enc)
end Go.Proofs.YtdcaojiiaocnaaaDoor.ScriptBackP
namespace Go.Proofs.YtdcaojiiaocnaaaDoor
theorem scriptBack_holds : Rows.ScriptBackCardSaid :=
  Claim7.holds_tied_plain_at .later [] [.data, .data, .data, .data, .handle, .pinned] true (true, "19528e3cc90327e0816cce4fd8481f39bdf7ce5e1781e75cc653e1c59a5f5c6b") true
    ScriptBackP.row (fun _ h => by cases h) (by kernel_rfl) (fun _ h => by cases h) scriptBack_row_tie rfl ⟨rfl, rfl⟩ (by kernel_rfl) rfl
    (fun f fn hf hfn => by
      obtain rfl : f = 4 := Option.some.inj ((show Tryd.prog.funcNamed "farebox/fareboxlaw25.ScriptBack" = some 4 by kernel_rfl).symm.trans hf) |>.symm
      obtain rfl : fn = Tryd.f4 := (Option.some.inj (Tryd.func4.symm.trans hfn)).symm
      exact ⟨by kernel_rfl, fun j t ht => by
        rw [Tryd.params4] at ht
        rcases j with _ | _ | j
        · obtain rfl : 30 = t := by simpa using ht
          kernel_rfl
        · obtain rfl : 28 = t := by simpa using ht
          kernel_rfl
        · simp at ht⟩)
    (by kernel_rfl)
#print axioms scriptBack_holds
end Go.Proofs.YtdcaojiiaocnaaaDoor
