import Derived.Test.YtaidncibndcbfabDoorQTrtW
import Derived.Test.YtaidncibndcbfabDoorQRtsW
set_option linter.unusedVariables false
namespace Go.Proofs.YtaidncibndcbfabDoor
open Go.RowKit

theorem Ld.but16 {w w' : World} {g : Nat} (h : Ld w) (hb : But g w w') (hg : 3 < g ∧ 0 < g) : Ld w' := ⟨h.1.but hb (by omega), h.2.but hb (by omega)⟩
theorem D6Laid.but16 {w w' : World} {g : Nat} (h : D6Laid w) (hb : But g w w') (hg : 2 < g) : D6Laid w' := fun i hi => (hb.cell (p := ⟨2, i, none⟩) h.lt (show 2 ≠ g by omega)).trans (h i hi)
theorem TrO.new (w w' : World) (p : Nat) (h : Tre w' p 0 (fun _ => zeroH)) : TrO w' p [] := ⟨⟨_, h, Peaks.nil _ _ _⟩, fun l hl => by cases hl⟩
theorem TrO.sizeC {w : World} {p : Nat} {ls : List (List Int)} (h : TrO w p ls) : Calls Tryd.prog 8 #[.pointer (some ⟨p, 0, none⟩)] w fun e w' => e = .returned (.int .i64 ls.length) ∧ w' = w := by
  obtain ⟨pk, h1, -⟩ := h.ex
  exact tsize_any w p _ pk h1
def twoH (a b : Int) : List Int := a :: b :: List.replicate 30 0
theorem twoH_hs {a b : Int} (ha : 0 ≤ a ∧ a ≤ 255) (hb : 0 ≤ b ∧ b ≤ 255) : Hs (twoH a b) := by
  refine ⟨rfl, fun z hz => ?_⟩
  unfold twoH at hz
  rcases List.mem_cons.1 hz with rfl | hz
  · exact ha
  rcases List.mem_cons.1 hz with rfl | hz
  · exact hb
  · have := List.eq_of_mem_replicate hz; omega
theorem Tryd.two (a b : Int) : Tryd.prog.built 27 [(0, .int .u8 a), (1, .int .u8 b)] = some (U8 (twoH a b)).toArray := by kernel_rfl
theorem wpList_two {ops : Array Oper} {rest : List Oper} {o : Oper} {a : Act} {w : World} {Q : Exit → Act → World → Prop} (hw : Region.wanted o (yielded ops a.tmps) = true) (x y : Operand) (ho : o.op = .build 27 #[(0, x), (1, y)])
    (p q : Int) (hx : a.eval x = .int .u8 p) (hy : a.eval y = .int .u8 q) (h : wpList Tryd.prog ops Q rest (a.put o.dst (hV (twoH p q))) w) : wpList Tryd.prog ops Q (o :: rest) a w := by
  refine wpList_val (hV (twoH p q)) hw ?_ h
  have hrun := run_build (P := Tryd.prog) w 27 #[(0, .int .u8 p), (1, .int .u8 q)] (U8 (twoH p q)).toArray (Tryd.two p q)
  simp [execOp, ho, hx, hy, hrun, Result.andThen]
  rfl
theorem u8_bd (z : Int) : 0 ≤ IntKind.u8.wrap z ∧ IntKind.u8.wrap z ≤ 255 := by
  first | (rw [IntKind.wrap_u8]; omega) | (rw [IntKind.wrap_u8']; omega)

end Go.Proofs.YtaidncibndcbfabDoor
