import Derived.Test.YtmpbbookbmfbnabDoorRfZ
import Derived.Test.YtmpbbookbmfbnabDoorScF
namespace Go.Proofs.YtmpbbookbmfbnabDoor
open Go.RowKit

/-! Invert, held against the document's. -/
set_option maxHeartbeats 8000000 in
set_option maxRecDepth 100000 in
theorem inverts_law0 (x P : List Int) (q : Bool) (w : World) (hO : OLaid w) (hl : x.length = 32) (hP : P.length = 32)
    (hD : ∀ w', OLaid w' → Calls Tryd.prog 17 #[.agg (U8 x).toArray] w' fun e w'' => e = .returned (.tuple #[.agg (U8 P).toArray, .bool q]) ∧ Below w'.heap.size w' w'')
    (hE : ∀ w', Calls Tryd.prog 18 #[.agg (U8 x).toArray] w' fun e w'' => e = .returned (.tuple #[.agg (U8 P).toArray, .bool q]) ∧ Below w'.heap.size w' w'') :
    Calls Tryd.prog 5 #[.agg (U8 x).toArray] w fun r w' => r = .returned (.bool true) ∧ Below w.heap.size w w' := by
  have HO := hide hO
  have HLX := hide hl
  have HPL := hide hP
  have HD := hide hD
  have HE := hide hE
  clear hO hl hP hD hE
  obtain ⟨-, h0, hb⟩ := new1 w (U8 x).toArray 23
  have hx : Arr (w.alloc (.cells (U8 x).toArray 23)) w.heap.size 23 (U8 x) := h0
  clear h0
  have hzP := szS (unhide HPL)
  have hoP := all_one (U8_one P)
  go_enter Tryd.func5, Tryd.ntmps5
  go_wp2_with (first
    | refine wpList_load_row_if 23 (.tmp 1) rfl rfl _ rfl 23 _ (0, 0) _ hx Tryd.underlying23 rfl (szS (unhide HLX)) ?_)
  refine (unhide HD _ ((unhide HO).later hb)).mono ?_
  rintro e v1 ⟨rfl, hbel⟩
  replace hx := Arr.later (hx) hbel
  replace hb := bnext hb hb.size hbel
  clear hbel
  have hnew := newS v1 #[Value.int IntKind.u8 0, Value.int IntKind.u8 0, Value.int IntKind.u8 0, Value.int IntKind.u8 0, Value.int IntKind.u8 0, Value.int IntKind.u8 0, Value.int IntKind.u8 0, Value.int IntKind.u8 0, Value.int IntKind.u8 0, Value.int IntKind.u8 0, Value.int IntKind.u8 0, Value.int IntKind.u8 0, Value.int IntKind.u8 0, Value.int IntKind.u8 0, Value.int IntKind.u8 0, Value.int IntKind.u8 0, Value.int IntKind.u8 0, Value.int IntKind.u8 0, Value.int IntKind.u8 0, Value.int IntKind.u8 0, Value.int IntKind.u8 0, Value.int IntKind.u8 0, Value.int IntKind.u8 0, Value.int IntKind.u8 0, Value.int IntKind.u8 0, Value.int IntKind.u8 0, Value.int IntKind.u8 0, Value.int IntKind.u8 0, Value.int IntKind.u8 0, Value.int IntKind.u8 0, Value.int IntKind.u8 0, Value.int IntKind.u8 0] (U8 P).toArray 23
  have h3 : Arr _ v1.heap.size 23 (U8 P) := hnew.1
  replace hx := Arr.later (hx) hnew.2
  replace hb := bnext hb hb.size hnew.2
  clear hnew
  go_wp2_with (first
    | refine wpList_store_row rfl 23 (.tmp 3) (.tmp 10) rfl _ _ rfl rfl 23 _ (new1 _ _ _).2.1 hzP (by simp [unhide HPL]) hoP ?_
    | refine wpList_load_row_if 23 (.tmp 1) rfl rfl _ rfl 23 _ (0, 0) _ hx Tryd.underlying23 rfl (szS (unhide HLX)) ?_)
  refine (unhide HE _).mono ?_
  rintro e v2 ⟨rfl, hbel⟩
  replace hx := Arr.later (hx) hbel
  replace h3 := Arr.later (h3) hbel
  replace hb := bnext hb hb.size hbel
  clear hbel
  have hnew := newS v2 #[Value.int IntKind.u8 0, Value.int IntKind.u8 0, Value.int IntKind.u8 0, Value.int IntKind.u8 0, Value.int IntKind.u8 0, Value.int IntKind.u8 0, Value.int IntKind.u8 0, Value.int IntKind.u8 0, Value.int IntKind.u8 0, Value.int IntKind.u8 0, Value.int IntKind.u8 0, Value.int IntKind.u8 0, Value.int IntKind.u8 0, Value.int IntKind.u8 0, Value.int IntKind.u8 0, Value.int IntKind.u8 0, Value.int IntKind.u8 0, Value.int IntKind.u8 0, Value.int IntKind.u8 0, Value.int IntKind.u8 0, Value.int IntKind.u8 0, Value.int IntKind.u8 0, Value.int IntKind.u8 0, Value.int IntKind.u8 0, Value.int IntKind.u8 0, Value.int IntKind.u8 0, Value.int IntKind.u8 0, Value.int IntKind.u8 0, Value.int IntKind.u8 0, Value.int IntKind.u8 0, Value.int IntKind.u8 0, Value.int IntKind.u8 0] (U8 P).toArray 23
  have h5 : Arr _ v2.heap.size 23 (U8 P) := hnew.1
  replace hx := Arr.later (hx) hnew.2
  replace h3 := Arr.later (h3) hnew.2
  replace hb := bnext hb hb.size hnew.2
  clear hnew
  have hq1 : ∀ w, (Op.equalIn 10000 23 (.agg (U8 P).toArray) (.agg (U8 P).toArray)).run Tryd.prog w = .ok true w := fun w => eqST rfl (unhide HPL) w
  cases q <;> (
  go_wp2_with (first
    | refine wpList_store_row rfl 23 (.tmp 5) (.tmp 15) rfl _ _ rfl rfl 23 _ (new1 _ _ _).2.1 hzP (by simp [unhide HPL]) hoP ?_
    | refine wpList_load_row_if 23 (.tmp 3) rfl rfl _ rfl 23 _ (0, 0) _ h3 Tryd.underlying23 rfl (szS (unhide HPL)) ?_
    | refine wpList_load_row_if 23 (.tmp 5) rfl rfl _ rfl 23 _ (0, 0) _ h5 Tryd.underlying23 rfl (szS (unhide HPL)) ?_)
  go_ret
  exact ⟨rfl, hb⟩)
theorem inverts_law (x : List Int) (w : World) (hO : OLaid w) (hl : x.length = 32) (hd : Dg 256 x) :
    Calls Tryd.prog 5 #[.agg (U8 x).toArray] w fun r w' => r = .returned (.bool true) ∧ Below w.heap.size w w' :=
  inverts_law0 x (Sc (num 256 x ^ eInvL)) _ w hO hl (Sc_len _) (fun w' h => invert_any x _ w' h (Sb.of hl hd)) (fun w' => rInvert_any x _ w' (Sb.of hl hd))
end Go.Proofs.YtmpbbookbmfbnabDoor
