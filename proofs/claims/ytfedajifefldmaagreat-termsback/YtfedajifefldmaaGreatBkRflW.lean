import Derived.Test.YtfedajifefldmaaGreatBkKCert
import Derived.Test.YtfedajifefldmaaGreatBkKTicket
import Derived.Test.YtfedajifefldmaaGreatBkKEntry
import Derived.Test.YtfedajifefldmaaGreatBkKFreeze
import Derived.Test.YtfedajifefldmaaGreatBkKAck
import Derived.Test.YtfedajifefldmaaGreatBkKRevocation
import Derived.Test.YtfedajifefldmaaGreatBkKFloor
import Derived.Test.YtfedajifefldmaaGreatBkKReceipt
import Derived.Test.YtfedajifefldmaaGreatBkKOrder
import Derived.Test.YtfedajifefldmaaGreatBkKHead
import Derived.Test.YtfedajifefldmaaGreatBkGsM
set_option linter.unusedSimpArgs false
set_option linter.unusedVariables false
namespace Go.Proofs.YtfedajifefldmaaGreat
open Go.RowKit

/-! The law's refusal. -/
theorem DPost.parts {dom : Int} {f : FdS} {sT : Nat → Kd} {nT : Nat} {l : List Int} {w w' : World} {e : Ending} (h : DPost dom f sT nT l w e w') : ∃ M : Array Value, e = .returned (.tuple #[.agg M, .int .i64 (decL dom f l).2]) ∧ Below w.heap.size w w' := ⟨_, h.1, h.2.2⟩

set_option maxHeartbeats 2000000 in
set_option maxRecDepth 100000 in
theorem refusal_Cert (b : Sl) (w : World) (hb : b.Ok w) :
    Calls Tryz.prog 13 #[.int .i64 1, b.v] w fun e w' => e = .returned (.int .i64 (decL 1 (fsAll fCert) b.l).2) ∧ Below w.heap.size w w' := by
  have hD := decodeCert_any b w hb
  have hbv : b.v = .slice b.a b.n b.c := rfl
  rw [hbv] at hD ⊢
  have hD2 := hD.mono (fun e w' h => DPost.parts h)
  generalize (decL 1 (fsAll fCert) b.l).2 = r at hD2 ⊢
  generalize b.a = ba at *
  generalize b.n = bn at *
  generalize b.c = bc at *
  clear hD hb hbv
  go_enter Tryz.func13, Tryz.ntmps13
  go_wp2_with (go_at_call 17; refine hD2.mono ?_; rintro e w1 ⟨M, rfl, hB⟩; have HB := hide hB; clear hB hD2)
  go_ret
  exact ⟨rfl, unhide HB⟩

set_option maxHeartbeats 2000000 in
set_option maxRecDepth 100000 in
theorem refusal_Ticket (b : Sl) (w : World) (hb : b.Ok w) :
    Calls Tryz.prog 13 #[.int .i64 2, b.v] w fun e w' => e = .returned (.int .i64 (decL 2 (fsAll fTicket) b.l).2) ∧ Below w.heap.size w w' := by
  have hD := decodeTicket_any b w hb
  have hbv : b.v = .slice b.a b.n b.c := rfl
  rw [hbv] at hD ⊢
  have hD2 := hD.mono (fun e w' h => DPost.parts h)
  generalize (decL 2 (fsAll fTicket) b.l).2 = r at hD2 ⊢
  generalize b.a = ba at *
  generalize b.n = bn at *
  generalize b.c = bc at *
  clear hD hb hbv
  go_enter Tryz.func13, Tryz.ntmps13
  go_wp2_with (go_at_call 19; refine hD2.mono ?_; rintro e w1 ⟨M, rfl, hB⟩; have HB := hide hB; clear hB hD2)
  go_ret
  exact ⟨rfl, unhide HB⟩

set_option maxHeartbeats 2000000 in
set_option maxRecDepth 100000 in
theorem refusal_Entry (b : Sl) (w : World) (hb : b.Ok w) :
    Calls Tryz.prog 13 #[.int .i64 3, b.v] w fun e w' => e = .returned (.int .i64 (decL 3 (fsAll fEntry) b.l).2) ∧ Below w.heap.size w w' := by
  have hD := decodeEntry_any b w hb
  have hbv : b.v = .slice b.a b.n b.c := rfl
  rw [hbv] at hD ⊢
  have hD2 := hD.mono (fun e w' h => DPost.parts h)
  generalize (decL 3 (fsAll fEntry) b.l).2 = r at hD2 ⊢
  generalize b.a = ba at *
  generalize b.n = bn at *
  generalize b.c = bc at *
  clear hD hb hbv
  go_enter Tryz.func13, Tryz.ntmps13
  go_wp2_with (go_at_call 21; refine hD2.mono ?_; rintro e w1 ⟨M, rfl, hB⟩; have HB := hide hB; clear hB hD2)
  go_ret
  exact ⟨rfl, unhide HB⟩

set_option maxHeartbeats 2000000 in
set_option maxRecDepth 100000 in
theorem refusal_Freeze (b : Sl) (w : World) (hb : b.Ok w) :
    Calls Tryz.prog 13 #[.int .i64 4, b.v] w fun e w' => e = .returned (.int .i64 (decL 4 (fsAll fFreeze) b.l).2) ∧ Below w.heap.size w w' := by
  have hD := decodeFreeze_any b w hb
  have hbv : b.v = .slice b.a b.n b.c := rfl
  rw [hbv] at hD ⊢
  have hD2 := hD.mono (fun e w' h => DPost.parts h)
  generalize (decL 4 (fsAll fFreeze) b.l).2 = r at hD2 ⊢
  generalize b.a = ba at *
  generalize b.n = bn at *
  generalize b.c = bc at *
  clear hD hb hbv
  go_enter Tryz.func13, Tryz.ntmps13
  go_wp2_with (go_at_call 23; refine hD2.mono ?_; rintro e w1 ⟨M, rfl, hB⟩; have HB := hide hB; clear hB hD2)
  go_ret
  exact ⟨rfl, unhide HB⟩

set_option maxHeartbeats 2000000 in
set_option maxRecDepth 100000 in
theorem refusal_Ack (b : Sl) (w : World) (hb : b.Ok w) :
    Calls Tryz.prog 13 #[.int .i64 5, b.v] w fun e w' => e = .returned (.int .i64 (decL 5 (fsAll fAck) b.l).2) ∧ Below w.heap.size w w' := by
  have hD := decodeAck_any b w hb
  have hbv : b.v = .slice b.a b.n b.c := rfl
  rw [hbv] at hD ⊢
  have hD2 := hD.mono (fun e w' h => DPost.parts h)
  generalize (decL 5 (fsAll fAck) b.l).2 = r at hD2 ⊢
  generalize b.a = ba at *
  generalize b.n = bn at *
  generalize b.c = bc at *
  clear hD hb hbv
  go_enter Tryz.func13, Tryz.ntmps13
  go_wp2_with (go_at_call 25; refine hD2.mono ?_; rintro e w1 ⟨M, rfl, hB⟩; have HB := hide hB; clear hB hD2)
  go_ret
  exact ⟨rfl, unhide HB⟩

set_option maxHeartbeats 2000000 in
set_option maxRecDepth 100000 in
theorem refusal_Revocation (b : Sl) (w : World) (hb : b.Ok w) :
    Calls Tryz.prog 13 #[.int .i64 6, b.v] w fun e w' => e = .returned (.int .i64 (decL 6 (fsAll fRevocation) b.l).2) ∧ Below w.heap.size w w' := by
  have hD := decodeRevocation_any b w hb
  have hbv : b.v = .slice b.a b.n b.c := rfl
  rw [hbv] at hD ⊢
  have hD2 := hD.mono (fun e w' h => DPost.parts h)
  generalize (decL 6 (fsAll fRevocation) b.l).2 = r at hD2 ⊢
  generalize b.a = ba at *
  generalize b.n = bn at *
  generalize b.c = bc at *
  clear hD hb hbv
  go_enter Tryz.func13, Tryz.ntmps13
  go_wp2_with (go_at_call 27; refine hD2.mono ?_; rintro e w1 ⟨M, rfl, hB⟩; have HB := hide hB; clear hB hD2)
  go_ret
  exact ⟨rfl, unhide HB⟩

set_option maxHeartbeats 2000000 in
set_option maxRecDepth 100000 in
theorem refusal_Floor (b : Sl) (w : World) (hb : b.Ok w) :
    Calls Tryz.prog 13 #[.int .i64 7, b.v] w fun e w' => e = .returned (.int .i64 (decL 7 (fsAll fFloor) b.l).2) ∧ Below w.heap.size w w' := by
  have hD := decodeFloor_any b w hb
  have hbv : b.v = .slice b.a b.n b.c := rfl
  rw [hbv] at hD ⊢
  have hD2 := hD.mono (fun e w' h => DPost.parts h)
  generalize (decL 7 (fsAll fFloor) b.l).2 = r at hD2 ⊢
  generalize b.a = ba at *
  generalize b.n = bn at *
  generalize b.c = bc at *
  clear hD hb hbv
  go_enter Tryz.func13, Tryz.ntmps13
  go_wp2_with (go_at_call 29; refine hD2.mono ?_; rintro e w1 ⟨M, rfl, hB⟩; have HB := hide hB; clear hB hD2)
  go_ret
  exact ⟨rfl, unhide HB⟩

set_option maxHeartbeats 2000000 in
set_option maxRecDepth 100000 in
theorem refusal_Receipt (b : Sl) (w : World) (hb : b.Ok w) :
    Calls Tryz.prog 13 #[.int .i64 8, b.v] w fun e w' => e = .returned (.int .i64 (decL 8 (fsAll fReceipt) b.l).2) ∧ Below w.heap.size w w' := by
  have hD := decodeReceipt_any b w hb
  have hbv : b.v = .slice b.a b.n b.c := rfl
  rw [hbv] at hD ⊢
  have hD2 := hD.mono (fun e w' h => DPost.parts h)
  generalize (decL 8 (fsAll fReceipt) b.l).2 = r at hD2 ⊢
  generalize b.a = ba at *
  generalize b.n = bn at *
  generalize b.c = bc at *
  clear hD hb hbv
  go_enter Tryz.func13, Tryz.ntmps13
  go_wp2_with (go_at_call 30; refine hD2.mono ?_; rintro e w1 ⟨M, rfl, hB⟩; have HB := hide hB; clear hB hD2)
  go_ret
  exact ⟨rfl, unhide HB⟩

set_option maxHeartbeats 2000000 in
set_option maxRecDepth 100000 in
theorem refusal_Order (b : Sl) (w : World) (hb : b.Ok w) :
    Calls Tryz.prog 13 #[.int .i64 9, b.v] w fun e w' => e = .returned (.int .i64 (decL 9 (fsAll fOrder) b.l).2) ∧ Below w.heap.size w w' := by
  have hD := decodeOrder_any b w hb
  have hbv : b.v = .slice b.a b.n b.c := rfl
  rw [hbv] at hD ⊢
  have hD2 := hD.mono (fun e w' h => DPost.parts h)
  generalize (decL 9 (fsAll fOrder) b.l).2 = r at hD2 ⊢
  generalize b.a = ba at *
  generalize b.n = bn at *
  generalize b.c = bc at *
  clear hD hb hbv
  go_enter Tryz.func13, Tryz.ntmps13
  go_wp2_with (go_at_call 32; refine hD2.mono ?_; rintro e w1 ⟨M, rfl, hB⟩; have HB := hide hB; clear hB hD2)
  go_ret
  exact ⟨rfl, unhide HB⟩

set_option maxHeartbeats 2000000 in
set_option maxRecDepth 100000 in
theorem refusal_Head (b : Sl) (w : World) (hb : b.Ok w) :
    Calls Tryz.prog 13 #[.int .i64 10, b.v] w fun e w' => e = .returned (.int .i64 (decL 10 (fsAll fHead) b.l).2) ∧ Below w.heap.size w w' := by
  have hD := decodeHead_any b w hb
  have hbv : b.v = .slice b.a b.n b.c := rfl
  rw [hbv] at hD ⊢
  have hD2 := hD.mono (fun e w' h => DPost.parts h)
  generalize (decL 10 (fsAll fHead) b.l).2 = r at hD2 ⊢
  generalize b.a = ba at *
  generalize b.n = bn at *
  generalize b.c = bc at *
  clear hD hb hbv
  go_enter Tryz.func13, Tryz.ntmps13
  go_wp2_with (go_at_call 34; refine hD2.mono ?_; rintro e w1 ⟨M, rfl, hB⟩; have HB := hide hB; clear hB hD2)
  go_ret
  exact ⟨rfl, unhide HB⟩

theorem refusal_any (k : Int) (h1 : 1 ≤ k) (h2 : k ≤ 10) (b : Sl) (w : World) (hb : b.Ok w) :
    Calls Tryz.prog 13 #[.int .i64 k, b.v] w fun e w' => e = .returned (.int .i64 (decL k (fK k) b.l).2) ∧ Below w.heap.size w w' := by
  have hk : k = 1 ∨ k = 2 ∨ k = 3 ∨ k = 4 ∨ k = 5 ∨ k = 6 ∨ k = 7 ∨ k = 8 ∨ k = 9 ∨ k = 10 := by omega
  rcases hk with rfl | rfl | rfl | rfl | rfl | rfl | rfl | rfl | rfl | rfl
  · exact refusal_Cert b w hb
  · exact refusal_Ticket b w hb
  · exact refusal_Entry b w hb
  · exact refusal_Freeze b w hb
  · exact refusal_Ack b w hb
  · exact refusal_Revocation b w hb
  · exact refusal_Floor b w hb
  · exact refusal_Receipt b w hb
  · exact refusal_Order b w hb
  · exact refusal_Head b w hb
end Go.Proofs.YtfedajifefldmaaGreat
