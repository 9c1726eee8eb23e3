import Derived.Test.YtipmgnigejpfjaaGrB
import Derived.Deep.QuietTactic
import Derived.BigQuiet
namespace Go.Proofs.Ytipmgnigejpfjaa
open Go.RowKit

set_option maxHeartbeats 2000000 in
set_option maxRecDepth 100000 in
theorem same_any (a b : Sl) (w : World) (ha : a.Ok w) (hb : b.Ok w) (hl : a.l = b.l) (hn : a.n ≤ 1099511627776) :
    Calls Try.prog 14 #[a.v, b.v] w fun e w' => e = .returned (.bool true) ∧ ∃ k, w' = w.drewN k := by
  obtain ⟨aa, an, ac, al⟩ := a
  obtain ⟨ba, bn, bc, bl⟩ := b
  have hl' : al = bl := hl
  have ha1 : al.length = an := ha.len
  have hb1 : bl.length = bn := hb.len
  have hn' : an ≤ 1099511627776 := hn
  obtain rfl : an = bn := by rw [← ha1, ← hb1, hl']
  subst hl'
  have HA := hide ha
  have HB := hide hb
  have HL := hide ha1
  clear ha hb hl ha1 hb1 hn
  simp only [Sl.v]
  go_enter Try.func14, Try.ntmps14
  go_wp2_with fail
  go_loopw [5] (fun i wr => ∃ k : Nat, k ≤ an ∧ i = .int .i64 k ∧ ∃ m, wr = w.drewN m) (fun i _ => an - (intOf i).toNat)
  case atStart => exact ⟨0, by omega, rfl, 0, rfl⟩
  case round =>
    obtain ⟨k, hk, rfl, m, hwr0⟩ := hrel
    have hwr := hide hwr0
    clear hwr0
    by_cases hlt : k < an
    · obtain ⟨ab, ao, haa, -, hac⟩ := (unhide HA).lies (by show 0 < al.length; rw [unhide HL]; omega)
      obtain ⟨bb, bo, hba, -, hbc⟩ := (unhide HB).lies (by show 0 < al.length; rw [unhide HL]; omega)
      have haa' : aa = some ⟨ab, ao, none⟩ := haa
      have hba' : ba = some ⟨bb, bo, none⟩ := hba
      subst haa' hba'
      have ca : wr.cell? ⟨ab, ao + k, none⟩ = some (.int .u8 (al.getD k 0)) := by rw [unhide hwr]; exact hac k (by show k < al.length; rw [unhide HL]; omega)
      have cb : wr.cell? ⟨bb, bo + k, none⟩ = some (.int .u8 (al.getD k 0)) := by rw [unhide hwr]; exact hbc k (by show k < al.length; rw [unhide HL]; omega)
      generalize al.getD k 0 = x at ca cb
      have hkz : (k : Int) < (an : Int) := by omega
      clear haa hba hac hbc
      go_wp2_with fail
      go_quiet (fail)
      go_wp2
      go_roundw
      case rel => exact ⟨k + 1, by omega, by go_num, _, by rw [unhide hwr]; exact World.drewN_drewN _ _ _⟩
      case measure => simp [intOf]; omega
    · have hkd : decide ((k : Int) < (an : Int)) = false := by simp; omega
      go_wp2
      go_ret
      exact ⟨rfl, m, unhide hwr⟩

end Go.Proofs.Ytipmgnigejpfjaa
