import Derived.Test.YtbjbfggbdolpcaaRefPadW5
import Derived.Test.YtbjbfggbdolpcaaPadW5
import Derived.Test.YtbjbfggbdolpcaaSameW5
namespace Go.Proofs.Ytbjbfggbdolpcaa.S5
open Go.RowKit

theorem pad_ok (n : Nat) {w : World} {g : Nat} (h : Arr w g 5 (U8 (padZ n))) : Sl.Ok w ⟨some ⟨g, 0, none⟩, padLen n, padLen n, padZ n⟩ :=
  ⟨padZ_length n, Nat.le_refl _, by have := padLen_bd n; show padLen n ≤ maxLen; unfold maxLen; omega, (fun h => by cases h), padZ_isB n, h.lies⟩
set_option maxHeartbeats 1000000 in
theorem pads_any (n : Nat) (w : World) (hn : n < 18446744073709551616) :
    Calls Try.prog 4 #[.int .u64 n] w fun e w' => e = .returned (.bool true) ∧ Below w.heap.size w w' := by
  have HN := hide hn
  clear hn
  go_enter Try.func4, Try.ntmps4
  go_wp2_with fail
  refine (pad_any n w (unhide HN)).mono ?_
  rintro e w1 ⟨rfl, hA1, hb1⟩
  go_wp2_with fail
  refine (refPad_any n w1 (unhide HN)).mono ?_
  rintro e w2 ⟨v, rfl, own2, hb2⟩
  have hA2 := hA1.later hb2
  obtain ⟨d, rfl, okd, hdl, -, -⟩ := own_sl own2 (padZ_isB n)
  have hbT : Below w.heap.size w w2 := hb1.trans (hb2.mono hb1.size)
  have hle : padLen n ≤ 1099511627776 := by have := padLen_bd n; omega
  have ok1 := pad_ok n hA2
  clear hA1 hb1 hb2 hA2 own2
  obtain ⟨L, hL⟩ : ∃ L, L = padLen n := ⟨_, rfl⟩
  rw [← hL] at ok1 hle ⊢
  clear hL
  go_wp2_with fail
  refine (same_any ⟨some ⟨w.heap.size, 0, none⟩, L, L, padZ n⟩ d w2 ok1 okd hdl.symm hle).mono ?_
  rintro e w3 ⟨rfl, k, rfl⟩
  go_wp2
  go_ret
  exact ⟨rfl, below_drewN hbT k⟩
end Go.Proofs.Ytbjbfggbdolpcaa.S5
