import Derived.Test.YtkagnpnicbddlaaDoorPadM5
namespace Go.Proofs.YtkagnpnicbddlaaDoor.S5
open Go.RowKit

theorem Tryd.sz1u : (Tryd.prog.info? 5).map (·.size) = some 1 := by kernel_rfl
theorem own_src (g : Nat) (w : World) {X : Int} {l : List Int} (h : Arr w g 5 (U8 (leB 8 X).reverse)) (hX : (leB 8 X).reverse = l) : ∀ j v, (U8 l)[j]? = some v → w.cell? ((⟨g, 0, none⟩ : Addr).add j) = some v := by
  subst hX
  intro j v hv
  rw [addr_add, Nat.zero_add, h.cell]; exact hv

set_option maxHeartbeats 2000000 in
set_option maxRecDepth 10000 in
theorem pad_any (n : Nat) (w : World) (hn : n < 18446744073709551616) :
    Calls Tryd.prog 52 #[.int .u64 n] w fun e w' => e = .returned (.slice (some ⟨w.heap.size, 0, none⟩) (padLen n) (padLen n)) ∧
      Arr w' w.heap.size 5 (U8 (padZ n)) ∧ Below w.heap.size w w' := by
  obtain ⟨i0, hi, hz0, hz1, hz2⟩ := info_parts Tryd.infoB
  have hpl := padLen_bd n
  obtain ⟨u, hu⟩ : ∃ u : Nat, (n : Int) % 128 = u := ⟨n % 128, by omega⟩
  have hu64 : u < 128 := by omega
  have hdef : padLen n = if 128 - u < 17 then 256 - u else 128 - u := by
    have : n % 128 = u := by omega
    unfold padLen; rw [this]
  obtain ⟨L, hL⟩ : ∃ L, L = padLen n := ⟨_, rfl⟩
  rw [← hL] at hpl hdef ⊢
  have HL := hide hL
  have HD := hide hdef
  have hbs : i0.bytes * L ≤ 281474976710656 := by rw [hz2]; omega
  have hp9 := hpl.1
  have hp72 := hpl.2
  clear hL hdef hpl
  have HN := hide hn
  clear hn
  go_enter Tryd.func52, Tryd.ntmps52
  go_wp2_with (first
    | (at_make; refine wpList_make_full _ rfl _ _ 24 rfl w.heap.size 5 i0 (.int .u8 0) 1 Tryd.underlying24 hi hz0 hz1 .i64 .i64 _ _ L rfl rfl (by have := unhide HD; split at this <;> omega) (by have := unhide HD; split at this <;> omega) hbs (by unfold maxLen; omega) (Nat.le_refl _) ?_))
  all_goals
    intro w1 hown hgrow
    have hb1 : Below w.heap.size w w1 := (Below.refl _ _).grown hgrow (Nat.le_refl _) (fun _ h => by cases h)
    have ha1 : Arr w1 w.heap.size 5 (U8 (List.replicate L 0)) := by
      have := own_arr hown; rwa [made_U8'] at this
    clear hown hgrow
    have hf0 := ha1.frozen 0
    have hc0 : w1.cell? ⟨w.heap.size, 0, none⟩ = some (.int .u8 0) := by
      rw [ha1.cell8 0 (by simp; omega), rep_getD]
    have hl0 : (0 : Int) < (L : Int) := by omega
    have ha2 : Arr (w1.setCell ⟨w.heap.size, 0, none⟩ (.int .u8 128)) w.heap.size 5 (U8 (128 :: List.replicate (L - 1) 0)) := by
      have := ha1.set8 0 128
      obtain ⟨k, rfl⟩ : ∃ k, L = k + 1 := ⟨L - 1, by omega⟩
      exact this
    have hb2 : Below w.heap.size w (w1.setCell ⟨w.heap.size, 0, none⟩ (.int .u8 128)) := hb1.setCell (Nat.le_refl _) _
    have HA2 := hide ha2
    have HB2 := hide hb2
    clear ha1 ha2 hb1 hb2
    first
      | (rw [show 128 - (u : Int) + 128 = (L : Int) by have := unhide HD; split at this <;> omega])
      | (rw [show 128 - (u : Int) = (L : Int) by have := unhide HD; split at this <;> omega])
    obtain ⟨m, hm⟩ : ∃ m : Nat, L = m + 16 := ⟨L - 16, by omega⟩
    have HM := hide hm
    clear hm
    go_wp2_with (refine wpList_slice_from rfl 24 (.tmp 18) (.tmp 20) rfl 5 Tryd.underlying24 Tryd.sz1u _ _ _ rfl .i64 _ m rfl (by have := unhide HM; omega) (by have := unhide HM; omega) ?_; intro b1 hb1)
    have eb1 : b1 = some ⟨w.heap.size, m, none⟩ := by
      have h := unhide hb1
      rw [if_neg (by have := unhide HM; omega)] at h
      simpa [addr_add] using h
    subst eb1
    clear hb1
    have h16 : L - m = 16 := by have := unhide HM; omega
    rw [h16]
    clear h16
    have ha2 := unhide HA2
    have hb2 := unhide HB2
    clear HA2 HB2 hf0 hc0
    generalize w1.setCell ⟨w.heap.size, 0, none⟩ (.int .u8 128) = W2 at ha2 hb2 ⊢
    refine (storebe64_any _ _ (by omega)).mono ?_
    rintro e w3 ⟨rfl, hown3, hb3⟩
    have hs3 := own_src W2.heap.size w3 (own_arr hown3) (show _ = padHi n by unfold padHi; congr 2; have := unhide HN; omega)
    have ha3 := ha2.later hb3
    have hb3' : Below w.heap.size w w3 := hb2.trans (hb3.mono (by have := hb2.size; omega))
    have HS3 := hide hs3
    clear hs3 hown3 hb3 ha2 hb2
    go_wp2_with (refine wpList_copy_but rfl (.tmp 22) (.tmp 25) 24 24 rfl 5 Tryd.underlying24 Tryd.sz1u _ _ _ _ _ _ rfl rfl w.heap.size m (U8 (128 :: List.replicate (L - 1) 0)) 5 ha3 (U8 (padHi n)) (by rw [U8_length, padHi_length]; rfl) (fun _ => ⟨rfl, _, rfl, unhide HS3⟩) (by have := unhide HM; simp; omega) (U8_one _) ?_; intro w4 ha4 hb4)
    have ha4' : Arr w4 w.heap.size 5 (U8 (padMid n)) := by
      have h := unhide ha4
      rwa [show m = L - 16 by have := unhide HM; omega, unhide HL, padZ_splice1 n] at h
    have hb4' : Below w.heap.size w w4 := hb3'.trans ((unhide hb4).below hb3'.size (Nat.le_refl _))
    clear ha4 hb4 ha3 hb3' HS3
    have hlt := ha4'.lt
    have hX0 : Hid (0 ≤ IntKind.u64.wrap ((n : Int) * 8)) := hide (by rw [IntKind.wrap_u64]; omega)
    have hX1 : Hid (IntKind.u64.wrap ((n : Int) * 8) = 8 * (n : Int) % 18446744073709551616) := hide (by rw [IntKind.wrap_u64, Int.mul_comm])
    generalize hX : IntKind.u64.wrap ((n : Int) * 8) = X at hX0 hX1
    go_region_held3 (fun _ => True) (trivial)
      (first
        | (go_at_call 22
           refine (storebe64_any _ _ (unhide hX0)).mono ?_
           rintro e w5 ⟨rfl, hown5, hb5⟩
           have ha5 := hide (Arr.later (w := w4.drew) ha4' hb5)
           have hb5' := hide (hb4'.trans ((show Below w4.heap.size w4 w5 from ⟨hb5.os, hb5.tape, hb5.output, hb5.size, hb5.block⟩).mono (by omega)))
           have hs5 := hide (own_src w4.heap.size w5 (own_arr hown5) (show _ = padLo n by unfold padLo; rw [unhide hX1]))
           clear hown5 hb5)
        | (refine step_copy_splice rfl (.tmp 28) (.tmp 31) 24 24 rfl 5 Tryd.underlying24 Tryd.sz1u _ _ _ _ _ _ rfl rfl w.heap.size (m + 8) (U8 (padMid n)) 5 (unhide ha5) (U8 (padLo n)) (by rw [U8_length, padLo_length]; rfl) (fun _ => ⟨rfl, _, rfl, unhide hs5⟩) (by have := unhide HM; have h := unhide HL; rw [U8_length, U8_length, padLo_length, padMid_length]; omega) (U8_one _) w.heap.size w (unhide hb5') (Nat.le_refl _) ?_
           intro w6 hg6 hb6))
    go_wp2
    go_ret
    refine ⟨rfl, ?_, hb6⟩
    have hg := unhide hg6
    have hL := unhide HL
    rw [show m + 8 = L - 8 by have := unhide HM; omega, hL, padZ_splice2 n] at hg
    exact hg
end Go.Proofs.YtkagnpnicbddlaaDoor.S5
