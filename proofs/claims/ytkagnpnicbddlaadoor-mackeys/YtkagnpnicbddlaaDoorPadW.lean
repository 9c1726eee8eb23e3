import Derived.Test.YtkagnpnicbddlaaDoorPadM
import Derived.Test.YtkagnpnicbddlaaDoorButM
namespace Go.Proofs.YtkagnpnicbddlaaDoor
open Go.RowKit

theorem Tryd.sz1u : (Tryd.prog.info? 5).map (·.size) = some 1 := by kernel_rfl

theorem pad_src (n g : Nat) (w : World) {X : Int} (h : Arr w g 5 (U8 (leB 8 X).reverse)) : X = 8 * (n : Int) % 18446744073709551616 → ∀ j v, (U8 (padB n))[j]? = some v → w.cell? ((⟨g, 0, none⟩ : Addr).add j) = some v := by
  rintro rfl j v hv
  rw [addr_add, Nat.zero_add, h.cell]; exact hv

set_option maxHeartbeats 2000000 in
set_option maxRecDepth 10000 in
theorem pad_any (n : Nat) (w : World) :
    Calls Tryd.prog 48 #[.int .u64 n] w fun e w' => e = .returned (.slice (some ⟨w.heap.size, 0, none⟩) (padLen n) (padLen n)) ∧
      Arr w' w.heap.size 5 (U8 (padZ n)) ∧ Below w.heap.size w w' := by
  obtain ⟨i0, hi, hz0, hz1, hz2⟩ := info_parts Tryd.infoB
  have hpl := padLen_bd n
  obtain ⟨u, hu⟩ : ∃ u : Nat, (n : Int) % 64 = u := ⟨n % 64, by omega⟩
  have hu64 : u < 64 := by omega
  have hdef : padLen n = if 64 - u < 9 then 128 - u else 64 - u := by
    have : n % 64 = u := by omega
    unfold padLen; rw [this]
  obtain ⟨L, hL⟩ : ∃ L, L = padLen n := ⟨_, rfl⟩
  rw [← hL] at hpl hdef ⊢
  have HL := hide hL
  have HD := hide hdef
  have hbs : i0.bytes * L ≤ 281474976710656 := by rw [hz2]; omega
  have hp9 := hpl.1
  have hp72 := hpl.2
  clear hL hdef hpl
  have HB8 := hide (show 0 ≤ (8 * (n : Int)) % 18446744073709551616 by omega)
  go_enter Tryd.func48, Tryd.ntmps48
  go_wp2_with (first
    | (at_make; refine wpList_make_full _ rfl _ _ 24 rfl w.heap.size 5 i0 (.int .u8 0) 1 Tryd.underlying24 hi hz0 hz1 .i64 .i64 _ _ L rfl rfl (by have := unhide HD; split at this <;> omega) (by have := unhide HD; split at this <;> omega) hbs (by unfold maxLen; omega) (Nat.le_refl _) ?_))
  all_goals
    intro w1 hown hgrow
    have hb1 : Below w.heap.size w w1 := (Below.refl _ _).grown hgrow (Nat.le_refl _) (fun _ h => by cases h)
    have ha1 : Arr w1 w.heap.size 5 (U8 (List.replicate L 0)) := by
      have := own_arr hown; rwa [made_U8'] at this
    clear hown hgrow
    have hf0 := ha1.frozen 0
    have hc0 : w1.cell? ⟨w.heap.size, 0, none⟩ = some (.int .u8 0) := by
      rw [ha1.cell8 0 (by simp; omega), rep_getD]
    have hl0 : (0 : Int) < (L : Int) := by omega
    have ha2 : Arr (w1.setCell ⟨w.heap.size, 0, none⟩ (.int .u8 128)) w.heap.size 5 (U8 (128 :: List.replicate (L - 1) 0)) := by
      have := ha1.set8 0 128
      obtain ⟨k, rfl⟩ : ∃ k, L = k + 1 := ⟨L - 1, by omega⟩
      exact this
    have hb2 : Below w.heap.size w (w1.setCell ⟨w.heap.size, 0, none⟩ (.int .u8 128)) := hb1.setCell (Nat.le_refl _) _
    have HA2 := hide ha2
    have HB2 := hide hb2
    clear ha1 ha2 hb1 hb2
    go_wp2_with fail
    have ha2 := unhide HA2
    have hb2 := unhide HB2
    generalize w1.setCell ⟨w.heap.size, 0, none⟩ (.int .u8 128) = W2 at ha2 hb2 ⊢
    have hlt := ha2.lt
    first
      | (rw [show 64 - (u : Int) + 64 = (L : Int) by have := unhide HD; split at this <;> omega])
      | (rw [show 64 - (u : Int) = (L : Int) by have := unhide HD; split at this <;> omega])
    obtain ⟨m, hm⟩ : ∃ m : Nat, L = m + 8 := ⟨L - 8, by omega⟩
    have wm : IntKind.i64.wrap ((L : Int) - 8) = (m : Int) := by rw [IntKind.wrap_i64]; omega
    have wm0 : (0 : Int) ≤ (m : Int) := by omega
    have wm1 : (m : Int) ≤ (L : Int) := by omega
    have hlm : (m : Int) < (L : Int) := by omega
    have hne1 : ¬ L = m := by omega
    have hne2 : ¬ m = L := by omega
    have HM := hide hm
    clear hm HA2 HB2
    go_region_held3 (fun _ => True) (trivial)
      (first
        | (go_at_call 22
           refine (storebe64_any _ _ (unhide HB8)).mono ?_
           rintro e w3 ⟨rfl, hown3, hb3⟩
           have ha3 := hide (Arr.later (w := W2.drew) ha2 hb3)
           have hb3' := hide (hb2.trans ((show Below W2.heap.size W2 w3 from ⟨hb3.os, hb3.tape, hb3.output, hb3.size, hb3.block⟩).mono (by omega)))
           have hs3 := hide (pad_src n W2.heap.size w3 (own_arr hown3) (IntKind.wrap_u64 _))
           clear hown3 hb3)
        | (refine step_copy_splice rfl (.tmp 22) (.tmp 25) 24 24 rfl 5 Tryd.underlying24 Tryd.sz1u _ _ _ _ _ _ rfl rfl w.heap.size m (U8 (128 :: List.replicate (L - 1) 0)) 5 (unhide ha3) (U8 (padB n)) (by have h := unhide HM; rw [U8_length, padB_length, show L - m = 8 by omega]; rfl) (fun _ => ⟨rfl, _, rfl, unhide hs3⟩) (by have := unhide HM; simp; omega) (U8_one _) w.heap.size w (unhide hb3') (Nat.le_refl _) ?_
           intro w4 hg4 hb4))
    go_wp2
    go_ret
    refine ⟨rfl, ?_, hb4⟩
    have hg := unhide hg4
    have hL := unhide HL
    rw [show m = L - 8 by have := unhide HM; omega, hL, padZ_splice n] at hg
    exact hg
end Go.Proofs.YtkagnpnicbddlaaDoor
