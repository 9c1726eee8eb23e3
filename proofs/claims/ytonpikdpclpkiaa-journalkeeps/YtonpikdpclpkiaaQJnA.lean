import Derived.Test.YtonpikdpclpkiaaQFlI
import Derived.Test.YtonpikdpclpkiaaQFlH
set_option linter.unusedVariables false
namespace Go.Proofs.Ytonpikdpclpkiaa
open Go.RowKit

/-! The journal's device: a flash behind an interface. -/
def dev (p : Nat) : Value := .iface 24 (.pointer (some ⟨p, 0, none⟩))
theorem Try.mApp (a : Addr) (w : World) : (method 286 24 (.pointer (some a)) "Append").run Try.prog w = .ok (116, .pointer (some a)) w := by kernel_rfl
theorem Try.mEra (a : Addr) (w : World) : (method 286 24 (.pointer (some a)) "Erase").run Try.prog w = .ok (117, .pointer (some a)) w := by kernel_rfl
theorem Try.mRea (a : Addr) (w : World) : (method 286 24 (.pointer (some a)) "Read").run Try.prog w = .ok (118, .pointer (some a)) w := by kernel_rfl
theorem Try.mRoo (a : Addr) (w : World) : (method 286 24 (.pointer (some a)) "Room").run Try.prog w = .ok (119, .pointer (some a)) w := by kernel_rfl

/-- erased if it has bytes -/
def FlS.empty (s : FlS) (bank : Int) : FlS × Int := if s.ref bank ≠ 0 then (s, s.ref bank) else if (s.bk bank).length = 0 then (s, 0) else s.erase bank
def FlS.refill (s : FlS) (bank : Int) (b : List Int) : FlS × Int := if (s.empty bank).2 ≠ 0 then s.empty bank else (s.empty bank).1.append bank b

set_option maxHeartbeats 1000000 in
set_option maxRecDepth 100000 in
theorem empty_any (p : Nat) (S : Nat → Prop) (s : FlS) (bank : Int) (w : World) (h : Fl w p S s) (hw : s.wr ≤ 4000000000000000000) :
    Calls Try.prog 39 #[dev p, .int .i64 bank] w (APost p S (s.empty bank) w) := by
  have hR := read_any p S s bank w h
  have hm := Try.mRea
  have hm2 := Try.mEra
  unfold dev
  by_cases hr : s.ref bank = 0
  · by_cases hl : (s.bk bank).length = 0
    · have HP : Hid (s.empty bank = (s, 0)) := hide (by unfold FlS.empty; rw [if_neg (fun h => h hr), if_pos hl])
      rw [unhide HP]
      rw [hr] at hR
      have HRD : Hid ((s.read bank).length = 0) := hide (by unfold FlS.read; rw [if_pos hr]; exact hl)
      have HF := hide h
      clear h hr hl HP
      go_enter Try.func39, Try.ntmps39
      go_wp2_with (go_at_call 118; refine hR.mono ?_; rintro e w1 ⟨v, rfl, h1, h2, h3⟩; clear hR; have h4 := h1.1; rw [unhide HRD] at h4; obtain ⟨va, vc, hv⟩ := own_parts h4; subst hv; clear h1 h2 h4; have HB := hide h3; clear h3)
      go_ret
      exact ⟨rfl, S, (FSt.refl (unhide HF)).then (unhide HB)⟩
    · have HP : Hid (s.empty bank = s.erase bank) := hide (by unfold FlS.empty; rw [if_neg (fun h => h hr), if_neg hl])
      rw [unhide HP]
      rw [hr] at hR
      obtain ⟨n, hn⟩ : ∃ n, n = (s.read bank).length := ⟨_, rfl⟩
      have hnz : n ≠ 0 := by rw [hn]; unfold FlS.read; rw [if_pos hr]; exact hl
      have hnz2 : ((n : Int) == 0) = false := by rw [beq_eq_false_iff_ne]; omega
      have HN := hide hn
      have HF := hide h
      clear h hr hl HP hn hnz
      go_enter Try.func39, Try.ntmps39
      go_wp2_with (first | (go_at_call 117; refine hE.mono ?_; rintro e w2 ⟨rfl, S', k1⟩; clear hE; have HK := hide k1; clear k1) | (go_at_call 118; refine hR.mono ?_; rintro e w1 ⟨v, rfl, h1, h2, h3⟩; clear hR; have h4 := h1.1; rw [← unhide HN] at h4; obtain ⟨va, vc, hv⟩ := own_parts h4; subst hv; clear h1 h2 h4; have HB := hide h3; have hE := erase_any p S s bank w1 ((unhide HF).later h3) hw; clear h3))
      go_ret
      exact ⟨rfl, S', (unhide HK).later (unhide HB)⟩
  · have HP : Hid (s.empty bank = (s, s.ref bank)) := hide (by unfold FlS.empty; rw [if_pos hr])
    rw [unhide HP]
    obtain ⟨r, hrr⟩ : ∃ r, r = s.ref bank := ⟨_, rfl⟩
    rw [← hrr] at hR hr ⊢
    have hr2 : (r == 0) = false := by rw [beq_eq_false_iff_ne]; exact hr
    have hr3 : (r != 0) = true := by rw [bne_iff_ne]; exact hr
    have HF := hide h
    clear h hr HP hrr
    go_enter Try.func39, Try.ntmps39
    go_wp2_with (go_at_call 118; refine hR.mono ?_; rintro e w1 ⟨v, rfl, h1, h2, h3⟩; clear hR; obtain ⟨va, vc, hv⟩ := own_parts h1.1; subst hv; clear h1 h2; have HB := hide h3; clear h3)
    go_ret
    exact ⟨rfl, S, (FSt.refl (unhide HF)).then (unhide HB)⟩
end Go.Proofs.Ytonpikdpclpkiaa
