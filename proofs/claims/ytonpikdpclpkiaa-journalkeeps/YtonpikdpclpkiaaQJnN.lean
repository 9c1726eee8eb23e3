import Derived.Test.YtonpikdpclpkiaaQJnM
set_option linter.unusedVariables false
namespace Go.Proofs.Ytonpikdpclpkiaa
open Go.RowKit

/-! When a bank is headed, by its bytes. -/
theorem hdB_parts {b : List Int} {c : Cts} (h : HdB b c) : (mz b).1 ≠ 0 ∧ b.getD 1 0 = 72 ∧ lenL b = c.s.length + 12 ∧ hdE (pay b) = c.e ∧ hdN (pay b) ≤ c.rs.length ∧ b.drop (lenL b + 10) = flatR c.rs ++ c.t := by
  obtain ⟨n, e1, h1, h2, h3, h4, h5, h6, h7, h8⟩ := h
  have hp : (hdP c.e n c.s).length ≤ 262144 := by rw [hdP_length]; omega
  have hl := enc_len 72 (hdP c.e n c.s) (flatR c.rs ++ c.t) hp
  have hy := enc_pay 72 (hdP c.e n c.s) (flatR c.rs ++ c.t)
  have hm := mz_enc 72 (hdP c.e n c.s) (flatR c.rs ++ c.t) (by decide) (hdP_isB h8) hp
  have hk := enc_kind 72 (hdP c.e n c.s) (flatR c.rs ++ c.t)
  have e2 : b = encL 72 (hdP c.e n c.s) ++ (flatR c.rs ++ c.t) := e1
  rw [← e2] at hl hy hm hk
  rw [hdP_length] at hl
  have hpay : pay b = hdP c.e n c.s := by unfold pay; rw [hl]; rw [hdP_length] at hy; exact hy
  refine ⟨by rw [hm]; simp, hk, hl, by rw [hpay]; exact hdP_E _ _ _ (by omega), by rw [hpay, hdP_N _ _ _ h4]; exact h3, ?_⟩
  have e3 : (encL 72 (hdP c.e n c.s)).length = lenL b + 10 := by rw [encL_length, hdP_length, hl]
  have := congrArg (List.drop (lenL b + 10)) e2
  rw [List.drop_left' e3] at this
  exact this
theorem look_mz {b : List Int} (h : (mz b).1 = 0) : look b = cts0 := look_no (fun ⟨c, hc⟩ => (hdB_parts hc).1 h)
theorem look_kind {b : List Int} (h : b.getD 1 0 ≠ 72) : look b = cts0 := look_no (fun ⟨c, hc⟩ => h (hdB_parts hc).2.1)
theorem look_short {b : List Int} (h : lenL b < 12) : look b = cts0 := look_no (fun ⟨c, hc⟩ => by have := (hdB_parts hc).2.2.1; omega)
theorem look_not {b : List Int} {rs : List (List Int)} {t : List Int} (hs : b.drop (lenL b + 10) = flatR rs ++ t) (hok : OkR rs) (ht : ¬ RecF t)
    (h : hdE (pay b) < 1 ∨ 9223372036854775807 < hdE (pay b) ∨ rs.length < hdN (pay b)) : look b = cts0 := look_no (fun ⟨c, hc⟩ => by
  obtain ⟨-, -, -, h1, h2, h3⟩ := hdB_parts hc
  obtain ⟨n, e1, k1, k2, k3, k4, k5, k6, k7, k8⟩ := hc
  rw [h3] at hs
  obtain ⟨q1, q2⟩ := flatR_inj _ _ _ _ hs k5 hok k6 ht
  rw [← q1] at h
  omega)
theorem look_is {b : List Int} {rs : List (List Int)} {t : List Int} (hb : IsB b) (h1 : (mz b).1 ≠ 0) (h2 : b.getD 1 0 = 72) (h3 : 12 ≤ lenL b) (hs : b.drop (lenL b + 10) = flatR rs ++ t) (hok : OkR rs) (ht : ¬ RecF t)
    (h : 1 ≤ hdE (pay b) ∧ hdE (pay b) ≤ 9223372036854775807 ∧ hdN (pay b) ≤ rs.length) : HdB b ⟨hdE (pay b), (pay b).drop 12, rs, t⟩ := by
  obtain ⟨e1, e2, e3, e4, e5⟩ := enc_of_mz hb h1
  have hpb : IsB (pay b) := (hb.drop 6).take _
  obtain ⟨p1, p2, p3⟩ := hdP_of hpb (by omega)
  refine ⟨hdN (pay b), ?_, h.1, h.2.1, h.2.2, p3, hok, ht, by simp only [List.length_drop]; omega, hpb.drop 12⟩
  unfold hdr
  simp only
  rw [← p1, ← hs, ← h2]
  exact e1
end Go.Proofs.Ytonpikdpclpkiaa
