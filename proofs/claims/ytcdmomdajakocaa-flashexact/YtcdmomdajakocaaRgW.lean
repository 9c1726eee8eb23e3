import Derived.Test.YtcdmomdajakocaaRgM
import Derived.Test.YtcdmomdajakocaaTolW
set_option linter.unusedVariables false
set_option linter.unusedSimpArgs false
namespace Go.Proofs.Ytcdmomdajakocaa
open Go.RowKit

theorem OwB.okn {w : World} {a : Option Addr} {n c : Nat} {l : List Int} (h : OwB w (.slice a n c) l) (hn : l.length = n) : Sl.Ok w ⟨a, n, c, l⟩ := by subst hn; exact h.ok
set_option maxHeartbeats 400000 in
set_option maxRecDepth 100000 in
theorem wiped_any (d : Sl) (g c : Nat) (w : World) (hd : d.Ok w) (hdn : d.n ≤ 2097152) (h : OwB w (.slice (some ⟨g, 0, none⟩) (d.n + 64) c) (d.l ++ marks)) :
    Calls Try.prog 7 #[.slice (some ⟨g, 0, none⟩) (d.n + 64) c, .slice d.a d.n d.c] w fun e w' => e = .returned (.bool true) ∧ (∃ l', l'.length = d.n + 64 ∧ OwB w' (.slice (some ⟨g, 0, none⟩) (d.n + 64) c) l') ∧ Buts (· = g) w w' := by
  have hR := roomy_any d w hd hdn
  obtain ⟨da, dn, dc, l⟩ := d
  simp only [Sl.v] at *
  have hl : l.length = dn := hd.len
  have hgl : g < w.heap.size := h.lt g rfl
  obtain ⟨n, hn⟩ : ∃ n, n = dn + 64 := ⟨_, rfl⟩
  have hLL : (l ++ marks).length = n := by rw [List.length_append, marks_length, hl, hn]
  obtain ⟨lm, hlm⟩ : ∃ lm, l ++ marks = lm := ⟨_, rfl⟩
  rw [hlm] at h hR hLL
  have HO := hide h
  have HL := hide hLL
  have HN := hide hn
  have HI := hide hd.isB
  have hn2 : n ≤ 2097216 := by omega
  rw [← hn] at hR ⊢
  clear h hd hl hLL hlm hn hgl
  go_enter Try.func7, Try.ntmps7
  go_wp2_with (first
    | (go_at_call 5; refine hR.mono ?_; rintro e w1 ⟨g1, c1, rfl, ho1, b1⟩; clear hR; have HO1 : Hid (OwB w1 (.slice (some ⟨g, 0, none⟩) n c) lm) := hide (by rw [unhide HN]; exact (unhide HO).later b1); have HOa : Hid (Sl.Ok w1 ⟨some ⟨g, 0, none⟩, n, c, lm⟩) := hide ((unhide HO1).okn (unhide HL)); have HOb : Hid (OwB w1 (.slice (some ⟨g1, 0, none⟩) n c1) lm) := hide ⟨by rw [unhide HL]; exact own_mono ho1 (Nat.zero_le _), (unhide HO).2⟩; have hS := same_t ⟨some ⟨g, 0, none⟩, n, c, lm⟩ ⟨some ⟨g1, 0, none⟩, n, c1, lm⟩ w1 (unhide HOa) ((unhide HOb).okn (unhide HL)) (by simp only; omega) rfl; have HB1 := hide b1; clear ho1 b1)
    | (go_at_call 12; refine hS.mono ?_; rintro e w2 ⟨rfl, k2, hk2⟩; subst w2; clear hS))
  have b12 : Below w1.heap.size w1 (w1.drewN k2) := below_drewN (Below.refl _ _) _
  have HO2 := hide ((unhide HO1).later b12)
  have HB2 := hide (bel_then (unhide HB1) (unhide HB1).size b12)
  clear b12 HO1
  go_loopw [6] (fun i wr => ∃ (k : Nat) (l : List Int), k ≤ n ∧ i = .int .i64 k ∧ Hid (OwB wr (.slice (some ⟨g, 0, none⟩) n c) l ∧ l.length = n) ∧ Hid (Buts (· = g) w wr)) (fun i _ => n - (intOf i).toNat)
  case atStart => exact ⟨0, lm, by omega, rfl, hide ⟨unhide HO2, unhide HL⟩, hide (Buts.of_below (unhide HB2))⟩
  case round =>
    obtain ⟨k, l, hk, rfl, HL, HB⟩ := hrel
    by_cases hlt : k < n
    · have hkz : (k : Int) < (n : Int) := by omega
      obtain ⟨ho, hl2⟩ := unhide HL
      have ho1 := ho.1
      rw [hl2] at ho1
      have c2 : wr.cell? ⟨g, k, none⟩ = some (.int .u8 (l.getD k 0)) := by rw [ho1.cellAt k (by omega), U8_at _ _ (by omega)]
      have f2 := ho1.frozenAt k
      obtain ⟨xo, hxo⟩ : ∃ xo, l.getD k 0 = xo := ⟨_, rfl⟩
      rw [hxo] at c2
      have HL3 : Hid (OwB (wr.setCell ⟨g, k, none⟩ (.int .u8 7)) (.slice (some ⟨g, 0, none⟩) n c) (l.set k 7) ∧ (l.set k 7).length = n) := hide ⟨ho.put hl2.symm k 7 (by omega), by rw [List.length_set]; exact hl2⟩
      have HB3 : Hid (Buts (· = g) w (wr.setCell ⟨g, k, none⟩ (.int .u8 7))) := hide ((unhide HB).trans (Buts.of_but ((But.refl g wr).setCell k _)))
      clear ho ho1 hxo hl2
      go_wp2
      go_roundw
      case rel => exact ⟨k + 1, _, by omega, by go_num, HL3, HB3⟩
      case measure => simp [intOf]; omega
    · have hkz : ¬ (k : Int) < (n : Int) := by omega
      go_wp2
      go_ret
      exact ⟨rfl, ⟨l, (unhide HL).2, (unhide HL).1⟩, unhide HB⟩
end Go.Proofs.Ytcdmomdajakocaa
