import Derived.Test.YtmdpmkdofgligaaEnM
set_option linter.unusedVariables false
namespace Go.Proofs.Ytmdpmkdofgligaa
open Go.RowKit

/-- the length that stands at the front -/
def lenL (l : List Int) : Nat := (leV ((l.drop 2).take 4).reverse).toNat
/-- how many bytes the frame at the front has, and the tail -/
def mz (l : List Int) : Nat × Int :=
  if l.length = 0 then (0, 0) else if l.getD 0 0 ≠ 165 then (0, 4) else if l.length < 6 then (0, 1)
  else if 262144 < lenL l then (0, 2) else if l.length < lenL l + 10 then (0, 1)
  else if leV ((l.drop (lenL l + 6)).take 4) ≠ crc ((l.drop 1).take (lenL l + 5)) then (0, 3) else (lenL l + 10, 0)

theorem lenL_bd {l : List Int} (h : IsB l) : (lenL l : Int) = leV ((l.drop 2).take 4).reverse ∧ lenL l < 4294967296 := by
  have hb := leV_bd _ ((h.drop 2).take 4).reverse
  have hl : ((l.drop 2).take 4).reverse.length ≤ 4 := by simp; omega
  have h2 : (2 : Int) ^ (8 * ((l.drop 2).take 4).reverse.length) ≤ 2 ^ 32 := by
    have : (2 : Nat) ^ (8 * ((l.drop 2).take 4).reverse.length) ≤ 2 ^ 32 := Nat.pow_le_pow_right (by decide) (by omega)
    exact_mod_cast this
  unfold lenL
  omega
theorem Sl.Ok.mid {w : World} {b off n c : Nat} {l : List Int} (h : Sl.Ok w ⟨some ⟨b, off, none⟩, n, c, l⟩) (i m : Nat) (hm : i + m ≤ n) : Sl.Ok w ⟨some ⟨b, off + i, none⟩, m, c - i, (l.drop i).take m⟩ := by
  have h1 := h.len
  have h2 := h.le
  have h3 := h.mx
  simp only at h1 h2 h3
  exact ⟨by simp only [List.length_take, List.length_drop]; omega, by simp only; omega, by simp only; omega, (fun h => by cases h), (h.isB.drop i).take m, Lies.sub i m h.lies (by omega)⟩

set_option maxHeartbeats 1000000 in
set_option maxRecDepth 100000 in
theorem measure_any (d : Sl) (w : World) (hd : d.Ok w) :
    Calls Try.prog 22 #[d.v] w fun e w' => e = .returned (.tuple #[.int .i64 (mz d.l).1, .int .i64 (mz d.l).2]) ∧ w' = w := by
  obtain ⟨a, n, c, l⟩ := d
  have hl : l.length = n := hd.len
  have hle : n ≤ c := hd.le
  have hmx : c ≤ 9223372036854775807 := by have := hd.mx; unfold maxLen at this; exact this
  simp only [Sl.v]
  generalize hM : mz l = M
  unfold mz at hM
  rw [hl] at hM
  have HD := hide hd
  have HM := hide hM
  have HL := hide hl
  clear hd hM hl
  by_cases h0 : n = 0
  · subst h0
    have hM := unhide HM
    rw [if_pos rfl] at hM
    subst hM
    go_enter Try.func22, Try.ntmps22
    go_wp2_with fail
    go_ret2
    exact ⟨rfl, rfl⟩
  have hn0 : (0 : Int) < (n : Int) := by omega
  have hn0' : ((n : Int) == 0) = false := by rw [beq_eq_false_iff_ne]; omega
  obtain ⟨ab, ao, haa, -, hac⟩ := (unhide HD).lies (by show 0 < l.length; rw [unhide HL]; omega)
  have haa' : a = some ⟨ab, ao, none⟩ := haa
  subst haa'
  have c0 : w.cell? ⟨ab, ao, none⟩ = some (.int .u8 (l.getD 0 0)) := by have := hac 0 (by show 0 < l.length; rw [unhide HL]; omega); rw [Nat.add_zero] at this; exact this
  clear haa hac
  by_cases h1 : l.getD 0 0 = 165
  · rw [h1] at c0
    have hne1 : ((165 : Int) != 165) = false := rfl
    by_cases h2 : n < 6
    · have hM := unhide HM
      rw [if_neg h0, if_neg (fun h => h h1), if_pos h2] at hM
      subst hM
      have hz : (n : Int) < 6 := by omega
      clear h1
      go_enter Try.func22, Try.ntmps22
      go_wp2_with fail
      go_ret2
      exact ⟨rfl, rfl⟩
    · have hz : ¬ (n : Int) < 6 := by omega
      have hB := lenL_bd (unhide HD).isB
      simp only at hB
      have hLd := loadbe32_ok ab ao n c 2 l w (unhide HL) (unhide HD).isB (unhide HD).lies (by omega) hle (by unfold maxLen; omega)
      rw [← hB.1] at hLd
      obtain ⟨m, hm⟩ : ∃ m, m = lenL l := ⟨_, rfl⟩
      have HM2 := hide (unhide HM)
      rw [← hm] at hLd hB HM2
      have hm1 := hB.2
      have HM3 := HM2
      clear hB HM2 HM hm
      by_cases h3 : 262144 < m
      · have hM := unhide HM3
        rw [if_neg h0, if_neg (fun h => h h1), if_neg h2, if_pos h3] at hM
        subst hM
        have hz3 : (262144 : Int) < (m : Int) := by omega
        clear h1 HM3
        go_enter Try.func22, Try.ntmps22
        go_wp2_with (go_at_call 30; refine hLd.mono ?_; rintro e w' ⟨rfl, rfl⟩; clear hLd)
        go_ret2
        exact ⟨rfl, rfl⟩
      have hz3 : ¬ (262144 : Int) < (m : Int) := by omega
      by_cases h4 : n < m + 10
      · have hM := unhide HM3
        rw [if_neg h0, if_neg (fun h => h h1), if_neg h2, if_neg h3, if_pos h4] at hM
        subst hM
        have hz4 : (n : Int) < (m : Int) + 10 := by omega
        clear h1 HM3
        go_enter Try.func22, Try.ntmps22
        go_wp2_with (go_at_call 30; refine hLd.mono ?_; rintro e w' ⟨rfl, rfl⟩; clear hLd)
        go_ret2
        exact ⟨rfl, rfl⟩
      have hz4 : ¬ (n : Int) < (m : Int) + 10 := by omega
      have hLl := loadle32_ok ab ao n c (m + 6) l w (unhide HL) (unhide HD).isB (unhide HD).lies (by omega) hle (by unfold maxLen; omega)
      have hSu := sum_any _ w ((unhide HD).mid 1 (m + 5) (by omega))
      simp only [Sl.v] at hSu
      rw [Nat.add_comm m 5] at hSu
      have HX : Hid ((if leV ((l.drop (m + 6)).take 4) ≠ crc ((l.drop 1).take (5 + m)) then (0, 3) else (m + 10, 0)) = M) := hide (by
        have hM := unhide HM3
        rw [Nat.add_comm m 5] at hM
        rw [if_neg h0, if_neg (fun h => h h1), if_neg h2, if_neg h3, if_neg h4] at hM
        exact hM)
      generalize leV ((l.drop (m + 6)).take 4) = x at hLl HX
      generalize crc ((l.drop 1).take (5 + m)) = y at hSu HX
      rw [show ((m + 6 : Nat) : Int) = 6 + (m : Int) by omega] at hLl
      clear h1 HM3
      by_cases h5 : x = y
      · subst h5
        have hM := unhide HX
        rw [if_neg (fun h => h rfl)] at hM
        subst hM
        have hne : (x != x) = false := by simp
        go_enter Try.func22, Try.ntmps22
        go_wp2_with (first
          | (go_at_call 30; refine hLd.mono ?_; rintro e w' ⟨rfl, rfl⟩; clear hLd)
          | (go_at_call 31; refine hLl.mono ?_; rintro e w' ⟨rfl, rfl⟩; clear hLl)
          | (go_at_call 4; refine hSu.mono ?_; rintro e w' ⟨rfl, rfl⟩; clear hSu))
        go_ret2
        refine ⟨?_, rfl⟩
        rw [show (((m + 10 : Nat), (0 : Int)).1 : Int) = 6 + (m : Int) + 4 by simp only; omega]
        rfl
      · have hM := unhide HX
        rw [if_pos h5] at hM
        subst hM
        have hne : (x != y) = true := by rw [bne_iff_ne]; exact h5
        clear h5
        go_enter Try.func22, Try.ntmps22
        go_wp2_with (first
          | (go_at_call 30; refine hLd.mono ?_; rintro e w' ⟨rfl, rfl⟩; clear hLd)
          | (go_at_call 31; refine hLl.mono ?_; rintro e w' ⟨rfl, rfl⟩; clear hLl)
          | (go_at_call 4; refine hSu.mono ?_; rintro e w' ⟨rfl, rfl⟩; clear hSu))
        go_ret2
        exact ⟨rfl, rfl⟩
  · have hM := unhide HM
    rw [if_neg h0, if_pos h1] at hM
    subst hM
    have hne : (l.getD 0 0 != 165) = true := by rw [bne_iff_ne]; exact h1
    generalize l.getD 0 0 = x at *
    clear h1
    go_enter Try.func22, Try.ntmps22
    go_wp2_with fail
    go_ret2
    exact ⟨rfl, rfl⟩
end Go.Proofs.Ytmdpmkdofgligaa
