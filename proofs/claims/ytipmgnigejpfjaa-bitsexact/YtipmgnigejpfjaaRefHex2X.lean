import Derived.Test.YtipmgnigejpfjaaRefHexX
namespace Go.Proofs.Ytipmgnigejpfjaa
open Go.RowKit

theorem slice_digits (v : Int) (h0 : 0 ≤ v) (h1 : v ≤ 15) (w : World) :
    (Instr.slice 9 (.string { data := #[48, 49, 50, 51, 52, 53, 54, 55, 56, 57, 97, 98, 99, 100, 101, 102] }) (some (.int .u8 v)) (some (.int .u8 (v + 1))) none).run Try.prog w = .ok (.string (strOfNums [hexD v])) w := by
  have : v = 0 ∨ v = 1 ∨ v = 2 ∨ v = 3 ∨ v = 4 ∨ v = 5 ∨ v = 6 ∨ v = 7 ∨ v = 8 ∨ v = 9 ∨ v = 10 ∨ v = 11 ∨ v = 12 ∨ v = 13 ∨ v = 14 ∨ v = 15 := by omega
  rcases this with rfl | rfl | rfl | rfl | rfl | rfl | rfl | rfl | rfl | rfl | rfl | rfl | rfl | rfl | rfl | rfl <;> (show _ = _; kernel_rfl)

theorem strOfNums_append (a b : List Int) : strOfNums a ++ strOfNums b = strOfNums (a ++ b) := by
  apply bytes_ext
  simp [strOfNums]

set_option maxHeartbeats 2000000 in
set_option maxRecDepth 100000 in
theorem refhex_any (s : Sl) (w : World) (hs : s.Ok w) (hn : s.n ≤ 1099511627776) :
    Calls Try.prog 47 #[s.v] w fun e w' => e = .returned (.string (strOfNums (hexL s.l))) ∧ ∃ q, w' = w.drewN q := by
  obtain ⟨a, n, c, l⟩ := s
  have hl := hs.len
  simp only [Sl.v] at hl hn ⊢
  have HL := hide hl
  have HS := hide hs
  clear hl hs
  go_enter Try.func47, Try.ntmps47
  go_wp2
  go_loopw [3, 4] (fun t i wr => ∃ k q : Nat, k ≤ n ∧ i = .int .i64 k ∧ t = .string (strOfNums (hexL (l.take k))) ∧ wr = w.drewN q) (fun _ i _ => n - (intOf i).toNat)
  case atStart => exact ⟨0, 0, by omega, rfl, rfl, rfl⟩
  case round =>
    obtain ⟨k, q, hk, rfl, rfl, rfl⟩ := hrel
    by_cases hlt : k < n
    · obtain ⟨b, off, rfl, hbw, hc⟩ := (unhide HS).lies (by simp only; rw [unhide HL]; omega)
      have hck := hc k (by simp only; rw [unhide HL]; omega)
      have hby := (unhide HS).isB.at k
      simp only at hck hby
      clear hc
      obtain ⟨W, hW⟩ : ∃ W, W = w.drewN q := ⟨_, rfl⟩
      have hck' : W.cell? ⟨b, off + k, none⟩ = some (.int .u8 (l.getD k 0)) := by rw [hW]; exact hck
      rw [← hW]
      have HW := hide hW
      have hsz : (strOfNums (hexL (l.take k))).size ≤ 2199023255552 := by rw [strOfNums_sz, hexL_length, List.length_take]; omega
      have hsz2 : ∀ x, (strOfNums [hexD x]).size = 1 := fun x => by rw [strOfNums_sz]; rfl
      have hfin : Hid (strOfNums (hexL (l.take k)) ++ strOfNums [hexD (l.getD k 0 / 16)] ++ strOfNums [hexD (l.getD k 0 % 16)] = strOfNums (hexL (l.take (k + 1)))) := hide (by
        rw [take_succ_getD l k (by rw [unhide HL]; omega), hexL_snoc, strOfNums_append, strOfNums_append]; simp)
      clear hW hck
      generalize l.getD k 0 = x at hck' hby hfin
      have h0 := hby.1
      have h1 := hby.2
      have s1 := slice_digits (x / 16) (by omega) (by omega)
      have s2 := slice_digits (x % 16) (by omega) (by omega)
      have hkn : (k : Int) < (n : Int) := by omega
      generalize strOfNums (hexL (l.take k)) = T at hsz hfin ⊢
      clear hby
      go_wp2
      go_quiet (fail)
      go_wp2
      go_roundw
      case rel => exact ⟨k + 1, q + nq, by omega, by go_num, by rw [unhide hfin], by rw [unhide HW, World.drewN_drewN]⟩
      case measure => simp [intOf]; omega
    · have hkk : k = n := by omega
      subst hkk
      rw [List.take_of_length_le (by rw [unhide HL]; omega)]
      go_wp2
      go_ret
      exact ⟨rfl, q, rfl⟩
end Go.Proofs.Ytipmgnigejpfjaa
