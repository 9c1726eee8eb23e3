import Derived.Test.YtipmgnigejpfjaaRefXor2X
namespace Go.Proofs.Ytipmgnigejpfjaa
open Go.RowKit

/-- the digit's number as an int, -1 where it is none -/
def digI (c : Int) : Int := match digV c with | some v => v | none => -1

theorem digI_le : ∀ c : Int, -1 ≤ digI c ∧ digI c ≤ 15 := by
  intro c; unfold digI
  cases h : digV c with
  | none => simp
  | some v => have := digV_bd h; simp only; omega

theorem index_digits64 (k : Nat) (h : k < 16) (w : World) :
    (Instr.index 9 (.string { data := #[48, 49, 50, 51, 52, 53, 54, 55, 56, 57, 97, 98, 99, 100, 101, 102] }) (.int .i64 k)).run Try.prog w = .ok (.int .u8 (hexD k)) w := by
  have : k = 0 ∨ k = 1 ∨ k = 2 ∨ k = 3 ∨ k = 4 ∨ k = 5 ∨ k = 6 ∨ k = 7 ∨ k = 8 ∨ k = 9 ∨ k = 10 ∨ k = 11 ∨ k = 12 ∨ k = 13 ∨ k = 14 ∨ k = 15 := by omega
  rcases this with rfl | rfl | rfl | rfl | rfl | rfl | rfl | rfl | rfl | rfl | rfl | rfl | rfl | rfl | rfl | rfl <;> (show _ = _; kernel_rfl)

set_option maxHeartbeats 1000000 in
set_option maxRecDepth 100000 in
theorem refdigit_any (c : Int) (w : World) :
    Calls Try.prog 59 #[.int .u8 c] w fun e w' => e = .returned (.int .i64 (digI c)) ∧ w' = w := by
  go_enter Try.func59, Try.ntmps59
  go_wp2
  go_loop [3] (fun i => ∃ k : Nat, k ≤ 16 ∧ i = .int .i64 k ∧ ∀ j : Nat, j < k → hexD j ≠ c) (fun i => 16 - (intOf i).toNat)
  case atStart => exact ⟨0, by omega, rfl, by omega⟩
  case round =>
    obtain ⟨k, hk, rfl, hall⟩ := hrel
    have HA := hide hall
    clear hall
    by_cases hlt : k < 16
    · have hix := index_digits64 k hlt
      by_cases he : hexD k = c
      · have hb : (hexD (k : Int) == c) = true := by simpa using he
        have hf : digI c = k := by unfold digI; rw [← he, digV_hexD k (by omega) (by omega)]
        have HF := hide hf
        have HE := hide he
        clear he hf
        go_wp2
        go_ret
        exact ⟨ret_int (unhide HF).symm, rfl⟩
      · have hb : (hexD (k : Int) == c) = false := by simpa using he
        have HE := hide he
        clear he
        go_wp2
        go_round
        case rel =>
          refine ⟨k + 1, by omega, by go_num, fun j hj => ?_⟩
          by_cases e : j = k
          · subst e; exact unhide HE
          · exact unhide HA j (by omega)
        case measure => simp [intOf]; omega
    · have hf : digI c = -1 := by
        unfold digI
        cases h : digV c with
        | none => rfl
        | some v =>
          have hb := digV_bd h
          have := hexD_digV h
          obtain ⟨V, rfl⟩ := Int.eq_ofNat_of_zero_le hb.1
          exact absurd this (unhide HA V (by omega))
      have HF := hide hf
      clear hf
      go_wp2
      go_ret
      exact ⟨ret_int (unhide HF).symm, rfl⟩

set_option maxHeartbeats 1000000 in
set_option maxRecDepth 100000 in
theorem refunhex_odd (s : ByteArray) (w : World) (hs : s.size ≤ maxLen) (hodd : s.size % 2 = 1) :
    Calls Try.prog 49 #[.string s] w fun e w' => e = .returned (.tuple #[.slice none 0 0, .bool false]) ∧ w' = w := by
  unfold maxLen at hs
  have hb : (((s.size : Int) % 2) != 0) = true := by rw [bne_iff_ne]; omega
  go_enter Try.func49, Try.ntmps49
  go_wp2
  go_ret2
  exact ⟨rfl, rfl⟩

theorem unhexL_take_succ (L : List Int) (k : Nat) (h : 2 * k + 1 < L.length) : (unhexL L).take (k + 1) = (unhexL L).take k ++ [hexV L k] := by
  rw [take_succ_getD _ k (by rw [unhexL_length]; omega), getD_lt _ _ (by rw [unhexL_length]; omega)]; simp [unhexL]

theorem digI_some {c v : Int} (h : digV c = some v) : digI c = v := by unfold digI; rw [h]
theorem digI_none {c : Int} (h : digV c = none) : digI c = -1 := by unfold digI; rw [h]

set_option maxHeartbeats 2000000 in
set_option maxRecDepth 100000 in
theorem refunhex_even (s : ByteArray) (w : World) (hs : s.size ≤ 1099511627776) (n : Nat) (hn : s.size = 2 * n) :
    Calls Try.prog 49 #[.string s] w fun e w' => Below w.heap.size w w' ∧
      ((OkHex (strL s) ∧ ∃ v, e = .returned (.tuple #[v, .bool true]) ∧ w'.ownsRow w.heap.size 5 1 v n (U8 (unhexL (strL s))))
       ∨ (¬ OkHex (strL s) ∧ e = .returned (.tuple #[.slice none 0 0, .bool false]))) := by
  obtain ⟨i0, hi, hz0, hz1, hz2⟩ := info_parts Try.infoB
  have HN := hide hn
  have hb : (((s.size : Int) % 2) != 0) = false := by rw [bne_eq_false_iff_eq]; omega
  have hnn : n ≤ 1099511627776 := by omega
  clear hn
  go_enter Try.func49, Try.ntmps49
  go_wp2
  go_loopw [4, 5] (fun b i wr => ∃ k : Nat, k ≤ n ∧ i = .int .i64 ((2 * k : Nat) : Int) ∧ wr.ownsRow w.heap.size 5 1 b k (U8 ((unhexL (strL s)).take k)) ∧ Below w.heap.size w wr ∧
      ∀ j, j < 2 * k → (digV ((strL s).getD j 0)).isSome = true)
    (fun _ i _ => s.size + 2 - (intOf i).toNat)
  case atStart => exact ⟨0, by omega, rfl, World.ownsRow_nil _ _ _ _, Below.refl _ _, by omega⟩
  case round =>
    obtain ⟨k, hk, rfl, hown, hbl, hall⟩ := hrel
    have HALL := hide hall
    clear hall
    obtain ⟨m, hm⟩ : ∃ m, m = 2 * k := ⟨_, rfl⟩
    rw [← hm]
    have HM := hide hm
    by_cases hlt : k < n
    · have hsz := unhide HN
      have k1 : m < s.size := by omega
      have k2 : m + 1 < s.size := by omega
      have k2' : (m : Int) + 1 < (s.size : Int) := by omega
      have g1 := strL_at s m k1
      have g2 := strL_at s (m + 1) k2
      have HG1 := hide g1
      have HG2 := hide g2
      clear g1 g2 hsz hm
      cases hd1 : digV (s[m].toNat : Int) with
      | none =>
        have H1 := hide hd1
        have hi1 := digI_none hd1
        clear hd1
        go_wp2_with fail
        refine (refdigit_any _ _).mono ?_
        rintro e w' ⟨rfl, rfl⟩
        go_wp2_with fail
        refine (refdigit_any _ _).mono ?_
        rintro e w' ⟨rfl, rfl⟩
        have hbd := digI_le (s[m + 1].toNat : Int)
        go_wp2
        go_ret2
        refine ⟨hbl, .inr ⟨fun h => ?_, rfl⟩⟩
        have := h.2 m (by simpa using k1)
        rw [unhide HG1, unhide H1] at this; simp at this
      | some x =>
        have bx := digV_bd hd1
        have H1 := hide hd1
        have hi1 := digI_some hd1
        clear hd1
        cases hd2 : digV (s[m + 1].toNat : Int) with
        | none =>
          have H2 := hide hd2
          have hi2 := digI_none hd2
          clear hd2
          go_wp2_with fail
          refine (refdigit_any _ _).mono ?_
          rintro e w' ⟨rfl, rfl⟩
          go_wp2_with fail
          refine (refdigit_any _ _).mono ?_
          rintro e w' ⟨rfl, rfl⟩
          have hx : decide (x < 0) = false := by simp; omega
          go_wp2
          go_ret2
          refine ⟨hbl, .inr ⟨fun h => ?_, rfl⟩⟩
          have := h.2 (m + 1) (by simpa using k2)
          rw [unhide HG2, unhide H2] at this; simp at this
        | some y =>
          have bY := digV_bd hd2
          have H2 := hide hd2
          have hi2 := digI_some hd2
          have hv : hexV (strL s) k = x * 16 + y := by
            unfold hexV; rw [← unhide HM, unhide HG1, unhide HG2, unhide H1, hd2]; rfl
          have hsn : Hid (U8 ((unhexL (strL s)).take (k + 1)) = U8 ((unhexL (strL s)).take k) ++ [.int .u8 (16 * x + y)]) := hide (by
            rw [unhexL_take_succ _ k (by rw [strL_length, ← unhide HM]; exact k2), U8_snoc, hv, Int.mul_comm x 16])
          clear hd2 hv
          have hx : decide (x < 0) = false := by simp; omega
          have hy : decide (y < 0) = false := by simp; omega
          go_wp2_with fail
          refine (refdigit_any _ _).mono ?_
          rintro e w' ⟨rfl, rfl⟩
          go_wp2_with fail
          refine (refdigit_any _ _).mono ?_
          rintro e w' ⟨rfl, rfl⟩
          go_wp2_with (at_builtin; refine wpList_append_own _ rfl _ _ 28 rfl w.heap.size 5 i0 (.int .u8 0) 1 1 Try.underlying28 hi hz0 hz1 hz2 rfl (by decide) _ k (U8 ((unhexL (strL s)).take k)) rfl (hown.alloc _) ⟨w'.heap.size, 0, none⟩ 1 1 [.int .u8 (16 * x + y)] rfl rfl (cell_one_new _ _ _) (one_byte _) (by unfold maxLen; omega) (by omega) (by have := hbl.size; simp; omega) ?_)
          intro v1 w1 hown1 hgrow1 _
          have hb1 := below_app hbl (Nat.le_refl _) hown hgrow1
          clear hgrow1 hown hbl
          go_wp2
          go_roundw
          case rel =>
            refine ⟨k + 1, by omega, by have := unhide HM; go_num, by rw [unhide hsn]; exact hown1, hb1, fun j hj => ?_⟩
            have hm := unhide HM
            by_cases e1 : j = m
            · subst e1; rw [unhide HG1, unhide H1]; rfl
            · by_cases e2 : j = m + 1
              · subst e2; rw [unhide HG2, unhide H2]; rfl
              · exact unhide HALL j (by omega)
          case measure => simp [intOf]; omega
    · have hkk : k = n := by omega
      subst hkk
      have hge : ¬ (m : Int) + 1 < (s.size : Int) := by have := unhide HN; omega
      have hmb : m ≤ 2199023255552 := by omega
      clear hm
      go_wp2
      go_ret2
      rw [List.take_of_length_le (by rw [unhexL_length, strL_length, unhide HN]; omega)] at hown
      exact ⟨hbl, .inl ⟨⟨by simp [unhide HN], fun j hj => unhide HALL j (by simp [unhide HN] at hj; omega)⟩, _, rfl, hown⟩⟩
end Go.Proofs.Ytipmgnigejpfjaa
