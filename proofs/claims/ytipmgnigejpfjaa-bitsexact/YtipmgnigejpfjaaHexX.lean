import Derived.Test.YtipmgnigejpfjaaEqX
namespace Go.Proofs.Ytipmgnigejpfjaa
open Go.RowKit

def strL (s : ByteArray) : List Int := s.data.toList.map fun c => (c.toNat : Int)
@[simp] theorem strL_length (s : ByteArray) : (strL s).length = s.size := by unfold strL; rw [List.length_map]; rfl
theorem strL_at (s : ByteArray) (k : Nat) (h : k < s.size) : (strL s).getD k 0 = (s[k].toNat : Int) := by
  rw [getD_lt _ _ (by simpa using h)]; simp [strL]; rfl
theorem strL_isB (s : ByteArray) : IsB (strL s) := by
  intro x hx; simp [strL] at hx; obtain ⟨c, _, rfl⟩ := hx; have := c.toNat_lt; omega

theorem digit_some (c h : Int) (w : World) (h0 : 0 ≤ c) (h1 : c ≤ 255) (hd : digV c = some h) :
    Calls Try.prog 58 #[.int .u8 c] w fun e w' => e = .returned (.tuple #[.int .u8 h, .bool true]) ∧ w' = w := by
  have := digit_any c w h0 h1; rw [hd] at this; exact this
theorem digit_none (c : Int) (w : World) (h0 : 0 ≤ c) (h1 : c ≤ 255) (hd : digV c = none) :
    Calls Try.prog 58 #[.int .u8 c] w fun e w' => e = .returned (.tuple #[.int .u8 0, .bool false]) ∧ w' = w := by
  have := digit_any c w h0 h1; rw [hd] at this; exact this
theorem digV_bd {c h : Int} (hd : digV c = some h) : 0 ≤ h ∧ h ≤ 15 := by
  unfold digV at hd; split at hd
  · simp at hd; omega
  · split at hd
    · simp at hd; omega
    · simp at hd
theorem byte_bd (u : UInt8) : (0 : Int) ≤ (u.toNat : Int) ∧ (u.toNat : Int) ≤ 255 := by have := u.toNat_lt; omega
theorem nib_or (a b : Int) (a0 : 0 ≤ a) (a1 : a ≤ 15) (b0 : 0 ≤ b) (b1 : b ≤ 15) : bits .or .u8 (a * 16) b = a * 16 + b := by
  rw [u8_or _ _ (by omega) (by omega) b0 (by omega)]
  obtain ⟨A, rfl⟩ := Int.eq_ofNat_of_zero_le a0
  obtain ⟨B, rfl⟩ := Int.eq_ofNat_of_zero_le b0
  have e : ((A : Int) * 16).toNat = 2 ^ 4 * A := by omega
  rw [e, Int.toNat_natCast, ← Nat.two_pow_add_eq_or_of_lt (by omega : B < 2 ^ 4)]
  omega

def hexV (L : List Int) (i : Nat) : Int := (digV (L.getD (2 * i) 0)).getD 0 * 16 + (digV (L.getD (2 * i + 1) 0)).getD 0
def unhexL (L : List Int) : List Int := (List.range (L.length / 2)).map (hexV L)
def OkHex (L : List Int) : Prop := L.length % 2 = 0 ∧ ∀ j, j < L.length → (digV (L.getD j 0)).isSome = true

set_option maxHeartbeats 1000000 in
set_option maxRecDepth 100000 in
theorem unhex_odd (s : ByteArray) (w : World) (hs : s.size ≤ maxLen) (hodd : s.size % 2 = 1) :
    Calls Try.prog 48 #[.string s] w fun e w' => e = .returned (.tuple #[.slice none 0 0, .bool false]) ∧ w' = w := by
  unfold maxLen at hs
  have hb : (((s.size : Int) % 2) != 0) = true := by rw [bne_iff_ne]; omega
  go_enter Try.func48, Try.ntmps48
  go_wp2
  go_ret2
  exact ⟨rfl, rfl⟩

set_option maxHeartbeats 2000000 in
set_option maxRecDepth 100000 in
theorem unhex_even (s : ByteArray) (w : World) (hs : s.size ≤ 1099511627776) (n : Nat) (hn : s.size = 2 * n) :
    Calls Try.prog 48 #[.string s] w fun e w' => Below w.heap.size w w' ∧
      ((OkHex (strL s) ∧ e = .returned (.tuple #[.slice (some ⟨w.heap.size, 0, none⟩) n n, .bool true]) ∧
          w'.ownsRow w.heap.size 5 1 (.slice (some ⟨w.heap.size, 0, none⟩) n n) n (U8 (unhexL (strL s))))
       ∨ (¬ OkHex (strL s) ∧ e = .returned (.tuple #[.slice none 0 0, .bool false]))) := by
  obtain ⟨i0, hi, hz0, hz1, hz2⟩ := info_parts Try.infoB
  have HN := hide hn
  have hb : (((s.size : Int) % 2) != 0) = false := by rw [bne_eq_false_iff_eq]; omega
  have hq : (s.size : Int) / 2 = (n : Int) := by omega
  have hbs : i0.bytes * n ≤ 281474976710656 := by rw [hz2]; omega
  have hmx : n ≤ maxLen := by unfold maxLen; omega
  have hnn : n ≤ 1099511627776 := by omega
  clear hn
  go_enter Try.func48, Try.ntmps48
  go_wp2_with (at_make; refine wpList_make_full _ rfl _ _ 28 rfl w.heap.size 5 i0 (.int .u8 0) 1 Try.underlying28 hi hz0 hz1 .i64 .i64 n n n rfl rfl rfl rfl hbs hmx (Nat.le_refl _) ?_)
  intro w1 hown hgrow
  have hb1 : Below w.heap.size w w1 := (Below.refl _ _).grown hgrow (Nat.le_refl _) (fun _ h => by cases h)
  have hown0 : w1.ownsRow w.heap.size 5 1 (.slice (some ⟨w.heap.size, 0, none⟩) n n) n (U8 (fill n (hexV (strL s)) 0)) := by
    rw [fill_zero, ← made_U8, Nat.mul_one]; exact hown
  clear hown hgrow
  go_wp2
  go_loopw [20] (fun i wr => ∃ k : Nat, k ≤ n ∧ i = .int .i64 k ∧ wr.ownsRow w.heap.size 5 1 (.slice (some ⟨w.heap.size, 0, none⟩) n n) n (U8 (fill n (hexV (strL s)) k)) ∧ Below w.heap.size w wr ∧
      ∀ j, j < 2 * k → (digV ((strL s).getD j 0)).isSome = true)
    (fun i _ => n - (intOf i).toNat)
  case atStart => exact ⟨0, by omega, rfl, hown0, hb1, by omega⟩
  case round =>
    obtain ⟨k, hk, rfl, hown, hbl, hall⟩ := hrel
    have HALL := hide hall
    clear hown0 hb1 hall
    by_cases hlt : k < n
    · have hsz := unhide HN
      have k1 : 2 * k < s.size := by omega
      have k2 : 2 * k + 1 < s.size := by omega
      clear hsz
      have g1 := strL_at s (2 * k) k1
      have g2 := strL_at s (2 * k + 1) k2
      have HG1 := hide g1
      have HG2 := hide g2
      clear g1 g2
      cases hd1 : digV (s[2 * k].toNat : Int) with
      | none =>
        have H1 := hide hd1
        clear hd1
        go_wp2_with fail
        refine (digit_none _ _ (byte_bd _).1 (byte_bd _).2 (unhide H1)).mono ?_
        rintro e w' ⟨rfl, rfl⟩
        go_wp2_with fail
        refine (digit_any _ _ (byte_bd _).1 (byte_bd _).2).mono ?_
        rintro e w' ⟨rfl, rfl⟩
        go_wp2
        go_ret2
        refine ⟨hbl, .inr ⟨fun h => ?_, rfl⟩⟩
        have := h.2 (2 * k) (by simpa using k1)
        rw [unhide HG1, unhide H1] at this; simp at this
      | some x =>
        have bx := digV_bd hd1
        have H1 := hide hd1
        clear hd1
        cases hd2 : digV (s[2 * k + 1].toNat : Int) with
        | none =>
          have H2 := hide hd2
          clear hd2
          go_wp2_with fail
          refine (digit_some _ _ _ (byte_bd _).1 (byte_bd _).2 (unhide H1)).mono ?_
          rintro e w' ⟨rfl, rfl⟩
          go_wp2_with fail
          refine (digit_none _ _ (byte_bd _).1 (byte_bd _).2 (unhide H2)).mono ?_
          rintro e w' ⟨rfl, rfl⟩
          go_wp2
          go_ret2
          refine ⟨hbl, .inr ⟨fun h => ?_, rfl⟩⟩
          have := h.2 (2 * k + 1) (by simpa using k2)
          rw [unhide HG2, unhide H2] at this; simp at this
        | some y =>
          have bY := digV_bd hd2
          have H2 := hide hd2
          clear hd2
          have hfz := hown.frozenAt k
          have hcl := (hown.cellAt k (by omega)).trans (U8_at _ k (by simpa using hlt))
          generalize hz : (fill n (hexV (strL s)) k).getD k 0 = z at hcl
          clear hz
          go_wp2_with fail
          refine (digit_some _ _ _ (byte_bd _).1 (byte_bd _).2 (unhide H1)).mono ?_
          rintro e w' ⟨rfl, rfl⟩
          go_wp2_with fail
          refine (digit_some _ _ _ (byte_bd _).1 (byte_bd _).2 (unhide H2)).mono ?_
          rintro e w' ⟨rfl, rfl⟩
          go_wp2
          go_roundw
          case rel =>
            have hv : hexV (strL s) k = x * 16 + y := by unfold hexV; rw [unhide HG1, unhide HG2, unhide H1, unhide H2]; rfl
            have hst := (hown.stored k (.int .u8 (x * 16 + y))).1
            rw [← hv, U8_set, fill_set n (hexV (strL s)) k] at hst
            rw [nib_or x y bx.1 bx.2 bY.1 bY.2, ← hv]
            refine ⟨k + 1, by omega, by go_num, hst, hbl.setCell (Nat.le_refl _) _, fun j hj => ?_⟩
            by_cases e1 : j = 2 * k
            · subst e1; rw [unhide HG1, unhide H1]; rfl
            · by_cases e2 : j = 2 * k + 1
              · subst e2; rw [unhide HG2, unhide H2]; rfl
              · exact unhide HALL j (by omega)
          case measure => simp [intOf]; omega
    · go_wp2
      go_ret2
      have : k = n := by omega
      subst this
      rw [fill_all] at hown
      refine ⟨hbl, .inl ⟨⟨by simp [unhide HN], fun j hj => unhide HALL j (by simp [unhide HN] at hj; omega)⟩, rfl, ?_⟩⟩
      have e : unhexL (strL s) = (List.range k).map (hexV (strL s)) := by unfold unhexL; rw [strL_length, unhide HN]; congr 2; omega
      rw [e]; exact hown
end Go.Proofs.Ytipmgnigejpfjaa
