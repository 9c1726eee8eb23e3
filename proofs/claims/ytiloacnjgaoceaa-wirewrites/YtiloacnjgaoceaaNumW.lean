import Derived.Test.YtiloacnjgaoceaaOutM
namespace Go.Proofs.Ytiloacnjgaoceaa
open Go.RowKit

/-! The document's forms of numbers. -/

theorem own_of_arr {w : World} {B e g : Nat} {l : List Value} (h : Arr w g e l) (hB : B ≤ g) (hl : l.length ≤ 1000) : w.ownsRow B e 1 (.slice (some ⟨g, 0, none⟩) l.length l.length) l.length l :=
  ⟨by simp, .inr ⟨g, l.length, l.toArray, rfl, hB, h, Nat.le_refl _, by unfold maxLen; omega, by simp, by simp⟩⟩
def Told (L : List Int) (w : World) (e : Ending) (w' : World) : Prop := ∃ v, e = .returned v ∧ w'.ownsRow w.heap.size 5 1 v L.length (U8 L) ∧ Below w.heap.size w w'
theorem be4_eq (x : Int) : beB 4 x = [x / 16777216 % 256, x / 65536 % 256, x / 256 % 256, x % 256] := by simp [beB, leB, List.range_succ]
theorem be8_eq (x : Int) : beB 8 x = beB 4 (x / 4294967296) ++ beB 4 (x % 4294967296) := by
  rw [be4_eq, be4_eq]
  simp only [beB, leB, List.range_succ]
  simp
  omega
theorem beB_isB (n : Nat) (x : Int) : IsB (beB n x) := (leB_isB n x).reverse

set_option maxHeartbeats 1000000 in
set_option maxRecDepth 100000 in
theorem oU32_form (x : Int) (w : World) (hx : 0 ≤ x) (hx1 : x < 4294967296) : Calls Try.prog 70 #[.int .u32 x] w (Told (beB 4 x) w) := by
  have he : x / 16777216 % 256 = x / 16777216 := by omega
  have hA : Arr (w.alloc (.cells #[.int .u8 (x / 16777216), .int .u8 (x / 65536 % 256), .int .u8 (x / 256 % 256), .int .u8 (x % 256)] 5)) w.heap.size 5 (U8 [x / 16777216, x / 65536 % 256, x / 256 % 256, x % 256]) := Arr.new w _ (U8 [x / 16777216, x / 65536 % 256, x / 256 % 256, x % 256])
  have hO := own_of_arr hA (Nat.le_refl _) (by simp [U8])
  rw [be4_eq, he]
  have HO := hide hO
  clear hA hO he
  go_enter Try.func70, Try.ntmps70
  go_wp2
  go_ret
  exact ⟨_, rfl, unhide HO, below_one _ _⟩

set_option maxHeartbeats 1000000 in
set_option maxRecDepth 100000 in
theorem oU64_form (x : Int) (w : World) (hx : 0 ≤ x) (hx1 : x < 18446744073709551616) : Calls Try.prog 71 #[.int .u64 x] w (Told (beB 8 x) w) := by
  obtain ⟨i0, hi, hz0, hz1, hz2⟩ := info_parts Try.infoB
  have h1 := oU32_form (x / 4294967296) w (by omega) (by omega)
  rw [be8_eq]
  have l4 : ∀ y : Int, (beB 4 y).length = 4 := fun y => by simp [beB]
  obtain ⟨A, hA⟩ : ∃ A, beB 4 (x / 4294967296) = A := ⟨_, rfl⟩
  obtain ⟨B, hB⟩ : ∃ B, beB 4 (x % 4294967296) = B := ⟨_, rfl⟩
  have hAl : A.length = 4 := by rw [← hA]; exact l4 _
  have hBl : B.length = 4 := by rw [← hB]; exact l4 _
  have hBB : IsB B := by rw [← hB]; exact beB_isB _ _
  have h2 := fun w => oU32_form (x % 4294967296) w (by omega) (by omega)
  rw [hA] at h1 ⊢
  simp only [hB] at h2 ⊢
  unfold Told at h1 h2
  rw [hAl] at h1
  rw [hBl] at h2
  have HLn : Hid ((A ++ B).length = 4 + 4) := hide (by rw [List.length_append, hAl, hBl])
  clear hA hB l4 hAl hBl
  go_enter Try.func71, Try.ntmps71
  go_wp2_with fail
  refine h1.mono ?_
  rintro e w1 ⟨v1, rfl, hown1, hb1⟩
  obtain ⟨a1, c1, rfl⟩ := own_parts hown1
  have HO1 := hide hown1
  clear hown1 h1
  go_wp2_with fail
  refine (h2 w1).mono ?_
  rintro e w2 ⟨v2, rfl, hown2, hb2⟩
  obtain ⟨d, rfl, hdk, hdl, hdn, -⟩ := own_sl hown2 hBB
  have hdv : d.v = .slice d.a d.n d.c := rfl
  rw [hdv]
  have HDL := hide hdl
  have HDN := hide hdn
  have hdb : d.n ≤ 4 := by omega
  have hO1' := own_later (unhide HO1) hb2
  have hb12 : Below w.heap.size w w2 := hb1.trans (hb2.mono hb1.size)
  clear hown2 h2 hdl hdv hdn
  go_wp2_with (at_builtin; refine wpList_append_slat rfl _ _ 22 rfl w.heap.size 5 i0 (.int .u8 0) Try.underlying22 hi hz0 hz1 hz2 rfl (.slice a1 4 c1) 4 (U8 A) rfl hO1' d hdk rfl (by omega) hb12.size ?_; intro v' w' hown' hgrow _)
  go_ret
  have hown' := unhide hown'
  rw [unhide HDL, unhide HDN, ← U8_append, ← unhide HLn] at hown'
  exact ⟨v', rfl, hown', hb12.grown (unhide hgrow) hb12.size (fun k hk => ((unhide HO1).lt k hk).1)⟩

set_option maxHeartbeats 1000000 in
set_option maxRecDepth 100000 in
theorem oBool_form (x : Bool) (w : World) : Calls Try.prog 73 #[.bool x] w (Told [if x then 1 else 0] w) := by
  cases x
  · have hO := own_of_arr (Arr.new w 5 (U8 [0])) (Nat.le_refl _) (by simp [U8])
    have HO := hide hO
    clear hO
    go_enter Try.func73, Try.ntmps73
    go_wp2
    go_ret
    exact ⟨_, rfl, unhide HO, below_one _ _⟩
  · have hO := own_of_arr (Arr.new w 5 (U8 [1])) (Nat.le_refl _) (by simp [U8])
    have HO := hide hO
    clear hO
    go_enter Try.func73, Try.ntmps73
    go_wp2
    go_ret
    exact ⟨_, rfl, unhide HO, below_one _ _⟩

set_option maxHeartbeats 1000000 in
set_option maxRecDepth 100000 in
theorem oUint_form (x : Nat) (w : World) (hx : x < 18446744073709551616) : Calls Try.prog 72 #[.int .u64 x] w (Told (sho x) w) := by
  obtain ⟨i0, hi, hz0, hz1, hz2⟩ := info_parts Try.infoB
  have hsx := sho_len10 hx
  have HX := hide hsx
  clear hsx
  go_enter Try.func72, Try.ntmps72
  go_wp2
  go_loopw [0, 3] (fun v c wr => ∃ (y : Nat) (L : List Int), v = .int .u64 y ∧ y ≤ x ∧ Hid (sho x = L ++ sho y) ∧ wr.ownsRow w.heap.size 5 1 c L.length (U8 L) ∧ Below w.heap.size w wr)
    (fun v _ _ => (intOf v).toNat)
  case atStart => exact ⟨x, [], rfl, Nat.le_refl _, hide rfl, ⟨rfl, .inl ⟨rfl, rfl⟩⟩, Below.refl _ _⟩
  case round =>
    obtain ⟨y, L, rfl, hy, HS, hown, hb⟩ := hrel
    obtain ⟨la, lc, rfl⟩ := own_parts hown
    have hLl : L.length ≤ 10 := by
      have h1 := congrArg List.length (unhide HS)
      have h2 := unhide HX
      rw [List.length_append] at h1; omega
    by_cases hlt : 128 ≤ y
    · have e : sho y = ((y : Int) % 128 + 128) :: sho (y / 128) := by rw [sho_ge hlt]; simp
      have HS' : Hid (sho x = (L ++ [(y : Int) % 128 + 128]) ++ sho (y / 128)) := hide (by rw [unhide HS, e]; simp)
      clear e HS
      go_wp2_with (at_builtin; refine wpList_append_own_at rfl _ _ 22 rfl w.heap.size 5 i0 (.int .u8 0) 1 1 Try.underlying22 hi hz0 hz1 hz2 rfl (by decide) (.slice la L.length lc) L.length (U8 L) rfl (hown.alloc _) ⟨wr.heap.size, 0, none⟩ 1 1 [.int .u8 ((y : Int) % 128 + 128)] rfl rfl (cell_new wr (.int .u8 ((y : Int) % 128 + 128)) 5) (one_byte _) (by unfold maxLen; omega) (by omega) (by have := hb.size; simp; omega) ?_; intro v' w' hown' hgrow _)
      go_roundw
      case rel =>
        have h1 := unhide hown'
        rw [U8_snoc2, show L.length + 1 = (L ++ [(y : Int) % 128 + 128]).length from by simp] at h1
        exact ⟨y / 128, _, by go_num, by omega, HS', h1, below_app hb (Nat.le_refl _) hown (unhide hgrow)⟩
      case measure => simp [intOf]; omega
    · have e : sho y = [(y : Int)] := sho_lt (by omega)
      have HS' : Hid (sho x = L ++ [(y : Int)]) := hide (by rw [unhide HS, e])
      clear e HS
      go_wp2_with (at_builtin; refine wpList_append_own_at rfl _ _ 22 rfl w.heap.size 5 i0 (.int .u8 0) 1 1 Try.underlying22 hi hz0 hz1 hz2 rfl (by decide) (.slice la L.length lc) L.length (U8 L) rfl (hown.alloc _) ⟨wr.heap.size, 0, none⟩ 1 1 [.int .u8 (y : Int)] rfl rfl (cell_new wr (.int .u8 (y : Int)) 5) (one_byte _) (by unfold maxLen; omega) (by omega) (by have := hb.size; simp; omega) ?_; intro v' w' hown' hgrow _)
      go_ret
      have h1 := unhide hown'
      rw [U8_snoc2, show L.length + 1 = (L ++ [(y : Int)]).length from by simp, ← unhide HS'] at h1
      exact ⟨v', rfl, h1, below_app hb (Nat.le_refl _) hown (unhide hgrow)⟩
end Go.Proofs.Ytiloacnjgaoceaa
