import Derived.Test.YtkagnpnicbddlaaDoorGrK
namespace Go.Proofs.YtkagnpnicbddlaaDoor
open Go.RowKit

theorem xorC_at (c : Int) (b : Nat) (k : List Int) (i : Nat) (hk : k.length ≤ b) (hi : i < b) : (xorC c (padTo b k)).getD i 0 = bits .xor .u8 (k.getD i 0) c := by
  have h : i < (padTo b k).length := by rw [padTo_length b k hk]; exact hi
  rw [← padTo_at b k i, getD_lt _ _ (by simpa using h), getD_lt _ _ h]
  simp [xorC]

set_option maxHeartbeats 2000000 in
set_option maxRecDepth 100000 in
theorem framed_any (k t : Sl) (b : Nat) (c : Int) (w : World) (hk : k.Ok w) (ht : t.Ok w) (hkb : k.n ≤ b) (hb : b ≤ 128) (htn : t.n ≤ 1000000) :
    Calls Tryd.prog 14 #[k.v, .int .i64 b, .int .u8 c, t.v] w fun e w' => ∃ s : Sl, e = .returned s.v ∧ s.Ok w' ∧ s.l = xorC c (padTo b k.l) ++ t.l ∧ Below w.heap.size w w' := by
  obtain ⟨i0, hii, hz0, hz1, hz2⟩ := info_parts Tryd.infoB
  obtain ⟨ka, kn, kc, kl⟩ := k
  obtain ⟨ta, tn, tc, tl⟩ := t
  have hkl : kl.length = kn := hk.len
  have HKL := hide hkl
  simp only [Sl.v] at hkb htn ⊢
  obtain ⟨X, hX⟩ : ∃ X, X = xorC c (padTo b kl) := ⟨_, rfl⟩
  have hXl : X.length = b := by rw [hX, xorC_length, padTo_length _ _ (by omega)]
  have hXB : IsB X := by rw [hX]; exact xorC_isB _ _
  have hXa : ∀ i, i < b → X.getD i 0 = bits .xor .u8 (kl.getD i 0) c := fun i hi => by rw [hX]; exact xorC_at c b kl i (by omega) hi
  have HX := hide hX
  have HXL := hide hXl
  have HXA := hide hXa
  clear hkl hX hXl hXa
  go_enter Tryd.func14, Tryd.ntmps14
  go_wp2_with fail
  go_loopw [9, 10] (fun v i wr => ∃ j : Nat, j ≤ b ∧ i = .int .i64 j ∧ wr.ownsRow w.heap.size 5 1 v j (U8 (X.take j)) ∧ Below w.heap.size w wr) (fun _ i _ => b - (intOf i).toNat)
  case atStart => exact ⟨0, by omega, rfl, World.ownsRow_nil _ _ _ _, Below.refl _ _⟩
  case round =>
    obtain ⟨j, hj, rfl, hown, hbl⟩ := hrel
    by_cases hlt : j < b
    · have hjz : (j : Int) < (b : Int) := by omega
      have htk := take_snoc X j (by rw [unhide HXL]; exact hlt)
      rw [unhide HXA j hlt] at htk
      by_cases hjk : j < kn
      · have hkz : (j : Int) < (kn : Int) := by omega
        obtain ⟨ab, ao, haa, hal, hac⟩ := hk.lies (by show 0 < kl.length; rw [unhide HKL]; omega)
        have haa' : ka = some ⟨ab, ao, none⟩ := haa
        subst haa'
        have ca : wr.cell? ⟨ab, ao + j, none⟩ = some (.int .u8 (kl.getD j 0)) := (hbl.cell (p := ⟨ab, ao + j, none⟩) hal).trans (hac j (by show j < kl.length; rw [unhide HKL]; exact hjk))
        generalize kl.getD j 0 = x at ca htk
        have HTK := hide htk
        clear htk haa hac hal
        go_wp2_with (at_builtin; refine wpList_append_own _ rfl _ _ 24 rfl w.heap.size 5 i0 (.int .u8 0) 1 1 Tryd.underlying24 hii hz0 hz1 hz2 rfl (by decide) _ j (U8 (X.take j)) rfl (hown.alloc _) ⟨wr.heap.size, 0, none⟩ 1 1 [.int .u8 (bits .xor .u8 x c)] rfl rfl (cell_one_new _ _ _) (one_byte _) (by unfold maxLen; omega) (by omega) (by have := hbl.size; simp; omega) ?_)
        intro v4 w4 hown4 hgrow4 _
        have hb4 := below_app hbl (Nat.le_refl _) hown hgrow4
        rw [U8_snoc2, ← unhide HTK] at hown4
        clear hgrow4 hown hbl
        go_wp2
        go_roundw
        case rel => exact ⟨j + 1, by omega, by go_num, hown4, hb4⟩
        case measure => simp [intOf]; omega
      · have hkz : ¬ ((j : Int) < (kn : Int)) := by omega
        have hkd : decide ((j : Int) < (kn : Int)) = false := by simpa using hkz
        have hx0 : kl.getD j 0 = 0 := by rw [List.getD_eq_getElem?_getD, List.getElem?_eq_none (by rw [unhide HKL]; omega)]; rfl
        rw [hx0] at htk
        have HTK := hide htk
        clear htk hx0
        go_wp2_with (at_builtin; refine wpList_append_own _ rfl _ _ 24 rfl w.heap.size 5 i0 (.int .u8 0) 1 1 Tryd.underlying24 hii hz0 hz1 hz2 rfl (by decide) _ j (U8 (X.take j)) rfl (hown.alloc _) ⟨wr.heap.size, 0, none⟩ 1 1 [.int .u8 (bits .xor .u8 0 c)] rfl rfl (cell_one_new _ _ _) (one_byte _) (by unfold maxLen; omega) (by omega) (by have := hbl.size; simp; omega) ?_)
        intro v4 w4 hown4 hgrow4 _
        have hb4 := below_app hbl (Nat.le_refl _) hown hgrow4
        rw [U8_snoc2, ← unhide HTK] at hown4
        clear hgrow4 hown hbl
        go_wp2
        go_roundw
        case rel => exact ⟨j + 1, by omega, by go_num, hown4, hb4⟩
        case measure => simp [intOf]; omega
    · have hjb : j = b := by omega
      have hkd : decide ((j : Int) < (b : Int)) = false := by simp; omega
      have hkz : ¬ (j : Int) < (b : Int) := by omega
      have hown' : wr.ownsRow w.heap.size 5 1 u9 b (U8 X) := by
        rw [hjb, List.take_of_length_le (by rw [unhide HXL]; omega)] at hown; exact hown
      have okt := ht.later hbl
      clear hown hjb hlt hj
      go_wp2_with (at_builtin; refine wpList_append_sl rfl (.tmp 31) (.tmp 32) 24 rfl w.heap.size 5 i0 (.int .u8 0) Tryd.underlying24 hii hz0 hz1 hz2 rfl _ b (U8 X) rfl hown' ⟨ta, tn, tc, tl⟩ okt rfl (by show b + tn ≤ _; omega) hbl.size ?_; intro v5 w5 hown5 hgrow5)
      have hb5 := below_grown hbl (Nat.le_refl _) hown' (unhide hgrow5)
      have h5 := unhide hown5
      rw [← U8_append] at h5
      obtain ⟨s, rfl, oks, hsl, -, -⟩ := own_sl h5 (IsB.app hXB ht.isB)
      clear hown5 hgrow5 hown' h5
      go_wp2
      go_ret
      exact ⟨s, rfl, oks, by rw [hsl, unhide HX], hb5⟩
end Go.Proofs.YtkagnpnicbddlaaDoor
