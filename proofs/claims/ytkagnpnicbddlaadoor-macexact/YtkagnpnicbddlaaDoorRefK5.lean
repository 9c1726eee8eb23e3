import Derived.Test.YtkagnpnicbddlaaDoorRefH5
import Derived.Test.YtkagnpnicbddlaaDoorAppT
import Derived.Test.YtkagnpnicbddlaaDoorFramW
import Derived.Test.YtkagnpnicbddlaaDoorMacW5
namespace Go.Proofs.YtkagnpnicbddlaaDoor
open Go.RowKit

set_option maxHeartbeats 4000000 in
set_option maxRecDepth 100000 in
theorem refkeyed64_short (k m : Sl) (w : World) (hk : k.Ok w) (hm : m.Ok w) (hK : S5.RKLaid w) (hF : S5.RFLaid w) (hkn : k.n ≤ 128) (hk2 : k.n ≤ 400000) (hmn : m.n ≤ 390000) :
    Calls Tryd.prog 53 #[.bool true, k.v, m.v] w fun e w' => ∃ r : Sl, e = .returned r.v ∧ r.Ok w' ∧ r.l = mac5 k.l m.l ∧ (∀ x, r.a = some x → w.heap.size ≤ x.block) ∧ Below w.heap.size w w' := by
  obtain ⟨i0, hii, hz0, hz1, hz2⟩ := info_parts Tryd.infoB
  obtain ⟨ka, kn, kc, kl⟩ := k
  obtain ⟨ma, mn, mc, ml⟩ := m
  have hkl : kl.length = kn := hk.len
  have hml : ml.length = mn := hm.len
  have HKL := hide hkl
  have HML := hide hml
  clear hkl hml
  simp only [Sl.v] at hkn hk2 hmn ⊢
  go_enter Tryd.func53, Tryd.ntmps53
  have kz : ¬ (((128 : Nat) : Int) < (kn : Int)) := by omega
  have kd : decide ((128 : Int) < (kn : Int)) = false := by simpa using kz
  have hV : Below w.heap.size w w := Below.refl _ _
  have okq := hk
  have HKH : Hid (keyH S5.sumZ 128 kl = kl) := by show _ = _; unfold keyH; rw [if_neg (by rw [unhide HKL]; omega)]
  have HQL := HKL
  have hqb := hkn
  obtain ⟨F, hF0⟩ : ∃ F, F = padTo 128 kl := ⟨_, rfl⟩
  obtain ⟨X, hX⟩ : ∃ X, X = xorC 54 F := ⟨_, rfl⟩
  obtain ⟨Y, hY⟩ : ∃ Y, Y = xorC 92 F := ⟨_, rfl⟩
  have hXl : X.length = 128 := by rw [hX, xorC_length, hF0, padTo_length _ _ (by rw [unhide HQL]; omega)]
  have hYl : Y.length = 128 := by rw [hY, xorC_length, hF0, padTo_length _ _ (by rw [unhide HQL]; omega)]
  have hXB : IsB X := by rw [hX]; exact xorC_isB _ _
  have hYB : IsB Y := by rw [hY]; exact xorC_isB _ _
  have hXa : ∀ i, i < 128 → X.getD i 0 = bits .xor .u8 (kl.getD i 0) 54 := fun i hi => by rw [hX, hF0]; exact xorC_at 54 128 kl i (by rw [unhide HQL]; omega) hi
  have hYa : ∀ i, i < 128 → Y.getD i 0 = bits .xor .u8 (kl.getD i 0) 92 := fun i hi => by rw [hY, hF0]; exact xorC_at 92 128 kl i (by rw [unhide HQL]; omega) hi
  have HFR : Hid (frameH S5.sumZ 128 kl = F) := by show _ = _; unfold frameH; rw [unhide HKH, hF0]
  have HX := hide hX
  have HY := hide hY
  have HXL := hide hXl
  have HYL := hide hYl
  have HXA := hide hXa
  have HYA := hide hYa
  clear hX hY hXl hYl hXa hYa hF0
  go_wp2_with fail
  go_loopw [8, 9, 10] (fun v u i wr => ∃ j : Nat, j ≤ 128 ∧ i = .int .i64 j ∧ wr.ownsRow w.heap.size 5 1 v j (U8 (X.take j)) ∧ wr.ownsRow w.heap.size 5 1 u j (U8 (Y.take j)) ∧ Apt v u ∧ Below w.heap.size w wr) (fun _ _ i _ => 128 - (intOf i).toNat)
  case atStart => exact ⟨0, by omega, rfl, World.ownsRow_nil _ _ _ _, World.ownsRow_nil _ _ _ _, .inl rfl, Below.refl _ _⟩
  case round =>
    obtain ⟨j, hj, rfl, hown8, hown9, hapt, hbl⟩ := hrel
    by_cases hlt : j < 128
    · have hjz : (j : Int) < 128 := by omega
      have htx := take_snoc X j (by rw [unhide HXL]; exact hlt)
      have hty := take_snoc Y j (by rw [unhide HYL]; exact hlt)
      rw [unhide HXA j hlt] at htx
      rw [unhide HYA j hlt] at hty
      have HAP := hide hapt
      by_cases hjk : j < kn
      · have hkz : (j : Int) < (kn : Int) := by omega
        obtain ⟨ab, ao, haa, hal, hac⟩ := okq.lies (by show 0 < kl.length; rw [unhide HQL]; omega)
        have haa' : ka = some ⟨ab, ao, none⟩ := haa
        subst haa'
        have ca : wr.cell? ⟨ab, ao + j, none⟩ = some (.int .u8 (kl.getD j 0)) := (hbl.cell (p := ⟨ab, ao + j, none⟩) hal).trans ((hac j (by show j < kl.length; rw [unhide HQL]; exact hjk)))
        generalize kl.getD j 0 = x at ca htx hty
        have HTX := hide htx
        have HTY := hide hty
        clear htx hty haa hac hal hapt
        go_wp2_with (first
          | (at_builtin; refine wpList_append_own_at rfl (.tmp 33) (.tmp 36) 24 rfl w.heap.size 5 i0 (.int .u8 0) 1 1 Tryd.underlying24 hii hz0 hz1 hz2 rfl (by decide) _ j (U8 (X.take j)) rfl (hown8.alloc _) ⟨wr.heap.size, 0, none⟩ 1 1 [.int .u8 (bits .xor .u8 x 54)] rfl rfl (cell_one_new _ _ _) (one_byte _) (by unfold maxLen; omega) (by omega) (by have := hbl.size; simp; omega) ?_
             intro v8 w4 ho8 hg8 ha8
             have hb4 := below_app hbl (Nat.le_refl _) hown8 (unhide hg8)
             have own9 := (hown9.alloc _).kept (unhide hg8) (unhide HAP).symm
             have HP1 := hide (Apt.grown (unhide HAP) (hown9.alloc _) (unhide ha8))
             have own8 := unhide ho8
             clear ho8 hg8 ha8)
          | (at_builtin; refine wpList_append_own_at rfl (.tmp 38) (.tmp 41) 24 rfl w.heap.size 5 i0 (.int .u8 0) 1 1 Tryd.underlying24 hii hz0 hz1 hz2 rfl (by decide) _ j (U8 (Y.take j)) rfl (own9.alloc _) ⟨w4.heap.size, 0, none⟩ 1 1 [.int .u8 (bits .xor .u8 x 92)] rfl rfl (cell_one_new _ _ _) (one_byte _) (by unfold maxLen; omega) (by omega) (by have := hb4.size; simp; omega) ?_
             intro v9 w5 ho9 hg9 ha9
             have hb5 := below_app hb4 (Nat.le_refl _) own9 (unhide hg9)
             have own8' := (own8.alloc _).kept (unhide hg9) (unhide HP1)
             have HP2 := hide ((Apt.grown (unhide HP1).symm (own8.alloc _) (unhide ha9)).symm)
             have own9' := unhide ho9
             clear ho9 hg9 ha9))
        go_roundw
        case rel =>
          rw [U8_snoc2, ← unhide HTX] at own8'
          rw [U8_snoc2, ← unhide HTY] at own9'
          exact ⟨j + 1, by omega, by go_num, own8', own9', unhide HP2, hb5⟩
        case measure => simp [intOf]; omega
      · have hkz : ¬ ((j : Int) < (kn : Int)) := by omega
        have hkd : decide ((j : Int) < (kn : Int)) = false := by simpa using hkz
        have hx0 : kl.getD j 0 = 0 := by rw [List.getD_eq_getElem?_getD, List.getElem?_eq_none (by rw [unhide HQL]; omega)]; rfl
        rw [hx0] at htx hty
        clear hx0
        have HTX := hide htx
        have HTY := hide hty
        clear htx hty hapt
        go_wp2_with (first
          | (at_builtin; refine wpList_append_own_at rfl (.tmp 33) (.tmp 36) 24 rfl w.heap.size 5 i0 (.int .u8 0) 1 1 Tryd.underlying24 hii hz0 hz1 hz2 rfl (by decide) _ j (U8 (X.take j)) rfl (hown8.alloc _) ⟨wr.heap.size, 0, none⟩ 1 1 [.int .u8 (bits .xor .u8 0 54)] rfl rfl (cell_one_new _ _ _) (one_byte _) (by unfold maxLen; omega) (by omega) (by have := hbl.size; simp; omega) ?_
             intro v8 w4 ho8 hg8 ha8
             have hb4 := below_app hbl (Nat.le_refl _) hown8 (unhide hg8)
             have own9 := (hown9.alloc _).kept (unhide hg8) (unhide HAP).symm
             have HP1 := hide (Apt.grown (unhide HAP) (hown9.alloc _) (unhide ha8))
             have own8 := unhide ho8
             clear ho8 hg8 ha8)
          | (at_builtin; refine wpList_append_own_at rfl (.tmp 38) (.tmp 41) 24 rfl w.heap.size 5 i0 (.int .u8 0) 1 1 Tryd.underlying24 hii hz0 hz1 hz2 rfl (by decide) _ j (U8 (Y.take j)) rfl (own9.alloc _) ⟨w4.heap.size, 0, none⟩ 1 1 [.int .u8 (bits .xor .u8 0 92)] rfl rfl (cell_one_new _ _ _) (one_byte _) (by unfold maxLen; omega) (by omega) (by have := hb4.size; simp; omega) ?_
             intro v9 w5 ho9 hg9 ha9
             have hb5 := below_app hb4 (Nat.le_refl _) own9 (unhide hg9)
             have own8' := (own8.alloc _).kept (unhide hg9) (unhide HP1)
             have HP2 := hide ((Apt.grown (unhide HP1).symm (own8.alloc _) (unhide ha9)).symm)
             have own9' := unhide ho9
             clear ho9 hg9 ha9))
        go_roundw
        case rel =>
          rw [U8_snoc2, ← unhide HTX] at own8'
          rw [U8_snoc2, ← unhide HTY] at own9'
          exact ⟨j + 1, by omega, by go_num, own8', own9', unhide HP2, hb5⟩
        case measure => simp [intOf]; omega
    · have hjb : j = 128 := by omega
      have hkz : ¬ ((j : Int) < 128) := by omega
      have hkd : decide ((j : Int) < 128) = false := by simpa using hkz
      rw [hjb, List.take_of_length_le (by rw [unhide HXL]; exact Nat.le_refl _)] at hown8
      rw [hjb, List.take_of_length_le (by rw [unhide HYL]; exact Nat.le_refl _)] at hown9
      have hbwr : Below w.heap.size w wr := hV.trans (hbl.mono hV.size)
      have okm := hm.later hbwr
      have HAP := hide hapt
      clear hj hlt hjb hapt
      go_wp2_with (at_builtin; refine wpList_append_sl rfl (.tmp 43) (.tmp 44) 24 rfl w.heap.size 5 i0 (.int .u8 0) Tryd.underlying24 hii hz0 hz1 hz2 rfl _ 128 (U8 X) rfl hown8 ⟨ma, mn, mc, ml⟩ okm rfl (by show 128 + mn ≤ _; omega) hbl.size ?_; intro v5 w5 hown5 hgrow5)
      have hb5 := below_grown hbl (Nat.le_refl _) hown8 (unhide hgrow5)
      have own9 := hown9.kept (unhide hgrow5) (unhide HAP).symm
      have h5 := unhide hown5
      rw [← U8_append] at h5
      obtain ⟨⟨pa, pn, pc, pl⟩, rfl, okp, hpl0, hpn0, -⟩ := own_sl h5 (IsB.app hXB hm.isB)
      have hpl : pl = X ++ ml := hpl0
      have hpn : pn ≤ 400000 := by have h : pn = 128 + mn := hpn0; omega
      have hbw5 : Below w.heap.size w w5 := hV.trans (hb5.mono hV.size)
      have HPL := hide hpl
      clear hpl hpl0 hpn0 h5 hown5 hgrow5 hown8 hown9 hbl hbwr okm hkz hkd
      simp only [Sl.v]
      go_wp2_with fail
      refine (refhashed64_any ⟨pa, pn, pc, pl⟩ w5 okp (hK.later hbw5) (hF.later hbw5) hpn).mono ?_
      rintro e w6 ⟨⟨ra, rn, rc, rl⟩, rfl, okr, hrl0, -, hb6⟩
      have own96 := own_later own9 hb6
      have hb56 : Below w.heap.size w w6 := hb5.trans (hb6.mono hb5.size)
      have hrl : rl = S5.sumZ (X ++ ml) := by have h : rl = S5.sumZ pl := hrl0; rw [h, unhide HPL]
      have hrn : rn = 64 := by have h : rl.length = rn := okr.len; rw [← h, hrl]; exact S5.sumZ_length _
      have hrn2 : rn ≤ 64 := by omega
      have HRL := hide hrl
      clear hrl hrl0 hrn own9 hb5 hb6 okp
      simp only [Sl.v]
      go_wp2_with (at_builtin; refine wpList_append_sl rfl (.tmp 46) (.tmp 49) 24 rfl w.heap.size 5 i0 (.int .u8 0) Tryd.underlying24 hii hz0 hz1 hz2 rfl _ 128 (U8 Y) rfl own96 ⟨ra, rn, rc, rl⟩ okr rfl (by show 128 + rn ≤ _; omega) hb56.size ?_; intro v7 w7 hown7 hgrow7)
      have hb7 := below_grown hb56 (Nat.le_refl _) own96 (unhide hgrow7)
      have h7 := unhide hown7
      rw [← U8_append] at h7
      obtain ⟨⟨sa, sn, sc, sl⟩, rfl, oks, hsl0, hsn0, -⟩ := own_sl h7 (IsB.app hYB okr.isB)
      have hsl : sl = Y ++ rl := hsl0
      have hsn : sn ≤ 400000 := by have h : sn = 128 + rn := hsn0; omega
      have hbw7 : Below w.heap.size w w7 := hV.trans (hb7.mono hV.size)
      have HSL := hide hsl
      clear hsl hsl0 hsn0 h7 hown7 hgrow7 own96 hb56
      simp only [Sl.v]
      go_wp2_with fail
      refine (refhashed64_any ⟨sa, sn, sc, sl⟩ w7 oks (hK.later hbw7) (hF.later hbw7) hsn).mono ?_
      rintro e w8 ⟨r, rfl, okr8, hr8, hnew8, hb8⟩
      go_wp2
      go_ret
      refine ⟨r, rfl, okr8, ?_, fun x hx => Nat.le_trans hbw7.size (hnew8 x hx), hbw7.trans (hb8.mono hbw7.size)⟩
      rw [hr8, show sl = Y ++ S5.sumZ (X ++ ml) from by rw [← unhide HRL]; exact unhide HSL]
      unfold mac5 macH
      rw [unhide HFR, ← unhide HX, ← unhide HY]

set_option maxHeartbeats 4000000 in
set_option maxRecDepth 100000 in
theorem refkeyed64_long (k m : Sl) (w : World) (hk : k.Ok w) (hm : m.Ok w) (hK : S5.RKLaid w) (hF : S5.RFLaid w) (hkn : 128 < k.n) (hk2 : k.n ≤ 400000) (hmn : m.n ≤ 390000) :
    Calls Tryd.prog 53 #[.bool true, k.v, m.v] w fun e w' => ∃ r : Sl, e = .returned r.v ∧ r.Ok w' ∧ r.l = mac5 k.l m.l ∧ (∀ x, r.a = some x → w.heap.size ≤ x.block) ∧ Below w.heap.size w w' := by
  obtain ⟨i0, hii, hz0, hz1, hz2⟩ := info_parts Tryd.infoB
  obtain ⟨ka, kn, kc, kl⟩ := k
  obtain ⟨ma, mn, mc, ml⟩ := m
  have hkl : kl.length = kn := hk.len
  have hml : ml.length = mn := hm.len
  have HKL := hide hkl
  have HML := hide hml
  clear hkl hml
  simp only [Sl.v] at hkn hk2 hmn ⊢
  go_enter Tryd.func53, Tryd.ntmps53
  have kz : ((128 : Nat) : Int) < (kn : Int) := by omega
  have kd : decide ((128 : Int) < (kn : Int)) = true := by simpa using kz
  go_wp2_with fail
  refine (refhashed64_any ⟨ka, kn, kc, kl⟩ w hk hK hF hk2).mono ?_
  rintro e V ⟨⟨qa, qn, qc, ql⟩, rfl, okq, hql0, -, hV⟩
  have hql : ql = S5.sumZ kl := hql0
  have hqn : qn = 64 := by have h : ql.length = qn := okq.len; rw [← h, hql]; exact S5.sumZ_length _
  have HKH : Hid (keyH S5.sumZ 128 kl = ql) := by show _ = _; unfold keyH; rw [if_pos (by rw [unhide HKL]; omega), hql]
  have HQL : Hid (ql.length = qn) := okq.len
  have hqb : qn ≤ 128 := by omega
  clear hql hql0 hqn kz kd
  simp only [Sl.v]
  obtain ⟨F, hF0⟩ : ∃ F, F = padTo 128 ql := ⟨_, rfl⟩
  obtain ⟨X, hX⟩ : ∃ X, X = xorC 54 F := ⟨_, rfl⟩
  obtain ⟨Y, hY⟩ : ∃ Y, Y = xorC 92 F := ⟨_, rfl⟩
  have hXl : X.length = 128 := by rw [hX, xorC_length, hF0, padTo_length _ _ (by rw [unhide HQL]; omega)]
  have hYl : Y.length = 128 := by rw [hY, xorC_length, hF0, padTo_length _ _ (by rw [unhide HQL]; omega)]
  have hXB : IsB X := by rw [hX]; exact xorC_isB _ _
  have hYB : IsB Y := by rw [hY]; exact xorC_isB _ _
  have hXa : ∀ i, i < 128 → X.getD i 0 = bits .xor .u8 (ql.getD i 0) 54 := fun i hi => by rw [hX, hF0]; exact xorC_at 54 128 ql i (by rw [unhide HQL]; omega) hi
  have hYa : ∀ i, i < 128 → Y.getD i 0 = bits .xor .u8 (ql.getD i 0) 92 := fun i hi => by rw [hY, hF0]; exact xorC_at 92 128 ql i (by rw [unhide HQL]; omega) hi
  have HFR : Hid (frameH S5.sumZ 128 kl = F) := by show _ = _; unfold frameH; rw [unhide HKH, hF0]
  have HX := hide hX
  have HY := hide hY
  have HXL := hide hXl
  have HYL := hide hYl
  have HXA := hide hXa
  have HYA := hide hYa
  clear hX hY hXl hYl hXa hYa hF0
  go_wp2_with fail
  go_loopw [8, 9, 10] (fun v u i wr => ∃ j : Nat, j ≤ 128 ∧ i = .int .i64 j ∧ wr.ownsRow V.heap.size 5 1 v j (U8 (X.take j)) ∧ wr.ownsRow V.heap.size 5 1 u j (U8 (Y.take j)) ∧ Apt v u ∧ Below V.heap.size V wr) (fun _ _ i _ => 128 - (intOf i).toNat)
  case atStart => exact ⟨0, by omega, rfl, World.ownsRow_nil _ _ _ _, World.ownsRow_nil _ _ _ _, .inl rfl, Below.refl _ _⟩
  case round =>
    obtain ⟨j, hj, rfl, hown8, hown9, hapt, hbl⟩ := hrel
    by_cases hlt : j < 128
    · have hjz : (j : Int) < 128 := by omega
      have htx := take_snoc X j (by rw [unhide HXL]; exact hlt)
      have hty := take_snoc Y j (by rw [unhide HYL]; exact hlt)
      rw [unhide HXA j hlt] at htx
      rw [unhide HYA j hlt] at hty
      have HAP := hide hapt
      by_cases hjk : j < qn
      · have hkz : (j : Int) < (qn : Int) := by omega
        obtain ⟨ab, ao, haa, hal, hac⟩ := okq.lies (by show 0 < ql.length; rw [unhide HQL]; omega)
        have haa' : qa = some ⟨ab, ao, none⟩ := haa
        subst haa'
        have ca : wr.cell? ⟨ab, ao + j, none⟩ = some (.int .u8 (ql.getD j 0)) := (hbl.cell (p := ⟨ab, ao + j, none⟩) hal).trans ((hac j (by show j < ql.length; rw [unhide HQL]; exact hjk)))
        generalize ql.getD j 0 = x at ca htx hty
        have HTX := hide htx
        have HTY := hide hty
        clear htx hty haa hac hal hapt
        go_wp2_with (first
          | (at_builtin; refine wpList_append_own_at rfl (.tmp 33) (.tmp 36) 24 rfl V.heap.size 5 i0 (.int .u8 0) 1 1 Tryd.underlying24 hii hz0 hz1 hz2 rfl (by decide) _ j (U8 (X.take j)) rfl (hown8.alloc _) ⟨wr.heap.size, 0, none⟩ 1 1 [.int .u8 (bits .xor .u8 x 54)] rfl rfl (cell_one_new _ _ _) (one_byte _) (by unfold maxLen; omega) (by omega) (by have := hbl.size; simp; omega) ?_
             intro v8 w4 ho8 hg8 ha8
             have hb4 := below_app hbl (Nat.le_refl _) hown8 (unhide hg8)
             have own9 := (hown9.alloc _).kept (unhide hg8) (unhide HAP).symm
             have HP1 := hide (Apt.grown (unhide HAP) (hown9.alloc _) (unhide ha8))
             have own8 := unhide ho8
             clear ho8 hg8 ha8)
          | (at_builtin; refine wpList_append_own_at rfl (.tmp 38) (.tmp 41) 24 rfl V.heap.size 5 i0 (.int .u8 0) 1 1 Tryd.underlying24 hii hz0 hz1 hz2 rfl (by decide) _ j (U8 (Y.take j)) rfl (own9.alloc _) ⟨w4.heap.size, 0, none⟩ 1 1 [.int .u8 (bits .xor .u8 x 92)] rfl rfl (cell_one_new _ _ _) (one_byte _) (by unfold maxLen; omega) (by omega) (by have := hb4.size; simp; omega) ?_
             intro v9 w5 ho9 hg9 ha9
             have hb5 := below_app hb4 (Nat.le_refl _) own9 (unhide hg9)
             have own8' := (own8.alloc _).kept (unhide hg9) (unhide HP1)
             have HP2 := hide ((Apt.grown (unhide HP1).symm (own8.alloc _) (unhide ha9)).symm)
             have own9' := unhide ho9
             clear ho9 hg9 ha9))
        go_roundw
        case rel =>
          rw [U8_snoc2, ← unhide HTX] at own8'
          rw [U8_snoc2, ← unhide HTY] at own9'
          exact ⟨j + 1, by omega, by go_num, own8', own9', unhide HP2, hb5⟩
        case measure => simp [intOf]; omega
      · have hkz : ¬ ((j : Int) < (qn : Int)) := by omega
        have hkd : decide ((j : Int) < (qn : Int)) = false := by simpa using hkz
        have hx0 : ql.getD j 0 = 0 := by rw [List.getD_eq_getElem?_getD, List.getElem?_eq_none (by rw [unhide HQL]; omega)]; rfl
        rw [hx0] at htx hty
        clear hx0
        have HTX := hide htx
        have HTY := hide hty
        clear htx hty hapt
        go_wp2_with (first
          | (at_builtin; refine wpList_append_own_at rfl (.tmp 33) (.tmp 36) 24 rfl V.heap.size 5 i0 (.int .u8 0) 1 1 Tryd.underlying24 hii hz0 hz1 hz2 rfl (by decide) _ j (U8 (X.take j)) rfl (hown8.alloc _) ⟨wr.heap.size, 0, none⟩ 1 1 [.int .u8 (bits .xor .u8 0 54)] rfl rfl (cell_one_new _ _ _) (one_byte _) (by unfold maxLen; omega) (by omega) (by have := hbl.size; simp; omega) ?_
             intro v8 w4 ho8 hg8 ha8
             have hb4 := below_app hbl (Nat.le_refl _) hown8 (unhide hg8)
             have own9 := (hown9.alloc _).kept (unhide hg8) (unhide HAP).symm
             have HP1 := hide (Apt.grown (unhide HAP) (hown9.alloc _) (unhide ha8))
             have own8 := unhide ho8
             clear ho8 hg8 ha8)
          | (at_builtin; refine wpList_append_own_at rfl (.tmp 38) (.tmp 41) 24 rfl V.heap.size 5 i0 (.int .u8 0) 1 1 Tryd.underlying24 hii hz0 hz1 hz2 rfl (by decide) _ j (U8 (Y.take j)) rfl (own9.alloc _) ⟨w4.heap.size, 0, none⟩ 1 1 [.int .u8 (bits .xor .u8 0 92)] rfl rfl (cell_one_new _ _ _) (one_byte _) (by unfold maxLen; omega) (by omega) (by have := hb4.size; simp; omega) ?_
             intro v9 w5 ho9 hg9 ha9
             have hb5 := below_app hb4 (Nat.le_refl _) own9 (unhide hg9)
             have own8' := (own8.alloc _).kept (unhide hg9) (unhide HP1)
             have HP2 := hide ((Apt.grown (unhide HP1).symm (own8.alloc _) (unhide ha9)).symm)
             have own9' := unhide ho9
             clear ho9 hg9 ha9))
        go_roundw
        case rel =>
          rw [U8_snoc2, ← unhide HTX] at own8'
          rw [U8_snoc2, ← unhide HTY] at own9'
          exact ⟨j + 1, by omega, by go_num, own8', own9', unhide HP2, hb5⟩
        case measure => simp [intOf]; omega
    · have hjb : j = 128 := by omega
      have hkz : ¬ ((j : Int) < 128) := by omega
      have hkd : decide ((j : Int) < 128) = false := by simpa using hkz
      rw [hjb, List.take_of_length_le (by rw [unhide HXL]; exact Nat.le_refl _)] at hown8
      rw [hjb, List.take_of_length_le (by rw [unhide HYL]; exact Nat.le_refl _)] at hown9
      have hbwr : Below w.heap.size w wr := hV.trans (hbl.mono hV.size)
      have okm := hm.later hbwr
      have HAP := hide hapt
      clear hj hlt hjb hapt
      go_wp2_with (at_builtin; refine wpList_append_sl rfl (.tmp 43) (.tmp 44) 24 rfl V.heap.size 5 i0 (.int .u8 0) Tryd.underlying24 hii hz0 hz1 hz2 rfl _ 128 (U8 X) rfl hown8 ⟨ma, mn, mc, ml⟩ okm rfl (by show 128 + mn ≤ _; omega) hbl.size ?_; intro v5 w5 hown5 hgrow5)
      have hb5 := below_grown hbl (Nat.le_refl _) hown8 (unhide hgrow5)
      have own9 := hown9.kept (unhide hgrow5) (unhide HAP).symm
      have h5 := unhide hown5
      rw [← U8_append] at h5
      obtain ⟨⟨pa, pn, pc, pl⟩, rfl, okp, hpl0, hpn0, -⟩ := own_sl h5 (IsB.app hXB hm.isB)
      have hpl : pl = X ++ ml := hpl0
      have hpn : pn ≤ 400000 := by have h : pn = 128 + mn := hpn0; omega
      have hbw5 : Below w.heap.size w w5 := hV.trans (hb5.mono hV.size)
      have HPL := hide hpl
      clear hpl hpl0 hpn0 h5 hown5 hgrow5 hown8 hown9 hbl hbwr okm hkz hkd
      simp only [Sl.v]
      go_wp2_with fail
      refine (refhashed64_any ⟨pa, pn, pc, pl⟩ w5 okp (hK.later hbw5) (hF.later hbw5) hpn).mono ?_
      rintro e w6 ⟨⟨ra, rn, rc, rl⟩, rfl, okr, hrl0, -, hb6⟩
      have own96 := own_later own9 hb6
      have hb56 : Below V.heap.size V w6 := hb5.trans (hb6.mono hb5.size)
      have hrl : rl = S5.sumZ (X ++ ml) := by have h : rl = S5.sumZ pl := hrl0; rw [h, unhide HPL]
      have hrn : rn = 64 := by have h : rl.length = rn := okr.len; rw [← h, hrl]; exact S5.sumZ_length _
      have hrn2 : rn ≤ 64 := by omega
      have HRL := hide hrl
      clear hrl hrl0 hrn own9 hb5 hb6 okp
      simp only [Sl.v]
      go_wp2_with (at_builtin; refine wpList_append_sl rfl (.tmp 46) (.tmp 49) 24 rfl V.heap.size 5 i0 (.int .u8 0) Tryd.underlying24 hii hz0 hz1 hz2 rfl _ 128 (U8 Y) rfl own96 ⟨ra, rn, rc, rl⟩ okr rfl (by show 128 + rn ≤ _; omega) hb56.size ?_; intro v7 w7 hown7 hgrow7)
      have hb7 := below_grown hb56 (Nat.le_refl _) own96 (unhide hgrow7)
      have h7 := unhide hown7
      rw [← U8_append] at h7
      obtain ⟨⟨sa, sn, sc, sl⟩, rfl, oks, hsl0, hsn0, -⟩ := own_sl h7 (IsB.app hYB okr.isB)
      have hsl : sl = Y ++ rl := hsl0
      have hsn : sn ≤ 400000 := by have h : sn = 128 + rn := hsn0; omega
      have hbw7 : Below w.heap.size w w7 := hV.trans (hb7.mono hV.size)
      have HSL := hide hsl
      clear hsl hsl0 hsn0 h7 hown7 hgrow7 own96 hb56
      simp only [Sl.v]
      go_wp2_with fail
      refine (refhashed64_any ⟨sa, sn, sc, sl⟩ w7 oks (hK.later hbw7) (hF.later hbw7) hsn).mono ?_
      rintro e w8 ⟨r, rfl, okr8, hr8, hnew8, hb8⟩
      go_wp2
      go_ret
      refine ⟨r, rfl, okr8, ?_, fun x hx => Nat.le_trans hbw7.size (hnew8 x hx), hbw7.trans (hb8.mono hbw7.size)⟩
      rw [hr8, show sl = Y ++ S5.sumZ (X ++ ml) from by rw [← unhide HRL]; exact unhide HSL]
      unfold mac5 macH
      rw [unhide HFR, ← unhide HX, ← unhide HY]

theorem refkeyed64_any (k m : Sl) (w : World) (hk : k.Ok w) (hm : m.Ok w) (hK : S5.RKLaid w) (hF : S5.RFLaid w) (hk2 : k.n ≤ 400000) (hmn : m.n ≤ 390000) :
    Calls Tryd.prog 53 #[.bool true, k.v, m.v] w fun e w' => ∃ r : Sl, e = .returned r.v ∧ r.Ok w' ∧ r.l = mac5 k.l m.l ∧ (∀ x, r.a = some x → w.heap.size ≤ x.block) ∧ Below w.heap.size w w' := by
  by_cases h : k.n ≤ 128
  · exact refkeyed64_short k m w hk hm hK hF h hk2 hmn
  · exact refkeyed64_long k m w hk hm hK hF (by omega) hk2 hmn
end Go.Proofs.YtkagnpnicbddlaaDoor
