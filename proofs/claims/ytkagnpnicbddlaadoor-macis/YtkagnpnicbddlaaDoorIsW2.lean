import Derived.Test.YtkagnpnicbddlaaDoorFramW
import Derived.Test.YtkagnpnicbddlaaDoorExpS
import Derived.Test.YtkagnpnicbddlaaDoorMacE
namespace Go.Proofs.YtkagnpnicbddlaaDoor
open Go.RowKit

set_option maxHeartbeats 4000000 in
set_option maxRecDepth 100000 in
theorem is_long (k t : Sl) (w : World) (hk : k.Ok w) (ht : t.Ok w) (hL : Lay4 w) (hc : 128 < k.n ∧ k.n ≤ 2048) (htn : t.n ≤ 2048) :
    Calls Tryd.prog 6 #[k.v, t.v] w fun e w' => e = .returned (.bool true) ∧ Below w.heap.size w w' := by
  obtain ⟨N, Z, hN, hZ, E0, E0x⟩ := nil_named
  have HN := hide hN
  clear hN hZ E0
  obtain ⟨Z5, hZ5, hZ5l, hzv⟩ := zeroW_named
  have Z5L := hide hZ5l
  clear hZ5 hZ5l
  obtain ⟨ka, kn, kc, kl⟩ := k
  obtain ⟨ta, tn, tc, tl⟩ := t
  have hkl : kl.length = kn := hk.len
  have HKL := hide hkl
  clear hkl
  simp only [Sl.v] at hc htn ⊢
  have y0 : ¬ ((2048 : Int) < (kn : Int)) := by omega
  have x0 : decide ((2048 : Int) < (kn : Int)) = false := by simpa using y0
  have y1 : ¬ ((2048 : Int) < (tn : Int)) := by omega
  have x1 : decide ((2048 : Int) < (tn : Int)) = false := by simpa using y1
  go_enter Tryd.func6, Tryd.ntmps6
  obtain ⟨R6, hR6⟩ : ∃ R6, R6 = sumZ kl := ⟨_, rfl⟩
  have HR6 := hide hR6
  have HR6L : Hid (R6.length = 32) := by show _ = _; rw [hR6]; exact sumZ_length _
  have HR6B : Hid (IsB R6) := by show IsB R6; rw [hR6]; exact sumZ_isB _
  clear hR6
  obtain ⟨R5, hR5⟩ : ∃ R5, R5 = S5.sumZ kl := ⟨_, rfl⟩
  have HR5 := hide hR5
  have HR5L : Hid (R5.length = 64) := by show _ = _; rw [hR5]; exact S5.sumZ_length _
  have HR5B : Hid (IsB R5) := by show IsB R5; rw [hR5]; exact S5.sumZ_isB _
  clear hR5
  obtain ⟨A1, hA1⟩ : ∃ A1, A1 = sumZ (xorC 54 (padTo 64 R6) ++ tl) := ⟨_, rfl⟩
  have HA1 := hide hA1
  have HA1L : Hid (A1.length = 32) := by show _ = _; rw [hA1]; exact sumZ_length _
  have HA1B : Hid (IsB A1) := by show IsB A1; rw [hA1]; exact sumZ_isB _
  clear hA1
  obtain ⟨A2, hA2⟩ : ∃ A2, A2 = sumZ (xorC 92 (padTo 64 R6) ++ A1) := ⟨_, rfl⟩
  have HA2 := hide hA2
  have HA2L : Hid (A2.length = 32) := by show _ = _; rw [hA2]; exact sumZ_length _
  have HA2B : Hid (IsB A2) := by show IsB A2; rw [hA2]; exact sumZ_isB _
  clear hA2
  obtain ⟨B1, hB1⟩ : ∃ B1, B1 = S5.sumZ (xorC 54 (padTo 128 R5) ++ tl) := ⟨_, rfl⟩
  have HB1 := hide hB1
  have HB1L : Hid (B1.length = 64) := by show _ = _; rw [hB1]; exact S5.sumZ_length _
  have HB1B : Hid (IsB B1) := by show IsB B1; rw [hB1]; exact S5.sumZ_isB _
  clear hB1
  obtain ⟨B2, hB2⟩ : ∃ B2, B2 = S5.sumZ (xorC 92 (padTo 128 R5) ++ B1) := ⟨_, rfl⟩
  have HB2 := hide hB2
  have HB2L : Hid (B2.length = 64) := by show _ = _; rw [hB2]; exact S5.sumZ_length _
  have HB2B : Hid (IsB B2) := by show IsB B2; rw [hB2]; exact S5.sumZ_isB _
  clear hB2
  have HM6 : Hid (mac6 kl tl = A2) := by show _ = _; unfold mac6 macH frameH keyH; rw [if_pos (by rw [unhide HKL]; omega), ← unhide HR6, ← unhide HA1]; exact (unhide HA2).symm
  have HM5 : Hid (mac5 kl tl = B2) := by show _ = _; unfold mac5 macH frameH keyH; rw [if_pos (by rw [unhide HKL]; omega), ← unhide HR5, ← unhide HB1]; exact (unhide HB2).symm
  have E6 : ∀ w, (Op.equalIn 10000 23 (.agg (U8 A2).toArray) (.agg (U8 A2).toArray)).run Tryd.prog w = .ok true w := fun w => eqH_t A2 (unhide HA2L) w
  have E5 : ∀ w, (Op.equalIn 10000 36 (.agg (U8 B2).toArray) (.agg (U8 B2).toArray)).run Tryd.prog w = .ok true w := fun w => eqW_t B2 (unhide HB2L) w
  have y64 : ((64 : Nat) : Int) < (kn : Int) := by omega
  have x64 : decide ((64 : Int) < (kn : Int)) = true := by simpa using y64
  have y128 : ((128 : Nat) : Int) < (kn : Int) := by omega
  have x128 : decide ((128 : Int) < (kn : Int)) = true := by simpa using y128
  have HQN64 : Hid (32 ≤ 64) := by show _ ≤ _; omega
  have HQN128 : Hid (64 ≤ 128) := by show _ ≤ _; omega
  go_wp2_with fail
  refine (sum_any kl ka kn kc w hL.k6 hL.f6 (unhide HKL) hk.isB hk.lies hk.blk hk.le hk.mx).mono ?_
  rintro e w1 ⟨rfl, hb1⟩
  rw [← unhide HR6]
  obtain ⟨W1, hW1, hAW1, hbW1, -⟩ := arr1 w1 23 (U8 R6)
  have HEW1 := hide hW1
  clear hW1
  have hzoW1 : (#[Value.int IntKind.u8 0, Value.int IntKind.u8 0, Value.int IntKind.u8 0, Value.int IntKind.u8 0, Value.int IntKind.u8 0, Value.int IntKind.u8 0, Value.int IntKind.u8 0, Value.int IntKind.u8 0, Value.int IntKind.u8 0, Value.int IntKind.u8 0, Value.int IntKind.u8 0, Value.int IntKind.u8 0, Value.int IntKind.u8 0, Value.int IntKind.u8 0, Value.int IntKind.u8 0, Value.int IntKind.u8 0, Value.int IntKind.u8 0, Value.int IntKind.u8 0, Value.int IntKind.u8 0, Value.int IntKind.u8 0, Value.int IntKind.u8 0, Value.int IntKind.u8 0, Value.int IntKind.u8 0, Value.int IntKind.u8 0, Value.int IntKind.u8 0, Value.int IntKind.u8 0, Value.int IntKind.u8 0, Value.int IntKind.u8 0, Value.int IntKind.u8 0, Value.int IntKind.u8 0, Value.int IntKind.u8 0, Value.int IntKind.u8 0] : Array Value).size = (U8 R6).toArray.size := by rw [Z32]; simp [unhide HR6L]
  have hzrW1 : (Tryd.prog.info? 23).map (·.size) = some (U8 R6).toArray.size := by rw [Tryd.szL32]; simp [unhide HR6L]
  have h1rW1 : (U8 R6).toArray.all (·.oneCell') = true := all_one (U8_one _)
  go_wp2_with (refine wpList_store_row rfl 23 (.tmp 6) (.tmp 25) rfl w1.heap.size _ rfl rfl 23 _ (heap_alloc_last w1 _) hzrW1 hzoW1 h1rW1 ?_; rw [World.setRow_alloc_new, ← unhide HEW1])
  have hwW1 : Below w.heap.size w W1 := hb1.trans (hbW1.mono hb1.size)
  clear hzoW1 hzrW1 h1rW1 HEW1
  refine (framed_any ⟨some ⟨w1.heap.size, 0, none⟩, 32, 32, R6⟩ ⟨ta, tn, tc, tl⟩ 64 54 W1 (hAW1.ok (unhide HR6L) (unhide HR6B) (by decide)) (ht.later hwW1) (unhide HQN64) (by omega) (by show tn ≤ _; omega)).mono ?_
  rintro e wfa ⟨⟨fa, fn, fc, fl⟩, rfl, okf, hfl, hbf⟩
  have hwfa : Below w.heap.size w wfa := hwW1.trans (hbf.mono hwW1.size)
  simp only [Sl.v]
  go_wp2_with fail
  refine (sum_any fl fa fn fc wfa (hL.k6.later hwfa) (hL.f6.later hwfa) okf.len okf.isB okf.lies okf.blk okf.le okf.mx).mono ?_
  rintro e wsa ⟨rfl, hbs⟩
  have hwsa : Below w.heap.size w wsa := hwfa.trans (hbs.mono hwfa.size)
  rw [show sumZ fl = A1 from by have h : fl = _ := hfl; rw [h]; exact (unhide HA1).symm]
  have hqa := hbf.trans (hbs.mono hbf.size)
  clear hbf hbs okf hfl
  obtain ⟨Wa, hWa, hAWa, hbWa, -⟩ := arr1 wsa 23 (U8 A1)
  have HEWa := hide hWa
  clear hWa
  have hzoWa : (#[Value.int IntKind.u8 0, Value.int IntKind.u8 0, Value.int IntKind.u8 0, Value.int IntKind.u8 0, Value.int IntKind.u8 0, Value.int IntKind.u8 0, Value.int IntKind.u8 0, Value.int IntKind.u8 0, Value.int IntKind.u8 0, Value.int IntKind.u8 0, Value.int IntKind.u8 0, Value.int IntKind.u8 0, Value.int IntKind.u8 0, Value.int IntKind.u8 0, Value.int IntKind.u8 0, Value.int IntKind.u8 0, Value.int IntKind.u8 0, Value.int IntKind.u8 0, Value.int IntKind.u8 0, Value.int IntKind.u8 0, Value.int IntKind.u8 0, Value.int IntKind.u8 0, Value.int IntKind.u8 0, Value.int IntKind.u8 0, Value.int IntKind.u8 0, Value.int IntKind.u8 0, Value.int IntKind.u8 0, Value.int IntKind.u8 0, Value.int IntKind.u8 0, Value.int IntKind.u8 0, Value.int IntKind.u8 0, Value.int IntKind.u8 0] : Array Value).size = (U8 A1).toArray.size := by rw [Z32]; simp [unhide HA1L]
  have hzrWa : (Tryd.prog.info? 23).map (·.size) = some (U8 A1).toArray.size := by rw [Tryd.szL32]; simp [unhide HA1L]
  have h1rWa : (U8 A1).toArray.all (·.oneCell') = true := all_one (U8_one _)
  go_wp2_with (refine wpList_store_row rfl 23 (.tmp 7) (.tmp 30) rfl wsa.heap.size _ rfl rfl 23 _ (heap_alloc_last wsa _) hzrWa hzoWa h1rWa ?_; rw [World.setRow_alloc_new, ← unhide HEWa])
  have hwWa : Below w.heap.size w Wa := hwsa.trans (hbWa.mono hwsa.size)
  clear hzoWa hzrWa h1rWa HEWa
  refine (framed_any ⟨some ⟨w1.heap.size, 0, none⟩, 32, 32, R6⟩ ⟨some ⟨wsa.heap.size, 0, none⟩, 32, 32, A1⟩ 64 92 Wa ((hAW1.later (hqa.trans (hbWa.mono hqa.size))).ok (unhide HR6L) (unhide HR6B) (by decide)) (hAWa.ok (unhide HA1L) (unhide HA1B) (by decide)) (unhide HQN64) (by omega) (by show 32 ≤ _; omega)).mono ?_
  rintro e wfb ⟨⟨fa, fn, fc, fl⟩, rfl, okf, hfl, hbf⟩
  have hwfb : Below w.heap.size w wfb := hwWa.trans (hbf.mono hwWa.size)
  simp only [Sl.v]
  go_wp2_with fail
  refine (sum_any fl fa fn fc wfb (hL.k6.later hwfb) (hL.f6.later hwfb) okf.len okf.isB okf.lies okf.blk okf.le okf.mx).mono ?_
  rintro e wsb ⟨rfl, hbs⟩
  have hwsb : Below w.heap.size w wsb := hwfb.trans (hbs.mono hwfb.size)
  rw [show sumZ fl = A2 from by have h : fl = _ := hfl; rw [h]; exact (unhide HA2).symm]
  have hqb := hbf.trans (hbs.mono hbf.size)
  clear hbf hbs okf hfl
  obtain ⟨Wb, hWb, hAWb, hbWb, -⟩ := arr1 wsb 23 (U8 A2)
  have HEWb := hide hWb
  clear hWb
  have hzoWb : (#[Value.int IntKind.u8 0, Value.int IntKind.u8 0, Value.int IntKind.u8 0, Value.int IntKind.u8 0, Value.int IntKind.u8 0, Value.int IntKind.u8 0, Value.int IntKind.u8 0, Value.int IntKind.u8 0, Value.int IntKind.u8 0, Value.int IntKind.u8 0, Value.int IntKind.u8 0, Value.int IntKind.u8 0, Value.int IntKind.u8 0, Value.int IntKind.u8 0, Value.int IntKind.u8 0, Value.int IntKind.u8 0, Value.int IntKind.u8 0, Value.int IntKind.u8 0, Value.int IntKind.u8 0, Value.int IntKind.u8 0, Value.int IntKind.u8 0, Value.int IntKind.u8 0, Value.int IntKind.u8 0, Value.int IntKind.u8 0, Value.int IntKind.u8 0, Value.int IntKind.u8 0, Value.int IntKind.u8 0, Value.int IntKind.u8 0, Value.int IntKind.u8 0, Value.int IntKind.u8 0, Value.int IntKind.u8 0, Value.int IntKind.u8 0] : Array Value).size = (U8 A2).toArray.size := by rw [Z32]; simp [unhide HA2L]
  have hzrWb : (Tryd.prog.info? 23).map (·.size) = some (U8 A2).toArray.size := by rw [Tryd.szL32]; simp [unhide HA2L]
  have h1rWb : (U8 A2).toArray.all (·.oneCell') = true := all_one (U8_one _)
  go_wp2_with (refine wpList_store_row rfl 23 (.tmp 8) (.tmp 34) rfl wsb.heap.size _ rfl rfl 23 _ (heap_alloc_last wsb _) hzrWb hzoWb h1rWb ?_; rw [World.setRow_alloc_new, ← unhide HEWb])
  have hwWb : Below w.heap.size w Wb := hwsb.trans (hbWb.mono hwsb.size)
  clear hzoWb hzrWb h1rWb HEWb
  have hS9 : IsS w wsb.heap.size 23 A2 Wb := ⟨hAWb, hwWb⟩
  clear hAWb hqb hqa
  generalize wsb.heap.size = g8 at *
  refine wp_region_held_drew (S := IsS w g8 23 A2) (by kernel_rfl) (hS9.later (below_drew _)) (fun hHeld => ?_)
  clear hS9
  generalize World.drew Wb = wD at hHeld ⊢
  refine wpAnyH_take (i := 0) (oi := _) (v := .slice ka kn kc) rfl (by kernel_rfl) (by kernel_rfl) (by kernel_rfl) (fun _ _ _ h => h) (Or.inl ⟨by rfl, fun w hSw => by go_simp⟩) hHeld ?_
  simp [Act.put]
  refine wpAnyH_take (i := 1) (oi := _) (v := .slice ta tn tc) rfl (by kernel_rfl) (by kernel_rfl) (by kernel_rfl) (fun _ _ _ h => h) (Or.inl ⟨by rfl, fun w hSw => by go_simp⟩) hHeld ?_
  simp [Act.put]
  refine wpAnyH_take (i := 3) (oi := _) (v := _) rfl (by kernel_rfl) (by kernel_rfl) (by kernel_rfl) (fun _ _ _ h => h) (yieldsIf_load_mid (by rfl) _ _ rfl _ _ rfl _ _ IsS.rg Tryd.underlying23 rfl (by rw [Tryd.szL32]; simp [unhide HA2L])) hHeld ?_
  simp [Act.put]
  refine wpAnyH_ready (rs := [2]) (by kernel_rfl) (by simp) ?_
  refine AllReadyH.cons rfl (fun Kk hKK => ?_) AllReadyH.nil
  go_simp
  refine (mMac256_any ⟨ka, kn, kc, kl⟩ ⟨ta, tn, tc, tl⟩ _ (hk.later hHeld.bel) (ht.later hHeld.bel) (hL.k6.later hHeld.bel) (hL.f6.later hHeld.bel) (by show tn ≤ _; omega)).mono ?_
  rintro e wx1 ⟨rfl, hbx⟩
  rw [show mac6 (Sl.mk ka kn kc kl).l (Sl.mk ta tn tc tl).l = A2 from unhide HM6]
  refine hKK.out _ _ (hHeld.later hbx) (fun hHeld => ?_)
  clear hKK Kk
  clear hbx
  refine wpAnyH_take (i := 4) (oi := _) (v := .bool false) rfl (by kernel_rfl) (by kernel_rfl) (by kernel_rfl) (fun _ _ _ h => h) (Or.inl ⟨by rfl, fun w hSw => by go_simp⟩) hHeld ?_
  simp [Act.put]
  refine wpAnyH_take (i := 5) (oi := _) (v := .bool false) rfl (by kernel_rfl) (by kernel_rfl) (by kernel_rfl) (fun _ _ _ h => h) (Or.inl ⟨by rfl, fun w hSw => by go_simp⟩) hHeld ?_
  simp [Act.put]
  refine wpAnyH_take (i := 6) (oi := _) (v := .slice ka kn kc) rfl (by kernel_rfl) (by kernel_rfl) (by kernel_rfl) (fun _ _ _ h => h) (Or.inl ⟨by rfl, fun w hSw => by go_simp⟩) hHeld ?_
  simp [Act.put]
  refine wpAnyH_take (i := 7) (oi := _) (v := .slice ta tn tc) rfl (by kernel_rfl) (by kernel_rfl) (by kernel_rfl) (fun _ _ _ h => h) (Or.inl ⟨by rfl, fun w hSw => by go_simp⟩) hHeld ?_
  simp [Act.put]
  refine wpAnyH_take (i := 9) (oi := _) (v := _) rfl (by kernel_rfl) (by kernel_rfl) (by kernel_rfl) (fun _ _ _ h => h) (yieldsIf_load_mid (by rfl) _ _ rfl _ _ rfl _ _ IsS.rg Tryd.underlying23 rfl (by rw [Tryd.szL32]; simp [unhide HA2L])) hHeld ?_
  simp [Act.put]
  refine wpAnyH_ready (rs := [8]) (by kernel_rfl) (by simp) ?_
  refine AllReadyH.cons rfl (fun Kk hKK => ?_) AllReadyH.nil
  go_simp
  refine (mExtract_any ⟨ka, kn, kc, kl⟩ ⟨ta, tn, tc, tl⟩ _ (hk.later hHeld.bel) (ht.later hHeld.bel) (hL.k6.later hHeld.bel) (hL.f6.later hHeld.bel) (by show tn ≤ _; omega)).mono ?_
  rintro e wx2 ⟨rfl, hbx⟩
  rw [show mac6 (Sl.mk ka kn kc kl).l (Sl.mk ta tn tc tl).l = A2 from unhide HM6]
  refine hKK.out _ _ (hHeld.later hbx) (fun hHeld => ?_)
  clear hKK Kk
  clear hbx
  refine wpAnyH_take (i := 10) (oi := _) (v := .bool false) rfl (by kernel_rfl) (by kernel_rfl) (by kernel_rfl) (fun _ _ _ h => h) (Or.inl ⟨by rfl, fun w hSw => by go_simp⟩) hHeld ?_
  simp [Act.put]
  refine wpAnyH_take (i := 11) (oi := _) (v := .bool false) rfl (by kernel_rfl) (by kernel_rfl) (by kernel_rfl) (fun _ _ _ h => h) (Or.inl ⟨by rfl, fun w hSw => by go_simp⟩) hHeld ?_
  simp [Act.put]
  refine wpAnyH_take (i := 12) (oi := _) (v := .bool false) rfl (by kernel_rfl) (by kernel_rfl) (by kernel_rfl) (fun _ _ _ h => h) (Or.inl ⟨by rfl, fun w hSw => by go_simp⟩) hHeld ?_
  simp [Act.put]
  refine wpAnyH_take (i := 14) (oi := _) (v := .agg #[Value.int IntKind.u8 0, Value.int IntKind.u8 0, Value.int IntKind.u8 0, Value.int IntKind.u8 0, Value.int IntKind.u8 0, Value.int IntKind.u8 0, Value.int IntKind.u8 0, Value.int IntKind.u8 0, Value.int IntKind.u8 0, Value.int IntKind.u8 0, Value.int IntKind.u8 0, Value.int IntKind.u8 0, Value.int IntKind.u8 0, Value.int IntKind.u8 0, Value.int IntKind.u8 0, Value.int IntKind.u8 0, Value.int IntKind.u8 0, Value.int IntKind.u8 0, Value.int IntKind.u8 0, Value.int IntKind.u8 0, Value.int IntKind.u8 0, Value.int IntKind.u8 0, Value.int IntKind.u8 0, Value.int IntKind.u8 0, Value.int IntKind.u8 0, Value.int IntKind.u8 0, Value.int IntKind.u8 0, Value.int IntKind.u8 0, Value.int IntKind.u8 0, Value.int IntKind.u8 0, Value.int IntKind.u8 0, Value.int IntKind.u8 0]) rfl (by kernel_rfl) (by kernel_rfl) (by kernel_rfl) (fun _ _ _ h => h) (Or.inl ⟨by rfl, fun w hSw => by go_simp⟩) hHeld ?_
  simp [Act.put]
  refine wpAnyH_ready (rs := [13]) (by kernel_rfl) (by simp) ?_
  refine AllReadyH.cons rfl (fun Kk hKK => ?_) AllReadyH.nil
  go_simp
  refine (mMac256_any ⟨none, 0, 0, []⟩ ⟨none, 0, 0, []⟩ _ (okNil _) (okNil _) (hL.k6.later hHeld.bel) (hL.f6.later hHeld.bel) (by simp)).mono ?_
  rintro e wx3 ⟨rfl, hbx⟩
  rw [show mac6 (Sl.mk none 0 0 []).l (Sl.mk none 0 0 []).l = N from unhide HN]
  refine hKK.out _ _ (hHeld.later hbx) (fun hHeld => ?_)
  clear hKK Kk
  clear hbx
  refine wpAnyH_take (i := 15) (oi := _) (v := .bool false) rfl (by kernel_rfl) (by kernel_rfl) (by kernel_rfl) (fun _ _ _ h => h) (Or.inl ⟨by rfl, fun w hSw => by go_simp⟩) hHeld ?_
  simp [Act.put]
  refine wpAnyH_take (i := 16) (oi := _) (v := .bool false) rfl (by kernel_rfl) (by kernel_rfl) (by kernel_rfl) (fun _ _ _ h => h) (Or.inl ⟨by rfl, fun w hSw => by go_simp⟩) hHeld ?_
  simp [Act.put]
  refine wpAnyH_done (by kernel_rfl) ?_ _
  have hw9 := hHeld.bel
  clear hHeld
  go_wp2_with fail
  refine (S5.sum_any kl ka kn kc wx3 (hL.k5.later hw9) (hL.f5.later hw9) (unhide HKL) hk.isB (hk.later hw9).lies (hk.later hw9).blk hk.le hk.mx).mono ?_
  rintro e w5 ⟨rfl, hb5⟩
  rw [← unhide HR5]
  have hw5 : Below w.heap.size w w5 := hw9.trans (hb5.mono hw9.size)
  obtain ⟨W5, hW5, hAW5, hbW5, -⟩ := arr1 w5 36 (U8 R5)
  have HEW5 := hide hW5
  clear hW5
  have hzoW5 : Z5.toArray.size = (U8 R5).toArray.size := (unhide Z5L).trans (by simp [unhide HR5L])
  have hzrW5 : (Tryd.prog.info? 36).map (·.size) = some (U8 R5).toArray.size := by rw [Tryd.szL64]; simp [unhide HR5L]
  have h1rW5 : (U8 R5).toArray.all (·.oneCell') = true := all_one (U8_one _)
  go_wp2_with (refine wpList_store_row rfl 36 (.tmp 10) (.tmp 57) rfl w5.heap.size _ rfl rfl 36 _ (heap_alloc_last w5 _) hzrW5 hzoW5 h1rW5 ?_; rw [World.setRow_alloc_new, ← unhide HEW5])
  have hwW5 : Below w.heap.size w W5 := hw5.trans (hbW5.mono hw5.size)
  clear hzoW5 hzrW5 h1rW5 HEW5
  refine (framed_any ⟨some ⟨w5.heap.size, 0, none⟩, 64, 64, R5⟩ ⟨ta, tn, tc, tl⟩ 128 54 W5 (hAW5.ok (unhide HR5L) (unhide HR5B) (by decide)) (ht.later hwW5) (unhide HQN128) (by omega) (by show tn ≤ _; omega)).mono ?_
  rintro e wfc ⟨⟨fa, fn, fc, fl⟩, rfl, okf, hfl, hbf⟩
  have hwfc : Below w.heap.size w wfc := hwW5.trans (hbf.mono hwW5.size)
  simp only [Sl.v]
  go_wp2_with fail
  refine (S5.sum_any fl fa fn fc wfc (hL.k5.later hwfc) (hL.f5.later hwfc) okf.len okf.isB okf.lies okf.blk okf.le okf.mx).mono ?_
  rintro e wsc ⟨rfl, hbs⟩
  have hwsc : Below w.heap.size w wsc := hwfc.trans (hbs.mono hwfc.size)
  rw [show S5.sumZ fl = B1 from by have h : fl = _ := hfl; rw [h]; exact (unhide HB1).symm]
  have hqc := hbf.trans (hbs.mono hbf.size)
  clear hbf hbs okf hfl
  obtain ⟨Wc, hWc, hAWc, hbWc, -⟩ := arr1 wsc 36 (U8 B1)
  have HEWc := hide hWc
  clear hWc
  have hzoWc : Z5.toArray.size = (U8 B1).toArray.size := (unhide Z5L).trans (by simp [unhide HB1L])
  have hzrWc : (Tryd.prog.info? 36).map (·.size) = some (U8 B1).toArray.size := by rw [Tryd.szL64]; simp [unhide HB1L]
  have h1rWc : (U8 B1).toArray.all (·.oneCell') = true := all_one (U8_one _)
  go_wp2_with (refine wpList_store_row rfl 36 (.tmp 11) (.tmp 62) rfl wsc.heap.size _ rfl rfl 36 _ (heap_alloc_last wsc _) hzrWc hzoWc h1rWc ?_; rw [World.setRow_alloc_new, ← unhide HEWc])
  have hwWc : Below w.heap.size w Wc := hwsc.trans (hbWc.mono hwsc.size)
  clear hzoWc hzrWc h1rWc HEWc
  have okq5 : Sl.Ok Wc ⟨some ⟨w5.heap.size, 0, none⟩, 64, 64, R5⟩ := (hAW5.later (hqc.trans (hbWc.mono hqc.size))).ok (unhide HR5L) (unhide HR5B) (by decide)
  have hS16 : IsS w wsc.heap.size 36 B1 Wc := ⟨hAWc, hwWc⟩
  clear hAWc hqc
  generalize wsc.heap.size = g11 at *
  refine wp_region_held_drew (S := IsS w g11 36 B1) (by kernel_rfl) (hS16.later (below_drew _)) (fun hHeld => ?_)
  clear hS16
  have okq5 := okq5.later (below_drew _)
  generalize World.drew Wc = wE at hHeld okq5 ⊢
  refine wpAnyH_take (i := 0) (oi := _) (v := .slice ka kn kc) rfl (by kernel_rfl) (by kernel_rfl) (by kernel_rfl) (fun _ _ _ h => h) (Or.inl ⟨by rfl, fun w hSw => by go_simp⟩) hHeld ?_
  simp [Act.put]
  refine wpAnyH_take (i := 1) (oi := _) (v := .slice ta tn tc) rfl (by kernel_rfl) (by kernel_rfl) (by kernel_rfl) (fun _ _ _ h => h) (Or.inl ⟨by rfl, fun w hSw => by go_simp⟩) hHeld ?_
  simp [Act.put]
  refine wpAnyH_take (i := 3) (oi := _) (v := .slice (some ⟨w5.heap.size, 0, none⟩) 64 64) rfl (by kernel_rfl) (by kernel_rfl) (by kernel_rfl) (fun _ _ _ h => h) (Or.inl ⟨by rfl, fun w hSw => by go_simp⟩) hHeld ?_
  simp [Act.put]
  refine wpAnyH_take (i := 4) (oi := _) (v := .slice (some ⟨g11, 0, none⟩) 64 64) rfl (by kernel_rfl) (by kernel_rfl) (by kernel_rfl) (fun _ _ _ h => h) (Or.inl ⟨by rfl, fun w hSw => by go_simp⟩) hHeld ?_
  simp [Act.put]
  refine wpAnyH_ready (rs := [2]) (by kernel_rfl) (by simp) ?_
  refine AllReadyH.cons rfl (fun Kk hKK => ?_) AllReadyH.nil
  go_simp
  refine (mMac512_any ⟨ka, kn, kc, kl⟩ ⟨ta, tn, tc, tl⟩ _ (hk.later hHeld.bel) (ht.later hHeld.bel) (hL.k5.later hHeld.bel) (hL.f5.later hHeld.bel) (by show tn ≤ _; omega)).mono ?_
  rintro e wx4 ⟨rfl, hbx⟩
  rw [show mac5 (Sl.mk ka kn kc kl).l (Sl.mk ta tn tc tl).l = B2 from unhide HM5]
  have okq5 := okq5.later hbx
  refine hKK.out _ _ (hHeld.later hbx) (fun hHeld => ?_)
  clear hKK Kk
  clear hbx
  refine wpAnyH_ready (rs := [5]) (by kernel_rfl) (by simp) ?_
  refine AllReadyH.cons rfl (fun Kk hKK => ?_) AllReadyH.nil
  go_simp
  refine (framed_any ⟨some ⟨w5.heap.size, 0, none⟩, 64, 64, R5⟩ ⟨some ⟨g11, 0, none⟩, 64, 64, B1⟩ 128 92 _ okq5 (hHeld.arr.ok (unhide HB1L) (unhide HB1B) (by decide)) (unhide HQN128) (by omega) (by show 64 ≤ _; omega)).mono ?_
  rintro e wx5 ⟨⟨fa, fn, fc, fl⟩, rfl, okf, hfl, hbx⟩
  simp only [Sl.v]
  refine hKK.out _ _ (hHeld.later hbx) (fun hHeld => ?_)
  clear hKK Kk
  clear hbx okq5
  refine wpAnyH_ready (rs := [6]) (by kernel_rfl) (by simp) ?_
  refine AllReadyH.cons rfl (fun Kk hKK => ?_) AllReadyH.nil
  go_simp
  refine (S5.sum_any fl fa fn fc _ (hL.k5.later hHeld.bel) (hL.f5.later hHeld.bel) okf.len okf.isB okf.lies okf.blk okf.le okf.mx).mono ?_
  rintro e wx6 ⟨rfl, hbx⟩
  rw [show S5.sumZ fl = B2 from by have h : fl = _ := hfl; rw [h]; exact (unhide HB2).symm]
  refine hKK.out _ _ (hHeld.later hbx) (fun hHeld => ?_)
  clear hKK Kk
  clear hbx okf hfl
  refine wpAnyH_take (i := 7) (oi := _) (v := .bool true) rfl (by kernel_rfl) (by kernel_rfl) (by kernel_rfl) (fun _ _ _ h => h) (Or.inl ⟨by rfl, fun w hSw => by go_simp⟩) hHeld ?_
  simp [Act.put]
  refine wpAnyH_take (i := 8) (oi := _) (v := .bool true) rfl (by kernel_rfl) (by kernel_rfl) (by kernel_rfl) (fun _ _ _ h => h) (Or.inl ⟨by rfl, fun w hSw => by go_simp⟩) hHeld ?_
  simp [Act.put]
  refine wpAnyH_done (by kernel_rfl) ?_ _
  go_wp2
  go_ret
  exact ⟨rfl, hHeld.bel⟩
end Go.Proofs.YtkagnpnicbddlaaDoor
