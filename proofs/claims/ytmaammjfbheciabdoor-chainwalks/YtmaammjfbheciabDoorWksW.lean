import Derived.Test.YtmaammjfbheciabDoorLvW
import Derived.Test.YtmaammjfbheciabDoorXiW
set_option linter.unusedVariables false
namespace Go.Proofs.YtmaammjfbheciabDoor
open Go.RowKit Go.Maps

/-- where the law's loop stands -/
structure WkI (w : World) (p b n : Nat) (v : List Int) (g : Nat) (k : Nat) (wr : World) : Prop where
  X : XI wr p b n v k
  V : LV wr g (n + 1) 0 (fun i => itZ (n - i) v)
  H : Hold [(w.heap.size, v)] wr
  B : Below w.heap.size w wr
  P : w.heap.size ≤ p ∧ w.heap.size ≤ b ∧ g ≠ p ∧ g ≠ b

set_option maxHeartbeats 40000000 in
set_option maxRecDepth 100000 in
theorem walks_law (v : List Int) (z c : Int) (w : World) (hv : Hs v) (hL : Ld w) :
    Calls Tryd.prog 3 #[hV v, .int .i64 z, .int .i64 c] w fun e w' => e = .returned (.bool true) ∧ Below w.heap.size w w' := by
  obtain ⟨W, hW, hH, hb⟩ := hold1 w v
  have HW := hide hW
  have HL := hide hL
  clear hW hL
  cases hr : isR z
  · as_aux_lemma =>
    have hn := walk_no v z W hr
    cases d1 : decide (z < 1)
    · have d2 : decide (4096 < z) = true := by simp [isR] at hr; simp at d1 ⊢; exact hr d1
      clear hr
      unfold hV
      go_enter Tryd.func3, Tryd.ntmps3
      go_upto_region 1 with fail
      rw [show Value.agg (U8 v).toArray = hV v from rfl]
      rw [← unhide HW]
      go_wp2_with (first
        | refine wpList_load_hs hH (.tmp 3) rfl (by kernel_rfl) (w.heap.size) v (by simp) hv.len rfl ?_)
      refine (hn).mono ?_
      rintro e v1 ⟨rfl, hb1⟩
      replace hH := hH.later hb1
      replace hb := bnext hb hb.size hb1
      clear hb1
      go_wp2_with fail
      go_ret
      exact ⟨rfl, hb⟩
    · clear hr
      unfold hV
      go_enter Tryd.func3, Tryd.ntmps3
      go_upto_region 1 with fail
      rw [show Value.agg (U8 v).toArray = hV v from rfl]
      rw [← unhide HW]
      go_wp2_with (first
        | refine wpList_load_hs hH (.tmp 3) rfl (by kernel_rfl) (w.heap.size) v (by simp) hv.len rfl ?_)
      refine (hn).mono ?_
      rintro e v1 ⟨rfl, hb1⟩
      replace hH := hH.later hb1
      replace hb := bnext hb hb.size hb1
      clear hb1
      go_wp2_with fail
      go_ret
      exact ⟨rfl, hb⟩
  have hz : 1 ≤ z ∧ z ≤ 4096 := by simpa [isR] using hr
  obtain ⟨n, rfl⟩ : ∃ n : Nat, z = n := ⟨z.toNat, by omega⟩
  have HN : Hid (1 ≤ n ∧ n ≤ 4096) := hide (by omega)
  have d1 : decide ((n : Int) < 1) = false := decide_eq_false (by omega)
  have d2 : decide (4096 < (n : Int)) = false := decide_eq_false (by omega)
  have d3 : decide (4096 < n) = false := decide_eq_false (by omega)
  have d4 : decide (n < 1) = false := decide_eq_false (by omega)
  have d5 : decide (n = 0) = false := decide_eq_false (by omega)
  clear hr hz
  unfold hV
  go_enter Tryd.func3, Tryd.ntmps3
  go_upto_region 1 with fail
  rw [show Value.agg (U8 v).toArray = hV v from rfl]
  rw [← unhide HW]
  have HD : Hid (decide ((n : Int) < 1) = false ∧ decide (4096 < (n : Int)) = false ∧ decide (4096 < n) = false ∧ decide (n < 1) = false ∧ decide (n = 0) = false) := hide ⟨d1, d2, d3, d4, d5⟩
  clear d1 d2 d3 d4 d5
  go_wp2_with (first
    | refine wpList_load_hs hH (.tmp 3) rfl (by kernel_rfl) (w.heap.size) v (by simp) hv.len rfl ?_)
  refine (walk_ok v n _ hv (unhide HN).1 (unhide HN).2).mono ?_
  rintro e u1 ⟨p, b, rfl, hWs, hp0, hb0, hb1⟩
  replace hH := hH.later hb1
  have HP0 : Hid (w.heap.size ≤ p ∧ w.heap.size ≤ b) := hide ⟨Nat.le_trans hb.size hp0, Nat.le_trans hb.size hb0⟩
  replace hb := bnext hb hb.size hb1
  have HWs := hide hWs
  clear hb1 hp0 hb0 hWs
  obtain ⟨d1, d2, d3, d4, d5⟩ := unhide HD
  go_upto_region 4 with fail
  clear d1 d2 d3 d4 d5 HD
  go_wp2_with (first
    | refine wpList_load_hs hH (.tmp 3) rfl (by kernel_rfl) (w.heap.size) v (by simp) hv.len rfl ?_)
  refine (rvalues_any v n _ hv (unhide HN).2).mono ?_
  rintro e u2 ⟨g, rfl, hLV, hg, hb1⟩
  have HST : Hid (WkI w p b n v g 0 u2) := hide ⟨⟨0, [n], (unhide HWs).later hb1, by simp⟩, hLV, hH.later hb1, bnext hb hb.size hb1, (unhide HP0).1, (unhide HP0).2, by have := (unhide HWs).P.lt; omega, by have := (unhide HWs).M.lt; omega⟩
  clear hLV hg hb1 hH hb HWs
  go_wp2_with fail
  go_loopw [10] (fun iv wr => ∃ k : Nat, k ≤ n + 3 ∧ iv = .int .i64 ((k + 1 : Nat) : Int) ∧ WkI w p b n v g k wr) (fun iv _ => n + 4 - (intOf iv).toNat)
  case atStart => exact ⟨0, Nat.zero_le _, rfl, unhide HST⟩
  case round =>
    clear HST
    obtain ⟨k, hk, rfl, hI⟩ := hrel
    obtain ⟨i, hi⟩ : ∃ i, i = k + 1 := ⟨_, rfl⟩
    rw [← hi]
    have hw3 : IntKind.i64.wrap ((n : Int) + 3) = ((n + 3 : Nat) : Int) := by rw [IntKind.wrap_i64]; have := unhide HN; omega
    obtain ⟨n3, hn3⟩ : ∃ n3, n3 = n + 3 := ⟨_, rfl⟩
    rw [← hn3] at hw3
    have HI := hide hI
    have hH := hI.H
    have hb := hI.B
    obtain ⟨iz, hiz⟩ : ∃ iz : Int, iz = (i : Int) := ⟨_, rfl⟩
    obtain ⟨nz, hnz⟩ : ∃ nz : Int, nz = (n : Int) := ⟨_, rfl⟩
    obtain ⟨n3z, hn3z⟩ : ∃ nz : Int, nz = (n3 : Int) := ⟨_, rfl⟩
    rw [← hnz, ← hn3z] at hw3
    rw [← hiz, ← hnz]
    have HZ : Hid (iz = (i : Int) ∧ nz = (n : Int) ∧ n3z = (n3 : Int) ∧ i = k + 1 ∧ n3 = n + 3 ∧ k ≤ n + 3) := hide ⟨hiz, hnz, hn3z, hi, hn3, hk⟩
    cases e1 : decide (iz ≤ c)
    · as_aux_lemma =>
      clear hI hi hn3 hiz hnz hn3z hk
      go_wp2
      go_ret
      exact ⟨rfl, hb⟩
    · cases e2 : decide (iz ≤ n3z)
      · as_aux_lemma =>
        clear hI hi hn3 hiz hnz hn3z hk
        go_wp2
        go_ret
        exact ⟨rfl, hb⟩
      · have hnx := xnext_any p b n v k wr hv ((unhide HL).later hb) hI.X (unhide HN).1 (unhide HN).2
        rw [← hi] at hnx
        have hw1 : IntKind.i64.wrap (iz + 1) = iz + 1 := by rw [IntKind.wrap_i64]; have := unhide HN; omega
        have hik : k < n + 3 := by have := of_decide_eq_true e2; omega
        have HIK := hide hik
        by_cases hlt : k < n
        · rw [if_pos hlt, show vaR v (n : Int) (i : Int) = (itZ (n - i) v, true) by rw [vaR, if_pos ⟨by omega, by have := unhide HN; omega, by omega, by omega⟩, show ((n : Int) - (i : Int)).toNat = n - i by omega]] at hnx
          simp only at hnx
          have hri := hI.V.R i (Nat.zero_le _) (by omega)
          obtain ⟨u, hu⟩ : ∃ u, u = itZ (n - i) v := ⟨_, rfl⟩
          have hul : Hs u := by rw [hu]; exact hv.it _
          simp only [← hu] at hri hnx
          have e3 : decide (nz < iz) = false := decide_eq_false (by omega)
          rw [← hiz] at hnx
          have hin : i < n + 1 := by omega
          have HUE := hide hu
          have HNX := hide hnx
          have HRI := hide hri
          have D1 := hide hw1
          have HIN := hide hin
          have e5 : (iz != iz) = false := by simp
          clear hnx hri hI hi hn3 hiz hnz hn3z hk hlt hu hw1 hik hin
          go_wp2_with fail
          refine (unhide HNX).mono ?_
          rintro e y1 ⟨rfl, hX1, hB1⟩
          replace hH := XI.hold hH (unhide HI).X hB1
          replace hb := bel_walk hb hb.size (unhide HI).P.1 (unhide HI).P.2.1 hB1
          have HX1 := hide hX1
          have HV1 := hide ((unhide HI).V.buts hB1 (by have := (unhide HI).P; omega))
          clear hB1 hX1
          go_wp2_with (first
            | (refine wpList_store_hs hH rfl (.tmp 12) (.tmp 56) rfl u hul.len _ rfl rfl rfl ?_; intro y2 hH2 hb2; replace hH := hH2; replace HX1 := hide ((unhide HX1).later hb2); replace HV1 := hide ((unhide HV1).later hb2); replace hb := bnext hb hb.size hb2; clear hb2 hH2))
          have HUU := (unhide HV1).R i (Nat.zero_le _) (unhide HIN)
          simp only [← unhide HUE] at HUU
          have hri : y2.rangeAt g (i * 32) (U8 u) := HUU
          have hix : ∀ w1 : World, True := fun _ => trivial
          refine wp_region_noPanic ?_
          refine wp_region_held_drew (S := fun w' => Hold [(y1.heap.size, u), (w.heap.size, v)] w' ∧ w'.rangeAt g (i * 32) (U8 u)) (by kernel_rfl) ⟨hH, hri⟩ (fun hHeld => ?_)
          have HX2 : Hid (XI y2.drew p b n v i) := hide ((unhide HX1).later (drew_below _))
          have HV2 : Hid (LV y2.drew g (n + 1) 0 (fun i => itZ (n - i) v)) := hide ((unhide HV1).later (drew_below _))
          have hb3 : Below w.heap.size w y2.drew := hb.drew
          have HLT : Hid (iz = (i : Int) ∧ (i : Int) < ((n + 1 : Nat) : Int)) := hide ⟨(unhide HZ).1, by have := unhide HIN; omega⟩
          clear hH hri HX1 HV1 hb hix HUU
          generalize y2.drew = y3 at HX2 HV2 hb3 hHeld ⊢
          refine wpAnyH_take (i := 0) (oi := _) (v := .bool true) rfl (by kernel_rfl) (by kernel_rfl) (by kernel_rfl) (fun _ _ _ h => h) (Or.inl ⟨by rfl, fun w hSw => by go_simp⟩) hHeld ?_
          simp [Act.put]
          refine wpAnyH_take (i := 1) (oi := _) (v := .bool false) rfl (by kernel_rfl) (by kernel_rfl) (by kernel_rfl) (fun _ _ _ h => h) (Or.inl ⟨by rfl, fun w hSw => by go_simp⟩) hHeld ?_
          simp [Act.put]
          refine wpAnyH_take (i := 2) (oi := _) (v := .bool false) rfl (by kernel_rfl) (by kernel_rfl) (by kernel_rfl) (fun _ _ _ h => h) (Or.inl ⟨by rfl, fun w hSw => by go_simp⟩) hHeld ?_
          simp [Act.put]
          refine wpAnyH_take (i := 3) (oi := _) (v := .int .i64 iz) rfl (by kernel_rfl) (by kernel_rfl) (by kernel_rfl) (fun _ _ _ h => h) (Or.inl ⟨by rfl, fun w hSw => by go_simp⟩) hHeld ?_
          simp [Act.put]
          refine wpAnyH_take (i := 4) (oi := _) (v := .int .i64 iz) rfl (by kernel_rfl) (by kernel_rfl) (by kernel_rfl) (fun _ _ _ h => h) (Or.inl ⟨by rfl, fun w hSw => by go_simp⟩) hHeld ?_
          simp [Act.put]
          refine wpAnyH_take (i := 5) (oi := _) (v := .bool false) rfl (by kernel_rfl) (by kernel_rfl) (by kernel_rfl) (fun _ _ _ h => h) (Or.inl ⟨by rfl, fun w hSw => by go_simp⟩) hHeld ?_
          simp [Act.put]
          refine wpAnyH_take (i := 6) (oi := _) (v := .bool false) rfl (by kernel_rfl) (by kernel_rfl) (by kernel_rfl) (fun _ _ _ h => h) (Or.inl ⟨by rfl, fun w hSw => by go_simp⟩) hHeld ?_
          simp [Act.put]
          refine wpAnyH_take (i := 7) (oi := _) (v := .bool false) rfl (by kernel_rfl) (by kernel_rfl) (by kernel_rfl) (fun _ _ _ h => h) (Or.inl ⟨by rfl, fun w hSw => by go_simp⟩) hHeld ?_
          simp [Act.put]
          refine wpAnyH_take (i := 8) (oi := _) (v := hV u) rfl (by kernel_rfl) (by kernel_rfl) (by kernel_rfl) (fun _ _ _ h => h) (yieldsIf_load_mid (by kernel_rfl) _ (.tmp 12) rfl y1.heap.size 0 rfl (U8 u) _ (fun _ h => arr_range (h.1 (y1.heap.size, u) (by simp))) Tryd.underlying23 rfl (hz_of' hul.len)) hHeld ?_
          simp [Act.put]
          refine wpAnyH_take (i := 9) (oi := _) (v := .slice (some ⟨g, 0, none⟩) (n + 1) (n + 1)) rfl (by kernel_rfl) (by kernel_rfl) (by kernel_rfl) (fun _ _ _ h => h) (Or.inl ⟨by rfl, fun w hSw => by go_simp⟩) hHeld ?_
          simp [Act.put]
          refine wpAnyH_take (i := 10) (oi := _) (v := .int .i64 iz) rfl (by kernel_rfl) (by kernel_rfl) (by kernel_rfl) (fun _ _ _ h => h) (Or.inl ⟨by rfl, fun w hSw => by go_simp⟩) hHeld ?_
          simp [Act.put]
          have hlt := unhide HLT
          rw [hlt.1]
          have hl2 := hlt.2
          have hl3 : ¬ ((n : Int) + 1 ≤ (i : Int)) := by omega
          have hl4 : (i : Int) < (n : Int) + 1 := by omega
          clear hlt
          refine wpAnyH_take (i := 11) (oi := _) (v := .pointer (some ⟨g, i * 32, none⟩)) rfl (by kernel_rfl) (by kernel_rfl) (by kernel_rfl) (fun _ _ _ h => h) (Or.inl ⟨by rfl, fun w hSw => by go_simp⟩) hHeld ?_
          simp [Act.put]
          refine wpAnyH_take (i := 12) (oi := _) (v := hV u) rfl (by kernel_rfl) (by kernel_rfl) (by kernel_rfl) (fun _ _ _ h => h) (yieldsIf_load_mid (by kernel_rfl) _ (.tmp 82) rfl g (i * 32) rfl (U8 u) _ (fun _ h => h.2) Tryd.underlying23 rfl (hz_of' hul.len)) hHeld ?_
          simp [Act.put]
          refine wpAnyH_take (i := 13) (oi := _) (v := .bool (!true)) rfl (by kernel_rfl) (by kernel_rfl) (by kernel_rfl) (fun _ _ _ h => h) (yields_neH (by kernel_rfl) (.tmp 79) (.tmp 83) rfl u u hul.len hul.len true (by simp) rfl rfl) hHeld ?_
          simp [Act.put]
          refine wpAnyH_take (i := 14) (oi := _) (v := .bool false) rfl (by kernel_rfl) (by kernel_rfl) (by kernel_rfl) (fun _ _ _ h => h) (Or.inl ⟨by rfl, fun w hSw => by go_simp⟩) hHeld ?_
          simp [Act.put]
          refine wpAnyH_done (by kernel_rfl) ?_ _
          unfold NoPanic
          have hH4 := hHeld.1
          have HF : Hid (WkI w p b n v g i y3) := hide ⟨unhide HX2, unhide HV2, fun q hq => hH4 q (by simp at hq; subst hq; simp), hb3, (unhide HI).P⟩
          clear hHeld hH4 hb3 HX2 HV2 hl2 hl3 hl4
          have d8 := unhide D1
          rw [(unhide HZ).1] at d8
          go_wp2
          go_roundw
          case rel => exact ⟨i, by have := unhide HZ; have := unhide HIK; omega, by simp, unhide HF⟩
          case measure => simp [intOf]; have := unhide HZ; have := unhide HIK; omega
        · rw [if_neg hlt, show vaR v (n : Int) (i : Int) = (zeroH, false) by rw [vaR, if_neg (by omega)]] at hnx
          simp only at hnx
          have e3 : decide (nz < iz) = true := decide_eq_true (by omega)
          have HNX := hide hnx
          have D1 := hide hw1
          have hzl := zeroH_hs.len
          clear hnx hI hi hn3 hiz hnz hn3z hk hlt hw1 hik
          go_wp2_with fail
          refine (unhide HNX).mono ?_
          rintro e y1 ⟨rfl, hX1, hB1⟩
          replace hH := XI.hold hH (unhide HI).X hB1
          replace hb := bel_walk hb hb.size (unhide HI).P.1 (unhide HI).P.2.1 hB1
          have HX1 := hide hX1
          have HV1 := hide ((unhide HI).V.buts hB1 (by have := (unhide HI).P; omega))
          clear hB1 hX1
          go_upto_region 12 with (first
            | (refine wpList_store_hs hH rfl (.tmp 12) (.tmp 56) rfl zeroH hzl _ rfl rfl rfl ?_; intro y2 hH2 hb2; replace hH := hH2; replace HX1 := hide ((unhide HX1).later hb2); replace HV1 := hide ((unhide HV1).later hb2); replace hb := bnext hb hb.size hb2; clear hb2 hH2))
          refine wp_region_lit ?_
          refine wpList_val (.bool false) (by kernel_rfl) (by go_simp) ?_
          simp [Act.put]
          refine wpList_val (.bool false) (by kernel_rfl) (by go_simp) ?_
          simp [Act.put]
          refine wpList_val (.int .i64 0) (by kernel_rfl) (by go_simp) ?_
          simp [Act.put]
          refine wpList_val (.bool false) (by kernel_rfl) (by go_simp) ?_
          simp [Act.put]
          refine wpList_val (.bool false) (by kernel_rfl) (by go_simp) ?_
          simp [Act.put]
          refine wpList_val (.bool false) (by kernel_rfl) (by go_simp) ?_
          simp [Act.put]
          refine wpList_load_hs hH (.tmp 12) rfl (by kernel_rfl) (y1.heap.size) zeroH (by simp) hzl rfl ?_
          simp [Act.put]
          refine wpList_val (hV zeroH) (by kernel_rfl) (by kernel_rfl) ?_
          simp [Act.put]
          refine wpList_neH (by kernel_rfl) (.tmp 67) (.tmp 68) rfl zeroH zeroH hzl hzl true (by simp) rfl rfl ?_
          simp [Act.put]
          refine wpList_val (.bool false) (by kernel_rfl) (by go_simp) ?_
          simp [Act.put]
          refine wpList_nil ?_
          have HF : Hid (WkI w p b n v g i y2) := hide ⟨unhide HX1, unhide HV1, fun q hq => hH q (by simp at hq; subst hq; simp), hb, (unhide HI).P⟩
          clear hH hb HX1 HV1
          have d8 := unhide D1
          go_wp2
          go_roundw
          case rel => exact ⟨i, by have := unhide HZ; have := unhide HIK; omega, by have := (unhide HZ).1; simp [this], unhide HF⟩
          case measure => have h1 := unhide HZ; have := unhide HIK; rw [h1.1]; simp [intOf]; omega
end Go.Proofs.YtmaammjfbheciabDoor
