import Derived.Test.YtfedajifefldmaaGreatSdSgnW
import Derived.Test.YtfedajifefldmaaGreatSdSamX
import Derived.Test.YtfedajifefldmaaGreatSdMrkW
set_option linter.unusedSimpArgs false
set_option linter.unusedVariables false
namespace Go.Proofs.YtfedajifefldmaaGreat
open Go.RowKit
theorem own_sub {w : World} {base e sz g n c off : Nat} {xs1 l xs2 : List Value} (h : w.ownsRow base e sz (.slice (some ⟨g, 0, none⟩) n c) n (xs1 ++ (l ++ xs2))) (ho : xs1.length = off) : w.rangeAt g off l := by
  rcases h.2 with ⟨h1, -⟩ | ⟨g', cap, cur, h1, -, h3, -, -, -, h6⟩
  · simp at h1
  · simp at h1
    obtain ⟨rfl, -⟩ := h1
    intro i v hi
    have hil := (List.getElem?_eq_some_iff.1 hi).1
    have h7 : (cur.toList.take (n * sz))[off + i]? = some v := by
      rw [h6, List.getElem?_append_right (by omega), ho, Nat.add_sub_cancel_left, List.getElem?_append_left hil]
      exact hi
    rw [List.getElem?_take] at h7
    split at h7
    · rw [Array.getElem?_toList] at h7
      simp [World.cell?, h3, h7]
    · cases h7
theorem tell_le (d : Int) (f : FdS) (x : Nat → Int) (n : Nat) (h : (f.enc x).length ≤ n) : (tellL d f x).length ≤ n + 4 := by
  unfold tellL
  split
  · have := hdL_le d; rw [List.length_append]; omega
  · simp
theorem EY_le (y : Nat → Int) : ∀ p ∈ EY y, p.1.length ≤ 200000 := by
  have hC : (SC y).1.length ≤ 200000 := Nat.le_trans (tell_le _ _ _ _ (encCert_le _)) (by decide)
  have hF : (frzL (sft 1 y)).length ≤ 200000 := Nat.le_trans (tell_le _ _ _ _ (encFreeze_le _)) (by decide)
  have hR : (rvkL (sft 1 y)).length ≤ 200000 := Nat.le_trans (tell_le _ _ _ _ (encRevocation_le _)) (by decide)
  have hS : (saidL y).length ≤ 200000 := by
    unfold saidL
    repeat' split
    · exact Nat.le_trans (tell_le _ _ _ _ (encCert_le _)) (by decide)
    · exact Nat.le_trans (tell_le _ _ _ _ (encFreeze_le _)) (by decide)
    · exact Nat.le_trans (tell_le _ _ _ _ (encAck_le _)) (by decide)
    · exact Nat.le_trans (tell_le _ _ _ _ (encRevocation_le _)) (by decide)
    · exact Nat.le_trans (tell_le _ _ _ _ (encFloor_le _)) (by decide)
    · exact Nat.le_trans (tell_le _ _ _ _ (encReceipt_le _)) (by decide)
    · exact Nat.le_trans (tell_le _ _ _ _ (encHead_le _)) (by decide)
    · simp
  intro p hp
  unfold EY at hp
  split at hp
  · simp at hp; subst hp; exact hC
  · split at hp
    · simp only [List.mem_cons, List.mem_append] at hp
      rcases hp with rfl | hp | hp
      · exact hC
      · split at hp
        · simp at hp; subst hp; exact hF
        · simp at hp
      · split at hp
        · simp at hp; subst hp; exact hR
        · simp at hp
    · split at hp
      · simp at hp
        rcases hp with rfl | rfl
        · exact hC
        · exact hF
      · split at hp
        · simp at hp
          rcases hp with rfl | rfl
          · exact hC
          · exact hR
        · split at hp
          · simp at hp
          · simp at hp; subst hp; exact hS
theorem Sads.at {w : World} {base n : Nat} {a1 a2 : Option Addr} {c1 c2 : Nat} {vs : List Value} {E : List (List Int × List Int)} (h : Sads w base (.slice a1 n c1) (.slice a2 n c2) vs E) (hn : E.length = n) {j : Nat} {p : List Int × List Int} (hj : E[j]? = some p) :
    ∃ g1 g2 v, a1 = some ⟨g1, 0, none⟩ ∧ a2 = some ⟨g2, 0, none⟩ ∧ w.cell? ⟨g1, j, none⟩ = some v ∧ OwnB w base v p.1 ∧ w.rangeAt g2 (j * 64) (U8 p.2) ∧ p.2.length = 64 := by
  have hjn : j < E.length := (List.getElem?_eq_some_iff.1 hj).1
  have hpe : E[j] = p := (List.getElem?_eq_some_iff.1 hj).2
  obtain ⟨v, hv, hO, h64, -⟩ := h.each j p hj
  have hvl : vs.length = E.length := by have := h.l1.1; omega
  obtain ⟨g1, rfl⟩ : ∃ g, a1 = some ⟨g, 0, none⟩ := by
    rcases h.l1.2 with ⟨h1, h2⟩ | ⟨g, cap, cur, h1, -⟩
    · omega
    · simp at h1; exact ⟨g, h1.1⟩
  obtain ⟨g2, rfl⟩ : ∃ g, a2 = some ⟨g, 0, none⟩ := by
    rcases h.l2.2 with ⟨h1, h2⟩ | ⟨g, cap, cur, h1, -⟩
    · omega
    · simp at h1; exact ⟨g, h1.1⟩
  have hl1 := h.l1
  have hl2 := h.l2
  rw [hn] at hl1 hl2
  refine ⟨g1, g2, v, rfl, rfl, ?_, hO, ?_, h64⟩
  · have hs : vs = vs.take j ++ ([v] ++ vs.drop (j + 1)) := by
      have hvj : vs[j]'(by omega) = v := (List.getElem?_eq_some_iff.1 hv).2
      conv => lhs; rw [← List.take_append_drop j vs, List.drop_eq_getElem_cons (by omega), hvj]
      rfl
    rw [hs] at hl1
    have := own_sub hl1 (off := j) (by rw [List.length_take]; omega) 0 v rfl
    simpa using this
  · have hs : (E.flatMap fun p => U8 p.2) = ((E.take j).flatMap fun p => U8 p.2) ++ (U8 p.2 ++ ((E.drop (j + 1)).flatMap fun p => U8 p.2)) := by
      conv => lhs; rw [← List.take_append_drop j E, List.flatMap_append, List.drop_eq_getElem_cons hjn, List.flatMap_cons, hpe]
    rw [hs] at hl2
    refine own_sub hl2 ?_
    rw [flat_E, flat_sig, List.length_map, List.length_take, Nat.min_eq_left (by omega)]
    intro g hg
    rw [List.mem_map] at hg
    obtain ⟨q, hq, rfl⟩ := hg
    obtain ⟨i, hi⟩ := List.getElem?_of_mem (List.mem_of_mem_take hq)
    obtain ⟨-, -, -, h, -⟩ := h.each i q hi
    exact h
set_option maxHeartbeats 8000000 in
set_option maxRecDepth 100000 in
theorem sdl_law (x : Nat → Int) (bx : Value) (w : World) (hx : ∀ i, i < 329 → (sTerm i).ok (x i)) (hbx : bx.oneCell' = true) :
    Calls Tryz.prog 5 #[.agg (tmC x bx).toArray] w fun e w' => e = .returned (.bool true) ∧ Below w.heap.size w w' := by
  have A0 := Arr.new w 41 (tmC x bx)
  have b0 : Below w.heap.size w (w.alloc (.cells (tmC x bx).toArray 41)) := below_one w _
  go_enter Tryz.func5, Tryz.ntmps5
  go_upto_region 1 with fail
  generalize w.alloc (.cells (tmC x bx).toArray 41) = W0 at *
  refine wp_region_lit ?_
  refine wpList_load_mid rfl 41 (.tmp 1) rfl w.heap.size 0 rfl (tmC x bx) _ (tm_all A0) Tryz.underlying41 rfl (by rw [tmC_length]; exact Tryz.szTerm) ?_
  simp only [Act.put]
  refine wpList_plain rfl fun K1 hK1 => ?_
  go_simp
  refine (proper_any x bx _ hx hbx).mono ?_
  rintro e w1 ⟨⟨y, rfl, hP, -, -⟩, hB1⟩
  refine hK1 _ _ ?_
  clear hK1 K1
  have A1 : Arr w1 w.heap.size 41 (tmC x bx) := A0.later hB1
  refine wpList_store_row rfl 41 (.tmp 1) (.tmp 12) rfl w.heap.size (tmC y bx).toArray rfl rfl 41 (tmC x bx).toArray A1 (by rw [List.size_toArray, tmC_length]; exact Tryz.szTerm) (by rw [List.size_toArray, List.size_toArray, tmC_length, tmC_length]) (all_oneCell_toArray (tmC_oc y bx hbx)) ?_
  refine wpList_nil ?_
  simp only [Act.put]
  have A2 : Arr (w1.setRow w.heap.size (tmC y bx).toArray) w.heap.size 41 (tmC y bx) := A1.setRow (tmC y bx)
  have b2 : Below w.heap.size w (w1.setRow w.heap.size (tmC y bx).toArray) := below_setRow (b0.trans (hB1.mono b0.size)) (Nat.le_refl _) _
  clear A0 A1 hB1 b0
  generalize w1.setRow w.heap.size (tmC y bx).toArray = W1 at *
  generalize (tmC x bx).toArray = X0
  generalize hX1 : (tmC y bx).toArray = X1
  clear hX1
  go_upto_region 2 with fail
  refine wp_region_lit ?_
  refine wpList_load_mid rfl 41 (.tmp 1) rfl w.heap.size 0 rfl (tmC y bx) _ (tm_all A2) Tryz.underlying41 rfl (by rw [tmC_length]; exact Tryz.szTerm) ?_
  simp only [Act.put]
  refine wpList_plain rfl fun K1 hK1 => ?_
  go_simp
  refine (encoded_any y bx W1 hP.ok hP.kind).mono ?_
  rintro e w3 ⟨av, cv, rfl, hown3, hLB3, hB3⟩
  obtain ⟨l5, l282, lne⟩ := encL_len hP
  rw [if_neg lne]
  refine hK1 _ _ ?_
  clear hK1 K1
  obtain ⟨s, hsv, hsok, hsl, hsn, -⟩ := own_sl hown3 hLB3
  have A3 := A2.later hB3
  have b3 := b2.trans (hB3.mono b2.size)
  have hSa := said_all s w3 hsok (y 0) (EY y) (EY_len y) (by rw [hsl]; exact encL_dom hP) (fun W h => parts_any y hP s W (hsok.later h) hsl)
  have hSg := fun W => signedIn_any y bx W hP
  rw [← hsv] at hSa
  have HE5 := hide (EY_5 hP)
  have HEL := hide (EY_le y)
  have hn10 := EY_len y
  have HZT : Hid ((Tryz.prog.info? 41).map (·.size) = some (tmC y bx).length) := hide (by rw [tmC_length]; exact Tryz.szTerm)
  clear hsok hsl hsn hsv hown3 hLB3 hP hB3 b2 lne A2 l5 l282 hx hbx s
  generalize EY y = E at *
  generalize hTT : tmC y bx = TC at *
  clear hTT
  generalize (encL y).length = n0 at *
  refine wpList_plain rfl fun K1 h => ?_; go_simp; refine h _ _ ?_; clear h K1
  go_wp2_with fail
  refine hSa.mono ?_
  rintro e w4 ⟨v1, v2, vs, rfl, hS4, hB4⟩
  obtain ⟨a1, c1, rfl⟩ := own_parts hS4.l1
  obtain ⟨a2, c2, rfl⟩ := own_parts hS4.l2
  have A4 := A3.later hB4
  have b4 := b3.trans (hB4.mono b3.size)
  have hbs : w.heap.size ≤ w3.heap.size := b3.size
  have HS4 := hide (hS4.mono hbs)
  clear hSa hS4 A3 b3 hB4
  generalize hn : E.length = n at *
  go_upto_region 4 with fail
  refine wp_region_lit ?_
  refine wpList_load_mid rfl 41 (.tmp 1) rfl w.heap.size 0 rfl TC _ (tm_all A4) Tryz.underlying41 rfl (unhide HZT) ?_
  simp only [Act.put]
  refine wpList_plain rfl fun K1 hK1 => ?_
  go_simp
  refine (hSg w4).mono ?_
  rintro e w5 ⟨u1, u2, us, rfl, hS5, hB5⟩
  obtain ⟨d1, f1, rfl⟩ := own_parts hS5.l1
  obtain ⟨d2, f2, rfl⟩ := own_parts hS5.l2
  rw [hn]
  have HS5 := hide (hS5.mono b4.size)
  have HS4 := hide ((unhide HS4).later hB5)
  have HB5 := hide (b4.trans (hB5.mono b4.size))
  rw [hn] at HS5
  clear hSg hS5 hB5 b4 A4 hbs HZT
  refine hK1 _ _ ?_
  clear hK1 K1
  go_wp2
  go_loopw [10] (fun s10 wr => ∃ (j k : Nat), s10 = .int .i64 j ∧ j ≤ n ∧ wr = w5.drewN k) (fun jj _ => n - (intOf jj).toNat)
  case atStart => exact ⟨0, 0, rfl, by omega, rfl⟩
  case round =>
    obtain ⟨j, k, rfl, hj, rfl⟩ := hrel
    by_cases hjn : j < n
    · obtain ⟨p, hp⟩ : ∃ p, E[j]? = some p := ⟨E[j]'(by omega), List.getElem?_eq_getElem (by omega)⟩
      obtain ⟨g1, g2, v, e1, e2, cv1, ov1, rv1, h64⟩ := (unhide HS4).at hn hp
      obtain ⟨k1, k2, u, e3, e4, cu1, ou1, ru1, -⟩ := (unhide HS5).at hn hp
      subst e1 e2 e3 e4
      have hpm := List.mem_of_getElem? hp
      have hp5 := unhide HE5 p hpm
      have hpl := unhide HEL p hpm
      obtain ⟨sv, hsv, oksv, lsv, nsv, -⟩ := own_sl ov1.1 ov1.2
      obtain ⟨su, hsu, oksu, lsu, nsu, -⟩ := own_sl ou1.1 ou1.2
      have hbd : ∀ W : World, W.heap = w5.heap → sv.Ok W ∧ su.Ok W := fun W h => by
        have hW : Below w5.heap.size w5 { w5 with heap := w5.heap } := Below.refl _ _
        exact ⟨⟨oksv.len, oksv.le, oksv.mx, oksv.nn, oksv.isB, fun h0 => by
          obtain ⟨b, off, q1, q2, q3⟩ := oksv.lies h0
          exact ⟨b, off, q1, by rw [h]; exact q2, fun i hi => by rw [← q3 i hi]; exact World.cell?_of_block (by rw [h])⟩⟩, ⟨oksu.len, oksu.le, oksu.mx, oksu.nn, oksu.isB, fun h0 => by
          obtain ⟨b, off, q1, q2, q3⟩ := oksu.lies h0
          exact ⟨b, off, q1, by rw [h]; exact q2, fun i hi => by rw [← q3 i hi]; exact World.cell?_of_block (by rw [h])⟩⟩⟩
      have hC := same_any sv su (w5.drewN k).drew (hbd (w5.drewN k).drew rfl).1 (hbd (w5.drewN k).drew rfl).2 (by rw [nsv]; omega)
      rw [lsv, lsu, decide_eq_true rfl, ← hsv, ← hsu] at hC
      obtain ⟨va, vc, rfl⟩ := own_parts ov1.1
      obtain ⟨ua, uc, rfl⟩ := own_parts ou1.1
      have hq : ∀ W : World, (Op.equalIn 10000 32 (.agg (U8 p.2).toArray) (.agg (U8 p.2).toArray)).run Tryz.prog W = .ok true W := fun W => by
        have e : U8 p.2 = cl sB 64 (fun i => p.2.getD i 0) := by
          have := cl_u8 (fun i => p.2.getD i 0) 0 64
          rw [sft_zero] at this
          rw [this]
          congr 1
          unfold run
          apply List.ext_getElem?
          intro i
          by_cases hi : i < 64
          · simp [hi, List.getElem?_eq_getElem (show i < p.2.length by omega)]
          · simp [hi]; omega
        rw [e, eqSig_any]
        congr 1
        unfold ag; simp
      have hZG : (Tryz.prog.info? 32).map (·.size) = some (U8 p.2).length := by rw [U8_length, h64]; exact Tryz.szPSig
      have h5 : decide ((p.1.length : Int) < 5) = false := decide_eq_false (by omega)
      clear HS4 HS5 HE5 HEL oksv oksu lsv lsu nsv nsu hsv hsu hbd ov1 ou1 hp hpm hpl sv su h64
      generalize U8 p.2 = G at *
      generalize p.1.length = m at *
      go_upto_region 10 with fail
      refine wp_region_noPanic ?_
      refine wp_region_held_drew (S := fun w' => w'.cell? ⟨g1, j, none⟩ = some (.slice va m vc) ∧ w'.cell? ⟨k1, j, none⟩ = some (.slice ua m uc) ∧ w'.rangeAt g2 (j * 64) G ∧ w'.rangeAt k2 (j * 64) G) (by kernel_rfl) ⟨cv1, cu1, rv1, ru1⟩ (fun hHeld => ?_)
      refine wpAnyH_take (i := 0) (v := (.slice (some ⟨g1, 0, none⟩) n c1)) rfl (by kernel_rfl) (by kernel_rfl) (by kernel_rfl) (fun _ _ _ h => h) (Or.inl ⟨by rfl, fun w hSw => by go_simp⟩) hHeld ?_
      simp [Act.put]
      refine wpAnyH_take (i := 1) (v := (.int .i64 j)) rfl (by kernel_rfl) (by kernel_rfl) (by kernel_rfl) (fun _ _ _ h => h) (Or.inl ⟨by rfl, fun w hSw => by go_simp⟩) hHeld ?_
      simp [Act.put]
      refine wpAnyH_take (i := 2) (v := (.pointer (some ⟨g1, j, none⟩))) rfl (by kernel_rfl) (by kernel_rfl) (by kernel_rfl) (fun _ _ _ h => h) (Or.inl ⟨by rfl, fun w hSw => by go_simp⟩) hHeld ?_
      simp [Act.put]
      refine wpAnyH_take (i := 3) (v := (.slice va m vc)) rfl (by kernel_rfl) (by kernel_rfl) (by kernel_rfl) (fun _ _ _ h => h) (Or.inl ⟨by rfl, fun w hSw => by obtain ⟨q1, q2, q3, q4⟩ := hSw; go_simp⟩) hHeld ?_
      simp [Act.put]
      refine wpAnyH_take (i := 4) (v := (.slice (some ⟨k1, 0, none⟩) n f1)) rfl (by kernel_rfl) (by kernel_rfl) (by kernel_rfl) (fun _ _ _ h => h) (Or.inl ⟨by rfl, fun w hSw => by go_simp⟩) hHeld ?_
      simp [Act.put]
      refine wpAnyH_take (i := 5) (v := (.int .i64 j)) rfl (by kernel_rfl) (by kernel_rfl) (by kernel_rfl) (fun _ _ _ h => h) (Or.inl ⟨by rfl, fun w hSw => by go_simp⟩) hHeld ?_
      simp [Act.put]
      refine wpAnyH_take (i := 6) (v := (.pointer (some ⟨k1, j, none⟩))) rfl (by kernel_rfl) (by kernel_rfl) (by kernel_rfl) (fun _ _ _ h => h) (Or.inl ⟨by rfl, fun w hSw => by go_simp⟩) hHeld ?_
      simp [Act.put]
      refine wpAnyH_take (i := 7) (v := (.slice ua m uc)) rfl (by kernel_rfl) (by kernel_rfl) (by kernel_rfl) (fun _ _ _ h => h) (Or.inl ⟨by rfl, fun w hSw => by obtain ⟨q1, q2, q3, q4⟩ := hSw; go_simp⟩) hHeld ?_
      simp [Act.put]
      refine wpAnyH_ready (rs := [8]) (by kernel_rfl) (by simp) ?_
      refine AllReadyH.cons rfl (fun K hK => ?_) AllReadyH.nil
      go_simp
      refine hC.mono ?_
      rintro e w6 ⟨rfl, k6, rfl⟩
      refine hK.out _ _ hHeld (fun hHeld => ?_)
      clear hK K hC
      refine wpAnyH_take (i := 9) (v := (.bool false)) rfl (by kernel_rfl) (by kernel_rfl) (by kernel_rfl) (fun _ _ _ h => h) (Or.inl ⟨by rfl, fun w hSw => by go_simp⟩) hHeld ?_
      simp [Act.put]
      refine wpAnyH_take (i := 10) (v := (.bool false)) rfl (by kernel_rfl) (by kernel_rfl) (by kernel_rfl) (fun _ _ _ h => h) (Or.inl ⟨by rfl, fun w hSw => by go_simp⟩) hHeld ?_
      simp [Act.put]
      refine wpAnyH_take (i := 11) (v := (.slice (some ⟨g2, 0, none⟩) n c2)) rfl (by kernel_rfl) (by kernel_rfl) (by kernel_rfl) (fun _ _ _ h => h) (Or.inl ⟨by rfl, fun w hSw => by go_simp⟩) hHeld ?_
      simp [Act.put]
      refine wpAnyH_take (i := 12) (v := (.int .i64 j)) rfl (by kernel_rfl) (by kernel_rfl) (by kernel_rfl) (fun _ _ _ h => h) (Or.inl ⟨by rfl, fun w hSw => by go_simp⟩) hHeld ?_
      simp [Act.put]
      refine wpAnyH_take (i := 13) (v := (.pointer (some ⟨g2, j * 64, none⟩))) rfl (by kernel_rfl) (by kernel_rfl) (by kernel_rfl) (fun _ _ _ h => h) (Or.inl ⟨by rfl, fun w hSw => by go_simp⟩) hHeld ?_
      simp [Act.put]
      refine wpAnyH_take (i := 14) (v := (.agg G.toArray)) rfl (by kernel_rfl) (by kernel_rfl) (by kernel_rfl) (fun _ _ _ h => h) (yieldsIf_load_mid (by rfl) _ _ rfl _ _ rfl _ _ (fun _ h => h.2.2.1) Tryz.underlying32 rfl hZG) hHeld ?_
      simp [Act.put]
      refine wpAnyH_take (i := 15) (v := (.slice (some ⟨k2, 0, none⟩) n f2)) rfl (by kernel_rfl) (by kernel_rfl) (by kernel_rfl) (fun _ _ _ h => h) (Or.inl ⟨by rfl, fun w hSw => by go_simp⟩) hHeld ?_
      simp [Act.put]
      refine wpAnyH_take (i := 16) (v := (.int .i64 j)) rfl (by kernel_rfl) (by kernel_rfl) (by kernel_rfl) (fun _ _ _ h => h) (Or.inl ⟨by rfl, fun w hSw => by go_simp⟩) hHeld ?_
      simp [Act.put]
      refine wpAnyH_take (i := 17) (v := (.pointer (some ⟨k2, j * 64, none⟩))) rfl (by kernel_rfl) (by kernel_rfl) (by kernel_rfl) (fun _ _ _ h => h) (Or.inl ⟨by rfl, fun w hSw => by go_simp⟩) hHeld ?_
      simp [Act.put]
      refine wpAnyH_take (i := 18) (v := (.agg G.toArray)) rfl (by kernel_rfl) (by kernel_rfl) (by kernel_rfl) (fun _ _ _ h => h) (yieldsIf_load_mid (by rfl) _ _ rfl _ _ rfl _ _ (fun _ h => h.2.2.2) Tryz.underlying32 rfl hZG) hHeld ?_
      simp [Act.put]
      refine wpAnyH_take (i := 19) (v := (.bool false)) rfl (by kernel_rfl) (by kernel_rfl) (by kernel_rfl) (fun _ _ _ h => h) (Or.inl ⟨by rfl, fun w hSw => by go_simp⟩) hHeld ?_
      simp [Act.put]
      refine wpAnyH_take (i := 20) (v := (.bool false)) rfl (by kernel_rfl) (by kernel_rfl) (by kernel_rfl) (fun _ _ _ h => h) (Or.inl ⟨by rfl, fun w hSw => by go_simp⟩) hHeld ?_
      simp [Act.put]
      refine wpAnyH_take (i := 21) (v := (.bool false)) rfl (by kernel_rfl) (by kernel_rfl) (by kernel_rfl) (fun _ _ _ h => h) (Or.inl ⟨by rfl, fun w hSw => by go_simp⟩) hHeld ?_
      simp [Act.put]
      refine wpAnyH_take (i := 22) (v := (.slice (some ⟨g1, 0, none⟩) n c1)) rfl (by kernel_rfl) (by kernel_rfl) (by kernel_rfl) (fun _ _ _ h => h) (Or.inl ⟨by rfl, fun w hSw => by go_simp⟩) hHeld ?_
      simp [Act.put]
      refine wpAnyH_take (i := 23) (v := (.int .i64 j)) rfl (by kernel_rfl) (by kernel_rfl) (by kernel_rfl) (fun _ _ _ h => h) (Or.inl ⟨by rfl, fun w hSw => by go_simp⟩) hHeld ?_
      simp [Act.put]
      refine wpAnyH_take (i := 24) (v := (.pointer (some ⟨g1, j, none⟩))) rfl (by kernel_rfl) (by kernel_rfl) (by kernel_rfl) (fun _ _ _ h => h) (Or.inl ⟨by rfl, fun w hSw => by go_simp⟩) hHeld ?_
      simp [Act.put]
      refine wpAnyH_take (i := 25) (v := (.slice va m vc)) rfl (by kernel_rfl) (by kernel_rfl) (by kernel_rfl) (fun _ _ _ h => h) (Or.inl ⟨by rfl, fun w hSw => by obtain ⟨q1, q2, q3, q4⟩ := hSw; go_simp⟩) hHeld ?_
      simp [Act.put]
      refine wpAnyH_take (i := 26) (v := (.int .i64 m)) rfl (by kernel_rfl) (by kernel_rfl) (by kernel_rfl) (fun _ _ _ h => h) (Or.inl ⟨by rfl, fun w hSw => by go_simp⟩) hHeld ?_
      simp [Act.put]
      refine wpAnyH_take (i := 27) (v := (.bool false)) rfl (by kernel_rfl) (by kernel_rfl) (by kernel_rfl) (fun _ _ _ h => h) (Or.inl ⟨by rfl, fun w hSw => by go_simp⟩) hHeld ?_
      simp [Act.put]
      refine wpAnyH_take (i := 28) (v := (.bool false)) rfl (by kernel_rfl) (by kernel_rfl) (by kernel_rfl) (fun _ _ _ h => h) (Or.inl ⟨by rfl, fun w hSw => by go_simp⟩) hHeld ?_
      simp [Act.put]
      refine wpAnyH_done (by kernel_rfl) ?_ _
      unfold NoPanic
      clear hHeld
      go_wp2
      go_roundw
      case rel => exact ⟨j + 1, k + 1 + k6, by go_num, by omega, rfl⟩
      case measure => simp [intOf]; omega
    · obtain rfl : j = n := by omega
      go_wp2
      go_ret
      exact ⟨rfl, bel_drewN (unhide HB5) k⟩
end Go.Proofs.YtfedajifefldmaaGreat
