import Derived.Test.YtiloacnjgaoceaaHeadsW
import Derived.Deep.RegionWith
namespace Go.Proofs.Ytiloacnjgaoceaa
open Go.RowKit

theorem undrew_below {B : Nat} {w w' : World} (h : Below B w.drew w') : Below B w w' := ⟨h.os, h.tape, h.output, h.size, h.block⟩
theorem Sl.Ok.drewN {w : World} {s : Sl} (h : s.Ok w) (k : Nat) : s.Ok (w.drewN k) := ⟨h.len, h.le, h.mx, h.nn, h.isB, h.lies⟩
theorem rdH_is (d : Int) (r : List Int) (h : 1 ≤ d ∧ d ≤ 255) : rdH (hdL d ++ r) = (d, 4, 0) := by
  unfold rdH hdL
  rw [if_pos h, if_pos ⟨rfl, by show 0 < d; omega⟩]
  rfl
theorem hdL_len (d : Int) : (hdL d).length ≤ 4 := by unfold hdL; split <;> simp
theorem hdL_isB (d : Int) : IsB (hdL d) := by
  unfold hdL; split
  · intro x hx; simp at hx; omega
  · intro x hx; simp at hx
theorem hdL_inj {d e : Int} (h : 1 ≤ d ∧ d ≤ 255) (he : hdL d = hdL e) : d = e := by
  unfold hdL at he
  rw [if_pos h] at he
  split at he
  · simpa using he
  · simp at he
/-- what is read is a head, or there is none -/
theorem rdH_form (l : List Int) (hB : IsB l) : rdH l = (0, 0, 90) ∨ (∃ f, 1 ≤ f ∧ f ≤ 255 ∧ rdH l = (f, 4, 0) ∧ 4 ≤ l.length ∧ hdL f = l.take 4) := by
  unfold rdH
  split
  · rename_i h
    right
    have h3 := hB.at 3
    have hl : 4 ≤ l.length := by
      by_cases h4 : 4 ≤ l.length
      · exact h4
      · have h2 := h.2
        rw [List.getD_eq_getElem?_getD, List.getElem?_eq_none (by omega)] at h2
        simp at h2
    refine ⟨l.getD 3 0, by omega, by omega, rfl, hl, ?_⟩
    rw [take_succ_getD l 3 (by omega), h.1]
    unfold hdL; rw [if_pos (by omega)]; rfl
  · left; rfl

set_option maxHeartbeats 4000000 in
set_option maxRecDepth 100000 in
theorem domains_law (d o : Int) (b : Sl) (w : World) (_hd : d ≤ 9223372036854775807) (hb : b.Ok w) :
    Calls Try.prog 3 #[.int .i64 d, .int .i64 o, b.v] w fun e w' => e = .returned (.bool true) ∧ Below w.heap.size w w' := by
  have hmx := hb.mx
  have hle := hb.le
  unfold maxLen at hmx
  have hbv : b.v = .slice b.a b.n b.c := rfl
  by_cases hn : 100000 < b.n
  · rw [hbv]
    go_enter Try.func3, Try.ntmps3
    go_wp2
    go_ret
    exact ⟨rfl, Below.refl _ _⟩
  · obtain ⟨i0, hi, hz0, hz1, hz2⟩ := info_parts Try.infoB
    rw [hbv]
    go_enter Try.func3, Try.ntmps3
    go_wp2_with fail
    refine (head_any d _).mono ?_
    rintro e w1 ⟨s1, rfl, ok1, l1, b1, -⟩
    go_wp2_with fail
    refine (head_any o _).mono ?_
    rintro e w2 ⟨s2, rfl, ok2, l2, b2, -⟩
    go_wp2_with fail
    refine (head_any 3 _).mono ?_
    rintro e w3 ⟨s3, rfl, ok3, l3, b3, -⟩
    have hB3 : Below w.heap.size w w3 := b1.trans ((b2.mono b1.size).trans (b3.mono (Nat.le_trans b1.size b2.size)))
    have ok1 := (ok1.later b2).later b3
    have ok2 := ok2.later b3
    have okb := hb.later hB3
    clear b1 b2 b3
    have hA4 : Arr (w3.alloc (.cells #[.int .u8 70, .int .u8 66, .int .u8 1, .int .u8 3] 5)) w3.heap.size 5 (U8 [70, 66, 1, 3]) := Arr.new w3 _ (U8 [70, 66, 1, 3])
    have b4 := below_one w3 (.cells #[.int .u8 70, .int .u8 66, .int .u8 1, .int .u8 3] 5)
    have hs4 := same_any s3 _ _ (ok3.later b4) (hA4.sl (by unfold IsB; decide) (by simp)) (by have h := ok3.len; have h2 := hdL_len 3; rw [l3] at h; omega)
    have e3 : decide (s3.l = [70, 66, 1, 3]) = true := by rw [l3]; decide
    simp only [Sl.v] at hs4
    rw [e3] at hs4
    have ok1 := ok1.later b4
    have ok2 := ok2.later b4
    have okb := okb.later b4
    have hB4 := hB3.trans (b4.mono hB3.size)
    clear ok3 l3 b4 hA4 hB3
    go_wp2_with fail
    refine hs4.mono ?_
    rintro e w5 ⟨rfl, k5, rfl⟩
    clear hs4
    have ok1 := ok1.drewN k5
    have ok2 := ok2.drewN k5
    have okb := okb.drewN k5
    have hB5 := below_drewN hB4 k5
    clear hB4
    generalize ((w3.alloc (.cells #[.int .u8 70, .int .u8 66, .int .u8 1, .int .u8 3] 5)).drewN k5) = W at *
    have b6 := below_one W (.cells #[] 5)
    have hown0 := own_empty W W.heap.size (Nat.le_refl _)
    have ok1' := ok1.later b6
    have hs1v : s1.v = .slice s1.a s1.n s1.c := rfl
    have hs2v : s2.v = .slice s2.a s2.n s2.c := rfl
    have hn1 : s1.n ≤ 4 := by have h := ok1.len; have h2 := hdL_len d; rw [l1] at h; omega
    rw [hs1v, hs2v]
    go_wp2_with (first
      | (at_builtin; refine wpList_append_sl rfl _ _ 22 rfl W.heap.size 5 i0 (.int .u8 0) Try.underlying22 hi hz0 hz1 hz2 rfl (.slice (some ⟨W.heap.size, 0, none⟩) 0 0) 0 [] rfl hown0 s1 ok1' rfl (by omega) b6.size ?_; intro v7 w7 hown7 hgrow7
         have hown7' := unhide hown7
         rw [Nat.zero_add, List.nil_append] at hown7'
         obtain ⟨a7, c7, rfl⟩ := own_parts hown7'
         have hB7 : Below W.heap.size W w7 := below_grown b6 (Nat.le_refl _) hown0 (unhide hgrow7)
         have okb7 := okb.later hB7)
      | (at_builtin; refine wpList_append_sl rfl _ _ 22 rfl W.heap.size 5 i0 (.int .u8 0) Try.underlying22 hi hz0 hz1 hz2 rfl (.slice a7 s1.n c7) s1.n (U8 s1.l) rfl hown7' b okb7 rfl (by omega) hB7.size ?_; intro v8 w8 hown8 hgrow8))
    have hB8 : Below W.heap.size W w8 := below_grown hB7 (Nat.le_refl _) hown7' (unhide hgrow8)
    have hown8 := unhide hown8
    rw [← U8_append, l1] at hown8
    obtain ⟨s8, rfl, ok8, l8, -, -⟩ := own_sl hown8 ((hdL_isB d).append hb.isB)
    have H8 := readHead_any s8 w8 ok8
    rw [l8] at H8
    have okb8 := okb.later hB8
    have k1 := ok1.later hB8
    have k2 := ok2.later hB8
    have hB8 := hB5.trans (hB8.mono hB5.size)
    clear hown7 hown7' hgrow7 hown8 hgrow8 hown0 ok1 ok2 okb ok1' okb7 hB7 hB5 b6
    by_cases hdd : 1 ≤ d ∧ d ≤ 255
    · rw [rdH_is d _ hdd] at H8
      simp only at H8
      have hl1 : s1.n = 4 := by have h := k1.len; rw [l1] at h; unfold hdL at h; rw [if_pos hdd] at h; simpa using h.symm
      obtain ⟨hd1, hd2⟩ := hdd
      go_wp2_with fail
      refine H8.mono ?_
      rintro e w9 ⟨rfl, rfl⟩
      clear H8
      have hl4 := hdL_len o
      rcases rdH_form b.l hb.isB with hq | ⟨f, hf1, hf2, hq, hb4, htk⟩
      · have H9 := readHead_any b w9 okb8
        rw [hq, hbv] at H9
        simp only at H9
        by_cases hdo : d = o
        · subst hdo
          go_wp2_with fail
          refine H9.mono ?_
          rintro e wa ⟨rfl, rfl⟩
          clear H9
          go_wp2_with fail
          go_region
          go_wp2_with fail
          go_ret
          exact ⟨rfl, below_drewN hB8 _⟩
        · have hS := same_any s1 s2 w9 k1 k2 (by omega)
          have hne : decide (s1.l = s2.l) = false := decide_eq_false (fun e => hdo (hdL_inj ⟨hd1, hd2⟩ (by rw [← l1, ← l2, e])))
          rw [hne, hs1v, hs2v, hl1] at hS
          have hdb : (d != o) = true := by simp [hdo]
          go_wp2_with fail
          refine hS.mono ?_
          rintro e wa ⟨rfl, ka, rfl⟩
          clear hS
          have H9 := readHead_any b (w9.drewN ka) (okb8.drewN ka)
          rw [hq, hbv] at H9
          simp only at H9
          go_wp2_with fail
          refine H9.mono ?_
          rintro e wa ⟨rfl, rfl⟩
          clear H9
          go_wp2_with fail
          go_region
          go_wp2_with fail
          go_ret
          exact ⟨rfl, below_drewN (below_drewN hB8 _) _⟩
      · have hpre4 : ∀ W : World, b.Ok W → Sl.Ok W ⟨b.a, 4, b.c, b.l.take 4⟩ := fun W h => ⟨by have := h.len; simp; omega, by have := h.len; have := h.le; simp only; omega, h.mx, fun hh => by have := h.nn hh; have := h.len; omega, h.isB.take 4, lies_take h.lies 4⟩
        have hbn : 4 ≤ b.n := by rw [← hb.len]; exact hb4
        by_cases hdo : d = o
        · subst hdo
          have H9 := readHead_any b w9 okb8
          rw [hq, hbv] at H9
          simp only at H9
          go_wp2_with fail
          refine H9.mono ?_
          rintro e wa ⟨rfl, rfl⟩
          clear H9
          go_wp2_with fail
          refine wp_region_noPanic ?_
          refine wp_region_held_drew (S := fun _ => True) (by kernel_rfl) trivial (fun hHeld => ?_)
          refine wpAnyH_take (i := 0) (oi := _) (v := (.int .i64 0)) rfl (by kernel_rfl) (by kernel_rfl) (by kernel_rfl) (fun _ _ _ h => h) (Or.inl ⟨by rfl, fun w hSw => by go_simp⟩) hHeld ?_
          simp [Act.put]
          refine wpAnyH_take (i := 1) (oi := _) (v := (.bool false)) rfl (by kernel_rfl) (by kernel_rfl) (by kernel_rfl) (fun _ _ _ h => h) (Or.inl ⟨by rfl, fun w hSw => by go_simp⟩) hHeld ?_
          simp [Act.put]
          refine wpAnyH_take (i := 2) (oi := _) (v := (.bool false)) rfl (by kernel_rfl) (by kernel_rfl) (by kernel_rfl) (fun _ _ _ h => h) (Or.inl ⟨by rfl, fun w hSw => by go_simp⟩) hHeld ?_
          simp [Act.put]
          refine wpAnyH_take (i := 3) (oi := _) (v := undef) rfl (by kernel_rfl) (by kernel_rfl) (by kernel_rfl) (fun _ _ _ h => h) (Or.inr ⟨by rfl, rfl⟩) hHeld ?_
          simp [Act.put]
          refine wpAnyH_take (i := 4) (oi := _) (v := undef) rfl (by kernel_rfl) (by kernel_rfl) (by kernel_rfl) (fun _ _ _ h => h) (Or.inr ⟨by rfl, rfl⟩) hHeld ?_
          simp [Act.put]
          refine wpAnyH_take (i := 5) (oi := _) (v := (.bool false)) rfl (by kernel_rfl) (by kernel_rfl) (by kernel_rfl) (fun _ _ _ h => h) (Or.inl ⟨by rfl, fun w hSw => by go_simp⟩) hHeld ?_
          simp [Act.put]
          refine wpAnyH_take (i := 6) (oi := _) (v := (.bool false)) rfl (by kernel_rfl) (by kernel_rfl) (by kernel_rfl) (fun _ _ _ h => h) (Or.inl ⟨by rfl, fun w hSw => by go_simp⟩) hHeld ?_
          simp [Act.put]
          refine wpAnyH_take (i := 7) (oi := _) (v := undef) rfl (by kernel_rfl) (by kernel_rfl) (by kernel_rfl) (fun _ _ _ h => h) (Or.inr ⟨by rfl, rfl⟩) hHeld ?_
          simp [Act.put]
          refine wpAnyH_take (i := 8) (oi := _) (v := undef) rfl (by kernel_rfl) (by kernel_rfl) (by kernel_rfl) (fun _ _ _ h => h) (Or.inr ⟨by rfl, rfl⟩) hHeld ?_
          simp [Act.put]
          refine wpAnyH_take (i := 9) (oi := _) (v := (.bool false)) rfl (by kernel_rfl) (by kernel_rfl) (by kernel_rfl) (fun _ _ _ h => h) (Or.inl ⟨by rfl, fun w hSw => by go_simp⟩) hHeld ?_
          simp [Act.put]
          refine wpAnyH_take (i := 10) (oi := _) (v := (.bool false)) rfl (by kernel_rfl) (by kernel_rfl) (by kernel_rfl) (fun _ _ _ h => h) (Or.inl ⟨by rfl, fun w hSw => by go_simp⟩) hHeld ?_
          simp [Act.put]
          refine wpAnyH_take (i := 11) (oi := _) (v := (.int .i64 0)) rfl (by kernel_rfl) (by kernel_rfl) (by kernel_rfl) (fun _ _ _ h => h) (Or.inl ⟨by rfl, fun w hSw => by go_simp⟩) hHeld ?_
          simp [Act.put]
          refine wpAnyH_take (i := 12) (oi := _) (v := (.bool true)) rfl (by kernel_rfl) (by kernel_rfl) (by kernel_rfl) (fun _ _ _ h => h) (Or.inl ⟨by rfl, fun w hSw => by go_simp⟩) hHeld ?_
          simp [Act.put]
          refine wpAnyH_take (i := 13) (oi := _) (v := (.bool true)) rfl (by kernel_rfl) (by kernel_rfl) (by kernel_rfl) (fun _ _ _ h => h) (Or.inl ⟨by rfl, fun w hSw => by go_simp⟩) hHeld ?_
          simp [Act.put]
          refine wpAnyH_take (i := 14) (oi := _) (v := (.int .i64 4)) rfl (by kernel_rfl) (by kernel_rfl) (by kernel_rfl) (fun _ _ _ h => h) (Or.inl ⟨by rfl, fun w hSw => by go_simp⟩) hHeld ?_
          simp [Act.put]
          refine wpAnyH_take (i := 15) (oi := _) (v := (.bool true)) rfl (by kernel_rfl) (by kernel_rfl) (by kernel_rfl) (fun _ _ _ h => h) (Or.inl ⟨by rfl, fun w hSw => by go_simp⟩) hHeld ?_
          simp [Act.put]
          refine wpAnyH_take (i := 16) (oi := _) (v := (.bool true)) rfl (by kernel_rfl) (by kernel_rfl) (by kernel_rfl) (fun _ _ _ h => h) (Or.inl ⟨by rfl, fun w hSw => by go_simp⟩) hHeld ?_
          simp [Act.put]
          refine wpAnyH_take (i := 17) (oi := _) (v := (.bool true)) rfl (by kernel_rfl) (by kernel_rfl) (by kernel_rfl) (fun _ _ _ h => h) (Or.inl ⟨by rfl, fun w hSw => by go_simp⟩) hHeld ?_
          simp [Act.put]
          refine wpAnyH_take (i := 18) (oi := _) (v := (.slice b.a b.n b.c)) rfl (by kernel_rfl) (by kernel_rfl) (by kernel_rfl) (fun _ _ _ h => h) (Or.inl ⟨by rfl, fun w hSw => by go_simp⟩) hHeld ?_
          simp [Act.put]
          refine wpAnyH_take (i := 19) (oi := _) (v := (.int .i64 b.n)) rfl (by kernel_rfl) (by kernel_rfl) (by kernel_rfl) (fun _ _ _ h => h) (Or.inl ⟨by rfl, fun w hSw => by go_simp⟩) hHeld ?_
          simp [Act.put]
          refine wpAnyH_take (i := 20) (oi := _) (v := (.bool true)) rfl (by kernel_rfl) (by kernel_rfl) (by kernel_rfl) (fun _ _ _ h => h) (Or.inl ⟨by rfl, fun w hSw => by have h20 : decide ((4 : Int) ≤ (b.n : Int)) = true := (by simp; omega); go_simp⟩) hHeld ?_
          simp [Act.put]
          refine wpAnyH_take (i := 21) (oi := _) (v := (.bool true)) rfl (by kernel_rfl) (by kernel_rfl) (by kernel_rfl) (fun _ _ _ h => h) (Or.inl ⟨by rfl, fun w hSw => by go_simp⟩) hHeld ?_
          simp [Act.put]
          refine wpAnyH_take (i := 22) (oi := _) (v := (.bool true)) rfl (by kernel_rfl) (by kernel_rfl) (by kernel_rfl) (fun _ _ _ h => h) (Or.inl ⟨by rfl, fun w hSw => by go_simp⟩) hHeld ?_
          simp [Act.put]
          refine wpAnyH_take (i := 23) (oi := _) (v := (.int .i64 f)) rfl (by kernel_rfl) (by kernel_rfl) (by kernel_rfl) (fun _ _ _ h => h) (Or.inl ⟨by rfl, fun w hSw => by go_simp⟩) hHeld ?_
          simp [Act.put]
          refine wpAnyH_take (i := 25) (oi := _) (v := (.slice b.a b.n b.c)) rfl (by kernel_rfl) (by kernel_rfl) (by kernel_rfl) (fun _ _ _ h => h) (Or.inl ⟨by rfl, fun w hSw => by go_simp⟩) hHeld ?_
          simp [Act.put]
          refine wpAnyH_take (i := 26) (oi := _) (v := (.slice b.a 4 b.c)) rfl (by kernel_rfl) (by kernel_rfl) (by kernel_rfl) (fun _ _ _ h => h) (Or.inl ⟨by rfl, fun w hSw => by (go_simp; intro hh; exact absurd hh (by omega))⟩) hHeld ?_
          simp [Act.put]
          refine wpAnyH_ready (rs := [24]) (by kernel_rfl) (by simp) ?_
          refine AllReadyH.cons rfl (fun K hK => ?_) AllReadyH.nil
          go_simp
          refine (head_any f _).mono ?_
          rintro e wb ⟨⟨fa, fn, fc, fl⟩, rfl, okf, lf, bf, -⟩
          simp only [Sl.v]
          refine hK.out _ _ trivial (fun hHeld => ?_)
          clear hK K
          have okbb : b.Ok wb := ((okb8).drewN 1).later bf
          have hS := same_any ⟨fa, fn, fc, fl⟩ ⟨b.a, 4, b.c, b.l.take 4⟩ wb okf (hpre4 _ okbb) (by have h := okf.len; have h2 := hdL_len f; rw [lf] at h; omega)
          rw [lf, htk, decide_eq_true rfl] at hS
          simp only [Sl.v] at hS
          refine wpAnyH_ready (rs := [27]) (by kernel_rfl) (by simp) ?_
          refine AllReadyH.cons rfl (fun K hK => ?_) AllReadyH.nil
          go_simp
          refine hS.mono ?_
          rintro e wc ⟨rfl, kc, rfl⟩
          refine hK.out _ _ trivial (fun hHeld => ?_)
          clear hK K hS
          refine wpAnyH_take (i := 28) (oi := _) (v := (.bool true)) rfl (by kernel_rfl) (by kernel_rfl) (by kernel_rfl) (fun _ _ _ h => h) (Or.inl ⟨by rfl, fun w hSw => by go_simp⟩) hHeld ?_
          simp [Act.put]
          refine wpAnyH_take (i := 29) (oi := _) (v := (.bool true)) rfl (by kernel_rfl) (by kernel_rfl) (by kernel_rfl) (fun _ _ _ h => h) (Or.inl ⟨by rfl, fun w hSw => by go_simp⟩) hHeld ?_
          simp [Act.put]
          refine wpAnyH_take (i := 30) (oi := _) (v := (.bool true)) rfl (by kernel_rfl) (by kernel_rfl) (by kernel_rfl) (fun _ _ _ h => h) (Or.inl ⟨by rfl, fun w hSw => by go_simp⟩) hHeld ?_
          simp [Act.put]
          refine wpAnyH_done (by kernel_rfl) ?_ _
          unfold NoPanic
          go_wp2_with fail
          go_ret
          exact ⟨rfl, below_drewN ((hB8).trans ((undrew_below bf).mono (hB8).size)) kc⟩
        · have hS := same_any s1 s2 w9 k1 k2 (by omega)
          have hne : decide (s1.l = s2.l) = false := decide_eq_false (fun e => hdo (hdL_inj ⟨hd1, hd2⟩ (by rw [← l1, ← l2, e])))
          rw [hne, hs1v, hs2v, hl1] at hS
          have hdb : (d != o) = true := by simp [hdo]
          go_wp2_with fail
          refine hS.mono ?_
          rintro e wa ⟨rfl, ka, rfl⟩
          clear hS
          have okb9 := okb8.drewN ka
          have hB9 := below_drewN hB8 ka
          generalize w9.drewN ka = wx at *
          have H9 := readHead_any b wx okb9
          rw [hq, hbv] at H9
          simp only at H9
          go_wp2_with fail
          refine H9.mono ?_
          rintro e wa ⟨rfl, rfl⟩
          clear H9
          go_wp2_with fail
          refine wp_region_noPanic ?_
          refine wp_region_held_drew (S := fun _ => True) (by kernel_rfl) trivial (fun hHeld => ?_)
          refine wpAnyH_take (i := 0) (oi := _) (v := (.int .i64 0)) rfl (by kernel_rfl) (by kernel_rfl) (by kernel_rfl) (fun _ _ _ h => h) (Or.inl ⟨by rfl, fun w hSw => by go_simp⟩) hHeld ?_
          simp [Act.put]
          refine wpAnyH_take (i := 1) (oi := _) (v := (.bool false)) rfl (by kernel_rfl) (by kernel_rfl) (by kernel_rfl) (fun _ _ _ h => h) (Or.inl ⟨by rfl, fun w hSw => by go_simp⟩) hHeld ?_
          simp [Act.put]
          refine wpAnyH_take (i := 2) (oi := _) (v := (.bool false)) rfl (by kernel_rfl) (by kernel_rfl) (by kernel_rfl) (fun _ _ _ h => h) (Or.inl ⟨by rfl, fun w hSw => by go_simp⟩) hHeld ?_
          simp [Act.put]
          refine wpAnyH_take (i := 3) (oi := _) (v := undef) rfl (by kernel_rfl) (by kernel_rfl) (by kernel_rfl) (fun _ _ _ h => h) (Or.inr ⟨by rfl, rfl⟩) hHeld ?_
          simp [Act.put]
          refine wpAnyH_take (i := 4) (oi := _) (v := undef) rfl (by kernel_rfl) (by kernel_rfl) (by kernel_rfl) (fun _ _ _ h => h) (Or.inr ⟨by rfl, rfl⟩) hHeld ?_
          simp [Act.put]
          refine wpAnyH_take (i := 5) (oi := _) (v := (.bool false)) rfl (by kernel_rfl) (by kernel_rfl) (by kernel_rfl) (fun _ _ _ h => h) (Or.inl ⟨by rfl, fun w hSw => by go_simp⟩) hHeld ?_
          simp [Act.put]
          refine wpAnyH_take (i := 6) (oi := _) (v := (.bool false)) rfl (by kernel_rfl) (by kernel_rfl) (by kernel_rfl) (fun _ _ _ h => h) (Or.inl ⟨by rfl, fun w hSw => by go_simp⟩) hHeld ?_
          simp [Act.put]
          refine wpAnyH_take (i := 7) (oi := _) (v := undef) rfl (by kernel_rfl) (by kernel_rfl) (by kernel_rfl) (fun _ _ _ h => h) (Or.inr ⟨by rfl, rfl⟩) hHeld ?_
          simp [Act.put]
          refine wpAnyH_take (i := 8) (oi := _) (v := undef) rfl (by kernel_rfl) (by kernel_rfl) (by kernel_rfl) (fun _ _ _ h => h) (Or.inr ⟨by rfl, rfl⟩) hHeld ?_
          simp [Act.put]
          refine wpAnyH_take (i := 9) (oi := _) (v := (.bool false)) rfl (by kernel_rfl) (by kernel_rfl) (by kernel_rfl) (fun _ _ _ h => h) (Or.inl ⟨by rfl, fun w hSw => by go_simp⟩) hHeld ?_
          simp [Act.put]
          refine wpAnyH_take (i := 10) (oi := _) (v := (.bool false)) rfl (by kernel_rfl) (by kernel_rfl) (by kernel_rfl) (fun _ _ _ h => h) (Or.inl ⟨by rfl, fun w hSw => by go_simp⟩) hHeld ?_
          simp [Act.put]
          refine wpAnyH_take (i := 11) (oi := _) (v := (.int .i64 0)) rfl (by kernel_rfl) (by kernel_rfl) (by kernel_rfl) (fun _ _ _ h => h) (Or.inl ⟨by rfl, fun w hSw => by go_simp⟩) hHeld ?_
          simp [Act.put]
          refine wpAnyH_take (i := 12) (oi := _) (v := (.bool true)) rfl (by kernel_rfl) (by kernel_rfl) (by kernel_rfl) (fun _ _ _ h => h) (Or.inl ⟨by rfl, fun w hSw => by go_simp⟩) hHeld ?_
          simp [Act.put]
          refine wpAnyH_take (i := 13) (oi := _) (v := (.bool true)) rfl (by kernel_rfl) (by kernel_rfl) (by kernel_rfl) (fun _ _ _ h => h) (Or.inl ⟨by rfl, fun w hSw => by go_simp⟩) hHeld ?_
          simp [Act.put]
          refine wpAnyH_take (i := 14) (oi := _) (v := (.int .i64 4)) rfl (by kernel_rfl) (by kernel_rfl) (by kernel_rfl) (fun _ _ _ h => h) (Or.inl ⟨by rfl, fun w hSw => by go_simp⟩) hHeld ?_
          simp [Act.put]
          refine wpAnyH_take (i := 15) (oi := _) (v := (.bool true)) rfl (by kernel_rfl) (by kernel_rfl) (by kernel_rfl) (fun _ _ _ h => h) (Or.inl ⟨by rfl, fun w hSw => by go_simp⟩) hHeld ?_
          simp [Act.put]
          refine wpAnyH_take (i := 16) (oi := _) (v := (.bool true)) rfl (by kernel_rfl) (by kernel_rfl) (by kernel_rfl) (fun _ _ _ h => h) (Or.inl ⟨by rfl, fun w hSw => by go_simp⟩) hHeld ?_
          simp [Act.put]
          refine wpAnyH_take (i := 17) (oi := _) (v := (.bool true)) rfl (by kernel_rfl) (by kernel_rfl) (by kernel_rfl) (fun _ _ _ h => h) (Or.inl ⟨by rfl, fun w hSw => by go_simp⟩) hHeld ?_
          simp [Act.put]
          refine wpAnyH_take (i := 18) (oi := _) (v := (.slice b.a b.n b.c)) rfl (by kernel_rfl) (by kernel_rfl) (by kernel_rfl) (fun _ _ _ h => h) (Or.inl ⟨by rfl, fun w hSw => by go_simp⟩) hHeld ?_
          simp [Act.put]
          refine wpAnyH_take (i := 19) (oi := _) (v := (.int .i64 b.n)) rfl (by kernel_rfl) (by kernel_rfl) (by kernel_rfl) (fun _ _ _ h => h) (Or.inl ⟨by rfl, fun w hSw => by go_simp⟩) hHeld ?_
          simp [Act.put]
          refine wpAnyH_take (i := 20) (oi := _) (v := (.bool true)) rfl (by kernel_rfl) (by kernel_rfl) (by kernel_rfl) (fun _ _ _ h => h) (Or.inl ⟨by rfl, fun w hSw => by have h20 : decide ((4 : Int) ≤ (b.n : Int)) = true := (by simp; omega); go_simp⟩) hHeld ?_
          simp [Act.put]
          refine wpAnyH_take (i := 21) (oi := _) (v := (.bool true)) rfl (by kernel_rfl) (by kernel_rfl) (by kernel_rfl) (fun _ _ _ h => h) (Or.inl ⟨by rfl, fun w hSw => by go_simp⟩) hHeld ?_
          simp [Act.put]
          refine wpAnyH_take (i := 22) (oi := _) (v := (.bool true)) rfl (by kernel_rfl) (by kernel_rfl) (by kernel_rfl) (fun _ _ _ h => h) (Or.inl ⟨by rfl, fun w hSw => by go_simp⟩) hHeld ?_
          simp [Act.put]
          refine wpAnyH_take (i := 23) (oi := _) (v := (.int .i64 f)) rfl (by kernel_rfl) (by kernel_rfl) (by kernel_rfl) (fun _ _ _ h => h) (Or.inl ⟨by rfl, fun w hSw => by go_simp⟩) hHeld ?_
          simp [Act.put]
          refine wpAnyH_take (i := 25) (oi := _) (v := (.slice b.a b.n b.c)) rfl (by kernel_rfl) (by kernel_rfl) (by kernel_rfl) (fun _ _ _ h => h) (Or.inl ⟨by rfl, fun w hSw => by go_simp⟩) hHeld ?_
          simp [Act.put]
          refine wpAnyH_take (i := 26) (oi := _) (v := (.slice b.a 4 b.c)) rfl (by kernel_rfl) (by kernel_rfl) (by kernel_rfl) (fun _ _ _ h => h) (Or.inl ⟨by rfl, fun w hSw => by (go_simp; intro hh; exact absurd hh (by omega))⟩) hHeld ?_
          simp [Act.put]
          refine wpAnyH_ready (rs := [24]) (by kernel_rfl) (by simp) ?_
          refine AllReadyH.cons rfl (fun K hK => ?_) AllReadyH.nil
          go_simp
          refine (head_any f _).mono ?_
          rintro e wb ⟨⟨fa, fn, fc, fl⟩, rfl, okf, lf, bf, -⟩
          simp only [Sl.v]
          refine hK.out _ _ trivial (fun hHeld => ?_)
          clear hK K
          have okbb : b.Ok wb := ((okb9).drewN 1).later bf
          have hS := same_any ⟨fa, fn, fc, fl⟩ ⟨b.a, 4, b.c, b.l.take 4⟩ wb okf (hpre4 _ okbb) (by have h := okf.len; have h2 := hdL_len f; rw [lf] at h; omega)
          rw [lf, htk, decide_eq_true rfl] at hS
          simp only [Sl.v] at hS
          refine wpAnyH_ready (rs := [27]) (by kernel_rfl) (by simp) ?_
          refine AllReadyH.cons rfl (fun K hK => ?_) AllReadyH.nil
          go_simp
          refine hS.mono ?_
          rintro e wc ⟨rfl, kc, rfl⟩
          refine hK.out _ _ trivial (fun hHeld => ?_)
          clear hK K hS
          refine wpAnyH_take (i := 28) (oi := _) (v := (.bool true)) rfl (by kernel_rfl) (by kernel_rfl) (by kernel_rfl) (fun _ _ _ h => h) (Or.inl ⟨by rfl, fun w hSw => by go_simp⟩) hHeld ?_
          simp [Act.put]
          refine wpAnyH_take (i := 29) (oi := _) (v := (.bool true)) rfl (by kernel_rfl) (by kernel_rfl) (by kernel_rfl) (fun _ _ _ h => h) (Or.inl ⟨by rfl, fun w hSw => by go_simp⟩) hHeld ?_
          simp [Act.put]
          refine wpAnyH_take (i := 30) (oi := _) (v := (.bool true)) rfl (by kernel_rfl) (by kernel_rfl) (by kernel_rfl) (fun _ _ _ h => h) (Or.inl ⟨by rfl, fun w hSw => by go_simp⟩) hHeld ?_
          simp [Act.put]
          refine wpAnyH_done (by kernel_rfl) ?_ _
          unfold NoPanic
          go_wp2_with fail
          go_ret
          exact ⟨rfl, below_drewN ((hB9).trans ((undrew_below bf).mono (hB9).size)) kc⟩
    · have hl1 : s1.n = 0 := by have h := k1.len; rw [l1] at h; unfold hdL at h; rw [if_neg hdd] at h; simpa using h.symm
      obtain ⟨⟨r0, r1, r2⟩, hr⟩ : ∃ q, rdH (hdL d ++ b.l) = q := ⟨_, rfl⟩
      rw [hr] at H8
      simp only at H8
      have hdd' : d < 1 ∨ 255 < d := by omega
      clear hdd
      rcases hdd' with hdd | hdd
      · go_wp2_with fail
        refine H8.mono ?_
        rintro e w9 ⟨rfl, rfl⟩
        clear H8
        go_wp2_with fail
        go_ret
        exact ⟨by simp, hB8⟩
      · go_wp2_with fail
        refine H8.mono ?_
        rintro e w9 ⟨rfl, rfl⟩
        clear H8
        go_wp2_with fail
        go_ret
        exact ⟨by simp, hB8⟩
end Go.Proofs.Ytiloacnjgaoceaa
