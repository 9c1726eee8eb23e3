import Derived.Test.YtaidncibndcbfaaDoorQPrvM
import Derived.Deep.Cut
import Derived.Deep.DeepCutAuto
set_option linter.unusedVariables false
namespace Go.Proofs.YtaidncibndcbfaaDoor
open Go.RowKit
/-- what stands in a block lies below the heap's end -/
theorem range_lt16 {w : World} {b i : Nat} {x : List Int} (h : w.rangeAt b i (U8 x)) (hx : Hs x) : b < w.heap.size := by
  obtain ⟨z, hz⟩ : ∃ z, (U8 x)[0]? = some z := ⟨_, List.getElem?_eq_getElem (by simp [hx.len])⟩
  exact cell_lt (h 0 z hz)

set_option maxHeartbeats 8000000 in
set_option maxRecDepth 100000 in
theorem proves_law (s : Hl) (index first : Int) (w : World) (hs : s.Ok w) (hL : Ld w) :
    Calls Tryd.prog 7 #[s.v, .int .i64 index, .int .i64 first] w fun e w' => e = .returned (.bool true) ∧ Below w.heap.size w w' := by
  by_cases hbig : 200 < s.n
  · obtain ⟨a, n, c, ls⟩ := s
    simp only [Hl.v] at *
    have g1 : decide ((200 : Int) < (n : Int)) = true := decide_eq_true (by omega)
    have g2 : decide (200 < n) = true := decide_eq_true (by omega)
    clear hs hL hbig
    go_enter Tryd.func7, Tryd.ntmps7
    go_wp2
    go_ret
    exact ⟨rfl, Below.refl _ _⟩
  · have hlen := hs.len
    have hle := hs.le
    have hroot := root_ok s w hs hL (by omega)
    obtain ⟨h, hh⟩ : ∃ h, h = rootZ16 s.ls := ⟨_, rfl⟩
    rw [← hh] at hroot
    have hhl : Hs h := by rw [hh]; exact mroot_hs _ hs.hs
    have HH := hide hh
    have g1 : decide ((200 : Int) < (s.n : Int)) = false := decide_eq_false (by omega)
    have g2 : decide (200 < s.n) = false := decide_eq_false (by omega)
    have HBIG := hide (show s.n ≤ 200 by omega)
    have HLE := hide hle
    have HLEN := hide hlen
    have hsW := hs
    have hLW := hL
    clear hbig hh hlen hle hs hL
    obtain ⟨s0, hs0⟩ : ∃ s0, s0 = s := ⟨_, rfl⟩
    rw [← hs0] at hsW HH HLEN HBIG HLE
    have HS0 := hide hs0
    obtain ⟨a, n, c, ls⟩ := s
    have hv0 : s0.v = .slice a n c := by rw [hs0]; rfl
    have hn0 : s0.n = n := by rw [hs0]
    have HN0 := hide hn0
    clear hs0 hn0
    simp only [Hl.v] at hroot g1 g2 ⊢
    have HV0 := hide hv0
    clear hv0
    go_enter Tryd.func7, Tryd.ntmps7
    go_upto_region 6 with (first
      | (go_at_call 15; refine hroot.mono ?_; rintro e w1 ⟨rfl, hb1⟩; have hb := hb1; replace hsW := hsW.later hb1; replace hLW := hLW.later hb1; clear hb1 hroot; have hH : Hold [] w1 := (fun p hp => by cases hp))
      | (refine wpList_store_al rfl (.tmp 7) (.tmp 19) rfl hH h hhl.len _ rfl rfl rfl rfl ?_; intro w2 hH2 hb2; replace hH := hH2; replace hb := bnext hb hb.size hb2; replace hsW := hsW.later hb2; replace hLW := hLW.later hb2; clear hb2 hH2)
      | refine wpList_zero (by kernel_rfl) rfl ?_
      | (go_at_call 17; refine (node_any zeroH zeroH _ zeroH_hs zeroH_hs hLW).mono ?_; rintro e w3 ⟨rfl, hb3⟩; replace hH := hH.later hb3; replace hb := bnext hb hb.size hb3; replace hsW := hsW.later hb3; replace hLW := hLW.later hb3; clear hb3)
      | refine wpList_eqH (by kernel_rfl) (.tmp 26) (.tmp 27) rfl (ndZ zeroH zeroH) zeroH (ndZ_hs _ _).len zeroH_hs.len false (eqB_ne nd_zero) rfl rfl ?_)
    have hI := incl_any s0 index w3 hsW hLW
    rw [unhide HV0] at hI
    have hbh : w1.heap.size < w3.heap.size := (hH.at_ (g := w1.heap.size) (l := h) (by simp)).lt
    generalize hbe : w1.heap.size = bh at hH hbh
    clear hbe
    go_upto_if 61 with (first
      | (go_at_call 22; refine hI.mono ?_; rintro e w4 ⟨s2, ok2, hR4, rfl, hb4⟩; replace hH := hH.later hb4; replace hb := bnext hb hb.size hb4; replace hsW := hsW.later hb4; replace hLW := hLW.later hb4; clear hb4 hI))
    go_cut [61] (fun v61 wx => v61 = .bool false ∧ Hold [(bh, h)] wx ∧ Below w.heap.size w wx ∧ s0.Ok wx ∧ Ld wx)
    case first =>
      have hok := hR4.at_
      cases hin : inT index s0.n
      · obtain rfl : ok2 = false := by rw [hR4.is, hin]
        by_cases hneg : 0 ≤ index
        · have g3 : decide (0 ≤ index) = true := decide_eq_true hneg
          have hge : ¬ index < (n : Int) := by
            intro hlt
            have := inT_iff.2 (show (s0.n : Int) ≤ 65536 ∧ 0 ≤ index ∧ index < (s0.n : Int) by have := unhide HBIG; have := unhide HN0; omega)
            rw [hin] at this; cases this
          have g4 : decide (index < (n : Int)) = false := decide_eq_false hge
          clear hneg hge hin hR4
          generalize index = i at *
          go_upto_region 7 with fail
          refine wp_region_noPanic ?_
          replace hb := bnext hb hb.size (drew_below _)
          replace hLW := hLW.later (drew_below _)
          replace hok := hok.later (drew_below _)
          replace hsW := hsW.later (drew_below _)
          refine wp_region_held_drew (S := fun w9 => Hold [(bh, h)] w9) (by kernel_rfl) hH.drew (fun hHeld => ?_)
          generalize World.drew _ = v1 at hHeld hb hLW hok hsW ⊢
          refine wpAnyH_take (i := 0) (oi := _) (v := .bool false) rfl (by kernel_rfl) (by kernel_rfl) (by kernel_rfl) (fun _ _ _ h => h) (Or.inl ⟨by rfl, fun w hSw => by go_simp⟩) hHeld ?_
          simp [Act.put]
          refine wpAnyH_take (i := 1) (oi := _) (v := .int .i64 i) rfl (by kernel_rfl) (by kernel_rfl) (by kernel_rfl) (fun _ _ _ h => h) (Or.inl ⟨by rfl, fun w hSw => by go_simp⟩) hHeld ?_
          simp [Act.put]
          refine wpAnyH_take (i := 2) (oi := _) (v := .bool true) rfl (by kernel_rfl) (by kernel_rfl) (by kernel_rfl) (fun _ _ _ h => h) (Or.inl ⟨by rfl, fun w hSw => by go_simp⟩) hHeld ?_
          simp [Act.put]
          refine wpAnyH_take (i := 3) (oi := _) (v := .bool true) rfl (by kernel_rfl) (by kernel_rfl) (by kernel_rfl) (fun _ _ _ h => h) (Or.inl ⟨by rfl, fun w hSw => by go_simp⟩) hHeld ?_
          simp [Act.put]
          refine wpAnyH_take (i := 4) (oi := _) (v := .int .i64 i) rfl (by kernel_rfl) (by kernel_rfl) (by kernel_rfl) (fun _ _ _ h => h) (Or.inl ⟨by rfl, fun w hSw => by go_simp⟩) hHeld ?_
          simp [Act.put]
          refine wpAnyH_take (i := 5) (oi := _) (v := .slice a n c) rfl (by kernel_rfl) (by kernel_rfl) (by kernel_rfl) (fun _ _ _ h => h) (Or.inl ⟨by rfl, fun w hSw => by go_simp⟩) hHeld ?_
          simp [Act.put]
          refine wpAnyH_take (i := 6) (oi := _) (v := .int .i64 (n : Int)) rfl (by kernel_rfl) (by kernel_rfl) (by kernel_rfl) (fun _ _ _ h => h) (Or.inl ⟨by rfl, fun w hSw => by go_simp⟩) hHeld ?_
          simp [Act.put]
          refine wpAnyH_take (i := 7) (oi := _) (v := .bool false) rfl (by kernel_rfl) (by kernel_rfl) (by kernel_rfl) (fun _ _ _ h => h) (Or.inl ⟨by rfl, fun w hSw => by go_simp⟩) hHeld ?_
          simp [Act.put]
          refine wpAnyH_take (i := 8) (oi := _) (v := .bool false) rfl (by kernel_rfl) (by kernel_rfl) (by kernel_rfl) (fun _ _ _ h => h) (Or.inl ⟨by rfl, fun w hSw => by go_simp⟩) hHeld ?_
          simp [Act.put]
          refine wpAnyH_take (i := 9) (oi := _) (v := .bool false) rfl (by kernel_rfl) (by kernel_rfl) (by kernel_rfl) (fun _ _ _ h => h) (Or.inl ⟨by rfl, fun w hSw => by go_simp⟩) hHeld ?_
          simp [Act.put]
          refine wpAnyH_take (i := 10) (oi := _) (v := .bool false) rfl (by kernel_rfl) (by kernel_rfl) (by kernel_rfl) (fun _ _ _ h => h) (Or.inl ⟨by rfl, fun w hSw => by go_simp⟩) hHeld ?_
          simp [Act.put]
          refine wpAnyH_take (i := 11) (oi := _) (v := .bool false) rfl (by kernel_rfl) (by kernel_rfl) (by kernel_rfl) (fun _ _ _ h => h) (Or.inl ⟨by rfl, fun w hSw => by go_simp⟩) hHeld ?_
          simp [Act.put]
          refine wpAnyH_take (i := 12) (oi := _) (v := .bool false) rfl (by kernel_rfl) (by kernel_rfl) (by kernel_rfl) (fun _ _ _ h => h) (Or.inl ⟨by rfl, fun w hSw => by go_simp⟩) hHeld ?_
          simp [Act.put]
          refine wpAnyH_take (i := 13) (oi := _) (v := undef) rfl (by kernel_rfl) (by kernel_rfl) (by kernel_rfl) (fun _ _ _ h => h) (Or.inr ⟨by rfl, rfl⟩) hHeld ?_
          simp [Act.put]
          refine wpAnyH_take (i := 14) (oi := _) (v := undef) rfl (by kernel_rfl) (by kernel_rfl) (by kernel_rfl) (fun _ _ _ h => h) (Or.inr ⟨by rfl, rfl⟩) hHeld ?_
          simp [Act.put]
          refine wpAnyH_take (i := 15) (oi := _) (v := undef) rfl (by kernel_rfl) (by kernel_rfl) (by kernel_rfl) (fun _ _ _ h => h) (Or.inr ⟨by rfl, rfl⟩) hHeld ?_
          simp [Act.put]
          refine wpAnyH_take (i := 16) (oi := _) (v := undef) rfl (by kernel_rfl) (by kernel_rfl) (by kernel_rfl) (fun _ _ _ h => h) (Or.inr ⟨by rfl, rfl⟩) hHeld ?_
          simp [Act.put]
          refine wpAnyH_take (i := 17) (oi := _) (v := undef) rfl (by kernel_rfl) (by kernel_rfl) (by kernel_rfl) (fun _ _ _ h => h) (Or.inr ⟨by rfl, rfl⟩) hHeld ?_
          simp [Act.put]
          refine wpAnyH_take (i := 18) (oi := _) (v := undef) rfl (by kernel_rfl) (by kernel_rfl) (by kernel_rfl) (fun _ _ _ h => h) (Or.inr ⟨by rfl, rfl⟩) hHeld ?_
          simp [Act.put]
          refine wpAnyH_take (i := 19) (oi := _) (v := undef) rfl (by kernel_rfl) (by kernel_rfl) (by kernel_rfl) (fun _ _ _ h => h) (Or.inr ⟨by rfl, rfl⟩) hHeld ?_
          simp [Act.put]
          refine wpAnyH_take (i := 20) (oi := _) (v := undef) rfl (by kernel_rfl) (by kernel_rfl) (by kernel_rfl) (fun _ _ _ h => h) (Or.inr ⟨by rfl, rfl⟩) hHeld ?_
          simp [Act.put]
          refine wpAnyH_take (i := 21) (oi := _) (v := undef) rfl (by kernel_rfl) (by kernel_rfl) (by kernel_rfl) (fun _ _ _ h => h) (Or.inr ⟨by rfl, rfl⟩) hHeld ?_
          simp [Act.put]
          refine wpAnyH_ready (rs := [22]) (by kernel_rfl) (by simp) ?_
          refine AllReadyH.cons rfl (fun K hKK => ?_) AllReadyH.nil
          go_simp
          refine hKK.out _ _ hHeld (fun hHeld => ?_)
          clear hKK K
          refine wpAnyH_take (i := 23) (oi := _) (v := undef) rfl (by kernel_rfl) (by kernel_rfl) (by kernel_rfl) (fun _ _ _ h => h) (Or.inr ⟨by rfl, rfl⟩) hHeld ?_
          simp [Act.put]
          refine wpAnyH_take (i := 24) (oi := _) (v := .bool false) rfl (by kernel_rfl) (by kernel_rfl) (by kernel_rfl) (fun _ _ _ h => h) (Or.inl ⟨by rfl, fun w hSw => by go_simp⟩) hHeld ?_
          simp [Act.put]
          refine wpAnyH_take (i := 25) (oi := _) (v := .bool false) rfl (by kernel_rfl) (by kernel_rfl) (by kernel_rfl) (fun _ _ _ h => h) (Or.inl ⟨by rfl, fun w hSw => by go_simp⟩) hHeld ?_
          simp [Act.put]
          refine wpAnyH_done (by kernel_rfl) ?_ _
          unfold NoPanic
          go_wp2
          go_meet
          case rel => exact ⟨rfl, hHeld, hb, hsW, hLW⟩
        · have g3 : decide (0 ≤ index) = false := decide_eq_false hneg
          clear hneg hin hR4
          generalize index = i at *
          go_upto_region 7 with fail
          refine wp_region_noPanic ?_
          replace hb := bnext hb hb.size (drew_below _)
          replace hLW := hLW.later (drew_below _)
          replace hok := hok.later (drew_below _)
          replace hsW := hsW.later (drew_below _)
          refine wp_region_held_drew (S := fun w9 => Hold [(bh, h)] w9) (by kernel_rfl) hH.drew (fun hHeld => ?_)
          generalize World.drew _ = v1 at hHeld hb hLW hok hsW ⊢
          refine wpAnyH_take (i := 0) (oi := _) (v := .bool false) rfl (by kernel_rfl) (by kernel_rfl) (by kernel_rfl) (fun _ _ _ h => h) (Or.inl ⟨by rfl, fun w hSw => by go_simp⟩) hHeld ?_
          simp [Act.put]
          refine wpAnyH_take (i := 1) (oi := _) (v := .int .i64 i) rfl (by kernel_rfl) (by kernel_rfl) (by kernel_rfl) (fun _ _ _ h => h) (Or.inl ⟨by rfl, fun w hSw => by go_simp⟩) hHeld ?_
          simp [Act.put]
          refine wpAnyH_take (i := 2) (oi := _) (v := .bool false) rfl (by kernel_rfl) (by kernel_rfl) (by kernel_rfl) (fun _ _ _ h => h) (Or.inl ⟨by rfl, fun w hSw => by go_simp⟩) hHeld ?_
          simp [Act.put]
          refine wpAnyH_take (i := 3) (oi := _) (v := .bool false) rfl (by kernel_rfl) (by kernel_rfl) (by kernel_rfl) (fun _ _ _ h => h) (Or.inl ⟨by rfl, fun w hSw => by go_simp⟩) hHeld ?_
          simp [Act.put]
          refine wpAnyH_take (i := 4) (oi := _) (v := undef) rfl (by kernel_rfl) (by kernel_rfl) (by kernel_rfl) (fun _ _ _ h => h) (Or.inr ⟨by rfl, rfl⟩) hHeld ?_
          simp [Act.put]
          refine wpAnyH_take (i := 5) (oi := _) (v := undef) rfl (by kernel_rfl) (by kernel_rfl) (by kernel_rfl) (fun _ _ _ h => h) (Or.inr ⟨by rfl, rfl⟩) hHeld ?_
          simp [Act.put]
          refine wpAnyH_take (i := 6) (oi := _) (v := undef) rfl (by kernel_rfl) (by kernel_rfl) (by kernel_rfl) (fun _ _ _ h => h) (Or.inr ⟨by rfl, rfl⟩) hHeld ?_
          simp [Act.put]
          refine wpAnyH_take (i := 7) (oi := _) (v := undef) rfl (by kernel_rfl) (by kernel_rfl) (by kernel_rfl) (fun _ _ _ h => h) (Or.inr ⟨by rfl, rfl⟩) hHeld ?_
          simp [Act.put]
          refine wpAnyH_take (i := 8) (oi := _) (v := .bool false) rfl (by kernel_rfl) (by kernel_rfl) (by kernel_rfl) (fun _ _ _ h => h) (Or.inl ⟨by rfl, fun w hSw => by go_simp⟩) hHeld ?_
          simp [Act.put]
          refine wpAnyH_take (i := 9) (oi := _) (v := .bool false) rfl (by kernel_rfl) (by kernel_rfl) (by kernel_rfl) (fun _ _ _ h => h) (Or.inl ⟨by rfl, fun w hSw => by go_simp⟩) hHeld ?_
          simp [Act.put]
          refine wpAnyH_take (i := 10) (oi := _) (v := .bool false) rfl (by kernel_rfl) (by kernel_rfl) (by kernel_rfl) (fun _ _ _ h => h) (Or.inl ⟨by rfl, fun w hSw => by go_simp⟩) hHeld ?_
          simp [Act.put]
          refine wpAnyH_take (i := 11) (oi := _) (v := .bool false) rfl (by kernel_rfl) (by kernel_rfl) (by kernel_rfl) (fun _ _ _ h => h) (Or.inl ⟨by rfl, fun w hSw => by go_simp⟩) hHeld ?_
          simp [Act.put]
          refine wpAnyH_take (i := 12) (oi := _) (v := .bool false) rfl (by kernel_rfl) (by kernel_rfl) (by kernel_rfl) (fun _ _ _ h => h) (Or.inl ⟨by rfl, fun w hSw => by go_simp⟩) hHeld ?_
          simp [Act.put]
          refine wpAnyH_take (i := 13) (oi := _) (v := undef) rfl (by kernel_rfl) (by kernel_rfl) (by kernel_rfl) (fun _ _ _ h => h) (Or.inr ⟨by rfl, rfl⟩) hHeld ?_
          simp [Act.put]
          refine wpAnyH_take (i := 14) (oi := _) (v := undef) rfl (by kernel_rfl) (by kernel_rfl) (by kernel_rfl) (fun _ _ _ h => h) (Or.inr ⟨by rfl, rfl⟩) hHeld ?_
          simp [Act.put]
          refine wpAnyH_take (i := 15) (oi := _) (v := undef) rfl (by kernel_rfl) (by kernel_rfl) (by kernel_rfl) (fun _ _ _ h => h) (Or.inr ⟨by rfl, rfl⟩) hHeld ?_
          simp [Act.put]
          refine wpAnyH_take (i := 16) (oi := _) (v := undef) rfl (by kernel_rfl) (by kernel_rfl) (by kernel_rfl) (fun _ _ _ h => h) (Or.inr ⟨by rfl, rfl⟩) hHeld ?_
          simp [Act.put]
          refine wpAnyH_take (i := 17) (oi := _) (v := undef) rfl (by kernel_rfl) (by kernel_rfl) (by kernel_rfl) (fun _ _ _ h => h) (Or.inr ⟨by rfl, rfl⟩) hHeld ?_
          simp [Act.put]
          refine wpAnyH_take (i := 18) (oi := _) (v := undef) rfl (by kernel_rfl) (by kernel_rfl) (by kernel_rfl) (fun _ _ _ h => h) (Or.inr ⟨by rfl, rfl⟩) hHeld ?_
          simp [Act.put]
          refine wpAnyH_take (i := 19) (oi := _) (v := undef) rfl (by kernel_rfl) (by kernel_rfl) (by kernel_rfl) (fun _ _ _ h => h) (Or.inr ⟨by rfl, rfl⟩) hHeld ?_
          simp [Act.put]
          refine wpAnyH_take (i := 20) (oi := _) (v := undef) rfl (by kernel_rfl) (by kernel_rfl) (by kernel_rfl) (fun _ _ _ h => h) (Or.inr ⟨by rfl, rfl⟩) hHeld ?_
          simp [Act.put]
          refine wpAnyH_take (i := 21) (oi := _) (v := undef) rfl (by kernel_rfl) (by kernel_rfl) (by kernel_rfl) (fun _ _ _ h => h) (Or.inr ⟨by rfl, rfl⟩) hHeld ?_
          simp [Act.put]
          refine wpAnyH_ready (rs := [22]) (by kernel_rfl) (by simp) ?_
          refine AllReadyH.cons rfl (fun K hKK => ?_) AllReadyH.nil
          go_simp
          refine hKK.out _ _ hHeld (fun hHeld => ?_)
          clear hKK K
          refine wpAnyH_take (i := 23) (oi := _) (v := undef) rfl (by kernel_rfl) (by kernel_rfl) (by kernel_rfl) (fun _ _ _ h => h) (Or.inr ⟨by rfl, rfl⟩) hHeld ?_
          simp [Act.put]
          refine wpAnyH_take (i := 24) (oi := _) (v := .bool false) rfl (by kernel_rfl) (by kernel_rfl) (by kernel_rfl) (fun _ _ _ h => h) (Or.inl ⟨by rfl, fun w hSw => by go_simp⟩) hHeld ?_
          simp [Act.put]
          refine wpAnyH_take (i := 25) (oi := _) (v := .bool false) rfl (by kernel_rfl) (by kernel_rfl) (by kernel_rfl) (fun _ _ _ h => h) (Or.inl ⟨by rfl, fun w hSw => by go_simp⟩) hHeld ?_
          simp [Act.put]
          refine wpAnyH_done (by kernel_rfl) ?_ _
          unfold NoPanic
          go_wp2
          go_meet
          case rel => exact ⟨rfl, hHeld, hb, hsW, hLW⟩
      · obtain rfl : ok2 = true := by rw [hR4.is, hin]
        obtain ⟨h1, h2, h3⟩ := inT_iff.1 hin
        obtain ⟨i, hie⟩ := Int.eq_ofNat_of_zero_le h2
        subst hie
        have hil : i < s0.ls.length := by have := unhide HLEN; omega
        obtain ⟨x, hx⟩ : ∃ x, s0.ls[i]? = some x := ⟨_, List.getElem?_eq_getElem hil⟩
        obtain ⟨b, off, ha, hbl, hX, hxh⟩ := hsW.at_ hx
        have hls2 := hR4.yes rfl
        have HCK : Hid (ckI x i n s2.ls h = true) := hide (by
          have := ckI_path (ls := s0.ls) (by have := unhide HLEN; have := unhide HBIG; omega) hx
          rw [unhide HLEN, unhide HN0] at this
          rw [hls2, unhide HH, Int.toNat_natCast]; exact this)
        have haa : a = some ⟨b, off, none⟩ := by rw [← ha, unhide HS0]
        subst haa
        have g3 : (i : Int) < (n : Int) := by have := unhide HN0; omega
        clear h1 h2 h3 hil hx ha hls2 hR4 hin
        go_upto_region 7 with fail
        refine wp_region_noPanic ?_
        replace hb := bnext hb hb.size (drew_below _)
        replace hLW := hLW.later (drew_below _)
        replace hok := hok.later (drew_below _)
        replace hsW := hsW.later (drew_below _)
        replace hX := rangeAt_later hX (drew_below _) hbl
        refine wp_region_held_drew (S := fun w9 => w9.rangeAt b (off + i * 32) (U8 x) ∧ Hold [(bh, h)] w9) (by kernel_rfl) ⟨hX, hH.drew⟩ (fun hHeld => ?_)
        generalize World.drew _ = v1 at hHeld hb hLW hok hX hsW ⊢
        refine wpAnyH_take (i := 0) (oi := _) (v := .bool true) rfl (by kernel_rfl) (by kernel_rfl) (by kernel_rfl) (fun _ _ _ h => h) (Or.inl ⟨by rfl, fun w hSw => by go_simp⟩) hHeld ?_
        simp [Act.put]
        refine wpAnyH_take (i := 1) (oi := _) (v := .int .i64 (i : Int)) rfl (by kernel_rfl) (by kernel_rfl) (by kernel_rfl) (fun _ _ _ h => h) (Or.inl ⟨by rfl, fun w hSw => by go_simp⟩) hHeld ?_
        simp [Act.put]
        refine wpAnyH_take (i := 2) (oi := _) (v := .bool true) rfl (by kernel_rfl) (by kernel_rfl) (by kernel_rfl) (fun _ _ _ h => h) (Or.inl ⟨by rfl, fun w hSw => by go_simp⟩) hHeld ?_
        simp [Act.put]
        refine wpAnyH_take (i := 3) (oi := _) (v := .bool true) rfl (by kernel_rfl) (by kernel_rfl) (by kernel_rfl) (fun _ _ _ h => h) (Or.inl ⟨by rfl, fun w hSw => by go_simp⟩) hHeld ?_
        simp [Act.put]
        refine wpAnyH_take (i := 4) (oi := _) (v := .int .i64 (i : Int)) rfl (by kernel_rfl) (by kernel_rfl) (by kernel_rfl) (fun _ _ _ h => h) (Or.inl ⟨by rfl, fun w hSw => by go_simp⟩) hHeld ?_
        simp [Act.put]
        refine wpAnyH_take (i := 5) (oi := _) (v := .slice (some ⟨b, off, none⟩) n c) rfl (by kernel_rfl) (by kernel_rfl) (by kernel_rfl) (fun _ _ _ h => h) (Or.inl ⟨by rfl, fun w hSw => by go_simp⟩) hHeld ?_
        simp [Act.put]
        refine wpAnyH_take (i := 6) (oi := _) (v := .int .i64 (n : Int)) rfl (by kernel_rfl) (by kernel_rfl) (by kernel_rfl) (fun _ _ _ h => h) (Or.inl ⟨by rfl, fun w hSw => by go_simp⟩) hHeld ?_
        simp [Act.put]
        refine wpAnyH_take (i := 7) (oi := _) (v := .bool true) rfl (by kernel_rfl) (by kernel_rfl) (by kernel_rfl) (fun _ _ _ h => h) (Or.inl ⟨by rfl, fun w hSw => by go_simp⟩) hHeld ?_
        simp [Act.put]
        refine wpAnyH_take (i := 8) (oi := _) (v := .bool true) rfl (by kernel_rfl) (by kernel_rfl) (by kernel_rfl) (fun _ _ _ h => h) (Or.inl ⟨by rfl, fun w hSw => by go_simp⟩) hHeld ?_
        simp [Act.put]
        refine wpAnyH_take (i := 9) (oi := _) (v := .bool false) rfl (by kernel_rfl) (by kernel_rfl) (by kernel_rfl) (fun _ _ _ h => h) (Or.inl ⟨by rfl, fun w hSw => by go_simp⟩) hHeld ?_
        simp [Act.put]
        refine wpAnyH_take (i := 10) (oi := _) (v := .bool false) rfl (by kernel_rfl) (by kernel_rfl) (by kernel_rfl) (fun _ _ _ h => h) (Or.inl ⟨by rfl, fun w hSw => by go_simp⟩) hHeld ?_
        simp [Act.put]
        refine wpAnyH_take (i := 11) (oi := _) (v := .bool true) rfl (by kernel_rfl) (by kernel_rfl) (by kernel_rfl) (fun _ _ _ h => h) (Or.inl ⟨by rfl, fun w hSw => by go_simp⟩) hHeld ?_
        simp [Act.put]
        refine wpAnyH_take (i := 12) (oi := _) (v := .bool true) rfl (by kernel_rfl) (by kernel_rfl) (by kernel_rfl) (fun _ _ _ h => h) (Or.inl ⟨by rfl, fun w hSw => by go_simp⟩) hHeld ?_
        simp [Act.put]
        refine wpAnyH_take (i := 13) (oi := _) (v := .slice (some ⟨b, off, none⟩) n c) rfl (by kernel_rfl) (by kernel_rfl) (by kernel_rfl) (fun _ _ _ h => h) (Or.inl ⟨by rfl, fun w hSw => by go_simp⟩) hHeld ?_
        simp [Act.put]
        refine wpAnyH_take (i := 14) (oi := _) (v := .int .i64 (i : Int)) rfl (by kernel_rfl) (by kernel_rfl) (by kernel_rfl) (fun _ _ _ h => h) (Or.inl ⟨by rfl, fun w hSw => by go_simp⟩) hHeld ?_
        simp [Act.put]
        refine wpAnyH_take (i := 15) (oi := _) (v := .pointer (some ⟨b, off + i * 32, none⟩)) rfl (by kernel_rfl) (by kernel_rfl) (by kernel_rfl) (fun _ _ _ h => h) (Or.inl ⟨by rfl, fun w hSw => by go_simp⟩) hHeld ?_
        simp [Act.put]
        refine wpAnyH_take (i := 16) (oi := _) (v := hV x) rfl (by kernel_rfl) (by kernel_rfl) (by kernel_rfl) (fun _ _ _ h => h) (yieldsIf_load_mid (by rfl) _ _ rfl _ _ rfl (U8 x) _ (fun _ h => h.1) Tryd.underlying27 rfl (hz_of' hxh.len)) hHeld ?_
        simp [Act.put]
        refine wpAnyH_take (i := 17) (oi := _) (v := .int .i64 (i : Int)) rfl (by kernel_rfl) (by kernel_rfl) (by kernel_rfl) (fun _ _ _ h => h) (Or.inl ⟨by rfl, fun w hSw => by go_simp⟩) hHeld ?_
        simp [Act.put]
        refine wpAnyH_take (i := 18) (oi := _) (v := .slice (some ⟨b, off, none⟩) n c) rfl (by kernel_rfl) (by kernel_rfl) (by kernel_rfl) (fun _ _ _ h => h) (Or.inl ⟨by rfl, fun w hSw => by go_simp⟩) hHeld ?_
        simp [Act.put]
        refine wpAnyH_take (i := 19) (oi := _) (v := .int .i64 (n : Int)) rfl (by kernel_rfl) (by kernel_rfl) (by kernel_rfl) (fun _ _ _ h => h) (Or.inl ⟨by rfl, fun w hSw => by go_simp⟩) hHeld ?_
        simp [Act.put]
        refine wpAnyH_take (i := 20) (oi := _) (v := s2.v) rfl (by kernel_rfl) (by kernel_rfl) (by kernel_rfl) (fun _ _ _ h => h) (Or.inl ⟨by rfl, fun w hSw => by go_simp⟩) hHeld ?_
        simp [Act.put]
        refine wpAnyH_take (i := 21) (oi := _) (v := hV h) rfl (by kernel_rfl) (by kernel_rfl) (by kernel_rfl) (fun _ _ _ h => h) (yieldsIf_load_mid (by rfl) _ _ rfl _ _ rfl (U8 h) _ (fun _ h9 => arr_range (h9.2.at_ (g := bh) (l := h) (by simp))) Tryd.underlying27 rfl (hz_of' hhl.len)) hHeld ?_
        simp [Act.put]
        refine wpAnyH_ready (rs := [22]) (by kernel_rfl) (by simp) ?_
        refine AllReadyH.cons rfl (fun K hKK => ?_) AllReadyH.nil
        go_simp
        refine (checkI_any x i n s2 h _ hxh hhl hok hLW).mono ?_
        rintro e v6 ⟨rfl, hb6⟩
        rw [unhide HCK]
        replace hb := bnext hb hb.size hb6
        replace hLW := hLW.later hb6
        replace hsW := hsW.later hb6
        refine hKK.out _ _ ⟨rangeAt_later hHeld.1 hb6 (range_lt16 hHeld.1 hxh), hHeld.2.later hb6⟩ (fun hHeld => ?_)
        clear hKK K hb6
        refine wpAnyH_take (i := 23) (oi := _) (v := .bool false) rfl (by kernel_rfl) (by kernel_rfl) (by kernel_rfl) (fun _ _ _ h => h) (Or.inl ⟨by rfl, fun w hSw => by go_simp⟩) hHeld ?_
        simp [Act.put]
        refine wpAnyH_take (i := 24) (oi := _) (v := .bool false) rfl (by kernel_rfl) (by kernel_rfl) (by kernel_rfl) (fun _ _ _ h => h) (Or.inl ⟨by rfl, fun w hSw => by go_simp⟩) hHeld ?_
        simp [Act.put]
        refine wpAnyH_take (i := 25) (oi := _) (v := .bool false) rfl (by kernel_rfl) (by kernel_rfl) (by kernel_rfl) (fun _ _ _ h => h) (Or.inl ⟨by rfl, fun w hSw => by go_simp⟩) hHeld ?_
        simp [Act.put]
        refine wpAnyH_done (by kernel_rfl) ?_ _
        unfold NoPanic
        go_wp2
        go_meet
        case rel => exact ⟨rfl, hHeld.2, hb, hsW, hLW⟩
    case rest =>
      obtain ⟨rfl, hH, hb, hsW, hLW⟩ := hcut
      have hI := cons_any s0 first wc hsW hLW
      rw [unhide HV0] at hI
      clear hR4 hbh
      have HC0 : Hid (s0.c = c) := hide (by rw [unhide HS0])
      cases hin : isBg first s0.n
      · by_cases hneg : 0 ≤ first
        · have g3 : decide (0 ≤ first) = true := decide_eq_true hneg
          have hge : ¬ first ≤ (n : Int) := by
            intro hlt
            have := isBg_iff.2 (show (s0.n : Int) ≤ 65536 ∧ 0 ≤ first ∧ first ≤ (s0.n : Int) by have := unhide HBIG; have := unhide HN0; omega)
            rw [hin] at this; cases this
          have g4 : decide (first ≤ (n : Int)) = false := decide_eq_false hge
          have HIN := hide hin
          clear hneg hge hin
          go_wp2_with (first
            | (go_at_call 23; refine hI.mono ?_; rintro e w5 ⟨s3, ok3, hR5, rfl, hb5⟩; obtain rfl : ok3 = false := (by rw [hR5.is, unhide HIN]); replace hb := bnext hb hb.size hb5; clear hb5 hI hR5))
          go_ret
          exact ⟨rfl, hb⟩
        · have g3 : decide (0 ≤ first) = false := decide_eq_false hneg
          have HIN := hide hin
          clear hneg hin
          go_wp2_with (first
            | (go_at_call 23; refine hI.mono ?_; rintro e w5 ⟨s3, ok3, hR5, rfl, hb5⟩; obtain rfl : ok3 = false := (by rw [hR5.is, unhide HIN]); replace hb := bnext hb hb.size hb5; clear hb5 hI hR5))
          go_ret
          exact ⟨rfl, hb⟩
      · obtain ⟨h1, h2, h3⟩ := isBg_iff.1 hin
        obtain ⟨m, hme⟩ := Int.eq_ofNat_of_zero_le h2
        subst hme
        obtain ⟨y, hy⟩ : ∃ y, y = rootZ16 (s0.ls.take m) := ⟨_, rfl⟩
        have hyl : Hs y := by rw [hy]; exact mroot_hs _ (fun l hl => hsW.hs l (List.mem_of_mem_take hl))
        have HCK : Hid (∀ w' s3 ok3, CoR wc s0 m w' s3 ok3 → ok3 = true ∧ s3.Ok w' ∧ ckC m n y h s3.ls = true) := hide (by
          intro w' s3 ok3 hR
          have e1 : ok3 = true := by rw [hR.is, hin]
          have := ckC_bridge (ls := s0.ls) (m := (m : Int)) (by rw [unhide HLEN]; exact hin)
          rw [unhide HLEN, unhide HN0, Int.toNat_natCast] at this
          refine ⟨e1, hR.at_, ?_⟩
          rw [hR.yes e1, hy, unhide HH, Int.toNat_natCast]; exact this)
        have hcut : (s0.cut 0 m s0.c).Ok wc := hsW.cut (by omega) (by omega) (by have := unhide HLE; omega) (Nat.le_refl _)
        have hroot := fun w0 (hb0 : Below wc.heap.size wc w0) => root_ok (s0.cut 0 m s0.c) w0 (hcut.later hb0) (hLW.later hb0) (by have := unhide HBIG; simp only [Hl.cut]; omega)
        rw [show (s0.cut 0 m s0.c).ls = s0.ls.take m from cut_left hsW m s0.c, ← hy] at hroot
        have hcv : (s0.cut 0 m s0.c).v = .slice (a.map fun x => ⟨x.block, x.off + 0 * 32, x.spot⟩) m c := by rw [unhide HS0]; rfl
        rw [hcv] at hroot
        have g3 : (m : Int) ≤ (n : Int) := by have := unhide HN0; omega
        have g4 : (m : Int) ≤ (c : Int) := by have := unhide HN0; have := unhide HLE; have := unhide HC0; omega
        have hnn := hsW.nn
        have HM := hide (show m ≤ s0.n by omega)
        clear h1 h2 h3 hin hy hcv hcut
        cases a with
        | none =>
          have h0 := hnn (by rw [unhide HS0])
          have hn0 : n = 0 := by have := unhide HN0; omega
          have hc0 : c = 0 := by have := unhide HC0; omega
          have hm0 : m = 0 := by have := unhide HM; omega
          subst hn0 hc0 hm0
          simp only [Option.map] at hroot
          clear hnn h0
          go_wp2_with (first
            | (go_at_call 23; refine hI.mono ?_; rintro e w5 ⟨s3, ok3, hR5, rfl, hb5⟩; obtain ⟨rfl, hok3, hck⟩ := (unhide HCK) _ _ _ hR5; have HK3 := hide hck; replace hH := hH.later hb5; replace hb := bnext hb hb.size hb5; replace hLW := hLW.later hb5; have hbr := hb5; clear hb5 hI hR5 hck)
            | (go_at_call 15; refine (hroot _ hbr).mono ?_; rintro e w6 ⟨rfl, hb6⟩; replace hH := hH.later hb6; replace hok3 := hok3.later hb6; replace hb := bnext hb hb.size hb6; replace hLW := hLW.later hb6; clear hb6 hroot)
            | (refine wpList_store_al rfl (.tmp 11) (.tmp 85) rfl hH y hyl.len _ rfl rfl rfl rfl ?_; intro w7 hH7 hb7; replace hH := hH7; replace hok3 := hok3.later hb7; replace hb := bnext hb hb.size hb7; replace hLW := hLW.later hb7; clear hb7 hH7)
            | refine wpList_load_hs hH (.tmp 11) rfl (by kernel_rfl) w6.heap.size y (by simp) hyl.len rfl ?_
            | refine wpList_load_hs hH (.tmp 7) rfl (by kernel_rfl) bh h (by simp) hhl.len rfl ?_
            | (go_at_call 24; refine (checkC_any (0 : Nat) (0 : Nat) y h s3 _ hyl hhl hok3 hLW).mono ?_; rintro e w8 ⟨rfl, hb8⟩; rw [unhide HK3]; replace hb := bnext hb hb.size hb8; clear hb8))
          go_ret
          exact ⟨rfl, hb⟩
        | some ad =>
          simp only [Option.map, Nat.zero_mul, Nat.add_zero] at hroot
          clear hnn
          go_wp2_with (first
            | (go_at_call 23; refine hI.mono ?_; rintro e w5 ⟨s3, ok3, hR5, rfl, hb5⟩; obtain ⟨rfl, hok3, hck⟩ := (unhide HCK) _ _ _ hR5; have HK3 := hide hck; replace hH := hH.later hb5; replace hb := bnext hb hb.size hb5; replace hLW := hLW.later hb5; have hbr := hb5; clear hb5 hI hR5 hck)
            | (go_at_call 15; refine (hroot _ hbr).mono ?_; rintro e w6 ⟨rfl, hb6⟩; replace hH := hH.later hb6; replace hok3 := hok3.later hb6; replace hb := bnext hb hb.size hb6; replace hLW := hLW.later hb6; clear hb6 hroot)
            | (refine wpList_store_al rfl (.tmp 11) (.tmp 85) rfl hH y hyl.len _ rfl rfl rfl rfl ?_; intro w7 hH7 hb7; replace hH := hH7; replace hok3 := hok3.later hb7; replace hb := bnext hb hb.size hb7; replace hLW := hLW.later hb7; clear hb7 hH7)
            | refine wpList_load_hs hH (.tmp 11) rfl (by kernel_rfl) w6.heap.size y (by simp) hyl.len rfl ?_
            | refine wpList_load_hs hH (.tmp 7) rfl (by kernel_rfl) bh h (by simp) hhl.len rfl ?_
            | (go_at_call 24; refine (checkC_any m n y h s3 _ hyl hhl hok3 hLW).mono ?_; rintro e w8 ⟨rfl, hb8⟩; rw [unhide HK3]; replace hb := bnext hb hb.size hb8; clear hb8))
          go_ret
          exact ⟨rfl, hb⟩
end Go.Proofs.YtaidncibndcbfaaDoor
