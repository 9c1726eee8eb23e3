import Derived.Test.YtaidncibndcbfaaDoorQRtsM
set_option linter.unusedVariables false
namespace Go.Proofs.YtaidncibndcbfaaDoor
open Go.RowKit

theorem yields_zero {ops : Array Oper} {S : World → Prop} {o : Oper} {a : Act} (hw : Region.wanted o (yielded ops a.tmps) = true) (ho : o.op = .build 27 #[]) : YieldsIf Tryd.prog ops S o (hV zeroH) a := by
  refine .inl ⟨hw, fun w _ => ?_⟩
  have hb : Tryd.prog.built 27 [] = some (U8 zeroH).toArray := by kernel_rfl
  have hrun := run_build (P := Tryd.prog) w 27 #[] (U8 zeroH).toArray hb
  simp [execOp, ho, hrun, Result.andThen]
  rfl
theorem FLaid.below16 {w w' : World} {B : Nat} (h : FLaid w) (hb : Below B w w') (hB : 0 < B) : FLaid w' := fun i hi => (hb.cell (p := ⟨0, i, none⟩) hB).trans (h i hi)
theorem isB_cat3 {y1 y2 : List Int} (h1 : Hs y1) (h2 : Hs y2) : IsB ([1] ++ y1 ++ y2) := ((isB_one (z := 1) (by omega)).append h1.isB).append h2.isB

set_option maxHeartbeats 8000000 in
set_option maxRecDepth 100000 in
theorem roots_law (s : Hl) (d : Sl) (w : World) (hs : s.Ok w) (hd : d.Ok w) (hL : Ld w) :
    Calls Tryd.prog 4 #[s.v, d.v] w fun e w' => e = .returned (.bool true) ∧ Below w.heap.size w w' := by
  by_cases hbig : 200 < s.n
  · obtain ⟨a, n, c, ls⟩ := s
    simp only [Hl.v, Sl.v] at *
    have g1 : decide ((200 : Int) < (n : Int)) = true := decide_eq_true (by omega)
    have g2 : decide (200 < n) = true := decide_eq_true (by omega)
    clear hs hL hbig hd
    go_enter Tryd.func4, Tryd.ntmps4
    go_wp2
    go_ret
    exact ⟨rfl, Below.refl _ _⟩
  have g1 : decide ((200 : Int) < (s.n : Int)) = false := decide_eq_false (by omega)
  have g2 : decide (200 < s.n) = false := decide_eq_false (by omega)
  by_cases hbd : 4096 < d.n
  · obtain ⟨a, n, c, ls⟩ := s
    obtain ⟨da, dn, dc, l⟩ := d
    simp only [Hl.v, Sl.v] at *
    have g3 : decide ((4096 : Int) < (dn : Int)) = true := decide_eq_true (by omega)
    have g4 : decide (4096 < dn) = true := decide_eq_true (by omega)
    clear hs hL hbig hd
    go_enter Tryd.func4, Tryd.ntmps4
    go_wp2
    go_ret
    exact ⟨rfl, Below.refl _ _⟩
  have g3 : decide ((4096 : Int) < (d.n : Int)) = false := decide_eq_false (by omega)
  have g4 : decide (4096 < d.n) = false := decide_eq_false (by omega)
  have HDN := hide (show d.n ≤ 4096 by omega)
  have hlen := hs.len
  have hle := hs.le
  obtain ⟨h, hh⟩ : ∃ h, h = rootZ16 s.ls := ⟨_, rfl⟩
  have hhl : Hs h := by rw [hh]; exact mroot_hs _ hs.hs
  have HH := hide hh
  have HBIG := hide (show s.n ≤ 200 by omega)
  have HLE := hide hle
  have HLEN := hide hlen
  have hsW := hs
  have hLW := hL
  have hdB := hd.isB
  have hlf := leaf_any d w hd hL
  obtain ⟨lf, hlfe⟩ : ∃ lf, lf = lfZ d.l := ⟨_, rfl⟩
  rw [← hlfe] at hlf
  have hlfl : Hs lf := by rw [hlfe]; exact Hs.sum _
  have HLF := hide hlfe
  clear hbig hbd hh hlen hle hs hL hlfe
  obtain ⟨s0, hs0⟩ : ∃ s0, s0 = s := ⟨_, rfl⟩
  rw [← hs0] at hsW HH HLEN HBIG HLE
  have HS0 := hide hs0
  obtain ⟨d0, hd0⟩ : ∃ d0, d0 = d := ⟨_, rfl⟩
  rw [← hd0] at hd HDN hdB HLF
  have HD0 := hide hd0
  obtain ⟨a, n, c, ls⟩ := s
  obtain ⟨da, dn, dc, l⟩ := d
  have hv0 : s0.v = .slice a n c := by rw [hs0]; rfl
  have hn0 : s0.n = n := by rw [hs0]
  have HN0 := hide hn0
  have hdv : .slice d0.a d0.n d0.c = Value.slice da dn dc := by rw [hd0]
  have HV0 := hide hv0
  have HDV := hide hdv
  have HDN0 : Hid (d0.n = dn) := hide (by rw [hd0])
  clear hs0 hn0 hd0 hv0 hdv
  simp only [Hl.v, Sl.v] at g1 g2 g3 g4 hlf ⊢
  have hb0 : Below w.heap.size w w := Below.refl _ _
  have hH0 : Hold [] w := fun p hp => by cases hp
  go_enter Tryd.func4, Tryd.ntmps4
  go_upto_region 5 with (first
    | (go_at_call 13; refine hlf.mono ?_; rintro e w1 ⟨rfl, hb1⟩; replace hsW := hsW.later hb1; replace hd := hd.later hb1; replace hLW := hLW.later hb1; have hb := bnext hb0 hb0.size hb1; clear hb1 hlf hb0)
    | (refine wpList_app8 rfl (.tmp 23) (.tmp 24) rfl w1.heap.size _ 1 [0] rfl (own_lit1 w1 0) d0 (hd.later ((Below.refl _ _).alloc (Nat.le_refl _) _)) (unhide HDV).symm (by have := unhide HDN; omega) (by simp) ?_; intro v2 w2 hO2 hb2; have hb3 : Below w1.heap.size w1 w2 := ((Below.refl w1.heap.size w1).alloc (Nat.le_refl _) _).trans hb2; replace hsW := hsW.later hb3; replace hLW := hLW.later hb3; replace hb := bnext hb hb.size hb3; clear hb3 hb2)
    | (go_at_call 14; refine (sumO _ _ v2 _ w2 hO2 ((isB_one (z := 0) (by omega)).append hdB) hLW).mono ?_; rintro e w3 ⟨rfl, hb3⟩; rw [show sumZ ([0] ++ d0.l) = lf from (unhide HLF).symm]; replace hsW := hsW.later hb3; replace hLW := hLW.later hb3; replace hb := bnext hb hb.size hb3; clear hb3 hO2)
    | refine wpList_neH (by kernel_rfl) (.tmp 22) (.tmp 26) rfl lf lf hlfl.len hlfl.len true (by simp) rfl rfl ?_)
  have hr1 := root_ok s0 w3 hsW hLW (by have := unhide HBIG; omega)
  rw [unhide HV0, ← unhide HH] at hr1
  have hH : Hold [] w3 := fun p hp => by cases hp
  clear hH0
  go_upto_region 7 with (first
    | (go_at_call 15; refine hr1.mono ?_; rintro e w4 ⟨rfl, hb4⟩; replace hH := hH.later hb4; replace hsW := hsW.later hb4; replace hLW := hLW.later hb4; replace hb := bnext hb hb.size hb4; clear hb4 hr1)
    | (refine wpList_store_al rfl (.tmp 5) (.tmp 31) rfl hH h hhl.len _ rfl rfl rfl rfl ?_; intro w5 hH5 hb5; replace hH := hH5; replace hb := bnext hb hb.size hb5; replace hsW := hsW.later hb5; replace hLW := hLW.later hb5; clear hb5 hH5)
    | (go_at_call 15; refine (root_ok nilH _ (nilH_ok _) hLW (by show 0 ≤ 65536; omega)).mono ?_; rintro e w6 ⟨rfl, hb6⟩; rw [show rootZ16 nilH.ls = nonZ from rootZ16_nil]; replace hH := hH.later hb6; replace hsW := hsW.later hb6; replace hLW := hLW.later hb6; replace hb := bnext hb hb.size hb6; clear hb6)
    | (refine wpList_store_al rfl (.tmp 7) (.tmp 35) rfl hH nonZ nonZ_hs.len _ rfl rfl rfl rfl ?_; intro w7 hH7 hb7; replace hH := hH7; replace hb := bnext hb hb.size hb7; replace hsW := hsW.later hb7; replace hLW := hLW.later hb7; clear hb7 hH7))
  generalize hbe : w4.heap.size = bh at hH ⊢
  generalize hbe2 : w6.heap.size = bn at hH ⊢
  clear hbe hbe2
  replace hb := bnext hb hb.size (drew_below _)
  replace hLW := hLW.later (drew_below _)
  replace hsW := hsW.later (drew_below _)
  refine wp_region_held_drew (S := fun w9 => Hold [(bn, nonZ), (bh, h)] w9) (by kernel_rfl) hH.drew (fun hHeld => ?_)
  generalize World.drew _ = v1 at hHeld hb hLW hsW ⊢
  refine wpAnyH_take (i := 0) (oi := _) (v := .bool true) rfl (by kernel_rfl) (by kernel_rfl) (by kernel_rfl) (fun _ _ _ h => h) (Or.inl ⟨by rfl, fun w hSw => by go_simp⟩) hHeld ?_
  simp [Act.put]
  refine wpAnyH_take (i := 1) (oi := _) (v := .bool false) rfl (by kernel_rfl) (by kernel_rfl) (by kernel_rfl) (fun _ _ _ h => h) (Or.inl ⟨by rfl, fun w hSw => by go_simp⟩) hHeld ?_
  simp [Act.put]
  refine wpAnyH_take (i := 2) (oi := _) (v := .bool false) rfl (by kernel_rfl) (by kernel_rfl) (by kernel_rfl) (fun _ _ _ h => h) (Or.inl ⟨by rfl, fun w hSw => by go_simp⟩) hHeld ?_
  simp [Act.put]
  refine wpAnyH_take (i := 3) (oi := _) (v := .bool true) rfl (by kernel_rfl) (by kernel_rfl) (by kernel_rfl) (fun _ _ _ h => h) (Or.inl ⟨by rfl, fun w hSw => by go_simp⟩) hHeld ?_
  simp [Act.put]
  refine wpAnyH_take (i := 4) (oi := _) (v := .bool false) rfl (by kernel_rfl) (by kernel_rfl) (by kernel_rfl) (fun _ _ _ h => h) (Or.inl ⟨by rfl, fun w hSw => by go_simp⟩) hHeld ?_
  simp [Act.put]
  refine wpAnyH_take (i := 5) (oi := _) (v := .bool false) rfl (by kernel_rfl) (by kernel_rfl) (by kernel_rfl) (fun _ _ _ h => h) (Or.inl ⟨by rfl, fun w hSw => by go_simp⟩) hHeld ?_
  simp [Act.put]
  refine wpAnyH_take (i := 6) (oi := _) (v := .bool false) rfl (by kernel_rfl) (by kernel_rfl) (by kernel_rfl) (fun _ _ _ h => h) (Or.inl ⟨by rfl, fun w hSw => by go_simp⟩) hHeld ?_
  simp [Act.put]
  refine wpAnyH_take (i := 7) (oi := _) (v := hV nonZ) rfl (by kernel_rfl) (by kernel_rfl) (by kernel_rfl) (fun _ _ _ h => h) (yields_hs (by kernel_rfl) (.tmp 7) rfl bn nonZ (by simp) nonZ_hs.len rfl) hHeld ?_
  simp [Act.put]
  refine wpAnyH_ready (rs := [8]) (by kernel_rfl) (by simp) ?_
  refine AllReadyH.cons rfl (fun K hKK => ?_) AllReadyH.nil
  go_simp
  refine (sumS ⟨none, 0, 0, []⟩ _ ⟨rfl, Nat.le_refl _, Nat.zero_le _, fun _ => ⟨rfl, rfl⟩, (fun x hx => by cases hx), Lies.nil _ _⟩ hLW).mono ?_
  rintro e v6 ⟨rfl, hb6⟩
  replace hb := bnext hb hb.size hb6
  replace hLW := hLW.later hb6
  replace hsW := hsW.later hb6
  refine hKK.out _ _ (hHeld.later hb6) (fun hHeld => ?_)
  clear hKK K hb6
  rw [show sumZ (Sl.mk none 0 0 []).l = nonZ from rfl]
  refine wpAnyH_take (i := 9) (oi := _) (v := .bool (!true)) rfl (by kernel_rfl) (by kernel_rfl) (by kernel_rfl) (fun _ _ _ h => h) (yields_neH (by kernel_rfl) (.tmp 44) (.tmp 45) rfl nonZ nonZ nonZ_hs.len nonZ_hs.len true (by simp) rfl rfl) hHeld ?_
  simp [Act.put]
  refine wpAnyH_take (i := 10) (oi := _) (v := .bool false) rfl (by kernel_rfl) (by kernel_rfl) (by kernel_rfl) (fun _ _ _ h => h) (Or.inl ⟨by rfl, fun w hSw => by go_simp⟩) hHeld ?_
  simp [Act.put]
  refine wpAnyH_take (i := 11) (oi := _) (v := .bool false) rfl (by kernel_rfl) (by kernel_rfl) (by kernel_rfl) (fun _ _ _ h => h) (Or.inl ⟨by rfl, fun w hSw => by go_simp⟩) hHeld ?_
  simp [Act.put]
  refine wpAnyH_take (i := 12) (oi := _) (v := hV nonZ) rfl (by kernel_rfl) (by kernel_rfl) (by kernel_rfl) (fun _ _ _ h => h) (yields_hs (by kernel_rfl) (.tmp 7) rfl bn nonZ (by simp) nonZ_hs.len rfl) hHeld ?_
  simp [Act.put]
  refine wpAnyH_take (i := 13) (oi := _) (v := hV zeroH) rfl (by kernel_rfl) (by kernel_rfl) (by kernel_rfl) (fun _ _ _ h => h) (yields_zero (by kernel_rfl) rfl) hHeld ?_
  simp [Act.put]
  refine wpAnyH_take (i := 14) (oi := _) (v := .bool false) rfl (by kernel_rfl) (by kernel_rfl) (by kernel_rfl) (fun _ _ _ h => h) (yields_eqH (by kernel_rfl) (.tmp 49) (.tmp 50) rfl nonZ zeroH nonZ_hs.len zeroH_hs.len false (eqB_ne non_zero) rfl rfl) hHeld ?_
  simp [Act.put]
  refine wpAnyH_take (i := 15) (oi := _) (v := .bool false) rfl (by kernel_rfl) (by kernel_rfl) (by kernel_rfl) (fun _ _ _ h => h) (Or.inl ⟨by rfl, fun w hSw => by go_simp⟩) hHeld ?_
  simp [Act.put]
  refine wpAnyH_done (by kernel_rfl) ?_ _
  have hH := hHeld
  clear hHeld
  by_cases h0 : n = 0
  · subst h0
    have hhe : h = nonZ := by
      have : s0.ls = [] := List.length_eq_zero_iff.1 (by rw [unhide HLEN, unhide HN0])
      rw [unhide HH, this, rootZ16_nil]
    go_wp2_with (first
      | refine wpList_load_hs hH (.tmp 5) rfl (by kernel_rfl) bh h (by simp) hhl.len rfl ?_
      | refine wpList_load_hs hH (.tmp 7) rfl (by kernel_rfl) bn nonZ (by simp) nonZ_hs.len rfl ?_
      | refine wpList_eqH (by kernel_rfl) (.tmp 56) (.tmp 57) rfl h nonZ hhl.len nonZ_hs.len true (decide_eq_true hhe) rfl rfl ?_)
    go_ret
    exact ⟨rfl, hb⟩
  have g5 : decide ((n : Int) = 0) = false := decide_eq_false (by omega)
  have g6 : decide (n = 0) = false := decide_eq_false h0
  have g7 : ((n : Int) == 0) = false := by simp; omega
  by_cases h1 : n = 1
  · subst h1
    obtain ⟨x, hx⟩ : ∃ x, s0.ls = [x] := List.length_eq_one_iff.1 (by rw [unhide HLEN, unhide HN0])
    obtain ⟨b, off, ha, hbl, hX, hxh⟩ := hsW.at_ (i := 0) (l := x) (by rw [hx]; rfl)
    have hhe : h = x := by rw [unhide HH, hx, rootZ16_one]
    subst hhe
    have haa : a = some ⟨b, off, none⟩ := by rw [← ha, unhide HS0]
    subst haa
    rw [Nat.zero_mul, Nat.add_zero] at hX
    clear hx ha
    go_upto_region 12 with fail
    refine wp_region_noPanic ?_
    replace hb := bnext hb hb.size (drew_below _)
    refine wp_region_held_drew (S := fun w9 => w9.rangeAt b off (U8 h) ∧ Hold [(bh, h)] w9) (by kernel_rfl) ⟨hX, (hH.mono (by simp)).drew⟩ (fun hHeld => ?_)
    generalize World.drew _ = v1 at hHeld hb hX ⊢
    refine wpAnyH_take (i := 0) (oi := _) (v := hV h) rfl (by kernel_rfl) (by kernel_rfl) (by kernel_rfl) (fun _ _ _ h => h) (yieldsIf_load_mid (by rfl) _ _ rfl _ _ rfl (U8 h) _ (fun _ h9 => arr_range (h9.2.at_ (g := bh) (l := h) (by simp))) Tryd.underlying27 rfl (hz_of' hhl.len)) hHeld ?_
    simp [Act.put]
    refine wpAnyH_take (i := 1) (oi := _) (v := .slice (some ⟨b, off, none⟩) 1 c) rfl (by kernel_rfl) (by kernel_rfl) (by kernel_rfl) (fun _ _ _ h => h) (Or.inl ⟨by rfl, fun w hSw => by go_simp⟩) hHeld ?_
    simp [Act.put]
    refine wpAnyH_take (i := 2) (oi := _) (v := .pointer (some ⟨b, off, none⟩)) rfl (by kernel_rfl) (by kernel_rfl) (by kernel_rfl) (fun _ _ _ h => h) (Or.inl ⟨by rfl, fun w hSw => by go_simp⟩) hHeld ?_
    simp [Act.put]
    refine wpAnyH_take (i := 3) (oi := _) (v := hV h) rfl (by kernel_rfl) (by kernel_rfl) (by kernel_rfl) (fun _ _ _ h => h) (yieldsIf_load_mid (by rfl) _ _ rfl _ _ rfl (U8 h) _ (fun _ h9 => h9.1) Tryd.underlying27 rfl (hz_of' hhl.len)) hHeld ?_
    simp [Act.put]
    refine wpAnyH_take (i := 4) (oi := _) (v := .bool true) rfl (by kernel_rfl) (by kernel_rfl) (by kernel_rfl) (fun _ _ _ h => h) (yields_eqH (by kernel_rfl) (.tmp 62) (.tmp 65) rfl h h hhl.len hhl.len true (by simp) rfl rfl) hHeld ?_
    simp [Act.put]
    refine wpAnyH_take (i := 5) (oi := _) (v := .bool true) rfl (by kernel_rfl) (by kernel_rfl) (by kernel_rfl) (fun _ _ _ h => h) (Or.inl ⟨by rfl, fun w hSw => by go_simp⟩) hHeld ?_
    simp [Act.put]
    refine wpAnyH_done (by kernel_rfl) ?_ _
    unfold NoPanic
    go_wp2
    go_ret
    exact ⟨rfl, hb⟩
  have g8 : decide ((n : Int) = 1) = false := decide_eq_false (by omega)
  have g9 : decide (n = 1) = false := decide_eq_false h1
  have g10 : ((n : Int) == 1) = false := by simp; omega
  have h2 : 2 ≤ n := by omega
  have hsp := halfN_spec n h2
  obtain ⟨k, hk⟩ : ∃ k, k = halfN n := ⟨_, rfl⟩
  have hf := fun w0 => half_any n w0 h2 (by have := unhide HN0; have := unhide HBIG; omega)
  rw [← hk] at hf hsp
  have hnn := hsW.nn
  obtain ⟨bb, off, had, -, -⟩ := hsW.lies (by have := unhide HN0; omega)
  have haa : a = some ⟨bb, off, none⟩ := by rw [← had, unhide HS0]
  subst haa
  clear had
  have HC0 : Hid (s0.c = c) := hide (by rw [unhide HS0])
  obtain ⟨y1, hy1⟩ : ∃ y1, y1 = rootZ16 (s0.ls.take k) := ⟨_, rfl⟩
  have hy1l : Hs y1 := by rw [hy1]; exact mroot_hs _ (fun l hl => hsW.hs l (List.mem_of_mem_take hl))
  obtain ⟨y2, hy2⟩ : ∃ y2, y2 = rootZ16 (s0.ls.drop k) := ⟨_, rfl⟩
  have hy2l : Hs y2 := by rw [hy2]; exact mroot_hs _ (fun l hl => hsW.hs l (List.mem_of_mem_drop hl))
  have HND : Hid (h = ndZ y1 y2) := hide (by
    rw [unhide HH, rootZ16_big (by rw [unhide HLEN, unhide HN0]; exact h2), hy1, hy2, unhide HLEN, unhide HN0, ← hk])
  have HSM : Hid (sumZ ([1] ++ y1 ++ y2) = h) := hide (by rw [unhide HND]; unfold ndZ; simp)
  have HISB : Hid (IsB ([1] ++ y1 ++ y2)) := hide (isB_cat3 hy1l hy2l)
  obtain ⟨hcl, hcr⟩ : (s0.cut 0 k s0.c).Ok v6 ∧ (s0.cut k s0.n s0.c).Ok v6 := ⟨hsW.cut (by omega) (by have := unhide HN0; omega) (by have := unhide HN0; have := unhide HLE; omega) (Nat.le_refl _), hsW.cut (by have := unhide HN0; omega) (Nat.le_refl _) (unhide HLE) (Nat.le_refl _)⟩
  have hr1 := fun w0 (hb0 : Below v6.heap.size v6 w0) => root_ok (s0.cut 0 k s0.c) w0 (hcl.later hb0) (hLW.later hb0) (by have := unhide HBIG; have := unhide HN0; simp only [Hl.cut]; omega)
  have hr2 := fun w0 (hb0 : Below v6.heap.size v6 w0) => root_ok (s0.cut k s0.n s0.c) w0 (hcr.later hb0) (hLW.later hb0) (by have := unhide HBIG; simp only [Hl.cut]; omega)
  rw [show (s0.cut 0 k s0.c).ls = s0.ls.take k from cut_left hsW k s0.c, ← hy1, show (s0.cut 0 k s0.c).v = .slice (some ⟨bb, off, none⟩) k c by rw [unhide HS0]; simp [Hl.cut, Hl.v]] at hr1
  rw [show (s0.cut k s0.n s0.c).ls = s0.ls.drop k from cut_right hsW k s0.c, ← hy2, show (s0.cut k s0.n s0.c).v = .slice (some ⟨bb, off + k * 32, none⟩) (n - k) (c - k) by rw [unhide HS0]; simp [Hl.cut, Hl.v]] at hr2
  have g11 : (k : Int) ≤ (c : Int) := by have := unhide HN0; have := unhide HLE; have := unhide HC0; omega
  have g12 : (k : Int) ≤ (n : Int) := by omega
  have g13 : (n : Int) ≤ (c : Int) := by have := unhide HN0; have := unhide HLE; have := unhide HC0; omega
  have g14 : k < c := by have := unhide HN0; have := unhide HLE; have := unhide HC0; omega
  have g15 : ¬ (c - k = 0) := by omega
  have hbr : Below v6.heap.size v6 v6 := Below.refl _ _
  clear hnn hcl hcr hy1 hy2 hk hsp
  go_upto_region 16 with (first
    | (go_at_call 16; refine (hf _).mono ?_; rintro e wa ⟨rfl, hwa⟩; obtain rfl := hwa.symm)
    | (go_at_call 15; refine (hr1 _ hbr).mono ?_; rintro e wb ⟨rfl, hb4⟩; replace hH := hH.later hb4; replace hbr := bnext hbr hbr.size hb4; replace hLW := hLW.later hb4; replace hb := bnext hb hb.size hb4; clear hb4 hr1)
    | (refine wpList_store_al rfl (.tmp 10) (.tmp 75) rfl hH y1 hy1l.len _ rfl rfl rfl rfl ?_; intro wc hH5 hb5; replace hH := hH5; replace hb := bnext hb hb.size hb5; replace hbr := bnext hbr hbr.size hb5; replace hLW := hLW.later hb5; clear hb5 hH5)
    | (go_at_call 15; refine (hr2 _ hbr).mono ?_; rintro e wd ⟨rfl, hb4⟩; replace hH := hH.later hb4; replace hLW := hLW.later hb4; replace hb := bnext hb hb.size hb4; clear hb4 hr2)
    | (refine wpList_store_al rfl (.tmp 11) (.tmp 82) rfl hH y2 hy2l.len _ rfl rfl rfl rfl ?_; intro we hH5 hb5; replace hH := hH5; replace hb := bnext hb hb.size hb5; replace hLW := hLW.later hb5; clear hb5 hH5))
  generalize hbe : wb.heap.size = b1 at hH ⊢
  generalize hbe2 : wd.heap.size = b2 at hH ⊢
  clear hbe hbe2 hbr
  refine wp_region_noPanic ?_
  replace hb := bnext hb hb.size (drew_below _)
  replace hLW := hLW.later (drew_below _)
  refine wp_region_held_drew (S := fun w9 => Hold [(b2, y2), (b1, y1), (bn, nonZ), (bh, h)] w9) (by kernel_rfl) hH.drew (fun hHeld => ?_)
  generalize World.drew _ = v1 at hHeld hb hLW ⊢
  have hbs : w.heap.size ≤ v1.heap.size := hb.size
  have hLv := hLW.lt16
  refine wpAnyH_take (i := 1) (oi := _) (v := .slice (some ⟨b1, 0, none⟩) 32 32) rfl (by kernel_rfl) (by kernel_rfl) (by kernel_rfl) (fun _ _ _ h => h) (Or.inl ⟨by rfl, fun w hSw => by go_simp⟩) hHeld ?_
  simp [Act.put]
  refine wpAnyH_take (i := 3) (oi := _) (v := .slice (some ⟨b2, 0, none⟩) 32 32) rfl (by kernel_rfl) (by kernel_rfl) (by kernel_rfl) (fun _ _ _ h => h) (Or.inl ⟨by rfl, fun w hSw => by go_simp⟩) hHeld ?_
  simp [Act.put]
  refine wpAnyH_ready (rs := [0]) (by kernel_rfl) (by simp) ?_
  refine AllReadyH.cons rfl (fun K hKK => ?_) AllReadyH.nil
  go_simp
  obtain ⟨W7, hW7, hO7⟩ : ∃ W7, W7 = v1.alloc (.cells #[.int .u8 1] 5) ∧ W7.ownsRow v1.heap.size 5 1 (.slice (some ⟨v1.heap.size, 0, none⟩) 1 1) 1 (U8 [1]) := ⟨_, rfl, own_lit1 v1 1⟩
  have hb7 : Below v1.heap.size v1 W7 := by rw [hW7]; exact (Below.refl _ _).alloc (Nat.le_refl _) _
  rw [← hW7]
  clear hW7
  obtain ⟨B, hB⟩ : ∃ B, B = v1.heap.size := ⟨_, rfl⟩
  have hrb : ∀ p ∈ [(b2, y2), (b1, y1), (bn, nonZ), (bh, h)], p.1 < B := fun p hp => by rw [hB]; exact (hHeld p hp).lt
  replace hb := bnext hb hb.size hb7
  replace hLW := hLW.later hb7
  have hBs := hb7.size
  rw [← hB] at hO7 hBs ⊢
  have HBw : Hid (w.heap.size ≤ B ∧ 3 < B ∧ 0 < B) := hide (by rw [hB]; exact ⟨hbs, hLv⟩)
  refine hKK.out _ _ (hHeld.later hb7) (fun hHeld => ?_)
  clear hKK K hb7 hB
  refine wpAnyH_ready (rs := [2]) (by kernel_rfl) (by simp) ?_
  refine AllReadyH.cons rfl (fun K hKK => ?_) AllReadyH.nil
  refine step_app8 rfl (.tmp 84) (.tmp 85) rfl B _ 1 [1] rfl hO7 b1 y1 32 32 rfl (hHeld.at_ (g := b1) (l := y1) (by simp)) hy1l.len (by omega) hBs ?_
  intro vv8 W8 hO8 hb8
  replace hLW : Ld W8 := ⟨hLW.1.below hb8 (unhide HBw).2.1, hLW.2.below16 hb8 (unhide HBw).2.2⟩
  replace hb := hb.trans (hb8.mono (unhide HBw).1)
  replace hBs := Nat.le_trans hBs hb8.size
  simp only [Act.put]
  refine hKK.out _ _ (Hold.below hHeld hb8 hrb) (fun hHeld => ?_)
  clear hKK K hb8 hO7
  refine wpAnyH_ready (rs := [4]) (by kernel_rfl) (by simp) ?_
  refine AllReadyH.cons rfl (fun K hKK => ?_) AllReadyH.nil
  refine step_app8 rfl (.tmp 86) (.tmp 87) rfl B vv8 (1 + 32) ([1] ++ y1) rfl hO8 b2 y2 32 32 rfl (hHeld.at_ (g := b2) (l := y2) (by simp)) hy2l.len (by omega) hBs ?_
  intro vv9 W9 hO9 hb8
  replace hLW : Ld W9 := ⟨hLW.1.below hb8 (unhide HBw).2.1, hLW.2.below16 hb8 (unhide HBw).2.2⟩
  replace hb := hb.trans (hb8.mono (unhide HBw).1)
  replace hBs := Nat.le_trans hBs hb8.size
  simp only [Act.put]
  refine hKK.out _ _ (Hold.below hHeld hb8 hrb) (fun hHeld => ?_)
  clear hKK K hb8 hO8
  refine wpAnyH_take (i := 5) (oi := _) (v := vv9) rfl (by kernel_rfl) (by kernel_rfl) (by kernel_rfl) (fun _ _ _ h => h) (Or.inl ⟨by rfl, fun w hSw => by go_simp⟩) hHeld ?_
  simp [Act.put]
  refine wpAnyH_done (by kernel_rfl) ?_ _
  unfold NoPanic
  go_upto_region 17 with fail
  refine wp_region_noPanic ?_
  replace hb := bnext hb hb.size (drew_below _)
  replace hLW := hLW.later (drew_below _)
  replace hO9 := own_later hO9 (drew_below _)
  refine wp_region_held_drew (S := fun w9 => Hold [(b2, y2), (b1, y1), (bn, nonZ), (bh, h)] w9) (by kernel_rfl) (hHeld.drew) (fun hHeld => ?_)
  generalize World.drew _ = v1 at hHeld hb hLW hO9 ⊢
  refine wpAnyH_take (i := 0) (oi := _) (v := .bool true) rfl (by kernel_rfl) (by kernel_rfl) (by kernel_rfl) (fun _ _ _ h => h) (Or.inl ⟨by rfl, fun w hSw => by go_simp⟩) hHeld ?_
  simp [Act.put]
  refine wpAnyH_take (i := 1) (oi := _) (v := .bool true) rfl (by kernel_rfl) (by kernel_rfl) (by kernel_rfl) (fun _ _ _ h => h) (Or.inl ⟨by rfl, fun w hSw => by go_simp⟩) hHeld ?_
  simp [Act.put]
  refine wpAnyH_take (i := 2) (oi := _) (v := .bool true) rfl (by kernel_rfl) (by kernel_rfl) (by kernel_rfl) (fun _ _ _ h => h) (Or.inl ⟨by rfl, fun w hSw => by go_simp⟩) hHeld ?_
  simp [Act.put]
  refine wpAnyH_take (i := 3) (oi := _) (v := .bool true) rfl (by kernel_rfl) (by kernel_rfl) (by kernel_rfl) (fun _ _ _ h => h) (Or.inl ⟨by rfl, fun w hSw => by go_simp⟩) hHeld ?_
  simp [Act.put]
  refine wpAnyH_take (i := 4) (oi := _) (v := .bool true) rfl (by kernel_rfl) (by kernel_rfl) (by kernel_rfl) (fun _ _ _ h => h) (Or.inl ⟨by rfl, fun w hSw => by go_simp⟩) hHeld ?_
  simp [Act.put]
  refine wpAnyH_take (i := 5) (oi := _) (v := hV h) rfl (by kernel_rfl) (by kernel_rfl) (by kernel_rfl) (fun _ _ _ h => h) (yields_hs (by kernel_rfl) (.tmp 5) rfl bh h (by simp) hhl.len rfl) hHeld ?_
  simp [Act.put]
  refine wpAnyH_take (i := 6) (oi := _) (v := hV y1) rfl (by kernel_rfl) (by kernel_rfl) (by kernel_rfl) (fun _ _ _ h => h) (yields_hs (by kernel_rfl) (.tmp 10) rfl b1 y1 (by simp) hy1l.len rfl) hHeld ?_
  simp [Act.put]
  refine wpAnyH_take (i := 7) (oi := _) (v := hV y2) rfl (by kernel_rfl) (by kernel_rfl) (by kernel_rfl) (fun _ _ _ h => h) (yields_hs (by kernel_rfl) (.tmp 11) rfl b2 y2 (by simp) hy2l.len rfl) hHeld ?_
  simp [Act.put]
  refine wpAnyH_ready (rs := [8]) (by kernel_rfl) (by simp) ?_
  refine AllReadyH.cons rfl (fun K hKK => ?_) AllReadyH.nil
  go_simp
  refine (node_any y1 y2 _ hy1l hy2l hLW).mono ?_
  rintro e v6 ⟨rfl, hb6⟩
  replace hb := bnext hb hb.size hb6
  replace hLW := hLW.later hb6
  replace hO9 := own_later hO9 hb6
  refine hKK.out _ _ (hHeld.later hb6) (fun hHeld => ?_)
  clear hKK K hb6
  rw [← unhide HND]
  refine wpAnyH_take (i := 9) (oi := _) (v := .bool true) rfl (by kernel_rfl) (by kernel_rfl) (by kernel_rfl) (fun _ _ _ h => h) (yields_eqH (by kernel_rfl) (.tmp 94) (.tmp 97) rfl h h hhl.len hhl.len true (by simp) rfl rfl) hHeld ?_
  simp [Act.put]
  refine wpAnyH_take (i := 10) (oi := _) (v := .bool true) rfl (by kernel_rfl) (by kernel_rfl) (by kernel_rfl) (fun _ _ _ h => h) (Or.inl ⟨by rfl, fun w hSw => by go_simp⟩) hHeld ?_
  simp [Act.put]
  refine wpAnyH_take (i := 11) (oi := _) (v := .bool true) rfl (by kernel_rfl) (by kernel_rfl) (by kernel_rfl) (fun _ _ _ h => h) (Or.inl ⟨by rfl, fun w hSw => by go_simp⟩) hHeld ?_
  simp [Act.put]
  refine wpAnyH_take (i := 12) (oi := _) (v := hV h) rfl (by kernel_rfl) (by kernel_rfl) (by kernel_rfl) (fun _ _ _ h => h) (yields_hs (by kernel_rfl) (.tmp 5) rfl bh h (by simp) hhl.len rfl) hHeld ?_
  simp [Act.put]
  refine wpAnyH_take (i := 13) (oi := _) (v := vv9) rfl (by kernel_rfl) (by kernel_rfl) (by kernel_rfl) (fun _ _ _ h => h) (Or.inl ⟨by rfl, fun w hSw => by go_simp⟩) hHeld ?_
  simp [Act.put]
  refine wpAnyH_ready (rs := [14]) (by kernel_rfl) (by simp) ?_
  refine AllReadyH.cons rfl (fun K hKK => ?_) AllReadyH.nil
  go_simp
  refine (sumO B _ vv9 _ _ hO9 (unhide HISB) hLW).mono ?_
  rintro e v7 ⟨rfl, hb6⟩
  replace hb := bnext hb hb.size hb6
  refine hKK.out _ _ (hHeld.later hb6) (fun hHeld => ?_)
  clear hKK K hb6
  rw [show sumZ ([1] ++ y1 ++ y2) = h from (unhide HSM)]
  refine wpAnyH_take (i := 15) (oi := _) (v := .bool true) rfl (by kernel_rfl) (by kernel_rfl) (by kernel_rfl) (fun _ _ _ h => h) (yields_eqH (by kernel_rfl) (.tmp 101) (.tmp 103) rfl h h hhl.len hhl.len true (by simp) rfl rfl) hHeld ?_
  simp [Act.put]
  refine wpAnyH_take (i := 16) (oi := _) (v := .bool true) rfl (by kernel_rfl) (by kernel_rfl) (by kernel_rfl) (fun _ _ _ h => h) (Or.inl ⟨by rfl, fun w hSw => by go_simp⟩) hHeld ?_
  simp [Act.put]
  refine wpAnyH_take (i := 17) (oi := _) (v := .bool true) rfl (by kernel_rfl) (by kernel_rfl) (by kernel_rfl) (fun _ _ _ h => h) (Or.inl ⟨by rfl, fun w hSw => by go_simp⟩) hHeld ?_
  simp [Act.put]
  refine wpAnyH_done (by kernel_rfl) ?_ _
  unfold NoPanic
  go_wp2
  go_ret
  exact ⟨rfl, hb⟩
end Go.Proofs.YtaidncibndcbfaaDoor
