import Derived.Test.YtkagnpnicbddlaaDoorWriteM
import Derived.Test.YtkagnpnicbddlaaDoorRefBlockW
import Derived.Laws.Cover3
namespace Go.Proofs.YtkagnpnicbddlaaDoor
open Go.RowKit

theorem Tryd.sz1v : (Tryd.prog.info? 5).map (·.size) = some 1 := by kernel_rfl

theorem lies_src {w : World} {a : Option Addr} {l : List Int} (h : Lies w a l) (c : Nat) : 0 < (U8 (l.take c)).length → ∃ ad, a = some ad ∧ ∀ j v, (U8 (l.take c))[j]? = some v → w.cell? (ad.add j) = some v := by
  intro hp
  have hp' : 0 < l.length := by simp at hp; omega
  obtain ⟨b, off, rfl, _, hc⟩ := h hp'
  refine ⟨_, rfl, fun j v hv => ?_⟩
  have hj : j < (l.take c).length := by
    by_cases hj : j < (l.take c).length
    · exact hj
    · rw [List.getElem?_eq_none (by simp; simp at hj; omega)] at hv; simp at hv
  rw [U8_at _ j hj] at hv
  simp only [Option.some.injEq] at hv
  subst hv
  have hj2 : j < l.length ∧ j < c := by simp at hj; omega
  rw [addr_add, hc j hj2.1]
  congr 2
  simp [hj2.2]

set_option maxHeartbeats 2000000 in
set_option maxRecDepth 100000 in
theorem write_any (g : Nat) (M l : List Int) (a : Option Addr) (len cap : Nat) (w : World) (hD : Dg w g M) (hK : KLaid w) (hgK : 2 ≠ g)
    (hl : l.length = len) (hB : IsB l) (hlies : Lies w a l) (hblk : 0 < l.length → ∀ x, a = some x → x.block ≠ g) (h2 : len ≤ cap) (h3 : cap ≤ maxLen) :
    Calls Tryd.prog 25 #[.pointer (some ⟨g, 0, none⟩), .slice a len cap] w fun e w' => e = .returned (.tuple #[]) ∧ Dg w' g (M ++ l) ∧ But g w w' := by
  unfold maxLen at h3
  obtain ⟨st, held, hR, hst, hhd, hMB⟩ := hD
  have hmx : cap ≤ 9223372036854775807 := by omega
  clear h3
  obtain ⟨n, hn⟩ : ∃ n : Int, n = (M.length : Int) % 18446744073709551616 := ⟨_, rfl⟩
  rw [← hn] at hR
  obtain ⟨r, hr, hr64, hrM⟩ : ∃ r : Nat, n % 64 = r ∧ r < 64 ∧ M.length % 64 = r := ⟨M.length % 64, by omega, by omega, rfl⟩
  have hn0 : 0 ≤ n := by omega
  have hn1 : n < 18446744073709551616 := by omega
  have HN := hide hn
  have HRM := hide hrM
  have HL := hide hl
  have HHD := hide hhd
  have HST := hide hst
  clear hn hrM hl hhd hst
  have cn := hR.cellN
  have fn := hR.arr.frozen 72
  obtain ⟨N, hN⟩ : ∃ N, N = IntKind.u64.wrap (n + len) := ⟨_, rfl⟩
  have HNN := hide hN
  by_cases hr0 : r = 0
  · subst hr0
    have hrz : n % 64 = 0 := hr
    clear hr
    have I0 := WI.start (w := w) (M := M) (hR.setN (IntKind.u64.wrap (n + len))) (unhide HST) (unhide HRM) (unhide HL) hlies hblk h2 hmx ((But.refl g w).setCell 72 _) hK hgK
    have HI0 := hide I0
    clear I0 hN
    go_enter Tryd.func25, Tryd.ntmps25
    go_wp2_with fail
    rw [hrz]
    clear hrz
    have I0 := unhide HI0
    clear HI0
    generalize w.setCell ⟨g, 72, none⟩ (.int .u64 (IntKind.u64.wrap (n + len))) = W1 at I0 ⊢
    generalize hNX : IntKind.u64.wrap (n + len) = N' at *
    have HNX := hide hNX.symm
    clear hNX
    go_loopw [1] (fun v wr => ∃ b k cp p st held, v = .slice b k cp ∧ WI w g M l N' b k cp p st held wr) (fun v _ => slLen v)
    case atStart => exact ⟨_, _, _, _, _, _, rfl, I0⟩
    case round =>
      clear I0
      obtain ⟨bb, k, cp, p, st1, held1, rfl, I⟩ := hrel
      by_cases hk : 64 ≤ k
      · obtain ⟨bk, off, hbe, hbg, hbl, hrg, hXl⟩ := I.here hk
        subst hbe
        have hkz : (64 : Int) ≤ (k : Int) := by omega
        have hXB : IsB ((l.drop p).take 64) := fun x hx => hB x (List.mem_of_mem_drop (List.mem_of_mem_take hx))
        obtain ⟨X, hX⟩ : ∃ X, X = (l.drop p).take 64 := ⟨_, rfl⟩
        rw [← hX] at hrg hXl hXB
        have hD := I.dig
        have hz8 : (Tryd.prog.info? 69).map (·.size) = some (U32 st1).length := by rw [Tryd.sz8w]; simp [hD.stl]
        have hzb : (Tryd.prog.info? 35).map (·.size) = some (U8 X).length := by rw [Tryd.sz64b]; simp [hXl]
        obtain ⟨R, hRR⟩ : ∃ R, R = blockZ st1 X := ⟨_, rfl⟩
        have hRl : R.length = 8 := by rw [hRR]; exact blockZ_length _ _ hD.stl
        have hRW : IsW R := by rw [hRR]; exact blockZ_isW _ _
        have hK4 := I.kon
        have HRR := hide hRR
        have HRl := hide hRl
        have HXl := hide hXl
        have HX4 := hide hX
        have HI := hide I
        clear hRR hRl hXl hX I
        go_wp2_with fail
        refine wp_region_noPanic ?_
        refine wp_region_held_drew (S := fun w' => w'.rangeAt bk off (U8 X)) (by kernel_rfl) hrg (fun hHeld => ?_)
        refine wpAnyH_take (i := 0) (oi := _) (v := (.pointer (some ⟨g, 0, none⟩))) rfl (by kernel_rfl) (by kernel_rfl) (by kernel_rfl) (fun _ _ _ h => h) (Or.inl ⟨by rfl, fun w hSw => by go_simp⟩) hHeld ?_
        simp [Act.put]
        refine wpAnyH_take (i := 1) (oi := _) (v := (.pointer (some ⟨g, 0, none⟩))) rfl (by kernel_rfl) (by kernel_rfl) (by kernel_rfl) (fun _ _ _ h => h) (Or.inl ⟨by rfl, fun w hSw => by go_simp⟩) hHeld ?_
        simp [Act.put]
        refine wpAnyH_take (i := 2) (oi := _) (v := (.pointer (some ⟨g, 0, none⟩))) rfl (by kernel_rfl) (by kernel_rfl) (by kernel_rfl) (fun _ _ _ h => h) (Or.inl ⟨by rfl, fun w hSw => by go_simp⟩) hHeld ?_
        simp [Act.put]
        refine wpAnyH_take (i := 3) (oi := _) (v := (.pointer (some ⟨g, 0, none⟩))) rfl (by kernel_rfl) (by kernel_rfl) (by kernel_rfl) (fun _ _ _ h => h) (Or.inl ⟨by rfl, fun w hSw => by go_simp⟩) hHeld ?_
        simp [Act.put]
        refine wpAnyH_take (i := 5) (oi := _) (v := (.slice (some ⟨bk, off, none⟩) k cp)) rfl (by kernel_rfl) (by kernel_rfl) (by kernel_rfl) (fun _ _ _ h => h) (Or.inl ⟨by rfl, fun w hSw => by go_simp⟩) hHeld ?_
        simp [Act.put]
        refine wpAnyH_take (i := 6) (oi := _) (v := (.pointer (some ⟨bk, off, none⟩))) rfl (by kernel_rfl) (by kernel_rfl) (by kernel_rfl) (fun _ _ _ h => h) (Or.inl ⟨by rfl, fun w hSw => by have har := run_arrayAt w 35 5 64 (some ⟨bk, off, none⟩) k cp Tryd.underlying35 hk; go_simp⟩) hHeld ?_
        simp [Act.put]
        refine wpAnyH_take (i := 7) (oi := _) (v := _) rfl (by kernel_rfl) (by kernel_rfl) (by kernel_rfl) (fun _ _ _ h => h) (yieldsIf_load_mid (by rfl) _ _ rfl _ _ rfl _ _ (fun _ h => h) Tryd.underlying35 rfl hzb) hHeld ?_
        simp [Act.put]
        refine wpAnyH_ready (rs := [4]) (by kernel_rfl) (by simp) ?_
        refine AllReadyH.cons rfl (fun K hK => ?_) AllReadyH.nil
        rw [if_pos (by rfl)]
        refine wp_load_mid _ _ rfl _ _ rfl _ _ hD.drew.rangeS Tryd.underlying69 rfl hz8 ?_
        simp [Act.put]
        refine hK.out _ _ hHeld (fun hHeld => ?_)
        clear hK K
        refine wpAnyH_ready (rs := [8]) (by kernel_rfl) (by simp) ?_
        refine AllReadyH.cons rfl (fun K hK => ?_) AllReadyH.nil
        go_simp
        refine (block_any st1 X wr.drew hD.stl hD.stW (unhide HXl) hXB hK4).mono ?_
        rintro e w9 ⟨rfl, hb9⟩
        have D9 := DgR.later (w := wr.drew) hD.drew hb9
        have b9 : But g wr w9 := But.undrew (But.of_below hb9)
        have hlt9 : bk < w9.heap.size := Nat.lt_of_lt_of_le hbl b9.size
        have r9 := range_but hrg b9 hbg hbl
        have B9 := hide b9
        rw [← unhide HRR, toArr8 R (unhide HRl)]
        clear hb9 b9
        refine hK.out _ _ r9 (fun hHeld => ?_)
        clear hK K
        refine wpAnyH_take (i := 9) (oi := _) (v := (.pointer (some ⟨g, 0, none⟩))) rfl (by kernel_rfl) (by kernel_rfl) (by kernel_rfl) (fun _ _ _ h => h) (Or.inl ⟨by rfl, fun w hSw => by go_simp⟩) hHeld ?_
        simp [Act.put]
        refine wpAnyH_take (i := 10) (oi := _) (v := (.pointer (some ⟨g, 0, none⟩))) rfl (by kernel_rfl) (by kernel_rfl) (by kernel_rfl) (fun _ _ _ h => h) (Or.inl ⟨by rfl, fun w hSw => by go_simp⟩) hHeld ?_
        simp [Act.put]
        refine wpAnyH_ready (rs := [11]) (by kernel_rfl) (by simp) ?_
        refine AllReadyH.cons rfl (fun K hK => ?_) AllReadyH.nil
        have z0 := D9.cellS 0 (by omega)
        have z1 := D9.cellS 1 (by omega)
        have z2 := D9.cellS 2 (by omega)
        have z3 := D9.cellS 3 (by omega)
        have z4 := D9.cellS 4 (by omega)
        have z5 := D9.cellS 5 (by omega)
        have z6 := D9.cellS 6 (by omega)
        have z7 := D9.cellS 7 (by omega)
        have fz : ∀ i, w9.frozen? ⟨g, i, none⟩ = false := D9.arr.frozen
        go_simp
        refine hK.out _ _ (range_but r9 ((But.refl g w9).set8 (St.ofL R)) hbg hlt9) (fun hHeld => ?_)
        clear hK K
        refine wpAnyH_done (by kernel_rfl) ?_ _
        unfold NoPanic
        clear z0 z1 z2 z3 z4 z5 z6 z7 fz
        go_wp2_with (refine wpList_slice_from rfl 24 (.tmp 64) (.const (.int .i64 64)) rfl 5 Tryd.underlying24 Tryd.sz1v _ _ _ rfl .i64 _ 64 rfl rfl hk ?_; intro b5 hb5)
        go_roundw
        case rel => exact ⟨_, _, _, _, _, _, rfl, WI.step (unhide HI) hk (D9.set8 R (unhide HRl) hRW) (by rw [unhide HRR, unhide HX4]) (unhide hb5) ((unhide B9).set8 (St.ofL R)) hgK⟩
        case measure => simp [slLen]; omega
      · have hkz : ¬ ((64 : Int) ≤ (k : Int)) := by omega
        have hkd : decide ((64 : Int) ≤ (k : Int)) = false := by simpa using hkz
        have hD := I.dig
        have HI := hide I
        obtain ⟨X, hX⟩ : ∃ X, X = U8 (l.drop p) := ⟨_, rfl⟩
        have hXl : X.length = k := by rw [hX, U8_length, List.length_drop, I.hk]
        have hXm : X.length = Nat.min k 64 := by rw [hXl]; exact (Nat.min_eq_left (by omega)).symm
        have hXs : 0 < X.length → ∃ ad, bb = some ad ∧ ∀ j v, X[j]? = some v → wr.cell? (ad.add j) = some v := by
          intro h
          have := lies_src I.lies k (by rw [List.take_of_length_le (by rw [List.length_drop, I.hk]; omega), ← hX]; exact h)
          rwa [List.take_of_length_le (by rw [List.length_drop, I.hk]; omega), ← hX] at this
        have HX := hide hX
        have HXm := hide hXm
        have HXs := hide hXs
        have HXl := hide hXl
        clear hX hXl hXm hXs I hkz
        go_wp2_with (refine wpList_copy_but rfl (.tmp 69) (.tmp 70) 24 24 rfl 5 Tryd.underlying24 Tryd.sz1v _ _ _ _ _ _ rfl rfl g 8 (digL st1 held1 N') 71 hD.arr X (unhide HXm) (fun h => ⟨rfl, unhide HXs h⟩) (by rw [digL_length hD.stl hD.hdl, unhide HXl]; omega) (by rw [unhide HX]; exact U8_one _) ?_; intro w6 hg6 hb6)
        go_end0
        have I := unhide HI
        have hg := unhide hg6
        have hlD : (l.drop p).length = k := by rw [List.length_drop, I.hk]
        rw [unhide HX, show (8 : Nat) = 8 + 0 from rfl, splice_dig hD.stl hD.hdl (by rw [hlD]; omega)] at hg
        refine ⟨rfl, WI.done I (by omega) ⟨hg, hD.stl, ?_, hD.stW, hD.hdB.splice (fun x hx => hB x (List.mem_of_mem_drop hx))⟩ rfl ?_ hMB hB, I.but.trans (unhide hb6)⟩
        · rw [length_splice _ _ _ (by rw [hlD, hD.hdl]; omega), hD.hdl]
        · have h1 := unhide HNX; rw [h1, IntKind.wrap_u64, unhide HN, unhide HL]; omega
  · have hrp : (0 : Int) < (r : Int) := by omega
    have hr1 : (r : Int) ≤ 64 := by omega
    have hne1 : ¬ r = 64 := by omega
    have hne2 : ¬ 64 = r := by omega
    have hR1 := hR.setN (IntKind.u64.wrap (n + len))
    have hbt1 : But g w (w.setCell ⟨g, 72, none⟩ (.int .u64 (IntKind.u64.wrap (n + len)))) := (But.refl g w).setCell 72 _
    have HR1 := hide hR1
    have HBT1 := hide hbt1
    obtain ⟨c, hc⟩ : ∃ c, c = Nat.min len (64 - r) := ⟨_, rfl⟩
    have hc1 : c ≤ len := by rw [hc]; exact Nat.min_le_left _ _
    have hc2 : c + r ≤ 64 := by have : c ≤ 64 - r := by rw [hc]; exact Nat.min_le_right _ _
                                omega
    have hcl : (U8 (l.take c)).length = c := by simp [unhide HL]; omega
    have HC := hide hc
    have HCL := hide hcl
    clear hc hR1 hbt1 hcl hN
    obtain ⟨X, hX⟩ : ∃ X, X = U8 (l.take c) := ⟨_, rfl⟩
    have HX := hide hX
    clear hX
    by_cases hf : r + c < 64
    · have hfz : (r : Int) + (c : Int) < 64 := by omega
      go_enter Tryd.func25, Tryd.ntmps25
      go_wp2_with (first
        | (refine wpList_copy_but rfl (.tmp 27) (.tmp 28) 24 24 rfl 5 Tryd.underlying24 Tryd.sz1v _ _ _ _ _ _ rfl rfl g (8 + r) (digL st held (IntKind.u64.wrap (n + len))) 71 (unhide HR1).arr X (by rw [unhide HX, unhide HCL]; exact unhide HC) (fun h => ⟨rfl, by rw [unhide HX] at h ⊢; exact lies_src ((unhide HBT1).lies hlies hblk) c h⟩) (by rw [digL_length hR.stl hR.hdl, unhide HX, unhide HCL]; omega) (by rw [unhide HX]; exact U8_one _) ?_; intro w3 hg3 hb3; rw [unhide HX, unhide HCL])
        | (refine wpList_slice_from rfl 24 (.tmp 30) (.tmp 31) rfl 5 Tryd.underlying24 Tryd.sz1v _ _ _ rfl .i64 _ c rfl rfl hc1 ?_; intro b hb0))
      refine bodyPost_ret (results_none rfl _ _ _) rfl ?_
      have hcl : c = len := by
        have := unhide HC
        by_cases h : len ≤ 64 - r
        · rw [this]; exact Nat.min_eq_left h
        · have h' : Nat.min len (64 - r) = 64 - r := Nat.min_eq_right (by omega)
          omega
      have hll : l.take c = l := List.take_of_length_le (by rw [unhide HL]; omega)
      have hg := unhide hg3
      rw [unhide HX, hll, splice_dig hR.stl hR.hdl (by rw [unhide HL]; omega)] at hg
      refine ⟨rfl, dg_short (held := splice held r l) ⟨hg, hR.stl, ?_, hR.stW, hR.hdB.splice hB⟩ (unhide HST) rfl (unhide HRM) ?_ hR.hdl (by rw [unhide HL]; omega) ?_ hMB hB, (unhide HBT1).trans (unhide hb3)⟩
      · rw [length_splice _ _ _ (by rw [unhide HL, hR.hdl]; omega), hR.hdl]
      · rw [← unhide HRM]; exact unhide HHD
      · rw [IntKind.wrap_u64, unhide HN, unhide HL]; omega
    · have hfz : ¬ ((r : Int) + (c : Int) < 64) := by omega
      have hfd : decide ((r : Int) + (c : Int) < 64) = false := by simpa using hfz
      have hfe : r + c = 64 := by omega
      have HFE := hide hfe
      clear hfe hfz
      go_enter Tryd.func25, Tryd.ntmps25
      go_wp2_with (first
        | (refine wpList_copy_but rfl (.tmp 27) (.tmp 28) 24 24 rfl 5 Tryd.underlying24 Tryd.sz1v _ _ _ _ _ _ rfl rfl g (8 + r) (digL st held (IntKind.u64.wrap (n + len))) 71 (unhide HR1).arr X (by rw [unhide HX, unhide HCL]; exact unhide HC) (fun h => ⟨rfl, by rw [unhide HX] at h ⊢; exact lies_src ((unhide HBT1).lies hlies hblk) c h⟩) (by rw [digL_length hR.stl hR.hdl, unhide HX, unhide HCL]; omega) (by rw [unhide HX]; exact U8_one _) ?_; intro w3 hg3 hb3; rw [unhide HX, unhide HCL])
        | (refine wpList_slice_from rfl 24 (.tmp 30) (.tmp 31) rfl 5 Tryd.underlying24 Tryd.sz1v _ _ _ rfl .i64 _ c rfl rfl hc1 ?_; intro b hb0))
      have hg := unhide hg3
      have hcL : (l.take c).length = c := by simp [unhide HL]; omega
      rw [unhide HX, splice_dig hR.stl hR.hdl (by rw [hcL]; omega)] at hg
      obtain ⟨H, hH⟩ : ∃ H, H = splice held r (l.take c) := ⟨_, rfl⟩
      rw [← hH] at hg
      have hHl : H.length = 64 := by rw [hH, length_splice _ _ _ (by rw [hcL, hR.hdl]; omega), hR.hdl]
      have hHB : IsB H := by rw [hH]; exact hR.hdB.splice (fun x hx => hB x (List.mem_of_mem_take hx))
      have hD3 : DgR w3 g st H (IntKind.u64.wrap (n + len)) := ⟨hg, hR.stl, hHl, hR.stW, hHB⟩
      have hB3 : But g w w3 := (unhide HBT1).trans (unhide hb3)
      have HH := hide hH
      have hK3 : KLaid w3 := hK.but hB3 hgK
      clear hg hcL hH hg3 hb3 HX HCL HR1 HBT1 cn fn
      generalize hNX : IntKind.u64.wrap (n + len) = N' at *
      have HNX := hide hNX.symm
      clear hNX
      have hz8 : (Tryd.prog.info? 69).map (·.size) = some (U32 st).length := by rw [Tryd.sz8w]; simp [hR.stl]
      have hzb : (Tryd.prog.info? 35).map (·.size) = some (U8 H).length := by rw [Tryd.sz64b]; simp [hHl]
      obtain ⟨R, hRR⟩ : ∃ R, R = blockZ st H := ⟨_, rfl⟩
      have hRl : R.length = 8 := by rw [hRR]; exact blockZ_length _ _ hR.stl
      have hRW : IsW R := by rw [hRR]; exact blockZ_isW _ _
      have HRR := hide hRR
      have HRl := hide hRl
      have HHl := hide hHl
      clear hRR hRl hHl
      refine wp_region_noPanic ?_
      refine wp_region_held_drew (S := fun w' => w'.rangeAt g 8 (U8 H)) (by kernel_rfl) hD3.drew.rangeH (fun hHeld => ?_)
      refine wpAnyH_take (i := 0) (oi := _) (v := (.pointer (some ⟨g, 0, none⟩))) rfl (by kernel_rfl) (by kernel_rfl) (by kernel_rfl) (fun _ _ _ h => h) (Or.inl ⟨by rfl, fun w hSw => by go_simp⟩) hHeld ?_
      simp [Act.put]
      refine wpAnyH_take (i := 1) (oi := _) (v := (.pointer (some ⟨g, 0, none⟩))) rfl (by kernel_rfl) (by kernel_rfl) (by kernel_rfl) (fun _ _ _ h => h) (Or.inl ⟨by rfl, fun w hSw => by go_simp⟩) hHeld ?_
      simp [Act.put]
      refine wpAnyH_take (i := 2) (oi := _) (v := (.pointer (some ⟨g, 0, none⟩))) rfl (by kernel_rfl) (by kernel_rfl) (by kernel_rfl) (fun _ _ _ h => h) (Or.inl ⟨by rfl, fun w hSw => by go_simp⟩) hHeld ?_
      simp [Act.put]
      refine wpAnyH_take (i := 3) (oi := _) (v := (.pointer (some ⟨g, 0, none⟩))) rfl (by kernel_rfl) (by kernel_rfl) (by kernel_rfl) (fun _ _ _ h => h) (Or.inl ⟨by rfl, fun w hSw => by go_simp⟩) hHeld ?_
      simp [Act.put]
      refine wpAnyH_take (i := 5) (oi := _) (v := (.pointer (some ⟨g, 0, none⟩))) rfl (by kernel_rfl) (by kernel_rfl) (by kernel_rfl) (fun _ _ _ h => h) (Or.inl ⟨by rfl, fun w hSw => by go_simp⟩) hHeld ?_
      simp [Act.put]
      refine wpAnyH_take (i := 6) (oi := _) (v := (.pointer (some ⟨g, 0, none⟩))) rfl (by kernel_rfl) (by kernel_rfl) (by kernel_rfl) (fun _ _ _ h => h) (Or.inl ⟨by rfl, fun w hSw => by go_simp⟩) hHeld ?_
      simp [Act.put]
      refine wpAnyH_take (i := 7) (oi := _) (v := (.pointer (some ⟨g, 8, none⟩))) rfl (by kernel_rfl) (by kernel_rfl) (by kernel_rfl) (fun _ _ _ h => h) (Or.inl ⟨by rfl, fun w hSw => by go_simp⟩) hHeld ?_
      simp [Act.put]
      refine wpAnyH_take (i := 8) (oi := _) (v := _) rfl (by kernel_rfl) (by kernel_rfl) (by kernel_rfl) (fun _ _ _ h => h) (yieldsIf_load_mid (by rfl) _ _ rfl _ _ rfl _ _ (fun _ h => h) Tryd.underlying35 rfl hzb) hHeld ?_
      simp [Act.put]
      refine wpAnyH_ready (rs := [4]) (by kernel_rfl) (by simp) ?_
      refine AllReadyH.cons rfl (fun K hK => ?_) AllReadyH.nil
      rw [if_pos (by rfl)]
      refine wp_load_mid _ _ rfl _ _ rfl _ _ hD3.drew.rangeS Tryd.underlying69 rfl hz8 ?_
      simp [Act.put]
      refine hK.out _ _ hHeld (fun hHeld => ?_)
      clear hK K
      refine wpAnyH_ready (rs := [9]) (by kernel_rfl) (by simp) ?_
      refine AllReadyH.cons rfl (fun K hK => ?_) AllReadyH.nil
      go_simp
      refine (block_any st H w3.drew hR.stl hR.stW (unhide HHl) hHB hK3).mono ?_
      rintro e w9 ⟨rfl, hb9⟩
      have D9 := DgR.later (w := w3.drew) hD3.drew hb9
      have B9 := hide (hB3.trans (But.undrew (But.of_below hb9)))
      rw [← unhide HRR, toArr8 R (unhide HRl)]
      clear hb9
      refine hK.out _ _ D9.rangeH (fun hHeld => ?_)
      clear hK K
      refine wpAnyH_take (i := 10) (oi := _) (v := (.pointer (some ⟨g, 0, none⟩))) rfl (by kernel_rfl) (by kernel_rfl) (by kernel_rfl) (fun _ _ _ h => h) (Or.inl ⟨by rfl, fun w hSw => by go_simp⟩) hHeld ?_
      simp [Act.put]
      refine wpAnyH_take (i := 11) (oi := _) (v := (.pointer (some ⟨g, 0, none⟩))) rfl (by kernel_rfl) (by kernel_rfl) (by kernel_rfl) (fun _ _ _ h => h) (Or.inl ⟨by rfl, fun w hSw => by go_simp⟩) hHeld ?_
      simp [Act.put]
      refine wpAnyH_ready (rs := [12]) (by kernel_rfl) (by simp) ?_
      refine AllReadyH.cons rfl (fun K hK => ?_) AllReadyH.nil
      have z0 := D9.cellS 0 (by omega)
      have z1 := D9.cellS 1 (by omega)
      have z2 := D9.cellS 2 (by omega)
      have z3 := D9.cellS 3 (by omega)
      have z4 := D9.cellS 4 (by omega)
      have z5 := D9.cellS 5 (by omega)
      have z6 := D9.cellS 6 (by omega)
      have z7 := D9.cellS 7 (by omega)
      have fz : ∀ i, w9.frozen? ⟨g, i, none⟩ = false := D9.arr.frozen
      go_simp
      refine hK.out _ _ (D9.set8 R (unhide HRl) hRW).rangeH (fun hHeld => ?_)
      clear hK K
      refine wpAnyH_done (by kernel_rfl) ?_ _
      unfold NoPanic
      clear z0 z1 z2 z3 z4 z5 z6 z7 fz
      have I0 := WI.full (w := w) (M := M) (D9.set8 R (unhide HRl) hRW) (unhide HRR) (unhide HST) (unhide HH) (unhide HRM) (by rw [← unhide HRM]; exact unhide HHD) hR.hdl (unhide HL) hc1 (unhide HFE) (unhide hb0) hlies hblk h2 hmx ((unhide B9).set8 (St.ofL R)) hK hgK
      have HI0 := hide I0
      clear I0
      go_wp2_with fail
      have I0 := unhide HI0
      clear HI0
      go_loopw [1] (fun v wr => ∃ b k cp p st held, v = .slice b k cp ∧ WI w g M l N' b k cp p st held wr) (fun v _ => slLen v)
      case atStart => exact ⟨_, _, _, _, _, _, rfl, I0⟩
      case round =>
        clear I0
        obtain ⟨bb, k, cp, p, st1, held1, rfl, I⟩ := hrel
        by_cases hk : 64 ≤ k
        · obtain ⟨bk, off, hbe, hbg, hbl, hrg, hXl⟩ := I.here hk
          subst hbe
          have hkz : (64 : Int) ≤ (k : Int) := by omega
          have hXB : IsB ((l.drop p).take 64) := fun x hx => hB x (List.mem_of_mem_drop (List.mem_of_mem_take hx))
          obtain ⟨X, hX⟩ : ∃ X, X = (l.drop p).take 64 := ⟨_, rfl⟩
          rw [← hX] at hrg hXl hXB
          have hD := I.dig
          have hz8 : (Tryd.prog.info? 69).map (·.size) = some (U32 st1).length := by rw [Tryd.sz8w]; simp [hD.stl]
          have hzb : (Tryd.prog.info? 35).map (·.size) = some (U8 X).length := by rw [Tryd.sz64b]; simp [hXl]
          obtain ⟨R, hRR⟩ : ∃ R, R = blockZ st1 X := ⟨_, rfl⟩
          have hRl : R.length = 8 := by rw [hRR]; exact blockZ_length _ _ hD.stl
          have hRW : IsW R := by rw [hRR]; exact blockZ_isW _ _
          have hK4 := I.kon
          have HRR := hide hRR
          have HRl := hide hRl
          have HXl := hide hXl
          have HX4 := hide hX
          have HI := hide I
          clear hRR hRl hXl hX I
          go_wp2_with fail
          refine wp_region_noPanic ?_
          refine wp_region_held_drew (S := fun w' => w'.rangeAt bk off (U8 X)) (by kernel_rfl) hrg (fun hHeld => ?_)
          refine wpAnyH_take (i := 0) (oi := _) (v := (.pointer (some ⟨g, 0, none⟩))) rfl (by kernel_rfl) (by kernel_rfl) (by kernel_rfl) (fun _ _ _ h => h) (Or.inl ⟨by rfl, fun w hSw => by go_simp⟩) hHeld ?_
          simp [Act.put]
          refine wpAnyH_take (i := 1) (oi := _) (v := (.pointer (some ⟨g, 0, none⟩))) rfl (by kernel_rfl) (by kernel_rfl) (by kernel_rfl) (fun _ _ _ h => h) (Or.inl ⟨by rfl, fun w hSw => by go_simp⟩) hHeld ?_
          simp [Act.put]
          refine wpAnyH_take (i := 2) (oi := _) (v := (.pointer (some ⟨g, 0, none⟩))) rfl (by kernel_rfl) (by kernel_rfl) (by kernel_rfl) (fun _ _ _ h => h) (Or.inl ⟨by rfl, fun w hSw => by go_simp⟩) hHeld ?_
          simp [Act.put]
          refine wpAnyH_take (i := 3) (oi := _) (v := (.pointer (some ⟨g, 0, none⟩))) rfl (by kernel_rfl) (by kernel_rfl) (by kernel_rfl) (fun _ _ _ h => h) (Or.inl ⟨by rfl, fun w hSw => by go_simp⟩) hHeld ?_
          simp [Act.put]
          refine wpAnyH_take (i := 5) (oi := _) (v := (.slice (some ⟨bk, off, none⟩) k cp)) rfl (by kernel_rfl) (by kernel_rfl) (by kernel_rfl) (fun _ _ _ h => h) (Or.inl ⟨by rfl, fun w hSw => by go_simp⟩) hHeld ?_
          simp [Act.put]
          refine wpAnyH_take (i := 6) (oi := _) (v := (.pointer (some ⟨bk, off, none⟩))) rfl (by kernel_rfl) (by kernel_rfl) (by kernel_rfl) (fun _ _ _ h => h) (Or.inl ⟨by rfl, fun w hSw => by have har := run_arrayAt w 35 5 64 (some ⟨bk, off, none⟩) k cp Tryd.underlying35 hk; go_simp⟩) hHeld ?_
          simp [Act.put]
          refine wpAnyH_take (i := 7) (oi := _) (v := _) rfl (by kernel_rfl) (by kernel_rfl) (by kernel_rfl) (fun _ _ _ h => h) (yieldsIf_load_mid (by rfl) _ _ rfl _ _ rfl _ _ (fun _ h => h) Tryd.underlying35 rfl hzb) hHeld ?_
          simp [Act.put]
          refine wpAnyH_ready (rs := [4]) (by kernel_rfl) (by simp) ?_
          refine AllReadyH.cons rfl (fun K hK => ?_) AllReadyH.nil
          rw [if_pos (by rfl)]
          refine wp_load_mid _ _ rfl _ _ rfl _ _ hD.drew.rangeS Tryd.underlying69 rfl hz8 ?_
          simp [Act.put]
          refine hK.out _ _ hHeld (fun hHeld => ?_)
          clear hK K
          refine wpAnyH_ready (rs := [8]) (by kernel_rfl) (by simp) ?_
          refine AllReadyH.cons rfl (fun K hK => ?_) AllReadyH.nil
          go_simp
          refine (block_any st1 X wr.drew hD.stl hD.stW (unhide HXl) hXB hK4).mono ?_
          rintro e w9 ⟨rfl, hb9⟩
          have D9 := DgR.later (w := wr.drew) hD.drew hb9
          have b9 : But g wr w9 := But.undrew (But.of_below hb9)
          have hlt9 : bk < w9.heap.size := Nat.lt_of_lt_of_le hbl b9.size
          have r9 := range_but hrg b9 hbg hbl
          have B9 := hide b9
          rw [← unhide HRR, toArr8 R (unhide HRl)]
          clear hb9 b9
          refine hK.out _ _ r9 (fun hHeld => ?_)
          clear hK K
          refine wpAnyH_take (i := 9) (oi := _) (v := (.pointer (some ⟨g, 0, none⟩))) rfl (by kernel_rfl) (by kernel_rfl) (by kernel_rfl) (fun _ _ _ h => h) (Or.inl ⟨by rfl, fun w hSw => by go_simp⟩) hHeld ?_
          simp [Act.put]
          refine wpAnyH_take (i := 10) (oi := _) (v := (.pointer (some ⟨g, 0, none⟩))) rfl (by kernel_rfl) (by kernel_rfl) (by kernel_rfl) (fun _ _ _ h => h) (Or.inl ⟨by rfl, fun w hSw => by go_simp⟩) hHeld ?_
          simp [Act.put]
          refine wpAnyH_ready (rs := [11]) (by kernel_rfl) (by simp) ?_
          refine AllReadyH.cons rfl (fun K hK => ?_) AllReadyH.nil
          have z0 := D9.cellS 0 (by omega)
          have z1 := D9.cellS 1 (by omega)
          have z2 := D9.cellS 2 (by omega)
          have z3 := D9.cellS 3 (by omega)
          have z4 := D9.cellS 4 (by omega)
          have z5 := D9.cellS 5 (by omega)
          have z6 := D9.cellS 6 (by omega)
          have z7 := D9.cellS 7 (by omega)
          have fz : ∀ i, w9.frozen? ⟨g, i, none⟩ = false := D9.arr.frozen
          go_simp
          refine hK.out _ _ (range_but r9 ((But.refl g w9).set8 (St.ofL R)) hbg hlt9) (fun hHeld => ?_)
          clear hK K
          refine wpAnyH_done (by kernel_rfl) ?_ _
          unfold NoPanic
          clear z0 z1 z2 z3 z4 z5 z6 z7 fz
          go_wp2_with (refine wpList_slice_from rfl 24 (.tmp 64) (.const (.int .i64 64)) rfl 5 Tryd.underlying24 Tryd.sz1v _ _ _ rfl .i64 _ 64 rfl rfl hk ?_; intro b5 hb5)
          go_roundw
          case rel => exact ⟨_, _, _, _, _, _, rfl, WI.step (unhide HI) hk (D9.set8 R (unhide HRl) hRW) (by rw [unhide HRR, unhide HX4]) (unhide hb5) ((unhide B9).set8 (St.ofL R)) hgK⟩
          case measure => simp [slLen]; omega
        · have hkz : ¬ ((64 : Int) ≤ (k : Int)) := by omega
          have hkd : decide ((64 : Int) ≤ (k : Int)) = false := by simpa using hkz
          have hD := I.dig
          have HI := hide I
          obtain ⟨X, hX⟩ : ∃ X, X = U8 (l.drop p) := ⟨_, rfl⟩
          have hXl : X.length = k := by rw [hX, U8_length, List.length_drop, I.hk]
          have hXm : X.length = Nat.min k 64 := by rw [hXl]; exact (Nat.min_eq_left (by omega)).symm
          have hXs : 0 < X.length → ∃ ad, bb = some ad ∧ ∀ j v, X[j]? = some v → wr.cell? (ad.add j) = some v := by
            intro h
            have := lies_src I.lies k (by rw [List.take_of_length_le (by rw [List.length_drop, I.hk]; omega), ← hX]; exact h)
            rwa [List.take_of_length_le (by rw [List.length_drop, I.hk]; omega), ← hX] at this
          have HX := hide hX
          have HXm := hide hXm
          have HXs := hide hXs
          have HXl := hide hXl
          clear hX hXl hXm hXs I hkz
          go_wp2_with (refine wpList_copy_but rfl (.tmp 69) (.tmp 70) 24 24 rfl 5 Tryd.underlying24 Tryd.sz1v _ _ _ _ _ _ rfl rfl g 8 (digL st1 held1 N') 71 hD.arr X (unhide HXm) (fun h => ⟨rfl, unhide HXs h⟩) (by rw [digL_length hD.stl hD.hdl, unhide HXl]; omega) (by rw [unhide HX]; exact U8_one _) ?_; intro w6 hg6 hb6)
          go_end0
          have I := unhide HI
          have hg := unhide hg6
          have hlD : (l.drop p).length = k := by rw [List.length_drop, I.hk]
          rw [unhide HX, show (8 : Nat) = 8 + 0 from rfl, splice_dig hD.stl hD.hdl (by rw [hlD]; omega)] at hg
          refine ⟨rfl, WI.done I (by omega) ⟨hg, hD.stl, ?_, hD.stW, hD.hdB.splice (fun x hx => hB x (List.mem_of_mem_drop hx))⟩ rfl ?_ hMB hB, I.but.trans (unhide hb6)⟩
          · rw [length_splice _ _ _ (by rw [hlD, hD.hdl]; omega), hD.hdl]
          · have h1 := unhide HNX; rw [h1, IntKind.wrap_u64, unhide HN, unhide HL]; omega
end Go.Proofs.YtkagnpnicbddlaaDoor
