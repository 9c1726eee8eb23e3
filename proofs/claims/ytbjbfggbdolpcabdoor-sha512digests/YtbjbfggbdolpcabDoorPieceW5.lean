import Derived.Test.YtbjbfggbdolpcabDoorAppG
import Derived.Test.YtbjbfggbdolpcabDoorAbc5b
namespace Go.Proofs.YtbjbfggbdolpcabDoor.S5
open Go.RowKit

theorem own_ne_dg {w : World} {base gd n : Nat} {v : Value} {xs : List Value} {M : List Int} (h : w.ownsRow base 5 1 v n xs) (hD : Dg w gd M) : v.ownBlock ≠ some gd := by
  intro hv
  obtain ⟨st, held, hR, -⟩ := hD
  rcases h.2 with ⟨rfl, -⟩ | ⟨g, cap, cur, rfl, -, hg, -⟩
  · simp [Value.ownBlock] at hv
  · simp only [Value.ownBlock, Option.some.injEq] at hv
    subst hv
    have := hR.arr
    unfold Arr at this
    rw [hg] at this
    simp at this
theorem Dg.grown {w w' : World} {gd : Nat} {row : Option Nat} {M : List Int} (h : Dg w gd M) (hg : w.grownBy w' row) (hne : row ≠ some gd) : Dg w' gd M := by
  obtain ⟨st, held, hR, h2⟩ := h
  exact ⟨st, held, ⟨(hg.block gd hR.arr.lt (fun e => hne e.symm)).trans hR.arr, hR.stl, hR.hdl, hR.stW, hR.hdB⟩, h2⟩
theorem own_but {w w' : World} {base e n gd : Nat} {v : Value} {xs : List Value} (h : w.ownsRow base e 1 v n xs) (hb : But gd w w') (hne : v.ownBlock ≠ some gd) : w'.ownsRow base e 1 v n xs := by
  refine ⟨h.1, ?_⟩
  rcases h.2 with h2 | ⟨g, cap, cur, h1, h2, h3, h4⟩
  · exact .inl h2
  · refine .inr ⟨g, cap, cur, h1, h2, (hb.block g ?_ ?_).trans h3, h4⟩
    · by_cases hg : g < w.heap.size
      · exact hg
      · rw [Array.getElem?_eq_none (by omega)] at h3; simp at h3
    · rintro rfl
      exact hne (by rw [h1]; rfl)
/-- the digest at gd was written what lies in the row v -/
structure PcI (w : World) (gd : Nat) (M : List Int) (v : Value) (wr : World) : Prop where
  dg : Dg wr gd M
  own : wr.ownsRow w.heap.size 5 1 v M.length (U8 M)
  ge : w.heap.size ≤ gd
  bel : Below w.heap.size w wr
theorem PcI.isB {w : World} {gd : Nat} {M : List Int} {v : Value} {wr : World} (h : PcI w gd M v wr) : IsB M := by obtain ⟨st, held, -, -, -, h⟩ := h.dg; exact h
theorem PcI.later {w : World} {gd : Nat} {M : List Int} {v : Value} {wr w' : World} (h : PcI w gd M v wr) (hb : Below wr.heap.size wr w') : PcI w gd M v w' :=
  ⟨h.dg.later hb, own_later h.own hb, h.ge, h.bel.trans (hb.mono h.bel.size)⟩

theorem ok_but {w w' : World} {s : Sl} {g : Nat} (h : s.Ok w) (hb : But g w w') (hne : ∀ x, s.a = some x → x.block ≠ g) : s.Ok w' := ⟨h.len, h.le, h.mx, h.nn, h.isB, hb.lies h.lies (fun _ => hne)⟩
theorem arr_ne_dg {w : World} {g gd : Nat} {l : List Value} {M : List Int} (h : Arr w g 28 l) (hD : Dg w gd M) : g ≠ gd := by
  rintro rfl
  obtain ⟨st, held, hR, -⟩ := hD
  have h1 := hR.arr
  unfold Arr at h1 h
  rw [h1] at h
  simp at h
structure PcT (w : World) (gd : Nat) (M : List Int) (d : Sl) (gH gA : Nat) (R : List Value) (wr : World) : Prop where
  i : PcI w gd M d.v wr
  h : Arr wr gH 28 R
  a0 : wr.cell? ⟨gA, 0, none⟩ = some (.int .u8 221)
  ok : d.Ok wr
theorem PcT.later {w : World} {gd : Nat} {M : List Int} {d : Sl} {gH gA : Nat} {R : List Value} {wr w' : World} (s : PcT w gd M d gH gA R wr) (hb : Below wr.heap.size wr w') : PcT w gd M d gH gA R w' := ⟨s.i.later hb, s.h.later hb, (hb.cell (p := ⟨gA, 0, none⟩) (cell_lt s.a0)).trans s.a0, s.ok.later hb⟩
theorem PcT.drew {w : World} {gd : Nat} {M : List Int} {d : Sl} {gH gA : Nat} {R : List Value} {wr : World} (s : PcT w gd M d gH gA R wr) : PcT w gd M d gH gA R wr.drew := s.later ⟨rfl, rfl, rfl, Nat.le_refl _, fun _ _ => rfl⟩
theorem PcT.rH {w : World} {gd : Nat} {M : List Int} {d : Sl} {gH gA : Nat} {R : List Value} (wr : World) (s : PcT w gd M d gH gA R wr) : wr.rangeAt gH 0 R := fun j v hv => by rw [Nat.zero_add, s.h.cell]; exact hv
structure PcS (w : World) (gd : Nat) (M : List Int) (v : Value) (gH : Nat) (R : List Value) (wr : World) : Prop where
  i : PcI w gd M v wr
  h : Arr wr gH 28 R
theorem PcS.later {w : World} {gd : Nat} {M : List Int} {v : Value} {gH : Nat} {R : List Value} {wr w' : World} (s : PcS w gd M v gH R wr) (hb : Below wr.heap.size wr w') : PcS w gd M v gH R w' := ⟨s.i.later hb, s.h.later hb⟩
theorem PcS.drew {w : World} {gd : Nat} {M : List Int} {v : Value} {gH : Nat} {R : List Value} {wr : World} (s : PcS w gd M v gH R wr) : PcS w gd M v gH R wr.drew := s.later ⟨rfl, rfl, rfl, Nat.le_refl _, fun _ _ => rfl⟩
theorem PcS.rH {w : World} {gd : Nat} {M : List Int} {v : Value} {gH : Nat} {R : List Value} (wr : World) (s : PcS w gd M v gH R wr) : wr.rangeAt gH 0 R := fun j v hv => by rw [Nat.zero_add, s.h.cell]; exact hv

set_option maxHeartbeats 4000000 in
set_option maxRecDepth 100000 in
theorem pieces_any (pa : Option Addr) (pc : Nat) (ps : List Sl) (ask : Int) (w : World) (hv : LiesV w pa (ps.map Sl.v)) (hok : ∀ s ∈ ps, s.Ok w) (hKon : KLaid w) (hF : FLaid w) (hpn : ps.length ≤ 140737488351232) (hpz : ∀ s ∈ ps, s.c ≤ 140737488351232) :
    Calls Tryd.prog 3 #[.slice pa ps.length pc, .int .i64 ask] w fun e w' => e = .returned (.bool true) ∧ Below w.heap.size w w' := by
  obtain ⟨i0, hi, hz0, hz1, hz2⟩ := info_parts Tryd.infoB
  have hzc : (Value.int .u8 0).cells.size = 1 := rfl
  have HV := hide hv
  have HOK := hide hok
  have HPZ := hide hpz
  clear hv hok hpz
  go_enter Tryd.func3, Tryd.ntmps3
  go_wp2_with fail
  refine (new_any w hF).mono ?_
  rintro e w1 ⟨rfl, hD1, hb1⟩
  have I1 : PcI w w.heap.size [] (.slice none 0 0) w1 := ⟨hD1, World.ownsRow_nil _ _ _ _, Nat.le_refl _, hb1⟩
  clear hD1 hb1
  go_wp2_with fail
  go_loopw [5, 6, 7] (fun vw vd i wr => ∃ (gd j : Nat) (M : List Int), vd = .pointer (some ⟨gd, 0, none⟩) ∧ i = .int .i64 j ∧ j ≤ ps.length ∧ M.length ≤ 200000 ∧ PcI w gd M vw wr) (fun _ _ i _ => ps.length - (intOf i).toNat)
  case atStart => exact ⟨_, 0, [], rfl, rfl, by omega, by simp, I1⟩
  case round =>
    clear I1
    obtain ⟨gd, j, M, rfl, rfl, hj, hM, I⟩ := hrel
    obtain ⟨sw, hsw, okw, hwl, hwn, -⟩ := own_sl I.own I.isB
    obtain ⟨wa, wn, wc, wl⟩ := sw
    have hwl' : wl = M := hwl
    have hwn' : wn = M.length := hwn
    subst hwl'
    simp only [Sl.v] at hsw
    subst hsw
    have HWN := hide hwn'
    have hM' : wn ≤ 200000 := by omega
    clear hwl hwn hM hwn'
    by_cases hlt : j < ps.length
    · obtain ⟨s, hs⟩ : ∃ s, ps[j]? = some s := ⟨_, List.getElem?_eq_getElem hlt⟩
      have hso := (unhide HOK) s (List.mem_of_getElem? hs)
      have hsz := (unhide HPZ) s (List.mem_of_getElem? hs)
      obtain ⟨pb, po, hpa, hpl, hpc⟩ := (unhide HV) (by simp; omega)
      subst hpa
      have hck := (I.bel.cell (p := ⟨pb, po + j, none⟩) hpl).trans (hpc j s.v (by simp [hs]))
      have hpbw : pb < w.heap.size := hpl
      obtain ⟨sa, sn, sc, sl⟩ := s
      have hsl : sl.length = sn := hso.len
      have hsc : sn ≤ sc := hso.le
      have hsm : sc ≤ maxLen := hso.mx
      unfold maxLen at hsm
      have hsz' : sc ≤ 140737488351232 := hsz
      clear hsz
      simp only [Sl.v] at hck
      have HSO := hide hso
      have HSL := hide hsl
      clear hso hsl hpc hpl hs
      have hltz : (j : Int) < (ps.length : Int) := by omega
      by_cases hbig : 200000 < wn + sn ∨ 400 < j
      · have hbb := I.bel
        rcases Classical.em (200000 < wn + sn) with hx | hx
        · have hx1 : (200000 : Int) < (wn : Int) + (sn : Int) := by omega
          clear hbig I okw
          go_wp2
          go_ret
          exact ⟨rfl, hbb⟩
        · have hx1 : ¬ ((200000 : Int) < (wn : Int) + (sn : Int)) := by omega
          have hxd : decide ((200000 : Int) < (wn : Int) + (sn : Int)) = false := by simpa using hx1
          have hx2 : (400 : Int) < (j : Int) := by omega
          clear hbig I okw
          go_wp2
          go_ret
          exact ⟨rfl, hbb⟩
      · have hb1 : ¬ ((200000 : Int) < (wn : Int) + (sn : Int)) := by omega
        have hb2 : ¬ ((400 : Int) < (j : Int)) := by omega
        have hd1 : decide ((200000 : Int) < (wn : Int) + (sn : Int)) = false := by simpa using hb1
        have hd2 : decide ((400 : Int) < (j : Int)) = false := by simpa using hb2
        have hown : wr.ownsRow w.heap.size 5 1 (.slice wa wn wc) wn (U8 wl) := by have h := I.own; rw [← unhide HWN] at h; exact h
        have HOWN := hide hown
        have HSO1 := hide ((unhide HSO).later I.bel)
        have hws := I.bel.size
        have HI := hide I
        clear hown I okw
        go_wp2_with (at_builtin
                     refine wpList_append_sl rfl (.tmp 34) (.tmp 38) 23 rfl w.heap.size 5 i0 (.int .u8 0) Tryd.underlying23 hi hz0 hz1 hz2 hzc (.slice wa wn wc) wn (U8 wl) rfl (unhide HOWN) ⟨sa, sn, sc, sl⟩ (unhide HSO1) rfl (by show wn + sn ≤ _; omega) hws ?_
                     intro v1 w2 own1 gr1
                     have hb2 : Below w.heap.size w w2 := below_grown (unhide HI).bel (Nat.le_refl _) (unhide HOWN) (unhide gr1)
                     have hD2 : Hid (Dg w2 gd wl) := hide ((unhide HI).dg.grown (unhide gr1) (own_ne_dg (unhide HOWN) (unhide HI).dg))
                     have HB2 := hide hb2
                     have hck2 : w2.cell? ⟨pb, po + j, none⟩ = some (.slice sa sn sc) := ((hb2.cell (p := ⟨pb, po + j, none⟩) hpbw).trans ((unhide HI).bel.cell (p := ⟨pb, po + j, none⟩) hpbw).symm).trans hck
                     clear hb2 hck gr1 HOWN)
        have hgK : 2 ≠ gd := by have := hKon.lt; have := (unhide HI).ge; omega
        have hso2 := (unhide HSO).later (unhide HB2)
        have hge := (unhide HI).ge
        refine (write_any gd wl sl sa sn sc w2 (unhide hD2) (hKon.later (unhide HB2)) hgK (unhide HSL) hso2.isB hso2.lies (by
          intro hp x hx
          obtain ⟨b', o', ha', hlt', -⟩ := (unhide HSO).lies hp
          have e : sa = some ⟨b', o', none⟩ := ha'
          rw [e] at hx; simp only [Option.some.injEq] at hx; subst hx
          show b' ≠ gd
          omega) hsc hso2.mx).mono ?_
        rintro e w3 ⟨rfl, hD3, hbt3⟩
        have I3 : PcI w gd (wl ++ sl) v1 w3 := by
          have ho := unhide own1
          have ho2 : w2.ownsRow w.heap.size 5 1 v1 (wl ++ sl).length (U8 (wl ++ sl)) := by
            have e : (wl ++ sl).length = wn + sn := by rw [List.length_append, unhide HWN, unhide HSL]
            rw [e, U8_append]; exact ho
          exact ⟨hD3, own_but ho2 hbt3 (own_ne_dg ho2 (unhide hD2)), hge, (unhide HB2).trans (hbt3.below (unhide HB2).size hge)⟩
        have hML : (wl ++ sl).length ≤ 200000 := by rw [List.length_append, ← unhide HWN, unhide HSL]; omega
        have HML := hide hML
        clear hso2 hD3 hbt3 hD2 hck2 own1 HI HB2 hML HSO1
        by_cases hask : (j : Int) = ask
        · have hqe : ((j : Int) == ask) = true := by simpa using hask
          obtain ⟨M, hM⟩ : ∃ M, M = wl ++ sl := ⟨_, rfl⟩
          rw [← hM] at I3 HML
          clear hM
          obtain ⟨Z, hZ, hZl, hzv⟩ := zeroWide_named
          have HZL := hide hZl
          clear hZ hZl
          go_wp2_with fail
          refine (digSum_any gd M w3 I3.dg (hKon.later I3.bel)).mono ?_
          rintro e w4 ⟨rfl, hb4⟩
          have I4 := I3.later hb4
          have hRl := sumZ_length M
          obtain ⟨R, hRR⟩ : ∃ R, R = U8 (sumZ M) := ⟨_, rfl⟩
          rw [← hRR]
          have hRs : R.toArray.size = 64 := by rw [hRR]; simp [hRl]
          have HRR := hide hRR
          have ZR : Hid (Z.toArray.size = R.toArray.size) := (unhide HZL).trans hRs.symm
          have szR : Hid ((Tryd.prog.info? 28).map (·.size) = some R.toArray.size) := by show _ = _; rw [hRs]; exact Tryd.szH
          have oneR := hide (all_one (l := R) (by rw [hRR]; exact U8_one _))
          clear hRR hRs hb4 I3 hRl
          obtain ⟨W5, hW5, hH5, hb5, -⟩ := arr1 w4 28 R
          have HW5 := hide hW5
          have I5 := I4.later hb5
          clear hW5 I4 hb5
          go_wp2_with (refine wpList_store_row rfl 28 _ _ rfl w4.heap.size _ rfl rfl 28 _ (heap_alloc_last w4 _) (unhide szR) (unhide ZR) (unhide oneR) ?_; rw [World.setRow_alloc_new, ← unhide HW5])
          refine (clone_any gd M W5 I5.dg).mono ?_
          rintro e w6 ⟨rfl, hDc, hb6⟩
          have I6 := I5.later hb6
          have hH6 := hH5.later hb6
          have hgd6 : gd < w6.heap.size := I6.dg.lt
          have hgc : gd < W5.heap.size := I5.dg.lt
          clear hb6 I5 hH5 HW5 oneR ZR hzv HZL
          obtain ⟨W7, hW7, hA7, hb7, -⟩ := arr1 w6 5 (U8 [1, 2, 3])
          have HW7 := hide hW7
          clear hW7
          go_wp2_with fail
          rw [show (#[Value.int .u8 1, .int .u8 2, .int .u8 3] : Array Value) = (U8 [1, 2, 3]).toArray from rfl, ← unhide HW7]
          have I7 := I6.later hb7
          have hD7c := hDc.later hb7
          have hH7 := hH6.later hb7
          refine (write_any gd M [1, 2, 3] (some ⟨w6.heap.size, 0, none⟩) 3 3 W7 I7.dg (hKon.later I7.bel) hgK rfl (by intro x hx; simp at hx; omega) hA7.lies (by
            intro _ x hx
            simp only [Option.some.injEq] at hx; subst hx
            show w6.heap.size ≠ gd
            omega) (by omega) (by unfold maxLen; omega)).mono ?_
          rintro e w8 ⟨rfl, -, hbt8⟩
          have hne8 : v1.ownBlock ≠ some gd := own_ne_dg I7.own I7.dg
          have hgc5 : w.heap.size ≤ W5.heap.size := by omega
          have I8 : PcI w W5.heap.size M v1 w8 := ⟨hD7c.but hbt8 (by omega), own_but I7.own hbt8 hne8, hgc5, I7.bel.trans (hbt8.below I7.bel.size hge)⟩
          have hHne : w4.heap.size ≠ gd := by
            intro e
            obtain ⟨st, held, hR, -⟩ := I7.dg
            have h1 := hR.arr
            have h2 := hH7
            unfold Arr at h1 h2
            rw [e, h1] at h2
            simp at h2
          have hH8 := hbt8.arr hH7 hHne
          clear I6 I7 hDc hD7c hH6 hH7 hA7 hb7 hbt8 HW7 hne8 hgd6 hgc hHne
          generalize W5.heap.size = gc at *
          generalize w4.heap.size = gH at *
          go_wp2_with fail
          have E1 : ∀ w, (Op.equalIn 10000 28 (.agg R.toArray) (.agg R.toArray)).run Tryd.prog w = .ok true w := fun w => by
            rw [unhide HRR, eqWide (sumZ M) (sumZ M) (sumZ_length M) (sumZ_length M) w]; simp
          have hS : PcS w gc M v1 gH R w8 := ⟨I8, hH8⟩
          clear I8 hH8
          refine wp_region_held_drew (S := PcS w gc M v1 gH R) (by kernel_rfl) hS.drew (fun hHeld => ?_)
          clear hS
          refine wpAnyH_take (i := 0) (oi := _) (v := .pointer (some ⟨gc, 0, none⟩)) rfl (by kernel_rfl) (by kernel_rfl) (by kernel_rfl) (fun _ _ _ h => h) (Or.inl ⟨by rfl, fun w hSw => by go_simp⟩) hHeld ?_
          simp [Act.put]
          refine wpAnyH_take (i := 2) (oi := _) (v := _) rfl (by kernel_rfl) (by kernel_rfl) (by kernel_rfl) (fun _ _ _ h => h) (yieldsIf_load_mid (by rfl) _ _ rfl _ _ rfl _ _ PcS.rH Tryd.underlying28 rfl (by simpa using unhide szR)) hHeld ?_
          simp [Act.put]
          refine wpAnyH_ready (rs := [1]) (by kernel_rfl) (by simp) ?_
          refine AllReadyH.cons rfl (fun K hK => ?_) AllReadyH.nil
          go_simp
          refine (digSum_any gc M _ hHeld.i.dg (hKon.later hHeld.i.bel)).mono ?_
          rintro e w9 ⟨rfl, hb9⟩
          rw [← unhide HRR]
          refine hK.out _ _ (hHeld.later hb9) (fun hHeld => ?_)
          clear hK K
          refine wpAnyH_take (i := 3) (oi := _) (v := .bool false) rfl (by kernel_rfl) (by kernel_rfl) (by kernel_rfl) (fun _ _ _ h => h) (Or.inl ⟨by rfl, fun w hSw => by go_simp⟩) hHeld ?_
          simp [Act.put]
          refine wpAnyH_done (by kernel_rfl) ?_ _
          go_wp2
          go_roundw
          case rel => exact ⟨gc, j + 1, M, rfl, by rw [← hask]; go_num, by omega, unhide HML, hHeld.i⟩
          case measure => rw [← hask]; simp [intOf]; omega
        · have hne : ((j : Int) == ask) = false := by simpa using hask
          go_wp2
          go_roundw
          case rel => exact ⟨gd, j + 1, _, rfl, by go_num, by omega, unhide HML, I3⟩
          case measure => simp [intOf]; omega
    · have hjd : decide ((j : Int) < (ps.length : Int)) = false := by simp; omega
      go_wp2_with fail
      clear hjd hlt hj
      generalize hj0 : (j : Int) = j0
      clear hj0
      refine (sum_any wl wa wn wc wr (hKon.later I.bel) (hF.later I.bel) (unhide HWN).symm I.isB okw.lies okw.blk okw.le okw.mx).mono ?_
      rintro e w2 ⟨rfl, hb2⟩
      have I2 := I.later hb2
      have okw2 := okw.later hb2
      obtain ⟨Z, hZ, hZl, hzv⟩ := zeroWide_named
      have HZL := hide hZl
      clear hZ hZl I okw hb2
      have hRl := sumZ_length wl
      obtain ⟨R, hRR⟩ : ∃ R, R = U8 (sumZ wl) := ⟨_, rfl⟩
      rw [← hRR]
      have hRs : R.toArray.size = 64 := by rw [hRR]; simp [hRl]
      have HRR := hide hRR
      have ZR : Hid (Z.toArray.size = R.toArray.size) := (unhide HZL).trans hRs.symm
      have szR : Hid ((Tryd.prog.info? 28).map (·.size) = some R.toArray.size) := by show _ = _; rw [hRs]; exact Tryd.szH
      have oneR := hide (all_one (l := R) (by rw [hRR]; exact U8_one _))
      clear hRR hRs hRl
      obtain ⟨W3, hW3, hH3, hb3, -⟩ := arr1 w2 28 R
      have HW3 := hide hW3
      have I3 := I2.later hb3
      have okw3 := okw2.later hb3
      clear hW3 I2 okw2 hb3
      obtain ⟨W4, hcv, hl4, hb4, hlt4⟩ := abc_conv W3
      go_wp2_with (refine wpList_store_row rfl 28 _ _ rfl w2.heap.size _ rfl rfl 28 _ (heap_alloc_last w2 _) (unhide szR) (unhide ZR) (unhide oneR) ?_; rw [World.setRow_alloc_new, ← unhide HW3])
      clear hcv
      have I4 := I3.later hb4
      have okw4 := okw3.later hb4
      have hH4 := hH3.later hb4
      refine (sumAbc_any W3.heap.size W4 (hKon.later I4.bel) (hF.later I4.bel) hl4 hlt4).mono ?_
      rintro e w5 ⟨rfl, hb5⟩
      have I5 := I4.later hb5
      have okw5 := okw4.later hb5
      have hH5 := hH4.later hb5
      obtain ⟨C, hC⟩ : ∃ C, C = U8 abcSum := ⟨_, rfl⟩
      have hCl : C.toArray.size = 64 := by rw [hC]; rfl
      rw [← hC]
      have HC := hide hC
      have ZC : Hid (Z.toArray.size = C.toArray.size) := (unhide HZL).trans hCl.symm
      have szC : Hid ((Tryd.prog.info? 28).map (·.size) = some C.toArray.size) := by show _ = _; rw [hCl]; exact Tryd.szH
      have oneC := hide (all_one (l := C) (by rw [hC]; exact U8_one _))
      clear hC hCl hl4 hlt4 hb4 I3 I4 okw3 okw4 hH3 hH4 hb5 HW3 oneR ZR
      obtain ⟨W6, hW6, hC6, hb6, -⟩ := arr1 w5 28 C
      have HW6 := hide hW6
      have I6 := I5.later hb6
      have okw6 := okw5.later hb6
      have hH6 := hH5.later hb6
      clear hW6 hb6 I5 okw5 hH5
      go_wp2_with (refine wpList_store_row rfl 28 _ _ rfl w5.heap.size _ rfl rfl 28 _ (heap_alloc_last w5 _) (unhide szC) (unhide ZC) (unhide oneC) ?_; rw [World.setRow_alloc_new, ← unhide HW6])
      have E1 : ∀ w, (Op.equalIn 10000 28 (.agg R.toArray) (.agg R.toArray)).run Tryd.prog w = .ok true w := fun w => by
        rw [unhide HRR, eqWide (sumZ wl) (sumZ wl) (sumZ_length wl) (sumZ_length wl) w]; simp
      have hS : PcT w gd wl ⟨wa, wn, wc, wl⟩ w2.heap.size w5.heap.size R W6 := ⟨I6, hH6, by rw [hC6.cell, unhide HC]; rfl, okw6⟩
      have hlen : ((wl.length : Int) % 18446744073709551616) = (wn : Int) := by rw [← unhide HWN]; omega
      have HLEN := hide hlen
      have hwu := hide (show IntKind.u64.wrap (wn : Int) = (wn : Int) by rw [IntKind.wrap_u64]; omega)
      clear I6 hH6 hC6 okw6 HW6 oneC ZC szC hlen hzv HZL
      generalize w2.heap.size = gH at *
      generalize w5.heap.size = gA at *
      simp [Act.put]
      refine wp_region_held_drew (S := PcT w gd wl ⟨wa, wn, wc, wl⟩ gH gA R) (by kernel_rfl) hS.drew (fun hHeld => ?_)
      clear hS
      refine wpAnyH_take (i := 0) (oi := _) (v := .pointer (some ⟨gA, 0, none⟩)) rfl (by kernel_rfl) (by kernel_rfl) (by kernel_rfl) (fun _ _ _ h => h) (Or.inl ⟨by rfl, fun w hSw => by go_simp⟩) hHeld ?_
      simp [Act.put]
      refine wpAnyH_take (i := 1) (oi := _) (v := .int .u8 221) rfl (by kernel_rfl) (by kernel_rfl) (by kernel_rfl) (fun _ _ _ h => h) (Or.inl ⟨by rfl, fun w hSw => by have hc := hSw.a0; go_simp⟩) hHeld ?_
      simp [Act.put]
      refine wpAnyH_take (i := 2) (oi := _) (v := .bool false) rfl (by kernel_rfl) (by kernel_rfl) (by kernel_rfl) (fun _ _ _ h => h) (Or.inl ⟨by rfl, fun w hSw => by go_simp⟩) hHeld ?_
      simp [Act.put]
      refine wpAnyH_take (i := 3) (oi := _) (v := .bool false) rfl (by kernel_rfl) (by kernel_rfl) (by kernel_rfl) (fun _ _ _ h => h) (Or.inl ⟨by rfl, fun w hSw => by go_simp⟩) hHeld ?_
      simp [Act.put]
      refine wpAnyH_take (i := 4) (oi := _) (v := .pointer (some ⟨gd, 0, none⟩)) rfl (by kernel_rfl) (by kernel_rfl) (by kernel_rfl) (fun _ _ _ h => h) (Or.inl ⟨by rfl, fun w hSw => by go_simp⟩) hHeld ?_
      simp [Act.put]
      refine wpAnyH_take (i := 6) (oi := _) (v := _) rfl (by kernel_rfl) (by kernel_rfl) (by kernel_rfl) (fun _ _ _ h => h) (yieldsIf_load_mid (by rfl) _ _ rfl _ _ rfl _ _ PcT.rH Tryd.underlying28 rfl (by simpa using unhide szR)) hHeld ?_
      simp [Act.put]
      refine wpAnyH_ready (rs := [5]) (by kernel_rfl) (by simp) ?_
      refine AllReadyH.cons rfl (fun K hK => ?_) AllReadyH.nil
      go_simp
      refine (digSum_any gd wl _ hHeld.i.dg (hKon.later hHeld.i.bel)).mono ?_
      rintro e w9 ⟨rfl, hb9⟩
      rw [← unhide HRR]
      refine hK.out _ _ (hHeld.later hb9) (fun hHeld => ?_)
      clear hK K
      refine wpAnyH_take (i := 7) (oi := _) (v := .bool false) rfl (by kernel_rfl) (by kernel_rfl) (by kernel_rfl) (fun _ _ _ h => h) (Or.inl ⟨by rfl, fun w hSw => by go_simp⟩) hHeld ?_
      simp [Act.put]
      refine wpAnyH_take (i := 8) (oi := _) (v := .bool false) rfl (by kernel_rfl) (by kernel_rfl) (by kernel_rfl) (fun _ _ _ h => h) (Or.inl ⟨by rfl, fun w hSw => by go_simp⟩) hHeld ?_
      simp [Act.put]
      refine wpAnyH_take (i := 9) (oi := _) (v := .bool false) rfl (by kernel_rfl) (by kernel_rfl) (by kernel_rfl) (fun _ _ _ h => h) (Or.inl ⟨by rfl, fun w hSw => by go_simp⟩) hHeld ?_
      simp [Act.put]
      refine wpAnyH_take (i := 10) (oi := _) (v := .pointer (some ⟨gd, 0, none⟩)) rfl (by kernel_rfl) (by kernel_rfl) (by kernel_rfl) (fun _ _ _ h => h) (Or.inl ⟨by rfl, fun w hSw => by go_simp⟩) hHeld ?_
      simp [Act.put]
      refine wpAnyH_take (i := 12) (oi := _) (v := .slice wa wn wc) rfl (by kernel_rfl) (by kernel_rfl) (by kernel_rfl) (fun _ _ _ h => h) (Or.inl ⟨by rfl, fun w hSw => by go_simp⟩) hHeld ?_
      simp [Act.put]
      refine wpAnyH_take (i := 13) (oi := _) (v := .int .i64 wn) rfl (by kernel_rfl) (by kernel_rfl) (by kernel_rfl) (fun _ _ _ h => h) (Or.inl ⟨by rfl, fun w hSw => by go_simp⟩) hHeld ?_
      simp [Act.put]
      refine wpAnyH_take (i := 14) (oi := _) (v := .int .u64 wn) rfl (by kernel_rfl) (by kernel_rfl) (by kernel_rfl) (fun _ _ _ h => h) (Or.inl ⟨by rfl, fun w hSw => by have hq := unhide hwu; go_simp⟩) hHeld ?_
      simp [Act.put]
      refine wpAnyH_ready (rs := [11]) (by kernel_rfl) (by simp) ?_
      refine AllReadyH.cons rfl (fun K hK => ?_) AllReadyH.nil
      go_simp
      refine (len_any gd wl _ hHeld.i.dg).mono ?_
      rintro e w10 ⟨rfl, rfl⟩
      rw [unhide HLEN]
      refine hK.out _ _ hHeld (fun hHeld => ?_)
      clear hK K
      refine wpAnyH_take (i := 15) (oi := _) (v := .bool false) rfl (by kernel_rfl) (by kernel_rfl) (by kernel_rfl) (fun _ _ _ h => h) (Or.inl ⟨by rfl, fun w hSw => by go_simp⟩) hHeld ?_
      simp [Act.put]
      refine wpAnyH_take (i := 16) (oi := _) (v := .bool false) rfl (by kernel_rfl) (by kernel_rfl) (by kernel_rfl) (fun _ _ _ h => h) (Or.inl ⟨by rfl, fun w hSw => by go_simp⟩) hHeld ?_
      simp [Act.put]
      refine wpAnyH_done (by kernel_rfl) ?_ _
      go_wp2_with fail
      have hgK : 2 ≠ gd := by have := hKon.lt; have := hHeld.i.ge; omega
      have hge := hHeld.i.ge
      refine (reset_any gd wl w10 hHeld.i.dg (hF.later hHeld.i.bel)).mono ?_
      rintro e w11 ⟨rfl, hD11, hbt11⟩
      have hone : (Value.slice wa wn wc).ownBlock ≠ some gd := own_ne_dg hHeld.i.own hHeld.i.dg
      have hnb : ∀ x, wa = some x → x.block ≠ gd := by
        rintro x rfl e
        exact hone (by rw [← e]; rfl)
      have hb11 : Below w.heap.size w w11 := hHeld.i.bel.trans (hbt11.below hHeld.i.bel.size hge)
      have ok11 := ok_but hHeld.ok hbt11 hnb
      have hH11 := hbt11.arr hHeld.h (arr_ne_dg hHeld.h hHeld.i.dg)
      have own11 := own_but hHeld.i.own hbt11 hone
      clear hHeld hbt11 hb9 hwu HLEN
      go_wp2_with fail
      refine (write_any gd [] wl wa wn wc w11 hD11 (hKon.later hb11) hgK (unhide HWN).symm ok11.isB ok11.lies (fun _ => hnb) ok11.le ok11.mx).mono ?_
      rintro e w12 ⟨rfl, hD12, hbt12⟩
      rw [List.nil_append] at hD12
      have hS : PcS w gd wl (.slice wa wn wc) gH R w12 := ⟨⟨hD12, own_but own11 hbt12 hone, hge, hb11.trans (hbt12.below hb11.size hge)⟩, hbt12.arr hH11 (arr_ne_dg hH11 hD11)⟩
      clear hD11 hb11 ok11 hH11 own11 hD12 hbt12
      go_wp2_with fail
      refine wp_region_held_drew (S := PcS w gd wl (.slice wa wn wc) gH R) (by kernel_rfl) hS.drew (fun hHeld => ?_)
      clear hS
      refine wpAnyH_take (i := 0) (oi := _) (v := .pointer (some ⟨gd, 0, none⟩)) rfl (by kernel_rfl) (by kernel_rfl) (by kernel_rfl) (fun _ _ _ h => h) (Or.inl ⟨by rfl, fun w hSw => by go_simp⟩) hHeld ?_
      simp [Act.put]
      refine wpAnyH_take (i := 2) (oi := _) (v := _) rfl (by kernel_rfl) (by kernel_rfl) (by kernel_rfl) (fun _ _ _ h => h) (yieldsIf_load_mid (by rfl) _ _ rfl _ _ rfl _ _ PcS.rH Tryd.underlying28 rfl (by simpa using unhide szR)) hHeld ?_
      simp [Act.put]
      refine wpAnyH_ready (rs := [1]) (by kernel_rfl) (by simp) ?_
      refine AllReadyH.cons rfl (fun K hK => ?_) AllReadyH.nil
      go_simp
      refine (digSum_any gd wl _ hHeld.i.dg (hKon.later hHeld.i.bel)).mono ?_
      rintro e w13 ⟨rfl, hb13⟩
      rw [← unhide HRR]
      refine hK.out _ _ (hHeld.later hb13) (fun hHeld => ?_)
      clear hK K
      refine wpAnyH_take (i := 3) (oi := _) (v := .bool true) rfl (by kernel_rfl) (by kernel_rfl) (by kernel_rfl) (fun _ _ _ h => h) (Or.inl ⟨by rfl, fun w hSw => by go_simp⟩) hHeld ?_
      simp [Act.put]
      refine wpAnyH_take (i := 4) (oi := _) (v := .bool true) rfl (by kernel_rfl) (by kernel_rfl) (by kernel_rfl) (fun _ _ _ h => h) (Or.inl ⟨by rfl, fun w hSw => by go_simp⟩) hHeld ?_
      simp [Act.put]
      refine wpAnyH_done (by kernel_rfl) ?_ _
      go_wp2
      go_ret
      exact ⟨rfl, hHeld.i.bel⟩
end Go.Proofs.YtbjbfggbdolpcabDoor.S5
