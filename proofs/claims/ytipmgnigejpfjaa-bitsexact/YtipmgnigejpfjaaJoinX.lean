import Derived.Test.YtipmgnigejpfjaaJoinM
namespace Go.Proofs.Ytipmgnigejpfjaa
open Go.RowKit

set_option maxHeartbeats 8000000 in
set_option maxRecDepth 100000 in
theorem joins_any {w : World} {gS N : Nat} {P Q : Nat → Sl} {lv wv : Value} (o : OpV) (w0 : World) (h0 : Shf w gS N P Q lv wv w0) (ho : o.Ok w) (ht : o.tot ≤ 4096) (hpn : o.pa = none → o.pc = 0) (hN : N ≤ 3000000000000) :
    Calls Try.prog 12 #[.pointer (some ⟨gS, 0, none⟩), .agg o.cells.toArray] w0 fun e w' => e = .returned (.bool true) ∧ ∃ N', N' ≤ N + 4 ∧ Put w gS N' w' := by
  obtain ⟨kd, ow, ol, n, ⟨aa, an, ac, al⟩, ⟨ba, bn, bc, bl⟩, pa, pc, ps, txt⟩ := o
  have hA := ho.A
  have hB := ho.B
  have hPl := ho.pl
  have hPs := ho.ps
  simp only at hA hB hPl hPs hpn
  obtain ⟨O, hO⟩ : ∃ O : OpV, O = ⟨kd, ow, ol, n, ⟨aa, an, ac, al⟩, ⟨ba, bn, bc, bl⟩, pa, pc, ps, txt⟩ := ⟨_, rfl⟩
  have eO : O.A = ⟨aa, an, ac, al⟩ ∧ O.B = ⟨ba, bn, bc, bl⟩ ∧ O.pa = pa ∧ O.pc = pc ∧ O.ps = ps := by subst hO; exact ⟨rfl, rfl, rfl, rfl, rfl⟩
  have htt : an + bn + ps.length + sumN ps ≤ 4096 := by have h : OpV.tot ⟨kd, ow, ol, n, ⟨aa, an, ac, al⟩, ⟨ba, bn, bc, bl⟩, pa, pc, ps, txt⟩ ≤ 4096 := ht; simp only [OpV.tot, OpV.head] at h; omega
  rw [← hO]
  obtain ⟨W, hW, hBx, hbW, hsW⟩ := arr1 w0 33 O.cells
  have HW := hide hW
  have HS := hide hsW
  have HEO := hide eO
  clear hO hW hsW eO ho ht
  have hS := h0.later hbW
  have hbw : Below w.heap.size w W := hS.bel
  obtain ⟨CL, hCL⟩ : ∃ CL, CL = O.cells := ⟨_, rfl⟩
  rw [← hCL] at HW ⊢
  have HCL := hide hCL
  clear hCL
  have bb := box_all hBx
  have eO := unhide HEO
  rw [eO.1, eO.2.1, eO.2.2.1, eO.2.2.2.1, eO.2.2.2.2] at bb
  obtain ⟨-, -, -, -, b4, b5, b6, -⟩ := bb
  simp only [Sl.v] at b4 b5
  clear eO
  obtain ⟨W1, hW1, hR1, hbW1, hsW1⟩ := arr1 W 28 [.slice aa an ac, .slice ba bn bc]
  have HW1 := hide hW1
  clear hW1
  have hBx0 := hBx
  replace hBx := hBx.later hbW1
  have bb := box_all hBx
  have eO := unhide HEO
  rw [eO.1, eO.2.1, eO.2.2.1, eO.2.2.2.1, eO.2.2.2.2] at bb
  obtain ⟨-, -, -, -, -, -, c6, -⟩ := bb
  clear eO
  obtain ⟨i0, hii, hz0, hz1, hz2⟩ := info_parts Try.infoS
  have HSW1 := hide hsW1
  clear hsW1
  obtain ⟨RS, hRS⟩ : ∃ RS : List Sl, RS = ⟨aa, an, ac, al⟩ :: ⟨ba, bn, bc, bl⟩ :: ps := ⟨_, rfl⟩
  have HRS := hide hRS
  have hRok : ∀ s ∈ RS, s.Ok w := by
    rw [hRS]; intro s hs
    rcases List.mem_cons.1 hs with rfl | hs
    · exact hA
    · rcases List.mem_cons.1 hs with rfl | hs
      · exact hB
      · exact hPs s hs
  have hRsum : sumN RS ≤ 4096 := by rw [hRS, sumN_two]; simp only; omega
  have hRlen : RS.length = 2 + ps.length := by rw [hRS]; simp; omega
  have hRv : [Value.slice aa an ac, Value.slice ba bn bc] ++ ps.map Sl.v = RS.map Sl.v := by rw [hRS]; rfl
  have hb01 : Below w0.heap.size w0 W1 := hbW.trans (hbW1.mono hbW.size)
  have hown0 : W1.ownsRow w0.heap.size 28 1 (.slice (some ⟨W.heap.size, 0, none⟩) 2 2) 2 [.slice aa an ac, .slice ba bn bc] := own_of_arr hR1 hbW.size (by simp)
  clear hRS hPs hR1 hS hbw hBx0 hbW hbW1
  go_enter Try.func12, Try.ntmps12
  go_wp2_with (first
    | rw [show Obj.cells CL.toArray 33 = Obj.cells CL.toArray 33 (0, 0) from rfl, ← unhide HW]
    | rw [show Obj.cells #[Value.slice aa an ac, Value.slice ba bn bc] 28 = Obj.cells ([Value.slice aa an ac, Value.slice ba bn bc] : List Value).toArray 28 (0, 0) from rfl, ← unhide HW1]
    | (at_builtin
       refine wpList_append_parts rfl (.tmp 16) (.tmp 18) 24 rfl w0.heap.size 28 i0 (.slice none 0 0) Try.underlying24 hii hz0 hz1 hz2 rfl (.slice (some ⟨W.heap.size, 0, none⟩) 2 2) 2 [.slice aa an ac, .slice ba bn bc] rfl hown0 pa pc ps (hPl.later (h0.bel.trans (hb01.mono h0.bel.size))) hpn rfl (by omega) hb01.size ?_
       intro rv w1 hr1 hg1
       obtain ⟨gr, rc, rfl, -, -⟩ := (unhide hr1).form (by omega)))
  clear HW HW1 b4 b5 b6 c6 HCL hPl hpn
  have hr := unhide hr1
  rw [hRv, ← hRlen] at hr
  rw [← hRlen]
  have hb1 := below_grown hb01 (Nat.le_refl _) hown0 (unhide hg1)
  have hBx1 : Arr w1 w0.heap.size 33 O.cells := ((unhide hg1).block _ hBx.lt (own_ne_arr hown0 hBx (by decide))).trans hBx
  have hJ0 : JL w0.heap.size RS 0 (fun _ => ⟨none, 0, 0, []⟩) (fun _ => ⟨none, 0, 0, []⟩) (.slice none 0 0) (.slice none 0 0) (.slice (some ⟨gr, 0, none⟩) RS.length rc) w1 := ⟨hr, World.ownsRow_nil _ _ _ _, World.ownsRow_nil _ _ _ _, .inl rfl, .inl rfl, .inl rfl, fun j hj => by omega⟩
  have hR4 : RS.length ≤ 4098 := by omega
  have HRL := hide hRlen
  clear hr hr1 hg1 hown0 hb01 hBx hRv HSW1 htt hRlen
  go_loopw [6, 7, 8] (fun fv gv iv wr => ∃ (k : Nat) (F G : Nat → Sl), k ≤ RS.length ∧ iv = .int .i64 k ∧ JL w0.heap.size RS k F G fv gv (.slice (some ⟨gr, 0, none⟩) RS.length rc) wr ∧ Arr wr w0.heap.size 33 O.cells ∧ Below w0.heap.size w0 wr) (fun _ _ iv _ => RS.length - (intOf iv).toNat)
  case atStart => exact ⟨0, _, _, by omega, rfl, hJ0, hBx1, hb1⟩
  case round =>
    clear hJ0 hBx1 hb1
    obtain ⟨k, F, G, hk, rfl, hJ, hBx, hb⟩ := hrel
    by_cases hlt : k < RS.length
    · obtain ⟨s, hs⟩ : ∃ s, RS[k]? = some s := ⟨_, List.getElem?_eq_getElem hlt⟩
      have hsm := List.mem_of_getElem? hs
      have hsn : s.n ≤ 4096 := Nat.le_trans (sumN_mem hsm) hRsum
      have hok := ((hRok s hsm).later (h0.bel)).later hb
      have c1 : wr.cell? ⟨gr, k, none⟩ = some s.v := by rw [hJ.rr.cellAt k (by omega)]; simp [hs]
      obtain ⟨sa, sn, sc, sl⟩ := s
      simp only [Sl.v] at c1
      simp only at hsn
      have hkz : (k : Int) < (RS.length : Int) := by omega
      have HJ := hide hJ
      have HOK := hide hok
      have HSK := hide hs
      clear hs hsm hJ
      go_wp2_with fail
      refine (roomy_any ⟨sa, sn, sc, sl⟩ wr hok (by show sn ≤ _; omega)).mono ?_
      rintro e w2 ⟨g, c, rfl, hf, hb2⟩
      have hwz := hb.size
      have hJ := (unhide HJ).later hb2
      replace hBx := hBx.later hb2
      replace hb := hb.trans (hb2.mono hb.size)
      replace hf : w2.ownsRow w0.heap.size 5 1 (.slice (some ⟨g, 0, none⟩) (sn + 70) c) (sn + 70) (U8 (sl ++ marks2)) := own_base hf hwz
      have hc : sn + 70 ≤ c := (Sl.Ok.of_own hf (IsB.app (unhide HOK).isB marks2_isB)).le
      have kz : (sn : Int) ≤ (c : Int) := by omega
      clear c1 HJ hwz hb2
      go_wp2_with (first
        | (at_builtin
           refine wpList_append_own_at rfl (.tmp 31) (.tmp 33) 24 rfl w0.heap.size 28 i0 (.slice none 0 0) 1 24 Try.underlying24 hii hz0 hz1 hz2 rfl (by decide) u6 k (vsOf F k) rfl (hJ.fr.alloc _) ⟨w2.heap.size, 0, none⟩ 1 1 [.slice (some ⟨g, 0, none⟩) (sn + 70) c] rfl rfl (cell_one_new _ _ _) (slv_one _ rfl) (by unfold maxLen; omega) (by omega) (by have := hb.size; simp; omega) ?_
           intro fv3 w3 hl3 hg3 ha3
           obtain ⟨r3, g3, p3, p4, o3⟩ := hJ.addF (unhide hg3) (unhide ha3)
           have c3 : w3.cell? ⟨gr, k, none⟩ = some (.slice sa sn sc) := by rw [r3.cellAt k (by omega)]; simp [unhide HSK, Sl.v]
           have HB3 := hide (below_app hb (Nat.le_refl _) hJ.fr (unhide hg3))
           have HX3 := hide (box_app hBx hJ.fr (unhide hg3))
           have hsz3 := (unhide HB3).size)
        | (at_builtin
           refine wpList_append_own_at rfl (.tmp 35) (.tmp 43) 24 rfl w0.heap.size 28 i0 (.slice none 0 0) 1 24 Try.underlying24 hii hz0 hz1 hz2 rfl (by decide) u7 k (vsOf G k) rfl (g3.alloc _) ⟨w3.heap.size, 0, none⟩ 1 1 [.slice (some ⟨g, 0, none⟩) sn c] rfl rfl (cell_one_new _ _ _) (slv_one _ rfl) (by unfold maxLen; omega) (by omega) (by simp; omega) ?_
           intro gv4 w4 hl4 hg4 ha4
           have HJ4 := hide (hJ.round (unhide HSK) hf (unhide hl3) (unhide hg3) (unhide ha3) (unhide hl4) (unhide hg4) (unhide ha4))
           have HB4 := hide (below_app (unhide HB3) (Nat.le_refl _) g3 (unhide hg4))
           have HX4 := hide (box_app (unhide HX3) g3 (unhide hg4))))
      go_roundw
      case rel => exact ⟨k + 1, _, _, by omega, by go_num, unhide HJ4, unhide HX4, unhide HB4⟩
      case measure => simp [intOf]; omega
    · have hkN : k = RS.length := by omega
      have hkd : decide ((k : Int) < (RS.length : Int)) = false := by simp; omega
      subst hkN
      clear hlt hk
      have hRp : 0 < RS.length := by have := unhide HRL; omega
      obtain ⟨gf, fc, rfl, -, -⟩ := hJ.fr.form hRp
      obtain ⟨gg, gc, rfl, -, -⟩ := hJ.gr.form hRp
      have hSr := h0.later hb
      have okr : ∀ s ∈ RS, s.Ok wr := fun s hs => (hRok s hs).later hSr.bel
      obtain ⟨C, hC⟩ : ∃ C, C = cat RS := ⟨_, rfl⟩
      obtain ⟨T, hT⟩ : ∃ T, T = C.length := ⟨_, rfl⟩
      have hTb : T ≤ 4096 := by rw [hT, hC, cat_length hRok]; exact hRsum
      have hCB : IsB C := by rw [hC]; exact cat_isB hRok
      have hj1 := join_any (some ⟨gg, 0, none⟩) gc ((List.range RS.length).map G) wr (by rw [← vsOf_map]; exact own_liesV hJ.gr rfl) (hJ.oks okr) (by simp; omega) (by rw [hJ.joined, ← hC, ← hT]; omega)
      rw [hJ.joined, ← hC, ← hT, show ((List.range RS.length).map G).length = RS.length from by simp] at hj1
      have hj2 : ∀ x : World, Below wr.heap.size wr x → _ := fun x hx => refjoin_any (some ⟨gr, 0, none⟩) rc RS x (own_liesV (hJ.later hx).rr rfl) (fun s hs => (okr s hs).later hx) (by omega) (by rw [← hC, ← hT]; omega)
      rw [← hC, ← hT] at hj2
      have HT := hide hT
      clear hC hT
      go_wp2_with fail
      refine hj1.mono ?_
      rintro e x1 ⟨rfl, hpo, hbx⟩
      have hlt := (hpo.lt _ rfl).2
      have hle := hbx.size
      have hj2' := hj2 x1 hbx
      clear hj1 hj2
      go_wp2_with fail
      refine hj2'.mono ?_
      rintro e y1 ⟨q1, rfl, hqo, hby⟩
      clear hj2'
      replace hpo := own_later hpo hby
      have hb0 := hbx.trans (hby.mono hbx.size)
      clear hbx hby
      go_wp2_with fail
      refine (put_two hSr hb0 wr.heap.size T wr.heap.size x1.heap.size C q1 hpo (Nat.le_refl _) hqo hle hlt hCB (by omega) (by omega)).mono ?_
      rintro e z1 ⟨rfl, ⟨p1, qq1, lv1, wv1, hS1, -, -⟩, hB1⟩
      replace hBx := box_put (hBx.later hb0) (hSr.later hb0) hB1
      replace hJ := (hJ.later hb0).put hB1 (fun k e => (h0.lrow.lt k e).2) (fun k e => (h0.wrow.lt k e).2) h0.s.lt
      have hwz := hB1.size
      clear hB1 hpo hqo hb0 hlt hle hSr okr
      go_wp2_with fail
      refine (join_any none 0 [] z1 (fun h => absurd h (by simp)) (fun s hs => by cases hs) (by simp) (by simp [cat])).mono ?_
      rintro e z2 ⟨rfl, -, hbx⟩
      replace hBx := hBx.later hbx
      replace hJ := hJ.later hbx
      replace hS1 := hS1.later hbx
      clear hbx
      simp only [show (cat []).length = 0 from rfl]
      go_wp2_with fail
      have hPut : Put w gS (N + 1) z2 := ⟨_, _, _, _, hS1⟩
      clear hS1 hb hkd hTb hCB HT
      go_loopw [10] (fun iv wr => ∃ k : Nat, k ≤ RS.length ∧ iv = .int .i64 k ∧ JL w0.heap.size RS RS.length F G (.slice (some ⟨gf, 0, none⟩) RS.length fc) (.slice (some ⟨gg, 0, none⟩) RS.length gc) (.slice (some ⟨gr, 0, none⟩) RS.length rc) wr ∧ Put w gS (N + 1) wr ∧ Arr wr w0.heap.size 33 O.cells) (fun iv _ => RS.length - (intOf iv).toNat)
      case atStart => exact ⟨0, by omega, rfl, hJ, hPut, hBx⟩
      case round =>
        clear hJ hPut hBx
        obtain ⟨k, hk, rfl, hJ, ⟨P1, Q1, lv1, wv1, hS⟩, hBx⟩ := hrel
        by_cases hlt : k < RS.length
        · have hkz : (k : Int) < (RS.length : Int) := by omega
          obtain ⟨g, c, s, hs, hF, hG, hf⟩ := hJ.f k hlt
          have hsm := List.mem_of_getElem? hs
          have hsn : s.n ≤ 4096 := Nat.le_trans (sumN_mem hsm) hRsum
          have hok := (hRok s hsm)
          have hC1 : ∀ v, JL w0.heap.size RS RS.length F G (.slice (some ⟨gf, 0, none⟩) RS.length fc) (.slice (some ⟨gg, 0, none⟩) RS.length gc) (.slice (some ⟨gr, 0, none⟩) RS.length rc) v → v.cell? ⟨gr, k, none⟩ = some s.v := fun v hv => by rw [hv.rr.cellAt k (by omega)]; simp [hs]
          have hC2 : ∀ v, JL w0.heap.size RS RS.length F G (.slice (some ⟨gf, 0, none⟩) RS.length fc) (.slice (some ⟨gg, 0, none⟩) RS.length gc) (.slice (some ⟨gr, 0, none⟩) RS.length rc) v → v.cell? ⟨gf, k, none⟩ = some (.slice (some ⟨g, 0, none⟩) (s.n + 70) c) := fun v hv => by rw [hv.fr.cellAt k (by omega), vsOf_at F _ k hlt, hF]; rfl
          obtain ⟨sa, sn, sc, sl⟩ := s
          simp only [Sl.v] at hC1 hC2
          simp only at hsn hf
          clear hs hsm hF hG
          go_wp2_with fail
          refine wp_region_held_drew (S := fun v => JL w0.heap.size RS RS.length F G (.slice (some ⟨gf, 0, none⟩) RS.length fc) (.slice (some ⟨gg, 0, none⟩) RS.length gc) (.slice (some ⟨gr, 0, none⟩) RS.length rc) v) (by kernel_rfl) (hJ.later (below_drew _)) (fun hHeld => ?_)
          replace hS := hS.later (below_drew wr)
          replace hf := own_later hf (below_drew wr)
          replace hBx := hBx.later (below_drew wr)
          clear hJ
          generalize World.drew wr = r1 at hHeld hS hf hBx ⊢
          refine wpAnyH_take (i := 0) (oi := _) (v := .slice (some ⟨gf, 0, none⟩) RS.length fc) rfl (by kernel_rfl) (by kernel_rfl) (by kernel_rfl) (fun _ _ _ h => h) (Or.inl ⟨by rfl, fun w hSw => by go_simp⟩) hHeld ?_
          simp [Act.put]
          refine wpAnyH_take (i := 1) (oi := _) (v := .int .i64 k) rfl (by kernel_rfl) (by kernel_rfl) (by kernel_rfl) (fun _ _ _ h => h) (Or.inl ⟨by rfl, fun w hSw => by go_simp⟩) hHeld ?_
          simp [Act.put]
          refine wpAnyH_take (i := 2) (oi := _) (v := .pointer (some ⟨gf, k, none⟩)) rfl (by kernel_rfl) (by kernel_rfl) (by kernel_rfl) (fun _ _ _ h => h) (Or.inl ⟨by rfl, fun w hSw => by go_simp⟩) hHeld ?_
          simp [Act.put]
          refine wpAnyH_take (i := 3) (oi := _) (v := .slice (some ⟨g, 0, none⟩) (sn + 70) c) rfl (by kernel_rfl) (by kernel_rfl) (by kernel_rfl) (fun _ _ _ h => h) (Or.inl ⟨by rfl, fun w hSw => by have c2 := hC2 _ hSw; go_simp⟩) hHeld ?_
          simp [Act.put]
          refine wpAnyH_take (i := 4) (oi := _) (v := .slice (some ⟨gr, 0, none⟩) RS.length rc) rfl (by kernel_rfl) (by kernel_rfl) (by kernel_rfl) (fun _ _ _ h => h) (Or.inl ⟨by rfl, fun w hSw => by go_simp⟩) hHeld ?_
          simp [Act.put]
          refine wpAnyH_take (i := 5) (oi := _) (v := .int .i64 k) rfl (by kernel_rfl) (by kernel_rfl) (by kernel_rfl) (fun _ _ _ h => h) (Or.inl ⟨by rfl, fun w hSw => by go_simp⟩) hHeld ?_
          simp [Act.put]
          refine wpAnyH_take (i := 6) (oi := _) (v := .pointer (some ⟨gr, k, none⟩)) rfl (by kernel_rfl) (by kernel_rfl) (by kernel_rfl) (fun _ _ _ h => h) (Or.inl ⟨by rfl, fun w hSw => by go_simp⟩) hHeld ?_
          simp [Act.put]
          refine wpAnyH_take (i := 7) (oi := _) (v := .slice sa sn sc) rfl (by kernel_rfl) (by kernel_rfl) (by kernel_rfl) (fun _ _ _ h => h) (Or.inl ⟨by rfl, fun w hSw => by have c1 := hC1 _ hSw; go_simp⟩) hHeld ?_
          simp [Act.put]
          refine wpAnyH_ready (rs := [8]) (by kernel_rfl) (by simp) ?_
          refine AllReadyH.cons rfl (fun Kk hKK => ?_) AllReadyH.nil
          go_simp
          refine (still_any ⟨some ⟨g, 0, none⟩, sn + 70, c, sl ++ marks2⟩ ⟨sa, sn, sc, sl⟩ _ (Sl.Ok.of_own hf (IsB.app hok.isB marks2_isB)) (hok.later hS.bel) rfl (by show sn ≤ _; omega)).mono ?_
          rintro e r2 ⟨rfl, hbx⟩
          replace hS := hS.later hbx
          replace hBx := hBx.later hbx
          refine hKK.out _ _ (hHeld.later hbx) (fun hHeld => ?_)
          clear hKK Kk hbx hf
          refine wpAnyH_take (i := 9) (oi := _) (v := .bool false) rfl (by kernel_rfl) (by kernel_rfl) (by kernel_rfl) (fun _ _ _ h => h) (Or.inl ⟨by rfl, fun w hSw => by go_simp⟩) hHeld ?_
          simp [Act.put]
          refine wpAnyH_done (by kernel_rfl) ?_ _
          go_wp2_with fail
          go_roundw
          case rel => exact ⟨k + 1, by omega, by go_num, hHeld, ⟨_, _, _, _, hS⟩, hBx⟩
          case measure => simp [intOf]; omega
        · have hkd : decide ((k : Int) < (RS.length : Int)) = false := by simp; omega
          obtain ⟨g, c, s, hs, -, hG, hf⟩ := hJ.f 0 hRp
          have hsA : s = ⟨aa, an, ac, al⟩ := by rw [unhide HRS] at hs; simp at hs; exact hs.symm
          subst hsA
          simp only at hG hf
          replace hJ := hJ.later (below_drew wr)
          have c0 : (World.drew wr).cell? ⟨gg, 0, none⟩ = some (.slice (some ⟨g, 0, none⟩) an c) := by rw [hJ.gr.cellAt 0 (by omega), vsOf_at G _ 0 hRp, hG]; rfl
          have han : an ≤ 4096 := by
            have h1 : sumN RS = an + bn + sumN ps := by rw [unhide HRS]; exact sumN_two _ _ _
            omega
          have HAL : Hid (al.length = an) := hA.len
          have hRz : (0 : Int) < (RS.length : Int) := by omega
          clear hs hG
          go_wp2_with fail
          refine wp_region_held_drew (S := fun v => Arr v w0.heap.size 33 O.cells) (by kernel_rfl) (hBx.later (below_drew _)) (fun hHeld => ?_)
          replace hS := hS.later (below_drew wr)
          replace hf := own_later hf (below_drew wr)
          clear hJ hBx
          generalize World.drew wr = r1 at hHeld hS hf c0 ⊢
          refine wpAnyH_take (i := 0) (oi := _) (v := .pointer (some ⟨gS, 0, none⟩)) rfl (by kernel_rfl) (by kernel_rfl) (by kernel_rfl) (fun _ _ _ h => h) (Or.inl ⟨by rfl, fun w hSw => by go_simp⟩) hHeld ?_
          simp [Act.put]
          refine wpAnyH_take (i := 1) (oi := _) (v := .slice (some ⟨gg, 0, none⟩) RS.length gc) rfl (by kernel_rfl) (by kernel_rfl) (by kernel_rfl) (fun _ _ _ h => h) (Or.inl ⟨by rfl, fun w hSw => by go_simp⟩) hHeld ?_
          simp [Act.put]
          refine wpAnyH_take (i := 2) (oi := _) (v := .pointer (some ⟨gg, 0, none⟩)) rfl (by kernel_rfl) (by kernel_rfl) (by kernel_rfl) (fun _ _ _ h => h) (Or.inl ⟨by rfl, fun w hSw => by go_simp⟩) hHeld ?_
          simp [Act.put]
          refine wpAnyH_take (i := 6) (oi := _) (v := .pointer (some ⟨w0.heap.size, 4, none⟩)) rfl (by kernel_rfl) (by kernel_rfl) (by kernel_rfl) (fun _ _ _ h => h) (Or.inl ⟨by rfl, fun w hSw => by go_simp⟩) hHeld ?_
          simp [Act.put]
          refine wpAnyH_take (i := 7) (oi := _) (v := .slice aa an ac) rfl (by kernel_rfl) (by kernel_rfl) (by kernel_rfl) (fun _ _ _ h => h) (Or.inl ⟨by rfl, fun w hSw => by have bb := box_all hSw; have eO := unhide HEO; rw [eO.1] at bb; obtain ⟨-, -, -, -, b4, -, -, -⟩ := bb; simp only [Sl.v] at b4; clear eO; go_simp⟩) hHeld ?_
          simp [Act.put]
          refine wpAnyH_ready (rs := [3]) (by kernel_rfl) (by simp) ?_
          refine AllReadyH.cons rfl (fun Kk hKK => ?_) AllReadyH.nil
          go_simp
          refine hKK.out _ _ hHeld (fun hHeld => ?_)
          clear hKK Kk c0
          refine wpAnyH_ready (rs := [4]) (by kernel_rfl) (by simp) ?_
          refine AllReadyH.cons rfl (fun Kk hKK => ?_) AllReadyH.nil
          go_simp
          obtain ⟨r2, hr2, hAr, hb2, -⟩ := arr1 r1 28 [.slice (some ⟨g, 0, none⟩) an c]
          rw [show Obj.cells #[Value.slice (some ⟨g, 0, none⟩) an c] 28 = Obj.cells ([Value.slice (some ⟨g, 0, none⟩) an c] : List Value).toArray 28 (0, 0) from rfl, ← hr2]
          clear hr2
          refine hKK.out _ _ (hHeld.later hb2) (fun hHeld => ?_)
          clear hKK Kk
          refine wpAnyH_ready (rs := [5]) (by kernel_rfl) (by simp) ?_
          refine AllReadyH.cons rfl (fun Kk hKK => ?_) AllReadyH.nil
          go_simp
          have okg : Sl.Ok r2 ⟨some ⟨g, 0, none⟩, an, c, al⟩ := own_prefix (own_later hf hb2) (unhide HAL) hA.isB
          have hj := join_any (some ⟨r1.heap.size, 0, none⟩) 1 [⟨some ⟨g, 0, none⟩, an, c, al⟩] r2 (own_liesV (own_of_arr (B := 0) hAr (Nat.zero_le _) (by simp)) rfl) (fun s hs => by simp at hs; subst hs; exact okg) (by simp) (by simp [cat, unhide HAL]; omega)
          rw [show cat [(⟨some ⟨g, 0, none⟩, an, c, al⟩ : Sl)] = al from by simp [cat], unhide HAL] at hj
          refine hj.mono ?_
          rintro e r3 ⟨rfl, hpo, hb3⟩
          have hb0 := hb2.trans (hb3.mono hb2.size)
          refine hKK.out _ _ (hHeld.later hb3) (fun hHeld => ?_)
          clear hKK Kk hj okg hAr
          refine wpAnyH_ready (rs := [8]) (by kernel_rfl) (by simp) ?_
          refine AllReadyH.cons rfl (fun Kk hKK => ?_) AllReadyH.nil
          go_simp
          have hww : w.heap.size ≤ r1.heap.size := hS.bel.size
          have hle2 := hb2.size
          refine (put_anyE hS hb0 ⟨some ⟨r2.heap.size, 0, none⟩, an, an, al⟩ ⟨aa, an, ac, al⟩ ⟨Sl.Ok.of_own hpo hA.isB, rfl, fun _ => ⟨r2.heap.size, rfl, by omega, own_arr8 hpo⟩⟩ (hA.later (hS.later hb0).bel) rfl (by show an ≤ _; omega) (fun x hx => by cases hx; exact hle2) (fun hz x hx => Or.inr (hA.blk hz x hx)) (fun hz y hy _ x hx e2 => by
            cases hy; simp only [Option.some.injEq] at e2; have := hA.blk hz x hx; omega) (by omega)).mono ?_
          rintro e r4 ⟨rfl, ⟨lv2, wv2, hS2⟩, hB2⟩
          refine hKK.out _ _ (box_put hHeld (hS.later hb0) hB2) (fun hHeld => ?_)
          clear hKK Kk
          refine wpAnyH_take (i := 9) (oi := _) (v := .bool true) rfl (by kernel_rfl) (by kernel_rfl) (by kernel_rfl) (fun _ _ _ h => h) (Or.inl ⟨by rfl, fun w hSw => by go_simp⟩) hHeld ?_
          simp [Act.put]
          refine wpAnyH_done (by kernel_rfl) ?_ _
          go_wp2_with fail
          go_ret
          exact ⟨rfl, N + 1 + 1, by omega, _, _, _, _, hS2⟩
end Go.Proofs.Ytipmgnigejpfjaa
