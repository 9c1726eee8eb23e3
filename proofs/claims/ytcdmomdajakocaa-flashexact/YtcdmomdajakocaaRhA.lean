import Derived.Test.YtcdmomdajakocaaRhE
set_option linter.unusedVariables false
set_option linter.unusedSimpArgs false
namespace Go.Proofs.Ytcdmomdajakocaa
open Go.RowKit

set_option maxHeartbeats 4000000 in
set_option maxRecDepth 100000 in
theorem both_app (p : Nat) (S : Nat → Prop) (fa sa va : Option Addr) (fc sc vc : Nat) (s : FlS) (ar : List (Int × Int)) (cnt : Int) (w : World) (h : RV w (.slice fa s.l0.length fc) (.slice sa s.l1.length sc) (.slice va ar.length vc) s ar cnt) (h6 : ∀ x ∈ ar, x.1 ≤ 1000000) (hf : Fl w p S s) (hap : ∀ k, RSet (.slice fa s.l0.length fc) (.slice sa s.l1.length sc) (.slice va ar.length vc) k → ¬ S k) (bank x y : Int) (d : Sl) (hd : d.Ok w) (hdn : d.n ≤ 2097152) (hS : Sepd S d) (hw : s.wr ≤ 1000000000) :
    Calls Try.prog 10 #[.pointer (some ⟨p, 0, none⟩), .agg #[.int .i64 s.size, .slice fa s.l0.length fc, .slice sa s.l1.length sc, .slice va ar.length vc, .int .i64 cnt, .int .i64 s.wr, .bool s.down], .agg #[.int .i64 1, .int .i64 bank, .slice d.a d.n d.c, .int .i64 x, .int .i64 y]] w (BoP p S (RSet (.slice fa s.l0.length fc) (.slice sa s.l1.length sc) (.slice va ar.length vc)) (s.step ⟨1, bank, d, x, y⟩).1 w) := by
  obtain ⟨W1, hW1⟩ : ∃ W1, ((w.alloc (.cells #[.int .i64 s.size, .slice fa s.l0.length fc, .slice sa s.l1.length sc, .slice va ar.length vc, .int .i64 cnt, .int .i64 s.wr, .bool s.down] 31)).alloc (.cells #[.int .i64 1, .int .i64 bank, .slice d.a d.n d.c, .int .i64 x, .int .i64 y] 37)).alloc (.cells #[.int .i64 0, .slice none 0 0, .slice none 0 0, .slice none 0 0, .int .i64 0, .int .i64 0, .bool false] 31) = W1 := ⟨_, rfl⟩
  obtain ⟨A0, A1, A2, b1, hz⟩ := three_new w 31 37 [.int .i64 s.size, .slice fa s.l0.length fc, .slice sa s.l1.length sc, .slice va ar.length vc, .int .i64 cnt, .int .i64 s.wr, .bool s.down] [.int .i64 1, .int .i64 bank, .slice d.a d.n d.c, .int .i64 x, .int .i64 y] [.int .i64 0, .slice none 0 0, .slice none 0 0, .slice none 0 0, .int .i64 0, .int .i64 0, .bool false]
  rw [hW1] at A0 A1 A2 b1 hz
  have hSw := hf.lt
  have HN0 : Hid (¬ S (w.heap.size)) := hide (fun e => by have := hSw _ e; omega)
  have HN1 : Hid (¬ S (w.heap.size + 1)) := hide (fun e => by have := hSw _ e; omega)
  have HN2 : Hid (¬ S (w.heap.size + 2)) := hide (fun e => by have := hSw _ e; omega)
  have HSW := hide hSw
  have HO : Hid (∀ k, (RSet (.slice fa s.l0.length fc) (.slice sa s.l1.length sc) (.slice va ar.length vc)) k → k < w.heap.size ∧ ¬ S k) := hide (fun k hk => ⟨h.lt k hk, hap k hk⟩)
  have HH := hide (h.later b1)
  have HAP := hide hap
  have HF1 := hide (hf.later b1)
  have HD1 := hide (hd.later b1)
  have HZ := hide hz
  have HB1 := hide b1
  obtain ⟨da, dn, dc, dl⟩ := d
  simp only at *
  have HL : Hid (dl.length = dn) := hide hd.len
  have c0 : W1.cell? ⟨w.heap.size, 0, none⟩ = some (.int .i64 s.size) := (by simpa using A0.cell 0)
  have c1 : W1.cell? ⟨w.heap.size, 1, none⟩ = some (.slice fa s.l0.length fc) := (by simpa using A0.cell 1)
  have c2 : W1.cell? ⟨w.heap.size, 2, none⟩ = some (.slice sa s.l1.length sc) := (by simpa using A0.cell 2)
  have c3 : W1.cell? ⟨w.heap.size, 3, none⟩ = some (.slice va ar.length vc) := (by simpa using A0.cell 3)
  have c4 : W1.cell? ⟨w.heap.size, 4, none⟩ = some (.int .i64 cnt) := (by simpa using A0.cell 4)
  have c5 : W1.cell? ⟨w.heap.size, 5, none⟩ = some (.int .i64 s.wr) := (by simpa using A0.cell 5)
  have c6 : W1.cell? ⟨w.heap.size, 6, none⟩ = some (.bool s.down) := (by simpa using A0.cell 6)
  have k0 : W1.cell? ⟨w.heap.size + 1, 0, none⟩ = some (.int .i64 1) := (by simpa using A1.cell 0)
  have k1 : W1.cell? ⟨w.heap.size + 1, 1, none⟩ = some (.int .i64 bank) := (by simpa using A1.cell 1)
  have k2 : W1.cell? ⟨w.heap.size + 1, 2, none⟩ = some (.slice da dn dc) := (by simpa using A1.cell 2)
  have k3 : W1.cell? ⟨w.heap.size + 1, 3, none⟩ = some (.int .i64 x) := (by simpa using A1.cell 3)
  have k4 : W1.cell? ⟨w.heap.size + 1, 4, none⟩ = some (.int .i64 y) := (by simpa using A1.cell 4)
  have HA0 := hide A0
  have HA1 := hide A1
  have HA2 := hide A2
  have HS := hide hS
  have H6 := hide h6
  obtain ⟨⟨s', er⟩, hP⟩ : ∃ r, r = s.append bank dl := ⟨_, rfl⟩
  have hst : s.step ⟨1, bank, ⟨da, dn, dc, dl⟩, x, y⟩ = (s', er) := by rw [hP]; rfl
  rw [hst]
  have HP : Hid (s.append bank dl = (s', er)) := hide hP.symm
  have hR := roomy_any ⟨da, dn, dc, dl⟩ W1 (unhide HD1) hdn
  simp only [Sl.v] at hR
  clear hP hst h hf hap hd hS A0 A1 A2 b1 hz hSw h6
  go_enter Try.func10, Try.ntmps10
  go_wp2_with (first
    | (go_at_call 5; refine hR.mono ?_; rintro e w2 ⟨g, c, rfl, ho, bw2⟩; clear hR; have U2 : Hid (Buts S W1 w2) := hide (Buts.of_below bw2); have HF2 := hide ((unhide HF1).later bw2); have A0w2 := (unhide U2).arr (unhide HA0) (unhide HN0); have a0 : w2.cell? ⟨w.heap.size, 0, none⟩ = some (.int .i64 s.size) := (by simpa using A0w2.cell 0); have a1 : w2.cell? ⟨w.heap.size, 1, none⟩ = some (.slice fa s.l0.length fc) := (by simpa using A0w2.cell 1); have a2 : w2.cell? ⟨w.heap.size, 2, none⟩ = some (.slice sa s.l1.length sc) := (by simpa using A0w2.cell 2); have a3 : w2.cell? ⟨w.heap.size, 3, none⟩ = some (.slice va ar.length vc) := (by simpa using A0w2.cell 3); have a4 : w2.cell? ⟨w.heap.size, 4, none⟩ = some (.int .i64 cnt) := (by simpa using A0w2.cell 4); have a5 : w2.cell? ⟨w.heap.size, 5, none⟩ = some (.int .i64 s.wr) := (by simpa using A0w2.cell 5); have a6 : w2.cell? ⟨w.heap.size, 6, none⟩ = some (.bool s.down) := (by simpa using A0w2.cell 6); clear A0w2; have A1w2 := (unhide U2).arr (unhide HA1) (unhide HN1); have b0 : w2.cell? ⟨w.heap.size + 1, 0, none⟩ = some (.int .i64 1) := (by simpa using A1w2.cell 0); have b1 : w2.cell? ⟨w.heap.size + 1, 1, none⟩ = some (.int .i64 bank) := (by simpa using A1w2.cell 1); have b2 : w2.cell? ⟨w.heap.size + 1, 2, none⟩ = some (.slice da dn dc) := (by simpa using A1w2.cell 2); have b3 : w2.cell? ⟨w.heap.size + 1, 3, none⟩ = some (.int .i64 x) := (by simpa using A1w2.cell 3); have b4 : w2.cell? ⟨w.heap.size + 1, 4, none⟩ = some (.int .i64 y) := (by simpa using A1w2.cell 4); clear A1w2; have HGL : Hid (W1.heap.size ≤ g) := hide (ho.lt g rfl).1; have HG2 : Hid (g < w2.heap.size) := hide (ho.lt g rfl).2; have HW2 := hide ho; have HZ2 := hide bw2.size; clear ho bw2))
  have hisB : IsB (dl ++ marks) := fun z hz => (List.mem_append.1 hz).elim ((unhide HD1).isB z) (marks_isB z)
  have hll : (dl ++ marks).length = dn + 64 := by rw [List.length_append, marks_length, unhide HL]
  have HOw : Hid (OwB w2 (.slice (some ⟨g, 0, none⟩) (dn + 64) c) (dl ++ marks)) := hide ⟨by rw [hll]; exact own_mono (unhide HW2) (Nat.zero_le _), hisB⟩
  have hcap : (dn : Int) ≤ (c : Int) := by have := ((unhide HOw).okn hll).le; simp only at this; omega
  have HNG : Hid (¬ S g) := hide (fun e => by have h1 := unhide HSW _ e; have h2 := unhide HGL; have h3 := unhide HZ; omega)
  have hAp := append_any p S s bank ⟨some ⟨g, 0, none⟩, dn, c, dl⟩ w2.drew ((unhide HF2).drewN 1) (ok_drewN (by have := own_pre (unhide HW2) hisB (n := dn) (by omega); rw [List.take_left' (unhide HL)] at this; exact this) 1) (fun _ z hz => by cases hz; exact unhide HNG) hw
  rw [unhide HP] at hAp
  simp only [Sl.v] at hAp
  clear hisB hll
  go_region_held3 (fun w' => w'.cell? ⟨w.heap.size + 1, 1, none⟩ = some (.int .i64 bank) ∧ w'.cell? ⟨w.heap.size + 1, 2, none⟩ = some (.slice da dn dc)) (first | exact ⟨b1, b2⟩ | exact ⟨j1, j2⟩ | go_keep)
    (first
      | (go_at_call 19; refine hAp.mono ?_; rintro e w3 ⟨rfl, S1, G3'⟩; clear hAp; have G3 := FSt.undrewN (k := 1) G3'; have U3 := hide ((unhide U2).trans G3.but); have HF3 := hide G3.fl; have HAT2 := hide G3.at_; have HAT : Hid (∀ k, S1 k → S k ∨ W1.heap.size ≤ k) := hide (fun k hk => (G3.at_ k hk).imp id (fun h => Nat.le_trans (unhide HZ2) h)); have A0w3 := (unhide U3).arr (unhide HA0) (unhide HN0); have f0 : w3.cell? ⟨w.heap.size, 0, none⟩ = some (.int .i64 s.size) := (by simpa using A0w3.cell 0); have f1 : w3.cell? ⟨w.heap.size, 1, none⟩ = some (.slice fa s.l0.length fc) := (by simpa using A0w3.cell 1); have f2 : w3.cell? ⟨w.heap.size, 2, none⟩ = some (.slice sa s.l1.length sc) := (by simpa using A0w3.cell 2); have f3 : w3.cell? ⟨w.heap.size, 3, none⟩ = some (.slice va ar.length vc) := (by simpa using A0w3.cell 3); have f4 : w3.cell? ⟨w.heap.size, 4, none⟩ = some (.int .i64 cnt) := (by simpa using A0w3.cell 4); have f5 : w3.cell? ⟨w.heap.size, 5, none⟩ = some (.int .i64 s.wr) := (by simpa using A0w3.cell 5); have f6 : w3.cell? ⟨w.heap.size, 6, none⟩ = some (.bool s.down) := (by simpa using A0w3.cell 6); clear A0w3; have A1w3 := (unhide U3).arr (unhide HA1) (unhide HN1); have j0 : w3.cell? ⟨w.heap.size + 1, 0, none⟩ = some (.int .i64 1) := (by simpa using A1w3.cell 0); have j1 : w3.cell? ⟨w.heap.size + 1, 1, none⟩ = some (.int .i64 bank) := (by simpa using A1w3.cell 1); have j2 : w3.cell? ⟨w.heap.size + 1, 2, none⟩ = some (.slice da dn dc) := (by simpa using A1w3.cell 2); have j3 : w3.cell? ⟨w.heap.size + 1, 3, none⟩ = some (.int .i64 x) := (by simpa using A1w3.cell 3); have j4 : w3.cell? ⟨w.heap.size + 1, 4, none⟩ = some (.int .i64 y) := (by simpa using A1w3.cell 4); clear A1w3; have HRV3 := hide ((unhide HH).keep (unhide U3) (unhide HAP)); have HD3 := hide ((unhide U3).ok (unhide HD1) (unhide HS)); have HOw3 := hide ((unhide HOw).keep G3.but (fun k hk e => by cases hk; exact unhide HNG e)); have HZ3 := hide G3.but.size; clear G3 G3'; have hRC := rappend_any fa sa va fc sc vc s ar cnt w3 (unhide HRV3) (unhide H6) bank ⟨da, dn, dc, dl⟩ (unhide HD3) (by simp only; omega) hw (by simp only; rw [unhide HP]; exact (unhide HF3).ok); simp only [Sl.v] at hRC; rw [unhide HP] at hRC))
  go_wp2_with (first
    | (go_at_call 20; refine (hRC).mono ?_; rintro e w4 ⟨v, rfl, hRb, b4⟩; have HRb := hide hRb; obtain ⟨fa3, sa3, va3, fc3, sc3, vc3, ar3, cnt3, hvv, -, -, -⟩ := hRb; subst hvv; obtain ⟨W4, hW4⟩ : ∃ W4, w4.alloc (.cells #[.int .i64 s'.size, .slice fa3 s'.l0.length fc3, .slice sa3 s'.l1.length sc3, .slice va3 ar3.length vc3, .int .i64 cnt3, .int .i64 s'.wr, .bool s'.down] 31) = W4 := ⟨_, rfl⟩; have HB4 := hide b4; have b5 : Below w4.heap.size w4 W4 := (by rw [← hW4]; exact below_one w4 _); have GW : Arr W4 w4.heap.size 31 [.int .i64 s'.size, .slice fa3 s'.l0.length fc3, .slice sa3 s'.l1.length sc3, .slice va3 ar3.length vc3, .int .i64 cnt3, .int .i64 s'.wr, .bool s'.down] := (by rw [← hW4]; exact Arr.new w4 _ _); have m0 : W4.cell? ⟨w4.heap.size, 0, none⟩ = some (.int .i64 s'.size) := (by simpa using GW.cell 0); have m1 : W4.cell? ⟨w4.heap.size, 1, none⟩ = some (.slice fa3 s'.l0.length fc3) := (by simpa using GW.cell 1); have m2 : W4.cell? ⟨w4.heap.size, 2, none⟩ = some (.slice sa3 s'.l1.length sc3) := (by simpa using GW.cell 2); have m3 : W4.cell? ⟨w4.heap.size, 3, none⟩ = some (.slice va3 ar3.length vc3) := (by simpa using GW.cell 3); have m4 : W4.cell? ⟨w4.heap.size, 4, none⟩ = some (.int .i64 cnt3) := (by simpa using GW.cell 4); have m5 : W4.cell? ⟨w4.heap.size, 5, none⟩ = some (.int .i64 s'.wr) := (by simpa using GW.cell 5); have m6 : W4.cell? ⟨w4.heap.size, 6, none⟩ = some (.bool s'.down) := (by simpa using GW.cell 6); have HG := hide GW; have HB5 := hide b5; have U4 := hide ((unhide U3).trans (Buts.of_below b4)); have U5 := hide ((unhide U4).trans (Buts.of_below b5)); have HA2F := hide ((unhide U5).arr (unhide HA2) (unhide HN2)); clear b4 b5 GW))
  have HOw4 := hide (((unhide HOw3).later (unhide HB4)).later (unhide HB5))
  have HD4 := hide (((unhide HD3).later (unhide HB4)).later (unhide HB5))
  have hc5 : Hid (W4.cell? ⟨w.heap.size + 1, 2, none⟩ = some (.slice da dn dc)) := hide (by simpa using ((unhide U5).arr (unhide HA1) (unhide HN1)).cell 2)
  have hR6 : W4.drew.rangeAt w4.heap.size 0 [.int .i64 s'.size, .slice fa3 s'.l0.length fc3, .slice sa3 s'.l1.length sc3, .slice va3 ar3.length vc3, .int .i64 cnt3, .int .i64 s'.wr, .bool s'.down] ∧ W4.drew.cell? ⟨w.heap.size + 1, 2, none⟩ = some (.slice da dn dc) := ⟨blk_rangeF ((unhide HG).later (below_drewN (Below.refl _ _) 1)), unhide hc5⟩
  have hWi := wiped_any ⟨da, dn, dc, dl⟩ g c W4.drew (ok_drewN (unhide HD4) 1) hdn ((unhide HOw4).later (below_drewN (Below.refl _ _) 1))
  simp only at hWi
  have HZF : Hid (w3.heap.size ≤ w4.heap.size ∧ w4.heap.size < W4.heap.size) := hide ⟨(unhide HB4).size, (unhide HG).lt⟩
  refine wp_region_held_drew (S := fun w' => w'.rangeAt w4.heap.size 0 [.int .i64 s'.size, .slice fa3 s'.l0.length fc3, .slice sa3 s'.l1.length sc3, .slice va3 ar3.length vc3, .int .i64 cnt3, .int .i64 s'.wr, .bool s'.down] ∧ w'.cell? ⟨w.heap.size + 1, 2, none⟩ = some (.slice da dn dc)) (by kernel_rfl) hR6 (fun hHeld => ?_)
  refine wpAnyH_take (i := 0) (oi := _) (v := .agg #[.int .i64 s'.size, .slice fa3 s'.l0.length fc3, .slice sa3 s'.l1.length sc3, .slice va3 ar3.length vc3, .int .i64 cnt3, .int .i64 s'.wr, .bool s'.down]) rfl (by kernel_rfl) (by kernel_rfl) (by kernel_rfl) (fun _ _ _ h => h) (yieldsIf_load_mid (by rfl) _ _ rfl _ _ rfl _ _ (fun _ h => h.1) Try.underlying31 rfl (by simpa using Try.szF)) hHeld ?_
  simp [Act.put]
  refine wpAnyH_take (i := 1) (oi := _) (v := .int .i64 er) rfl (by kernel_rfl) (by kernel_rfl) (by kernel_rfl) (fun _ _ _ h => h) (Or.inl ⟨by rfl, fun w hSw => by go_simp⟩) hHeld ?_
  simp [Act.put]
  refine wpAnyH_take (i := 2) (oi := _) (v := .int .i64 er) rfl (by kernel_rfl) (by kernel_rfl) (by kernel_rfl) (fun _ _ _ h => h) (Or.inl ⟨by rfl, fun w hSw => by go_simp⟩) hHeld ?_
  simp [Act.put]
  refine wpAnyH_take (i := 3) (oi := _) (v := .bool true) rfl (by kernel_rfl) (by kernel_rfl) (by kernel_rfl) (fun _ _ _ h => h) (Or.inl ⟨by rfl, fun w hSw => by go_simp⟩) hHeld ?_
  simp [Act.put]
  refine wpAnyH_take (i := 4) (oi := _) (v := .bool true) rfl (by kernel_rfl) (by kernel_rfl) (by kernel_rfl) (fun _ _ _ h => h) (Or.inl ⟨by rfl, fun w hSw => by go_simp⟩) hHeld ?_
  simp [Act.put]
  refine wpAnyH_take (i := 5) (oi := _) (v := .slice (some ⟨g, 0, none⟩) (dn + 64) c) rfl (by kernel_rfl) (by kernel_rfl) (by kernel_rfl) (fun _ _ _ h => h) (Or.inl ⟨by rfl, fun w hSw => by go_simp⟩) hHeld ?_
  simp [Act.put]
  refine wpAnyH_take (i := 6) (oi := _) (v := .pointer (some ⟨w.heap.size + 1, 2, none⟩)) rfl (by kernel_rfl) (by kernel_rfl) (by kernel_rfl) (fun _ _ _ h => h) (Or.inl ⟨by rfl, fun w hSw => by go_simp⟩) hHeld ?_
  simp [Act.put]
  refine wpAnyH_take (i := 7) (oi := _) (v := .slice da dn dc) rfl (by kernel_rfl) (by kernel_rfl) (by kernel_rfl) (fun _ _ _ h => h) (Or.inl ⟨by rfl, fun w hSw => by have h9 := hSw.2; go_simp⟩) hHeld ?_
  simp [Act.put]
  refine wpAnyH_ready (rs := [8]) (by kernel_rfl) (by simp) ?_
  refine AllReadyH.cons rfl (fun K hK => ?_) AllReadyH.nil
  go_simp
  refine hWi.mono ?_
  rintro e w5 ⟨rfl, -, bw5'⟩
  have bw5 : Buts (· = g) W4 w5 := ⟨bw5'.os, bw5'.tape, bw5'.output, bw5'.size, bw5'.block⟩
  have hg5 : g ≠ w4.heap.size := by have := unhide HG2; have := unhide HZ3; have := (unhide HZF).1; omega
  have hgw : w.heap.size + 2 < g := by have := unhide HGL; have := unhide HZ; omega
  have G5 := bw5.arr (unhide HG) (fun e => hg5 e.symm)
  have A25 := bw5.arr (unhide HA2F) (by omega)
  have A15 := bw5.arr ((unhide U5).arr (unhide HA1) (unhide HN1)) (by omega)
  refine hK.out _ _ ⟨blk_rangeF G5, by simpa using A15.cell 2⟩ (fun hHeld => ?_)
  clear hK K
  refine wpAnyH_take (i := 9) (oi := _) (v := .bool true) rfl (by kernel_rfl) (by kernel_rfl) (by kernel_rfl) (fun _ _ _ h => h) (Or.inl ⟨by rfl, fun w hSw => by go_simp⟩) hHeld ?_
  simp [Act.put]
  refine wpAnyH_ready (rs := [10]) (by kernel_rfl) (by simp) ?_
  refine AllReadyH.cons rfl (fun K hK => ?_) AllReadyH.nil
  refine step_store_row rfl 31 (.tmp 6) (.tmp 57) rfl (w.heap.size + 2) #[.int .i64 s'.size, .slice fa3 s'.l0.length fc3, .slice sa3 s'.l1.length sc3, .slice va3 ar3.length vc3, .int .i64 cnt3, .int .i64 s'.wr, .bool s'.down] rfl rfl 31 _ A25 Try.szF rfl (rv_one _ _ _ _ _ _ _ _ _ _ _ _ _) ?_
  simp [Act.put]
  have bb : Buts (· = w.heap.size + 2) w5 (w5.setRow (w.heap.size + 2) #[.int .i64 s'.size, .slice fa3 s'.l0.length fc3, .slice sa3 s'.l1.length sc3, .slice va3 ar3.length vc3, .int .i64 cnt3, .int .i64 s'.wr, .bool s'.down]) := Buts.of_but ((But.refl (w.heap.size + 2) w5).setRow _)
  have hw4 : w.heap.size + 2 < w4.heap.size := by have := unhide HGL; have := unhide HG2; have := unhide HZ3; have := (unhide HZF).1; have := unhide HZ; omega
  refine hK.out _ _ ⟨blk_rangeF (bb.arr G5 (by omega)), by simpa using (bb.arr A15 (by omega)).cell 2⟩ (fun hHeld => ?_)
  clear hK K
  refine wpAnyH_take (i := 11) (oi := _) (v := .bool true) rfl (by kernel_rfl) (by kernel_rfl) (by kernel_rfl) (fun _ _ _ h => h) (Or.inl ⟨by rfl, fun w hSw => by go_simp⟩) hHeld ?_
  simp [Act.put]
  refine wpAnyH_done (by kernel_rfl) ?_ _
  go_wp2
  refine bodyPost_ret (results_row_tmp rfl _ _ (w.heap.size + 2) 31 #[.int .i64 s'.size, .slice fa3 s'.l0.length fc3, .slice sa3 s'.l1.length sc3, .slice va3 ar3.length vc3, .int .i64 cnt3, .int .i64 s'.wr, .bool s'.down] (0, 0) _ rfl _ rfl (setRow_heap w5 (w.heap.size + 2) _ #[.int .i64 s'.size, .slice fa3 s'.l0.length fc3, .slice sa3 s'.l1.length sc3, .slice va3 ar3.length vc3, .int .i64 cnt3, .int .i64 s'.wr, .bool s'.down] 31 _ A25) Try.underlying31 rfl Try.szF) rfl ?_
  have hw3 : w2.heap.size ≤ w3.heap.size := unhide HZ3
  have hg2 := unhide HG2
  obtain ⟨S', q1, q2⟩ := both_fin2 (T := fun k => k = g ∨ k = w.heap.size + 2) (unhide HO) (unhide HZ) (unhide HB1) (unhide U3) (unhide HF3) (unhide HAT) (unhide HRb) (unhide HB4) (((Buts.of_below (unhide HB5)).trans (bw5.mono (fun k _ e => .inl e))).trans (bb.mono (fun k _ e => .inr e))) (fun k e => by omega) (fun k e => by omega) (fun k hk e => by
    have h8 := unhide HAT2 k hk
    rcases e with rfl | rfl
    · rcases h8 with h8 | h8
      · exact unhide HNG h8
      · omega
    · rcases h8 with h8 | h8
      · exact unhide HN2 h8
      · omega)
  exact ⟨_, S', by simp, q1, q2⟩
end Go.Proofs.Ytcdmomdajakocaa
