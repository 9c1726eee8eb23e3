import Derived.Test.YtcdmomdajakocaaRhE
set_option linter.unusedVariables false
set_option linter.unusedSimpArgs false
namespace Go.Proofs.Ytcdmomdajakocaa
open Go.RowKit

set_option maxHeartbeats 4000000 in
set_option maxRecDepth 100000 in
theorem both_red (p : Nat) (S : Nat → Prop) (fa sa va : Option Addr) (fc sc vc : Nat) (s : FlS) (ar : List (Int × Int)) (cnt : Int) (w : World) (h : RV w (.slice fa s.l0.length fc) (.slice sa s.l1.length sc) (.slice va ar.length vc) s ar cnt) (h6 : ∀ x ∈ ar, x.1 ≤ 1000000) (hf : Fl w p S s) (hap : ∀ k, RSet (.slice fa s.l0.length fc) (.slice sa s.l1.length sc) (.slice va ar.length vc) k → ¬ S k) (bank x y : Int) (d : Sl) (hd : d.Ok w) (hdn : d.n ≤ 2097152) (hS : Sepd S d) (hw : s.wr ≤ 1000000000) :
    Calls Try.prog 10 #[.pointer (some ⟨p, 0, none⟩), .agg #[.int .i64 s.size, .slice fa s.l0.length fc, .slice sa s.l1.length sc, .slice va ar.length vc, .int .i64 cnt, .int .i64 s.wr, .bool s.down], .agg #[.int .i64 3, .int .i64 bank, .slice d.a d.n d.c, .int .i64 x, .int .i64 y]] w (BoP p S (RSet (.slice fa s.l0.length fc) (.slice sa s.l1.length sc) (.slice va ar.length vc)) (s.step ⟨3, bank, d, x, y⟩).1 w) := by
  obtain ⟨W1, hW1⟩ : ∃ W1, ((w.alloc (.cells #[.int .i64 s.size, .slice fa s.l0.length fc, .slice sa s.l1.length sc, .slice va ar.length vc, .int .i64 cnt, .int .i64 s.wr, .bool s.down] 31)).alloc (.cells #[.int .i64 3, .int .i64 bank, .slice d.a d.n d.c, .int .i64 x, .int .i64 y] 37)).alloc (.cells #[.int .i64 0, .slice none 0 0, .slice none 0 0, .slice none 0 0, .int .i64 0, .int .i64 0, .bool false] 31) = W1 := ⟨_, rfl⟩
  obtain ⟨A0, A1, A2, b1, hz⟩ := three_new w 31 37 [.int .i64 s.size, .slice fa s.l0.length fc, .slice sa s.l1.length sc, .slice va ar.length vc, .int .i64 cnt, .int .i64 s.wr, .bool s.down] [.int .i64 3, .int .i64 bank, .slice d.a d.n d.c, .int .i64 x, .int .i64 y] [.int .i64 0, .slice none 0 0, .slice none 0 0, .slice none 0 0, .int .i64 0, .int .i64 0, .bool false]
  rw [hW1] at A0 A1 A2 b1 hz
  have hSw := hf.lt
  have HN0 : Hid (¬ S (w.heap.size)) := hide (fun e => by have := hSw _ e; omega)
  have HN1 : Hid (¬ S (w.heap.size + 1)) := hide (fun e => by have := hSw _ e; omega)
  have HN2 : Hid (¬ S (w.heap.size + 2)) := hide (fun e => by have := hSw _ e; omega)
  have HSW := hide hSw
  have HO : Hid (∀ k, (RSet (.slice fa s.l0.length fc) (.slice sa s.l1.length sc) (.slice va ar.length vc)) k → k < w.heap.size ∧ ¬ S k) := hide (fun k hk => ⟨h.lt k hk, hap k hk⟩)
  have HH := hide (h.later b1)
  have HAP := hide hap
  have HF1 := hide (hf.later b1)
  have HD1 := hide (hd.later b1)
  have HZ := hide hz
  have HB1 := hide b1
  obtain ⟨da, dn, dc, dl⟩ := d
  simp only at *
  have HL : Hid (dl.length = dn) := hide hd.len
  have c0 : W1.cell? ⟨w.heap.size, 0, none⟩ = some (.int .i64 s.size) := (by simpa using A0.cell 0)
  have c1 : W1.cell? ⟨w.heap.size, 1, none⟩ = some (.slice fa s.l0.length fc) := (by simpa using A0.cell 1)
  have c2 : W1.cell? ⟨w.heap.size, 2, none⟩ = some (.slice sa s.l1.length sc) := (by simpa using A0.cell 2)
  have c3 : W1.cell? ⟨w.heap.size, 3, none⟩ = some (.slice va ar.length vc) := (by simpa using A0.cell 3)
  have c4 : W1.cell? ⟨w.heap.size, 4, none⟩ = some (.int .i64 cnt) := (by simpa using A0.cell 4)
  have c5 : W1.cell? ⟨w.heap.size, 5, none⟩ = some (.int .i64 s.wr) := (by simpa using A0.cell 5)
  have c6 : W1.cell? ⟨w.heap.size, 6, none⟩ = some (.bool s.down) := (by simpa using A0.cell 6)
  have k0 : W1.cell? ⟨w.heap.size + 1, 0, none⟩ = some (.int .i64 3) := (by simpa using A1.cell 0)
  have k1 : W1.cell? ⟨w.heap.size + 1, 1, none⟩ = some (.int .i64 bank) := (by simpa using A1.cell 1)
  have k2 : W1.cell? ⟨w.heap.size + 1, 2, none⟩ = some (.slice da dn dc) := (by simpa using A1.cell 2)
  have k3 : W1.cell? ⟨w.heap.size + 1, 3, none⟩ = some (.int .i64 x) := (by simpa using A1.cell 3)
  have k4 : W1.cell? ⟨w.heap.size + 1, 4, none⟩ = some (.int .i64 y) := (by simpa using A1.cell 4)
  have HA0 := hide A0
  have HA1 := hide A1
  have HA2 := hide A2
  have HS := hide hS
  have H6 := hide h6
  have hst : (s.step ⟨3, bank, ⟨da, dn, dc, dl⟩, x, y⟩).1 = s := rfl
  rw [hst]
  obtain ⟨rl, hrl⟩ : ∃ r, s.read bank = r := ⟨_, rfl⟩
  obtain ⟨rf, hrf⟩ : ∃ r, s.ref bank = r := ⟨_, rfl⟩
  have hrn : rl.length ≤ 1048576 := by
    rw [← hrl]
    unfold FlS.read FlS.bk
    have h1 := Nat.le_trans h.ok.z0 h.ok.mx
    have h2 := Nat.le_trans h.ok.z1 h.ok.mx
    split
    · split <;> assumption
    · simp
  have hPr := read_any p S s bank W1 (hf.later b1)
  rw [hrl, hrf] at hPr
  have HM : Hid (s.read bank = rl ∧ s.ref bank = rf) := hide ⟨hrl, hrf⟩
  clear hrl hrf hst h hf hap hd hS A0 A1 A2 b1 hz hSw h6
  go_enter Try.func10, Try.ntmps10
  go_wp2_with (first
    | (go_at_call 23; refine hPr2.mono ?_; rintro e w3 ⟨u2, rfl, o2, n2, bw3⟩; clear hPr2; have U3 : Hid (Buts S W1 w3) := hide ((unhide U2).trans (Buts.of_below bw3)); have A0w3 := (unhide U3).arr (unhide HA0) (unhide HN0); have f0 : w3.cell? ⟨w.heap.size, 0, none⟩ = some (.int .i64 s.size) := (by simpa using A0w3.cell 0); have f1 : w3.cell? ⟨w.heap.size, 1, none⟩ = some (.slice fa s.l0.length fc) := (by simpa using A0w3.cell 1); have f2 : w3.cell? ⟨w.heap.size, 2, none⟩ = some (.slice sa s.l1.length sc) := (by simpa using A0w3.cell 2); have f3 : w3.cell? ⟨w.heap.size, 3, none⟩ = some (.slice va ar.length vc) := (by simpa using A0w3.cell 3); have f4 : w3.cell? ⟨w.heap.size, 4, none⟩ = some (.int .i64 cnt) := (by simpa using A0w3.cell 4); have f5 : w3.cell? ⟨w.heap.size, 5, none⟩ = some (.int .i64 s.wr) := (by simpa using A0w3.cell 5); have f6 : w3.cell? ⟨w.heap.size, 6, none⟩ = some (.bool s.down) := (by simpa using A0w3.cell 6); clear A0w3; have A1w3 := (unhide U3).arr (unhide HA1) (unhide HN1); have j0 : w3.cell? ⟨w.heap.size + 1, 0, none⟩ = some (.int .i64 3) := (by simpa using A1w3.cell 0); have j1 : w3.cell? ⟨w.heap.size + 1, 1, none⟩ = some (.int .i64 bank) := (by simpa using A1w3.cell 1); have j2 : w3.cell? ⟨w.heap.size + 1, 2, none⟩ = some (.slice da dn dc) := (by simpa using A1w3.cell 2); have j3 : w3.cell? ⟨w.heap.size + 1, 3, none⟩ = some (.int .i64 x) := (by simpa using A1w3.cell 3); have j4 : w3.cell? ⟨w.heap.size + 1, 4, none⟩ = some (.int .i64 y) := (by simpa using A1w3.cell 4); clear A1w3; have HF3 := hide ((unhide HF2).later bw3); have HRV3 := hide ((unhide HRV2).later bw3); obtain ⟨x2, y2, hu2⟩ := own_parts o2.1; subst hu2; have HO2 := hide o2; have HN2b := hide n2; have HO1 := hide ((unhide HO1).later bw3); have HZ3 := hide bw3.size; have hRC := rreadX_any fa sa va fc sc vc s ar cnt w3 (unhide HRV3) bank; rw [(unhide HM).1, (unhide HM).2] at hRC; clear bw3 o2 n2)
    | (go_at_call 23; refine hPr.mono ?_; rintro e w2 ⟨u1, rfl, o1, n1, bw2⟩; clear hPr; have U2 : Hid (Buts S W1 w2) := hide (Buts.of_below bw2); have A0w2 := (unhide U2).arr (unhide HA0) (unhide HN0); have a0 : w2.cell? ⟨w.heap.size, 0, none⟩ = some (.int .i64 s.size) := (by simpa using A0w2.cell 0); have a1 : w2.cell? ⟨w.heap.size, 1, none⟩ = some (.slice fa s.l0.length fc) := (by simpa using A0w2.cell 1); have a2 : w2.cell? ⟨w.heap.size, 2, none⟩ = some (.slice sa s.l1.length sc) := (by simpa using A0w2.cell 2); have a3 : w2.cell? ⟨w.heap.size, 3, none⟩ = some (.slice va ar.length vc) := (by simpa using A0w2.cell 3); have a4 : w2.cell? ⟨w.heap.size, 4, none⟩ = some (.int .i64 cnt) := (by simpa using A0w2.cell 4); have a5 : w2.cell? ⟨w.heap.size, 5, none⟩ = some (.int .i64 s.wr) := (by simpa using A0w2.cell 5); have a6 : w2.cell? ⟨w.heap.size, 6, none⟩ = some (.bool s.down) := (by simpa using A0w2.cell 6); clear A0w2; have A1w2 := (unhide U2).arr (unhide HA1) (unhide HN1); have b0 : w2.cell? ⟨w.heap.size + 1, 0, none⟩ = some (.int .i64 3) := (by simpa using A1w2.cell 0); have b1 : w2.cell? ⟨w.heap.size + 1, 1, none⟩ = some (.int .i64 bank) := (by simpa using A1w2.cell 1); have b2 : w2.cell? ⟨w.heap.size + 1, 2, none⟩ = some (.slice da dn dc) := (by simpa using A1w2.cell 2); have b3 : w2.cell? ⟨w.heap.size + 1, 3, none⟩ = some (.int .i64 x) := (by simpa using A1w2.cell 3); have b4 : w2.cell? ⟨w.heap.size + 1, 4, none⟩ = some (.int .i64 y) := (by simpa using A1w2.cell 4); clear A1w2; have HF2 := hide ((unhide HF1).later bw2); have HRV2 := hide ((unhide HH).later bw2); obtain ⟨x1, y1, hu1⟩ := own_parts o1.1; subst hu1; have HO1 := hide o1; have HN1b := hide n1; have HLT1 : Hid (∀ k, (Value.slice x1 rl.length y1).ownBlock = some k → k < w2.heap.size) := hide o1.lt; have HZ2 := hide bw2.size; have hPr2 := read_any p S s bank w2 (unhide HF2); rw [(unhide HM).1, (unhide HM).2] at hPr2; clear bw2 o1 n1)
    | (go_at_call 24; refine hRC.mono ?_; rintro e w4 ⟨u3, rfl, o3, n3, bw4⟩; clear hRC; have U4 : Hid (Buts S W1 w4) := hide ((unhide U3).trans (Buts.of_below bw4)); have A0w4 := (unhide U4).arr (unhide HA0) (unhide HN0); have i0 : w4.cell? ⟨w.heap.size, 0, none⟩ = some (.int .i64 s.size) := (by simpa using A0w4.cell 0); have i1 : w4.cell? ⟨w.heap.size, 1, none⟩ = some (.slice fa s.l0.length fc) := (by simpa using A0w4.cell 1); have i2 : w4.cell? ⟨w.heap.size, 2, none⟩ = some (.slice sa s.l1.length sc) := (by simpa using A0w4.cell 2); have i3 : w4.cell? ⟨w.heap.size, 3, none⟩ = some (.slice va ar.length vc) := (by simpa using A0w4.cell 3); have i4 : w4.cell? ⟨w.heap.size, 4, none⟩ = some (.int .i64 cnt) := (by simpa using A0w4.cell 4); have i5 : w4.cell? ⟨w.heap.size, 5, none⟩ = some (.int .i64 s.wr) := (by simpa using A0w4.cell 5); have i6 : w4.cell? ⟨w.heap.size, 6, none⟩ = some (.bool s.down) := (by simpa using A0w4.cell 6); clear A0w4; have HF4 := hide ((unhide HF3).later bw4); have HRV4 := hide ((unhide HRV3).later bw4); obtain ⟨x3, y3, hu3⟩ := own_parts o3.1; subst hu3; have HO3 := hide o3; have HN3b := hide n3; have HLT2 : Hid (∀ k, (Value.slice x2 rl.length y2).ownBlock = some k → k < w3.heap.size) := hide (unhide HO2).lt; have HO1 := hide ((unhide HO1).later bw4); have HO2 := hide ((unhide HO2).later bw4); have HLT3 : Hid (∀ k, (Value.slice x3 rl.length y3).ownBlock = some k → k < w4.heap.size) := hide o3.lt; have HZ4 := hide bw4.size; have hS1 := same_t ⟨x1, rl.length, y1, rl⟩ ⟨x3, rl.length, y3, rl⟩ w4 (unhide HO1).ok o3.ok (by simp only; omega) rfl; have HS2 : Hid (∀ k, Calls Try.prog 12 #[.slice x2 rl.length y2, .slice x3 rl.length y3] (w4.drewN k) fun e w' => e = .returned (.bool true) ∧ ∃ j, w' = (w4.drewN k).drewN j) := hide (fun k => same_t ⟨x2, rl.length, y2, rl⟩ ⟨x3, rl.length, y3, rl⟩ _ (ok_drewN (unhide HO2).ok k) (ok_drewN (unhide HO3).ok k) (by simp only; omega) rfl); clear bw4 o3 n3)
    | (go_at_call 12; refine hS1.mono ?_; rintro e w' ⟨rfl, j1, hj1⟩; subst w'; clear hS1; have hS2 := unhide HS2 j1)
    | (go_at_call 12; refine hS2.mono ?_; rintro e w' ⟨rfl, j2, hj2⟩; subst w'; clear hS2))
  obtain ⟨w5, hw5⟩ : ∃ w5, w4.drewN (j1 + j2) = w5 := ⟨_, rfl⟩
  rw [hw5]
  have b45 : Below w4.heap.size w4 w5 := by rw [← hw5]; exact below_drewN (Below.refl _ _) _
  have U5 : Hid (Buts S W1 w5) := hide ((unhide U4).trans (Buts.of_below b45))
  have b56 : Below w5.heap.size w5 w5.drew := below_drewN (Below.refl _ _) 1
  have O51 := hide (((unhide HO1).later b45).later b56)
  have O52 := hide (((unhide HO2).later b45).later b56)
  have O53 := hide (((unhide HO3).later b45).later b56)
  have HF5 := hide ((unhide HF4).later b45)
  have HRV5 := hide ((unhide HRV4).later b45)
  have HA05 := hide (((unhide U5).arr (unhide HA0) (unhide HN0)).later b56)
  have HA25 := hide (((unhide U5).arr (unhide HA2) (unhide HN2)).later b56)
  have HZ5 : Hid (w4.heap.size ≤ w5.heap.size) := hide b45.size
  clear b45 hw5 HO1 HO2 HO3
  have hR6 : w5.drew.rangeAt w.heap.size 0 [.int .i64 s.size, .slice fa s.l0.length fc, .slice sa s.l1.length sc, .slice va ar.length vc, .int .i64 cnt, .int .i64 s.wr, .bool s.down] := blk_rangeF (unhide HA05)
  refine wp_region_held_drew (S := fun w' => w'.rangeAt w.heap.size 0 [.int .i64 s.size, .slice fa s.l0.length fc, .slice sa s.l1.length sc, .slice va ar.length vc, .int .i64 cnt, .int .i64 s.wr, .bool s.down]) (by kernel_rfl) hR6 (fun hHeld => ?_)
  refine wpAnyH_take (i := 0) (oi := _) (v := .agg #[.int .i64 s.size, .slice fa s.l0.length fc, .slice sa s.l1.length sc, .slice va ar.length vc, .int .i64 cnt, .int .i64 s.wr, .bool s.down]) rfl (by kernel_rfl) (by kernel_rfl) (by kernel_rfl) (fun _ _ _ h => h) (yieldsIf_load_mid (by rfl) _ _ rfl _ _ rfl _ _ (fun _ h => h) Try.underlying31 rfl (by simpa using Try.szF)) hHeld ?_
  simp [Act.put]
  refine wpAnyH_take (i := 1) (oi := _) (v := .bool true) rfl (by kernel_rfl) (by kernel_rfl) (by kernel_rfl) (fun _ _ _ h => h) (Or.inl ⟨by rfl, fun w hSw => by go_simp⟩) hHeld ?_
  simp [Act.put]
  refine wpAnyH_take (i := 2) (oi := _) (v := .bool true) rfl (by kernel_rfl) (by kernel_rfl) (by kernel_rfl) (fun _ _ _ h => h) (Or.inl ⟨by rfl, fun w hSw => by go_simp⟩) hHeld ?_
  simp [Act.put]
  refine wpAnyH_take (i := 3) (oi := _) (v := .slice x1 rl.length y1) rfl (by kernel_rfl) (by kernel_rfl) (by kernel_rfl) (fun _ _ _ h => h) (Or.inl ⟨by rfl, fun w hSw => by go_simp⟩) hHeld ?_
  simp [Act.put]
  refine wpAnyH_ready (rs := [4]) (by kernel_rfl) (by simp) ?_
  refine AllReadyH.cons rfl (fun K hK => ?_) AllReadyH.nil
  go_simp
  refine (spoilt_any x1 y1 rl 9 w5.drew (unhide O51) (by omega) (by omega)).mono ?_
  rintro e w6 ⟨rfl, bw6⟩
  have hz := unhide HZ
  have hz2 := unhide HZ2
  have hz3 := unhide HZ3
  have hz4 := unhide HZ4
  have hz5 := unhide HZ5
  have A06 := bw6.arr (unhide HA05) (fun e => by have := unhide HN1b _ e; omega)
  have A26 := bw6.arr (unhide HA25) (fun e => by have := unhide HN1b _ e; omega)
  have O62 := (unhide O52).keep bw6 (fun k hk e => by have := unhide HN2b k hk; have := unhide HLT1 k e; omega)
  have O63 := (unhide O53).keep bw6 (fun k hk e => by have := unhide HN3b k hk; have := unhide HLT1 k e; omega)
  refine hK.out _ _ (blk_rangeF A06) (fun hHeld => ?_)
  clear hK K
  refine wpAnyH_take (i := 5) (oi := _) (v := .bool true) rfl (by kernel_rfl) (by kernel_rfl) (by kernel_rfl) (fun _ _ _ h => h) (Or.inl ⟨by rfl, fun w hSw => by go_simp⟩) hHeld ?_
  simp [Act.put]
  refine wpAnyH_take (i := 6) (oi := _) (v := .bool true) rfl (by kernel_rfl) (by kernel_rfl) (by kernel_rfl) (fun _ _ _ h => h) (Or.inl ⟨by rfl, fun w hSw => by go_simp⟩) hHeld ?_
  simp [Act.put]
  refine wpAnyH_take (i := 7) (oi := _) (v := .slice x2 rl.length y2) rfl (by kernel_rfl) (by kernel_rfl) (by kernel_rfl) (fun _ _ _ h => h) (Or.inl ⟨by rfl, fun w hSw => by go_simp⟩) hHeld ?_
  simp [Act.put]
  refine wpAnyH_take (i := 8) (oi := _) (v := .slice x3 rl.length y3) rfl (by kernel_rfl) (by kernel_rfl) (by kernel_rfl) (fun _ _ _ h => h) (Or.inl ⟨by rfl, fun w hSw => by go_simp⟩) hHeld ?_
  simp [Act.put]
  refine wpAnyH_ready (rs := [9]) (by kernel_rfl) (by simp) ?_
  refine AllReadyH.cons rfl (fun K hK => ?_) AllReadyH.nil
  go_simp
  refine (same_t ⟨x2, rl.length, y2, rl⟩ ⟨x3, rl.length, y3, rl⟩ w6 O62.ok O63.ok (by simp only; omega) rfl).mono ?_
  rintro e w7 ⟨rfl, j3, hj3⟩
  have b67 : Below w6.heap.size w6 w7 := by rw [hj3]; exact below_drewN (Below.refl _ _) _
  clear hj3
  have A07 := A06.later b67
  have A27 := A26.later b67
  have O72 := O62.later b67
  refine hK.out _ _ (blk_rangeF A07) (fun hHeld => ?_)
  clear hK K
  refine wpAnyH_take (i := 10) (oi := _) (v := .bool true) rfl (by kernel_rfl) (by kernel_rfl) (by kernel_rfl) (fun _ _ _ h => h) (Or.inl ⟨by rfl, fun w hSw => by go_simp⟩) hHeld ?_
  simp [Act.put]
  refine wpAnyH_take (i := 11) (oi := _) (v := .bool true) rfl (by kernel_rfl) (by kernel_rfl) (by kernel_rfl) (fun _ _ _ h => h) (Or.inl ⟨by rfl, fun w hSw => by go_simp⟩) hHeld ?_
  simp [Act.put]
  refine wpAnyH_take (i := 12) (oi := _) (v := .slice x2 rl.length y2) rfl (by kernel_rfl) (by kernel_rfl) (by kernel_rfl) (fun _ _ _ h => h) (Or.inl ⟨by rfl, fun w hSw => by go_simp⟩) hHeld ?_
  simp [Act.put]
  refine wpAnyH_ready (rs := [13]) (by kernel_rfl) (by simp) ?_
  refine AllReadyH.cons rfl (fun K hK => ?_) AllReadyH.nil
  go_simp
  refine (spoilt_any x2 y2 rl 10 w7 O72 (by omega) (by omega)).mono ?_
  rintro e w8 ⟨rfl, bw8⟩
  have A08 := bw8.arr A07 (fun e => by have := unhide HN2b _ e; omega)
  have A28 := bw8.arr A27 (fun e => by have := unhide HN2b _ e; omega)
  refine hK.out _ _ (blk_rangeF A08) (fun hHeld => ?_)
  clear hK K
  refine wpAnyH_take (i := 14) (oi := _) (v := .bool true) rfl (by kernel_rfl) (by kernel_rfl) (by kernel_rfl) (fun _ _ _ h => h) (Or.inl ⟨by rfl, fun w hSw => by go_simp⟩) hHeld ?_
  simp [Act.put]
  refine wpAnyH_ready (rs := [15]) (by kernel_rfl) (by simp) ?_
  refine AllReadyH.cons rfl (fun K hK => ?_) AllReadyH.nil
  refine step_store_row rfl 31 (.tmp 6) (.tmp 125) rfl (w.heap.size + 2) #[.int .i64 s.size, .slice fa s.l0.length fc, .slice sa s.l1.length sc, .slice va ar.length vc, .int .i64 cnt, .int .i64 s.wr, .bool s.down] rfl rfl 31 _ A28 Try.szF rfl (rv_one _ _ _ _ _ _ _ _ _ _ _ _ _) ?_
  simp [Act.put]
  have bb : Buts (· = w.heap.size + 2) w8 (w8.setRow (w.heap.size + 2) #[.int .i64 s.size, .slice fa s.l0.length fc, .slice sa s.l1.length sc, .slice va ar.length vc, .int .i64 cnt, .int .i64 s.wr, .bool s.down]) := Buts.of_but ((But.refl (w.heap.size + 2) w8).setRow _)
  refine hK.out _ _ (blk_rangeF (bb.arr A08 (by omega))) (fun hHeld => ?_)
  clear hK K
  refine wpAnyH_take (i := 16) (oi := _) (v := .bool true) rfl (by kernel_rfl) (by kernel_rfl) (by kernel_rfl) (fun _ _ _ h => h) (Or.inl ⟨by rfl, fun w hSw => by go_simp⟩) hHeld ?_
  simp [Act.put]
  refine wpAnyH_done (by kernel_rfl) ?_ _
  go_wp2
  refine bodyPost_ret (results_row_tmp rfl _ _ (w.heap.size + 2) 31 #[.int .i64 s.size, .slice fa s.l0.length fc, .slice sa s.l1.length sc, .slice va ar.length vc, .int .i64 cnt, .int .i64 s.wr, .bool s.down] (0, 0) _ rfl _ rfl (setRow_heap w8 (w.heap.size + 2) _ #[.int .i64 s.size, .slice fa s.l0.length fc, .slice sa s.l1.length sc, .slice va ar.length vc, .int .i64 cnt, .int .i64 s.wr, .bool s.down] 31 _ A28) Try.underlying31 rfl Try.szF) rfl ?_
  have hSl := (unhide HF1).lt
  obtain ⟨S', q1, q2⟩ := both_fin2 (T := fun k => (Value.slice x1 rl.length y1).ownBlock = some k ∨ (Value.slice x2 rl.length y2).ownBlock = some k ∨ k = w.heap.size + 2) (unhide HO) (unhide HZ) (unhide HB1) (unhide U5) (unhide HF5) (fun k hk => .inl hk) (v := .agg #[.int .i64 s.size, .slice fa s.l0.length fc, .slice sa s.l1.length sc, .slice va ar.length vc, .int .i64 cnt, .int .i64 s.wr, .bool s.down]) (w4 := w5) ⟨_, _, _, _, _, _, _, _, rfl, (unhide HRV5), (unhide H6), fun k hk => .inl hk⟩ (Below.refl _ _) (((((Buts.of_below b56).trans (bw6.mono (fun k _ e => .inl e))).trans (Buts.of_below b67)).trans (bw8.mono (fun k _ e => .inr (.inl e)))).trans (bb.mono (fun k _ e => .inr (.inr e)))) (fun k e => by
      rcases e with e | e | e
      · have := unhide HN1b k e; omega
      · have := unhide HN2b k e; omega
      · omega) (fun k e => by
      rcases e with e | e | e
      · have := unhide HLT1 k e; omega
      · have := unhide HLT2 k e; omega
      · omega) (fun k hk e => by
      have h8 := unhide HSW k hk
      rcases e with e | e | e
      · have := unhide HN1b k e; omega
      · have := unhide HN2b k e; omega
      · omega)
  exact ⟨_, S', by simp, q1, q2⟩
end Go.Proofs.Ytcdmomdajakocaa
