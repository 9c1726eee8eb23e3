import Derived.Test.YtcdmomdajakocaaRhM
set_option linter.unusedVariables false
set_option linter.unusedSimpArgs false
namespace Go.Proofs.Ytcdmomdajakocaa
open Go.RowKit

set_option maxHeartbeats 4000000 in
set_option maxRecDepth 100000 in
theorem both_era (p : Nat) (S : Nat → Prop) (fa sa va : Option Addr) (fc sc vc : Nat) (s : FlS) (ar : List (Int × Int)) (cnt : Int) (w : World) (h : RV w (.slice fa s.l0.length fc) (.slice sa s.l1.length sc) (.slice va ar.length vc) s ar cnt) (h6 : ∀ x ∈ ar, x.1 ≤ 1000000) (hf : Fl w p S s) (hap : ∀ k, RSet (.slice fa s.l0.length fc) (.slice sa s.l1.length sc) (.slice va ar.length vc) k → ¬ S k) (bank x y : Int) (d : Sl) (hd : d.Ok w) (hdn : d.n ≤ 2097152) (hS : Sepd S d) (hw : s.wr ≤ 1000000000) :
    Calls Try.prog 10 #[.pointer (some ⟨p, 0, none⟩), .agg #[.int .i64 s.size, .slice fa s.l0.length fc, .slice sa s.l1.length sc, .slice va ar.length vc, .int .i64 cnt, .int .i64 s.wr, .bool s.down], .agg #[.int .i64 2, .int .i64 bank, .slice d.a d.n d.c, .int .i64 x, .int .i64 y]] w (BoP p S (RSet (.slice fa s.l0.length fc) (.slice sa s.l1.length sc) (.slice va ar.length vc)) (s.step ⟨2, bank, d, x, y⟩).1 w) := by
  obtain ⟨W1, hW1⟩ : ∃ W1, ((w.alloc (.cells #[.int .i64 s.size, .slice fa s.l0.length fc, .slice sa s.l1.length sc, .slice va ar.length vc, .int .i64 cnt, .int .i64 s.wr, .bool s.down] 31)).alloc (.cells #[.int .i64 2, .int .i64 bank, .slice d.a d.n d.c, .int .i64 x, .int .i64 y] 37)).alloc (.cells #[.int .i64 0, .slice none 0 0, .slice none 0 0, .slice none 0 0, .int .i64 0, .int .i64 0, .bool false] 31) = W1 := ⟨_, rfl⟩
  obtain ⟨A0, A1, A2, b1, hz⟩ := three_new w 31 37 [.int .i64 s.size, .slice fa s.l0.length fc, .slice sa s.l1.length sc, .slice va ar.length vc, .int .i64 cnt, .int .i64 s.wr, .bool s.down] [.int .i64 2, .int .i64 bank, .slice d.a d.n d.c, .int .i64 x, .int .i64 y] [.int .i64 0, .slice none 0 0, .slice none 0 0, .slice none 0 0, .int .i64 0, .int .i64 0, .bool false]
  rw [hW1] at A0 A1 A2 b1 hz
  have hSw := hf.lt
  have HN0 : Hid (¬ S (w.heap.size)) := hide (fun e => by have := hSw _ e; omega)
  have HN1 : Hid (¬ S (w.heap.size + 1)) := hide (fun e => by have := hSw _ e; omega)
  have HN2 : Hid (¬ S (w.heap.size + 2)) := hide (fun e => by have := hSw _ e; omega)
  have HSW := hide hSw
  have HO : Hid (∀ k, (RSet (.slice fa s.l0.length fc) (.slice sa s.l1.length sc) (.slice va ar.length vc)) k → k < w.heap.size ∧ ¬ S k) := hide (fun k hk => ⟨h.lt k hk, hap k hk⟩)
  have HH := hide (h.later b1)
  have HAP := hide hap
  have HF1 := hide (hf.later b1)
  have HD1 := hide (hd.later b1)
  have HZ := hide hz
  have HB1 := hide b1
  obtain ⟨da, dn, dc, dl⟩ := d
  simp only at *
  have HL : Hid (dl.length = dn) := hide hd.len
  have c0 : W1.cell? ⟨w.heap.size, 0, none⟩ = some (.int .i64 s.size) := (by simpa using A0.cell 0)
  have c1 : W1.cell? ⟨w.heap.size, 1, none⟩ = some (.slice fa s.l0.length fc) := (by simpa using A0.cell 1)
  have c2 : W1.cell? ⟨w.heap.size, 2, none⟩ = some (.slice sa s.l1.length sc) := (by simpa using A0.cell 2)
  have c3 : W1.cell? ⟨w.heap.size, 3, none⟩ = some (.slice va ar.length vc) := (by simpa using A0.cell 3)
  have c4 : W1.cell? ⟨w.heap.size, 4, none⟩ = some (.int .i64 cnt) := (by simpa using A0.cell 4)
  have c5 : W1.cell? ⟨w.heap.size, 5, none⟩ = some (.int .i64 s.wr) := (by simpa using A0.cell 5)
  have c6 : W1.cell? ⟨w.heap.size, 6, none⟩ = some (.bool s.down) := (by simpa using A0.cell 6)
  have k0 : W1.cell? ⟨w.heap.size + 1, 0, none⟩ = some (.int .i64 2) := (by simpa using A1.cell 0)
  have k1 : W1.cell? ⟨w.heap.size + 1, 1, none⟩ = some (.int .i64 bank) := (by simpa using A1.cell 1)
  have k2 : W1.cell? ⟨w.heap.size + 1, 2, none⟩ = some (.slice da dn dc) := (by simpa using A1.cell 2)
  have k3 : W1.cell? ⟨w.heap.size + 1, 3, none⟩ = some (.int .i64 x) := (by simpa using A1.cell 3)
  have k4 : W1.cell? ⟨w.heap.size + 1, 4, none⟩ = some (.int .i64 y) := (by simpa using A1.cell 4)
  have HA0 := hide A0
  have HA1 := hide A1
  have HA2 := hide A2
  have HS := hide hS
  have H6 := hide h6
  obtain ⟨⟨s', er⟩, hP⟩ : ∃ r, r = s.erase bank := ⟨_, rfl⟩
  have hst : s.step ⟨2, bank, ⟨da, dn, dc, dl⟩, x, y⟩ = (s', er) := by rw [hP]; unfold FlS.step; rfl
  rw [hst]
  have hPr := erase_any p S s bank W1 (hf.later b1) hw
  rw [← hP] at hPr
  have HP : Hid (s.erase bank = (s', er)) := hide hP.symm
  clear hP hst h hf hap hd hS A0 A1 A2 b1 hz hSw h6
  go_enter Try.func10, Try.ntmps10
  go_wp2_with (first
    | (go_at_call 21; refine hPr.mono ?_; rintro e w2 ⟨rfl, S1, G2⟩; clear hPr; have U2 := hide G2.but; have HF2 := hide G2.fl; have HAT := hide G2.at_; have A0w2 := (unhide U2).arr (unhide HA0) (unhide HN0); have a0 : w2.cell? ⟨w.heap.size, 0, none⟩ = some (.int .i64 s.size) := (by simpa using A0w2.cell 0); have a1 : w2.cell? ⟨w.heap.size, 1, none⟩ = some (.slice fa s.l0.length fc) := (by simpa using A0w2.cell 1); have a2 : w2.cell? ⟨w.heap.size, 2, none⟩ = some (.slice sa s.l1.length sc) := (by simpa using A0w2.cell 2); have a3 : w2.cell? ⟨w.heap.size, 3, none⟩ = some (.slice va ar.length vc) := (by simpa using A0w2.cell 3); have a4 : w2.cell? ⟨w.heap.size, 4, none⟩ = some (.int .i64 cnt) := (by simpa using A0w2.cell 4); have a5 : w2.cell? ⟨w.heap.size, 5, none⟩ = some (.int .i64 s.wr) := (by simpa using A0w2.cell 5); have a6 : w2.cell? ⟨w.heap.size, 6, none⟩ = some (.bool s.down) := (by simpa using A0w2.cell 6); clear A0w2; have A1w2 := (unhide U2).arr (unhide HA1) (unhide HN1); have b0 : w2.cell? ⟨w.heap.size + 1, 0, none⟩ = some (.int .i64 2) := (by simpa using A1w2.cell 0); have b1 : w2.cell? ⟨w.heap.size + 1, 1, none⟩ = some (.int .i64 bank) := (by simpa using A1w2.cell 1); have b2 : w2.cell? ⟨w.heap.size + 1, 2, none⟩ = some (.slice da dn dc) := (by simpa using A1w2.cell 2); have b3 : w2.cell? ⟨w.heap.size + 1, 3, none⟩ = some (.int .i64 x) := (by simpa using A1w2.cell 3); have b4 : w2.cell? ⟨w.heap.size + 1, 4, none⟩ = some (.int .i64 y) := (by simpa using A1w2.cell 4); clear A1w2; have HRV2 := hide ((unhide HH).keep G2.but (unhide HAP)); clear G2; have hRC := rerase_any fa sa va fc sc vc s ar cnt w2 (unhide HRV2) (unhide H6) bank hw (by rw [unhide HP]; exact (unhide HF2).ok); rw [unhide HP] at hRC)
    | (go_at_call 22; refine (hRC).mono ?_; rintro e w3 ⟨v, rfl, hRb, b4⟩; have HRb := hide hRb; obtain ⟨fa3, sa3, va3, fc3, sc3, vc3, ar3, cnt3, hvv, -, -, -⟩ := hRb; subst hvv; obtain ⟨W3, hW3⟩ : ∃ W3, w3.alloc (.cells #[.int .i64 s'.size, .slice fa3 s'.l0.length fc3, .slice sa3 s'.l1.length sc3, .slice va3 ar3.length vc3, .int .i64 cnt3, .int .i64 s'.wr, .bool s'.down] 31) = W3 := ⟨_, rfl⟩; have HB4 := hide b4; have b5 : Below w3.heap.size w3 W3 := (by rw [← hW3]; exact below_one w3 _); have GW : Arr W3 w3.heap.size 31 [.int .i64 s'.size, .slice fa3 s'.l0.length fc3, .slice sa3 s'.l1.length sc3, .slice va3 ar3.length vc3, .int .i64 cnt3, .int .i64 s'.wr, .bool s'.down] := (by rw [← hW3]; exact Arr.new w3 _ _); have m0 : W3.cell? ⟨w3.heap.size, 0, none⟩ = some (.int .i64 s'.size) := (by simpa using GW.cell 0); have m1 : W3.cell? ⟨w3.heap.size, 1, none⟩ = some (.slice fa3 s'.l0.length fc3) := (by simpa using GW.cell 1); have m2 : W3.cell? ⟨w3.heap.size, 2, none⟩ = some (.slice sa3 s'.l1.length sc3) := (by simpa using GW.cell 2); have m3 : W3.cell? ⟨w3.heap.size, 3, none⟩ = some (.slice va3 ar3.length vc3) := (by simpa using GW.cell 3); have m4 : W3.cell? ⟨w3.heap.size, 4, none⟩ = some (.int .i64 cnt3) := (by simpa using GW.cell 4); have m5 : W3.cell? ⟨w3.heap.size, 5, none⟩ = some (.int .i64 s'.wr) := (by simpa using GW.cell 5); have m6 : W3.cell? ⟨w3.heap.size, 6, none⟩ = some (.bool s'.down) := (by simpa using GW.cell 6); have HG := hide GW; have HB5 := hide b5; have U4 := hide ((unhide U2).trans (Buts.of_below b4)); have U5 := hide ((unhide U4).trans (Buts.of_below b5)); have HA2F := hide ((unhide U5).arr (unhide HA2) (unhide HN2)); clear b4 b5 GW)
    | (refine wpList_store_row rfl 31 (.tmp 6) (.tmp 80) rfl (w.heap.size + 2) #[.int .i64 s'.size, .slice fa3 s'.l0.length fc3, .slice sa3 s'.l1.length sc3, .slice va3 ar3.length vc3, .int .i64 cnt3, .int .i64 s'.wr, .bool s'.down] rfl rfl 31 _ (unhide HA2F) Try.szF rfl (rv_one _ _ _ _ _ _ _ _ _ _ _ _ _) ?_))
  refine bodyPost_ret (results_row_tmp rfl _ _ (w.heap.size + 2) 31 #[.int .i64 s'.size, .slice fa3 s'.l0.length fc3, .slice sa3 s'.l1.length sc3, .slice va3 ar3.length vc3, .int .i64 cnt3, .int .i64 s'.wr, .bool s'.down] (0, 0) _ rfl _ rfl (setRow_heap W3 (w.heap.size + 2) _ #[.int .i64 s'.size, .slice fa3 s'.l0.length fc3, .slice sa3 s'.l1.length sc3, .slice va3 ar3.length vc3, .int .i64 cnt3, .int .i64 s'.wr, .bool s'.down] 31 _ (unhide HA2F)) Try.underlying31 rfl Try.szF) rfl ?_
  have bb : Buts (· = w.heap.size + 2) W3 (W3.setRow (w.heap.size + 2) #[.int .i64 s'.size, .slice fa3 s'.l0.length fc3, .slice sa3 s'.l1.length sc3, .slice va3 ar3.length vc3, .int .i64 cnt3, .int .i64 s'.wr, .bool s'.down]) := Buts.of_but ((But.refl (w.heap.size + 2) W3).setRow _)
  obtain ⟨S', q1, q2⟩ := both_fin (unhide HSW) (unhide HO) (unhide HZ) (unhide HB1) (unhide U2) (unhide HF2) (unhide HAT) (unhide HRb) (unhide HB4) ((Buts.of_below (unhide HB5)).trans bb)
  exact ⟨_, S', by simp, q1, q2⟩
set_option maxHeartbeats 4000000 in
set_option maxRecDepth 100000 in
theorem both_arm (p : Nat) (S : Nat → Prop) (fa sa va : Option Addr) (fc sc vc : Nat) (s : FlS) (ar : List (Int × Int)) (cnt : Int) (w : World) (h : RV w (.slice fa s.l0.length fc) (.slice sa s.l1.length sc) (.slice va ar.length vc) s ar cnt) (h6 : ∀ x ∈ ar, x.1 ≤ 1000000) (hf : Fl w p S s) (hap : ∀ k, RSet (.slice fa s.l0.length fc) (.slice sa s.l1.length sc) (.slice va ar.length vc) k → ¬ S k) (bank x y : Int) (d : Sl) (hd : d.Ok w) (hdn : d.n ≤ 2097152) (hS : Sepd S d) (hw : s.wr ≤ 1000000000) :
    Calls Try.prog 10 #[.pointer (some ⟨p, 0, none⟩), .agg #[.int .i64 s.size, .slice fa s.l0.length fc, .slice sa s.l1.length sc, .slice va ar.length vc, .int .i64 cnt, .int .i64 s.wr, .bool s.down], .agg #[.int .i64 5, .int .i64 bank, .slice d.a d.n d.c, .int .i64 x, .int .i64 y]] w (BoP p S (RSet (.slice fa s.l0.length fc) (.slice sa s.l1.length sc) (.slice va ar.length vc)) (s.step ⟨5, bank, d, x, y⟩).1 w) := by
  obtain ⟨W1, hW1⟩ : ∃ W1, ((w.alloc (.cells #[.int .i64 s.size, .slice fa s.l0.length fc, .slice sa s.l1.length sc, .slice va ar.length vc, .int .i64 cnt, .int .i64 s.wr, .bool s.down] 31)).alloc (.cells #[.int .i64 5, .int .i64 bank, .slice d.a d.n d.c, .int .i64 x, .int .i64 y] 37)).alloc (.cells #[.int .i64 0, .slice none 0 0, .slice none 0 0, .slice none 0 0, .int .i64 0, .int .i64 0, .bool false] 31) = W1 := ⟨_, rfl⟩
  obtain ⟨A0, A1, A2, b1, hz⟩ := three_new w 31 37 [.int .i64 s.size, .slice fa s.l0.length fc, .slice sa s.l1.length sc, .slice va ar.length vc, .int .i64 cnt, .int .i64 s.wr, .bool s.down] [.int .i64 5, .int .i64 bank, .slice d.a d.n d.c, .int .i64 x, .int .i64 y] [.int .i64 0, .slice none 0 0, .slice none 0 0, .slice none 0 0, .int .i64 0, .int .i64 0, .bool false]
  rw [hW1] at A0 A1 A2 b1 hz
  have hSw := hf.lt
  have HN0 : Hid (¬ S (w.heap.size)) := hide (fun e => by have := hSw _ e; omega)
  have HN1 : Hid (¬ S (w.heap.size + 1)) := hide (fun e => by have := hSw _ e; omega)
  have HN2 : Hid (¬ S (w.heap.size + 2)) := hide (fun e => by have := hSw _ e; omega)
  have HSW := hide hSw
  have HO : Hid (∀ k, (RSet (.slice fa s.l0.length fc) (.slice sa s.l1.length sc) (.slice va ar.length vc)) k → k < w.heap.size ∧ ¬ S k) := hide (fun k hk => ⟨h.lt k hk, hap k hk⟩)
  have HH := hide (h.later b1)
  have HAP := hide hap
  have HF1 := hide (hf.later b1)
  have HD1 := hide (hd.later b1)
  have HZ := hide hz
  have HB1 := hide b1
  obtain ⟨da, dn, dc, dl⟩ := d
  simp only at *
  have HL : Hid (dl.length = dn) := hide hd.len
  have c0 : W1.cell? ⟨w.heap.size, 0, none⟩ = some (.int .i64 s.size) := (by simpa using A0.cell 0)
  have c1 : W1.cell? ⟨w.heap.size, 1, none⟩ = some (.slice fa s.l0.length fc) := (by simpa using A0.cell 1)
  have c2 : W1.cell? ⟨w.heap.size, 2, none⟩ = some (.slice sa s.l1.length sc) := (by simpa using A0.cell 2)
  have c3 : W1.cell? ⟨w.heap.size, 3, none⟩ = some (.slice va ar.length vc) := (by simpa using A0.cell 3)
  have c4 : W1.cell? ⟨w.heap.size, 4, none⟩ = some (.int .i64 cnt) := (by simpa using A0.cell 4)
  have c5 : W1.cell? ⟨w.heap.size, 5, none⟩ = some (.int .i64 s.wr) := (by simpa using A0.cell 5)
  have c6 : W1.cell? ⟨w.heap.size, 6, none⟩ = some (.bool s.down) := (by simpa using A0.cell 6)
  have k0 : W1.cell? ⟨w.heap.size + 1, 0, none⟩ = some (.int .i64 5) := (by simpa using A1.cell 0)
  have k1 : W1.cell? ⟨w.heap.size + 1, 1, none⟩ = some (.int .i64 bank) := (by simpa using A1.cell 1)
  have k2 : W1.cell? ⟨w.heap.size + 1, 2, none⟩ = some (.slice da dn dc) := (by simpa using A1.cell 2)
  have k3 : W1.cell? ⟨w.heap.size + 1, 3, none⟩ = some (.int .i64 x) := (by simpa using A1.cell 3)
  have k4 : W1.cell? ⟨w.heap.size + 1, 4, none⟩ = some (.int .i64 y) := (by simpa using A1.cell 4)
  have HA0 := hide A0
  have HA1 := hide A1
  have HA2 := hide A2
  have HS := hide hS
  have H6 := hide h6
  obtain ⟨⟨s', er⟩, hP⟩ : ∃ r, r = s.arm x y := ⟨_, rfl⟩
  have hst : s.step ⟨5, bank, ⟨da, dn, dc, dl⟩, x, y⟩ = (s', er) := by rw [hP]; unfold FlS.step; rfl
  rw [hst]
  have hPr := arm_any p S s x y W1 (hf.later b1)
  rw [← hP] at hPr
  have HP : Hid (s.arm x y = (s', er)) := hide hP.symm
  clear hP hst h hf hap hd hS A0 A1 A2 b1 hz hSw h6
  go_enter Try.func10, Try.ntmps10
  go_wp2_with (first
    | (go_at_call 27; refine hPr.mono ?_; rintro e w2 ⟨rfl, S1, G2⟩; clear hPr; have U2 := hide G2.but; have HF2 := hide G2.fl; have HAT := hide G2.at_; have A0w2 := (unhide U2).arr (unhide HA0) (unhide HN0); have a0 : w2.cell? ⟨w.heap.size, 0, none⟩ = some (.int .i64 s.size) := (by simpa using A0w2.cell 0); have a1 : w2.cell? ⟨w.heap.size, 1, none⟩ = some (.slice fa s.l0.length fc) := (by simpa using A0w2.cell 1); have a2 : w2.cell? ⟨w.heap.size, 2, none⟩ = some (.slice sa s.l1.length sc) := (by simpa using A0w2.cell 2); have a3 : w2.cell? ⟨w.heap.size, 3, none⟩ = some (.slice va ar.length vc) := (by simpa using A0w2.cell 3); have a4 : w2.cell? ⟨w.heap.size, 4, none⟩ = some (.int .i64 cnt) := (by simpa using A0w2.cell 4); have a5 : w2.cell? ⟨w.heap.size, 5, none⟩ = some (.int .i64 s.wr) := (by simpa using A0w2.cell 5); have a6 : w2.cell? ⟨w.heap.size, 6, none⟩ = some (.bool s.down) := (by simpa using A0w2.cell 6); clear A0w2; have A1w2 := (unhide U2).arr (unhide HA1) (unhide HN1); have b0 : w2.cell? ⟨w.heap.size + 1, 0, none⟩ = some (.int .i64 5) := (by simpa using A1w2.cell 0); have b1 : w2.cell? ⟨w.heap.size + 1, 1, none⟩ = some (.int .i64 bank) := (by simpa using A1w2.cell 1); have b2 : w2.cell? ⟨w.heap.size + 1, 2, none⟩ = some (.slice da dn dc) := (by simpa using A1w2.cell 2); have b3 : w2.cell? ⟨w.heap.size + 1, 3, none⟩ = some (.int .i64 x) := (by simpa using A1w2.cell 3); have b4 : w2.cell? ⟨w.heap.size + 1, 4, none⟩ = some (.int .i64 y) := (by simpa using A1w2.cell 4); clear A1w2; have HRV2 := hide ((unhide HH).keep G2.but (unhide HAP)); clear G2; have hRC := rarm_any fa sa va fc sc vc s ar cnt w2 (unhide HRV2) (unhide H6) x y (by rw [unhide HP]; exact (unhide HF2).ok); rw [unhide HP] at hRC)
    | (go_at_call 28; refine (hRC).mono ?_; rintro e w3 ⟨v, rfl, hRb, b4⟩; have HRb := hide hRb; obtain ⟨fa3, sa3, va3, fc3, sc3, vc3, ar3, cnt3, hvv, -, -, -⟩ := hRb; subst hvv; obtain ⟨W3, hW3⟩ : ∃ W3, w3.alloc (.cells #[.int .i64 s'.size, .slice fa3 s'.l0.length fc3, .slice sa3 s'.l1.length sc3, .slice va3 ar3.length vc3, .int .i64 cnt3, .int .i64 s'.wr, .bool s'.down] 31) = W3 := ⟨_, rfl⟩; have HB4 := hide b4; have b5 : Below w3.heap.size w3 W3 := (by rw [← hW3]; exact below_one w3 _); have GW : Arr W3 w3.heap.size 31 [.int .i64 s'.size, .slice fa3 s'.l0.length fc3, .slice sa3 s'.l1.length sc3, .slice va3 ar3.length vc3, .int .i64 cnt3, .int .i64 s'.wr, .bool s'.down] := (by rw [← hW3]; exact Arr.new w3 _ _); have m0 : W3.cell? ⟨w3.heap.size, 0, none⟩ = some (.int .i64 s'.size) := (by simpa using GW.cell 0); have m1 : W3.cell? ⟨w3.heap.size, 1, none⟩ = some (.slice fa3 s'.l0.length fc3) := (by simpa using GW.cell 1); have m2 : W3.cell? ⟨w3.heap.size, 2, none⟩ = some (.slice sa3 s'.l1.length sc3) := (by simpa using GW.cell 2); have m3 : W3.cell? ⟨w3.heap.size, 3, none⟩ = some (.slice va3 ar3.length vc3) := (by simpa using GW.cell 3); have m4 : W3.cell? ⟨w3.heap.size, 4, none⟩ = some (.int .i64 cnt3) := (by simpa using GW.cell 4); have m5 : W3.cell? ⟨w3.heap.size, 5, none⟩ = some (.int .i64 s'.wr) := (by simpa using GW.cell 5); have m6 : W3.cell? ⟨w3.heap.size, 6, none⟩ = some (.bool s'.down) := (by simpa using GW.cell 6); have HG := hide GW; have HB5 := hide b5; have U4 := hide ((unhide U2).trans (Buts.of_below b4)); have U5 := hide ((unhide U4).trans (Buts.of_below b5)); have HA2F := hide ((unhide U5).arr (unhide HA2) (unhide HN2)); clear b4 b5 GW)
    | (refine wpList_store_row rfl 31 (.tmp 6) (.tmp 182) rfl (w.heap.size + 2) #[.int .i64 s'.size, .slice fa3 s'.l0.length fc3, .slice sa3 s'.l1.length sc3, .slice va3 ar3.length vc3, .int .i64 cnt3, .int .i64 s'.wr, .bool s'.down] rfl rfl 31 _ (unhide HA2F) Try.szF rfl (rv_one _ _ _ _ _ _ _ _ _ _ _ _ _) ?_))
  refine bodyPost_ret (results_row_tmp rfl _ _ (w.heap.size + 2) 31 #[.int .i64 s'.size, .slice fa3 s'.l0.length fc3, .slice sa3 s'.l1.length sc3, .slice va3 ar3.length vc3, .int .i64 cnt3, .int .i64 s'.wr, .bool s'.down] (0, 0) _ rfl _ rfl (setRow_heap W3 (w.heap.size + 2) _ #[.int .i64 s'.size, .slice fa3 s'.l0.length fc3, .slice sa3 s'.l1.length sc3, .slice va3 ar3.length vc3, .int .i64 cnt3, .int .i64 s'.wr, .bool s'.down] 31 _ (unhide HA2F)) Try.underlying31 rfl Try.szF) rfl ?_
  have bb : Buts (· = w.heap.size + 2) W3 (W3.setRow (w.heap.size + 2) #[.int .i64 s'.size, .slice fa3 s'.l0.length fc3, .slice sa3 s'.l1.length sc3, .slice va3 ar3.length vc3, .int .i64 cnt3, .int .i64 s'.wr, .bool s'.down]) := Buts.of_but ((But.refl (w.heap.size + 2) W3).setRow _)
  obtain ⟨S', q1, q2⟩ := both_fin (unhide HSW) (unhide HO) (unhide HZ) (unhide HB1) (unhide U2) (unhide HF2) (unhide HAT) (unhide HRb) (unhide HB4) ((Buts.of_below (unhide HB5)).trans bb)
  exact ⟨_, S', by simp, q1, q2⟩
set_option maxHeartbeats 4000000 in
set_option maxRecDepth 100000 in
theorem both_res (p : Nat) (S : Nat → Prop) (fa sa va : Option Addr) (fc sc vc : Nat) (s : FlS) (ar : List (Int × Int)) (cnt : Int) (w : World) (h : RV w (.slice fa s.l0.length fc) (.slice sa s.l1.length sc) (.slice va ar.length vc) s ar cnt) (h6 : ∀ x ∈ ar, x.1 ≤ 1000000) (hf : Fl w p S s) (hap : ∀ k, RSet (.slice fa s.l0.length fc) (.slice sa s.l1.length sc) (.slice va ar.length vc) k → ¬ S k) (bank x y : Int) (d : Sl) (hd : d.Ok w) (hdn : d.n ≤ 2097152) (hS : Sepd S d) (hw : s.wr ≤ 1000000000) :
    Calls Try.prog 10 #[.pointer (some ⟨p, 0, none⟩), .agg #[.int .i64 s.size, .slice fa s.l0.length fc, .slice sa s.l1.length sc, .slice va ar.length vc, .int .i64 cnt, .int .i64 s.wr, .bool s.down], .agg #[.int .i64 7, .int .i64 bank, .slice d.a d.n d.c, .int .i64 x, .int .i64 y]] w (BoP p S (RSet (.slice fa s.l0.length fc) (.slice sa s.l1.length sc) (.slice va ar.length vc)) (s.step ⟨7, bank, d, x, y⟩).1 w) := by
  obtain ⟨W1, hW1⟩ : ∃ W1, ((w.alloc (.cells #[.int .i64 s.size, .slice fa s.l0.length fc, .slice sa s.l1.length sc, .slice va ar.length vc, .int .i64 cnt, .int .i64 s.wr, .bool s.down] 31)).alloc (.cells #[.int .i64 7, .int .i64 bank, .slice d.a d.n d.c, .int .i64 x, .int .i64 y] 37)).alloc (.cells #[.int .i64 0, .slice none 0 0, .slice none 0 0, .slice none 0 0, .int .i64 0, .int .i64 0, .bool false] 31) = W1 := ⟨_, rfl⟩
  obtain ⟨A0, A1, A2, b1, hz⟩ := three_new w 31 37 [.int .i64 s.size, .slice fa s.l0.length fc, .slice sa s.l1.length sc, .slice va ar.length vc, .int .i64 cnt, .int .i64 s.wr, .bool s.down] [.int .i64 7, .int .i64 bank, .slice d.a d.n d.c, .int .i64 x, .int .i64 y] [.int .i64 0, .slice none 0 0, .slice none 0 0, .slice none 0 0, .int .i64 0, .int .i64 0, .bool false]
  rw [hW1] at A0 A1 A2 b1 hz
  have hSw := hf.lt
  have HN0 : Hid (¬ S (w.heap.size)) := hide (fun e => by have := hSw _ e; omega)
  have HN1 : Hid (¬ S (w.heap.size + 1)) := hide (fun e => by have := hSw _ e; omega)
  have HN2 : Hid (¬ S (w.heap.size + 2)) := hide (fun e => by have := hSw _ e; omega)
  have HSW := hide hSw
  have HO : Hid (∀ k, (RSet (.slice fa s.l0.length fc) (.slice sa s.l1.length sc) (.slice va ar.length vc)) k → k < w.heap.size ∧ ¬ S k) := hide (fun k hk => ⟨h.lt k hk, hap k hk⟩)
  have HH := hide (h.later b1)
  have HAP := hide hap
  have HF1 := hide (hf.later b1)
  have HD1 := hide (hd.later b1)
  have HZ := hide hz
  have HB1 := hide b1
  obtain ⟨da, dn, dc, dl⟩ := d
  simp only at *
  have HL : Hid (dl.length = dn) := hide hd.len
  have c0 : W1.cell? ⟨w.heap.size, 0, none⟩ = some (.int .i64 s.size) := (by simpa using A0.cell 0)
  have c1 : W1.cell? ⟨w.heap.size, 1, none⟩ = some (.slice fa s.l0.length fc) := (by simpa using A0.cell 1)
  have c2 : W1.cell? ⟨w.heap.size, 2, none⟩ = some (.slice sa s.l1.length sc) := (by simpa using A0.cell 2)
  have c3 : W1.cell? ⟨w.heap.size, 3, none⟩ = some (.slice va ar.length vc) := (by simpa using A0.cell 3)
  have c4 : W1.cell? ⟨w.heap.size, 4, none⟩ = some (.int .i64 cnt) := (by simpa using A0.cell 4)
  have c5 : W1.cell? ⟨w.heap.size, 5, none⟩ = some (.int .i64 s.wr) := (by simpa using A0.cell 5)
  have c6 : W1.cell? ⟨w.heap.size, 6, none⟩ = some (.bool s.down) := (by simpa using A0.cell 6)
  have k0 : W1.cell? ⟨w.heap.size + 1, 0, none⟩ = some (.int .i64 7) := (by simpa using A1.cell 0)
  have k1 : W1.cell? ⟨w.heap.size + 1, 1, none⟩ = some (.int .i64 bank) := (by simpa using A1.cell 1)
  have k2 : W1.cell? ⟨w.heap.size + 1, 2, none⟩ = some (.slice da dn dc) := (by simpa using A1.cell 2)
  have k3 : W1.cell? ⟨w.heap.size + 1, 3, none⟩ = some (.int .i64 x) := (by simpa using A1.cell 3)
  have k4 : W1.cell? ⟨w.heap.size + 1, 4, none⟩ = some (.int .i64 y) := (by simpa using A1.cell 4)
  have HA0 := hide A0
  have HA1 := hide A1
  have HA2 := hide A2
  have HS := hide hS
  have H6 := hide h6
  obtain ⟨⟨s', er⟩, hP⟩ : ∃ r, r = s.restart := ⟨_, rfl⟩
  have hst : s.step ⟨7, bank, ⟨da, dn, dc, dl⟩, x, y⟩ = (s', er) := by rw [hP]; unfold FlS.step; rfl
  rw [hst]
  have hPr := restart_any p S s W1 (hf.later b1)
  rw [← hP] at hPr
  have HP : Hid (s.restart = (s', er)) := hide hP.symm
  clear hP hst h hf hap hd hS A0 A1 A2 b1 hz hSw h6
  go_enter Try.func10, Try.ntmps10
  go_wp2_with (first
    | (go_at_call 31; refine hPr.mono ?_; rintro e w2 ⟨rfl, S1, G2⟩; clear hPr; have U2 := hide G2.but; have HF2 := hide G2.fl; have HAT := hide G2.at_; have A0w2 := (unhide U2).arr (unhide HA0) (unhide HN0); have a0 : w2.cell? ⟨w.heap.size, 0, none⟩ = some (.int .i64 s.size) := (by simpa using A0w2.cell 0); have a1 : w2.cell? ⟨w.heap.size, 1, none⟩ = some (.slice fa s.l0.length fc) := (by simpa using A0w2.cell 1); have a2 : w2.cell? ⟨w.heap.size, 2, none⟩ = some (.slice sa s.l1.length sc) := (by simpa using A0w2.cell 2); have a3 : w2.cell? ⟨w.heap.size, 3, none⟩ = some (.slice va ar.length vc) := (by simpa using A0w2.cell 3); have a4 : w2.cell? ⟨w.heap.size, 4, none⟩ = some (.int .i64 cnt) := (by simpa using A0w2.cell 4); have a5 : w2.cell? ⟨w.heap.size, 5, none⟩ = some (.int .i64 s.wr) := (by simpa using A0w2.cell 5); have a6 : w2.cell? ⟨w.heap.size, 6, none⟩ = some (.bool s.down) := (by simpa using A0w2.cell 6); clear A0w2; have A1w2 := (unhide U2).arr (unhide HA1) (unhide HN1); have b0 : w2.cell? ⟨w.heap.size + 1, 0, none⟩ = some (.int .i64 7) := (by simpa using A1w2.cell 0); have b1 : w2.cell? ⟨w.heap.size + 1, 1, none⟩ = some (.int .i64 bank) := (by simpa using A1w2.cell 1); have b2 : w2.cell? ⟨w.heap.size + 1, 2, none⟩ = some (.slice da dn dc) := (by simpa using A1w2.cell 2); have b3 : w2.cell? ⟨w.heap.size + 1, 3, none⟩ = some (.int .i64 x) := (by simpa using A1w2.cell 3); have b4 : w2.cell? ⟨w.heap.size + 1, 4, none⟩ = some (.int .i64 y) := (by simpa using A1w2.cell 4); clear A1w2; have HRV2 := hide ((unhide HH).keep G2.but (unhide HAP)); clear G2; have hRC := rrestart_any fa sa va fc sc vc s ar cnt w2 (unhide HRV2) (unhide H6) (by rw [unhide HP]; exact (unhide HF2).ok); rw [unhide HP] at hRC)
    | (go_at_call 32; refine (hRC).mono ?_; rintro e w3 ⟨v, rfl, hRb, b4⟩; have HRb := hide hRb; obtain ⟨fa3, sa3, va3, fc3, sc3, vc3, ar3, cnt3, hvv, -, -, -⟩ := hRb; subst hvv; obtain ⟨W3, hW3⟩ : ∃ W3, w3.alloc (.cells #[.int .i64 s'.size, .slice fa3 s'.l0.length fc3, .slice sa3 s'.l1.length sc3, .slice va3 ar3.length vc3, .int .i64 cnt3, .int .i64 s'.wr, .bool s'.down] 31) = W3 := ⟨_, rfl⟩; have HB4 := hide b4; have b5 : Below w3.heap.size w3 W3 := (by rw [← hW3]; exact below_one w3 _); have GW : Arr W3 w3.heap.size 31 [.int .i64 s'.size, .slice fa3 s'.l0.length fc3, .slice sa3 s'.l1.length sc3, .slice va3 ar3.length vc3, .int .i64 cnt3, .int .i64 s'.wr, .bool s'.down] := (by rw [← hW3]; exact Arr.new w3 _ _); have m0 : W3.cell? ⟨w3.heap.size, 0, none⟩ = some (.int .i64 s'.size) := (by simpa using GW.cell 0); have m1 : W3.cell? ⟨w3.heap.size, 1, none⟩ = some (.slice fa3 s'.l0.length fc3) := (by simpa using GW.cell 1); have m2 : W3.cell? ⟨w3.heap.size, 2, none⟩ = some (.slice sa3 s'.l1.length sc3) := (by simpa using GW.cell 2); have m3 : W3.cell? ⟨w3.heap.size, 3, none⟩ = some (.slice va3 ar3.length vc3) := (by simpa using GW.cell 3); have m4 : W3.cell? ⟨w3.heap.size, 4, none⟩ = some (.int .i64 cnt3) := (by simpa using GW.cell 4); have m5 : W3.cell? ⟨w3.heap.size, 5, none⟩ = some (.int .i64 s'.wr) := (by simpa using GW.cell 5); have m6 : W3.cell? ⟨w3.heap.size, 6, none⟩ = some (.bool s'.down) := (by simpa using GW.cell 6); have HG := hide GW; have HB5 := hide b5; have U4 := hide ((unhide U2).trans (Buts.of_below b4)); have U5 := hide ((unhide U4).trans (Buts.of_below b5)); have HA2F := hide ((unhide U5).arr (unhide HA2) (unhide HN2)); clear b4 b5 GW)
    | (refine wpList_store_row rfl 31 (.tmp 6) (.tmp 201) rfl (w.heap.size + 2) #[.int .i64 s'.size, .slice fa3 s'.l0.length fc3, .slice sa3 s'.l1.length sc3, .slice va3 ar3.length vc3, .int .i64 cnt3, .int .i64 s'.wr, .bool s'.down] rfl rfl 31 _ (unhide HA2F) Try.szF rfl (rv_one _ _ _ _ _ _ _ _ _ _ _ _ _) ?_))
  refine bodyPost_ret (results_row_tmp rfl _ _ (w.heap.size + 2) 31 #[.int .i64 s'.size, .slice fa3 s'.l0.length fc3, .slice sa3 s'.l1.length sc3, .slice va3 ar3.length vc3, .int .i64 cnt3, .int .i64 s'.wr, .bool s'.down] (0, 0) _ rfl _ rfl (setRow_heap W3 (w.heap.size + 2) _ #[.int .i64 s'.size, .slice fa3 s'.l0.length fc3, .slice sa3 s'.l1.length sc3, .slice va3 ar3.length vc3, .int .i64 cnt3, .int .i64 s'.wr, .bool s'.down] 31 _ (unhide HA2F)) Try.underlying31 rfl Try.szF) rfl ?_
  have bb : Buts (· = w.heap.size + 2) W3 (W3.setRow (w.heap.size + 2) #[.int .i64 s'.size, .slice fa3 s'.l0.length fc3, .slice sa3 s'.l1.length sc3, .slice va3 ar3.length vc3, .int .i64 cnt3, .int .i64 s'.wr, .bool s'.down]) := Buts.of_but ((But.refl (w.heap.size + 2) W3).setRow _)
  obtain ⟨S', q1, q2⟩ := both_fin (unhide HSW) (unhide HO) (unhide HZ) (unhide HB1) (unhide U2) (unhide HF2) (unhide HAT) (unhide HRb) (unhide HB4) ((Buts.of_below (unhide HB5)).trans bb)
  exact ⟨_, S', by simp, q1, q2⟩
set_option maxHeartbeats 4000000 in
set_option maxRecDepth 100000 in
theorem both_dis (p : Nat) (S : Nat → Prop) (fa sa va : Option Addr) (fc sc vc : Nat) (s : FlS) (ar : List (Int × Int)) (cnt : Int) (w : World) (h : RV w (.slice fa s.l0.length fc) (.slice sa s.l1.length sc) (.slice va ar.length vc) s ar cnt) (h6 : ∀ x ∈ ar, x.1 ≤ 1000000) (hf : Fl w p S s) (hap : ∀ k, RSet (.slice fa s.l0.length fc) (.slice sa s.l1.length sc) (.slice va ar.length vc) k → ¬ S k) (bank x y : Int) (d : Sl) (hd : d.Ok w) (hdn : d.n ≤ 2097152) (hS : Sepd S d) (hw : s.wr ≤ 1000000000) :
    Calls Try.prog 10 #[.pointer (some ⟨p, 0, none⟩), .agg #[.int .i64 s.size, .slice fa s.l0.length fc, .slice sa s.l1.length sc, .slice va ar.length vc, .int .i64 cnt, .int .i64 s.wr, .bool s.down], .agg #[.int .i64 6, .int .i64 bank, .slice d.a d.n d.c, .int .i64 x, .int .i64 y]] w (BoP p S (RSet (.slice fa s.l0.length fc) (.slice sa s.l1.length sc) (.slice va ar.length vc)) (s.step ⟨6, bank, d, x, y⟩).1 w) := by
  obtain ⟨W1, hW1⟩ : ∃ W1, ((w.alloc (.cells #[.int .i64 s.size, .slice fa s.l0.length fc, .slice sa s.l1.length sc, .slice va ar.length vc, .int .i64 cnt, .int .i64 s.wr, .bool s.down] 31)).alloc (.cells #[.int .i64 6, .int .i64 bank, .slice d.a d.n d.c, .int .i64 x, .int .i64 y] 37)).alloc (.cells #[.int .i64 0, .slice none 0 0, .slice none 0 0, .slice none 0 0, .int .i64 0, .int .i64 0, .bool false] 31) = W1 := ⟨_, rfl⟩
  obtain ⟨A0, A1, A2, b1, hz⟩ := three_new w 31 37 [.int .i64 s.size, .slice fa s.l0.length fc, .slice sa s.l1.length sc, .slice va ar.length vc, .int .i64 cnt, .int .i64 s.wr, .bool s.down] [.int .i64 6, .int .i64 bank, .slice d.a d.n d.c, .int .i64 x, .int .i64 y] [.int .i64 0, .slice none 0 0, .slice none 0 0, .slice none 0 0, .int .i64 0, .int .i64 0, .bool false]
  rw [hW1] at A0 A1 A2 b1 hz
  have hSw := hf.lt
  have HN0 : Hid (¬ S (w.heap.size)) := hide (fun e => by have := hSw _ e; omega)
  have HN1 : Hid (¬ S (w.heap.size + 1)) := hide (fun e => by have := hSw _ e; omega)
  have HN2 : Hid (¬ S (w.heap.size + 2)) := hide (fun e => by have := hSw _ e; omega)
  have HSW := hide hSw
  have HO : Hid (∀ k, (RSet (.slice fa s.l0.length fc) (.slice sa s.l1.length sc) (.slice va ar.length vc)) k → k < w.heap.size ∧ ¬ S k) := hide (fun k hk => ⟨h.lt k hk, hap k hk⟩)
  have HH := hide (h.later b1)
  have HAP := hide hap
  have HF1 := hide (hf.later b1)
  have HD1 := hide (hd.later b1)
  have HZ := hide hz
  have HB1 := hide b1
  obtain ⟨da, dn, dc, dl⟩ := d
  simp only at *
  have HL : Hid (dl.length = dn) := hide hd.len
  have c0 : W1.cell? ⟨w.heap.size, 0, none⟩ = some (.int .i64 s.size) := (by simpa using A0.cell 0)
  have c1 : W1.cell? ⟨w.heap.size, 1, none⟩ = some (.slice fa s.l0.length fc) := (by simpa using A0.cell 1)
  have c2 : W1.cell? ⟨w.heap.size, 2, none⟩ = some (.slice sa s.l1.length sc) := (by simpa using A0.cell 2)
  have c3 : W1.cell? ⟨w.heap.size, 3, none⟩ = some (.slice va ar.length vc) := (by simpa using A0.cell 3)
  have c4 : W1.cell? ⟨w.heap.size, 4, none⟩ = some (.int .i64 cnt) := (by simpa using A0.cell 4)
  have c5 : W1.cell? ⟨w.heap.size, 5, none⟩ = some (.int .i64 s.wr) := (by simpa using A0.cell 5)
  have c6 : W1.cell? ⟨w.heap.size, 6, none⟩ = some (.bool s.down) := (by simpa using A0.cell 6)
  have k0 : W1.cell? ⟨w.heap.size + 1, 0, none⟩ = some (.int .i64 6) := (by simpa using A1.cell 0)
  have k1 : W1.cell? ⟨w.heap.size + 1, 1, none⟩ = some (.int .i64 bank) := (by simpa using A1.cell 1)
  have k2 : W1.cell? ⟨w.heap.size + 1, 2, none⟩ = some (.slice da dn dc) := (by simpa using A1.cell 2)
  have k3 : W1.cell? ⟨w.heap.size + 1, 3, none⟩ = some (.int .i64 x) := (by simpa using A1.cell 3)
  have k4 : W1.cell? ⟨w.heap.size + 1, 4, none⟩ = some (.int .i64 y) := (by simpa using A1.cell 4)
  have HA0 := hide A0
  have HA1 := hide A1
  have HA2 := hide A2
  have HS := hide hS
  have H6 := hide h6
  obtain ⟨s', hP⟩ : ∃ r, r = ({ s with q := [] } : FlS) := ⟨_, rfl⟩
  have hst : (s.step ⟨6, bank, ⟨da, dn, dc, dl⟩, x, y⟩).1 = s' := by rw [hP]; rfl
  rw [hst]
  have hPr := disarm_any p S s W1 (hf.later b1)
  rw [← hP] at hPr
  have HP : Hid (({ s with q := [] } : FlS) = s') := hide hP.symm
  clear hP hst h hf hap hd hS A0 A1 A2 b1 hz hSw h6
  go_enter Try.func10, Try.ntmps10
  go_wp2_with (first
    | (go_at_call 29; refine hPr.mono ?_; rintro e w2 ⟨rfl, S1, G2⟩; clear hPr; have U2 := hide G2.but; have HF2 := hide G2.fl; have HAT := hide G2.at_; have A0w2 := (unhide U2).arr (unhide HA0) (unhide HN0); have a0 : w2.cell? ⟨w.heap.size, 0, none⟩ = some (.int .i64 s.size) := (by simpa using A0w2.cell 0); have a1 : w2.cell? ⟨w.heap.size, 1, none⟩ = some (.slice fa s.l0.length fc) := (by simpa using A0w2.cell 1); have a2 : w2.cell? ⟨w.heap.size, 2, none⟩ = some (.slice sa s.l1.length sc) := (by simpa using A0w2.cell 2); have a3 : w2.cell? ⟨w.heap.size, 3, none⟩ = some (.slice va ar.length vc) := (by simpa using A0w2.cell 3); have a4 : w2.cell? ⟨w.heap.size, 4, none⟩ = some (.int .i64 cnt) := (by simpa using A0w2.cell 4); have a5 : w2.cell? ⟨w.heap.size, 5, none⟩ = some (.int .i64 s.wr) := (by simpa using A0w2.cell 5); have a6 : w2.cell? ⟨w.heap.size, 6, none⟩ = some (.bool s.down) := (by simpa using A0w2.cell 6); clear A0w2; have A1w2 := (unhide U2).arr (unhide HA1) (unhide HN1); have b0 : w2.cell? ⟨w.heap.size + 1, 0, none⟩ = some (.int .i64 6) := (by simpa using A1w2.cell 0); have b1 : w2.cell? ⟨w.heap.size + 1, 1, none⟩ = some (.int .i64 bank) := (by simpa using A1w2.cell 1); have b2 : w2.cell? ⟨w.heap.size + 1, 2, none⟩ = some (.slice da dn dc) := (by simpa using A1w2.cell 2); have b3 : w2.cell? ⟨w.heap.size + 1, 3, none⟩ = some (.int .i64 x) := (by simpa using A1w2.cell 3); have b4 : w2.cell? ⟨w.heap.size + 1, 4, none⟩ = some (.int .i64 y) := (by simpa using A1w2.cell 4); clear A1w2; have HRV2 := hide ((unhide HH).keep G2.but (unhide HAP)); clear G2; have hRC := rdisarm_ok fa sa va fc sc vc s ar cnt w2 (unhide HRV2) (unhide H6) (by rw [unhide HP]; exact (unhide HF2).ok); rw [unhide HP] at hRC)
    | (go_at_call 30; refine hRC.mono ?_; rintro e w3 ⟨v, rfl, hRb, b4⟩; have HRb := hide hRb; obtain ⟨fa3, sa3, va3, fc3, sc3, vc3, ar3, cnt3, hvv, -, -, -⟩ := hRb; subst hvv; have HB4 := hide b4; have U4 := hide ((unhide U2).trans (Buts.of_below b4)); have HA2F := hide ((unhide U4).arr (unhide HA2) (unhide HN2)); clear b4)
    | (refine wpList_store_row rfl 31 (.tmp 6) (.tmp 191) rfl (w.heap.size + 2) #[.int .i64 s'.size, .slice fa3 s'.l0.length fc3, .slice sa3 s'.l1.length sc3, .slice va3 ar3.length vc3, .int .i64 cnt3, .int .i64 s'.wr, .bool s'.down] rfl rfl 31 _ (unhide HA2F) Try.szF rfl (rv_one _ _ _ _ _ _ _ _ _ _ _ _ _) ?_))
  refine bodyPost_ret (results_row_tmp rfl _ _ (w.heap.size + 2) 31 #[.int .i64 s'.size, .slice fa3 s'.l0.length fc3, .slice sa3 s'.l1.length sc3, .slice va3 ar3.length vc3, .int .i64 cnt3, .int .i64 s'.wr, .bool s'.down] (0, 0) _ rfl _ rfl (setRow_heap w3 (w.heap.size + 2) _ #[.int .i64 s'.size, .slice fa3 s'.l0.length fc3, .slice sa3 s'.l1.length sc3, .slice va3 ar3.length vc3, .int .i64 cnt3, .int .i64 s'.wr, .bool s'.down] 31 _ (unhide HA2F)) Try.underlying31 rfl Try.szF) rfl ?_
  have bb : Buts (· = w.heap.size + 2) w3 (w3.setRow (w.heap.size + 2) #[.int .i64 s'.size, .slice fa3 s'.l0.length fc3, .slice sa3 s'.l1.length sc3, .slice va3 ar3.length vc3, .int .i64 cnt3, .int .i64 s'.wr, .bool s'.down]) := Buts.of_but ((But.refl (w.heap.size + 2) w3).setRow _)
  obtain ⟨S', q1, q2⟩ := both_fin (unhide HSW) (unhide HO) (unhide HZ) (unhide HB1) (unhide U2) (unhide HF2) (unhide HAT) (unhide HRb) (unhide HB4) (bb)
  exact ⟨_, S', by simp, q1, q2⟩
set_option maxHeartbeats 4000000 in
set_option maxRecDepth 100000 in
theorem both_oth (p : Nat) (S : Nat → Prop) (fa sa va : Option Addr) (fc sc vc : Nat) (s : FlS) (ar : List (Int × Int)) (cnt : Int) (w : World) (h : RV w (.slice fa s.l0.length fc) (.slice sa s.l1.length sc) (.slice va ar.length vc) s ar cnt) (h6 : ∀ x ∈ ar, x.1 ≤ 1000000) (hf : Fl w p S s) (hap : ∀ k, RSet (.slice fa s.l0.length fc) (.slice sa s.l1.length sc) (.slice va ar.length vc) k → ¬ S k) (bank x y : Int) (d : Sl) (hd : d.Ok w) (hdn : d.n ≤ 2097152) (hS : Sepd S d) (hw : s.wr ≤ 1000000000) (kd : Int) (e1 : kd ≠ 1) (e2 : kd ≠ 2) (e3 : kd ≠ 3) (e4 : kd ≠ 4) (e5 : kd ≠ 5) (e6 : kd ≠ 6) (e7 : kd ≠ 7) :
    Calls Try.prog 10 #[.pointer (some ⟨p, 0, none⟩), .agg #[.int .i64 s.size, .slice fa s.l0.length fc, .slice sa s.l1.length sc, .slice va ar.length vc, .int .i64 cnt, .int .i64 s.wr, .bool s.down], .agg #[.int .i64 kd, .int .i64 bank, .slice d.a d.n d.c, .int .i64 x, .int .i64 y]] w (BoP p S (RSet (.slice fa s.l0.length fc) (.slice sa s.l1.length sc) (.slice va ar.length vc)) (s.step ⟨kd, bank, d, x, y⟩).1 w) := by
  obtain ⟨W1, hW1⟩ : ∃ W1, ((w.alloc (.cells #[.int .i64 s.size, .slice fa s.l0.length fc, .slice sa s.l1.length sc, .slice va ar.length vc, .int .i64 cnt, .int .i64 s.wr, .bool s.down] 31)).alloc (.cells #[.int .i64 kd, .int .i64 bank, .slice d.a d.n d.c, .int .i64 x, .int .i64 y] 37)).alloc (.cells #[.int .i64 0, .slice none 0 0, .slice none 0 0, .slice none 0 0, .int .i64 0, .int .i64 0, .bool false] 31) = W1 := ⟨_, rfl⟩
  obtain ⟨A0, A1, A2, b1, hz⟩ := three_new w 31 37 [.int .i64 s.size, .slice fa s.l0.length fc, .slice sa s.l1.length sc, .slice va ar.length vc, .int .i64 cnt, .int .i64 s.wr, .bool s.down] [.int .i64 kd, .int .i64 bank, .slice d.a d.n d.c, .int .i64 x, .int .i64 y] [.int .i64 0, .slice none 0 0, .slice none 0 0, .slice none 0 0, .int .i64 0, .int .i64 0, .bool false]
  rw [hW1] at A0 A1 A2 b1 hz
  have hSw := hf.lt
  have HN0 : Hid (¬ S (w.heap.size)) := hide (fun e => by have := hSw _ e; omega)
  have HN1 : Hid (¬ S (w.heap.size + 1)) := hide (fun e => by have := hSw _ e; omega)
  have HN2 : Hid (¬ S (w.heap.size + 2)) := hide (fun e => by have := hSw _ e; omega)
  have HSW := hide hSw
  have HO : Hid (∀ k, (RSet (.slice fa s.l0.length fc) (.slice sa s.l1.length sc) (.slice va ar.length vc)) k → k < w.heap.size ∧ ¬ S k) := hide (fun k hk => ⟨h.lt k hk, hap k hk⟩)
  have HH := hide (h.later b1)
  have HAP := hide hap
  have HF1 := hide (hf.later b1)
  have HD1 := hide (hd.later b1)
  have HZ := hide hz
  have HB1 := hide b1
  obtain ⟨da, dn, dc, dl⟩ := d
  simp only at *
  have HL : Hid (dl.length = dn) := hide hd.len
  have c0 : W1.cell? ⟨w.heap.size, 0, none⟩ = some (.int .i64 s.size) := (by simpa using A0.cell 0)
  have c1 : W1.cell? ⟨w.heap.size, 1, none⟩ = some (.slice fa s.l0.length fc) := (by simpa using A0.cell 1)
  have c2 : W1.cell? ⟨w.heap.size, 2, none⟩ = some (.slice sa s.l1.length sc) := (by simpa using A0.cell 2)
  have c3 : W1.cell? ⟨w.heap.size, 3, none⟩ = some (.slice va ar.length vc) := (by simpa using A0.cell 3)
  have c4 : W1.cell? ⟨w.heap.size, 4, none⟩ = some (.int .i64 cnt) := (by simpa using A0.cell 4)
  have c5 : W1.cell? ⟨w.heap.size, 5, none⟩ = some (.int .i64 s.wr) := (by simpa using A0.cell 5)
  have c6 : W1.cell? ⟨w.heap.size, 6, none⟩ = some (.bool s.down) := (by simpa using A0.cell 6)
  have k0 : W1.cell? ⟨w.heap.size + 1, 0, none⟩ = some (.int .i64 kd) := (by simpa using A1.cell 0)
  have k1 : W1.cell? ⟨w.heap.size + 1, 1, none⟩ = some (.int .i64 bank) := (by simpa using A1.cell 1)
  have k2 : W1.cell? ⟨w.heap.size + 1, 2, none⟩ = some (.slice da dn dc) := (by simpa using A1.cell 2)
  have k3 : W1.cell? ⟨w.heap.size + 1, 3, none⟩ = some (.int .i64 x) := (by simpa using A1.cell 3)
  have k4 : W1.cell? ⟨w.heap.size + 1, 4, none⟩ = some (.int .i64 y) := (by simpa using A1.cell 4)
  have HA0 := hide A0
  have HA1 := hide A1
  have HA2 := hide A2
  have HS := hide hS
  have H6 := hide h6
  have hst : (s.step ⟨kd, bank, ⟨da, dn, dc, dl⟩, x, y⟩).1 = s := by unfold FlS.step; simp [e1, e2, e5, e6, e7]
  rw [hst]
  have n1 : (kd == 1) = false := by simpa using e1
  have n2 : (kd == 2) = false := by simpa using e2
  have n3 : (kd == 3) = false := by simpa using e3
  have n4 : (kd == 4) = false := by simpa using e4
  have n5 : (kd == 5) = false := by simpa using e5
  have n6 : (kd == 6) = false := by simpa using e6
  have n7 : (kd == 7) = false := by simpa using e7
  clear hst h hf hap hd hS A0 A1 A2 b1 hz hSw h6
  go_enter Try.func10, Try.ntmps10
  go_wp2_with (first
    | (refine wpList_store_row rfl 31 (.tmp 6) (.tmp 205) rfl (w.heap.size + 2) #[.int .i64 s.size, .slice fa s.l0.length fc, .slice sa s.l1.length sc, .slice va ar.length vc, .int .i64 cnt, .int .i64 s.wr, .bool s.down] rfl rfl 31 _ (unhide HA2) Try.szF rfl (rv_one _ _ _ _ _ _ _ _ _ _ _ _ _) ?_))
  refine bodyPost_ret (results_row_tmp rfl _ _ (w.heap.size + 2) 31 #[.int .i64 s.size, .slice fa s.l0.length fc, .slice sa s.l1.length sc, .slice va ar.length vc, .int .i64 cnt, .int .i64 s.wr, .bool s.down] (0, 0) _ rfl _ rfl (setRow_heap W1 (w.heap.size + 2) _ #[.int .i64 s.size, .slice fa s.l0.length fc, .slice sa s.l1.length sc, .slice va ar.length vc, .int .i64 cnt, .int .i64 s.wr, .bool s.down] 31 _ (unhide HA2)) Try.underlying31 rfl Try.szF) rfl ?_
  have bb : Buts (· = w.heap.size + 2) W1 (W1.setRow (w.heap.size + 2) #[.int .i64 s.size, .slice fa s.l0.length fc, .slice sa s.l1.length sc, .slice va ar.length vc, .int .i64 cnt, .int .i64 s.wr, .bool s.down]) := Buts.of_but ((But.refl (w.heap.size + 2) W1).setRow _)
  obtain ⟨S', q1, q2⟩ := both_fin (unhide HSW) (unhide HO) (unhide HZ) (unhide HB1) (Buts.refl _ _) (unhide HF1) (fun k hk => .inl hk) ⟨_, _, _, _, _, _, _, _, rfl, (unhide HH), (unhide H6), fun k hk => .inl hk⟩ (Below.refl _ _) (bb)
  exact ⟨_, S', by simp, q1, q2⟩
theorem rroomX_any (fa sa va : Option Addr) (fc sc vc : Nat) (s : FlS) (ar : List (Int × Int)) (cnt : Int) (w : World) (h : RV w (.slice fa s.l0.length fc) (.slice sa s.l1.length sc) (.slice va ar.length vc) s ar cnt) (bank : Int) :
    Calls Try.prog 26 #[.agg #[.int .i64 s.size, .slice fa s.l0.length fc, .slice sa s.l1.length sc, .slice va ar.length vc, .int .i64 cnt, .int .i64 s.wr, .bool s.down], .int .i64 bank] w fun e w' => e = .returned (.tuple #[.int .i64 (s.room bank), .int .i64 (s.ref bank)]) ∧ Below w.heap.size w w' := by
  by_cases hr : s.ref bank = 0
  · have hb := (ref_zero hr).1
    rw [hr]
    unfold FlS.room
    rw [if_pos hr]
    rcases hb with rfl | rfl
    · exact rroom_0 fa sa va fc sc vc s ar cnt w h hr
    · exact rroom_1 fa sa va fc sc vc s ar cnt w h hr
  · unfold FlS.room
    rw [if_neg hr]
    exact rroom_no fa sa va fc sc vc s ar cnt w h bank hr
theorem rreadX_any (fa sa va : Option Addr) (fc sc vc : Nat) (s : FlS) (ar : List (Int × Int)) (cnt : Int) (w : World) (h : RV w (.slice fa s.l0.length fc) (.slice sa s.l1.length sc) (.slice va ar.length vc) s ar cnt) (bank : Int) :
    Calls Try.prog 24 #[.agg #[.int .i64 s.size, .slice fa s.l0.length fc, .slice sa s.l1.length sc, .slice va ar.length vc, .int .i64 cnt, .int .i64 s.wr, .bool s.down], .int .i64 bank] w fun e w' => ∃ u, e = .returned (.tuple #[u, .int .i64 (s.ref bank)]) ∧ OwB w' u (s.read bank) ∧ (∀ k, u.ownBlock = some k → w.heap.size ≤ k) ∧ Below w.heap.size w w' := by
  by_cases hr : s.ref bank = 0
  · have hb := (ref_zero hr).1
    rw [hr]
    unfold FlS.read
    rw [if_pos hr]
    rcases hb with rfl | rfl
    · exact rread_0 fa sa va fc sc vc s ar cnt w h hr
    · exact rread_1 fa sa va fc sc vc s ar cnt w h hr
  · unfold FlS.read
    rw [if_neg hr]
    refine (rread_no fa sa va fc sc vc s ar cnt w h bank hr).mono ?_
    rintro e w' ⟨rfl, b⟩
    exact ⟨_, rfl, OwB.nil _, fun k hk => by simp [Value.ownBlock] at hk, b⟩
set_option maxHeartbeats 4000000 in
set_option maxRecDepth 100000 in
theorem both_rom (p : Nat) (S : Nat → Prop) (fa sa va : Option Addr) (fc sc vc : Nat) (s : FlS) (ar : List (Int × Int)) (cnt : Int) (w : World) (h : RV w (.slice fa s.l0.length fc) (.slice sa s.l1.length sc) (.slice va ar.length vc) s ar cnt) (h6 : ∀ x ∈ ar, x.1 ≤ 1000000) (hf : Fl w p S s) (hap : ∀ k, RSet (.slice fa s.l0.length fc) (.slice sa s.l1.length sc) (.slice va ar.length vc) k → ¬ S k) (bank x y : Int) (d : Sl) (hd : d.Ok w) (hdn : d.n ≤ 2097152) (hS : Sepd S d) (hw : s.wr ≤ 1000000000) :
    Calls Try.prog 10 #[.pointer (some ⟨p, 0, none⟩), .agg #[.int .i64 s.size, .slice fa s.l0.length fc, .slice sa s.l1.length sc, .slice va ar.length vc, .int .i64 cnt, .int .i64 s.wr, .bool s.down], .agg #[.int .i64 4, .int .i64 bank, .slice d.a d.n d.c, .int .i64 x, .int .i64 y]] w (BoP p S (RSet (.slice fa s.l0.length fc) (.slice sa s.l1.length sc) (.slice va ar.length vc)) (s.step ⟨4, bank, d, x, y⟩).1 w) := by
  obtain ⟨W1, hW1⟩ : ∃ W1, ((w.alloc (.cells #[.int .i64 s.size, .slice fa s.l0.length fc, .slice sa s.l1.length sc, .slice va ar.length vc, .int .i64 cnt, .int .i64 s.wr, .bool s.down] 31)).alloc (.cells #[.int .i64 4, .int .i64 bank, .slice d.a d.n d.c, .int .i64 x, .int .i64 y] 37)).alloc (.cells #[.int .i64 0, .slice none 0 0, .slice none 0 0, .slice none 0 0, .int .i64 0, .int .i64 0, .bool false] 31) = W1 := ⟨_, rfl⟩
  obtain ⟨A0, A1, A2, b1, hz⟩ := three_new w 31 37 [.int .i64 s.size, .slice fa s.l0.length fc, .slice sa s.l1.length sc, .slice va ar.length vc, .int .i64 cnt, .int .i64 s.wr, .bool s.down] [.int .i64 4, .int .i64 bank, .slice d.a d.n d.c, .int .i64 x, .int .i64 y] [.int .i64 0, .slice none 0 0, .slice none 0 0, .slice none 0 0, .int .i64 0, .int .i64 0, .bool false]
  rw [hW1] at A0 A1 A2 b1 hz
  have hSw := hf.lt
  have HN0 : Hid (¬ S (w.heap.size)) := hide (fun e => by have := hSw _ e; omega)
  have HN1 : Hid (¬ S (w.heap.size + 1)) := hide (fun e => by have := hSw _ e; omega)
  have HN2 : Hid (¬ S (w.heap.size + 2)) := hide (fun e => by have := hSw _ e; omega)
  have HSW := hide hSw
  have HO : Hid (∀ k, (RSet (.slice fa s.l0.length fc) (.slice sa s.l1.length sc) (.slice va ar.length vc)) k → k < w.heap.size ∧ ¬ S k) := hide (fun k hk => ⟨h.lt k hk, hap k hk⟩)
  have HH := hide (h.later b1)
  have HAP := hide hap
  have HF1 := hide (hf.later b1)
  have HD1 := hide (hd.later b1)
  have HZ := hide hz
  have HB1 := hide b1
  obtain ⟨da, dn, dc, dl⟩ := d
  simp only at *
  have HL : Hid (dl.length = dn) := hide hd.len
  have c0 : W1.cell? ⟨w.heap.size, 0, none⟩ = some (.int .i64 s.size) := (by simpa using A0.cell 0)
  have c1 : W1.cell? ⟨w.heap.size, 1, none⟩ = some (.slice fa s.l0.length fc) := (by simpa using A0.cell 1)
  have c2 : W1.cell? ⟨w.heap.size, 2, none⟩ = some (.slice sa s.l1.length sc) := (by simpa using A0.cell 2)
  have c3 : W1.cell? ⟨w.heap.size, 3, none⟩ = some (.slice va ar.length vc) := (by simpa using A0.cell 3)
  have c4 : W1.cell? ⟨w.heap.size, 4, none⟩ = some (.int .i64 cnt) := (by simpa using A0.cell 4)
  have c5 : W1.cell? ⟨w.heap.size, 5, none⟩ = some (.int .i64 s.wr) := (by simpa using A0.cell 5)
  have c6 : W1.cell? ⟨w.heap.size, 6, none⟩ = some (.bool s.down) := (by simpa using A0.cell 6)
  have k0 : W1.cell? ⟨w.heap.size + 1, 0, none⟩ = some (.int .i64 4) := (by simpa using A1.cell 0)
  have k1 : W1.cell? ⟨w.heap.size + 1, 1, none⟩ = some (.int .i64 bank) := (by simpa using A1.cell 1)
  have k2 : W1.cell? ⟨w.heap.size + 1, 2, none⟩ = some (.slice da dn dc) := (by simpa using A1.cell 2)
  have k3 : W1.cell? ⟨w.heap.size + 1, 3, none⟩ = some (.int .i64 x) := (by simpa using A1.cell 3)
  have k4 : W1.cell? ⟨w.heap.size + 1, 4, none⟩ = some (.int .i64 y) := (by simpa using A1.cell 4)
  have HA0 := hide A0
  have HA1 := hide A1
  have HA2 := hide A2
  have HS := hide hS
  have H6 := hide h6
  have hst : (s.step ⟨4, bank, ⟨da, dn, dc, dl⟩, x, y⟩).1 = s := rfl
  rw [hst]
  obtain ⟨rm, hrm⟩ : ∃ r, s.room bank = r := ⟨_, rfl⟩
  obtain ⟨rf, hrf⟩ : ∃ r, s.ref bank = r := ⟨_, rfl⟩
  have hPr := roomX_any p S s bank W1 (hf.later b1)
  rw [hrm, hrf] at hPr
  have HM : Hid (s.room bank = rm ∧ s.ref bank = rf) := hide ⟨hrm, hrf⟩
  clear hrm hrf hst h hf hap hd hS A0 A1 A2 b1 hz hSw h6
  go_enter Try.func10, Try.ntmps10
  go_wp2_with (first
    | (go_at_call 25; refine hPr.mono ?_; rintro e w2 ⟨rfl, kk, hw2⟩; clear hPr; have bw2 : Below W1.heap.size W1 w2 := (by rw [hw2]; exact below_drewN (Below.refl _ _) _); clear hw2; have U2 : Hid (Buts S W1 w2) := hide (Buts.of_below bw2); have HF2 := hide ((unhide HF1).later bw2); have A0w2 := (unhide U2).arr (unhide HA0) (unhide HN0); have a0 : w2.cell? ⟨w.heap.size, 0, none⟩ = some (.int .i64 s.size) := (by simpa using A0w2.cell 0); have a1 : w2.cell? ⟨w.heap.size, 1, none⟩ = some (.slice fa s.l0.length fc) := (by simpa using A0w2.cell 1); have a2 : w2.cell? ⟨w.heap.size, 2, none⟩ = some (.slice sa s.l1.length sc) := (by simpa using A0w2.cell 2); have a3 : w2.cell? ⟨w.heap.size, 3, none⟩ = some (.slice va ar.length vc) := (by simpa using A0w2.cell 3); have a4 : w2.cell? ⟨w.heap.size, 4, none⟩ = some (.int .i64 cnt) := (by simpa using A0w2.cell 4); have a5 : w2.cell? ⟨w.heap.size, 5, none⟩ = some (.int .i64 s.wr) := (by simpa using A0w2.cell 5); have a6 : w2.cell? ⟨w.heap.size, 6, none⟩ = some (.bool s.down) := (by simpa using A0w2.cell 6); clear A0w2; have A1w2 := (unhide U2).arr (unhide HA1) (unhide HN1); have b0 : w2.cell? ⟨w.heap.size + 1, 0, none⟩ = some (.int .i64 4) := (by simpa using A1w2.cell 0); have b1 : w2.cell? ⟨w.heap.size + 1, 1, none⟩ = some (.int .i64 bank) := (by simpa using A1w2.cell 1); have b2 : w2.cell? ⟨w.heap.size + 1, 2, none⟩ = some (.slice da dn dc) := (by simpa using A1w2.cell 2); have b3 : w2.cell? ⟨w.heap.size + 1, 3, none⟩ = some (.int .i64 x) := (by simpa using A1w2.cell 3); have b4 : w2.cell? ⟨w.heap.size + 1, 4, none⟩ = some (.int .i64 y) := (by simpa using A1w2.cell 4); clear A1w2; have HRV2 := hide ((unhide HH).later bw2); have hRC := rroomX_any fa sa va fc sc vc s ar cnt w2 (unhide HRV2) bank; rw [(unhide HM).1, (unhide HM).2] at hRC; have HZ2 := hide bw2.size; clear bw2)
    | (go_at_call 26; refine hRC.mono ?_; rintro e w3 ⟨rfl, b3⟩; clear hRC; have U3 := hide ((unhide U2).trans (Buts.of_below b3)); have A0w3 := (unhide U3).arr (unhide HA0) (unhide HN0); have f0 : w3.cell? ⟨w.heap.size, 0, none⟩ = some (.int .i64 s.size) := (by simpa using A0w3.cell 0); have f1 : w3.cell? ⟨w.heap.size, 1, none⟩ = some (.slice fa s.l0.length fc) := (by simpa using A0w3.cell 1); have f2 : w3.cell? ⟨w.heap.size, 2, none⟩ = some (.slice sa s.l1.length sc) := (by simpa using A0w3.cell 2); have f3 : w3.cell? ⟨w.heap.size, 3, none⟩ = some (.slice va ar.length vc) := (by simpa using A0w3.cell 3); have f4 : w3.cell? ⟨w.heap.size, 4, none⟩ = some (.int .i64 cnt) := (by simpa using A0w3.cell 4); have f5 : w3.cell? ⟨w.heap.size, 5, none⟩ = some (.int .i64 s.wr) := (by simpa using A0w3.cell 5); have f6 : w3.cell? ⟨w.heap.size, 6, none⟩ = some (.bool s.down) := (by simpa using A0w3.cell 6); clear A0w3; have HA2F := hide ((unhide U3).arr (unhide HA2) (unhide HN2)); have HF3 := hide ((unhide HF2).later b3); have HRV3 := hide ((unhide HRV2).later b3); clear b3)
    | (refine wpList_store_row rfl 31 (.tmp 6) (.tmp 156) rfl (w.heap.size + 2) #[.int .i64 s.size, .slice fa s.l0.length fc, .slice sa s.l1.length sc, .slice va ar.length vc, .int .i64 cnt, .int .i64 s.wr, .bool s.down] rfl rfl 31 _ (unhide HA2F) Try.szF rfl (rv_one _ _ _ _ _ _ _ _ _ _ _ _ _) ?_))
  refine bodyPost_ret (results_row_tmp rfl _ _ (w.heap.size + 2) 31 #[.int .i64 s.size, .slice fa s.l0.length fc, .slice sa s.l1.length sc, .slice va ar.length vc, .int .i64 cnt, .int .i64 s.wr, .bool s.down] (0, 0) _ rfl _ rfl (setRow_heap w3 (w.heap.size + 2) _ #[.int .i64 s.size, .slice fa s.l0.length fc, .slice sa s.l1.length sc, .slice va ar.length vc, .int .i64 cnt, .int .i64 s.wr, .bool s.down] 31 _ (unhide HA2F)) Try.underlying31 rfl Try.szF) rfl ?_
  have bb : Buts (· = w.heap.size + 2) w3 (w3.setRow (w.heap.size + 2) #[.int .i64 s.size, .slice fa s.l0.length fc, .slice sa s.l1.length sc, .slice va ar.length vc, .int .i64 cnt, .int .i64 s.wr, .bool s.down]) := Buts.of_but ((But.refl (w.heap.size + 2) w3).setRow _)
  obtain ⟨S', q1, q2⟩ := both_fin (unhide HSW) (unhide HO) (unhide HZ) (unhide HB1) (unhide U3) (unhide HF3) (fun k hk => .inl hk) ⟨_, _, _, _, _, _, _, _, rfl, (unhide HRV3), (unhide H6), fun k hk => .inl hk⟩ (Below.refl _ _) (bb)
  exact ⟨_, S', by simp, q1, q2⟩
end Go.Proofs.Ytcdmomdajakocaa
