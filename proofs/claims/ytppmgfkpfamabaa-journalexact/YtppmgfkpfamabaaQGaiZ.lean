import Derived.Test.YtppmgfkpfamabaaQGahZ
import Derived.Deep.MidRow
import Derived.Deep.Cut
set_option maxHeartbeats 4000000
set_option maxRecDepth 100000
set_option linter.unusedSimpArgs false
set_option linter.unusedVariables false
namespace Go.Proofs.Ytppmgfkpfamabaa
open Go.RowKit
theorem blk_rangeF {w : World} {g : Nat} {l : List Value} {t : TypeId} (h : Arr w g t l) : w.rangeAt g 0 l := by
  intro j v hv
  rw [cell_of_row w g (0 + j) _ t _ h]
  simpa using hv
theorem rappend_full_0 (fa sa va : Option Addr) (fc sc vc : Nat) (s : FlS) (ar : List (Int × Int)) (cnt : Int) (w : World) (h : RV w (.slice fa s.l0.length fc) (.slice sa s.l1.length sc) (.slice va ar.length vc) s ar cnt) (d : Sl) (hd : d.Ok w) (hr : s.ref 0 = 0) (hf : s.size < s.l0.length + d.n) (hdn : d.n ≤ 140737488351232) :
    Calls Try.prog 36 #[.agg #[.int .i64 s.size, .slice fa s.l0.length fc, .slice sa s.l1.length sc, .slice va ar.length vc, .int .i64 cnt, .int .i64 s.wr, .bool s.down], .int .i64 0, d.v] w fun e w' => e = .returned (.tuple #[.agg #[.int .i64 s.size, .slice fa s.l0.length fc, .slice sa s.l1.length sc, .slice va ar.length vc, .int .i64 cnt, .int .i64 s.wr, .bool s.down], .int .i64 122]) ∧ Below w.heap.size w w' := by
  obtain ⟨W1, hW1⟩ : ∃ W1, (w.alloc (.cells #[.int .i64 s.size, .slice fa s.l0.length fc, .slice sa s.l1.length sc, .slice va ar.length vc, .int .i64 cnt, .int .i64 s.wr, .bool s.down] 28)).alloc (.cells #[.int .i64 0, .slice none 0 0, .slice none 0 0, .slice none 0 0, .int .i64 0, .int .i64 0, .bool false] 28) = W1 := ⟨_, rfl⟩
  obtain ⟨A1, A2, B1, Z1⟩ := two_new w 28 [.int .i64 s.size, .slice fa s.l0.length fc, .slice sa s.l1.length sc, .slice va ar.length vc, .int .i64 cnt, .int .i64 s.wr, .bool s.down] [.int .i64 0, .slice none 0 0, .slice none 0 0, .slice none 0 0, .int .i64 0, .int .i64 0, .bool false]
  rw [hW1] at A1 A2 B1 Z1
  obtain ⟨c0, c1, c2, c3, c4, c5, c6⟩ := cells7 A1
  have HA1 := hide A1
  have HA2 := hide A2
  have HB1 := hide B1
  have HH := hide h
  have hRf := rrefused_any fa sa va fc sc vc s ar cnt W1 (h.later B1) 0
  rw [hr] at hRf
  have HZ1 := hide Z1
  obtain ⟨da, dn, dc, dl⟩ := d
  have hdl : dl.length = dn := hd.len
  have HD := hide hd
  have HDL := hide hdl
  simp only [Sl.v] at *
  have hm0 : s.l0.length ≤ 1048576 := Nat.le_trans h.ok.z0 h.ok.mx
  have hm1 := h.ok.mx
  clear h A1 A2 B1 Z1 hd hdl
  go_enter Try.func36, Try.ntmps36
  go_wp2_with (first
    | (go_at_call 53; refine hRf.mono ?_; rintro e w2 ⟨rfl, b2⟩; clear hRf; have A2b := (unhide HA1).later b2; obtain ⟨d0, d1, d2, d3, d4, d5, d6⟩ := cells7 A2b; have HA12 := hide A2b; have HA22 := hide ((unhide HA2).later b2); have B2 := hide (bel_then (unhide HB1) (unhide HB1).size b2); have H2 := hide (((unhide HH).later (unhide HB1)).later b2); have HZ2 := hide b2.size; clear A2b b2))
  have hsm : (s.l0.length : Int) + (dn : Int) ≤ 9223372036854775807 := by omega
  have hBk := rbank_0 fa sa va fc sc vc s ar cnt w2.drew ((unhide H2).later (below_drewN (Below.refl _ _) 1))
  go_region_held3 (fun w' => w'.cell? ⟨w.heap.size, 0, none⟩ = some (.int .i64 s.size) ∧ w'.cell? ⟨w.heap.size, 1, none⟩ = some (.slice fa s.l0.length fc) ∧ w'.cell? ⟨w.heap.size, 2, none⟩ = some (.slice sa s.l1.length sc) ∧ w'.cell? ⟨w.heap.size, 3, none⟩ = some (.slice va ar.length vc) ∧ w'.cell? ⟨w.heap.size, 4, none⟩ = some (.int .i64 cnt) ∧ w'.cell? ⟨w.heap.size, 5, none⟩ = some (.int .i64 s.wr) ∧ w'.cell? ⟨w.heap.size, 6, none⟩ = some (.bool s.down)) (first | exact ⟨d0, d1, d2, d3, d4, d5, d6⟩ | exact ⟨f0, f1, f2, f3, f4, f5, f6⟩ | go_keep)
    (first
      | (go_at_call 54; refine hBk.mono ?_; rintro e w3 ⟨rfl, b3'⟩; have b3 := below_undrewN (k := 1) b3'; have A3 := (unhide HA12).later b3; obtain ⟨f0, f1, f2, f3, f4, f5, f6⟩ := cells7 A3; have HA13 := hide A3; have HA23 := hide ((unhide HA22).later b3); have B3 := hide (bel_then (unhide B2) (bel_sz (unhide B2) (Nat.le_refl _)) b3); have H3 := hide ((unhide H2).later b3); have HZ3 := hide b3.size; clear A3 b3 b3'))
  clear hBk
  have hwp : IntKind.i64.wrap ((s.l0.length : Int) + (dn : Int)) = (s.l0.length : Int) + (dn : Int) := by rw [IntKind.wrap_i64]; omega
  have hfz : (s.size : Int) < (s.l0.length : Int) + (dn : Int) := by omega
  go_wp2_with (first
    | (refine wpList_store_row rfl 28 (.tmp 6) (.tmp 30) rfl (w.heap.size + 1) #[.int .i64 s.size, .slice fa s.l0.length fc, .slice sa s.l1.length sc, .slice va ar.length vc, .int .i64 cnt, .int .i64 s.wr, .bool s.down] rfl rfl 28 _ (unhide HA23) Try.szF rfl (rv_one _ _ _ _ _ _ _ _ _ _ _ _ _) ?_))
  refine bodyPost_ret (results_row_tmp rfl _ _ (w.heap.size + 1) 28 #[.int .i64 s.size, .slice fa s.l0.length fc, .slice sa s.l1.length sc, .slice va ar.length vc, .int .i64 cnt, .int .i64 s.wr, .bool s.down] (0, 0) _ rfl _ rfl (setRow_heap w3 (w.heap.size + 1) _ #[.int .i64 s.size, .slice fa s.l0.length fc, .slice sa s.l1.length sc, .slice va ar.length vc, .int .i64 cnt, .int .i64 s.wr, .bool s.down] 28 _ (unhide HA23)) Try.underlying28 rfl Try.szF) rfl ?_
  have bb : Buts (· = w.heap.size + 1) w3 (w3.setRow (w.heap.size + 1) #[.int .i64 s.size, .slice fa s.l0.length fc, .slice sa s.l1.length sc, .slice va ar.length vc, .int .i64 cnt, .int .i64 s.wr, .bool s.down]) := Buts.of_but ((But.refl (w.heap.size + 1) w3).setRow _)
  exact ⟨rfl, (unhide B3).trans (bb.below (by have := unhide HZ1; have := unhide HZ2; have := unhide HZ3; omega) (fun k e9 => by omega))⟩
theorem rappend_ok_0 (fa sa va : Option Addr) (fc sc vc : Nat) (s : FlS) (ar : List (Int × Int)) (cnt : Int) (w : World) (h : RV w (.slice fa s.l0.length fc) (.slice sa s.l1.length sc) (.slice va ar.length vc) s ar cnt) (d : Sl) (hd : d.Ok w) (hr : s.ref 0 = 0) (hf : s.l0.length + d.n ≤ s.size) (va2 : Option Addr) (n2 vc2 : Nat) (cnt2 wr2 : Int) (dn2 : Bool)
    (hSt : ∀ w1, Below w.heap.size w w1 → Calls Try.prog 58 #[.agg #[.int .i64 s.size, .slice fa s.l0.length fc, .slice sa s.l1.length sc, .slice va ar.length vc, .int .i64 cnt, .int .i64 s.wr, .bool s.down]] w1 fun e w' => e = .returned (.tuple #[.agg #[.int .i64 s.size, .slice fa s.l0.length fc, .slice sa s.l1.length sc, .slice va2 n2 vc2, .int .i64 cnt2, .int .i64 wr2, .bool dn2], .bool false, .int .i64 0]) ∧ Below w1.heap.size w1 w') :
    Calls Try.prog 36 #[.agg #[.int .i64 s.size, .slice fa s.l0.length fc, .slice sa s.l1.length sc, .slice va ar.length vc, .int .i64 cnt, .int .i64 s.wr, .bool s.down], .int .i64 0, d.v] w fun e w' => ∃ na nn nc, e = .returned (.tuple #[.agg #[.int .i64 s.size, .slice na nn nc, .slice sa s.l1.length sc, .slice va2 n2 vc2, .int .i64 cnt2, .int .i64 wr2, .bool dn2], .int .i64 0]) ∧ OwB w' (.slice na nn nc) (s.l0 ++ d.l) ∧ (∀ k, (Value.slice na nn nc).ownBlock = some k → w.heap.size ≤ k) ∧ Below w.heap.size w w' := by
  have hdn : d.n ≤ 140737488351232 := by have := h.ok.mx; omega
  have HSt := hide hSt
  clear hSt
  obtain ⟨W1, hW1⟩ : ∃ W1, (w.alloc (.cells #[.int .i64 s.size, .slice fa s.l0.length fc, .slice sa s.l1.length sc, .slice va ar.length vc, .int .i64 cnt, .int .i64 s.wr, .bool s.down] 28)).alloc (.cells #[.int .i64 0, .slice none 0 0, .slice none 0 0, .slice none 0 0, .int .i64 0, .int .i64 0, .bool false] 28) = W1 := ⟨_, rfl⟩
  obtain ⟨A1, A2, B1, Z1⟩ := two_new w 28 [.int .i64 s.size, .slice fa s.l0.length fc, .slice sa s.l1.length sc, .slice va ar.length vc, .int .i64 cnt, .int .i64 s.wr, .bool s.down] [.int .i64 0, .slice none 0 0, .slice none 0 0, .slice none 0 0, .int .i64 0, .int .i64 0, .bool false]
  rw [hW1] at A1 A2 B1 Z1
  obtain ⟨c0, c1, c2, c3, c4, c5, c6⟩ := cells7 A1
  have HA1 := hide A1
  have HA2 := hide A2
  have HB1 := hide B1
  have HH := hide h
  have hRf := rrefused_any fa sa va fc sc vc s ar cnt W1 (h.later B1) 0
  rw [hr] at hRf
  have HZ1 := hide Z1
  obtain ⟨da, dn, dc, dl⟩ := d
  have hdl : dl.length = dn := hd.len
  have HD := hide hd
  have HDL := hide hdl
  simp only [Sl.v] at *
  have hm0 : s.l0.length ≤ 1048576 := Nat.le_trans h.ok.z0 h.ok.mx
  have hm1 := h.ok.mx
  clear h A1 A2 B1 Z1 hd hdl
  go_enter Try.func36, Try.ntmps36
  go_wp2_with (first
    | (go_at_call 53; refine hRf.mono ?_; rintro e w2 ⟨rfl, b2⟩; clear hRf; have A2b := (unhide HA1).later b2; obtain ⟨d0, d1, d2, d3, d4, d5, d6⟩ := cells7 A2b; have HA12 := hide A2b; have HA22 := hide ((unhide HA2).later b2); have B2 := hide (bel_then (unhide HB1) (unhide HB1).size b2); have H2 := hide (((unhide HH).later (unhide HB1)).later b2); have HZ2 := hide b2.size; clear A2b b2))
  have hsm : (s.l0.length : Int) + (dn : Int) ≤ 9223372036854775807 := by omega
  have hBk := rbank_0 fa sa va fc sc vc s ar cnt w2.drew ((unhide H2).later (below_drewN (Below.refl _ _) 1))
  go_region_held3 (fun w' => w'.cell? ⟨w.heap.size, 0, none⟩ = some (.int .i64 s.size) ∧ w'.cell? ⟨w.heap.size, 1, none⟩ = some (.slice fa s.l0.length fc) ∧ w'.cell? ⟨w.heap.size, 2, none⟩ = some (.slice sa s.l1.length sc) ∧ w'.cell? ⟨w.heap.size, 3, none⟩ = some (.slice va ar.length vc) ∧ w'.cell? ⟨w.heap.size, 4, none⟩ = some (.int .i64 cnt) ∧ w'.cell? ⟨w.heap.size, 5, none⟩ = some (.int .i64 s.wr) ∧ w'.cell? ⟨w.heap.size, 6, none⟩ = some (.bool s.down)) (first | exact ⟨d0, d1, d2, d3, d4, d5, d6⟩ | exact ⟨f0, f1, f2, f3, f4, f5, f6⟩ | go_keep)
    (first
      | (go_at_call 54; refine hBk.mono ?_; rintro e w3 ⟨rfl, b3'⟩; have b3 := below_undrewN (k := 1) b3'; have A3 := (unhide HA12).later b3; obtain ⟨f0, f1, f2, f3, f4, f5, f6⟩ := cells7 A3; have HA13 := hide A3; have HA23 := hide ((unhide HA22).later b3); have B3 := hide (bel_then (unhide B2) (bel_sz (unhide B2) (Nat.le_refl _)) b3); have H3 := hide ((unhide H2).later b3); have HZ3 := hide b3.size; clear A3 b3 b3'))
  clear hBk
  have hwp : IntKind.i64.wrap ((s.l0.length : Int) + (dn : Int)) = (s.l0.length : Int) + (dn : Int) := by rw [IntKind.wrap_i64]; omega
  have hfz : ¬ (s.size : Int) < (s.l0.length : Int) + (dn : Int) := by omega
  have hSt3 := unhide HSt w3 (unhide B3)
  go_wp2_with (first
    | (go_at_call 58; refine hSt3.mono ?_; rintro e w4 ⟨rfl, b4⟩; clear hSt3; obtain ⟨W4, hW4⟩ : ∃ W4, w4.alloc (.cells #[.int .i64 s.size, .slice fa s.l0.length fc, .slice sa s.l1.length sc, .slice va2 n2 vc2, .int .i64 cnt2, .int .i64 wr2, .bool dn2] 28) = W4 := ⟨_, rfl⟩; have bW4 : Below w4.heap.size w4 W4 := (by rw [← hW4]; exact below_one w4 _); have G4 : Arr W4 w4.heap.size 28 [.int .i64 s.size, .slice fa s.l0.length fc, .slice sa s.l1.length sc, .slice va2 n2 vc2, .int .i64 cnt2, .int .i64 wr2, .bool dn2] := (by rw [← hW4]; exact Arr.new w4 _ _); have HG4 := hide G4; have hbb4 := bel_then b4 b4.size bW4; have A4 := (unhide HA13).later hbb4; obtain ⟨g0, g1, g2, g3, g4, g5, g6⟩ := cells7 A4; obtain ⟨h0, h1, h2, h3, h4, h5, h6⟩ := cells7 G4; have HA14 := hide A4; have HA24 := hide ((unhide HA23).later hbb4); have B4 := hide (bel_then (unhide B3) (bel_sz (unhide B3) (Nat.le_refl _)) hbb4); have H4 := hide ((unhide H3).later hbb4); have HZ4 := hide hbb4.size; have HZ44 := hide bW4.size; have HZN : Hid (w.heap.size + 2 ≤ w4.heap.size) := hide (by have := unhide HZ1; have := unhide HZ2; have := unhide HZ3; have := b4.size; omega); clear A4 G4 b4 bW4 hbb4))
  have hBk := rbank_0 fa sa va fc sc vc s ar cnt W4.drew ((unhide H4).later (below_drewN (Below.refl _ _) 1))
  go_region_held3 (fun w' => w'.cell? ⟨w.heap.size, 0, none⟩ = some (.int .i64 s.size) ∧ w'.cell? ⟨w.heap.size, 1, none⟩ = some (.slice fa s.l0.length fc) ∧ w'.cell? ⟨w.heap.size, 2, none⟩ = some (.slice sa s.l1.length sc) ∧ w'.cell? ⟨w.heap.size, 3, none⟩ = some (.slice va ar.length vc) ∧ w'.cell? ⟨w.heap.size, 4, none⟩ = some (.int .i64 cnt) ∧ w'.cell? ⟨w.heap.size, 5, none⟩ = some (.int .i64 s.wr) ∧ w'.cell? ⟨w.heap.size, 6, none⟩ = some (.bool s.down)) (first | exact ⟨g0, g1, g2, g3, g4, g5, g6⟩ | exact ⟨p0, p1, p2, p3, p4, p5, p6⟩ | exact ⟨q0, q1, q2, q3, q4, q5, q6⟩ | go_keep)
    (first
      | (go_at_call 54; refine hBk.mono ?_; rintro e w5 ⟨rfl, b5'⟩; have b5 := below_undrewN (k := 1) b5'; have A5 := (unhide HA14).later b5; obtain ⟨p0, p1, p2, p3, p4, p5, p6⟩ := cells7 A5; have HA15 := hide A5; have HA25 := hide ((unhide HA24).later b5); have HG5 := hide ((unhide HG4).later b5); have B5 := hide (bel_then (unhide B4) (bel_sz (unhide B4) (Nat.le_refl _)) b5); have H5 := hide ((unhide H4).later b5); have HZ5 := hide b5.size; have HUp : Hid (Calls Try.prog 12 #[.slice fa s.l0.length fc, .int .i64 s.size] w5 (BPost s.l0 w5)) := hide (by have := upTo_any ⟨fa, s.l0.length, fc, s.l0⟩ s.size w5 ((unhide H5).f.ok) hm1; simp only [Sl.v] at this; rw [List.take_of_length_le (unhide HH).ok.z0] at this; exact this); clear A5 b5 b5')
      | (go_at_call 12; refine (unhide HUp).mono ?_; rintro e w6 ⟨vo, rfl, oo, ao, b6⟩; have A6 := (unhide HA15).later b6; obtain ⟨q0, q1, q2, q3, q4, q5, q6⟩ := cells7 A6; have HA26 := hide ((unhide HA25).later b6); have G6 := (unhide HG5).later b6; obtain ⟨r0, r1, r2, r3, r4, r5, r6⟩ := cells7 G6; have HG6 := hide G6; have B6 := hide (bel_then (unhide B5) (bel_sz (unhide B5) (Nat.le_refl _)) b6); have HZ6 := hide b6.size; obtain ⟨xo, yo, hvo⟩ := own_parts oo.1; subst hvo; have HOo := hide oo; have HAo := hide ao; have HD6 := hide ((unhide HD).later (unhide B6)); clear A6 G6 b6 oo ao))
  clear hBk
  obtain ⟨i0, hii, hz0, hz1, hz2⟩ := info_parts Try.infoB
  have HOd : Hid (w6.drew.ownsRow 0 5 1 (.slice xo s.l0.length yo) s.l0.length (U8 s.l0)) := hide ((unhide HOo).later (below_drewN (Below.refl _ _) 1)).1
  have HDd : Hid (Sl.Ok w6.drew ⟨da, dn, dc, dl⟩) := hide (ok_drewN (unhide HD6) 1)
  have hR6 : w6.drew.rangeAt w4.heap.size 0 [.int .i64 s.size, .slice fa s.l0.length fc, .slice sa s.l1.length sc, .slice va2 n2 vc2, .int .i64 cnt2, .int .i64 wr2, .bool dn2] := blk_rangeF ((unhide HG6).later (below_drewN (Below.refl _ _) 1))
  go_wp2_with fail
  refine wp_region_held_drew (S := fun w' => w'.rangeAt w4.heap.size 0 [.int .i64 s.size, .slice fa s.l0.length fc, .slice sa s.l1.length sc, .slice va2 n2 vc2, .int .i64 cnt2, .int .i64 wr2, .bool dn2]) (by kernel_rfl) hR6 (fun hHeld => ?_)
  refine wpAnyH_take (i := 0) (v := .agg #[.int .i64 s.size, .slice fa s.l0.length fc, .slice sa s.l1.length sc, .slice va2 n2 vc2, .int .i64 cnt2, .int .i64 wr2, .bool dn2]) rfl (by kernel_rfl) (by kernel_rfl) (by kernel_rfl) (fun _ _ _ h => h) (yieldsIf_load_mid (by rfl) _ _ rfl _ _ rfl _ _ (fun _ h => h) Try.underlying28 rfl (by simpa using Try.szF)) hHeld ?_
  simp [Act.put]
  refine wpAnyH_take (i := 1) (v := .int .i64 0) rfl (by kernel_rfl) (by kernel_rfl) (by kernel_rfl) (fun _ _ _ h => h) (Or.inl ⟨by rfl, fun w hSw => by go_simp⟩) hHeld ?_
  simp [Act.put]
  refine wpAnyH_take (i := 2) (v := .slice xo s.l0.length yo) rfl (by kernel_rfl) (by kernel_rfl) (by kernel_rfl) (fun _ _ _ h => h) (Or.inl ⟨by rfl, fun w hSw => by go_simp⟩) hHeld ?_
  simp [Act.put]
  refine wpAnyH_take (i := 3) (v := .slice da dn dc) rfl (by kernel_rfl) (by kernel_rfl) (by kernel_rfl) (fun _ _ _ h => h) (Or.inl ⟨by rfl, fun w hSw => by go_simp⟩) hHeld ?_
  simp [Act.put]
  refine wpAnyH_ready (rs := [4]) (by kernel_rfl) (by simp) ?_
  refine AllReadyH.cons rfl (fun K hK => ?_) AllReadyH.nil
  refine step_append_slat rfl (.tmp 54) (.tmp 55) 22 rfl 5 i0 (.int .u8 0) Try.underlying22 hii hz0 hz1 hz2 rfl (.slice xo s.l0.length yo) s.l0.length (U8 s.l0) (by simp [Act.eval]) (unhide HOd) ⟨da, dn, dc, dl⟩ (by simp [Act.eval]) (unhide HDd) (by simp only; omega) ?_
  intro v' w7 hown' hgrow hat
  obtain ⟨na, nc, hv'⟩ := own_parts (unhide hown')
  subst hv'
  have bu7 : Buts (fun k => (Value.slice xo s.l0.length yo).ownBlock = some k) w6 w7 := ⟨(unhide hgrow).os, (unhide hgrow).tape, (unhide hgrow).output, (unhide hgrow).size, fun k hk hs => (unhide hgrow).block k hk (fun e => hs e.symm)⟩
  have G7 := bu7.arr (unhide HG6) (fun e => own_arr_ne (unhide HOo).1 (unhide HG6) (by decide) e)
  have A27 := bu7.arr (unhide HA26) (fun e => own_arr_ne (unhide HOo).1 (unhide HA26) (by decide) e)
  have B7 := (unhide B6).trans (bu7.below (bel_sz (unhide B6) (Nat.le_refl _)) (fun k e => by have := unhide HAo k e; have := bel_sz (unhide B5) (Nat.le_refl _); omega))
  have z7 := bu7.size
  have hR7 : w7.rangeAt w4.heap.size 0 [.int .i64 s.size, .slice fa s.l0.length fc, .slice sa s.l1.length sc, .slice va2 n2 vc2, .int .i64 cnt2, .int .i64 wr2, .bool dn2] := blk_rangeF G7
  simp [Act.put]
  refine hK.out _ _ hR7 (fun hHeld => ?_)
  clear hK K
  refine wpAnyH_ready (rs := [5]) (by kernel_rfl) (by simp) ?_
  refine AllReadyH.cons rfl (fun K hK => ?_) AllReadyH.nil
  have hWz := rwith_0 fa sa va2 s.l0.length fc s.l1.length sc n2 vc2 s.size cnt2 wr2 dn2 w7 na (s.l0.length + dn) nc
  go_simp
  refine hWz.mono ?_
  rintro e w8 ⟨rfl, b8⟩
  have G8 := G7.later b8
  have A28 := A27.later b8
  have B8 := bel_then B7 (bel_sz B7 (Nat.le_refl _)) b8
  have z8 := b8.size
  refine hK.out _ _ (blk_rangeF G8) (fun hHeld => ?_)
  clear hK K
  refine wpAnyH_ready (rs := [6]) (by kernel_rfl) (by simp) ?_
  refine AllReadyH.cons rfl (fun K hK => ?_) AllReadyH.nil
  refine step_store_row rfl 28 (.tmp 6) (.tmp 57) rfl (w.heap.size + 1) #[.int .i64 s.size, .slice na (s.l0.length + dn) nc, .slice sa s.l1.length sc, .slice va2 n2 vc2, .int .i64 cnt2, .int .i64 wr2, .bool dn2] rfl rfl 28 _ A28 Try.szF rfl (rv_one _ _ _ _ _ _ _ _ _ _ _ _ _) ?_
  simp [Act.put]
  have bb9 : Buts (· = w.heap.size + 1) w8 (w8.setRow (w.heap.size + 1) #[.int .i64 s.size, .slice na (s.l0.length + dn) nc, .slice sa s.l1.length sc, .slice va2 n2 vc2, .int .i64 cnt2, .int .i64 wr2, .bool dn2]) := Buts.of_but ((But.refl (w.heap.size + 1) w8).setRow _)
  have G9 := bb9.arr G8 (fun e => by have := unhide HZN; omega)
  refine hK.out _ _ (blk_rangeF G9) (fun hHeld => ?_)
  clear hK K
  refine wpAnyH_take (i := 7) (v := .int .i64 0) rfl (by kernel_rfl) (by kernel_rfl) (by kernel_rfl) (fun _ _ _ h => h) (Or.inl ⟨by rfl, fun w hSw => by go_simp⟩) hHeld ?_
  simp [Act.put]
  refine wpAnyH_done (by kernel_rfl) ?_ _
  go_wp2
  refine bodyPost_ret (results_row_tmp rfl _ _ (w.heap.size + 1) 28 #[.int .i64 s.size, .slice na (s.l0.length + dn) nc, .slice sa s.l1.length sc, .slice va2 n2 vc2, .int .i64 cnt2, .int .i64 wr2, .bool dn2] (0, 0) _ rfl _ rfl (setRow_heap w8 (w.heap.size + 1) _ #[.int .i64 s.size, .slice na (s.l0.length + dn) nc, .slice sa s.l1.length sc, .slice va2 n2 vc2, .int .i64 cnt2, .int .i64 wr2, .bool dn2] 28 _ A28) Try.underlying28 rfl Try.szF) rfl ?_
  have ho := unhide hown'
  have hOw : OwB w7 (.slice na (s.l0.length + dn) nc) (s.l0 ++ dl) := ⟨by rw [List.length_append, unhide HDL, U8_append]; exact ho, (unhide HOo).2.append (unhide HD).isB⟩
  have hnew : ∀ k, (Value.slice na (s.l0.length + dn) nc).ownBlock = some k → w5.heap.size ≤ k := by
    intro k hk
    rcases unhide hat with ha | ha
    · rw [ha] at hk; exact unhide HAo k hk
    · rw [ha] at hk
      simp only [Option.some.injEq] at hk
      have h9 : w6.drew.heap.size = w6.heap.size := rfl
      have := unhide HZ6
      omega
  have hz5 := bel_sz (unhide B5) (Nat.le_refl _)
  have hN5 : w.heap.size + 2 ≤ w5.heap.size := by have := unhide HZN; have := unhide HZ44; have := unhide HZ5; omega
  refine ⟨na, s.l0.length + dn, nc, rfl, (hOw.later b8).keep bb9 (fun k hk e => by have := hnew k hk; omega), fun k hk => by have := hnew k hk; omega, B8.trans (bb9.below (bel_sz B8 (Nat.le_refl _)) (fun k e => by omega))⟩
set_option maxHeartbeats 2000000
theorem rrestart_up (fa sa va : Option Addr) (fn fc sn sc vn vc : Nat) (k1 k2 k3 : Int) (w : World) :
    Calls Try.prog 21 #[.agg #[.int .i64 k1, .slice fa fn fc, .slice sa sn sc, .slice va vn vc, .int .i64 k2, .int .i64 k3, .bool false]] w fun e w' => e = .returned (.tuple #[.agg #[.int .i64 k1, .slice fa fn fc, .slice sa sn sc, .slice va vn vc, .int .i64 k2, .int .i64 k3, .bool false], .int .i64 123]) ∧ Below w.heap.size w w' := by
  obtain ⟨W1, hW1⟩ : ∃ W1, (w.alloc (.cells #[.int .i64 k1, .slice fa fn fc, .slice sa sn sc, .slice va vn vc, .int .i64 k2, .int .i64 k3, .bool false] 28)).alloc (.cells #[.int .i64 0, .slice none 0 0, .slice none 0 0, .slice none 0 0, .int .i64 0, .int .i64 0, .bool false] 28) = W1 := ⟨_, rfl⟩
  obtain ⟨A1, A2, B1, Z1⟩ := two_new w 28 [.int .i64 k1, .slice fa fn fc, .slice sa sn sc, .slice va vn vc, .int .i64 k2, .int .i64 k3, .bool false] [.int .i64 0, .slice none 0 0, .slice none 0 0, .slice none 0 0, .int .i64 0, .int .i64 0, .bool false]
  rw [hW1] at A1 A2 B1 Z1
  have c10 : W1.cell? ⟨w.heap.size, 0, none⟩ = some (.int .i64 k1) := by simpa using A1.cell 0
  have c11 : W1.cell? ⟨w.heap.size, 1, none⟩ = some (.slice fa fn fc) := by simpa using A1.cell 1
  have c12 : W1.cell? ⟨w.heap.size, 2, none⟩ = some (.slice sa sn sc) := by simpa using A1.cell 2
  have c13 : W1.cell? ⟨w.heap.size, 3, none⟩ = some (.slice va vn vc) := by simpa using A1.cell 3
  have c14 : W1.cell? ⟨w.heap.size, 4, none⟩ = some (.int .i64 k2) := by simpa using A1.cell 4
  have c15 : W1.cell? ⟨w.heap.size, 5, none⟩ = some (.int .i64 k3) := by simpa using A1.cell 5
  have c16 : W1.cell? ⟨w.heap.size, 6, none⟩ = some (.bool false) := by simpa using A1.cell 6
  have HA2 := hide A2
  have HB2 := hide B1
  have HZ2 : Hid (w.heap.size + 2 ≤ W1.heap.size) := hide (by omega)
  clear A1 A2 B1 Z1
  go_enter Try.func21, Try.ntmps21
  go_wp2_with (first
    | (refine wpList_store_row rfl 28 (.tmp 2) (.tmp 7) rfl (w.heap.size + 1) #[.int .i64 k1, .slice fa fn fc, .slice sa sn sc, .slice va vn vc, .int .i64 k2, .int .i64 k3, .bool false] rfl rfl 28 _ (unhide HA2) Try.szF rfl (rv_one _ _ _ _ _ _ _ _ _ _ _ _ _) ?_))
  refine bodyPost_ret (results_row_tmp rfl _ _ (w.heap.size + 1) 28 #[.int .i64 k1, .slice fa fn fc, .slice sa sn sc, .slice va vn vc, .int .i64 k2, .int .i64 k3, .bool false] (0, 0) _ rfl _ rfl (setRow_heap W1 (w.heap.size + 1) _ #[.int .i64 k1, .slice fa fn fc, .slice sa sn sc, .slice va vn vc, .int .i64 k2, .int .i64 k3, .bool false] 28 _ (unhide HA2)) Try.underlying28 rfl Try.szF) rfl ?_
  have bb : Buts (· = w.heap.size + 1) W1 (W1.setRow (w.heap.size + 1) #[.int .i64 k1, .slice fa fn fc, .slice sa sn sc, .slice va vn vc, .int .i64 k2, .int .i64 k3, .bool false]) := Buts.of_but ((But.refl (w.heap.size + 1) W1).setRow _)
  exact ⟨rfl, (unhide HB2).trans (bb.below (by have := unhide HZ2; omega) (fun k e9 => by omega))⟩
theorem rrestart_ok (fa sa va : Option Addr) (fn fc sn sc vn vc : Nat) (k1 k2 k3 : Int) (w : World) :
    Calls Try.prog 21 #[.agg #[.int .i64 k1, .slice fa fn fc, .slice sa sn sc, .slice va vn vc, .int .i64 k2, .int .i64 k3, .bool true]] w fun e w' => e = .returned (.tuple #[.agg #[.int .i64 k1, .slice fa fn fc, .slice sa sn sc, .slice va vn vc, .int .i64 k2, .int .i64 k3, .bool false], .int .i64 0]) ∧ Below w.heap.size w w' := by
  obtain ⟨W1, hW1⟩ : ∃ W1, (w.alloc (.cells #[.int .i64 k1, .slice fa fn fc, .slice sa sn sc, .slice va vn vc, .int .i64 k2, .int .i64 k3, .bool true] 28)).alloc (.cells #[.int .i64 0, .slice none 0 0, .slice none 0 0, .slice none 0 0, .int .i64 0, .int .i64 0, .bool false] 28) = W1 := ⟨_, rfl⟩
  obtain ⟨A1, A2, B1, Z1⟩ := two_new w 28 [.int .i64 k1, .slice fa fn fc, .slice sa sn sc, .slice va vn vc, .int .i64 k2, .int .i64 k3, .bool true] [.int .i64 0, .slice none 0 0, .slice none 0 0, .slice none 0 0, .int .i64 0, .int .i64 0, .bool false]
  rw [hW1] at A1 A2 B1 Z1
  have c10 : W1.cell? ⟨w.heap.size, 0, none⟩ = some (.int .i64 k1) := by simpa using A1.cell 0
  have c11 : W1.cell? ⟨w.heap.size, 1, none⟩ = some (.slice fa fn fc) := by simpa using A1.cell 1
  have c12 : W1.cell? ⟨w.heap.size, 2, none⟩ = some (.slice sa sn sc) := by simpa using A1.cell 2
  have c13 : W1.cell? ⟨w.heap.size, 3, none⟩ = some (.slice va vn vc) := by simpa using A1.cell 3
  have c14 : W1.cell? ⟨w.heap.size, 4, none⟩ = some (.int .i64 k2) := by simpa using A1.cell 4
  have c15 : W1.cell? ⟨w.heap.size, 5, none⟩ = some (.int .i64 k3) := by simpa using A1.cell 5
  have c16 : W1.cell? ⟨w.heap.size, 6, none⟩ = some (.bool true) := by simpa using A1.cell 6
  obtain ⟨W2, hW2⟩ : ∃ W2, W1.setCell ⟨w.heap.size, 6, none⟩ (.bool false) = W2 := ⟨_, rfl⟩
  have A1p : Arr W2 w.heap.size 28 [.int .i64 k1, .slice fa fn fc, .slice sa sn sc, .slice va vn vc, .int .i64 k2, .int .i64 k3, .bool false] := by rw [← hW2]; exact A1.set 6 _
  have bb2 : Buts (· = w.heap.size) W1 W2 := by rw [← hW2]; exact Buts.of_but ((But.refl _ W1).setCell _ _)
  have A2p : Arr W2 (w.heap.size + 1) 28 [.int .i64 0, .slice none 0 0, .slice none 0 0, .slice none 0 0, .int .i64 0, .int .i64 0, .bool false] := bb2.arr A2 (by omega)
  have B2 : Below w.heap.size w W2 := B1.trans (bb2.below (by first | omega | (have := bb2.size; omega)) (fun k e => by omega))
  have f1 := A1.frozen 6
  have c20 : W2.cell? ⟨w.heap.size, 0, none⟩ = some (.int .i64 k1) := by simpa using A1p.cell 0
  have c21 : W2.cell? ⟨w.heap.size, 1, none⟩ = some (.slice fa fn fc) := by simpa using A1p.cell 1
  have c22 : W2.cell? ⟨w.heap.size, 2, none⟩ = some (.slice sa sn sc) := by simpa using A1p.cell 2
  have c23 : W2.cell? ⟨w.heap.size, 3, none⟩ = some (.slice va vn vc) := by simpa using A1p.cell 3
  have c24 : W2.cell? ⟨w.heap.size, 4, none⟩ = some (.int .i64 k2) := by simpa using A1p.cell 4
  have c25 : W2.cell? ⟨w.heap.size, 5, none⟩ = some (.int .i64 k3) := by simpa using A1p.cell 5
  have c26 : W2.cell? ⟨w.heap.size, 6, none⟩ = some (.bool false) := by simpa using A1p.cell 6
  have HA2 := hide A2p
  have HB2 := hide B2
  have HZ2 : Hid (w.heap.size + 2 ≤ W2.heap.size) := hide (by have := bb2.size; omega)
  clear A1 A1p A2 A2p B1 B2 bb2 Z1
  go_enter Try.func21, Try.ntmps21
  go_wp2_with (first
    | (refine wpList_store_row rfl 28 (.tmp 2) (.tmp 9) rfl (w.heap.size + 1) #[.int .i64 k1, .slice fa fn fc, .slice sa sn sc, .slice va vn vc, .int .i64 k2, .int .i64 k3, .bool false] rfl rfl 28 _ (unhide HA2) Try.szF rfl (rv_one _ _ _ _ _ _ _ _ _ _ _ _ _) ?_))
  refine bodyPost_ret (results_row_tmp rfl _ _ (w.heap.size + 1) 28 #[.int .i64 k1, .slice fa fn fc, .slice sa sn sc, .slice va vn vc, .int .i64 k2, .int .i64 k3, .bool false] (0, 0) _ rfl _ rfl (setRow_heap W2 (w.heap.size + 1) _ #[.int .i64 k1, .slice fa fn fc, .slice sa sn sc, .slice va vn vc, .int .i64 k2, .int .i64 k3, .bool false] 28 _ (unhide HA2)) Try.underlying28 rfl Try.szF) rfl ?_
  have bb : Buts (· = w.heap.size + 1) W2 (W2.setRow (w.heap.size + 1) #[.int .i64 k1, .slice fa fn fc, .slice sa sn sc, .slice va vn vc, .int .i64 k2, .int .i64 k3, .bool false]) := Buts.of_but ((But.refl (w.heap.size + 1) W2).setRow _)
  exact ⟨rfl, (unhide HB2).trans (bb.below (by have := unhide HZ2; omega) (fun k e9 => by omega))⟩
end Go.Proofs.Ytppmgfkpfamabaa
