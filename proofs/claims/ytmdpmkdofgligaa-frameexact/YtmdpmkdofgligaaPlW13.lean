import Derived.Test.YtmdpmkdofgligaaDcW13
import Derived.Deep.Cut
set_option linter.unusedSimpArgs false
set_option linter.unusedVariables false
namespace Go.Proofs.Ytmdpmkdofgligaa
open Go.RowKit

theorem op_cells {W : World} {b3 : Nat} {v0 v1 v2 v3 v4 : Value} (h : Arr W b3 31 [v0, v1, v2, v3, v4]) : W.cell? ⟨b3, 0, none⟩ = some v0 ∧ W.cell? ⟨b3, 1, none⟩ = some v1 ∧ W.cell? ⟨b3, 2, none⟩ = some v2 ∧ W.cell? ⟨b3, 3, none⟩ = some v3 ∧ W.cell? ⟨b3, 4, none⟩ = some v4 :=
  ⟨by rw [h.cell]; rfl, by rw [h.cell]; rfl, by rw [h.cell]; rfl, by rw [h.cell]; rfl, by rw [h.cell]; rfl⟩
theorem room_len (l : List Int) : (l ++ marks2).length = l.length + 70 := by rw [List.length_append, marks2_length]
theorem turnTo_isB {l : List Int} (h : IsB l) (j : Nat) : IsB (turnTo l j) := IsB.app (xorC_isB 5 _) (h.drop j)
theorem PlS.box {w : World} {gS : Nat} {lv wv : Value} {wq : World} {X : Nat → Prop} {b3 : Nat} {o5 : List Value} {gf cf : Nat} {FL : List Int} {go co : Nat} {OL : List Int} {M : Nat} {W W' : World} (h : PlS w gS lv wv wq X b3 o5 gf cf FL go co OL M W) {g : Nat} {l : List Value} (hA : Arr W g 39 l) (hX : X g) (hg : wq.heap.size ≤ g) (hw : w.heap.size ≤ wq.heap.size) (hb : But g W W') : PlS w gS lv wv wq X b3 o5 gf cf FL go co OL M W' :=
  h.but hb hX hg hw hA (by decide) (fun e => arr_ne_arr hA h.o (by decide) e) (rw_but h.f hb (own_typS h.f.1 hA (by decide))) (rw_but h.v hb (own_typS h.v.1 hA (by decide)))
set_option maxHeartbeats 8000000 in
set_option maxRecDepth 100000 in
theorem plays_any {w : World} {gS N : Nat} {P Q : Nat → Sl} {lv wv : Value} {wq : World} (hS : Shf w gS N P Q lv wv wq) (b p : Sl) (hb : b.Ok w) (hp : p.Ok w) (hbn : b.n ≤ 65536) (hpn : p.n ≤ 65536) (z k le : Int) (hk : 0 ≤ k ∧ k ≤ 255) (hle : -9223372036854775808 ≤ le ∧ le ≤ 9223372036854775807) (hN : N ≤ 2900000000000) :
    Calls Try.prog 5 #[.pointer (some ⟨gS, 0, none⟩), .agg #[b.v, .int .i64 z, .int .u8 k, p.v, .int .i64 le]] wq fun e W' => e = .returned (.bool true) ∧ ∃ M, ShM w gS lv wv wq (fun _ => False) (fun _ => False) M W' ∧ M ≤ N + 300000 := by
  obtain ⟨ba, n, bc, bl⟩ := b
  obtain ⟨pa, m, pc, pl⟩ := p
  have hbl : bl.length = n := hb.len
  have hpl : pl.length = m := hp.len
  have hbn' : n ≤ 65536 := hbn
  have hpn' : m ≤ 65536 := hpn
  simp only [Sl.v]
  have hwq := hS.bel.size
  obtain ⟨b3, hb3⟩ : ∃ b3, b3 = wq.heap.size := ⟨_, rfl⟩
  have hBA := below_alloc wq (.cells #[.slice ba n bc, .int .i64 z, .int .u8 k, .slice pa m pc, .int .i64 le] 31)
  have hA0 : Arr (wq.alloc (.cells #[.slice ba n bc, .int .i64 z, .int .u8 k, .slice pa m pc, .int .i64 le] 31)) b3 31 [.slice ba n bc, .int .i64 z, .int .u8 k, .slice pa m pc, .int .i64 le] := by rw [hb3]; exact Arr.new wq _ _
  have HS := hide hS
  have HB := hide hb
  have HP := hide hp
  have HL := hide (And.intro hbl hpl)
  have HBA := hide hBA
  have HA0 := hide hA0
  have HK := hide hk
  have HB3 := hide hb3
  clear hS hb hp hbl hpl hbn hpn hBA hA0 hk
  go_enter Try.func5, Try.ntmps5
  have htok : True := trivial
  go_upto_region 4 with (first
    | (go_at_call 7
       have hguard := htok
       clear htok hguard
       refine (roomy_any ⟨ba, n, bc, bl⟩ _ (((unhide HB).later (unhide HS).bel).later (unhide HBA)) (by simp only; omega)).mono ?_
       rintro e w1 ⟨gf, cf, rfl, ho1, b1⟩
       have hc1 := own_cap ho1
       simp only at ho1 hc1
       have hA1 := (unhide HA0).later b1
       obtain ⟨q0, q1, q2, q3, q4⟩ := op_cells hA1
       rw [hb3] at q0 q1 q2 q3 q4
       have z1 : n ≤ cf := by omega
       have z2 : (n : Int) ≤ (cf : Int) := by omega
       have HO1 := hide ho1
       have HB1 := hide b1
       have HA1 := hide hA1
       clear ho1 b1 hA1)
    | (go_at_call 7
       refine (roomy_any ⟨pa, m, pc, pl⟩ _ ((((unhide HP).later (unhide HS).bel).later (unhide HBA)).later (unhide HB1)) (by simp only; omega)).mono ?_
       rintro e w2 ⟨go, co, rfl, ho2, b2⟩
       have hc2 := own_cap ho2
       simp only at ho2 hc2
       have hA2 := (unhide HA1).later b2
       have HO2 := hide ho2
       have HB2 := hide b2
       have HA2 := hide hA2
       clear ho2 b2 hA2 q0 q1 q2 q3 q4)
    | fail)
  rw [← unhide HB3]
  have hgf : b3 < gf := by
    have h1 := ((unhide HO1).lt gf rfl).1
    have h2 := (unhide HBA).size
    simp at h1
    omega
  have hgo : gf < go := by
    have h1 := ((unhide HO2).lt go rfl).1
    have h2 := ((unhide HO1).lt gf rfl).2
    omega
  have hgo2 : go < w2.heap.size := ((unhide HO2).lt go rfl).2
  clear hb3
  have B02 : Below wq.heap.size wq w2 := bel_then (bel_then (unhide HBA) (unhide HBA).size (unhide HB1)) (by have h1 := (unhide HBA).size; have h2 := (unhide HB1).size; omega) (unhide HB2)
  have F2 : Rw wq.heap.size (.slice (some ⟨gf, 0, none⟩) (bl ++ marks2).length cf) (bl ++ marks2) w2 := ⟨by rw [room_len, (unhide HL).1]; exact own_low (own_later (unhide HO1) (unhide HB2)) (unhide HBA).size, IsB.app (unhide HB).isB marks2_isB⟩
  have V2 : Rw wq.heap.size (.slice (some ⟨go, 0, none⟩) (pl ++ marks2).length co) (pl ++ marks2) w2 := ⟨by rw [room_len, (unhide HL).2]; exact own_low (unhide HO2) (Nat.le_trans (unhide HBA).size (unhide HB1).size), IsB.app (unhide HP).isB marks2_isB⟩
  have HF2 := hide F2
  have HV2 := hide V2
  have HB02 := hide B02
  clear F2 V2 B02
  refine wp_region_noPanic ?_
  refine wp_region_held_drew (S := fun w' => Arr w' b3 31 [.slice ba n bc, .int .i64 z, .int .u8 k, .slice pa m pc, .int .i64 le]) (by kernel_rfl) ((unhide HA2).later (below_drewN (Below.refl _ _) 1)) (fun hHeld => ?_)
  obtain ⟨W3, hW3⟩ : ∃ W3, W3 = w2.drew := ⟨_, rfl⟩
  rw [← hW3] at hHeld ⊢
  have b3' : Below w2.heap.size w2 W3 := by rw [hW3]; exact below_drewN (Below.refl _ _) 1
  clear hW3
  have B03 := bel_then (unhide HB02) (unhide HB02).size b3'
  have F3 := (unhide HF2).later b3'
  have V3 := (unhide HV2).later b3'
  have okm := rw_cut F3 (by rw [room_len, (unhide HL).1]) n (by rw [room_len, (unhide HL).1]; omega)
  rw [List.take_left' (unhide HL).1] at okm
  have okb : Sl.Ok W3 ⟨ba, n, bc, bl⟩ := ((unhide HB).later (unhide HS).bel).later B03
  have hSu := sum_any ⟨some ⟨gf, 0, none⟩, n, cf, bl⟩ W3 okm
  have hRS := rsum_any ⟨ba, n, bc, bl⟩ W3 okb
  have hS3 := (unhide HS).later B03
  have hlvn : ∀ g, wq.heap.size ≤ g → some g ≠ lv.ownBlock ∧ some g ≠ wv.ownBlock ∧ g ≠ gS := fun g hg => ⟨fun e => by have := ((unhide HS).lrow.lt g e.symm).2; omega, fun e => by have := ((unhide HS).wrow.lt g e.symm).2; omega, fun e => by have := (unhide HS).s.lt; omega⟩
  have hSc := scans_any hS3 (fun g => g = gf ∨ g = go) (fun g hg => ⟨by have := b3'.size; rcases hg with rfl | rfl <;> omega, (unhide HS).clrNew g (by have := unhide HB3; rcases hg with rfl | rfl <;> omega)⟩) ⟨some ⟨gf, 0, none⟩, n, cf, bl⟩ ⟨ba, n, bc, bl⟩ okm okb rfl (fun _ x hx => by cases hx; exact hlvn gf (by have := unhide HB3; omega)) (by simp only; omega) (by omega) z k le ⟨pa, m, pc, pl⟩ hle
  simp only [Sl.v] at hSu hRS hSc
  obtain ⟨cr, hcr⟩ : ∃ cr, cr = crc bl := ⟨_, rfl⟩
  rw [← hcr] at hSu hRS
  have hcc : (cr != cr) = false := by simp
  have HSU := hide hSu
  have HRS := hide hRS
  have HSC := hide hSc
  have HLV := hide hlvn
  have HB03 := hide B03
  have HF3 := hide F3
  have HV3 := hide V3
  clear hSu hRS hSc hlvn B03 F3 V3 okm okb hS3 hcr b3' 
  refine wpAnyH_take (i := 0) (oi := _) (v := .slice (some ⟨gf, 0, none⟩) n cf) rfl (by kernel_rfl) (by kernel_rfl) (by kernel_rfl) (fun _ _ _ h => h) (Or.inl ⟨by rfl, fun w hSw => by go_simp⟩) hHeld ?_
  try simp [Act.put]
  refine wpAnyH_take (i := 2) (oi := _) (v := .pointer (some ⟨b3, 0, none⟩)) rfl (by kernel_rfl) (by kernel_rfl) (by kernel_rfl) (fun _ _ _ h => h) (Or.inl ⟨by rfl, fun w hSw => by go_simp⟩) hHeld ?_
  try simp [Act.put]
  refine wpAnyH_take (i := 3) (oi := _) (v := .slice ba n bc) rfl (by kernel_rfl) (by kernel_rfl) (by kernel_rfl) (fun _ _ _ h => h) (Or.inl ⟨by rfl, fun w hSw => by obtain ⟨q0, q1, q2, q3, q4⟩ := op_cells hSw; go_simp⟩) hHeld ?_
  try simp [Act.put]
  refine wpAnyH_ready (rs := [1]) (by kernel_rfl) (by simp) ?_
  refine (AllReadyH.cons rfl (fun kQ hkQ => ?_) AllReadyH.nil)
  go_simp
  refine (unhide HSU).mono ?_
  rintro e w' ⟨rfl, hw'⟩
  obtain rfl := hw'.symm
  refine hkQ.out _ _ hHeld (fun hHeld => ?_)
  clear hkQ kQ
  try simp [Act.put]
  refine wpAnyH_ready (rs := [4]) (by kernel_rfl) (by simp) ?_
  refine (AllReadyH.cons rfl (fun kQ hkQ => ?_) AllReadyH.nil)
  go_simp
  refine (unhide HRS).mono ?_
  rintro e w' ⟨rfl, hw'⟩
  obtain rfl := hw'.symm
  refine hkQ.out _ _ hHeld (fun hHeld => ?_)
  clear hkQ kQ
  try simp [Act.put]
  refine wpAnyH_take (i := 5) (oi := _) (v := .bool false) rfl (by kernel_rfl) (by kernel_rfl) (by kernel_rfl) (fun _ _ _ h => h) (Or.inl ⟨by rfl, fun w hSw => by go_simp⟩) hHeld ?_
  try simp [Act.put]
  refine wpAnyH_take (i := 6) (oi := _) (v := .bool false) rfl (by kernel_rfl) (by kernel_rfl) (by kernel_rfl) (fun _ _ _ h => h) (Or.inl ⟨by rfl, fun w hSw => by go_simp⟩) hHeld ?_
  try simp [Act.put]
  refine wpAnyH_take (i := 7) (oi := _) (v := .pointer (some ⟨gS, 0, none⟩)) rfl (by kernel_rfl) (by kernel_rfl) (by kernel_rfl) (fun _ _ _ h => h) (Or.inl ⟨by rfl, fun w hSw => by go_simp⟩) hHeld ?_
  try simp [Act.put]
  refine wpAnyH_take (i := 8) (oi := _) (v := .slice (some ⟨gf, 0, none⟩) n cf) rfl (by kernel_rfl) (by kernel_rfl) (by kernel_rfl) (fun _ _ _ h => h) (Or.inl ⟨by rfl, fun w hSw => by go_simp⟩) hHeld ?_
  try simp [Act.put]
  refine wpAnyH_take (i := 9) (oi := _) (v := .agg #[.slice ba n bc, .int .i64 z, .int .u8 k, .slice pa m pc, .int .i64 le]) rfl (by kernel_rfl) (by kernel_rfl) (by kernel_rfl) (fun _ _ _ h => h) (Or.inl ⟨by rfl, fun w hSw => by obtain ⟨q0, q1, q2, q3, q4⟩ := op_cells hSw; go_simp⟩) hHeld ?_
  try simp [Act.put]
  refine wpAnyH_ready (rs := [10]) (by kernel_rfl) (by simp) ?_
  refine (AllReadyH.cons rfl (fun kQ hkQ => ?_) AllReadyH.nil)
  go_simp
  refine (unhide HSC).mono ?_
  rintro e W4 ⟨rfl, M4, hM4, hM4a, hM4b⟩
  have hbk := hM4.blk
  have hsz3 : b3 < W3.heap.size ∧ gf < W3.heap.size ∧ go < W3.heap.size := ⟨hHeld.lt, ((unhide HF3).1.lt gf rfl).2, ((unhide HV3).1.lt go rfl).2⟩
  have k3 := hbk b3 hsz3.1 (unhide HLV b3 (by have := unhide HB3; omega)).1 (unhide HLV b3 (by have := unhide HB3; omega)).2.1 (unhide HLV b3 (by have := unhide HB3; omega)).2.2 (fun h => h)
  have kf := hbk gf hsz3.2.1 (unhide HLV gf (by have := unhide HB3; omega)).1 (unhide HLV gf (by have := unhide HB3; omega)).2.1 (unhide HLV gf (by have := unhide HB3; omega)).2.2 (fun h => h)
  have ko := hbk go hsz3.2.2 (unhide HLV go (by have := unhide HB3; omega)).1 (unhide HLV go (by have := unhide HB3; omega)).2.1 (unhide HLV go (by have := unhide HB3; omega)).2.2 (fun h => h)
  have hA4 : Arr W4 b3 31 [.slice ba n bc, .int .i64 z, .int .u8 k, .slice pa m pc, .int .i64 le] := k3.trans hHeld
  have HP4 : Hid (PlS w gS lv wv wq (fun g => g = gf ∨ g = go) b3 [.slice ba n bc, .int .i64 z, .int .u8 k, .slice pa m pc, .int .i64 le] gf cf (bl ++ marks2) go co (pl ++ marks2) M4 W4) := hide ⟨hM4.comp (unhide HB03).size (fun k hk _ _ _ _ => (unhide HB03).block k hk) (.inl rfl) (.inl rfl) (fun k hk hz => hz), hA4, ⟨own_blk (unhide HF3).1 (fun g hg => by simp only [Value.ownBlock, Option.some.injEq] at hg; subst hg; exact kf), (unhide HF3).2⟩, ⟨own_blk (unhide HV3).1 (fun g hg => by simp only [Value.ownBlock, Option.some.injEq] at hg; subst hg; exact ko), (unhide HV3).2⟩, by omega⟩
  refine hkQ.out _ _ hA4 (fun hHeld => ?_)
  clear hkQ kQ hM4 hbk k3 kf ko hsz3 hA4
  try simp [Act.put]
  refine wpAnyH_take (i := 11) (oi := _) (v := .bool false) rfl (by kernel_rfl) (by kernel_rfl) (by kernel_rfl) (fun _ _ _ h => h) (Or.inl ⟨by rfl, fun w hSw => by go_simp⟩) hHeld ?_
  try simp [Act.put]
  refine wpAnyH_take (i := 12) (oi := _) (v := .bool false) rfl (by kernel_rfl) (by kernel_rfl) (by kernel_rfl) (fun _ _ _ h => h) (Or.inl ⟨by rfl, fun w hSw => by go_simp⟩) hHeld ?_
  try simp [Act.put]
  refine wpAnyH_done (by kernel_rfl) ?_ _
  refine NoPanic.normal ?_
  clear hHeld HSC HSU HRS HF3 HV3 HF2 HV2 HO1 HO2 HA1 HA2 HA0 z1 z2
  obtain ⟨D, hD⟩ : ∃ D, D = decF bl z := ⟨_, rfl⟩
  obtain ⟨k9, py, nx, tl⟩ := D
  obtain ⟨mm, hmm⟩ : ∃ mm, mm = py.length := ⟨_, rfl⟩
  have hmmb : mm ≤ 65536 := by
    have h := decF_len bl z
    rw [← hD, (unhide HL).1] at h
    simp only at h
    omega
  have okm4 := rw_cut (unhide HP4).f (by rw [room_len, (unhide HL).1]) n (by rw [room_len, (unhide HL).1]; omega)
  rw [List.take_left' (unhide HL).1] at okm4
  have hDc := dec_any ⟨some ⟨gf, 0, none⟩, n, cf, bl⟩ z W4 okm4 (by simp only; omega)
  simp only [Sl.v] at hDc
  rw [← hD] at hDc
  simp only at hDc
  rw [← hmm] at hDc
  have HDC := hide hDc
  have HDF := hide hD
  have HMM := hide hmm
  obtain ⟨q0, q1, q2, q3, q4⟩ := op_cells (unhide HP4).o
  have hnn : (nx != nx) = false := by simp
  have htt : (tl != tl) = false := by simp
  clear hDc hD hmm okm4
  go_upto_region 10 with (first
    | (go_at_call 10
       refine (unhide HDC).mono ?_
       rintro e w5 ⟨fa, rfl, hL5, b5⟩
       clear q0 q1 q2 q3 q4 HDC
       have bV5 : Below W4.heap.size W4 (w5.alloc (.cells #[.int .u8 k9, .slice fa mm mm] 39)) := bel_then b5 b5.size (below_alloc w5 _)
       have HP5 : Hid (PlS w gS lv wv wq (fun g => (g = gf ∨ g = go) ∨ g = w5.heap.size ∨ ∃ y, fa = some y ∧ y.block = g) b3 [.slice ba n bc, .int .i64 z, .int .u8 k, .slice pa m pc, .int .i64 le] gf cf (bl ++ marks2) go co (pl ++ marks2) M4 (w5.alloc (.cells #[.int .u8 k9, .slice fa mm mm] 39))) := hide ((unhide HP4).fresh bV5 (fun g hg => by
         rcases hg with h | rfl | ⟨y, hy, rfl⟩
         · exact .inl h
         · exact .inr ⟨b5.size, by simp⟩
         · have h1 := lies_blk hL5 y hy
           exact .inr ⟨h1.1, by simp; omega⟩))
       have HL5 : Hid (Fx.Lies wq.heap.size ⟨0, k9, fa, py⟩ (w5.alloc (.cells #[.int .u8 k9, .slice fa mm mm] 39))) := hide ((KT.of_below (below_alloc w5 _)).lies (lies_low hL5 (unhide HP4).sh.size))
       have HA5 : Hid (Arr (w5.alloc (.cells #[.int .u8 k9, .slice fa mm mm] 39)) w5.heap.size 39 [.int .u8 k9, .slice fa mm mm]) := hide (Arr.new w5 _ _)
       obtain ⟨q0, q1, q2, q3, q4⟩ := op_cells (unhide HP5).o
       have HBV5 : Hid (wq.heap.size ≤ w5.heap.size ∧ w5.heap.size < (w5.alloc (.cells #[.int .u8 k9, .slice fa mm mm] 39)).heap.size ∧ b3 < w5.heap.size ∧ gf < w5.heap.size ∧ go < w5.heap.size) := hide (by
         have h1 := (unhide HP4).sh.size
         have h2 := b5.size
         have h3 := (unhide HP4).o.lt
         have h4 := ((unhide HP4).f.1.lt gf rfl).2
         have h5 := ((unhide HP4).v.1.lt go rfl).2
         refine ⟨by omega, by simp, by omega, by omega, by omega⟩)
       have HFA : Hid (∀ y, fa = some y → y.block < w5.heap.size ∧ W4.heap.size ≤ y.block) := hide (fun y hy => ⟨(lies_blk hL5 y hy).2, (lies_blk hL5 y hy).1⟩)
       have HS4 : Hid (gf < W4.heap.size ∧ go < W4.heap.size) := hide ⟨((unhide HP4).f.1.lt gf rfl).2, ((unhide HP4).v.1.lt go rfl).2⟩
       clear hL5 b5 bV5)
    | (go_at_call 11
       have hR := rdec_any ⟨ba, n, bc, bl⟩ z (w5.alloc (.cells #[.int .u8 k9, .slice fa mm mm] 39)) (((unhide HB).later (unhide HP5).sh.bel))
       simp only [Sl.v] at hR
       rw [← unhide HDF] at hR
       simp only at hR
       rw [← unhide HMM] at hR
       refine hR.mono ?_
       rintro e w6 ⟨ga, gc, rfl, ok6, -, b6⟩
       clear hR q0 q1 q2 q3 q4
       have bV6 : Below (w5.alloc (.cells #[.int .u8 k9, .slice fa mm mm] 39)).heap.size (w5.alloc (.cells #[.int .u8 k9, .slice fa mm mm] 39)) (w6.alloc (.cells #[.int .u8 k9, .slice ga mm gc] 39)) := bel_then b6 b6.size (below_alloc w6 _)
       have HP6 : Hid (PlS w gS lv wv wq (fun g => ((g = gf ∨ g = go) ∨ g = w5.heap.size ∨ ∃ y, fa = some y ∧ y.block = g) ∨ g = w6.heap.size) b3 [.slice ba n bc, .int .i64 z, .int .u8 k, .slice pa m pc, .int .i64 le] gf cf (bl ++ marks2) go co (pl ++ marks2) M4 (w6.alloc (.cells #[.int .u8 k9, .slice ga mm gc] 39))) := hide ((unhide HP5).fresh bV6 (fun g hg => by
         rcases hg with h | rfl
         · exact .inl h
         · exact .inr ⟨b6.size, by simp⟩))
       have HA6 : Hid (Arr (w6.alloc (.cells #[.int .u8 k9, .slice ga mm gc] 39)) w5.heap.size 39 [.int .u8 k9, .slice fa mm mm]) := hide ((unhide HA5).later bV6)
       have HA6' : Hid (Arr (w6.alloc (.cells #[.int .u8 k9, .slice ga mm gc] 39)) w6.heap.size 39 [.int .u8 k9, .slice ga mm gc]) := hide (Arr.new w6 _ _)
       have HL6 : Hid (Fx.Lies wq.heap.size ⟨0, k9, fa, py⟩ (w6.alloc (.cells #[.int .u8 k9, .slice ga mm gc] 39))) := hide ((KT.of_below bV6).lies (unhide HL5))
       have c80 : (w6.alloc (.cells #[.int .u8 k9, .slice ga mm gc] 39)).cell? ⟨w5.heap.size, 0, none⟩ = some (.int .u8 k9) := by rw [(unhide HA6).cell]; rfl
       have c81 : (w6.alloc (.cells #[.int .u8 k9, .slice ga mm gc] 39)).cell? ⟨w5.heap.size, 1, none⟩ = some (.slice fa mm mm) := by rw [(unhide HA6).cell]; rfl
       have HOK6 : Hid (Sl.Ok (w6.alloc (.cells #[.int .u8 k9, .slice ga mm gc] 39)) ⟨ga, mm, gc, py⟩) := hide (by rw [unhide HMM]; rw [unhide HMM] at ok6; exact ok6.later (below_alloc w6 _))
       have HB56 : Hid (w5.heap.size < w6.heap.size ∧ w6.heap.size < (w6.alloc (.cells #[.int .u8 k9, .slice ga mm gc] 39)).heap.size) := hide ⟨by have h1 := (unhide HBV5).2.1; have h2 := b6.size; omega, by simp⟩
       clear ok6 b6 bV6 HP5 HA5 HL5)
    | (go_at_call 12
       refine (alike_t k9 fa ga mm mm gc py _ (by have h := (lies_ans (unhide HL6) (Nat.le_refl _)).ok; simp only at h; rw [← unhide HMM] at h; exact h) (unhide HOK6) (by omega)).mono ?_
       rintro e w7 ⟨rfl, b7⟩
       have HP7 : Hid (PlS w gS lv wv wq (fun g => ((g = gf ∨ g = go) ∨ g = w5.heap.size ∨ ∃ y, fa = some y ∧ y.block = g) ∨ g = w6.heap.size) b3 [.slice ba n bc, .int .i64 z, .int .u8 k, .slice pa m pc, .int .i64 le] gf cf (bl ++ marks2) go co (pl ++ marks2) M4 w7) := hide ((unhide HP6).later b7)
       have HA7 : Hid (Arr w7 w5.heap.size 39 [.int .u8 k9, .slice fa mm mm]) := hide ((unhide HA6).later b7)
       have HA7' : Hid (Arr w7 w6.heap.size 39 [.int .u8 k9, .slice ga mm gc]) := hide ((unhide HA6').later b7)
       have HL7 : Hid (Fx.Lies wq.heap.size ⟨0, k9, fa, py⟩ w7) := hide ((KT.of_below b7).lies (unhide HL6))
       have HS7 : Hid (w6.heap.size < w7.heap.size) := hide (by have h1 := (unhide HB56).2; have h2 := b7.size; omega)
       clear b7 HP6 HA6 HA6' HL6 HOK6 c80 c81)
    | fail)
  have y1 : m ≤ co := by omega
  have y2 : (m : Int) ≤ (co : Int) := by omega
  refine wp_region_noPanic ?_
  refine wp_region_held_drew (S := fun w' => Arr w' b3 31 [.slice ba n bc, .int .i64 z, .int .u8 k, .slice pa m pc, .int .i64 le]) (by kernel_rfl) ((unhide HP7).o.later (below_drewN (Below.refl _ _) 1)) (fun hHeld => ?_)
  obtain ⟨W8, hW8⟩ : ∃ W, W = World.drew w7 := ⟨_, rfl⟩
  rw [← hW8] at hHeld ⊢
  have bW8 : Below w7.heap.size w7 W8 := by rw [hW8]; exact below_drewN (Below.refl _ _) 1
  clear hW8
  refine wpAnyH_take (i := 0) (oi := _) (v := .pointer (some ⟨b3, 2, none⟩)) rfl (by kernel_rfl) (by kernel_rfl) (by kernel_rfl) (fun _ _ _ h => h) (Or.inl ⟨by rfl, fun w hSw => by go_simp⟩) hHeld ?_
  try simp [Act.put]
  refine wpAnyH_take (i := 1) (oi := _) (v := .int .u8 k) rfl (by kernel_rfl) (by kernel_rfl) (by kernel_rfl) (fun _ _ _ h => h) (Or.inl ⟨by rfl, fun w hSw => by obtain ⟨q0, q1, q2, q3, q4⟩ := op_cells hSw; go_simp⟩) hHeld ?_
  try simp [Act.put]
  refine wpAnyH_take (i := 2) (oi := _) (v := .slice (some ⟨go, 0, none⟩) (m + 70) co) rfl (by kernel_rfl) (by kernel_rfl) (by kernel_rfl) (fun _ _ _ h => h) (Or.inl ⟨by rfl, fun w hSw => by go_simp⟩) hHeld ?_
  try simp [Act.put]
  refine wpAnyH_take (i := 3) (oi := _) (v := .pointer (some ⟨b3, 3, none⟩)) rfl (by kernel_rfl) (by kernel_rfl) (by kernel_rfl) (fun _ _ _ h => h) (Or.inl ⟨by rfl, fun w hSw => by go_simp⟩) hHeld ?_
  try simp [Act.put]
  refine wpAnyH_take (i := 4) (oi := _) (v := .slice pa m pc) rfl (by kernel_rfl) (by kernel_rfl) (by kernel_rfl) (fun _ _ _ h => h) (Or.inl ⟨by rfl, fun w hSw => by obtain ⟨q0, q1, q2, q3, q4⟩ := op_cells hSw; go_simp⟩) hHeld ?_
  try simp [Act.put]
  refine wpAnyH_take (i := 5) (oi := _) (v := .int .i64 (m : Int)) rfl (by kernel_rfl) (by kernel_rfl) (by kernel_rfl) (fun _ _ _ h => h) (Or.inl ⟨by rfl, fun w hSw => by go_simp⟩) hHeld ?_
  try simp [Act.put]
  refine wpAnyH_take (i := 6) (oi := _) (v := .slice (some ⟨go, 0, none⟩) m co) rfl (by kernel_rfl) (by kernel_rfl) (by kernel_rfl) (fun _ _ _ h => h) (Or.inl ⟨by rfl, fun w hSw => by go_simp⟩) hHeld ?_
  try simp [Act.put]
  have okv := rw_cut ((unhide HP7).later bW8).v (by rw [room_len, (unhide HL).2]) m (by rw [room_len, (unhide HL).2]; omega)
  rw [List.take_left' (unhide HL).2] at okv
  have hEn := encode_ok k ⟨some ⟨go, 0, none⟩, m, co, pl⟩ W8 okv (unhide HK) (by simp only; omega)
  simp only [Sl.v] at hEn
  clear okv
  refine wpAnyH_ready (rs := [7]) (by kernel_rfl) (by simp) ?_
  refine (AllReadyH.cons rfl (fun kQ hkQ => ?_) AllReadyH.nil)
  go_simp
  refine hEn.mono ?_
  rintro e w9 ⟨ge, rfl, hE9, b9⟩
  have b79 : Below w7.heap.size w7 w9 := bel_then bW8 bW8.size b9
  have HP9 : Hid (PlS w gS lv wv wq (fun g => (((g = gf ∨ g = go) ∨ g = w5.heap.size ∨ ∃ y, fa = some y ∧ y.block = g) ∨ g = w6.heap.size) ∨ g = ge) b3 [.slice ba n bc, .int .i64 z, .int .u8 k, .slice pa m pc, .int .i64 le] gf cf (bl ++ marks2) go co (pl ++ marks2) M4 w9) := hide ((unhide HP7).fresh b79 (fun g hg => by
    rcases hg with h | rfl
    · exact .inl h
    · have h1 := hE9.lt _ rfl
      exact .inr ⟨Nat.le_trans bW8.size h1.1, h1.2⟩))
  have HA9 : Hid (Arr w9 w5.heap.size 39 [.int .u8 k9, .slice fa mm mm]) := hide ((unhide HA7).later b79)
  have HA9' : Hid (Arr w9 w6.heap.size 39 [.int .u8 k9, .slice ga mm gc]) := hide ((unhide HA7').later b79)
  have HL9 : Hid (Fx.Lies wq.heap.size ⟨0, k9, fa, py⟩ w9) := hide ((KT.of_below b79).lies (unhide HL7))
  have HE9 : Hid (Rw wq.heap.size (.slice (some ⟨ge, 0, none⟩) (m + 10) (m + 10)) (encL k pl) w9) := hide ⟨by rw [encL_length, (unhide HL).2]; exact own_low hE9 (Nat.le_trans (unhide HP7).sh.size bW8.size), encL_isB (unhide HK) (unhide HP).isB⟩
  have HGE : Hid (w7.heap.size ≤ ge ∧ ge < w9.heap.size) := hide ⟨Nat.le_trans bW8.size (hE9.lt _ rfl).1, (hE9.lt _ rfl).2⟩
  refine hkQ.out _ _ ((unhide HP9).o) (fun hHeld => ?_)
  clear hkQ kQ hEn hE9 b9 b79 HP7 HA7 HA7' HL7 bW8
  try simp [Act.put]
  refine wpAnyH_take (i := 8) (oi := _) (v := .tuple #[.slice (some ⟨ge, 0, none⟩) (m + 10) (m + 10), .bool true]) rfl (by kernel_rfl) (by kernel_rfl) (by kernel_rfl) (fun _ _ _ h => h) (Or.inl ⟨by rfl, fun w hSw => by go_simp⟩) hHeld ?_
  try simp [Act.put]
  refine wpAnyH_take (i := 9) (oi := _) (v := .slice (some ⟨ge, 0, none⟩) (m + 10) (m + 10)) rfl (by kernel_rfl) (by kernel_rfl) (by kernel_rfl) (fun _ _ _ h => h) (Or.inl ⟨by rfl, fun w hSw => by go_simp⟩) hHeld ?_
  try simp [Act.put]
  refine wpAnyH_take (i := 10) (oi := _) (v := .bool true) rfl (by kernel_rfl) (by kernel_rfl) (by kernel_rfl) (fun _ _ _ h => h) (Or.inl ⟨by rfl, fun w hSw => by go_simp⟩) hHeld ?_
  try simp [Act.put]
  refine wpAnyH_take (i := 11) (oi := _) (v := .slice (some ⟨ge, 0, none⟩) (m + 10) (m + 10)) rfl (by kernel_rfl) (by kernel_rfl) (by kernel_rfl) (fun _ _ _ h => h) (Or.inl ⟨by rfl, fun w hSw => by go_simp⟩) hHeld ?_
  try simp [Act.put]
  refine wpAnyH_take (i := 12) (oi := _) (v := .bool true) rfl (by kernel_rfl) (by kernel_rfl) (by kernel_rfl) (fun _ _ _ h => h) (Or.inl ⟨by rfl, fun w hSw => by go_simp⟩) hHeld ?_
  try simp [Act.put]
  refine wpAnyH_done (by kernel_rfl) ?_ _
  refine NoPanic.normal ?_
  clear hHeld
  obtain ⟨q0, q1, q2, q3, q4⟩ := op_cells (unhide HP9).o
  have htA : True := trivial
  have htB : True := trivial
  have htC : True := trivial
  have htD : True := trivial
  have hbb : (true != true) = false := rfl
  go_upto_region 14 with (first
    | (go_at_call 14
       refine (rencode_ok k ⟨pa, m, pc, pl⟩ w9 ((unhide HP).later (unhide HP9).sh.bel) (unhide HK) (by simp only; omega)).mono ?_
       rintro e w10 ⟨v10, rfl, hR10, b10⟩
       clear q0 q1 q2 q3 q4
       obtain ⟨ca, cc, rfl, okc, -⟩ := hR10.form
       simp only [encL_length] at okc ⊢
       rw [(unhide HL).2] at okc ⊢
       have HP10 : Hid (PlS w gS lv wv wq (fun g => (((g = gf ∨ g = go) ∨ g = w5.heap.size ∨ ∃ y, fa = some y ∧ y.block = g) ∨ g = w6.heap.size) ∨ g = ge) b3 [.slice ba n bc, .int .i64 z, .int .u8 k, .slice pa m pc, .int .i64 le] gf cf (bl ++ marks2) go co (pl ++ marks2) M4 w10) := hide ((unhide HP9).later b10)
       have HA10 : Hid (Arr w10 w5.heap.size 39 [.int .u8 k9, .slice fa mm mm]) := hide ((unhide HA9).later b10)
       have HA10' : Hid (Arr w10 w6.heap.size 39 [.int .u8 k9, .slice ga mm gc]) := hide ((unhide HA9').later b10)
       have HL10 : Hid (Fx.Lies wq.heap.size ⟨0, k9, fa, py⟩ w10) := hide ((KT.of_below b10).lies (unhide HL9))
       have HE10 := hide ((unhide HE9).later b10)
       have HC10 := hide okc
       have HS10 := hide b10.size
       clear hR10 b10 okc HP9 HA9 HA9' HL9 HE9)
    | (go_at_call 15
       have hguard := htA
       clear htA hguard
       have oke : Sl.Ok w10 ⟨some ⟨ge, 0, none⟩, m + 10, m + 10, encL k pl⟩ := by
         obtain ⟨a', c', e', hok, -⟩ := (unhide HE10).form
         simp only [Value.slice.injEq] at e'
         obtain ⟨rfl, e2, rfl⟩ := e'
         rw [← e2] at hok
         exact hok
       refine (same_t ⟨some ⟨ge, 0, none⟩, m + 10, m + 10, encL k pl⟩ ⟨ca, m + 10, cc, encL k pl⟩ w10 oke (unhide HC10) (by simp only; omega) rfl).mono ?_
       rintro e w11 ⟨rfl, u11, rfl⟩
       have b11 : Below w10.heap.size w10 (w10.drewN u11) := below_drewN (Below.refl _ _) u11
       generalize w10.drewN u11 = w11 at b11 ⊢
       have HP11 : Hid (PlS w gS lv wv wq (fun g => (((g = gf ∨ g = go) ∨ g = w5.heap.size ∨ ∃ y, fa = some y ∧ y.block = g) ∨ g = w6.heap.size) ∨ g = ge) b3 [.slice ba n bc, .int .i64 z, .int .u8 k, .slice pa m pc, .int .i64 le] gf cf (bl ++ marks2) go co (pl ++ marks2) M4 w11) := hide ((unhide HP10).later b11)
       have HB11 := hide b11
       obtain ⟨q0, q1, q2, q3, q4⟩ := op_cells (unhide HP11).o
       clear b11 oke HC10)
    | (go_at_call 7
       have hguard := htB
       clear htB hguard
       refine (roomy_any ⟨ba, n, bc, bl⟩ w11 ((unhide HB).later (unhide HP11).sh.bel) (by simp only; omega)).mono ?_
       rintro e w12 ⟨gr, cr2, rfl, ho12, b12⟩
       clear q0 q1 q2 q3 q4
       have HP12 : Hid (PlS w gS lv wv wq (fun g => (((g = gf ∨ g = go) ∨ g = w5.heap.size ∨ ∃ y, fa = some y ∧ y.block = g) ∨ g = w6.heap.size) ∨ g = ge) b3 [.slice ba n bc, .int .i64 z, .int .u8 k, .slice pa m pc, .int .i64 le] gf cf (bl ++ marks2) go co (pl ++ marks2) M4 w12) := hide ((unhide HP11).later b12)
       have HO12 : Hid (Sl.Ok w12 ⟨some ⟨gr, 0, none⟩, n + 70, cr2, bl ++ marks2⟩) := hide (own_okb ho12 (IsB.app (unhide HB).isB marks2_isB))
       have HB12 := hide (bel_then (unhide HB11) (unhide HB11).size b12)
       clear ho12 b12 HP11)
    | (go_at_call 15
       have hguard := htC
       clear htC hguard
       have okf : Sl.Ok w12 ⟨some ⟨gf, 0, none⟩, n + 70, cf, bl ++ marks2⟩ := by
         have h := rw_cut (unhide HP12).f rfl (n + 70) (by rw [room_len, (unhide HL).1]; omega)
         rw [List.take_of_length_le (by rw [room_len, (unhide HL).1]; omega)] at h
         exact h
       refine (same_t ⟨some ⟨gf, 0, none⟩, n + 70, cf, bl ++ marks2⟩ ⟨some ⟨gr, 0, none⟩, n + 70, cr2, bl ++ marks2⟩ w12 okf (unhide HO12) (by simp only; omega) rfl).mono ?_
       rintro e w13 ⟨rfl, u13, rfl⟩
       have b13 : Below w12.heap.size w12 (w12.drewN u13) := below_drewN (Below.refl _ _) u13
       generalize w12.drewN u13 = w13 at b13 ⊢
       have HP13 : Hid (PlS w gS lv wv wq (fun g => (((g = gf ∨ g = go) ∨ g = w5.heap.size ∨ ∃ y, fa = some y ∧ y.block = g) ∨ g = w6.heap.size) ∨ g = ge) b3 [.slice ba n bc, .int .i64 z, .int .u8 k, .slice pa m pc, .int .i64 le] gf cf (bl ++ marks2) go co (pl ++ marks2) M4 w13) := hide ((unhide HP12).later b13)
       have HB13 := hide (bel_then (unhide HB12) (unhide HB12).size b13)
       obtain ⟨q0, q1, q2, q3, q4⟩ := op_cells (unhide HP13).o
       clear b13 okf HO12 HP12)
    | (go_at_call 7
       have hguard := htD
       clear htD hguard
       refine (roomy_any ⟨pa, m, pc, pl⟩ w13 ((unhide HP).later (unhide HP13).sh.bel) (by simp only; omega)).mono ?_
       rintro e w14 ⟨gr2, cr3, rfl, ho14, b14⟩
       clear q0 q1 q2 q3 q4
       have HP14 : Hid (PlS w gS lv wv wq (fun g => (((g = gf ∨ g = go) ∨ g = w5.heap.size ∨ ∃ y, fa = some y ∧ y.block = g) ∨ g = w6.heap.size) ∨ g = ge) b3 [.slice ba n bc, .int .i64 z, .int .u8 k, .slice pa m pc, .int .i64 le] gf cf (bl ++ marks2) go co (pl ++ marks2) M4 w14) := hide ((unhide HP13).later b14)
       have HO14 : Hid (Sl.Ok w14 ⟨some ⟨gr2, 0, none⟩, m + 70, cr3, pl ++ marks2⟩) := hide (own_okb ho14 (IsB.app (unhide HP).isB marks2_isB))
       have HB14 := hide (bel_then (unhide HB13) (unhide HB13).size b14)
       clear ho14 b14 HP13)
    | (go_at_call 15
       have okv : Sl.Ok w14 ⟨some ⟨go, 0, none⟩, m + 70, co, pl ++ marks2⟩ := by
         have h := rw_cut (unhide HP14).v rfl (m + 70) (by rw [room_len, (unhide HL).2]; omega)
         rw [List.take_of_length_le (by rw [room_len, (unhide HL).2]; omega)] at h
         exact h
       refine (same_t ⟨some ⟨go, 0, none⟩, m + 70, co, pl ++ marks2⟩ ⟨some ⟨gr2, 0, none⟩, m + 70, cr3, pl ++ marks2⟩ w14 okv (unhide HO14) (by simp only; omega) rfl).mono ?_
       rintro e w15 ⟨rfl, u15, rfl⟩
       have b15 : Below w14.heap.size w14 (w14.drewN u15) := below_drewN (Below.refl _ _) u15
       generalize w14.drewN u15 = w15 at b15 ⊢
       have HP15 : Hid (PlS w gS lv wv wq (fun g => (((g = gf ∨ g = go) ∨ g = w5.heap.size ∨ ∃ y, fa = some y ∧ y.block = g) ∨ g = w6.heap.size) ∨ g = ge) b3 [.slice ba n bc, .int .i64 z, .int .u8 k, .slice pa m pc, .int .i64 le] gf cf (bl ++ marks2) go co (pl ++ marks2) M4 w15) := hide ((unhide HP14).later b15)
       have HB15 := hide (bel_then (unhide HB14) (unhide HB14).size b15)
       clear b15 okv HO14 HP14)
    | fail)
  have c81 : w15.cell? ⟨w5.heap.size, 1, none⟩ = some (.slice fa mm mm) := by rw [((unhide HA10).later (unhide HB15)).cell]; rfl
  have hAf := lies_ans ((KT.of_below (unhide HB15)).lies (unhide HL10)) (B0 := w.heap.size) (by omega)
  simp only at hAf
  rw [← unhide HMM] at hAf
  have hPu1 := (unhide HP15).put ⟨fa, mm, mm, py⟩ hAf (by simp only; omega) (fun _ y hy => .inl (.inl (.inr (.inr ⟨y, hy, rfl⟩)))) (by omega)
  simp only [Sl.v] at hPu1
  have hAe0 : Fx.Lies wq.heap.size ⟨0, k, some ⟨ge, 0, none⟩, encL k pl⟩ w15 := by
    have h := (unhide HE10).later (unhide HB15)
    refine ⟨⟨m + 10, ?_⟩, h.2, ?_, by simp⟩
    · have h1 := h.1
      simp only
      rw [encL_length, (unhide HL).2] at h1 ⊢
      exact h1
    · simp only; rw [encL_length, (unhide HL).2]; omega
  have HAE := hide hAe0
  have HPU1 := hide hPu1
  have HA15 := hide ((unhide HA10).later (unhide HB15))
  have HA15' := hide ((unhide HA10').later (unhide HB15))
  have HOF : Hid (∀ g, ((g = gf ∨ g = go) ∨ g = w5.heap.size ∨ g = w6.heap.size ∨ g = ge) → Sl.Off ⟨fa, mm, mm, py⟩ (some g)) := hide (fun g hg _ y hy q => by
    have h1 := unhide HFA y hy
    have h2 := unhide HBV5
    have h3 := unhide HB56
    have h4 := unhide HGE
    have h5 := unhide HS7
    have h6 := unhide HS4
    simp only [Option.some.injEq] at q
    rcases hg with (rfl | rfl) | rfl | rfl | rfl <;> omega)
  have HOE : Hid (∀ g, ((g = gf ∨ g = go) ∨ g = w5.heap.size ∨ g = w6.heap.size) → Sl.Off ⟨some ⟨ge, 0, none⟩, m + 10, m + 10, encL k pl⟩ (some g)) := hide (fun g hg _ y hy q => by
    have h2 := unhide HBV5
    have h3 := unhide HB56
    have h4 := unhide HGE
    have h5 := unhide HS7
    cases hy
    simp only [Option.some.injEq] at q
    rcases hg with (rfl | rfl) | rfl | rfl <;> omega)
  clear hAf hPu1 hAe0 HA10 HA10' HL10 HE10 HP15
  go_upto_region 17 with (first
    | (go_at_call 16
       refine (unhide HPU1).mono ?_
       rintro e w16 ⟨rfl, hP16, kt16⟩
       clear HPU1 c81
       have hAe := lies_ans (kt16.lies (unhide HAE)) (B0 := w.heap.size) (by omega)
       simp only [encL_length] at hAe
       rw [(unhide HL).2] at hAe
       have hPu2 := PlS.put hP16 ⟨some ⟨ge, 0, none⟩, m + 10, m + 10, encL k pl⟩ hAe (by simp only; omega) (fun _ y hy => by cases hy; exact ⟨.inr rfl, unhide HOF ge (.inr (.inr (.inr rfl)))⟩) (by omega)
       simp only [Sl.v] at hPu2
       have HPU2 := hide hPu2
       have HA16 := hide (kt16.arr (unhide HA15) (by decide) (by decide) (by decide))
       have HA16' := hide (kt16.arr (unhide HA15') (by decide) (by decide) (by decide))
       clear hP16 kt16 hAe hPu2 HAE HA15 HA15')
    | (go_at_call 16
       refine (unhide HPU2).mono ?_
       rintro e w17 ⟨rfl, hP17, kt17⟩
       have HP17 : Hid (PlS w gS lv wv wq (fun g => (g = gf ∨ g = go) ∨ g = w5.heap.size ∨ g = w6.heap.size) b3 [.slice ba n bc, .int .i64 z, .int .u8 k, .slice pa m pc, .int .i64 le] gf cf (bl ++ marks2) go co (pl ++ marks2) (M4 + 1 + 1) w17) := hide (hP17.weak (fun g hg => by
         have h7 : (g = gf ∨ g = go) ∨ g = w5.heap.size ∨ g = w6.heap.size := hg
         refine ⟨⟨?_, unhide HOF g (by rcases h7 with h | h | h
                                       · exact .inl h
                                       · exact .inr (.inl h)
                                       · exact .inr (.inr (.inl h)))⟩, unhide HOE g h7⟩
         rcases h7 with h | h | h
         · exact .inl (.inl (.inl h))
         · exact .inl (.inl (.inr (.inl h)))
         · exact .inl (.inr h)))
       have HA17 := hide (kt17.arr (unhide HA16) (by decide) (by decide) (by decide))
       have HA17' := hide (kt17.arr (unhide HA16') (by decide) (by decide) (by decide))
       clear hP17 kt17 HPU2 HA16 HA16')
    | (go_at_call 17
       refine (turn_any gf n (bl ++ marks2).length cf cf wq.heap.size (bl ++ marks2) w17 (unhide HP17).f.1 (by rw [room_len, (unhide HL).1]; omega) (by rw [room_len, (unhide HL).1]; omega)).mono ?_
       rintro e w18 ⟨rfl, ho18, b18⟩
       have HP18 : Hid (PlS w gS lv wv wq (fun g => (g = gf ∨ g = go) ∨ g = w5.heap.size ∨ g = w6.heap.size) b3 [.slice ba n bc, .int .i64 z, .int .u8 k, .slice pa m pc, .int .i64 le] gf cf (turnTo (bl ++ marks2) n) go co (pl ++ marks2) (M4 + 1 + 1) w18) := hide ((unhide HP17).turnF b18 (.inl (.inl rfl)) (by omega) ⟨by rw [turnTo_length]; exact ho18, turnTo_isB (IsB.app (unhide HB).isB marks2_isB) n⟩)
       have HA18 : Hid (Arr w18 w5.heap.size 39 [.int .u8 k9, .slice fa mm mm]) := hide (b18.arr (unhide HA17) (by have h2 := unhide HBV5; omega))
       have HA18' : Hid (Arr w18 w6.heap.size 39 [.int .u8 k9, .slice ga mm gc]) := hide (b18.arr (unhide HA17') (by have h2 := unhide HBV5; have h3 := unhide HB56; omega))
       clear ho18 b18 HP17 HA17 HA17')
    | fail)
  obtain ⟨b2, hb2⟩ : ∃ b2, b2 = (turnTo (bl ++ marks2) n).take n := ⟨_, rfl⟩
  have hb2l : b2.length = n := by rw [hb2, List.length_take, turnTo_length, room_len, (unhide HL).1]; omega
  obtain ⟨D2, hD2⟩ : ∃ D, D = decF b2 z := ⟨_, rfl⟩
  obtain ⟨j9, pz, nz, tz⟩ := D2
  obtain ⟨mz2, hmz⟩ : ∃ mm, mm = pz.length := ⟨_, rfl⟩
  have hmzb : mz2 ≤ 65536 := by
    have h := decF_len b2 z
    rw [← hD2, hb2l] at h
    simp only at h
    omega
  have okm8 := rw_cut (unhide HP18).f rfl n (by rw [turnTo_length, room_len, (unhide HL).1]; omega)
  rw [← hb2] at okm8
  have hDc := dec_any ⟨some ⟨gf, 0, none⟩, n, cf, b2⟩ z w18 okm8 (by simp only; omega)
  simp only [Sl.v] at hDc
  rw [← hD2] at hDc
  simp only at hDc
  rw [← hmz] at hDc
  have HDC := hide hDc
  have HDF2 := hide hD2
  have HMZ := hide hmz
  have HB2 := hide hb2
  obtain ⟨q0, q1, q2, q3, q4⟩ := op_cells (unhide HP18).o
  have hnz : (nz != nz) = false := by simp
  have htz : (tz != tz) = false := by simp
  clear hDc hD2 hmz okm8 hb2 hnn htt
  go_upto_region 18 with (first
    | (go_at_call 10
       refine (unhide HDC).mono ?_
       rintro e w19 ⟨fb, rfl, hL19, b19⟩
       clear q0 q1 q2 q3 q4 HDC
       have c80 : w19.cell? ⟨w5.heap.size, 0, none⟩ = some (.int .u8 k9) := by rw [((unhide HA18).later b19).cell]; rfl
       have c81 : w19.cell? ⟨w5.heap.size, 1, none⟩ = some (.slice fa mm mm) := by rw [((unhide HA18).later b19).cell]; rfl
       have z80 := ((unhide HA18).later b19).frozen 0
       have z81 := ((unhide HA18).later b19).frozen 1
       have HFB : Hid (∀ y, fb = some y → w6.heap.size < y.block) := hide (fun y hy => by have h1 := (lies_blk hL19 y hy).1; have h2 := (unhide HA18').lt; omega)
       have HB19 := hide b19
       have HL19 := hide hL19
       clear b19 hL19)
    | fail)
  have A19 := (unhide HA18).later (unhide HB19)
  have bt19 : But w5.heap.size w19 ((w19.setCell ⟨w5.heap.size, 0, none⟩ (.int .u8 j9)).setCell ⟨w5.heap.size, 1, none⟩ (.slice fb mz2 mz2)) := (arr_but A19 0 (.int .u8 j9)).trans (arr_but (A19.set 0 _) 1 _)
  have P19 := ((unhide HP18).later (unhide HB19)).box A19 (.inr (.inl rfl)) (unhide HBV5).1 (by omega) bt19
  have A19b : Arr ((w19.setCell ⟨w5.heap.size, 0, none⟩ (.int .u8 j9)).setCell ⟨w5.heap.size, 1, none⟩ (.slice fb mz2 mz2)) w5.heap.size 39 [.int .u8 j9, .slice fb mz2 mz2] := (A19.set 0 _).set 1 _
  have A19' : Arr ((w19.setCell ⟨w5.heap.size, 0, none⟩ (.int .u8 j9)).setCell ⟨w5.heap.size, 1, none⟩ (.slice fb mz2 mz2)) w6.heap.size 39 [.int .u8 k9, .slice ga mm gc] := bt19.arr ((unhide HA18').later (unhide HB19)) (by have h3 := unhide HB56; omega)
  have L19 : Sl.Ok ((w19.setCell ⟨w5.heap.size, 0, none⟩ (.int .u8 j9)).setCell ⟨w5.heap.size, 1, none⟩ (.slice fb mz2 mz2)) ⟨fb, mz2, mz2, pz⟩ := by
    have h := (lies_ans (unhide HL19) (Nat.le_refl _)).ok
    simp only at h
    rw [← unhide HMZ] at h
    exact ok_but bt19 h (fun hp y hy q => by
      have h1 := (lies_blk (unhide HL19) y hy).1
      have h2 := (unhide HA18).lt
      simp only [Option.some.injEq] at q
      omega)
  have okm9 := rw_cut P19.f rfl n (by rw [turnTo_length, room_len, (unhide HL).1]; omega)
  rw [← unhide HB2] at okm9
  have hRd := rdec_any ⟨some ⟨gf, 0, none⟩, n, cf, b2⟩ z _ okm9
  simp only [Sl.v] at hRd
  rw [← unhide HDF2] at hRd
  simp only at hRd
  rw [← unhide HMZ] at hRd
  obtain ⟨q0, q1, q2, q3, q4⟩ := op_cells P19.o
  have HRD := hide hRd
  have HP19 := hide P19
  have HA19 := hide A19b
  have HA19' := hide A19'
  have HOK19 := hide L19
  clear A19 bt19 P19 A19b A19' L19 okm9 hRd c80 c81 z80 z81 HB19 HL19 HA18 HA18' HP18
  generalize hV19 : ((w19.setCell ⟨w5.heap.size, 0, none⟩ (.int .u8 j9)).setCell ⟨w5.heap.size, 1, none⟩ (.slice fb mz2 mz2)) = V19 at HP19 HA19 HA19' HOK19 HRD q0 q1 q2 q3 q4 ⊢
  clear hV19
  go_upto_region 19 with (first
    | (go_at_call 11
       refine (unhide HRD).mono ?_
       rintro e w20 ⟨gb, gd, rfl, ok20, nw20, b20⟩
       have HGB : Hid (∀ y, gb = some y → w6.heap.size < y.block) := hide (fun y hy => by have h1 := nw20 y hy; have h2 := (unhide HA19').lt; omega)
       clear q0 q1 q2 q3 q4 HRD
       have c110 : w20.cell? ⟨w6.heap.size, 0, none⟩ = some (.int .u8 k9) := by rw [((unhide HA19').later b20).cell]; rfl
       have c111 : w20.cell? ⟨w6.heap.size, 1, none⟩ = some (.slice ga mm gc) := by rw [((unhide HA19').later b20).cell]; rfl
       have z110 := ((unhide HA19').later b20).frozen 0
       have z111 := ((unhide HA19').later b20).frozen 1
       have HB20 := hide b20
       have HOK20 := hide ok20
       clear b20 ok20 nw20)
    | fail)
  have A20 := (unhide HA19').later (unhide HB20)
  have bt20 : But w6.heap.size w20 ((w20.setCell ⟨w6.heap.size, 0, none⟩ (.int .u8 j9)).setCell ⟨w6.heap.size, 1, none⟩ (.slice gb mz2 gd)) := (arr_but A20 0 (.int .u8 j9)).trans (arr_but (A20.set 0 _) 1 _)
  have P20 := ((unhide HP19).later (unhide HB20)).box A20 (.inr (.inr rfl)) (by have h1 := unhide HBV5; have h2 := unhide HB56; omega) (by omega) bt20
  have A20b : Arr ((w20.setCell ⟨w6.heap.size, 0, none⟩ (.int .u8 j9)).setCell ⟨w6.heap.size, 1, none⟩ (.slice gb mz2 gd)) w6.heap.size 39 [.int .u8 j9, .slice gb mz2 gd] := (A20.set 0 _).set 1 _
  have A20' : Arr ((w20.setCell ⟨w6.heap.size, 0, none⟩ (.int .u8 j9)).setCell ⟨w6.heap.size, 1, none⟩ (.slice gb mz2 gd)) w5.heap.size 39 [.int .u8 j9, .slice fb mz2 mz2] := bt20.arr ((unhide HA19).later (unhide HB20)) (by have h3 := unhide HB56; omega)
  have hAl := alike_t j9 fb gb mz2 mz2 gd pz ((w20.setCell ⟨w6.heap.size, 0, none⟩ (.int .u8 j9)).setCell ⟨w6.heap.size, 1, none⟩ (.slice gb mz2 gd)) (ok_but bt20 ((unhide HOK19).later (unhide HB20)) (fun _ y hy q => by have h1 := unhide HFB y hy; simp only [Option.some.injEq] at q; omega)) (ok_but bt20 (by rw [unhide HMZ]; have h := unhide HOK20; rw [unhide HMZ] at h; exact h) (fun _ y hy q => by have h1 := unhide HGB y hy; simp only [Option.some.injEq] at q; omega)) (by omega)
  have HAL := hide hAl
  have HP20 := hide P20
  have HA20 := hide A20b
  have HA20' := hide A20'
  have c80 : ((w20.setCell ⟨w6.heap.size, 0, none⟩ (.int .u8 j9)).setCell ⟨w6.heap.size, 1, none⟩ (.slice gb mz2 gd)).cell? ⟨w5.heap.size, 0, none⟩ = some (.int .u8 j9) := by rw [A20'.cell]; rfl
  have c81 : ((w20.setCell ⟨w6.heap.size, 0, none⟩ (.int .u8 j9)).setCell ⟨w6.heap.size, 1, none⟩ (.slice gb mz2 gd)).cell? ⟨w5.heap.size, 1, none⟩ = some (.slice fb mz2 mz2) := by rw [A20'.cell]; rfl
  have d80 : ((w20.setCell ⟨w6.heap.size, 0, none⟩ (.int .u8 j9)).setCell ⟨w6.heap.size, 1, none⟩ (.slice gb mz2 gd)).cell? ⟨w6.heap.size, 0, none⟩ = some (.int .u8 j9) := by rw [A20b.cell]; rfl
  have d81 : ((w20.setCell ⟨w6.heap.size, 0, none⟩ (.int .u8 j9)).setCell ⟨w6.heap.size, 1, none⟩ (.slice gb mz2 gd)).cell? ⟨w6.heap.size, 1, none⟩ = some (.slice gb mz2 gd) := by rw [A20b.cell]; rfl
  clear A20 bt20 P20 A20b A20' hAl c110 c111 z110 z111 HOK19 HOK20 HB20 HP19 HA19 HA19'
  generalize hV20 : ((w20.setCell ⟨w6.heap.size, 0, none⟩ (.int .u8 j9)).setCell ⟨w6.heap.size, 1, none⟩ (.slice gb mz2 gd)) = V20 at HP20 HA20 HA20' HAL c80 c81 d80 d81 ⊢
  clear hV20
  go_upto_region 21 with (first
    | (go_at_call 12
       refine (unhide HAL).mono ?_
       rintro e w21 ⟨rfl, b21⟩
       have HP21 : Hid (PlS w gS lv wv wq (fun g => (g = gf ∨ g = go) ∨ g = w5.heap.size ∨ g = w6.heap.size) b3 [.slice ba n bc, .int .i64 z, .int .u8 k, .slice pa m pc, .int .i64 le] gf cf (turnTo (bl ++ marks2) n) go co (pl ++ marks2) (M4 + 1 + 1) w21) := hide ((unhide HP20).later b21)
       clear b21 HP20 HAL c80 c81 d80 d81)
    | fail)
  obtain ⟨q0, q1, q2, q3, q4⟩ := op_cells (unhide HP21).o
  go_upto_region 22 with (first
    | (go_at_call 17
       refine (turn_any go m (pl ++ marks2).length co co wq.heap.size (pl ++ marks2) w21 (unhide HP21).v.1 (by rw [room_len, (unhide HL).2]; omega) (by rw [room_len, (unhide HL).2]; omega)).mono ?_
       rintro e w22 ⟨rfl, ho22, b22⟩
       clear q0 q1 q2 q3 q4
       have HP22 : Hid (PlS w gS lv wv wq (fun g => (g = gf ∨ g = go) ∨ g = w5.heap.size ∨ g = w6.heap.size) b3 [.slice ba n bc, .int .i64 z, .int .u8 k, .slice pa m pc, .int .i64 le] gf cf (turnTo (bl ++ marks2) n) go co (turnTo (pl ++ marks2) m) (M4 + 1 + 1) w22) := hide ((unhide HP21).turnO b22 (.inl (.inr rfl)) (by omega) ⟨by rw [turnTo_length]; exact ho22, turnTo_isB (IsB.app (unhide HP).isB marks2_isB) m⟩)
       clear ho22 b22 HP21)
    | fail)
  obtain ⟨p2, hp2⟩ : ∃ p2, p2 = (turnTo (pl ++ marks2) m).take m := ⟨_, rfl⟩
  have hp2l : p2.length = m := by rw [hp2, List.length_take, turnTo_length, room_len, (unhide HL).2]; omega
  have HP2 := hide hp2
  have HPL2 := hide hp2l
  clear hp2 hp2l
  refine wp_region_noPanic ?_
  refine wp_region_held_drew (S := fun w' => Arr w' b3 31 [.slice ba n bc, .int .i64 z, .int .u8 k, .slice pa m pc, .int .i64 le]) (by kernel_rfl) ((unhide HP22).o.later (below_drewN (Below.refl _ _) 1)) (fun hHeld => ?_)
  obtain ⟨W23, hW23⟩ : ∃ W, W = World.drew w22 := ⟨_, rfl⟩
  rw [← hW23] at hHeld ⊢
  have bW23 : Below w22.heap.size w22 W23 := by rw [hW23]; exact below_drewN (Below.refl _ _) 1
  clear hW23
  refine wpAnyH_take (i := 0) (oi := _) (v := .pointer (some ⟨b3, 2, none⟩)) rfl (by kernel_rfl) (by kernel_rfl) (by kernel_rfl) (fun _ _ _ h => h) (Or.inl ⟨by rfl, fun w hSw => by go_simp⟩) hHeld ?_
  try simp [Act.put]
  refine wpAnyH_take (i := 1) (oi := _) (v := .int .u8 k) rfl (by kernel_rfl) (by kernel_rfl) (by kernel_rfl) (fun _ _ _ h => h) (Or.inl ⟨by rfl, fun w hSw => by obtain ⟨q0, q1, q2, q3, q4⟩ := op_cells hSw; go_simp⟩) hHeld ?_
  try simp [Act.put]
  refine wpAnyH_take (i := 2) (oi := _) (v := .slice (some ⟨go, 0, none⟩) (m + 70) co) rfl (by kernel_rfl) (by kernel_rfl) (by kernel_rfl) (fun _ _ _ h => h) (Or.inl ⟨by rfl, fun w hSw => by go_simp⟩) hHeld ?_
  try simp [Act.put]
  refine wpAnyH_take (i := 3) (oi := _) (v := .pointer (some ⟨b3, 3, none⟩)) rfl (by kernel_rfl) (by kernel_rfl) (by kernel_rfl) (fun _ _ _ h => h) (Or.inl ⟨by rfl, fun w hSw => by go_simp⟩) hHeld ?_
  try simp [Act.put]
  refine wpAnyH_take (i := 4) (oi := _) (v := .slice pa m pc) rfl (by kernel_rfl) (by kernel_rfl) (by kernel_rfl) (fun _ _ _ h => h) (Or.inl ⟨by rfl, fun w hSw => by obtain ⟨q0, q1, q2, q3, q4⟩ := op_cells hSw; go_simp⟩) hHeld ?_
  try simp [Act.put]
  refine wpAnyH_take (i := 5) (oi := _) (v := .int .i64 (m : Int)) rfl (by kernel_rfl) (by kernel_rfl) (by kernel_rfl) (fun _ _ _ h => h) (Or.inl ⟨by rfl, fun w hSw => by go_simp⟩) hHeld ?_
  try simp [Act.put]
  refine wpAnyH_take (i := 6) (oi := _) (v := .slice (some ⟨go, 0, none⟩) m co) rfl (by kernel_rfl) (by kernel_rfl) (by kernel_rfl) (fun _ _ _ h => h) (Or.inl ⟨by rfl, fun w hSw => by go_simp⟩) hHeld ?_
  try simp [Act.put]
  have okv := rw_cut ((unhide HP22).later bW23).v rfl m (by rw [turnTo_length, room_len, (unhide HL).2]; omega)
  rw [← unhide HP2] at okv
  have hEn := encode_ok k ⟨some ⟨go, 0, none⟩, m, co, p2⟩ W23 okv (unhide HK) (by simp only; omega)
  have HPB : Hid (IsB p2) := hide okv.isB
  simp only [Sl.v] at hEn
  clear okv
  refine wpAnyH_ready (rs := [7]) (by kernel_rfl) (by simp) ?_
  refine (AllReadyH.cons rfl (fun kQ hkQ => ?_) AllReadyH.nil)
  go_simp
  refine hEn.mono ?_
  rintro e w24 ⟨gx, rfl, hE24, b24⟩
  have b224 : Below w22.heap.size w22 w24 := bel_then bW23 bW23.size b24
  have HP24 : Hid (PlS w gS lv wv wq (fun g => (g = gf ∨ g = go) ∨ g = w5.heap.size ∨ g = w6.heap.size) b3 [.slice ba n bc, .int .i64 z, .int .u8 k, .slice pa m pc, .int .i64 le] gf cf (turnTo (bl ++ marks2) n) go co (turnTo (pl ++ marks2) m) (M4 + 1 + 1) w24) := hide ((unhide HP22).later b224)
  have HE24 : Hid (Sl.Ok w24 ⟨some ⟨gx, 0, none⟩, m + 10, m + 10, encL k p2⟩) := hide (own_okb hE24 (encL_isB (unhide HK) (unhide HPB)))
  refine hkQ.out _ _ ((unhide HP24).o) (fun hHeld => ?_)
  clear hkQ kQ hEn hE24 b24 b224 HP22 bW23
  try simp [Act.put]
  refine wpAnyH_take (i := 8) (oi := _) (v := .tuple #[.slice (some ⟨gx, 0, none⟩) (m + 10) (m + 10), .bool true]) rfl (by kernel_rfl) (by kernel_rfl) (by kernel_rfl) (fun _ _ _ h => h) (Or.inl ⟨by rfl, fun w hSw => by go_simp⟩) hHeld ?_
  try simp [Act.put]
  refine wpAnyH_take (i := 9) (oi := _) (v := .slice (some ⟨gx, 0, none⟩) (m + 10) (m + 10)) rfl (by kernel_rfl) (by kernel_rfl) (by kernel_rfl) (fun _ _ _ h => h) (Or.inl ⟨by rfl, fun w hSw => by go_simp⟩) hHeld ?_
  try simp [Act.put]
  refine wpAnyH_take (i := 10) (oi := _) (v := .bool true) rfl (by kernel_rfl) (by kernel_rfl) (by kernel_rfl) (fun _ _ _ h => h) (Or.inl ⟨by rfl, fun w hSw => by go_simp⟩) hHeld ?_
  try simp [Act.put]
  refine wpAnyH_take (i := 11) (oi := _) (v := .slice (some ⟨gx, 0, none⟩) (m + 10) (m + 10)) rfl (by kernel_rfl) (by kernel_rfl) (by kernel_rfl) (fun _ _ _ h => h) (Or.inl ⟨by rfl, fun w hSw => by go_simp⟩) hHeld ?_
  try simp [Act.put]
  refine wpAnyH_done (by kernel_rfl) ?_ _
  refine NoPanic.normal ?_
  clear hHeld
  go_upto_region 23 with fail
  refine wp_region_noPanic ?_
  refine wp_region_held_drew (S := fun w' => Arr w' b3 31 [.slice ba n bc, .int .i64 z, .int .u8 k, .slice pa m pc, .int .i64 le]) (by kernel_rfl) ((unhide HP24).o.later (below_drewN (Below.refl _ _) 1)) (fun hHeld => ?_)
  obtain ⟨W25, hW25⟩ : ∃ W, W = World.drew w24 := ⟨_, rfl⟩
  rw [← hW25] at hHeld ⊢
  have bW25 : Below w24.heap.size w24 W25 := by rw [hW25]; exact below_drewN (Below.refl _ _) 1
  clear hW25
  refine wpAnyH_take (i := 0) (oi := _) (v := .pointer (some ⟨b3, 2, none⟩)) rfl (by kernel_rfl) (by kernel_rfl) (by kernel_rfl) (fun _ _ _ h => h) (Or.inl ⟨by rfl, fun w hSw => by go_simp⟩) hHeld ?_
  try simp [Act.put]
  refine wpAnyH_take (i := 1) (oi := _) (v := .int .u8 k) rfl (by kernel_rfl) (by kernel_rfl) (by kernel_rfl) (fun _ _ _ h => h) (Or.inl ⟨by rfl, fun w hSw => by obtain ⟨q0, q1, q2, q3, q4⟩ := op_cells hSw; go_simp⟩) hHeld ?_
  try simp [Act.put]
  refine wpAnyH_take (i := 2) (oi := _) (v := .slice (some ⟨go, 0, none⟩) (m + 70) co) rfl (by kernel_rfl) (by kernel_rfl) (by kernel_rfl) (fun _ _ _ h => h) (Or.inl ⟨by rfl, fun w hSw => by go_simp⟩) hHeld ?_
  try simp [Act.put]
  refine wpAnyH_take (i := 3) (oi := _) (v := .pointer (some ⟨b3, 3, none⟩)) rfl (by kernel_rfl) (by kernel_rfl) (by kernel_rfl) (fun _ _ _ h => h) (Or.inl ⟨by rfl, fun w hSw => by go_simp⟩) hHeld ?_
  try simp [Act.put]
  refine wpAnyH_take (i := 4) (oi := _) (v := .slice pa m pc) rfl (by kernel_rfl) (by kernel_rfl) (by kernel_rfl) (fun _ _ _ h => h) (Or.inl ⟨by rfl, fun w hSw => by obtain ⟨q0, q1, q2, q3, q4⟩ := op_cells hSw; go_simp⟩) hHeld ?_
  try simp [Act.put]
  refine wpAnyH_take (i := 5) (oi := _) (v := .int .i64 (m : Int)) rfl (by kernel_rfl) (by kernel_rfl) (by kernel_rfl) (fun _ _ _ h => h) (Or.inl ⟨by rfl, fun w hSw => by go_simp⟩) hHeld ?_
  try simp [Act.put]
  refine wpAnyH_take (i := 6) (oi := _) (v := .slice (some ⟨go, 0, none⟩) m co) rfl (by kernel_rfl) (by kernel_rfl) (by kernel_rfl) (fun _ _ _ h => h) (Or.inl ⟨by rfl, fun w hSw => by go_simp⟩) hHeld ?_
  try simp [Act.put]
  have okv := rw_cut ((unhide HP24).later bW25).v rfl m (by rw [turnTo_length, room_len, (unhide HL).2]; omega)
  rw [← unhide HP2] at okv
  have hEn := rencode_ok k ⟨some ⟨go, 0, none⟩, m, co, p2⟩ W25 okv (unhide HK) (by simp only; omega)
  simp only [Sl.v] at hEn
  clear okv
  refine wpAnyH_ready (rs := [7]) (by kernel_rfl) (by simp) ?_
  refine (AllReadyH.cons rfl (fun kQ hkQ => ?_) AllReadyH.nil)
  go_simp
  refine hEn.mono ?_
  rintro e w26 ⟨v26, rfl, hR26, b26⟩
  obtain ⟨ca2, cc2, rfl, okc, -⟩ := hR26.form
  simp only [encL_length] at okc ⊢
  rw [unhide HPL2] at okc ⊢
  have b246 : Below w24.heap.size w24 w26 := bel_then bW25 bW25.size b26
  have HP26 : Hid (PlS w gS lv wv wq (fun g => (g = gf ∨ g = go) ∨ g = w5.heap.size ∨ g = w6.heap.size) b3 [.slice ba n bc, .int .i64 z, .int .u8 k, .slice pa m pc, .int .i64 le] gf cf (turnTo (bl ++ marks2) n) go co (turnTo (pl ++ marks2) m) (M4 + 1 + 1) w26) := hide ((unhide HP24).later b246)
  have HE26 := hide ((unhide HE24).later b246)
  have HC26 := hide okc
  refine hkQ.out _ _ ((unhide HP26).o) (fun hHeld => ?_)
  clear hkQ kQ hEn hR26 b26 b246 HP24 bW25 okc HE24
  try simp [Act.put]
  refine wpAnyH_take (i := 8) (oi := _) (v := .tuple #[.slice ca2 (m + 10) cc2, .bool true]) rfl (by kernel_rfl) (by kernel_rfl) (by kernel_rfl) (fun _ _ _ h => h) (Or.inl ⟨by rfl, fun w hSw => by go_simp⟩) hHeld ?_
  try simp [Act.put]
  refine wpAnyH_take (i := 9) (oi := _) (v := .slice ca2 (m + 10) cc2) rfl (by kernel_rfl) (by kernel_rfl) (by kernel_rfl) (fun _ _ _ h => h) (Or.inl ⟨by rfl, fun w hSw => by go_simp⟩) hHeld ?_
  try simp [Act.put]
  refine wpAnyH_take (i := 10) (oi := _) (v := .bool true) rfl (by kernel_rfl) (by kernel_rfl) (by kernel_rfl) (fun _ _ _ h => h) (Or.inl ⟨by rfl, fun w hSw => by go_simp⟩) hHeld ?_
  try simp [Act.put]
  refine wpAnyH_take (i := 11) (oi := _) (v := .slice ca2 (m + 10) cc2) rfl (by kernel_rfl) (by kernel_rfl) (by kernel_rfl) (fun _ _ _ h => h) (Or.inl ⟨by rfl, fun w hSw => by go_simp⟩) hHeld ?_
  try simp [Act.put]
  refine wpAnyH_done (by kernel_rfl) ?_ _
  refine NoPanic.normal ?_
  clear hHeld
  obtain ⟨cr9, hcr9⟩ : ∃ cr, cr = crc b2 := ⟨_, rfl⟩
  have HCR9 := hide hcr9
  clear hcr9
  have hcc9 : (cr9 == cr9) = true := by simp
  go_wp2_with (first
    | (go_at_call 15
       refine (same_t ⟨some ⟨gx, 0, none⟩, m + 10, m + 10, encL k p2⟩ ⟨ca2, m + 10, cc2, encL k p2⟩ w26 (unhide HE26) (unhide HC26) (by simp only; omega) rfl).mono ?_
       rintro e w27 ⟨rfl, u27, rfl⟩
       have b27 : Below w26.heap.size w26 (w26.drewN u27) := below_drewN (Below.refl _ _) u27
       generalize w26.drewN u27 = w27 at b27 ⊢
       have HP27 : Hid (PlS w gS lv wv wq (fun g => (g = gf ∨ g = go) ∨ g = w5.heap.size ∨ g = w6.heap.size) b3 [.slice ba n bc, .int .i64 z, .int .u8 k, .slice pa m pc, .int .i64 le] gf cf (turnTo (bl ++ marks2) n) go co (turnTo (pl ++ marks2) m) (M4 + 1 + 1) w27) := hide ((unhide HP26).later b27)
       have okm7 := rw_cut (unhide HP27).f rfl n (by rw [turnTo_length, room_len, (unhide HL).1]; omega)
       rw [← unhide HB2] at okm7
       have HOK7 := hide okm7
       clear b27 HP26 HE26 HC26 okm7)
    | (go_at_call 4
       have hSu := sum_any ⟨some ⟨gf, 0, none⟩, n, cf, b2⟩ w27 (unhide HOK7)
       simp only [Sl.v] at hSu
       rw [← unhide HCR9] at hSu
       refine hSu.mono ?_
       rintro e w28 ⟨rfl, hw28⟩
       obtain rfl := hw28.symm
       clear hSu)
    | (go_at_call 8
       have hSu := rsum_any ⟨some ⟨gf, 0, none⟩, n, cf, b2⟩ w27 (unhide HOK7)
       simp only [Sl.v] at hSu
       rw [← unhide HCR9] at hSu
       refine hSu.mono ?_
       rintro e w28 ⟨rfl, hw28⟩
       obtain rfl := hw28.symm
       clear hSu)
    | fail)
  go_ret
  exact ⟨rfl, M4 + 1 + 1, (unhide HP27).sh.weak (fun g hg => hg.elim), by omega⟩
end Go.Proofs.Ytmdpmkdofgligaa
