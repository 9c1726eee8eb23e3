import Derived.Test.YtejagcngbgnogaaGreatQShr
import Derived.Test.YtejagcngbgnogaaGreatQGbaZ
import Derived.Deep.MidRow
import Derived.Deep.Cut
set_option maxHeartbeats 4000000
set_option maxRecDepth 100000
set_option linter.unusedSimpArgs false
set_option linter.unusedVariables false
namespace Go.Proofs.YtejagcngbgnogaaGreat
open Go.RowKit
section
theorem rs52 {G : Prop} (h : G := by
 have hSg := hSS
 have hZC := hZ
 have HB := aA b0
 have HS := aA hSS
 have HSG := aA hSg
 clear hSg
 clear b0 hok hR hSS T0
 generalize hX : cl aD 99 x = X at *
 have EX := aA hX
 clear hX
 cases hf : (aB aF).fit x with
 | false =>
  have HFT : Hid ((aB (aF.take 4)).fit x = (aB aF).fit x) := aA (by simp [aB, aF, aF, aO, aV, aL, bR])
  have HL : Hid (tellL 1 (aB (aF.take 4)) x = []) := aA (by unfold tellL; rw [unhide HFT, hf]; rfl)
  exact sh54
 | true =>
  have HFT : Hid ((aB (aF.take 4)).fit x = (aB aF).fit x) := aA (by simp [aB, aF, aF, aO, aV, aL, bR])
  have HL : Hid (tellL 1 (aB (aF.take 4)) x = hdL 1 ++ (aB (aF.take 4)).enc x) := aA (by unfold tellL; rw [if_pos (by rw [unhide HFT, hf])]; try simp [aB, aF, aF, aO, aV, aL, bR, bN, bF, List.append_assoc])
  rw [hf] at hOf
  clear hf
  go_enter Tryz.func54, Tryz.ntmps54
  go_upto_region 1 with fail
  generalize hW : w.alloc (.cells X.toArray 32) = W at *
  have EW := aA hW
  clear hW
  refine wp_region_lit ?_
  refine wpList_load_mid rfl 32 (.tmp 1) rfl w.heap.size 0 rfl X _ (unhide HR) Tryz.underlying32 rfl hZ ?_
  simp only [Act.put]
  refine wpList_plain rfl fun K1 hK1 => ?_
  go_simp
  refine (hOf W).mono ?_
  rintro e w1 ⟨rfl, hB1⟩
  clear hOf
  refine hK1 _ _ ?_
  clear hK1 K1
  go_wp2_with fail
  refine (cR 1 w1).mono ?_
  rintro e w2 ⟨p, lv, rfl, hO2, hp2, hB2⟩
  have RS0 : Hid (RSt w 32 aD 99 x w1.heap.size p lv (hdL 1) w2) := aA (by rw [← unhide EW] at hB1 HT; exact RSt.new (unhide HT) hB1 hO2 hp2 hB2)
  clear hB1 hB2 hO2 hp2 HR HT EW HB
  generalize w1.heap.size = B at *
  have rr := (unhide RS0).part (unhide HS)
  have hC := (unhide RS0).sayCert (unhide HSG) (by have := hh; (try simp only [List.length_append, List.length_cons, List.length_nil, bQ, bP, aN, bB, aW, bC, bA]); omega)
  rw [unhide EX] at rr hC
  go_upto_region 4 with fail
  refine eI ?_
  refine wpList_load_mid rfl 32 (.tmp 1) rfl w.heap.size 0 rfl X _ rr Tryz.underlying32 rfl hZ ?_
  simp only [Act.put]
  refine wpList_plain rfl fun K1 hK1 => ?_
  go_simp
  refine hC.mono ?_
  rintro e uv ⟨rfl, lv1, R1⟩
  have RS1 := aA R1
  clear R1 RS0 hC rr
  refine hK1 _ _ ?_
  clear hK1 K1
  have hC := (unhide RS1).whole
  go_wp2_with fail
  refine hC.mono ?_
  rintro e w4 ⟨s, rfl, hs, hsl, hat, hB⟩
  have HE : Hid (RSP (tellL 1 (aB (aF.take 4)) x) w (.returned s.v) w4) := aA ⟨s, rfl, hs, by rw [hsl, unhide HL], hat, hB⟩
  exact sh87) : G := h
open Go.Proofs.Tryz renaming func54 → z54a, ntmps54 → z54b, underlying32 → z54d
open Go.Proofs.YtejagcngbgnogaaGreat renaming nq32 → z54c, aD → z138a, nq99 → z138b, nq32 → z138c, iZ → z138d, nq1 → z138f, dI → z138bQ, iF → z138cQ, rs52 → z138rr
open Go.Proofs.YtejagcngbgnogaaGreat.Tryz renaming szKCert → z138e
theorem gZ (x : Nat → Int) (w : World) (hok : ∀ i, i < 99 → (aD i).ok (x i)) :
  Calls Tryz.prog 54 #[.agg (cl aD 99 x).toArray] w (RSP (tellL 1 (aB (aF.take 4)) x) w) := iM
end
section
theorem rs144 {G : Prop} (h : G := by
 cases hf : (aB aM).fit x with
 | false =>
  have HFT : Hid ((aB (aM.take 1)).fit x = (aB aM).fit x) := aA (by simp [aB, aM, aF, aO, aV, aL, bR])
  have HL : Hid (tellL 4 (aB (aM.take 1)) x = []) := aA (by unfold tellL; rw [unhide HFT, hf]; rfl)
  exact sh54
 | true =>
  have HFT : Hid ((aB (aM.take 1)).fit x = (aB aM).fit x) := aA (by simp [aB, aM, aF, aO, aV, aL, bR])
  have HL : Hid (tellL 4 (aB (aM.take 1)) x = hdL 4 ++ (aB aF).enc x) := aA (by unfold tellL; rw [if_pos (by rw [unhide HFT, hf])]; try simp [aB, aM, aF, aO, aV, aL, bR, bN, bF, List.append_assoc])
  rw [hf] at hOf
  clear hf
  go_enter Tryz.func55, Tryz.ntmps55
  go_upto_region 1 with fail
  generalize hW : w.alloc (.cells X.toArray 65) = W at *
  have EW := aA hW
  clear hW
  refine wp_region_lit ?_
  refine wpList_load_mid rfl 65 (.tmp 1) rfl w.heap.size 0 rfl X _ (unhide HR) Tryz.underlying65 rfl hZ ?_
  simp only [Act.put]
  refine wpList_plain rfl fun K1 hK1 => ?_
  go_simp
  refine (hOf W).mono ?_
  rintro e w1 ⟨rfl, hB1⟩
  clear hOf
  refine hK1 _ _ ?_
  clear hK1 K1
  go_wp2_with fail
  refine (cR 4 w1).mono ?_
  rintro e w2 ⟨p, lv, rfl, hO2, hp2, hB2⟩
  have RS0 : Hid (RSt w 65 aR 163 x w1.heap.size p lv (hdL 4) w2) := aA (by rw [← unhide EW] at hB1 HT; exact RSt.new (unhide HT) hB1 hO2 hp2 hB2)
  clear hB1 hB2 hO2 hp2 HR HT EW HB
  generalize w1.heap.size = B at *
  have rr := (unhide RS0).part (unhide HSG)
  have hC := (unhide RS0).cert (unhide HSG) (by have := hh; (try simp only [List.length_append, List.length_cons, List.length_nil, bQ, bP, aN, bB, aW, bC, bA]); omega)
  rw [unhide EXC] at rr hC
  go_upto_region 4 with fail
  refine rgY2 ?_
  refine wpList_load_mid rfl 32 (.tmp 9) rfl w.heap.size 0 rfl XC _ rr Tryz.underlying32 rfl hZC ?_
  simp only [Act.put]
  refine wpList_plain rfl fun K1 hK1 => ?_
  go_simp
  refine hC.mono ?_
  rintro e uv ⟨rfl, lv1, R1⟩
  have RS1 := aA R1
  clear R1 RS0 hC rr
  refine hK1 _ _ ?_
  clear hK1 K1
  have hC := (unhide RS1).whole
  go_wp2_with fail
  refine hC.mono ?_
  rintro e w4 ⟨s, rfl, hs, hsl, hat, hB⟩
  have HE : Hid (RSP (tellL 4 (aB (aM.take 1)) x) w (.returned s.v) w4) := aA ⟨s, rfl, hs, by rw [hsl, unhide HL], hat, hB⟩
  exact sh87) : G := h
theorem rs53 {G : Prop} (h : G := by
 exact sh156) : G := h
open Go.Proofs.Tryz renaming func55 → z54a, ntmps55 → z54b, underlying65 → z54d
open Go.Proofs.YtejagcngbgnogaaGreat renaming nq65 → z54c, aR → z138a, nq163 → z138b, nq65 → z138c, mD → z138d, nq4 → z138f, dK → z138bQ, dP → z138cQ, rs53 → z138rr, aR → z156a, nq163 → z156b, dK → z156bQ, rs144 → z156rr
open Go.Proofs.YtejagcngbgnogaaGreat.Tryz renaming szTFreeze → z138e
theorem kD (x : Nat → Int) (w : World) (hok : ∀ i, i < 163 → (aR i).ok (x i)) :
  Calls Tryz.prog 55 #[.agg (cl aR 163 x).toArray] w (RSP (tellL 4 (aB (aM.take 1)) x) w) := iM
end
section
theorem rs54 {G : Prop} (h : G := by
 have HB := aA b0
 have HS := aA hSS
 clear b0 hok hR hSS T0
 generalize hX : cl bI 99 x = X at *
 have EX := aA hX
 clear hX
 cases hf : (aB aZ).fit x with
 | false =>
  have HFT : Hid ((aB (aZ.take 4)).fit x = (aB aZ).fit x) := aA (by simp [aB, aZ, aF, aO, aV, aL, bR])
  have HL : Hid (tellL 5 (aB (aZ.take 4)) x = []) := aA (by unfold tellL; rw [unhide HFT, hf]; rfl)
  exact sh54
 | true =>
  have HFT : Hid ((aB (aZ.take 4)).fit x = (aB aZ).fit x) := aA (by simp [aB, aZ, aF, aO, aV, aL, bR])
  have HL : Hid (tellL 5 (aB (aZ.take 4)) x = hdL 5 ++ (aB (aZ.take 4)).enc x) := aA (by unfold tellL; rw [if_pos (by rw [unhide HFT, hf])]; try simp [aB, aZ, aF, aO, aV, aL, bR, bN, bF, List.append_assoc])
  rw [hf] at hOf
  clear hf
  go_enter Tryz.func56, Tryz.ntmps56
  go_upto_region 1 with fail
  generalize hW : w.alloc (.cells X.toArray 69) = W at *
  have EW := aA hW
  clear hW
  refine wp_region_lit ?_
  refine wpList_load_mid rfl 69 (.tmp 1) rfl w.heap.size 0 rfl X _ (unhide HR) Tryz.underlying69 rfl hZ ?_
  simp only [Act.put]
  refine wpList_plain rfl fun K1 hK1 => ?_
  go_simp
  refine (hOf W).mono ?_
  rintro e w1 ⟨rfl, hB1⟩
  clear hOf
  refine hK1 _ _ ?_
  clear hK1 K1
  go_wp2_with fail
  refine (cR 5 w1).mono ?_
  rintro e w2 ⟨p, lv, rfl, hO2, hp2, hB2⟩
  have RS0 : Hid (RSt w 69 bI 99 x w1.heap.size p lv (hdL 5) w2) := aA (by rw [← unhide EW] at hB1 HT; exact RSt.new (unhide HT) hB1 hO2 hp2 hB2)
  clear hB1 hB2 hO2 hp2 HR HT EW HB
  generalize w1.heap.size = B at *
  have rr := (unhide RS0).part (unhide HS)
  have hC := rsAck (unhide RS0) (by have := hh; (try simp only [List.length_append, List.length_cons, List.length_nil, bQ, bP, aN, bB, aW, bC, bA]); omega)
  rw [unhide EX] at rr hC
  go_upto_region 4 with fail
  refine eI ?_
  refine wpList_load_mid rfl 69 (.tmp 1) rfl w.heap.size 0 rfl X _ rr Tryz.underlying69 rfl hZ ?_
  simp only [Act.put]
  refine wpList_plain rfl fun K1 hK1 => ?_
  go_simp
  refine hC.mono ?_
  rintro e uv ⟨rfl, lv1, R1⟩
  have RS1 := aA R1
  clear R1 RS0 hC rr
  refine hK1 _ _ ?_
  clear hK1 K1
  have hC := (unhide RS1).whole
  go_wp2_with fail
  refine hC.mono ?_
  rintro e w4 ⟨s, rfl, hs, hsl, hat, hB⟩
  have HE : Hid (RSP (tellL 5 (aB (aZ.take 4)) x) w (.returned s.v) w4) := aA ⟨s, rfl, hs, by rw [hsl, unhide HL], hat, hB⟩
  exact sh87) : G := h
open Go.Proofs.Tryz renaming func56 → z54a, ntmps56 → z54b, underlying69 → z54d
open Go.Proofs.YtejagcngbgnogaaGreat renaming nq69 → z54c, bI → z138a, nq99 → z138b, nq69 → z138c, pF → z138d, nq5 → z138f, dI → z138bQ, gL → z138cQ, rs54 → z138rr
open Go.Proofs.YtejagcngbgnogaaGreat.Tryz renaming szTAck → z138e
theorem qN (x : Nat → Int) (w : World) (hok : ∀ i, i < 99 → (bI i).ok (x i)) :
  Calls Tryz.prog 56 #[.agg (cl bI 99 x).toArray] w (RSP (tellL 5 (aB (aZ.take 4)) x) w) := iM
end
section
theorem rs145 {G : Prop} (h : G := by
 cases hf : (aB aE).fit x with
 | false =>
  have HFT : Hid ((aB (aE.take 1)).fit x = (aB aE).fit x) := aA (by simp [aB, aE, aF, aO, aV, aL, bR])
  have HL : Hid (tellL 6 (aB (aE.take 1)) x = []) := aA (by unfold tellL; rw [unhide HFT, hf]; rfl)
  exact sh54
 | true =>
  have HFT : Hid ((aB (aE.take 1)).fit x = (aB aE).fit x) := aA (by simp [aB, aE, aF, aO, aV, aL, bR])
  have HL : Hid (tellL 6 (aB (aE.take 1)) x = hdL 6 ++ (aB aF).enc x) := aA (by unfold tellL; rw [if_pos (by rw [unhide HFT, hf])]; try simp [aB, aE, aF, aO, aV, aL, bR, bN, bF, List.append_assoc])
  rw [hf] at hOf
  clear hf
  go_enter Tryz.func57, Tryz.ntmps57
  go_upto_region 1 with fail
  generalize hW : w.alloc (.cells X.toArray 72) = W at *
  have EW := aA hW
  clear hW
  refine wp_region_lit ?_
  refine wpList_load_mid rfl 72 (.tmp 1) rfl w.heap.size 0 rfl X _ (unhide HR) Tryz.underlying72 rfl hZ ?_
  simp only [Act.put]
  refine wpList_plain rfl fun K1 hK1 => ?_
  go_simp
  refine (hOf W).mono ?_
  rintro e w1 ⟨rfl, hB1⟩
  clear hOf
  refine hK1 _ _ ?_
  clear hK1 K1
  go_wp2_with fail
  refine (cR 6 w1).mono ?_
  rintro e w2 ⟨p, lv, rfl, hO2, hp2, hB2⟩
  have RS0 : Hid (RSt w 72 aG 163 x w1.heap.size p lv (hdL 6) w2) := aA (by rw [← unhide EW] at hB1 HT; exact RSt.new (unhide HT) hB1 hO2 hp2 hB2)
  clear hB1 hB2 hO2 hp2 HR HT EW HB
  generalize w1.heap.size = B at *
  have rr := (unhide RS0).part (unhide HSG)
  have hC := (unhide RS0).cert (unhide HSG) (by have := hh; (try simp only [List.length_append, List.length_cons, List.length_nil, bQ, bP, aN, bB, aW, bC, bA]); omega)
  rw [unhide EXC] at rr hC
  go_upto_region 4 with fail
  refine rgY2 ?_
  refine wpList_load_mid rfl 32 (.tmp 9) rfl w.heap.size 0 rfl XC _ rr Tryz.underlying32 rfl hZC ?_
  simp only [Act.put]
  refine wpList_plain rfl fun K1 hK1 => ?_
  go_simp
  refine hC.mono ?_
  rintro e uv ⟨rfl, lv1, R1⟩
  have RS1 := aA R1
  clear R1 RS0 hC rr
  refine hK1 _ _ ?_
  clear hK1 K1
  have hC := (unhide RS1).whole
  go_wp2_with fail
  refine hC.mono ?_
  rintro e w4 ⟨s, rfl, hs, hsl, hat, hB⟩
  have HE : Hid (RSP (tellL 6 (aB (aE.take 1)) x) w (.returned s.v) w4) := aA ⟨s, rfl, hs, by rw [hsl, unhide HL], hat, hB⟩
  exact sh87) : G := h
theorem rs55 {G : Prop} (h : G := by
 exact sh156) : G := h
open Go.Proofs.Tryz renaming func57 → z54a, ntmps57 → z54b, underlying72 → z54d
open Go.Proofs.YtejagcngbgnogaaGreat renaming nq72 → z54c, aG → z138a, nq163 → z138b, nq72 → z138c, jP → z138d, nq6 → z138f, dK → z138bQ, iE → z138cQ, rs55 → z138rr, aG → z156a, nq163 → z156b, dK → z156bQ, rs145 → z156rr
open Go.Proofs.YtejagcngbgnogaaGreat.Tryz renaming szTRevocation → z138e
theorem iQ (x : Nat → Int) (w : World) (hok : ∀ i, i < 163 → (aG i).ok (x i)) :
  Calls Tryz.prog 57 #[.agg (cl aG 163 x).toArray] w (RSP (tellL 6 (aB (aE.take 1)) x) w) := iM
end
section
theorem rs56 {G : Prop} (h : G := by
 have HB := aA b0
 have HS := aA hSS
 clear b0 hok hR hSS T0
 generalize hX : cl aU 65 x = X at *
 have EX := aA hX
 clear hX
 cases hf : (aB aQ).fit x with
 | false =>
  have HFT : Hid ((aB (aQ.take 1)).fit x = (aB aQ).fit x) := aA (by simp [aB, aQ, aF, aO, aV, aL, bR])
  have HL : Hid (tellL 7 (aB (aQ.take 1)) x = []) := aA (by unfold tellL; rw [unhide HFT, hf]; rfl)
  exact sh54
 | true =>
  have HFT : Hid ((aB (aQ.take 1)).fit x = (aB aQ).fit x) := aA (by simp [aB, aQ, aF, aO, aV, aL, bR])
  have HL : Hid (tellL 7 (aB (aQ.take 1)) x = hdL 7 ++ beB 4 (x 0 % 4294967296)) := aA (by unfold tellL; rw [if_pos (by rw [unhide HFT, hf])]; try simp [aB, aQ, aF, aO, aV, aL, bR, bN, bF, List.append_assoc])
  rw [hf] at hOf
  clear hf
  go_enter Tryz.func58, Tryz.ntmps58
  go_upto_region 1 with fail
  generalize hW : w.alloc (.cells X.toArray 76) = W at *
  have EW := aA hW
  clear hW
  refine wp_region_lit ?_
  refine wpList_load_mid rfl 76 (.tmp 1) rfl w.heap.size 0 rfl X _ (unhide HR) Tryz.underlying76 rfl hZ ?_
  simp only [Act.put]
  refine wpList_plain rfl fun K1 hK1 => ?_
  go_simp
  refine (hOf W).mono ?_
  rintro e w1 ⟨rfl, hB1⟩
  clear hOf
  refine hK1 _ _ ?_
  clear hK1 K1
  go_wp2_with fail
  refine (cR 7 w1).mono ?_
  rintro e w2 ⟨p, lv, rfl, hO2, hp2, hB2⟩
  have RS0 : Hid (RSt w 76 aU 65 x w1.heap.size p lv (hdL 7) w2) := aA (by rw [← unhide EW] at hB1 HT; exact RSt.new (unhide HT) hB1 hO2 hp2 hB2)
  clear hB1 hB2 hO2 hp2 HR HT EW HB
  generalize w1.heap.size = B at *
  have cc := (unhide RS0).cellN 0 (by decide) (by decide)
  have hC := (unhide RS0).u32 0 (by have := hh; (try simp only [List.length_append, List.length_cons, List.length_nil, bQ, bP, aN, bB, aW, bC, bA]); omega)
  go_wp2_with fail
  refine hC.mono ?_
  rintro e uv ⟨rfl, lv1, R1⟩
  have RS1 := aA R1
  clear R1 RS0 hC cc
  have hC := (unhide RS1).whole
  go_wp2_with fail
  refine hC.mono ?_
  rintro e w4 ⟨s, rfl, hs, hsl, hat, hB⟩
  have HE : Hid (RSP (tellL 7 (aB (aQ.take 1)) x) w (.returned s.v) w4) := aA ⟨s, rfl, hs, by rw [hsl, unhide HL], hat, hB⟩
  exact sh87) : G := h
open Go.Proofs.Tryz renaming func58 → z54a, ntmps58 → z54b, underlying76 → z54d
open Go.Proofs.YtejagcngbgnogaaGreat renaming nq76 → z54c, aU → z138a, nq65 → z138b, nq76 → z138c, mZ → z138d, nq7 → z138f, dP → z138bQ, gV → z138cQ, rs56 → z138rr
open Go.Proofs.YtejagcngbgnogaaGreat.Tryz renaming szTFloor → z138e
theorem oI (x : Nat → Int) (w : World) (hok : ∀ i, i < 65 → (aU i).ok (x i)) :
  Calls Tryz.prog 58 #[.agg (cl aU 65 x).toArray] w (RSP (tellL 7 (aB (aQ.take 1)) x) w) := iM
end
section
theorem rs57 {G : Prop} (h : G := by
 have HB := aA b0
 have HS := aA hSS
 clear b0 hok hR hSS T0
 generalize hX : cl aK 67 x = X at *
 have EX := aA hX
 clear hX
 cases hf : (aB aH).fit x with
 | false =>
  have HFT : Hid ((aB (aH.take 3)).fit x = (aB aH).fit x) := aA (by simp [aB, aH, aF, aO, aV, aL, bR])
  have HL : Hid (tellL 8 (aB (aH.take 3)) x = []) := aA (by unfold tellL; rw [unhide HFT, hf]; rfl)
  exact sh54
 | true =>
  have HFT : Hid ((aB (aH.take 3)).fit x = (aB aH).fit x) := aA (by simp [aB, aH, aF, aO, aV, aL, bR])
  have HL : Hid (tellL 8 (aB (aH.take 3)) x = hdL 8 ++ (aB (aH.take 3)).enc x) := aA (by unfold tellL; rw [if_pos (by rw [unhide HFT, hf])]; try simp [aB, aH, aF, aO, aV, aL, bR, bN, bF, List.append_assoc])
  rw [hf] at hOf
  clear hf
  go_enter Tryz.func59, Tryz.ntmps59
  go_upto_region 1 with fail
  generalize hW : w.alloc (.cells X.toArray 80) = W at *
  have EW := aA hW
  clear hW
  refine wp_region_lit ?_
  refine wpList_load_mid rfl 80 (.tmp 1) rfl w.heap.size 0 rfl X _ (unhide HR) Tryz.underlying80 rfl hZ ?_
  simp only [Act.put]
  refine wpList_plain rfl fun K1 hK1 => ?_
  go_simp
  refine (hOf W).mono ?_
  rintro e w1 ⟨rfl, hB1⟩
  clear hOf
  refine hK1 _ _ ?_
  clear hK1 K1
  go_wp2_with fail
  refine (cR 8 w1).mono ?_
  rintro e w2 ⟨p, lv, rfl, hO2, hp2, hB2⟩
  have RS0 : Hid (RSt w 80 aK 67 x w1.heap.size p lv (hdL 8) w2) := aA (by rw [← unhide EW] at hB1 HT; exact RSt.new (unhide HT) hB1 hO2 hp2 hB2)
  clear hB1 hB2 hO2 hp2 HR HT EW HB
  generalize w1.heap.size = B at *
  have rr := (unhide RS0).part (unhide HS)
  have hC := rsReceipt (unhide RS0) (by have := hh; (try simp only [List.length_append, List.length_cons, List.length_nil, bQ, bP, aN, bB, aW, bC, bA]); omega)
  rw [unhide EX] at rr hC
  go_upto_region 4 with fail
  refine eI ?_
  refine wpList_load_mid rfl 80 (.tmp 1) rfl w.heap.size 0 rfl X _ rr Tryz.underlying80 rfl hZ ?_
  simp only [Act.put]
  refine wpList_plain rfl fun K1 hK1 => ?_
  go_simp
  refine hC.mono ?_
  rintro e uv ⟨rfl, lv1, R1⟩
  have RS1 := aA R1
  clear R1 RS0 hC rr
  refine hK1 _ _ ?_
  clear hK1 K1
  have hC := (unhide RS1).whole
  go_wp2_with fail
  refine hC.mono ?_
  rintro e w4 ⟨s, rfl, hs, hsl, hat, hB⟩
  have HE : Hid (RSP (tellL 8 (aB (aH.take 3)) x) w (.returned s.v) w4) := aA ⟨s, rfl, hs, by rw [hsl, unhide HL], hat, hB⟩
  exact sh87) : G := h
open Go.Proofs.Tryz renaming func59 → z54a, ntmps59 → z54b, underlying80 → z54d
open Go.Proofs.YtejagcngbgnogaaGreat renaming nq80 → z54c, aK → z138a, nq67 → z138b, nq80 → z138c, lK → z138d, nq8 → z138f, gW → z138bQ, gK → z138cQ, rs57 → z138rr
open Go.Proofs.YtejagcngbgnogaaGreat.Tryz renaming szTReceipt → z138e
theorem mT (x : Nat → Int) (w : World) (hok : ∀ i, i < 67 → (aK i).ok (x i)) :
  Calls Tryz.prog 59 #[.agg (cl aK 67 x).toArray] w (RSP (tellL 8 (aB (aH.take 3)) x) w) := iM
end
section
theorem rs58 {G : Prop} (h : G := by
 have HB := aA b0
 have HS := aA hSS
 clear b0 hok hR hSS T0
 generalize hX : cl bE 97 x = X at *
 have EX := aA hX
 clear hX
 cases hf : (aB aX).fit x with
 | false =>
  have HFT : Hid ((aB (aX.take 2)).fit x = (aB aX).fit x) := aA (by simp [aB, aX, aF, aO, aV, aL, bR])
  have HL : Hid (tellL 10 (aB (aX.take 2)) x = []) := aA (by unfold tellL; rw [unhide HFT, hf]; rfl)
  exact sh54
 | true =>
  have HFT : Hid ((aB (aX.take 2)).fit x = (aB aX).fit x) := aA (by simp [aB, aX, aF, aO, aV, aL, bR])
  have HL : Hid (tellL 10 (aB (aX.take 2)) x = hdL 10 ++ beB 4 (x 0 % 4294967296) ++ run x 1 32) := aA (by unfold tellL; rw [if_pos (by rw [unhide HFT, hf])]; try simp [aB, aX, aF, aO, aV, aL, bR, bN, bF, List.append_assoc])
  rw [hf] at hOf
  clear hf
  go_enter Tryz.func60, Tryz.ntmps60
  go_upto_region 1 with fail
  generalize hW : w.alloc (.cells X.toArray 88) = W at *
  have EW := aA hW
  clear hW
  refine wp_region_lit ?_
  refine wpList_load_mid rfl 88 (.tmp 1) rfl w.heap.size 0 rfl X _ (unhide HR) Tryz.underlying88 rfl hZ ?_
  simp only [Act.put]
  refine wpList_plain rfl fun K1 hK1 => ?_
  go_simp
  refine (hOf W).mono ?_
  rintro e w1 ⟨rfl, hB1⟩
  clear hOf
  refine hK1 _ _ ?_
  clear hK1 K1
  go_wp2_with fail
  refine (cR 10 w1).mono ?_
  rintro e w2 ⟨p, lv, rfl, hO2, hp2, hB2⟩
  have RS0 : Hid (RSt w 88 bE 97 x w1.heap.size p lv (hdL 10) w2) := aA (by rw [← unhide EW] at hB1 HT; exact RSt.new (unhide HT) hB1 hO2 hp2 hB2)
  clear hB1 hB2 hO2 hp2 HR HT EW HB
  generalize w1.heap.size = B at *
  have cc := (unhide RS0).cellN 0 (by decide) (by decide)
  have hC := (unhide RS0).u32 0 (by have := hh; (try simp only [List.length_append, List.length_cons, List.length_nil, bQ, bP, aN, bB, aW, bC, bA]); omega)
  go_wp2_with fail
  refine hC.mono ?_
  rintro e uv ⟨rfl, lv1, R1⟩
  have RS1 := aA R1
  clear R1 RS0 hC cc
  have hC := (unhide RS1).fix 1 32 (by decide) (fun i hi => by unfold bE; (repeat (first | rw [if_pos (by omega)] | rw [if_neg (by omega)]))) (by decide) (by have := hh; (try simp only [List.length_append, List.length_cons, List.length_nil, bQ, bP, aN, bB, aW, bC, bA]); omega)
  go_wp2_with fail
  refine hC.mono ?_
  rintro e uw ⟨rfl, lv2, R2⟩
  have RS2 := aA R2
  clear R2 RS1 hC
  have hC := (unhide RS2).whole
  go_wp2_with fail
  refine hC.mono ?_
  rintro e w4 ⟨s, rfl, hs, hsl, hat, hB⟩
  have HE : Hid (RSP (tellL 10 (aB (aX.take 2)) x) w (.returned s.v) w4) := aA ⟨s, rfl, hs, by rw [hsl, unhide HL], hat, hB⟩
  exact sh87) : G := h
open Go.Proofs.Tryz renaming func60 → z54a, ntmps60 → z54b, underlying88 → z54d
open Go.Proofs.YtejagcngbgnogaaGreat renaming nq88 → z54c, bE → z138a, nq97 → z138b, nq88 → z138c, oB → z138d, nq10 → z138f, gU → z138bQ, fY → z138cQ, rs58 → z138rr
open Go.Proofs.YtejagcngbgnogaaGreat.Tryz renaming szTHead → z138e
theorem pA (x : Nat → Int) (w : World) (hok : ∀ i, i < 97 → (bE i).ok (x i)) :
  Calls Tryz.prog 60 #[.agg (cl bE 97 x).toArray] w (RSP (tellL 10 (aB (aX.take 2)) x) w) := iM
end
end Go.Proofs.YtejagcngbgnogaaGreat
