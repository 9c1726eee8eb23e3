import Derived.Test.YtejagcngbgnogaaGreatQShr
import Derived.Test.YtejagcngbgnogaaGreatQGazZ
import Derived.Deep.MidRow
import Derived.Deep.Cut
set_option maxHeartbeats 4000000
set_option maxRecDepth 100000
set_option linter.unusedSimpArgs false
set_option linter.unusedVariables false
namespace Go.Proofs.YtejagcngbgnogaaGreat
open Go.RowKit
theorem bQ (v : Int) : (beB 4 v).length = 4 := by simp [beB, leB]
theorem bP (v : Int) : (beB 8 v).length = 8 := by simp [beB, leB]
theorem bB (x : Nat → Int) : ((aB aF).enc x).length = 112 := by simp [aB, aF, aO, aV, aL, beB, leB, run]
theorem aW (x : Nat → Int) : ((aB (aF.take 4)).enc x).length = 48 := by simp [aB, aF, aO, aV, aL, beB, leB, run]
theorem bC (x : Nat → Int) : ((aB (aZ.take 4)).enc x).length = 44 := by simp [aB, aZ, aO, aV, aL, beB, leB, run]
theorem bA (x : Nat → Int) : ((aB (aH.take 3)).enc x).length = 16 := by simp [aB, aH, aO, aV, aL, beB, leB, run]
section
theorem rs143 {G : Prop} (h : G := by
 cases hf : (aB aY).fit x with
 | false =>
  exact sh46
 | true =>
  have HL : Hid (tellL 2 (aB aY) x = hdL 2 ++ (aB aF).enc x ++ beB 4 (x 99 % 4294967296) ++ run x 100 32) := aA (by unfold tellL; rw [if_pos (by rw [hf])]; try simp [aB, aY, aF, aO, aV, aL, bR, bN, bF, List.append_assoc])
  rw [hf] at hOf
  clear hf
  go_enter Tryz.func38, Tryz.ntmps38
  go_upto_region 1 with fail
  generalize hW : w.alloc (.cells X.toArray 57) = W at *
  have EW := aA hW
  clear hW
  refine wp_region_lit ?_
  refine wpList_load_mid rfl 57 (.tmp 1) rfl w.heap.size 0 rfl X _ (unhide HR) Tryz.underlying57 rfl hZ ?_
  simp only [Act.put]
  refine wpList_plain rfl fun K1 hK1 => ?_
  go_simp
  refine (hOf W).mono ?_
  rintro e w1 ⟨rfl, hB1⟩
  clear hOf
  refine hK1 _ _ ?_
  clear hK1 K1
  go_wp2_with fail
  refine (cR 2 w1).mono ?_
  rintro e w2 ⟨p, lv, rfl, hO2, hp2, hB2⟩
  have RS0 : Hid (RSt w 57 aS 132 x w1.heap.size p lv (hdL 2) w2) := aA (by rw [← unhide EW] at hB1 HT; exact RSt.new (unhide HT) hB1 hO2 hp2 hB2)
  clear hB1 hB2 hO2 hp2 HR HT EW HB
  generalize w1.heap.size = B at *
  have rr := (unhide RS0).part (unhide HSG)
  have hC := (unhide RS0).cert (unhide HSG) (by have := hh; (try simp only [List.length_append, List.length_cons, List.length_nil, bQ, bP, aN, bB, aW, bC, bA]); omega)
  rw [unhide EXC] at rr hC
  go_upto_region 4 with fail
  refine rgY2 ?_
  refine wpList_load_mid rfl 32 (.tmp 10) rfl w.heap.size 0 rfl XC _ rr Tryz.underlying32 rfl hZC ?_
  simp only [Act.put]
  refine wpList_plain rfl fun K1 hK1 => ?_
  go_simp
  refine hC.mono ?_
  rintro e uv ⟨rfl, lv1, R1⟩
  have RS1 := aA R1
  clear R1 RS0 hC rr
  refine hK1 _ _ ?_
  clear hK1 K1
  have cc := (unhide RS1).cellN 99 (by decide) (by decide)
  have hC := (unhide RS1).u32 99 (by have := hh; (try simp only [List.length_append, List.length_cons, List.length_nil, bQ, bP, aN, bB, aW, bC, bA]); omega)
  go_wp2_with fail
  refine hC.mono ?_
  rintro e uw ⟨rfl, lv2, R2⟩
  have RS2 := aA R2
  clear R2 RS1 hC cc
  exact sh125) : G := h
theorem rs46 {G : Prop} (h : G := by
 exact sh156) : G := h
open Go.Proofs.YtejagcngbgnogaaGreat renaming nq2 → z46a, aY → z46b, nq57 → z46e, nq2 → z48a, aY → z48b, nqe2 → z48aQ, nq100 → z125a, nq32 → z125b, aS → z125c, nqe100 → z125aQ, iF → z125bQ, aS → z138a, nq132 → z138b, nq57 → z138c, pE → z138d, nq2 → z138f, fV → z138bQ, iO → z138cQ, rs46 → z138rr, aS → z156a, nq132 → z156b, fV → z156bQ, rs143 → z156rr
open Go.Proofs.Tryz renaming func38 → z46c, ntmps38 → z46d, underlying57 → z46f
open Go.Proofs.YtejagcngbgnogaaGreat.Tryz renaming szTTicket → z138e
theorem pX (x : Nat → Int) (w : World) (hok : ∀ i, i < 132 → (aS i).ok (x i)) :
  Calls Tryz.prog 38 #[.agg (cl aS 132 x).toArray] w (REP (tellL 2 (aB aY) x) w) := iM
end
theorem pY (x : Nat → Int) (w : World) (hok : ∀ i, i < 163 → (aR i).ok (x i)) :
  Calls Tryz.prog 40 #[.agg (cl aR 163 x).toArray] w (REP (tellL 4 (aB aM) x) w) := by
 have b0 : Below w.heap.size w (w.alloc (.cells (cl aR 163 x).toArray 65)) := aJ w _
 have T0 : Trm (w.alloc (.cells (cl aR 163 x).toArray 65)) w.heap.size 65 aR 163 x := ⟨Arr.new w _ _, hok, by decide, by decide, by decide⟩
 have hSS : Seg aR 163 aR 163 0 := ⟨by omega, fun j hj => by rw [Nat.zero_add]⟩
 have hR := T0.part hSS
 rw [bF] at hR
 have HR := aA hR
 have HT := aA T0
 have hOf := fun W => mD x W hok
 have hZ : (Tryz.prog.info? 65).map (·.size) = some (cl aR 163 x).length := by rw [aC]; exact Tryz.szTFreeze
 have hh := mE 4
 have hSg : Seg aD 99 aR 163 0 := ⟨by omega, fun j hj => by rw [Nat.zero_add]; unfold aR; rw [if_pos hj]⟩
 have hZC : (Tryz.prog.info? 32).map (·.size) = some (cl aD 99 x).length := by rw [aC]; exact Tryz.szKCert
 have HB := aA b0
 have HS := aA hSS
 have HSG := aA hSg
 clear hSg
 clear b0 hok hR hSS T0
 generalize hX : cl aR 163 x = X at *
 generalize hXC : cl aD 99 x = XC at *
 have EXC := aA hXC
 clear hXC
 have EX := aA hX
 clear hX
 cases hf : (aB aM).fit x with
 | false =>
  have HL : Hid (tellL 4 (aB aM) x = []) := aA (by unfold tellL; rw [hf]; rfl)
  rw [unhide HL]
  rw [hf] at hOf
  clear hf
  go_enter Tryz.func40, Tryz.ntmps40
  go_upto_region 1 with fail
  generalize hW : w.alloc (.cells X.toArray 65) = W at *
  have EW := aA hW
  clear hW
  refine wp_region_lit ?_
  refine wpList_load_mid rfl 65 (.tmp 1) rfl w.heap.size 0 rfl X _ (unhide HR) Tryz.underlying65 rfl hZ ?_
  exact sh60
 | true =>
  have HL : Hid (tellL 4 (aB aM) x = hdL 4 ++ (aB aF).enc x ++ run x 99 64) := aA (by unfold tellL; rw [if_pos (by rw [hf])]; try simp [aB, aM, aF, aO, aV, aL, bR, bN, bF, List.append_assoc])
  rw [hf] at hOf
  clear hf
  go_enter Tryz.func40, Tryz.ntmps40
  go_upto_region 1 with fail
  generalize hW : w.alloc (.cells X.toArray 65) = W at *
  have EW := aA hW
  clear hW
  refine wp_region_lit ?_
  refine wpList_load_mid rfl 65 (.tmp 1) rfl w.heap.size 0 rfl X _ (unhide HR) Tryz.underlying65 rfl hZ ?_
  simp only [Act.put]
  refine wpList_plain rfl fun K1 hK1 => ?_
  go_simp
  refine (hOf W).mono ?_
  rintro e w1 ⟨rfl, hB1⟩
  clear hOf
  refine hK1 _ _ ?_
  clear hK1 K1
  go_wp2_with fail
  refine (cR 4 w1).mono ?_
  rintro e w2 ⟨p, lv, rfl, hO2, hp2, hB2⟩
  have RS0 : Hid (RSt w 65 aR 163 x w1.heap.size p lv (hdL 4) w2) := aA (by rw [← unhide EW] at hB1 HT; exact RSt.new (unhide HT) hB1 hO2 hp2 hB2)
  clear hB1 hB2 hO2 hp2 HR HT EW HB
  generalize w1.heap.size = B at *
  have rr := (unhide RS0).part (unhide HSG)
  have hC := (unhide RS0).cert (unhide HSG) (by have := hh; (try simp only [List.length_append, List.length_cons, List.length_nil, bQ, bP, aN, bB, aW, bC, bA]); omega)
  rw [unhide EXC] at rr hC
  go_upto_region 4 with fail
  refine rgY2 ?_
  refine wpList_load_mid rfl 32 (.tmp 10) rfl w.heap.size 0 rfl XC _ rr Tryz.underlying32 rfl hZC ?_
  simp only [Act.put]
  refine wpList_plain rfl fun K1 hK1 => ?_
  go_simp
  refine hC.mono ?_
  rintro e uv ⟨rfl, lv1, R1⟩
  have RS1 := aA R1
  clear R1 RS0 hC rr
  refine hK1 _ _ ?_
  clear hK1 K1
  have hC := (unhide RS1).fix 99 64 (by decide) (fun i hi => by unfold aR; (repeat (first | rw [if_pos (by omega)] | rw [if_neg (by omega)]))) (by decide) (by have := hh; (try simp only [List.length_append, List.length_cons, List.length_nil, bQ, bP, aN, bB, aW, bC, bA]); omega)
  go_wp2_with fail
  refine hC.mono ?_
  rintro e uw ⟨rfl, lv2, R2⟩
  have RS2 := aA R2
  clear R2 RS1 hC
  have hC := (unhide RS2).whole
  go_wp2_with fail
  refine hC.mono ?_
  rintro e w4 ⟨s, rfl, hs, hsl, hat, hB⟩
  have hne : tellL 4 (aB aM) x ≠ [] := fun h => by rw [unhide HL] at h; simp [hdL] at h
  have HE : Hid (REP (tellL 4 (aB aM) x) w (.returned (.tuple #[s.v, .int .i64 0])) w4) := aA ⟨s, by rw [if_neg hne], hs, by rw [hsl, unhide HL], hat, hB⟩
  clear hC hs hsl hat hB hne
  exact sh167
theorem nK (x : Nat → Int) (w : World) (hok : ∀ i, i < 163 → (aG i).ok (x i)) :
  Calls Tryz.prog 42 #[.agg (cl aG 163 x).toArray] w (REP (tellL 6 (aB aE) x) w) := by
 have b0 : Below w.heap.size w (w.alloc (.cells (cl aG 163 x).toArray 72)) := aJ w _
 have T0 : Trm (w.alloc (.cells (cl aG 163 x).toArray 72)) w.heap.size 72 aG 163 x := ⟨Arr.new w _ _, hok, by decide, by decide, by decide⟩
 have hSS : Seg aG 163 aG 163 0 := ⟨by omega, fun j hj => by rw [Nat.zero_add]⟩
 have hR := T0.part hSS
 rw [bF] at hR
 have HR := aA hR
 have HT := aA T0
 have hOf := fun W => jP x W hok
 have hZ : (Tryz.prog.info? 72).map (·.size) = some (cl aG 163 x).length := by rw [aC]; exact Tryz.szTRevocation
 have hh := mE 6
 have hSg : Seg aD 99 aG 163 0 := ⟨by omega, fun j hj => by rw [Nat.zero_add]; unfold aG; rw [if_pos hj]⟩
 have hZC : (Tryz.prog.info? 32).map (·.size) = some (cl aD 99 x).length := by rw [aC]; exact Tryz.szKCert
 have HB := aA b0
 have HS := aA hSS
 have HSG := aA hSg
 clear hSg
 clear b0 hok hR hSS T0
 generalize hX : cl aG 163 x = X at *
 generalize hXC : cl aD 99 x = XC at *
 have EXC := aA hXC
 clear hXC
 have EX := aA hX
 clear hX
 cases hf : (aB aE).fit x with
 | false =>
  have HL : Hid (tellL 6 (aB aE) x = []) := aA (by unfold tellL; rw [hf]; rfl)
  rw [unhide HL]
  rw [hf] at hOf
  clear hf
  go_enter Tryz.func42, Tryz.ntmps42
  go_upto_region 1 with fail
  generalize hW : w.alloc (.cells X.toArray 72) = W at *
  have EW := aA hW
  clear hW
  refine wp_region_lit ?_
  refine wpList_load_mid rfl 72 (.tmp 1) rfl w.heap.size 0 rfl X _ (unhide HR) Tryz.underlying72 rfl hZ ?_
  exact sh60
 | true =>
  have HL : Hid (tellL 6 (aB aE) x = hdL 6 ++ (aB aF).enc x ++ run x 99 64) := aA (by unfold tellL; rw [if_pos (by rw [hf])]; try simp [aB, aE, aF, aO, aV, aL, bR, bN, bF, List.append_assoc])
  rw [hf] at hOf
  clear hf
  go_enter Tryz.func42, Tryz.ntmps42
  go_upto_region 1 with fail
  generalize hW : w.alloc (.cells X.toArray 72) = W at *
  have EW := aA hW
  clear hW
  refine wp_region_lit ?_
  refine wpList_load_mid rfl 72 (.tmp 1) rfl w.heap.size 0 rfl X _ (unhide HR) Tryz.underlying72 rfl hZ ?_
  simp only [Act.put]
  refine wpList_plain rfl fun K1 hK1 => ?_
  go_simp
  refine (hOf W).mono ?_
  rintro e w1 ⟨rfl, hB1⟩
  clear hOf
  refine hK1 _ _ ?_
  clear hK1 K1
  go_wp2_with fail
  refine (cR 6 w1).mono ?_
  rintro e w2 ⟨p, lv, rfl, hO2, hp2, hB2⟩
  have RS0 : Hid (RSt w 72 aG 163 x w1.heap.size p lv (hdL 6) w2) := aA (by rw [← unhide EW] at hB1 HT; exact RSt.new (unhide HT) hB1 hO2 hp2 hB2)
  clear hB1 hB2 hO2 hp2 HR HT EW HB
  generalize w1.heap.size = B at *
  have rr := (unhide RS0).part (unhide HSG)
  have hC := (unhide RS0).cert (unhide HSG) (by have := hh; (try simp only [List.length_append, List.length_cons, List.length_nil, bQ, bP, aN, bB, aW, bC, bA]); omega)
  rw [unhide EXC] at rr hC
  go_upto_region 4 with fail
  refine rgY2 ?_
  refine wpList_load_mid rfl 32 (.tmp 10) rfl w.heap.size 0 rfl XC _ rr Tryz.underlying32 rfl hZC ?_
  simp only [Act.put]
  refine wpList_plain rfl fun K1 hK1 => ?_
  go_simp
  refine hC.mono ?_
  rintro e uv ⟨rfl, lv1, R1⟩
  have RS1 := aA R1
  clear R1 RS0 hC rr
  refine hK1 _ _ ?_
  clear hK1 K1
  have hC := (unhide RS1).fix 99 64 (by decide) (fun i hi => by unfold aG; (repeat (first | rw [if_pos (by omega)] | rw [if_neg (by omega)]))) (by decide) (by have := hh; (try simp only [List.length_append, List.length_cons, List.length_nil, bQ, bP, aN, bB, aW, bC, bA]); omega)
  go_wp2_with fail
  refine hC.mono ?_
  rintro e uw ⟨rfl, lv2, R2⟩
  have RS2 := aA R2
  clear R2 RS1 hC
  have hC := (unhide RS2).whole
  go_wp2_with fail
  refine hC.mono ?_
  rintro e w4 ⟨s, rfl, hs, hsl, hat, hB⟩
  have hne : tellL 6 (aB aE) x ≠ [] := fun h => by rw [unhide HL] at h; simp [hdL] at h
  have HE : Hid (REP (tellL 6 (aB aE) x) w (.returned (.tuple #[s.v, .int .i64 0])) w4) := aA ⟨s, by rw [if_neg hne], hs, by rw [hsl, unhide HL], hat, hB⟩
  clear hC hs hsl hat hB hne
  exact sh167
section
theorem rs47 {G : Prop} (h : G := by
 have HB := aA b0
 have HS := aA hSS
 clear b0 hok hR hSS T0
 generalize hX : cl bI 99 x = X at *
 have EX := aA hX
 clear hX
 cases hf : (aB aZ).fit x with
 | false =>
  exact sh46
 | true =>
  have HL : Hid (tellL 5 (aB aZ) x = hdL 5 ++ (aB (aZ.take 4)).enc x ++ run x 35 64) := aA (by unfold tellL; rw [if_pos (by rw [hf])]; try simp [aB, aZ, aF, aO, aV, aL, bR, bN, bF, List.append_assoc])
  exact sh115) : G := h
open Go.Proofs.YtejagcngbgnogaaGreat renaming nq5 → z46a, aZ → z46b, nq69 → z46e, nq5 → z48a, aZ → z48b, nqe5 → z48aQ, nq69 → z115c, nq5 → z115e, bI → z115f, nq99 → z115g, rsAck → z115h, nq35 → z115i, nqe35 → z115iQ, bI → z138a, nq99 → z138b, nq69 → z138c, pF → z138d, nq5 → z138f, dI → z138bQ, gL → z138cQ, rs47 → z138rr
open Go.Proofs.Tryz renaming func41 → z46c, ntmps41 → z46d, underlying69 → z46f, func41 → z115a, ntmps41 → z115b, underlying69 → z115d
open Go.Proofs.YtejagcngbgnogaaGreat.Tryz renaming szTAck → z138e
theorem tO (x : Nat → Int) (w : World) (hok : ∀ i, i < 99 → (bI i).ok (x i)) :
  Calls Tryz.prog 41 #[.agg (cl bI 99 x).toArray] w (REP (tellL 5 (aB aZ) x) w) := iM
end
end Go.Proofs.YtejagcngbgnogaaGreat

set_option maxHeartbeats 4000000
set_option maxRecDepth 100000
set_option linter.unusedSimpArgs false
set_option linter.unusedVariables false
namespace Go.Proofs.YtejagcngbgnogaaGreat
open Go.RowKit
section
theorem rs48 {G : Prop} (h : G := by
 have HB := aA b0
 have HS := aA hSS
 clear b0 hok hR hSS T0
 generalize hX : cl aU 65 x = X at *
 have EX := aA hX
 clear hX
 cases hf : (aB aQ).fit x with
 | false =>
  exact sh46
 | true =>
  have HL : Hid (tellL 7 (aB aQ) x = hdL 7 ++ beB 4 (x 0 % 4294967296) ++ run x 1 64) := aA (by unfold tellL; rw [if_pos (by rw [hf])]; try simp [aB, aQ, aF, aO, aV, aL, bR, bN, bF, List.append_assoc])
  rw [hf] at hOf
  clear hf
  go_enter Tryz.func43, Tryz.ntmps43
  go_upto_region 1 with fail
  generalize hW : w.alloc (.cells X.toArray 76) = W at *
  have EW := aA hW
  clear hW
  refine wp_region_lit ?_
  refine wpList_load_mid rfl 76 (.tmp 1) rfl w.heap.size 0 rfl X _ (unhide HR) Tryz.underlying76 rfl hZ ?_
  simp only [Act.put]
  refine wpList_plain rfl fun K1 hK1 => ?_
  go_simp
  refine (hOf W).mono ?_
  rintro e w1 ⟨rfl, hB1⟩
  clear hOf
  refine hK1 _ _ ?_
  clear hK1 K1
  go_wp2_with fail
  refine (cR 7 w1).mono ?_
  rintro e w2 ⟨p, lv, rfl, hO2, hp2, hB2⟩
  have RS0 : Hid (RSt w 76 aU 65 x w1.heap.size p lv (hdL 7) w2) := aA (by rw [← unhide EW] at hB1 HT; exact RSt.new (unhide HT) hB1 hO2 hp2 hB2)
  clear hB1 hB2 hO2 hp2 HR HT EW HB
  generalize w1.heap.size = B at *
  have cc := (unhide RS0).cellN 0 (by decide) (by decide)
  have hC := (unhide RS0).u32 0 (by have := hh; (try simp only [List.length_append, List.length_cons, List.length_nil, bQ, bP, aN, bB, aW, bC, bA]); omega)
  go_wp2_with fail
  refine hC.mono ?_
  rintro e uv ⟨rfl, lv1, R1⟩
  have RS1 := aA R1
  clear R1 RS0 hC cc
  have hC := (unhide RS1).fix 1 64 (by decide) (fun i hi => by unfold aU; (repeat (first | rw [if_pos (by omega)] | rw [if_neg (by omega)]))) (by decide) (by have := hh; (try simp only [List.length_append, List.length_cons, List.length_nil, bQ, bP, aN, bB, aW, bC, bA]); omega)
  go_wp2_with fail
  refine hC.mono ?_
  rintro e uw ⟨rfl, lv2, R2⟩
  have RS2 := aA R2
  clear R2 RS1 hC
  have hC := (unhide RS2).whole
  exact sh48) : G := h
open Go.Proofs.YtejagcngbgnogaaGreat renaming nq7 → z46a, aQ → z46b, nq76 → z46e, nq7 → z48a, aQ → z48b, nqe7 → z48aQ, aU → z138a, nq65 → z138b, nq76 → z138c, mZ → z138d, nq7 → z138f, dP → z138bQ, gV → z138cQ, rs48 → z138rr
open Go.Proofs.Tryz renaming func43 → z46c, ntmps43 → z46d, underlying76 → z46f
open Go.Proofs.YtejagcngbgnogaaGreat.Tryz renaming szTFloor → z138e
theorem rE (x : Nat → Int) (w : World) (hok : ∀ i, i < 65 → (aU i).ok (x i)) :
  Calls Tryz.prog 43 #[.agg (cl aU 65 x).toArray] w (REP (tellL 7 (aB aQ) x) w) := iM
end
section
theorem rs49 {G : Prop} (h : G := by
 have HB := aA b0
 have HS := aA hSS
 clear b0 hok hR hSS T0
 generalize hX : cl aK 67 x = X at *
 have EX := aA hX
 clear hX
 cases hf : (aB aH).fit x with
 | false =>
  exact sh46
 | true =>
  have HL : Hid (tellL 8 (aB aH) x = hdL 8 ++ (aB (aH.take 3)).enc x ++ run x 3 64) := aA (by unfold tellL; rw [if_pos (by rw [hf])]; try simp [aB, aH, aF, aO, aV, aL, bR, bN, bF, List.append_assoc])
  exact sh115) : G := h
open Go.Proofs.YtejagcngbgnogaaGreat renaming nq8 → z46a, aH → z46b, nq80 → z46e, nq8 → z48a, aH → z48b, nqe8 → z48aQ, nq80 → z115c, nq8 → z115e, aK → z115f, nq67 → z115g, rsReceipt → z115h, nq3 → z115i, nqe3 → z115iQ, aK → z138a, nq67 → z138b, nq80 → z138c, lK → z138d, nq8 → z138f, gW → z138bQ, gK → z138cQ, rs49 → z138rr
open Go.Proofs.Tryz renaming func44 → z46c, ntmps44 → z46d, underlying80 → z46f, func44 → z115a, ntmps44 → z115b, underlying80 → z115d
open Go.Proofs.YtejagcngbgnogaaGreat.Tryz renaming szTReceipt → z138e
theorem oY (x : Nat → Int) (w : World) (hok : ∀ i, i < 67 → (aK i).ok (x i)) :
  Calls Tryz.prog 44 #[.agg (cl aK 67 x).toArray] w (REP (tellL 8 (aB aH) x) w) := iM
end
section
theorem rs50 {G : Prop} (h : G := by
 have HB := aA b0
 have HS := aA hSS
 clear b0 hok hR hSS T0
 generalize hX : cl bD 34 x = X at *
 have EX := aA hX
 clear hX
 cases hf : (aB bH).fit x with
 | false =>
  exact sh46
 | true =>
  have HL : Hid (tellL 9 (aB bH) x = hdL 9 ++ beB 4 (x 0 % 4294967296) ++ beB 8 (x 1 % 18446744073709551616) ++ run x 2 32) := aA (by unfold tellL; rw [if_pos (by rw [hf])]; try simp [aB, bH, aF, aO, aV, aL, bR, bN, bF, List.append_assoc])
  rw [hf] at hOf
  clear hf
  go_enter Tryz.func45, Tryz.ntmps45
  go_upto_region 1 with fail
  generalize hW : w.alloc (.cells X.toArray 84) = W at *
  have EW := aA hW
  clear hW
  refine wp_region_lit ?_
  refine wpList_load_mid rfl 84 (.tmp 1) rfl w.heap.size 0 rfl X _ (unhide HR) Tryz.underlying84 rfl hZ ?_
  simp only [Act.put]
  refine wpList_plain rfl fun K1 hK1 => ?_
  go_simp
  refine (hOf W).mono ?_
  rintro e w1 ⟨rfl, hB1⟩
  clear hOf
  refine hK1 _ _ ?_
  clear hK1 K1
  go_wp2_with fail
  refine (cR 9 w1).mono ?_
  rintro e w2 ⟨p, lv, rfl, hO2, hp2, hB2⟩
  have RS0 : Hid (RSt w 84 bD 34 x w1.heap.size p lv (hdL 9) w2) := aA (by rw [← unhide EW] at hB1 HT; exact RSt.new (unhide HT) hB1 hO2 hp2 hB2)
  clear hB1 hB2 hO2 hp2 HR HT EW HB
  generalize w1.heap.size = B at *
  have cc := (unhide RS0).cellN 0 (by decide) (by decide)
  have hC := (unhide RS0).u32 0 (by have := hh; (try simp only [List.length_append, List.length_cons, List.length_nil, bQ, bP, aN, bB, aW, bC, bA]); omega)
  go_wp2_with fail
  refine hC.mono ?_
  rintro e uv ⟨rfl, lv1, R1⟩
  have RS1 := aA R1
  clear R1 RS0 hC cc
  have cc := (unhide RS1).cellN 1 (by decide) (by decide)
  have hC := (unhide RS1).u64 1 (by have := hh; (try simp only [List.length_append, List.length_cons, List.length_nil, bQ, bP, aN, bB, aW, bC, bA]); omega)
  go_wp2_with fail
  refine hC.mono ?_
  rintro e uw ⟨rfl, lv2, R2⟩
  have RS2 := aA R2
  clear R2 RS1 hC cc
  exact sh125) : G := h
open Go.Proofs.YtejagcngbgnogaaGreat renaming nq9 → z46a, bH → z46b, nq84 → z46e, nq9 → z48a, bH → z48b, nqe9 → z48aQ, nq2 → z125a, nq32 → z125b, bD → z125c, nqe2 → z125aQ, iF → z125bQ, bD → z138a, nq34 → z138b, nq84 → z138c, qQ → z138d, nq9 → z138f, iP → z138bQ, iD → z138cQ, rs50 → z138rr
open Go.Proofs.Tryz renaming func45 → z46c, ntmps45 → z46d, underlying84 → z46f
open Go.Proofs.YtejagcngbgnogaaGreat.Tryz renaming szTOrder → z138e
theorem rD (x : Nat → Int) (w : World) (hok : ∀ i, i < 34 → (bD i).ok (x i)) :
  Calls Tryz.prog 45 #[.agg (cl bD 34 x).toArray] w (REP (tellL 9 (aB bH) x) w) := iM
end
section
theorem rs51 {G : Prop} (h : G := by
 have HB := aA b0
 have HS := aA hSS
 clear b0 hok hR hSS T0
 generalize hX : cl bE 97 x = X at *
 have EX := aA hX
 clear hX
 cases hf : (aB aX).fit x with
 | false =>
  exact sh46
 | true =>
  have HL : Hid (tellL 10 (aB aX) x = hdL 10 ++ beB 4 (x 0 % 4294967296) ++ run x 1 32 ++ run x 33 64) := aA (by unfold tellL; rw [if_pos (by rw [hf])]; try simp [aB, aX, aF, aO, aV, aL, bR, bN, bF, List.append_assoc])
  rw [hf] at hOf
  clear hf
  go_enter Tryz.func46, Tryz.ntmps46
  go_upto_region 1 with fail
  generalize hW : w.alloc (.cells X.toArray 88) = W at *
  have EW := aA hW
  clear hW
  refine wp_region_lit ?_
  refine wpList_load_mid rfl 88 (.tmp 1) rfl w.heap.size 0 rfl X _ (unhide HR) Tryz.underlying88 rfl hZ ?_
  simp only [Act.put]
  refine wpList_plain rfl fun K1 hK1 => ?_
  go_simp
  refine (hOf W).mono ?_
  rintro e w1 ⟨rfl, hB1⟩
  clear hOf
  refine hK1 _ _ ?_
  clear hK1 K1
  go_wp2_with fail
  refine (cR 10 w1).mono ?_
  rintro e w2 ⟨p, lv, rfl, hO2, hp2, hB2⟩
  have RS0 : Hid (RSt w 88 bE 97 x w1.heap.size p lv (hdL 10) w2) := aA (by rw [← unhide EW] at hB1 HT; exact RSt.new (unhide HT) hB1 hO2 hp2 hB2)
  clear hB1 hB2 hO2 hp2 HR HT EW HB
  generalize w1.heap.size = B at *
  have cc := (unhide RS0).cellN 0 (by decide) (by decide)
  have hC := (unhide RS0).u32 0 (by have := hh; (try simp only [List.length_append, List.length_cons, List.length_nil, bQ, bP, aN, bB, aW, bC, bA]); omega)
  go_wp2_with fail
  refine hC.mono ?_
  rintro e uv ⟨rfl, lv1, R1⟩
  have RS1 := aA R1
  clear R1 RS0 hC cc
  have hC := (unhide RS1).fix 1 32 (by decide) (fun i hi => by unfold bE; (repeat (first | rw [if_pos (by omega)] | rw [if_neg (by omega)]))) (by decide) (by have := hh; (try simp only [List.length_append, List.length_cons, List.length_nil, bQ, bP, aN, bB, aW, bC, bA]); omega)
  go_wp2_with fail
  refine hC.mono ?_
  rintro e uw ⟨rfl, lv2, R2⟩
  have RS2 := aA R2
  clear R2 RS1 hC
  exact sh125) : G := h
open Go.Proofs.YtejagcngbgnogaaGreat renaming nq10 → z46a, aX → z46b, nq88 → z46e, nq10 → z48a, aX → z48b, nqe10 → z48aQ, nq33 → z125a, nq64 → z125b, bE → z125c, nqe33 → z125aQ, nqe64 → z125bQ, bE → z138a, nq97 → z138b, nq88 → z138c, oB → z138d, nq10 → z138f, gU → z138bQ, fY → z138cQ, rs51 → z138rr
open Go.Proofs.Tryz renaming func46 → z46c, ntmps46 → z46d, underlying88 → z46f
open Go.Proofs.YtejagcngbgnogaaGreat.Tryz renaming szTHead → z138e
theorem sI (x : Nat → Int) (w : World) (hok : ∀ i, i < 97 → (bE i).ok (x i)) :
  Calls Tryz.prog 46 #[.agg (cl bE 97 x).toArray] w (REP (tellL 10 (aB aX) x) w) := iM
end
end Go.Proofs.YtejagcngbgnogaaGreat
