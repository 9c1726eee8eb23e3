import Derived.Test.YtejagcngbgnogaaGreatQShr
import Derived.Test.YtejagcngbgnogaaGreatQOfeW
import Derived.Test.YtejagcngbgnogaaGreatQGbaZ
import Derived.Deep.MidRow
import Derived.Deep.Cut
set_option maxHeartbeats 4000000
set_option maxRecDepth 100000
set_option linter.unusedSimpArgs false
set_option linter.unusedVariables false
namespace Go.Proofs.YtejagcngbgnogaaGreat
open Go.RowKit
section
theorem rs146 {G : Prop} (h : G := by
 cases hf : (aB aT).fit x with
 | false =>
  exact sh46
 | true =>
  cases hm0 : decide (x 132 ≠ 0) with
  | true =>
   have mk0 : x 132 ≠ 0 := by simpa using hm0
   have MK0 := aA hm0
   clear hm0
   cases hm1 : decide (x 197 ≠ 0) with
   | true =>
    have mk1 : x 197 ≠ 0 := by simpa using hm1
    have MK1 := aA hm1
    clear hm1
    have HL : Hid (tellL 3 (aB aT) x = hdL 3 ++ (aB aF).enc x ++ beB 4 (x 99 % 4294967296) ++ run x 100 32 ++ [if true then 1 else 0] ++ run x 133 64 ++ [if true then 1 else 0] ++ run x 198 64) := aA (by unfold tellL; rw [if_pos (by rw [hf])]; try simp [aB, aT, aF, aO, aV, aL, bR, bN, bF, List.append_assoc, mk0, mk1])
    rw [hf] at hOf
    clear hf mk0 mk1
    go_enter Tryz.func39, Tryz.ntmps39
    go_upto_region 1 with fail
    generalize hW : w.alloc (.cells X.toArray 61) = W at *
    have EW := aA hW
    clear hW
    refine wp_region_lit ?_
    refine wpList_load_mid rfl 61 (.tmp 1) rfl w.heap.size 0 rfl X _ (unhide HR) Tryz.underlying61 rfl hZ ?_
    simp only [Act.put]
    refine wpList_plain rfl fun K1 hK1 => ?_
    go_simp
    refine (hOf W).mono ?_
    rintro e w1 ⟨rfl, hB1⟩
    clear hOf
    refine hK1 _ _ ?_
    clear hK1 K1
    go_wp2_with fail
    refine (cR 3 w1).mono ?_
    rintro e w2 ⟨p, lv, rfl, hO2, hp2, hB2⟩
    have RS0 : Hid (RSt w 61 aI 262 x w1.heap.size p lv (hdL 3) w2) := aA (by rw [← unhide EW] at hB1 HT; exact RSt.new (unhide HT) hB1 hO2 hp2 hB2)
    clear hB1 hB2 hO2 hp2 HR HT EW HB
    generalize w1.heap.size = B at *
    have rr := (unhide RS0).part (unhide HSG)
    have hC := (unhide RS0).cert (unhide HSG) (by have := hh; (try simp only [List.length_append, List.length_cons, List.length_nil, bQ, bP, aN, bB, aW, bC, bA]); omega)
    rw [unhide EXC] at rr hC
    go_upto_region 4 with fail
    refine rgY2 ?_
    refine wpList_load_mid rfl 32 (.tmp 10) rfl w.heap.size 0 rfl XC _ rr Tryz.underlying32 rfl hZC ?_
    simp only [Act.put]
    refine wpList_plain rfl fun K1 hK1 => ?_
    go_simp
    refine hC.mono ?_
    rintro e uv ⟨rfl, lv1, R1⟩
    have RS1 := aA R1
    clear R1 RS0 hC rr
    refine hK1 _ _ ?_
    clear hK1 K1
    have cc := (unhide RS1).cellN 99 (by decide) (by decide)
    have hC := (unhide RS1).u32 99 (by have := hh; (try simp only [List.length_append, List.length_cons, List.length_nil, bQ, bP, aN, bB, aW, bC, bA]); omega)
    go_wp2_with fail
    refine hC.mono ?_
    rintro e uw ⟨rfl, lv2, R2⟩
    have RS2 := aA R2
    clear R2 RS1 hC cc
    have hC := (unhide RS2).fix 100 32 (by decide) (fun i hi => by unfold aI; (repeat (first | rw [if_pos (by omega)] | rw [if_neg (by omega)]))) (by decide) (by have := hh; (try simp only [List.length_append, List.length_cons, List.length_nil, bQ, bP, aN, bB, aW, bC, bA]); omega)
    go_wp2_with fail
    refine hC.mono ?_
    rintro e ux ⟨rfl, lv3, R3⟩
    have RS3 := aA R3
    clear R3 RS2 hC
    have cc := (unhide RS3).cellT 132 (by decide) (by decide)
    rw [unhide MK0] at cc
    have hC := (unhide RS3).bit true (by have := hh; (try simp only [List.length_append, List.length_cons, List.length_nil, bQ, bP, aN, bB, aW, bC, bA]); omega)
    go_wp2_with fail
    refine hC.mono ?_
    rintro e uy ⟨rfl, lv4, R4⟩
    have RS4 := aA R4
    clear R4 RS3 hC cc
    have cc := (unhide RS4).cellT 132 (by decide) (by decide)
    rw [unhide MK0] at cc
    have hC := (unhide RS4).fix 133 64 (by decide) (fun i hi => by unfold aI; (repeat (first | rw [if_pos (by omega)] | rw [if_neg (by omega)]))) (by decide) (by have := hh; (try simp only [List.length_append, List.length_cons, List.length_nil, bQ, bP, aN, bB, aW, bC, bA]); omega)
    go_wp2_with fail
    refine hC.mono ?_
    rintro e uz ⟨rfl, lv5, R5⟩
    have RS5 := aA R5
    clear R5 RS4 hC cc
    have cc := (unhide RS5).cellT 197 (by decide) (by decide)
    rw [unhide MK1] at cc
    have hC := (unhide RS5).bit true (by have := hh; (try simp only [List.length_append, List.length_cons, List.length_nil, bQ, bP, aN, bB, aW, bC, bA]); omega)
    go_wp2_with fail
    refine hC.mono ?_
    rintro e ua ⟨rfl, lv6, R6⟩
    have RS6 := aA R6
    clear R6 RS5 hC cc
    have cc := (unhide RS6).cellT 197 (by decide) (by decide)
    rw [unhide MK1] at cc
    have hC := (unhide RS6).fix 198 64 (by decide) (fun i hi => by unfold aI; (repeat (first | rw [if_pos (by omega)] | rw [if_neg (by omega)]))) (by decide) (by have := hh; (try simp only [List.length_append, List.length_cons, List.length_nil, bQ, bP, aN, bB, aW, bC, bA]); omega)
    go_wp2_with fail
    refine hC.mono ?_
    rintro e ub ⟨rfl, lv7, R7⟩
    have RS7 := aA R7
    clear R7 RS6 hC cc
    have hC := (unhide RS7).whole
    exact sh48
   | false =>
    have mk1 : x 197 = 0 := by simpa using hm1
    have MK1 := aA hm1
    clear hm1
    have HL : Hid (tellL 3 (aB aT) x = hdL 3 ++ (aB aF).enc x ++ beB 4 (x 99 % 4294967296) ++ run x 100 32 ++ [if true then 1 else 0] ++ run x 133 64 ++ [if false then 1 else 0]) := aA (by unfold tellL; rw [if_pos (by rw [hf])]; try simp [aB, aT, aF, aO, aV, aL, bR, bN, bF, List.append_assoc, mk0, mk1])
    rw [hf] at hOf
    clear hf mk0 mk1
    go_enter Tryz.func39, Tryz.ntmps39
    go_upto_region 1 with fail
    generalize hW : w.alloc (.cells X.toArray 61) = W at *
    have EW := aA hW
    clear hW
    refine wp_region_lit ?_
    refine wpList_load_mid rfl 61 (.tmp 1) rfl w.heap.size 0 rfl X _ (unhide HR) Tryz.underlying61 rfl hZ ?_
    simp only [Act.put]
    refine wpList_plain rfl fun K1 hK1 => ?_
    go_simp
    refine (hOf W).mono ?_
    rintro e w1 ⟨rfl, hB1⟩
    clear hOf
    refine hK1 _ _ ?_
    clear hK1 K1
    go_wp2_with fail
    refine (cR 3 w1).mono ?_
    rintro e w2 ⟨p, lv, rfl, hO2, hp2, hB2⟩
    have RS0 : Hid (RSt w 61 aI 262 x w1.heap.size p lv (hdL 3) w2) := aA (by rw [← unhide EW] at hB1 HT; exact RSt.new (unhide HT) hB1 hO2 hp2 hB2)
    clear hB1 hB2 hO2 hp2 HR HT EW HB
    generalize w1.heap.size = B at *
    have rr := (unhide RS0).part (unhide HSG)
    have hC := (unhide RS0).cert (unhide HSG) (by have := hh; (try simp only [List.length_append, List.length_cons, List.length_nil, bQ, bP, aN, bB, aW, bC, bA]); omega)
    rw [unhide EXC] at rr hC
    go_upto_region 4 with fail
    refine rgY2 ?_
    refine wpList_load_mid rfl 32 (.tmp 10) rfl w.heap.size 0 rfl XC _ rr Tryz.underlying32 rfl hZC ?_
    simp only [Act.put]
    refine wpList_plain rfl fun K1 hK1 => ?_
    go_simp
    refine hC.mono ?_
    rintro e uv ⟨rfl, lv1, R1⟩
    have RS1 := aA R1
    clear R1 RS0 hC rr
    refine hK1 _ _ ?_
    clear hK1 K1
    have cc := (unhide RS1).cellN 99 (by decide) (by decide)
    have hC := (unhide RS1).u32 99 (by have := hh; (try simp only [List.length_append, List.length_cons, List.length_nil, bQ, bP, aN, bB, aW, bC, bA]); omega)
    go_wp2_with fail
    refine hC.mono ?_
    rintro e uw ⟨rfl, lv2, R2⟩
    have RS2 := aA R2
    clear R2 RS1 hC cc
    have hC := (unhide RS2).fix 100 32 (by decide) (fun i hi => by unfold aI; (repeat (first | rw [if_pos (by omega)] | rw [if_neg (by omega)]))) (by decide) (by have := hh; (try simp only [List.length_append, List.length_cons, List.length_nil, bQ, bP, aN, bB, aW, bC, bA]); omega)
    go_wp2_with fail
    refine hC.mono ?_
    rintro e ux ⟨rfl, lv3, R3⟩
    have RS3 := aA R3
    clear R3 RS2 hC
    have cc := (unhide RS3).cellT 132 (by decide) (by decide)
    rw [unhide MK0] at cc
    have hC := (unhide RS3).bit true (by have := hh; (try simp only [List.length_append, List.length_cons, List.length_nil, bQ, bP, aN, bB, aW, bC, bA]); omega)
    go_wp2_with fail
    refine hC.mono ?_
    rintro e uy ⟨rfl, lv4, R4⟩
    have RS4 := aA R4
    clear R4 RS3 hC cc
    have cc := (unhide RS4).cellT 132 (by decide) (by decide)
    rw [unhide MK0] at cc
    have hC := (unhide RS4).fix 133 64 (by decide) (fun i hi => by unfold aI; (repeat (first | rw [if_pos (by omega)] | rw [if_neg (by omega)]))) (by decide) (by have := hh; (try simp only [List.length_append, List.length_cons, List.length_nil, bQ, bP, aN, bB, aW, bC, bA]); omega)
    go_wp2_with fail
    refine hC.mono ?_
    rintro e uz ⟨rfl, lv5, R5⟩
    have RS5 := aA R5
    clear R5 RS4 hC cc
    have cc := (unhide RS5).cellT 197 (by decide) (by decide)
    rw [unhide MK1] at cc
    have hC := (unhide RS5).bit false (by have := hh; (try simp only [List.length_append, List.length_cons, List.length_nil, bQ, bP, aN, bB, aW, bC, bA]); omega)
    go_wp2_with fail
    refine hC.mono ?_
    rintro e ua ⟨rfl, lv6, R6⟩
    have RS6 := aA R6
    clear R6 RS5 hC cc
    have cc := (unhide RS6).cellT 197 (by decide) (by decide)
    rw [unhide MK1] at cc
    have hC := (unhide RS6).whole
    exact sh48
  | false =>
   have mk0 : x 132 = 0 := by simpa using hm0
   have MK0 := aA hm0
   clear hm0
   cases hm1 : decide (x 197 ≠ 0) with
   | true =>
    have mk1 : x 197 ≠ 0 := by simpa using hm1
    have MK1 := aA hm1
    clear hm1
    have HL : Hid (tellL 3 (aB aT) x = hdL 3 ++ (aB aF).enc x ++ beB 4 (x 99 % 4294967296) ++ run x 100 32 ++ [if false then 1 else 0] ++ [if true then 1 else 0] ++ run x 198 64) := aA (by unfold tellL; rw [if_pos (by rw [hf])]; try simp [aB, aT, aF, aO, aV, aL, bR, bN, bF, List.append_assoc, mk0, mk1])
    rw [hf] at hOf
    clear hf mk0 mk1
    go_enter Tryz.func39, Tryz.ntmps39
    go_upto_region 1 with fail
    generalize hW : w.alloc (.cells X.toArray 61) = W at *
    have EW := aA hW
    clear hW
    refine wp_region_lit ?_
    refine wpList_load_mid rfl 61 (.tmp 1) rfl w.heap.size 0 rfl X _ (unhide HR) Tryz.underlying61 rfl hZ ?_
    simp only [Act.put]
    refine wpList_plain rfl fun K1 hK1 => ?_
    go_simp
    refine (hOf W).mono ?_
    rintro e w1 ⟨rfl, hB1⟩
    clear hOf
    refine hK1 _ _ ?_
    clear hK1 K1
    go_wp2_with fail
    refine (cR 3 w1).mono ?_
    rintro e w2 ⟨p, lv, rfl, hO2, hp2, hB2⟩
    have RS0 : Hid (RSt w 61 aI 262 x w1.heap.size p lv (hdL 3) w2) := aA (by rw [← unhide EW] at hB1 HT; exact RSt.new (unhide HT) hB1 hO2 hp2 hB2)
    clear hB1 hB2 hO2 hp2 HR HT EW HB
    generalize w1.heap.size = B at *
    have rr := (unhide RS0).part (unhide HSG)
    have hC := (unhide RS0).cert (unhide HSG) (by have := hh; (try simp only [List.length_append, List.length_cons, List.length_nil, bQ, bP, aN, bB, aW, bC, bA]); omega)
    rw [unhide EXC] at rr hC
    go_upto_region 4 with fail
    refine rgY2 ?_
    refine wpList_load_mid rfl 32 (.tmp 10) rfl w.heap.size 0 rfl XC _ rr Tryz.underlying32 rfl hZC ?_
    simp only [Act.put]
    refine wpList_plain rfl fun K1 hK1 => ?_
    go_simp
    refine hC.mono ?_
    rintro e uv ⟨rfl, lv1, R1⟩
    have RS1 := aA R1
    clear R1 RS0 hC rr
    refine hK1 _ _ ?_
    clear hK1 K1
    have cc := (unhide RS1).cellN 99 (by decide) (by decide)
    have hC := (unhide RS1).u32 99 (by have := hh; (try simp only [List.length_append, List.length_cons, List.length_nil, bQ, bP, aN, bB, aW, bC, bA]); omega)
    go_wp2_with fail
    refine hC.mono ?_
    rintro e uw ⟨rfl, lv2, R2⟩
    have RS2 := aA R2
    clear R2 RS1 hC cc
    have hC := (unhide RS2).fix 100 32 (by decide) (fun i hi => by unfold aI; (repeat (first | rw [if_pos (by omega)] | rw [if_neg (by omega)]))) (by decide) (by have := hh; (try simp only [List.length_append, List.length_cons, List.length_nil, bQ, bP, aN, bB, aW, bC, bA]); omega)
    go_wp2_with fail
    refine hC.mono ?_
    rintro e ux ⟨rfl, lv3, R3⟩
    have RS3 := aA R3
    clear R3 RS2 hC
    have cc := (unhide RS3).cellT 132 (by decide) (by decide)
    rw [unhide MK0] at cc
    have hC := (unhide RS3).bit false (by have := hh; (try simp only [List.length_append, List.length_cons, List.length_nil, bQ, bP, aN, bB, aW, bC, bA]); omega)
    go_wp2_with fail
    refine hC.mono ?_
    rintro e uy ⟨rfl, lv4, R4⟩
    have RS4 := aA R4
    clear R4 RS3 hC cc
    have cc := (unhide RS4).cellT 132 (by decide) (by decide)
    rw [unhide MK0] at cc
    have cc := (unhide RS4).cellT 197 (by decide) (by decide)
    rw [unhide MK1] at cc
    have hC := (unhide RS4).bit true (by have := hh; (try simp only [List.length_append, List.length_cons, List.length_nil, bQ, bP, aN, bB, aW, bC, bA]); omega)
    go_wp2_with fail
    refine hC.mono ?_
    rintro e uz ⟨rfl, lv5, R5⟩
    have RS5 := aA R5
    clear R5 RS4 hC cc
    have cc := (unhide RS5).cellT 197 (by decide) (by decide)
    rw [unhide MK1] at cc
    have hC := (unhide RS5).fix 198 64 (by decide) (fun i hi => by unfold aI; (repeat (first | rw [if_pos (by omega)] | rw [if_neg (by omega)]))) (by decide) (by have := hh; (try simp only [List.length_append, List.length_cons, List.length_nil, bQ, bP, aN, bB, aW, bC, bA]); omega)
    go_wp2_with fail
    refine hC.mono ?_
    rintro e ua ⟨rfl, lv6, R6⟩
    have RS6 := aA R6
    clear R6 RS5 hC cc
    have hC := (unhide RS6).whole
    exact sh48
   | false =>
    have mk1 : x 197 = 0 := by simpa using hm1
    have MK1 := aA hm1
    clear hm1
    have HL : Hid (tellL 3 (aB aT) x = hdL 3 ++ (aB aF).enc x ++ beB 4 (x 99 % 4294967296) ++ run x 100 32 ++ [if false then 1 else 0] ++ [if false then 1 else 0]) := aA (by unfold tellL; rw [if_pos (by rw [hf])]; try simp [aB, aT, aF, aO, aV, aL, bR, bN, bF, List.append_assoc, mk0, mk1])
    rw [hf] at hOf
    clear hf mk0 mk1
    go_enter Tryz.func39, Tryz.ntmps39
    go_upto_region 1 with fail
    generalize hW : w.alloc (.cells X.toArray 61) = W at *
    have EW := aA hW
    clear hW
    refine wp_region_lit ?_
    refine wpList_load_mid rfl 61 (.tmp 1) rfl w.heap.size 0 rfl X _ (unhide HR) Tryz.underlying61 rfl hZ ?_
    simp only [Act.put]
    refine wpList_plain rfl fun K1 hK1 => ?_
    go_simp
    refine (hOf W).mono ?_
    rintro e w1 ⟨rfl, hB1⟩
    clear hOf
    refine hK1 _ _ ?_
    clear hK1 K1
    go_wp2_with fail
    refine (cR 3 w1).mono ?_
    rintro e w2 ⟨p, lv, rfl, hO2, hp2, hB2⟩
    have RS0 : Hid (RSt w 61 aI 262 x w1.heap.size p lv (hdL 3) w2) := aA (by rw [← unhide EW] at hB1 HT; exact RSt.new (unhide HT) hB1 hO2 hp2 hB2)
    clear hB1 hB2 hO2 hp2 HR HT EW HB
    generalize w1.heap.size = B at *
    have rr := (unhide RS0).part (unhide HSG)
    have hC := (unhide RS0).cert (unhide HSG) (by have := hh; (try simp only [List.length_append, List.length_cons, List.length_nil, bQ, bP, aN, bB, aW, bC, bA]); omega)
    rw [unhide EXC] at rr hC
    go_upto_region 4 with fail
    refine rgY2 ?_
    refine wpList_load_mid rfl 32 (.tmp 10) rfl w.heap.size 0 rfl XC _ rr Tryz.underlying32 rfl hZC ?_
    simp only [Act.put]
    refine wpList_plain rfl fun K1 hK1 => ?_
    go_simp
    refine hC.mono ?_
    rintro e uv ⟨rfl, lv1, R1⟩
    have RS1 := aA R1
    clear R1 RS0 hC rr
    refine hK1 _ _ ?_
    clear hK1 K1
    have cc := (unhide RS1).cellN 99 (by decide) (by decide)
    have hC := (unhide RS1).u32 99 (by have := hh; (try simp only [List.length_append, List.length_cons, List.length_nil, bQ, bP, aN, bB, aW, bC, bA]); omega)
    go_wp2_with fail
    refine hC.mono ?_
    rintro e uw ⟨rfl, lv2, R2⟩
    have RS2 := aA R2
    clear R2 RS1 hC cc
    have hC := (unhide RS2).fix 100 32 (by decide) (fun i hi => by unfold aI; (repeat (first | rw [if_pos (by omega)] | rw [if_neg (by omega)]))) (by decide) (by have := hh; (try simp only [List.length_append, List.length_cons, List.length_nil, bQ, bP, aN, bB, aW, bC, bA]); omega)
    go_wp2_with fail
    refine hC.mono ?_
    rintro e ux ⟨rfl, lv3, R3⟩
    have RS3 := aA R3
    clear R3 RS2 hC
    have cc := (unhide RS3).cellT 132 (by decide) (by decide)
    rw [unhide MK0] at cc
    have hC := (unhide RS3).bit false (by have := hh; (try simp only [List.length_append, List.length_cons, List.length_nil, bQ, bP, aN, bB, aW, bC, bA]); omega)
    go_wp2_with fail
    refine hC.mono ?_
    rintro e uy ⟨rfl, lv4, R4⟩
    have RS4 := aA R4
    clear R4 RS3 hC cc
    have cc := (unhide RS4).cellT 132 (by decide) (by decide)
    rw [unhide MK0] at cc
    have cc := (unhide RS4).cellT 197 (by decide) (by decide)
    rw [unhide MK1] at cc
    have hC := (unhide RS4).bit false (by have := hh; (try simp only [List.length_append, List.length_cons, List.length_nil, bQ, bP, aN, bB, aW, bC, bA]); omega)
    go_wp2_with fail
    refine hC.mono ?_
    rintro e uz ⟨rfl, lv5, R5⟩
    have RS5 := aA R5
    clear R5 RS4 hC cc
    have cc := (unhide RS5).cellT 197 (by decide) (by decide)
    rw [unhide MK1] at cc
    have hC := (unhide RS5).whole
    exact sh48) : G := h
theorem rs59 {G : Prop} (h : G := by
 exact sh156) : G := h
open Go.Proofs.YtejagcngbgnogaaGreat renaming nq3 → z46a, aT → z46b, nq61 → z46e, nq3 → z48a, aT → z48b, nqe3 → z48aQ, aI → z138a, nq262 → z138b, nq61 → z138c, kT → z138d, nq3 → z138f, gM → z138bQ, jA → z138cQ, rs59 → z138rr, aI → z156a, nq262 → z156b, gM → z156bQ, rs146 → z156rr
open Go.Proofs.Tryz renaming func39 → z46c, ntmps39 → z46d, underlying61 → z46f
open Go.Proofs.YtejagcngbgnogaaGreat.Tryz renaming szTEntry → z138e
theorem rG (x : Nat → Int) (w : World) (hok : ∀ i, i < 262 → (aI i).ok (x i)) :
  Calls Tryz.prog 39 #[.agg (cl aI 262 x).toArray] w (REP (tellL 3 (aB aT) x) w) := iM
end
end Go.Proofs.YtejagcngbgnogaaGreat
