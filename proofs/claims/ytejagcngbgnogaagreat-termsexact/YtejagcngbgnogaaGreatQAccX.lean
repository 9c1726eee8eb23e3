import Derived.Test.YtejagcngbgnogaaGreatQShr
import Derived.Test.YtejagcngbgnogaaGreatQGaiZ
import Derived.Test.YtejagcngbgnogaaGreatQGahZ
import Derived.Deep.MidRow
import Derived.Deep.Cut
set_option maxHeartbeats 2000000
set_option maxRecDepth 100000
set_option linter.unusedSimpArgs false
namespace Go.Proofs.YtejagcngbgnogaaGreat
open Go.RowKit
theorem Tryz.szKCert : (Tryz.prog.info? 32).map (·.size) = some 99 := by kernel_rfl
theorem Tryz.szKSig : (Tryz.prog.info? 30).map (·.size) = some 64 := by kernel_rfl
theorem Tryz.szKHash : (Tryz.prog.info? 28).map (·.size) = some 32 := by kernel_rfl
section
open Go.Proofs.YtejagcngbgnogaaGreat renaming aR → z53a, cU → z53b
theorem cells_Freeze (x : Nat → Int) : ([.agg (cl aD 99 (sft 1 x)).toArray, .agg (cl sB 64 (sft 265 x)).toArray] : List Value).flatMap bY = cl aR 163 (cU x) := by
 rw [show (163 : Nat) = 99 + (64) from rfl]
 exact sh53
end
theorem Tryz.szTFreeze : (Tryz.prog.info? 65).map (·.size) = some 163 := by kernel_rfl
section
open Go.Proofs.YtejagcngbgnogaaGreat renaming nq65 → z57a, aR → z57b, nq163 → z57c, dP → z57aQ, dK → z57cQ
theorem dA : ∃ (Z : List Value) (it : TypeInfo), Z = cl aR 163 (fun _ => 0) ∧ Z.length = 163 ∧ Tryz.prog.info? 65 = some it ∧ it.zero = some (.agg Z.toArray) ∧ ∀ w, (zeroValue 65).run Tryz.prog w = .ok (.agg Z.toArray) w := sh57
open Go.Proofs.YtejagcngbgnogaaGreat renaming nq65 → z47a, nq7 → z47b, dP → z47aQ, nqe7 → z47bQ, dA → z112a, nq65 → z112b, cells_Freeze → z112d, aR → z112e, cU → z112f, dP → z112bQ
open Go.Proofs.Tryz renaming underlying65 → z47c, underlying65 → z112c, func24 → z112h, ntmps24 → z112i
open Go.Proofs.YtejagcngbgnogaaGreat.Tryz renaming szTFreeze → z112g
theorem jO (x : Nat → Int) (bv : Value) (w : World) :
  Calls Tryz.prog 24 #[.agg (tmC x bv).toArray] w fun e w' => e = .returned (.agg (cl aR 163 (cU x)).toArray) ∧ Below w.heap.size w w' := sh112
open Go.Proofs.YtejagcngbgnogaaGreat renaming bI → z53a, eS → z53b
theorem cells_Ack (x : Nat → Int) : ([.int .i64 (x 1), .int .i64 (x 263), .int .i64 (x 100), .agg (cl sB 32 (sft 101 x)).toArray, .agg (cl sB 64 (sft 265 x)).toArray] : List Value).flatMap bY = cl bI 99 (eS x) := by
 rw [show (99 : Nat) = 1 + (1 + (1 + (32 + (64)))) from rfl]
 rw [fC]
 rw [fC]
 rw [fC]
 exact sh53
end
theorem Tryz.szTAck : (Tryz.prog.info? 69).map (·.size) = some 99 := by kernel_rfl
section
open Go.Proofs.YtejagcngbgnogaaGreat renaming nq69 → z57a, bI → z57b, nq99 → z57c, gL → z57aQ, dI → z57cQ
theorem eT : ∃ (Z : List Value) (it : TypeInfo), Z = cl bI 99 (fun _ => 0) ∧ Z.length = 99 ∧ Tryz.prog.info? 69 = some it ∧ it.zero = some (.agg Z.toArray) ∧ ∀ w, (zeroValue 69).run Tryz.prog w = .ok (.agg Z.toArray) w := sh57
theorem rs77 {G : Prop} (h : G := by
 have c1 : ((w.alloc (.cells (tmC x bv).toArray 35)).alloc (.cells Z.toArray 69)).cell? ⟨w.heap.size, 1, none⟩ = some (.int .i64 (x 1)) := eD A1 1 (by decide)
 have c263 : ((w.alloc (.cells (tmC x bv).toArray 35)).alloc (.cells Z.toArray 69)).cell? ⟨w.heap.size, 263, none⟩ = some (.int .i64 (x 263)) := eD A1 263 (by decide)
 have c100 : ((w.alloc (.cells (tmC x bv).toArray 35)).alloc (.cells Z.toArray 69)).cell? ⟨w.heap.size, 100, none⟩ = some (.int .i64 (x 100)) := eD A1 100 (by decide)
 have r101 : ((w.alloc (.cells (tmC x bv).toArray 35)).alloc (.cells Z.toArray 69)).rangeAt w.heap.size 101 (cl sB 32 (sft 101 x)) := eZ A1 101 32 sB (by decide) (fun i hi => by unfold bM sB aD; (repeat (first | rw [if_pos (by omega)] | rw [if_neg (by omega)])); try (congr 1; omega))
 have r265 : ((w.alloc (.cells (tmC x bv).toArray 35)).alloc (.cells Z.toArray 69)).rangeAt w.heap.size 265 (cl sB 64 (sft 265 x)) := eZ A1 265 64 sB (by decide) (fun i hi => by unfold bM sB aD; (repeat (first | rw [if_pos (by omega)] | rw [if_neg (by omega)])); try (congr 1; omega))
 have hbt := gQ hit Tryz.underlying69 hz (sz := [1, 1, 1, 32, 64]) (by kernel_rfl) [.int .i64 (x 1), .int .i64 (x 263), .int .i64 (x 100), .agg (cl sB 32 (sft 101 x)).toArray, .agg (cl sB 64 (sft 265 x)).toArray] (by simp [Value.cells, aC]) (by rw [hZl]; rfl)
 rw [cells_Ack] at hbt
 have hl1 : (cl bI 99 (eS x)).toArray.size = 99 := by simp [aC]
 have hl2 : Z.toArray.size = (cl bI 99 (eS x)).toArray.size := by simp [aC, hZl]
 have hsz : (Tryz.prog.info? 69).map (·.size) = some (cl bI 99 (eS x)).toArray.size := by rw [hl1]; exact Tryz.szTAck
 have hoc := all_oneCell_toArray (cK bI 99 (eS x))
 have HB := aA hB
 have HA := aA A2
 have HBT := aA hbt
 clear A1 A2 hB hit hz hZl hbt hl1
 have R101 := aA r101
 clear r101
 have R265 := aA r265
 clear r265
 have HS := aA hsz
 have HL2 := aA hl2
 have HOC := aA hoc
 clear hsz hl2 hoc
 generalize hM : cl bI 99 (eS x) = M at *
 clear hM
 go_enter Tryz.func26, Tryz.ntmps26
 go_upto_region 1 with fail
 generalize (w.alloc (.cells (tmC x bv).toArray 35)).alloc (.cells Z.toArray 69) = W at *
 refine rgY5 ?_
 exact sh153) : G := h
open Go.Proofs.YtejagcngbgnogaaGreat renaming nq69 → z47a, nq14 → z47b, gL → z47aQ, nqe14 → z47bQ, nq12 → z121a, eT → z140a, nq69 → z140b, gL → z140bQ, rs77 → z140rr, nq10 → z153a
open Go.Proofs.Tryz renaming underlying69 → z47c
theorem lU (x : Nat → Int) (bv : Value) (w : World) :
  Calls Tryz.prog 26 #[.agg (tmC x bv).toArray] w fun e w' => e = .returned (.agg (cl bI 99 (eS x)).toArray) ∧ Below w.heap.size w w' := sh140
open Go.Proofs.YtejagcngbgnogaaGreat renaming aG → z53a, cE → z53b
theorem rY (x : Nat → Int) : ([.agg (cl aD 99 (sft 1 x)).toArray, .agg (cl sB 64 (sft 265 x)).toArray] : List Value).flatMap bY = cl aG 163 (cE x) := by
 rw [show (163 : Nat) = 99 + (64) from rfl]
 exact sh53
end
theorem Tryz.szTRevocation : (Tryz.prog.info? 72).map (·.size) = some 163 := by kernel_rfl
section
open Go.Proofs.YtejagcngbgnogaaGreat renaming nq72 → z57a, aG → z57b, nq163 → z57c, iE → z57aQ, dK → z57cQ
theorem cM : ∃ (Z : List Value) (it : TypeInfo), Z = cl aG 163 (fun _ => 0) ∧ Z.length = 163 ∧ Tryz.prog.info? 72 = some it ∧ it.zero = some (.agg Z.toArray) ∧ ∀ w, (zeroValue 72).run Tryz.prog w = .ok (.agg Z.toArray) w := sh57
open Go.Proofs.YtejagcngbgnogaaGreat renaming nq72 → z47a, nq7 → z47b, iE → z47aQ, nqe7 → z47bQ, cM → z112a, nq72 → z112b, rY → z112d, aG → z112e, cE → z112f, iE → z112bQ
open Go.Proofs.Tryz renaming underlying72 → z47c, underlying72 → z112c, func28 → z112h, ntmps28 → z112i
open Go.Proofs.YtejagcngbgnogaaGreat.Tryz renaming szTRevocation → z112g
theorem gX (x : Nat → Int) (bv : Value) (w : World) :
  Calls Tryz.prog 28 #[.agg (tmC x bv).toArray] w fun e w' => e = .returned (.agg (cl aG 163 (cE x)).toArray) ∧ Below w.heap.size w w' := sh112
open Go.Proofs.YtejagcngbgnogaaGreat renaming aU → z53a, cY → z53b
theorem cells_Floor (x : Nat → Int) : ([.int .i64 (x 1), .agg (cl sB 64 (sft 265 x)).toArray] : List Value).flatMap bY = cl aU 65 (cY x) := by
 rw [show (65 : Nat) = 1 + (64) from rfl]
 exact sh53
end
theorem Tryz.szTFloor : (Tryz.prog.info? 76).map (·.size) = some 65 := by kernel_rfl
section
open Go.Proofs.YtejagcngbgnogaaGreat renaming nq76 → z57a, aU → z57b, nq65 → z57c, gV → z57aQ, dP → z57cQ
theorem dY : ∃ (Z : List Value) (it : TypeInfo), Z = cl aU 65 (fun _ => 0) ∧ Z.length = 65 ∧ Tryz.prog.info? 76 = some it ∧ it.zero = some (.agg Z.toArray) ∧ ∀ w, (zeroValue 76).run Tryz.prog w = .ok (.agg Z.toArray) w := sh57
theorem rs78 {G : Prop} (h : G := by
 have c1 : ((w.alloc (.cells (tmC x bv).toArray 35)).alloc (.cells Z.toArray 76)).cell? ⟨w.heap.size, 1, none⟩ = some (.int .i64 (x 1)) := eD A1 1 (by decide)
 have r265 : ((w.alloc (.cells (tmC x bv).toArray 35)).alloc (.cells Z.toArray 76)).rangeAt w.heap.size 265 (cl sB 64 (sft 265 x)) := eZ A1 265 64 sB (by decide) (fun i hi => by unfold bM sB aD; (repeat (first | rw [if_pos (by omega)] | rw [if_neg (by omega)])); try (congr 1; omega))
 have hbt := gQ hit Tryz.underlying76 hz (sz := [1, 64]) (by kernel_rfl) [.int .i64 (x 1), .agg (cl sB 64 (sft 265 x)).toArray] (by simp [Value.cells, aC]) (by rw [hZl]; rfl)
 rw [cells_Floor] at hbt
 have hl1 : (cl aU 65 (cY x)).toArray.size = 65 := by simp [aC]
 have hl2 : Z.toArray.size = (cl aU 65 (cY x)).toArray.size := by simp [aC, hZl]
 have hsz : (Tryz.prog.info? 76).map (·.size) = some (cl aU 65 (cY x)).toArray.size := by rw [hl1]; exact Tryz.szTFloor
 have hoc := all_oneCell_toArray (cK aU 65 (cY x))
 have HB := aA hB
 have HA := aA A2
 have HBT := aA hbt
 clear A1 A2 hB hit hz hZl hbt hl1
 have R265 := aA r265
 clear r265
 have HS := aA hsz
 have HL2 := aA hl2
 have HOC := aA hoc
 clear hsz hl2 hoc
 generalize hM : cl aU 65 (cY x) = M at *
 clear hM
 go_enter Tryz.func30, Tryz.ntmps30
 go_upto_region 1 with fail
 generalize (w.alloc (.cells (tmC x bv).toArray 35)).alloc (.cells Z.toArray 76) = W at *
 refine wp_region_lit ?_
 exact sh154) : G := h
open Go.Proofs.YtejagcngbgnogaaGreat renaming nq76 → z47a, nq8 → z47b, gV → z47aQ, nqe8 → z47bQ, nq6 → z121a, dY → z140a, nq76 → z140b, gV → z140bQ, rs78 → z140rr
open Go.Proofs.Tryz renaming underlying76 → z47c
theorem kC (x : Nat → Int) (bv : Value) (w : World) :
  Calls Tryz.prog 30 #[.agg (tmC x bv).toArray] w fun e w' => e = .returned (.agg (cl aU 65 (cY x)).toArray) ∧ Below w.heap.size w w' := sh140
open Go.Proofs.YtejagcngbgnogaaGreat renaming aK → z53a, cG → z53b
theorem cells_Receipt (x : Nat → Int) : ([.int .i64 (x 1), .int .i64 (x 100), .int .i64 (x 264), .agg (cl sB 64 (sft 265 x)).toArray] : List Value).flatMap bY = cl aK 67 (cG x) := by
 rw [show (67 : Nat) = 1 + (1 + (1 + (64))) from rfl]
 rw [fC]
 rw [fC]
 exact sh53
end
theorem Tryz.szTReceipt : (Tryz.prog.info? 80).map (·.size) = some 67 := by kernel_rfl
section
open Go.Proofs.YtejagcngbgnogaaGreat renaming nq80 → z57a, aK → z57b, nq67 → z57c, gK → z57aQ, gW → z57cQ
theorem dH : ∃ (Z : List Value) (it : TypeInfo), Z = cl aK 67 (fun _ => 0) ∧ Z.length = 67 ∧ Tryz.prog.info? 80 = some it ∧ it.zero = some (.agg Z.toArray) ∧ ∀ w, (zeroValue 80).run Tryz.prog w = .ok (.agg Z.toArray) w := sh57
theorem rs79 {G : Prop} (h : G := by
 have c1 : ((w.alloc (.cells (tmC x bv).toArray 35)).alloc (.cells Z.toArray 80)).cell? ⟨w.heap.size, 1, none⟩ = some (.int .i64 (x 1)) := eD A1 1 (by decide)
 have c100 : ((w.alloc (.cells (tmC x bv).toArray 35)).alloc (.cells Z.toArray 80)).cell? ⟨w.heap.size, 100, none⟩ = some (.int .i64 (x 100)) := eD A1 100 (by decide)
 have c264 : ((w.alloc (.cells (tmC x bv).toArray 35)).alloc (.cells Z.toArray 80)).cell? ⟨w.heap.size, 264, none⟩ = some (.int .i64 (x 264)) := eD A1 264 (by decide)
 have r265 : ((w.alloc (.cells (tmC x bv).toArray 35)).alloc (.cells Z.toArray 80)).rangeAt w.heap.size 265 (cl sB 64 (sft 265 x)) := eZ A1 265 64 sB (by decide) (fun i hi => by unfold bM sB aD; (repeat (first | rw [if_pos (by omega)] | rw [if_neg (by omega)])); try (congr 1; omega))
 have hbt := gQ hit Tryz.underlying80 hz (sz := [1, 1, 1, 64]) (by kernel_rfl) [.int .i64 (x 1), .int .i64 (x 100), .int .i64 (x 264), .agg (cl sB 64 (sft 265 x)).toArray] (by simp [Value.cells, aC]) (by rw [hZl]; rfl)
 rw [cells_Receipt] at hbt
 have hl1 : (cl aK 67 (cG x)).toArray.size = 67 := by simp [aC]
 have hl2 : Z.toArray.size = (cl aK 67 (cG x)).toArray.size := by simp [aC, hZl]
 have hsz : (Tryz.prog.info? 80).map (·.size) = some (cl aK 67 (cG x)).toArray.size := by rw [hl1]; exact Tryz.szTReceipt
 have hoc := all_oneCell_toArray (cK aK 67 (cG x))
 have HB := aA hB
 have HA := aA A2
 have HBT := aA hbt
 clear A1 A2 hB hit hz hZl hbt hl1
 have R265 := aA r265
 clear r265
 have HS := aA hsz
 have HL2 := aA hl2
 have HOC := aA hoc
 clear hsz hl2 hoc
 generalize hM : cl aK 67 (cG x) = M at *
 clear hM
 go_enter Tryz.func32, Tryz.ntmps32
 go_upto_region 1 with fail
 generalize (w.alloc (.cells (tmC x bv).toArray 35)).alloc (.cells Z.toArray 80) = W at *
 refine rgY4 ?_
 exact sh154) : G := h
open Go.Proofs.YtejagcngbgnogaaGreat renaming nq80 → z47a, nq12 → z47b, gK → z47aQ, nqe12 → z47bQ, nq10 → z121a, dH → z140a, nq80 → z140b, gK → z140bQ, rs79 → z140rr
open Go.Proofs.Tryz renaming underlying80 → z47c
theorem jB (x : Nat → Int) (bv : Value) (w : World) :
  Calls Tryz.prog 32 #[.agg (tmC x bv).toArray] w fun e w' => e = .returned (.agg (cl aK 67 (cG x)).toArray) ∧ Below w.heap.size w w' := sh140
open Go.Proofs.YtejagcngbgnogaaGreat renaming bE → z53a, dQ → z53b
theorem cells_Head (x : Nat → Int) : ([.int .i64 (x 100), .agg (cl sB 32 (sft 101 x)).toArray, .agg (cl sB 64 (sft 265 x)).toArray] : List Value).flatMap bY = cl bE 97 (dQ x) := by
 rw [show (97 : Nat) = 1 + (32 + (64)) from rfl]
 rw [fC]
 exact sh53
end
theorem Tryz.szTHead : (Tryz.prog.info? 88).map (·.size) = some 97 := by kernel_rfl
section
open Go.Proofs.YtejagcngbgnogaaGreat renaming nq88 → z57a, bE → z57b, nq97 → z57c, fY → z57aQ, gU → z57cQ
theorem eF : ∃ (Z : List Value) (it : TypeInfo), Z = cl bE 97 (fun _ => 0) ∧ Z.length = 97 ∧ Tryz.prog.info? 88 = some it ∧ it.zero = some (.agg Z.toArray) ∧ ∀ w, (zeroValue 88).run Tryz.prog w = .ok (.agg Z.toArray) w := sh57
theorem rs80 {G : Prop} (h : G := by
 have c100 : ((w.alloc (.cells (tmC x bv).toArray 35)).alloc (.cells Z.toArray 88)).cell? ⟨w.heap.size, 100, none⟩ = some (.int .i64 (x 100)) := eD A1 100 (by decide)
 have r101 : ((w.alloc (.cells (tmC x bv).toArray 35)).alloc (.cells Z.toArray 88)).rangeAt w.heap.size 101 (cl sB 32 (sft 101 x)) := eZ A1 101 32 sB (by decide) (fun i hi => by unfold bM sB aD; (repeat (first | rw [if_pos (by omega)] | rw [if_neg (by omega)])); try (congr 1; omega))
 have r265 : ((w.alloc (.cells (tmC x bv).toArray 35)).alloc (.cells Z.toArray 88)).rangeAt w.heap.size 265 (cl sB 64 (sft 265 x)) := eZ A1 265 64 sB (by decide) (fun i hi => by unfold bM sB aD; (repeat (first | rw [if_pos (by omega)] | rw [if_neg (by omega)])); try (congr 1; omega))
 have hbt := gQ hit Tryz.underlying88 hz (sz := [1, 32, 64]) (by kernel_rfl) [.int .i64 (x 100), .agg (cl sB 32 (sft 101 x)).toArray, .agg (cl sB 64 (sft 265 x)).toArray] (by simp [Value.cells, aC]) (by rw [hZl]; rfl)
 rw [cells_Head] at hbt
 have hl1 : (cl bE 97 (dQ x)).toArray.size = 97 := by simp [aC]
 have hl2 : Z.toArray.size = (cl bE 97 (dQ x)).toArray.size := by simp [aC, hZl]
 have hsz : (Tryz.prog.info? 88).map (·.size) = some (cl bE 97 (dQ x)).toArray.size := by rw [hl1]; exact Tryz.szTHead
 have hoc := all_oneCell_toArray (cK bE 97 (dQ x))
 have HB := aA hB
 have HA := aA A2
 have HBT := aA hbt
 clear A1 A2 hB hit hz hZl hbt hl1
 have R101 := aA r101
 clear r101
 have R265 := aA r265
 clear r265
 have HS := aA hsz
 have HL2 := aA hl2
 have HOC := aA hoc
 clear hsz hl2 hoc
 generalize hM : cl bE 97 (dQ x) = M at *
 clear hM
 go_enter Tryz.func36, Tryz.ntmps36
 go_upto_region 1 with fail
 generalize (w.alloc (.cells (tmC x bv).toArray 35)).alloc (.cells Z.toArray 88) = W at *
 refine wp_region_lit ?_
 exact sh153) : G := h
open Go.Proofs.YtejagcngbgnogaaGreat renaming nq88 → z47a, nq9 → z47b, fY → z47aQ, nqe9 → z47bQ, nq7 → z121a, eF → z140a, nq88 → z140b, fY → z140bQ, rs80 → z140rr, nq5 → z153a
open Go.Proofs.Tryz renaming underlying88 → z47c
theorem kU (x : Nat → Int) (bv : Value) (w : World) :
  Calls Tryz.prog 36 #[.agg (tmC x bv).toArray] w fun e w' => e = .returned (.agg (cl bE 97 (dQ x)).toArray) ∧ Below w.heap.size w w' := sh140
open Go.Proofs.YtejagcngbgnogaaGreat renaming bD → z53a, eQ → z53b
theorem cells_Order (x : Nat → Int) : ([.int .i64 (x 2), .int .i64 (x 3), .agg (cl sB 32 (sft 4 x)).toArray] : List Value).flatMap bY = cl bD 34 (eQ x) := by
 rw [show (34 : Nat) = 1 + (1 + (32)) from rfl]
 rw [fC]
 exact sh53
end
theorem Tryz.szTOrder : (Tryz.prog.info? 84).map (·.size) = some 34 := by kernel_rfl
section
open Go.Proofs.YtejagcngbgnogaaGreat renaming nq84 → z57a, bD → z57b, nq34 → z57c, iD → z57aQ, iP → z57cQ
theorem dX : ∃ (Z : List Value) (it : TypeInfo), Z = cl bD 34 (fun _ => 0) ∧ Z.length = 34 ∧ Tryz.prog.info? 84 = some it ∧ it.zero = some (.agg Z.toArray) ∧ ∀ w, (zeroValue 84).run Tryz.prog w = .ok (.agg Z.toArray) w := sh57
theorem rs81 {G : Prop} (h : G := by
 have c2 : ((w.alloc (.cells (tmC x bv).toArray 35)).alloc (.cells Z.toArray 84)).cell? ⟨w.heap.size, 2, none⟩ = some (.int .i64 (x 2)) := eD A1 2 (by decide)
 have c3 : ((w.alloc (.cells (tmC x bv).toArray 35)).alloc (.cells Z.toArray 84)).cell? ⟨w.heap.size, 3, none⟩ = some (.int .i64 (x 3)) := eD A1 3 (by decide)
 have r4 : ((w.alloc (.cells (tmC x bv).toArray 35)).alloc (.cells Z.toArray 84)).rangeAt w.heap.size 4 (cl sB 32 (sft 4 x)) := eZ A1 4 32 sB (by decide) (fun i hi => by unfold bM sB aD; (repeat (first | rw [if_pos (by omega)] | rw [if_neg (by omega)])); try (congr 1; omega))
 have hbt := gQ hit Tryz.underlying84 hz (sz := [1, 1, 32]) (by kernel_rfl) [.int .i64 (x 2), .int .i64 (x 3), .agg (cl sB 32 (sft 4 x)).toArray] (by simp [Value.cells, aC]) (by rw [hZl]; rfl)
 rw [cells_Order] at hbt
 have hl1 : (cl bD 34 (eQ x)).toArray.size = 34 := by simp [aC]
 have hl2 : Z.toArray.size = (cl bD 34 (eQ x)).toArray.size := by simp [aC, hZl]
 have hsz : (Tryz.prog.info? 84).map (·.size) = some (cl bD 34 (eQ x)).toArray.size := by rw [hl1]; exact Tryz.szTOrder
 have hoc := all_oneCell_toArray (cK bD 34 (eQ x))
 have HB := aA hB
 have HA := aA A2
 have HBT := aA hbt
 clear A1 A2 hB hit hz hZl hbt hl1
 have R4 := aA r4
 clear r4
 have HS := aA hsz
 have HL2 := aA hl2
 have HOC := aA hoc
 clear hsz hl2 hoc
 generalize hM : cl bD 34 (eQ x) = M at *
 clear hM
 go_enter Tryz.func34, Tryz.ntmps34
 go_upto_region 1 with fail
 generalize (w.alloc (.cells (tmC x bv).toArray 35)).alloc (.cells Z.toArray 84) = W at *
 refine rgY8 ?_
 refine wpList_load_mid rfl 28 (.tmp 10) rfl w.heap.size 4 rfl (cl sB 32 (sft 4 x)) _ (unhide R4) Tryz.underlying28 rfl (by rw [aC]; exact Tryz.szKHash) ?_
 exact sh47) : G := h
open Go.Proofs.YtejagcngbgnogaaGreat renaming nq84 → z47a, nq12 → z47b, iD → z47aQ, nqe12 → z47bQ, dX → z140a, nq84 → z140b, iD → z140bQ, rs81 → z140rr
open Go.Proofs.Tryz renaming underlying84 → z47c
theorem pS (x : Nat → Int) (bv : Value) (w : World) :
  Calls Tryz.prog 34 #[.agg (tmC x bv).toArray] w fun e w' => e = .returned (.agg (cl bD 34 (eQ x)).toArray) ∧ Below w.heap.size w w' := sh140
open Go.Proofs.YtejagcngbgnogaaGreat renaming aS → z53a, dS → z53b
theorem cells_Ticket (x : Nat → Int) : ([.agg (cl aD 99 (sft 1 x)).toArray, .int .i64 (x 100), .agg (cl sB 32 (sft 101 x)).toArray] : List Value).flatMap bY = cl aS 132 (dS x) := by
 rw [show (132 : Nat) = 99 + (1 + (32)) from rfl]
 rw [fC]
 exact sh53
end
theorem Tryz.szTTicket : (Tryz.prog.info? 57).map (·.size) = some 132 := by kernel_rfl
section
open Go.Proofs.YtejagcngbgnogaaGreat renaming nq57 → z57a, aS → z57b, nq132 → z57c, iO → z57aQ, fV → z57cQ
theorem dN : ∃ (Z : List Value) (it : TypeInfo), Z = cl aS 132 (fun _ => 0) ∧ Z.length = 132 ∧ Tryz.prog.info? 57 = some it ∧ it.zero = some (.agg Z.toArray) ∧ ∀ w, (zeroValue 57).run Tryz.prog w = .ok (.agg Z.toArray) w := sh57
theorem rs149 {G : Prop} (h : G := by
 have hbt := gQ hit Tryz.underlying57 hz (sz := [99, 1, 32]) (by kernel_rfl) [.agg (cl aD 99 (sft 1 x)).toArray, .int .i64 (x 100), .agg (cl sB 32 (sft 101 x)).toArray] (by simp [Value.cells, aC]) (by rw [hZl]; rfl)
 rw [cells_Ticket] at hbt
 have hl1 : (cl aS 132 (dS x)).toArray.size = 132 := by simp [aC]
 have hl2 : Z.toArray.size = (cl aS 132 (dS x)).toArray.size := by simp [aC, hZl]
 have hsz : (Tryz.prog.info? 57).map (·.size) = some (cl aS 132 (dS x)).toArray.size := by rw [hl1]; exact Tryz.szTTicket
 have hoc := all_oneCell_toArray (cK aS 132 (dS x))
 have HB := aA hB
 have HA := aA A2
 have HBT := aA hbt
 clear A1 A2 hB hit hz hZl hbt hl1
 have R1 := aA r1
 clear r1
 have R101 := aA r101
 clear r101
 have HS := aA hsz
 have HL2 := aA hl2
 have HOC := aA hoc
 clear hsz hl2 hoc
 generalize hM : cl aS 132 (dS x) = M at *
 clear hM
 go_enter Tryz.func20, Tryz.ntmps20
 go_upto_region 1 with fail
 generalize (w.alloc (.cells (tmC x bv).toArray 35)).alloc (.cells Z.toArray 57) = W at *
 refine eI ?_
 refine wpList_load_mid rfl 32 (.tmp 3) rfl w.heap.size 1 rfl (cl aD 99 (sft 1 x)) _ (unhide R1) Tryz.underlying32 rfl (by rw [aC]; exact Tryz.szKCert) ?_
 simp only [Act.put]
 refine stY3 ?_
 refine wpList_load_mid rfl 28 (.tmp 7) rfl w.heap.size 101 rfl (cl sB 32 (sft 101 x)) _ (unhide R101) Tryz.underlying28 rfl (by rw [aC]; exact Tryz.szKHash) ?_
 exact sh47) : G := h
theorem rs82 {G : Prop} (h : G := by
 exact sh158) : G := h
open Go.Proofs.YtejagcngbgnogaaGreat renaming nq57 → z47a, nq9 → z47b, iO → z47aQ, nqe9 → z47bQ, dN → z140a, nq57 → z140b, iO → z140bQ, rs82 → z140rr, nq57 → z158a, iO → z158aQ, rs149 → z158rr
open Go.Proofs.Tryz renaming underlying57 → z47c
theorem oN (x : Nat → Int) (bv : Value) (w : World) :
  Calls Tryz.prog 20 #[.agg (tmC x bv).toArray] w fun e w' => e = .returned (.agg (cl aS 132 (dS x)).toArray) ∧ Below w.heap.size w w' := sh140
open Go.Proofs.YtejagcngbgnogaaGreat renaming aI → z53a, eR → z53b
theorem cells_Entry (x : Nat → Int) : ([.agg (cl aD 99 (sft 1 x)).toArray, .int .i64 (x 100), .agg (cl sB 32 (sft 101 x)).toArray, .bool (decide (x 133 ≠ 0)), .agg (cl sB 64 (sft 134 x)).toArray, .bool (decide (x 198 ≠ 0)), .agg (cl sB 64 (sft 199 x)).toArray] : List Value).flatMap bY = cl aI 262 (eR x) := by
 rw [show (262 : Nat) = 99 + (1 + (32 + (1 + (64 + (1 + (64)))))) from rfl]
 rw [fC]
 rw [fC]
 rw [fC]
 rw [fC]
 rw [fC]
 exact sh53
end
theorem Tryz.szTEntry : (Tryz.prog.info? 61).map (·.size) = some 262 := by kernel_rfl
section
open Go.Proofs.YtejagcngbgnogaaGreat renaming nq61 → z57a, aI → z57b, nq262 → z57c, jA → z57aQ, gM → z57cQ
theorem dZ : ∃ (Z : List Value) (it : TypeInfo), Z = cl aI 262 (fun _ => 0) ∧ Z.length = 262 ∧ Tryz.prog.info? 61 = some it ∧ it.zero = some (.agg Z.toArray) ∧ ∀ w, (zeroValue 61).run Tryz.prog w = .ok (.agg Z.toArray) w := sh57
theorem rs150 {G : Prop} (h : G := by
 have c133 : ((w.alloc (.cells (tmC x bv).toArray 35)).alloc (.cells Z.toArray 61)).cell? ⟨w.heap.size, 133, none⟩ = some (.bool (decide (x 133 ≠ 0))) := eD A1 133 (by decide)
 have r134 : ((w.alloc (.cells (tmC x bv).toArray 35)).alloc (.cells Z.toArray 61)).rangeAt w.heap.size 134 (cl sB 64 (sft 134 x)) := eZ A1 134 64 sB (by decide) (fun i hi => by unfold bM sB aD; (repeat (first | rw [if_pos (by omega)] | rw [if_neg (by omega)])); try (congr 1; omega))
 have c198 : ((w.alloc (.cells (tmC x bv).toArray 35)).alloc (.cells Z.toArray 61)).cell? ⟨w.heap.size, 198, none⟩ = some (.bool (decide (x 198 ≠ 0))) := eD A1 198 (by decide)
 have r199 : ((w.alloc (.cells (tmC x bv).toArray 35)).alloc (.cells Z.toArray 61)).rangeAt w.heap.size 199 (cl sB 64 (sft 199 x)) := eZ A1 199 64 sB (by decide) (fun i hi => by unfold bM sB aD; (repeat (first | rw [if_pos (by omega)] | rw [if_neg (by omega)])); try (congr 1; omega))
 have hbt := gQ hit Tryz.underlying61 hz (sz := [99, 1, 32, 1, 64, 1, 64]) (by kernel_rfl) [.agg (cl aD 99 (sft 1 x)).toArray, .int .i64 (x 100), .agg (cl sB 32 (sft 101 x)).toArray, .bool (decide (x 133 ≠ 0)), .agg (cl sB 64 (sft 134 x)).toArray, .bool (decide (x 198 ≠ 0)), .agg (cl sB 64 (sft 199 x)).toArray] (by simp [Value.cells, aC]) (by rw [hZl]; rfl)
 rw [cells_Entry] at hbt
 have hl1 : (cl aI 262 (eR x)).toArray.size = 262 := by simp [aC]
 have hl2 : Z.toArray.size = (cl aI 262 (eR x)).toArray.size := by simp [aC, hZl]
 have hsz : (Tryz.prog.info? 61).map (·.size) = some (cl aI 262 (eR x)).toArray.size := by rw [hl1]; exact Tryz.szTEntry
 have hoc := all_oneCell_toArray (cK aI 262 (eR x))
 have HB := aA hB
 have HA := aA A2
 have HBT := aA hbt
 clear A1 A2 hB hit hz hZl hbt hl1
 have R1 := aA r1
 clear r1
 have R101 := aA r101
 clear r101
 have R134 := aA r134
 clear r134
 have R199 := aA r199
 clear r199
 have HS := aA hsz
 have HL2 := aA hl2
 have HOC := aA hoc
 clear hsz hl2 hoc
 generalize hM : cl aI 262 (eR x) = M at *
 clear hM
 go_enter Tryz.func22, Tryz.ntmps22
 go_upto_region 1 with fail
 generalize (w.alloc (.cells (tmC x bv).toArray 35)).alloc (.cells Z.toArray 61) = W at *
 refine eI ?_
 refine wpList_load_mid rfl 32 (.tmp 3) rfl w.heap.size 1 rfl (cl aD 99 (sft 1 x)) _ (unhide R1) Tryz.underlying32 rfl (by rw [aC]; exact Tryz.szKCert) ?_
 simp only [Act.put]
 refine stY3 ?_
 refine wpList_load_mid rfl 28 (.tmp 7) rfl w.heap.size 101 rfl (cl sB 32 (sft 101 x)) _ (unhide R101) Tryz.underlying28 rfl (by rw [aC]; exact Tryz.szKHash) ?_
 simp only [Act.put]
 refine stY3 ?_
 refine wpList_load_mid rfl 30 (.tmp 11) rfl w.heap.size 134 rfl (cl sB 64 (sft 134 x)) _ (unhide R134) Tryz.underlying30 rfl (by rw [aC]; exact Tryz.szKSig) ?_
 simp only [Act.put]
 refine stY3 ?_
 refine wpList_load_mid rfl 30 (.tmp 15) rfl w.heap.size 199 rfl (cl sB 64 (sft 199 x)) _ (unhide R199) Tryz.underlying30 rfl (by rw [aC]; exact Tryz.szKSig) ?_
 exact sh47) : G := h
theorem rs83 {G : Prop} (h : G := by
 exact sh158) : G := h
open Go.Proofs.YtejagcngbgnogaaGreat renaming nq61 → z47a, nq17 → z47b, jA → z47aQ, nqe17 → z47bQ, dZ → z140a, nq61 → z140b, jA → z140bQ, rs83 → z140rr, nq61 → z158a, jA → z158aQ, rs150 → z158rr
open Go.Proofs.Tryz renaming underlying61 → z47c
theorem pT (x : Nat → Int) (bv : Value) (w : World) :
  Calls Tryz.prog 22 #[.agg (tmC x bv).toArray] w fun e w' => e = .returned (.agg (cl aI 262 (eR x)).toArray) ∧ Below w.heap.size w w' := sh140
end
end Go.Proofs.YtejagcngbgnogaaGreat
