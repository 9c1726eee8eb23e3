import Derived.Test.YtejagcngbgnogaaGreatQShr
import Derived.Test.YtejagcngbgnogaaGreatQGbfZ
import Derived.Test.YtejagcngbgnogaaGreatQGawZ
set_option maxHeartbeats 8000000
set_option maxRecDepth 100000
set_option linter.unusedSimpArgs false
set_option linter.unusedVariables false
namespace Go.Proofs.YtejagcngbgnogaaGreat
open Go.RowKit
theorem qV {P : Program} {t : TypeId} {it : TypeInfo} {fields : Array Field} {Z : List Value} {n m : Nat} (hit : P.info? t = some it) (hu : P.underlying t = some (.struct fields)) (hz : it.zero = some (.agg Z.toArray))
  (hp : fields.toList.mapM (fun f => (P.info? f.type).map fun i => (f.offset, i.size)) = some (plc [n, m] 0)) (v : Value) (hv : v.cells.size = n) (hZ : Z.length = n + m) : P.built t [(0, v)] = some (bY v ++ Z.drop n).toArray := by
 unfold Program.built
 rw [hit, hu]
 simp only [hz, hp]
 have hcl : (bY v).length = n := by rw [bY, Array.length_toList]; exact hv
 have hf := fold_set (bY v) 0 0 [] (Z.take n) (Z.drop n) (by rw [List.length_take, hcl]; omega) (by simp)
 rw [List.nil_append, List.nil_append, List.take_append_drop] at hf
 show Instr.fill _ Z.toArray _ = _
 have h0 : (plc [n, m] 0).toArray[0]? = some (0, n) := rfl
 exact sh105
def eX (x : Nat → Int) : Nat → Int := fun i => if i < 99 then x i else 0
theorem qP {s : Nat → Kd} (x : Nat → Int) (hs : ∀ i, i < 99 → s i = aD i) : cl aD 99 x ++ (cl s 163 (fun _ => 0)).drop 99 = cl s 163 (eX x) := by
 apply List.ext_getElem?
 intro i
 by_cases hi : i < 99
 ·rw [List.getElem?_append_left (by rw [aC]; exact hi), eB _ _ _ _ hi, eB _ _ _ _ (by omega), hs i hi]
  unfold eX; rw [if_pos hi]
 ·rw [List.getElem?_append_right (by rw [aC]; omega), aC, List.getElem?_drop]
  by_cases h2 : i < 163
  ·rw [eB _ _ _ _ (by omega), eB _ _ _ _ h2, show 99 + (i - 99) = i by omega]
   unfold eX; rw [if_neg hi]
  ·rw [List.getElem?_eq_none (by rw [aC]; omega), List.getElem?_eq_none (by rw [aC]; omega)]
theorem pO (x : Nat → Int) : Tryz.prog.built 65 [(0, .agg (cl aD 99 x).toArray)] = some (cl aR 163 (eX x)).toArray := by
 obtain ⟨Z, it, hZ, hZl, hit, hz, -⟩ := dA
 have := qV (n := 99) (m := 64) hit Tryz.underlying65 hz (by kernel_rfl) (.agg (cl aD 99 x).toArray) (by show (cl aD 99 x).toArray.size = 99; rw [List.size_toArray, aC]) hZl
 rw [this, gO, hZ, qP x (fun i hi => by unfold aR; rw [if_pos hi])]
theorem mL (x : Nat → Int) : Tryz.prog.built 72 [(0, .agg (cl aD 99 x).toArray)] = some (cl aG 163 (eX x)).toArray := by
 obtain ⟨Z, it, hZ, hZl, hit, hz, -⟩ := cM
 have := qV (n := 99) (m := 64) hit Tryz.underlying72 hz (by kernel_rfl) (.agg (cl aD 99 x).toArray) (by show (cl aD 99 x).toArray.size = 99; rw [List.size_toArray, aC]) hZl
 rw [this, gO, hZ, qP x (fun i hi => by unfold aG; rw [if_pos hi])]
theorem pD {x : Nat → Int} (h : ∀ i, i < 99 → (aD i).ok (x i)) : ∀ i, i < 163 → (aR i).ok (eX x i) := fun i hi => by
 unfold aR eX
 by_cases h9 : i < 99
 ·rw [if_pos h9, if_pos h9]; exact h i h9
 ·rw [if_neg h9, if_neg h9]; exact iL _
theorem onlyC_okR {x : Nat → Int} (h : ∀ i, i < 99 → (aD i).ok (x i)) : ∀ i, i < 163 → (aG i).ok (eX x i) := pD h
def cW (x : Nat → Int) : List Int := tellL 4 (aB (aM.take 1)) (eX x)
def bS (x : Nat → Int) : List Int := tellL 6 (aB (aE.take 1)) (eX x)
def entE (x : Nat → Int) : List (List Int × List Int) := cT x :: ((if x 132 ≠ 0 then [(cW x, run x 133 64)] else []) ++ (if x 197 ≠ 0 then [(bS x, run x 198 64)] else []))
theorem tY (w : World) (x : Nat → Int) (hok : ∀ i, i < 262 → (aI i).ok (x i)) :
  Calls Tryz.prog 266 #[.agg (cl aI 262 x).toArray] w (jC (entE x) w) := by
 have hokC : ∀ i, i < 99 → (aD i).ok (x i) := fun i hi => by have := hok i (by omega); unfold aI at this; rwa [if_pos hi] at this
 have b1 : Below w.heap.size w (w.alloc (.cells (cl aI 262 x).toArray 61)) := aJ w _
 have A1 := Arr.new w 61 (cl aI 262 x)
 have rC : (w.alloc (.cells (cl aI 262 x).toArray 61)).rangeAt w.heap.size 0 (cl aD 99 x) := by
  have := dM A1 0 99 aD (by decide) (fun i hi => by unfold aI; rw [Nat.zero_add, if_pos hi])
  rwa [bF] at this
 have rF : (w.alloc (.cells (cl aI 262 x).toArray 61)).rangeAt w.heap.size 133 (U8 (run x 133 64)) := by
  rw [← iG]; exact dM A1 133 64 sB (by decide) (fun i hi => by unfold aI sB; rw [if_neg (by omega), if_neg (by omega), if_neg (by omega)])
 have rR : (w.alloc (.cells (cl aI 262 x).toArray 61)).rangeAt w.heap.size 198 (U8 (run x 198 64)) := by
  rw [← iG]; exact dM A1 198 64 sB (by decide) (fun i hi => by unfold aI sB; rw [if_neg (by omega), if_neg (by omega), if_neg (by omega)])
 have c132 : (w.alloc (.cells (cl aI 262 x).toArray 61)).cell? ⟨w.heap.size, 132, none⟩ = some (.bool (decide (x 132 ≠ 0))) := by rw [A1.cell, eB _ _ _ _ (by decide)]; rfl
 have c197 : (w.alloc (.cells (cl aI 262 x).toArray 61)).cell? ⟨w.heap.size, 197, none⟩ = some (.bool (decide (x 197 ≠ 0))) := by rw [A1.cell, eB _ _ _ _ (by decide)]; rfl
 have hlt := A1.lt
 have hZC : (Tryz.prog.info? 32).map (·.size) = some (cl aD 99 x).length := by rw [aC]; exact Tryz.szPCert
 have hGlFreeze : (run x 133 64).length = 64 := aN _ _ _
 have hGlRevocation : (run x 198 64).length = 64 := aN _ _ _
 have hGBFreeze : IsB (run x 133 64) := fD hok (by decide) (fun i hi => by unfold aI; rw [if_neg (by omega), if_neg (by omega), if_neg (by omega)])
 have hGBRevocation : IsB (run x 198 64) := fD hok (by decide) (fun i hi => by unfold aI; rw [if_neg (by omega), if_neg (by omega), if_neg (by omega)])
 have hZGFreeze : (Tryz.prog.info? 30).map (·.size) = some (U8 (run x 133 64)).length := by rw [U8_length, hGlFreeze]; exact Tryz.szPSig
 have hZGRevocation : (Tryz.prog.info? 30).map (·.size) = some (U8 (run x 198 64)).length := by rw [U8_length, hGlRevocation]; exact Tryz.szPSig
 have hSayFreeze : ∀ W, Calls Tryz.prog 48 #[.agg (cl aR 163 (eX x)).toArray] W (cZ (cW x) W) := fun W => lJ W (eX x) (pD hokC)
 have hSayRevocation : ∀ W, Calls Tryz.prog 50 #[.agg (cl aG 163 (eX x)).toArray] W (cZ (bS x) W) := fun W => jD W (eX x) (onlyC_okR hokC)
 have HBFreeze := aA (pO x)
 have HBRevocation := aA (mL x)
 have hCP := jN (w.alloc (.cells (cl aI 262 x).toArray 61)) x hokC
 obtain ⟨it, Z, hi, hz, hZl, hs, hb⟩ := partZ
 have HEE : Hid (entE x = cT x :: ((if x 132 ≠ 0 then [(cW x, run x 133 64)] else []) ++ (if x 197 ≠ 0 then [(bS x, run x 198 64)] else []))) := aA rfl
 clear A1 hok
 generalize entE x = EE at *
 generalize cl aI 262 x = X at *
 generalize cl aD 99 x = XC at *
 generalize cl aR 163 (eX x) = XFreeze at *
 generalize cl aG 163 (eX x) = XRevocation at *
 generalize run x 133 64 = GF at *
 generalize run x 198 64 = GR at *
 have RC := aA rC
 go_enter Tryz.func266, Tryz.ntmps266
 go_upto_region 1 with fail
 generalize w.alloc (.cells X.toArray 61) = W at *
 have hKeepFreeze : ∀ (b : World), (∀ k, k < W.heap.size → b.heap[k]? = W.heap[k]?) → (b.rangeAt w.heap.size 0 XC ∧ b.rangeAt w.heap.size 133 (U8 GF)) := fun b h => ⟨fun j v hj => (World.cell?_of_block (h _ hlt)).trans (rC j v hj), fun j v hj => (World.cell?_of_block (h _ hlt)).trans (rF j v hj)⟩
 have hKeepRevocation : ∀ (b : World), (∀ k, k < W.heap.size → b.heap[k]? = W.heap[k]?) → (b.rangeAt w.heap.size 0 XC ∧ b.rangeAt w.heap.size 198 (U8 GR)) := fun b h => ⟨fun j v hj => (World.cell?_of_block (h _ hlt)).trans (rC j v hj), fun j v hj => (World.cell?_of_block (h _ hlt)).trans (rR j v hj)⟩
 have hc132 : ∀ (b : World), (∀ k, k < W.heap.size → b.heap[k]? = W.heap[k]?) → b.cell? ⟨w.heap.size, 132, none⟩ = some (.bool (decide (x 132 ≠ 0))) := fun b h => (World.cell?_of_block (h _ hlt)).trans c132
 have hc197 : ∀ (b : World), (∀ k, k < W.heap.size → b.heap[k]? = W.heap[k]?) → b.cell? ⟨w.heap.size, 197, none⟩ = some (.bool (decide (x 197 ≠ 0))) := fun b h => (World.cell?_of_block (h _ hlt)).trans c197
 clear rC rF rR c132 c197
 refine eI ?_
 refine wpList_load_mid rfl 32 (.tmp 4) rfl w.heap.size 0 rfl XC _ (unhide RC) Tryz.underlying32 rfl hZC ?_
 simp only [Act.put]
 refine wpList_plain rfl fun K1 hK1 => ?_
 go_simp
 refine hCP.mono ?_
 rintro e w1 ⟨v1, psw1, rfl, hP1, hE1, hB1⟩
 obtain ⟨aw1, cw1, rfl⟩ := bK hP1.own
 have Lw1 : Hid (psw1.length = 1) := aA (by have := congrArg List.length hE1; simpa using this)
 have Pw1 := aA hP1
 have Bw1 := aA hB1
 have Mw1 := aA hE1
 have d132 := hc132 w1 hB1.block
 clear hCP hP1 hE1 hB1 RC
 rw [unhide Lw1]
 refine hK1 _ _ ?_
 clear hK1 K1
 have HB1 := aA b1
 clear b1
 by_cases h132 : x 132 ≠ 0
 ·rw [decide_eq_true h132] at d132
  rw [if_pos h132] at HEE
  go_upto_region 3 with fail
  have hC1 := hSayFreeze w1.drew
  refine wp_region_noPanic ?_
  refine wp_region_held_drew (S := fun w' => w'.rangeAt w.heap.size 0 XC ∧ w'.rangeAt w.heap.size 133 (U8 GF)) (by kernel_rfl) (hKeepFreeze w1 (unhide Bw1).block) (fun hHeld => ?_)
  refine tkS 0 (.slice aw1 1 cw1) rfl hHeld ?_
  refine tkS 1 (.pointer (some ⟨w.heap.size, 0, none⟩)) rfl hHeld ?_
  refine tkY 2 _ rfl (yieldsIf_load_mid (by rfl) _ _ rfl _ _ rfl _ _ (fun _ h => h.1) Tryz.underlying32 rfl hZC) hHeld ?_
  refine tkY 3 (.agg XFreeze.toArray) rfl (dB (by rfl) _ _ rfl _ (by simpa [Act.eval] using (unhide HBFreeze))) hHeld ?_
  refine tkS 5 (.pointer (some ⟨w.heap.size, 133, none⟩)) rfl hHeld ?_
  refine tkY 6 _ rfl (yieldsIf_load_mid (by rfl) _ _ rfl _ _ rfl _ _ (fun _ h => h.2) Tryz.underlying30 rfl hZGFreeze) hHeld ?_
  refine rdY 4 rfl fun K hK => ?_
  go_simp
  refine hC1.mono ?_
  intro e u1 hT
  obtain ⟨av, cv, rfl, hown, hB2⟩ := hT.ownB
  have hbx : Below W.heap.size w1 u1 := cJ hB2 (unhide Bw1).size
  have hbu : Below W.heap.size W u1 := (unhide Bw1).trans hbx
  refine hK.out _ _ (hKeepFreeze u1 hbu.block) (fun hHeld => ?_)
  clear hK K hC1 hT
  have hbd := jV hown GF hGlFreeze
  have hrun := jU u1 ⟨.slice av (cW x).length cv, cW x, GF⟩ hGlFreeze
  have hb3 : Below u1.heap.size u1 (u1.alloc (.cells (Prt.cells ⟨.slice av (cW x).length cv, cW x, GF⟩).toArray 232)) := aJ u1 _
  have hP3 := ((unhide Pw1).later (cJ hB2 (Nat.le_refl _))).later hb3
  have hO3 : cI (u1.alloc (.cells (Prt.cells ⟨.slice av (cW x).length cv, cW x, GF⟩).toArray 232)) W.heap.size (.slice av (cW x).length cv) (cW x) := (hown.later hb3).mono (unhide Bw1).size
  have hnews := fX (Arr.new u1 232 (Prt.cells ⟨.slice av (cW x).length cv, cW x, GF⟩))
  have hoc := nM (p := ⟨.slice av (cW x).length cv, cW x, GF⟩) hO3
  have hcl : (Prt.cells ⟨.slice av (cW x).length cv, cW x, GF⟩).length = 65 := Prt.len (p := ⟨.slice av (cW x).length cv, cW x, GF⟩) hGlFreeze
  have hbW : Below W.heap.size W (u1.alloc (.cells (Prt.cells ⟨.slice av (cW x).length cv, cW x, GF⟩).toArray 232)) := hbu.trans (hb3.mono hbu.size)
  have HA : Hid (∀ v' w', w'.ownsRow W.heap.size 232 65 v' (1 + 1) (psw1.flatMap Prt.cells ++ Prt.cells ⟨.slice av (cW x).length cv, cW x, GF⟩) → (u1.alloc (.cells (Prt.cells ⟨.slice av (cW x).length cv, cW x, GF⟩).toArray 232)).grownBy w' (.slice aw1 psw1.length cw1 : Value).ownBlock → Prts w' W.heap.size v' (psw1 ++ [(⟨.slice av (cW x).length cv, cW x, GF⟩ : Prt)]) ∧ Below W.heap.size W w' ∧ (psw1 ++ [(⟨.slice av (cW x).length cv, cW x, GF⟩ : Prt)]).map (fun p : Prt => (p.l, p.g)) = psw1.map (fun p : Prt => (p.l, p.g)) ++ [(cW x, GF)]) := by
   intro v' w' ho hg
   have hp' := Prts.app (p := ⟨.slice av (cW x).length cv, cW x, GF⟩) hP3 hO3 hGlFreeze hGBFreeze (by rw [unhide Lw1]; exact ho) hg (fun q hq g hg1 hg2 => Nat.lt_irrefl _ (Nat.lt_of_lt_of_le (((unhide Pw1).each q hq).1.1.lt g hg1).2 (hown.1.lt g hg2).1))
   have hbe : Below W.heap.size (u1.alloc (.cells (Prt.cells ⟨.slice av (cW x).length cv, cW x, GF⟩).toArray 232)) w' := iR (row := none) hP3.own hg (Nat.le_refl _) hbW.size
   exact ⟨hp', hbW.trans hbe, by rw [List.map_append]; rfl⟩
  have hown3 := hP3.own
  rw [unhide Lw1] at hown3 HA
  have hszB := hbW.size
  clear hP3 hO3 hown hB2 hbx
  refine tkY 7 (.agg (Prt.cells ⟨.slice av (cW x).length cv, cW x, GF⟩).toArray) rfl (dB (by rfl) _ _ rfl _ (by simpa [Act.eval] using hbd)) hHeld ?_
  refine rdY 8 rfl fun K hK => ?_
  refine lY rfl _ _ _ rfl _ _ (by simpa [Act.eval] using hrun) ?_
  simp only [Act.put]
  refine hK.out _ _ (hKeepFreeze _ hbW.block) (fun hHeld => ?_)
  clear hK K hrun hbd
  refine rdY 9 rfl fun K hK => ?_
  refine mP rfl (.tmp 9) (.tmp 17) 228 rfl W.heap.size 232 it (.agg Z.toArray) 65 88 Tryz.underlying228 hi hz hs hb (by simp [Value.cells, hZl]) (by decide) (.slice aw1 1 cw1) 1 _ rfl hown3 ⟨u1.heap.size, 0, none⟩ 1 1 _ rfl (by rw [hcl]) hnews hoc (by unfold maxLen; omega) (by omega) hszB (fun v' x1 ho hg => ?_)
  obtain ⟨hPP, hbk, hmm⟩ := unhide HA v' x1 ho hg
  obtain ⟨ax1, cx1, rfl⟩ := bK ho
  refine hK.out _ _ (hKeepFreeze x1 hbk.block) (fun hHeld => ?_)
  clear hK K HA ho hg hnews hoc hown3 hbW hszB hcl hb3 hbu
  rw [show (1 + 1 : Nat) = 2 from rfl] at *
  have Bx1 := aA hbk
  have Lx1 : Hid ((psw1 ++ [(⟨.slice av (cW x).length cv, cW x, GF⟩ : Prt)]).length = 2) := aA (by rw [List.length_append, unhide Lw1]; rfl)
  have hPP2 : Prts x1 W.heap.size (.slice ax1 (psw1 ++ [(⟨.slice av (cW x).length cv, cW x, GF⟩ : Prt)]).length cx1) (psw1 ++ [(⟨.slice av (cW x).length cv, cW x, GF⟩ : Prt)]) := by rw [unhide Lx1]; exact hPP
  have Px1 := aA hPP2
  have Mx1 := aA (hmm.trans (congrArg (· ++ [(cW x, GF)]) (unhide Mw1)))
  clear hbk hPP hPP2 hmm
  generalize hps : psw1 ++ [(⟨.slice av (cW x).length cv, cW x, GF⟩ : Prt)] = psx1 at *
  clear hps
  refine tkS 10 (.slice ax1 2 cx1) rfl hHeld ?_
  refine wpAnyH_done (by kernel_rfl) ?_ _
  unfold NoPanic
  clear hHeld
  have d197 := hc197 x1 (unhide Bx1).block
  by_cases h197 : x 197 ≠ 0
  ·rw [decide_eq_true h197] at d197
   rw [if_pos h197] at HEE
   go_upto_region 5 with fail
   have hC2 := hSayRevocation x1.drew
   refine wp_region_noPanic ?_
   refine wp_region_held_drew (S := fun w' => w'.rangeAt w.heap.size 0 XC ∧ w'.rangeAt w.heap.size 198 (U8 GR)) (by kernel_rfl) (hKeepRevocation x1 (unhide Bx1).block) (fun hHeld => ?_)
   refine tkS 0 (.slice ax1 2 cx1) rfl hHeld ?_
   refine tkS 1 (.pointer (some ⟨w.heap.size, 0, none⟩)) rfl hHeld ?_
   refine tkY 2 _ rfl (yieldsIf_load_mid (by rfl) _ _ rfl _ _ rfl _ _ (fun _ h => h.1) Tryz.underlying32 rfl hZC) hHeld ?_
   refine tkY 3 (.agg XRevocation.toArray) rfl (dB (by rfl) _ _ rfl _ (by simpa [Act.eval] using (unhide HBRevocation))) hHeld ?_
   refine tkS 5 (.pointer (some ⟨w.heap.size, 198, none⟩)) rfl hHeld ?_
   refine tkY 6 _ rfl (yieldsIf_load_mid (by rfl) _ _ rfl _ _ rfl _ _ (fun _ h => h.2) Tryz.underlying30 rfl hZGRevocation) hHeld ?_
   refine rdY 4 rfl fun K hK => ?_
   go_simp
   refine hC2.mono ?_
   intro e u2 hT
   obtain ⟨av, cv, rfl, hown, hB2⟩ := hT.ownB
   have hbx : Below W.heap.size x1 u2 := cJ hB2 (unhide Bx1).size
   have hbu : Below W.heap.size W u2 := (unhide Bx1).trans hbx
   refine hK.out _ _ (hKeepRevocation u2 hbu.block) (fun hHeld => ?_)
   clear hK K hC2 hT
   have hbd := jV hown GR hGlRevocation
   have hrun := jU u2 ⟨.slice av (bS x).length cv, bS x, GR⟩ hGlRevocation
   have hb3 : Below u2.heap.size u2 (u2.alloc (.cells (Prt.cells ⟨.slice av (bS x).length cv, bS x, GR⟩).toArray 232)) := aJ u2 _
   have hP3 := ((unhide Px1).later (cJ hB2 (Nat.le_refl _))).later hb3
   have hO3 : cI (u2.alloc (.cells (Prt.cells ⟨.slice av (bS x).length cv, bS x, GR⟩).toArray 232)) W.heap.size (.slice av (bS x).length cv) (bS x) := (hown.later hb3).mono (unhide Bx1).size
   have hnews := fX (Arr.new u2 232 (Prt.cells ⟨.slice av (bS x).length cv, bS x, GR⟩))
   have hoc := nM (p := ⟨.slice av (bS x).length cv, bS x, GR⟩) hO3
   have hcl : (Prt.cells ⟨.slice av (bS x).length cv, bS x, GR⟩).length = 65 := Prt.len (p := ⟨.slice av (bS x).length cv, bS x, GR⟩) hGlRevocation
   have hbW : Below W.heap.size W (u2.alloc (.cells (Prt.cells ⟨.slice av (bS x).length cv, bS x, GR⟩).toArray 232)) := hbu.trans (hb3.mono hbu.size)
   have HA : Hid (∀ v' w', w'.ownsRow W.heap.size 232 65 v' (2 + 1) (psx1.flatMap Prt.cells ++ Prt.cells ⟨.slice av (bS x).length cv, bS x, GR⟩) → (u2.alloc (.cells (Prt.cells ⟨.slice av (bS x).length cv, bS x, GR⟩).toArray 232)).grownBy w' (.slice ax1 psx1.length cx1 : Value).ownBlock → Prts w' W.heap.size v' (psx1 ++ [(⟨.slice av (bS x).length cv, bS x, GR⟩ : Prt)]) ∧ Below W.heap.size W w' ∧ (psx1 ++ [(⟨.slice av (bS x).length cv, bS x, GR⟩ : Prt)]).map (fun p : Prt => (p.l, p.g)) = psx1.map (fun p : Prt => (p.l, p.g)) ++ [(bS x, GR)]) := by
    intro v' w' ho hg
    have hp' := Prts.app (p := ⟨.slice av (bS x).length cv, bS x, GR⟩) hP3 hO3 hGlRevocation hGBRevocation (by rw [unhide Lx1]; exact ho) hg (fun q hq g hg1 hg2 => Nat.lt_irrefl _ (Nat.lt_of_lt_of_le (((unhide Px1).each q hq).1.1.lt g hg1).2 (hown.1.lt g hg2).1))
    have hbe : Below W.heap.size (u2.alloc (.cells (Prt.cells ⟨.slice av (bS x).length cv, bS x, GR⟩).toArray 232)) w' := iR (row := none) hP3.own hg (Nat.le_refl _) hbW.size
    exact ⟨hp', hbW.trans hbe, by rw [List.map_append]; rfl⟩
   have hown3 := hP3.own
   rw [unhide Lx1] at hown3 HA
   have hszB := hbW.size
   clear hP3 hO3 hown hB2 hbx
   refine tkY 7 (.agg (Prt.cells ⟨.slice av (bS x).length cv, bS x, GR⟩).toArray) rfl (dB (by rfl) _ _ rfl _ (by simpa [Act.eval] using hbd)) hHeld ?_
   refine rdY 8 rfl fun K hK => ?_
   refine lY rfl _ _ _ rfl _ _ (by simpa [Act.eval] using hrun) ?_
   simp only [Act.put]
   refine hK.out _ _ (hKeepRevocation _ hbW.block) (fun hHeld => ?_)
   clear hK K hrun hbd
   refine rdY 9 rfl fun K hK => ?_
   refine mP rfl (.tmp 21) (.tmp 29) 228 rfl W.heap.size 232 it (.agg Z.toArray) 65 88 Tryz.underlying228 hi hz hs hb (by simp [Value.cells, hZl]) (by decide) (.slice ax1 2 cx1) 2 _ rfl hown3 ⟨u2.heap.size, 0, none⟩ 1 1 _ rfl (by rw [hcl]) hnews hoc (by unfold maxLen; omega) (by omega) hszB (fun v' x2 ho hg => ?_)
   obtain ⟨hPP, hbk, hmm⟩ := unhide HA v' x2 ho hg
   obtain ⟨ax2, cx2, rfl⟩ := bK ho
   refine hK.out _ _ (hKeepRevocation x2 hbk.block) (fun hHeld => ?_)
   clear hK K HA ho hg hnews hoc hown3 hbW hszB hcl hb3 hbu
   rw [show (2 + 1 : Nat) = 3 from rfl] at *
   have Bx2 := aA hbk
   have Lx2 : Hid ((psx1 ++ [(⟨.slice av (bS x).length cv, bS x, GR⟩ : Prt)]).length = 3) := aA (by rw [List.length_append, unhide Lx1]; rfl)
   have hPP2 : Prts x2 W.heap.size (.slice ax2 (psx1 ++ [(⟨.slice av (bS x).length cv, bS x, GR⟩ : Prt)]).length cx2) (psx1 ++ [(⟨.slice av (bS x).length cv, bS x, GR⟩ : Prt)]) := by rw [unhide Lx2]; exact hPP
   have Px2 := aA hPP2
   have Mx2 := aA (hmm.trans (congrArg (· ++ [(bS x, GR)]) (unhide Mx1)))
   clear hbk hPP hPP2 hmm
   generalize hps : psx1 ++ [(⟨.slice av (bS x).length cv, bS x, GR⟩ : Prt)] = psx2 at *
   clear hps
   refine wpAnyH_take (i := 10) (v := (.slice ax2 3 cx2)) rfl (by kernel_rfl) (by kernel_rfl) (by kernel_rfl) (fun _ _ _ h => h) (Or.inl ⟨by rfl, fun w hSw => by go_simp⟩) hHeld ?_
   exact sh103
  ·rw [decide_eq_false h197] at d197
   rw [if_neg h197] at HEE
   go_wp2
   go_ret
   exact ⟨_, psx1, rfl, (by have := unhide Px1; rw [unhide Lx1] at this; exact this.mono (unhide HB1).size), by rw [unhide Mx1, unhide HEE]; rfl, (unhide HB1).trans ((unhide Bx1).mono (unhide HB1).size)⟩
 ·rw [decide_eq_false h132] at d132
  rw [if_neg h132] at HEE
  have d197 := hc197 w1 (unhide Bw1).block
  by_cases h197 : x 197 ≠ 0
  ·rw [decide_eq_true h197] at d197
   rw [if_pos h197] at HEE
   go_upto_region 5 with fail
   have hC2 := hSayRevocation w1.drew
   refine wp_region_noPanic ?_
   refine wp_region_held_drew (S := fun w' => w'.rangeAt w.heap.size 0 XC ∧ w'.rangeAt w.heap.size 198 (U8 GR)) (by kernel_rfl) (hKeepRevocation w1 (unhide Bw1).block) (fun hHeld => ?_)
   refine tkS 0 (.slice aw1 1 cw1) rfl hHeld ?_
   refine tkS 1 (.pointer (some ⟨w.heap.size, 0, none⟩)) rfl hHeld ?_
   refine tkY 2 _ rfl (yieldsIf_load_mid (by rfl) _ _ rfl _ _ rfl _ _ (fun _ h => h.1) Tryz.underlying32 rfl hZC) hHeld ?_
   refine tkY 3 (.agg XRevocation.toArray) rfl (dB (by rfl) _ _ rfl _ (by simpa [Act.eval] using (unhide HBRevocation))) hHeld ?_
   refine tkS 5 (.pointer (some ⟨w.heap.size, 198, none⟩)) rfl hHeld ?_
   refine tkY 6 _ rfl (yieldsIf_load_mid (by rfl) _ _ rfl _ _ rfl _ _ (fun _ h => h.2) Tryz.underlying30 rfl hZGRevocation) hHeld ?_
   refine rdY 4 rfl fun K hK => ?_
   go_simp
   refine hC2.mono ?_
   intro e u2 hT
   obtain ⟨av, cv, rfl, hown, hB2⟩ := hT.ownB
   have hbx : Below W.heap.size w1 u2 := cJ hB2 (unhide Bw1).size
   have hbu : Below W.heap.size W u2 := (unhide Bw1).trans hbx
   refine hK.out _ _ (hKeepRevocation u2 hbu.block) (fun hHeld => ?_)
   clear hK K hC2 hT
   have hbd := jV hown GR hGlRevocation
   have hrun := jU u2 ⟨.slice av (bS x).length cv, bS x, GR⟩ hGlRevocation
   have hb3 : Below u2.heap.size u2 (u2.alloc (.cells (Prt.cells ⟨.slice av (bS x).length cv, bS x, GR⟩).toArray 232)) := aJ u2 _
   have hP3 := ((unhide Pw1).later (cJ hB2 (Nat.le_refl _))).later hb3
   have hO3 : cI (u2.alloc (.cells (Prt.cells ⟨.slice av (bS x).length cv, bS x, GR⟩).toArray 232)) W.heap.size (.slice av (bS x).length cv) (bS x) := (hown.later hb3).mono (unhide Bw1).size
   have hnews := fX (Arr.new u2 232 (Prt.cells ⟨.slice av (bS x).length cv, bS x, GR⟩))
   have hoc := nM (p := ⟨.slice av (bS x).length cv, bS x, GR⟩) hO3
   have hcl : (Prt.cells ⟨.slice av (bS x).length cv, bS x, GR⟩).length = 65 := Prt.len (p := ⟨.slice av (bS x).length cv, bS x, GR⟩) hGlRevocation
   have hbW : Below W.heap.size W (u2.alloc (.cells (Prt.cells ⟨.slice av (bS x).length cv, bS x, GR⟩).toArray 232)) := hbu.trans (hb3.mono hbu.size)
   have HA : Hid (∀ v' w', w'.ownsRow W.heap.size 232 65 v' (1 + 1) (psw1.flatMap Prt.cells ++ Prt.cells ⟨.slice av (bS x).length cv, bS x, GR⟩) → (u2.alloc (.cells (Prt.cells ⟨.slice av (bS x).length cv, bS x, GR⟩).toArray 232)).grownBy w' (.slice aw1 psw1.length cw1 : Value).ownBlock → Prts w' W.heap.size v' (psw1 ++ [(⟨.slice av (bS x).length cv, bS x, GR⟩ : Prt)]) ∧ Below W.heap.size W w' ∧ (psw1 ++ [(⟨.slice av (bS x).length cv, bS x, GR⟩ : Prt)]).map (fun p : Prt => (p.l, p.g)) = psw1.map (fun p : Prt => (p.l, p.g)) ++ [(bS x, GR)]) := by
    intro v' w' ho hg
    have hp' := Prts.app (p := ⟨.slice av (bS x).length cv, bS x, GR⟩) hP3 hO3 hGlRevocation hGBRevocation (by rw [unhide Lw1]; exact ho) hg (fun q hq g hg1 hg2 => Nat.lt_irrefl _ (Nat.lt_of_lt_of_le (((unhide Pw1).each q hq).1.1.lt g hg1).2 (hown.1.lt g hg2).1))
    have hbe : Below W.heap.size (u2.alloc (.cells (Prt.cells ⟨.slice av (bS x).length cv, bS x, GR⟩).toArray 232)) w' := iR (row := none) hP3.own hg (Nat.le_refl _) hbW.size
    exact ⟨hp', hbW.trans hbe, by rw [List.map_append]; rfl⟩
   have hown3 := hP3.own
   rw [unhide Lw1] at hown3 HA
   have hszB := hbW.size
   clear hP3 hO3 hown hB2 hbx
   refine tkY 7 (.agg (Prt.cells ⟨.slice av (bS x).length cv, bS x, GR⟩).toArray) rfl (dB (by rfl) _ _ rfl _ (by simpa [Act.eval] using hbd)) hHeld ?_
   refine rdY 8 rfl fun K hK => ?_
   refine lY rfl _ _ _ rfl _ _ (by simpa [Act.eval] using hrun) ?_
   simp only [Act.put]
   refine hK.out _ _ (hKeepRevocation _ hbW.block) (fun hHeld => ?_)
   clear hK K hrun hbd
   refine rdY 9 rfl fun K hK => ?_
   refine mP rfl (.tmp 21) (.tmp 29) 228 rfl W.heap.size 232 it (.agg Z.toArray) 65 88 Tryz.underlying228 hi hz hs hb (by simp [Value.cells, hZl]) (by decide) (.slice aw1 1 cw1) 1 _ rfl hown3 ⟨u2.heap.size, 0, none⟩ 1 1 _ rfl (by rw [hcl]) hnews hoc (by unfold maxLen; omega) (by omega) hszB (fun v' x2 ho hg => ?_)
   obtain ⟨hPP, hbk, hmm⟩ := unhide HA v' x2 ho hg
   obtain ⟨ax2, cx2, rfl⟩ := bK ho
   refine hK.out _ _ (hKeepRevocation x2 hbk.block) (fun hHeld => ?_)
   clear hK K HA ho hg hnews hoc hown3 hbW hszB hcl hb3 hbu
   rw [show (1 + 1 : Nat) = 2 from rfl] at *
   have Bx2 := aA hbk
   have Lx2 : Hid ((psw1 ++ [(⟨.slice av (bS x).length cv, bS x, GR⟩ : Prt)]).length = 2) := aA (by rw [List.length_append, unhide Lw1]; rfl)
   have hPP2 : Prts x2 W.heap.size (.slice ax2 (psw1 ++ [(⟨.slice av (bS x).length cv, bS x, GR⟩ : Prt)]).length cx2) (psw1 ++ [(⟨.slice av (bS x).length cv, bS x, GR⟩ : Prt)]) := by rw [unhide Lx2]; exact hPP
   have Px2 := aA hPP2
   have Mx2 := aA (hmm.trans (congrArg (· ++ [(bS x, GR)]) (unhide Mw1)))
   clear hbk hPP hPP2 hmm
   generalize hps : psw1 ++ [(⟨.slice av (bS x).length cv, bS x, GR⟩ : Prt)] = psx2 at *
   clear hps
   refine wpAnyH_take (i := 10) (v := (.slice ax2 2 cx2)) rfl (by kernel_rfl) (by kernel_rfl) (by kernel_rfl) (fun _ _ _ h => h) (Or.inl ⟨by rfl, fun w hSw => by go_simp⟩) hHeld ?_
   exact sh103
  ·rw [decide_eq_false h197] at d197
   rw [if_neg h197] at HEE
   go_wp2
   go_ret
   exact ⟨_, psw1, rfl, (by have := unhide Pw1; rw [unhide Lw1] at this; exact this.mono (unhide HB1).size), by rw [unhide Mw1, unhide HEE]; rfl, (unhide HB1).trans ((unhide Bw1).mono (unhide HB1).size)⟩
def cS (E : List (List Int × List Int)) (w : World) (e : Ending) (w' : World) : Prop := ∃ v ps, e = .returned (.tuple #[v, .int .i64 0]) ∧ Prts w' w.heap.size v ps ∧ ps.map (fun p => (p.l, p.g)) = E ∧ Below w.heap.size w w'
end Go.Proofs.YtejagcngbgnogaaGreat
