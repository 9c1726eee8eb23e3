import Derived.Test.YtejagcngbgnogaaGreatQShr
import Derived.Test.YtejagcngbgnogaaGreatQGbtZ
import Derived.Test.YtejagcngbgnogaaGreatQGbgZ
set_option maxHeartbeats 16000000
set_option maxRecDepth 100000
set_option linter.unusedSimpArgs false
set_option linter.unusedVariables false
namespace Go.Proofs.YtejagcngbgnogaaGreat
open Go.RowKit
theorem kK {B : Nat} {a c : World} (h : Below B a c) : Below B a c.drew := ⟨h.os, h.tape, h.output, h.size, h.block⟩
theorem RSads.butO {w w' : World} {base g : Nat} {v1 v2 : Value} {ss : List Sl} {E : List (List Int × List Int)} (h : RSads w base v1 v2 ss E) (hb : But g w w') (n1 : some g ≠ v1.ownBlock) (n2 : some g ≠ v2.ownBlock) (of : ∀ s ∈ ss, s.Off (some g)) : RSads w' base v1 v2 ss E :=
 ⟨iC h.l1 hb n1, iC h.l2 hb n2, fun i p hp => by
  obtain ⟨t, h1, h2, h3⟩ := h.each i p hp
  exact ⟨t, h1, jR h2 hb (of t (List.mem_of_getElem? h1)), h3⟩, fun s hs => ⟨jR (h.off s hs).1 hb (of s hs), (h.off s hs).2⟩⟩
structure ESt (W : World) (q : Nat) (v1 v2 : Value) (ss : List Sl) (E : List (List Int × List Int)) (wx : World) : Prop where
 rs : RSads wx W.heap.size v1 v2 ss E
 sv : Arr wx q 234 [v1, v2]
 hq : W.heap.size ≤ q
 off : ∀ s ∈ ss, s.Off (some q)
 bel : Below W.heap.size W wx
theorem ESt.next {W : World} {q : Nat} {v1 v2 v1' v2' : Value} {ss : List Sl} {E E' : List (List Int × List Int)} {s : Sl} {wx u u' : World} (h : ESt W q v1 v2 ss E wx) (hb : Below wx.heap.size wx u) (hs : ∀ y, s.a = some y → wx.heap.size ≤ y.block) (hr : RSads u' W.heap.size v1' v2' (ss ++ [s]) E') (hB : Below W.heap.size u u')
  (hf : ∀ k, k < u.heap.size → some k ≠ v1.ownBlock → some k ≠ v2.ownBlock → u'.heap[k]? = u.heap[k]?) : Arr u' q 234 [v1, v2] ∧ ESt W q v1' v2' (ss ++ [s]) E' (u'.setRow q #[v1', v2']) := by
 have hqlt := h.sv.lt
 have svu := h.sv.later hb
 have r1 := h.rs.later hb
 have sv' : Arr u' q 234 [v1, v2] := (hf q svu.lt (cF r1.l1 svu (by decide)) (cF r1.l2 svu (by decide))).trans svu
 have b9 : But q u' (u'.setRow q #[v1', v2']) := (But.refl _ _).setRow _
 have of : ∀ t ∈ ss ++ [s], t.Off (some q) := fun t ht => by
  rcases List.mem_append.1 ht with h1 | h1
  ·exact h.off t h1
  ·simp at h1; subst h1
   intro _ y hy e
   simp only [Option.some.injEq] at e
   have := hs y hy; omega
 have bl : Below W.heap.size W u' := (h.bel.trans (hb.mono h.bel.size)).trans hB
 refine ⟨sv', ⟨hr.butO b9 (cF hr.l1 sv' (by decide)) (cF hr.l2 sv' (by decide)) of, ?_, h.hq, of, bl.trans (fF b9 bl.size h.hq)⟩⟩
 exact sv'.setRow [v1', v2']
theorem ESt.first {W : World} {q : Nat} {v1 v2 : Value} {s : Sl} {E : List (List Int × List Int)} {u : World} (hr : RSads u W.heap.size v1 v2 [s] E) (hb : Below W.heap.size W u) (hA : Arr u q 234 [.slice none 0 0, .slice none 0 0]) (hq : W.heap.size ≤ q) (of : s.Off (some q)) : ESt W q v1 v2 [s] E (u.setRow q #[v1, v2]) := by
 have b9 : But q u (u.setRow q #[v1, v2]) := (But.refl _ _).setRow _
 have of' : ∀ t ∈ [s], t.Off (some q) := fun t ht => by simp at ht; subst ht; exact of
 exact ⟨hr.butO b9 (cF hr.l1 hA (by decide)) (cF hr.l2 hA (by decide)) of', hA.setRow [v1, v2], hq, of', hb.trans (fF b9 hb.size hq)⟩
theorem pM {w W wx : World} {q : Nat} {v1 v2 : Value} {ss : List Sl} {E : List (List Int × List Int)} (h : ESt W q v1 v2 ss E wx) (hb : Below w.heap.size w W) (hR : Arr wx (w.heap.size + 1) 234 [.slice none 0 0, .slice none 0 0]) (hlt : w.heap.size + 1 < W.heap.size) : RSads (wx.setRow (w.heap.size + 1) #[v1, v2]) w.heap.size v1 v2 ss E ∧ Below w.heap.size w (wx.setRow (w.heap.size + 1) #[v1, v2]) := by
 have b9 : But (w.heap.size + 1) wx (wx.setRow (w.heap.size + 1) #[v1, v2]) := (But.refl _ _).setRow _
 have b1 := hb.trans (h.bel.mono hb.size)
 exact ⟨(h.rs.but b9 hlt).mono hb.size, b1.trans (fF b9 b1.size (Nat.le_succ _))⟩
theorem jF {w : World} {base : Nat} {v1 v2 : Value} {ss : List Sl} {E : List (List Int × List Int)} (h : RSads w base v1 v2 ss E) : (#[v1, v2] : Array Value).all (·.oneCell') = true := by
 obtain ⟨ax, cx, hx1⟩ := bK h.l1
 obtain ⟨az, cz, hz1⟩ := bK h.l2
 rw [hx1, hz1]; simp [Value.oneCell']
theorem saidEntry_any (x : Nat → Int) (w : World) (hok : ∀ i, i < 262 → (aI i).ok (x i)) :
  Calls Tryz.prog 282 #[.agg (cl aI 262 x).toArray] w fun e w' => ∃ v1 v2 ss, e = .returned (.agg #[v1, v2]) ∧ RSads w' w.heap.size v1 v2 ss (entE x) ∧ Below w.heap.size w w' := by
 have hokC : ∀ i, i < 99 → (aD i).ok (x i) := fun i hi => by have := hok i (by omega); unfold aI at this; rwa [if_pos hi] at this
 have s0 : (w.alloc (.cells (cl aI 262 x).toArray 61)).heap.size = w.heap.size + 1 := by simp
 obtain ⟨W, hW⟩ : ∃ W, W = (w.alloc (.cells (cl aI 262 x).toArray 61)).alloc (.cells #[.slice none 0 0, .slice none 0 0] 234) := ⟨_, rfl⟩
 have hQ : Arr W w.heap.size 61 (cl aI 262 x) := by rw [hW]; exact (Arr.new w _ _).alloc _
 have hR : Arr W (w.heap.size + 1) 234 [.slice none 0 0, .slice none 0 0] := by rw [hW, ← s0]; exact Arr.new _ _ [.slice none 0 0, .slice none 0 0]
 have b1 : Below w.heap.size w W := by rw [hW]; exact bV (aJ w _) _ (by rw [s0]; omega)
 have rC : W.rangeAt w.heap.size 0 (cl aD 99 x) := by
  have := dM hQ 0 99 aD (by decide) (fun i hi => by unfold aI; rw [Nat.zero_add, if_pos hi])
  rwa [bF] at this
 have rg : ∀ off, off + 64 ≤ 262 → (∀ i, i < 64 → aI (off + i) = .b) → W.rangeAt w.heap.size off (U8 (run x off 64)) := fun off h1 h2 => by
  rw [← iG]; exact dM hQ off 64 sB h1 (fun i hi => by rw [h2 i hi]; rfl)
 have rg0 := rg 35 (by decide) (fun i hi => by unfold aI aD; rw [if_pos (by omega), if_neg (by omega)])
 have rg1 := rg 133 (by decide) (fun i hi => by unfold aI; rw [if_neg (by omega), if_neg (by omega), if_neg (by omega)])
 have rg2 := rg 198 (by decide) (fun i hi => by unfold aI; rw [if_neg (by omega), if_neg (by omega), if_neg (by omega)])
 have c132 : W.cell? ⟨w.heap.size, 132, none⟩ = some (.bool (decide (x 132 ≠ 0))) := by rw [hQ.cell, eB _ _ _ _ (by decide)]; rfl
 have c197 : W.cell? ⟨w.heap.size, 197, none⟩ = some (.bool (decide (x 197 ≠ 0))) := by rw [hQ.cell, eB _ _ _ _ (by decide)]; rfl
 have hlt := hQ.lt
 have hltR := hR.lt
 have hB0 : IsB (run x 35 64) := fD hok (by decide) (fun i hi => by unfold aI aD; rw [if_pos (by omega), if_neg (by omega)])
 have hB1 : IsB (run x 133 64) := fD hok (by decide) (fun i hi => by unfold aI; rw [if_neg (by omega), if_neg (by omega), if_neg (by omega)])
 have hB2 : IsB (run x 198 64) := fD hok (by decide) (fun i hi => by unfold aI; rw [if_neg (by omega), if_neg (by omega), if_neg (by omega)])
 have hG0 : (run x 35 64).length = 64 := aN _ _ _
 have hG1 : (run x 133 64).length = 64 := aN _ _ _
 have hG2 : (run x 198 64).length = 64 := aN _ _ _
 have hZC : (Tryz.prog.info? 32).map (·.size) = some (cl aD 99 x).length := by rw [aC]; exact Tryz.szKCert
 have hZg : ∀ g : List Int, g.length = 64 → (Tryz.prog.info? 30).map (·.size) = some (U8 g).length := fun g hg => by rw [U8_length, hg]; exact Tryz.szKSig
 have hZg0 := hZg _ hG0
 have hZg1 := hZg _ hG1
 have hZg2 := hZg _ hG2
 have hS0 := fun V => gZ x V hokC
 have hS1 := fun V => kD (eX x) V (pD hokC)
 have hS2 := fun V => iQ (eX x) V (onlyC_okR hokC)
 have hbF := pO x
 have hbR := mL x
 have HEE : Hid (entE x = (tellL 1 (aB (aF.take 4)) x, run x 35 64) :: ((if x 132 ≠ 0 then [(tellL 4 (aB (aM.take 1)) (eX x), run x 133 64)] else []) ++ (if x 197 ≠ 0 then [(tellL 6 (aB (aE.take 1)) (eX x), run x 198 64)] else []))) := aA rfl
 clear hQ hok hokC rg hZg s0
 generalize entE x = EE at *
 generalize tellL 1 (aB (aF.take 4)) x = L0 at *
 generalize tellL 4 (aB (aM.take 1)) (eX x) = L1 at *
 generalize tellL 6 (aB (aE.take 1)) (eX x) = L2 at *
 generalize run x 35 64 = G0 at *
 generalize run x 133 64 = G1 at *
 generalize run x 198 64 = G2 at *
 generalize cl aR 163 (eX x) = XF at *
 generalize cl aG 163 (eX x) = XR at *
 generalize cl aD 99 x = XC at *
 generalize cl aI 262 x = X at *
 have HW := aA hW
 have HBF := aA hbF
 have HBR := aA hbR
 have hKeep0 : ∀ (c : World), Below W.heap.size W c → (c.rangeAt w.heap.size 0 XC ∧ c.rangeAt w.heap.size 35 (U8 G0)) := fun c h => ⟨fun j v hj => (World.cell?_of_block (h.block _ hlt)).trans (rC j v hj), fun j v hj => (World.cell?_of_block (h.block _ hlt)).trans (rg0 j v hj)⟩
 have hKeep1 : ∀ (c : World), Below W.heap.size W c → (c.rangeAt w.heap.size 0 XC ∧ c.rangeAt w.heap.size 133 (U8 G1)) := fun c h => ⟨fun j v hj => (World.cell?_of_block (h.block _ hlt)).trans (rC j v hj), fun j v hj => (World.cell?_of_block (h.block _ hlt)).trans (rg1 j v hj)⟩
 have hKeep2 : ∀ (c : World), Below W.heap.size W c → (c.rangeAt w.heap.size 0 XC ∧ c.rangeAt w.heap.size 198 (U8 G2)) := fun c h => ⟨fun j v hj => (World.cell?_of_block (h.block _ hlt)).trans (rC j v hj), fun j v hj => (World.cell?_of_block (h.block _ hlt)).trans (rg2 j v hj)⟩
 have k132 : ∀ (c : World), Below W.heap.size W c → c.cell? ⟨w.heap.size, 132, none⟩ = some (.bool (decide (x 132 ≠ 0))) := fun c h => (World.cell?_of_block (h.block _ hlt)).trans c132
 have k197 : ∀ (c : World), Below W.heap.size W c → c.cell? ⟨w.heap.size, 197, none⟩ = some (.bool (decide (x 197 ≠ 0))) := fun c h => (World.cell?_of_block (h.block _ hlt)).trans c197
 have kR : ∀ (c : World), Below W.heap.size W c → Arr c (w.heap.size + 1) 234 [.slice none 0 0, .slice none 0 0] := fun c h => (h.block _ hltR).trans hR
 have HK0 := aA hKeep0
 have HK1 := aA hKeep1
 have HK2 := aA hKeep2
 have HC1 := aA k132
 have HC2 := aA k197
 have HKR := aA kR
 have HB1 := aA b1
 clear hW hbF hbR rC rg0 rg1 rg2 c132 c197 hKeep0 hKeep1 hKeep2 k132 k197 kR hR b1
 go_enter Tryz.func282, Tryz.ntmps282
 go_upto_region 1 with fail
 rw [← unhide HW]
 clear HW
 go_cut [3] (fun v3 wx => ∃ q v1 v2 s, v3 = .pointer (some ⟨q, 0, none⟩) ∧ Hid (ESt W q v1 v2 [s] [(L0, G0)] wx))
 case first =>
  refine wp_region_noPanic ?_
  refine wp_region_held_drew (S := fun w' => w'.rangeAt w.heap.size 0 XC ∧ w'.rangeAt w.heap.size 35 (U8 G0)) (by kernel_rfl) (unhide HK0 W (Below.refl _ _)) (fun hHeld => ?_)
  refine tkY 0 (.agg #[.slice none 0 0, .slice none 0 0]) rfl (dB (by rfl) _ _ rfl _ (by kernel_rfl)) hHeld ?_
  refine tkS 1 (.pointer (some ⟨w.heap.size, 0, none⟩)) rfl hHeld ?_
  refine tkY 2 _ rfl (yieldsIf_load_mid (by rfl) _ _ rfl _ _ rfl _ _ (fun _ h => h.1) Tryz.underlying32 rfl hZC) hHeld ?_
  refine tkS 4 (.pointer (some ⟨w.heap.size, 0, none⟩)) rfl hHeld ?_
  refine tkS 5 (.pointer (some ⟨w.heap.size, 35, none⟩)) rfl hHeld ?_
  refine tkY 6 _ rfl (yieldsIf_load_mid (by rfl) _ _ rfl _ _ rfl _ _ (fun _ h => h.2) Tryz.underlying30 rfl hZg0) hHeld ?_
  refine wpAnyH_ready (rs := [3, 8]) (by kernel_rfl) (by simp) ?_
  refine AllReadyH.cons rfl (fun K hK => ?_) (AllReadyH.cons rfl (fun K hK => ?_) AllReadyH.nil)
  ·go_simp
   refine (hS0 W.drew).mono ?_
   rintro e ys ⟨s, rfl, hs, hsl, hsf, hBs⟩
   have hsv : s.v = .slice s.a s.n s.c := rfl
   have bs : Below W.heap.size W ys := cJ hBs (Nat.le_refl _)
   refine hK.out _ _ (unhide HK0 _ bs) (fun hHeld => ?_)
   clear hK K
   have o1 : s.Off (Value.slice none 0 0).ownBlock := fun _ _ _ e => by simp [Value.ownBlock] at e
   have hsb : ∀ y, s.a = some y → W.heap.size ≤ y.block := hsf
   refine wpAnyH_ready (rs := [7, 8]) (by kernel_rfl) (by simp) ?_
   have hC : _ := gR ys W.heap.size (.slice none 0 0) (.slice none 0 0) [] [] s G0 (RSads.nil _ _) (by decide) hs o1 o1 hsb hG0 hB0 bs.size
   rw [hsl, hsv] at hC
   refine AllReadyH.cons rfl (fun K hK => ?_) (AllReadyH.cons rfl (fun K hK => ?_) AllReadyH.nil)
   ·go_simp
    refine hC.mono ?_
    rintro e yw ⟨v1, v2, rfl, RS, hBw, hfr⟩
    have bw : Below W.heap.size W yw := bs.trans hBw
    refine hK.out _ _ (unhide HK0 _ bw) (fun hHeld => ?_)
    clear hK K hC
    refine rdY 8 rfl fun K hK => ?_
    go_simp
    have ba := aJ yw (.cells #[.slice none 0 0, .slice none 0 0] 234)
    have hAn := Arr.new yw 234 [.slice none 0 0, .slice none 0 0]
    have bn : Below W.heap.size W (yw.alloc (.cells #[.slice none 0 0, .slice none 0 0] 234)) := bw.trans (ba.mono bw.size)
    refine hK.out _ _ (unhide HK0 _ bn) (fun hHeld => ?_)
    clear hK K
    have RS2 := RS.later ba
    refine rdY 9 rfl fun K hK => ?_
    refine eH rfl 234 (.tmp 3) (.tmp 11) rfl yw.heap.size #[v1, v2] rfl rfl 234 #[.slice none 0 0, .slice none 0 0] hAn (by kernel_rfl) rfl (jF RS2) ?_
    simp only [Act.put]
    have hE := ESt.first (by simpa using RS2) bn hAn bw.size (fun hl y hy e => by have := (RS.off s (by simp)).1.lt hl y hy; simp only [Option.some.injEq] at e; omega)
    exact sh94
   ·clear hC
    go_simp
    have ba := aJ ys (.cells #[.slice none 0 0, .slice none 0 0] 234)
    have hAn := Arr.new ys 234 [.slice none 0 0, .slice none 0 0]
    have bn : Below W.heap.size W (ys.alloc (.cells #[.slice none 0 0, .slice none 0 0] 234)) := bs.trans (ba.mono bs.size)
    refine hK.out _ _ (unhide HK0 _ bn) (fun hHeld => ?_)
    clear hK K
    have hs2 := hs.later ba
    have hys := hs.lt
    have hC := gR _ W.heap.size (.slice none 0 0) (.slice none 0 0) [] [] s G0 (RSads.nil _ _) (by decide) hs2 o1 o1 hsb hG0 hB0 bn.size
    rw [hsl, hsv] at hC
    refine rdY 7 rfl fun K hK => ?_
    go_simp
    refine hC.mono ?_
    rintro e yw ⟨v1, v2, rfl, RS, hBw, hfr⟩
    have bw : Below W.heap.size W yw := bn.trans hBw
    refine hK.out _ _ (unhide HK0 _ bw) (fun hHeld => ?_)
    clear hK K hC
    have hA2 : Arr yw ys.heap.size 234 [.slice none 0 0, .slice none 0 0] := (hfr _ hAn.lt (by simp [Value.ownBlock]) (by simp [Value.ownBlock])).trans hAn
    refine rdY 9 rfl fun K hK => ?_
    refine eH rfl 234 (.tmp 3) (.tmp 11) rfl ys.heap.size #[v1, v2] rfl rfl 234 #[.slice none 0 0, .slice none 0 0] hA2 (by kernel_rfl) rfl (jF RS) ?_
    simp only [Act.put]
    have hE := ESt.first (by simpa using RS) bw hA2 bs.size (fun hl y hy e => by have := hys hl y hy; simp only [Option.some.injEq] at e; omega)
    exact sh94
  ·go_simp
   have ba := aJ W.drew (.cells #[.slice none 0 0, .slice none 0 0] 234)
   have hAn := Arr.new W.drew 234 [.slice none 0 0, .slice none 0 0]
   have bn : Below W.heap.size W (W.drew.alloc (.cells #[.slice none 0 0, .slice none 0 0] 234)) := cJ (by exact ba) (Nat.le_refl _)
   refine hK.out _ _ (unhide HK0 _ bn) (fun hHeld => ?_)
   clear hK K
   refine rdY 3 rfl fun K hK => ?_
   have hz1 : (W.alloc (.cells #[.slice none 0 0, .slice none 0 0] 234)).drew.heap.size = W.heap.size + 1 := by show (W.alloc _).heap.size = _; simp
   go_simp
   refine (hS0 _).mono ?_
   rintro e ys ⟨s, rfl, hs, hsl, hsf, hBs⟩
   have hsv : s.v = .slice s.a s.n s.c := rfl
   have bs : Below W.heap.size W ys := bn.trans (hBs.mono bn.size)
   refine hK.out _ _ (unhide HK0 _ bs) (fun hHeld => ?_)
   clear hK K
   have o1 : s.Off (Value.slice none 0 0).ownBlock := fun _ _ _ e => by simp [Value.ownBlock] at e
   have hsb : ∀ y, s.a = some y → W.heap.size ≤ y.block := fun y hy => by have := hsf y hy; omega
   have hA1 := hAn.later hBs
   have hC := gR ys W.heap.size (.slice none 0 0) (.slice none 0 0) [] [] s G0 (RSads.nil _ _) (by decide) hs o1 o1 hsb hG0 hB0 bs.size
   rw [hsl, hsv] at hC
   refine rdY 7 rfl fun K hK => ?_
   go_simp
   refine hC.mono ?_
   rintro e yw ⟨v1, v2, rfl, RS, hBw, hfr⟩
   have bw : Below W.heap.size W yw := bs.trans hBw
   refine hK.out _ _ (unhide HK0 _ bw) (fun hHeld => ?_)
   clear hK K hC
   have hA2 : Arr yw W.heap.size 234 [.slice none 0 0, .slice none 0 0] := (hfr _ hA1.lt (by simp [Value.ownBlock]) (by simp [Value.ownBlock])).trans hA1
   refine rdY 9 rfl fun K hK => ?_
   refine eH rfl 234 (.tmp 3) (.tmp 11) rfl W.heap.size #[v1, v2] rfl rfl 234 #[.slice none 0 0, .slice none 0 0] hA2 (by kernel_rfl) rfl (jF RS) ?_
   simp only [Act.put]
   have hE := ESt.first (by simpa using RS) bw hA2 (Nat.le_refl _) (fun hl y hy e => by have := hsf y hy; simp only [Option.some.injEq] at e; omega)
   exact sh94
 case rest =>
  obtain ⟨q, v1, v2, s, rfl, HE0⟩ := hcut
  have d1 := unhide HC1 _ (unhide HE0).bel
  by_cases h132 : x 132 ≠ 0
  ·rw [decide_eq_true h132] at d1
   rw [if_pos h132] at HEE
   go_upto_region 3 with fail
   refine wp_region_noPanic ?_
   refine wp_region_held_drew (S := fun w' => w'.rangeAt w.heap.size 0 XC ∧ w'.rangeAt w.heap.size 133 (U8 G1)) (by kernel_rfl) (unhide HK1 _ (kK (unhide HE0).bel)) (fun hHeld => ?_)
   refine tkS 1 (.pointer (some ⟨w.heap.size, 0, none⟩)) rfl hHeld ?_
   refine tkY 2 _ rfl (yieldsIf_load_mid (by rfl) _ _ rfl _ _ rfl _ _ (fun _ h => h.1) Tryz.underlying32 rfl hZC) hHeld ?_
   refine tkY 3 (.agg XF.toArray) rfl (dB (by rfl) _ _ rfl _ (by simpa [Act.eval] using (unhide HBF))) hHeld ?_
   refine tkS 5 (.pointer (some ⟨w.heap.size, 133, none⟩)) rfl hHeld ?_
   refine tkY 6 _ rfl (yieldsIf_load_mid (by rfl) _ _ rfl _ _ rfl _ _ (fun _ h => h.2) Tryz.underlying30 rfl hZg1) hHeld ?_
   have hE1 := unhide HE0
   refine wpAnyH_ready (rs := [0, 4]) (by kernel_rfl) (by simp) ?_
   refine AllReadyH.cons rfl (fun K hK => ?_) (AllReadyH.cons rfl (fun K hK => ?_) AllReadyH.nil)
   ·refine gC rfl 234 (.tmp 3) rfl q rfl 234 #[v1, v2] (0, 0) _ (unhide HE0).sv Tryz.underlying234 rfl (by kernel_rfl) ?_
    simp only [Act.put]
    refine hK.out _ _ (unhide HK1 _ (kK (unhide HE0).bel)) (fun hHeld => ?_)
    clear hK K
    refine rdY 4 rfl fun K hK => ?_
    go_simp
    refine (hS1 _).mono ?_
    rintro e ys1 ⟨s1, rfl, hs, hsl1, hsf, hBs⟩
    have hsv : s1.v = .slice s1.a s1.n s1.c := rfl
    have bu : Below wc.heap.size wc ys1 := cJ hBs (Nat.le_refl _)
    have bs := hE1.bel.trans (bu.mono hE1.bel.size)
    have svs := hE1.sv.later bu
    have RSs := hE1.rs.later bu
    exact sh22
   ·go_simp
    refine (hS1 _).mono ?_
    rintro e ys1 ⟨s1, rfl, hs, hsl1, hsf, hBs⟩
    have hsv : s1.v = .slice s1.a s1.n s1.c := rfl
    have bu : Below wc.heap.size wc ys1 := cJ hBs (Nat.le_refl _)
    have bs := hE1.bel.trans (bu.mono hE1.bel.size)
    have svs := hE1.sv.later bu
    have RSs := hE1.rs.later bu
    refine hK.out _ _ (unhide HK1 _ bs) (fun hHeld => ?_)
    clear hK K
    refine rdY 0 rfl fun K hK => ?_
    refine gC rfl 234 (.tmp 3) rfl q rfl 234 #[v1, v2] (0, 0) _ svs Tryz.underlying234 rfl (by kernel_rfl) ?_
    simp only [Act.put]
    exact sh22
  ·rw [decide_eq_false h132] at d1
   rw [if_neg h132] at HEE
   have d2 := unhide HC2 _ (unhide HE0).bel
   by_cases h197 : x 197 ≠ 0
   ·rw [decide_eq_true h197] at d2
    rw [if_pos h197] at HEE
    go_upto_region 5 with fail
    refine wp_region_noPanic ?_
    refine wp_region_held_drew (S := fun w' => w'.rangeAt w.heap.size 0 XC ∧ w'.rangeAt w.heap.size 198 (U8 G2)) (by kernel_rfl) (unhide HK2 _ (kK (unhide HE0).bel)) (fun hHeld => ?_)
    refine tkS 1 (.pointer (some ⟨w.heap.size, 0, none⟩)) rfl hHeld ?_
    refine tkY 2 _ rfl (yieldsIf_load_mid (by rfl) _ _ rfl _ _ rfl _ _ (fun _ h => h.1) Tryz.underlying32 rfl hZC) hHeld ?_
    refine tkY 3 (.agg XR.toArray) rfl (dB (by rfl) _ _ rfl _ (by simpa [Act.eval] using (unhide HBR))) hHeld ?_
    refine tkS 5 (.pointer (some ⟨w.heap.size, 198, none⟩)) rfl hHeld ?_
    refine tkY 6 _ rfl (yieldsIf_load_mid (by rfl) _ _ rfl _ _ rfl _ _ (fun _ h => h.2) Tryz.underlying30 rfl hZg2) hHeld ?_
    have hE2 := unhide HE0
    refine wpAnyH_ready (rs := [0, 4]) (by kernel_rfl) (by simp) ?_
    refine AllReadyH.cons rfl (fun K hK => ?_) (AllReadyH.cons rfl (fun K hK => ?_) AllReadyH.nil)
    ·refine gC rfl 234 (.tmp 3) rfl q rfl 234 #[v1, v2] (0, 0) _ (unhide HE0).sv Tryz.underlying234 rfl (by kernel_rfl) ?_
     simp only [Act.put]
     refine hK.out _ _ (unhide HK2 _ (kK (unhide HE0).bel)) (fun hHeld => ?_)
     clear hK K
     refine rdY 4 rfl fun K hK => ?_
     go_simp
     refine (hS2 _).mono ?_
     rintro e ys2 ⟨s2, rfl, hs, hsl2, hsf, hBs⟩
     have hsv : s2.v = .slice s2.a s2.n s2.c := rfl
     have bu : Below wc.heap.size wc ys2 := cJ hBs (Nat.le_refl _)
     have bs := hE2.bel.trans (bu.mono hE2.bel.size)
     have svs := hE2.sv.later bu
     have RSs := hE2.rs.later bu
     exact sh124
    ·go_simp
     refine (hS2 _).mono ?_
     rintro e ys2 ⟨s2, rfl, hs, hsl2, hsf, hBs⟩
     have hsv : s2.v = .slice s2.a s2.n s2.c := rfl
     have bu : Below wc.heap.size wc ys2 := cJ hBs (Nat.le_refl _)
     have bs := hE2.bel.trans (bu.mono hE2.bel.size)
     have svs := hE2.sv.later bu
     have RSs := hE2.rs.later bu
     refine hK.out _ _ (unhide HK2 _ bs) (fun hHeld => ?_)
     clear hK K
     refine rdY 0 rfl fun K hK => ?_
     refine gC rfl 234 (.tmp 3) rfl q rfl 234 #[v1, v2] (0, 0) _ svs Tryz.underlying234 rfl (by kernel_rfl) ?_
     simp only [Act.put]
     exact sh124
   ·rw [decide_eq_false h197] at d2
    rw [if_neg h197] at HEE
    have hEF := unhide HE0
    have hR9 := unhide HKR _ hEF.bel
    go_upto_region 6 with fail
    refine wp_region_lit ?_
    refine wpList_load_mid rfl 234 (.tmp 3) rfl q 0 rfl [v1, v2] _ (Arr.range hEF.sv) Tryz.underlying234 rfl (by kernel_rfl) ?_
    simp only [Act.put]
    refine wpList_store_row rfl 234 (.tmp 2) (.tmp 32) rfl (w.heap.size + 1) #[v1, v2] rfl rfl 234 #[.slice none 0 0, .slice none 0 0] hR9 (by kernel_rfl) rfl (jF hEF.rs) ?_
    have HPO := aA (pM hEF (unhide HB1) hR9 hltR)
    refine wpList_nil ?_
    go_wp2
    refine bodyPost_ret (results_cell_row rfl _ _ (w.heap.size + 1) 234 #[v1, v2] (0, 0) _ rfl (setRow_heap _ (w.heap.size + 1) _ _ _ _ hR9) Tryz.underlying234 rfl (by kernel_rfl)) rfl ?_
    exact sh162
end Go.Proofs.YtejagcngbgnogaaGreat
