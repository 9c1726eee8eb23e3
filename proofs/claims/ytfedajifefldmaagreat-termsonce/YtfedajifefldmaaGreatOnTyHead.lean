import Derived.BigQuiet
import Derived.Deep.QuietTactic
import Derived.Deep.RegionHeld3
import Derived.Test.YtfedajifefldmaaGreatOnGsM
namespace Go.Proofs.YtfedajifefldmaaGreat
open Go.RowKit

set_option maxHeartbeats 1000000 in
set_option maxRecDepth 100000 in
theorem numPut_Head {S : Nat → Prop} {w0 : World} {sT : Nat → Kd} {nT a bx : Nat} {least : Int} {mo : (Nat → Int) → Int} {pv : Value} {ty0 : TypeId} (hp : PlOk S w0 a pv) (hA : Arr w0 bx ty0 [pv]) (hbx : S bx) (ha : a < nT) (hs : sT a = .n) :
    PutOk S w0 sT nT (fsNum a least mo) (.func (.func 332) #[] #[.pointer (some ⟨bx, 0, none⟩)]) := by
  obtain ⟨k, caps, rfl, eg, hp⟩ := hp
  refine ⟨_, _, rfl, enters_of Tryz.func332 (by kernel_rfl) rfl, ?_⟩
  intro w base p lv l q ty sh N x o hb hW hKp hKb hbs hT hSg hl
  have cb : w.cell? ⟨bx, 0, none⟩ = some (.func (.func k) #[] caps) := by simpa using (hb.arr hA hbx).cell 0
  have ca : w.cell? ⟨q, o + a, none⟩ = some (.int .i64 (sft o x a)) := by rw [hSg.cell hT a ha, hs]; rfl
  have hC := hp w q o hb
  have hU := wU32_any base p lv l 0 (IntKind.u32.wrap (sft o x a)) w hW (wrap32_nn _) (by omega) hbs
  generalize hy : sft o x a = y at *
  have HP : Hid (wLay (beB 4 (IntKind.u32.wrap y)) (l, 0) = (l ++ (fsNum a least mo).enc (sft o x), 0)) := by
    show _ = _
    simp only [wLay, fsNum, hy, if_true]; rfl
  clear hp hSg hl
  simp only [Enters] at eg
  go_enter Tryz.func332, Tryz.ntmps332
  go_wp2_with (first
    | (go_at_fn k; refine hC.mono ?_; rintro e w' ⟨rfl, hw⟩; have hw := hw.symm; subst hw)
    | (go_at_call 237; refine hU.mono ?_; rintro e w' hF; rw [unhide HP] at hF; obtain ⟨rfl, hF⟩ := hF))
  go_end0
  exact ⟨rfl, hF⟩

set_option maxHeartbeats 1000000 in
set_option maxRecDepth 100000 in
theorem numGet_Head {S : Nat → Prop} {w0 : World} {sT : Nat → Kd} {nT a bx : Nat} {least : Int} {mo : (Nat → Int) → Int} {pv : Value} {ty0 : TypeId} (hp : PlOk S w0 a pv) (hA : Arr w0 bx ty0 [pv]) (hbx : S bx) (ha : a < nT) (hs : sT a = .n) :
    GetOk S w0 sT nT (fsNum a least mo) (.func (.func 333) #[] #[.pointer (some ⟨bx, 0, none⟩)]) := by
  obtain ⟨k, caps, rfl, eg, hp⟩ := hp
  refine ⟨_, _, rfl, enters_of Tryz.func333 (by kernel_rfl) rfl, ?_⟩
  intro w p s fl q ty sh N x o hb hR hKp hKq hT hSg hq hn
  have cb : w.cell? ⟨bx, 0, none⟩ = some (.func (.func k) #[] caps) := by simpa using (hb.arr hA hbx).cell 0
  have hC := hp w q o hb
  have hU := rU32_any p s fl w hR
  have HF := fun W e => num_step (W := W) (e := e) (least := least) (mo := mo) hT hR hq hSg ha hs
  clear hp hSg
  simp only [Enters] at eg
  go_enter Tryz.func333, Tryz.ntmps333
  go_wp2_with (first
    | (go_at_fn k; refine hC.mono ?_; rintro e w' ⟨rfl, hw⟩; have hw := hw.symm; subst hw)
    | (go_at_call 239; refine hU.mono ?_; rintro e w' hF; obtain ⟨y, t, fl', rfl, fz, ca, hwr, HG⟩ := HF _ _ hF))
  go_end0
  exact ⟨rfl, t, fl', _, unhide HG⟩

set_option maxHeartbeats 1000000 in
set_option maxRecDepth 100000 in
theorem numFit_Head {S : Nat → Prop} {w0 : World} {sT : Nat → Kd} {nT a bx bl bm : Nat} {least : Int} {mo : (Nat → Int) → Int} {pv mv : Value} {ty0 ty1 ty2 : TypeId} (hp : PlOk S w0 a pv) (hm : MoOk S w0 sT nT mo mv) (hA : Arr w0 bx ty0 [pv]) (hL : Arr w0 bl ty1 [.int .i64 least]) (hM : Arr w0 bm ty2 [mv])
    (hbx : S bx) (hbl : S bl) (hbm : S bm) (ha : a < nT) (hs : sT a = .n) :
    FitOk S w0 sT nT (fsNum a least mo) (.func (.func 334) #[] #[.pointer (some ⟨bl, 0, none⟩), .pointer (some ⟨bx, 0, none⟩), .pointer (some ⟨bm, 0, none⟩)]) := by
  obtain ⟨k, caps, rfl, eg, hp⟩ := hp
  obtain ⟨k2, caps2, rfl, eg2, hm⟩ := hm
  refine ⟨_, _, rfl, enters_of Tryz.func334 (by kernel_rfl) rfl, ?_⟩
  intro w q ty sh N x o hb hT hSg
  have cb : w.cell? ⟨bx, 0, none⟩ = some (.func (.func k) #[] caps) := by simpa using (hb.arr hA hbx).cell 0
  have cl : w.cell? ⟨bl, 0, none⟩ = some (.int .i64 least) := by simpa using (hb.arr hL hbl).cell 0
  have cm : w.cell? ⟨bm, 0, none⟩ = some (.func (.func k2) #[] caps2) := by simpa using (hb.arr hM hbm).cell 0
  have ca : w.cell? ⟨q, o + a, none⟩ = some (.int .i64 (sft o x a)) := by rw [hSg.cell hT a ha, hs]; rfl
  have hC := fun n => hp (w.drewN n) q o (hb.drewN n)
  have hC2 := fun n => hm (w.drewN n) q ty sh N x o (hb.drewN n) (hT.drewN n) hSg
  have HP : Hid ((fsNum a least mo).fit (sft o x) = (decide (least ≤ sft o x a) && decide (sft o x a ≤ mo (sft o x)))) := hide rfl
  generalize (fsNum a least mo).fit (sft o x) = R at *
  generalize mo (sft o x) = m at *
  generalize sft o x a = y at *
  have hK := fun n => bel_drewN (Below.refl w.heap.size w) n
  clear hp hm hSg hb hT hA hL hM hbx hbl hbm
  simp only [Enters] at eg eg2
  by_cases h1 : least ≤ y
  · rw [decide_eq_true h1, Bool.true_and] at HP
    go_enter Tryz.func334, Tryz.ntmps334
    go_wp2
    go_quiet (first
      | (go_at_fn k; exact Calls.quiet_of_same (hC _))
      | (go_at_fn k2; exact Calls.quiet_of_same (hC2 _)))
    go_wp2
    go_ret
    exact ⟨by rw [unhide HP]; rfl, hK _⟩
  · have hd : decide (least ≤ y) = false := decide_eq_false h1
    have HR : Hid (R = false) := by show R = false; rw [unhide HP, hd]; rfl
    clear h1 HP
    go_enter Tryz.func334, Tryz.ntmps334
    go_wp2
    go_quiet (first
      | (go_at_fn k; exact Calls.quiet_of_same (hC _))
      | (go_at_fn k2; exact Calls.quiet_of_same (hC2 _)))
    go_wp2
    go_ret
    exact ⟨by rw [unhide HR]; rfl, hK _⟩

set_option maxHeartbeats 1000000 in
set_option maxRecDepth 100000 in
theorem fixPut_Head {S : Nat → Prop} {w0 : World} {sT : Nat → Kd} {nT a n bx : Nat} {pv : Value} {ty0 : TypeId} (hp : SlOk S w0 a n pv) (hA : Arr w0 bx ty0 [pv]) (hbx : S bx) (ha : a + n ≤ nT) (hs : ∀ i, i < n → sT (a + i) = .b) (hn : n ≤ 1000) (hn0 : 0 < n) :
    PutOk S w0 sT nT (fsFix a n) (.func (.func 301) #[] #[.pointer (some ⟨bx, 0, none⟩)]) := by
  obtain ⟨k, caps, rfl, eg, hp⟩ := hp
  refine ⟨_, _, rfl, enters_of Tryz.func301 (by kernel_rfl) rfl, ?_⟩
  intro w base p lv l q ty sh N x o hb hW hKp hKb hbs hT hSg hl
  have cb : w.cell? ⟨bx, 0, none⟩ = some (.func (.func k) #[] caps) := by simpa using (hb.arr hA hbx).cell 0
  have hok := fsl_ok hT hSg ha hs hn
  have hC := hp w q o hb ⟨_, hSg.cell hT a (by omega)⟩
  have hU := wFixed_any base p lv l 0 (fsl q o a n x) w hW hok (by simp only [fsl]; omega) hbs
  have hv : (fsl q o a n x).v = .slice (some ⟨q, o + a, none⟩) n n := rfl
  rw [hv] at hU
  have HP : Hid (wLay (fsl q o a n x).l (l, 0) = (l ++ (fsFix a n).enc (sft o x), 0)) := by
    show _ = _
    simp only [wLay, fsFix, fsl, if_true]
  clear hp hSg hl
  simp only [Enters] at eg
  go_enter Tryz.func301, Tryz.ntmps301
  go_wp2_with (first
    | (go_at_fn k; refine hC.mono ?_; rintro e w' ⟨rfl, hw⟩; have hw := hw.symm; subst hw)
    | (go_at_call 208; refine hU.mono ?_; rintro e w' hF; rw [unhide HP] at hF; obtain ⟨rfl, hF⟩ := hF))
  go_end0
  exact ⟨rfl, hF⟩

set_option maxHeartbeats 1000000 in
set_option maxRecDepth 100000 in
theorem fixFit_Head {S : Nat → Prop} {w0 : World} {sT : Nat → Kd} {nT a n : Nat} :
    FitOk S w0 sT nT (fsFix a n) (.func (.func 303) #[] #[]) := by
  refine ⟨_, _, rfl, enters_of Tryz.func303 (by kernel_rfl) rfl, ?_⟩
  intro w q ty sh N x o hb hT hSg
  have hK := Below.refl w.heap.size w
  clear hb hT hSg
  go_enter Tryz.func303, Tryz.ntmps303
  go_wp2
  go_ret
  exact ⟨rfl, hK⟩

set_option maxHeartbeats 1000000 in
set_option maxRecDepth 100000 in
theorem numMost_Head {S : Nat → Prop} {w0 : World} {sT : Nat → Kd} {nT bx : Nat} {most : Int} {ty0 : TypeId} (hA : Arr w0 bx ty0 [.int .i64 most]) (hbx : S bx) :
    MoOk S w0 sT nT (fun _ => most) (.func (.func 300) #[] #[.pointer (some ⟨bx, 0, none⟩)]) := by
  refine ⟨_, _, rfl, enters_of Tryz.func300 (by kernel_rfl) rfl, ?_⟩
  intro w q ty sh N x o hb hT hSg
  have cb : w.cell? ⟨bx, 0, none⟩ = some (.int .i64 most) := by simpa using (hb.arr hA hbx).cell 0
  clear hb hT hSg
  go_enter Tryz.func300, Tryz.ntmps300
  go_wp2
  go_ret
  exact ⟨rfl, rfl⟩

set_option maxHeartbeats 2000000 in
set_option maxRecDepth 100000 in
theorem fixGet_Head {S : Nat → Prop} {w0 : World} {sT : Nat → Kd} {nT a n bx : Nat} {pv : Value} {ty0 : TypeId} (hp : SlOk S w0 a n pv) (hA : Arr w0 bx ty0 [pv]) (hbx : S bx) (ha : a + n ≤ nT) (hs : ∀ i, i < n → sT (a + i) = .b) (hn0 : 0 < n) :
    GetOk S w0 sT nT (fsFix a n) (.func (.func 302) #[] #[.pointer (some ⟨bx, 0, none⟩)]) := by
  obtain ⟨k, caps, rfl, eg, hp⟩ := hp
  refine ⟨_, _, rfl, enters_of Tryz.func302 (by kernel_rfl) rfl, ?_⟩
  intro w p s fl q ty sh N x o hb hR hKp hKq hT hSg hq hn
  have cb : w.cell? ⟨bx, 0, none⟩ = some (.func (.func k) #[] caps) := by simpa using (hb.arr hA hbx).cell 0
  have hC := hp w.drew q o (hb.drewN 1) ⟨_, hSg.cell hT a (by omega)⟩
  have hU := rFixed_any p s fl n w.drew (hR.later (bel_drewN (Below.refl _ _) 1)) (by omega)
  have hR' : Rdr w.drew p s fl := hR.later (bel_drewN (Below.refl _ _) 1)
  have hT' : Trm w.drew q ty sh N x := hT.drewN 1
  have hbb : bx ≠ p ∧ bx ≠ q := ⟨fun e => hKp (e ▸ hbx), fun e => hKq (e ▸ hbx)⟩
  clear hp
  simp only [Enters] at eg
  by_cases hno : fl ≠ 0 ∨ s.n < n
  · have HF := fun W e => fix_no (W := W) (e := e) (a := a) (o := o) hT' hR' hno
    clear hno
    go_enter Tryz.func302, Tryz.ntmps302
    refine wp_region_noPanic ?_
    refine wp_region_held_drew (S := fun w' => w'.cell? ⟨bx, 0, none⟩ = some (.func (.func k) #[] caps)) (by kernel_rfl) cb (fun hHeld => ?_)
    refine wpAnyH_take (i := 0) (oi := _) (v := (.func (.func k) #[] caps)) rfl (by kernel_rfl) (by kernel_rfl) (by kernel_rfl) (fun _ _ _ h => h) (Or.inl ⟨by rfl, fun w hSw => by go_simp⟩) hHeld ?_
    simp [Act.put]
    refine wpAnyH_take (i := 1) (oi := _) (v := (.pointer (some ⟨q, o, none⟩))) rfl (by kernel_rfl) (by kernel_rfl) (by kernel_rfl) (fun _ _ _ h => h) (Or.inl ⟨by rfl, fun w hSw => by go_simp⟩) hHeld ?_
    simp [Act.put]
    refine wpAnyH_take (i := 3) (oi := _) (v := (.pointer (some ⟨p, 0, none⟩))) rfl (by kernel_rfl) (by kernel_rfl) (by kernel_rfl) (fun _ _ _ h => h) (Or.inl ⟨by rfl, fun w hSw => by go_simp⟩) hHeld ?_
    simp [Act.put]
    refine wpAnyH_take (i := 4) (oi := _) (v := (.func (.func k) #[] caps)) rfl (by kernel_rfl) (by kernel_rfl) (by kernel_rfl) (fun _ _ _ h => h) (Or.inl ⟨by rfl, fun w hSw => by go_simp⟩) hHeld ?_
    simp [Act.put]
    refine wpAnyH_take (i := 5) (oi := _) (v := (.pointer (some ⟨q, o, none⟩))) rfl (by kernel_rfl) (by kernel_rfl) (by kernel_rfl) (fun _ _ _ h => h) (Or.inl ⟨by rfl, fun w hSw => by go_simp⟩) hHeld ?_
    simp [Act.put]
    refine wpAnyH_ready (rs := [2]) (by kernel_rfl) (by simp) ?_
    refine AllReadyH.cons rfl (fun K hK => ?_) AllReadyH.nil
    go_simp
    refine hC.mono ?_
    rintro e w1 ⟨rfl, hw⟩
    have hw := hw.symm; subst hw
    refine hK.out _ _ hHeld (fun hHeld => ?_)
    clear hK K
    refine wpAnyH_ready (rs := [6]) (by kernel_rfl) (by simp) ?_
    refine AllReadyH.cons rfl (fun K hK => ?_) AllReadyH.nil
    go_simp
    refine hC.mono ?_
    rintro e w1 ⟨rfl, hw⟩
    have hw := hw.symm; subst hw
    refine hK.out _ _ hHeld (fun hHeld => ?_)
    clear hK K
    refine wpAnyH_take (i := 7) (oi := _) (v := (.int .i64 n)) rfl (by kernel_rfl) (by kernel_rfl) (by kernel_rfl) (fun _ _ _ h => h) (Or.inl ⟨by rfl, fun w hSw => by go_simp⟩) hHeld ?_
    simp [Act.put]
    refine wpAnyH_ready (rs := [8]) (by kernel_rfl) (by simp) ?_
    refine AllReadyH.cons rfl (fun K hK => ?_) AllReadyH.nil
    go_simp
    refine hU.mono ?_
    rintro e w1 hF
    obtain ⟨rfl, hB, fl', HG⟩ := HF _ _ hF
    refine hK.out _ _ ?_ (fun hHeld => ?_)
    · rw [← hHeld]; exact hB.cell (p := ⟨bx, 0, none⟩) (cell_lt hHeld) hbb.1
    clear hK K
    refine wpAnyH_ready (rs := [9]) (by kernel_rfl) (by simp) ?_
    refine AllReadyH.cons rfl (fun K hK => ?_) AllReadyH.nil
    refine step_copy_no rfl (.tmp 7) (.tmp 13) 22 22 rfl 5 Tryz.underlying22 Tryz.sz1q _ _ _ rfl rfl ?_
    simp [Act.put]
    refine hK.out _ _ hHeld (fun hHeld => ?_)
    refine wpAnyH_done (by kernel_rfl) ?_ _
    unfold NoPanic
    clear hHeld hK
    go_end0
    exact ⟨rfl, s, fl', x, (unhide HG).undrew⟩
  · obtain ⟨hf0, hns⟩ : fl = 0 ∧ n ≤ s.n := by omega
    subst hf0
    have hne := hT'.ne_r hR'
    have hSle := hSg.le
    clear hno
    go_enter Tryz.func302, Tryz.ntmps302
    refine wp_region_noPanic ?_
    refine wp_region_held_drew (S := fun w' => w'.cell? ⟨bx, 0, none⟩ = some (.func (.func k) #[] caps)) (by kernel_rfl) cb (fun hHeld => ?_)
    refine wpAnyH_take (i := 0) (oi := _) (v := (.func (.func k) #[] caps)) rfl (by kernel_rfl) (by kernel_rfl) (by kernel_rfl) (fun _ _ _ h => h) (Or.inl ⟨by rfl, fun w hSw => by go_simp⟩) hHeld ?_
    simp [Act.put]
    refine wpAnyH_take (i := 1) (oi := _) (v := (.pointer (some ⟨q, o, none⟩))) rfl (by kernel_rfl) (by kernel_rfl) (by kernel_rfl) (fun _ _ _ h => h) (Or.inl ⟨by rfl, fun w hSw => by go_simp⟩) hHeld ?_
    simp [Act.put]
    refine wpAnyH_take (i := 3) (oi := _) (v := (.pointer (some ⟨p, 0, none⟩))) rfl (by kernel_rfl) (by kernel_rfl) (by kernel_rfl) (fun _ _ _ h => h) (Or.inl ⟨by rfl, fun w hSw => by go_simp⟩) hHeld ?_
    simp [Act.put]
    refine wpAnyH_take (i := 4) (oi := _) (v := (.func (.func k) #[] caps)) rfl (by kernel_rfl) (by kernel_rfl) (by kernel_rfl) (fun _ _ _ h => h) (Or.inl ⟨by rfl, fun w hSw => by go_simp⟩) hHeld ?_
    simp [Act.put]
    refine wpAnyH_take (i := 5) (oi := _) (v := (.pointer (some ⟨q, o, none⟩))) rfl (by kernel_rfl) (by kernel_rfl) (by kernel_rfl) (fun _ _ _ h => h) (Or.inl ⟨by rfl, fun w hSw => by go_simp⟩) hHeld ?_
    simp [Act.put]
    refine wpAnyH_ready (rs := [2]) (by kernel_rfl) (by simp) ?_
    refine AllReadyH.cons rfl (fun K hK => ?_) AllReadyH.nil
    go_simp
    refine hC.mono ?_
    rintro e w1 ⟨rfl, hw⟩
    have hw := hw.symm; subst hw
    refine hK.out _ _ hHeld (fun hHeld => ?_)
    clear hK K
    refine wpAnyH_ready (rs := [6]) (by kernel_rfl) (by simp) ?_
    refine AllReadyH.cons rfl (fun K hK => ?_) AllReadyH.nil
    go_simp
    refine hC.mono ?_
    rintro e w1 ⟨rfl, hw⟩
    have hw := hw.symm; subst hw
    refine hK.out _ _ hHeld (fun hHeld => ?_)
    clear hK K
    refine wpAnyH_take (i := 7) (oi := _) (v := (.int .i64 n)) rfl (by kernel_rfl) (by kernel_rfl) (by kernel_rfl) (fun _ _ _ h => h) (Or.inl ⟨by rfl, fun w hSw => by go_simp⟩) hHeld ?_
    simp [Act.put]
    refine wpAnyH_ready (rs := [8]) (by kernel_rfl) (by simp) ?_
    refine AllReadyH.cons rfl (fun K hK => ?_) AllReadyH.nil
    go_simp
    refine hU.mono ?_
    rintro e w1 hF
    obtain ⟨ad, c, t, rfl, hB, hRt, htl, hSa, hsrc⟩ := fix_yes hR' hns hn0 hF
    refine hK.out _ _ ?_ (fun hHeld => ?_)
    · rw [← hHeld]; exact hB.cell (p := ⟨bx, 0, none⟩) (cell_lt hHeld) hbb.1
    clear hK K
    have hT1 : Trm w1 q ty sh N x := hT'.keep (Buts.of_but hB) hne
    have hlen : (s.l.take n).length = n := by rw [List.length_take, hR.ok.len]; omega
    refine wpAnyH_ready (rs := [9]) (by kernel_rfl) (by simp) ?_
    refine AllReadyH.cons rfl (fun K hK => ?_) AllReadyH.nil
    refine step_copy_bt rfl (.tmp 7) (.tmp 13) 22 22 rfl 5 Tryz.underlying22 Tryz.sz1q _ _ _ _ q (o + a) ad rfl rfl (cl sh N x) ty hT1.arr (U8 (s.l.take n)) (by rw [U8_length, hlen]; simp) hsrc (by rw [U8_length, hlen, cl_length]; omega) (u8_oc _) ?_
    intro w2 hA2 hB2
    simp [Act.put]
    refine hK.out _ _ ?_ (fun hHeld => ?_)
    · rw [← hHeld]; exact hB2.cell (p := ⟨bx, 0, none⟩) (cell_lt hHeld) hbb.2
    have HG := fix_done hT' hR' hq hSg ha hs hns hB hRt htl hSa hA2 hB2
    refine wpAnyH_done (by kernel_rfl) ?_ _
    unfold NoPanic
    clear hHeld hK
    go_end0
    exact ⟨rfl, t, 0, _, HG.undrew⟩
theorem Tryz.szGHead : (Tryz.prog.info? 328).map (·.size) = some 3 := by kernel_rfl
theorem Tryz.szFHead : (Tryz.prog.info? 328).map (·.size) = some 3 := by kernel_rfl

set_option maxHeartbeats 1000000 in
set_option maxRecDepth 100000 in
theorem fixed_Head {S : Nat → Prop} {sT : Nat → Kd} {nT a n : Nat} (w : World) (pv : Value) (hS : ∀ k, S k → k < w.heap.size) (hp : SlOk S w a n pv) (ha : a + n ≤ nT) (hs : ∀ i, i < n → sT (a + i) = .b) (hn : n ≤ 1000) (hn0 : 0 < n) :
    Calls Tryz.prog 199 #[pv] w (MkPost S sT nT (fsFix a n) w) := by
  have hmf : ∀ (fn : Fn) (first cap : Array Value) (w : World), (Instr.makeFunc fn first cap).run Tryz.prog w = .ok (.func fn first cap) w := fun _ _ _ _ => rfl
  have hp' := hp
  obtain ⟨k, caps, rfl, -, -⟩ := hp
  have Hp := hide hp'
  clear hp'
  go_enter Tryz.func199, Tryz.ntmps199
  go_wp2
  refine bodyPost_ret (results_new3 rfl _ _ _ _ _ _ _ (by simp) Tryz.underlying328 rfl Tryz.szFHead) rfl ?_
  refine ⟨⟨_, _, _, _, _, _⟩, rfl, ?_, below_more (below_one w _) _ (by simp)⟩
  have b2 := below_more (below_one w (.cells #[.func (.func k) #[] caps] 333)) (.cells #[.func (.func 301) #[] #[.pointer (some ⟨w.heap.size, 0, none⟩)], .func (.func 302) #[] #[.pointer (some ⟨w.heap.size, 0, none⟩)], .func (.func 303) #[] #[]] 328) (by simp)
  have A2 := (Arr.new w 333 [.func (.func k) #[] caps]).alloc (.cells #[.func (.func 301) #[] #[.pointer (some ⟨w.heap.size, 0, none⟩)], .func (.func 302) #[] #[.pointer (some ⟨w.heap.size, 0, none⟩)], .func (.func 303) #[] #[]] 328)
  have hp2 := (unhide Hp).new hS b2
  exact ⟨fixPut_Head hp2 A2 (New.at (Nat.le_refl _) A2.lt) ha hs hn hn0, fixGet_Head hp2 A2 (New.at (Nat.le_refl _) A2.lt) ha hs hn0, fixFit_Head⟩

set_option maxHeartbeats 1000000 in
set_option maxRecDepth 100000 in
theorem numberUpTo_Head {S : Nat → Prop} {sT : Nat → Kd} {nT a : Nat} {least : Int} {mo : (Nat → Int) → Int} (w : World) (pv mv : Value) (hS : ∀ k, S k → k < w.heap.size) (hp : PlOk S w a pv) (hm : MoOk S w sT nT mo mv) (ha : a < nT) (hs : sT a = .n) :
    Calls Tryz.prog 299 #[pv, .int .i64 least, mv] w (MkPost S sT nT (fsNum a least mo) w) := by
  have hmf : ∀ (fn : Fn) (first cap : Array Value) (w : World), (Instr.makeFunc fn first cap).run Tryz.prog w = .ok (.func fn first cap) w := fun _ _ _ _ => rfl
  have hp' := hp
  obtain ⟨k, caps, rfl, -, -⟩ := hp
  have hm' := hm
  obtain ⟨k2, caps2, rfl, -, -⟩ := hm
  have Hp := hide hp'
  have Hm := hide hm'
  clear hp' hm'
  go_enter Tryz.func299, Tryz.ntmps299
  go_wp2
  refine bodyPost_ret (results_new3 rfl _ _ _ _ _ _ _ (by simp) Tryz.underlying328 rfl Tryz.szFHead) rfl ?_
  have b3 : Below w.heap.size w (((w.alloc (.cells #[.func (.func k) #[] caps] 331)).alloc (.cells #[.int .i64 least] 3)).alloc (.cells #[.func (.func k2) #[] caps2] 375)) := below_more (below_more (below_one w _) _ (by simp)) _ (by simp; omega)
  have P3 := ((Arr.new w 331 [.func (.func k) #[] caps]).alloc (.cells #[.int .i64 least] 3)).alloc (.cells #[.func (.func k2) #[] caps2] 375)
  have L3 := (Arr.new (w.alloc (.cells #[.func (.func k) #[] caps] 331)) 3 [.int .i64 least]).alloc (.cells #[.func (.func k2) #[] caps2] 375)
  have M3 := Arr.new ((w.alloc (.cells #[.func (.func k) #[] caps] 331)).alloc (.cells #[.int .i64 least] 3)) 375 [.func (.func k2) #[] caps2]
  have s1 : (w.alloc (.cells #[.func (.func k) #[] caps] 331)).heap.size = w.heap.size + 1 := by simp
  have s2 : ((w.alloc (.cells #[.func (.func k) #[] caps] 331)).alloc (.cells #[.int .i64 least] 3)).heap.size = w.heap.size + 1 + 1 := by simp
  rw [s1] at L3
  rw [s2] at M3
  generalize ((w.alloc (.cells #[.func (.func k) #[] caps] 331)).alloc (.cells #[.int .i64 least] 3)).alloc (.cells #[.func (.func k2) #[] caps2] 375) = w3 at *
  refine ⟨⟨_, _, _, _, _, _⟩, rfl, ?_, below_more b3 _ b3.size⟩
  have P4 := P3.alloc (.cells #[.func (.func 332) #[] #[.pointer (some ⟨w.heap.size, 0, none⟩)], .func (.func 333) #[] #[.pointer (some ⟨w.heap.size, 0, none⟩)], .func (.func 334) #[] #[.pointer (some ⟨w.heap.size + 1, 0, none⟩), .pointer (some ⟨w.heap.size, 0, none⟩), .pointer (some ⟨w.heap.size + 1 + 1, 0, none⟩)]] 328)
  have L4 := L3.alloc (.cells #[.func (.func 332) #[] #[.pointer (some ⟨w.heap.size, 0, none⟩)], .func (.func 333) #[] #[.pointer (some ⟨w.heap.size, 0, none⟩)], .func (.func 334) #[] #[.pointer (some ⟨w.heap.size + 1, 0, none⟩), .pointer (some ⟨w.heap.size, 0, none⟩), .pointer (some ⟨w.heap.size + 1 + 1, 0, none⟩)]] 328)
  have M4 := M3.alloc (.cells #[.func (.func 332) #[] #[.pointer (some ⟨w.heap.size, 0, none⟩)], .func (.func 333) #[] #[.pointer (some ⟨w.heap.size, 0, none⟩)], .func (.func 334) #[] #[.pointer (some ⟨w.heap.size + 1, 0, none⟩), .pointer (some ⟨w.heap.size, 0, none⟩), .pointer (some ⟨w.heap.size + 1 + 1, 0, none⟩)]] 328)
  have b4 := below_more b3 (.cells #[.func (.func 332) #[] #[.pointer (some ⟨w.heap.size, 0, none⟩)], .func (.func 333) #[] #[.pointer (some ⟨w.heap.size, 0, none⟩)], .func (.func 334) #[] #[.pointer (some ⟨w.heap.size + 1, 0, none⟩), .pointer (some ⟨w.heap.size, 0, none⟩), .pointer (some ⟨w.heap.size + 1 + 1, 0, none⟩)]] 328) b3.size
  have hp2 := (unhide Hp).new hS b4
  have hm2 := (unhide Hm).new hS b4
  exact ⟨numPut_Head hp2 P4 (New.at (Nat.le_refl _) P4.lt) ha hs, numGet_Head hp2 P4 (New.at (Nat.le_refl _) P4.lt) ha hs, numFit_Head hp2 hm2 P4 L4 M4 (New.at (Nat.le_refl _) P4.lt) (New.at (by omega) L4.lt) (New.at (by omega) M4.lt) ha hs⟩

set_option maxHeartbeats 1000000 in
set_option maxRecDepth 100000 in
theorem number_Head {S : Nat → Prop} {sT : Nat → Kd} {nT a : Nat} {least most : Int} (w : World) (pv : Value) (hS : ∀ k, S k → k < w.heap.size) (hp : PlOk S w a pv) (ha : a < nT) (hs : sT a = .n) :
    Calls Tryz.prog 197 #[pv, .int .i64 least, .int .i64 most] w (MkPost S sT nT (fsNum a least (fun _ => most)) w) := by
  have hmf : ∀ (fn : Fn) (first cap : Array Value) (w : World), (Instr.makeFunc fn first cap).run Tryz.prog w = .ok (.func fn first cap) w := fun _ _ _ _ => rfl
  have b2 : Below w.heap.size w ((w.alloc (.cells #[.int .i64 most] 3)).alloc (.cells #[.nilFunc, .nilFunc, .nilFunc] 328)) := below_more (below_one w _) _ (by simp)
  have M2 := (Arr.new w 3 [.int .i64 most]).alloc (.cells #[.nilFunc, .nilFunc, .nilFunc] 328)
  have R2 := Arr.new (w.alloc (.cells #[.int .i64 most] 3)) 328 [.nilFunc, .nilFunc, .nilFunc]
  have s1 : (w.alloc (.cells #[.int .i64 most] 3)).heap.size = w.heap.size + 1 := by simp
  rw [s1] at R2
  have h12 : ((w.alloc (.cells #[.int .i64 most] 3)).alloc (.cells #[.nilFunc, .nilFunc, .nilFunc] 328)).heap.size = w.heap.size + 2 := by simp
  have hS1 : ∀ k, (fun k => S k ∨ k = w.heap.size) k → k < ((w.alloc (.cells #[.int .i64 most] 3)).alloc (.cells #[.nilFunc, .nilFunc, .nilFunc] 328)).heap.size := fun k hk => by
    rcases hk with h | h
    · have := hS k h; omega
    · omega
  have hp2 := hp.later (S' := fun k => S k ∨ k = w.heap.size) (fun k h => .inl h) (New.kept hS b2)
  have hC := numberUpTo_Head (least := least) _ _ _ hS1 hp2 (numMost_Head (S := fun k => S k ∨ k = w.heap.size) (sT := sT) (nT := nT) M2 (.inr rfl)) ha hs
  have HE : Hid (∀ w2 v c, Fld (New (fun k => S k ∨ k = w.heap.size) _ w2) w2 sT nT (fsNum a least (fun _ => most)) (FV.t v) → Below _ _ w2 → MkPost S sT nT (fsNum a least (fun _ => most)) w (.returned (.agg v.a)) (w2.setRow (w.heap.size + 1) c)) :=
    fun w2 v c hF hb2 => mk_row c hS (fun k hk => by
      rcases hk with h | h
      · have := hS k h; exact ⟨by omega, .inl h⟩
      · exact ⟨by omega, .inr (by omega)⟩) (by omega) (by omega) hF b2 hb2
  have HR := hide R2
  clear b2 M2 R2 s1 hp2 h12 hS1
  obtain ⟨k, caps, rfl, -, -⟩ := hp
  go_enter Tryz.func197, Tryz.ntmps197
  go_wp2_with (first
    | (go_at_call 299; refine hC.mono ?_; rintro e w2 ⟨v, rfl, hF, hb2⟩; clear hC; have R3 := hide ((unhide HR).later hb2); have HF := hide (unhide HE w2 v v.a hF hb2); clear hb2 hF)
    | refine wpList_store_row rfl 328 (.tmp 6) (.tmp 10) rfl (w.heap.size + 1) v.a rfl rfl 328 _ (unhide R3) Tryz.szFHead rfl v.a_one ?_)
  refine bodyPost_ret (results_cell_row rfl _ _ (w.heap.size + 1) 328 v.a (0, 0) _ rfl (setRow_heap w2 (w.heap.size + 1) _ _ _ _ (unhide R3)) Tryz.underlying328 rfl Tryz.szFHead) rfl ?_
  exact unhide HF
theorem Tryz.szHHead : (Tryz.prog.info? 328).map (·.size) = some 3 := by kernel_rfl

set_option maxHeartbeats 1000000 in
set_option maxRecDepth 100000 in
theorem putAll_Head {S : Nat → Prop} {w0 : World} {sT : Nat → Kd} {nT : Nat} {fs : List FdS} {tyF : TypeId} {g n c : Nat} {vs : List FV} (hTab : Tab S w0 sT nT fs tyF g vs) (hn : n ≤ vs.length) (hc : n ≤ c) (hc2 : c ≤ 1000)
    (w : World) (base p : Nat) (lv : Value) (l : List Int) (q : Nat) (ty : TypeId) (sh : Nat → Kd) (N : Nat) (x : Nat → Int) (o : Nat) (hb : Kept S w0 w) (hW : Wtr w base p lv l 0) (hp : ¬ S p) (hlv : ∀ k, lv.ownBlock = some k → ¬ S k) (hbase : base ≤ w.heap.size) (hT : Trm w q ty sh N x) (hSg : Seg sT nT sh N o)
    (hl : l.length + ((fsAll (fs.take n)).enc (sft o x)).length ≤ 1000000) :
    Calls Tryz.prog 304 #[.pointer (some ⟨p, 0, none⟩), .slice (some ⟨g, 0, none⟩) n c, .pointer (some ⟨q, o, none⟩)] w (WPost base p lv (l ++ (fsAll (fs.take n)).enc (sft o x), 0) w) := by
  have hplt := hW.arr.lt
  have hvl := hTab.len
  go_enter Tryz.func304, Tryz.ntmps304
  go_wp2
  go_loopw [10] (fun s10 wr => ∃ (k : Nat) (lv' : Value), s10 = .int .i64 k ∧ k ≤ n ∧ Wst base p lv (l ++ (fsAll (fs.take k)).enc (sft o x)) 0 w wr lv') (fun j _ => n - (intOf j).toNat)
  case atStart => exact ⟨0, lv, rfl, Nat.zero_le _, by simpa [fsAll] using Wst.refl hW⟩
  case round =>
    obtain ⟨k, lv', rfl, hk, hWk⟩ := hrel
    by_cases hlt : k < n
    · have hkb : Kept S w0 wr := hb.buts hWk.but (fun i hi hs => by rcases hs with rfl | h1; exact hp hi; exact hlv i h1 hi)
      obtain ⟨f, v, hf, htk, hF, c0, c1, c2⟩ := hTab.at hkb (Nat.lt_of_lt_of_le hlt hn)
      obtain ⟨k1, a1, k2, a2, k3, a3⟩ := v
      obtain ⟨eg, hP⟩ := PutOk.open hF.put
      simp only at c0 c1 c2 eg hP
      have hTr : Trm wr q ty sh N x := hT.keep hWk.but (fun hs => by rcases hs with h1 | h1; exact (hT.ne_w hW).1 h1; exact (hT.ne_w hW).2 h1)
      have hlv' : ∀ k, lv'.ownBlock = some k → ¬ S k := fun i hi hs => by
        rcases hWk.at_ i hi with h1 | h1
        · exact hlv i h1 hs
        · have := hb.lt i hs; have := hb.size; omega
      have hlen : (l ++ (fsAll (fs.take k)).enc (sft o x)).length + (f.enc (sft o x)).length ≤ 1000000 := by
        have h1 := fsAll_take_le (fs.take n) (k + 1) (sft o x)
        rw [List.take_take, Nat.min_eq_left (by omega), htk, fsAll_snoc, List.length_append] at h1
        rw [List.length_append]; omega
      have HE : Hid ((fsAll (fs.take (k + 1))).enc (sft o x) = (fsAll (fs.take k)).enc (sft o x) ++ f.enc (sft o x)) := by
        show _ = _
        rw [htk, fsAll_snoc]
      have hbr : Below wr.heap.size wr (wr.alloc (.cells #[.func (.func k1) #[] a1, .func (.func k2) #[] a2, .func (.func k3) #[] a3] 328)) := below_one wr _
      have hC := hP _ base p lv' _ q ty sh N x o (hkb.below hbr) (hWk.wtr.later hbr) hp hlv' (Nat.le_trans hbase (Nat.le_trans hWk.but.size hbr.size)) (hTr.later hbr) hSg hlen
      have HC : Hid (∀ e w', WPost base p lv' (l ++ (fsAll (fs.take k)).enc (sft o x) ++ f.enc (sft o x), 0) (wr.alloc (.cells #[.func (.func k1) #[] a1, .func (.func k2) #[] a2, .func (.func k3) #[] a3] 328)) e w' → e = .returned (.tuple #[]) ∧ ∃ lv2, Wst base p lv (l ++ (fsAll (fs.take (k + 1))).enc (sft o x)) 0 w w' lv2) := by
        rintro e w' ⟨rfl, lv2, h2⟩
        refine ⟨rfl, lv2, hWk.trans hplt ?_⟩
        rw [unhide HE, ← List.append_assoc]
        exact h2.later hbr
      clear hP hF hkb hTr hlv' hlen hbr hTab hb hWk hT hW hSg hf htk HE
      simp only [Enters] at eg
      go_wp2_with (go_at_fn k1; refine hC.mono ?_; intro e w' hF; obtain ⟨rfl, lv2, hW2⟩ := unhide HC e w' hF)
      go_roundw
      case rel => exact ⟨k + 1, lv2, by go_num, by omega, hW2⟩
      case measure => simp [intOf]; omega
    · obtain rfl : k = n := by omega
      clear hTab hb hT hW hSg
      go_wp2
      go_end0
      exact ⟨rfl, lv', hWk⟩

set_option maxHeartbeats 1000000 in
set_option maxRecDepth 100000 in
theorem getAll_Head {S : Nat → Prop} {w0 : World} {sT : Nat → Kd} {nT : Nat} {fs : List FdS} {tyF : TypeId} {g n c : Nat} {vs : List FV} (hTab : Tab S w0 sT nT fs tyF g vs) (hn : n ≤ vs.length) (hc : n ≤ c) (hc2 : c ≤ 1000)
    (w : World) (p : Nat) (s : Sl) (fl : Int) (q : Nat) (ty : TypeId) (sh : Nat → Kd) (N : Nat) (x : Nat → Int) (o : Nat) (hb : Kept S w0 w) (hR : Rdr w p s fl) (hp : ¬ S p) (hq : ¬ S q) (hT : Trm w q ty sh N x) (hSg : Seg sT nT sh N o) (hsq : ∀ y, s.a = some y → y.block ≠ q) (hsn : s.n ≤ 1000000) :
    Calls Tryz.prog 202 #[.pointer (some ⟨p, 0, none⟩), .slice (some ⟨g, 0, none⟩) n c, .pointer (some ⟨q, o, none⟩)] w fun e w' => e = .returned (.tuple #[]) ∧ ∃ t fl' x', GRes (fsAll (fs.take n)) p q o s fl ty sh N x w w' t fl' x' := by
  have hvl := hTab.len
  go_enter Tryz.func202, Tryz.ntmps202
  go_wp2
  go_loopw [10] (fun s10 wr => ∃ (k : Nat) (t : Sl) (fl' : Int) (x' : Nat → Int), s10 = .int .i64 k ∧ k ≤ n ∧ GRes (fsAll (fs.take k)) p q o s fl ty sh N x w wr t fl' x') (fun j _ => n - (intOf j).toNat)
  case atStart => exact ⟨0, s, fl, x, rfl, Nat.zero_le _, by simpa using GRes.refl hR hT⟩
  case round =>
    obtain ⟨k, t, fl', x', rfl, hk, hG⟩ := hrel
    by_cases hlt : k < n
    · have hkb : Kept S w0 wr := hb.buts hG.but (fun i hi hs => by rcases hs with rfl | rfl; exact hp hi; exact hq hi)
      obtain ⟨f, v, hf, htk, hF, c0, c1, c2⟩ := hTab.at hkb (Nat.lt_of_lt_of_le hlt hn)
      obtain ⟨k1, a1, k2, a2, k3, a3⟩ := v
      obtain ⟨eg, hP⟩ := GetOk.open hF.get
      simp only at c0 c1 c2 eg hP
      have hbr : Below wr.heap.size wr (wr.alloc (.cells #[.func (.func k1) #[] a1, .func (.func k2) #[] a2, .func (.func k3) #[] a3] 328)) := below_one wr _
      have hC := hP _ p t fl' q ty sh N x' o (hkb.below hbr) (hG.rdr.later hbr) hp hq (hG.trm.later hbr) hSg (fun y hy e => by obtain ⟨z, hz, e2⟩ := hG.same y hy; exact hsq z hz (e2.trans e)) (Nat.le_trans hG.le hsn)
      have HC : Hid (∀ w' t2 fl2 x2, GRes f p q o t fl' ty sh N x' (wr.alloc (.cells #[.func (.func k1) #[] a1, .func (.func k2) #[] a2, .func (.func k3) #[] a3] 328)) w' t2 fl2 x2 → GRes (fsAll (fs.take (k + 1))) p q o s fl ty sh N x w w' t2 fl2 x2) := by
        intro w' t2 fl2 x2 h2
        rw [htk]
        exact hG.step (h2.later hbr)
      clear hP hF hkb hbr hTab hb hG hT hR hSg hf htk
      simp only [Enters] at eg
      go_wp2_with (go_at_fn k2; refine hC.mono ?_; rintro e w' ⟨rfl, t2, fl2, x2, hF⟩; have HF := hide (unhide HC w' t2 fl2 x2 hF); clear hF)
      go_roundw
      case rel => exact ⟨k + 1, t2, fl2, x2, by go_num, by omega, unhide HF⟩
      case measure => simp [intOf]; omega
    · obtain rfl : k = n := by omega
      clear hTab hb hT hR hSg
      go_wp2
      go_end0
      exact ⟨rfl, t, fl', x', hG⟩

set_option maxHeartbeats 1000000 in
set_option maxRecDepth 100000 in
theorem allFit_Head {S : Nat → Prop} {w0 : World} {sT : Nat → Kd} {nT : Nat} {fs : List FdS} {tyF : TypeId} {g n c : Nat} {vs : List FV} (hTab : Tab S w0 sT nT fs tyF g vs) (hn : n ≤ vs.length) (hc : n ≤ c) (hc2 : c ≤ 1000)
    (w : World) (q : Nat) (ty : TypeId) (sh : Nat → Kd) (N : Nat) (x : Nat → Int) (o : Nat) (hb : Kept S w0 w) (hT : Trm w q ty sh N x) (hSg : Seg sT nT sh N o) :
    Calls Tryz.prog 203 #[.slice (some ⟨g, 0, none⟩) n c, .pointer (some ⟨q, o, none⟩)] w fun e w' => e = .returned (.bool ((fsAll (fs.take n)).fit (sft o x))) ∧ Below w.heap.size w w' := by
  have hvl := hTab.len
  go_enter Tryz.func203, Tryz.ntmps203
  go_wp2
  go_loopw [9] (fun s9 wr => ∃ (k : Nat), s9 = .int .i64 k ∧ k ≤ n ∧ Hid ((fsAll (fs.take k)).fit (sft o x) = true) ∧ Below w.heap.size w wr) (fun j _ => n - (intOf j).toNat)
  case atStart => exact ⟨0, rfl, Nat.zero_le _, hide (by simp [fsAll]), Below.refl _ _⟩
  case round =>
    obtain ⟨k, rfl, hk, HK, hB⟩ := hrel
    by_cases hlt : k < n
    · have hkb : Kept S w0 wr := hb.below hB
      obtain ⟨f, v, hf, htk, hF, c0, c1, c2⟩ := hTab.at hkb (Nat.lt_of_lt_of_le hlt hn)
      obtain ⟨k1, a1, k2, a2, k3, a3⟩ := v
      obtain ⟨eg, hP⟩ := FitOk.open hF.fits
      simp only at c0 c1 c2 eg hP
      have hbr : Below wr.heap.size wr (wr.alloc (.cells #[.func (.func k1) #[] a1, .func (.func k2) #[] a2, .func (.func k3) #[] a3] 328)) := below_one wr _
      have hC := hP _ q ty sh N x o (hkb.below hbr) ((hT.later hB).later hbr) hSg
      have HB : Hid (∀ w', Below (wr.alloc (.cells #[.func (.func k1) #[] a1, .func (.func k2) #[] a2, .func (.func k3) #[] a3] 328)).heap.size (wr.alloc (.cells #[.func (.func k1) #[] a1, .func (.func k2) #[] a2, .func (.func k3) #[] a3] 328)) w' → Below w.heap.size w w') :=
        fun w' h2 => hB.trans ((hbr.trans (h2.mono hbr.size)).mono hB.size)
      have H1 : Hid ((fsAll (fs.take (k + 1))).fit (sft o x) = f.fit (sft o x)) := by
        show _ = _
        rw [htk, fsAll_fit, unhide HK, Bool.true_and]
      have H0 : Hid (f.fit (sft o x) = false → (fsAll (fs.take n)).fit (sft o x) = false) := by
        intro h0
        refine fsAll_fit_take (fs.take n) (k + 1) _ ?_
        rw [List.take_take, Nat.min_eq_left (by omega), unhide H1]; exact h0
      clear hP hF hkb hbr hTab hb hT hSg hf htk hB
      simp only [Enters] at eg
      cases hR : f.fit (sft o x) with
      | true =>
        rw [hR] at hC
        have H2 := hide ((unhide H1).trans hR)
        clear hR H1 H0
        go_wp2_with (go_at_fn k3; refine hC.mono ?_; rintro e w' ⟨rfl, hF⟩; have HF := hide (unhide HB w' hF); clear hF)
        go_roundw
        case rel => exact ⟨k + 1, by go_num, by omega, H2, unhide HF⟩
        case measure => simp [intOf]; omega
      | false =>
        rw [hR] at hC
        have H2 := hide (unhide H0 hR)
        clear hR H1 H0
        go_wp2_with (go_at_fn k3; refine hC.mono ?_; rintro e w' ⟨rfl, hF⟩; have HF := hide (unhide HB w' hF); clear hF)
        go_ret
        exact ⟨by rw [unhide H2]; rfl, unhide HF⟩
    · obtain rfl : k = n := by omega
      clear hTab hb hT hSg
      go_wp2
      go_ret
      exact ⟨by rw [unhide HK]; rfl, hB⟩
end Go.Proofs.YtfedajifefldmaaGreat
