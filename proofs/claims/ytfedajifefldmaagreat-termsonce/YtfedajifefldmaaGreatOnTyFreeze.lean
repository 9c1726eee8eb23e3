import Derived.BigQuiet
import Derived.Deep.QuietTactic
import Derived.Deep.RegionHeld3
import Derived.Test.YtfedajifefldmaaGreatOnGsM
namespace Go.Proofs.YtfedajifefldmaaGreat
open Go.RowKit

set_option maxHeartbeats 1000000 in
set_option maxRecDepth 100000 in
theorem fixPut_Freeze {S : Nat → Prop} {w0 : World} {sT : Nat → Kd} {nT a n bx : Nat} {pv : Value} {ty0 : TypeId} (hp : SlOk S w0 a n pv) (hA : Arr w0 bx ty0 [pv]) (hbx : S bx) (ha : a + n ≤ nT) (hs : ∀ i, i < n → sT (a + i) = .b) (hn : n ≤ 1000) (hn0 : 0 < n) :
    PutOk S w0 sT nT (fsFix a n) (.func (.func 264) #[] #[.pointer (some ⟨bx, 0, none⟩)]) := by
  obtain ⟨k, caps, rfl, eg, hp⟩ := hp
  refine ⟨_, _, rfl, enters_of Tryz.func264 (by kernel_rfl) rfl, ?_⟩
  intro w base p lv l q ty sh N x o hb hW hKp hKb hbs hT hSg hl
  have cb : w.cell? ⟨bx, 0, none⟩ = some (.func (.func k) #[] caps) := by simpa using (hb.arr hA hbx).cell 0
  have hok := fsl_ok hT hSg ha hs hn
  have hC := hp w q o hb ⟨_, hSg.cell hT a (by omega)⟩
  have hU := wFixed_any base p lv l 0 (fsl q o a n x) w hW hok (by simp only [fsl]; omega) hbs
  have hv : (fsl q o a n x).v = .slice (some ⟨q, o + a, none⟩) n n := rfl
  rw [hv] at hU
  have HP : Hid (wLay (fsl q o a n x).l (l, 0) = (l ++ (fsFix a n).enc (sft o x), 0)) := by
    show _ = _
    simp only [wLay, fsFix, fsl, if_true]
  clear hp hSg hl
  simp only [Enters] at eg
  go_enter Tryz.func264, Tryz.ntmps264
  go_wp2_with (first
    | (go_at_fn k; refine hC.mono ?_; rintro e w' ⟨rfl, hw⟩; have hw := hw.symm; subst hw)
    | (go_at_call 208; refine hU.mono ?_; rintro e w' hF; rw [unhide HP] at hF; obtain ⟨rfl, hF⟩ := hF))
  go_end0
  exact ⟨rfl, hF⟩

set_option maxHeartbeats 1000000 in
set_option maxRecDepth 100000 in
theorem fixFit_Freeze {S : Nat → Prop} {w0 : World} {sT : Nat → Kd} {nT a n : Nat} :
    FitOk S w0 sT nT (fsFix a n) (.func (.func 266) #[] #[]) := by
  refine ⟨_, _, rfl, enters_of Tryz.func266 (by kernel_rfl) rfl, ?_⟩
  intro w q ty sh N x o hb hT hSg
  have hK := Below.refl w.heap.size w
  clear hb hT hSg
  go_enter Tryz.func266, Tryz.ntmps266
  go_wp2
  go_ret
  exact ⟨rfl, hK⟩

set_option maxHeartbeats 2000000 in
set_option maxRecDepth 100000 in
theorem fixGet_Freeze {S : Nat → Prop} {w0 : World} {sT : Nat → Kd} {nT a n bx : Nat} {pv : Value} {ty0 : TypeId} (hp : SlOk S w0 a n pv) (hA : Arr w0 bx ty0 [pv]) (hbx : S bx) (ha : a + n ≤ nT) (hs : ∀ i, i < n → sT (a + i) = .b) (hn0 : 0 < n) :
    GetOk S w0 sT nT (fsFix a n) (.func (.func 265) #[] #[.pointer (some ⟨bx, 0, none⟩)]) := by
  obtain ⟨k, caps, rfl, eg, hp⟩ := hp
  refine ⟨_, _, rfl, enters_of Tryz.func265 (by kernel_rfl) rfl, ?_⟩
  intro w p s fl q ty sh N x o hb hR hKp hKq hT hSg hq hn
  have cb : w.cell? ⟨bx, 0, none⟩ = some (.func (.func k) #[] caps) := by simpa using (hb.arr hA hbx).cell 0
  have hC := hp w.drew q o (hb.drewN 1) ⟨_, hSg.cell hT a (by omega)⟩
  have hU := rFixed_any p s fl n w.drew (hR.later (bel_drewN (Below.refl _ _) 1)) (by omega)
  have hR' : Rdr w.drew p s fl := hR.later (bel_drewN (Below.refl _ _) 1)
  have hT' : Trm w.drew q ty sh N x := hT.drewN 1
  have hbb : bx ≠ p ∧ bx ≠ q := ⟨fun e => hKp (e ▸ hbx), fun e => hKq (e ▸ hbx)⟩
  clear hp
  simp only [Enters] at eg
  by_cases hno : fl ≠ 0 ∨ s.n < n
  · have HF := fun W e => fix_no (W := W) (e := e) (a := a) (o := o) hT' hR' hno
    clear hno
    go_enter Tryz.func265, Tryz.ntmps265
    refine wp_region_noPanic ?_
    refine wp_region_held_drew (S := fun w' => w'.cell? ⟨bx, 0, none⟩ = some (.func (.func k) #[] caps)) (by kernel_rfl) cb (fun hHeld => ?_)
    refine wpAnyH_take (i := 0) (oi := _) (v := (.func (.func k) #[] caps)) rfl (by kernel_rfl) (by kernel_rfl) (by kernel_rfl) (fun _ _ _ h => h) (Or.inl ⟨by rfl, fun w hSw => by go_simp⟩) hHeld ?_
    simp [Act.put]
    refine wpAnyH_take (i := 1) (oi := _) (v := (.pointer (some ⟨q, o, none⟩))) rfl (by kernel_rfl) (by kernel_rfl) (by kernel_rfl) (fun _ _ _ h => h) (Or.inl ⟨by rfl, fun w hSw => by go_simp⟩) hHeld ?_
    simp [Act.put]
    refine wpAnyH_take (i := 3) (oi := _) (v := (.pointer (some ⟨p, 0, none⟩))) rfl (by kernel_rfl) (by kernel_rfl) (by kernel_rfl) (fun _ _ _ h => h) (Or.inl ⟨by rfl, fun w hSw => by go_simp⟩) hHeld ?_
    simp [Act.put]
    refine wpAnyH_take (i := 4) (oi := _) (v := (.func (.func k) #[] caps)) rfl (by kernel_rfl) (by kernel_rfl) (by kernel_rfl) (fun _ _ _ h => h) (Or.inl ⟨by rfl, fun w hSw => by go_simp⟩) hHeld ?_
    simp [Act.put]
    refine wpAnyH_take (i := 5) (oi := _) (v := (.pointer (some ⟨q, o, none⟩))) rfl (by kernel_rfl) (by kernel_rfl) (by kernel_rfl) (fun _ _ _ h => h) (Or.inl ⟨by rfl, fun w hSw => by go_simp⟩) hHeld ?_
    simp [Act.put]
    refine wpAnyH_ready (rs := [2]) (by kernel_rfl) (by simp) ?_
    refine AllReadyH.cons rfl (fun K hK => ?_) AllReadyH.nil
    go_simp
    refine hC.mono ?_
    rintro e w1 ⟨rfl, hw⟩
    have hw := hw.symm; subst hw
    refine hK.out _ _ hHeld (fun hHeld => ?_)
    clear hK K
    refine wpAnyH_ready (rs := [6]) (by kernel_rfl) (by simp) ?_
    refine AllReadyH.cons rfl (fun K hK => ?_) AllReadyH.nil
    go_simp
    refine hC.mono ?_
    rintro e w1 ⟨rfl, hw⟩
    have hw := hw.symm; subst hw
    refine hK.out _ _ hHeld (fun hHeld => ?_)
    clear hK K
    refine wpAnyH_take (i := 7) (oi := _) (v := (.int .i64 n)) rfl (by kernel_rfl) (by kernel_rfl) (by kernel_rfl) (fun _ _ _ h => h) (Or.inl ⟨by rfl, fun w hSw => by go_simp⟩) hHeld ?_
    simp [Act.put]
    refine wpAnyH_ready (rs := [8]) (by kernel_rfl) (by simp) ?_
    refine AllReadyH.cons rfl (fun K hK => ?_) AllReadyH.nil
    go_simp
    refine hU.mono ?_
    rintro e w1 hF
    obtain ⟨rfl, hB, fl', HG⟩ := HF _ _ hF
    refine hK.out _ _ ?_ (fun hHeld => ?_)
    · rw [← hHeld]; exact hB.cell (p := ⟨bx, 0, none⟩) (cell_lt hHeld) hbb.1
    clear hK K
    refine wpAnyH_ready (rs := [9]) (by kernel_rfl) (by simp) ?_
    refine AllReadyH.cons rfl (fun K hK => ?_) AllReadyH.nil
    refine step_copy_no rfl (.tmp 7) (.tmp 13) 22 22 rfl 5 Tryz.underlying22 Tryz.sz1q _ _ _ rfl rfl ?_
    simp [Act.put]
    refine hK.out _ _ hHeld (fun hHeld => ?_)
    refine wpAnyH_done (by kernel_rfl) ?_ _
    unfold NoPanic
    clear hHeld hK
    go_end0
    exact ⟨rfl, s, fl', x, (unhide HG).undrew⟩
  · obtain ⟨hf0, hns⟩ : fl = 0 ∧ n ≤ s.n := by omega
    subst hf0
    have hne := hT'.ne_r hR'
    have hSle := hSg.le
    clear hno
    go_enter Tryz.func265, Tryz.ntmps265
    refine wp_region_noPanic ?_
    refine wp_region_held_drew (S := fun w' => w'.cell? ⟨bx, 0, none⟩ = some (.func (.func k) #[] caps)) (by kernel_rfl) cb (fun hHeld => ?_)
    refine wpAnyH_take (i := 0) (oi := _) (v := (.func (.func k) #[] caps)) rfl (by kernel_rfl) (by kernel_rfl) (by kernel_rfl) (fun _ _ _ h => h) (Or.inl ⟨by rfl, fun w hSw => by go_simp⟩) hHeld ?_
    simp [Act.put]
    refine wpAnyH_take (i := 1) (oi := _) (v := (.pointer (some ⟨q, o, none⟩))) rfl (by kernel_rfl) (by kernel_rfl) (by kernel_rfl) (fun _ _ _ h => h) (Or.inl ⟨by rfl, fun w hSw => by go_simp⟩) hHeld ?_
    simp [Act.put]
    refine wpAnyH_take (i := 3) (oi := _) (v := (.pointer (some ⟨p, 0, none⟩))) rfl (by kernel_rfl) (by kernel_rfl) (by kernel_rfl) (fun _ _ _ h => h) (Or.inl ⟨by rfl, fun w hSw => by go_simp⟩) hHeld ?_
    simp [Act.put]
    refine wpAnyH_take (i := 4) (oi := _) (v := (.func (.func k) #[] caps)) rfl (by kernel_rfl) (by kernel_rfl) (by kernel_rfl) (fun _ _ _ h => h) (Or.inl ⟨by rfl, fun w hSw => by go_simp⟩) hHeld ?_
    simp [Act.put]
    refine wpAnyH_take (i := 5) (oi := _) (v := (.pointer (some ⟨q, o, none⟩))) rfl (by kernel_rfl) (by kernel_rfl) (by kernel_rfl) (fun _ _ _ h => h) (Or.inl ⟨by rfl, fun w hSw => by go_simp⟩) hHeld ?_
    simp [Act.put]
    refine wpAnyH_ready (rs := [2]) (by kernel_rfl) (by simp) ?_
    refine AllReadyH.cons rfl (fun K hK => ?_) AllReadyH.nil
    go_simp
    refine hC.mono ?_
    rintro e w1 ⟨rfl, hw⟩
    have hw := hw.symm; subst hw
    refine hK.out _ _ hHeld (fun hHeld => ?_)
    clear hK K
    refine wpAnyH_ready (rs := [6]) (by kernel_rfl) (by simp) ?_
    refine AllReadyH.cons rfl (fun K hK => ?_) AllReadyH.nil
    go_simp
    refine hC.mono ?_
    rintro e w1 ⟨rfl, hw⟩
    have hw := hw.symm; subst hw
    refine hK.out _ _ hHeld (fun hHeld => ?_)
    clear hK K
    refine wpAnyH_take (i := 7) (oi := _) (v := (.int .i64 n)) rfl (by kernel_rfl) (by kernel_rfl) (by kernel_rfl) (fun _ _ _ h => h) (Or.inl ⟨by rfl, fun w hSw => by go_simp⟩) hHeld ?_
    simp [Act.put]
    refine wpAnyH_ready (rs := [8]) (by kernel_rfl) (by simp) ?_
    refine AllReadyH.cons rfl (fun K hK => ?_) AllReadyH.nil
    go_simp
    refine hU.mono ?_
    rintro e w1 hF
    obtain ⟨ad, c, t, rfl, hB, hRt, htl, hSa, hsrc⟩ := fix_yes hR' hns hn0 hF
    refine hK.out _ _ ?_ (fun hHeld => ?_)
    · rw [← hHeld]; exact hB.cell (p := ⟨bx, 0, none⟩) (cell_lt hHeld) hbb.1
    clear hK K
    have hT1 : Trm w1 q ty sh N x := hT'.keep (Buts.of_but hB) hne
    have hlen : (s.l.take n).length = n := by rw [List.length_take, hR.ok.len]; omega
    refine wpAnyH_ready (rs := [9]) (by kernel_rfl) (by simp) ?_
    refine AllReadyH.cons rfl (fun K hK => ?_) AllReadyH.nil
    refine step_copy_bt rfl (.tmp 7) (.tmp 13) 22 22 rfl 5 Tryz.underlying22 Tryz.sz1q _ _ _ _ q (o + a) ad rfl rfl (cl sh N x) ty hT1.arr (U8 (s.l.take n)) (by rw [U8_length, hlen]; simp) hsrc (by rw [U8_length, hlen, cl_length]; omega) (u8_oc _) ?_
    intro w2 hA2 hB2
    simp [Act.put]
    refine hK.out _ _ ?_ (fun hHeld => ?_)
    · rw [← hHeld]; exact hB2.cell (p := ⟨bx, 0, none⟩) (cell_lt hHeld) hbb.2
    have HG := fix_done hT' hR' hq hSg ha hs hns hB hRt htl hSa hA2 hB2
    refine wpAnyH_done (by kernel_rfl) ?_ _
    unfold NoPanic
    clear hHeld hK
    go_end0
    exact ⟨rfl, t, 0, _, HG.undrew⟩
theorem Tryz.szGFreeze : (Tryz.prog.info? 257).map (·.size) = some 3 := by kernel_rfl
theorem Tryz.szFFreeze : (Tryz.prog.info? 257).map (·.size) = some 3 := by kernel_rfl

set_option maxHeartbeats 1000000 in
set_option maxRecDepth 100000 in
theorem fixed_Freeze {S : Nat → Prop} {sT : Nat → Kd} {nT a n : Nat} (w : World) (pv : Value) (hS : ∀ k, S k → k < w.heap.size) (hp : SlOk S w a n pv) (ha : a + n ≤ nT) (hs : ∀ i, i < n → sT (a + i) = .b) (hn : n ≤ 1000) (hn0 : 0 < n) :
    Calls Tryz.prog 154 #[pv] w (MkPost S sT nT (fsFix a n) w) := by
  have hmf : ∀ (fn : Fn) (first cap : Array Value) (w : World), (Instr.makeFunc fn first cap).run Tryz.prog w = .ok (.func fn first cap) w := fun _ _ _ _ => rfl
  have hp' := hp
  obtain ⟨k, caps, rfl, -, -⟩ := hp
  have Hp := hide hp'
  clear hp'
  go_enter Tryz.func154, Tryz.ntmps154
  go_wp2
  refine bodyPost_ret (results_new3 rfl _ _ _ _ _ _ _ (by simp) Tryz.underlying257 rfl Tryz.szFFreeze) rfl ?_
  refine ⟨⟨_, _, _, _, _, _⟩, rfl, ?_, below_more (below_one w _) _ (by simp)⟩
  have b2 := below_more (below_one w (.cells #[.func (.func k) #[] caps] 262)) (.cells #[.func (.func 264) #[] #[.pointer (some ⟨w.heap.size, 0, none⟩)], .func (.func 265) #[] #[.pointer (some ⟨w.heap.size, 0, none⟩)], .func (.func 266) #[] #[]] 257) (by simp)
  have A2 := (Arr.new w 262 [.func (.func k) #[] caps]).alloc (.cells #[.func (.func 264) #[] #[.pointer (some ⟨w.heap.size, 0, none⟩)], .func (.func 265) #[] #[.pointer (some ⟨w.heap.size, 0, none⟩)], .func (.func 266) #[] #[]] 257)
  have hp2 := (unhide Hp).new hS b2
  exact ⟨fixPut_Freeze hp2 A2 (New.at (Nat.le_refl _) A2.lt) ha hs hn hn0, fixGet_Freeze hp2 A2 (New.at (Nat.le_refl _) A2.lt) ha hs hn0, fixFit_Freeze⟩

theorem Tryz.szHFreeze : (Tryz.prog.info? 257).map (·.size) = some 3 := by kernel_rfl

set_option maxHeartbeats 1000000 in
set_option maxRecDepth 100000 in
theorem putAll_Freeze {S : Nat → Prop} {w0 : World} {sT : Nat → Kd} {nT : Nat} {fs : List FdS} {tyF : TypeId} {g n c : Nat} {vs : List FV} (hTab : Tab S w0 sT nT fs tyF g vs) (hn : n ≤ vs.length) (hc : n ≤ c) (hc2 : c ≤ 1000)
    (w : World) (base p : Nat) (lv : Value) (l : List Int) (q : Nat) (ty : TypeId) (sh : Nat → Kd) (N : Nat) (x : Nat → Int) (o : Nat) (hb : Kept S w0 w) (hW : Wtr w base p lv l 0) (hp : ¬ S p) (hlv : ∀ k, lv.ownBlock = some k → ¬ S k) (hbase : base ≤ w.heap.size) (hT : Trm w q ty sh N x) (hSg : Seg sT nT sh N o)
    (hl : l.length + ((fsAll (fs.take n)).enc (sft o x)).length ≤ 1000000) :
    Calls Tryz.prog 267 #[.pointer (some ⟨p, 0, none⟩), .slice (some ⟨g, 0, none⟩) n c, .pointer (some ⟨q, o, none⟩)] w (WPost base p lv (l ++ (fsAll (fs.take n)).enc (sft o x), 0) w) := by
  have hplt := hW.arr.lt
  have hvl := hTab.len
  go_enter Tryz.func267, Tryz.ntmps267
  go_wp2
  go_loopw [10] (fun s10 wr => ∃ (k : Nat) (lv' : Value), s10 = .int .i64 k ∧ k ≤ n ∧ Wst base p lv (l ++ (fsAll (fs.take k)).enc (sft o x)) 0 w wr lv') (fun j _ => n - (intOf j).toNat)
  case atStart => exact ⟨0, lv, rfl, Nat.zero_le _, by simpa [fsAll] using Wst.refl hW⟩
  case round =>
    obtain ⟨k, lv', rfl, hk, hWk⟩ := hrel
    by_cases hlt : k < n
    · have hkb : Kept S w0 wr := hb.buts hWk.but (fun i hi hs => by rcases hs with rfl | h1; exact hp hi; exact hlv i h1 hi)
      obtain ⟨f, v, hf, htk, hF, c0, c1, c2⟩ := hTab.at hkb (Nat.lt_of_lt_of_le hlt hn)
      obtain ⟨k1, a1, k2, a2, k3, a3⟩ := v
      obtain ⟨eg, hP⟩ := PutOk.open hF.put
      simp only at c0 c1 c2 eg hP
      have hTr : Trm wr q ty sh N x := hT.keep hWk.but (fun hs => by rcases hs with h1 | h1; exact (hT.ne_w hW).1 h1; exact (hT.ne_w hW).2 h1)
      have hlv' : ∀ k, lv'.ownBlock = some k → ¬ S k := fun i hi hs => by
        rcases hWk.at_ i hi with h1 | h1
        · exact hlv i h1 hs
        · have := hb.lt i hs; have := hb.size; omega
      have hlen : (l ++ (fsAll (fs.take k)).enc (sft o x)).length + (f.enc (sft o x)).length ≤ 1000000 := by
        have h1 := fsAll_take_le (fs.take n) (k + 1) (sft o x)
        rw [List.take_take, Nat.min_eq_left (by omega), htk, fsAll_snoc, List.length_append] at h1
        rw [List.length_append]; omega
      have HE : Hid ((fsAll (fs.take (k + 1))).enc (sft o x) = (fsAll (fs.take k)).enc (sft o x) ++ f.enc (sft o x)) := by
        show _ = _
        rw [htk, fsAll_snoc]
      have hbr : Below wr.heap.size wr (wr.alloc (.cells #[.func (.func k1) #[] a1, .func (.func k2) #[] a2, .func (.func k3) #[] a3] 257)) := below_one wr _
      have hC := hP _ base p lv' _ q ty sh N x o (hkb.below hbr) (hWk.wtr.later hbr) hp hlv' (Nat.le_trans hbase (Nat.le_trans hWk.but.size hbr.size)) (hTr.later hbr) hSg hlen
      have HC : Hid (∀ e w', WPost base p lv' (l ++ (fsAll (fs.take k)).enc (sft o x) ++ f.enc (sft o x), 0) (wr.alloc (.cells #[.func (.func k1) #[] a1, .func (.func k2) #[] a2, .func (.func k3) #[] a3] 257)) e w' → e = .returned (.tuple #[]) ∧ ∃ lv2, Wst base p lv (l ++ (fsAll (fs.take (k + 1))).enc (sft o x)) 0 w w' lv2) := by
        rintro e w' ⟨rfl, lv2, h2⟩
        refine ⟨rfl, lv2, hWk.trans hplt ?_⟩
        rw [unhide HE, ← List.append_assoc]
        exact h2.later hbr
      clear hP hF hkb hTr hlv' hlen hbr hTab hb hWk hT hW hSg hf htk HE
      simp only [Enters] at eg
      go_wp2_with (go_at_fn k1; refine hC.mono ?_; intro e w' hF; obtain ⟨rfl, lv2, hW2⟩ := unhide HC e w' hF)
      go_roundw
      case rel => exact ⟨k + 1, lv2, by go_num, by omega, hW2⟩
      case measure => simp [intOf]; omega
    · obtain rfl : k = n := by omega
      clear hTab hb hT hW hSg
      go_wp2
      go_end0
      exact ⟨rfl, lv', hWk⟩

set_option maxHeartbeats 1000000 in
set_option maxRecDepth 100000 in
theorem getAll_Freeze {S : Nat → Prop} {w0 : World} {sT : Nat → Kd} {nT : Nat} {fs : List FdS} {tyF : TypeId} {g n c : Nat} {vs : List FV} (hTab : Tab S w0 sT nT fs tyF g vs) (hn : n ≤ vs.length) (hc : n ≤ c) (hc2 : c ≤ 1000)
    (w : World) (p : Nat) (s : Sl) (fl : Int) (q : Nat) (ty : TypeId) (sh : Nat → Kd) (N : Nat) (x : Nat → Int) (o : Nat) (hb : Kept S w0 w) (hR : Rdr w p s fl) (hp : ¬ S p) (hq : ¬ S q) (hT : Trm w q ty sh N x) (hSg : Seg sT nT sh N o) (hsq : ∀ y, s.a = some y → y.block ≠ q) (hsn : s.n ≤ 1000000) :
    Calls Tryz.prog 156 #[.pointer (some ⟨p, 0, none⟩), .slice (some ⟨g, 0, none⟩) n c, .pointer (some ⟨q, o, none⟩)] w fun e w' => e = .returned (.tuple #[]) ∧ ∃ t fl' x', GRes (fsAll (fs.take n)) p q o s fl ty sh N x w w' t fl' x' := by
  have hvl := hTab.len
  go_enter Tryz.func156, Tryz.ntmps156
  go_wp2
  go_loopw [10] (fun s10 wr => ∃ (k : Nat) (t : Sl) (fl' : Int) (x' : Nat → Int), s10 = .int .i64 k ∧ k ≤ n ∧ GRes (fsAll (fs.take k)) p q o s fl ty sh N x w wr t fl' x') (fun j _ => n - (intOf j).toNat)
  case atStart => exact ⟨0, s, fl, x, rfl, Nat.zero_le _, by simpa using GRes.refl hR hT⟩
  case round =>
    obtain ⟨k, t, fl', x', rfl, hk, hG⟩ := hrel
    by_cases hlt : k < n
    · have hkb : Kept S w0 wr := hb.buts hG.but (fun i hi hs => by rcases hs with rfl | rfl; exact hp hi; exact hq hi)
      obtain ⟨f, v, hf, htk, hF, c0, c1, c2⟩ := hTab.at hkb (Nat.lt_of_lt_of_le hlt hn)
      obtain ⟨k1, a1, k2, a2, k3, a3⟩ := v
      obtain ⟨eg, hP⟩ := GetOk.open hF.get
      simp only at c0 c1 c2 eg hP
      have hbr : Below wr.heap.size wr (wr.alloc (.cells #[.func (.func k1) #[] a1, .func (.func k2) #[] a2, .func (.func k3) #[] a3] 257)) := below_one wr _
      have hC := hP _ p t fl' q ty sh N x' o (hkb.below hbr) (hG.rdr.later hbr) hp hq (hG.trm.later hbr) hSg (fun y hy e => by obtain ⟨z, hz, e2⟩ := hG.same y hy; exact hsq z hz (e2.trans e)) (Nat.le_trans hG.le hsn)
      have HC : Hid (∀ w' t2 fl2 x2, GRes f p q o t fl' ty sh N x' (wr.alloc (.cells #[.func (.func k1) #[] a1, .func (.func k2) #[] a2, .func (.func k3) #[] a3] 257)) w' t2 fl2 x2 → GRes (fsAll (fs.take (k + 1))) p q o s fl ty sh N x w w' t2 fl2 x2) := by
        intro w' t2 fl2 x2 h2
        rw [htk]
        exact hG.step (h2.later hbr)
      clear hP hF hkb hbr hTab hb hG hT hR hSg hf htk
      simp only [Enters] at eg
      go_wp2_with (go_at_fn k2; refine hC.mono ?_; rintro e w' ⟨rfl, t2, fl2, x2, hF⟩; have HF := hide (unhide HC w' t2 fl2 x2 hF); clear hF)
      go_roundw
      case rel => exact ⟨k + 1, t2, fl2, x2, by go_num, by omega, unhide HF⟩
      case measure => simp [intOf]; omega
    · obtain rfl : k = n := by omega
      clear hTab hb hT hR hSg
      go_wp2
      go_end0
      exact ⟨rfl, t, fl', x', hG⟩

set_option maxHeartbeats 1000000 in
set_option maxRecDepth 100000 in
theorem allFit_Freeze {S : Nat → Prop} {w0 : World} {sT : Nat → Kd} {nT : Nat} {fs : List FdS} {tyF : TypeId} {g n c : Nat} {vs : List FV} (hTab : Tab S w0 sT nT fs tyF g vs) (hn : n ≤ vs.length) (hc : n ≤ c) (hc2 : c ≤ 1000)
    (w : World) (q : Nat) (ty : TypeId) (sh : Nat → Kd) (N : Nat) (x : Nat → Int) (o : Nat) (hb : Kept S w0 w) (hT : Trm w q ty sh N x) (hSg : Seg sT nT sh N o) :
    Calls Tryz.prog 157 #[.slice (some ⟨g, 0, none⟩) n c, .pointer (some ⟨q, o, none⟩)] w fun e w' => e = .returned (.bool ((fsAll (fs.take n)).fit (sft o x))) ∧ Below w.heap.size w w' := by
  have hvl := hTab.len
  go_enter Tryz.func157, Tryz.ntmps157
  go_wp2
  go_loopw [9] (fun s9 wr => ∃ (k : Nat), s9 = .int .i64 k ∧ k ≤ n ∧ Hid ((fsAll (fs.take k)).fit (sft o x) = true) ∧ Below w.heap.size w wr) (fun j _ => n - (intOf j).toNat)
  case atStart => exact ⟨0, rfl, Nat.zero_le _, hide (by simp [fsAll]), Below.refl _ _⟩
  case round =>
    obtain ⟨k, rfl, hk, HK, hB⟩ := hrel
    by_cases hlt : k < n
    · have hkb : Kept S w0 wr := hb.below hB
      obtain ⟨f, v, hf, htk, hF, c0, c1, c2⟩ := hTab.at hkb (Nat.lt_of_lt_of_le hlt hn)
      obtain ⟨k1, a1, k2, a2, k3, a3⟩ := v
      obtain ⟨eg, hP⟩ := FitOk.open hF.fits
      simp only at c0 c1 c2 eg hP
      have hbr : Below wr.heap.size wr (wr.alloc (.cells #[.func (.func k1) #[] a1, .func (.func k2) #[] a2, .func (.func k3) #[] a3] 257)) := below_one wr _
      have hC := hP _ q ty sh N x o (hkb.below hbr) ((hT.later hB).later hbr) hSg
      have HB : Hid (∀ w', Below (wr.alloc (.cells #[.func (.func k1) #[] a1, .func (.func k2) #[] a2, .func (.func k3) #[] a3] 257)).heap.size (wr.alloc (.cells #[.func (.func k1) #[] a1, .func (.func k2) #[] a2, .func (.func k3) #[] a3] 257)) w' → Below w.heap.size w w') :=
        fun w' h2 => hB.trans ((hbr.trans (h2.mono hbr.size)).mono hB.size)
      have H1 : Hid ((fsAll (fs.take (k + 1))).fit (sft o x) = f.fit (sft o x)) := by
        show _ = _
        rw [htk, fsAll_fit, unhide HK, Bool.true_and]
      have H0 : Hid (f.fit (sft o x) = false → (fsAll (fs.take n)).fit (sft o x) = false) := by
        intro h0
        refine fsAll_fit_take (fs.take n) (k + 1) _ ?_
        rw [List.take_take, Nat.min_eq_left (by omega), unhide H1]; exact h0
      clear hP hF hkb hbr hTab hb hT hSg hf htk hB
      simp only [Enters] at eg
      cases hR : f.fit (sft o x) with
      | true =>
        rw [hR] at hC
        have H2 := hide ((unhide H1).trans hR)
        clear hR H1 H0
        go_wp2_with (go_at_fn k3; refine hC.mono ?_; rintro e w' ⟨rfl, hF⟩; have HF := hide (unhide HB w' hF); clear hF)
        go_roundw
        case rel => exact ⟨k + 1, by go_num, by omega, H2, unhide HF⟩
        case measure => simp [intOf]; omega
      | false =>
        rw [hR] at hC
        have H2 := hide (unhide H0 hR)
        clear hR H1 H0
        go_wp2_with (go_at_fn k3; refine hC.mono ?_; rintro e w' ⟨rfl, hF⟩; have HF := hide (unhide HB w' hF); clear hF)
        go_ret
        exact ⟨by rw [unhide H2]; rfl, unhide HF⟩
    · obtain rfl : k = n := by omega
      clear hTab hb hT hSg
      go_wp2
      go_ret
      exact ⟨by rw [unhide HK]; rfl, hB⟩
end Go.Proofs.YtfedajifefldmaaGreat
