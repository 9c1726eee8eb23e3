import Derived.Test.YtaidncibndcbfabDoorQOpnT
set_option linter.unusedVariables false
namespace Go.Proofs.YtaidncibndcbfabDoor
open Go.RowKit

theorem rRootO (base : Nat) (v : Value) (l : List (List Int)) (w : World) (h : HOwn w base v l) (hn : l.length ≤ 65536) : Calls Tryd.prog 6 #[v] w fun e w' => e = .returned (.tuple #[hV (rootZ16 l), .bool true]) ∧ Below w.heap.size w w' := by
  obtain ⟨s2, rfl, h4, h5, h6, -⟩ := h.hl
  have := rRoot_ok s2 w h6 (by rw [h5]; exact hn)
  rwa [h4] at this
theorem TrO.below {w w' : World} {p B : Nat} {ls : List (List Int)} (h : TrO w p ls) (hb : Below B w w') (hp : p < B) : TrO w' p ls := h.buts (S := fun k => B ≤ k) ⟨hb.os, hb.tape, hb.output, hb.size, fun k _ hk => hb.block k (by omega)⟩ (by omega)
theorem HOwn.but {w w' : World} {base p : Nat} {v : Value} {ls : List (List Int)} (h : HOwn w base v ls) (hb : But p w w') (hp : p < base) : HOwn w' base v ls := by
  refine ⟨⟨h.own.1, ?_⟩, h.hs⟩
  rcases h.own.2 with h2 | ⟨g, cap, cur, h1, h2, h3, h4⟩
  · exact .inl h2
  · have hgl : g < w.heap.size := (h.own.lt g (by rw [h1]; rfl)).2
    exact .inr ⟨g, cap, cur, h1, h2, (hb.block g hgl (by omega)).trans h3, h4⟩
/-- the state of MerkleTrees' loop -/
structure TS (w0 : World) (p q B : Nat) (l m : List (List Int)) (lv mv : Value) (w : World) : Prop where
  tp : TrO w p l
  tq : TrO w q m
  ol : HOwn w B lv l
  om : HOwn w B mv m
  apt : ∀ g, lv.ownBlock = some g → mv.ownBlock ≠ some g
  pq : p ≠ q ∧ p < B ∧ q < B ∧ w0.heap.size ≤ p ∧ w0.heap.size ≤ q
  gl : ((3 < w0.heap.size ∧ 0 < w0.heap.size) ∧ 2 < w0.heap.size)
  bs : B ≤ w.heap.size
  ld : Ld w
  d6 : D6Laid w
  be : Below w0.heap.size w0 w
theorem TS.later {w0 : World} {p q B : Nat} {l m : List (List Int)} {lv mv : Value} {w w' : World} (h : TS w0 p q B l m lv mv w) (hb : Below w.heap.size w w') : TS w0 p q B l m lv mv w' :=
  ⟨h.tp.later hb, h.tq.later hb, h.ol.later hb, h.om.later hb, h.apt, h.pq, h.gl, Nat.le_trans h.bs hb.size, h.ld.later hb, h.d6.later hb, bnext h.be h.be.size hb⟩
theorem own_other {w w' : World} {base e sz n n' : Nat} {v v' : Value} {xs xs' : List Value} (h : w.ownsRow base e sz v n xs) (hg : w.grownBy w' v'.ownBlock) (hne : ∀ g, v.ownBlock = some g → v'.ownBlock ≠ some g) : w'.ownsRow base e sz v n xs :=
  own_keepG h hg (fun g h1 h2 => hne g h1 h2.symm)
theorem TS.growL {w0 : World} {p q B : Nat} {l m : List (List Int)} {lv mv nv : Value} {x : List Int} {w w' : World} (h : TS w0 p q B l m lv mv w) (hO : HOwn w' B nv (l ++ [x])) (hg : w.grownBy w' lv.ownBlock) (ho : nv.ownBlock = lv.ownBlock ∨ nv.ownBlock = some w.heap.size) (_ : Below w.heap.size w w) :
    TrO w' p l ∧ TrO w' q m ∧ HOwn w' B nv (l ++ [x]) ∧ HOwn w' B mv m ∧ (∀ g, nv.ownBlock = some g → mv.ownBlock ≠ some g) ∧ Ld w' ∧ D6Laid w' ∧ Below w0.heap.size w0 w' ∧ B ≤ w'.heap.size := by
  have hb := h.ol.bel hg (Nat.le_refl _) h.bs
  have h4 := h.pq
  have h5 := h.gl
  refine ⟨h.tp.below hb h4.2.1, h.tq.below hb h4.2.2.1, hO, ⟨own_keepG h.om.own hg (fun g h1 h2 => h.apt g h2.symm h1), h.om.hs⟩, fun g h1 h2 => ?_, ⟨h.ld.1.below hb (by omega), h.ld.2.below16 hb (by omega)⟩, fun i hi => (hb.cell (p := ⟨2, i, none⟩) (show 2 < B by omega)).trans (h.d6 i hi), h.be.trans (hb.mono (by omega)), Nat.le_trans h.bs hg.size⟩
  rcases ho with ho | ho
  · exact h.apt g (by rw [← ho]; exact h1) h2
  · rw [ho] at h1
    have := (h.om.own.lt g h2).2
    simp only [Option.some.injEq] at h1
    omega
theorem TS.swap {w0 : World} {p q B : Nat} {l m : List (List Int)} {lv mv : Value} {w : World} (h : TS w0 p q B l m lv mv w) : TS w0 q p B m l mv lv w :=
  ⟨h.tq, h.tp, h.om, h.ol, fun g h1 h2 => h.apt g h2 h1, ⟨Ne.symm h.pq.1, h.pq.2.2.1, h.pq.2.1, h.pq.2.2.2.2, h.pq.2.2.2.1⟩, h.gl, h.bs, h.ld, h.d6, h.be⟩
theorem TS.stepL {w0 : World} {p q B : Nat} {l m : List (List Int)} {lv mv nv : Value} {x : List Int} {w wh wi : World} (h : TS w0 p q B l m lv mv w)
    (hG : TrO wh p l ∧ TrO wh q m ∧ HOwn wh B nv (l ++ [x]) ∧ HOwn wh B mv m ∧ (∀ g, nv.ownBlock = some g → mv.ownBlock ≠ some g) ∧ Ld wh ∧ D6Laid wh ∧ Below w0.heap.size w0 wh ∧ B ≤ wh.heap.size)
    (hT : TrO wi p (l ++ [x])) (hb : But p wh wi) : TS w0 p q B (l ++ [x]) m nv mv wi := by
  obtain ⟨h1, h2, h3, h4, h5, h6, h7, h8, h9⟩ := hG
  have hp := h.pq
  have hg := h.gl
  refine ⟨hT, h2.buts (S := (· = p)) ⟨hb.os, hb.tape, hb.output, hb.size, hb.block⟩ (Ne.symm hp.1), h3.but hb hp.2.1, h4.but hb hp.2.1, h5, hp, hg, Nat.le_trans h9 hb.size, h6.but16 hb (by omega), h7.but16 hb (by omega), h8.trans (hb.below h8.size hp.2.2.2.1)⟩
theorem range_below {w w' : World} {b k B : Nat} {l : List Value} (h : w.rangeAt b k l) (hb : Below B w w') (hB : b < B) : w'.rangeAt b k l := fun j v hv => by
  rw [← h j v hv]
  exact World.cell?_of_block (w := w) (w' := w') (a := ⟨b, _, none⟩) (hb.block b hB)

set_option maxHeartbeats 8000000 in
set_option maxRecDepth 100000 in
theorem trees_law (s : Tl) (w : World) (hs : s.Ok w) (hL : Ld w) (hD : D6Laid w) :
    Calls Tryd.prog 3 #[s.v] w fun e w' => e = .returned (.bool true) ∧ Below w.heap.size w w' := by
  by_cases hbig : 200 < s.n
  · obtain ⟨a, n, c, ls⟩ := s
    simp only [Tl.v] at *
    have g1 : decide ((200 : Int) < (n : Int)) = true := decide_eq_true (by omega)
    have g2 : decide (200 < n) = true := decide_eq_true (by omega)
    clear hs hL hbig hD
    go_enter Tryd.func3, Tryd.ntmps3
    go_wp2
    go_ret
    exact ⟨rfl, Below.refl _ _⟩
  have g1 : decide ((200 : Int) < (s.n : Int)) = false := decide_eq_false (by omega)
  have g2 : decide (200 < s.n) = false := decide_eq_false (by omega)
  have HGL : Hid ((3 < w.heap.size ∧ 0 < w.heap.size) ∧ 2 < w.heap.size) := hide ⟨hL.lt16, hD.lt⟩
  have HBIG := hide (show s.n ≤ 200 by omega)
  have HLEN := hide hs.len
  have HS := hide hs
  have hnew := fun w0 => tnew_any w0
  clear hbig hs
  obtain ⟨s0, hs0⟩ : ∃ s0, s0 = s := ⟨_, rfl⟩
  rw [← hs0] at HS HLEN HBIG
  have HS0 := hide hs0
  obtain ⟨a, n, c, ls⟩ := s
  have HN0 : Hid (s0.n = n) := hide (by rw [hs0])
  clear hs0
  simp only [Tl.v] at g1 g2 ⊢
  go_enter Tryd.func3, Tryd.ntmps3
  go_upto_region 4 with (go_at_call 5; refine (hnew _).mono ?_; rintro e w1 ⟨rfl, hT1, hb1⟩)
  obtain ⟨p, hp⟩ : ∃ p, p = w.heap.size := ⟨_, rfl⟩
  rw [← hp] at hT1 ⊢
  have HP := hide hp
  clear hp
  go_wp2_with (go_at_call 5; refine (hnew _).mono ?_; rintro e w2 ⟨rfl, hT2, hb2⟩)
  obtain ⟨q, hq⟩ : ∃ q, q = w1.heap.size := ⟨_, rfl⟩
  rw [← hq] at hT2 ⊢
  have HST : Hid (TS w p q w2.heap.size [] [] (.slice none 0 0) (.slice none 0 0) w2) := hide (by
    have e1 := unhide HP
    refine ⟨(TrO.new w w1 p hT1).later hb2, TrO.new w1 w2 q hT2, HOwn.nil _ _, HOwn.nil _ _, (fun g h => by cases h), ?_, unhide HGL, Nat.le_refl _, (hL.later hb1).later hb2, (hD.later hb1).later hb2, bnext hb1 hb1.size hb2⟩
    have h1 := hT1.L
    have h2 := hT2.L
    have h3 := hb1.size
    have h4 := hb2.size
    omega)
  obtain ⟨B, hB⟩ : ∃ B, B = w2.heap.size := ⟨_, rfl⟩
  rw [← hB] at HST
  have HWB : Hid (w.heap.size ≤ B) := hide (by rw [hB]; exact Nat.le_trans hb1.size hb2.size)
  clear hq hB hT1 hT2 hb1 hb2 hnew hL hD
  go_loopw [5, 6, 7] (fun lv mv iv wr => ∃ (la : Option Addr) (ln lc : Nat) (ma : Option Addr) (mn mc i : Nat) (l m : List (List Int)), lv = .slice la ln lc ∧ mv = .slice ma mn mc ∧ iv = .int .i64 i ∧ Hid (ln = l.length ∧ mn = m.length ∧ ln + mn = i ∧ i ≤ n ∧ TS w p q B l m (.slice la ln lc) (.slice ma mn mc) wr)) (fun _ _ iv _ => 300 - (intOf iv).toNat)
  case atStart =>
    exact ⟨none, 0, 0, none, 0, 0, 0, [], [], rfl, rfl, rfl, hide ⟨rfl, rfl, rfl, Nat.zero_le _, unhide HST⟩⟩
  case round =>
    clear HST
    obtain ⟨la, ln, lc, ma, mn, mc, i, l, m, rfl, rfl, rfl, HI⟩ := hrel
    obtain ⟨hln, hmn, hsum, hin, hS⟩ := unhide HI
    clear HI
    have HIN : Hid (ln + mn = i ∧ i ≤ n ∧ n ≤ 200 ∧ l.length ≤ 200 ∧ m.length ≤ 200) := hide (by have := unhide HN0; have := unhide HBIG; omega)
    have HLN := hide hln
    have HMN := hide hmn
    have g3 : (i : Int) ≤ (n : Int) := by omega
    obtain ⟨ya, hya⟩ : ∃ ya, ya = rootZ16 l := ⟨_, rfl⟩
    have hyal : Hs ya := by rw [hya]; exact mroot_hs _ hS.ol.hs
    obtain ⟨yb, hyb⟩ : ∃ yb, yb = rootZ16 m := ⟨_, rfl⟩
    have hybl : Hs yb := by rw [hyb]; exact mroot_hs _ hS.om.hs
    have HYA := hide hya
    have HYB := hide hyb
    have hra := rRootO B _ l wr hS.ol (by have := unhide HIN; omega)
    rw [← hya] at hra
    have hrb := fun w0 (h0 : HOwn w0 B (.slice ma mn mc) m) => rRootO B _ m w0 h0 (by have := unhide HIN; omega)
    rw [← hyb] at hrb
    have hH : Hold [] wr := fun p hp => by cases hp
    clear hln hmn hsum hin hya hyb
    go_upto_region 12 with (first
      | (go_at_call 6; refine hra.mono ?_; rintro e wa ⟨rfl, hb1⟩; replace hH := hH.later hb1; replace hS := hS.later hb1; clear hb1 hra)
      | (refine wpList_store_al rfl (.tmp 8) (.tmp 32) rfl hH ya hyal.len _ rfl rfl rfl rfl ?_; intro wb hH3 hb3; replace hH := hH3; replace hS := hS.later hb3; clear hb3 hH3))
    generalize hb8e : wa.heap.size = b8 at hH ⊢
    clear hb8e
    go_upto_region 13 with (first
      | (go_at_call 6; refine (hrb _ hS.om).mono ?_; rintro e wc ⟨rfl, hb1⟩; replace hH := hH.later hb1; replace hS := hS.later hb1; clear hb1 hrb)
      | (refine wpList_store_al rfl (.tmp 10) (.tmp 37) rfl hH yb hybl.len _ rfl rfl rfl rfl ?_; intro wd hH3 hb3; replace hH := hH3; replace hS := hS.later hb3; clear hb3 hH3))
    generalize hb10e : wc.heap.size = b10 at hH ⊢
    clear hb10e
    have hneq1 : ((ln : Int) != (ln : Int)) = false := by simp
    have hneq2 : ((mn : Int) != (mn : Int)) = false := by simp
    replace hS := hS.later (drew_below _)
    refine wp_region_held_drew (S := fun w9 => Hold [(b10, yb), (b8, ya)] w9) (by kernel_rfl) hH.drew (fun hHeld => ?_)
    generalize World.drew _ = v1 at hHeld hS ⊢
    clear hH
    refine wpAnyH_take (i := 0) (oi := _) (v := .pointer (some ⟨p, 0, none⟩)) rfl (by kernel_rfl) (by kernel_rfl) (by kernel_rfl) (fun _ _ _ h => h) (Or.inl ⟨by rfl, fun w hSw => by go_simp⟩) hHeld ?_
    simp [Act.put]
    refine wpAnyH_take (i := 2) (oi := _) (v := hV ya) rfl (by kernel_rfl) (by kernel_rfl) (by kernel_rfl) (fun _ _ _ h => h) (yields_hs (by kernel_rfl) (.tmp 8) rfl b8 ya (by simp) hyal.len rfl) hHeld ?_
    simp [Act.put]
    refine wpAnyH_ready (rs := [1]) (by kernel_rfl) (by simp) ?_
    refine AllReadyH.cons rfl (fun K hKK => ?_) AllReadyH.nil
    go_simp
    refine (troot_any _ p l hS.tp hS.ld hS.d6 (by have := unhide HIN; omega)).mono ?_
    rintro e va ⟨rfl, hb8⟩
    rw [← unhide HYA]
    replace hS := hS.later hb8
    refine hKK.out _ _ (hHeld.later hb8) (fun hHeld => ?_)
    clear hKK K hb8
    refine wpAnyH_take (i := 3) (oi := _) (v := .bool (!true)) rfl (by kernel_rfl) (by kernel_rfl) (by kernel_rfl) (fun _ _ _ h => h) (yields_neH (by kernel_rfl) (.tmp 40) (.tmp 41) rfl ya ya hyal.len hyal.len true (by simp) rfl rfl) hHeld ?_
    simp [Act.put]
    refine wpAnyH_take (i := 4) (oi := _) (v := .bool false) rfl (by kernel_rfl) (by kernel_rfl) (by kernel_rfl) (fun _ _ _ h => h) (Or.inl ⟨by rfl, fun w hSw => by go_simp⟩) hHeld ?_
    simp [Act.put]
    refine wpAnyH_take (i := 5) (oi := _) (v := .pointer (some ⟨q, 0, none⟩)) rfl (by kernel_rfl) (by kernel_rfl) (by kernel_rfl) (fun _ _ _ h => h) (Or.inl ⟨by rfl, fun w hSw => by go_simp⟩) hHeld ?_
    simp [Act.put]
    refine wpAnyH_take (i := 7) (oi := _) (v := hV yb) rfl (by kernel_rfl) (by kernel_rfl) (by kernel_rfl) (fun _ _ _ h => h) (yields_hs (by kernel_rfl) (.tmp 10) rfl b10 yb (by simp) hybl.len rfl) hHeld ?_
    simp [Act.put]
    refine wpAnyH_ready (rs := [6]) (by kernel_rfl) (by simp) ?_
    refine AllReadyH.cons rfl (fun K hKK => ?_) AllReadyH.nil
    go_simp
    refine (troot_any _ q m hS.tq hS.ld hS.d6 (by have := unhide HIN; omega)).mono ?_
    rintro e vb ⟨rfl, hb8⟩
    rw [← unhide HYB]
    replace hS := hS.later hb8
    refine hKK.out _ _ (hHeld.later hb8) (fun hHeld => ?_)
    clear hKK K hb8
    refine wpAnyH_take (i := 8) (oi := _) (v := .bool (!true)) rfl (by kernel_rfl) (by kernel_rfl) (by kernel_rfl) (fun _ _ _ h => h) (yields_neH (by kernel_rfl) (.tmp 45) (.tmp 46) rfl yb yb hybl.len hybl.len true (by simp) rfl rfl) hHeld ?_
    simp [Act.put]
    refine wpAnyH_take (i := 9) (oi := _) (v := .bool false) rfl (by kernel_rfl) (by kernel_rfl) (by kernel_rfl) (fun _ _ _ h => h) (Or.inl ⟨by rfl, fun w hSw => by go_simp⟩) hHeld ?_
    simp [Act.put]
    refine wpAnyH_take (i := 10) (oi := _) (v := .bool false) rfl (by kernel_rfl) (by kernel_rfl) (by kernel_rfl) (fun _ _ _ h => h) (Or.inl ⟨by rfl, fun w hSw => by go_simp⟩) hHeld ?_
    simp [Act.put]
    refine wpAnyH_take (i := 11) (oi := _) (v := .pointer (some ⟨p, 0, none⟩)) rfl (by kernel_rfl) (by kernel_rfl) (by kernel_rfl) (fun _ _ _ h => h) (Or.inl ⟨by rfl, fun w hSw => by go_simp⟩) hHeld ?_
    simp [Act.put]
    refine wpAnyH_take (i := 13) (oi := _) (v := .slice la ln lc) rfl (by kernel_rfl) (by kernel_rfl) (by kernel_rfl) (fun _ _ _ h => h) (Or.inl ⟨by rfl, fun w hSw => by go_simp⟩) hHeld ?_
    simp [Act.put]
    refine wpAnyH_take (i := 14) (oi := _) (v := .int .i64 (ln : Int)) rfl (by kernel_rfl) (by kernel_rfl) (by kernel_rfl) (fun _ _ _ h => h) (Or.inl ⟨by rfl, fun w hSw => by go_simp⟩) hHeld ?_
    simp [Act.put]
    refine wpAnyH_ready (rs := [12]) (by kernel_rfl) (by simp) ?_
    refine AllReadyH.cons rfl (fun K hKK => ?_) AllReadyH.nil
    go_simp
    refine (hS.tp.sizeC).mono ?_
    rintro e vc ⟨rfl, hv7⟩
    obtain rfl := hv7.symm
    rw [← unhide HLN]
    refine hKK.out _ _ hHeld (fun hHeld => ?_)
    clear hKK K
    refine wpAnyH_take (i := 15) (oi := _) (v := .bool false) rfl (by kernel_rfl) (by kernel_rfl) (by kernel_rfl) (fun _ _ _ h => h) (Or.inl ⟨by rfl, fun w hSw => by go_simp⟩) hHeld ?_
    simp [Act.put]
    refine wpAnyH_take (i := 16) (oi := _) (v := .bool false) rfl (by kernel_rfl) (by kernel_rfl) (by kernel_rfl) (fun _ _ _ h => h) (Or.inl ⟨by rfl, fun w hSw => by go_simp⟩) hHeld ?_
    simp [Act.put]
    refine wpAnyH_take (i := 17) (oi := _) (v := .bool false) rfl (by kernel_rfl) (by kernel_rfl) (by kernel_rfl) (fun _ _ _ h => h) (Or.inl ⟨by rfl, fun w hSw => by go_simp⟩) hHeld ?_
    simp [Act.put]
    refine wpAnyH_take (i := 18) (oi := _) (v := .pointer (some ⟨q, 0, none⟩)) rfl (by kernel_rfl) (by kernel_rfl) (by kernel_rfl) (fun _ _ _ h => h) (Or.inl ⟨by rfl, fun w hSw => by go_simp⟩) hHeld ?_
    simp [Act.put]
    refine wpAnyH_take (i := 20) (oi := _) (v := .slice ma mn mc) rfl (by kernel_rfl) (by kernel_rfl) (by kernel_rfl) (fun _ _ _ h => h) (Or.inl ⟨by rfl, fun w hSw => by go_simp⟩) hHeld ?_
    simp [Act.put]
    refine wpAnyH_take (i := 21) (oi := _) (v := .int .i64 (mn : Int)) rfl (by kernel_rfl) (by kernel_rfl) (by kernel_rfl) (fun _ _ _ h => h) (Or.inl ⟨by rfl, fun w hSw => by go_simp⟩) hHeld ?_
    simp [Act.put]
    refine wpAnyH_ready (rs := [19]) (by kernel_rfl) (by simp) ?_
    refine AllReadyH.cons rfl (fun K hKK => ?_) AllReadyH.nil
    go_simp
    refine (hS.tq.sizeC).mono ?_
    rintro e vd ⟨rfl, hv7⟩
    obtain rfl := hv7.symm
    rw [← unhide HMN]
    refine hKK.out _ _ hHeld (fun hHeld => ?_)
    clear hKK K
    refine wpAnyH_take (i := 22) (oi := _) (v := .bool false) rfl (by kernel_rfl) (by kernel_rfl) (by kernel_rfl) (fun _ _ _ h => h) (Or.inl ⟨by rfl, fun w hSw => by go_simp⟩) hHeld ?_
    simp [Act.put]
    refine wpAnyH_take (i := 23) (oi := _) (v := .bool false) rfl (by kernel_rfl) (by kernel_rfl) (by kernel_rfl) (fun _ _ _ h => h) (Or.inl ⟨by rfl, fun w hSw => by go_simp⟩) hHeld ?_
    simp [Act.put]
    refine wpAnyH_done (by kernel_rfl) ?_ _
    clear hHeld hneq1 hneq2
    by_cases hend : i = n
    · subst hend
      have hbe := hS.be
      clear hS
      go_wp2
      go_ret
      exact ⟨rfl, hbe⟩
    · have g4 : decide ((i : Int) = (n : Int)) = false := decide_eq_false (by omega)
      have g5 : decide (i = n) = false := decide_eq_false hend
      have g6 : ((i : Int) == (n : Int)) = false := by simp; omega
      have hil : i < s0.ts.length := by rw [unhide HLEN, unhide HN0]; have := unhide HIN; omega
      obtain ⟨⟨x, sec⟩, hx⟩ : ∃ x, s0.ts[i]? = some x := ⟨_, List.getElem?_eq_getElem hil⟩
      have hsW := (unhide HS).later hS.be
      have hxh : Hs x := (unhide HS).hs _ (List.mem_of_getElem? hx)
      obtain ⟨b, off, ha, hbl, hr⟩ := hsW.lies (by have := unhide HN0; rw [← hsW.len]; omega)
      obtain ⟨hX, hC⟩ := hr i _ hx
      simp only at hX hC
      have HBw : Hid (b < B) := hide (by
        obtain ⟨b', off', ha', hbl', -⟩ := (unhide HS).lies (by have := unhide HN0; rw [← hsW.len]; omega)
        rw [ha] at ha'
        simp only [Option.some.injEq, Addr.mk.injEq] at ha'
        have := unhide HWB
        omega)
      have haa : a = some ⟨b, off, none⟩ := by rw [← ha, unhide HS0]
      subst haa
      have g7 : (i : Int) < (n : Int) := by have := unhide HIN; omega
      have hw1 : IntKind.i64.wrap ((i : Int) + 1) = ((i + 1 : Nat) : Int) := by rw [IntKind.wrap_i64]; have := unhide HIN; omega
      obtain ⟨i1, hi1⟩ : ∃ i1, i1 = i + 1 := ⟨_, rfl⟩
      rw [← hi1] at hw1
      have HI1 : Hid (i1 = i + 1 ∧ i1 ≤ n) := hide ⟨hi1, by have := unhide HIN; omega⟩
      clear hi1 hr hbl ha hx hil hsW hend
      cases sec
      · as_aux_lemma =>
        go_wp2_with (first
          | (refine wpList_load_hm (.tmp 92) rfl (by kernel_rfl) b (off + i * 33) x hxh.len hX rfl ?_)
          | (refine wpList_bs1 rfl (.tmp 93) rfl x hxh rfl ?_; intro wg hAg hbg; have hS2 := hS.later hbg; have hX2 := rangeAt_later hX hbg (range_lt16 hX hxh); clear hbg)
          | (refine wpList_push2 rfl (.tmp 88) (.tmp 94) rfl B _ _ x _ 1 hS2.ol hxh hAg rfl rfl (by have := unhide HIN; have := unhide HLN; omega) hS2.bs ?_; intro na nn nc wh hOh hnh hgh hoh; have HG := hide (hS2.growL hOh hgh hoh (Below.refl _ _)); have hX3 := range_below hX2 (hS2.ol.bel hgh (Nat.le_refl _) hS2.bs) (unhide HBw); have HNH := hide hnh; have HS2 := hide hS2; clear hOh hgh hoh hS2 hAg hX2 hnh)
          | (refine wpList_load_hm (.tmp 100) rfl (by kernel_rfl) b (off + i * 33) x hxh.len hX3 rfl ?_)
          | (go_at_call 9; refine (tappend_any wh p l x hxh (unhide HG).1 (by have := unhide HIN; have := unhide HLN; omega) (unhide HG).2.2.2.2.2.1).mono ?_; rintro e wi ⟨rfl, hTi, hbi⟩; have HS4 := hide ((unhide HS2).stepL (unhide HG) hTi hbi); clear hTi hbi))
        go_roundw
        case rel =>
          refine ⟨na, nn, nc, ma, mn, mc, i1, l ++ [x], m, rfl, rfl, rfl, hide ⟨unhide HNH, unhide HMN, ?_, (unhide HI1).2, unhide HS4⟩⟩
          have h1 := unhide HNH; have h2 := unhide HI1; have h3 := unhide HIN; have h4 := unhide HLN
          simp at h1; omega
        case measure => have h9 := unhide HI1; have h8 := unhide HIN; simp [intOf]; omega
      · as_aux_lemma =>
        go_wp2_with (first
          | (refine wpList_load_hm (.tmp 76) rfl (by kernel_rfl) b (off + i * 33) x hxh.len hX rfl ?_)
          | (refine wpList_bs1 rfl (.tmp 77) rfl x hxh rfl ?_; intro wg hAg hbg; have hS2 := hS.later hbg; have hX2 := rangeAt_later hX hbg (range_lt16 hX hxh); clear hbg)
          | (refine wpList_push2 rfl (.tmp 72) (.tmp 78) rfl B _ _ x _ 1 hS2.om hxh hAg rfl rfl (by have := unhide HIN; have := unhide HMN; omega) hS2.bs ?_; intro na nn nc wh hOh hnh hgh hoh; have HG := hide (hS2.swap.growL hOh hgh hoh (Below.refl _ _)); have hX3 := range_below hX2 (hS2.om.bel hgh (Nat.le_refl _) hS2.bs) (unhide HBw); have HNH := hide hnh; have HS2 := hide hS2; clear hOh hgh hoh hS2 hAg hX2 hnh)
          | (refine wpList_load_hm (.tmp 84) rfl (by kernel_rfl) b (off + i * 33) x hxh.len hX3 rfl ?_)
          | (go_at_call 9; refine (tappend_any wh q m x hxh (unhide HG).1 (by have := unhide HIN; have := unhide HMN; omega) (unhide HG).2.2.2.2.2.1).mono ?_; rintro e wi ⟨rfl, hTi, hbi⟩; have HS4 := hide ((unhide HS2).swap.stepL (unhide HG) hTi hbi); clear hTi hbi))
        go_roundw
        case rel =>
          refine ⟨la, ln, lc, na, nn, nc, i1, l, m ++ [x], rfl, rfl, rfl, hide ⟨unhide HLN, unhide HNH, ?_, (unhide HI1).2, (unhide HS4).swap⟩⟩
          have h1 := unhide HNH; have h2 := unhide HI1; have h3 := unhide HIN; have h4 := unhide HMN
          simp at h1; omega
        case measure => have h9 := unhide HI1; have h8 := unhide HIN; simp [intOf]; omega
end Go.Proofs.YtaidncibndcbfabDoor
