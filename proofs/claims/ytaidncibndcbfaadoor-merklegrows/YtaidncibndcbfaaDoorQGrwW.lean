import Derived.Test.YtaidncibndcbfaaDoorQFulW
import Derived.Deep.DeepCutAuto
set_option linter.unusedVariables false
namespace Go.Proofs.YtaidncibndcbfaaDoor
open Go.RowKit

/-- s[:i] of a slice of hashes -/
theorem wpList_hlTo {ops : Array Oper} {rest : List Oper} {o : Oper} {a : Act} {w w0 : World} {Q : Exit → Act → World → Prop} (hgd : o.guard = none) (x y : Operand) (ho : o.op = .slice 30 x none (some y) none)
    (s : Hl) (hs : s.Ok w0) (i : Nat) (hi : i ≤ s.n) (hx : a.eval x = s.v) (hy : a.eval y = .int .i64 i) (h : wpList Tryd.prog ops Q rest (a.put o.dst (s.cut 0 i s.c).v) w) : wpList Tryd.prog ops Q (o :: rest) a w := by
  refine wpList_val (s.cut 0 i s.c).v (by simp [Region.wanted, hgd]) ?_ h
  have hle := hs.le
  have hmx := hs.mx
  unfold maxLen at hmx
  obtain ⟨ad, n, c, ls⟩ := s
  have hnn := hs.nn
  simp only [Hl.v, Hl.cut] at *
  cases ad with
  | none =>
    obtain ⟨rfl, rfl⟩ := hnn rfl
    obtain rfl : i = 0 := by omega
    simp only [execOp, ho, hx, Option.map_some, Option.map_none, hy]
    go_simp
  | some ad =>
    have g1 : (i : Int) ≤ (c : Int) := by omega
    have g2 : (i : Int) ≤ (n : Int) := by omega
    simp only [execOp, ho, hx, Option.map_some, Option.map_none, hy]
    go_simp
    try (split <;> rfl)

set_option maxHeartbeats 8000000 in
set_option maxRecDepth 100000 in
theorem grows_law (s : Hl) (w : World) (hs : s.Ok w) (hL : Ld w) (hD : D6Laid w) :
    Calls Tryd.prog 8 #[s.v] w fun e w' => e = .returned (.bool true) ∧ Below w.heap.size w w' := by
  by_cases hbig : 40 < s.n
  · obtain ⟨a, n, c, ls⟩ := s
    simp only [Hl.v] at *
    have g1 : decide ((40 : Int) < (n : Int)) = true := decide_eq_true (by omega)
    have g2 : decide (40 < n) = true := decide_eq_true (by omega)
    clear hs hL hbig hD
    go_enter Tryd.func8, Tryd.ntmps8
    go_wp2
    go_ret
    exact ⟨rfl, Below.refl _ _⟩
  have g1 : decide ((40 : Int) < (s.n : Int)) = false := decide_eq_false (by omega)
  have g2 : decide (40 < s.n) = false := decide_eq_false (by omega)
  have hnew := tnew_any w
  have HLt : Hid ((3 < w.heap.size ∧ 0 < w.heap.size) ∧ 2 < w.heap.size) := hide ⟨hL.lt16, hD.lt⟩
  obtain ⟨h, hh⟩ : ∃ h, h = rootZ16 s.ls := ⟨_, rfl⟩
  have hhl : Hs h := by rw [hh]; exact mroot_hs _ hs.hs
  have HH := hide hh
  have HBIG := hide (show s.n ≤ 40 by omega)
  have HLE := hide hs.le
  have HLEN := hide hs.len
  have HS := hide hs
  clear hbig hh hs
  obtain ⟨s0, hs0⟩ : ∃ s0, s0 = s := ⟨_, rfl⟩
  rw [← hs0] at HS HH HLEN HBIG HLE
  have HS0 := hide hs0
  obtain ⟨a, n, c, ls⟩ := s
  have HV0 : Hid (s0.v = .slice a n c) := hide (by rw [hs0]; rfl)
  have HN0 : Hid (s0.n = n) := hide (by rw [hs0])
  clear hs0
  simp only [Hl.v] at g1 g2 ⊢
  go_enter Tryd.func8, Tryd.ntmps8
  go_upto_region 6 with (go_at_call 9; refine hnew.mono ?_; rintro e w1 ⟨rfl, hT, hb⟩; replace hL := hL.later hb; replace hD := hD.later hb; clear hnew)
  obtain ⟨p, hp⟩ : ∃ p, p = w.heap.size := ⟨_, rfl⟩
  rw [← hp] at hT ⊢
  have HP := hide hp
  replace hT := TrO.new w w1 p hT
  have hroot := root_ok s0 w1 ((unhide HS).later hb) hL (by have := unhide HBIG; omega)
  rw [unhide HV0, ← unhide HH] at hroot
  have hH : Hold [] w1 := fun p hp => by cases hp
  clear hp
  go_wp2_with (first
    | (go_at_call 15; refine hroot.mono ?_; rintro e w2 ⟨rfl, hb2⟩; have hpb := Nat.ne_of_lt (Nat.lt_of_lt_of_le hT.lt hb2.size); replace hH := hH.later hb2; replace hT := hT.later hb2; replace hL := hL.later hb2; replace hD := hD.later hb2; replace hb := bnext hb hb.size hb2; clear hb2 hroot)
    | (refine wpList_store_al rfl (.tmp 4) (.tmp 20) rfl hH h hhl.len _ rfl rfl rfl rfl ?_; intro w3 hH3 hb3; replace hH := hH3; replace hb := bnext hb hb.size hb3; replace hT := hT.later hb3; replace hL := hL.later hb3; replace hD := hD.later hb3; clear hb3 hH3))
  generalize hb4e : w2.heap.size = b4 at hH hpb ⊢
  clear hb4e
  have HPB := hide hpb
  have hst : Hid (TrO w3 p (s0.ls.take 0) ∧ Hold [(b4, h)] w3 ∧ Ld w3 ∧ D6Laid w3 ∧ Below w.heap.size w w3) := hide ⟨by simpa using hT, hH, hL, hD, hb⟩
  clear hpb hT hH hL hD hb
  go_loopw [6] (fun iv wr => ∃ i : Nat, iv = .int .i64 i ∧ Hid (i ≤ n + 1 ∧ TrO wr p (s0.ls.take i) ∧ Hold [(b4, h)] wr ∧ Ld wr ∧ D6Laid wr ∧ Below w.heap.size w wr)) (fun iv _ => 100 - (intOf iv).toNat)
  case atStart =>
    exact ⟨0, rfl, hide ⟨by omega, unhide hst⟩⟩
  case round =>
    clear hst
    obtain ⟨i, rfl, HI⟩ := hrel
    obtain ⟨hle, hT, hH, hL, hD, hb⟩ := unhide HI
    clear HI
    by_cases hend : i ≤ n
    · have g3 : (i : Int) ≤ (n : Int) := by omega
      have HIN : Hid (i ≤ n ∧ n ≤ 40) := hide ⟨hend, by have := unhide HN0; have := unhide HBIG; omega⟩
      have HTL : Hid ((s0.ls.take i).length = i) := hide (by rw [List.length_take, unhide HLEN, unhide HN0]; omega)
      obtain ⟨y, hy⟩ : ∃ y, y = rootZ16 (s0.ls.take i) := ⟨_, rfl⟩
      have HYE := hide hy
      have hyl : Hs y := by rw [hy]; exact mroot_hs _ hT.hs
      have hsW := (unhide HS).later hb
      have hcut : (s0.cut 0 i s0.c).Ok wr := hsW.cut (by omega) (by have := unhide HN0; omega) (by have := unhide HLE; have := unhide HN0; omega) (Nat.le_refl _)
      have hr1 := root_ok (s0.cut 0 i s0.c) wr hcut hL (by have := unhide HIN; simp only [Hl.cut]; omega)
      rw [show (s0.cut 0 i s0.c).ls = s0.ls.take i from cut_left hsW i s0.c, ← hy] at hr1
      have HCK : Hid (∀ wq w' s3 ok3, CoR wq s0 i w' s3 ok3 → ok3 = true ∧ s3.Ok w' ∧ ckC i n y h s3.ls = true) := hide (by
        intro wq w' s3 ok3 hR
        have hin : isBg (i : Int) (s0.n : Int) = true := isBg_iff.2 (by have := unhide HIN; have := unhide HN0; omega)
        have e1 : ok3 = true := by rw [hR.is, hin]
        have := ckC_bridge (ls := s0.ls) (m := (i : Int)) (by rw [unhide HLEN]; exact hin)
        rw [unhide HLEN, unhide HN0, Int.toNat_natCast] at this
        refine ⟨e1, hR.at_, ?_⟩
        rw [hR.yes e1, hy, unhide HH, Int.toNat_natCast]; exact this)
      have hcs : ∀ wq, Below wr.heap.size wr wq → Ld wq → Calls Tryd.prog 23 #[.slice a n c, .int .i64 i] wq _ := fun wq hbq hLq => by
        have := cons_any s0 i wq (hsW.later hbq) hLq
        rw [unhide HV0] at this; exact this
      have hbr : Below wr.heap.size wr wr := Below.refl _ _
      have HSV := hide (unhide HV0).symm
      clear hy hend hle hcut
      go_upto_region 12 with (first
        | refine wpList_hlTo rfl (.tmp 29) (.tmp 30) rfl s0 (unhide HS) i (by have := unhide HIN; have := unhide HN0; omega) (unhide HSV) rfl ?_
        | (go_at_call 15; refine hr1.mono ?_; rintro e wa ⟨rfl, hb2⟩; replace hH := hH.later hb2; replace hT := hT.later hb2; replace hL := hL.later hb2; replace hD := hD.later hb2; replace hb := bnext hb hb.size hb2; replace hbr := bnext hbr hbr.size hb2; clear hb2 hr1)
        | (refine wpList_store_al rfl (.tmp 7) (.tmp 33) rfl hH y hyl.len _ rfl rfl rfl rfl ?_; intro wb hH3 hb3; replace hH := hH3; replace hb := bnext hb hb.size hb3; replace hT := hT.later hb3; replace hL := hL.later hb3; replace hD := hD.later hb3; replace hbr := bnext hbr hbr.size hb3; clear hb3 hH3)
        | (go_at_call 23; refine (hcs _ hbr hL).mono ?_; rintro e wc ⟨s3, ok3, hR5, rfl, hb5⟩; obtain ⟨rfl, hok3, hck⟩ := (unhide HCK) _ _ _ _ hR5; have HK3 := hide hck; replace hH := hH.later hb5; replace hT := hT.later hb5; replace hL := hL.later hb5; replace hD := hD.later hb5; replace hb := bnext hb hb.size hb5; clear hb5 hR5 hck hcs))
      generalize hb7e : wa.heap.size = b7 at hH ⊢
      clear hb7e hbr
      have hneq : ((i : Int) != (i : Int)) = false := by simp
      refine wp_region_noPanic ?_
      replace hb := bnext hb hb.size (drew_below _)
      replace hT := hT.later (drew_below _)
      replace hL := hL.later (drew_below _)
      replace hD := hD.later (drew_below _)
      replace hok3 := hok3.later (drew_below _)
      refine wp_region_held_drew (S := fun w9 => Hold [(b7, y), (b4, h)] w9) (by kernel_rfl) hH.drew (fun hHeld => ?_)
      generalize World.drew _ = v1 at hHeld hb hT hL hD hok3 ⊢
      clear hH
      refine wpAnyH_take (i := 0) (oi := _) (v := .bool true) rfl (by kernel_rfl) (by kernel_rfl) (by kernel_rfl) (fun _ _ _ h => h) (Or.inl ⟨by rfl, fun w hSw => by go_simp⟩) hHeld ?_
      simp [Act.put]
      refine wpAnyH_take (i := 1) (oi := _) (v := .bool false) rfl (by kernel_rfl) (by kernel_rfl) (by kernel_rfl) (fun _ _ _ h => h) (Or.inl ⟨by rfl, fun w hSw => by go_simp⟩) hHeld ?_
      simp [Act.put]
      refine wpAnyH_take (i := 2) (oi := _) (v := .bool false) rfl (by kernel_rfl) (by kernel_rfl) (by kernel_rfl) (fun _ _ _ h => h) (Or.inl ⟨by rfl, fun w hSw => by go_simp⟩) hHeld ?_
      simp [Act.put]
      refine wpAnyH_take (i := 3) (oi := _) (v := .bool true) rfl (by kernel_rfl) (by kernel_rfl) (by kernel_rfl) (fun _ _ _ h => h) (Or.inl ⟨by rfl, fun w hSw => by go_simp⟩) hHeld ?_
      simp [Act.put]
      refine wpAnyH_take (i := 4) (oi := _) (v := .bool false) rfl (by kernel_rfl) (by kernel_rfl) (by kernel_rfl) (fun _ _ _ h => h) (Or.inl ⟨by rfl, fun w hSw => by go_simp⟩) hHeld ?_
      simp [Act.put]
      refine wpAnyH_take (i := 5) (oi := _) (v := .bool false) rfl (by kernel_rfl) (by kernel_rfl) (by kernel_rfl) (fun _ _ _ h => h) (Or.inl ⟨by rfl, fun w hSw => by go_simp⟩) hHeld ?_
      simp [Act.put]
      refine wpAnyH_take (i := 6) (oi := _) (v := .bool false) rfl (by kernel_rfl) (by kernel_rfl) (by kernel_rfl) (fun _ _ _ h => h) (Or.inl ⟨by rfl, fun w hSw => by go_simp⟩) hHeld ?_
      simp [Act.put]
      refine wpAnyH_take (i := 7) (oi := _) (v := .pointer (some ⟨p, 0, none⟩)) rfl (by kernel_rfl) (by kernel_rfl) (by kernel_rfl) (fun _ _ _ h => h) (Or.inl ⟨by rfl, fun w hSw => by go_simp⟩) hHeld ?_
      simp [Act.put]
      refine wpAnyH_take (i := 9) (oi := _) (v := .int .i64 (i : Int)) rfl (by kernel_rfl) (by kernel_rfl) (by kernel_rfl) (fun _ _ _ h => h) (Or.inl ⟨by rfl, fun w hSw => by go_simp⟩) hHeld ?_
      simp [Act.put]
      refine wpAnyH_ready (rs := [8]) (by kernel_rfl) (by simp) ?_
      refine AllReadyH.cons rfl (fun K hKK => ?_) AllReadyH.nil
      go_simp
      refine (hT.sizeC).mono ?_
      rintro e v7 ⟨rfl, hv7⟩
      obtain rfl := hv7.symm
      rw [unhide HTL]
      refine hKK.out _ _ hHeld (fun hHeld => ?_)
      clear hKK K
      refine wpAnyH_take (i := 10) (oi := _) (v := .bool false) rfl (by kernel_rfl) (by kernel_rfl) (by kernel_rfl) (fun _ _ _ h => h) (Or.inl ⟨by rfl, fun w hSw => by go_simp⟩) hHeld ?_
      simp [Act.put]
      refine wpAnyH_take (i := 11) (oi := _) (v := .bool false) rfl (by kernel_rfl) (by kernel_rfl) (by kernel_rfl) (fun _ _ _ h => h) (Or.inl ⟨by rfl, fun w hSw => by go_simp⟩) hHeld ?_
      simp [Act.put]
      refine wpAnyH_take (i := 12) (oi := _) (v := .bool false) rfl (by kernel_rfl) (by kernel_rfl) (by kernel_rfl) (fun _ _ _ h => h) (Or.inl ⟨by rfl, fun w hSw => by go_simp⟩) hHeld ?_
      simp [Act.put]
      refine wpAnyH_take (i := 13) (oi := _) (v := .pointer (some ⟨p, 0, none⟩)) rfl (by kernel_rfl) (by kernel_rfl) (by kernel_rfl) (fun _ _ _ h => h) (Or.inl ⟨by rfl, fun w hSw => by go_simp⟩) hHeld ?_
      simp [Act.put]
      refine wpAnyH_take (i := 15) (oi := _) (v := hV y) rfl (by kernel_rfl) (by kernel_rfl) (by kernel_rfl) (fun _ _ _ h => h) (yields_hs (by kernel_rfl) (.tmp 7) rfl b7 y (by simp) hyl.len rfl) hHeld ?_
      simp [Act.put]
      refine wpAnyH_ready (rs := [14]) (by kernel_rfl) (by simp) ?_
      refine AllReadyH.cons rfl (fun K hKK => ?_) AllReadyH.nil
      go_simp
      refine (troot_any _ p (s0.ls.take i) hT hL hD (by rw [unhide HTL]; have := unhide HIN; omega)).mono ?_
      rintro e va ⟨rfl, hb8⟩
      rw [← unhide HYE]
      replace hb := bnext hb hb.size hb8
      replace hT := hT.later hb8
      replace hL := hL.later hb8
      replace hD := hD.later hb8
      replace hok3 := hok3.later hb8
      refine hKK.out _ _ (hHeld.later hb8) (fun hHeld => ?_)
      clear hKK K hb8
      refine wpAnyH_take (i := 16) (oi := _) (v := .bool (!true)) rfl (by kernel_rfl) (by kernel_rfl) (by kernel_rfl) (fun _ _ _ h => h) (yields_neH (by kernel_rfl) (.tmp 55) (.tmp 56) rfl y y hyl.len hyl.len true (by simp) rfl rfl) hHeld ?_
      simp [Act.put]
      refine wpAnyH_take (i := 17) (oi := _) (v := .bool false) rfl (by kernel_rfl) (by kernel_rfl) (by kernel_rfl) (fun _ _ _ h => h) (Or.inl ⟨by rfl, fun w hSw => by go_simp⟩) hHeld ?_
      simp [Act.put]
      refine wpAnyH_take (i := 18) (oi := _) (v := .bool false) rfl (by kernel_rfl) (by kernel_rfl) (by kernel_rfl) (fun _ _ _ h => h) (Or.inl ⟨by rfl, fun w hSw => by go_simp⟩) hHeld ?_
      simp [Act.put]
      refine wpAnyH_take (i := 19) (oi := _) (v := .int .i64 (i : Int)) rfl (by kernel_rfl) (by kernel_rfl) (by kernel_rfl) (fun _ _ _ h => h) (Or.inl ⟨by rfl, fun w hSw => by go_simp⟩) hHeld ?_
      simp [Act.put]
      refine wpAnyH_take (i := 20) (oi := _) (v := .slice a n c) rfl (by kernel_rfl) (by kernel_rfl) (by kernel_rfl) (fun _ _ _ h => h) (Or.inl ⟨by rfl, fun w hSw => by go_simp⟩) hHeld ?_
      simp [Act.put]
      refine wpAnyH_take (i := 21) (oi := _) (v := .int .i64 (n : Int)) rfl (by kernel_rfl) (by kernel_rfl) (by kernel_rfl) (fun _ _ _ h => h) (Or.inl ⟨by rfl, fun w hSw => by go_simp⟩) hHeld ?_
      simp [Act.put]
      refine wpAnyH_take (i := 22) (oi := _) (v := .pointer (some ⟨p, 0, none⟩)) rfl (by kernel_rfl) (by kernel_rfl) (by kernel_rfl) (fun _ _ _ h => h) (Or.inl ⟨by rfl, fun w hSw => by go_simp⟩) hHeld ?_
      simp [Act.put]
      refine wpAnyH_take (i := 24) (oi := _) (v := hV h) rfl (by kernel_rfl) (by kernel_rfl) (by kernel_rfl) (fun _ _ _ h => h) (yields_hs (by kernel_rfl) (.tmp 4) rfl b4 h (by simp) hhl.len rfl) hHeld ?_
      simp [Act.put]
      refine wpAnyH_take (i := 25) (oi := _) (v := s3.v) rfl (by kernel_rfl) (by kernel_rfl) (by kernel_rfl) (fun _ _ _ h => h) (Or.inl ⟨by rfl, fun w hSw => by go_simp⟩) hHeld ?_
      simp [Act.put]
      refine wpAnyH_ready (rs := [23]) (by kernel_rfl) (by simp) ?_
      refine AllReadyH.cons rfl (fun K hKK => ?_) AllReadyH.nil
      go_simp
      refine (troot_any _ p (s0.ls.take i) hT hL hD (by rw [unhide HTL]; have := unhide HIN; omega)).mono ?_
      rintro e vb ⟨rfl, hb8⟩
      rw [← unhide HYE]
      replace hb := bnext hb hb.size hb8
      replace hT := hT.later hb8
      replace hL := hL.later hb8
      replace hD := hD.later hb8
      replace hok3 := hok3.later hb8
      refine hKK.out _ _ (hHeld.later hb8) (fun hHeld => ?_)
      clear hKK K hb8
      refine wpAnyH_ready (rs := [26]) (by kernel_rfl) (by simp) ?_
      refine AllReadyH.cons rfl (fun K hKK => ?_) AllReadyH.nil
      go_simp
      refine (checkC_any i n y h s3 _ hyl hhl hok3 hL).mono ?_
      rintro e vc ⟨rfl, hb8⟩
      rw [unhide HK3]
      replace hb := bnext hb hb.size hb8
      replace hT := hT.later hb8
      replace hL := hL.later hb8
      replace hD := hD.later hb8
      replace hok3 := hok3.later hb8
      refine hKK.out _ _ (hHeld.later hb8) (fun hHeld => ?_)
      clear hKK K hb8
      refine wpAnyH_take (i := 27) (oi := _) (v := .bool false) rfl (by kernel_rfl) (by kernel_rfl) (by kernel_rfl) (fun _ _ _ h => h) (Or.inl ⟨by rfl, fun w hSw => by go_simp⟩) hHeld ?_
      simp [Act.put]
      refine wpAnyH_take (i := 28) (oi := _) (v := .bool false) rfl (by kernel_rfl) (by kernel_rfl) (by kernel_rfl) (fun _ _ _ h => h) (Or.inl ⟨by rfl, fun w hSw => by go_simp⟩) hHeld ?_
      simp [Act.put]
      refine wpAnyH_done (by kernel_rfl) ?_ _
      unfold NoPanic
      replace hH := hHeld
      clear hHeld hok3
      replace hH := hH.mono (rows' := [(b4, h)]) (by simp)
      replace hsW := (unhide HS).later hb
      have hw1 : IntKind.i64.wrap ((i : Int) + 1) = ((i + 1 : Nat) : Int) := by rw [IntKind.wrap_i64]; have := unhide HIN; omega
      obtain ⟨i1, hi1⟩ : ∃ i1, i1 = i + 1 := ⟨_, rfl⟩
      rw [← hi1] at hw1
      have HI1 := hide hi1
      clear hi1
      by_cases hlast : i < n
      · have g4 : (i : Int) < (n : Int) := by omega
        have hil : i < s0.ls.length := by rw [unhide HLEN, unhide HN0]; exact hlast
        obtain ⟨x, hx⟩ : ∃ x, s0.ls[i]? = some x := ⟨_, List.getElem?_eq_getElem hil⟩
        obtain ⟨b, off, ha, hbl, hX, hxh⟩ := hsW.at_ hx
        have haa : a = some ⟨b, off, none⟩ := by rw [← ha, unhide HS0]
        subst haa
        have htk : s0.ls.take i ++ [x] = s0.ls.take i1 := by rw [unhide HI1, List.take_add_one, hx]; rfl
        have hap := tappend_any vc p (s0.ls.take i) x hxh hT (by rw [unhide HTL]; have := unhide HIN; omega) hL
        rw [htk] at hap
        have HSS := hide (And.intro hH (And.intro hL (And.intro hD hb)))
        clear hlast hil hx ha hbl htk hT hL hD hb hH hsW hneq
        go_wp2_with (first
          | refine wpList_load_hm (.tmp 78) rfl (by kernel_rfl) b (off + i * 32) x hxh.len hX rfl ?_
          | (go_at_call 11; refine hap.mono ?_; rintro e wd ⟨rfl, hT3, hb3⟩; have HT3 := hide hT3; have HB3 := hide hb3; clear hT3 hb3))
        go_roundw
        case rel =>
          obtain ⟨h0, h1, h2, h3⟩ := unhide HSS
          have hlt := unhide HLt
          have hpe := unhide HP
          refine ⟨i1, rfl, hide ⟨by have := unhide HI1; have := unhide HIN; omega, unhide HT3, fun q hq => (unhide HB3).arr (h0 q hq) (by simp at hq; subst hq; exact Ne.symm (unhide HPB)), h1.but16 (unhide HB3) (by omega), h2.but16 (unhide HB3) (by omega), ?_⟩⟩
          exact h3.trans ((unhide HB3).below h3.size (by omega))
        case measure => have h9 := unhide HI1; have h8 := unhide HIN; simp [intOf]; omega
      · have g4 : decide ((i : Int) < (n : Int)) = false := decide_eq_false (by omega)
        have g5 : decide (i < n) = false := decide_eq_false hlast
        have HST : Hid (i1 ≤ n + 1 ∧ TrO vc p (s0.ls.take i1) ∧ Hold [(b4, h)] vc ∧ Ld vc ∧ D6Laid vc ∧ Below w.heap.size w vc) := hide ⟨by have := unhide HI1; have := unhide HIN; omega, by
          have e1 : s0.ls.take i1 = s0.ls.take i := by
            rw [List.take_of_length_le (by rw [unhide HLEN, unhide HN0]; have := unhide HI1; omega), List.take_of_length_le (by rw [unhide HLEN, unhide HN0]; omega)]
          rw [e1]; exact hT, hH, hL, hD, hb⟩
        clear hlast hT hL hD hb hH hsW hneq
        go_wp2
        go_roundw
        case rel => exact ⟨i1, rfl, hide (unhide HST)⟩
        case measure => have h9 := unhide HI1; have h8 := unhide HIN; simp [intOf]; omega
    · have g3 : decide ((i : Int) ≤ (n : Int)) = false := decide_eq_false (by omega)
      have g4 : decide (i ≤ n) = false := decide_eq_false hend
      clear hT hH hL hD
      go_wp2
      go_ret
      exact ⟨rfl, hb⟩
end Go.Proofs.YtaidncibndcbfaaDoor
