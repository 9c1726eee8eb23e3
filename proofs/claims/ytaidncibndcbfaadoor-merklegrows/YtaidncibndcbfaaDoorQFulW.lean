import Derived.Test.YtaidncibndcbfaaDoorQTrtW
import Derived.Test.YtaidncibndcbfaaDoorQRtsW
set_option linter.unusedVariables false
namespace Go.Proofs.YtaidncibndcbfaaDoor
open Go.RowKit

theorem Ld.but16 {w w' : World} {g : Nat} (h : Ld w) (hb : But g w w') (hg : 3 < g ∧ 0 < g) : Ld w' := ⟨h.1.but hb (by omega), h.2.but hb (by omega)⟩
theorem D6Laid.but16 {w w' : World} {g : Nat} (h : D6Laid w) (hb : But g w w') (hg : 2 < g) : D6Laid w' := fun i hi => (hb.cell (p := ⟨2, i, none⟩) h.lt (show 2 ≠ g by omega)).trans (h i hi)
theorem TrO.new (w w' : World) (p : Nat) (h : Tre w' p 0 (fun _ => zeroH)) : TrO w' p [] := ⟨⟨_, h, Peaks.nil _ _ _⟩, fun l hl => by cases hl⟩
theorem TrO.sizeC {w : World} {p : Nat} {ls : List (List Int)} (h : TrO w p ls) : Calls Tryd.prog 10 #[.pointer (some ⟨p, 0, none⟩)] w fun e w' => e = .returned (.int .i64 ls.length) ∧ w' = w := by
  obtain ⟨pk, h1, -⟩ := h.ex
  exact tsize_any w p _ pk h1
def twoH (a b : Int) : List Int := a :: b :: List.replicate 30 0
theorem twoH_hs {a b : Int} (ha : 0 ≤ a ∧ a ≤ 255) (hb : 0 ≤ b ∧ b ≤ 255) : Hs (twoH a b) := by
  refine ⟨rfl, fun z hz => ?_⟩
  unfold twoH at hz
  rcases List.mem_cons.1 hz with rfl | hz
  · exact ha
  rcases List.mem_cons.1 hz with rfl | hz
  · exact hb
  · have := List.eq_of_mem_replicate hz; omega
theorem Tryd.two (a b : Int) : Tryd.prog.built 27 [(0, .int .u8 a), (1, .int .u8 b)] = some (U8 (twoH a b)).toArray := by kernel_rfl
theorem wpList_two {ops : Array Oper} {rest : List Oper} {o : Oper} {a : Act} {w : World} {Q : Exit → Act → World → Prop} (hw : Region.wanted o (yielded ops a.tmps) = true) (x y : Operand) (ho : o.op = .build 27 #[(0, x), (1, y)])
    (p q : Int) (hx : a.eval x = .int .u8 p) (hy : a.eval y = .int .u8 q) (h : wpList Tryd.prog ops Q rest (a.put o.dst (hV (twoH p q))) w) : wpList Tryd.prog ops Q (o :: rest) a w := by
  refine wpList_val (hV (twoH p q)) hw ?_ h
  have hrun := run_build (P := Tryd.prog) w 27 #[(0, .int .u8 p), (1, .int .u8 q)] (U8 (twoH p q)).toArray (Tryd.two p q)
  simp [execOp, ho, hx, hy, hrun, Result.andThen]
  rfl
theorem u8_bd (z : Int) : 0 ≤ IntKind.u8.wrap z ∧ IntKind.u8.wrap z ≤ 255 := by
  first | (rw [IntKind.wrap_u8]; omega) | (rw [IntKind.wrap_u8']; omega)

set_option maxHeartbeats 8000000 in
set_option maxRecDepth 100000 in
theorem full_law (w : World) (hL : Ld w) (hD : D6Laid w) :
    Calls Tryd.prog 3 #[] w fun e w' => e = .returned (.bool true) ∧ Below w.heap.size w w' := by
  have hnew := tnew_any w
  have HLt : Hid ((3 < w.heap.size ∧ 0 < w.heap.size) ∧ 2 < w.heap.size) := hide ⟨hL.lt16, hD.lt⟩
  go_enter Tryd.func3, Tryd.ntmps3
  go_wp2_with (go_at_call 9; refine hnew.mono ?_; rintro e w1 ⟨rfl, hT, hb⟩; replace hL := hL.later hb; replace hD := hD.later hb; clear hnew)
  obtain ⟨p, hp⟩ : ∃ p, p = w.heap.size := ⟨_, rfl⟩
  rw [← hp] at hT ⊢
  have HP := hide hp
  have hst : Hid (TrO w1 p [] ∧ Ld w1 ∧ D6Laid w1 ∧ Below w.heap.size w w1) := hide ⟨TrO.new w w1 p hT, hL, hD, hb⟩
  clear hp hT hL hD hb
  go_loopw [2] (fun iv wr => ∃ ls : List (List Int), iv = .int .i64 (ls.length : Int) ∧ Hid (ls.length ≤ 65536 ∧ TrO wr p ls ∧ Ld wr ∧ D6Laid wr ∧ Below w.heap.size w wr)) (fun iv _ => 65536 - (intOf iv).toNat)
  case atStart =>
    obtain ⟨h1, h2⟩ := unhide hst
    exact ⟨[], rfl, hide ⟨by simp, h1, h2⟩⟩
  case round =>
    clear hst
    obtain ⟨ls, rfl, HI⟩ := hrel
    obtain ⟨hle, hT, hL, hD, hb⟩ := unhide HI
    clear HI
    obtain ⟨i, hi⟩ : ∃ i, i = ls.length := ⟨_, rfl⟩
    have hsz := hT.sizeC
    rw [← hi] at hsz hle ⊢
    have HLL := hide hi
    by_cases hend : i < 65536
    · have g1 : (i : Int) < 65536 := by omega
      have g2 : decide (i < 65536) = true := decide_eq_true hend
      have hw1 : IntKind.i64.wrap ((i : Int) + 1) = ((i + 1 : Nat) : Int) := by rw [IntKind.wrap_i64]; omega
      obtain ⟨a, ha⟩ : ∃ a, a = IntKind.u8.wrap (i : Int) := ⟨_, rfl⟩
      obtain ⟨k2, hk2⟩ : ∃ k2 : Nat, k2 = i / 256 := ⟨_, rfl⟩
      obtain ⟨b, hbb⟩ : ∃ b, b = wrap64 (k2 : Int) % 256 := ⟨_, rfl⟩
      have HBB := hide hbb
      have hq : (i : Int) / 256 = (k2 : Int) := by omega
      have hq2 : Int.tdiv (i : Int) 256 = (k2 : Int) := by rw [Int.tdiv_eq_ediv_of_nonneg (by omega)]; exact hq
      have hls2 : Hs (twoH a b) := twoH_hs (by rw [ha]; exact u8_bd _) (by rw [hbb]; omega)
      have hap := tappend_any wr p ls (twoH a b) hls2 hT (by omega) hL
      have ha' := ha.symm
      obtain ⟨i1, hi1⟩ : ∃ i1, i1 = i + 1 := ⟨_, rfl⟩
      rw [← hi1] at hw1
      have HI1 : Hid (i1 = i + 1 ∧ i1 = (ls ++ [twoH a b]).length ∧ i1 ≤ 65536) := hide ⟨hi1, by rw [hi1, hi]; simp, by omega⟩
      have HSS := hide (And.intro hL (And.intro hD hb))
      have hneq : ((i : Int) != (i : Int)) = false := by simp
      clear hend hle hi ha hbb hk2 hi1 hT hL hD hb hq
      go_wp2_with (first
        | (go_at_call 10; refine hsz.mono ?_; rintro e w2 ⟨rfl, hw2⟩; obtain rfl := hw2.symm)
        | (refine wpList_two (by kernel_rfl) (.tmp 18) (.tmp 21) rfl a (wrap64 (k2 : Int) % 256) rfl rfl ?_; rw [← unhide HBB])
        | (go_at_call 11; refine hap.mono ?_; rintro e w3 ⟨rfl, hT3, hb3⟩; have HT3 := hide hT3; have HB3 := hide hb3; clear hT3 hb3))
      go_roundw
      case rel =>
        obtain ⟨h1, h2, h3⟩ := unhide HSS
        have hlt := unhide HLt
        have hpe := unhide HP
        refine ⟨ls ++ [twoH a b], by rw [← (unhide HI1).2.1], hide ⟨by rw [← (unhide HI1).2.1]; exact (unhide HI1).2.2, unhide HT3, h1.but16 (unhide HB3) (by omega), h2.but16 (unhide HB3) (by omega), ?_⟩⟩
        exact h3.trans ((unhide HB3).below h3.size (by omega))
      case measure => have h9 := unhide HI1; simp [intOf]; omega
    · have hie : i = 65536 := by omega
      subst hie
      obtain ⟨h, hh⟩ : ∃ h, h = rootZ16 ls := ⟨_, rfl⟩
      have hhl : Hs h := by rw [hh]; exact mroot_hs _ hT.hs
      have hrt := troot_any wr p ls hT hL hD (by omega)
      rw [← hh] at hrt
      have HHE := hide hh
      replace HLL : Hid (ls.length = 65536) := hide hi.symm
      clear hend hle hh hsz hi
      have hH : Hold [] wr := fun p hp => by cases hp
      go_upto_region 10 with (first
        | (go_at_call 12; refine hrt.mono ?_; rintro e w2 ⟨rfl, hb2⟩; replace hH := hH.later hb2; replace hT := hT.later hb2; replace hL := hL.later hb2; replace hD := hD.later hb2; replace hb := bnext hb hb.size hb2; clear hb2 hrt)
        | (refine wpList_store_al rfl (.tmp 3) (.tmp 27) rfl hH h hhl.len _ rfl rfl rfl rfl ?_; intro w3 hH3 hb3; replace hH := hH3; replace hb := bnext hb hb.size hb3; replace hT := hT.later hb3; replace hL := hL.later hb3; replace hD := hD.later hb3; clear hb3 hH3))
      generalize hb3e : w2.heap.size = b3 at hH ⊢
      clear hb3e
      replace hb := bnext hb hb.size (drew_below _)
      replace hT := hT.later (drew_below _)
      replace hL := hL.later (drew_below _)
      replace hD := hD.later (drew_below _)
      refine wp_region_held_drew (S := fun w9 => Hold [(b3, h)] w9) (by kernel_rfl) hH.drew (fun hHeld => ?_)
      generalize World.drew _ = v1 at hHeld hb hT hL hD ⊢
      refine wpAnyH_take (i := 0) (oi := _) (v := .pointer (some ⟨p, 0, none⟩)) rfl (by kernel_rfl) (by kernel_rfl) (by kernel_rfl) (fun _ _ _ h => h) (Or.inl ⟨by rfl, fun w hSw => by go_simp⟩) hHeld ?_
      simp [Act.put]
      refine wpAnyH_take (i := 1) (oi := _) (v := hV zeroH) rfl (by kernel_rfl) (by kernel_rfl) (by kernel_rfl) (fun _ _ _ h => h) (yields_zero (by kernel_rfl) rfl) hHeld ?_
      simp [Act.put]
      refine wpAnyH_ready (rs := [2]) (by kernel_rfl) (by simp) ?_
      refine AllReadyH.cons rfl (fun K hKK => ?_) AllReadyH.nil
      go_simp
      obtain ⟨pk, hTp, hPp⟩ := hT.ex
      refine (tfull_any _ p _ pk zeroH zeroH_hs hTp (by rw [unhide HLL]; exact Nat.le_refl _) (by rw [unhide HLL]; omega)).mono ?_
      rintro e v6 ⟨rfl, hb6⟩
      replace hb := bnext hb hb.size hb6
      replace hT := hT.later hb6
      replace hL := hL.later hb6
      replace hD := hD.later hb6
      refine hKK.out _ _ (hHeld.later hb6) (fun hHeld => ?_)
      clear hKK K hb6 hTp hPp pk
      refine wpAnyH_take (i := 3) (oi := _) (v := .bool true) rfl (by kernel_rfl) (by kernel_rfl) (by kernel_rfl) (fun _ _ _ h => h) (Or.inl ⟨by rfl, fun w hSw => by go_simp⟩) hHeld ?_
      simp [Act.put]
      refine wpAnyH_take (i := 4) (oi := _) (v := .bool true) rfl (by kernel_rfl) (by kernel_rfl) (by kernel_rfl) (fun _ _ _ h => h) (Or.inl ⟨by rfl, fun w hSw => by go_simp⟩) hHeld ?_
      simp [Act.put]
      refine wpAnyH_take (i := 5) (oi := _) (v := .pointer (some ⟨p, 0, none⟩)) rfl (by kernel_rfl) (by kernel_rfl) (by kernel_rfl) (fun _ _ _ h => h) (Or.inl ⟨by rfl, fun w hSw => by go_simp⟩) hHeld ?_
      simp [Act.put]
      refine wpAnyH_ready (rs := [6]) (by kernel_rfl) (by simp) ?_
      refine AllReadyH.cons rfl (fun K hKK => ?_) AllReadyH.nil
      go_simp
      obtain ⟨pk, hTp, hPp⟩ := hT.ex
      refine (tsize_any _ p _ pk hTp).mono ?_
      rintro e v7 ⟨rfl, hv7⟩
      obtain rfl := hv7.symm
      rw [unhide HLL]
      refine hKK.out _ _ hHeld (fun hHeld => ?_)
      clear hKK K hTp hPp pk
      refine wpAnyH_take (i := 7) (oi := _) (v := .bool true) rfl (by kernel_rfl) (by kernel_rfl) (by kernel_rfl) (fun _ _ _ h => h) (Or.inl ⟨by rfl, fun w hSw => by go_simp⟩) hHeld ?_
      simp [Act.put]
      refine wpAnyH_take (i := 8) (oi := _) (v := .bool true) rfl (by kernel_rfl) (by kernel_rfl) (by kernel_rfl) (fun _ _ _ h => h) (Or.inl ⟨by rfl, fun w hSw => by go_simp⟩) hHeld ?_
      simp [Act.put]
      refine wpAnyH_take (i := 9) (oi := _) (v := .bool true) rfl (by kernel_rfl) (by kernel_rfl) (by kernel_rfl) (fun _ _ _ h => h) (Or.inl ⟨by rfl, fun w hSw => by go_simp⟩) hHeld ?_
      simp [Act.put]
      refine wpAnyH_take (i := 10) (oi := _) (v := .pointer (some ⟨p, 0, none⟩)) rfl (by kernel_rfl) (by kernel_rfl) (by kernel_rfl) (fun _ _ _ h => h) (Or.inl ⟨by rfl, fun w hSw => by go_simp⟩) hHeld ?_
      simp [Act.put]
      refine wpAnyH_take (i := 12) (oi := _) (v := hV h) rfl (by kernel_rfl) (by kernel_rfl) (by kernel_rfl) (fun _ _ _ h => h) (yields_hs (by kernel_rfl) (.tmp 3) rfl b3 h (by simp) hhl.len rfl) hHeld ?_
      simp [Act.put]
      refine wpAnyH_ready (rs := [11]) (by kernel_rfl) (by simp) ?_
      refine AllReadyH.cons rfl (fun K hKK => ?_) AllReadyH.nil
      go_simp
      refine (troot_any _ p ls hT hL hD (by rw [unhide HLL]; exact Nat.le_refl _)).mono ?_
      rintro e v8 ⟨rfl, hb8⟩
      rw [← unhide HHE]
      replace hb := bnext hb hb.size hb8
      refine hKK.out _ _ (hHeld.later hb8) (fun hHeld => ?_)
      clear hKK K hb8
      refine wpAnyH_take (i := 13) (oi := _) (v := .bool true) rfl (by kernel_rfl) (by kernel_rfl) (by kernel_rfl) (fun _ _ _ h => h) (yields_eqH (by kernel_rfl) (.tmp 39) (.tmp 40) rfl h h hhl.len hhl.len true (by simp) rfl rfl) hHeld ?_
      simp [Act.put]
      refine wpAnyH_take (i := 14) (oi := _) (v := .bool true) rfl (by kernel_rfl) (by kernel_rfl) (by kernel_rfl) (fun _ _ _ h => h) (Or.inl ⟨by rfl, fun w hSw => by go_simp⟩) hHeld ?_
      simp [Act.put]
      refine wpAnyH_take (i := 15) (oi := _) (v := .bool true) rfl (by kernel_rfl) (by kernel_rfl) (by kernel_rfl) (fun _ _ _ h => h) (Or.inl ⟨by rfl, fun w hSw => by go_simp⟩) hHeld ?_
      simp [Act.put]
      refine wpAnyH_done (by kernel_rfl) ?_ _
      go_wp2
      go_ret
      exact ⟨rfl, hb⟩
end Go.Proofs.YtaidncibndcbfaaDoor
