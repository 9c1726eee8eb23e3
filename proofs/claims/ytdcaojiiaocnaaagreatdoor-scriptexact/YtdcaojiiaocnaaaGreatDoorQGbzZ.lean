import Derived.Test.YtdcaojiiaocnaaaGreatDoorQPlW25
import Derived.Test.YtdcaojiiaocnaaaGreatDoorQSoS25
import Derived.Test.YtdcaojiiaocnaaaGreatDoorQGbwZ
import Derived.Test.YtdcaojiiaocnaaaGreatDoorQShhW
import Derived.Deep.DeepCutAuto
import Derived.Deep.QuietTactic
import Derived.BigQuiet
import Derived.Test.YtdcaojiiaocnaaaGreatDoorQGbgZ
import Derived.Test.YtdcaojiiaocnaaaGreatDoorTie
import Derived.Test.YtdcaojiiaocnaaaGreatDoorCards
import Derived.SevenTiedAt
import Derived.Deep.DeepHandedRow
import Derived.Deep.DeepWitnessRowRef
set_option linter.unusedSimpArgs false
set_option linter.unusedVariables false
namespace Go.Proofs.YtdcaojiiaocnaaaGreatDoor
open Go.RowKit

theorem b_sh25 : Tryz.prog.built 26 [] = some (shC (.slice none 0 0) (.slice none 0 0)).toArray := by kernel_rfl
theorem StF.le {w0 w : World} {gS N N' : Nat} {A rest : List Row} {K : World → Prop} (h : StF w0 gS N A rest K w) (hN : N ≤ N') : StF w0 gS N' A rest K w := by
  obtain ⟨TT, K0, ⟨its, L, W, RL, RW, h1, h2⟩, h3⟩ := h
  exact ⟨TT, K0, ⟨its, L, W, RL, RW, Nat.le_trans h1 hN, h2⟩, h3⟩
set_option maxHeartbeats 4000000 in
set_option maxRecDepth 100000 in
theorem exact25_law (s : Sx Stp25) (w : World) (hs : s.Ok s25C 10 w) (hso : ∀ y ∈ s.xs, y.Ok w) (hb : s.n ≤ 1048576) (hP : Pk25 w) :
    Calls Tryz.prog 3 #[s.v] w fun e w' => e = .returned (.bool true) ∧ Below w.heap.size w w' := by
  obtain ⟨sa, sn, sc, sx⟩ := s
  have HL := hide hs.len
  have hS := Hs17.begin w (fun w' => Pk25 w' ∧ Sx.Ok s25C 10 w' ⟨sa, sn, sc, sx⟩ ∧ ∀ y ∈ sx, y.Ok w') (fun w' ho => ⟨pk_old hP ho, hs.old ho, fun y hy => (hso y hy).old ho⟩)
  simp only [Sx.v]
  simp only at hb
  clear hs hso hP
  go_enter Tryz.func3, Tryz.ntmps3
  go_upto_region 1 with fail
  refine wp_region_lit ?_
  refine wv (aV (shC (.slice none 0 0) (.slice none 0 0))) (by kernel_rfl) (ex_build 26 #[] rfl (shC (.slice none 0 0) (.slice none 0 0)) b_sh25 rfl) ?_
  simp [Act.put]
  refine wl_box (by kernel_rfl) 26 (.tmp 6) rfl (shC (.slice none 0 0) (.slice none 0 0)) rfl hS ?_
  clear hS
  intro gS w1 hS
  simp [Act.put]
  refine wl (by kernel_rfl) fun kQ hkQ => ?_
  go_simp
  refine hkQ _ _ ?_
  clear hkQ kQ
  refine wpList_nil ?_
  have hSh0 : ShS w gS [] ([] ++ []) (fun w' => Pk25 w' ∧ Sx.Ok s25C 10 w' ⟨sa, sn, sc, sx⟩ ∧ ∀ y ∈ sx, y.Ok w') ⟨none, 0, 0, []⟩ ⟨none, 0, 0, []⟩ [] [] _ := ⟨⟨rfl, .inl ⟨rfl, rfl, rfl, rfl⟩⟩, ⟨rfl, .inl ⟨rfl, rfl, rfl, rfl⟩⟩, hS.weak (fun w h => ⟨h, fun it h2 => by cases h2⟩), fun it h2 => by cases h2⟩
  have hT0 : StF w gS (0 * 16391) [] [] (fun w' => Pk25 w' ∧ Sx.Ok s25C 10 w' ⟨sa, sn, sc, sx⟩ ∧ ∀ y ∈ sx, y.Ok w') _ := hSh0.stf (by simp)
  clear hS hSh0
  have e2 : IntKind.i64.wrap (2 * (sn : Int)) = ((2 * sn : Nat) : Int) := by rw [IntKind.wrap_i64]; omega
  obtain ⟨M, hM⟩ : ∃ M, M = 2 * sn := ⟨_, rfl⟩
  rw [← hM] at e2
  have HM := hide hM
  have hMm : M ≤ 2097152 := by omega
  clear hM
  go_wp2_with fail
  go_loopw [4] (fun vk wr => ∃ u : Nat, u ≤ M ∧ vk = .int .i64 u ∧ Hid (StF w gS (u * 16391) [] [] (fun w' => Pk25 w' ∧ Sx.Ok s25C 10 w' ⟨sa, sn, sc, sx⟩ ∧ ∀ y ∈ sx, y.Ok w') wr)) (fun vk _ => M - (intOf vk).toNat)
  case atStart => exact ⟨0, by omega, rfl, hide hT0⟩
  case round =>
    clear hT0
    obtain ⟨u, hk, rfl, HS⟩ := hrel
    by_cases hlt : u < M
    · have hkz : (u : Int) < (M : Int) := by omega
      have hsn0 : 0 < sn := by have := unhide HM; omega
      have hmod : u % sn < sn := Nat.mod_lt _ hsn0
      obtain ⟨j, hj⟩ : ∃ j, j = u % sn := ⟨_, rfl⟩
      have et4 : (u : Int) % (sn : Int) = (j : Int) := by rw [hj]; rfl
      have hne : ¬ ((sn : Int) = 0) := by omega
      have hne2 : ¬ (sn = 0) := by omega
      rw [← hj] at hmod
      clear hj
      obtain ⟨y, hy⟩ : ∃ y, sx[j]? = some y := ⟨_, List.getElem?_eq_getElem (by have := unhide HL; omega)⟩
      obtain ⟨TT, TK, hF, hS0⟩ := unhide HS
      have hS : Hs17 w TT TK wr := hS0
      clear hS0
      have hk0 := hF.k hS.K
      obtain ⟨b, off, hsa, -, hrg⟩ := hk0.2.1.at_ (i := j) hy
      have hym : y ∈ sx := List.mem_of_getElem? hy
      have hoo := hk0.2.2 y hym
      have HYM := hide hym
      have HIL : Hid (u * 16391 ≤ 3800000000000) := hide (by omega)
      have hsa' : sa = some ⟨b, off, none⟩ := hsa
      subst hsa'
      clear hsa
      have hrg2 : ∀ v : World, TK v → ∀ (b2 off2 : Nat), b2 = b → off2 = off → _ := fun v hv b2 off2 h1 h2 => (hF.k hv).2.1.at_ (i := j) hy
      clear hrg2
      have HF := hide hF
      have HX := hide hoo
      clear hk0 hF hym hoo
      obtain ⟨⟨ta, tn, tc, tx⟩, ⟨la, ln, lc, lx⟩, ⟨k, n, o, c, p, ⟨ba, bn, bc, bx⟩⟩, ⟨e, ⟨ra, rn, rc, rx⟩⟩⟩ := y
      simp only [s25C, Sx.v] at hrg
      have HY := hide hy
      clear hy
      by_cases hsh : tn ≤ 8192 ∧ ln ≤ 8192 ∧ bn ≤ 8192 ∧ rn ≤ 8192
      case neg =>
        have hSt := fun w' => short_no ta tn tc la ln lc k n o c p ba bn bc e ra rn rc w' hsh
        go_upto_region 6 with fail
        simp only [et4]
        clear hkz et4 hne hne2
        refine wp_region_lit ?_
        refine wl (by kernel_rfl) fun kQ hkQ => ?_
        go_simp
        refine hkQ _ _ ?_
        clear hkQ kQ
        refine wl (by kernel_rfl) fun kQ hkQ => ?_
        go_simp
        refine hkQ _ _ ?_
        clear hkQ kQ
        refine wl (by kernel_rfl) fun kQ hkQ => ?_
        go_simp
        refine hkQ _ _ ?_
        clear hkQ kQ
        refine wv (aV (spC (.slice ta tn tc) (.slice la ln lc) k n o c p (.slice ba bn bc) e (.slice ra rn rc))) (by kernel_rfl) (ex_loadR 36 (.tmp 21) rfl b (off + j * 10) rfl (spC (.slice ta tn tc) (.slice la ln lc) k n o c p (.slice ba bn bc) e (.slice ra rn rc)) hrg Tryz.underlying36 rfl (sz_P _ _ _ _ _ _ _ _ _ _)) ?_
        simp [Act.put]
        refine wl (by kernel_rfl) fun kQ hkQ => ?_
        go_simp
        refine (hSt _).mono ?_
        rintro en w9 ⟨rfl, hb1⟩
        refine hkQ _ _ ?_
        clear hkQ kQ
        replace hS := hS.later hb1
        clear hb1 hrg hSt
        refine wl (by kernel_rfl) fun kQ hkQ => ?_
        go_simp
        refine hkQ _ _ ?_
        clear hkQ kQ
        refine wl_skip (by kernel_rfl) ?_
        simp [Act.put]
        refine wl_skip (by kernel_rfl) ?_
        simp [Act.put]
        refine wl_skip (by kernel_rfl) ?_
        simp [Act.put]
        refine wl_skip (by kernel_rfl) ?_
        simp [Act.put]
        refine wl_skip (by kernel_rfl) ?_
        simp [Act.put]
        refine wl_skip (by kernel_rfl) ?_
        simp [Act.put]
        refine wl_skip (by kernel_rfl) ?_
        simp [Act.put]
        refine wl (by kernel_rfl) fun kQ hkQ => ?_
        go_simp
        refine hkQ _ _ ?_
        clear hkQ kQ
        refine wpList_nil ?_
        go_wp2_with fail
        go_roundw
        case rel => exact ⟨u + 1, by omega, by go_num, hide (StF.le (⟨TT, TK, unhide HF, hS⟩ : StF w gS (u * 16391) [] [] (fun w' => Pk25 w' ∧ Sx.Ok s25C 10 w' ⟨some ⟨b, off, none⟩, sn, sc, sx⟩ ∧ ∀ y ∈ sx, y.Ok w') w9) (by omega))⟩
        case measure => simp [intOf]; omega
      case pos =>
        obtain ⟨hs1, hs2, hs3, hs4⟩ := hsh
        have hSt := fun w' => short_yes ta tn tc la ln lc k n o c p ba bn bc e ra rn rc w' hs1 hs2 hs3 hs4
        go_upto_region 6 with fail
        simp only [et4]
        clear hkz et4 hne hne2
        refine wp_region_lit ?_
        refine wl (by kernel_rfl) fun kQ hkQ => ?_
        go_simp
        refine hkQ _ _ ?_
        clear hkQ kQ
        refine wl (by kernel_rfl) fun kQ hkQ => ?_
        go_simp
        refine hkQ _ _ ?_
        clear hkQ kQ
        refine wl (by kernel_rfl) fun kQ hkQ => ?_
        go_simp
        refine hkQ _ _ ?_
        clear hkQ kQ
        refine wv (aV (spC (.slice ta tn tc) (.slice la ln lc) k n o c p (.slice ba bn bc) e (.slice ra rn rc))) (by kernel_rfl) (ex_loadR 36 (.tmp 21) rfl b (off + j * 10) rfl (spC (.slice ta tn tc) (.slice la ln lc) k n o c p (.slice ba bn bc) e (.slice ra rn rc)) hrg Tryz.underlying36 rfl (sz_P _ _ _ _ _ _ _ _ _ _)) ?_
        simp [Act.put]
        refine wl (by kernel_rfl) fun kQ hkQ => ?_
        go_simp
        refine (hSt _).mono ?_
        rintro en w9 ⟨rfl, hb1⟩
        refine hkQ _ _ ?_
        clear hkQ kQ
        replace hS := hS.later hb1
        clear hb1 hrg hSt
        refine wl (by kernel_rfl) fun kQ hkQ => ?_
        go_simp
        refine hkQ _ _ ?_
        clear hkQ kQ
        obtain ⟨b9, off9, hsa9, -, hrg9⟩ := ((unhide HF).k hS.K).2.1.at_ (i := j) (unhide HY)
        obtain ⟨rfl, rfl⟩ : b = b9 ∧ off = off9 := by simpa using hsa9
        simp only [s25C, Sx.v] at hrg9
        clear hsa9
        refine wl (by kernel_rfl) fun kQ hkQ => ?_
        go_simp
        refine hkQ _ _ ?_
        clear hkQ kQ
        refine wl (by kernel_rfl) fun kQ hkQ => ?_
        go_simp
        refine hkQ _ _ ?_
        clear hkQ kQ
        refine wl (by kernel_rfl) fun kQ hkQ => ?_
        go_simp
        refine hkQ _ _ ?_
        clear hkQ kQ
        refine wl (by kernel_rfl) fun kQ hkQ => ?_
        go_simp
        refine hkQ _ _ ?_
        clear hkQ kQ
        refine wv (aV (spC (.slice ta tn tc) (.slice la ln lc) k n o c p (.slice ba bn bc) e (.slice ra rn rc))) (by kernel_rfl) (ex_loadR 36 (.tmp 28) rfl b (off + j * 10) rfl (spC (.slice ta tn tc) (.slice la ln lc) k n o c p (.slice ba bn bc) e (.slice ra rn rc)) hrg9 Tryz.underlying36 rfl (sz_P _ _ _ _ _ _ _ _ _ _)) ?_
        simp [Act.put]
        refine wl (by kernel_rfl) fun kQ hkQ => ?_
        go_simp
        refine (plays_any w gS (u * 16391) [] (fun w' => Pk25 w' ∧ Sx.Ok s25C 10 w' ⟨some ⟨b, off, none⟩, sn, sc, sx⟩ ∧ ∀ y ∈ sx, y.Ok w') TK TT ⟨ta, tn, tc, tx⟩ ⟨la, ln, lc, lx⟩ ⟨ba, bn, bc, bx⟩ ⟨ra, rn, rc, rx⟩ k n o c p e w9 (unhide HF) hS (fun w' h => ⟨h.1, (h.2.2 _ (unhide HYM)).t, (h.2.2 _ (unhide HYM)).l, (h.2.2 _ (unhide HYM)).op.s, (h.2.2 _ (unhide HYM)).r.2.1⟩) ⟨(unhide HX).tb, (unhide HX).lb, (unhide HX).op.b⟩ ⟨hs1, hs2, hs3, hs4⟩ ⟨(unhide HX).op.n, (unhide HX).op.o, (unhide HX).op.c, (unhide HX).op.p⟩ (unhide HX).r.1 (unhide HX).r.2.2 (unhide HIL)).mono ?_
        rintro en w10 ⟨rfl, hT⟩
        refine hkQ _ _ ?_
        clear hkQ kQ
        try simp [Act.put]
        refine wl (by kernel_rfl) fun kQ hkQ => ?_
        go_simp
        refine hkQ _ _ ?_
        clear hkQ kQ
        refine wl (by kernel_rfl) fun kQ hkQ => ?_
        go_simp
        refine hkQ _ _ ?_
        clear hkQ kQ
        refine wpList_nil ?_
        clear hrg9 hS
        go_wp2_with fail
        go_roundw
        case rel => exact ⟨u + 1, by omega, by go_num, hide (StF.le hT (by omega))⟩
        case measure => simp [intOf]; omega
    · have hkd : ¬ ((u : Int) < (M : Int)) := by omega
      obtain ⟨TT, TK, hF, hS⟩ := unhide HS
      obtain ⟨its, L, W, RL, RW, h1, h2⟩ := hF.shs (A := []) hS
      have hH := held25_any w gS its ([] ++ []) _ L W RL RW _ h2 (by omega)
      clear hF hS h2
      go_wp2_with (go_at_call 6; refine hH.mono ?_; rintro en w20 ⟨rfl, hb20⟩)
      go_ret
      exact ⟨rfl, hb20⟩
end Go.Proofs.YtdcaojiiaocnaaaGreatDoor

namespace Go.Proofs.YtdcaojiiaocnaaaGreatDoor.ScriptExactU
open Go.ChangeShapes Go.WideShapes Go.ChangeAt Go.WideMaps Go.WideElems Go.RowKit

theorem reads (os : Os) {H : Type} (enc : TypeId × Value → H) : ∃ places, DataW.whole enc Tryz.prog ((witP Tryz.prog (grt25 NM25 PL25) (World.doorLaid Tryz.prog 4000 os)).forCall (fun _ _ => 0) ⟨#[], #[.slice none 0 0], []⟩).memory Tryz.f3.params.toList Rows.scriptExactSpec.vars false (#[.slice none 0 0] : Array Value).toList 8 = some ([.nil], [], places) :=
  ⟨[], by kernel_rfl⟩

set_option maxRecDepth 100000 in
theorem lifted (os : Os) (started : os.Started) (H : Type) (enc : TypeId × Value → H) (F : Stop.Interp) :
    ReturnsInHanded {} Tryz.checked os 3 .any ((Rows.OpenSpec.upto Rows.scriptExactSpec).preRow enc Tryz.prog Tryz.f3 Rows.scriptExactUptoRow.domain false Rows.scriptExactUptoRow.laid) (((Rows.OpenSpec.upto Rows.scriptExactSpec).at F).post enc Tryz.prog Tryz.f3 false true false false) := by
  obtain ⟨places, hx⟩ := reads os enc
  refine returnsInHanded_of_row (C := Tryz.checked) (s := Rows.OpenSpec.upto Rows.scriptExactSpec) own started (by kernel_rfl) Tryz.func3
    (witness_row_atRef (enc := enc) (C := Tryz.checked) false (witP Tryz.prog (grt25 NM25 PL25) (World.doorLaid Tryz.prog 4000 os)) #[.slice none 0 0] (World.layVars_os _ _ _) (by kernel_rfl) (by kernel_rfl) (by kernel_rfl)
      (OpenSpec.preRow_of_cond 8 hx (by kernel_rfl) (fun k hk => by cases hk; kernel_rfl) (by kernel_rfl) (door_met25 os _))) ?_
  intro W base args ds gs before hval0 hW0 _ hcond _ hL0 hSh _
  have hval : ∀ (j : Nat) t v, Tryz.f3.params[j]? = some t → args[j]? = some v → Value.okWide Tryz.prog W .any base t v := hval0
  have hW : DataW.Whole enc Tryz.prog Tryz.f3.params.toList Rows.scriptExactSpec.vars false W args.toList ds gs before := hW0
  have hL : laidMetH Tryz.prog LD25 W := hL0
  have hP := pk_of hL hSh
  have hsm : Rows.uptoSmall H (ds ++ gs) = true := hcond _ rfl
  have hW' := hW
  obtain ⟨p, q, hA0, hV, rfl, hfz, hnd⟩ := hW
  have hA : DataW.TrodAll enc Tryz.prog W 0 (fun _ => true) true Tryz.f3.params.toList args.toList ds p := hA0
  rw [Tryz.params3] at hA hval
  obtain ⟨v0, vs0, d0, ds0, p0, q0, hargs, rfl, rfl, h0, r0⟩ := trodAll_cons hA
  obtain ⟨rfl, rfl, rfl⟩ := trodAll_nil r0
  obtain rfl : args = #[v0] := by cases args; simp_all
  obtain ⟨rfl, rfl⟩ := trodVars_none hV
  have hbulk : Rows.uptoBulkAll (H := H) [d0] ≤ 1048576 := of_decide_eq_true hsm
  have k0 := h0
  have lt0 : ∀ x ∈ p0, x.block < W.heap.size := by obtain ⟨m, hm⟩ := k0; exact DataW.trod_lt m _ _ _ hm
  obtain ⟨s0, e0, ok0, he0, c0⟩ := open_steps_u (hval 0 22 v0 rfl rfl) h0
  have b0 : s0.n ≤ 1048576 := Nat.le_trans c0 (Nat.le_trans (bulkIn (by simp)) hbulk)
  clear hA0 hval0
  subst e0
  refine (exact25_law s0 W ok0 he0 b0 hP).mono fun e W' ⟨he, bel⟩ => ?_
  subst he
  exact ⟨_, rfl, _, _, _, [], _, [], hW', trodAll_mk1 (shut_bool Tryz.underlying4 _), (trodAll_cons_mk (Below.trod laidOut (by kernel_rfl) (of_decide_eq_true (by kernel_rfl)) k0 bel lt0) trodAll_mk0), rfl, bel.frame _, fun h => by cases h⟩

theorem row : Rows.ScriptExactUptoSaid :=
  OpenClaim.holds_of_cond 3 Tryz.f3 rfl rfl rfl rfl rfl rfl rfl ⟨rfl, rfl, rfl, rfl, rfl⟩ rfl rfl rfl rfl rfl (by kernel_rfl) Tryz.func3 (by kernel_rfl)
    (of_decide_eq_true (by kernel_rfl)) (by unfold Func.isWrapper; first | (rw [if_pos (by decide +kernel)]; kernel_rfl) | (rw [if_neg (by decide +kernel)]; exact ⟨rfl, rfl⟩))
    (fun os started H enc _ F => by rw [OpenClaim.pre_eq_preRow]; exact lifted os started H enc F)
end Go.Proofs.YtdcaojiiaocnaaaGreatDoor.ScriptExactU
namespace Go.Proofs.YtdcaojiiaocnaaaGreatDoor
theorem scriptExact_holds : Rows.ScriptExactUptoCardSaid :=
  Claim7.holds_tied_plain_at .later [] _ _ _ _
    ScriptExactU.row (fun _ h => by cases h) (by kernel_rfl) (fun _ h => by cases h) scriptExactUpto_row_tie rfl ⟨rfl, rfl⟩ (by kernel_rfl) rfl
    (fun f fn hf hfn => by
      obtain rfl : f = 3 := Option.some.inj ((show Tryz.prog.funcNamed "farebox/fareboxlaw25.ScriptExact" = some 3 by kernel_rfl).symm.trans hf) |>.symm
      obtain rfl : fn = Tryz.f3 := (Option.some.inj (Tryz.func3.symm.trans hfn)).symm
      exact ⟨by kernel_rfl, fun j t ht => by
        rw [Tryz.params3] at ht
        rcases j with _ | j
        · obtain rfl : 22 = t := by simpa using ht
          kernel_rfl
        · simp at ht⟩)
    (by kernel_rfl)
#print axioms scriptExact_holds
end Go.Proofs.YtdcaojiiaocnaaaGreatDoor
