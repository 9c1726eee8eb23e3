import Derived.Test.YtaepmfkdnjembaaRfW24
import Derived.Deep.DeepCutAuto
import Derived.Deep.QuietTactic
import Derived.BigQuiet
set_option linter.unusedSimpArgs false
set_option linter.unusedVariables false
namespace Go.Proofs.Ytaepmfkdnjembaa
open Go.RowKit

/-- what the document's Take answers -/
def RtP (w0 : World) (rows : List Row) (K : World → Prop) (qx : List Ms) (last : Nat) (z : Int) (e : Ending) (w' : World) : Prop := ∃ a' n' c' R', e = .returned (.tuple #[aV (qbC (.slice a' n' c') (last : Int)), aV (mC (lkV qx z)), .int .i64 (if lkB qx z = true then 0 else 240)]) ∧ RowG mC 4 32 ⟨a', n', c', dlM qx z⟩ (dlM qx z) R' ∧ Hs17 w0 (rows ++ R') K w'
theorem dlM_snoc {ms : List Ms} {k : Nat} {x : Ms} (z : Int) (hx : ms[k]? = some x) : dlM (ms.take (k + 1)) z = dlM (ms.take k) z ++ (if x.i = z then [] else [x]) := by
  unfold dlM
  rw [List.take_add_one, hx, List.filter_append]
  congr 1
  show [x].filter _ = _
  rw [List.filter_cons]
  by_cases h : x.i = z
  · simp [h]
  · simp [h]
section
variable {P : Program} {fn : Func} {tmps : Array Value} {w w0 : World} {rows : List Row} {K : World → Prop}
theorem res_cct24 {p p2 u : Tmp} {ty ty2 : TypeId} (h : fn.results = #[.cell p ty, .cell p2 ty2, .tmp u]) (hS : Hs17 w0 rows K w) (i : Nat) {g : Nat} {T : TypeId} {c : List Value} (hi : rows[i]? = some (g, T, c)) (hp : tmps.getD p undef = .pointer (some ⟨g, 0, none⟩)) {d : TypeDesc} (hu : P.underlying ty = some d) (hd : d.isRow = true) (hz : (P.info? ty).map (·.size) = some c.length)
    (i2 : Nat) {g2 : Nat} {T2 : TypeId} {c2 : List Value} (hi2 : rows[i2]? = some (g2, T2, c2)) (hp2 : tmps.getD p2 undef = .pointer (some ⟨g2, 0, none⟩)) {d2 : TypeDesc} (hu2 : P.underlying ty2 = some d2) (hd2 : d2.isRow = true) (hz2 : (P.info? ty2).map (·.size) = some c2.length) (v : Value) (hv : tmps.getD u undef = v) :
    (results fn tmps).run P w = .ok (.tuple #[aV c, aV c2, v]) w := by
  have hp' : tmps[p]?.getD undef = .pointer (some ⟨g, 0, none⟩) := by simpa using hp
  have hp2' : tmps[p2]?.getD undef = .pointer (some ⟨g2, 0, none⟩) := by simpa using hp2
  have hv' : tmps[u]?.getD undef = v := by simpa using hv
  simp [results, h, hp', hp2', hv', asAddr, run_loadVar_hs hS i hi hu hd hz, run_loadVar_hs hS i2 hi2 hu2 hd2 hz2]
end
set_option maxHeartbeats 4000000 in
set_option maxRecDepth 100000 in
theorem rtake_any (w0 : World) (rows RQ : List Row) (K : World → Prop) (qa : Option Addr) (qn qc : Nat) (qx : List Ms) (last : Nat) (hQ : RowG mC 4 32 ⟨qa, qn, qc, qx⟩ qx RQ) (w : World) (hS : Hs17 w0 (rows ++ RQ) K w) (hn : qn ≤ 4096) (z : Int) :
    Calls Try.prog 38 #[aV (qbC (.slice qa qn qc) last), .int .i64 z] w fun e w' => RtP w0 rows K qx last z e w' := by
  have hql : qx.length = qn := hQ.1
  have HQL := hide hql
  clear hql
  by_cases hq : lkB qx z = true
  · skip
    go_enter Try.func38, Try.ntmps38
    go_upto_region 0 with fail
    refine wp_region_lit ?_
    refine wl_box (by kernel_rfl) 58 (.tmp 0) rfl (qbC (.slice qa qn qc) (last : Int)) rfl hS ?_
    clear hS
    intro g1 w1 hS
    simp [Act.put]
    refine wl_alloc (by kernel_rfl) 58 rfl (qbC (.slice none 0 0) 0) Try.inQ hS ?_
    clear hS
    intro g2 w2 hS
    simp [Act.put]
    refine wl_alloc (by kernel_rfl) 32 rfl (msC 0 0 0 (.slice none 0 0)) Try.inD hS ?_
    clear hS
    intro g3 w3 hS
    simp [Act.put]
    refine wl (by kernel_rfl) fun kQ hkQ => ?_
    go_simp
    refine hkQ _ _ ?_
    clear hkQ kQ
    refine wpList_nil ?_
    go_upto_region 1 with fail
    refine wp_region_lit ?_
    refine wl_load (by kernel_rfl) 58 (.tmp 2) rfl 2 rfl 0 rfl (qbC (.slice qa qn qc) (last : Int)) (At.self _) Try.underlying58 rfl (sz_Q _ _) hS ?_
    simp [Act.put]
    refine wl (by kernel_rfl) fun kQ hkQ => ?_
    go_simp
    refine hkQ _ _ ?_
    clear hkQ kQ
    refine wl (by kernel_rfl) fun kQ hkQ => ?_
    go_simp
    refine (rget_any w0 ((g3, 32, (msC 0 0 0 (.slice none 0 0))) :: (g2, 58, (qbC (.slice none 0 0) 0)) :: (g1, 58, (qbC (.slice qa qn qc) (last : Int))) :: rows) RQ K qa qn qc qx last hQ _ hS hn z).mono ?_
    clear hS
    rintro e w4 ⟨rfl, hS⟩
    refine hkQ _ _ ?_
    clear hkQ kQ
    refine wl (by kernel_rfl) fun kQ hkQ => ?_
    go_simp
    refine hkQ _ _ ?_
    clear hkQ kQ
    refine wl (by kernel_rfl) fun kQ hkQ => ?_
    go_simp
    refine hkQ _ _ ?_
    clear hkQ kQ
    refine wl (by kernel_rfl) fun kQ hkQ => ?_
    go_simp
    refine hkQ _ _ ?_
    clear hkQ kQ
    refine wl_alloc (by kernel_rfl) 32 rfl (msC 0 0 0 (.slice none 0 0)) Try.inD hS ?_
    clear hS
    intro g5 w5 hS
    simp [Act.put]
    refine wl_store (by kernel_rfl) 32 (.tmp 7) (.tmp 15) rfl 0 rfl 0 rfl (msC ((lkV qx z).i) ((lkV qx z).f) ((lkV qx z).t) ((lkV qx z).s.v)) (msC ((lkV qx z).i) ((lkV qx z).f) ((lkV qx z).t) ((lkV qx z).s.v)) (pt_D 0 0 0 (.slice none 0 0) ((lkV qx z).i) ((lkV qx z).f) ((lkV qx z).t) ((lkV qx z).s.v)) rfl (sz_D _ _ _ _) (one_D _ _ _ rfl) hS ?_
    clear hS
    intro w6 hS
    change Hs17 w0 ((g5, 32, (msC ((lkV qx z).i) ((lkV qx z).f) ((lkV qx z).t) ((lkV qx z).s.v))) :: (g3, 32, (msC 0 0 0 (.slice none 0 0))) :: (g2, 58, (qbC (.slice none 0 0) 0)) :: (g1, 58, (qbC (.slice qa qn qc) (last : Int))) :: (rows ++ RQ)) K w6 at hS
    simp [Act.put]
    refine wl (by kernel_rfl) fun kQ hkQ => ?_
    go_simp
    refine hkQ _ _ ?_
    clear hkQ kQ
    refine wpList_nil ?_
    go_upto_region 4 with fail
    have HQQ := hide hq
    clear hq
    have hR : RowG mC 4 32 (⟨none, 0, 0, []⟩ : Sx Ms) [] [] := ⟨rfl, .inl ⟨rfl, rfl, rfl, rfl⟩⟩
    go_wp2_with fail
    go_loopw [9, 10] (fun vl vi wr => ∃ (k : Nat) (v : Sx Ms) (R : List Row), k ≤ qn ∧ vl = v.v ∧ vi = .int .i64 k ∧ Hid (v.xs = dlM (qx.take k) z) ∧ RowG mC 4 32 v v.xs R ∧ Hs17 w0 ((g5, 32, (msC ((lkV qx z).i) ((lkV qx z).f) ((lkV qx z).t) ((lkV qx z).s.v))) :: (g3, 32, (msC 0 0 0 (.slice none 0 0))) :: (g2, 58, (qbC (.slice none 0 0) 0)) :: (g1, 58, (qbC (.slice qa qn qc) (last : Int))) :: (rows ++ RQ ++ R)) K wr) (fun _ vi _ => qn - (intOf vi).toNat)
    case atStart => exact ⟨0, ⟨none, 0, 0, []⟩, [], by omega, rfl, rfl, hide rfl, hR, by rw [List.append_nil]; exact hS⟩
    case round =>
      clear hS hR
      obtain ⟨k, v, R, hk, rfl, rfl, HV, hR, hS⟩ := hrel
      obtain ⟨va, vn, vc, vx⟩ := v
      simp only [Sx.v] at HV hR hS ⊢
      by_cases hlt : k < qn
      · have hkz : (k : Int) < (qn : Int) := by omega
        obtain ⟨x, hx⟩ : ∃ x, qx[k]? = some x := ⟨_, List.getElem?_eq_getElem (by rw [unhide HQL]; exact hlt)⟩
        obtain ⟨b, o, hqa, -, hr0⟩ := Sx.Ok.at_ (RowG.sx24 hQ (fun x _ => mC_len x) (fun p hp => by simp [hp]) hS) (i := k) hx
        have hqa' : qa = some ⟨b, o, none⟩ := hqa
        subst hqa'
        have hvl : vx.length ≤ k := by
          have h9 := congrArg List.length (unhide HV)
          have h8 : (dlM (qx.take k) z).length ≤ (qx.take k).length := List.length_filter_le _ _
          rw [List.length_take] at h8; omega
        have HSN := hide (dlM_snoc z hx)
        have HX := hide hx
        clear hqa hx hr0
        have hra : ∀ v, Hs17 w0 ((g5, 32, (msC ((lkV qx z).i) ((lkV qx z).f) ((lkV qx z).t) ((lkV qx z).s.v))) :: (g3, 32, (msC 0 0 0 (.slice none 0 0))) :: (g2, 58, (qbC (.slice none 0 0) 0)) :: (g1, 58, (qbC (.slice (some ⟨b, o, none⟩) qn qc) (last : Int))) :: (rows ++ RQ ++ R)) K v → v.rangeAt b (o + k * 4) (mC x) := fun v hv => by
          obtain ⟨b2, o2, e2, -, hr2⟩ := Sx.Ok.at_ (RowG.sx24 hQ (fun x _ => mC_len x) (fun p hp => by simp [hp]) hv) (i := k) (unhide HX)
          simp only [Option.some.injEq, Addr.mk.injEq] at e2
          obtain ⟨rfl, rfl, -⟩ := e2
          exact hr2
        have hca : ∀ v, Hs17 w0 ((g5, 32, (msC ((lkV qx z).i) ((lkV qx z).f) ((lkV qx z).t) ((lkV qx z).s.v))) :: (g3, 32, (msC 0 0 0 (.slice none 0 0))) :: (g2, 58, (qbC (.slice none 0 0) 0)) :: (g1, 58, (qbC (.slice (some ⟨b, o, none⟩) qn qc) (last : Int))) :: (rows ++ RQ ++ R)) K v → v.cell? ⟨b, o + k * 4, none⟩ = some (.int .i64 x.i) := fun v hv => by
          have := hra v hv 0 _ rfl
          simpa using this
        clear HX
        go_upto_region 6 with fail
        refine wp_region_lit ?_
        refine wl (by kernel_rfl) fun kQ hkQ => ?_
        go_simp
        refine hkQ _ _ ?_
        clear hkQ kQ
        refine wl (by kernel_rfl) fun kQ hkQ => ?_
        go_simp
        refine hkQ _ _ ?_
        clear hkQ kQ
        refine wl_load1 (by kernel_rfl) 33 (.tmp 22) rfl 3 rfl 0 rfl ((.slice (some ⟨b, o, none⟩) qn qc)) (at_Q0 (.slice (some ⟨b, o, none⟩) qn qc) (last : Int)) Try.underlying33 rfl hS ?_
        simp [Act.put]
        refine wl (by kernel_rfl) fun kQ hkQ => ?_
        go_simp
        refine hkQ _ _ ?_
        clear hkQ kQ
        refine wl (by kernel_rfl) fun kQ hkQ => ?_
        go_simp
        refine hkQ _ _ ?_
        clear hkQ kQ
        refine wpList_nil ?_
        by_cases hxz : x.i = z
        · skip
          have hne : (x.i != z) = false := by simp [hxz]
          go_upto_region 8 with fail
          clear hkz
          have hkz : (k : Int) < (qn : Int) := by omega
          refine wp_region_lit ?_
          refine wl (by kernel_rfl) fun kQ hkQ => ?_
          go_simp
          refine hkQ _ _ ?_
          clear hkQ kQ
          refine wl_load1 (by kernel_rfl) 33 (.tmp 28) rfl 3 rfl 0 rfl ((.slice (some ⟨b, o, none⟩) qn qc)) (at_Q0 (.slice (some ⟨b, o, none⟩) qn qc) (last : Int)) Try.underlying33 rfl hS ?_
          simp [Act.put]
          refine wl (by kernel_rfl) fun kQ hkQ => ?_
          go_simp
          refine hkQ _ _ ?_
          clear hkQ kQ
          refine wl (by kernel_rfl) fun kQ hkQ => ?_
          go_simp
          refine hkQ _ _ ?_
          clear hkQ kQ
          refine wl (by kernel_rfl) fun kQ hkQ => ?_
          go_simp
          refine hkQ _ _ ?_
          clear hkQ kQ
          refine wl_loadC (by kernel_rfl) 3 (.tmp 32) rfl b (o + k * 4) rfl (.int .i64 x.i) (hca _ hS) Try.underlying3 rfl ?_
          simp [Act.put]
          refine wl (by kernel_rfl) fun kQ hkQ => ?_
          go_simp
          refine hkQ _ _ ?_
          clear hkQ kQ
          refine wl (by kernel_rfl) fun kQ hkQ => ?_
          go_simp
          refine hkQ _ _ ?_
          clear hkQ kQ
          refine wpList_nil ?_
          go_wp2_with fail
          go_roundw
          case rel => exact ⟨k + 1, ⟨va, vn, vc, vx⟩, R, by omega, rfl, by go_num, hide (by rw [unhide HSN, if_pos hxz, ← unhide HV, List.append_nil]), hR, hS⟩
          case measure => simp [intOf]; omega
        · skip
          have hne : (x.i != z) = true := by simp [hxz]
          go_upto_region 8 with fail
          clear hkz
          have hkz : (k : Int) < (qn : Int) := by omega
          refine wp_region_lit ?_
          refine wl (by kernel_rfl) fun kQ hkQ => ?_
          go_simp
          refine hkQ _ _ ?_
          clear hkQ kQ
          refine wl_load1 (by kernel_rfl) 33 (.tmp 28) rfl 3 rfl 0 rfl ((.slice (some ⟨b, o, none⟩) qn qc)) (at_Q0 (.slice (some ⟨b, o, none⟩) qn qc) (last : Int)) Try.underlying33 rfl hS ?_
          simp [Act.put]
          refine wl (by kernel_rfl) fun kQ hkQ => ?_
          go_simp
          refine hkQ _ _ ?_
          clear hkQ kQ
          refine wl (by kernel_rfl) fun kQ hkQ => ?_
          go_simp
          refine hkQ _ _ ?_
          clear hkQ kQ
          refine wl (by kernel_rfl) fun kQ hkQ => ?_
          go_simp
          refine hkQ _ _ ?_
          clear hkQ kQ
          refine wl_loadC (by kernel_rfl) 3 (.tmp 32) rfl b (o + k * 4) rfl (.int .i64 x.i) (hca _ hS) Try.underlying3 rfl ?_
          simp [Act.put]
          refine wl (by kernel_rfl) fun kQ hkQ => ?_
          go_simp
          refine hkQ _ _ ?_
          clear hkQ kQ
          refine wl (by kernel_rfl) fun kQ hkQ => ?_
          go_simp
          refine hkQ _ _ ?_
          clear hkQ kQ
          refine wpList_nil ?_
          go_upto_region 9 with fail
          refine wp_region_lit ?_
          refine wl (by kernel_rfl) fun kQ hkQ => ?_
          go_simp
          refine hkQ _ _ ?_
          clear hkQ kQ
          refine wl (by kernel_rfl) fun kQ hkQ => ?_
          go_simp
          refine hkQ _ _ ?_
          clear hkQ kQ
          refine wl_load1 (by kernel_rfl) 33 (.tmp 37) rfl 3 rfl 0 rfl ((.slice (some ⟨b, o, none⟩) qn qc)) (at_Q0 (.slice (some ⟨b, o, none⟩) qn qc) (last : Int)) Try.underlying33 rfl hS ?_
          simp [Act.put]
          refine wl (by kernel_rfl) fun kQ hkQ => ?_
          go_simp
          refine hkQ _ _ ?_
          clear hkQ kQ
          refine wl (by kernel_rfl) fun kQ hkQ => ?_
          go_simp
          refine hkQ _ _ ?_
          clear hkQ kQ
          refine wv (aV (msC x.i x.f x.t x.s.v)) (by kernel_rfl) (ex_loadR 32 (.tmp 40) rfl b (o + k * 4) rfl (msC x.i x.f x.t x.s.v) (hra _ hS) Try.underlying32 rfl (sz_D _ _ _ _)) ?_
          simp [Act.put]
          refine wl_bs1m (by kernel_rfl) (.tmp 41) rfl x rfl hS ?_
          clear hS
          intro g61 w61 hS
          simp [Act.put]
          refine wl_appm (by kernel_rfl) (.tmp 36) (.tmp 42) rfl rfl (RowG.own (f := mC) (rows := ((g61, 32, (mC x)) :: (g5, 32, (msC ((lkV qx z).i) ((lkV qx z).f) ((lkV qx z).t) ((lkV qx z).s.v))) :: (g3, 32, (msC 0 0 0 (.slice none 0 0))) :: (g2, 58, (qbC (.slice none 0 0) 0)) :: (g1, 58, (qbC (.slice (some ⟨b, o, none⟩) qn qc) (last : Int))) :: (rows ++ RQ))) hR (fun x _ => mC_len x) hS) ⟨some ⟨g61, 0, none⟩, 1, 1, [x]⟩ (sx_one hS) rfl (by show (vx.length + 1) * 48 ≤ _; omega) hS.bel.size ?_
          intro v' w62 hO' hg' hov'
          obtain ⟨z', R62, rfl, hR', hS'⟩ := Hs17.regrow (f := mC) (rows := ((g61, 32, (mC x)) :: (g5, 32, (msC ((lkV qx z).i) ((lkV qx z).f) ((lkV qx z).t) ((lkV qx z).s.v))) :: (g3, 32, (msC 0 0 0 (.slice none 0 0))) :: (g2, 58, (qbC (.slice none 0 0) 0)) :: (g1, 58, (qbC (.slice (some ⟨b, o, none⟩) qn qc) (last : Int))) :: (rows ++ RQ))) (s := ⟨va, vn, vc, vx⟩) hS hR (fun x _ => mC_len x) hg' hO' hov'
          replace hS := hS'
          replace hR := hR'
          clear hS' hR' hO' hg' hov'
          obtain ⟨ua, un, uc, ux⟩ := z'
          simp only [Sx.v]
          replace hS : Hs17 w0 ((g5, 32, (msC ((lkV qx z).i) ((lkV qx z).f) ((lkV qx z).t) ((lkV qx z).s.v))) :: (g3, 32, (msC 0 0 0 (.slice none 0 0))) :: (g2, 58, (qbC (.slice none 0 0) 0)) :: (g1, 58, (qbC (.slice (some ⟨b, o, none⟩) qn qc) (last : Int))) :: ((rows ++ RQ) ++ R62)) K w62 := hS.sub ((List.Sublist.refl _).cons _)
          refine wl (by kernel_rfl) fun kQ hkQ => ?_
          go_simp
          refine hkQ _ _ ?_
          clear hkQ kQ
          refine wpList_nil ?_
          go_wp2_with fail
          go_roundw
          case rel => exact ⟨k + 1, ⟨ua, un, uc, vx ++ [x]⟩, _, by omega, rfl, by go_num, hide (by rw [unhide HSN, if_neg hxz, ← unhide HV]), ⟨hR.1, hR.2⟩, hS⟩
          case measure => simp [intOf]; omega
      · obtain rfl : qn = k := by omega
        have hkz : ¬ (qn : Int) < (qn : Int) := by omega
        have hvx : vx = dlM qx z := by
          have h9 := unhide HV
          rw [List.take_of_length_le (by rw [unhide HQL]; exact Nat.le_refl _)] at h9
          exact h9
        subst hvx
        clear hlt hk HV
        go_upto_region 6 with fail
        refine wp_region_lit ?_
        refine wl (by kernel_rfl) fun kQ hkQ => ?_
        go_simp
        refine hkQ _ _ ?_
        clear hkQ kQ
        refine wl (by kernel_rfl) fun kQ hkQ => ?_
        go_simp
        refine hkQ _ _ ?_
        clear hkQ kQ
        refine wl_load1 (by kernel_rfl) 33 (.tmp 22) rfl 3 rfl 0 rfl ((.slice qa qn qc)) (at_Q0 (.slice qa qn qc) (last : Int)) Try.underlying33 rfl hS ?_
        simp [Act.put]
        refine wl (by kernel_rfl) fun kQ hkQ => ?_
        go_simp
        refine hkQ _ _ ?_
        clear hkQ kQ
        refine wl (by kernel_rfl) fun kQ hkQ => ?_
        go_simp
        refine hkQ _ _ ?_
        clear hkQ kQ
        refine wpList_nil ?_
        go_upto_region 10 with fail
        clear hkz
        replace hS := hS.drew
        refine wp_region_held_drew (S := Hs17 w0 [(g5, 32, (msC ((lkV qx z).i) ((lkV qx z).f) ((lkV qx z).t) ((lkV qx z).s.v))), (g1, 58, (qbC (.slice qa qn qc) (last : Int)))] K) (by kernel_rfl) (hS.sub ((((((List.nil_sublist (rows ++ RQ ++ R))).cons_cons _).cons _).cons _).cons_cons _)) (fun hHeld => ?_)
        generalize World.drew _ = w301 at hS hHeld ⊢
        refine wpAnyH_take (i := 0) (oi := _) (v := (.slice va vn vc)) rfl (by kernel_rfl) (by kernel_rfl) (by kernel_rfl) (fun _ _ _ h => h) (Or.inl ⟨by rfl, fun w hSw => by go_simp⟩) hHeld ?_
        simp [Act.put]
        refine wpAnyH_take (i := 1) (oi := _) (v := .pointer (some ⟨g1, 1, none⟩)) rfl (by kernel_rfl) (by kernel_rfl) (by kernel_rfl) (fun _ _ _ h => h) (Or.inl ⟨by rfl, fun w hSw => by go_simp⟩) hHeld ?_
        simp [Act.put]
        refine wpAnyH_take (i := 2) (oi := _) (v := .int .i64 (last : Int)) rfl (by kernel_rfl) (by kernel_rfl) (by kernel_rfl) (fun _ _ _ h => h) (yl_load1 (by kernel_rfl) 3 (.tmp 45) rfl 1 rfl 1 rfl (.int .i64 (last : Int)) (at_Q1 (.slice qa qn qc) (last : Int)) Try.underlying3 rfl) hHeld ?_
        simp [Act.put]
        refine wpAnyH_take (i := 4) (oi := _) (v := aV (msC ((lkV qx z).i) ((lkV qx z).f) ((lkV qx z).t) ((lkV qx z).s.v))) rfl (by kernel_rfl) (by kernel_rfl) (by kernel_rfl) (fun _ _ _ h => h) (yl_load (by kernel_rfl) 32 (.tmp 7) rfl 0 rfl 0 rfl (msC ((lkV qx z).i) ((lkV qx z).f) ((lkV qx z).t) ((lkV qx z).s.v)) (At.self _) Try.underlying32 rfl (sz_D _ _ _ _)) hHeld ?_
        simp [Act.put]
        refine wpAnyH_take (i := 3) (oi := _) (v := aV (qbC (.slice va vn vc) (last : Int))) rfl (by kernel_rfl) (by kernel_rfl) (by kernel_rfl) (fun _ _ _ h => h) (yl_val (by kernel_rfl) _ (fun w => ex_build 58 #[(0, .tmp 44), (1, .tmp 46)] rfl (qbC (.slice va vn vc) (last : Int)) (b_q2 va vn vc (last : Int)) rfl)) hHeld ?_
        simp [Act.put]
        refine wpAnyH_ready (rs := [5]) (by kernel_rfl) (by simp) ?_
        refine (AllReadyH.cons rfl (fun kQ hkQ => ?_) AllReadyH.nil)
        refine dw (by kernel_rfl) (op_store 58 (.tmp 4) (.tmp 47) rfl 2 rfl 0 rfl (qbC (.slice va vn vc) (last : Int)) (qbC (.slice va vn vc) (last : Int)) (pt_Q (.slice none 0 0) 0 (.slice va vn vc) (last : Int)) rfl (sz_Q _ _) (one_Q _ rfl) hS ?_)
        clear hS hHeld
        intro w302 hS
        change Hs17 w0 ((g5, 32, (msC ((lkV qx z).i) ((lkV qx z).f) ((lkV qx z).t) ((lkV qx z).s.v))) :: (g3, 32, (msC 0 0 0 (.slice none 0 0))) :: (g2, 58, (qbC (.slice va vn vc) (last : Int))) :: (g1, 58, (qbC (.slice qa qn qc) (last : Int))) :: (rows ++ RQ ++ R)) K w302 at hS
        refine hkQ.out _ _ (hS.sub ((((((List.nil_sublist (rows ++ RQ ++ R))).cons_cons _).cons _).cons _).cons_cons _)) (fun hHeld => ?_)
        clear hkQ kQ
        simp [Act.put]
        refine wpAnyH_ready (rs := [6]) (by kernel_rfl) (by simp) ?_
        refine (AllReadyH.cons rfl (fun kQ hkQ => ?_) AllReadyH.nil)
        refine dw (by kernel_rfl) (op_store 32 (.tmp 5) (.tmp 48) rfl 1 rfl 0 rfl (msC ((lkV qx z).i) ((lkV qx z).f) ((lkV qx z).t) ((lkV qx z).s.v)) (msC ((lkV qx z).i) ((lkV qx z).f) ((lkV qx z).t) ((lkV qx z).s.v)) (pt_D 0 0 0 (.slice none 0 0) ((lkV qx z).i) ((lkV qx z).f) ((lkV qx z).t) ((lkV qx z).s.v)) rfl (sz_D _ _ _ _) (one_D _ _ _ rfl) hS ?_)
        clear hS hHeld
        intro w303 hS
        change Hs17 w0 ((g5, 32, (msC ((lkV qx z).i) ((lkV qx z).f) ((lkV qx z).t) ((lkV qx z).s.v))) :: (g3, 32, (msC ((lkV qx z).i) ((lkV qx z).f) ((lkV qx z).t) ((lkV qx z).s.v))) :: (g2, 58, (qbC (.slice va vn vc) (last : Int))) :: (g1, 58, (qbC (.slice qa qn qc) (last : Int))) :: (rows ++ RQ ++ R)) K w303 at hS
        refine hkQ.out _ _ (hS.sub ((((((List.nil_sublist (rows ++ RQ ++ R))).cons_cons _).cons _).cons _).cons_cons _)) (fun hHeld => ?_)
        clear hkQ kQ
        simp [Act.put]
        refine wpAnyH_take (i := 7) (oi := _) (v := .int .i64 0) rfl (by kernel_rfl) (by kernel_rfl) (by kernel_rfl) (fun _ _ _ h => h) (Or.inl ⟨by rfl, fun w hSw => by go_simp⟩) hHeld ?_
        simp [Act.put]
        refine wpAnyH_done (by kernel_rfl) ?_ _
        clear hHeld
        go_wp2_with fail
        refine bodyPost_ret (res_cct24 rfl hS 2 rfl rfl Try.underlying58 rfl (sz_Q _ _) 1 rfl rfl Try.underlying32 rfl (sz_D _ _ _ _) _ rfl) rfl ?_
        replace hS := hS.sub ((((((List.Sublist.refl _)).cons _).cons _).cons _).cons _)
        replace hS := hS.sub (List.Sublist.append (List.sublist_append_left rows RQ) (List.Sublist.refl R))
        exact ⟨va, vn, vc, R, by rw [if_pos (unhide HQQ)]; rfl, hR, hS⟩
  · have hq' : lkB qx z = false := by simpa using hq
    have HDL := hide (dl_no hq')
    have HQQ := hide hq
    clear hq
    go_enter Try.func38, Try.ntmps38
    go_upto_region 0 with fail
    refine wp_region_lit ?_
    refine wl_box (by kernel_rfl) 58 (.tmp 0) rfl (qbC (.slice qa qn qc) (last : Int)) rfl hS ?_
    clear hS
    intro g1 w1 hS
    simp [Act.put]
    refine wl_alloc (by kernel_rfl) 58 rfl (qbC (.slice none 0 0) 0) Try.inQ hS ?_
    clear hS
    intro g2 w2 hS
    simp [Act.put]
    refine wl_alloc (by kernel_rfl) 32 rfl (msC 0 0 0 (.slice none 0 0)) Try.inD hS ?_
    clear hS
    intro g3 w3 hS
    simp [Act.put]
    refine wl (by kernel_rfl) fun kQ hkQ => ?_
    go_simp
    refine hkQ _ _ ?_
    clear hkQ kQ
    refine wpList_nil ?_
    go_upto_region 1 with fail
    refine wp_region_lit ?_
    refine wl_load (by kernel_rfl) 58 (.tmp 2) rfl 2 rfl 0 rfl (qbC (.slice qa qn qc) (last : Int)) (At.self _) Try.underlying58 rfl (sz_Q _ _) hS ?_
    simp [Act.put]
    refine wl (by kernel_rfl) fun kQ hkQ => ?_
    go_simp
    refine hkQ _ _ ?_
    clear hkQ kQ
    refine wl (by kernel_rfl) fun kQ hkQ => ?_
    go_simp
    refine (rget_any w0 ((g3, 32, (msC 0 0 0 (.slice none 0 0))) :: (g2, 58, (qbC (.slice none 0 0) 0)) :: (g1, 58, (qbC (.slice qa qn qc) (last : Int))) :: rows) RQ K qa qn qc qx last hQ _ hS hn z).mono ?_
    clear hS
    rintro e w4 ⟨rfl, hS⟩
    refine hkQ _ _ ?_
    clear hkQ kQ
    refine wl (by kernel_rfl) fun kQ hkQ => ?_
    go_simp
    refine hkQ _ _ ?_
    clear hkQ kQ
    refine wl (by kernel_rfl) fun kQ hkQ => ?_
    go_simp
    refine hkQ _ _ ?_
    clear hkQ kQ
    refine wl (by kernel_rfl) fun kQ hkQ => ?_
    go_simp
    refine hkQ _ _ ?_
    clear hkQ kQ
    refine wl_alloc (by kernel_rfl) 32 rfl (msC 0 0 0 (.slice none 0 0)) Try.inD hS ?_
    clear hS
    intro g5 w5 hS
    simp [Act.put]
    refine wl_store (by kernel_rfl) 32 (.tmp 7) (.tmp 15) rfl 0 rfl 0 rfl (msC ((lkV qx z).i) ((lkV qx z).f) ((lkV qx z).t) ((lkV qx z).s.v)) (msC ((lkV qx z).i) ((lkV qx z).f) ((lkV qx z).t) ((lkV qx z).s.v)) (pt_D 0 0 0 (.slice none 0 0) ((lkV qx z).i) ((lkV qx z).f) ((lkV qx z).t) ((lkV qx z).s.v)) rfl (sz_D _ _ _ _) (one_D _ _ _ rfl) hS ?_
    clear hS
    intro w6 hS
    change Hs17 w0 ((g5, 32, (msC ((lkV qx z).i) ((lkV qx z).f) ((lkV qx z).t) ((lkV qx z).s.v))) :: (g3, 32, (msC 0 0 0 (.slice none 0 0))) :: (g2, 58, (qbC (.slice none 0 0) 0)) :: (g1, 58, (qbC (.slice qa qn qc) (last : Int))) :: (rows ++ RQ)) K w6 at hS
    simp [Act.put]
    refine wl (by kernel_rfl) fun kQ hkQ => ?_
    go_simp
    refine hkQ _ _ ?_
    clear hkQ kQ
    refine wpList_nil ?_
    go_upto_region 3 with fail
    clear hq'
    replace hS := hS.drew
    refine wp_region_held_drew (S := Hs17 w0 [(g5, 32, (msC ((lkV qx z).i) ((lkV qx z).f) ((lkV qx z).t) ((lkV qx z).s.v))), (g1, 58, (qbC (.slice qa qn qc) (last : Int)))] K) (by kernel_rfl) (hS.sub ((((((List.nil_sublist (rows ++ RQ))).cons_cons _).cons _).cons _).cons_cons _)) (fun hHeld => ?_)
    generalize World.drew _ = w7 at hS hHeld ⊢
    refine wpAnyH_take (i := 0) (oi := _) (v := aV (qbC (.slice qa qn qc) (last : Int))) rfl (by kernel_rfl) (by kernel_rfl) (by kernel_rfl) (fun _ _ _ h => h) (yl_load (by kernel_rfl) 58 (.tmp 2) rfl 1 rfl 0 rfl (qbC (.slice qa qn qc) (last : Int)) (At.self _) Try.underlying58 rfl (sz_Q _ _)) hHeld ?_
    simp [Act.put]
    refine wpAnyH_take (i := 1) (oi := _) (v := aV (msC ((lkV qx z).i) ((lkV qx z).f) ((lkV qx z).t) ((lkV qx z).s.v))) rfl (by kernel_rfl) (by kernel_rfl) (by kernel_rfl) (fun _ _ _ h => h) (yl_load (by kernel_rfl) 32 (.tmp 7) rfl 0 rfl 0 rfl (msC ((lkV qx z).i) ((lkV qx z).f) ((lkV qx z).t) ((lkV qx z).s.v)) (At.self _) Try.underlying32 rfl (sz_D _ _ _ _)) hHeld ?_
    simp [Act.put]
    refine wpAnyH_ready (rs := [2]) (by kernel_rfl) (by simp) ?_
    refine (AllReadyH.cons rfl (fun kQ hkQ => ?_) AllReadyH.nil)
    refine dw (by kernel_rfl) (op_store 58 (.tmp 4) (.tmp 19) rfl 2 rfl 0 rfl (qbC (.slice qa qn qc) (last : Int)) (qbC (.slice qa qn qc) (last : Int)) (pt_Q (.slice none 0 0) 0 (.slice qa qn qc) (last : Int)) rfl (sz_Q _ _) (one_Q _ rfl) hS ?_)
    clear hS hHeld
    intro w8 hS
    change Hs17 w0 ((g5, 32, (msC ((lkV qx z).i) ((lkV qx z).f) ((lkV qx z).t) ((lkV qx z).s.v))) :: (g3, 32, (msC 0 0 0 (.slice none 0 0))) :: (g2, 58, (qbC (.slice qa qn qc) (last : Int))) :: (g1, 58, (qbC (.slice qa qn qc) (last : Int))) :: (rows ++ RQ)) K w8 at hS
    refine hkQ.out _ _ (hS.sub ((((((List.nil_sublist (rows ++ RQ))).cons_cons _).cons _).cons _).cons_cons _)) (fun hHeld => ?_)
    clear hkQ kQ
    simp [Act.put]
    refine wpAnyH_ready (rs := [3]) (by kernel_rfl) (by simp) ?_
    refine (AllReadyH.cons rfl (fun kQ hkQ => ?_) AllReadyH.nil)
    refine dw (by kernel_rfl) (op_store 32 (.tmp 5) (.tmp 20) rfl 1 rfl 0 rfl (msC ((lkV qx z).i) ((lkV qx z).f) ((lkV qx z).t) ((lkV qx z).s.v)) (msC ((lkV qx z).i) ((lkV qx z).f) ((lkV qx z).t) ((lkV qx z).s.v)) (pt_D 0 0 0 (.slice none 0 0) ((lkV qx z).i) ((lkV qx z).f) ((lkV qx z).t) ((lkV qx z).s.v)) rfl (sz_D _ _ _ _) (one_D _ _ _ rfl) hS ?_)
    clear hS hHeld
    intro w9 hS
    change Hs17 w0 ((g5, 32, (msC ((lkV qx z).i) ((lkV qx z).f) ((lkV qx z).t) ((lkV qx z).s.v))) :: (g3, 32, (msC ((lkV qx z).i) ((lkV qx z).f) ((lkV qx z).t) ((lkV qx z).s.v))) :: (g2, 58, (qbC (.slice qa qn qc) (last : Int))) :: (g1, 58, (qbC (.slice qa qn qc) (last : Int))) :: (rows ++ RQ)) K w9 at hS
    refine hkQ.out _ _ (hS.sub ((((((List.nil_sublist (rows ++ RQ))).cons_cons _).cons _).cons _).cons_cons _)) (fun hHeld => ?_)
    clear hkQ kQ
    simp [Act.put]
    refine wpAnyH_take (i := 4) (oi := _) (v := .int .i64 240) rfl (by kernel_rfl) (by kernel_rfl) (by kernel_rfl) (fun _ _ _ h => h) (Or.inl ⟨by rfl, fun w hSw => by go_simp⟩) hHeld ?_
    simp [Act.put]
    refine wpAnyH_done (by kernel_rfl) ?_ _
    clear hHeld
    go_wp2_with fail
    refine bodyPost_ret (res_cct24 rfl hS 2 rfl rfl Try.underlying58 rfl (sz_Q _ _) 1 rfl rfl Try.underlying32 rfl (sz_D _ _ _ _) _ rfl) rfl ?_
    replace hS := hS.sub ((((((List.Sublist.refl _)).cons _).cons _).cons _).cons _)
    skip
    exact ⟨qa, qn, qc, RQ, by rw [if_neg (unhide HQQ)]; rfl, by rw [unhide HDL]; exact ⟨hQ.1, hQ.2⟩, hS⟩
end Go.Proofs.Ytaepmfkdnjembaa
