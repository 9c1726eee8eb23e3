import Derived.Test.YtaepmfkdnjembaaRfW24
import Derived.Deep.DeepCutAuto
import Derived.Deep.QuietTactic
import Derived.BigQuiet
set_option linter.unusedSimpArgs false
set_option linter.unusedVariables false
namespace Go.Proofs.Ytaepmfkdnjembaa
open Go.RowKit

def wqX (E : Int) (qx : List Ms) (m : Ms) : List Ms := if E = 0 then qx ++ [m] else qx
def wqL (E : Int) (last : Nat) : Nat := if E = 0 then last + 1 else last
def wqN (E : Int) (last : Nat) : Int := if E = 0 then ((last + 1 : Nat) : Int) else 0
/-- what the document's Put and Double answer -/
def RqP (w0 : World) (rows : List Row) (K : World → Prop) (qx : List Ms) (last : Nat) (x' : List Ms) (l' : Nat) (N E : Int) (e : Ending) (w' : World) : Prop :=
  ∃ a' n' c' R', e = .returned (.tuple #[aV (qbC (.slice a' n' c') (l' : Int)), .int .i64 N, .int .i64 E]) ∧ RowG mC 4 32 ⟨a', n', c', x'⟩ x' R' ∧ Hs17 w0 (rows ++ R') K w'
set_option maxHeartbeats 4000000 in
set_option maxRecDepth 100000 in
theorem rwith_any (w0 : World) (rows RQ : List Row) (K : World → Prop) (qa : Option Addr) (qn qc : Nat) (qx : List Ms) (last : Nat) (hQ : RowG mC 4 32 ⟨qa, qn, qc, qx⟩ qx RQ) (w : World) (hS : Hs17 w0 (rows ++ RQ) K w) (hn : qn ≤ 4096) (hl : last ≤ 1000000000) (i f t : Int) (y : Sx Int) :
    Calls Try.prog 44 #[aV (qbC (.slice qa qn qc) last), aV (msC i f t y.v)] w fun e w' => RqP w0 rows K qx last (wqX (putE qn 0) qx ⟨((last + 1 : Nat) : Int), f, t, y⟩) (wqL (putE qn 0) last) (wqN (putE qn 0) last) (putE qn 0) e w' := by
  have hql : qx.length = qn := hQ.1
  by_cases hf : 4096 ≤ qn
  · have hE : putE qn 0 = 241 := by unfold putE; rw [if_neg (by omega), if_pos hf]
    have h9 : ¬ ((241 : Int) = 0) := by decide
    rw [hE]
    unfold wqX wqL wqN
    rw [if_neg h9, if_neg h9, if_neg h9]
    have hfz : (4096 : Int) ≤ (qn : Int) := by omega
    clear hE h9 hql hf
    go_enter Try.func44, Try.ntmps44
    go_upto_region 0 with fail
    refine wp_region_lit ?_
    refine wl_box (by kernel_rfl) 58 (.tmp 0) rfl (qbC (.slice qa qn qc) (last : Int)) rfl hS ?_
    clear hS
    intro g1 w1 hS
    simp [Act.put]
    refine wl_box (by kernel_rfl) 32 (.tmp 1) rfl (msC i f t y.v) rfl hS ?_
    clear hS
    intro g2 w2 hS
    simp [Act.put]
    refine wl_alloc (by kernel_rfl) 58 rfl (qbC (.slice none 0 0) 0) Try.inQ hS ?_
    clear hS
    intro g3 w3 hS
    simp [Act.put]
    refine wl (by kernel_rfl) fun kQ hkQ => ?_
    go_simp
    refine hkQ _ _ ?_
    clear hkQ kQ
    refine wl (by kernel_rfl) fun kQ hkQ => ?_
    go_simp
    refine hkQ _ _ ?_
    clear hkQ kQ
    refine wpList_nil ?_
    go_upto_region 1 with fail
    refine wp_region_lit ?_
    refine wl (by kernel_rfl) fun kQ hkQ => ?_
    go_simp
    refine hkQ _ _ ?_
    clear hkQ kQ
    refine wl_load1 (by kernel_rfl) 33 (.tmp 8) rfl 2 rfl 0 rfl ((.slice qa qn qc)) (at_Q0 (.slice qa qn qc) (last : Int)) Try.underlying33 rfl hS ?_
    simp [Act.put]
    refine wl (by kernel_rfl) fun kQ hkQ => ?_
    go_simp
    refine hkQ _ _ ?_
    clear hkQ kQ
    refine wl (by kernel_rfl) fun kQ hkQ => ?_
    go_simp
    refine hkQ _ _ ?_
    clear hkQ kQ
    refine wpList_nil ?_
    go_upto_region 2 with fail
    clear hfz
    refine wp_region_lit ?_
    refine wl_load (by kernel_rfl) 58 (.tmp 2) rfl 2 rfl 0 rfl (qbC (.slice qa qn qc) (last : Int)) (At.self _) Try.underlying58 rfl (sz_Q _ _) hS ?_
    simp [Act.put]
    refine wl_store (by kernel_rfl) 58 (.tmp 4) (.tmp 12) rfl 0 rfl 0 rfl (qbC (.slice qa qn qc) (last : Int)) (qbC (.slice qa qn qc) (last : Int)) (pt_Q (.slice none 0 0) 0 (.slice qa qn qc) (last : Int)) rfl (sz_Q _ _) (one_Q _ rfl) hS ?_
    clear hS
    intro w4 hS
    change Hs17 w0 ((g3, 58, (qbC (.slice qa qn qc) (last : Int))) :: (g2, 32, (msC i f t y.v)) :: (g1, 58, (qbC (.slice qa qn qc) (last : Int))) :: (rows ++ RQ)) K w4 at hS
    simp [Act.put]
    refine wl (by kernel_rfl) fun kQ hkQ => ?_
    go_simp
    refine hkQ _ _ ?_
    clear hkQ kQ
    refine wl (by kernel_rfl) fun kQ hkQ => ?_
    go_simp
    refine hkQ _ _ ?_
    clear hkQ kQ
    refine wpList_nil ?_
    go_wp2_with fail
    refine bodyPost_ret (res_ctt rfl hS 0 rfl rfl Try.underlying58 rfl (sz_Q _ _) _ _ rfl rfl) rfl ?_
    replace hS := hS.sub (((((List.Sublist.refl _)).cons _).cons _).cons _)
    exact ⟨qa, qn, qc, RQ, rfl, hQ, hS⟩
  · have hE : putE qn 0 = 0 := by unfold putE; rw [if_neg (by omega), if_neg hf]
    rw [hE]
    unfold wqX wqL wqN
    rw [if_pos rfl, if_pos rfl, if_pos rfl]
    have hfz : ¬ (4096 : Int) ≤ (qn : Int) := by omega
    obtain ⟨nx, hnx⟩ : ∃ nx : Int, ((last + 1 : Nat) : Int) = nx := ⟨_, rfl⟩
    have e1 : IntKind.i64.wrap ((last : Int) + 1) = nx := by rw [← hnx, show (last : Int) + 1 = ((last + 1 : Nat) : Int) by omega]; exact wi_of24 (by omega) (by omega)
    have HNX := hide hnx
    have hq5 : qx.length ≤ 4096 := by omega
    rw [hnx]
    clear hE hql hf hnx
    go_enter Try.func44, Try.ntmps44
    go_upto_region 0 with fail
    refine wp_region_lit ?_
    refine wl_box (by kernel_rfl) 58 (.tmp 0) rfl (qbC (.slice qa qn qc) (last : Int)) rfl hS ?_
    clear hS
    intro g1 w1 hS
    simp [Act.put]
    refine wl_box (by kernel_rfl) 32 (.tmp 1) rfl (msC i f t y.v) rfl hS ?_
    clear hS
    intro g2 w2 hS
    simp [Act.put]
    refine wl_alloc (by kernel_rfl) 58 rfl (qbC (.slice none 0 0) 0) Try.inQ hS ?_
    clear hS
    intro g3 w3 hS
    simp [Act.put]
    refine wl (by kernel_rfl) fun kQ hkQ => ?_
    go_simp
    refine hkQ _ _ ?_
    clear hkQ kQ
    refine wl (by kernel_rfl) fun kQ hkQ => ?_
    go_simp
    refine hkQ _ _ ?_
    clear hkQ kQ
    refine wpList_nil ?_
    go_upto_region 1 with fail
    refine wp_region_lit ?_
    refine wl (by kernel_rfl) fun kQ hkQ => ?_
    go_simp
    refine hkQ _ _ ?_
    clear hkQ kQ
    refine wl_load1 (by kernel_rfl) 33 (.tmp 8) rfl 2 rfl 0 rfl ((.slice qa qn qc)) (at_Q0 (.slice qa qn qc) (last : Int)) Try.underlying33 rfl hS ?_
    simp [Act.put]
    refine wl (by kernel_rfl) fun kQ hkQ => ?_
    go_simp
    refine hkQ _ _ ?_
    clear hkQ kQ
    refine wl (by kernel_rfl) fun kQ hkQ => ?_
    go_simp
    refine hkQ _ _ ?_
    clear hkQ kQ
    refine wpList_nil ?_
    go_upto_region 4 with fail
    clear hfz
    refine wp_region_lit ?_
    refine wl (by kernel_rfl) fun kQ hkQ => ?_
    go_simp
    refine hkQ _ _ ?_
    clear hkQ kQ
    refine wl (by kernel_rfl) fun kQ hkQ => ?_
    go_simp
    refine hkQ _ _ ?_
    clear hkQ kQ
    refine wl_load1 (by kernel_rfl) 33 (.tmp 14) rfl 2 rfl 0 rfl ((.slice qa qn qc)) (at_Q0 (.slice qa qn qc) (last : Int)) Try.underlying33 rfl hS ?_
    simp [Act.put]
    refine wl_apnm (by kernel_rfl) (.tmp 13) (.tmp 15) rfl rfl ⟨qa, qn, qc, qx⟩ (RowG.sx24 hQ (fun x _ => mC_len x) (fun p hp => by simp [hp]) hS) rfl (by show qn ≤ 1048576; omega) ?_
    intro q w4 hx hO hb1
    obtain ⟨R, hR, hS'⟩ := hS.ownG (f := mC) (l := q.xs) (own_len24 hO) hb1 hO
    replace hS := hS'
    clear hS' hO hb1
    obtain ⟨pa, pn, pc, px⟩ := q
    simp only at hx hR
    subst hx
    simp only [Sx.v]
    simp [Act.put]
    refine wl (by kernel_rfl) fun kQ hkQ => ?_
    go_simp
    refine hkQ _ _ ?_
    clear hkQ kQ
    refine wpList_nil ?_
    go_upto_region 5 with fail
    refine wp_region_lit ?_
    refine wl (by kernel_rfl) fun kQ hkQ => ?_
    go_simp
    refine hkQ _ _ ?_
    clear hkQ kQ
    refine wl_load1 (by kernel_rfl) 3 (.tmp 17) rfl 2 rfl 1 rfl (.int .i64 (last : Int)) (at_Q1 (.slice qa qn qc) (last : Int)) Try.underlying3 rfl hS ?_
    simp [Act.put]
    refine wl (by kernel_rfl) fun kQ hkQ => ?_
    go_simp
    refine hkQ _ _ ?_
    clear hkQ kQ
    refine wl (by kernel_rfl) fun kQ hkQ => ?_
    go_simp
    refine hkQ _ _ ?_
    clear hkQ kQ
    refine wl_store (by kernel_rfl) 3 (.tmp 20) (.tmp 19) rfl 1 rfl 0 rfl [.int .i64 nx] (msC nx f t y.v) (pt_D0 i f t y.v nx) rfl Try.j1i (one_one rfl) hS ?_
    clear hS
    intro w5 hS
    change Hs17 w0 ((g3, 58, (qbC (.slice none 0 0) 0)) :: (g2, 32, (msC nx f t y.v)) :: (g1, 58, (qbC (.slice qa qn qc) (last : Int))) :: (rows ++ RQ ++ R)) K w5 at hS
    simp [Act.put]
    refine wpList_nil ?_
    clear e1
    go_upto_region 6 with fail
    replace hS := hS.drew
    refine wp_region_held_drew (S := Hs17 w0 [(g2, 32, (msC nx f t y.v))] K) (by kernel_rfl) (hS.sub (((((List.nil_sublist (rows ++ RQ ++ R))).cons _).cons_cons _).cons _)) (fun hHeld => ?_)
    generalize World.drew _ = w6 at hS hHeld ⊢
    refine wpAnyH_take (i := 0) (oi := _) (v := (.slice pa pn pc)) rfl (by kernel_rfl) (by kernel_rfl) (by kernel_rfl) (fun _ _ _ h => h) (Or.inl ⟨by rfl, fun w hSw => by go_simp⟩) hHeld ?_
    simp [Act.put]
    refine wpAnyH_take (i := 1) (oi := _) (v := aV (msC nx f t y.v)) rfl (by kernel_rfl) (by kernel_rfl) (by kernel_rfl) (fun _ _ _ h => h) (yl_load (by kernel_rfl) 32 (.tmp 3) rfl 0 rfl 0 rfl (msC nx f t y.v) (At.self _) Try.underlying32 rfl (sz_D _ _ _ _)) hHeld ?_
    simp [Act.put]
    refine wpAnyH_take (i := 4) (oi := _) (v := .pointer (some ⟨g2, 0, none⟩)) rfl (by kernel_rfl) (by kernel_rfl) (by kernel_rfl) (fun _ _ _ h => h) (Or.inl ⟨by rfl, fun w hSw => by go_simp⟩) hHeld ?_
    simp [Act.put]
    refine wpAnyH_take (i := 5) (oi := _) (v := .int .i64 nx) rfl (by kernel_rfl) (by kernel_rfl) (by kernel_rfl) (fun _ _ _ h => h) (yl_load1 (by kernel_rfl) 3 (.tmp 25) rfl 0 rfl 0 rfl (.int .i64 nx) (at_D0 nx f t y.v) Try.underlying3 rfl) hHeld ?_
    simp [Act.put]
    refine wpAnyH_take (i := 7) (oi := _) (v := .pointer (some ⟨g2, 0, none⟩)) rfl (by kernel_rfl) (by kernel_rfl) (by kernel_rfl) (fun _ _ _ h => h) (Or.inl ⟨by rfl, fun w hSw => by go_simp⟩) hHeld ?_
    simp [Act.put]
    refine wpAnyH_take (i := 8) (oi := _) (v := .int .i64 nx) rfl (by kernel_rfl) (by kernel_rfl) (by kernel_rfl) (fun _ _ _ h => h) (yl_load1 (by kernel_rfl) 3 (.tmp 28) rfl 0 rfl 0 rfl (.int .i64 nx) (at_D0 nx f t y.v) Try.underlying3 rfl) hHeld ?_
    simp [Act.put]
    refine wpAnyH_ready (rs := [2]) (by kernel_rfl) (by simp) ?_
    refine (AllReadyH.cons rfl (fun kQ hkQ => ?_) AllReadyH.nil)
    refine dw (by kernel_rfl) (op_bs1G 33 32 (.tmp 22) rfl Try.underlying33 Try.infoMs (aV (mC ⟨nx, f, t, y⟩)) (mC ⟨nx, f, t, y⟩) rfl rfl rfl (by omega) (by omega) hS ?_)
    clear hS hHeld
    intro g7 w7 hS
    refine hkQ.out _ _ (hS.sub ((((((List.nil_sublist (rows ++ RQ ++ R))).cons _).cons_cons _).cons _).cons _)) (fun hHeld => ?_)
    clear hkQ kQ
    simp [Act.put]
    refine wpAnyH_ready (rs := [3]) (by kernel_rfl) (by simp) ?_
    refine (AllReadyH.cons rfl (fun kQ hkQ => ?_) AllReadyH.nil)
    clear hHeld
    refine dw (by kernel_rfl) (op_appendL (.tmp 21) (.tmp 23) 33 rfl Try.underlying33 Try.infoMs rfl (by omega) rfl (RowG.own (f := mC) (rows := ((g7, 32, (mC ⟨nx, f, t, y⟩)) :: (g3, 58, (qbC (.slice none 0 0) 0)) :: (g2, 32, (msC nx f t y.v)) :: (g1, 58, (qbC (.slice qa qn qc) (last : Int))) :: (rows ++ RQ))) hR (fun x _ => mC_len x) hS) ⟨some ⟨g7, 0, none⟩, 1, 1, [⟨nx, f, t, y⟩]⟩ (sx_one hS) (fun z _ => mC_len z) (fun z _ => one_m z) rfl (by show (px.length + 1) * 48 ≤ _; omega) (by omega) hS.bel.size ?_)
    intro v' w8 hO' hg' hov'
    obtain ⟨z', R8, rfl, hR', hS'⟩ := Hs17.regrow (f := mC) (rows := ((g7, 32, (mC ⟨nx, f, t, y⟩)) :: (g3, 58, (qbC (.slice none 0 0) 0)) :: (g2, 32, (msC nx f t y.v)) :: (g1, 58, (qbC (.slice qa qn qc) (last : Int))) :: (rows ++ RQ))) (s := ⟨pa, pn, pc, px⟩) hS hR (fun x _ => mC_len x) hg' hO' hov'
    replace hS := hS'
    replace hR := hR'
    clear hS' hR' hO' hg' hov'
    obtain ⟨va, vn, vc, vx⟩ := z'
    simp only [Sx.v]
    replace hS : Hs17 w0 ((g3, 58, (qbC (.slice none 0 0) 0)) :: (g2, 32, (msC nx f t y.v)) :: (g1, 58, (qbC (.slice qa qn qc) (last : Int))) :: ((rows ++ RQ) ++ R8)) K w8 := hS.sub ((List.Sublist.refl _).cons _)
    refine hkQ.out _ _ (hS.sub (((((List.nil_sublist ((rows ++ RQ) ++ R8))).cons _).cons_cons _).cons _)) (fun hHeld => ?_)
    clear hkQ kQ
    simp [Act.put]
    refine wpAnyH_take (i := 6) (oi := _) (v := aV (qbC (.slice va vn vc) nx)) rfl (by kernel_rfl) (by kernel_rfl) (by kernel_rfl) (fun _ _ _ h => h) (yl_val (by kernel_rfl) _ (fun w => ex_build 58 #[(0, .tmp 24), (1, .tmp 26)] rfl (qbC (.slice va vn vc) nx) (b_q2 va vn vc nx) rfl)) hHeld ?_
    simp [Act.put]
    refine wpAnyH_ready (rs := [9]) (by kernel_rfl) (by simp) ?_
    refine (AllReadyH.cons rfl (fun kQ hkQ => ?_) AllReadyH.nil)
    refine dw (by kernel_rfl) (op_store 58 (.tmp 4) (.tmp 27) rfl 0 rfl 0 rfl (qbC (.slice va vn vc) nx) (qbC (.slice va vn vc) nx) (pt_Q (.slice none 0 0) 0 (.slice va vn vc) nx) rfl (sz_Q _ _) (one_Q _ rfl) hS ?_)
    clear hS hHeld
    intro w9 hS
    change Hs17 w0 ((g3, 58, (qbC (.slice va vn vc) nx)) :: (g2, 32, (msC nx f t y.v)) :: (g1, 58, (qbC (.slice qa qn qc) (last : Int))) :: ((rows ++ RQ) ++ R8)) K w9 at hS
    refine hkQ.out _ _ (hS.sub (((((List.nil_sublist ((rows ++ RQ) ++ R8))).cons _).cons_cons _).cons _)) (fun hHeld => ?_)
    clear hkQ kQ
    simp [Act.put]
    refine wpAnyH_take (i := 10) (oi := _) (v := .int .i64 nx) rfl (by kernel_rfl) (by kernel_rfl) (by kernel_rfl) (fun _ _ _ h => h) (Or.inl ⟨by rfl, fun w hSw => by go_simp⟩) hHeld ?_
    simp [Act.put]
    refine wpAnyH_take (i := 11) (oi := _) (v := .int .i64 0) rfl (by kernel_rfl) (by kernel_rfl) (by kernel_rfl) (fun _ _ _ h => h) (Or.inl ⟨by rfl, fun w hSw => by go_simp⟩) hHeld ?_
    simp [Act.put]
    refine wpAnyH_done (by kernel_rfl) ?_ _
    clear hHeld
    go_wp2_with fail
    refine bodyPost_ret (res_ctt rfl hS 0 rfl rfl Try.underlying58 rfl (sz_Q _ _) _ _ rfl rfl) rfl ?_
    replace hS := hS.sub (((((List.Sublist.refl _)).cons _).cons _).cons _)
    replace hS := hS.sub (List.Sublist.append (List.sublist_append_left rows RQ) (List.Sublist.refl _))
    refine ⟨va, vn, vc, _, ?_, ⟨hR.1, hR.2⟩, hS⟩
    rw [unhide HNX]
    rfl
set_option maxHeartbeats 4000000 in
set_option maxRecDepth 100000 in
theorem rput_any (w0 : World) (rows RQ : List Row) (K : World → Prop) (qa : Option Addr) (qn qc : Nat) (qx : List Ms) (last : Nat) (hQ : RowG mC 4 32 ⟨qa, qn, qc, qx⟩ qx RQ) (w : World) (hS : Hs17 w0 (rows ++ RQ) K w) (hn : qn ≤ 4096) (hl : last ≤ 1000000000) (i f t : Int) (y : Sx Int) :
    Calls Try.prog 43 #[aV (qbC (.slice qa qn qc) last), aV (msC i f t y.v)] w fun e w' => RqP w0 rows K qx last (wqX (putE qn y.n) qx ⟨((last + 1 : Nat) : Int), f, t, y⟩) (wqL (putE qn y.n) last) (wqN (putE qn y.n) last) (putE qn y.n) e w' := by
  by_cases hc : 1024 < y.n
  · have hE : putE qn y.n = 1 := by unfold putE; rw [if_pos hc]
    have h9 : ¬ ((1 : Int) = 0) := by decide
    rw [hE]
    unfold wqX wqL wqN
    rw [if_neg h9, if_neg h9, if_neg h9]
    have hcz : (1024 : Int) < (y.n : Int) := by omega
    clear hE h9 hc
    go_enter Try.func43, Try.ntmps43
    go_upto_region 0 with fail
    refine wp_region_lit ?_
    refine wl_box (by kernel_rfl) 58 (.tmp 0) rfl (qbC (.slice qa qn qc) (last : Int)) rfl hS ?_
    clear hS
    intro g1 w1 hS
    simp [Act.put]
    refine wl_box (by kernel_rfl) 32 (.tmp 1) rfl (msC i f t y.v) rfl hS ?_
    clear hS
    intro g2 w2 hS
    simp [Act.put]
    refine wl_alloc (by kernel_rfl) 58 rfl (qbC (.slice none 0 0) 0) Try.inQ hS ?_
    clear hS
    intro g3 w3 hS
    simp [Act.put]
    refine wl (by kernel_rfl) fun kQ hkQ => ?_
    go_simp
    refine hkQ _ _ ?_
    clear hkQ kQ
    refine wl (by kernel_rfl) fun kQ hkQ => ?_
    go_simp
    refine hkQ _ _ ?_
    clear hkQ kQ
    refine wpList_nil ?_
    go_upto_region 1 with fail
    refine wp_region_lit ?_
    refine wl (by kernel_rfl) fun kQ hkQ => ?_
    go_simp
    refine hkQ _ _ ?_
    clear hkQ kQ
    refine wl_load1 (by kernel_rfl) 27 (.tmp 7) rfl 1 rfl 3 rfl (y.v) (at_D3 i f t y.v) Try.underlying27 rfl hS ?_
    simp [Act.put]
    refine wl (by kernel_rfl) fun kQ hkQ => ?_
    go_simp
    refine hkQ _ _ ?_
    clear hkQ kQ
    refine wl (by kernel_rfl) fun kQ hkQ => ?_
    go_simp
    refine hkQ _ _ ?_
    clear hkQ kQ
    refine wpList_nil ?_
    go_upto_region 2 with fail
    clear hcz
    refine wp_region_lit ?_
    refine wl_load (by kernel_rfl) 58 (.tmp 2) rfl 2 rfl 0 rfl (qbC (.slice qa qn qc) (last : Int)) (At.self _) Try.underlying58 rfl (sz_Q _ _) hS ?_
    simp [Act.put]
    refine wl_store (by kernel_rfl) 58 (.tmp 4) (.tmp 11) rfl 0 rfl 0 rfl (qbC (.slice qa qn qc) (last : Int)) (qbC (.slice qa qn qc) (last : Int)) (pt_Q (.slice none 0 0) 0 (.slice qa qn qc) (last : Int)) rfl (sz_Q _ _) (one_Q _ rfl) hS ?_
    clear hS
    intro w4 hS
    change Hs17 w0 ((g3, 58, (qbC (.slice qa qn qc) (last : Int))) :: (g2, 32, (msC i f t y.v)) :: (g1, 58, (qbC (.slice qa qn qc) (last : Int))) :: (rows ++ RQ)) K w4 at hS
    simp [Act.put]
    refine wl (by kernel_rfl) fun kQ hkQ => ?_
    go_simp
    refine hkQ _ _ ?_
    clear hkQ kQ
    refine wl (by kernel_rfl) fun kQ hkQ => ?_
    go_simp
    refine hkQ _ _ ?_
    clear hkQ kQ
    refine wpList_nil ?_
    go_wp2_with fail
    refine bodyPost_ret (res_ctt rfl hS 0 rfl rfl Try.underlying58 rfl (sz_Q _ _) _ _ rfl rfl) rfl ?_
    replace hS := hS.sub (((((List.Sublist.refl _)).cons _).cons _).cons _)
    exact ⟨qa, qn, qc, RQ, rfl, hQ, hS⟩
  · have hE : putE qn y.n = putE qn 0 := putE_body (by omega)
    rw [hE]
    have hcz : ¬ (1024 : Int) < (y.n : Int) := by omega
    clear hE hc
    go_enter Try.func43, Try.ntmps43
    go_upto_region 0 with fail
    refine wp_region_lit ?_
    refine wl_box (by kernel_rfl) 58 (.tmp 0) rfl (qbC (.slice qa qn qc) (last : Int)) rfl hS ?_
    clear hS
    intro g1 w1 hS
    simp [Act.put]
    refine wl_box (by kernel_rfl) 32 (.tmp 1) rfl (msC i f t y.v) rfl hS ?_
    clear hS
    intro g2 w2 hS
    simp [Act.put]
    refine wl_alloc (by kernel_rfl) 58 rfl (qbC (.slice none 0 0) 0) Try.inQ hS ?_
    clear hS
    intro g3 w3 hS
    simp [Act.put]
    refine wl (by kernel_rfl) fun kQ hkQ => ?_
    go_simp
    refine hkQ _ _ ?_
    clear hkQ kQ
    refine wl (by kernel_rfl) fun kQ hkQ => ?_
    go_simp
    refine hkQ _ _ ?_
    clear hkQ kQ
    refine wpList_nil ?_
    go_upto_region 1 with fail
    refine wp_region_lit ?_
    refine wl (by kernel_rfl) fun kQ hkQ => ?_
    go_simp
    refine hkQ _ _ ?_
    clear hkQ kQ
    refine wl_load1 (by kernel_rfl) 27 (.tmp 7) rfl 1 rfl 3 rfl (y.v) (at_D3 i f t y.v) Try.underlying27 rfl hS ?_
    simp [Act.put]
    refine wl (by kernel_rfl) fun kQ hkQ => ?_
    go_simp
    refine hkQ _ _ ?_
    clear hkQ kQ
    refine wl (by kernel_rfl) fun kQ hkQ => ?_
    go_simp
    refine hkQ _ _ ?_
    clear hkQ kQ
    refine wpList_nil ?_
    go_upto_region 3 with fail
    clear hcz
    refine wp_region_lit ?_
    refine wl_load (by kernel_rfl) 58 (.tmp 2) rfl 2 rfl 0 rfl (qbC (.slice qa qn qc) (last : Int)) (At.self _) Try.underlying58 rfl (sz_Q _ _) hS ?_
    simp [Act.put]
    refine wl_load (by kernel_rfl) 32 (.tmp 3) rfl 1 rfl 0 rfl (msC i f t y.v) (At.self _) Try.underlying32 rfl (sz_D _ _ _ _) hS ?_
    simp [Act.put]
    refine wl (by kernel_rfl) fun kQ hkQ => ?_
    go_simp
    refine (rwith_any w0 ((g3, 58, (qbC (.slice none 0 0) 0)) :: (g2, 32, (msC i f t y.v)) :: (g1, 58, (qbC (.slice qa qn qc) (last : Int))) :: rows) RQ K qa qn qc qx last hQ _ hS hn hl i f t y).mono ?_
    clear hS
    rintro e w4 ⟨qa', qn', qc', R', rfl, hQ', hS⟩
    refine hkQ _ _ ?_
    clear hkQ kQ
    refine wl (by kernel_rfl) fun kQ hkQ => ?_
    go_simp
    refine hkQ _ _ ?_
    clear hkQ kQ
    refine wl (by kernel_rfl) fun kQ hkQ => ?_
    go_simp
    refine hkQ _ _ ?_
    clear hkQ kQ
    refine wl (by kernel_rfl) fun kQ hkQ => ?_
    go_simp
    refine hkQ _ _ ?_
    clear hkQ kQ
    refine wl_store (by kernel_rfl) 58 (.tmp 4) (.tmp 15) rfl 0 rfl 0 rfl (qbC (.slice qa' qn' qc') (wqL (putE qn 0) last : Int)) (qbC (.slice qa' qn' qc') (wqL (putE qn 0) last : Int)) (pt_Q (.slice none 0 0) 0 (.slice qa' qn' qc') (wqL (putE qn 0) last : Int)) rfl (sz_Q _ _) (one_Q _ rfl) hS ?_
    clear hS
    intro w5 hS
    change Hs17 w0 ((g3, 58, (qbC (.slice qa' qn' qc') (wqL (putE qn 0) last : Int))) :: (g2, 32, (msC i f t y.v)) :: (g1, 58, (qbC (.slice qa qn qc) (last : Int))) :: (rows ++ R')) K w5 at hS
    simp [Act.put]
    refine wl (by kernel_rfl) fun kQ hkQ => ?_
    go_simp
    refine hkQ _ _ ?_
    clear hkQ kQ
    refine wl (by kernel_rfl) fun kQ hkQ => ?_
    go_simp
    refine hkQ _ _ ?_
    clear hkQ kQ
    refine wpList_nil ?_
    go_wp2_with fail
    refine bodyPost_ret (res_ctt rfl hS 0 rfl rfl Try.underlying58 rfl (sz_Q _ _) _ _ rfl rfl) rfl ?_
    replace hS := hS.sub (((((List.Sublist.refl _)).cons _).cons _).cons _)
    exact ⟨qa', qn', qc', R', rfl, hQ', hS⟩
set_option maxHeartbeats 4000000 in
set_option maxRecDepth 100000 in
theorem rdouble_any (w0 : World) (rows RQ : List Row) (K : World → Prop) (qa : Option Addr) (qn qc : Nat) (qx : List Ms) (last : Nat) (hQ : RowG mC 4 32 ⟨qa, qn, qc, qx⟩ qx RQ) (w : World) (hS : Hs17 w0 (rows ++ RQ) K w) (hn : qn ≤ 4096) (hl : last ≤ 1000000000) (z : Int) :
    Calls Try.prog 39 #[aV (qbC (.slice qa qn qc) last), .int .i64 z] w fun e w' => RqP w0 rows K qx last (wqX (dbE (qx.map Ms.p) z) qx ⟨((last + 1 : Nat) : Int), (lkV qx z).f, (lkV qx z).t, (lkV qx z).s⟩) (wqL (dbE (qx.map Ms.p) z) last) (wqN (dbE (qx.map Ms.p) z) last) (dbE (qx.map Ms.p) z) e w' := by
  have hql : qx.length = qn := hQ.1
  by_cases hq : lkB qx z = true
  · have hE : dbE (qx.map Ms.p) z = putE qn 0 := by unfold dbE; rw [lkB_p, if_pos hq, List.length_map, hql]
    rw [hE]
    clear hE hql
    go_enter Try.func39, Try.ntmps39
    go_upto_region 0 with fail
    refine wp_region_lit ?_
    refine wl_box (by kernel_rfl) 58 (.tmp 0) rfl (qbC (.slice qa qn qc) (last : Int)) rfl hS ?_
    clear hS
    intro g1 w1 hS
    simp [Act.put]
    refine wl_alloc (by kernel_rfl) 58 rfl (qbC (.slice none 0 0) 0) Try.inQ hS ?_
    clear hS
    intro g2 w2 hS
    simp [Act.put]
    refine wl (by kernel_rfl) fun kQ hkQ => ?_
    go_simp
    refine hkQ _ _ ?_
    clear hkQ kQ
    refine wl (by kernel_rfl) fun kQ hkQ => ?_
    go_simp
    refine hkQ _ _ ?_
    clear hkQ kQ
    refine wpList_nil ?_
    go_upto_region 1 with fail
    refine wp_region_lit ?_
    refine wl_load (by kernel_rfl) 58 (.tmp 2) rfl 1 rfl 0 rfl (qbC (.slice qa qn qc) (last : Int)) (At.self _) Try.underlying58 rfl (sz_Q _ _) hS ?_
    simp [Act.put]
    refine wl (by kernel_rfl) fun kQ hkQ => ?_
    go_simp
    refine hkQ _ _ ?_
    clear hkQ kQ
    refine wl (by kernel_rfl) fun kQ hkQ => ?_
    go_simp
    refine (rget_any w0 ((g2, 58, (qbC (.slice none 0 0) 0)) :: (g1, 58, (qbC (.slice qa qn qc) (last : Int))) :: rows) RQ K qa qn qc qx last hQ _ hS hn z).mono ?_
    clear hS
    rintro e w3 ⟨rfl, hS⟩
    refine hkQ _ _ ?_
    clear hkQ kQ
    refine wl (by kernel_rfl) fun kQ hkQ => ?_
    go_simp
    refine hkQ _ _ ?_
    clear hkQ kQ
    refine wl (by kernel_rfl) fun kQ hkQ => ?_
    go_simp
    refine hkQ _ _ ?_
    clear hkQ kQ
    refine wl (by kernel_rfl) fun kQ hkQ => ?_
    go_simp
    refine hkQ _ _ ?_
    clear hkQ kQ
    refine wl_alloc (by kernel_rfl) 32 rfl (msC 0 0 0 (.slice none 0 0)) Try.inD hS ?_
    clear hS
    intro g4 w4 hS
    simp [Act.put]
    refine wl_store (by kernel_rfl) 32 (.tmp 7) (.tmp 13) rfl 0 rfl 0 rfl (msC ((lkV qx z).i) ((lkV qx z).f) ((lkV qx z).t) ((lkV qx z).s.v)) (msC ((lkV qx z).i) ((lkV qx z).f) ((lkV qx z).t) ((lkV qx z).s.v)) (pt_D 0 0 0 (.slice none 0 0) ((lkV qx z).i) ((lkV qx z).f) ((lkV qx z).t) ((lkV qx z).s.v)) rfl (sz_D _ _ _ _) (one_D _ _ _ rfl) hS ?_
    clear hS
    intro w5 hS
    change Hs17 w0 ((g4, 32, (msC ((lkV qx z).i) ((lkV qx z).f) ((lkV qx z).t) ((lkV qx z).s.v))) :: (g2, 58, (qbC (.slice none 0 0) 0)) :: (g1, 58, (qbC (.slice qa qn qc) (last : Int))) :: (rows ++ RQ)) K w5 at hS
    simp [Act.put]
    refine wl (by kernel_rfl) fun kQ hkQ => ?_
    go_simp
    refine hkQ _ _ ?_
    clear hkQ kQ
    refine wpList_nil ?_
    go_upto_region 4 with fail
    clear hq
    refine wp_region_lit ?_
    refine wl_load (by kernel_rfl) 58 (.tmp 2) rfl 2 rfl 0 rfl (qbC (.slice qa qn qc) (last : Int)) (At.self _) Try.underlying58 rfl (sz_Q _ _) hS ?_
    simp [Act.put]
    refine wl_load (by kernel_rfl) 32 (.tmp 7) rfl 0 rfl 0 rfl (msC ((lkV qx z).i) ((lkV qx z).f) ((lkV qx z).t) ((lkV qx z).s.v)) (At.self _) Try.underlying32 rfl (sz_D _ _ _ _) hS ?_
    simp [Act.put]
    refine wl (by kernel_rfl) fun kQ hkQ => ?_
    go_simp
    refine (rwith_any w0 ((g4, 32, (msC ((lkV qx z).i) ((lkV qx z).f) ((lkV qx z).t) ((lkV qx z).s.v))) :: (g2, 58, (qbC (.slice none 0 0) 0)) :: (g1, 58, (qbC (.slice qa qn qc) (last : Int))) :: rows) RQ K qa qn qc qx last hQ _ hS hn hl (lkV qx z).i (lkV qx z).f (lkV qx z).t (lkV qx z).s).mono ?_
    clear hS
    rintro e w6 ⟨qa', qn', qc', R', rfl, hQ', hS⟩
    refine hkQ _ _ ?_
    clear hkQ kQ
    refine wl (by kernel_rfl) fun kQ hkQ => ?_
    go_simp
    refine hkQ _ _ ?_
    clear hkQ kQ
    refine wl (by kernel_rfl) fun kQ hkQ => ?_
    go_simp
    refine hkQ _ _ ?_
    clear hkQ kQ
    refine wl (by kernel_rfl) fun kQ hkQ => ?_
    go_simp
    refine hkQ _ _ ?_
    clear hkQ kQ
    refine wl_store (by kernel_rfl) 58 (.tmp 4) (.tmp 21) rfl 1 rfl 0 rfl (qbC (.slice qa' qn' qc') (wqL (putE qn 0) last : Int)) (qbC (.slice qa' qn' qc') (wqL (putE qn 0) last : Int)) (pt_Q (.slice none 0 0) 0 (.slice qa' qn' qc') (wqL (putE qn 0) last : Int)) rfl (sz_Q _ _) (one_Q _ rfl) hS ?_
    clear hS
    intro w7 hS
    change Hs17 w0 ((g4, 32, (msC ((lkV qx z).i) ((lkV qx z).f) ((lkV qx z).t) ((lkV qx z).s.v))) :: (g2, 58, (qbC (.slice qa' qn' qc') (wqL (putE qn 0) last : Int))) :: (g1, 58, (qbC (.slice qa qn qc) (last : Int))) :: (rows ++ R')) K w7 at hS
    simp [Act.put]
    refine wl (by kernel_rfl) fun kQ hkQ => ?_
    go_simp
    refine hkQ _ _ ?_
    clear hkQ kQ
    refine wl (by kernel_rfl) fun kQ hkQ => ?_
    go_simp
    refine hkQ _ _ ?_
    clear hkQ kQ
    refine wpList_nil ?_
    go_wp2_with fail
    refine bodyPost_ret (res_ctt rfl hS 1 rfl rfl Try.underlying58 rfl (sz_Q _ _) _ _ rfl rfl) rfl ?_
    replace hS := hS.sub (((((List.Sublist.refl _)).cons _).cons _).cons _)
    exact ⟨qa', qn', qc', R', rfl, hQ', hS⟩
  · have hq' : lkB qx z = false := by simpa using hq
    have hE : dbE (qx.map Ms.p) z = 240 := by unfold dbE; rw [lkB_p, hq']; rfl
    have h9 : ¬ ((240 : Int) = 0) := by decide
    rw [hE]
    unfold wqX wqL wqN
    rw [if_neg h9, if_neg h9, if_neg h9]
    clear hE hql hq h9
    go_enter Try.func39, Try.ntmps39
    go_upto_region 0 with fail
    refine wp_region_lit ?_
    refine wl_box (by kernel_rfl) 58 (.tmp 0) rfl (qbC (.slice qa qn qc) (last : Int)) rfl hS ?_
    clear hS
    intro g1 w1 hS
    simp [Act.put]
    refine wl_alloc (by kernel_rfl) 58 rfl (qbC (.slice none 0 0) 0) Try.inQ hS ?_
    clear hS
    intro g2 w2 hS
    simp [Act.put]
    refine wl (by kernel_rfl) fun kQ hkQ => ?_
    go_simp
    refine hkQ _ _ ?_
    clear hkQ kQ
    refine wl (by kernel_rfl) fun kQ hkQ => ?_
    go_simp
    refine hkQ _ _ ?_
    clear hkQ kQ
    refine wpList_nil ?_
    go_upto_region 1 with fail
    refine wp_region_lit ?_
    refine wl_load (by kernel_rfl) 58 (.tmp 2) rfl 1 rfl 0 rfl (qbC (.slice qa qn qc) (last : Int)) (At.self _) Try.underlying58 rfl (sz_Q _ _) hS ?_
    simp [Act.put]
    refine wl (by kernel_rfl) fun kQ hkQ => ?_
    go_simp
    refine hkQ _ _ ?_
    clear hkQ kQ
    refine wl (by kernel_rfl) fun kQ hkQ => ?_
    go_simp
    refine (rget_any w0 ((g2, 58, (qbC (.slice none 0 0) 0)) :: (g1, 58, (qbC (.slice qa qn qc) (last : Int))) :: rows) RQ K qa qn qc qx last hQ _ hS hn z).mono ?_
    clear hS
    rintro e w3 ⟨rfl, hS⟩
    refine hkQ _ _ ?_
    clear hkQ kQ
    refine wl (by kernel_rfl) fun kQ hkQ => ?_
    go_simp
    refine hkQ _ _ ?_
    clear hkQ kQ
    refine wl (by kernel_rfl) fun kQ hkQ => ?_
    go_simp
    refine hkQ _ _ ?_
    clear hkQ kQ
    refine wl (by kernel_rfl) fun kQ hkQ => ?_
    go_simp
    refine hkQ _ _ ?_
    clear hkQ kQ
    refine wl_alloc (by kernel_rfl) 32 rfl (msC 0 0 0 (.slice none 0 0)) Try.inD hS ?_
    clear hS
    intro g4 w4 hS
    simp [Act.put]
    refine wl_store (by kernel_rfl) 32 (.tmp 7) (.tmp 13) rfl 0 rfl 0 rfl (msC ((lkV qx z).i) ((lkV qx z).f) ((lkV qx z).t) ((lkV qx z).s.v)) (msC ((lkV qx z).i) ((lkV qx z).f) ((lkV qx z).t) ((lkV qx z).s.v)) (pt_D 0 0 0 (.slice none 0 0) ((lkV qx z).i) ((lkV qx z).f) ((lkV qx z).t) ((lkV qx z).s.v)) rfl (sz_D _ _ _ _) (one_D _ _ _ rfl) hS ?_
    clear hS
    intro w5 hS
    change Hs17 w0 ((g4, 32, (msC ((lkV qx z).i) ((lkV qx z).f) ((lkV qx z).t) ((lkV qx z).s.v))) :: (g2, 58, (qbC (.slice none 0 0) 0)) :: (g1, 58, (qbC (.slice qa qn qc) (last : Int))) :: (rows ++ RQ)) K w5 at hS
    simp [Act.put]
    refine wl (by kernel_rfl) fun kQ hkQ => ?_
    go_simp
    refine hkQ _ _ ?_
    clear hkQ kQ
    refine wpList_nil ?_
    go_upto_region 3 with fail
    clear hq'
    refine wp_region_lit ?_
    refine wl_load (by kernel_rfl) 58 (.tmp 2) rfl 2 rfl 0 rfl (qbC (.slice qa qn qc) (last : Int)) (At.self _) Try.underlying58 rfl (sz_Q _ _) hS ?_
    simp [Act.put]
    refine wl_store (by kernel_rfl) 58 (.tmp 4) (.tmp 17) rfl 1 rfl 0 rfl (qbC (.slice qa qn qc) (last : Int)) (qbC (.slice qa qn qc) (last : Int)) (pt_Q (.slice none 0 0) 0 (.slice qa qn qc) (last : Int)) rfl (sz_Q _ _) (one_Q _ rfl) hS ?_
    clear hS
    intro w6 hS
    change Hs17 w0 ((g4, 32, (msC ((lkV qx z).i) ((lkV qx z).f) ((lkV qx z).t) ((lkV qx z).s.v))) :: (g2, 58, (qbC (.slice qa qn qc) (last : Int))) :: (g1, 58, (qbC (.slice qa qn qc) (last : Int))) :: (rows ++ RQ)) K w6 at hS
    simp [Act.put]
    refine wl (by kernel_rfl) fun kQ hkQ => ?_
    go_simp
    refine hkQ _ _ ?_
    clear hkQ kQ
    refine wl (by kernel_rfl) fun kQ hkQ => ?_
    go_simp
    refine hkQ _ _ ?_
    clear hkQ kQ
    refine wpList_nil ?_
    go_wp2_with fail
    refine bodyPost_ret (res_ctt rfl hS 1 rfl rfl Try.underlying58 rfl (sz_Q _ _) _ _ rfl rfl) rfl ?_
    replace hS := hS.sub (((((List.Sublist.refl _)).cons _).cons _).cons _)
    exact ⟨qa, qn, qc, RQ, rfl, hQ, hS⟩
end Go.Proofs.Ytaepmfkdnjembaa
