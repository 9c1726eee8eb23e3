import Derived.Test.YtaepmfkdnjembaaOrM24
import Derived.Deep.DeepCutAuto
import Derived.Deep.QuietTactic
import Derived.BigQuiet
set_option linter.unusedSimpArgs false
set_option linter.unusedVariables false
namespace Go.Proofs.Ytaepmfkdnjembaa
open Go.RowKit

theorem own_len24 {w : World} {base : Nat} {s : Sx Ms} (h : w.ownsRow base 32 4 s.v s.xs.length (s.xs.flatMap mC)) : s.xs.length = s.n := by
  obtain ⟨s', e, hx, hs, -⟩ := own_sx h (fun x _ => mC_len x)
  obtain ⟨a, n, c, xs⟩ := s
  obtain ⟨a', n', c', xs'⟩ := s'
  simp only [Sx.v, Value.slice.injEq] at e hx
  obtain ⟨rfl, rfl, rfl⟩ := e
  subst hx
  exact hs.len
theorem lkV_first {ms : List Ms} {z : Int} {k : Nat} {x : Ms} (hx : ms[k]? = some x) (hz : x.i = z) (hn : ∀ j m, j < k → ms[j]? = some m → m.i ≠ z) : lkV ms z = x := by
  unfold lkV lkO
  induction ms generalizing k with
  | nil => simp at hx
  | cons a r ih =>
    cases k with
    | zero => simp at hx; subst hx; simp [hz]
    | succ k =>
      have h0 : (a.i == z) = false := by
        rw [beq_eq_false_iff_ne]
        exact hn 0 a (by omega) rfl
      rw [List.find?_cons, h0]
      exact ih (by simpa using hx) (fun j m hj hm => hn (j + 1) m (by omega) (by simpa using hm))
set_option maxHeartbeats 4000000 in
set_option maxRecDepth 100000 in
theorem rnew_any (w : World) : Calls Try.prog 25 #[] w fun e w' => e = .returned (aV (qbC (.slice none 0 0) 0)) ∧ Below w.heap.size w w' := by
  have hS := Hs17.begin w (fun _ => True) (fun _ _ => trivial)
  go_enter Try.func25, Try.ntmps25
  go_upto_region 0 with fail
  refine wp_region_lit ?_
  refine wl_alloc (by kernel_rfl) 58 rfl (qbC (.slice none 0 0) 0) Try.inQ hS ?_
  clear hS
  intro g1 w1 hS
  simp [Act.put]
  refine wpList_nil ?_
  go_upto_region 1 with fail
  refine wp_region_lit ?_
  refine wv (aV (qbC (.slice none 0 0) 0)) (by kernel_rfl) (ex_build 58 #[] rfl (qbC (.slice none 0 0) 0) b_q0 rfl) ?_
  simp [Act.put]
  refine wl_store (by kernel_rfl) 58 (.tmp 0) (.tmp 1) rfl 0 rfl 0 rfl (qbC (.slice none 0 0) 0) (qbC (.slice none 0 0) 0) (pt_Q (.slice none 0 0) 0 (.slice none 0 0) 0) rfl (sz_Q _ _) (one_Q _ rfl) hS ?_
  clear hS
  intro w2 hS
  change Hs17 w [(g1, 58, (qbC (.slice none 0 0) 0))] (fun _ => True) w2 at hS
  simp [Act.put]
  refine wpList_nil ?_
  go_wp2_with fail
  refine bodyPost_ret (res_c rfl hS 0 rfl rfl Try.underlying58 rfl (sz_Q _ _)  ) rfl ?_
  exact ⟨rfl, hS.bel⟩
set_option maxHeartbeats 4000000 in
set_option maxRecDepth 100000 in
theorem rlen_any (qa : Option Addr) (qn qc : Nat) (z : Int) (w : World) (hn : qn ≤ 4096) :
    Calls Try.prog 27 #[aV (qbC (.slice qa qn qc) z)] w fun e w' => e = .returned (.int .i64 (qn : Int)) ∧ Below w.heap.size w w' := by
  have hS := Hs17.begin w (fun _ => True) (fun _ _ => trivial)
  go_enter Try.func27, Try.ntmps27
  go_upto_region 0 with fail
  refine wp_region_lit ?_
  refine wl_box (by kernel_rfl) 58 (.tmp 0) rfl (qbC (.slice qa qn qc) z) rfl hS ?_
  clear hS
  intro g1 w1 hS
  simp [Act.put]
  refine wl (by kernel_rfl) fun kQ hkQ => ?_
  go_simp
  refine hkQ _ _ ?_
  clear hkQ kQ
  refine wpList_nil ?_
  go_upto_region 1 with fail
  refine wp_region_lit ?_
  refine wl (by kernel_rfl) fun kQ hkQ => ?_
  go_simp
  refine hkQ _ _ ?_
  clear hkQ kQ
  refine wl_load1 (by kernel_rfl) 33 (.tmp 3) rfl 0 rfl 0 rfl ((.slice qa qn qc)) (at_Q0 (.slice qa qn qc) z) Try.underlying33 rfl hS ?_
  simp [Act.put]
  refine wl (by kernel_rfl) fun kQ hkQ => ?_
  go_simp
  refine hkQ _ _ ?_
  clear hkQ kQ
  refine wl (by kernel_rfl) fun kQ hkQ => ?_
  go_simp
  refine hkQ _ _ ?_
  clear hkQ kQ
  refine wpList_nil ?_
  go_wp2_with fail
  go_ret
  exact ⟨rfl, hS.bel⟩
set_option maxHeartbeats 4000000 in
set_option maxRecDepth 100000 in
theorem rroom_any (qa : Option Addr) (qn qc : Nat) (z : Int) (w : World) (hn : qn ≤ 4096) :
    Calls Try.prog 28 #[aV (qbC (.slice qa qn qc) z)] w fun e w' => e = .returned (.int .i64 ((4096 - qn : Nat) : Int)) ∧ Below w.heap.size w w' := by
  have hS := Hs17.begin w (fun _ => True) (fun _ _ => trivial)
  have e1 : IntKind.i64.wrap (4096 - (qn : Int)) = ((4096 - qn : Nat) : Int) := by rw [show (4096 : Int) - (qn : Int) = ((4096 - qn : Nat) : Int) by omega]; exact wi_of24 (by omega) (by omega)
  go_enter Try.func28, Try.ntmps28
  go_upto_region 0 with fail
  refine wp_region_lit ?_
  refine wl_box (by kernel_rfl) 58 (.tmp 0) rfl (qbC (.slice qa qn qc) z) rfl hS ?_
  clear hS
  intro g1 w1 hS
  simp [Act.put]
  refine wl (by kernel_rfl) fun kQ hkQ => ?_
  go_simp
  refine hkQ _ _ ?_
  clear hkQ kQ
  refine wpList_nil ?_
  go_upto_region 1 with fail
  refine wp_region_lit ?_
  refine wl (by kernel_rfl) fun kQ hkQ => ?_
  go_simp
  refine hkQ _ _ ?_
  clear hkQ kQ
  refine wl_load1 (by kernel_rfl) 33 (.tmp 3) rfl 0 rfl 0 rfl ((.slice qa qn qc)) (at_Q0 (.slice qa qn qc) z) Try.underlying33 rfl hS ?_
  simp [Act.put]
  refine wl (by kernel_rfl) fun kQ hkQ => ?_
  go_simp
  refine hkQ _ _ ?_
  clear hkQ kQ
  refine wl (by kernel_rfl) fun kQ hkQ => ?_
  go_simp
  refine hkQ _ _ ?_
  clear hkQ kQ
  refine wl (by kernel_rfl) fun kQ hkQ => ?_
  go_simp
  refine hkQ _ _ ?_
  clear hkQ kQ
  refine wpList_nil ?_
  go_wp2_with fail
  go_ret
  exact ⟨rfl, hS.bel⟩
set_option maxHeartbeats 4000000 in
set_option maxRecDepth 100000 in
theorem rlist_any (w0 : World) (rows RQ : List Row) (K : World → Prop) (qa : Option Addr) (qn qc : Nat) (qx : List Ms) (last : Nat) (hQ : RowG mC 4 32 ⟨qa, qn, qc, qx⟩ qx RQ) (w : World) (hS : Hs17 w0 (rows ++ RQ) K w) (hn : qn ≤ 4096) :
    Calls Try.prog 29 #[aV (qbC (.slice qa qn qc) last)] w fun e w' => ∃ q : Sx Ms, e = .returned q.v ∧ q.xs = qx ∧ ∃ R : List Row, RowG mC 4 32 q q.xs R ∧ Hs17 w0 (rows ++ (RQ ++ R)) K w' := by
  go_enter Try.func29, Try.ntmps29
  go_upto_region 0 with fail
  refine wp_region_lit ?_
  refine wl_box (by kernel_rfl) 58 (.tmp 0) rfl (qbC (.slice qa qn qc) (last : Int)) rfl hS ?_
  clear hS
  intro g1 w1 hS
  simp [Act.put]
  refine wl (by kernel_rfl) fun kQ hkQ => ?_
  go_simp
  refine hkQ _ _ ?_
  clear hkQ kQ
  refine wpList_nil ?_
  go_upto_region 2 with fail
  refine wp_region_lit ?_
  refine wl (by kernel_rfl) fun kQ hkQ => ?_
  go_simp
  refine hkQ _ _ ?_
  clear hkQ kQ
  refine wl (by kernel_rfl) fun kQ hkQ => ?_
  go_simp
  refine hkQ _ _ ?_
  clear hkQ kQ
  refine wl_load1 (by kernel_rfl) 33 (.tmp 5) rfl 0 rfl 0 rfl ((.slice qa qn qc)) (at_Q0 (.slice qa qn qc) (last : Int)) Try.underlying33 rfl hS ?_
  simp [Act.put]
  refine wl_apnm (by kernel_rfl) (.tmp 4) (.tmp 6) rfl rfl ⟨qa, qn, qc, qx⟩ (RowG.sx24 hQ (fun x _ => mC_len x) (fun p hp => by simp [hp]) hS) rfl (by show qn ≤ 1048576; omega) ?_
  intro q w2 hx hO hb1
  obtain ⟨R, hR, hS'⟩ := hS.ownG (f := mC) (l := q.xs) (own_len24 hO) hb1 hO
  replace hS := hS'
  clear hS' hO hb1
  obtain ⟨pa, pn, pc, px⟩ := q
  simp only [Sx.v]
  simp [Act.put]
  refine wl (by kernel_rfl) fun kQ hkQ => ?_
  go_simp
  refine hkQ _ _ ?_
  clear hkQ kQ
  refine wpList_nil ?_
  go_wp2_with fail
  replace hS := hS.sub ((List.Sublist.refl _).cons _)
  go_ret
  exact ⟨⟨pa, pn, pc, px⟩, rfl, hx, R, hR, by rw [← List.append_assoc]; exact hS⟩
set_option maxHeartbeats 4000000 in
set_option maxRecDepth 100000 in
theorem rget_any (w0 : World) (rows RQ : List Row) (K : World → Prop) (qa : Option Addr) (qn qc : Nat) (qx : List Ms) (last : Nat) (hQ : RowG mC 4 32 ⟨qa, qn, qc, qx⟩ qx RQ) (w : World) (hS : Hs17 w0 (rows ++ RQ) K w) (hn : qn ≤ 4096) (z : Int) :
    Calls Try.prog 36 #[aV (qbC (.slice qa qn qc) last), .int .i64 z] w fun e w' => e = .returned (.tuple #[aV (mC (lkV qx z)), .bool (lkB qx z)]) ∧ Hs17 w0 (rows ++ RQ) K w' := by
  have hql : qx.length = qn := hQ.1
  have HQL := hide hql
  clear hql
  go_enter Try.func36, Try.ntmps36
  go_upto_region 0 with fail
  refine wp_region_lit ?_
  refine wl_box (by kernel_rfl) 58 (.tmp 0) rfl (qbC (.slice qa qn qc) (last : Int)) rfl hS ?_
  clear hS
  intro g1 w1 hS
  simp [Act.put]
  refine wl_alloc (by kernel_rfl) 32 rfl (msC 0 0 0 (.slice none 0 0)) Try.inD hS ?_
  clear hS
  intro g2 w2 hS
  simp [Act.put]
  refine wl (by kernel_rfl) fun kQ hkQ => ?_
  go_simp
  refine hkQ _ _ ?_
  clear hkQ kQ
  refine wpList_nil ?_
  go_wp2_with fail
  go_loopw [6] (fun vi wr => ∃ k : Nat, k ≤ qn ∧ vi = .int .i64 k ∧ Hid (∀ j m, j < k → qx[j]? = some m → m.i ≠ z) ∧ Hs17 w0 ((g2, 32, (msC 0 0 0 (.slice none 0 0))) :: (g1, 58, (qbC (.slice qa qn qc) (last : Int))) :: (rows ++ RQ)) K wr) (fun vi _ => qn - (intOf vi).toNat)
  case atStart => exact ⟨0, by omega, rfl, hide (fun j m h => by omega), hS⟩
  case round =>
    clear hS
    obtain ⟨k, hk, rfl, HN, hS⟩ := hrel
    by_cases hlt : k < qn
    · have hkz : (k : Int) < (qn : Int) := by omega
      obtain ⟨x, hx⟩ : ∃ x, qx[k]? = some x := ⟨_, List.getElem?_eq_getElem (by rw [unhide HQL]; exact hlt)⟩
      obtain ⟨b, o, hqa, -, hr0⟩ := Sx.Ok.at_ (RowG.sx24 hQ (fun x _ => mC_len x) (fun p hp => by simp [hp]) hS) (i := k) hx
      have hqa' : qa = some ⟨b, o, none⟩ := hqa
      subst hqa'
      have HR0 := hide hr0
      have HX := hide hx
      clear hqa hx hr0
      have hra : ∀ v, Hs17 w0 ((g2, 32, (msC 0 0 0 (.slice none 0 0))) :: (g1, 58, (qbC (.slice (some ⟨b, o, none⟩) qn qc) (last : Int))) :: (rows ++ RQ)) K v → v.rangeAt b (o + k * 4) (mC x) := fun v hv => by
        obtain ⟨b2, o2, e2, -, hr2⟩ := Sx.Ok.at_ (RowG.sx24 hQ (fun x _ => mC_len x) (fun p hp => by simp [hp]) hv) (i := k) (unhide HX)
        simp only [Option.some.injEq, Addr.mk.injEq] at e2
        obtain ⟨rfl, rfl, -⟩ := e2
        exact hr2
      have hca : ∀ v, Hs17 w0 ((g2, 32, (msC 0 0 0 (.slice none 0 0))) :: (g1, 58, (qbC (.slice (some ⟨b, o, none⟩) qn qc) (last : Int))) :: (rows ++ RQ)) K v → v.cell? ⟨b, o + k * 4, none⟩ = some (.int .i64 x.i) := fun v hv => by
        have := hra v hv 0 _ rfl
        simpa using this
      by_cases hxz : x.i = z
      · skip
        have HZ := hide hxz
        have hlB : lkB qx z = true := by rw [← hxz]; exact lkB_mem (List.mem_of_getElem? (unhide HX))
        have hlV : lkV qx z = x := lkV_first (unhide HX) hxz (fun j m hj hm => unhide HN j m hj hm)
        have HLB := hide hlB
        have HLV := hide hlV
        clear hlB hlV
        go_upto_region 2 with fail
        refine wp_region_lit ?_
        refine wl (by kernel_rfl) fun kQ hkQ => ?_
        go_simp
        refine hkQ _ _ ?_
        clear hkQ kQ
        refine wl (by kernel_rfl) fun kQ hkQ => ?_
        go_simp
        refine hkQ _ _ ?_
        clear hkQ kQ
        refine wl_load1 (by kernel_rfl) 33 (.tmp 8) rfl 1 rfl 0 rfl ((.slice (some ⟨b, o, none⟩) qn qc)) (at_Q0 (.slice (some ⟨b, o, none⟩) qn qc) (last : Int)) Try.underlying33 rfl hS ?_
        simp [Act.put]
        refine wl (by kernel_rfl) fun kQ hkQ => ?_
        go_simp
        refine hkQ _ _ ?_
        clear hkQ kQ
        refine wl (by kernel_rfl) fun kQ hkQ => ?_
        go_simp
        refine hkQ _ _ ?_
        clear hkQ kQ
        refine wpList_nil ?_
        go_upto_region 4 with fail
        clear hkz
        have hkz : (k : Int) < (qn : Int) := by omega
        refine wp_region_lit ?_
        refine wl (by kernel_rfl) fun kQ hkQ => ?_
        go_simp
        refine hkQ _ _ ?_
        clear hkQ kQ
        refine wl_load1 (by kernel_rfl) 33 (.tmp 14) rfl 1 rfl 0 rfl ((.slice (some ⟨b, o, none⟩) qn qc)) (at_Q0 (.slice (some ⟨b, o, none⟩) qn qc) (last : Int)) Try.underlying33 rfl hS ?_
        simp [Act.put]
        refine wl (by kernel_rfl) fun kQ hkQ => ?_
        go_simp
        refine hkQ _ _ ?_
        clear hkQ kQ
        refine wl (by kernel_rfl) fun kQ hkQ => ?_
        go_simp
        refine hkQ _ _ ?_
        clear hkQ kQ
        refine wl (by kernel_rfl) fun kQ hkQ => ?_
        go_simp
        refine hkQ _ _ ?_
        clear hkQ kQ
        refine wl_loadC (by kernel_rfl) 3 (.tmp 18) rfl b (o + k * 4) rfl (.int .i64 x.i) (hca _ hS) Try.underlying3 rfl ?_
        simp [Act.put]
        refine wl (by kernel_rfl) fun kQ hkQ => ?_
        go_simp
        refine hkQ _ _ ?_
        clear hkQ kQ
        refine wl (by kernel_rfl) fun kQ hkQ => ?_
        go_simp
        refine hkQ _ _ ?_
        clear hkQ kQ
        refine wpList_nil ?_
        go_upto_region 5 with fail
        clear hxz
        refine wp_region_lit ?_
        refine wl (by kernel_rfl) fun kQ hkQ => ?_
        go_simp
        refine hkQ _ _ ?_
        clear hkQ kQ
        refine wl_load1 (by kernel_rfl) 33 (.tmp 22) rfl 1 rfl 0 rfl ((.slice (some ⟨b, o, none⟩) qn qc)) (at_Q0 (.slice (some ⟨b, o, none⟩) qn qc) (last : Int)) Try.underlying33 rfl hS ?_
        simp [Act.put]
        refine wl (by kernel_rfl) fun kQ hkQ => ?_
        go_simp
        refine hkQ _ _ ?_
        clear hkQ kQ
        refine wl (by kernel_rfl) fun kQ hkQ => ?_
        go_simp
        refine hkQ _ _ ?_
        clear hkQ kQ
        refine wv (aV (msC x.i x.f x.t x.s.v)) (by kernel_rfl) (ex_loadR 32 (.tmp 25) rfl b (o + k * 4) rfl (msC x.i x.f x.t x.s.v) (hra _ hS) Try.underlying32 rfl (sz_D _ _ _ _)) ?_
        simp [Act.put]
        refine wl_store (by kernel_rfl) 32 (.tmp 4) (.tmp 26) rfl 0 rfl 0 rfl (msC x.i x.f x.t x.s.v) (msC x.i x.f x.t x.s.v) (pt_D 0 0 0 (.slice none 0 0) x.i x.f x.t x.s.v) rfl (sz_D _ _ _ _) (one_D _ _ _ rfl) hS ?_
        clear hS
        intro w21 hS
        change Hs17 w0 ((g2, 32, (msC x.i x.f x.t x.s.v)) :: (g1, 58, (qbC (.slice (some ⟨b, o, none⟩) qn qc) (last : Int))) :: (rows ++ RQ)) K w21 at hS
        simp [Act.put]
        refine wl (by kernel_rfl) fun kQ hkQ => ?_
        go_simp
        refine hkQ _ _ ?_
        clear hkQ kQ
        refine wpList_nil ?_
        go_wp2_with fail
        refine bodyPost_ret (res_ct rfl hS 0 rfl rfl Try.underlying32 rfl (sz_D _ _ _ _) _ rfl) rfl ?_
        replace hS := hS.sub ((((List.Sublist.refl _)).cons _).cons _)
        exact ⟨by rw [unhide HLB, unhide HLV]; rfl, hS⟩
      · skip
        go_upto_region 2 with fail
        refine wp_region_lit ?_
        refine wl (by kernel_rfl) fun kQ hkQ => ?_
        go_simp
        refine hkQ _ _ ?_
        clear hkQ kQ
        refine wl (by kernel_rfl) fun kQ hkQ => ?_
        go_simp
        refine hkQ _ _ ?_
        clear hkQ kQ
        refine wl_load1 (by kernel_rfl) 33 (.tmp 8) rfl 1 rfl 0 rfl ((.slice (some ⟨b, o, none⟩) qn qc)) (at_Q0 (.slice (some ⟨b, o, none⟩) qn qc) (last : Int)) Try.underlying33 rfl hS ?_
        simp [Act.put]
        refine wl (by kernel_rfl) fun kQ hkQ => ?_
        go_simp
        refine hkQ _ _ ?_
        clear hkQ kQ
        refine wl (by kernel_rfl) fun kQ hkQ => ?_
        go_simp
        refine hkQ _ _ ?_
        clear hkQ kQ
        refine wpList_nil ?_
        go_upto_region 4 with fail
        clear hkz
        have hkz : (k : Int) < (qn : Int) := by omega
        refine wp_region_lit ?_
        refine wl (by kernel_rfl) fun kQ hkQ => ?_
        go_simp
        refine hkQ _ _ ?_
        clear hkQ kQ
        refine wl_load1 (by kernel_rfl) 33 (.tmp 14) rfl 1 rfl 0 rfl ((.slice (some ⟨b, o, none⟩) qn qc)) (at_Q0 (.slice (some ⟨b, o, none⟩) qn qc) (last : Int)) Try.underlying33 rfl hS ?_
        simp [Act.put]
        refine wl (by kernel_rfl) fun kQ hkQ => ?_
        go_simp
        refine hkQ _ _ ?_
        clear hkQ kQ
        refine wl (by kernel_rfl) fun kQ hkQ => ?_
        go_simp
        refine hkQ _ _ ?_
        clear hkQ kQ
        refine wl (by kernel_rfl) fun kQ hkQ => ?_
        go_simp
        refine hkQ _ _ ?_
        clear hkQ kQ
        refine wl_loadC (by kernel_rfl) 3 (.tmp 18) rfl b (o + k * 4) rfl (.int .i64 x.i) (hca _ hS) Try.underlying3 rfl ?_
        simp [Act.put]
        refine wl (by kernel_rfl) fun kQ hkQ => ?_
        go_simp
        refine hkQ _ _ ?_
        clear hkQ kQ
        refine wl (by kernel_rfl) fun kQ hkQ => ?_
        go_simp
        refine hkQ _ _ ?_
        clear hkQ kQ
        refine wpList_nil ?_
        go_wp2_with fail
        go_roundw
        case rel =>
          refine ⟨k + 1, by omega, by go_num, hide (fun j m hj hm => ?_), hS⟩
          by_cases hjk : j < k
          · exact unhide HN j m hjk hm
          · have : j = k := by omega
            subst this
            have h9 := unhide HX
            rw [h9] at hm
            simp only [Option.some.injEq] at hm
            subst hm; exact hxz
        case measure => simp [intOf]; omega
    · obtain rfl : qn = k := by omega
      have hkz : ¬ (qn : Int) < (qn : Int) := by omega
      have hlB : lkB qx z = false := by
        cases hq : lkB qx z with
        | false => rfl
        | true =>
          obtain ⟨m, hm, he⟩ := List.any_eq_true.1 hq
          obtain ⟨j, hj⟩ := List.mem_iff_getElem?.1 hm
          have h1 := (List.getElem?_eq_some_iff.1 hj).1
          rw [unhide HQL] at h1
          exact absurd (by simpa using he) (unhide HN j m h1 hj)
      have HLB := hide hlB
      have HLV := hide (lkB_no hlB)
      clear hlB hlt hk
      go_upto_region 2 with fail
      refine wp_region_lit ?_
      refine wl (by kernel_rfl) fun kQ hkQ => ?_
      go_simp
      refine hkQ _ _ ?_
      clear hkQ kQ
      refine wl (by kernel_rfl) fun kQ hkQ => ?_
      go_simp
      refine hkQ _ _ ?_
      clear hkQ kQ
      refine wl_load1 (by kernel_rfl) 33 (.tmp 8) rfl 1 rfl 0 rfl ((.slice qa qn qc)) (at_Q0 (.slice qa qn qc) (last : Int)) Try.underlying33 rfl hS ?_
      simp [Act.put]
      refine wl (by kernel_rfl) fun kQ hkQ => ?_
      go_simp
      refine hkQ _ _ ?_
      clear hkQ kQ
      refine wl (by kernel_rfl) fun kQ hkQ => ?_
      go_simp
      refine hkQ _ _ ?_
      clear hkQ kQ
      refine wpList_nil ?_
      go_upto_region 6 with fail
      clear hkz
      refine wp_region_lit ?_
      refine wv (aV (msC 0 0 0 (.slice none 0 0))) (by kernel_rfl) (ex_build 32 #[] rfl (msC 0 0 0 (.slice none 0 0)) b_d0 rfl) ?_
      simp [Act.put]
      refine wl_store (by kernel_rfl) 32 (.tmp 4) (.tmp 27) rfl 0 rfl 0 rfl (msC 0 0 0 (.slice none 0 0)) (msC 0 0 0 (.slice none 0 0)) (pt_D 0 0 0 (.slice none 0 0) 0 0 0 (.slice none 0 0)) rfl (sz_D _ _ _ _) (one_D _ _ _ rfl) hS ?_
      clear hS
      intro w301 hS
      change Hs17 w0 ((g2, 32, (msC 0 0 0 (.slice none 0 0))) :: (g1, 58, (qbC (.slice qa qn qc) (last : Int))) :: (rows ++ RQ)) K w301 at hS
      simp [Act.put]
      refine wl (by kernel_rfl) fun kQ hkQ => ?_
      go_simp
      refine hkQ _ _ ?_
      clear hkQ kQ
      refine wpList_nil ?_
      go_wp2_with fail
      refine bodyPost_ret (res_ct rfl hS 0 rfl rfl Try.underlying32 rfl (sz_D _ _ _ _) _ rfl) rfl ?_
      replace hS := hS.sub ((((List.Sublist.refl _)).cons _).cons _)
      exact ⟨by rw [unhide HLB, unhide HLV]; rfl, hS⟩
end Go.Proofs.Ytaepmfkdnjembaa
