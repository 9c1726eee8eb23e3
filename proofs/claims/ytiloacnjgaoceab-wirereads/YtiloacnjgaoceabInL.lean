import Derived.Test.YtiloacnjgaoceabInX
namespace Go.Proofs.Ytiloacnjgaoceab
open Go.RowKit
set_option linter.unusedVariables false

/-- a row of one's own grows beside the document's Reader -/
theorem app_step_i {w w' w2 : World} {p k t t' : Nat} {b : Sl} {f f0 : Int} {lv : Value} {xs : List Value} {ob : Obj} (h : Inr w p b t f0) (hB : But p w w') (hown : w'.ownsRow w.heap.size 31 1 lv k xs)
    (hg : (w'.alloc ob).grownBy w2 lv.ownBlock) (hR : Inr w' p b t' f) : But p w w2 ∧ Inr w2 p b t' f := by
  have hb := below_one w' ob
  have hX : Buts (fun i => lv.ownBlock = some i) w' w2 := ⟨hg.os.trans hb.os, hg.tape.trans hb.tape, hg.output.trans hb.output, Nat.le_trans hb.size hg.size, fun i hi hs => (hg.block i (Nat.lt_of_lt_of_le hi hb.size) (fun e => hs e.symm)).trans (hb.block i hi)⟩
  refine ⟨((Buts.of_but hB).trans' hX (fun i hi e => ?_)).to_but, hR.keep hX (own_arr_ne hown hR.arr (by decide)) (fun hl x hx e => ?_)⟩
  · have := (hown.lt i e).1; omega
  · have h1 := (h.off hl x hx).2
    have h2 := (hown.lt _ e).1
    omega

set_option maxHeartbeats 2000000 in
set_option maxRecDepth 100000 in
theorem iList_any (p : Nat) (b : Sl) (t : Nat) (f : Int) (most : Int) (w : World) (h : Inr w p b t f) (hm : b.n ≤ 1099511627776) (hmo : most ≤ 9223372036854775807) :
    Calls Try.prog 60 #[.pointer (some ⟨p, 0, none⟩), .int .i64 most] w (IPost isQ8 p b (gList most (b.l.drop t, f)) w) := by
  obtain ⟨i0, hi, hz0, hz1, hz2⟩ := info_parts Try.infoQ
  have hR := iCount_any p b t f most w h hm hmo
  have hplt := h.arr.lt
  have hLB : ∀ k, IsB (b.l.drop k) := fun k c hc => h.ok.isB c (List.mem_of_mem_drop hc)
  by_cases hq : f = 0 ∧ ∃ n r, pCount most (b.l.drop t) = .ok (n, r)
  · obtain ⟨rfl, n, r, hP⟩ := hq
    obtain ⟨hn1, hn2, hn3⟩ := pCount_bd (hLB t) hP
    have hlen := h.ok.len
    have hlen2 : (b.l.drop t).length ≤ b.n := by rw [List.length_drop, hlen]; omega
    have hnb : n ≤ 1099511627776 := by omega
    have HG : Hid (gList most (b.l.drop t, 0) = match gNums n r with | .error (c, l) => ([], l, c) | .ok (xs, r') => (xs, r', 0)) := by
      unfold gList; rw [if_neg (by simp)]; simp only; rw [hP]; exact hide rfl
    rw [face0, hP] at hR
    simp only at hR
    clear hP hlen hlen2 hn1 hn2 hn3
    go_enter Try.func60, Try.ntmps60
    go_wp2_with fail
    refine hR.mono ?_
    rintro e w1 ⟨hB1, v, t1, rfl, hV, hRt, htr⟩
    simp only [isN] at hV hRt htr
    subst hV
    have HTR := hide htr
    clear hR htr
    go_wp2_with fail
    go_loopw [6, 7] (fun lv j wr => ∃ (k t2 : Nat) (acc : List Int), k ≤ n ∧ j = .int .i64 k ∧ wr.ownsRow w.heap.size 31 1 lv k (Q8 acc) ∧ Hid (IsQ acc) ∧ Inr wr p b t2 0 ∧ Hid (gNums n r = gJoin acc (gNums (n - k) (b.l.drop t2))) ∧ But p w wr)
      (fun _ j _ => n - (intOf j).toNat)
    case atStart => exact ⟨0, t1, [], by omega, rfl, ⟨rfl, .inl ⟨rfl, rfl⟩⟩, hide (fun x hx => by simp at hx), hRt, hide (by rw [gJoin_nil, unhide HTR]; rfl), hB1⟩
    case round =>
      clear hRt hB1
      obtain ⟨k, t2, acc, hk, rfl, hown, HQ, hR2, HN, hBk⟩ := hrel
      obtain ⟨la, lc, rfl⟩ := own_parts hown
      by_cases hlt : k < n
      · have hG := iUint_any p b t2 0 wr hR2 hm
        rw [face0] at hG
        cases hU : pUint (b.l.drop t2) with
        | error c =>
          rw [hU] at hG
          simp only at hG
          have HE : Hid (gNums n r = .error (c, b.l.drop t2)) := by rw [unhide HN, show n - k = (n - k - 1) + 1 from by omega, gNums_err hU]; exact hide rfl
          have hc := pUint_err hU
          subst hc
          clear hU
          go_wp2_with fail
          refine hG.mono ?_
          rintro e w' ⟨hB', v, t3, rfl, hV, hR3, htr3⟩
          simp only [isI] at hV hR3 htr3
          subst hV
          have c2 : w'.cell? ⟨p, 2, none⟩ = some (.int .i64 90) := hR3.cells.2.2.1
          clear hG
          go_wp2_with fail
          go_ret
          rw [unhide HG, unhide HE]
          exact ⟨hBk.trans hB', _, t3, rfl, isQ8_nil _ _, hR3, htr3⟩
        | ok q =>
          obtain ⟨x, r2⟩ := q
          rw [hU] at hG
          simp only at hG
          have hbd := pUint_bd (hLB t2) hU
          have HE : Hid (gNums n r = gJoin (acc ++ [x]) (gNums (n - (k + 1)) r2)) := by rw [unhide HN, show n - k = (n - (k + 1)) + 1 from by omega, gNums_succ hU]; exact hide rfl
          have hx0 := hbd.1
          have hx1 := hbd.2.1
          have HQ' : Hid (IsQ (acc ++ [x])) := hide (IsQ.append (unhide HQ) (fun y hy => by simp at hy; omega))
          clear hU hbd HN
          go_wp2_with fail
          refine hG.mono ?_
          rintro e w' ⟨hB', v, t3, rfl, hV, hR3, htr3⟩
          simp only [isI] at hV hR3 htr3
          subst hV
          have c2 : w'.cell? ⟨p, 2, none⟩ = some (.int .i64 0) := hR3.cells.2.2.1
          have hown1 := own_but hB' hown hR2.arr (by decide)
          have hown2 := own_later hown1 (below_one w' (.cells #[.int .u64 x] 31))
          clear hG
          go_wp2_with (at_builtin; refine wpList_append_own_at rfl _ _ 32 rfl w.heap.size 31 i0 (.int .u64 0) 1 8 Try.underlying32 hi hz0 hz1 hz2 rfl (by decide) (.slice la k lc) k (Q8 acc) rfl hown2 ⟨w'.heap.size, 0, none⟩ 1 1 [.int .u64 x] rfl rfl (oneq_cells w' x) (q_one _) (by unfold maxLen; omega) (by omega) (by have := hBk.size; have := hB'.size; simp; omega) ?_; intro v' w2 hown3 hgrow hat)
          go_roundw
          case rel =>
            obtain ⟨hB2, hR4⟩ := app_step_i h (hBk.trans hB') hown1 (unhide hgrow) hR3
            refine ⟨k + 1, t3, acc ++ [x], by omega, by go_num, by rw [← Q8_snoc]; exact unhide hown3, HQ', hR4, ?_, hB2⟩
            rw [htr3]; exact HE
          case measure => simp [intOf]; omega
      · have : k = n := by omega
        subst this
        have HE : Hid (gNums k r = .ok (acc, b.l.drop t2)) := by rw [unhide HN, Nat.sub_self, gNums]; simp only [gJoin, List.append_nil]; exact hide trivial
        go_wp2
        go_ret
        rw [unhide HG, unhide HE]
        have hkl : acc.length = k := by have := hown.1; simpa using this
        refine ⟨hBk, _, t2, rfl, ⟨?_, unhide HQ⟩, hR2, rfl⟩
        rw [hkl]; exact hown
  · have HG : Hid (∃ f', gList most (b.l.drop t, f) = ([], b.l.drop t, f') ∧ face 0 (pCount most) (b.l.drop t, f) = (0, b.l.drop t, f')) := by
      unfold gList
      by_cases hf : f = 0
      · subst hf
        rw [if_neg (by simp), face0]
        simp only
        cases hP : pCount most (b.l.drop t) with
        | error c => exact hide ⟨c, rfl, rfl⟩
        | ok q => exact absurd ⟨rfl, q.1, q.2, hP⟩ hq
      · rw [if_pos hf, face1 _ _ _ _ hf]; exact hide ⟨f, rfl, rfl⟩
    obtain ⟨f', hg, hg2⟩ := unhide HG
    rw [hg]
    rw [hg2] at hR
    clear HG hg hg2 hq
    go_enter Try.func60, Try.ntmps60
    go_wp2_with fail
    refine hR.mono ?_
    rintro e w1 ⟨hB1, v, t1, rfl, hV, hRt, htr⟩
    simp only [isN] at hV hRt htr
    subst hV
    have HTR := hide htr
    clear hR htr
    go_wp2_with fail
    refine wp_loop_rounds 1 ?_
    rw [rounds_succ]
    go_wp2
    go_ret
    exact ⟨hB1, _, t1, rfl, isQ8_nil _ _, hRt, unhide HTR⟩
end Go.Proofs.Ytiloacnjgaoceab
