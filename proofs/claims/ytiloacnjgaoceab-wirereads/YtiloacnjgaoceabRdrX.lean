import Derived.Test.YtiloacnjgaoceabRdrM
import Derived.Test.YtiloacnjgaoceabAppT
namespace Go.Proofs.Ytiloacnjgaoceab
open Go.RowKit

set_option maxHeartbeats 1000000 in
set_option maxRecDepth 100000 in
theorem get1_any (p : Nat) (s : Sl) (f : Int) (w : World) (h : Rdr w p s f) :
    Calls Try.prog 52 #[.pointer (some ⟨p, 0, none⟩)] w (Fac (isI .u64) (.int .u64 0) p s f (pUint s.l) w) := by
  go_enter Try.func52, Try.ntmps52
  go_wp2_with (go_at_call 48; refine (rUint_any p s f w h).mono ?_; rintro e w' hF; obtain ⟨v, rfl⟩ := hF.ret)
  go_ret
  exact hF

theorem q_one (x : Int) : ∀ u ∈ [Value.int .u64 x], u.oneCell' = true := by intro u hu; simp at hu; subst hu; rfl
theorem Q8_snoc (l : List Int) (x : Int) : Q8 l ++ [.int .u64 x] = Q8 (l ++ [x]) := by simp [Q8]

theorem pUint_err {l : List Int} {c : Int} (h : pUint l = .error c) : c = 90 := by
  unfold pUint at h
  cases hD : shoD l with
  | none => rw [hD] at h; simp only [ofD, Except.error.injEq] at h; exact h.symm
  | some q => obtain ⟨y, r⟩ := q; rw [hD] at h; simp [ofD] at h
theorem own_but {p : Nat} {w w' : World} (hB : But p w w') {base e n : Nat} {v : Value} {xs l : List Value} {ty : TypeId} (h : w.ownsRow base e 1 v n xs) (hA : Arr w p ty l) (ht : ty ≠ e) : w'.ownsRow base e 1 v n xs :=
  (Buts.of_but hB).own h (fun g hg e1 => own_arr_ne h hA ht (by rw [hg, e1]))
/-- one number in new memory -/
theorem oneq_cells (w : World) (x : Int) : ∀ (j : Nat) (u : Value), ([Value.int .u64 x] : List Value)[j]? = some u → (w.alloc (.cells #[.int .u64 x] 31)).cell? ((⟨w.heap.size, 0, none⟩ : Addr).add j) = some u := by
  intro j u hu
  have hA : Arr (w.alloc (.cells #[.int .u64 x] 31)) w.heap.size 31 [.int .u64 x] := Arr.new w _ [.int .u64 x]
  rw [addr_add, Nat.zero_add, hA.cell j]; exact hu

/-- a row of one's own grows beside a Reader -/
theorem app_step {w w' w2 : World} {p k : Nat} {s t : Sl} {f f0 : Int} {lv : Value} {xs : List Value} {ob : Obj} (h : Rdr w p s f0) (hB : But p w w') (hown : w'.ownsRow w.heap.size 31 1 lv k xs)
    (hg : (w'.alloc ob).grownBy w2 lv.ownBlock) (hR : Rdr w' p t f) (hS : s.Same t) : But p w w2 ∧ Rdr w2 p t f := by
  have hb := below_one w' ob
  have hX : Buts (fun i => lv.ownBlock = some i) w' w2 := ⟨hg.os.trans hb.os, hg.tape.trans hb.tape, hg.output.trans hb.output, Nat.le_trans hb.size hg.size, fun i hi hs => (hg.block i (Nat.lt_of_lt_of_le hi hb.size) (fun e => hs e.symm)).trans (hb.block i hi)⟩
  refine ⟨((Buts.of_but hB).trans' hX (fun i hi e => ?_)).to_but, hR.keep hX (own_arr_ne hown hR.arr (by decide)) (fun _ x hx e => ?_)⟩
  · have := (hown.lt i e).1; omega
  · obtain ⟨y, hy, e1⟩ := hS x hx
    have h1 := (h.off y hy).2
    have h2 := (hown.lt _ e).1
    omega

set_option maxHeartbeats 2000000 in
set_option maxRecDepth 100000 in
theorem rList_any (p : Nat) (s : Sl) (f : Int) (most : Int) (w : World) (h : Rdr w p s f) (hmo : most ≤ 9223372036854775807) (hm : s.n ≤ 1099511627776) :
    Calls Try.prog 51 #[.pointer (some ⟨p, 0, none⟩), .int .i64 most, .func (.func 52) #[] #[]] w (RPost isQ8 p s (gList most (s.l, f)) w) := by
  obtain ⟨i0, hi, hz0, hz1, hz2⟩ := info_parts Try.infoQ
  have hmf : ∀ (fn : Fn) (first cap : Array Value) (w : World), (Instr.makeFunc fn first cap).run Try.prog w = .ok (.func fn first cap) w := fun _ _ _ _ => rfl
  have hb : Below w.heap.size w (w.alloc (.cells #[.int .i64 most] 3)) := (Below.refl _ _).alloc (Nat.le_refl _) _
  have hA : Arr (w.alloc (.cells #[.int .i64 most] 3)) w.heap.size 3 [.int .i64 most] := Arr.new w _ [.int .i64 most]
  have hR := read_list p s f _ w.heap.size most (h.later hb) hA hmo
  have hplt := h.arr.lt
  -- what the first call answers
  by_cases hq : f = 0 ∧ ∃ n r, pCount most s.l = .ok (n, r)
  · obtain ⟨rfl, n, r, hP⟩ := hq
    obtain ⟨hn1, hn2, hn3⟩ := pCount_bd h.ok.isB hP
    have hlen := h.ok.len
    have HG : Hid (gList most (s.l, 0) = match gNums n r with | .error (c, l) => ([], l, c) | .ok (xs, r') => (xs, r', 0)) := by
      unfold gList; rw [if_neg (by simp)]; simp only; rw [hP]; exact hide rfl
    rw [hP] at hR
    clear hP
    go_enter Try.func51, Try.ntmps51
    go_wp2_with (go_at_call 74; refine hR.mono ?_; rintro e w1 ⟨hB, hF⟩; rw [if_neg (by simp)] at hF; obtain ⟨v, t, rfl, hV, hRt, htr, hS⟩ := hF; simp only [isN] at hV; subst hV)
    have hB1 : But p w w1 := ⟨hB.os.trans hb.os, hB.tape.trans hb.tape, hB.output.trans hb.output, Nat.le_trans hb.size hB.size, fun k hk hp => (hB.block k (Nat.lt_of_lt_of_le hk hb.size) hp).trans (hb.block k hk)⟩
    clear hR hB hb hA
    go_loopw [8, 13] (fun lv j wr => ∃ (k : Nat) (t : Sl) (acc : List Int), k ≤ n ∧ j = .int .i64 k ∧ wr.ownsRow w.heap.size 31 1 lv k (Q8 acc) ∧ Hid (IsQ acc) ∧ Rdr wr p t 0 ∧ s.Same t ∧ Hid (gNums n r = gJoin acc (gNums (n - k) t.l)) ∧ But p w wr)
      (fun _ j _ => n - (intOf j).toNat)
    case atStart => exact ⟨0, t, [], by omega, rfl, ⟨rfl, .inl ⟨rfl, rfl⟩⟩, hide (fun x hx => by simp at hx), hRt, hS, hide (by rw [gJoin_nil, htr]; rfl), hB1⟩
    case round =>
      clear hS hRt htr hB1
      obtain ⟨k, t2, acc, hk, rfl, hown, HQ, hR2, hS2, HN, hBk⟩ := hrel
      obtain ⟨la, lc, rfl⟩ := own_parts hown
      by_cases hlt : k < n
      · have hG := get1_any p t2 0 wr hR2
        cases hU : pUint t2.l with
        | error c =>
          rw [hU] at hG
          have HE : Hid (gNums n r = .error (c, t2.l)) := by rw [unhide HN, show n - k = (n - k - 1) + 1 from by omega, gNums_err hU]; exact hide rfl
          have hc := pUint_err hU
          subst hc
          clear hU
          go_wp2_with (first
            | (go_at_call 52; refine hG.mono ?_; rintro e w' ⟨hB', hF⟩; rw [if_neg (by simp)] at hF; obtain ⟨rfl, hR3⟩ := hF
               have hown1 := own_but hB' hown hR2.arr (by decide)
               have hown2 := own_later hown1 (below_one w' (.cells #[.int .u64 0] 31)))
            | (at_builtin; refine wpList_append_own_at rfl _ _ 32 rfl w.heap.size 31 i0 (.int .u64 0) 1 8 Try.underlying32 hi hz0 hz1 hz2 rfl (by decide) (.slice la k lc) k (Q8 acc) rfl hown2 ⟨w'.heap.size, 0, none⟩ 1 1 [.int .u64 0] rfl rfl (oneq_cells w' 0) (q_one _) (by unfold maxLen; omega) (by omega) (by have := hBk.size; have := hB'.size; simp; omega) ?_; intro v' w2 hown3 hgrow hat
               obtain ⟨hB2, hR4⟩ := app_step h (hBk.trans hB') hown1 (unhide hgrow) hR3 hS2
               have c1 : w2.cell? ⟨p, 1, none⟩ = some (.int .i64 90) := by simpa using hR4.arr.cell 1))
          go_ret
          rw [unhide HG, unhide HE]
          exact ⟨hB2, _, t2, rfl, isQ8_nil _ _, hR4, rfl, hS2⟩
        | ok q =>
          obtain ⟨x, r2⟩ := q
          rw [hU] at hG
          have hbd := pUint_bd hR2.ok.isB hU
          have HE : Hid (gNums n r = gJoin (acc ++ [x]) (gNums (n - (k + 1)) r2)) := by rw [unhide HN, show n - k = (n - (k + 1)) + 1 from by omega, gNums_succ hU]; exact hide rfl
          have hx0 := hbd.1
          have hx1 := hbd.2.1
          have HQ' : Hid (IsQ (acc ++ [x])) := hide (IsQ.append (unhide HQ) (fun y hy => by simp at hy; omega))
          clear hU hbd HN
          go_wp2_with (first
            | (go_at_call 52; refine hG.mono ?_; rintro e w' ⟨hB', hF⟩; rw [if_neg (by simp)] at hF; obtain ⟨v, t3, rfl, hV, hR3, htr3, hS3⟩ := hF; simp only [isI] at hV; subst hV
               have hown1 := own_but hB' hown hR2.arr (by decide)
               have hown2 := own_later hown1 (below_one w' (.cells #[.int .u64 x] 31)))
            | (at_builtin; refine wpList_append_own_at rfl _ _ 32 rfl w.heap.size 31 i0 (.int .u64 0) 1 8 Try.underlying32 hi hz0 hz1 hz2 rfl (by decide) (.slice la k lc) k (Q8 acc) rfl hown2 ⟨w'.heap.size, 0, none⟩ 1 1 [.int .u64 x] rfl rfl (oneq_cells w' x) (q_one _) (by unfold maxLen; omega) (by omega) (by have := hBk.size; have := hB'.size; simp; omega) ?_; intro v' w2 hown3 hgrow hat
               obtain ⟨hB2, hR4⟩ := app_step h (hBk.trans hB') hown1 (unhide hgrow) hR3 (hS2.trans hS3)
               have c1 : w2.cell? ⟨p, 1, none⟩ = some (.int .i64 0) := by simpa using hR4.arr.cell 1))
          go_roundw
          case rel =>
            refine ⟨k + 1, t3, acc ++ [x], by omega, by go_num, by rw [← Q8_snoc]; exact unhide hown3, HQ', hR4, hS2.trans hS3, ?_, hB2⟩
            rw [htr3]; exact HE
          case measure => simp [intOf]; omega
      · have : k = n := by omega
        subst this
        have HE : Hid (gNums k r = .ok (acc, t2.l)) := by rw [unhide HN, Nat.sub_self, gNums]; simp only [gJoin, List.append_nil]; exact hide trivial
        go_wp2
        go_ret
        rw [unhide HG, unhide HE]
        have hkl : acc.length = k := by have := hown.1; simpa using this
        refine ⟨hBk, _, t2, rfl, ⟨?_, unhide HQ⟩, hR2, rfl, hS2⟩
        rw [hkl]; exact hown
  · have HG : Hid (∃ f', gList most (s.l, f) = ([], s.l, f') ∧ ((f ≠ 0 ∧ f' = f) ∨ (f = 0 ∧ pCount most s.l = .error f'))) := by
      unfold gList
      by_cases hf : f = 0
      · subst hf
        rw [if_neg (by simp)]
        simp only
        cases hP : pCount most s.l with
        | error c => exact hide ⟨c, rfl, .inr ⟨trivial, rfl⟩⟩
        | ok q => exact absurd ⟨rfl, q.1, q.2, hP⟩ hq
      · rw [if_pos hf]; exact hide ⟨f, rfl, .inl ⟨hf, rfl⟩⟩
    obtain ⟨f', hg, hcase⟩ := unhide HG
    rw [hg]
    have hR' : Calls Try.prog 74 #[.pointer (some ⟨p, 0, none⟩), .func (.func 75) #[] #[.pointer (some ⟨w.heap.size, 0, none⟩)]] (w.alloc (.cells #[.int .i64 most] 3)) fun e w' => e = .returned (.int .i64 0) ∧ But p w w' ∧ Rdr w' p s f' := by
      refine hR.mono ?_
      rintro e w' hF
      obtain ⟨hB, hF⟩ := hF.early lasts_N hb
      rcases hcase with ⟨h1, rfl⟩ | ⟨rfl, h2⟩
      · rw [if_pos h1] at hF; exact ⟨hF.1, hB, hF.2⟩
      · rw [if_neg (by simp), h2] at hF; exact ⟨hF.1, hB, hF.2⟩
    clear hR hcase HG hg hq
    go_enter Try.func51, Try.ntmps51
    go_wp2_with (go_at_call 74; refine hR'.mono ?_; rintro e w1 ⟨rfl, hB, hRt⟩)
    refine wp_loop_rounds 1 ?_
    rw [rounds_succ]
    go_wp2
    go_ret
    exact ⟨hB, _, s, rfl, isQ8_nil _ _, hRt, rfl, Sl.Same.refl s⟩
end Go.Proofs.Ytiloacnjgaoceab
