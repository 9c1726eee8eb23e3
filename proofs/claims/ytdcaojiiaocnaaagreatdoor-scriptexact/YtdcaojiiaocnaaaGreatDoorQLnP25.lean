import Derived.Test.YtdcaojiiaocnaaaGreatDoorQGbiZ
import Derived.Maps.AppendAt
set_option linter.unusedSimpArgs false
set_option linter.unusedVariables false
namespace Go.Proofs.YtdcaojiiaocnaaaGreatDoor
open Go.RowKit Go.Shelf

attribute [local go_sem] Oper.semAt_some

/-! The program's Lines. -/
theorem Tryz.infoS : (Tryz.prog.info? 28).map (fun i => (i.zero, i.size, i.bytes)) = some (some (.slice none 0 0), 1, 24) := by kernel_rfl
theorem ap25 {F : Fence} {n : Nat} {o : Oper} {a : Act} {w : World} {K : Act → World → Prop} {Q : Exit → Act → World → Prop} (s x : Operand) (ho : o.op = .call { callee := .builtin .append, args := #[s, x], argTypes := #[24, 24] })
    (base k : Nat) (xs : List Value) (v : Value) (hs : a.eval s = v) (hown : w.ownsRow base 28 1 v k xs) (ad : Addr) (u : Value) (hx : a.eval x = .slice (some ad) 1 1) (hc : ∀ j y, [u][j]? = some y → w.cell? (ad.add j) = some y) (hu : u.oneCell' = true)
    (b1 : k ≤ 1099511627800) (b3 : base ≤ w.heap.size) (h : ∀ v' w', w'.ownsRow base 28 1 v' (k + 1) (xs ++ [u]) → w.grownBy w' v.ownBlock → K (a.put o.dst v') w') : Oper.wpIn F n Tryz.prog o a w K Q := by
  obtain ⟨i, hi, hz0, hz1, hz2⟩ := info_parts Tryz.infoS
  obtain ⟨v', w', hrun, r1, r2, r3⟩ := run_append_own (P := Tryz.prog) w base 24 o.type 28 i (.slice none 0 0) 1 24 Tryz.underlying24 hi hz0 hz1 hz2 rfl (by decide) v k xs hown ad 1 1 [u] rfl hc (by simpa using hu) (by unfold maxLen; omega) (by omega) b3
  unfold Oper.wpIn
  refine ⟨by simp [Oper.about, ho, resolve, Target.leads, Sem.run_pure], ?_⟩
  rw [Oper.semAt_plain F _ _ (by rw [ho]; intro c hc'; cases hc')]
  simp [execOp, ho, resolve, invoke, builtin, hs, hx, hrun, Result.andThen]
  exact h _ _ r1 r2
theorem outL_len (ps : List (List Int)) : (outL ps).length ≤ ps.length := by
  have h : ∀ (ps : List (List Int)) (o : List (List Int)), (ps.foldl flushL o).length ≤ o.length + ps.length := by
    intro ps
    induction ps with
    | nil => intro o; simp
    | cons x r ih =>
      intro o
      rw [List.foldl_cons]
      refine Nat.le_trans (ih _) ?_
      have : (flushL o x).length ≤ o.length + 1 := by
        unfold flushL; split
        · simp
        · omega
      rw [List.length_cons]; omega
  have := h ps []
  simpa [outL] using this
theorem clone25 {X1 : World} {B n : Nat} {v : Value} {l : List Int} (h : X1.ownsRow B 5 1 v n (l.map (Value.int .u8))) (hl : l.length = n) : ∃ s : Sx Int, v = s.v ∧ s.xs = l ∧ Ou X1 B s.v s.xs ∧ s.n = n := by
  have h2 : Ou X1 B v l := by
    have e : l.map (Value.int .u8) = l.flatMap uC := by rw [← u8_flat]; rfl
    rw [e] at h
    show X1.ownsRow B _ 1 v l.length (l.flatMap uC)
    rw [hl]; exact h
  obtain ⟨s, rfl, hx, hok, -⟩ := own_sx h2 (fun x _ => uC_len x)
  refine ⟨s, rfl, hx, by rw [hx]; exact h2, ?_⟩
  have := hok.len
  rw [hx, hl] at this; exact this.symm
set_option maxHeartbeats 4000000 in
set_option maxRecDepth 100000 in
theorem lines_any (s : Sx Int) (w : World) (hs : Su w s) (hb : IsB s.xs) (hm : s.n ≤ 1099511627776) :
    Calls Tryz.prog 19 #[s.v] w fun e w' => ∃ (v : Value) (ss : List (Sx Int)), e = .returned v ∧ ss.map (·.xs) = linesL s.xs ∧ Osb w' w.heap.size v ss ∧ Below w.heap.size w w' := by
  obtain ⟨a, n, c, l⟩ := s
  have hm' : n ≤ 1099511627776 := hm
  have hl : l.length = n := hs.len
  simp only [Sx.v]
  refine (callsIn_wide (n := 6)).1 ?_
  refine callsIn_of_wp_marks Tryz.func19 rfl trivial ?_ rfl
  simp only [Tryz.ntmps19, List.size_toArray, List.length_cons, List.length_nil, Nat.reduceAdd, Nat.reduceSub, Array.replicate_succ, Array.replicate_zero, List.push_toArray, List.append_toArray, List.nil_append, List.cons_append]
  gi_wp2_with (refine ⟨trivial, ?_⟩; gi_at_call 35; refine (callsIn_wide.2 (sq_any _ _ _ _ _ _ _)).mono ?_; rintro e w9 ⟨rfl, rfl⟩)
  obtain ⟨z, hz⟩ : ∃ z, w.heap.size = z := ⟨_, rfl⟩
  obtain ⟨W0, hW0, hsz, hbl, hb0, hb1, hb2, hb3, hb4⟩ := five25 w (.cells #[.slice none 0 0] 24) (.cells #[.int .u8 10] 5) (.cells #[.slice a n c] 28) (.cells #[.slice (some ⟨w.heap.size + 1, 0, none⟩) 1 1] 28) (.cells #[.int .i64 0] 3)
  rw [← hW0]
  rw [hz] at hsz hbl hb0 hb1 hb2 hb3 hb4 ⊢
  have hIt : Its z (.slice a n c) W0 := ⟨hb1, hb2, hb3, hb4⟩
  have hbox : Boxed W0 z 24 (.slice none 0 0) := hb0
  clear hW0 hb0 hb1 hb2 hb3 hb4
  refine range25 (G := fun x : Sx Int => (∀ X, Old w X → Su X x) ∧ IsB x.xs ∧ x.n ≤ 1099511627776) (T := T25 z) (bS := z + 2) (lb := #[.pointer (some ⟨z + 3, 0, none⟩), .pointer (some ⟨z + 2, 0, none⟩), .pointer (some ⟨z + 4, 0, none⟩)]) rfl (enters_of Tryz.func68 (by kernel_rfl) rfl) (by omega) (encs := fun x => #[x.v]) (fun _ => rfl) (by omega) (fun k hk => by have := hk.1; omega)
    (S := fun xs : List (Sx Int) => outL (xs.map (fun x : Sx Int => x.xs)) = linesL l) (N := n + 2)
    (it_any a n c l z w W0 hs hb hz (fun k hk => hbl.block k hk) hsz hIt 5 (by omega) _ (fun ca m d k hsu i hi => ?_))
    (fun (pre : List (Sx Int)) X => LnI z w (outL (pre.map (fun x : Sx Int => x.xs))) X) (fun _ _ o h => h.alloc o) (fun _ _ l o o' hl hlo ho h => h.put o' (by omega) hlo ho) (fun _ _ v h => h.set v)
    ⟨_, [], hbox, ⟨World.ownsRow_nil _ _ _ _, (fun s hs => by cases hs), List.Pairwise.nil⟩, rfl, hbl, by omega⟩
    (fun x => { tmps := #[.slice a n c, undef, .slice none 0 0, .pointer (some ⟨z, 0, none⟩), x.v, .slice a n c, .slice (some ⟨z + 1, 0, none⟩) 1 1, .func (.func 68) #[] #[.pointer (some ⟨z + 3, 0, none⟩), .pointer (some ⟨z + 2, 0, none⟩), .pointer (some ⟨z + 4, 0, none⟩)], x.v, undef, undef, undef, undef, undef, undef, undef, undef, undef, undef, undef, undef, undef, undef, undef], defers := [] }) ?assign ?body ?done
  · have h1 := hsu.len
    simp only [List.length_drop] at h1
    exact ⟨fun X ho => (su_upto25 hsu hi).old ho, fun y hy => hb y (List.mem_of_mem_drop (List.mem_of_mem_take hy)), by show i ≤ _; omega⟩
  case assign =>
    intro lp x X K hK
    gi_wp2
    exact hK
  case body =>
    rintro lp pre ⟨xa, xn, xc, xl⟩ X ⟨hx, hxb, hxn⟩ ⟨tv, ss, hbox, hO, he, hb0, h5⟩ hlen
    have hxX : Su X ⟨xa, xn, xc, xl⟩ := hx X ⟨hb0.size, fun k hk => hb0.block k (by omega)⟩
    have hxl : xl.length = xn := hxX.len
    simp only [Sx.v]
    have hout : outL ((pre ++ [(⟨xa, xn, xc, xl⟩ : Sx Int)]).map (fun x : Sx Int => x.xs)) = flushL (outL (pre.map (fun x : Sx Int => x.xs))) xl := by
      rw [List.map_append]; unfold outL; rw [List.foldl_append]; rfl
    rw [hout]
    by_cases h0 : xn = 0
    · have h0z : (xn : Int) = 0 := by omega
      have hfl : flushL (outL (pre.map (fun x : Sx Int => x.xs))) xl = outL (pre.map (fun x : Sx Int => x.xs)) := by
        unfold flushL; rw [if_neg (fun h => h.1 (List.eq_nil_of_length_eq_zero (by omega)))]
      rw [hfl]
      gi_wp2
      exact ⟨KeepsOthers.refl X, tv, ss, hbox, hO, he, hb0, h5⟩
    · have h0z : ¬ (xn : Int) = 0 := by omega
      have h0p : (0 : Int) < (xn : Int) := by omega
      obtain ⟨b, off, h1, -, h3⟩ := hxX.lies (show 0 < xn by omega)
      have h1' : xa = some ⟨b, off, none⟩ := h1
      subst h1'
      clear h1
      obtain ⟨y, hy⟩ : ∃ y, xl.head? = some y := by
        cases xl with
        | nil => simp at hxl; omega
        | cons y r => exact ⟨y, rfl⟩
      have hy0 : xl[0]? = some y := by rw [← hy, List.head?_eq_getElem?]
      have hcy : X.cell? ⟨b, off, none⟩ = some (.int .u8 y) := by
        have h9 := h3 0 y hy0 0 _ rfl
        simpa [addr_add] using h9
      have hnil : xl ≠ [] := fun e => by rw [e] at hy; cases hy
      by_cases h35 : y = 35
      · subst h35
        have hfl : flushL (outL (pre.map (fun x : Sx Int => x.xs))) xl = outL (pre.map (fun x : Sx Int => x.xs)) := by
          unfold flushL; rw [if_neg (fun h => h.2 hy)]
        rw [hfl]
        gi_wp2
        exact ⟨KeepsOthers.refl X, tv, ss, hbox, hO, he, hb0, h5⟩
      · have hfl : flushL (outL (pre.map (fun x : Sx Int => x.xs))) xl = outL (pre.map (fun x : Sx Int => x.xs)) ++ [xl] := by
          unfold flushL; rw [if_pos ⟨hnil, fun e => h35 (Option.some.inj (hy.symm.trans e))⟩]
        rw [hfl]
        have h35b : (y == 35) = false := by simpa using h35
        have hct := hbox.cell
        have hcl : ∀ Y : World, Y.heap = X.heap → Calls Tryz.prog 36 #[.slice (some ⟨b, off, none⟩) xn xc] Y fun e w' => ∃ v', e = .returned v' ∧ w'.ownsRow Y.heap.size 5 1 v' xn (xl.map (Value.int .u8)) ∧ v' ≠ .slice none 0 0 ∧ Below Y.heap.size Y w' := fun Y hY => by
          refine Tryz.bytes_Clone_at ⟨b, off, none⟩ xn xc xl Y hxl (by have : xn ≤ 1099511627776 := hxn; omega) (fun i hi => ?_)
          have hil : i < xl.length := by omega
          have h9 := h3 i (xl[i]) (List.getElem?_eq_getElem hil) 0 _ rfl
          rw [getD_lt _ _ hil]
          have h8 : Y.cell? ((⟨b, off, none⟩ : Addr).add i) = X.cell? ((⟨b, off, none⟩ : Addr).add i) := by simp [World.cell?, hY]
          rw [h8]
          simpa [addr_add] using h9
        obtain ⟨i0, hi, hz0, hz1, hz2⟩ := info_parts Tryz.infoS
        have hmx : Tryz.prog.follows .mixedOrders = true := by kernel_rfl
        gi_wp2
        refine wpIn_region_any hmx ?_
        change wpAnyIn _ _ _ _ _ _ _ _ _ (World.drew _)
        have hctd : X.drew.cell? ⟨z, 0, none⟩ = some tv := hct
        have hlen2 : ss.length ≤ 1099511627800 := by
          have h1 : ss.length = (outL (pre.map (fun x : Sx Int => x.xs))).length := by rw [← he, List.length_map]
          have h2 := outL_len (pre.map (fun x : Sx Int => x.xs))
          rw [List.length_map] at h2; omega
        refine wpAnyIn_ready (rs := [0, 1]) (by kernel_rfl) (by simp) ?_
        refine (AllReadyIn.cons rfl (fun K hK => ?_) (AllReadyIn.cons rfl (fun K hK => ?_) AllReadyIn.nil))
        · skip
          go_simp
          refine hK _ _ ?_
          clear hK K
          refine wpAnyIn_ready (rs := [1]) (by kernel_rfl) (by simp) ?_
          refine (AllReadyIn.cons rfl (fun K hK => ?_) AllReadyIn.nil)
          go_simp
          refine hK _ _ ?_
          clear hK K
          refine wpAnyIn_ready (rs := [2]) (by kernel_rfl) (by simp) ?_
          refine (AllReadyIn.cons rfl (fun K hK => ?_) AllReadyIn.nil)
          go_simp
          refine ⟨trivial, ?_⟩
          refine (CallsIn.inRound lp (callsIn_wide.2 (hcl X.drew rfl))).mono ?_
          rintro e X1 ⟨cv, rfl, hco, hcn, hcb⟩
          obtain ⟨⟨sva, svn, svc, svl⟩, rfl, hsx, hsO, -⟩ := clone25 hco hxl
          simp only [Sx.v] at hsO ⊢
          have hcb' : Below X.heap.size X X1 := ⟨hcb.os, hcb.tape, hcb.output, hcb.size, hcb.block⟩
          have hbox1 : Boxed X1 z 24 tv := (hcb'.block z (by omega)).trans hbox
          have hct1 := hbox1.cell
          refine hK _ _ ?_
          clear hK K
          refine wpAnyIn_ready (rs := [3]) (by kernel_rfl) (by simp) ?_
          refine (AllReadyIn.cons rfl (fun K hK => ?_) AllReadyIn.nil)
          go_simp
          refine hK _ _ ?_
          clear hK K
          have hct2 : (X1.alloc (.cells #[.slice sva svn svc] 28)).cell? ⟨z, 0, none⟩ = some tv := (hbox1.alloc _).cell
          obtain ⟨X2, hX2⟩ : ∃ X2, X1.alloc (.cells #[.slice sva svn svc] 28) = X2 := ⟨_, rfl⟩
          have hc2 := cell_one_new X1 (.slice sva svn svc) 28
          rw [hX2] at hct2 hc2 ⊢
          have hO2 : Osb X2 (z + 5) tv ss := by
            rw [← hX2]
            exact hO.keep (fun k o hk _ _ => (Below.heap_alloc _ _ _ (Nat.lt_of_lt_of_le (Array.getElem?_eq_some_iff.1 hk).1 hcb'.size)).trans ((hcb'.block k (Array.getElem?_eq_some_iff.1 hk).1).trans hk))
          have hs2 : z + 5 ≤ X2.heap.size := by rw [← hX2]; simp; have := hcb'.size; omega
          refine wpAnyIn_ready (rs := [4]) (by kernel_rfl) (by simp) ?_
          refine (AllReadyIn.cons rfl (fun K hK => ?_) AllReadyIn.nil)
          rw [if_pos (by kernel_rfl)]
          refine ap25 (.tmp 18) (.tmp 21) rfl (z + 5) ss.length (ss.map (·.v)) tv rfl hO2.own ⟨X1.heap.size, 0, none⟩ (.slice sva svn svc) rfl hc2 rfl hlen2 hs2 ?_
          intro v' w1 hown' hgrow
          refine hK _ _ ?_
          clear hK K
          refine wpAnyIn_ready (rs := [5]) (by kernel_rfl) (by simp) ?_
          refine (AllReadyIn.cons rfl (fun K hK => ?_) AllReadyIn.nil)
          subst hX2
          obtain ⟨k1, k2, k3⟩ := LnI.app (cv := ⟨sva, svn, svc, svl⟩) hbox hO he hb0 h5 hcb' hsO hown' hgrow
          have hboxw : Boxed w1 z 24 tv := (hbox1.alloc _).kept hgrow ((hbox1.alloc _).not_row (by decide) (hO.keep (W' := X1.alloc (.cells #[.slice sva svn svc] 28)) (fun k o hk _ _ => (Below.heap_alloc _ _ _ (Nat.lt_of_lt_of_le (Array.getElem?_eq_some_iff.1 hk).1 hcb'.size)).trans ((hcb'.block k (Array.getElem?_eq_some_iff.1 hk).1).trans hk))).own)
          have hcw := hboxw.cell
          have hfw := hboxw.frozen
          obtain ⟨va, vn, vc, rfl⟩ : ∃ a n c, v' = .slice a n c := by
            rcases hown'.2 with ⟨h, -⟩ | ⟨g, cap, cur, h, -⟩
            · exact ⟨_, _, _, h⟩
            · exact ⟨_, _, _, h⟩
          go_simp
          refine hK _ _ ?_
          clear hK K
          refine wpAnyIn_done (by kernel_rfl) ?_ _
          show _ ∧ _
          rw [show svl = xl from hsx] at k3
          exact ⟨rfl, k1, k2, k3⟩
        · skip
          go_simp
          refine hK _ _ ?_
          clear hK K
          refine wpAnyIn_ready (rs := [0, 2]) (by kernel_rfl) (by simp) ?_
          refine (AllReadyIn.cons rfl (fun K hK => ?_) (AllReadyIn.cons rfl (fun K hK => ?_) AllReadyIn.nil))
          · skip
            go_simp
            refine hK _ _ ?_
            clear hK K
            refine wpAnyIn_ready (rs := [2]) (by kernel_rfl) (by simp) ?_
            refine (AllReadyIn.cons rfl (fun K hK => ?_) AllReadyIn.nil)
            go_simp
            refine ⟨trivial, ?_⟩
            refine (CallsIn.inRound lp (callsIn_wide.2 (hcl X.drew rfl))).mono ?_
            rintro e X1 ⟨cv, rfl, hco, hcn, hcb⟩
            obtain ⟨⟨sva, svn, svc, svl⟩, rfl, hsx, hsO, -⟩ := clone25 hco hxl
            simp only [Sx.v] at hsO ⊢
            have hcb' : Below X.heap.size X X1 := ⟨hcb.os, hcb.tape, hcb.output, hcb.size, hcb.block⟩
            have hbox1 : Boxed X1 z 24 tv := (hcb'.block z (by omega)).trans hbox
            have hct1 := hbox1.cell
            refine hK _ _ ?_
            clear hK K
            refine wpAnyIn_ready (rs := [3]) (by kernel_rfl) (by simp) ?_
            refine (AllReadyIn.cons rfl (fun K hK => ?_) AllReadyIn.nil)
            go_simp
            refine hK _ _ ?_
            clear hK K
            have hct2 : (X1.alloc (.cells #[.slice sva svn svc] 28)).cell? ⟨z, 0, none⟩ = some tv := (hbox1.alloc _).cell
            obtain ⟨X2, hX2⟩ : ∃ X2, X1.alloc (.cells #[.slice sva svn svc] 28) = X2 := ⟨_, rfl⟩
            have hc2 := cell_one_new X1 (.slice sva svn svc) 28
            rw [hX2] at hct2 hc2 ⊢
            have hO2 : Osb X2 (z + 5) tv ss := by
              rw [← hX2]
              exact hO.keep (fun k o hk _ _ => (Below.heap_alloc _ _ _ (Nat.lt_of_lt_of_le (Array.getElem?_eq_some_iff.1 hk).1 hcb'.size)).trans ((hcb'.block k (Array.getElem?_eq_some_iff.1 hk).1).trans hk))
            have hs2 : z + 5 ≤ X2.heap.size := by rw [← hX2]; simp; have := hcb'.size; omega
            refine wpAnyIn_ready (rs := [4]) (by kernel_rfl) (by simp) ?_
            refine (AllReadyIn.cons rfl (fun K hK => ?_) AllReadyIn.nil)
            rw [if_pos (by kernel_rfl)]
            refine ap25 (.tmp 18) (.tmp 21) rfl (z + 5) ss.length (ss.map (·.v)) tv rfl hO2.own ⟨X1.heap.size, 0, none⟩ (.slice sva svn svc) rfl hc2 rfl hlen2 hs2 ?_
            intro v' w1 hown' hgrow
            refine hK _ _ ?_
            clear hK K
            refine wpAnyIn_ready (rs := [5]) (by kernel_rfl) (by simp) ?_
            refine (AllReadyIn.cons rfl (fun K hK => ?_) AllReadyIn.nil)
            subst hX2
            obtain ⟨k1, k2, k3⟩ := LnI.app (cv := ⟨sva, svn, svc, svl⟩) hbox hO he hb0 h5 hcb' hsO hown' hgrow
            have hboxw : Boxed w1 z 24 tv := (hbox1.alloc _).kept hgrow ((hbox1.alloc _).not_row (by decide) (hO.keep (W' := X1.alloc (.cells #[.slice sva svn svc] 28)) (fun k o hk _ _ => (Below.heap_alloc _ _ _ (Nat.lt_of_lt_of_le (Array.getElem?_eq_some_iff.1 hk).1 hcb'.size)).trans ((hcb'.block k (Array.getElem?_eq_some_iff.1 hk).1).trans hk))).own)
            have hcw := hboxw.cell
            have hfw := hboxw.frozen
            obtain ⟨va, vn, vc, rfl⟩ : ∃ a n c, v' = .slice a n c := by
              rcases hown'.2 with ⟨h, -⟩ | ⟨g, cap, cur, h, -⟩
              · exact ⟨_, _, _, h⟩
              · exact ⟨_, _, _, h⟩
            go_simp
            refine hK _ _ ?_
            clear hK K
            refine wpAnyIn_done (by kernel_rfl) ?_ _
            show _ ∧ _
            rw [show svl = xl from hsx] at k3
            exact ⟨rfl, k1, k2, k3⟩
          · skip
            go_simp
            refine ⟨trivial, ?_⟩
            refine (CallsIn.inRound lp (callsIn_wide.2 (hcl X.drew rfl))).mono ?_
            rintro e X1 ⟨cv, rfl, hco, hcn, hcb⟩
            obtain ⟨⟨sva, svn, svc, svl⟩, rfl, hsx, hsO, -⟩ := clone25 hco hxl
            simp only [Sx.v] at hsO ⊢
            have hcb' : Below X.heap.size X X1 := ⟨hcb.os, hcb.tape, hcb.output, hcb.size, hcb.block⟩
            have hbox1 : Boxed X1 z 24 tv := (hcb'.block z (by omega)).trans hbox
            have hct1 := hbox1.cell
            refine hK _ _ ?_
            clear hK K
            refine wpAnyIn_ready (rs := [0, 3]) (by kernel_rfl) (by simp) ?_
            refine (AllReadyIn.cons rfl (fun K hK => ?_) (AllReadyIn.cons rfl (fun K hK => ?_) AllReadyIn.nil))
            · skip
              go_simp
              refine hK _ _ ?_
              clear hK K
              refine wpAnyIn_ready (rs := [3]) (by kernel_rfl) (by simp) ?_
              refine (AllReadyIn.cons rfl (fun K hK => ?_) AllReadyIn.nil)
              go_simp
              refine hK _ _ ?_
              clear hK K
              have hct2 : (X1.alloc (.cells #[.slice sva svn svc] 28)).cell? ⟨z, 0, none⟩ = some tv := (hbox1.alloc _).cell
              obtain ⟨X2, hX2⟩ : ∃ X2, X1.alloc (.cells #[.slice sva svn svc] 28) = X2 := ⟨_, rfl⟩
              have hc2 := cell_one_new X1 (.slice sva svn svc) 28
              rw [hX2] at hct2 hc2 ⊢
              have hO2 : Osb X2 (z + 5) tv ss := by
                rw [← hX2]
                exact hO.keep (fun k o hk _ _ => (Below.heap_alloc _ _ _ (Nat.lt_of_lt_of_le (Array.getElem?_eq_some_iff.1 hk).1 hcb'.size)).trans ((hcb'.block k (Array.getElem?_eq_some_iff.1 hk).1).trans hk))
              have hs2 : z + 5 ≤ X2.heap.size := by rw [← hX2]; simp; have := hcb'.size; omega
              refine wpAnyIn_ready (rs := [4]) (by kernel_rfl) (by simp) ?_
              refine (AllReadyIn.cons rfl (fun K hK => ?_) AllReadyIn.nil)
              rw [if_pos (by kernel_rfl)]
              refine ap25 (.tmp 18) (.tmp 21) rfl (z + 5) ss.length (ss.map (·.v)) tv rfl hO2.own ⟨X1.heap.size, 0, none⟩ (.slice sva svn svc) rfl hc2 rfl hlen2 hs2 ?_
              intro v' w1 hown' hgrow
              refine hK _ _ ?_
              clear hK K
              refine wpAnyIn_ready (rs := [5]) (by kernel_rfl) (by simp) ?_
              refine (AllReadyIn.cons rfl (fun K hK => ?_) AllReadyIn.nil)
              subst hX2
              obtain ⟨k1, k2, k3⟩ := LnI.app (cv := ⟨sva, svn, svc, svl⟩) hbox hO he hb0 h5 hcb' hsO hown' hgrow
              have hboxw : Boxed w1 z 24 tv := (hbox1.alloc _).kept hgrow ((hbox1.alloc _).not_row (by decide) (hO.keep (W' := X1.alloc (.cells #[.slice sva svn svc] 28)) (fun k o hk _ _ => (Below.heap_alloc _ _ _ (Nat.lt_of_lt_of_le (Array.getElem?_eq_some_iff.1 hk).1 hcb'.size)).trans ((hcb'.block k (Array.getElem?_eq_some_iff.1 hk).1).trans hk))).own)
              have hcw := hboxw.cell
              have hfw := hboxw.frozen
              obtain ⟨va, vn, vc, rfl⟩ : ∃ a n c, v' = .slice a n c := by
                rcases hown'.2 with ⟨h, -⟩ | ⟨g, cap, cur, h, -⟩
                · exact ⟨_, _, _, h⟩
                · exact ⟨_, _, _, h⟩
              go_simp
              refine hK _ _ ?_
              clear hK K
              refine wpAnyIn_done (by kernel_rfl) ?_ _
              show _ ∧ _
              rw [show svl = xl from hsx] at k3
              exact ⟨rfl, k1, k2, k3⟩
            · skip
              go_simp
              refine hK _ _ ?_
              clear hK K
              have hct2 : (X1.alloc (.cells #[.slice sva svn svc] 28)).cell? ⟨z, 0, none⟩ = some tv := (hbox1.alloc _).cell
              obtain ⟨X2, hX2⟩ : ∃ X2, X1.alloc (.cells #[.slice sva svn svc] 28) = X2 := ⟨_, rfl⟩
              have hc2 := cell_one_new X1 (.slice sva svn svc) 28
              rw [hX2] at hct2 hc2 ⊢
              have hO2 : Osb X2 (z + 5) tv ss := by
                rw [← hX2]
                exact hO.keep (fun k o hk _ _ => (Below.heap_alloc _ _ _ (Nat.lt_of_lt_of_le (Array.getElem?_eq_some_iff.1 hk).1 hcb'.size)).trans ((hcb'.block k (Array.getElem?_eq_some_iff.1 hk).1).trans hk))
              have hs2 : z + 5 ≤ X2.heap.size := by rw [← hX2]; simp; have := hcb'.size; omega
              refine wpAnyIn_ready (rs := [0]) (by kernel_rfl) (by simp) ?_
              refine (AllReadyIn.cons rfl (fun K hK => ?_) AllReadyIn.nil)
              go_simp
              refine hK _ _ ?_
              clear hK K
              refine wpAnyIn_ready (rs := [4]) (by kernel_rfl) (by simp) ?_
              refine (AllReadyIn.cons rfl (fun K hK => ?_) AllReadyIn.nil)
              rw [if_pos (by kernel_rfl)]
              refine ap25 (.tmp 18) (.tmp 21) rfl (z + 5) ss.length (ss.map (·.v)) tv rfl hO2.own ⟨X1.heap.size, 0, none⟩ (.slice sva svn svc) rfl hc2 rfl hlen2 hs2 ?_
              intro v' w1 hown' hgrow
              refine hK _ _ ?_
              clear hK K
              refine wpAnyIn_ready (rs := [5]) (by kernel_rfl) (by simp) ?_
              refine (AllReadyIn.cons rfl (fun K hK => ?_) AllReadyIn.nil)
              subst hX2
              obtain ⟨k1, k2, k3⟩ := LnI.app (cv := ⟨sva, svn, svc, svl⟩) hbox hO he hb0 h5 hcb' hsO hown' hgrow
              have hboxw : Boxed w1 z 24 tv := (hbox1.alloc _).kept hgrow ((hbox1.alloc _).not_row (by decide) (hO.keep (W' := X1.alloc (.cells #[.slice sva svn svc] 28)) (fun k o hk _ _ => (Below.heap_alloc _ _ _ (Nat.lt_of_lt_of_le (Array.getElem?_eq_some_iff.1 hk).1 hcb'.size)).trans ((hcb'.block k (Array.getElem?_eq_some_iff.1 hk).1).trans hk))).own)
              have hcw := hboxw.cell
              have hfw := hboxw.frozen
              obtain ⟨va, vn, vc, rfl⟩ : ∃ a n c, v' = .slice a n c := by
                rcases hown'.2 with ⟨h, -⟩ | ⟨g, cap, cur, h, -⟩
                · exact ⟨_, _, _, h⟩
                · exact ⟨_, _, _, h⟩
              go_simp
              refine hK _ _ ?_
              clear hK K
              refine wpAnyIn_done (by kernel_rfl) ?_ _
              show _ ∧ _
              rw [show svl = xl from hsx] at k3
              exact ⟨rfl, k1, k2, k3⟩
  case done =>
    rintro D xs X hD hS ⟨tv, ss, hbox, hO, he, hb0, h5⟩ hK
    have ct := hbox.cell
    gi_wp2
    refine ⟨by simp, .inl ⟨_, _, rfl, run_takeDeferred hK, ?_⟩⟩
    refine ⟨_, results_tmp rfl _ _ _, _, rfl, ss, by rw [he, hS], (hO.put _ hK rfl).mono (by omega), ?_⟩
    exact hb0.trans ((Below.refl z X).grown (grownBy_putObj' X D _) (by omega) (fun k e => by cases e; omega))
end Go.Proofs.YtdcaojiiaocnaaaGreatDoor
