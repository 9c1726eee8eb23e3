import Derived.Test.YtppklfckpmenbaaOmM
import Derived.Test.YtppklfckpmenbaaKnW
import Derived.Deep.DeepCutAuto
set_option linter.unusedSimpArgs false
set_option linter.unusedVariables false
namespace Go.Proofs.Ytppklfckpmenbaa
open Go.RowKit

theorem wl_dstO {P : Program} {ops : Array Oper} {rest : List Oper} {o : Oper} {a : Act} {w : World} {Q : Exit → Act → World → Prop} (d : Nat) (hd : o.dst = some d) (h : wpList P ops Q (o :: rest) a w) : wpList P ops Q (o :: rest) a w := h
/-- three rows of one's own, the third of which grows -/
structure Tw (w wr : World) (v5 v6 v7 : Value) (x5 x6 x7 : List Sml) : Prop where
  o5 : Om wr w.heap.size v5 x5
  o6 : Om wr w.heap.size v6 x6
  o7 : Om wr w.heap.size v7 x7
  n5 : ∀ g, v5.ownBlock = some g → some g ≠ v7.ownBlock
  n6 : ∀ g, v6.ownBlock = some g → some g ≠ v7.ownBlock
  b : Below w.heap.size w wr
theorem Tw.app {w wr w' : World} {v5 v6 v7 v' : Value} {x5 x6 x7 y : List Sml} (h : Tw w wr v5 v6 v7 x5 x6 x7) (hO : Om w' w.heap.size v' y) (hg : wr.grownBy w' v7.ownBlock) (hat : v'.ownBlock = v7.ownBlock ∨ v'.ownBlock = some wr.heap.size) : Tw w w' v5 v6 v' x5 x6 y := by
  refine ⟨h.o5.keep hg h.n5, h.o6.keep hg h.n6, hO, fun g hg' e => ?_, fun g hg' e => ?_, h.b.trans (h.o7.bel hg (Nat.le_refl _) h.b.size)⟩
  · rcases hat with h1 | h1
    · exact h.n5 g hg' (e.trans h1)
    · have := (h.o5.own.lt g hg').2
      rw [h1] at e; simp only [Option.some.injEq] at e; omega
  · rcases hat with h1 | h1
    · exact h.n6 g hg' (e.trans h1)
    · have := (h.o6.own.lt g hg').2
      rw [h1] at e; simp only [Option.some.injEq] at e; omega
theorem Om.ss' {w : World} {base : Nat} {s : Sx Sml} (h : Om w base s.v s.xs) : Ss w s := by
  obtain ⟨s', e1, e2, e3⟩ := h.sx
  obtain ⟨a, n, c, xs⟩ := s
  obtain ⟨a', n', c', xs'⟩ := s'
  simp only [Sx.v, Value.slice.injEq] at e1
  obtain ⟨rfl, rfl, rfl⟩ := e1
  simp only at e2
  subst e2
  exact e3
theorem Ss.frm {w : World} {s : Sx Sml} (h : Ss w s) {i : Nat} (hi : i ≤ s.n) : Ss w (s.frm 329 i) := ⟨h.ok.frm hi, fun x hx => h.e x (List.mem_of_mem_drop hx)⟩
theorem Ss.upto {w : World} {s : Sx Sml} (h : Ss w s) {i : Nat} (hi : i ≤ s.n) : Ss w (s.upto 329 i) := ⟨h.ok.upto hi, fun x hx => h.e x (List.mem_of_mem_take hx)⟩
section
variable {o : Oper} {a : Act} {w w0 : World}
theorem run_szSm (w : World) : (sizeOf (Try.prog.elem 41)).run Try.prog w = .ok 329 w := by
  have he : Try.prog.elem 41 = 45 := by simp [Program.elem, Try.underlying41]
  obtain ⟨i, hi, -, hs, -⟩ := infoSm3
  rw [he]
  simp [sizeOf, typeInfo, hi, hs]
theorem ex_frmS (x y : Operand) (ho : o.op = .slice 41 x (some y) none none) (s : Sx Sml) (i : Nat) (hi : i ≤ s.n) (hx : a.eval x = s.v) (hy : a.eval y = .int .i64 i) : (execOp a.eval o).run Try.prog w = .ok (.value (s.frm 329 i).v) w := by
  have hu : Try.prog.underlying 41 = some (.slice (Try.prog.elem 41)) := by
    simp [Program.elem, Try.underlying41]
  have hrun : (Instr.sliceAt 41 s.v (some (.int .i64 (i : Int))) none none).run Try.prog w = .ok (s.frm 329 i).v w := by
    unfold Sx.v
    rw [run_sliceAt_slice w _ _ _ _ _ hu, run_slice_l w _ s.a s.n s.c hu .i64 i (by omega) (by omega), run_szSm]
    simp only [Result.andThen, sliced, Int.toNat_natCast, Sx.frm]
  rw [← hx, ← hy] at hrun
  simp [execOp, ho, hrun, Result.andThen]
theorem ex_uptoS (x y : Operand) (ho : o.op = .slice 41 x none (some y) none) (s : Sx Sml) (i : Nat) (hi : i ≤ s.c) (hx : a.eval x = s.v) (hy : a.eval y = .int .i64 i) : (execOp a.eval o).run Try.prog w = .ok (.value (s.upto 329 i).v) w := by
  have hu : Try.prog.underlying 41 = some (.slice (Try.prog.elem 41)) := by
    simp [Program.elem, Try.underlying41]
  have hrun : (Instr.sliceAt 41 s.v none (some (.int .i64 (i : Int))) none).run Try.prog w = .ok (s.upto 329 i).v w := by
    unfold Sx.v
    rw [run_sliceAt_slice w _ _ _ _ _ hu, run_slice_h w _ s.a s.n s.c hu .i64 i (by omega) (by omega), run_szSm]
    simp only [Result.andThen, sliced, Int.toNat_natCast, Sx.upto]
  rw [← hx, ← hy] at hrun
  simp [execOp, ho, hrun, Result.andThen]
end
theorem szSm {x : Sml} (h : x.Ok) : (Try.prog.info? 45).map (·.size) = some (smC x).length := by
  obtain ⟨i, hi, -, hs, -⟩ := infoSm3
  rw [hi, smC_len h]; simp [hs]
set_option maxHeartbeats 20000000 in
set_option maxRecDepth 100000 in
theorem orderless_law (s : Sx Sml) (m : Int) (w : World) (hs : Ss w s) (hbd : s.n ≤ 10000000) :
    Calls Try.prog 5 #[s.v, .int .i64 m] w fun r w' => r = .returned (.bool true) ∧ Below w.heap.size w w' := by
  obtain ⟨sa, sn, sc, sx⟩ := s
  have hlen : sx.length = sn := hs.ok.len
  have HS := hide hs
  have HL := hide hlen
  have hsm : sn ≤ 10000000 := hbd
  simp only [Sx.v]
  clear hs hlen hbd
  go_enter Try.func5, Try.ntmps5
  go_wp2_with fail
  go_loopw [5, 8] (fun v i wr => ∃ (k : Nat) (xs : List Sml), k ≤ sn ∧ i = .int .i64 k ∧ Hid (xs = (sx.take k).filter (fun x => !x.rs)) ∧ Om wr w.heap.size v xs ∧ Below w.heap.size w wr) (fun _ i _ => sn - (intOf i).toNat)
  case atStart => exact ⟨0, [], Nat.zero_le _, rfl, hide (by simp), Om.nil _ _, Below.refl _ _⟩
  case round =>
    obtain ⟨k, xs, hk, rfl, HX, hO, hB⟩ := hrel
    have hxl : xs.length ≤ k := by rw [unhide HX]; exact Nat.le_trans (List.length_filter_le _ _) (by simp; omega)
    by_cases hlt : k < sn
    · obtain ⟨x, b, off, hge, hxo, hsa, hbs, hrg⟩ := ((unhide HS).later hB).at_ (k := k) hlt
      simp only at hge hsa
      subst hsa
      have hkz : (k : Int) < (sn : Int) := by omega
      have c0 : wr.cell? ⟨b, off + k * 329, none⟩ = some (.bool x.rs) := by have := hrg 0 _ ((at_srs x).get (j := 0) rfl); simpa using this
      have HG := hide hge
      have HO := hide hO
      have HB := hide hB
      have HR := hide hrg
      cases hrs : x.rs
      · rw [hrs] at c0
        have hS := Hs17.begin wr (fun w' => Om w' w.heap.size u5 xs) (fun w' ho => hO.old ho)
        have HRS := hide hrs
        clear hO hB hrg hge hbs hrs
        go_upto_region 6 with fail
        refine wp_region_lit ?_
        refine wl (by kernel_rfl) fun kQ hkQ => ?_
        go_simp
        refine hkQ _ _ ?_
        clear hkQ kQ
        refine wl (by kernel_rfl) fun kQ hkQ => ?_
        go_simp
        refine hkQ _ _ ?_
        clear hkQ kQ
        refine wl (by kernel_rfl) fun kQ hkQ => ?_
        go_simp
        refine hkQ _ _ ?_
        clear hkQ kQ
        refine wl (by kernel_rfl) fun kQ hkQ => ?_
        go_simp
        refine hkQ _ _ ?_
        clear hkQ kQ
        refine wv (aV (smC x)) (by kernel_rfl) (ex_loadR 45 (.tmp 28) rfl b (off + k * 329) rfl (smC x) (unhide HR) Try.underlying45 rfl (szSm hxo)) ?_
        simp [Act.put]
        refine wl (by kernel_rfl) fun kQ hkQ => ?_
        refine op_bs1S (.tmp 29) rfl x hxo rfl hS ?_
        clear hS
        intro g9 w9 hS
        refine hkQ _ _ ?_
        clear hkQ kQ
        simp [Act.put]
        refine wl_appendS (by kernel_rfl) (.tmp 25) (.tmp 30) rfl rfl hS.K ⟨some ⟨g9, 0, none⟩, 1, 1, [x]⟩ (ss_one hS hxo) rfl (by simp only; omega) (Nat.le_trans (unhide HB).size hS.bel.size) ?_
        intro v' w' hO' hg' _
        have HO' := hide hO'
        have HB' := hide (((unhide HB).trans (hS.bel.mono (unhide HB).size)).trans (hS.K.bel hg' (Nat.le_refl _) (Nat.le_trans (unhide HB).size hS.bel.size)))
        clear hS hO' hg'
        simp [Act.put]
        refine wl (by kernel_rfl) fun kQ hkQ => ?_
        go_simp
        refine hkQ _ _ ?_
        clear hkQ kQ
        refine wpList_nil ?_
        go_wp2_with fail
        go_roundw
        case rel => exact ⟨k + 1, xs ++ [x], by omega, by go_num, hide (by rw [List.take_add_one, unhide HG, List.filter_append, unhide HX]; simp [unhide HRS]), unhide HO', unhide HB'⟩
        case measure => simp [intOf]; omega
      · rw [hrs] at c0
        have HRS := hide hrs
        clear hO hB hrg hge hbs hrs
        go_wp2_with fail
        go_roundw
        case rel => exact ⟨k + 1, xs, by omega, by go_num, hide (by rw [List.take_add_one, unhide HG, List.filter_append, unhide HX]; simp [unhide HRS]), unhide HO, unhide HB⟩
        case measure => simp [intOf]; omega
    · have hkd : decide ((k : Int) < (sn : Int)) = false := decide_eq_false (by omega)
      have hks : k = sn := by omega
      have HNr : Hid (Nr xs ∧ xs.length ≤ sn) := hide ⟨by
        rw [unhide HX]; intro x hx
        have h1 := List.mem_filter.1 hx
        exact ⟨by simpa using h1.2, (unhide HS).e x (List.mem_of_mem_take h1.1)⟩, by omega⟩
      obtain ⟨⟨ta, tn, tc, tx⟩, hv5, hx5, hS5⟩ := hO.sx
      simp only at hx5
      subst hx5 hv5
      have htl : tx.length = tn := hS5.ok.len
      have htn : tn ≤ 10000000 := by have := (unhide HNr).2; omega
      have hw1 : IntKind.i64.wrap ((tn : Int) - 1) = (tn : Int) - 1 := by rw [IntKind.wrap_i64]; omega
      have HTL := hide htl
      have HO := hide hO
      have HB := hide hB
      simp only [Sx.v] at HO ⊢
      obtain ⟨wo, rfl⟩ : ∃ wo : World, wo = wr := ⟨_, rfl⟩
      clear hO hB hS5 htl hks hxl HX
      go_wp2_with fail
      go_loopw [6, 9] (fun v i wr => ∃ (k : Nat) (z : Int) (ys : List Sml), k ≤ tn ∧ i = .int .i64 z ∧ Hid (z = (k : Int) - 1 ∧ ys = (tx.drop k).reverse) ∧ Om wr w.heap.size v ys ∧ Om wr w.heap.size (.slice ta tn tc) tx ∧ (∀ g, v.ownBlock = some g → some g ≠ (Value.slice ta tn tc).ownBlock) ∧ Below w.heap.size w wr) (fun _ i _ => (intOf i + 1).toNat)
      case atStart => exact ⟨tn, _, [], Nat.le_refl _, rfl, hide ⟨rfl, by rw [List.drop_of_length_le (by rw [unhide HTL]; exact Nat.le_refl _)]; rfl⟩, Om.nil _ _, unhide HO, fun g hg => by simp [Value.ownBlock] at hg, unhide HB⟩
      case round =>
        clear HO HB hw1
        obtain ⟨k', z, ys, hk', rfl, HZ, hO6, hO5, hne, hB⟩ := hrel
        have hyl : ys.length ≤ tn := by rw [(unhide HZ).2]; simp [unhide HTL]
        by_cases hk0 : k' = 0
        · obtain ⟨hz, hys⟩ := unhide HZ
          have d0 : decide ((0 : Int) ≤ z) = false := decide_eq_false (by omega)
          obtain ⟨⟨ba, bn, bc, bx⟩, hv6, hx6, hS6⟩ := hO6.sx
          simp only at hx6
          subst hx6 hv6
          have hrev : bx = tx.reverse := by rw [hys, hk0, List.drop_zero]
          have hbn : bn = tn := by have h1 : bx.length = bn := hS6.ok.len; rw [← h1, hrev, List.length_reverse, unhide HTL]
          subst hbn
          have HREV := hide hrev
          have HT : Hid (Tw w wr (.slice ta bn tc) (.slice ba bn bc) (.slice none 0 0) tx bx []) := hide ⟨hO5, hO6, Om.nil _ _, fun g hg e => by simp [Value.ownBlock] at e, fun g hg e => by simp [Value.ownBlock] at e, hB⟩
          simp only [Sx.v]
          clear hO5 hO6 hB hS6 hne hrev hys hz hyl HZ
          go_upto_region 11 with fail
          refine wp_region_lit ?_
          refine wl (by kernel_rfl) fun kQ hkQ => ?_
          go_simp
          refine hkQ _ _ ?_
          clear hkQ kQ
          refine wl (by kernel_rfl) fun kQ hkQ => ?_
          go_simp
          refine hkQ _ _ ?_
          clear hkQ kQ
          refine wl_appendS (by kernel_rfl) (.tmp 46) (.tmp 47) rfl rfl (unhide HT).o7 ⟨ta, bn, tc, tx⟩ (unhide HT).o5.ss' rfl (by have h1 := unhide HTL; have h2 := congrArg List.length (unhide HREV); simp only [List.length_append, List.length_reverse, List.length_nil] at h2 ⊢; omega) (unhide HT).b.size ?_
          intro v7 w7 hO' hg' hat'
          replace HT := hide ((unhide HT).app hO' hg' hat')
          clear hO' hg' hat'
          simp [Act.put]
          refine wl (by kernel_rfl) fun kQ hkQ => ?_
          go_simp
          refine hkQ _ _ ?_
          clear hkQ kQ
          refine wpList_nil ?_
          go_upto_region 12 with fail
          refine wp_region_lit ?_
          refine wl (by kernel_rfl) fun kQ hkQ => ?_
          go_simp
          refine hkQ _ _ ?_
          clear hkQ kQ
          refine wl (by kernel_rfl) fun kQ hkQ => ?_
          go_simp
          refine hkQ _ _ ?_
          clear hkQ kQ
          refine wl_appendS (by kernel_rfl) (.tmp 49) (.tmp 50) rfl rfl (unhide HT).o7 ⟨ba, bn, bc, bx⟩ (unhide HT).o6.ss' rfl (by have h1 := unhide HTL; have h2 := congrArg List.length (unhide HREV); simp only [List.length_append, List.length_reverse, List.length_nil] at h2 ⊢; omega) (unhide HT).b.size ?_
          intro v8 w8 hO' hg' hat'
          replace HT := hide ((unhide HT).app hO' hg' hat')
          clear hO' hg' hat'
          simp [Act.put]
          refine wl (by kernel_rfl) fun kQ hkQ => ?_
          go_simp
          refine hkQ _ _ ?_
          clear hkQ kQ
          refine wpList_nil ?_
          go_upto_region 13 with fail
          refine wp_region_lit ?_
          refine wl (by kernel_rfl) fun kQ hkQ => ?_
          go_simp
          refine hkQ _ _ ?_
          clear hkQ kQ
          refine wl (by kernel_rfl) fun kQ hkQ => ?_
          go_simp
          refine hkQ _ _ ?_
          clear hkQ kQ
          refine wl_appendS (by kernel_rfl) (.tmp 52) (.tmp 53) rfl rfl (unhide HT).o7 ⟨ta, bn, tc, tx⟩ (unhide HT).o5.ss' rfl (by have h1 := unhide HTL; have h2 := congrArg List.length (unhide HREV); simp only [List.length_append, List.length_reverse, List.length_nil] at h2 ⊢; omega) (unhide HT).b.size ?_
          intro v9 w9 hO' hg' hat'
          replace HT := hide ((unhide HT).app hO' hg' hat')
          clear hO' hg' hat'
          simp [Act.put]
          refine wl (by kernel_rfl) fun kQ hkQ => ?_
          go_simp
          refine hkQ _ _ ?_
          clear hkQ kQ
          refine wpList_nil ?_
          obtain ⟨⟨ca, cn, cc, cx⟩, hv9, hx9, hS9⟩ := (unhide HT).o7.sx
          simp only at hx9
          subst hv9
          have hcx : cx = tx ++ tx.reverse ++ tx := by rw [hx9, unhide HREV]; simp
          have hcn : cn = 3 * bn := by have h1 : cx.length = cn := hS9.ok.len; rw [← h1, hcx]; simp [unhide HTL]; omega
          have HCX := hide hcx
          have hcm : cn ≤ 30000000 := by omega
          have HBL := hide (unhide HT).b
          have hS := Hs17.begin w9 (fun w' => Ss w' ⟨ta, bn, tc, tx⟩ ∧ Ss w' ⟨ba, bn, bc, bx⟩ ∧ Ss w' ⟨ca, cn, cc, cx⟩) (fun w' ho => ⟨(unhide HT).o5.ss'.old ho, (unhide HT).o6.ss'.old ho, hS9.old ho⟩)
          have htn' : bn ≤ 10000000 := htn
          simp only [Sx.v]
          clear hcx hcn hS9 HT hx9
          go_upto_region 14 with fail
          refine wp_region_lit ?_
          refine wl (by kernel_rfl) fun kQ hkQ => ?_
          go_simp
          refine hkQ _ _ ?_
          clear hkQ kQ
          refine wl (by kernel_rfl) fun kQ hkQ => ?_
          go_simp
          refine (made_t ⟨ta, bn, tc, tx⟩ _ hS.K.1 (by simp only; omega)).mono ?_
          rintro e w21 ⟨A, rfl, tA, mA, aA, hO1, hb1⟩
          replace hS := hS.own hb1 hO1
          refine hkQ _ _ ?_
          clear hkQ kQ hb1
          have oA : A.f.Ok := tA.g.fl
          have TA := hide (And.intro tA (And.intro mA aA))
          clear tA mA aA hO1
          refine wl_alloc (by kernel_rfl) 48 rfl (gC zFlr 0 nilS) Try.inG hS ?_
          clear hS
          intro g22 w22 hS
          simp [Act.put]
          refine wl_store (by kernel_rfl) 48 (.tmp 10) (.tmp 56) rfl 0 rfl 0 rfl (gC A.f A.a (Sx.v A.s)) (gC A.f A.a (Sx.v A.s)) (pt_g zFlr_ok oA 0 A.a nilS (Sx.v A.s)) rfl (szG oA _ _) (one_g _ _ rfl) hS ?_
          clear hS
          intro w23 hS
          change Hs17 w9 [(g22, 48, (gC A.f A.a (Sx.v A.s)))] _ w23 at hS
          simp [Act.put]
          refine wpList_nil ?_
          go_upto_region 15 with fail
          replace hS := hS.drew
          refine wp_region_held_drew (S := Hs17 w9 [(g22, 48, (gC A.f A.a (Sx.v A.s)))] _) (by kernel_rfl) (hS.sub ((List.Sublist.slnil).cons_cons _)) (fun hHeld => ?_)
          generalize World.drew _ = w24 at hS hHeld ⊢
          refine wpAnyH_take (i := 0) (oi := _) (v := (.slice ba bn bc)) rfl (by kernel_rfl) (by kernel_rfl) (by kernel_rfl) (fun _ _ _ h => h) (Or.inl ⟨by rfl, fun w hSw => by go_simp⟩) hHeld ?_
          simp [Act.put]
          refine wpAnyH_take (i := 2) (oi := _) (v := aV (gC A.f A.a (Sx.v A.s))) rfl (by kernel_rfl) (by kernel_rfl) (by kernel_rfl) (fun _ _ _ h => h) (yl_load (by kernel_rfl) 48 (.tmp 10) rfl 0 rfl 0 rfl (gC A.f A.a (Sx.v A.s)) (At.self _) Try.underlying48 rfl (szG oA _ _)) hHeld ?_
          simp [Act.put]
          refine wpAnyH_ready (rs := [1]) (by kernel_rfl) (by simp) ?_
          refine (AllReadyH.cons rfl (fun kQ hkQ => ?_) AllReadyH.nil)
          go_simp
          refine (made_t ⟨ba, bn, bc, bx⟩ _ hS.K.1.2.1 (by simp only; omega)).mono ?_
          rintro e w61 ⟨B, rfl, tB, mB, aB, hO1, hb1⟩
          replace hS := hS.own hb1 hO1
          have oB : B.f.Ok := tB.g.fl
          have TB := hide (And.intro tB (And.intro mB aB))
          clear tB mB aB hO1 hHeld hb1
          refine hkQ.out _ _ ((hS.weak (fun _ h => h.1)).sub ((List.Sublist.slnil).cons_cons _)) (fun hHeld => ?_)
          clear hkQ kQ
          refine wpAnyH_ready (rs := [3]) (by kernel_rfl) (by simp) ?_
          refine (AllReadyH.cons rfl (fun kQ hkQ => ?_) AllReadyH.nil)
          go_simp
          refine (same_t B A _ (unhide TB).1 (unhide TA).1 (Oe.es' hS.K.2) (Oe.es' hS.K.1.2) (by simp only; omega) true (made_rev (l := tx) (by have h := (unhide TB).2.1; simp only at h; rw [unhide HREV] at h; exact h) (unhide TA).2.1 (unhide TB).2.2 (unhide TA).2.2 (unhide HNr).1)).mono ?_
          rintro e w73 ⟨rfl, hb1⟩
          replace hS := hS.later hb1
          clear hHeld hb1
          refine hkQ.out _ _ ((hS.weak (fun _ h => h.1)).sub ((List.Sublist.slnil).cons_cons _)) (fun hHeld => ?_)
          clear hkQ kQ
          refine wpAnyH_take (i := 4) (oi := _) (v := .bool false) rfl (by kernel_rfl) (by kernel_rfl) (by kernel_rfl) (fun _ _ _ h => h) (Or.inl ⟨by rfl, fun w hSw => by go_simp⟩) hHeld ?_
          simp [Act.put]
          refine wpAnyH_take (i := 5) (oi := _) (v := .bool false) rfl (by kernel_rfl) (by kernel_rfl) (by kernel_rfl) (fun _ _ _ h => h) (Or.inl ⟨by rfl, fun w hSw => by go_simp⟩) hHeld ?_
          simp [Act.put]
          refine wpAnyH_take (i := 6) (oi := _) (v := (.slice ca cn cc)) rfl (by kernel_rfl) (by kernel_rfl) (by kernel_rfl) (fun _ _ _ h => h) (Or.inl ⟨by rfl, fun w hSw => by go_simp⟩) hHeld ?_
          simp [Act.put]
          refine wpAnyH_take (i := 8) (oi := _) (v := aV (gC A.f A.a (Sx.v A.s))) rfl (by kernel_rfl) (by kernel_rfl) (by kernel_rfl) (fun _ _ _ h => h) (yl_load (by kernel_rfl) 48 (.tmp 10) rfl 0 rfl 0 rfl (gC A.f A.a (Sx.v A.s)) (At.self _) Try.underlying48 rfl (szG oA _ _)) hHeld ?_
          simp [Act.put]
          refine wpAnyH_ready (rs := [7]) (by kernel_rfl) (by simp) ?_
          refine (AllReadyH.cons rfl (fun kQ hkQ => ?_) AllReadyH.nil)
          go_simp
          refine (made_t ⟨ca, cn, cc, cx⟩ _ hS.K.1.1.2.2 (by simp only; omega)).mono ?_
          rintro e w67 ⟨C, rfl, tC, mC, aC, hO1, hb1⟩
          replace hS := hS.own hb1 hO1
          have oC : C.f.Ok := tC.g.fl
          have TC := hide (And.intro tC (And.intro mC aC))
          clear tC mC aC hO1 hHeld hb1
          refine hkQ.out _ _ ((hS.weak (fun _ h => h.1.1)).sub ((List.Sublist.slnil).cons_cons _)) (fun hHeld => ?_)
          clear hkQ kQ
          refine wpAnyH_ready (rs := [9]) (by kernel_rfl) (by simp) ?_
          refine (AllReadyH.cons rfl (fun kQ hkQ => ?_) AllReadyH.nil)
          go_simp
          refine (same_t C A _ (unhide TC).1 (unhide TA).1 (Oe.es' hS.K.2) (Oe.es' hS.K.1.1.2) (by simp only; omega) true (made_twice (l := tx) (by have h := (unhide TC).2.1; simp only at h; rw [unhide HCX] at h; exact h) (unhide TA).2.1 (unhide TC).2.2 (unhide TA).2.2 (unhide HNr).1)).mono ?_
          rintro e w79 ⟨rfl, hb1⟩
          replace hS := hS.later hb1
          clear hHeld hb1
          refine hkQ.out _ _ ((hS.weak (fun _ h => h.1.1)).sub ((List.Sublist.slnil).cons_cons _)) (fun hHeld => ?_)
          clear hkQ kQ
          refine wpAnyH_take (i := 10) (oi := _) (v := .bool false) rfl (by kernel_rfl) (by kernel_rfl) (by kernel_rfl) (fun _ _ _ h => h) (Or.inl ⟨by rfl, fun w hSw => by go_simp⟩) hHeld ?_
          simp [Act.put]
          refine wpAnyH_take (i := 11) (oi := _) (v := .bool false) rfl (by kernel_rfl) (by kernel_rfl) (by kernel_rfl) (fun _ _ _ h => h) (Or.inl ⟨by rfl, fun w hSw => by go_simp⟩) hHeld ?_
          simp [Act.put]
          refine wpAnyH_done (by kernel_rfl) ?_ _
          clear hHeld
          replace hS := hS.weak (K' := fun w' => Ss w' ⟨ta, bn, tc, tx⟩ ∧ Oe w' w9.heap.size A.s.v A.s.xs) (fun w' h => ⟨h.1.1.1.1, h.1.1.2⟩)
          clear HREV HCX TB TC hcm
          by_cases hm0 : m < 0
          · have d1 : decide (m < 0) = true := decide_eq_true hm0
            go_wp2_with (go_at_call 15; refine (known_any _).mono ?_; rintro e w8k ⟨rfl, hb8⟩; replace hS := hS.later hb8; clear hb8)
            go_ret
            exact ⟨rfl, (unhide HBL).trans (hS.bel.mono (unhide HBL).size)⟩
          have d1 : decide (m < 0) = false := decide_eq_false hm0
          by_cases hmb : (bn : Int) < m
          · have d2 : decide ((bn : Int) < m) = true := decide_eq_true hmb
            go_wp2_with (go_at_call 15; refine (known_any _).mono ?_; rintro e w8k ⟨rfl, hb8⟩; replace hS := hS.later hb8; clear hb8)
            go_ret
            exact ⟨rfl, (unhide HBL).trans (hS.bel.mono (unhide HBL).size)⟩
          obtain ⟨q, hq⟩ : ∃ q : Nat, m = (q : Int) := ⟨m.toNat, by omega⟩
          subst hq
          have d2 : decide ((bn : Int) < (q : Int)) = false := decide_eq_false (by omega)
          have hqb : q ≤ bn := by omega
          have hqc : q ≤ tc := Nat.le_trans hqb hS.K.1.ok.le
          clear hm0 hmb
          go_upto_region 19 with fail
          refine wp_region_noPanic ?_
          replace hS := hS.drew
          refine wp_region_held_drew (S := Hs17 w9 [(g22, 48, (gC A.f A.a (Sx.v A.s)))] _) (by kernel_rfl) (hS.sub ((List.Sublist.slnil).cons_cons _)) (fun hHeld => ?_)
          generalize World.drew _ = w25 at hS hHeld ⊢
          refine wpAnyH_take (i := 0) (oi := _) (v := (.slice ta bn tc)) rfl (by kernel_rfl) (by kernel_rfl) (by kernel_rfl) (fun _ _ _ h => h) (Or.inl ⟨by rfl, fun w hSw => by go_simp⟩) hHeld ?_
          simp [Act.put]
          refine wpAnyH_take (i := 1) (oi := _) (v := .int .i64 (q : Int)) rfl (by kernel_rfl) (by kernel_rfl) (by kernel_rfl) (fun _ _ _ h => h) (Or.inl ⟨by rfl, fun w hSw => by go_simp⟩) hHeld ?_
          simp [Act.put]
          refine wpAnyH_take (i := 2) (oi := _) (v := Sx.v (Sx.upto ⟨ta, bn, tc, tx⟩ 329 q)) rfl (by kernel_rfl) (by kernel_rfl) (by kernel_rfl) (fun _ _ _ h => h) (yl_val (by kernel_rfl) _ (fun w => ex_uptoS (.tmp 79) (.tmp 80) rfl ⟨ta, bn, tc, tx⟩ q hqc rfl rfl)) hHeld ?_
          simp [Act.put]
          refine wpAnyH_take (i := 4) (oi := _) (v := (.slice ta bn tc)) rfl (by kernel_rfl) (by kernel_rfl) (by kernel_rfl) (fun _ _ _ h => h) (Or.inl ⟨by rfl, fun w hSw => by go_simp⟩) hHeld ?_
          simp [Act.put]
          refine wpAnyH_take (i := 5) (oi := _) (v := .int .i64 (q : Int)) rfl (by kernel_rfl) (by kernel_rfl) (by kernel_rfl) (fun _ _ _ h => h) (Or.inl ⟨by rfl, fun w hSw => by go_simp⟩) hHeld ?_
          simp [Act.put]
          refine wpAnyH_take (i := 6) (oi := _) (v := Sx.v (Sx.frm ⟨ta, bn, tc, tx⟩ 329 q)) rfl (by kernel_rfl) (by kernel_rfl) (by kernel_rfl) (fun _ _ _ h => h) (yl_val (by kernel_rfl) _ (fun w => ex_frmS (.tmp 83) (.tmp 84) rfl ⟨ta, bn, tc, tx⟩ q hqb rfl rfl)) hHeld ?_
          simp [Act.put]
          refine wpAnyH_ready (rs := [3, 12]) (by kernel_rfl) (by simp) ?_
          refine (AllReadyH.cons rfl (fun kQ hkQ => ?_) (AllReadyH.cons rfl (fun kQ hkQ => ?_) AllReadyH.nil))
          · skip
            go_simp
            refine (made_t (Sx.upto ⟨ta, bn, tc, tx⟩ 329 q) _ (Ss.upto hS.K.1 hqb) (by simp only [Sx.upto, Sx.frm]; omega)).mono ?_
            rintro e w126 ⟨U, rfl, tU, mU, aU, hO1, hb1⟩
            replace hS := hS.own hb1 hO1
            have oU : U.f.Ok := tU.g.fl
            have TU := hide (And.intro tU (And.intro mU aU))
            clear tU mU aU hO1 hHeld hb1
            refine hkQ.out _ _ ((hS.weak (fun _ h => h.1)).sub ((List.Sublist.slnil).cons_cons _)) (fun hHeld => ?_)
            clear hkQ kQ
            refine wpAnyH_ready (rs := [7, 12]) (by kernel_rfl) (by simp) ?_
            refine (AllReadyH.cons rfl (fun kQ hkQ => ?_) (AllReadyH.cons rfl (fun kQ hkQ => ?_) AllReadyH.nil))
            · skip
              go_simp
              refine (made_t (Sx.frm ⟨ta, bn, tc, tx⟩ 329 q) _ (Ss.frm hS.K.1.1 hqb) (by simp only [Sx.upto, Sx.frm]; omega)).mono ?_
              rintro e w127 ⟨V, rfl, tV, mV, aV, hO1, hb1⟩
              replace hS := hS.own hb1 hO1
              have oV : V.f.Ok := tV.g.fl
              have TV := hide (And.intro tV (And.intro mV aV))
              clear tV mV aV hO1 hHeld hb1
              refine hkQ.out _ _ ((hS.weak (fun _ h => h.1.1)).sub ((List.Sublist.slnil).cons_cons _)) (fun hHeld => ?_)
              clear hkQ kQ
              refine wpAnyH_ready (rs := [8, 12]) (by kernel_rfl) (by simp) ?_
              refine (AllReadyH.cons rfl (fun kQ hkQ => ?_) (AllReadyH.cons rfl (fun kQ hkQ => ?_) AllReadyH.nil))
              · skip
                go_simp
                refine (both_t U V _ (unhide TU).1 (unhide TV).1 (Oe.es' hS.K.1.2) (Oe.es' hS.K.2) (by simp only [Sx.upto, Sx.frm]; omega)).mono ?_
                rintro e w128 ⟨J, rfl, eJ, tJ, hO1, hb1⟩
                replace hS := hS.own hb1 hO1
                have oJ : J.f.Ok := tJ.g.fl
                have TJ := hide (And.intro tJ eJ)
                clear tJ eJ hO1 hHeld hb1
                refine hkQ.out _ _ ((hS.weak (fun _ h => h.1.1.1)).sub ((List.Sublist.slnil).cons_cons _)) (fun hHeld => ?_)
                clear hkQ kQ
                refine wpAnyH_take (i := 9) (oi := _) (v := .tuple #[aV (gC J.f J.a (Sx.v J.s)), .bool true]) rfl (by kernel_rfl) (by kernel_rfl) (by kernel_rfl) (fun _ _ _ h => h) (Or.inl ⟨by rfl, fun w hSw => by go_simp⟩) hHeld ?_
                simp [Act.put]
                refine wpAnyH_take (i := 10) (oi := _) (v := aV (gC J.f J.a (Sx.v J.s))) rfl (by kernel_rfl) (by kernel_rfl) (by kernel_rfl) (fun _ _ _ h => h) (Or.inl ⟨by rfl, fun w hSw => by go_simp⟩) hHeld ?_
                simp [Act.put]
                refine wpAnyH_take (i := 11) (oi := _) (v := .bool true) rfl (by kernel_rfl) (by kernel_rfl) (by kernel_rfl) (fun _ _ _ h => h) (Or.inl ⟨by rfl, fun w hSw => by go_simp⟩) hHeld ?_
                simp [Act.put]
                refine wpAnyH_ready (rs := [12]) (by kernel_rfl) (by simp) ?_
                refine (AllReadyH.cons rfl (fun kQ hkQ => ?_) AllReadyH.nil)
                refine dw (by kernel_rfl) (op_alloc' 48 rfl (gC zFlr 0 nilS) Try.inG hS ?_)
                clear hS hHeld
                intro g29 w29 hS
                refine hkQ.out _ _ ((hS.weak (fun _ h => h.1.1.1)).sub (((List.Sublist.slnil).cons_cons _).cons _)) (fun hHeld => ?_)
                clear hkQ kQ
                simp [Act.put]
                refine wpAnyH_ready (rs := [13]) (by kernel_rfl) (by simp) ?_
                refine (AllReadyH.cons rfl (fun kQ hkQ => ?_) AllReadyH.nil)
                refine dw (by kernel_rfl) (op_store 48 (.tmp 11) (.tmp 88) rfl 0 rfl 0 rfl (gC J.f J.a (Sx.v J.s)) (gC J.f J.a (Sx.v J.s)) (pt_g zFlr_ok oJ 0 J.a nilS (Sx.v J.s)) rfl (szG oJ _ _) (one_g _ _ rfl) hS ?_)
                clear hS hHeld
                intro w30 hS
                change Hs17 w9 [(g29, 48, (gC J.f J.a (Sx.v J.s))), (g22, 48, (gC A.f A.a (Sx.v A.s)))] _ w30 at hS
                refine hkQ.out _ _ ((hS.weak (fun _ h => h.1.1.1)).sub (((List.Sublist.slnil).cons_cons _).cons _)) (fun hHeld => ?_)
                clear hkQ kQ
                simp [Act.put]
                refine wpAnyH_take (i := 14) (oi := _) (v := .bool true) rfl (by kernel_rfl) (by kernel_rfl) (by kernel_rfl) (fun _ _ _ h => h) (Or.inl ⟨by rfl, fun w hSw => by go_simp⟩) hHeld ?_
                simp [Act.put]
                refine wpAnyH_done (by kernel_rfl) ?_ _
                unfold NoPanic
                clear hHeld
                go_upto_region 20 with fail
                refine wp_region_lit ?_
                refine wl (by kernel_rfl) fun kQ hkQ => ?_
                go_simp
                refine hkQ _ _ ?_
                clear hkQ kQ
                refine wl (by kernel_rfl) fun kQ hkQ => ?_
                go_simp
                refine hkQ _ _ ?_
                clear hkQ kQ
                refine wl_load (by kernel_rfl) 48 (.tmp 11) rfl 0 rfl 0 rfl (gC J.f J.a (Sx.v J.s)) (At.self _) Try.underlying48 rfl (szG oJ _ _) hS ?_
                simp [Act.put]
                refine wl_load (by kernel_rfl) 48 (.tmp 10) rfl 1 rfl 0 rfl (gC A.f A.a (Sx.v A.s)) (At.self _) Try.underlying48 rfl (szG oA _ _) hS ?_
                simp [Act.put]
                refine wl (by kernel_rfl) fun kQ hkQ => ?_
                go_simp
                refine (same_t J A _ (unhide TJ).1 (unhide TA).1 (Oe.es' hS.K.2) (Oe.es' hS.K.1.1.1.2) (by simp only [Sx.upto, Sx.frm]; omega) true (made_parts (l := tx) (k := q) (unhide TU).2.1 (unhide TV).2.1 (unhide TA).2.1 (unhide TU).2.2 (unhide TV).2.2 (unhide TA).2.2 (unhide HNr).1 (unhide TJ).2)).mono ?_
                rintro e w31 ⟨rfl, hb1⟩
                replace hS := hS.later hb1
                refine hkQ _ _ ?_
                clear hkQ kQ hb1
                refine wl (by kernel_rfl) fun kQ hkQ => ?_
                go_simp
                refine hkQ _ _ ?_
                clear hkQ kQ
                refine wl (by kernel_rfl) fun kQ hkQ => ?_
                go_simp
                refine hkQ _ _ ?_
                clear hkQ kQ
                refine wl (by kernel_rfl) fun kQ hkQ => ?_
                go_simp
                refine (known_any _).mono ?_
                rintro e w32 ⟨rfl, hb1⟩
                replace hS := hS.later hb1
                refine hkQ _ _ ?_
                clear hkQ kQ hb1
                refine wl (by kernel_rfl) fun kQ hkQ => ?_
                go_simp
                refine hkQ _ _ ?_
                clear hkQ kQ
                refine wl (by kernel_rfl) fun kQ hkQ => ?_
                go_simp
                refine hkQ _ _ ?_
                clear hkQ kQ
                refine wpList_nil ?_
                go_wp2
                go_ret
                exact ⟨rfl, (unhide HBL).trans (hS.bel.mono (unhide HBL).size)⟩
              · skip
                refine dw (by kernel_rfl) (op_alloc' 48 rfl (gC zFlr 0 nilS) Try.inG hS ?_)
                clear hS hHeld
                intro g33 w33 hS
                refine hkQ.out _ _ ((hS.weak (fun _ h => h.1.1)).sub (((List.Sublist.slnil).cons_cons _).cons _)) (fun hHeld => ?_)
                clear hkQ kQ
                simp [Act.put]
                refine wpAnyH_ready (rs := [8]) (by kernel_rfl) (by simp) ?_
                refine (AllReadyH.cons rfl (fun kQ hkQ => ?_) AllReadyH.nil)
                go_simp
                refine (both_t U V _ (unhide TU).1 (unhide TV).1 (Oe.es' hS.K.1.2) (Oe.es' hS.K.2) (by simp only [Sx.upto, Sx.frm]; omega)).mono ?_
                rintro e w134 ⟨J, rfl, eJ, tJ, hO1, hb1⟩
                replace hS := hS.own hb1 hO1
                have oJ : J.f.Ok := tJ.g.fl
                have TJ := hide (And.intro tJ eJ)
                clear tJ eJ hO1 hHeld hb1
                refine hkQ.out _ _ ((hS.weak (fun _ h => h.1.1.1)).sub (((List.Sublist.slnil).cons_cons _).cons _)) (fun hHeld => ?_)
                clear hkQ kQ
                refine wpAnyH_take (i := 9) (oi := _) (v := .tuple #[aV (gC J.f J.a (Sx.v J.s)), .bool true]) rfl (by kernel_rfl) (by kernel_rfl) (by kernel_rfl) (fun _ _ _ h => h) (Or.inl ⟨by rfl, fun w hSw => by go_simp⟩) hHeld ?_
                simp [Act.put]
                refine wpAnyH_take (i := 10) (oi := _) (v := aV (gC J.f J.a (Sx.v J.s))) rfl (by kernel_rfl) (by kernel_rfl) (by kernel_rfl) (fun _ _ _ h => h) (Or.inl ⟨by rfl, fun w hSw => by go_simp⟩) hHeld ?_
                simp [Act.put]
                refine wpAnyH_take (i := 11) (oi := _) (v := .bool true) rfl (by kernel_rfl) (by kernel_rfl) (by kernel_rfl) (fun _ _ _ h => h) (Or.inl ⟨by rfl, fun w hSw => by go_simp⟩) hHeld ?_
                simp [Act.put]
                refine wpAnyH_ready (rs := [13]) (by kernel_rfl) (by simp) ?_
                refine (AllReadyH.cons rfl (fun kQ hkQ => ?_) AllReadyH.nil)
                refine dw (by kernel_rfl) (op_store 48 (.tmp 11) (.tmp 88) rfl 0 rfl 0 rfl (gC J.f J.a (Sx.v J.s)) (gC J.f J.a (Sx.v J.s)) (pt_g zFlr_ok oJ 0 J.a nilS (Sx.v J.s)) rfl (szG oJ _ _) (one_g _ _ rfl) hS ?_)
                clear hS hHeld
                intro w35 hS
                change Hs17 w9 [(g33, 48, (gC J.f J.a (Sx.v J.s))), (g22, 48, (gC A.f A.a (Sx.v A.s)))] _ w35 at hS
                refine hkQ.out _ _ ((hS.weak (fun _ h => h.1.1.1)).sub (((List.Sublist.slnil).cons_cons _).cons _)) (fun hHeld => ?_)
                clear hkQ kQ
                simp [Act.put]
                refine wpAnyH_take (i := 14) (oi := _) (v := .bool true) rfl (by kernel_rfl) (by kernel_rfl) (by kernel_rfl) (fun _ _ _ h => h) (Or.inl ⟨by rfl, fun w hSw => by go_simp⟩) hHeld ?_
                simp [Act.put]
                refine wpAnyH_done (by kernel_rfl) ?_ _
                unfold NoPanic
                clear hHeld
                go_upto_region 20 with fail
                refine wp_region_lit ?_
                refine wl (by kernel_rfl) fun kQ hkQ => ?_
                go_simp
                refine hkQ _ _ ?_
                clear hkQ kQ
                refine wl (by kernel_rfl) fun kQ hkQ => ?_
                go_simp
                refine hkQ _ _ ?_
                clear hkQ kQ
                refine wl_load (by kernel_rfl) 48 (.tmp 11) rfl 0 rfl 0 rfl (gC J.f J.a (Sx.v J.s)) (At.self _) Try.underlying48 rfl (szG oJ _ _) hS ?_
                simp [Act.put]
                refine wl_load (by kernel_rfl) 48 (.tmp 10) rfl 1 rfl 0 rfl (gC A.f A.a (Sx.v A.s)) (At.self _) Try.underlying48 rfl (szG oA _ _) hS ?_
                simp [Act.put]
                refine wl (by kernel_rfl) fun kQ hkQ => ?_
                go_simp
                refine (same_t J A _ (unhide TJ).1 (unhide TA).1 (Oe.es' hS.K.2) (Oe.es' hS.K.1.1.1.2) (by simp only [Sx.upto, Sx.frm]; omega) true (made_parts (l := tx) (k := q) (unhide TU).2.1 (unhide TV).2.1 (unhide TA).2.1 (unhide TU).2.2 (unhide TV).2.2 (unhide TA).2.2 (unhide HNr).1 (unhide TJ).2)).mono ?_
                rintro e w36 ⟨rfl, hb1⟩
                replace hS := hS.later hb1
                refine hkQ _ _ ?_
                clear hkQ kQ hb1
                refine wl (by kernel_rfl) fun kQ hkQ => ?_
                go_simp
                refine hkQ _ _ ?_
                clear hkQ kQ
                refine wl (by kernel_rfl) fun kQ hkQ => ?_
                go_simp
                refine hkQ _ _ ?_
                clear hkQ kQ
                refine wl (by kernel_rfl) fun kQ hkQ => ?_
                go_simp
                refine (known_any _).mono ?_
                rintro e w37 ⟨rfl, hb1⟩
                replace hS := hS.later hb1
                refine hkQ _ _ ?_
                clear hkQ kQ hb1
                refine wl (by kernel_rfl) fun kQ hkQ => ?_
                go_simp
                refine hkQ _ _ ?_
                clear hkQ kQ
                refine wl (by kernel_rfl) fun kQ hkQ => ?_
                go_simp
                refine hkQ _ _ ?_
                clear hkQ kQ
                refine wpList_nil ?_
                go_wp2
                go_ret
                exact ⟨rfl, (unhide HBL).trans (hS.bel.mono (unhide HBL).size)⟩
            · skip
              refine dw (by kernel_rfl) (op_alloc' 48 rfl (gC zFlr 0 nilS) Try.inG hS ?_)
              clear hS hHeld
              intro g38 w38 hS
              refine hkQ.out _ _ ((hS.weak (fun _ h => h.1)).sub (((List.Sublist.slnil).cons_cons _).cons _)) (fun hHeld => ?_)
              clear hkQ kQ
              simp [Act.put]
              refine wpAnyH_ready (rs := [7]) (by kernel_rfl) (by simp) ?_
              refine (AllReadyH.cons rfl (fun kQ hkQ => ?_) AllReadyH.nil)
              go_simp
              refine (made_t (Sx.frm ⟨ta, bn, tc, tx⟩ 329 q) _ (Ss.frm hS.K.1.1 hqb) (by simp only [Sx.upto, Sx.frm]; omega)).mono ?_
              rintro e w139 ⟨V, rfl, tV, mV, aV, hO1, hb1⟩
              replace hS := hS.own hb1 hO1
              have oV : V.f.Ok := tV.g.fl
              have TV := hide (And.intro tV (And.intro mV aV))
              clear tV mV aV hO1 hHeld hb1
              refine hkQ.out _ _ ((hS.weak (fun _ h => h.1.1)).sub (((List.Sublist.slnil).cons_cons _).cons _)) (fun hHeld => ?_)
              clear hkQ kQ
              refine wpAnyH_ready (rs := [8]) (by kernel_rfl) (by simp) ?_
              refine (AllReadyH.cons rfl (fun kQ hkQ => ?_) AllReadyH.nil)
              go_simp
              refine (both_t U V _ (unhide TU).1 (unhide TV).1 (Oe.es' hS.K.1.2) (Oe.es' hS.K.2) (by simp only [Sx.upto, Sx.frm]; omega)).mono ?_
              rintro e w140 ⟨J, rfl, eJ, tJ, hO1, hb1⟩
              replace hS := hS.own hb1 hO1
              have oJ : J.f.Ok := tJ.g.fl
              have TJ := hide (And.intro tJ eJ)
              clear tJ eJ hO1 hHeld hb1
              refine hkQ.out _ _ ((hS.weak (fun _ h => h.1.1.1)).sub (((List.Sublist.slnil).cons_cons _).cons _)) (fun hHeld => ?_)
              clear hkQ kQ
              refine wpAnyH_take (i := 9) (oi := _) (v := .tuple #[aV (gC J.f J.a (Sx.v J.s)), .bool true]) rfl (by kernel_rfl) (by kernel_rfl) (by kernel_rfl) (fun _ _ _ h => h) (Or.inl ⟨by rfl, fun w hSw => by go_simp⟩) hHeld ?_
              simp [Act.put]
              refine wpAnyH_take (i := 10) (oi := _) (v := aV (gC J.f J.a (Sx.v J.s))) rfl (by kernel_rfl) (by kernel_rfl) (by kernel_rfl) (fun _ _ _ h => h) (Or.inl ⟨by rfl, fun w hSw => by go_simp⟩) hHeld ?_
              simp [Act.put]
              refine wpAnyH_take (i := 11) (oi := _) (v := .bool true) rfl (by kernel_rfl) (by kernel_rfl) (by kernel_rfl) (fun _ _ _ h => h) (Or.inl ⟨by rfl, fun w hSw => by go_simp⟩) hHeld ?_
              simp [Act.put]
              refine wpAnyH_ready (rs := [13]) (by kernel_rfl) (by simp) ?_
              refine (AllReadyH.cons rfl (fun kQ hkQ => ?_) AllReadyH.nil)
              refine dw (by kernel_rfl) (op_store 48 (.tmp 11) (.tmp 88) rfl 0 rfl 0 rfl (gC J.f J.a (Sx.v J.s)) (gC J.f J.a (Sx.v J.s)) (pt_g zFlr_ok oJ 0 J.a nilS (Sx.v J.s)) rfl (szG oJ _ _) (one_g _ _ rfl) hS ?_)
              clear hS hHeld
              intro w41 hS
              change Hs17 w9 [(g38, 48, (gC J.f J.a (Sx.v J.s))), (g22, 48, (gC A.f A.a (Sx.v A.s)))] _ w41 at hS
              refine hkQ.out _ _ ((hS.weak (fun _ h => h.1.1.1)).sub (((List.Sublist.slnil).cons_cons _).cons _)) (fun hHeld => ?_)
              clear hkQ kQ
              simp [Act.put]
              refine wpAnyH_take (i := 14) (oi := _) (v := .bool true) rfl (by kernel_rfl) (by kernel_rfl) (by kernel_rfl) (fun _ _ _ h => h) (Or.inl ⟨by rfl, fun w hSw => by go_simp⟩) hHeld ?_
              simp [Act.put]
              refine wpAnyH_done (by kernel_rfl) ?_ _
              unfold NoPanic
              clear hHeld
              go_upto_region 20 with fail
              refine wp_region_lit ?_
              refine wl (by kernel_rfl) fun kQ hkQ => ?_
              go_simp
              refine hkQ _ _ ?_
              clear hkQ kQ
              refine wl (by kernel_rfl) fun kQ hkQ => ?_
              go_simp
              refine hkQ _ _ ?_
              clear hkQ kQ
              refine wl_load (by kernel_rfl) 48 (.tmp 11) rfl 0 rfl 0 rfl (gC J.f J.a (Sx.v J.s)) (At.self _) Try.underlying48 rfl (szG oJ _ _) hS ?_
              simp [Act.put]
              refine wl_load (by kernel_rfl) 48 (.tmp 10) rfl 1 rfl 0 rfl (gC A.f A.a (Sx.v A.s)) (At.self _) Try.underlying48 rfl (szG oA _ _) hS ?_
              simp [Act.put]
              refine wl (by kernel_rfl) fun kQ hkQ => ?_
              go_simp
              refine (same_t J A _ (unhide TJ).1 (unhide TA).1 (Oe.es' hS.K.2) (Oe.es' hS.K.1.1.1.2) (by simp only [Sx.upto, Sx.frm]; omega) true (made_parts (l := tx) (k := q) (unhide TU).2.1 (unhide TV).2.1 (unhide TA).2.1 (unhide TU).2.2 (unhide TV).2.2 (unhide TA).2.2 (unhide HNr).1 (unhide TJ).2)).mono ?_
              rintro e w42 ⟨rfl, hb1⟩
              replace hS := hS.later hb1
              refine hkQ _ _ ?_
              clear hkQ kQ hb1
              refine wl (by kernel_rfl) fun kQ hkQ => ?_
              go_simp
              refine hkQ _ _ ?_
              clear hkQ kQ
              refine wl (by kernel_rfl) fun kQ hkQ => ?_
              go_simp
              refine hkQ _ _ ?_
              clear hkQ kQ
              refine wl (by kernel_rfl) fun kQ hkQ => ?_
              go_simp
              refine (known_any _).mono ?_
              rintro e w43 ⟨rfl, hb1⟩
              replace hS := hS.later hb1
              refine hkQ _ _ ?_
              clear hkQ kQ hb1
              refine wl (by kernel_rfl) fun kQ hkQ => ?_
              go_simp
              refine hkQ _ _ ?_
              clear hkQ kQ
              refine wl (by kernel_rfl) fun kQ hkQ => ?_
              go_simp
              refine hkQ _ _ ?_
              clear hkQ kQ
              refine wpList_nil ?_
              go_wp2
              go_ret
              exact ⟨rfl, (unhide HBL).trans (hS.bel.mono (unhide HBL).size)⟩
          · skip
            refine dw (by kernel_rfl) (op_alloc' 48 rfl (gC zFlr 0 nilS) Try.inG hS ?_)
            clear hS hHeld
            intro g44 w44 hS
            refine hkQ.out _ _ ((hS.weak (fun _ h => h)).sub (((List.Sublist.slnil).cons_cons _).cons _)) (fun hHeld => ?_)
            clear hkQ kQ
            simp [Act.put]
            refine wpAnyH_ready (rs := [3]) (by kernel_rfl) (by simp) ?_
            refine (AllReadyH.cons rfl (fun kQ hkQ => ?_) AllReadyH.nil)
            go_simp
            refine (made_t (Sx.upto ⟨ta, bn, tc, tx⟩ 329 q) _ (Ss.upto hS.K.1 hqb) (by simp only [Sx.upto, Sx.frm]; omega)).mono ?_
            rintro e w145 ⟨U, rfl, tU, mU, aU, hO1, hb1⟩
            replace hS := hS.own hb1 hO1
            have oU : U.f.Ok := tU.g.fl
            have TU := hide (And.intro tU (And.intro mU aU))
            clear tU mU aU hO1 hHeld hb1
            refine hkQ.out _ _ ((hS.weak (fun _ h => h.1)).sub (((List.Sublist.slnil).cons_cons _).cons _)) (fun hHeld => ?_)
            clear hkQ kQ
            refine wpAnyH_ready (rs := [7]) (by kernel_rfl) (by simp) ?_
            refine (AllReadyH.cons rfl (fun kQ hkQ => ?_) AllReadyH.nil)
            go_simp
            refine (made_t (Sx.frm ⟨ta, bn, tc, tx⟩ 329 q) _ (Ss.frm hS.K.1.1 hqb) (by simp only [Sx.upto, Sx.frm]; omega)).mono ?_
            rintro e w146 ⟨V, rfl, tV, mV, aV, hO1, hb1⟩
            replace hS := hS.own hb1 hO1
            have oV : V.f.Ok := tV.g.fl
            have TV := hide (And.intro tV (And.intro mV aV))
            clear tV mV aV hO1 hHeld hb1
            refine hkQ.out _ _ ((hS.weak (fun _ h => h.1.1)).sub (((List.Sublist.slnil).cons_cons _).cons _)) (fun hHeld => ?_)
            clear hkQ kQ
            refine wpAnyH_ready (rs := [8]) (by kernel_rfl) (by simp) ?_
            refine (AllReadyH.cons rfl (fun kQ hkQ => ?_) AllReadyH.nil)
            go_simp
            refine (both_t U V _ (unhide TU).1 (unhide TV).1 (Oe.es' hS.K.1.2) (Oe.es' hS.K.2) (by simp only [Sx.upto, Sx.frm]; omega)).mono ?_
            rintro e w147 ⟨J, rfl, eJ, tJ, hO1, hb1⟩
            replace hS := hS.own hb1 hO1
            have oJ : J.f.Ok := tJ.g.fl
            have TJ := hide (And.intro tJ eJ)
            clear tJ eJ hO1 hHeld hb1
            refine hkQ.out _ _ ((hS.weak (fun _ h => h.1.1.1)).sub (((List.Sublist.slnil).cons_cons _).cons _)) (fun hHeld => ?_)
            clear hkQ kQ
            refine wpAnyH_take (i := 9) (oi := _) (v := .tuple #[aV (gC J.f J.a (Sx.v J.s)), .bool true]) rfl (by kernel_rfl) (by kernel_rfl) (by kernel_rfl) (fun _ _ _ h => h) (Or.inl ⟨by rfl, fun w hSw => by go_simp⟩) hHeld ?_
            simp [Act.put]
            refine wpAnyH_take (i := 10) (oi := _) (v := aV (gC J.f J.a (Sx.v J.s))) rfl (by kernel_rfl) (by kernel_rfl) (by kernel_rfl) (fun _ _ _ h => h) (Or.inl ⟨by rfl, fun w hSw => by go_simp⟩) hHeld ?_
            simp [Act.put]
            refine wpAnyH_take (i := 11) (oi := _) (v := .bool true) rfl (by kernel_rfl) (by kernel_rfl) (by kernel_rfl) (fun _ _ _ h => h) (Or.inl ⟨by rfl, fun w hSw => by go_simp⟩) hHeld ?_
            simp [Act.put]
            refine wpAnyH_ready (rs := [13]) (by kernel_rfl) (by simp) ?_
            refine (AllReadyH.cons rfl (fun kQ hkQ => ?_) AllReadyH.nil)
            refine dw (by kernel_rfl) (op_store 48 (.tmp 11) (.tmp 88) rfl 0 rfl 0 rfl (gC J.f J.a (Sx.v J.s)) (gC J.f J.a (Sx.v J.s)) (pt_g zFlr_ok oJ 0 J.a nilS (Sx.v J.s)) rfl (szG oJ _ _) (one_g _ _ rfl) hS ?_)
            clear hS hHeld
            intro w48 hS
            change Hs17 w9 [(g44, 48, (gC J.f J.a (Sx.v J.s))), (g22, 48, (gC A.f A.a (Sx.v A.s)))] _ w48 at hS
            refine hkQ.out _ _ ((hS.weak (fun _ h => h.1.1.1)).sub (((List.Sublist.slnil).cons_cons _).cons _)) (fun hHeld => ?_)
            clear hkQ kQ
            simp [Act.put]
            refine wpAnyH_take (i := 14) (oi := _) (v := .bool true) rfl (by kernel_rfl) (by kernel_rfl) (by kernel_rfl) (fun _ _ _ h => h) (Or.inl ⟨by rfl, fun w hSw => by go_simp⟩) hHeld ?_
            simp [Act.put]
            refine wpAnyH_done (by kernel_rfl) ?_ _
            unfold NoPanic
            clear hHeld
            go_upto_region 20 with fail
            refine wp_region_lit ?_
            refine wl (by kernel_rfl) fun kQ hkQ => ?_
            go_simp
            refine hkQ _ _ ?_
            clear hkQ kQ
            refine wl (by kernel_rfl) fun kQ hkQ => ?_
            go_simp
            refine hkQ _ _ ?_
            clear hkQ kQ
            refine wl_load (by kernel_rfl) 48 (.tmp 11) rfl 0 rfl 0 rfl (gC J.f J.a (Sx.v J.s)) (At.self _) Try.underlying48 rfl (szG oJ _ _) hS ?_
            simp [Act.put]
            refine wl_load (by kernel_rfl) 48 (.tmp 10) rfl 1 rfl 0 rfl (gC A.f A.a (Sx.v A.s)) (At.self _) Try.underlying48 rfl (szG oA _ _) hS ?_
            simp [Act.put]
            refine wl (by kernel_rfl) fun kQ hkQ => ?_
            go_simp
            refine (same_t J A _ (unhide TJ).1 (unhide TA).1 (Oe.es' hS.K.2) (Oe.es' hS.K.1.1.1.2) (by simp only [Sx.upto, Sx.frm]; omega) true (made_parts (l := tx) (k := q) (unhide TU).2.1 (unhide TV).2.1 (unhide TA).2.1 (unhide TU).2.2 (unhide TV).2.2 (unhide TA).2.2 (unhide HNr).1 (unhide TJ).2)).mono ?_
            rintro e w49 ⟨rfl, hb1⟩
            replace hS := hS.later hb1
            refine hkQ _ _ ?_
            clear hkQ kQ hb1
            refine wl (by kernel_rfl) fun kQ hkQ => ?_
            go_simp
            refine hkQ _ _ ?_
            clear hkQ kQ
            refine wl (by kernel_rfl) fun kQ hkQ => ?_
            go_simp
            refine hkQ _ _ ?_
            clear hkQ kQ
            refine wl (by kernel_rfl) fun kQ hkQ => ?_
            go_simp
            refine (known_any _).mono ?_
            rintro e w50 ⟨rfl, hb1⟩
            replace hS := hS.later hb1
            refine hkQ _ _ ?_
            clear hkQ kQ hb1
            refine wl (by kernel_rfl) fun kQ hkQ => ?_
            go_simp
            refine hkQ _ _ ?_
            clear hkQ kQ
            refine wl (by kernel_rfl) fun kQ hkQ => ?_
            go_simp
            refine hkQ _ _ ?_
            clear hkQ kQ
            refine wpList_nil ?_
            go_wp2
            go_ret
            exact ⟨rfl, (unhide HBL).trans (hS.bel.mono (unhide HBL).size)⟩
        · obtain ⟨j, hj⟩ : ∃ j, k' = j + 1 := ⟨k' - 1, by omega⟩
          obtain ⟨hz, hys⟩ := unhide HZ
          have hzj : z = (j : Int) := by omega
          have hjt : j < tn := by omega
          obtain ⟨x, b, off, hge, hxo, hsa, hbs, hrg⟩ := (show Ss wr ⟨ta, tn, tc, tx⟩ from by
            obtain ⟨s', e1, e2, e3⟩ := hO5.sx
            obtain ⟨a', n', c', x'⟩ := s'
            simp only [Sx.v, Value.slice.injEq] at e1
            obtain ⟨rfl, rfl, rfl⟩ := e1
            simp only at e2; subst e2; exact e3).at_ (k := j) hjt
          simp only at hge hsa
          subst hsa
          subst hzj
          have hjz : (j : Int) < (tn : Int) := by omega
          have hw2 : IntKind.i64.wrap ((j : Int) - 1) = (j : Int) - 1 := by rw [IntKind.wrap_i64]; omega
          have d0 : decide ((0 : Int) ≤ (j : Int)) = true := decide_eq_true (by omega)
          have hS := Hs17.begin wr (fun w' => Om w' w.heap.size u6 ys ∧ Om w' w.heap.size (.slice (some ⟨b, off, none⟩) tn tc) tx) (fun w' ho => ⟨hO6.old ho, hO5.old ho⟩)
          have HYS : Hid (ys ++ [x] = (tx.drop j).reverse) := hide (by
            have h9 := List.drop_eq_getElem_cons (l := tx) (i := j) (by rw [unhide HTL]; exact hjt)
            rw [h9, List.reverse_cons, hys, hj, (List.getElem?_eq_some_iff.1 hge).2])
          have HNE := hide hne
          have HB := hide hB
          have HR := hide hrg
          have HLT : Hid (∀ g, (Value.slice (some ⟨b, off, none⟩) tn tc).ownBlock = some g → g < wr.heap.size) := hide (fun g hg => (hO5.own.lt g hg).2)
          clear hO6 hO5 hne hB hrg hge hbs hys hz
          go_upto_region 10 with fail
          refine wp_region_lit ?_
          refine wl (by kernel_rfl) fun kQ hkQ => ?_
          go_simp
          refine hkQ _ _ ?_
          clear hkQ kQ
          refine wl (by kernel_rfl) fun kQ hkQ => ?_
          go_simp
          refine hkQ _ _ ?_
          clear hkQ kQ
          refine wl (by kernel_rfl) fun kQ hkQ => ?_
          go_simp
          refine hkQ _ _ ?_
          clear hkQ kQ
          refine wl (by kernel_rfl) fun kQ hkQ => ?_
          go_simp
          refine hkQ _ _ ?_
          clear hkQ kQ
          refine wv (aV (smC x)) (by kernel_rfl) (ex_loadR 45 (.tmp 42) rfl b (off + j * 329) rfl (smC x) (unhide HR) Try.underlying45 rfl (szSm hxo)) ?_
          simp [Act.put]
          refine wl (by kernel_rfl) fun kQ hkQ => ?_
          refine op_bs1S (.tmp 43) rfl x hxo rfl hS ?_
          clear hS
          intro g9 w9 hS
          refine hkQ _ _ ?_
          clear hkQ kQ
          simp [Act.put]
          refine wl_appendS (by kernel_rfl) (.tmp 39) (.tmp 44) rfl rfl hS.K.1 ⟨some ⟨g9, 0, none⟩, 1, 1, [x]⟩ (ss_one hS hxo) rfl (by simp only; omega) (Nat.le_trans (unhide HB).size hS.bel.size) ?_
          intro v' w' hO' hg' hat'
          have HO' := hide hO'
          have HB' := hide (((unhide HB).trans (hS.bel.mono (unhide HB).size)).trans (hS.K.1.bel hg' (Nat.le_refl _) (Nat.le_trans (unhide HB).size hS.bel.size)))
          have H5' := hide (hS.K.2.keep hg' (fun g hg e => unhide HNE g e.symm (by rw [hg])))
          have HN' : Hid (∀ g, v'.ownBlock = some g → some g ≠ (Value.slice (some ⟨b, off, none⟩) tn tc).ownBlock) := hide (fun g hg e => by
            rcases hat' with h1 | h1
            · exact unhide HNE g (show u6.ownBlock = some g from h1.symm.trans hg) e
            · have h2 := unhide HLT g e.symm
              have h3 := hS.bel.size
              rw [h1] at hg; simp only [Option.some.injEq] at hg; omega)
          clear hS hO' hg' hat'
          simp [Act.put]
          refine wl (by kernel_rfl) fun kQ hkQ => ?_
          go_simp
          refine hkQ _ _ ?_
          clear hkQ kQ
          refine wpList_nil ?_
          go_wp2_with fail
          go_roundw
          case rel => exact ⟨j, _, ys ++ [x], by omega, rfl, hide ⟨rfl, unhide HYS⟩, unhide HO', unhide H5', unhide HN', unhide HB'⟩
          case measure => simp [intOf]
end Go.Proofs.Ytppklfckpmenbaa
