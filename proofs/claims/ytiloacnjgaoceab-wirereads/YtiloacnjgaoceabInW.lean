import Derived.Test.YtiloacnjgaoceabShtW
import Derived.Test.YtiloacnjgaoceabOwsM
namespace Go.Proofs.Ytiloacnjgaoceab
open Go.RowKit
set_option linter.unusedVariables false

/-! The calls of the document's Reader. -/

theorem yieldsIf_cut {P : Program} {ops : Array Oper} {S : World → Prop} {o : Oper} {a : Act} (hw : Region.wanted o (yielded ops a.tmps) = true) (t : TypeId) (x y z : Operand) (ho : o.op = .slice t x (some y) (some z) none)
    (e : TypeId) (hu : P.underlying t = some (.slice e)) (hsz : (P.info? e).map (·.size) = some 1) (s d : Sl) (l m : Nat) (hdd : d = (s.cut l).pre m) (hx : a.eval x = .slice s.a s.n s.c) (yl zh : Int) (hy : a.eval y = .int .i64 yl) (hyl : yl = l) (hz : a.eval z = .int .i64 zh) (hzh : zh = ((l + m : Nat) : Int)) (hh : l + m ≤ s.c) :
    YieldsIf P ops S o (.slice d.a d.n d.c) a := by
  subst hyl hzh hdd
  refine .inl ⟨hw, fun w _ => ?_⟩
  have he : P.elem t = e := by simp [Program.elem, hu]
  have hu' : P.underlying t = some (.slice (P.elem t)) := by rw [he]; exact hu
  have hs : (sizeOf (P.elem t)).run P w = .ok 1 w := by
    rw [he]
    cases hq : P.info? e with
    | none => simp [hq] at hsz
    | some i => simp [hq] at hsz; simp [sizeOf, typeInfo, hq, hsz]
  have hrun : (Instr.sliceAt t (.slice s.a s.n s.c) (some (.int .i64 (l : Int))) (some (.int .i64 ((l + m : Nat) : Int))) none).run P w = .ok (.slice (if s.c = l then s.a else s.a.map (·.add l)) m (s.c - l)) w := by
    rw [run_sliceAt_slice w t _ _ _ _ hu', run_slice_lh w t s.a s.n s.c hu' .i64 .i64 l ((l + m : Nat) : Int) (by omega) (by omega) (by omega), hs]
    simp only [Result.andThen, sliced, Int.toNat_natCast, Nat.mul_one, Nat.add_sub_cancel_left]
  simp only [Sl.pre, Sl.cut]
  rw [← hx, ← hy, ← hz] at hrun
  simp [execOp, ho, hrun, Result.andThen]

/-- append of a slice to a row of one's own, at a step of a drawn region -/
theorem step_append_sl {P : Program} {ops : Array Oper} {o : Oper} {a : Act} {w : World} {K : Act → World → Prop} {Q : Exit → Act → World → Prop} {E : Prop} (hgd : o.guard = none) (s x : Operand) (t : TypeId)
    (ho : o.op = .call { callee := .builtin .append, args := #[s, x], argTypes := #[t, t] })
    (base : Nat) (e : TypeId) (i : TypeInfo) (z : Value) (ht : P.underlying t = some (.slice e)) (hi : P.info? e = some i) (hz : i.zero = some z)
    (hsize : i.size = 1) (hby : i.bytes = 1) (hzs : z.cells.size = 1)
    (v : Value) (n : Nat) (xs : List Value) (hs : a.eval s = v) (hown : w.ownsRow base e 1 v n xs)
    (d : Sl) (hd : d.Ok w) (hx : a.eval x = .slice d.a d.n d.c)
    (h63 : n + d.n ≤ 140737488355328) (hbase : base ≤ w.heap.size)
    (h : ∀ v' w', w'.ownsRow base e 1 v' (n + d.n) (xs ++ U8 d.l) → w.grownBy w' v.ownBlock → K (a.put o.dst v') w') :
    if Region.wanted o (yielded ops a.tmps) = true then Oper.wp P o a w K Q else E := by
  cases hda : d.a with
  | none =>
    obtain ⟨h0, hc0⟩ := hd.nn hda
    have hl0 : d.l = [] := List.eq_nil_of_length_eq_zero (by rw [hd.len, h0])
    have hw : Region.wanted o (yielded ops a.tmps) = true := by simp [Region.wanted, hgd]
    rw [if_pos hw]
    have hrun := run_append_owned_none (P := P) (w := w) base t o.type e i 1 ht hi v n xs hown
    unfold Oper.wp
    rw [hda, h0, hc0] at hx
    simp [execOp, ho, resolve, invoke, builtin, hs, hx, hrun, Result.andThen]
    refine h v w ?_ (World.grownBy.refl w _)
    rw [h0, hl0]; simpa [U8] using hown
  | some ad =>
    exact step_append_at hgd s x t ho base e i z 1 1 ht hi hz hsize hby hzs (by decide) v n xs hs hown ad d.n d.c (U8 d.l) (by rw [hx, hda]) (by rw [U8_length, hd.len, Nat.mul_one]) (hd.cells ad hda) (U8_one _) (by unfold maxLen; omega) (by omega) hbase (fun v' w' h1 h2 _ => h v' w' h1 h2)

set_option maxHeartbeats 1000000 in
set_option maxRecDepth 100000 in
theorem iFail_any (p : Nat) (b : Sl) (t : Nat) (c : Int) (w : World) (h : Inr w p b t 0) :
    Calls Try.prog 78 #[.pointer (some ⟨p, 0, none⟩), .int .i64 c] w fun e w' => e = .returned (.tuple #[]) ∧ But p w w' ∧ Inr w' p b t c := by
  have c2 : w.cell? ⟨p, 2, none⟩ = some (.int .i64 0) := by simpa using h.arr.cell 2
  have f2 := h.arr.frozen 2
  go_enter Try.func78, Try.ntmps78
  go_wp2
  go_end0
  exact ⟨rfl, (But.refl p w).setCell 2 _, h.setE c⟩

/-- the parts of the document's Reader, as the walk reads them -/
theorem Inr.cells {w : World} {p : Nat} {b : Sl} {t : Nat} {f : Int} (h : Inr w p b t f) : w.cell? ⟨p, 0, none⟩ = some (.slice b.a b.n b.c) ∧ w.cell? ⟨p, 1, none⟩ = some (.int .i64 t) ∧ w.cell? ⟨p, 2, none⟩ = some (.int .i64 f) ∧ w.frozen? ⟨p, 1, none⟩ = false :=
  ⟨by simpa [Sl.v] using h.arr.cell 0, by simpa using h.arr.cell 1, by simpa using h.arr.cell 2, h.arr.frozen 1⟩
theorem Inr.drewN {w : World} {p : Nat} {b : Sl} {t : Nat} {f : Int} (h : Inr w p b t f) (k : Nat) : Inr (w.drewN k) p b t f := h.later (below_drewN (Below.refl _ _) k)
theorem But.undrewN {p k : Nat} {w w' : World} (h : But p (w.drewN k) w') : But p w w' := ⟨h.os, h.tape, h.output, h.size, h.block⟩

/-- the Reader sticks -/
theorem IPost.sticks {α : Type} {V : α → Value → World → World → Prop} {z : α} {zv : Value} {P : List Int → Parse α} {p : Nat} {b : Sl} {t : Nat} {f : Int} {w w' : World} (h : Inr w p b t f) (hf : f ≠ 0) (hb : Below w.heap.size w w') (hz : V z zv w w') : IPost V p b (face z P (b.l.drop t, f)) w (.returned zv) w' := by
  unfold face; rw [if_pos hf]
  exact ⟨But.of_below hb, zv, t, rfl, hz, h.later hb, rfl⟩
theorem IPost.no {α : Type} {V : α → Value → World → World → Prop} {z : α} {zv : Value} {P : List Int → Parse α} {p : Nat} {b : Sl} {t : Nat} {c : Int} {w w' : World} (hP : P (b.l.drop t) = .error c) (hB : But p w w') (h : Inr w' p b t c) (hz : V z zv w w') : IPost V p b (face z P (b.l.drop t, 0)) w (.returned zv) w' := by
  unfold face; rw [if_neg (by simp)]; simp only; rw [hP]
  exact ⟨hB, zv, t, rfl, hz, h, rfl⟩
theorem IPost.yes {α : Type} {V : α → Value → World → World → Prop} {z x : α} {v : Value} {P : List Int → Parse α} {p : Nat} {b : Sl} {t t' : Nat} {r : List Int} {w w' : World} (hP : P (b.l.drop t) = .ok (x, r)) (hB : But p w w') (h : Inr w' p b t' 0) (hr : b.l.drop t' = r) (hV : V x v w w') : IPost V p b (face z P (b.l.drop t, 0)) w (.returned v) w' := by
  unfold face; rw [if_neg (by simp)]; simp only; rw [hP]
  exact ⟨hB, v, t', rfl, hV, h, hr⟩

set_option maxHeartbeats 2000000 in
set_option maxRecDepth 100000 in
theorem iFixed_any (p : Nat) (b : Sl) (t : Nat) (f n : Int) (w : World) (h : Inr w p b t f) (hm : b.n ≤ 1099511627776) :
    Calls Try.prog 58 #[.pointer (some ⟨p, 0, none⟩), .int .i64 n] w (IPost isL p b (face [] (pFixed n) (b.l.drop t, f)) w) := by
  obtain ⟨c0, c1, c2, f1⟩ := h.cells
  have hLl : (b.l.drop t).length = b.n - t := by rw [List.length_drop, h.ok.len]
  have hte := h.le
  by_cases hf : f = 0
  · subst hf
    by_cases hn0 : n < 0
    · have hP : pFixed n (b.l.drop t) = .error 90 := by unfold pFixed; rw [if_pos (.inl hn0)]
      have HP := hide hP
      have hF := fun k => iFail_any p b t 90 (w.drewN k) (h.drewN k)
      have hd1 : decide (n < 0) = true := by simp; omega
      have HH := hide h
      clear hP hLl h
      go_enter Try.func58, Try.ntmps58
      go_wp2_with fail
      go_quiet (fail)
      go_wp2_with fail
      refine (hF _).mono ?_
      rintro e w1 ⟨rfl, hB, hI⟩
      go_wp2
      go_ret
      exact IPost.no (unhide HP) hB.undrewN hI (isL_nil _ _)
    · by_cases hn1 : (b.n : Int) - (t : Int) < n
      · have hP : pFixed n (b.l.drop t) = .error 90 := by unfold pFixed; rw [if_pos (.inr (by rw [hLl]; omega))]
        have HP := hide hP
        have hF := fun k => iFail_any p b t 90 (w.drewN k) (h.drewN k)
        have hd1 : decide (n < 0) = false := by simp; omega
        have hd2 : decide ((b.n : Int) - (t : Int) < n) = true := by simp; omega
        have HH := hide h
        clear hP hLl h
        go_enter Try.func58, Try.ntmps58
        go_wp2_with fail
        go_quiet (fail)
        go_wp2_with fail
        refine (hF _).mono ?_
        rintro e w1 ⟨rfl, hB, hI⟩
        go_wp2
        go_ret
        exact IPost.no (unhide HP) hB.undrewN hI (isL_nil _ _)
      · obtain ⟨m, rfl⟩ : ∃ m : Nat, n = m := ⟨n.toNat, by omega⟩
        have hP : pFixed m (b.l.drop t) = .ok ((b.l.drop t).take m, b.l.drop (t + m)) := by
          unfold pFixed; rw [if_neg (by rw [hLl]; omega), Int.toNat_natCast, List.drop_drop]
        have HP := hide hP
        have hd1 : decide ((m : Int) < 0) = false := by simp
        have hd2 : decide ((b.n : Int) - (t : Int) < (m : Int)) = false := by simp; omega
        have HH := hide h
        have hcle := h.ok.le
        clear hP hLl h
        go_enter Try.func58, Try.ntmps58
        go_wp2_with fail
        go_quiet (fail)
        go_wp2_with fail
        obtain ⟨i0, hi, hz0, hz1, hz2⟩ := info_parts Try.infoB
        obtain ⟨d, hd⟩ : ∃ d, d = (b.cut t).pre m := ⟨_, rfl⟩
        have hdok : d.Ok w := by rw [hd]; exact ((unhide HH).ok.cut hte).pre (by simp only [Sl.cut]; omega)
        have hdl : d.l = (b.l.drop t).take m := by rw [hd]; rfl
        have hdn : d.n = m := by rw [hd]; rfl
        have hdb : d.n ≤ 1099511627776 := by omega
        have hdok := hdok.later (below_drewN (Below.refl _ w) (nq + 1))
        have HD := hide hd
        clear hdn
        have hwp : IntKind.i64.wrap ((t : Int) + (m : Int)) = (t : Int) + (m : Int) := by rw [IntKind.wrap_i64]; omega
        clear hd
        have htm2 : t + m ≤ b.n := by omega
        refine wp_region_noPanic ?_
        refine wp_region_held_drew (S := fun w' => w'.cell? ⟨p, 0, none⟩ = some (.slice b.a b.n b.c) ∧ w'.cell? ⟨p, 1, none⟩ = some (.int .i64 t)) (by kernel_rfl) ⟨c0, c1⟩ (fun hHeld => ?_)
        refine wpAnyH_take (i := 0) (oi := _) (v := (.slice none 0 0)) rfl (by kernel_rfl) (by kernel_rfl) (by kernel_rfl) (fun _ _ _ h => h) (Or.inl ⟨by rfl, fun w hSw => by obtain ⟨s0, s1⟩ := hSw; go_simp⟩) hHeld ?_
        simp [Act.put]
        refine wpAnyH_take (i := 1) (oi := _) (v := (.pointer (some ⟨p, 0, none⟩))) rfl (by kernel_rfl) (by kernel_rfl) (by kernel_rfl) (fun _ _ _ h => h) (Or.inl ⟨by rfl, fun w hSw => by obtain ⟨s0, s1⟩ := hSw; go_simp⟩) hHeld ?_
        simp [Act.put]
        refine wpAnyH_take (i := 2) (oi := _) (v := (.pointer (some ⟨p, 0, none⟩))) rfl (by kernel_rfl) (by kernel_rfl) (by kernel_rfl) (fun _ _ _ h => h) (Or.inl ⟨by rfl, fun w hSw => by obtain ⟨s0, s1⟩ := hSw; go_simp⟩) hHeld ?_
        simp [Act.put]
        refine wpAnyH_take (i := 3) (oi := _) (v := (.pointer (some ⟨p, 0, none⟩))) rfl (by kernel_rfl) (by kernel_rfl) (by kernel_rfl) (fun _ _ _ h => h) (Or.inl ⟨by rfl, fun w hSw => by obtain ⟨s0, s1⟩ := hSw; go_simp⟩) hHeld ?_
        simp [Act.put]
        refine wpAnyH_take (i := 4) (oi := _) (v := (.slice b.a b.n b.c)) rfl (by kernel_rfl) (by kernel_rfl) (by kernel_rfl) (fun _ _ _ h => h) (Or.inl ⟨by rfl, fun w hSw => by obtain ⟨s0, s1⟩ := hSw; go_simp⟩) hHeld ?_
        simp [Act.put]
        refine wpAnyH_take (i := 5) (oi := _) (v := (.pointer (some ⟨p, 0, none⟩))) rfl (by kernel_rfl) (by kernel_rfl) (by kernel_rfl) (fun _ _ _ h => h) (Or.inl ⟨by rfl, fun w hSw => by obtain ⟨s0, s1⟩ := hSw; go_simp⟩) hHeld ?_
        simp [Act.put]
        refine wpAnyH_take (i := 6) (oi := _) (v := (.pointer (some ⟨p, 0, none⟩))) rfl (by kernel_rfl) (by kernel_rfl) (by kernel_rfl) (fun _ _ _ h => h) (Or.inl ⟨by rfl, fun w hSw => by obtain ⟨s0, s1⟩ := hSw; go_simp⟩) hHeld ?_
        simp [Act.put]
        refine wpAnyH_take (i := 7) (oi := _) (v := (.pointer (some ⟨p, 1, none⟩))) rfl (by kernel_rfl) (by kernel_rfl) (by kernel_rfl) (fun _ _ _ h => h) (Or.inl ⟨by rfl, fun w hSw => by obtain ⟨s0, s1⟩ := hSw; go_simp⟩) hHeld ?_
        simp [Act.put]
        refine wpAnyH_take (i := 8) (oi := _) (v := (.int .i64 t)) rfl (by kernel_rfl) (by kernel_rfl) (by kernel_rfl) (fun _ _ _ h => h) (Or.inl ⟨by rfl, fun w hSw => by obtain ⟨s0, s1⟩ := hSw; go_simp⟩) hHeld ?_
        simp [Act.put]
        refine wpAnyH_take (i := 9) (oi := _) (v := (.pointer (some ⟨p, 0, none⟩))) rfl (by kernel_rfl) (by kernel_rfl) (by kernel_rfl) (fun _ _ _ h => h) (Or.inl ⟨by rfl, fun w hSw => by obtain ⟨s0, s1⟩ := hSw; go_simp⟩) hHeld ?_
        simp [Act.put]
        refine wpAnyH_take (i := 10) (oi := _) (v := (.pointer (some ⟨p, 0, none⟩))) rfl (by kernel_rfl) (by kernel_rfl) (by kernel_rfl) (fun _ _ _ h => h) (Or.inl ⟨by rfl, fun w hSw => by obtain ⟨s0, s1⟩ := hSw; go_simp⟩) hHeld ?_
        simp [Act.put]
        refine wpAnyH_take (i := 11) (oi := _) (v := (.pointer (some ⟨p, 1, none⟩))) rfl (by kernel_rfl) (by kernel_rfl) (by kernel_rfl) (fun _ _ _ h => h) (Or.inl ⟨by rfl, fun w hSw => by obtain ⟨s0, s1⟩ := hSw; go_simp⟩) hHeld ?_
        simp [Act.put]
        refine wpAnyH_take (i := 12) (oi := _) (v := (.int .i64 t)) rfl (by kernel_rfl) (by kernel_rfl) (by kernel_rfl) (fun _ _ _ h => h) (Or.inl ⟨by rfl, fun w hSw => by obtain ⟨s0, s1⟩ := hSw; go_simp⟩) hHeld ?_
        simp [Act.put]
        refine wpAnyH_take (i := 13) (oi := _) (v := (.int .i64 m)) rfl (by kernel_rfl) (by kernel_rfl) (by kernel_rfl) (fun _ _ _ h => h) (Or.inl ⟨by rfl, fun w hSw => by obtain ⟨s0, s1⟩ := hSw; go_simp⟩) hHeld ?_
        simp [Act.put]
        refine wpAnyH_take (i := 14) (oi := _) (v := (.int .i64 ((t : Int) + (m : Int)))) rfl (by kernel_rfl) (by kernel_rfl) (by kernel_rfl) (fun _ _ _ h => h) (Or.inl ⟨by rfl, fun w hSw => by obtain ⟨s0, s1⟩ := hSw; go_simp⟩) hHeld ?_
        simp [Act.put]
        refine wpAnyH_take (i := 15) (oi := _) (v := .slice d.a d.n d.c) rfl (by kernel_rfl) (by kernel_rfl) (by kernel_rfl) (fun _ _ _ h => h) (yieldsIf_cut (by rfl) 23 (.tmp 33) (.tmp 37) (.tmp 43) rfl 5 Try.underlying23 Try.szB b d t m (unhide HD) rfl _ _ rfl rfl rfl (by omega) (by omega)) hHeld ?_
        simp [Act.put]
        refine wpAnyH_ready (rs := [16]) (by kernel_rfl) (by simp) ?_
        refine AllReadyH.cons rfl (fun K hK => ?_) AllReadyH.nil
        refine step_append_sl rfl (.tmp 29) (.tmp 44) 23 rfl w.heap.size 5 i0 (.int .u8 0) Try.underlying23 hi hz0 hz1 hz2 rfl (.slice none 0 0) 0 [] rfl ⟨rfl, .inl ⟨rfl, rfl⟩⟩ d hdok rfl (by omega) (Nat.le_refl _) ?_
        intro v' w1 hown hgrow
        have hb1 : Below w.heap.size w w1 := (below_drewN (Below.refl _ w) (nq + 1)).grown hgrow (Nat.le_refl _) (fun _ e => by cases e)
        have hI1 := (unhide HH).later hb1
        obtain ⟨d0, d1, d2, g1⟩ := hI1.cells
        rw [Nat.zero_add, List.nil_append] at hown
        refine hK.out _ _ ⟨d0, d1⟩ (fun hHeld => ?_)
        clear hK K
        obtain ⟨la5, lc5, rfl⟩ := own_parts hown
        simp [Act.put]
        refine wpAnyH_take (i := 17) (oi := _) (v := .slice la5 d.n lc5) rfl (by kernel_rfl) (by kernel_rfl) (by kernel_rfl) (fun _ _ _ h => h) (Or.inl ⟨by rfl, fun w hSw => by go_simp⟩) hHeld ?_
        simp [Act.put]
        refine wpAnyH_done (by kernel_rfl) ?_ _
        unfold NoPanic
        have HOW := hide hown
        clear hown hgrow hHeld
        go_wp2_with fail
        go_ret
        have hset := hI1.setAt (t + m) htm2
        have hB2 : But p w1 (w1.setCell ⟨p, 1, none⟩ (.int .i64 ((t + m : Nat) : Int))) := (But.refl p w1).setCell 1 _
        have hown := unhide HOW
        rw [show ((t + m : Nat) : Int) = (t : Int) + (m : Int) from by omega] at hset hB2
        refine IPost.yes (unhide HP) ((But.of_below hb1).trans hB2) hset rfl ⟨?_, ?_⟩
        · have h1 := own_but hB2 hown hI1.arr (by decide)
          rw [← hdl, hdok.len]; exact h1
        · rw [← hdl]; exact hdok.isB
  · go_enter Try.func58, Try.ntmps58
    go_wp2
    go_ret
    exact IPost.sticks h hf (Below.refl _ _) (isL_nil _ _)

theorem face_num {P : List Int → Parse Int} (n : Int) (hP : ∀ l, P l = match pFixed n l with | .ok (x, r) => .ok (leV x.reverse, r) | .error c => .error c) (st : List Int × Int) : face 0 P st = (leV (face [] (pFixed n) st).1.reverse, (face [] (pFixed n) st).2) := by
  unfold face
  by_cases hf : st.2 = 0
  · rw [if_neg (by simpa using hf), if_neg (by simpa using hf), hP]
    cases pFixed n st.1 with
    | error c => rfl
    | ok q => rfl
  · rw [if_pos hf, if_pos hf]; rfl
theorem num1 (l : List Int) : pByte l = match pFixed 1 l with | .ok (x, r) => .ok (leV x.reverse, r) | .error c => .error c := by
  cases l with
  | nil => simp [pByte, pFixed]
  | cons c r =>
    have : ¬ ((1 : Int) < 0 ∨ (((c :: r).length : Nat) : Int) < 1) := by rw [List.length_cons]; omega
    unfold pFixed; rw [if_neg this]; simp [pByte, leV]
theorem num4 (l : List Int) : pU32 l = match pFixed 4 l with | .ok (x, r) => .ok (leV x.reverse, r) | .error c => .error c := by
  unfold pU32 pFixed
  by_cases h : l.length < 4
  · rw [if_pos h, if_pos (by omega)]
  · rw [if_neg h, if_neg (by omega)]; rfl
theorem num8 (l : List Int) : pU64 l = match pFixed 8 l with | .ok (x, r) => .ok (leV x.reverse, r) | .error c => .error c := by
  unfold pU64 pFixed
  by_cases h : l.length < 8
  · rw [if_pos h, if_pos (by omega)]
  · rw [if_neg h, if_neg (by omega)]; rfl
theorem face_fixed_len (n : Int) (st : List Int × Int) : ((face [] (pFixed n) st).1.length : Int) ≤ max n 0 := by
  unfold face
  split
  · exact Int.le_max_right _ _
  · unfold pFixed
    split
    · rename_i x r h
      split at h
      · simp at h
      · simp only [Except.ok.injEq, Prod.mk.injEq] at h
        obtain ⟨rfl, rfl⟩ := h
        rw [List.length_take]; omega
    · exact Int.le_max_right _ _
theorem pow8_le (k : Nat) (h : k ≤ 7) : (2 : Int) ^ (8 * (k + 1)) ≤ 18446744073709551616 := by
  rcases (by omega : k = 0 ∨ k = 1 ∨ k = 2 ∨ k = 3 ∨ k = 4 ∨ k = 5 ∨ k = 6 ∨ k = 7) with rfl | rfl | rfl | rfl | rfl | rfl | rfl | rfl <;> decide

set_option maxHeartbeats 2000000 in
set_option maxRecDepth 100000 in
theorem iNumber_any (p : Nat) (b : Sl) (t : Nat) (f n : Int) (w : World) (h : Inr w p b t f) (hm : b.n ≤ 1099511627776) (hn : n ≤ 8) :
    Calls Try.prog 76 #[.pointer (some ⟨p, 0, none⟩), .int .i64 n] w (IPost (isI .u64) p b (leV (face [] (pFixed n) (b.l.drop t, f)).1.reverse, (face [] (pFixed n) (b.l.drop t, f)).2) w) := by
  have hF := iFixed_any p b t f n w h hm
  have hlen := face_fixed_len n (b.l.drop t, f)
  generalize face [] (pFixed n) (b.l.drop t, f) = Q at *
  obtain ⟨L, st⟩ := Q
  have hlen : L.length ≤ 8 := by simp only at hlen; omega
  simp only
  clear h
  go_enter Try.func76, Try.ntmps76
  go_wp2_with fail
  refine hF.mono ?_
  rintro e w1 ⟨hB, v, t1, rfl, hV, hI, hr⟩
  clear hF
  obtain ⟨d, rfl, hd, hdl, hdn, -⟩ := own_sl hV.1 hV.2
  simp only at hdl hdn hI hr
  have hLB : IsB L := hV.2
  have hdv : d.v = .slice d.a d.n d.c := rfl
  rw [hdv]
  have hdb : d.n ≤ 8 := by omega
  have HDL := hide hdl
  have HDN := hide hdn
  have HD := hide hd
  clear hV hdv hdl hdn hd
  go_wp2_with fail
  go_loopw [6, 7] (fun x i wr => ∃ k : Nat, k ≤ d.n ∧ i = .int .i64 k ∧ x = .int .u64 (leV (L.take k).reverse) ∧ wr = w1) (fun _ i _ => d.n - (intOf i).toNat)
  case atStart => exact ⟨0, by omega, rfl, rfl, rfl⟩
  case round =>
    obtain ⟨k, hk, rfl, rfl, hwr0⟩ := hrel
    have HWR := hide hwr0
    clear hwr0
    by_cases hlt : k < d.n
    · obtain ⟨ab, ao, haa, -, hac⟩ := (unhide HD).lies (by rw [unhide HDL]; have := unhide HDN; omega)
      have ca : wr.cell? ⟨ab, ao + k, none⟩ = some (.int .u8 (L.getD k 0)) := by rw [unhide HWR, ← unhide HDL]; exact hac k (by rw [unhide HDL]; have := unhide HDN; omega)
      have hbd := hLB.at k
      have e : (L.take (k + 1)).reverse = L.getD k 0 :: (L.take k).reverse := by
        rw [take_succ_getD L k (by have := unhide HDN; omega), List.reverse_append]; rfl
      have hb0 := leV_bd (L.take k).reverse (hLB.take k).reverse
      have hb1 := leV_bd (L.take (k + 1)).reverse (hLB.take (k + 1)).reverse
      have hlk : (L.take (k + 1)).reverse.length = k + 1 := by rw [List.length_reverse, List.length_take]; have := unhide HDN; omega
      rw [hlk, e, leV] at hb1
      have hpow := pow8_le k (by omega)
      have HE : Hid (leV (L.take (k + 1)).reverse = L.getD k 0 + 256 * leV (L.take k).reverse) := by rw [e, leV]; exact hide rfl
      generalize leV (L.take k).reverse = X at *
      generalize L.getD k 0 = c at *
      have x0 := hb0.1
      have x1 : c + 256 * X < 18446744073709551616 := by have := hb1.2; omega
      have y0 := hbd.1
      have y1 := hbd.2
      rw [haa]
      clear haa hac e hb0 hb1 hpow hbd hlk
      go_wp2
      go_roundw
      case rel =>
        refine ⟨k + 1, by omega, by go_num, ?_, unhide HWR⟩
        rw [unhide HE]; go_num
      case measure => simp [intOf]; omega
    · have hkd : decide ((k : Int) < (d.n : Int)) = false := by simp; omega
      have hkk : (L.take k) = L := List.take_of_length_le (by have := unhide HDN; omega)
      rw [hkk]
      go_wp2
      go_ret
      have hw := unhide HWR
      subst hw
      exact ⟨hB, _, t1, rfl, rfl, hI, hr⟩

set_option maxHeartbeats 1000000 in
set_option maxRecDepth 100000 in
theorem iByte_any (p : Nat) (b : Sl) (t : Nat) (f : Int) (w : World) (h : Inr w p b t f) (hm : b.n ≤ 1099511627776) :
    Calls Try.prog 53 #[.pointer (some ⟨p, 0, none⟩)] w (IPost (isI .u8) p b (face 0 pByte (b.l.drop t, f)) w) := by
  have hF := iNumber_any p b t f 1 w h hm (by omega)
  have hbd := face_bd (C := fun y : Int => 0 ≤ y ∧ y ≤ 255) (z := 0) (P := pByte) (st := (b.l.drop t, f)) (by omega) (fun _ _ hh => pByte_bd (fun c hc => h.ok.isB c (List.mem_of_mem_drop hc)) hh)
  rw [← face_num 1 num1] at hF
  generalize face 0 pByte (b.l.drop t, f) = Q at *
  obtain ⟨x, st⟩ := Q
  simp only at hbd
  have h0 := hbd.1
  have h1 := hbd.2
  go_enter Try.func53, Try.ntmps53
  go_wp2_with fail
  refine hF.mono ?_
  rintro e w1 ⟨hB, v, t1, rfl, hV, hI, hr⟩
  simp only [isI] at hV
  subst hV
  clear hF
  go_wp2
  go_ret
  exact ⟨hB, _, t1, rfl, rfl, hI, hr⟩

set_option maxHeartbeats 1000000 in
set_option maxRecDepth 100000 in
theorem iU32_any (p : Nat) (b : Sl) (t : Nat) (f : Int) (w : World) (h : Inr w p b t f) (hm : b.n ≤ 1099511627776) :
    Calls Try.prog 54 #[.pointer (some ⟨p, 0, none⟩)] w (IPost (isI .u32) p b (face 0 pU32 (b.l.drop t, f)) w) := by
  have hF := iNumber_any p b t f 4 w h hm (by omega)
  have hbd := face_bd (C := fun y : Int => 0 ≤ y ∧ y < 4294967296) (z := 0) (P := pU32) (st := (b.l.drop t, f)) (by omega) (fun _ _ hh => pU32_bd (fun c hc => h.ok.isB c (List.mem_of_mem_drop hc)) hh)
  rw [← face_num 4 num4] at hF
  generalize face 0 pU32 (b.l.drop t, f) = Q at *
  obtain ⟨x, st⟩ := Q
  simp only at hbd
  have h0 := hbd.1
  have h1 := hbd.2
  go_enter Try.func54, Try.ntmps54
  go_wp2_with fail
  refine hF.mono ?_
  rintro e w1 ⟨hB, v, t1, rfl, hV, hI, hr⟩
  simp only [isI] at hV
  subst hV
  clear hF
  go_wp2
  go_ret
  exact ⟨hB, _, t1, rfl, rfl, hI, hr⟩

set_option maxHeartbeats 1000000 in
set_option maxRecDepth 100000 in
theorem iU64_any (p : Nat) (b : Sl) (t : Nat) (f : Int) (w : World) (h : Inr w p b t f) (hm : b.n ≤ 1099511627776) :
    Calls Try.prog 55 #[.pointer (some ⟨p, 0, none⟩)] w (IPost (isI .u64) p b (face 0 pU64 (b.l.drop t, f)) w) := by
  have hF := iNumber_any p b t f 8 w h hm (by omega)
  have hbd := face_bd (C := fun y : Int => 0 ≤ y ∧ y < 18446744073709551616) (z := 0) (P := pU64) (st := (b.l.drop t, f)) (by omega) (fun _ _ hh => pU64_bd (fun c hc => h.ok.isB c (List.mem_of_mem_drop hc)) hh)
  rw [← face_num 8 num8] at hF
  generalize face 0 pU64 (b.l.drop t, f) = Q at *
  obtain ⟨x, st⟩ := Q
  simp only at hbd
  have h0 := hbd.1
  have h1 := hbd.2
  go_enter Try.func55, Try.ntmps55
  go_wp2_with fail
  refine hF.mono ?_
  rintro e w1 ⟨hB, v, t1, rfl, hV, hI, hr⟩
  simp only [isI] at hV
  subst hV
  clear hF
  go_wp2
  go_ret
  exact ⟨hB, _, t1, rfl, rfl, hI, hr⟩

theorem pUint_yes {L : List Int} {x n : Nat} (h : shoD L = some (x, L.drop n)) : pUint L = .ok ((x : Int), L.drop n) := by unfold pUint; rw [h]; rfl
theorem pUint_no {L : List Int} (h : shoD L = none) : pUint L = .error 90 := by unfold pUint; rw [h]; rfl

set_option maxHeartbeats 2000000 in
set_option maxRecDepth 100000 in
theorem iUint_any (p : Nat) (b : Sl) (t : Nat) (f : Int) (w : World) (h : Inr w p b t f) (hm : b.n ≤ 1099511627776) :
    Calls Try.prog 56 #[.pointer (some ⟨p, 0, none⟩)] w (IPost (isI .u64) p b (face 0 pUint (b.l.drop t, f)) w) := by
  obtain ⟨c0, c1, c2, f1⟩ := h.cells
  have hLl : (b.l.drop t).length = b.n - t := by rw [List.length_drop, h.ok.len]
  have hte := h.le
  by_cases hf : f = 0
  · subst hf
    have HH := hide h
    have HLl := hide hLl
    have hSh := short_any b t w.drew ((h.later (below_drewN (Below.refl _ _) 1)).ok) hte hm
    simp only [Sl.v] at hSh
    clear h hLl
    go_enter Try.func56, Try.ntmps56
    go_wp2_with fail
    refine wp_region_noPanic ?_
    refine wp_region_held_drew (S := fun w' => w'.cell? ⟨p, 0, none⟩ = some (.slice b.a b.n b.c) ∧ w'.cell? ⟨p, 1, none⟩ = some (.int .i64 t)) (by kernel_rfl) ⟨c0, c1⟩ (fun hHeld => ?_)
    refine wpAnyH_take (i := 0) (oi := _) (v := (.pointer (some ⟨p, 0, none⟩))) rfl (by kernel_rfl) (by kernel_rfl) (by kernel_rfl) (fun _ _ _ h => h) (Or.inl ⟨by rfl, fun w hSw => by obtain ⟨s0, s1⟩ := hSw; go_simp⟩) hHeld ?_
    simp [Act.put]
    refine wpAnyH_take (i := 1) (oi := _) (v := (.pointer (some ⟨p, 0, none⟩))) rfl (by kernel_rfl) (by kernel_rfl) (by kernel_rfl) (fun _ _ _ h => h) (Or.inl ⟨by rfl, fun w hSw => by obtain ⟨s0, s1⟩ := hSw; go_simp⟩) hHeld ?_
    simp [Act.put]
    refine wpAnyH_take (i := 2) (oi := _) (v := (.pointer (some ⟨p, 0, none⟩))) rfl (by kernel_rfl) (by kernel_rfl) (by kernel_rfl) (fun _ _ _ h => h) (Or.inl ⟨by rfl, fun w hSw => by obtain ⟨s0, s1⟩ := hSw; go_simp⟩) hHeld ?_
    simp [Act.put]
    refine wpAnyH_take (i := 3) (oi := _) (v := (.slice b.a b.n b.c)) rfl (by kernel_rfl) (by kernel_rfl) (by kernel_rfl) (fun _ _ _ h => h) (Or.inl ⟨by rfl, fun w hSw => by obtain ⟨s0, s1⟩ := hSw; go_simp⟩) hHeld ?_
    simp [Act.put]
    refine wpAnyH_take (i := 4) (oi := _) (v := (.pointer (some ⟨p, 0, none⟩))) rfl (by kernel_rfl) (by kernel_rfl) (by kernel_rfl) (fun _ _ _ h => h) (Or.inl ⟨by rfl, fun w hSw => by obtain ⟨s0, s1⟩ := hSw; go_simp⟩) hHeld ?_
    simp [Act.put]
    refine wpAnyH_take (i := 5) (oi := _) (v := (.pointer (some ⟨p, 0, none⟩))) rfl (by kernel_rfl) (by kernel_rfl) (by kernel_rfl) (fun _ _ _ h => h) (Or.inl ⟨by rfl, fun w hSw => by obtain ⟨s0, s1⟩ := hSw; go_simp⟩) hHeld ?_
    simp [Act.put]
    refine wpAnyH_take (i := 6) (oi := _) (v := (.pointer (some ⟨p, 1, none⟩))) rfl (by kernel_rfl) (by kernel_rfl) (by kernel_rfl) (fun _ _ _ h => h) (Or.inl ⟨by rfl, fun w hSw => by obtain ⟨s0, s1⟩ := hSw; go_simp⟩) hHeld ?_
    simp [Act.put]
    refine wpAnyH_take (i := 7) (oi := _) (v := (.int .i64 t)) rfl (by kernel_rfl) (by kernel_rfl) (by kernel_rfl) (fun _ _ _ h => h) (Or.inl ⟨by rfl, fun w hSw => by obtain ⟨s0, s1⟩ := hSw; go_simp⟩) hHeld ?_
    simp [Act.put]
    refine wpAnyH_ready (rs := [8]) (by kernel_rfl) (by simp) ?_
    refine AllReadyH.cons rfl (fun K hK => ?_) AllReadyH.nil
    go_simp
    refine hSh.mono ?_
    rintro e w1 ⟨x, n, rfl, hS, hb1⟩
    have hb1 : Below w.heap.size w w1 := ⟨hb1.os, hb1.tape, hb1.output, hb1.size, hb1.block⟩
    have hI1 := (unhide HH).later hb1
    obtain ⟨d0, d1, d2, g1⟩ := hI1.cells
    refine hK.out _ _ ⟨d0, d1⟩ (fun hHeld => ?_)
    clear hK K hSh
    refine wpAnyH_take (i := 9) (oi := _) (v := (.tuple #[.int .u64 x, .int .i64 n])) rfl (by kernel_rfl) (by kernel_rfl) (by kernel_rfl) (fun _ _ _ h => h) (Or.inl ⟨by rfl, fun w hSw => by obtain ⟨s0, s1⟩ := hSw; go_simp⟩) hHeld ?_
    simp [Act.put]
    refine wpAnyH_take (i := 10) (oi := _) (v := (.int .u64 x)) rfl (by kernel_rfl) (by kernel_rfl) (by kernel_rfl) (fun _ _ _ h => h) (Or.inl ⟨by rfl, fun w hSw => by obtain ⟨s0, s1⟩ := hSw; go_simp⟩) hHeld ?_
    simp [Act.put]
    refine wpAnyH_take (i := 11) (oi := _) (v := (.int .i64 n)) rfl (by kernel_rfl) (by kernel_rfl) (by kernel_rfl) (fun _ _ _ h => h) (Or.inl ⟨by rfl, fun w hSw => by obtain ⟨s0, s1⟩ := hSw; go_simp⟩) hHeld ?_
    simp [Act.put]
    refine wpAnyH_take (i := 12) (oi := _) (v := (.int .u64 x)) rfl (by kernel_rfl) (by kernel_rfl) (by kernel_rfl) (fun _ _ _ h => h) (Or.inl ⟨by rfl, fun w hSw => by obtain ⟨s0, s1⟩ := hSw; go_simp⟩) hHeld ?_
    simp [Act.put]
    refine wpAnyH_take (i := 13) (oi := _) (v := (.int .i64 n)) rfl (by kernel_rfl) (by kernel_rfl) (by kernel_rfl) (fun _ _ _ h => h) (Or.inl ⟨by rfl, fun w hSw => by obtain ⟨s0, s1⟩ := hSw; go_simp⟩) hHeld ?_
    simp [Act.put]
    refine wpAnyH_done (by kernel_rfl) ?_ _
    unfold NoPanic
    clear hHeld c0 c1 c2 f1
    rcases hS with ⟨hno, rfl, rfl⟩ | ⟨hn1, hn2, hx, hy⟩
    · have hF := iFail_any p b t 90 w1 hI1
      go_wp2_with fail
      refine hF.mono ?_
      rintro e w2 ⟨rfl, hB, hI⟩
      clear hF
      go_wp2
      go_ret
      exact IPost.no (pUint_no hno) ((But.of_below hb1).trans hB) hI rfl
    · have hnt : t + n ≤ b.n := by have := unhide HLl; omega
      have HY := hide hy
      have hn0 : (((n : Nat) : Int) == 0) = false := by rw [beq_eq_false_iff_ne]; omega
      clear hy hn2
      go_wp2
      go_ret
      have hset := hI1.setAt (t + n) hnt
      have hB2 : But p w1 (w1.setCell ⟨p, 1, none⟩ (.int .i64 ((t + n : Nat) : Int))) := (But.refl p w1).setCell 1 _
      rw [show ((t + n : Nat) : Int) = (t : Int) + (n : Int) from by omega] at hset hB2
      exact IPost.yes (pUint_yes (unhide HY)) ((But.of_below hb1).trans hB2) hset (by rw [List.drop_drop]) rfl
  · go_enter Try.func56, Try.ntmps56
    go_wp2
    go_ret
    exact IPost.sticks h hf (Below.refl _ _) rfl

set_option maxHeartbeats 2000000 in
set_option maxRecDepth 100000 in
theorem iCount_any (p : Nat) (b : Sl) (t : Nat) (f most : Int) (w : World) (h : Inr w p b t f) (hm : b.n ≤ 1099511627776) (hmo : most ≤ 9223372036854775807) :
    Calls Try.prog 79 #[.pointer (some ⟨p, 0, none⟩), .int .i64 most] w (IPost isN p b (face 0 (pCount most) (b.l.drop t, f)) w) := by
  obtain ⟨c0, c1, c2, f1⟩ := h.cells
  have hLl : (b.l.drop t).length = b.n - t := by rw [List.length_drop, h.ok.len]
  have hte := h.le
  by_cases hf : f = 0
  · subst hf
    have HH := hide h
    have HLl := hide hLl
    have hSh := short_any b t w.drew ((h.later (below_drewN (Below.refl _ _) 1)).ok) hte hm
    simp only [Sl.v] at hSh
    clear h hLl
    go_enter Try.func79, Try.ntmps79
    go_wp2_with fail
    refine wp_region_noPanic ?_
    refine wp_region_held_drew (S := fun w' => w'.cell? ⟨p, 0, none⟩ = some (.slice b.a b.n b.c) ∧ w'.cell? ⟨p, 1, none⟩ = some (.int .i64 t)) (by kernel_rfl) ⟨c0, c1⟩ (fun hHeld => ?_)
    refine wpAnyH_take (i := 0) (oi := _) (v := (.pointer (some ⟨p, 0, none⟩))) rfl (by kernel_rfl) (by kernel_rfl) (by kernel_rfl) (fun _ _ _ h => h) (Or.inl ⟨by rfl, fun w hSw => by obtain ⟨s0, s1⟩ := hSw; go_simp⟩) hHeld ?_
    simp [Act.put]
    refine wpAnyH_take (i := 1) (oi := _) (v := (.pointer (some ⟨p, 0, none⟩))) rfl (by kernel_rfl) (by kernel_rfl) (by kernel_rfl) (fun _ _ _ h => h) (Or.inl ⟨by rfl, fun w hSw => by obtain ⟨s0, s1⟩ := hSw; go_simp⟩) hHeld ?_
    simp [Act.put]
    refine wpAnyH_take (i := 2) (oi := _) (v := (.pointer (some ⟨p, 0, none⟩))) rfl (by kernel_rfl) (by kernel_rfl) (by kernel_rfl) (fun _ _ _ h => h) (Or.inl ⟨by rfl, fun w hSw => by obtain ⟨s0, s1⟩ := hSw; go_simp⟩) hHeld ?_
    simp [Act.put]
    refine wpAnyH_take (i := 3) (oi := _) (v := (.slice b.a b.n b.c)) rfl (by kernel_rfl) (by kernel_rfl) (by kernel_rfl) (fun _ _ _ h => h) (Or.inl ⟨by rfl, fun w hSw => by obtain ⟨s0, s1⟩ := hSw; go_simp⟩) hHeld ?_
    simp [Act.put]
    refine wpAnyH_take (i := 4) (oi := _) (v := (.pointer (some ⟨p, 0, none⟩))) rfl (by kernel_rfl) (by kernel_rfl) (by kernel_rfl) (fun _ _ _ h => h) (Or.inl ⟨by rfl, fun w hSw => by obtain ⟨s0, s1⟩ := hSw; go_simp⟩) hHeld ?_
    simp [Act.put]
    refine wpAnyH_take (i := 5) (oi := _) (v := (.pointer (some ⟨p, 0, none⟩))) rfl (by kernel_rfl) (by kernel_rfl) (by kernel_rfl) (fun _ _ _ h => h) (Or.inl ⟨by rfl, fun w hSw => by obtain ⟨s0, s1⟩ := hSw; go_simp⟩) hHeld ?_
    simp [Act.put]
    refine wpAnyH_take (i := 6) (oi := _) (v := (.pointer (some ⟨p, 1, none⟩))) rfl (by kernel_rfl) (by kernel_rfl) (by kernel_rfl) (fun _ _ _ h => h) (Or.inl ⟨by rfl, fun w hSw => by obtain ⟨s0, s1⟩ := hSw; go_simp⟩) hHeld ?_
    simp [Act.put]
    refine wpAnyH_take (i := 7) (oi := _) (v := (.int .i64 t)) rfl (by kernel_rfl) (by kernel_rfl) (by kernel_rfl) (fun _ _ _ h => h) (Or.inl ⟨by rfl, fun w hSw => by obtain ⟨s0, s1⟩ := hSw; go_simp⟩) hHeld ?_
    simp [Act.put]
    refine wpAnyH_ready (rs := [8]) (by kernel_rfl) (by simp) ?_
    refine AllReadyH.cons rfl (fun K hK => ?_) AllReadyH.nil
    go_simp
    refine hSh.mono ?_
    rintro e w1 ⟨x, n, rfl, hS, hb1⟩
    have hb1 : Below w.heap.size w w1 := ⟨hb1.os, hb1.tape, hb1.output, hb1.size, hb1.block⟩
    have hI1 := (unhide HH).later hb1
    obtain ⟨d0, d1, d2, g1⟩ := hI1.cells
    refine hK.out _ _ ⟨d0, d1⟩ (fun hHeld => ?_)
    clear hK K hSh
    refine wpAnyH_take (i := 9) (oi := _) (v := (.tuple #[.int .u64 x, .int .i64 n])) rfl (by kernel_rfl) (by kernel_rfl) (by kernel_rfl) (fun _ _ _ h => h) (Or.inl ⟨by rfl, fun w hSw => by obtain ⟨s0, s1⟩ := hSw; go_simp⟩) hHeld ?_
    simp [Act.put]
    refine wpAnyH_take (i := 10) (oi := _) (v := (.int .u64 x)) rfl (by kernel_rfl) (by kernel_rfl) (by kernel_rfl) (fun _ _ _ h => h) (Or.inl ⟨by rfl, fun w hSw => by obtain ⟨s0, s1⟩ := hSw; go_simp⟩) hHeld ?_
    simp [Act.put]
    refine wpAnyH_take (i := 11) (oi := _) (v := (.int .i64 n)) rfl (by kernel_rfl) (by kernel_rfl) (by kernel_rfl) (fun _ _ _ h => h) (Or.inl ⟨by rfl, fun w hSw => by obtain ⟨s0, s1⟩ := hSw; go_simp⟩) hHeld ?_
    simp [Act.put]
    refine wpAnyH_take (i := 12) (oi := _) (v := (.int .u64 x)) rfl (by kernel_rfl) (by kernel_rfl) (by kernel_rfl) (fun _ _ _ h => h) (Or.inl ⟨by rfl, fun w hSw => by obtain ⟨s0, s1⟩ := hSw; go_simp⟩) hHeld ?_
    simp [Act.put]
    refine wpAnyH_take (i := 13) (oi := _) (v := (.int .i64 n)) rfl (by kernel_rfl) (by kernel_rfl) (by kernel_rfl) (fun _ _ _ h => h) (Or.inl ⟨by rfl, fun w hSw => by obtain ⟨s0, s1⟩ := hSw; go_simp⟩) hHeld ?_
    simp [Act.put]
    refine wpAnyH_done (by kernel_rfl) ?_ _
    unfold NoPanic
    clear hHeld c0 c1 c2 f1
    rcases hS with ⟨hno, rfl, rfl⟩ | ⟨hn1, hn2, hx, hy⟩
    · have hF := iFail_any p b t 90 w1 hI1
      go_wp2_with fail
      refine hF.mono ?_
      rintro e w2 ⟨rfl, hB, hI⟩
      clear hF
      go_wp2
      go_ret
      exact IPost.no (by unfold pCount; rw [hno]) ((But.of_below hb1).trans hB) hI rfl
    · have hnt : t + n ≤ b.n := by have := unhide HLl; omega
      have hn0 : (((n : Nat) : Int) == 0) = false := by rw [beq_eq_false_iff_ne]; omega
      have HP : Hid (pCount most (b.l.drop t) = if most < 0 ∨ most < (x : Int) then .error 1 else if b.n - t - n < x then .error 90 else .ok (x, b.l.drop (t + n))) := by
        unfold pCount; rw [hy]; simp only; rw [List.length_drop, unhide HLl, List.drop_drop]; exact hide rfl
      clear hy hn2
      by_cases hm0 : most < 0
      · have hP := unhide HP
        rw [if_pos (.inl hm0)] at hP
        have HP' := hide hP
        have hd1 : decide (most < 0) = true := by simp; omega
        have hF := iFail_any p b t 1 w1 hI1
        clear hP HP
        go_wp2_with fail
        refine hF.mono ?_
        rintro e w2 ⟨rfl, hB, hI⟩
        clear hF
        go_wp2
        go_ret
        exact IPost.no (unhide HP') ((But.of_below hb1).trans hB) hI rfl
      · obtain ⟨mo, rfl⟩ : ∃ mo : Nat, most = mo := ⟨most.toNat, by omega⟩
        have hd1 : decide ((mo : Int) < 0) = false := by simp
        by_cases hm1 : mo < x
        · have hP := unhide HP
          rw [if_pos (.inr (by omega))] at hP
          have HP' := hide hP
          have hd2 : decide ((mo : Int) < (x : Int)) = true := by simp; omega
          have hF := iFail_any p b t 1 w1 hI1
          clear hP HP
          go_wp2_with fail
          refine hF.mono ?_
          rintro e w2 ⟨rfl, hB, hI⟩
          clear hF
          go_wp2
          go_ret
          exact IPost.no (unhide HP') ((But.of_below hb1).trans hB) hI rfl
        · have hP := unhide HP
          rw [if_neg (by omega)] at hP
          have hd2 : decide ((mo : Int) < (x : Int)) = false := by simp; omega
          obtain ⟨rr, hrr⟩ : ∃ rr : Nat, (b.n : Int) - (t : Int) - (n : Int) = rr := ⟨b.n - t - n, by omega⟩
          have hrb : rr ≤ 1099511627776 := by omega
          by_cases hxr : rr < x
          · rw [if_pos (by omega)] at hP
            have HP' := hide hP
            have hd3 : decide ((rr : Int) < (x : Int)) = true := by simp; omega
            have hF := fun k => iFail_any p b t 90 (w1.drewN k) (hI1.drewN k)
            clear hP HP
            go_wp2_with fail
            go_quiet (fail)
            go_wp2_with fail
            refine (hF _).mono ?_
            rintro e w2 ⟨rfl, hB, hI⟩
            clear hF
            go_wp2
            go_ret
            exact IPost.no (unhide HP') ((But.of_below hb1).trans hB.undrewN) hI rfl
          · rw [if_neg (by omega)] at hP
            have HP' := hide hP
            have hd3 : decide ((rr : Int) < (x : Int)) = false := by simp; omega
            clear hP HP
            go_wp2_with fail
            go_quiet (fail)
            go_wp2_with fail
            go_ret
            have hset := fun k => (hI1.drewN k).setAt (t + n) hnt
            have hB2 : ∀ k, But p w1 ((w1.drewN k).setCell ⟨p, 1, none⟩ (.int .i64 ((t + n : Nat) : Int))) := fun k => (((But.refl p (w1.drewN k)).setCell 1 _)).undrewN
            rw [show ((t + n : Nat) : Int) = (t : Int) + (n : Int) from by omega] at hset hB2
            exact IPost.yes (unhide HP') ((But.of_below hb1).trans (hB2 _)) (hset _) rfl rfl
  · go_enter Try.func79, Try.ntmps79
    go_wp2
    go_ret
    exact IPost.sticks h hf (Below.refl _ _) rfl
end Go.Proofs.Ytiloacnjgaoceab
