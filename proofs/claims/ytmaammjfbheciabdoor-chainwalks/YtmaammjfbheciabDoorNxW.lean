import Derived.Test.YtmaammjfbheciabDoorKzW
import Derived.Test.YtmaammjfbheciabDoorClW
import Derived.BigQuiet
set_option linter.unusedVariables false
namespace Go.Proofs.YtmaammjfbheciabDoor
open Go.RowKit Go.Maps

/-- a Walker: its pieces ds (the farthest first) are what is left to tell -/
structure Wst (w : World) (p b n : Nat) (sd : List Int) (s : Nat) (ds : List Nat) : Prop where
  P : Arr w p 41 (wkC n (n - ds.sum) s b)
  M : KM w b (keysOf ds) (fun k => itZ k sd)
  F : Fits n ds
  S : ds.sum ≤ n
  C : 2 * s + pot ds ≤ n * lgN n
  G : ds.sum < n → n ≤ s + 1
  I : ds.sum = n → ds = [n]
theorem Wst.later {w w' : World} {p b n : Nat} {sd : List Int} {s : Nat} {ds : List Nat} (h : Wst w p b n sd s ds) (hb : Below w.heap.size w w') : Wst w' p b n sd s ds :=
  ⟨h.P.later hb, h.M.later hb, h.F, h.S, h.C, h.G, h.I⟩
theorem Wst.keep {w w' : World} {p b n : Nat} {sd : List Int} {s : Nat} {ds : List Nat} (h : Wst w p b n sd s ds) {S : Nat → Prop} (hb : Buts S w w') (h1 : ¬ S p) (h2 : ¬ S b) : Wst w' p b n sd s ds :=
  ⟨hb.arr h.P h1, h.M.grown hb h2, h.F, h.S, h.C, h.G, h.I⟩
theorem results_t_c_t {P : Program} {fn : Func} {q u u' : Tmp} {ty : TypeId} (h : fn.results = #[.tmp u, .cell q ty, .tmp u']) (tmps : Array Value) (w : World) (g : Nat) (t : TypeId) (cs : Array Value) (fr : Nat × Nat) (d : TypeDesc)
    (hp : tmps.getD q undef = .pointer (some ⟨g, 0, none⟩)) (v : Value) (hv : tmps.getD u undef = v) (v' : Value) (hv' : tmps.getD u' undef = v') (hg : w.heap[g]? = some (.cells cs t fr))
    (hu : P.underlying ty = some d) (hd : (match d with | .struct _ | .array _ _ => true | _ => false) = true) (hi : (P.info? ty).map (·.size) = some cs.size) :
    (results fn tmps).run P w = .ok (.tuple #[v, .agg cs, v']) w := by
  have e : (results fn tmps).run P w = ((asAddr (tmps.getD q undef)).run P w).andThen fun a w₁ => ((loadVar ty a).run P w₁).andThen fun x w₂ => .ok (.tuple #[tmps.getD u undef, x, tmps.getD u' undef]) w₂ := by
    simp only [results, h]
    simp [Sem.run_bind, Result.andThen]
  rw [e, hp, hv, hv']
  simp [asAddr, run_loadVar_row w g t ty cs fr d hg hu hd hi]

theorem wpList_del {ops : Array Oper} {rest : List Oper} {o : Oper} {a : Act} {w : World} {Q : Exit → Act → World → Prop} (hg : o.guard = none) (m x : Operand) (hop : o.op = Op.call { callee := Callee.builtin Builtin.delete, args := #[m, x], argTypes := #[39, 3] })
    (b k : Nat) (ks : List Nat) (f : Nat → List Int) (hM : KM w b (k :: ks) f) (hk : k ≤ 4096) (hn : k ∉ ks) (hm : a.eval m = .map (some b)) (hx : a.eval x = .int .i64 (k : Int))
    (hK : ∀ w', KM w' b ks f → Buts (· = b) w w' → wpList Tryd.prog ops Q rest (a.put o.dst (.tuple #[])) w') : wpList Tryd.prog ops Q (o :: rest) a w := by
  refine wpList_plain hg fun K' hK' => ?_
  obtain ⟨w', hrun, r1, r2⟩ := hM.del hk hn o.type
  unfold Oper.wp
  simp [execOp, hop, resolve, invoke, builtin, hm, hx, hrun, Result.andThen]
  exact hK' _ _ (hK w' r1 r2)
set_option maxHeartbeats 2000000 in
set_option maxRecDepth 100000 in
theorem walk_no (sd : List Int) (z : Int) (w : World) (hz : isR z = false) :
    Calls Tryd.prog 6 #[hV sd, .int .i64 z] w fun e w' => e = .returned (.tuple #[.pointer none, .bool false]) ∧ Below w.heap.size w w' := by
  obtain ⟨W, hW, hG, hb, -⟩ := arr1 w 23 (U8 sd)
  have hr := isRides_any z W
  rw [hz] at hr
  have HW := hide hW
  clear hW
  unfold hV
  go_enter Tryd.func6, Tryd.ntmps6
  go_wp2_with (rw [← unhide HW]; go_at_call 17; refine hr.mono ?_; rintro e w1 ⟨rfl, h1⟩; obtain rfl := h1.symm)
  go_ret2
  exact ⟨rfl, hb⟩
set_option maxHeartbeats 2000000 in
set_option maxRecDepth 100000 in
theorem walk_ok (sd : List Int) (n : Nat) (w : World) (hsd : Hs sd) (hn1 : 1 ≤ n) (hn : n ≤ 4096) :
    Calls Tryd.prog 6 #[hV sd, .int .i64 n] w fun e w' => ∃ p b, e = .returned (.tuple #[.pointer (some ⟨p, 0, none⟩), .bool true]) ∧ Wst w' p b n sd 0 [n] ∧ w.heap.size ≤ p ∧ w.heap.size ≤ b ∧ Below w.heap.size w w' := by
  obtain ⟨W, hW, hG, hb, -⟩ := arr1 w 23 (U8 sd)
  have hr := isRides_any n W
  rw [show isR (n : Int) = true by simp [isR]; omega] at hr
  have HW := hide hW
  have hmm := @run_makeMap Tryd.prog
  have hzx := hz_of hsd.len
  obtain ⟨v1, hf1, hf2, hf3⟩ := KM.first (w := W) (w' := W) (v := sd) (f := fun k => itZ k sd) rfl
  unfold hV at hf1
  obtain ⟨v2, hv2, hP2, hb2, -⟩ := arr1 v1 41 (wkC n 0 0 W.heap.size)
  have HV2 := hide hv2
  have HF2 := hide hf2
  have HF3 := hide hf3
  have HB2 := hide hb2
  have HP2 := hide hP2
  clear hW hv2 hf2 hf3 hb2 hP2
  unfold hV
  go_enter Tryd.func6, Tryd.ntmps6
  go_wp2_with (first
    | (rw [← unhide HW]; go_at_call 17; refine hr.mono ?_; rintro e w1 ⟨rfl, h1⟩; obtain rfl := h1.symm)
    | (refine wpList_load_row rfl 23 (.tmp 2) rfl w.heap.size rfl 23 _ (0, 0) _ (hG.alloc _) Tryd.underlying23 rfl hzx ?_))
  go_ret2
  have hP2 := unhide HP2
  have hf3 := unhide HF3
  have hb2 := unhide HB2
  have e2 : v1.alloc (.cells #[.int .i64 (n : Int), .int .i64 0, .int .i64 0, .map (some W.heap.size)] 41) = v2 := (unhide HV2).symm
  rw [e2]
  have hbW : Below w.heap.size w v1 := bnext hb hb.size hf3
  refine ⟨v1.heap.size, W.heap.size, rfl, ⟨by simpa using hP2, (unhide HF2).later hb2, fits_start n hn1, by simp, by rw [pot_start]; omega, fun h => by simp at h, fun _ => rfl⟩, hbW.size, hb.size, bnext hbW hbW.size hb2⟩

set_option maxHeartbeats 2000000 in
set_option maxRecDepth 100000 in
theorem next_end (p b n s : Nat) (sd : List Int) (w : World) (h : Wst w p b n sd s []) (hn : n ≤ 4096) :
    Calls Tryd.prog 8 #[.pointer (some ⟨p, 0, none⟩)] w fun e w' => e = .returned (.tuple #[.int .i64 0, hV zeroH, .bool false]) ∧ Below w.heap.size w w' := by
  obtain ⟨W, hW, hZ, hb, -⟩ := arr1 w 23 (U8 (List.replicate 32 0))
  have hP := h.P.later hb
  have c0 := hP.cell 0
  have c1 := hP.cell 1
  simp [wkC] at c0 c1
  have he : ((n : Int) == (n : Int)) = true := by simp
  have hzz := hz_of (R := List.replicate 32 0) (by simp)
  have HW := hide hW
  clear hW h hP
  go_enter Tryd.func8, Tryd.ntmps8
  go_upto_region 1 with fail
  rw [Z32, ← unhide HW]
  go_quiet (fail)
  have hZ1 : Arr (W.drewN nq) w.heap.size 23 (U8 (List.replicate 32 0)) := hZ
  have hb1 : Below w.heap.size w (W.drewN nq) := ⟨hb.os, hb.tape, hb.output, hb.size, hb.block⟩
  generalize W.drewN nq = v1 at hZ1 hb1 ⊢
  go_wp2_with (first
    | (refine wpList_build_to rfl 23 _ rfl (U8 (List.replicate 32 0)).toArray (by kernel_rfl) ?_; generalize hC : (U8 (List.replicate 32 0)).toArray = C at hzz ⊢)
    | refine wpList_store_row rfl 23 (.tmp 3) (.tmp 20) rfl w.heap.size _ rfl rfl 23 _ hZ1 hzz (by rw [← hC]) (by rw [← hC]; exact all_one (U8_one _)) ?_)
  refine bodyPost_ret (results_t_c_t rfl _ _ w.heap.size 23 _ (0, 0) _ rfl (.int .i64 0) rfl (.bool false) rfl (setRow_heap _ _ _ _ _ _ hZ1) Tryd.underlying23 rfl hzz) rfl ?_
  exact ⟨by rw [← hC]; rfl, below_setRow hb1 (Nat.le_refl _) _⟩

theorem arr_rangeN {w : World} {g : Nat} {ty : TypeId} {l : List Value} (h : Arr w g ty l) : w.rangeAt g 0 l := fun j v hv => by
  rw [Nat.zero_add, h.cell]; exact hv
theorem Wst.small {w : World} {p b n : Nat} {sd : List Int} {s : Nat} {ds : List Nat} (h : Wst w p b n sd s ds) (hn : n ≤ 4096) : s ≤ 30000 := by
  have h1 := h.C
  have h2 := (lgN_le_iff 12 n).2 (by omega)
  have h3 : n * lgN n ≤ 4096 * 12 := Nat.mul_le_mul hn h2
  omega
theorem Wst.next {w0 w v : World} {p b n : Nat} {sd : List Int} {s s' d away : Nat} {r r' : List Nat} (h : Wst w0 p b n sd s (d :: r)) (hr : Rch n (n - away) b p sd s d r w s' 1 r' v) {w' : World} (hP : Arr w' p 41 (wkC n (n - away) s' b)) (hM : KM w' b (keysOf r') (fun k => itZ k sd)) (ha : (d :: r).sum = away + 1) : Wst w' p b n sd s' r' ∧ r'.sum = away ∧ s ≤ s' := by
  have hS := hr.S
  have hsum : r'.sum = away := by rw [ha] at hS; simp only [List.sum_cons] at hS; omega
  have hS0 := h.S
  have hC := hr.C
  have hC0 := h.C
  have hA := hr.A
  have hT := hr.T
  have hp : pot (1 :: r') = pot r' := by simp [pot, lgN_small]
  refine ⟨⟨by rw [hsum]; exact hP, hM, hr.F.2.2, by omega, by omega, fun _ => ?_, fun hh => by omega⟩, hsum, by omega⟩
  by_cases hf : (d :: r).sum = n
  · have := h.I hf
    simp only [List.cons.injEq] at this
    rw [this.2] at hA
    simp at hA
    omega
  · have := h.G (by omega)
    omega

set_option maxHeartbeats 4000000 in
set_option maxRecDepth 100000 in
theorem next_ok (p b n s : Nat) (sd : List Int) (d : Nat) (r : List Nat) (away : Nat) (w : World) (hsd : Hs sd) (hL : Ld w) (h : Wst w p b n sd s (d :: r)) (hn : n ≤ 4096) (ha : (d :: r).sum = away + 1) :
    Calls Tryd.prog 8 #[.pointer (some ⟨p, 0, none⟩)] w fun e w' => e = .returned (.tuple #[.int .i64 (n - away : Nat), hV (itZ away sd), .bool true]) ∧ ∃ s' r', Wst w' p b n sd s' r' ∧ r'.sum = away ∧ s ≤ s' ∧ Buts (fun k => k = p ∨ k = b) w w' := by
  obtain ⟨W, hW, hZ, hb, -⟩ := arr1 w 23 (U8 (List.replicate 32 0))
  obtain ⟨t, ht⟩ : ∃ t, t = n - (away + 1) := ⟨_, rfl⟩
  have hs3 := h.small hn
  have hS0 := h.S
  rw [ha] at hS0
  have hP0 : Arr w p 41 (wkC n t s b) := by have := h.P; rw [ha, ← ht] at this; exact this
  have hP := hP0.later hb
  have hM := h.M.later hb
  have hpl := hP0.lt
  have hbl := h.M.lt
  have hpb := h.M.ne hP0
  have hap := hL.apart hP0
  have hap2 := hL.apartM h.M
  have c0 := hP.cell 0
  have c1 := hP.cell 1
  have f1 := hP.frozen 1
  simp [wkC] at c0 c1
  have he : ((t : Int) == (n : Int)) = false := by rw [beq_eq_false_iff_ne]; omega
  obtain ⟨t1, ht1⟩ : ∃ t1, t1 = n - away := ⟨_, rfl⟩
  have hw1 : IntKind.i64.wrap ((t : Int) + 1) = (t1 : Int) := by rw [IntKind.wrap_i64]; omega
  have hw2 : IntKind.i64.wrap ((n : Int) - (t1 : Int)) = (away : Int) := by clear hw1; rw [IntKind.wrap_i64]; omega
  have HWR : Hid (IntKind.i64.wrap ((n : Int) - (t1 : Int)) = (away : Int)) := hide hw2
  have HH := hide h
  have HL := hide hL
  have HA := hide ha
  have HT1 := hide ht1
  have HPB : Hid (p ≠ b ∧ p < w.heap.size ∧ b < w.heap.size ∧ ¬ (1 = p ∨ 1 = b) ∧ ¬ (0 = p ∨ 0 = b) ∧ away < 4096 ∧ s ≤ 10000000) := hide ⟨hpb, hpl, hbl, by omega, by omega, by omega, by omega⟩
  have HP := hide hP
  have HM := hide hM
  have HZ := hide hZ
  have HB := hide hb
  have HW := hide hW
  rw [← ht1]
  clear hW h hP hP0 hM ht hS0 ha hL hZ hb hap hap2 hpl hbl hpb hw2 ht1 hs3
  go_enter Tryd.func8, Tryd.ntmps8
  go_upto_region 1 with fail
  rw [Z32, ← unhide HW]
  go_quiet (fail)
  have hP1 : Arr (W.drewN nq) p 41 (wkC n t s b) := unhide HP
  have hM1 : KM (W.drewN nq) b (keysOf (d :: r)) (fun k => itZ k sd) := unhide HM
  have hZ1 : Arr (W.drewN nq) w.heap.size 23 (U8 (List.replicate 32 0)) := unhide HZ
  have hb1 : Below w.heap.size w (W.drewN nq) := ⟨(unhide HB).os, (unhide HB).tape, (unhide HB).output, (unhide HB).size, (unhide HB).block⟩
  clear HP HM HZ HB HW c0 c1 f1
  generalize W.drewN nq = v1 at hP1 hM1 hZ1 hb1 ⊢
  have c1 := hP1.cell 1
  have f1 := hP1.frozen 1
  simp [wkC] at c1
  have hpb := (unhide HPB).1
  have hP2 : Arr (v1.setCell ⟨p, 1, none⟩ (.int .i64 (t1 : Int))) p 41 (wkC n t1 s b) := hP1.set 1 _
  have hM2 : KM (v1.setCell ⟨p, 1, none⟩ (.int .i64 (t1 : Int))) b (keysOf (d :: r)) (fun k => itZ k sd) := hM1.grown (Buts.of_but ((But.refl p v1).setCell 1 _)) (by omega)
  have hZ2 := hZ1.other (a := ⟨p, 1, none⟩) (.int .i64 (t1 : Int)) (by show w.heap.size ≠ p; have := (unhide HPB).2.1; omega)
  have hB2 : Buts (fun k => k = p ∨ k = b) w (v1.setCell ⟨p, 1, none⟩ (.int .i64 (t1 : Int))) := (Buts.of_below hb1).setCell (.inl rfl) 1 _
  have HP2 := hide hP2
  have HM2 := hide hM2
  have HZ2 := hide hZ2
  have HB2 := hide hB2
  clear hP1 hM1 hZ1 hb1 hP2 hM2 hZ2 hB2 hpb
  go_upto_region 4 with fail
  generalize v1.setCell ⟨p, 1, none⟩ (.int .i64 (t1 : Int)) = v2 at HP2 HM2 HZ2 HB2 ⊢
  clear hw1 c1 f1
  have c0 := (unhide HP2).cell 0
  have c1 := (unhide HP2).cell 1
  simp [wkC] at c0 c1
  have hw2 := unhide HWR
  go_quiet (fail)
  have hP3 : Arr (v2.drewN nq) p 41 (wkC n t1 s b) := unhide HP2
  have hM3 : KM (v2.drewN nq) b (keysOf (d :: r)) (fun k => itZ k sd) := unhide HM2
  have hZ3 : Arr (v2.drewN nq) w.heap.size 23 (U8 (List.replicate 32 0)) := unhide HZ2
  have hB3 : Buts (fun k => k = p ∨ k = b) w (v2.drewN nq) := ⟨(unhide HB2).os, (unhide HB2).tape, (unhide HB2).output, (unhide HB2).size, (unhide HB2).block⟩
  clear HP2 HM2 HZ2 HB2 c0 c1 hw2
  generalize v2.drewN nq = v3 at hP3 hM3 hZ3 hB3 ⊢
  have hrch := reach_any p n t1 s b sd d r away v3 hsd ((unhide HL).buts hB3 (unhide HPB).2.2.2.1 (unhide HPB).2.2.2.2.1) hP3 hM3 (unhide HH).F hn (unhide HA) (unhide HPB).2.2.2.2.2.1 (unhide HPB).2.2.2.2.2.2
  have HZ3 := hide hZ3
  have HB3 := hide hB3
  obtain ⟨y, hy⟩ : ∃ y, y = itZ away sd := ⟨_, rfl⟩
  have hyl : Hs y := by rw [hy]; exact hsd.it away
  rw [← hy] at hrch
  unfold hV at hrch
  have HY := hide hy
  have HPL3 : Hid (w.heap.size ≤ v3.heap.size) := hide hB3.size
  clear hP3 hM3 hZ3 hB3 hy
  go_wp2_with (first
    | (go_at_call 19; refine hrch.mono ?_; rintro e v4 ⟨s', r', rfl, hR4⟩; clear hrch
       have HR4 := hide hR4
       have HZ4 := hide (hR4.B.arr (unhide HZ3) (by have := (unhide HPB).2.1; have := (unhide HPB).2.2.1; omega))
       have HB4 := hide ((unhide HB3).trans hR4.B)
       clear hR4 HZ3 HB3)
    | (refine wpList_store_new rfl (.tmp 6) (.tmp 39) rfl y hyl.len _ rfl rfl rfl ?_
       intro v5 hU hb5
       have HU := hide hU
       have HZ5 := hide ((unhide HZ4).later hb5)
       have hP5 := (unhide HR4).P.later hb5
       have HM5 := hide ((unhide HR4).M.later hb5)
       have HB5 := hide ((unhide HB4).trans (Buts.of_below hb5))
       have c3 := hP5.cell 3
       simp [wkC] at c3
       have HP5 := hide hP5
       have HS5 : Hid (v4.heap.size < v5.heap.size ∧ w.heap.size < v4.heap.size) := hide ⟨hU.lt, (unhide HZ4).lt⟩
       clear hU hb5 hP5 HZ4 HB4)
    | (at_delete
       refine wpList_del rfl (.tmp 43) (.tmp 44) rfl b away (keysOf r') (fun k => itZ k sd) (by have h := unhide HM5; have hs := (unhide HR4).S; rw [unhide HA] at hs; simp only [List.sum_cons] at hs; simp only [keysOf] at h; rwa [show r'.sum = away by omega] at h) (by have := (unhide HPB).2.2.2.2.2.1; omega) (fun hm => by have h := keysOf_lt (unhide HR4).F.2.2 _ hm; have hs := (unhide HR4).S; rw [unhide HA] at hs; simp only [List.sum_cons] at hs; omega) rfl rfl ?_
       intro v6 hM6 hb6
       have HM6 := hide hM6
       have hpb := (unhide HPB).1
       have HP6 := hide (hb6.arr (unhide HP5) hpb)
       have HU6 := hide (hb6.arr (unhide HU) (by have := (unhide HPB).2.2.1; have := (unhide HS5).2; omega))
       have HZ6 := hide (hb6.arr (unhide HZ5) (by have := (unhide HPB).2.2.1; omega))
       have HB6 := hide ((unhide HB5).trans (hb6.mono (fun k _ e => Or.inr e)))
       clear hM6 hb6 hpb HM5 HP5 HU HZ5 HB5 c3))
  have cT : v6.cell? ⟨p, 1, none⟩ = some (.int .i64 (t1 : Int)) := by have := (unhide HP6).cell 1; simpa [wkC] using this
  refine wp_region_noPanic ?_
  refine wp_region_held_drew (S := fun w' => w'.cell? ⟨p, 1, none⟩ = some (.int .i64 (t1 : Int)) ∧ Arr w' v4.heap.size 23 (U8 y)) (by kernel_rfl) ⟨cT, unhide HU6⟩ (fun hHeld => ?_)
  have HM7 : Hid (KM v6.drew b (keysOf r') (fun k => itZ k sd)) := hide (unhide HM6)
  have HP7 : Hid (Arr v6.drew p 41 (wkC n t1 s' b)) := hide (unhide HP6)
  have hZ7 : Arr v6.drew w.heap.size 23 (U8 (List.replicate 32 0)) := unhide HZ6
  have HB7 : Hid (Buts (fun k => k = p ∨ k = b) w v6.drew) := hide ⟨(unhide HB6).os, (unhide HB6).tape, (unhide HB6).output, (unhide HB6).size, (unhide HB6).block⟩
  clear HM6 HP6 HZ6 HB6 HU6 cT
  generalize v6.drew = v7 at HM7 HP7 hZ7 HB7 hHeld ⊢
  refine wpAnyH_take (i := 0) (oi := _) (v := .pointer (some ⟨p, 0, none⟩)) rfl (by kernel_rfl) (by kernel_rfl) (by kernel_rfl) (fun _ _ _ h => h) (Or.inl ⟨by rfl, fun w hSw => by go_simp⟩) hHeld ?_
  simp [Act.put]
  refine wpAnyH_take (i := 1) (oi := _) (v := .pointer (some ⟨p, 0, none⟩)) rfl (by kernel_rfl) (by kernel_rfl) (by kernel_rfl) (fun _ _ _ h => h) (Or.inl ⟨by rfl, fun w hSw => by go_simp⟩) hHeld ?_
  simp [Act.put]
  refine wpAnyH_take (i := 2) (oi := _) (v := .pointer (some ⟨p, 1, none⟩)) rfl (by kernel_rfl) (by kernel_rfl) (by kernel_rfl) (fun _ _ _ h => h) (Or.inl ⟨by rfl, fun w hSw => by go_simp⟩) hHeld ?_
  simp [Act.put]
  refine wpAnyH_take (i := 3) (oi := _) (v := .int .i64 (t1 : Int)) rfl (by kernel_rfl) (by kernel_rfl) (by kernel_rfl) (fun _ _ _ h => h) (Or.inl ⟨by rfl, fun w hSw => by obtain ⟨h1, -⟩ := hSw; go_simp⟩) hHeld ?_
  simp [Act.put]
  refine wpAnyH_take (i := 4) (oi := _) (v := .agg (U8 y).toArray) rfl (by kernel_rfl) (by kernel_rfl) (by kernel_rfl) (fun _ _ _ h => h) (yieldsIf_load_mid (by rfl) _ _ rfl _ _ rfl (U8 y) _ (fun _ h => arr_rangeN h.2) Tryd.underlying23 rfl (by have := hz_of hyl.len; simpa using this)) hHeld ?_
  simp [Act.put]
  refine wpAnyH_take (i := 5) (oi := _) (v := .int .i64 (t1 : Int)) rfl (by kernel_rfl) (by kernel_rfl) (by kernel_rfl) (fun _ _ _ h => h) (Or.inl ⟨by rfl, fun w hSw => by go_simp⟩) hHeld ?_
  simp [Act.put]
  refine wpAnyH_ready (rs := [6]) (by kernel_rfl) (by simp) ?_
  refine AllReadyH.cons rfl (fun K hKK => ?_) AllReadyH.nil
  have hzy := hz_of hyl.len
  have hzo := ho_of (A := List.replicate 32 0) (by simp) hyl.len
  refine step_store_row rfl 23 (.tmp 3) (.tmp 49) rfl w.heap.size _ rfl rfl 23 _ hZ7 hzy hzo (all_one (U8_one _)) ?_
  simp only [Act.put]
  have hS5 := unhide HS5
  have hPB := unhide HPB
  have hP8 : Arr (v7.setRow w.heap.size (U8 y).toArray) p 41 (wkC n t1 s' b) := (unhide HP7).setRow_ne _ (by omega)
  refine hKK.out _ _ ⟨by have := hP8.cell 1; simpa [wkC] using this, hHeld.2.setRow_ne _ (by omega)⟩ (fun hHeld => ?_)
  clear hKK K
  refine wpAnyH_take (i := 7) (oi := _) (v := .bool true) rfl (by kernel_rfl) (by kernel_rfl) (by kernel_rfl) (fun _ _ _ h => h) (Or.inl ⟨by rfl, fun w hSw => by go_simp⟩) hHeld ?_
  simp [Act.put]
  refine wpAnyH_done (by kernel_rfl) ?_ _
  unfold NoPanic
  clear hHeld
  go_wp2
  refine bodyPost_ret (results_t_c_t rfl _ _ w.heap.size 23 _ (0, 0) _ rfl (.int .i64 (t1 : Int)) rfl (.bool true) rfl (setRow_heap _ _ _ _ _ _ hZ7) Tryd.underlying23 rfl hzy) rfl ?_
  have hB := unhide HB7
  have hM8 : KM (v7.setRow w.heap.size (U8 y).toArray) b (keysOf r') (fun k => itZ k sd) := (unhide HM7).grown (S := fun k => k = w.heap.size) ⟨rfl, rfl, rfl, by simp, fun i hi hne => setRow_other _ _ _ _ hne⟩ (by omega)
  have hT1 := unhide HT1
  rw [hT1] at hP8
  have hR4 := unhide HR4
  rw [hT1] at hR4
  obtain ⟨k1, k2, k3⟩ := (unhide HH).next hR4 hP8 hM8 (unhide HA)
  refine ⟨by rw [← unhide HY]; rfl, s', r', k1, k2, k3, ⟨hB.os, hB.tape, hB.output, by simpa using hB.size, fun i hi hne => (setRow_other _ _ _ _ (by omega)).trans (hB.block i hi hne)⟩⟩
end Go.Proofs.YtmaammjfbheciabDoor
