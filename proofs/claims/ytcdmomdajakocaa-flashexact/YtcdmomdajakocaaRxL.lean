import Derived.Test.YtcdmomdajakocaaRhX
import Derived.Test.YtcdmomdajakocaaSurM
import Derived.Deep.Cut
import Derived.Deep.DeepCutAuto
set_option linter.unusedVariables false
set_option linter.unusedSimpArgs false
namespace Go.Proofs.Ytcdmomdajakocaa
open Go.RowKit

theorem roomy_own {d : Sl} {w w' : World} {B g c : Nat} (hd : d.Ok w) (h : w'.ownsRow B 5 1 (.slice (some ⟨g, 0, none⟩) (d.n + 64) c) (d.n + 64) (U8 (d.l ++ marks))) : OwB w' (.slice (some ⟨g, 0, none⟩) (d.n + 64) c) (d.l ++ marks) ∧ (d.l ++ marks).length = d.n + 64 ∧ B ≤ g ∧ g < w'.heap.size ∧ d.n + 64 ≤ c := by
  have hl : (d.l ++ marks).length = d.n + 64 := by rw [List.length_append, marks_length, hd.len]
  have hB : IsB (d.l ++ marks) := fun z hz => (List.mem_append.1 hz).elim (hd.isB z) (marks_isB z)
  have ho : OwB w' (.slice (some ⟨g, 0, none⟩) (d.n + 64) c) (d.l ++ marks) := ⟨by rw [hl]; exact own_mono h (Nat.zero_le _), hB⟩
  exact ⟨ho, hl, (h.lt g rfl).1, (h.lt g rfl).2, (ho.okn hl).le⟩
theorem OwB.pre {w : World} {g n m c : Nat} {l : List Int} (h : OwB w (.slice (some ⟨g, 0, none⟩) m c) l) (hl : l.length = m) (hn : n ≤ m) : Sl.Ok w ⟨some ⟨g, 0, none⟩, n, c, l.take n⟩ := by
  have h1 := h.1
  rw [hl] at h1
  exact own_pre h1 h.2 hn
theorem ref_load (z : Int) (d1 d2 : Sl) (w : World) (h1 : d1.Ok w) (h2 : d2.Ok w) :
    Calls Try.prog 8 #[.int .i64 z, d1.v, d2.v] w fun e w' => ∃ v, e = .returned v ∧ Rb w' v (fsLoad z d1.l d2.l) (fun k => w.heap.size ≤ k) ∧ Below w.heap.size w w' := by
  refine (rload_any z d1 d2 w h1 h2).mono ?_
  rintro e w' ⟨v, rfl, fv, sv, av, ar, cnt, rfl, hv, hn, b⟩
  have har : ar = [] := by
    have := hv.q
    cases ar with
    | nil => rfl
    | cons x t => simp [fsLoad, qOf] at this
  refine ⟨_, rfl, rb_mk hv.f hv.g hv.a hv.q hv.c0 hv.cn hv.ok (fun x hx => by rw [har] at hx; cases hx) (fun k hk => (hn k hk).elim False.elim id), b⟩
theorem own_empty (w : World) : OwB (w.alloc (.cells #[] 5)) (.slice (some ⟨w.heap.size, 0, none⟩) 0 0) [] :=
  ⟨World.ownsRow_made w #[] 0 (Nat.zero_le _) (by unfold maxLen; omega) rfl, fun x hx => by cases hx⟩
theorem step_copyG {ops : Array Oper} {o : Oper} {a : Act} {w : World} {K : Act → World → Prop} {Q : Exit → Act → World → Prop} {E : Prop} (hw : Region.wanted o (yielded ops a.tmps) = true) (s x : Operand)
    (ho : o.op = .call { callee := .builtin .append, args := #[s, x], argTypes := #[22, 22] }) (g : Nat) (hs : a.eval s = .slice (some ⟨g, 0, none⟩) 0 0) (he : OwB w (.slice (some ⟨g, 0, none⟩) 0 0) [])
    (d : Sl) (hx : a.eval x = .slice d.a d.n d.c) (hd : d.Ok w) (hb : d.n ≤ 140737488355328)
    (h : ∀ v' w', Hid (OwB w' v' d.l) → Hid (Buts (· = g) w w') → Hid (v'.ownBlock = some g ∨ v'.ownBlock = some w.heap.size) → K (a.put o.dst v') w') : if Region.wanted o (yielded ops a.tmps) = true then Oper.wp Try.prog o a w K Q else E := by
  obtain ⟨i0, hi, hz0, hz1, hz2⟩ := info_parts Try.infoB
  rw [if_pos hw]
  obtain ⟨v', w', hr, r1, r2, r3⟩ := run_append_slat (P := Try.prog) w 22 o.type 5 i0 (.int .u8 0) Try.underlying22 hi hz0 hz1 hz2 rfl _ 0 _ he.1 d hd (by omega)
  unfold Oper.wp
  simp [execOp, ho, resolve, invoke, builtin, hs, hx, hr, Result.andThen]
  refine h v' w' ⟨?_, hd.isB⟩ ⟨r2.os, r2.tape, r2.output, r2.size, fun k hk hne => r2.block k hk (fun e => hne (by simpa [Value.ownBlock] using e))⟩ r3
  have e : U8 ([] : List Int) ++ U8 d.l = U8 d.l := by simp [U8]
  rw [e, Nat.zero_add, ← hd.len] at r1
  exact r1
theorem Spf.Ok.range {w : World} {sp : Spf} (h : sp.Ok w) {k : Nat} {kd bank x y : Int} {d : Sl} (hq : sp.ss[k]? = some ⟨kd, bank, d, x, y⟩) : ∃ bk off, sp.a = some ⟨bk, off, none⟩ ∧ bk < w.heap.size ∧ ∀ X, Below w.heap.size w X → X.rangeAt bk (off + k * 5) [.int .i64 kd, .int .i64 bank, .slice d.a d.n d.c, .int .i64 x, .int .i64 y] := by
  obtain ⟨bk, off, ha, hbl, c0, c1, c2, c3, c4⟩ := h.at_ hq
  refine ⟨bk, off, ha, hbl, fun X hX j v hv => (hX.cell (p := ⟨bk, off + k * 5 + j, none⟩) hbl).trans ?_⟩
  match j, hv with
  | 0, hv => simp at hv; subst hv; exact c0
  | 1, hv => simp at hv; subst hv; exact c1
  | 2, hv => simp at hv; subst hv; exact c2
  | 3, hv => simp at hv; subst hv; exact c3
  | 4, hv => simp at hv; subst hv; exact c4
  | j + 5, hv => simp at hv
theorem step_wr (s : FlS) (t : Stf) {s' : FlS} (h : (s.step t).1 = s') : s'.wr ≤ s.wr + 1 := by rw [← h]; exact (step_ok s t).wr
theorem Try.szT12 : (Try.prog.info? 37).map (·.size) = some 5 := by kernel_rfl
set_option maxHeartbeats 8000000 in
set_option maxRecDepth 100000 in
theorem exact_law (z : Int) (d1 d2 : Sl) (sp : Spf) (w : World) (h1 : d1.Ok w) (h2 : d2.Ok w) (hs : sp.Ok w) (hr : ∀ q ∈ sp.ss, q.b.n ≤ 140737488351232) (hd1n : d1.n ≤ 140737488351232) (hd2n : d2.n ≤ 140737488351232) :
    Calls Try.prog 3 #[.int .i64 z, .slice d1.a d1.n d1.c, .slice d2.a d2.n d2.c, sp.v] w fun e w' => e = .returned (.bool true) ∧ Below w.heap.size w w' := by
  have hZ := size_any sp w hs hr
  have hlen := hs.len
  have hle := hs.le
  have hmx := hs.mx
  unfold maxLen at hmx
  have HSP := hide hs
  have HR := hide hr
  have HD1 := hide h1
  have HD2 := hide h2
  have hsv : sp.v = .slice sp.a sp.n sp.c := rfl
  rw [hsv] at hZ ⊢
  obtain ⟨pa, hpa⟩ : ∃ pa, sp.a = pa := ⟨_, rfl⟩
  rw [hpa] at hZ ⊢
  have HPA := hide hpa
  clear hs hr hsv hpa
  obtain ⟨s0, hs0⟩ : ∃ s0, (fsLoad z d1.l d2.l) = s0 := ⟨_, rfl⟩
  have HS0 := hide hs0
  clear hs0
  by_cases hlong : 400 < sp.n
  · have hlz : (400 : Int) < (sp.n : Int) := by omega
    go_enter Try.func3, Try.ntmps3
    go_wp2
    go_ret
    exact ⟨rfl, Below.refl _ _⟩
  have hlz : ¬ (400 : Int) < (sp.n : Int) := by omega
  have hlz' : (sp.n : Int) ≤ 400 := by omega
  go_enter Try.func3, Try.ntmps3
  have HRO1 := hide (fun hn => roomy_any d1 w h1 hn)
  simp only [Sl.v] at HRO1
  clear h1 h2
  go_wp2_with (first
    | (go_at_call 4; refine hZ.mono ?_; rintro e w0 ⟨r, rfl, hr1, hr2, hw0⟩; subst w0; clear hZ; have hwr1 : IntKind.i64.wrap ((r : Int) + (d1.n : Int)) = (r : Int) + (d1.n : Int) := (by rw [IntKind.wrap_i64]; omega); have hwr2 : IntKind.i64.wrap ((r : Int) + (d1.n : Int) + (d2.n : Int)) = (r : Int) + (d1.n : Int) + (d2.n : Int) := (by rw [IntKind.wrap_i64]; omega))
    | (go_at_call 5; refine hR2.mono ?_; rintro e w2 ⟨g2, c2, rfl, ho2, b2⟩; clear hR2; have Q2 := hide (roomy_own (unhide HD2) ho2); have Q1 := hide ((unhide Q1).1.later b2); have B2 := hide (bel_then (unhide B1) (bel_sz (unhide B1) (Nat.le_refl _)) b2); have Z2 := hide b2.size; clear ho2 b2)
    | (go_at_call 5; have hn1 : d1.n ≤ 2097152 := (by omega); have hn2 : d2.n ≤ 2097152 := (by omega); have hsz : sizN sp.ss ≤ 2097152 := (by rw [← hr2 (by omega)]; omega); have HQN : Hid (∀ q ∈ sp.ss, q.b.n ≤ 2097152) := hide (fun q hq => Nat.le_trans (sizN_mem sp.ss q hq) hsz); clear hr1 hr2 hwr1 hwr2 hsz; refine (unhide HRO1 hn1).mono ?_; rintro e w1 ⟨g1, c1, rfl, ho1, b1⟩; clear HRO1; have Q1 := hide (roomy_own (unhide HD1) ho1); have Q1' := Q1; have B1 := hide b1; have hR2 := roomy_any d2 w1 ((unhide HD2).later b1) hn2; simp only [Sl.v] at hR2; clear ho1 b1))
  · go_ret
    exact ⟨rfl, Below.refl _ _⟩
  have hcap1 : (d1.n : Int) ≤ (c1 : Int) := by have := (unhide Q1').2.2.2.2; omega
  have hcap2 : (d2.n : Int) ≤ (c2 : Int) := by have := (unhide Q2).2.2.2.2; omega
  have HG1 : Hid (w.heap.size ≤ g1 ∧ g1 < w1.heap.size) := hide ⟨(unhide Q1').2.2.1, (unhide Q1').2.2.2.1⟩
  have HG2 : Hid (w1.heap.size ≤ g2 ∧ g2 < w2.heap.size) := hide ⟨(unhide Q2).2.2.1, (unhide Q2).2.2.2.1⟩
  have hLd := load_any z ⟨some ⟨g1, 0, none⟩, d1.n, c1, (d1.l ++ marks).take d1.n⟩ ⟨some ⟨g2, 0, none⟩, d2.n, c2, (d2.l ++ marks).take d2.n⟩ w2.drew (ok_drewN ((unhide Q1).pre (unhide Q1').2.1 (by omega)) 1) (ok_drewN ((unhide Q2).1.pre (unhide Q2).2.1 (by omega)) 1)
  rw [List.take_left' (unhide HD1).len, List.take_left' (unhide HD2).len] at hLd
  simp only [Sl.v] at hLd
  rw [unhide HS0] at hLd
  go_region_held3 (fun _ => True) (exact trivial)
    (first
      | (go_at_call 6; refine hLd.mono ?_; rintro e w3 ⟨p, S, rfl, hF, hSn, b3'⟩; clear hLd; have b3 := below_undrewN (k := 1) b3'; have HF3 := hide hF; have HSN : Hid (∀ k, S k → w2.heap.size ≤ k) := hide hSn; have HSL := hide hF.lt; have B3 := hide (bel_then (unhide B2) (bel_sz (unhide B2) (Nat.le_refl _)) b3); have Q13 := hide ((unhide Q1).later b3); have Q23 := hide ((unhide Q2).1.later b3); have Z3 := hide b3.size; clear hF hSn b3 b3'))
  have hW1 := wiped_any d1 g1 c1 w3 ((unhide HD1).later (unhide B3)) hn1 (unhide Q13)
  clear hcap1 hcap2
  have hg1w := (unhide HG1).1
  have hg1l := (unhide HG1).2
  have hg2w := (unhide HG2).1
  have hg2l := (unhide HG2).2
  have hz2 := unhide Z2
  have hz3 := unhide Z3
  have HO : Hid (w.heap.size ≤ g1 ∧ g1 < w1.heap.size ∧ w1.heap.size ≤ g2 ∧ g2 < w2.heap.size ∧ w2.heap.size ≤ w3.heap.size) := hide ⟨hg1w, hg1l, hg2w, hg2l, hz3⟩
  clear hg1w hg1l hg2w hg2l hz2 hz3
  go_wp2_with (first
    | (go_at_call 7; refine hW2.mono ?_; rintro e w5 ⟨rfl, ⟨l2, hl2, o2⟩, bw5⟩; clear hW2; have HL2 := hide hl2; have Q25 := hide o2; have Q15 := hide ((unhide Q14).keep bw5 (fun k hk e => by cases hk; have e9 : g1 = g2 := e; have h9 := unhide HO; omega)); have HF5 := hide ((unhide HF4).keep bw5 (fun k hk e => by have e9 : k = g2 := e; have h8 := unhide HSN k hk; have h9 := unhide HO; omega)); have B5 := hide ((unhide B4).trans (bw5.below (bel_sz (unhide B4) (Nat.le_refl _)) (fun k e => by have e9 : k = g2 := e; have h9 := unhide HO; omega))); have Z5 := hide bw5.size; have hRL := ref_load z d1 d2 w5 ((unhide HD1).later (unhide B5)) ((unhide HD2).later (unhide B5)); simp only [Sl.v] at hRL; rw [unhide HS0] at hRL; clear hl2 o2 bw5)
    | (go_at_call 7; refine hW1.mono ?_; rintro e w4 ⟨rfl, ⟨l1, hl1, o1⟩, bw4⟩; clear hW1; have HL1 := hide hl1; have Q14 := hide o1; have Q24 := hide ((unhide Q23).keep bw4 (fun k hk e => by cases hk; have e9 : g2 = g1 := e; have h9 := unhide HO; omega)); have HF4 := hide ((unhide HF3).keep bw4 (fun k hk e => by have e9 : k = g1 := e; have h8 := unhide HSN k hk; have h9 := unhide HO; omega)); have B4 := hide ((unhide B3).trans (bw4.below (bel_sz (unhide B3) (Nat.le_refl _)) (fun k e => by have e9 : k = g1 := e; have h9 := unhide HO; omega))); have Z4 := hide bw4.size; have hW2 := wiped_any d2 g2 c2 w4 ((unhide HD2).later (unhide B4)) hn2 (unhide Q24); clear hl1 o1 bw4)
    | (go_at_call 8; refine hRL.mono ?_; rintro e w6 ⟨v, rfl, hRb, b6⟩; clear hRL; obtain ⟨fa, sa, va, fc, sc, vc, ar, cnt, hvv, hRV, h6, hRO⟩ := hRb; subst hvv; obtain ⟨W6, hW6⟩ : ∃ W6, w6.alloc (.cells #[.int .i64 s0.size, .slice fa s0.l0.length fc, .slice sa s0.l1.length sc, .slice va ar.length vc, .int .i64 cnt, .int .i64 s0.wr, .bool s0.down] 31) = W6 := ⟨_, rfl⟩; have b7 : Below w6.heap.size w6 W6 := (by rw [← hW6]; exact below_one w6 _); have GA : Arr W6 w6.heap.size 31 [.int .i64 s0.size, .slice fa s0.l0.length fc, .slice sa s0.l1.length sc, .slice va ar.length vc, .int .i64 cnt, .int .i64 s0.wr, .bool s0.down] := (by rw [← hW6]; exact Arr.new w6 _ _); have m0 : W6.cell? ⟨w6.heap.size, 0, none⟩ = some (.int .i64 s0.size) := (by simpa using GA.cell 0); have m1 : W6.cell? ⟨w6.heap.size, 1, none⟩ = some (.slice fa s0.l0.length fc) := (by simpa using GA.cell 1); have m2 : W6.cell? ⟨w6.heap.size, 2, none⟩ = some (.slice sa s0.l1.length sc) := (by simpa using GA.cell 2); have m3 : W6.cell? ⟨w6.heap.size, 3, none⟩ = some (.slice va ar.length vc) := (by simpa using GA.cell 3); have m4 : W6.cell? ⟨w6.heap.size, 4, none⟩ = some (.int .i64 cnt) := (by simpa using GA.cell 4); have m5 : W6.cell? ⟨w6.heap.size, 5, none⟩ = some (.int .i64 s0.wr) := (by simpa using GA.cell 5); have m6 : W6.cell? ⟨w6.heap.size, 6, none⟩ = some (.bool s0.down) := (by simpa using GA.cell 6); have HGA := hide GA; have hbb := bel_then b6 b6.size b7; have HF6 := hide ((unhide HF5).later hbb); have HRV := hide (hRV.later b7); have H6 := hide h6; have HRO := hide hRO; have HRL := hide hRV.lt; have Q16 := hide ((unhide Q15).later hbb); have Q26 := hide ((unhide Q25).later hbb); have B6 := hide (bel_then (unhide B5) (bel_sz (unhide B5) (Nat.le_refl _)) hbb); have Z6 : Hid (w5.heap.size ≤ w6.heap.size ∧ w6.heap.size < W6.heap.size) := hide ⟨b6.size, GA.lt⟩; clear b6 b7 GA hRV h6 hRO hbb))
  have hcap1 : (d1.n : Int) ≤ (c1 : Int) := by have := (unhide Q1').2.2.2.2; omega
  have hcap2 : (d2.n : Int) ≤ (c2 : Int) := by have := (unhide Q2).2.2.2.2; omega
  obtain ⟨m1, hm1⟩ : ∃ m, l1.take d1.n = m := ⟨_, rfl⟩
  obtain ⟨m2, hm2⟩ : ∃ m, l2.take d2.n = m := ⟨_, rfl⟩
  have HP1 : Hid (∀ X, OwB X (.slice (some ⟨g1, 0, none⟩) (d1.n + 64) c1) l1 → Sl.Ok X ⟨some ⟨g1, 0, none⟩, d1.n, c1, m1⟩) := hide (fun X h => by rw [← hm1]; exact h.pre (unhide HL1) (by omega))
  have HP2 : Hid (∀ X, OwB X (.slice (some ⟨g2, 0, none⟩) (d2.n + 64) c2) l2 → Sl.Ok X ⟨some ⟨g2, 0, none⟩, d2.n, c2, m2⟩) := hide (fun X h => by rw [← hm2]; exact h.pre (unhide HL2) (by omega))
  clear hm1 hm2
  obtain ⟨t0, ht0⟩ : ∃ t0, fsLoad z m1 m2 = t0 := ⟨_, rfl⟩
  have HT0 := hide ht0
  clear ht0
  have hL2 := load_any z ⟨some ⟨g1, 0, none⟩, d1.n, c1, m1⟩ ⟨some ⟨g2, 0, none⟩, d2.n, c2, m2⟩ W6.drew (ok_drewN (unhide HP1 _ (unhide Q16)) 1) (ok_drewN (unhide HP2 _ (unhide Q26)) 1)
  simp only [Sl.v] at hL2
  rw [unhide HT0] at hL2
  go_region_held3 (fun _ => True) (exact trivial)
    (first
      | (go_at_call 6; refine hL2.mono ?_; rintro e w7 ⟨p2, S2, rfl, hF, hSn, b7'⟩; clear hL2; have b7 := below_undrewN (k := 1) b7'; have HF72 := hide hF; have B7 := hide (bel_then (unhide B6) (bel_sz (unhide B6) (Nat.le_refl _)) b7); have HF7 := hide ((unhide HF6).later b7); have HRV7 := hide ((unhide HRV).later b7); have HGA7 := hide ((unhide HGA).later b7); have Q17 := hide ((unhide Q16).later b7); have Q27 := hide ((unhide Q26).later b7); have Z7 := hide b7.size; clear hF hSn b7 b7'))
  go_upto_if 99 with fail
  go_cut [99] (fun v99 wx => v99 = .bool false ∧ Hid (Below w7.heap.size w7 wx))
  case first =>
    refine wp_region_noPanic ?_
    have hR0 : w7.drew.rangeAt w6.heap.size 0 [.int .i64 s0.size, .slice fa s0.l0.length fc, .slice sa s0.l1.length sc, .slice va ar.length vc, .int .i64 cnt, .int .i64 s0.wr, .bool s0.down] := blk_rangeF ((unhide HGA7).later (below_drewN (Below.refl _ _) 1))
    refine wp_region_held_drew (S := fun w' => w'.rangeAt w6.heap.size 0 [.int .i64 s0.size, .slice fa s0.l0.length fc, .slice sa s0.l1.length sc, .slice va ar.length vc, .int .i64 cnt, .int .i64 s0.wr, .bool s0.down]) (by kernel_rfl) hR0 (fun hHeld => ?_)
    refine wpAnyH_take (i := 0) (oi := _) (v := .pointer (some ⟨p2, 0, none⟩)) rfl (by kernel_rfl) (by kernel_rfl) (by kernel_rfl) (fun _ _ _ h => h) (Or.inl ⟨by rfl, fun w hSw => by go_simp⟩) hHeld ?_
    simp [Act.put]
    refine wpAnyH_take (i := 1) (oi := _) (v := .bool false) rfl (by kernel_rfl) (by kernel_rfl) (by kernel_rfl) (fun _ _ _ h => h) (Or.inl ⟨by rfl, fun w hSw => by go_simp⟩) hHeld ?_
    simp [Act.put]
    refine wpAnyH_take (i := 2) (oi := _) (v := .bool false) rfl (by kernel_rfl) (by kernel_rfl) (by kernel_rfl) (fun _ _ _ h => h) (Or.inl ⟨by rfl, fun w hSw => by go_simp⟩) hHeld ?_
    simp [Act.put]
    refine wpAnyH_take (i := 3) (oi := _) (v := .pointer (some ⟨p, 0, none⟩)) rfl (by kernel_rfl) (by kernel_rfl) (by kernel_rfl) (fun _ _ _ h => h) (Or.inl ⟨by rfl, fun w hSw => by go_simp⟩) hHeld ?_
    simp [Act.put]
    refine wpAnyH_take (i := 4) (oi := _) (v := .agg #[.int .i64 s0.size, .slice fa s0.l0.length fc, .slice sa s0.l1.length sc, .slice va ar.length vc, .int .i64 cnt, .int .i64 s0.wr, .bool s0.down]) rfl (by kernel_rfl) (by kernel_rfl) (by kernel_rfl) (fun _ _ _ h => h) (yieldsIf_load_mid (by rfl) _ _ rfl _ _ rfl _ _ (fun _ h => h) Try.underlying31 rfl (by simpa using Try.szF)) hHeld ?_
    simp [Act.put]
    refine wpAnyH_ready (rs := [5]) (by kernel_rfl) (by simp) ?_
    refine AllReadyH.cons rfl (fun K hK => ?_) AllReadyH.nil
    have hTd := told_any p S fa sa va fc sc vc s0 ar cnt w7.drew ((unhide HRV7).later (below_drewN (Below.refl _ _) 1)) ((unhide HF7).drewN 1)
    go_simp
    refine hTd.mono ?_
    rintro e w8 ⟨rfl, b8'⟩
    have b8 := below_undrewN (k := 1) b8'
    clear b8' hTd
    refine hK.out _ _ (blk_rangeF ((unhide HGA7).later b8)) (fun hHeld => ?_)
    clear hK K
    refine wpAnyH_take (i := 6) (oi := _) (v := .bool false) rfl (by kernel_rfl) (by kernel_rfl) (by kernel_rfl) (fun _ _ _ h => h) (Or.inl ⟨by rfl, fun w hSw => by go_simp⟩) hHeld ?_
    simp [Act.put]
    refine wpAnyH_take (i := 7) (oi := _) (v := .bool false) rfl (by kernel_rfl) (by kernel_rfl) (by kernel_rfl) (fun _ _ _ h => h) (Or.inl ⟨by rfl, fun w hSw => by go_simp⟩) hHeld ?_
    simp [Act.put]
    refine wpAnyH_take (i := 8) (oi := _) (v := .bool false) rfl (by kernel_rfl) (by kernel_rfl) (by kernel_rfl) (fun _ _ _ h => h) (Or.inl ⟨by rfl, fun w hSw => by go_simp⟩) hHeld ?_
    simp [Act.put]
    refine wpAnyH_take (i := 9) (oi := _) (v := .pointer (some ⟨p2, 0, none⟩)) rfl (by kernel_rfl) (by kernel_rfl) (by kernel_rfl) (fun _ _ _ h => h) (Or.inl ⟨by rfl, fun w hSw => by go_simp⟩) hHeld ?_
    simp [Act.put]
    refine wpAnyH_take (i := 10) (oi := _) (v := .int .i64 z) rfl (by kernel_rfl) (by kernel_rfl) (by kernel_rfl) (fun _ _ _ h => h) (Or.inl ⟨by rfl, fun w hSw => by go_simp⟩) hHeld ?_
    simp [Act.put]
    refine wpAnyH_take (i := 12) (oi := _) (v := .slice (some ⟨g1, 0, none⟩) (d1.n + 64) c1) rfl (by kernel_rfl) (by kernel_rfl) (by kernel_rfl) (fun _ _ _ h => h) (Or.inl ⟨by rfl, fun w hSw => by go_simp⟩) hHeld ?_
    simp [Act.put]
    refine wpAnyH_take (i := 13) (oi := _) (v := .slice d1.a d1.n d1.c) rfl (by kernel_rfl) (by kernel_rfl) (by kernel_rfl) (fun _ _ _ h => h) (Or.inl ⟨by rfl, fun w hSw => by go_simp⟩) hHeld ?_
    simp [Act.put]
    refine wpAnyH_take (i := 14) (oi := _) (v := .int .i64 d1.n) rfl (by kernel_rfl) (by kernel_rfl) (by kernel_rfl) (fun _ _ _ h => h) (Or.inl ⟨by rfl, fun w hSw => by go_simp⟩) hHeld ?_
    simp [Act.put]
    refine wpAnyH_take (i := 15) (oi := _) (v := .slice (some ⟨g1, 0, none⟩) d1.n c1) rfl (by kernel_rfl) (by kernel_rfl) (by kernel_rfl) (fun _ _ _ h => h) (Or.inl ⟨by rfl, fun w hSw => by go_simp⟩) hHeld ?_
    simp [Act.put]
    refine wpAnyH_take (i := 18) (oi := _) (v := .slice (some ⟨g2, 0, none⟩) (d2.n + 64) c2) rfl (by kernel_rfl) (by kernel_rfl) (by kernel_rfl) (fun _ _ _ h => h) (Or.inl ⟨by rfl, fun w hSw => by go_simp⟩) hHeld ?_
    simp [Act.put]
    refine wpAnyH_take (i := 19) (oi := _) (v := .slice d2.a d2.n d2.c) rfl (by kernel_rfl) (by kernel_rfl) (by kernel_rfl) (fun _ _ _ h => h) (Or.inl ⟨by rfl, fun w hSw => by go_simp⟩) hHeld ?_
    simp [Act.put]
    refine wpAnyH_take (i := 20) (oi := _) (v := .int .i64 d2.n) rfl (by kernel_rfl) (by kernel_rfl) (by kernel_rfl) (fun _ _ _ h => h) (Or.inl ⟨by rfl, fun w hSw => by go_simp⟩) hHeld ?_
    simp [Act.put]
    refine wpAnyH_take (i := 21) (oi := _) (v := .slice (some ⟨g2, 0, none⟩) d2.n c2) rfl (by kernel_rfl) (by kernel_rfl) (by kernel_rfl) (fun _ _ _ h => h) (Or.inl ⟨by rfl, fun w hSw => by go_simp⟩) hHeld ?_
    simp [Act.put]
    have hz8 := b8.size
    refine wpAnyH_ready (rs := [11, 17]) (by kernel_rfl) (by simp) ?_
    refine AllReadyH.cons rfl (fun K hK => ?_) (AllReadyH.cons rfl (fun K hK => ?_) AllReadyH.nil)
    · -- the first list first
      go_simp
      obtain ⟨wA, hwA⟩ : ∃ wA, w8.alloc (.cells #[] 5) = wA := ⟨_, rfl⟩
      have awA : Below w8.heap.size w8 wA := by rw [← hwA]; exact below_one w8 _
      have swA : w8.heap.size < wA.heap.size := by rw [← hwA]; simp
      have bA := bel_then b8 b8.size awA
      have E1 : OwB wA (.slice (some ⟨w8.heap.size, 0, none⟩) 0 0) [] := by rw [← hwA]; exact own_empty w8
      rw [hwA]
      refine hK.out _ _ (blk_rangeF ((unhide HGA7).later bA)) (fun hHeld => ?_)
      clear hK K
      refine wpAnyH_ready (rs := [16, 17]) (by kernel_rfl) (by simp) ?_
      refine AllReadyH.cons rfl (fun K hK => ?_) (AllReadyH.cons rfl (fun K hK => ?_) AllReadyH.nil)
      · -- and its bytes
        refine step_copyG (by rfl) (.tmp 84) (.tmp 88) rfl (w8.heap.size) (by simp [Act.eval]) E1 ⟨some ⟨g1, 0, none⟩, d1.n, c1, m1⟩ (by simp [Act.eval]) (unhide HP1 _ ((unhide Q17).later bA)) (by simp only; omega) ?_
        intro V1 wB oV1 bV1 nV1
        have bB : Below w7.heap.size w7 wB := bA.trans ((unhide bV1).below bA.size (fun k e => by have e9 : k = w8.heap.size := e; omega))
        obtain ⟨xV1, yV1, hxV1⟩ := own_parts (unhide oV1).1
        subst hxV1
        have zwB := (unhide bV1).size
        simp [Act.put]
        refine hK.out _ _ (blk_rangeF ((unhide HGA7).later bB)) (fun hHeld => ?_)
        clear hK K
        have OV1 := unhide oV1
        refine wpAnyH_ready (rs := [17]) (by kernel_rfl) (by simp) ?_
        refine AllReadyH.cons rfl (fun K hK => ?_) AllReadyH.nil
        go_simp
        obtain ⟨wC, hwC⟩ : ∃ wC, wB.alloc (.cells #[] 5) = wC := ⟨_, rfl⟩
        have awC : Below wB.heap.size wB wC := by rw [← hwC]; exact below_one wB _
        have swC : wB.heap.size < wC.heap.size := by rw [← hwC]; simp
        have bC := bel_then bB bB.size awC
        have E2 : OwB wC (.slice (some ⟨wB.heap.size, 0, none⟩) 0 0) [] := by rw [← hwC]; exact own_empty wB
        have OV1 := OV1.later awC
        rw [hwC]
        refine hK.out _ _ (blk_rangeF ((unhide HGA7).later bC)) (fun hHeld => ?_)
        clear hK K
        refine wpAnyH_ready (rs := [22]) (by kernel_rfl) (by simp) ?_
        refine AllReadyH.cons rfl (fun K hK => ?_) AllReadyH.nil
        refine step_copyG (by rfl) (.tmp 90) (.tmp 94) rfl (wB.heap.size) (by simp [Act.eval]) E2 ⟨some ⟨g2, 0, none⟩, d2.n, c2, m2⟩ (by simp [Act.eval]) (unhide HP2 _ ((unhide Q27).later bC)) (by simp only; omega) ?_
        intro V2 wD oV2 bV2 nV2
        have bD : Below w7.heap.size w7 wD := bC.trans ((unhide bV2).below bC.size (fun k e => by have e9 : k = wB.heap.size := e; omega))
        have OV1 := OV1.keep (unhide bV2) (fun k hk e => by have e9 : k = wB.heap.size := e; have := (unhide oV1).lt k hk; omega)
        obtain ⟨xV2, yV2, hxV2⟩ := own_parts (unhide oV2).1
        subst hxV2
        have zwD := (unhide bV2).size
        simp [Act.put]
        refine hK.out _ _ (blk_rangeF ((unhide HGA7).later bD)) (fun hHeld => ?_)
        clear hK K
        have OV2 := unhide oV2
        refine wpAnyH_ready (rs := [23]) (by kernel_rfl) (by simp) ?_
        refine AllReadyH.cons rfl (fun K hK => ?_) AllReadyH.nil
        have hRL := ref_load z ⟨xV1, m1.length, yV1, m1⟩ ⟨xV2, m2.length, yV2, m2⟩ wD OV1.ok OV2.ok
        simp only [Sl.v] at hRL
        rw [unhide HT0] at hRL
        go_simp
        refine hRL.mono ?_
        rintro e wY ⟨v, rfl, hRb, bY⟩
        obtain ⟨fa9, sa9, va9, fc9, sc9, vc9, ar9, cnt9, hvv, hRV9, -, -⟩ := hRb
        subst hvv
        have bYY := bel_then bD bD.size bY
        refine hK.out _ _ (blk_rangeF ((unhide HGA7).later bYY)) (fun hHeld => ?_)
        clear hK K hRL
        refine wpAnyH_ready (rs := [24]) (by kernel_rfl) (by simp) ?_
        refine AllReadyH.cons rfl (fun K hK => ?_) AllReadyH.nil
        have hTo := told_any p2 S2 fa9 sa9 va9 fc9 sc9 vc9 t0 ar9 cnt9 wY hRV9 ((unhide HF72).later bYY)
        go_simp
        refine hTo.mono ?_
        rintro e wZ ⟨rfl, bZ⟩
        have bZZ := bel_then bYY bYY.size bZ
        refine hK.out _ _ (blk_rangeF ((unhide HGA7).later bZZ)) (fun hHeld => ?_)
        clear hK K hTo
        refine wpAnyH_take (i := 25) (oi := _) (v := .bool false) rfl (by kernel_rfl) (by kernel_rfl) (by kernel_rfl) (fun _ _ _ h => h) (Or.inl ⟨by rfl, fun w hSw => by go_simp⟩) hHeld ?_
        simp [Act.put]
        refine wpAnyH_take (i := 26) (oi := _) (v := .bool false) rfl (by kernel_rfl) (by kernel_rfl) (by kernel_rfl) (fun _ _ _ h => h) (Or.inl ⟨by rfl, fun w hSw => by go_simp⟩) hHeld ?_
        simp [Act.put]
        refine wpAnyH_done (by kernel_rfl) ?_ _
        unfold NoPanic
        go_wp2
        go_meet
        case rel => exact ⟨rfl, hide bZZ⟩
      · -- then the second one
        go_simp
        obtain ⟨wB, hwB⟩ : ∃ wB, wA.alloc (.cells #[] 5) = wB := ⟨_, rfl⟩
        have awB : Below wA.heap.size wA wB := by rw [← hwB]; exact below_one wA _
        have swB : wA.heap.size < wB.heap.size := by rw [← hwB]; simp
        have bB := bel_then bA bA.size awB
        have E2 : OwB wB (.slice (some ⟨wA.heap.size, 0, none⟩) 0 0) [] := by rw [← hwB]; exact own_empty wA
        have E1 := E1.later awB
        rw [hwB]
        refine hK.out _ _ (blk_rangeF ((unhide HGA7).later bB)) (fun hHeld => ?_)
        clear hK K
        refine wpAnyH_ready (rs := [16]) (by kernel_rfl) (by simp) ?_
        refine AllReadyH.cons rfl (fun K hK => ?_) AllReadyH.nil
        refine step_copyG (by rfl) (.tmp 84) (.tmp 88) rfl (w8.heap.size) (by simp [Act.eval]) E1 ⟨some ⟨g1, 0, none⟩, d1.n, c1, m1⟩ (by simp [Act.eval]) (unhide HP1 _ ((unhide Q17).later bB)) (by simp only; omega) ?_
        intro V1 wC oV1 bV1 nV1
        have bC : Below w7.heap.size w7 wC := bB.trans ((unhide bV1).below bB.size (fun k e => by have e9 : k = w8.heap.size := e; omega))
        have E2 := E2.keep (unhide bV1) (fun k hk e => by have e9 : k = w8.heap.size := e; have h7 : wA.heap.size = k := (by simpa [Value.ownBlock] using hk); have h9 := swA; omega)
        obtain ⟨xV1, yV1, hxV1⟩ := own_parts (unhide oV1).1
        subst hxV1
        have zwC := (unhide bV1).size
        simp [Act.put]
        refine hK.out _ _ (blk_rangeF ((unhide HGA7).later bC)) (fun hHeld => ?_)
        clear hK K
        have OV1 := unhide oV1
        refine wpAnyH_ready (rs := [22]) (by kernel_rfl) (by simp) ?_
        refine AllReadyH.cons rfl (fun K hK => ?_) AllReadyH.nil
        refine step_copyG (by rfl) (.tmp 90) (.tmp 94) rfl (wA.heap.size) (by simp [Act.eval]) E2 ⟨some ⟨g2, 0, none⟩, d2.n, c2, m2⟩ (by simp [Act.eval]) (unhide HP2 _ ((unhide Q27).later bC)) (by simp only; omega) ?_
        intro V2 wD oV2 bV2 nV2
        have bD : Below w7.heap.size w7 wD := bC.trans ((unhide bV2).below bC.size (fun k e => by have e9 : k = wA.heap.size := e; omega))
        have OV1 := OV1.keep (unhide bV2) (fun k hk e => by have e9 : k = wA.heap.size := e; rcases unhide nV1 with q | q <;> (rw [q] at hk; cases hk; have h9 := swA; have h8 := swB; omega))
        obtain ⟨xV2, yV2, hxV2⟩ := own_parts (unhide oV2).1
        subst hxV2
        have zwD := (unhide bV2).size
        simp [Act.put]
        refine hK.out _ _ (blk_rangeF ((unhide HGA7).later bD)) (fun hHeld => ?_)
        clear hK K
        have OV2 := unhide oV2
        refine wpAnyH_ready (rs := [23]) (by kernel_rfl) (by simp) ?_
        refine AllReadyH.cons rfl (fun K hK => ?_) AllReadyH.nil
        have hRL := ref_load z ⟨xV1, m1.length, yV1, m1⟩ ⟨xV2, m2.length, yV2, m2⟩ wD OV1.ok OV2.ok
        simp only [Sl.v] at hRL
        rw [unhide HT0] at hRL
        go_simp
        refine hRL.mono ?_
        rintro e wY ⟨v, rfl, hRb, bY⟩
        obtain ⟨fa9, sa9, va9, fc9, sc9, vc9, ar9, cnt9, hvv, hRV9, -, -⟩ := hRb
        subst hvv
        have bYY := bel_then bD bD.size bY
        refine hK.out _ _ (blk_rangeF ((unhide HGA7).later bYY)) (fun hHeld => ?_)
        clear hK K hRL
        refine wpAnyH_ready (rs := [24]) (by kernel_rfl) (by simp) ?_
        refine AllReadyH.cons rfl (fun K hK => ?_) AllReadyH.nil
        have hTo := told_any p2 S2 fa9 sa9 va9 fc9 sc9 vc9 t0 ar9 cnt9 wY hRV9 ((unhide HF72).later bYY)
        go_simp
        refine hTo.mono ?_
        rintro e wZ ⟨rfl, bZ⟩
        have bZZ := bel_then bYY bYY.size bZ
        refine hK.out _ _ (blk_rangeF ((unhide HGA7).later bZZ)) (fun hHeld => ?_)
        clear hK K hTo
        refine wpAnyH_take (i := 25) (oi := _) (v := .bool false) rfl (by kernel_rfl) (by kernel_rfl) (by kernel_rfl) (fun _ _ _ h => h) (Or.inl ⟨by rfl, fun w hSw => by go_simp⟩) hHeld ?_
        simp [Act.put]
        refine wpAnyH_take (i := 26) (oi := _) (v := .bool false) rfl (by kernel_rfl) (by kernel_rfl) (by kernel_rfl) (fun _ _ _ h => h) (Or.inl ⟨by rfl, fun w hSw => by go_simp⟩) hHeld ?_
        simp [Act.put]
        refine wpAnyH_done (by kernel_rfl) ?_ _
        unfold NoPanic
        go_wp2
        go_meet
        case rel => exact ⟨rfl, hide bZZ⟩
    · -- the second list first
      go_simp
      obtain ⟨wA, hwA⟩ : ∃ wA, w8.alloc (.cells #[] 5) = wA := ⟨_, rfl⟩
      have awA : Below w8.heap.size w8 wA := by rw [← hwA]; exact below_one w8 _
      have swA : w8.heap.size < wA.heap.size := by rw [← hwA]; simp
      have bA := bel_then b8 b8.size awA
      have E2 : OwB wA (.slice (some ⟨w8.heap.size, 0, none⟩) 0 0) [] := by rw [← hwA]; exact own_empty w8
      rw [hwA]
      refine hK.out _ _ (blk_rangeF ((unhide HGA7).later bA)) (fun hHeld => ?_)
      clear hK K
      refine wpAnyH_ready (rs := [11]) (by kernel_rfl) (by simp) ?_
      refine AllReadyH.cons rfl (fun K hK => ?_) AllReadyH.nil
      go_simp
      obtain ⟨wB, hwB⟩ : ∃ wB, wA.alloc (.cells #[] 5) = wB := ⟨_, rfl⟩
      have awB : Below wA.heap.size wA wB := by rw [← hwB]; exact below_one wA _
      have swB : wA.heap.size < wB.heap.size := by rw [← hwB]; simp
      have bB := bel_then bA bA.size awB
      have E1 : OwB wB (.slice (some ⟨wA.heap.size, 0, none⟩) 0 0) [] := by rw [← hwB]; exact own_empty wA
      have E2 := E2.later awB
      rw [hwB]
      refine hK.out _ _ (blk_rangeF ((unhide HGA7).later bB)) (fun hHeld => ?_)
      clear hK K
      refine wpAnyH_ready (rs := [16]) (by kernel_rfl) (by simp) ?_
      refine AllReadyH.cons rfl (fun K hK => ?_) AllReadyH.nil
      refine step_copyG (by rfl) (.tmp 84) (.tmp 88) rfl (wA.heap.size) (by simp [Act.eval]) E1 ⟨some ⟨g1, 0, none⟩, d1.n, c1, m1⟩ (by simp [Act.eval]) (unhide HP1 _ ((unhide Q17).later bB)) (by simp only; omega) ?_
      intro V1 wC oV1 bV1 nV1
      have bC : Below w7.heap.size w7 wC := bB.trans ((unhide bV1).below bB.size (fun k e => by have e9 : k = wA.heap.size := e; omega))
      have E2 := E2.keep (unhide bV1) (fun k hk e => by have e9 : k = wA.heap.size := e; have h7 : w8.heap.size = k := (by simpa [Value.ownBlock] using hk); have h9 := swA; omega)
      obtain ⟨xV1, yV1, hxV1⟩ := own_parts (unhide oV1).1
      subst hxV1
      have zwC := (unhide bV1).size
      simp [Act.put]
      refine hK.out _ _ (blk_rangeF ((unhide HGA7).later bC)) (fun hHeld => ?_)
      clear hK K
      have OV1 := unhide oV1
      refine wpAnyH_ready (rs := [22]) (by kernel_rfl) (by simp) ?_
      refine AllReadyH.cons rfl (fun K hK => ?_) AllReadyH.nil
      refine step_copyG (by rfl) (.tmp 90) (.tmp 94) rfl (w8.heap.size) (by simp [Act.eval]) E2 ⟨some ⟨g2, 0, none⟩, d2.n, c2, m2⟩ (by simp [Act.eval]) (unhide HP2 _ ((unhide Q27).later bC)) (by simp only; omega) ?_
      intro V2 wD oV2 bV2 nV2
      have bD : Below w7.heap.size w7 wD := bC.trans ((unhide bV2).below bC.size (fun k e => by have e9 : k = w8.heap.size := e; omega))
      have OV1 := OV1.keep (unhide bV2) (fun k hk e => by have e9 : k = w8.heap.size := e; rcases unhide nV1 with q | q <;> (rw [q] at hk; cases hk; have h9 := swA; have h8 := swB; omega))
      obtain ⟨xV2, yV2, hxV2⟩ := own_parts (unhide oV2).1
      subst hxV2
      have zwD := (unhide bV2).size
      simp [Act.put]
      refine hK.out _ _ (blk_rangeF ((unhide HGA7).later bD)) (fun hHeld => ?_)
      clear hK K
      have OV2 := unhide oV2
      refine wpAnyH_ready (rs := [23]) (by kernel_rfl) (by simp) ?_
      refine AllReadyH.cons rfl (fun K hK => ?_) AllReadyH.nil
      have hRL := ref_load z ⟨xV1, m1.length, yV1, m1⟩ ⟨xV2, m2.length, yV2, m2⟩ wD OV1.ok OV2.ok
      simp only [Sl.v] at hRL
      rw [unhide HT0] at hRL
      go_simp
      refine hRL.mono ?_
      rintro e wY ⟨v, rfl, hRb, bY⟩
      obtain ⟨fa9, sa9, va9, fc9, sc9, vc9, ar9, cnt9, hvv, hRV9, -, -⟩ := hRb
      subst hvv
      have bYY := bel_then bD bD.size bY
      refine hK.out _ _ (blk_rangeF ((unhide HGA7).later bYY)) (fun hHeld => ?_)
      clear hK K hRL
      refine wpAnyH_ready (rs := [24]) (by kernel_rfl) (by simp) ?_
      refine AllReadyH.cons rfl (fun K hK => ?_) AllReadyH.nil
      have hTo := told_any p2 S2 fa9 sa9 va9 fc9 sc9 vc9 t0 ar9 cnt9 wY hRV9 ((unhide HF72).later bYY)
      go_simp
      refine hTo.mono ?_
      rintro e wZ ⟨rfl, bZ⟩
      have bZZ := bel_then bYY bYY.size bZ
      refine hK.out _ _ (blk_rangeF ((unhide HGA7).later bZZ)) (fun hHeld => ?_)
      clear hK K hTo
      refine wpAnyH_take (i := 25) (oi := _) (v := .bool false) rfl (by kernel_rfl) (by kernel_rfl) (by kernel_rfl) (fun _ _ _ h => h) (Or.inl ⟨by rfl, fun w hSw => by go_simp⟩) hHeld ?_
      simp [Act.put]
      refine wpAnyH_take (i := 26) (oi := _) (v := .bool false) rfl (by kernel_rfl) (by kernel_rfl) (by kernel_rfl) (fun _ _ _ h => h) (Or.inl ⟨by rfl, fun w hSw => by go_simp⟩) hHeld ?_
      simp [Act.put]
      refine wpAnyH_done (by kernel_rfl) ?_ _
      unfold NoPanic
      go_wp2
      go_meet
      case rel => exact ⟨rfl, hide bZZ⟩
  case rest =>
    obtain ⟨rfl, HC⟩ := hcut
    obtain ⟨hB, hhB⟩ : ∃ hB, w6.heap.size = hB := ⟨_, rfl⟩
    have HFc := hide ((unhide HF7).later (unhide HC))
    have HRVc := hide ((unhide HRV7).later (unhide HC))
    have HGc : Hid (Arr wc hB 31 [.int .i64 s0.size, .slice fa s0.l0.length fc, .slice sa s0.l1.length sc, .slice va ar.length vc, .int .i64 cnt, .int .i64 s0.wr, .bool s0.down]) := hide (by rw [← hhB]; exact (unhide HGA7).later (unhide HC))
    have Bc := hide (bel_then (unhide B7) (bel_sz (unhide B7) (Nat.le_refl _)) (unhide HC))
    have hq1 := (unhide B2).size
    have hq2 := unhide HO
    have hq3 := unhide Z4
    have hq4 := unhide Z5
    have hq5 := unhide Z6
    have HSc : Hid (∀ k, S k → w.heap.size ≤ k ∧ k ≠ hB) := hide (fun k hk => by have h8 := unhide HSN k hk; have h9 := unhide HSL k hk; exact ⟨by omega, by omega⟩)
    have HRc : Hid (∀ k, RSet (.slice fa s0.l0.length fc) (.slice sa s0.l1.length sc) (.slice va ar.length vc) k → w.heap.size ≤ k ∧ k ≠ hB ∧ ¬ S k) := hide (fun k hk => by have h8 := unhide HRO k hk; have h9 := unhide HRL k hk; exact ⟨by omega, by omega, fun e => by have := unhide HSL k e; omega⟩)
    have HHB : Hid (w.heap.size ≤ hB ∧ hB < wc.heap.size) := hide ⟨by omega, (unhide HGc).lt⟩
    have HWc : Hid (s0.wr ≤ 0) := hide (by rw [← unhide HS0]; exact Nat.le_refl _)
    rw [hhB]
    clear hq1 hq2 hq3 hq4 hq5 hhB hcap1 hcap2 hn1 hn2
    go_wp2_with fail
    go_loopw [14, 15, 16] (fun i _ _ wr => ∃ k : Nat, k ≤ sp.n ∧ i = .int .i64 k ∧ ∃ S4 s4 fa4 sa4 va4 fc4 sc4 vc4 ar4 cnt4, Hid (Fl wr p S4 s4) ∧ Hid (RV wr (.slice fa4 s4.l0.length fc4) (.slice sa4 s4.l1.length sc4) (.slice va4 ar4.length vc4) s4 ar4 cnt4) ∧ Hid (∀ x ∈ ar4, x.1 ≤ 1000000) ∧ Hid (Arr wr hB 31 [.int .i64 s4.size, .slice fa4 s4.l0.length fc4, .slice sa4 s4.l1.length sc4, .slice va4 ar4.length vc4, .int .i64 cnt4, .int .i64 s4.wr, .bool s4.down]) ∧ Hid (∀ k, S4 k → w.heap.size ≤ k ∧ k ≠ hB) ∧ Hid (∀ k, RSet (.slice fa4 s4.l0.length fc4) (.slice sa4 s4.l1.length sc4) (.slice va4 ar4.length vc4) k → w.heap.size ≤ k ∧ k ≠ hB ∧ ¬ S4 k) ∧ Hid (Below w.heap.size w wr) ∧ Hid (s4.wr ≤ k)) (fun i _ _ _ => sp.n - (intOf i).toNat)
    case atStart => exact ⟨0, by omega, rfl, S, s0, fa, sa, va, fc, sc, vc, ar, cnt, HFc, HRVc, H6, HGc, HSc, HRc, Bc, HWc⟩
    case round =>
      obtain ⟨k, hk, rfl, S4, s4, fa4, sa4, va4, fc4, sc4, vc4, ar4, cnt4, HF4, HRV4, H64, HG4, HS4, HR4, B4, HW4⟩ := hrel
      clear HFc HRVc HGc Bc HSc HRc HWc
      by_cases hlt : k < sp.n
      · have hkz : (k : Int) < (sp.n : Int) := by omega
        obtain ⟨⟨kd, bank, d, x, y⟩, hq⟩ : ∃ q, sp.ss[k]? = some q := ⟨_, List.getElem?_eq_getElem (by omega)⟩
        obtain ⟨bk, off, ha, hbl, hst5⟩ := (unhide HSP).range hq
        rw [unhide HPA] at ha
        subst ha
        have hqn := unhide HQN _ (List.mem_of_getElem? hq)
        have hqo := (unhide HSP).all _ (List.mem_of_getElem? hq)
        obtain ⟨s9, hP⟩ : ∃ r, (s4.step ⟨kd, bank, d, x, y⟩).1 = r := ⟨_, rfl⟩
        have HWR : Hid (s9.wr ≤ s4.wr + 1) := hide (step_wr s4 _ hP)
        have HST := hide hP
        have HDq := hide (hqo.later (unhide B4))
        have HQn := hide hqn
        have HSq : Hid (Sepd S4 d) := hide (fun hp z hz e => by have h5 := hqo.blk hp z hz; have h6 := (unhide HS4 _ e).1; omega)
        have HBK := hide hbl
        have HST5 := hide hst5
        have HBh : Hid (hB < wr.heap.size) := hide (unhide HG4).lt
        clear hP hq hqn hqo hbl hst5
        go_wp2_with fail
        refine wp_region_noPanic ?_
        have bd : Below wr.heap.size wr wr.drew := below_drewN (Below.refl _ _) 1
        have BX := bel_then (unhide B4) (bel_sz (unhide B4) (Nat.le_refl _)) bd
        refine wp_region_held_drew (S := fun w' => w'.rangeAt hB 0 [.int .i64 s4.size, .slice fa4 s4.l0.length fc4, .slice sa4 s4.l1.length sc4, .slice va4 ar4.length vc4, .int .i64 cnt4, .int .i64 s4.wr, .bool s4.down] ∧ w'.rangeAt bk (off + k * 5) [.int .i64 kd, .int .i64 bank, .slice d.a d.n d.c, .int .i64 x, .int .i64 y]) (by kernel_rfl) ⟨blk_rangeF ((unhide HG4).later bd), unhide HST5 _ BX⟩ (fun hHeld => ?_)
        refine wpAnyH_take (i := 0) (oi := _) (v := .pointer (some ⟨p, 0, none⟩)) rfl (by kernel_rfl) (by kernel_rfl) (by kernel_rfl) (fun _ _ _ h => h) (Or.inl ⟨by rfl, fun w hSw => by go_simp⟩) hHeld ?_
        simp [Act.put]
        refine wpAnyH_take (i := 1) (oi := _) (v := .agg #[.int .i64 s4.size, .slice fa4 s4.l0.length fc4, .slice sa4 s4.l1.length sc4, .slice va4 ar4.length vc4, .int .i64 cnt4, .int .i64 s4.wr, .bool s4.down]) rfl (by kernel_rfl) (by kernel_rfl) (by kernel_rfl) (fun _ _ _ h => h) (yieldsIf_load_mid (by rfl) _ _ rfl _ _ rfl _ _ (fun _ h => h.1) Try.underlying31 rfl (by simpa using Try.szF)) hHeld ?_
        simp [Act.put]
        refine wpAnyH_take (i := 2) (oi := _) (v := .slice (some ⟨bk, off, none⟩) sp.n sp.c) rfl (by kernel_rfl) (by kernel_rfl) (by kernel_rfl) (fun _ _ _ h => h) (Or.inl ⟨by rfl, fun w hSw => by go_simp⟩) hHeld ?_
        simp [Act.put]
        refine wpAnyH_take (i := 3) (oi := _) (v := .int .i64 k) rfl (by kernel_rfl) (by kernel_rfl) (by kernel_rfl) (fun _ _ _ h => h) (Or.inl ⟨by rfl, fun w hSw => by go_simp⟩) hHeld ?_
        simp [Act.put]
        refine wpAnyH_take (i := 4) (oi := _) (v := .pointer (some ⟨bk, off + k * 5, none⟩)) rfl (by kernel_rfl) (by kernel_rfl) (by kernel_rfl) (fun _ _ _ h => h) (Or.inl ⟨by rfl, fun w hSw => by go_simp⟩) hHeld ?_
        simp [Act.put]
        refine wpAnyH_take (i := 5) (oi := _) (v := .agg #[.int .i64 kd, .int .i64 bank, .slice d.a d.n d.c, .int .i64 x, .int .i64 y]) rfl (by kernel_rfl) (by kernel_rfl) (by kernel_rfl) (fun _ _ _ h => h) (yieldsIf_load_mid (by rfl) _ _ rfl _ _ rfl _ _ (fun _ h => h.2) Try.underlying37 rfl (by simpa using Try.szT12)) hHeld ?_
        simp [Act.put]
        refine wpAnyH_ready (rs := [6, 10]) (by kernel_rfl) (by simp) ?_
        refine AllReadyH.cons rfl (fun K hK => ?_) (AllReadyH.cons rfl (fun K hK => ?_) AllReadyH.nil)
        · -- the call, then the box
          have hBo := both_any p S4 fa4 sa4 va4 fc4 sc4 vc4 s4 ar4 cnt4 wr.drew ((unhide HRV4).later bd) (unhide H64) ((unhide HF4).later bd) (fun k hk => (unhide HR4 k hk).2.2) bank x y d ((unhide HDq).later bd) (unhide HQn) (unhide HSq) (by have := unhide HW4; omega) kd
          rw [unhide HST] at hBo
          go_simp
          refine hBo.mono ?_
          rintro e w2 ⟨v, S9, rfl, G2, hRb⟩
          obtain ⟨fa9, sa9, va9, fc9, sc9, vc9, ar9, cnt9, hvv, hRV9, h69, hRO⟩ := hRb
          subst hvv
          clear hBo
          have GHh := G2.but.arr ((unhide HG4).later bd) (fun e => (unhide HS4 _ e).2 rfl)
          have B2 := G2.bel BX (bel_sz BX (Nat.le_refl _)) (fun k hk => (unhide HS4 k hk).1)
          refine hK.out _ _ ⟨blk_rangeF GHh, unhide HST5 _ B2⟩ (fun hHeld => ?_)
          clear hK K
          have hlt2 : hB < w2.heap.size := GHh.lt
          refine wpAnyH_take (i := 7) (oi := _) (v := .tuple #[.agg #[.int .i64 s9.size, .slice fa9 s9.l0.length fc9, .slice sa9 s9.l1.length sc9, .slice va9 ar9.length vc9, .int .i64 cnt9, .int .i64 s9.wr, .bool s9.down], .bool true]) rfl (by kernel_rfl) (by kernel_rfl) (by kernel_rfl) (fun _ _ _ h => h) (Or.inl ⟨by rfl, fun w hSw => by go_simp⟩) hHeld ?_
          simp [Act.put]
          refine wpAnyH_take (i := 8) (oi := _) (v := .agg #[.int .i64 s9.size, .slice fa9 s9.l0.length fc9, .slice sa9 s9.l1.length sc9, .slice va9 ar9.length vc9, .int .i64 cnt9, .int .i64 s9.wr, .bool s9.down]) rfl (by kernel_rfl) (by kernel_rfl) (by kernel_rfl) (fun _ _ _ h => h) (Or.inl ⟨by rfl, fun w hSw => by go_simp⟩) hHeld ?_
          simp [Act.put]
          refine wpAnyH_take (i := 9) (oi := _) (v := .bool true) rfl (by kernel_rfl) (by kernel_rfl) (by kernel_rfl) (fun _ _ _ h => h) (Or.inl ⟨by rfl, fun w hSw => by go_simp⟩) hHeld ?_
          simp [Act.put]
          refine wpAnyH_ready (rs := [10]) (by kernel_rfl) (by simp) ?_
          refine AllReadyH.cons rfl (fun K hK => ?_) AllReadyH.nil
          go_simp
          obtain ⟨w3, hw3⟩ : ∃ w3, w2.alloc (.cells #[.int .i64 0, .slice none 0 0, .slice none 0 0, .slice none 0 0, .int .i64 0, .int .i64 0, .bool false] 31) = w3 := ⟨_, rfl⟩
          have b23 : Below w2.heap.size w2 w3 := by rw [← hw3]; exact below_one w2 _
          have GA3 : Arr w3 w2.heap.size 31 [.int .i64 0, .slice none 0 0, .slice none 0 0, .slice none 0 0, .int .i64 0, .int .i64 0, .bool false] := by rw [← hw3]; exact Arr.new w2 _ _
          rw [hw3]
          have B3 := bel_then B2 (bel_sz B2 (Nat.le_refl _)) b23
          refine hK.out _ _ ⟨blk_rangeF (GHh.later b23), unhide HST5 _ B3⟩ (fun hHeld => ?_)
          clear hK K
          refine wpAnyH_ready (rs := [11]) (by kernel_rfl) (by simp) ?_
          refine AllReadyH.cons rfl (fun K hK => ?_) AllReadyH.nil
          refine step_store_row rfl 31 (.tmp 15) (.tmp 114) rfl w2.heap.size #[.int .i64 s9.size, .slice fa9 s9.l0.length fc9, .slice sa9 s9.l1.length sc9, .slice va9 ar9.length vc9, .int .i64 cnt9, .int .i64 s9.wr, .bool s9.down] rfl rfl 31 _ GA3 Try.szF rfl (rv_one _ _ _ _ _ _ _ _ _ _ _ _ _) ?_
          simp [Act.put]
          obtain ⟨w4, hw4⟩ : ∃ w4, w3.setRow w2.heap.size #[.int .i64 s9.size, .slice fa9 s9.l0.length fc9, .slice sa9 s9.l1.length sc9, .slice va9 ar9.length vc9, .int .i64 cnt9, .int .i64 s9.wr, .bool s9.down] = w4 := ⟨_, rfl⟩
          have bb4 : Buts (· = w2.heap.size) w3 w4 := by rw [← hw4]; exact Buts.of_but ((But.refl w2.heap.size w3).setRow _)
          have HGa : Hid (Arr w4 w2.heap.size 31 [.int .i64 s9.size, .slice fa9 s9.l0.length fc9, .slice sa9 s9.l1.length sc9, .slice va9 ar9.length vc9, .int .i64 cnt9, .int .i64 s9.wr, .bool s9.down]) := hide (by rw [← hw4]; exact setRow_heap w3 w2.heap.size _ #[.int .i64 s9.size, .slice fa9 s9.l0.length fc9, .slice sa9 s9.l1.length sc9, .slice va9 ar9.length vc9, .int .i64 cnt9, .int .i64 s9.wr, .bool s9.down] 31 _ GA3)
          have HGh : Hid (Arr w4 hB 31 [.int .i64 s4.size, .slice fa4 s4.l0.length fc4, .slice sa4 s4.l1.length sc4, .slice va4 ar4.length vc4, .int .i64 cnt4, .int .i64 s4.wr, .bool s4.down]) := hide (bb4.arr (GHh.later b23) (by omega))
          have B9 := hide (B3.trans (bb4.below (bel_sz B3 (Nat.le_refl _)) (fun k e => by have e9 : k = w2.heap.size := e; have := bel_sz B2 (Nat.le_refl _); omega)))
          have HF9 := hide ((G2.fl.later b23).keep bb4 (fun k hk e => by have e9 : k = w2.heap.size := e; have := G2.fl.lt k hk; omega))
          have HRV9 := hide ((hRV9.later b23).keep bb4 (fun k hk e => by have e9 : k = w2.heap.size := e; have := hRV9.lt k hk; omega))
          have hX : wr.drew.heap.size = wr.heap.size := rfl
          have hwX := bel_sz (unhide B4) (Nat.le_refl _)
          have hbh := unhide HBh
          have HS9 : Hid (∀ k, S9 k → w.heap.size ≤ k ∧ k ≠ hB) := hide (fun k hk => (G2.at_ k hk).elim (fun h => unhide HS4 k h) (fun h => ⟨by omega, by omega⟩))
          have HR9 : Hid (∀ k, RSet (.slice fa9 s9.l0.length fc9) (.slice sa9 s9.l1.length sc9) (.slice va9 ar9.length vc9) k → w.heap.size ≤ k ∧ k ≠ hB ∧ ¬ S9 k) := hide (fun k hk => by
            have h8 := hRO k hk
            rcases h8.1 with h | h
            · have h7 := unhide HR4 k h; exact ⟨h7.1, h7.2.1, h8.2⟩
            · exact ⟨by omega, by omega, h8.2⟩)
          have H69 := hide h69
          rw [hw4]
          refine hK.out _ _ ⟨blk_rangeF (unhide HGh), unhide HST5 _ (unhide B9)⟩ (fun hHeld => ?_)
          clear hK K
          refine wpAnyH_take (i := 12) (oi := _) (v := .bool true) rfl (by kernel_rfl) (by kernel_rfl) (by kernel_rfl) (fun _ _ _ h => h) (Or.inl ⟨by rfl, fun w hSw => by go_simp⟩) hHeld ?_
          simp [Act.put]
          refine wpAnyH_done (by kernel_rfl) ?_ _
          unfold NoPanic
          obtain ⟨a, hha⟩ : ∃ a, w2.heap.size = a := ⟨_, rfl⟩
          rw [hha] at HGa ⊢
          clear hHeld G2 hRV9 h69 hRO bb4 hw4 GA3 b23 hw3 B3 B2 GHh hlt2 hX hwX hbh hha bd BX
          have y0 : w4.cell? ⟨a, 0, none⟩ = some (.int .i64 s9.size) := (by simpa using (unhide HGa).cell 0)
          have y1 : w4.cell? ⟨a, 1, none⟩ = some (.slice fa9 s9.l0.length fc9) := (by simpa using (unhide HGa).cell 1)
          have y2 : w4.cell? ⟨a, 2, none⟩ = some (.slice sa9 s9.l1.length sc9) := (by simpa using (unhide HGa).cell 2)
          have y3 : w4.cell? ⟨a, 3, none⟩ = some (.slice va9 ar9.length vc9) := (by simpa using (unhide HGa).cell 3)
          have y4 : w4.cell? ⟨a, 4, none⟩ = some (.int .i64 cnt9) := (by simpa using (unhide HGa).cell 4)
          have y5 : w4.cell? ⟨a, 5, none⟩ = some (.int .i64 s9.wr) := (by simpa using (unhide HGa).cell 5)
          have y6 : w4.cell? ⟨a, 6, none⟩ = some (.bool s9.down) := (by simpa using (unhide HGa).cell 6)
          obtain ⟨w5, hw5⟩ : ∃ w5, w4.setRow hB #[.int .i64 s9.size, .slice fa9 s9.l0.length fc9, .slice sa9 s9.l1.length sc9, .slice va9 ar9.length vc9, .int .i64 cnt9, .int .i64 s9.wr, .bool s9.down] = w5 := ⟨_, rfl⟩
          have bb5 : Buts (· = hB) w4 w5 := by rw [← hw5]; exact Buts.of_but ((But.refl hB w4).setRow _)
          have GH5 : Arr w5 hB 31 [.int .i64 s9.size, .slice fa9 s9.l0.length fc9, .slice sa9 s9.l1.length sc9, .slice va9 ar9.length vc9, .int .i64 cnt9, .int .i64 s9.wr, .bool s9.down] := by rw [← hw5]; exact setRow_heap w4 hB _ #[.int .i64 s9.size, .slice fa9 s9.l0.length fc9, .slice sa9 s9.l1.length sc9, .slice va9 ar9.length vc9, .int .i64 cnt9, .int .i64 s9.wr, .bool s9.down] 31 _ (unhide HGh)
          have F5 := hide ((unhide HF9).keep bb5 (fun k hk e => (unhide HS9 k hk).2 e))
          have RV5 := hide ((unhide HRV9).keep bb5 (fun k hk e => (unhide HR9 k hk).2.1 e))
          have B5 := hide ((unhide B9).trans (bb5.below (bel_sz (unhide B9) (Nat.le_refl _)) (fun k e => by have e9 : k = hB := e; have := unhide HHB; omega)))
          have t0 : w5.cell? ⟨hB, 0, none⟩ = some (.int .i64 s9.size) := (by simpa using GH5.cell 0)
          have t1 : w5.cell? ⟨hB, 1, none⟩ = some (.slice fa9 s9.l0.length fc9) := (by simpa using GH5.cell 1)
          have t2 : w5.cell? ⟨hB, 2, none⟩ = some (.slice sa9 s9.l1.length sc9) := (by simpa using GH5.cell 2)
          have t3 : w5.cell? ⟨hB, 3, none⟩ = some (.slice va9 ar9.length vc9) := (by simpa using GH5.cell 3)
          have t4 : w5.cell? ⟨hB, 4, none⟩ = some (.int .i64 cnt9) := (by simpa using GH5.cell 4)
          have t5 : w5.cell? ⟨hB, 5, none⟩ = some (.int .i64 s9.wr) := (by simpa using GH5.cell 5)
          have t6 : w5.cell? ⟨hB, 6, none⟩ = some (.bool s9.down) := (by simpa using GH5.cell 6)
          have HG5 := hide GH5
          have hTo := told_any p S9 fa9 sa9 va9 fc9 sc9 vc9 s9 ar9 cnt9 w5 (unhide RV5) (unhide F5)
          clear GH5 bb5
          go_wp2_with (first
            | (refine wpList_store_row rfl 31 (.tmp 12) (.tmp 116) rfl hB #[.int .i64 s9.size, .slice fa9 s9.l0.length fc9, .slice sa9 s9.l1.length sc9, .slice va9 ar9.length vc9, .int .i64 cnt9, .int .i64 s9.wr, .bool s9.down] rfl rfl 31 _ (unhide HGh) Try.szF rfl (rv_one _ _ _ _ _ _ _ _ _ _ _ _ _) ?_; rw [hw5])
            | (go_at_call 9; refine hTo.mono ?_; rintro e w6' ⟨rfl, b6⟩; clear hTo; have F6 := hide ((unhide F5).later b6); have RV6 := hide ((unhide RV5).later b6); have HG6 := hide ((unhide HG5).later b6); have B6' := hide (bel_then (unhide B5) (bel_sz (unhide B5) (Nat.le_refl _)) b6); clear b6))
          go_roundw
          case rel => exact ⟨k + 1, by omega, by go_num, S9, s9, fa9, sa9, va9, fc9, sc9, vc9, ar9, cnt9, F6, RV6, H69, HG6, HS9, HR9, B6', hide (by have h8 := unhide HW4; have h9 := unhide HWR; omega)⟩
          case measure => simp [intOf]; omega
        · -- the box, then the call
          go_simp
          obtain ⟨wA, hwA⟩ : ∃ wA, (wr.alloc (.cells #[.int .i64 0, .slice none 0 0, .slice none 0 0, .slice none 0 0, .int .i64 0, .int .i64 0, .bool false] 31)).drew = wA := ⟨_, rfl⟩
          have GAA : Arr wA wr.heap.size 31 [.int .i64 0, .slice none 0 0, .slice none 0 0, .slice none 0 0, .int .i64 0, .int .i64 0, .bool false] := by rw [← hwA]; exact (Arr.new wr _ _).later (below_drewN (Below.refl _ _) 1)
          have bA : Below wr.heap.size wr wA := by rw [← hwA]; exact below_drewN (below_one wr _) 1
          have BA := bel_then (unhide B4) (bel_sz (unhide B4) (Nat.le_refl _)) bA
          rw [hwA]
          refine hK.out _ _ ⟨blk_rangeF ((unhide HG4).later bA), unhide HST5 _ BA⟩ (fun hHeld => ?_)
          clear hK K
          refine wpAnyH_ready (rs := [6]) (by kernel_rfl) (by simp) ?_
          refine AllReadyH.cons rfl (fun K hK => ?_) AllReadyH.nil
          have hBo := both_any p S4 fa4 sa4 va4 fc4 sc4 vc4 s4 ar4 cnt4 wA ((unhide HRV4).later bA) (unhide H64) ((unhide HF4).later bA) (fun k hk => (unhide HR4 k hk).2.2) bank x y d ((unhide HDq).later bA) (unhide HQn) (unhide HSq) (by have := unhide HW4; omega) kd
          rw [unhide HST] at hBo
          go_simp
          refine hBo.mono ?_
          rintro e w2 ⟨v, S9, rfl, G2, hRb⟩
          obtain ⟨fa9, sa9, va9, fc9, sc9, vc9, ar9, cnt9, hvv, hRV9, h69, hRO⟩ := hRb
          subst hvv
          clear hBo
          have GHh := G2.but.arr ((unhide HG4).later bA) (fun e => (unhide HS4 _ e).2 rfl)
          have hlS := (unhide HF4).lt
          have GA3 := G2.but.arr GAA (fun e => by have := hlS _ e; omega)
          have B2 := G2.bel BA (bel_sz BA (Nat.le_refl _)) (fun k hk => (unhide HS4 k hk).1)
          refine hK.out _ _ ⟨blk_rangeF GHh, unhide HST5 _ B2⟩ (fun hHeld => ?_)
          clear hK K
          refine wpAnyH_take (i := 7) (oi := _) (v := .tuple #[.agg #[.int .i64 s9.size, .slice fa9 s9.l0.length fc9, .slice sa9 s9.l1.length sc9, .slice va9 ar9.length vc9, .int .i64 cnt9, .int .i64 s9.wr, .bool s9.down], .bool true]) rfl (by kernel_rfl) (by kernel_rfl) (by kernel_rfl) (fun _ _ _ h => h) (Or.inl ⟨by rfl, fun w hSw => by go_simp⟩) hHeld ?_
          simp [Act.put]
          refine wpAnyH_take (i := 8) (oi := _) (v := .agg #[.int .i64 s9.size, .slice fa9 s9.l0.length fc9, .slice sa9 s9.l1.length sc9, .slice va9 ar9.length vc9, .int .i64 cnt9, .int .i64 s9.wr, .bool s9.down]) rfl (by kernel_rfl) (by kernel_rfl) (by kernel_rfl) (fun _ _ _ h => h) (Or.inl ⟨by rfl, fun w hSw => by go_simp⟩) hHeld ?_
          simp [Act.put]
          refine wpAnyH_take (i := 9) (oi := _) (v := .bool true) rfl (by kernel_rfl) (by kernel_rfl) (by kernel_rfl) (fun _ _ _ h => h) (Or.inl ⟨by rfl, fun w hSw => by go_simp⟩) hHeld ?_
          simp [Act.put]
          refine wpAnyH_ready (rs := [11]) (by kernel_rfl) (by simp) ?_
          refine AllReadyH.cons rfl (fun K hK => ?_) AllReadyH.nil
          refine step_store_row rfl 31 (.tmp 15) (.tmp 114) rfl wr.heap.size #[.int .i64 s9.size, .slice fa9 s9.l0.length fc9, .slice sa9 s9.l1.length sc9, .slice va9 ar9.length vc9, .int .i64 cnt9, .int .i64 s9.wr, .bool s9.down] rfl rfl 31 _ GA3 Try.szF rfl (rv_one _ _ _ _ _ _ _ _ _ _ _ _ _) ?_
          simp [Act.put]
          obtain ⟨w4, hw4⟩ : ∃ w4, w2.setRow wr.heap.size #[.int .i64 s9.size, .slice fa9 s9.l0.length fc9, .slice sa9 s9.l1.length sc9, .slice va9 ar9.length vc9, .int .i64 cnt9, .int .i64 s9.wr, .bool s9.down] = w4 := ⟨_, rfl⟩
          have bb4 : Buts (· = wr.heap.size) w2 w4 := by rw [← hw4]; exact Buts.of_but ((But.refl wr.heap.size w2).setRow _)
          have hbh := unhide HBh
          have hAz := GAA.lt
          have hwX := bel_sz (unhide B4) (Nat.le_refl _)
          have hlR := (unhide HRV4).lt
          have HGa : Hid (Arr w4 wr.heap.size 31 [.int .i64 s9.size, .slice fa9 s9.l0.length fc9, .slice sa9 s9.l1.length sc9, .slice va9 ar9.length vc9, .int .i64 cnt9, .int .i64 s9.wr, .bool s9.down]) := hide (by rw [← hw4]; exact setRow_heap w2 wr.heap.size _ #[.int .i64 s9.size, .slice fa9 s9.l0.length fc9, .slice sa9 s9.l1.length sc9, .slice va9 ar9.length vc9, .int .i64 cnt9, .int .i64 s9.wr, .bool s9.down] 31 _ GA3)
          have HGh : Hid (Arr w4 hB 31 [.int .i64 s4.size, .slice fa4 s4.l0.length fc4, .slice sa4 s4.l1.length sc4, .slice va4 ar4.length vc4, .int .i64 cnt4, .int .i64 s4.wr, .bool s4.down]) := hide (bb4.arr GHh (by omega))
          have B9 := hide (B2.trans (bb4.below (bel_sz B2 (Nat.le_refl _)) (fun k e => by have e9 : k = wr.heap.size := e; omega)))
          have HF9 := hide (G2.fl.keep bb4 (fun k hk e => by have e9 : k = wr.heap.size := e; rcases G2.at_ k hk with h | h; have := hlS k h; omega; omega))
          have HRV9 := hide (hRV9.keep bb4 (fun k hk e => by have e9 : k = wr.heap.size := e; rcases (hRO k hk).1 with h | h; have := hlR k h; omega; omega))
          have HS9 : Hid (∀ k, S9 k → w.heap.size ≤ k ∧ k ≠ hB) := hide (fun k hk => (G2.at_ k hk).elim (fun h => unhide HS4 k h) (fun h => ⟨by omega, by omega⟩))
          have HR9 : Hid (∀ k, RSet (.slice fa9 s9.l0.length fc9) (.slice sa9 s9.l1.length sc9) (.slice va9 ar9.length vc9) k → w.heap.size ≤ k ∧ k ≠ hB ∧ ¬ S9 k) := hide (fun k hk => by
            have h8 := hRO k hk
            rcases h8.1 with h | h
            · have h7 := unhide HR4 k h; exact ⟨h7.1, h7.2.1, h8.2⟩
            · exact ⟨by omega, by omega, h8.2⟩)
          have H69 := hide h69
          rw [hw4]
          refine hK.out _ _ ⟨blk_rangeF (unhide HGh), unhide HST5 _ (unhide B9)⟩ (fun hHeld => ?_)
          clear hK K
          refine wpAnyH_take (i := 12) (oi := _) (v := .bool true) rfl (by kernel_rfl) (by kernel_rfl) (by kernel_rfl) (fun _ _ _ h => h) (Or.inl ⟨by rfl, fun w hSw => by go_simp⟩) hHeld ?_
          simp [Act.put]
          refine wpAnyH_done (by kernel_rfl) ?_ _
          unfold NoPanic
          obtain ⟨a, hha⟩ : ∃ a, wr.heap.size = a := ⟨_, rfl⟩
          rw [hha] at HGa ⊢
          clear hHeld G2 hRV9 h69 hRO bb4 hw4 GA3 GAA bA BA hwA B2 GHh hwX hbh hha hAz hlS hlR bd BX
          have y0 : w4.cell? ⟨a, 0, none⟩ = some (.int .i64 s9.size) := (by simpa using (unhide HGa).cell 0)
          have y1 : w4.cell? ⟨a, 1, none⟩ = some (.slice fa9 s9.l0.length fc9) := (by simpa using (unhide HGa).cell 1)
          have y2 : w4.cell? ⟨a, 2, none⟩ = some (.slice sa9 s9.l1.length sc9) := (by simpa using (unhide HGa).cell 2)
          have y3 : w4.cell? ⟨a, 3, none⟩ = some (.slice va9 ar9.length vc9) := (by simpa using (unhide HGa).cell 3)
          have y4 : w4.cell? ⟨a, 4, none⟩ = some (.int .i64 cnt9) := (by simpa using (unhide HGa).cell 4)
          have y5 : w4.cell? ⟨a, 5, none⟩ = some (.int .i64 s9.wr) := (by simpa using (unhide HGa).cell 5)
          have y6 : w4.cell? ⟨a, 6, none⟩ = some (.bool s9.down) := (by simpa using (unhide HGa).cell 6)
          obtain ⟨w5, hw5⟩ : ∃ w5, w4.setRow hB #[.int .i64 s9.size, .slice fa9 s9.l0.length fc9, .slice sa9 s9.l1.length sc9, .slice va9 ar9.length vc9, .int .i64 cnt9, .int .i64 s9.wr, .bool s9.down] = w5 := ⟨_, rfl⟩
          have bb5 : Buts (· = hB) w4 w5 := by rw [← hw5]; exact Buts.of_but ((But.refl hB w4).setRow _)
          have GH5 : Arr w5 hB 31 [.int .i64 s9.size, .slice fa9 s9.l0.length fc9, .slice sa9 s9.l1.length sc9, .slice va9 ar9.length vc9, .int .i64 cnt9, .int .i64 s9.wr, .bool s9.down] := by rw [← hw5]; exact setRow_heap w4 hB _ #[.int .i64 s9.size, .slice fa9 s9.l0.length fc9, .slice sa9 s9.l1.length sc9, .slice va9 ar9.length vc9, .int .i64 cnt9, .int .i64 s9.wr, .bool s9.down] 31 _ (unhide HGh)
          have F5 := hide ((unhide HF9).keep bb5 (fun k hk e => (unhide HS9 k hk).2 e))
          have RV5 := hide ((unhide HRV9).keep bb5 (fun k hk e => (unhide HR9 k hk).2.1 e))
          have B5 := hide ((unhide B9).trans (bb5.below (bel_sz (unhide B9) (Nat.le_refl _)) (fun k e => by have e9 : k = hB := e; have := unhide HHB; omega)))
          have t0 : w5.cell? ⟨hB, 0, none⟩ = some (.int .i64 s9.size) := (by simpa using GH5.cell 0)
          have t1 : w5.cell? ⟨hB, 1, none⟩ = some (.slice fa9 s9.l0.length fc9) := (by simpa using GH5.cell 1)
          have t2 : w5.cell? ⟨hB, 2, none⟩ = some (.slice sa9 s9.l1.length sc9) := (by simpa using GH5.cell 2)
          have t3 : w5.cell? ⟨hB, 3, none⟩ = some (.slice va9 ar9.length vc9) := (by simpa using GH5.cell 3)
          have t4 : w5.cell? ⟨hB, 4, none⟩ = some (.int .i64 cnt9) := (by simpa using GH5.cell 4)
          have t5 : w5.cell? ⟨hB, 5, none⟩ = some (.int .i64 s9.wr) := (by simpa using GH5.cell 5)
          have t6 : w5.cell? ⟨hB, 6, none⟩ = some (.bool s9.down) := (by simpa using GH5.cell 6)
          have HG5 := hide GH5
          have hTo := told_any p S9 fa9 sa9 va9 fc9 sc9 vc9 s9 ar9 cnt9 w5 (unhide RV5) (unhide F5)
          clear GH5 bb5
          go_wp2_with (first
            | (refine wpList_store_row rfl 31 (.tmp 12) (.tmp 116) rfl hB #[.int .i64 s9.size, .slice fa9 s9.l0.length fc9, .slice sa9 s9.l1.length sc9, .slice va9 ar9.length vc9, .int .i64 cnt9, .int .i64 s9.wr, .bool s9.down] rfl rfl 31 _ (unhide HGh) Try.szF rfl (rv_one _ _ _ _ _ _ _ _ _ _ _ _ _) ?_; rw [hw5])
            | (go_at_call 9; refine hTo.mono ?_; rintro e w6' ⟨rfl, b6⟩; clear hTo; have F6 := hide ((unhide F5).later b6); have RV6 := hide ((unhide RV5).later b6); have HG6 := hide ((unhide HG5).later b6); have B6' := hide (bel_then (unhide B5) (bel_sz (unhide B5) (Nat.le_refl _)) b6); clear b6))
          go_roundw
          case rel => exact ⟨k + 1, by omega, by go_num, S9, s9, fa9, sa9, va9, fc9, sc9, vc9, ar9, cnt9, F6, RV6, H69, HG6, HS9, HR9, B6', hide (by have h8 := unhide HW4; have h9 := unhide HWR; omega)⟩
          case measure => simp [intOf]; omega
      · have hkz : ¬ (k : Int) < (sp.n : Int) := by omega
        go_wp2
        go_ret
        exact ⟨rfl, unhide B4⟩
end Go.Proofs.Ytcdmomdajakocaa
