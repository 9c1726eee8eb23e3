import Derived.Test.YtebaiaghbfbgmaaRsS
set_option linter.unusedSimpArgs false
set_option linter.unusedVariables false
namespace Go.Proofs.Ytebaiaghbfbgmaa
open Go.RowKit

/-- a mark -/
def mkE (i : Int) : Ent := { zEnt with idx := i }
theorem mkE_ok (i : Int) : (mkE i).Ok := ⟨zEnt_ok.cert, zEnt_ok.val, zEnt_ok.fs, zEnt_ok.rs⟩
theorem b_ei (i : Int) : Try.prog.built 37 [(1, .int .i64 i)] = some (eC (mkE i)).toArray := by
  rw [Try.bE, fill_pt (p' := [.int .i64 i]) rfl rfl (pt_idx zEnt_ok i)]
  rfl
def mks : List Ent := [mkE (-7), mkE (-8), mkE (-9)]
theorem flat_e : ∀ es : List Ent, ((es.map fun e => aV (eC e)).flatMap cellsL) = es.flatMap eC
  | [] => rfl
  | s :: t => by
    have h := flat_e t
    rw [List.map_cons, List.flatMap_cons, h, List.flatMap_cons]
    congr 1
/-- a slice of entries -/
theorem op_bsE {o : Oper} {a : Act} {w w0 : World} {k : Act → World → Prop} {Q : Exit → Act → World → Prop} {rows : List Row} {K : World → Prop} (es : List Ent) (hp0 : 0 < es.length) (hp1 : es.length ≤ 1000) (he : ∀ e ∈ es, e.Ok) (n : Nat) (hn : n = es.length) (os : Array (Nat × Operand)) (ho : o.op = .buildSlice 27 n os) (hos : os.toList.map (fun p => (p.1, a.eval p.2)) = prts (es.map fun e => aV (eC e)) 0) (hS : Hs17 w0 rows K w)
    (h : ∀ g w', Hs17 w0 ((g, 37, es.flatMap eC) :: rows) K w' → k (a.put o.dst (.slice (some ⟨g, 0, none⟩) es.length es.length)) w') : o.wp Try.prog a w k Q := by
  subst hn
  obtain ⟨i, hi, hz, hs, -⟩ := infoE3
  have hr := run_bsG (P := Try.prog) w 27 37 i _ (es.map fun e => aV (eC e)) 262 Try.underlying27 hi hs hz (fun v hv => by simp at hv; obtain ⟨s, hs, rfl⟩ := hv; simp [aV, Value.cells, eC_len (he s hs)]) (by simp; omega) (by simp; omega)
  rw [flat_e, List.length_map] at hr
  have hr' : (Instr.buildSlice 27 es.length (os.map fun p => (p.1, a.eval p.2))).run Try.prog w = .ok (.slice (some ⟨w.heap.size, 0, none⟩) es.length es.length) (w.alloc (.cells (es.flatMap eC).toArray 37)) := by
    have e : (os.map fun p => (p.1, a.eval p.2)) = (prts (es.map fun e => aV (eC e)) 0).toArray := by
      apply Array.ext'; rw [Array.toList_map, hos]
    rw [e]; exact hr
  unfold Oper.wp
  simp [execOp, ho, hr', Result.andThen]
  exact h _ _ (hS.alloc 37 (es.flatMap eC))
theorem flatE_at : ∀ (es : List Ent), (∀ e ∈ es, e.Ok) → ∀ (i : Nat) (x : Ent), es[i]? = some x → At (es.flatMap eC) (i * 262) (eC x)
  | [], _, i, x, h => by simp at h
  | y :: t, he, 0, x, h => by simp at h; subst h; exact ⟨[], _, rfl, by simp⟩
  | y :: t, he, i + 1, x, h => by
    obtain ⟨p, q, h1, h2⟩ := flatE_at t (fun e h => he e (by simp [h])) i x (by simpa using h)
    refine ⟨eC y ++ p, q, by rw [List.flatMap_cons, h1]; simp, by rw [List.length_append, eC_len (he y (by simp)), h2]; omega⟩
theorem es_row {w w0 : World} {rows : List Row} {K : World → Prop} {g : Nat} {t : TypeId} {es : List Ent} (hS : Hs17 w0 ((g, t, es.flatMap eC) :: rows) K w) (he : ∀ e ∈ es, e.Ok) (hn : es.length ≤ 1000) : Es w ⟨some ⟨g, 0, none⟩, es.length, es.length, es⟩ := by
  have hA := hS.get 0 rfl
  refine ⟨⟨rfl, Nat.le_refl _, by show es.length ≤ maxLen; unfold maxLen; omega, (fun h => by cases h), fun _ => ⟨g, 0, rfl, hA.lt, fun i x hi => ?_⟩⟩, he⟩
  rw [Nat.zero_add]
  exact (flatE_at es he i x hi).range hA
theorem mks_ok : ∀ e ∈ mks, e.Ok := fun e h => by simp [mks] at h; rcases h with rfl | rfl | rfl <;> exact mkE_ok _
theorem Oe.form {w : World} {base : Nat} {v : Value} {xs : List Ent} (h : Oe w base v xs) (hn : 0 < xs.length) : ∃ g c, v = .slice (some ⟨g, 0, none⟩) xs.length c ∧ base ≤ g ∧ g < w.heap.size ∧ xs.length ≤ c ∧ c ≤ maxLen := by
  rcases h.own.2 with ⟨-, h2⟩ | ⟨g, c, cur, h1, h2, h3, h4, h5, -⟩
  · omega
  · exact ⟨g, c, h1, h2, (h.own.lt g (by rw [h1]; rfl)).2, h4, h5⟩
theorem ex_cutV {o : Oper} {a : Act} {w : World} (x y : Operand) (ho : o.op = .slice 27 x none (some y) none) (g m c i : Nat) (hi : i ≤ c) (hc : 0 < c) (hx : a.eval x = .slice (some ⟨g, 0, none⟩) m c) (hy : a.eval y = .int .i64 i) : (execOp a.eval o).run Try.prog w = .ok (.value (.slice (some ⟨g, 0, none⟩) i c)) w := by
  have := ex_upto (w := w) x y ho ⟨some ⟨g, 0, none⟩, m, c, []⟩ i hi hx hy
  have hc' : ¬ c = 0 := by omega
  simpa [Sx.upto, Sx.v, Addr.add, hc'] using this
/-- what marked makes: the rows, with marks behind them -/
def Mkd (f : Flr) (acc : Int) (s : Sx Ent) (w : World) (r : Ending) (w' : World) : Prop :=
  ∃ g c, r = .returned (aV (gC f acc (.slice (some ⟨g, 0, none⟩) s.n c))) ∧ Oe w' w.heap.size (.slice (some ⟨g, 0, none⟩) (s.n + 3) c) (s.xs ++ mks) ∧ Below w.heap.size w w'
set_option maxHeartbeats 4000000 in
set_option maxRecDepth 100000 in
theorem marked_any (f : Flr) (acc : Int) (s : Sx Ent) (w : World) (hf : f.Ok) (hs : Es w s) (hbd : (s.n + 3) * 296 ≤ 140737488355328) :
    Calls Try.prog 7 #[aV (gC f acc s.v)] w (Mkd f acc s w) := by
  have hS := Hs17.begin w (fun w' => Es w' s) (fun w' ho => hs.old ho)
  have hlen := hs.ok.len
  have HL := hide hlen
  clear hs hlen
  go_enter Try.func7, Try.ntmps7
  go_upto_region 0 with fail
  refine wp_region_lit ?_
  refine wl_box (by kernel_rfl) 29 (.tmp 0) rfl (gC f acc (Sx.v s)) rfl hS ?_
  clear hS
  intro g1 w1 hS
  simp [Act.put]
  refine wl_alloc (by kernel_rfl) 29 rfl (gC zFlr 0 nilS) Try.inG hS ?_
  clear hS
  intro g2 w2 hS
  simp [Act.put]
  refine wpList_nil ?_
  go_upto_region 2 with fail
  refine wp_region_lit ?_
  refine wl (by kernel_rfl) fun kQ hkQ => ?_
  go_simp
  refine hkQ _ _ ?_
  clear hkQ kQ
  refine wl (by kernel_rfl) fun kQ hkQ => ?_
  go_simp
  refine hkQ _ _ ?_
  clear hkQ kQ
  refine wl_load1 (by kernel_rfl) 27 (.tmp 5) rfl 1 rfl 66 rfl ((Sx.v s)) (at_gr hf acc (Sx.v s)) Try.underlying27 rfl hS ?_
  simp [Act.put]
  refine wl_append (by kernel_rfl) (.tmp 4) (.tmp 6) rfl rfl (Oe.nil w2 w2.heap.size) s hS.K rfl (by simp; omega) (Nat.le_refl _) ?_
  intro v1 w1' hO1 hg1
  have hb1 : Below w2.heap.size w2 w1' := (Oe.nil w2 w2.heap.size).bel hg1 (Nat.le_refl _) (Nat.le_refl _)
  rw [List.nil_append] at hO1
  simp [Act.put]
  refine wl (by kernel_rfl) fun kQ hkQ => ?_
  go_simp
  refine hkQ _ _ ?_
  clear hkQ kQ
  refine wpList_nil ?_
  have hT := Hs17.begin w1' (fun w' => Oe w' w2.heap.size v1 s.xs) (fun w' ho => hO1.old ho)
  have HB1 := hide hb1
  have HS2 := hide hS
  clear hO1 hg1 hb1 hS
  go_upto_region 3 with fail
  refine wp_region_lit ?_
  refine wl (by kernel_rfl) fun kQ hkQ => ?_
  go_simp
  refine hkQ _ _ ?_
  clear hkQ kQ
  refine wv (aV (eC (mkE (-7)))) (by kernel_rfl) (ex_build 37 #[(1, .const (.int .i64 (-7)))] rfl (eC (mkE (-7))) (b_ei (-7)) rfl) ?_
  simp [Act.put]
  refine wv (aV (eC (mkE (-8)))) (by kernel_rfl) (ex_build 37 #[(1, .const (.int .i64 (-8)))] rfl (eC (mkE (-8))) (b_ei (-8)) rfl) ?_
  simp [Act.put]
  refine wv (aV (eC (mkE (-9)))) (by kernel_rfl) (ex_build 37 #[(1, .const (.int .i64 (-9)))] rfl (eC (mkE (-9))) (b_ei (-9)) rfl) ?_
  simp [Act.put]
  refine wl (by kernel_rfl) fun kQ hkQ => ?_
  refine op_bsE mks (by simp [mks]) (by simp [mks]) mks_ok 3 rfl #[(0, .tmp 9), (1, .tmp 10), (2, .tmp 11)] rfl rfl hT ?_
  clear hT
  intro g9 w9 hT
  refine hkQ _ _ ?_
  clear hkQ kQ
  simp [Act.put]
  refine wl_append (by kernel_rfl) (.tmp 8) (.tmp 12) rfl rfl hT.K ⟨some ⟨g9, 0, none⟩, mks.length, mks.length, mks⟩ (es_row hT mks_ok (by simp [mks])) rfl (by have := unhide HL; simp only [mks, List.length_cons, List.length_nil]; omega) (Nat.le_trans (unhide HB1).size hT.bel.size) ?_
  intro v2 w3' hO3 hg3
  have hb3 : Below w2.heap.size w2 w3' := ((unhide HB1).trans (hT.bel.mono (unhide HB1).size)).trans (hT.K.bel hg3 (Nat.le_refl _) (Nat.le_trans (unhide HB1).size hT.bel.size))
  simp [Act.put]
  refine wl (by kernel_rfl) fun kQ hkQ => ?_
  go_simp
  refine hkQ _ _ ?_
  clear hkQ kQ
  refine wpList_nil ?_
  have hS := (unhide HS2).own hb3 hO3
  obtain ⟨g7, c7, hv2, hg7, -, hc7, hm7⟩ := hO3.form (by simp [mks])
  clear HS2 hT hg3 hb3 hO3
  have hl3 : (s.xs ++ mks).length = s.n + 3 := by rw [List.length_append, unhide HL]; rfl
  rw [hl3] at hv2 hc7
  subst hv2
  clear hg7 hl3
  go_upto_region 4 with fail
  refine wp_region_lit ?_
  refine wl (by kernel_rfl) fun kQ hkQ => ?_
  go_simp
  refine hkQ _ _ ?_
  clear hkQ kQ
  refine wl (by kernel_rfl) fun kQ hkQ => ?_
  go_simp
  refine hkQ _ _ ?_
  clear hkQ kQ
  refine wl_load1 (by kernel_rfl) 27 (.tmp 15) rfl 1 rfl 66 rfl ((Sx.v s)) (at_gr hf acc (Sx.v s)) Try.underlying27 rfl hS ?_
  simp [Act.put]
  refine wv (.int .i64 (s.n : Int)) (by kernel_rfl) (by unfold Sx.v; go_simp) ?_
  simp [Act.put]
  refine wv (.slice (some ⟨g7, 0, none⟩) s.n c7) (by kernel_rfl) (ex_cutV (.tmp 14) (.tmp 17) rfl g7 (s.n + 3) c7 s.n (by omega) (by omega) rfl rfl) ?_
  simp [Act.put]
  refine wl (by kernel_rfl) fun kQ hkQ => ?_
  go_simp
  refine hkQ _ _ ?_
  clear hkQ kQ
  refine wl_store (by kernel_rfl) 27 (.tmp 19) (.tmp 18) rfl 1 rfl 66 rfl [(.slice (some ⟨g7, 0, none⟩) s.n c7)] (gC f acc (.slice (some ⟨g7, 0, none⟩) s.n c7)) (pt_gr hf acc (Sx.v s) (.slice (some ⟨g7, 0, none⟩) s.n c7)) rfl Try.in1s (one_one rfl) hS ?_
  clear hS
  intro w51 hS
  change Hs17 w [(g2, 29, (gC zFlr 0 nilS)), (g1, 29, (gC f acc (.slice (some ⟨g7, 0, none⟩) s.n c7)))] _ w51 at hS
  simp [Act.put]
  refine wpList_nil ?_
  go_upto_region 5 with fail
  refine wp_region_lit ?_
  refine wl_load (by kernel_rfl) 29 (.tmp 1) rfl 1 rfl 0 rfl (gC f acc (.slice (some ⟨g7, 0, none⟩) s.n c7)) (At.self _) Try.underlying29 rfl (szG hf _ _) hS ?_
  simp [Act.put]
  refine wl_store (by kernel_rfl) 29 (.tmp 2) (.tmp 20) rfl 0 rfl 0 rfl (gC f acc (.slice (some ⟨g7, 0, none⟩) s.n c7)) (gC f acc (.slice (some ⟨g7, 0, none⟩) s.n c7)) (pt_g zFlr_ok hf 0 acc nilS (.slice (some ⟨g7, 0, none⟩) s.n c7)) rfl (szG hf _ _) (one_g _ _ rfl) hS ?_
  clear hS
  intro w52 hS
  change Hs17 w [(g2, 29, (gC f acc (.slice (some ⟨g7, 0, none⟩) s.n c7))), (g1, 29, (gC f acc (.slice (some ⟨g7, 0, none⟩) s.n c7)))] _ w52 at hS
  simp [Act.put]
  refine wpList_nil ?_
  go_wp2
  refine bodyPost_ret (res_c rfl hS 0 rfl rfl Try.underlying29 rfl (szG hf _ _)) rfl ?_
  exact ⟨g7, c7, rfl, hS.K.2, hS.bel⟩
end Go.Proofs.Ytebaiaghbfbgmaa
