import Derived.Test.YtibebhlblmdcgaaQRsS
set_option linter.unusedSimpArgs false
set_option linter.unusedVariables false
namespace Go.Proofs.Ytibebhlblmdcgaa
open Go.RowKit

/-- a mark -/
def mkE (i : Int) : Ent := { zEnt with idx := i }
theorem mkE_ok (i : Int) : (mkE i).Ok := ⟨zEnt_ok.cert, zEnt_ok.val, zEnt_ok.fs, zEnt_ok.rs⟩
theorem b_ei (i : Int) : Try.prog.built 45 [(1, .int .i64 i)] = some (eC (mkE i)).toArray := by
  rw [Try.bE, fill_pt (p' := [.int .i64 i]) rfl rfl (pt_idx zEnt_ok i)]
  rfl
def mks : List Ent := [mkE (-7), mkE (-8), mkE (-9)]
theorem flat_e : ∀ es : List Ent, ((es.map fun e => aV (eC e)).flatMap cellsL) = es.flatMap eC
  | [] => rfl
  | s :: t => by
    have h := flat_e t
    rw [List.map_cons, List.flatMap_cons, h, List.flatMap_cons]
    congr 1
/-- a slice of entries -/
theorem op_bsE {o : Oper} {a : Act} {w w0 : World} {k : Act → World → Prop} {Q : Exit → Act → World → Prop} {rows : List Row} {K : World → Prop} (es : List Ent) (hp0 : 0 < es.length) (hp1 : es.length ≤ 1000) (he : ∀ e ∈ es, e.Ok) (n : Nat) (hn : n = es.length) (os : Array (Nat × Operand)) (ho : o.op = .buildSlice 28 n os) (hos : os.toList.map (fun p => (p.1, a.eval p.2)) = prts (es.map fun e => aV (eC e)) 0) (hS : Hs17 w0 rows K w)
    (h : ∀ g w', Hs17 w0 ((g, 45, es.flatMap eC) :: rows) K w' → k (a.put o.dst (.slice (some ⟨g, 0, none⟩) es.length es.length)) w') : o.wp Try.prog a w k Q := by
  subst hn
  obtain ⟨i, hi, hz, hs, -⟩ := infoE3
  have hr := run_bsG (P := Try.prog) w 28 45 i _ (es.map fun e => aV (eC e)) 262 Try.underlying28 hi hs hz (fun v hv => by simp at hv; obtain ⟨s, hs, rfl⟩ := hv; simp [aV, Value.cells, eC_len (he s hs)]) (by simp; omega) (by simp; omega)
  rw [flat_e, List.length_map] at hr
  have hr' : (Instr.buildSlice 28 es.length (os.map fun p => (p.1, a.eval p.2))).run Try.prog w = .ok (.slice (some ⟨w.heap.size, 0, none⟩) es.length es.length) (w.alloc (.cells (es.flatMap eC).toArray 45)) := by
    have e : (os.map fun p => (p.1, a.eval p.2)) = (prts (es.map fun e => aV (eC e)) 0).toArray := by
      apply Array.ext'; rw [Array.toList_map, hos]
    rw [e]; exact hr
  unfold Oper.wp
  simp [execOp, ho, hr', Result.andThen]
  exact h _ _ (hS.alloc 45 (es.flatMap eC))
theorem flatE_at : ∀ (es : List Ent), (∀ e ∈ es, e.Ok) → ∀ (i : Nat) (x : Ent), es[i]? = some x → At (es.flatMap eC) (i * 262) (eC x)
  | [], _, i, x, h => by simp at h
  | y :: t, he, 0, x, h => by simp at h; subst h; exact ⟨[], _, rfl, by simp⟩
  | y :: t, he, i + 1, x, h => by
    obtain ⟨p, q, h1, h2⟩ := flatE_at t (fun e h => he e (by simp [h])) i x (by simpa using h)
    refine ⟨eC y ++ p, q, by rw [List.flatMap_cons, h1]; simp, by rw [List.length_append, eC_len (he y (by simp)), h2]; omega⟩
theorem es_row {w w0 : World} {rows : List Row} {K : World → Prop} {g : Nat} {t : TypeId} {es : List Ent} (hS : Hs17 w0 ((g, t, es.flatMap eC) :: rows) K w) (he : ∀ e ∈ es, e.Ok) (hn : es.length ≤ 1000) : Es w ⟨some ⟨g, 0, none⟩, es.length, es.length, es⟩ := by
  have hA := hS.get 0 rfl
  refine ⟨⟨rfl, Nat.le_refl _, by show es.length ≤ maxLen; unfold maxLen; omega, (fun h => by cases h), fun _ => ⟨g, 0, rfl, hA.lt, fun i x hi => ?_⟩⟩, he⟩
  rw [Nat.zero_add]
  exact (flatE_at es he i x hi).range hA
theorem mks_ok : ∀ e ∈ mks, e.Ok := fun e h => by simp [mks] at h; rcases h with rfl | rfl | rfl <;> exact mkE_ok _
theorem Oe.form {w : World} {base : Nat} {v : Value} {xs : List Ent} (h : Oe w base v xs) (hn : 0 < xs.length) : ∃ g c, v = .slice (some ⟨g, 0, none⟩) xs.length c ∧ base ≤ g ∧ g < w.heap.size ∧ xs.length ≤ c ∧ c ≤ maxLen := by
  rcases h.own.2 with ⟨-, h2⟩ | ⟨g, c, cur, h1, h2, h3, h4, h5, -⟩
  · omega
  · exact ⟨g, c, h1, h2, (h.own.lt g (by rw [h1]; rfl)).2, h4, h5⟩
theorem ex_cutV {o : Oper} {a : Act} {w : World} (x y : Operand) (ho : o.op = .slice 28 x none (some y) none) (g m c i : Nat) (hi : i ≤ c) (hc : 0 < c) (hx : a.eval x = .slice (some ⟨g, 0, none⟩) m c) (hy : a.eval y = .int .i64 i) : (execOp a.eval o).run Try.prog w = .ok (.value (.slice (some ⟨g, 0, none⟩) i c)) w := by
  have := ex_upto (w := w) x y ho ⟨some ⟨g, 0, none⟩, m, c, []⟩ i hi hx hy
  have hc' : ¬ c = 0 := by omega
  simpa [Sx.upto, Sx.v, Addr.add, hc'] using this
/-- what marked makes: the rows, with marks behind them -/
def Mkd (f : Flr) (acc : Int) (s : Sx Ent) (w : World) (r : Ending) (w' : World) : Prop :=
  ∃ g c, r = .returned (aV (gC f acc (.slice (some ⟨g, 0, none⟩) s.n c))) ∧ Oe w' w.heap.size (.slice (some ⟨g, 0, none⟩) (s.n + 3) c) (s.xs ++ mks) ∧ Below w.heap.size w w'
end Go.Proofs.Ytibebhlblmdcgaa
