import Derived.Test.YtibebhlblmdcgaaQCcW
import Derived.Test.YtibebhlblmdcgaaQGaC
set_option linter.unusedSimpArgs false
set_option linter.unusedVariables false
namespace Go.Proofs.Ytibebhlblmdcgaa
open Go.RowKit

theorem Hs17.start1 (w0 : World) (K : World → Prop) (h : ∀ w', Below w0.heap.size w0 w' ∨ (w0.heap.size ≤ w'.heap.size ∧ ∀ k, k < w0.heap.size → w'.heap[k]? = w0.heap[k]?) → K w') : Hs17 w0 [] K w0 :=
  ⟨by simp, (fun p hp => by cases hp), (fun p hp => by cases hp), Below.refl _ _, fun w' h1 h2 => h w' (.inr ⟨h1, fun k hk => h2 k hk (fun p hp => by cases hp)⟩)⟩
/-- all below is as it was -/
structure Old (w w' : World) : Prop where
  size : w.heap.size ≤ w'.heap.size
  block : ∀ k, k < w.heap.size → w'.heap[k]? = w.heap[k]?
theorem Old.of {w w' : World} (h : Below w.heap.size w w') : Old w w' := ⟨h.size, h.block⟩
theorem Hs17.begin (w0 : World) (K : World → Prop) (h : ∀ w', Old w0 w' → K w') : Hs17 w0 [] K w0 :=
  ⟨by simp, (fun p hp => by cases hp), (fun p hp => by cases hp), Below.refl _ _, fun w' h1 h2 => h w' ⟨h1, fun k hk => h2 k hk (fun p hp => by cases hp)⟩⟩
theorem Es.old {w w' : World} {s : Sx Ent} (h : Es w s) (ho : Old w w') : Es w' s := h.keep ho.size (fun _ x _ hx => ho.block _ hx)
theorem own_blk {w w' : World} {base e sz n : Nat} {v : Value} {xs : List Value} (h : w.ownsRow base e sz v n xs) (hb : ∀ g, v.ownBlock = some g → w'.heap[g]? = w.heap[g]?) : w'.ownsRow base e sz v n xs := by
  refine ⟨h.1, ?_⟩
  rcases h.2 with h2 | ⟨g, cap, cur, h1, h2, h3, h4⟩
  · exact .inl h2
  · exact .inr ⟨g, cap, cur, h1, h2, (hb g (by rw [h1]; rfl)).trans h3, h4⟩
theorem own_lt {w : World} {base e sz n : Nat} {v : Value} {xs : List Value} (h : w.ownsRow base e sz v n xs) {g : Nat} (hg : v.ownBlock = some g) : base ≤ g ∧ g < w.heap.size := h.lt g hg
theorem Oe.old {w w' : World} {base : Nat} {v : Value} {xs : List Ent} (h : Oe w base v xs) (ho : Old w w') : Oe w' base v xs := ⟨own_blk h.own (fun g hg => ho.block g (own_lt h.own hg).2), h.e⟩
theorem Arr.old {w w' : World} {g : Nat} {t : TypeId} {l : List Value} (h : Arr w g t l) (ho : Old w w') : Arr w' g t l := (ho.block g h.lt).trans h
/-- a call that makes a row of entries -/
theorem Hs17.own {w0 w w' : World} {rows : List Row} {K : World → Prop} {v : Value} {xs : List Ent} (hS : Hs17 w0 rows K w) (hb : Below w.heap.size w w') (hO : Oe w' w.heap.size v xs) : Hs17 w0 rows (fun w => K w ∧ Oe w w0.heap.size v xs) w' := by
  refine (hS.later hb).also (fun w'' h1 h2 => ?_)
  refine ⟨own_monoG (own_blk hO.own (fun g hg => h2 g (own_lt hO.own hg).2 (fun p hp e => ?_))) hS.bel.size, hO.e⟩
  have h3 := (hS.arr p hp).lt
  have h4 := (own_lt hO.own hg).1
  omega
section
variable {P : Program} {o : Oper} {a : Act} {w : World}
theorem ex_loadR (t : TypeId) (x : Operand) (ho : o.op = .load t x) (g off : Nat) (hx : a.eval x = .pointer (some ⟨g, off, none⟩)) (p : List Value) (hr : w.rangeAt g off p) {d : TypeDesc} (hu : P.underlying t = some d) (hd : d.isRow = true) (hz : (P.info? t).map (·.size) = some p.length) :
    (execOp a.eval o).run P w = .ok (.value (aV p)) w := by
  unfold execOp
  simp only [ho, hx, Instr.loadAt, Instr.sureAddr, Sem.run_bind, Sem.run_pure, Result.andThen_ok, run_loadVar_mid w g off t p d hr hu hd hz]
  rfl
end
/-- the k-th of them -/
theorem Es.at_ {w : World} {s : Sx Ent} (h : Es w s) {k : Nat} (hk : k < s.n) : ∃ e b off, s.xs[k]? = some e ∧ e.Ok ∧ s.a = some ⟨b, off, none⟩ ∧ b < w.heap.size ∧ w.rangeAt b (off + k * 262) (eC e) := by
  have hl := h.ok.len
  have hg : s.xs[k]? = some (s.xs[k]'(by omega)) := List.getElem?_eq_getElem (by omega)
  obtain ⟨b, off, e, hb, hr⟩ := h.ok.at_ hg
  exact ⟨_, b, off, hg, h.e _ (List.mem_of_getElem? hg), e, hb, hr⟩
theorem rangeAt_old {w w' : World} {b o : Nat} {cs : List Value} (h : w.rangeAt b o cs) (hb : b < w.heap.size) (ho : Old w w') : w'.rangeAt b o cs := rangeAt_blk h (ho.block b hb)
/-- a slice of one entry -/
theorem op_bs1 {o : Oper} {a : Act} {w w0 : World} {k : Act → World → Prop} {Q : Exit → Act → World → Prop} {rows : List Row} {K : World → Prop} (t : TypeId) (x : Operand) (ho : o.op = .buildSlice 28 1 #[(0, x)]) (e : Ent) (he : e.Ok) (hx : a.eval x = aV (eC e)) (hS : Hs17 w0 rows K w)
    (h : ∀ g w', Hs17 w0 ((g, 45, eC e) :: rows) K w' → k (a.put o.dst (.slice (some ⟨g, 0, none⟩) 1 1)) w') : o.wp Try.prog a w k Q := by
  obtain ⟨i, hi, hz, hs, -⟩ := infoE3
  have hr := run_bsG (P := Try.prog) w 28 45 i _ [aV (eC e)] 262 Try.underlying28 hi hs hz (fun v hv => by simp at hv; subst hv; simp [aV, Value.cells, eC_len he]) (by simp) (by simp)
  have hc : ([aV (eC e)].flatMap cellsL) = eC e := by simp [cellsL, aV, Value.cells]
  rw [hc] at hr
  have hr' : (Instr.buildSlice 28 1 ((#[((0 : Nat), x)]).map fun p => (p.1, a.eval p.2))).run Try.prog w = .ok (.slice (some ⟨w.heap.size, 0, none⟩) 1 1) (w.alloc (.cells (eC e).toArray 45)) := by
    simp only [List.map_toArray, List.map_cons, List.map_nil, hx]
    exact hr
  unfold Oper.wp
  simp [execOp, ho, Result.andThen]
  simp at hr'
  rw [hr']
  exact h _ _ (hS.alloc 45 (eC e))
theorem es_one {w w0 : World} {rows : List Row} {K : World → Prop} {g : Nat} {t : TypeId} {e : Ent} (hS : Hs17 w0 ((g, t, eC e) :: rows) K w) (he : e.Ok) : Es w ⟨some ⟨g, 0, none⟩, 1, 1, [e]⟩ := by
  have hA := hS.get 0 rfl
  refine ⟨⟨rfl, Nat.le_refl _, by show 1 ≤ maxLen; unfold maxLen; omega, (fun h => by cases h), fun _ => ⟨g, 0, rfl, hA.lt, fun i x hi => ?_⟩⟩, fun x hx => by simp at hx; subst hx; exact he⟩
  cases i with
  | zero => simp at hi; subst hi; simpa using (At.self _).range hA
  | succ i => simp at hi
end Go.Proofs.Ytibebhlblmdcgaa
