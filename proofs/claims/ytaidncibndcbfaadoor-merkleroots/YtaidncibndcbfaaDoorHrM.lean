import Derived.Test.YtaidncibndcbfaaDoorNdW
import Derived.Test.YtaidncibndcbfaaDoorLeW
import Derived.Test.YtaidncibndcbfaaDoorHlM
import Derived.Test.YtaidncibndcbfaaDoorCmW
import Derived.BigQuiet
set_option linter.unusedVariables false
namespace Go.Proofs.YtaidncibndcbfaaDoor
open Go.RowKit

theorem results_t_c_t {P : Program} {fn : Func} {q u u' : Tmp} {ty : TypeId} (h : fn.results = #[.tmp u, .cell q ty, .tmp u']) (tmps : Array Value) (w : World) (g : Nat) (t : TypeId) (cs : Array Value) (fr : Nat × Nat) (d : TypeDesc)
    (hp : tmps.getD q undef = .pointer (some ⟨g, 0, none⟩)) (v : Value) (hv : tmps.getD u undef = v) (v' : Value) (hv' : tmps.getD u' undef = v') (hg : w.heap[g]? = some (.cells cs t fr))
    (hu : P.underlying ty = some d) (hd : (match d with | .struct _ | .array _ _ => true | _ => false) = true) (hi : (P.info? ty).map (·.size) = some cs.size) :
    (results fn tmps).run P w = .ok (.tuple #[v, .agg cs, v']) w := by
  have e : (results fn tmps).run P w = ((asAddr (tmps.getD q undef)).run P w).andThen fun a w₁ => ((loadVar ty a).run P w₁).andThen fun x w₂ => .ok (.tuple #[tmps.getD u undef, x, tmps.getD u' undef]) w₂ := by
    simp only [results, h]
    simp [Sem.run_bind, Result.andThen]
  rw [e, hp, hv, hv']
  simp [asAddr, run_loadVar_row w g t ty cs fr d hg hu hd hi]
theorem results_c_c_t {P : Program} {fn : Func} {p q u : Tmp} {ty : TypeId} (h : fn.results = #[.cell p ty, .cell q ty, .tmp u]) (tmps : Array Value) (w : World) (g g' : Nat) (t t' : TypeId) (cs cs' : Array Value) (fr fr' : Nat × Nat) (d : TypeDesc)
    (hp : tmps.getD p undef = .pointer (some ⟨g, 0, none⟩)) (hq : tmps.getD q undef = .pointer (some ⟨g', 0, none⟩)) (v : Value) (hv : tmps.getD u undef = v) (hg : w.heap[g]? = some (.cells cs t fr)) (hg' : w.heap[g']? = some (.cells cs' t' fr'))
    (hu : P.underlying ty = some d) (hd : (match d with | .struct _ | .array _ _ => true | _ => false) = true) (hi : (P.info? ty).map (·.size) = some cs.size) (hi' : (P.info? ty).map (·.size) = some cs'.size) :
    (results fn tmps).run P w = .ok (.tuple #[.agg cs, .agg cs', v]) w := by
  have e : (results fn tmps).run P w = ((asAddr (tmps.getD p undef)).run P w).andThen fun a w₁ => ((loadVar ty a).run P w₁).andThen fun x w₂ => ((asAddr (tmps.getD q undef)).run P w₂).andThen fun a' w₃ => ((loadVar ty a').run P w₃).andThen fun x' w₄ => .ok (.tuple #[x, x', tmps.getD u undef]) w₄ := by
    simp only [results, h]
    simp [Sem.run_bind, Result.andThen]
  rw [e, hp, hq, hv]
  simp [asAddr, run_loadVar_row w g t ty cs fr d hg hu hd hi, run_loadVar_row w g' t' ty cs' fr' d hg' hu hd hi']
/-- a store into a block that is not among the rows -/
theorem Hold.put {rows : List (Nat × List Int)} {w : World} (h : Hold rows w) {g : Nat} (hg : ∀ p ∈ rows, p.1 ≠ g) (c : Array Value) : Hold rows (w.setRow g c) := fun p hp => (h p hp).setRow_ne c (hg p hp)
theorem Hold.setIt {rows : List (Nat × List Int)} {w : World} {g : Nat} {l0 : List Int} (h : Hold rows w) (hA : Arr w g 27 (U8 l0)) (hg : ∀ p ∈ rows, p.1 ≠ g) (l : List Int) : Hold ((g, l) :: rows) (w.setRow g (U8 l).toArray) := by
  intro p hp
  rcases List.mem_cons.1 hp with rfl | hp
  · exact hA.setRow (U8 l)
  · exact (h p hp).setRow_ne _ (hg p hp)
theorem Hold.mono {rows rows' : List (Nat × List Int)} {w : World} (h : Hold rows w) (hs : ∀ p ∈ rows', p ∈ rows) : Hold rows' w := fun p hp => h p (hs p hp)
theorem Hold.at_ {rows : List (Nat × List Int)} {w : World} (h : Hold rows w) {g : Nat} {l : List Int} (hm : (g, l) ∈ rows) : Arr w g 27 (U8 l) := h (g, l) hm
/-- a whole hash stored, at a list of operations -/
theorem wpList_store_at {ops : Array Oper} {rest : List Oper} {o : Oper} {a : Act} {w : World} {Q : Exit → Act → World → Prop} {rows : List (Nat × List Int)} (hH : Hold rows w) (hgd : o.guard = none) (x y : Operand) (ho : o.op = .store 27 x y)
    (g : Nat) (l0 l : List Int) (hm : (g, l0) ∈ rows) (hl0 : l0.length = 32) (hl : l.length = 32) (hx : a.eval x = .pointer (some ⟨g, 0, none⟩)) (hy : a.eval y = hV l) (rows' : List (Nat × List Int)) (hr : ∀ p ∈ rows', p ∈ rows ∧ p.1 ≠ g)
    (hK : ∀ w2, Hold ((g, l) :: rows') w2 → w2 = w.setRow g (U8 l).toArray → wpList Tryd.prog ops Q rest (a.put o.dst undef) w2) : wpList Tryd.prog ops Q (o :: rest) a w :=
  wpList_store_row hgd 27 x y ho g _ hx hy 27 _ (hH (g, l0) hm) (hz_of hl) (ho_of hl0 hl) (all_one (U8_one _)) (hK _ ((hH.mono (fun p hp => (hr p hp).1)).setIt (hH (g, l0) hm) (fun p hp => (hr p hp).2) l) rfl)
/-- a whole hash stored into the block just made -/
theorem wpList_store_al {ops : Array Oper} {rest : List Oper} {o : Oper} {a : Act} {w w' : World} {Q : Exit → Act → World → Prop} {rows : List (Nat × List Int)} (hgd : o.guard = none) (x y : Operand) (ho : o.op = .store 27 x y)
    (hH : Hold rows w) (l : List Int) (hl : l.length = 32) (z : Array Value) (hW : w' = w.alloc (.cells z 27)) (hz : z.size = 32) (hx : a.eval x = .pointer (some ⟨w.heap.size, 0, none⟩)) (hy : a.eval y = hV l)
    (hK : ∀ w2, Hold ((w.heap.size, l) :: rows) w2 → Below w.heap.size w w2 → wpList Tryd.prog ops Q rest (a.put o.dst undef) w2) : wpList Tryd.prog ops Q (o :: rest) a w' := by
  subst hW
  exact wpList_store_hs hH hgd x y ho l hl z hz hx hy hK
theorem zero32 : (List.replicate 32 (0 : Int)).length = 32 := by simp
theorem hV_zero : hV (List.replicate 32 0) = .agg (U8 (List.replicate 32 0)).toArray := rfl
end Go.Proofs.YtaidncibndcbfaaDoor
