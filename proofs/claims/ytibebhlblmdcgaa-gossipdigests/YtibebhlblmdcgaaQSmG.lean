import Derived.Test.YtibebhlblmdcgaaQLfW
import Derived.Test.YtibebhlblmdcgaaQOwM
import Derived.Deep.QuietTactic
import Derived.BigQuiet
set_option linter.unusedSimpArgs false
set_option linter.unusedVariables false
namespace Go.Proofs.Ytibebhlblmdcgaa
open Go.RowKit

/-! Summaries, wants: what they are, and their cells. -/
structure Smy where (ser idx : Int) (fz rv : Bool)
structure Wnt where (idx : Int) (ix fz rv : Bool)
def sC (x : Smy) : List Value := [.int .i64 x.ser, .int .i64 x.idx, .bool x.fz, .bool x.rv]
def wC (x : Wnt) : List Value := [.int .i64 x.idx, .bool x.ix, .bool x.fz, .bool x.rv]
def zSmy : Smy := ⟨0, 0, false, false⟩
def zWnt : Wnt := ⟨0, false, false, false⟩
theorem Try.inY : (Try.prog.info? 39).map (fun i => (i.zero, i.size, i.bytes)) = some (some (aV (sC zSmy)), 4, 24) := by kernel_rfl
theorem Try.inY' : (Try.prog.info? 39).map (fun i => (i.zero, i.size)) = some (some (aV (sC zSmy)), 4) := by kernel_rfl
theorem Try.inN' : (Try.prog.info? 53).map (fun i => (i.zero, i.size)) = some (some (aV (wC zWnt)), 4) := by kernel_rfl
theorem szY (x : Smy) : (Try.prog.info? 39).map (·.size) = some (sC x).length := by show _ = some 4; kernel_rfl
theorem szN (x : Wnt) : (Try.prog.info? 53).map (·.size) = some (wC x).length := by show _ = some 4; kernel_rfl
theorem b_smy (a b : Int) (c d : Bool) : Try.prog.built 39 [(0, .int .i64 a), (1, .int .i64 b), (2, .bool c), (3, .bool d)] = some (sC ⟨a, b, c, d⟩).toArray := by kernel_rfl
theorem b_smy0 (a : Int) : Try.prog.built 39 [(0, .int .i64 a)] = some (sC ⟨a, 0, false, false⟩).toArray := by kernel_rfl
theorem b_wnt (a : Int) (b c d : Bool) : Try.prog.built 53 [(0, .int .i64 a), (1, .bool b), (2, .bool c), (3, .bool d)] = some (wC ⟨a, b, c, d⟩).toArray := by kernel_rfl
theorem one_y (x : Smy) : ∀ v ∈ sC x, v.oneCell' = true := by intro v hv; simp [sC] at hv; rcases hv with rfl | rfl | rfl | rfl <;> rfl
theorem one_n (x : Wnt) : ∀ v ∈ wC x, v.oneCell' = true := by intro v hv; simp [wC] at hv; rcases hv with rfl | rfl | rfl | rfl <;> rfl
theorem at_ys (x : Smy) : At (sC x) 0 [.int .i64 x.ser] := ⟨[], _, rfl, rfl⟩
theorem at_yi (x : Smy) : At (sC x) 1 [.int .i64 x.idx] := ⟨[.int .i64 x.ser], _, rfl, rfl⟩
theorem at_yf (x : Smy) : At (sC x) 2 [.bool x.fz] := ⟨[.int .i64 x.ser, .int .i64 x.idx], _, rfl, rfl⟩
theorem at_yr (x : Smy) : At (sC x) 3 [.bool x.rv] := ⟨[.int .i64 x.ser, .int .i64 x.idx, .bool x.fz], [], rfl, rfl⟩
theorem at_ni (x : Wnt) : At (wC x) 0 [.int .i64 x.idx] := ⟨[], _, rfl, rfl⟩
theorem at_nx (x : Wnt) : At (wC x) 1 [.bool x.ix] := ⟨[.int .i64 x.idx], _, rfl, rfl⟩
theorem at_nf (x : Wnt) : At (wC x) 2 [.bool x.fz] := ⟨[.int .i64 x.idx, .bool x.ix], _, rfl, rfl⟩
theorem at_nr (x : Wnt) : At (wC x) 3 [.bool x.rv] := ⟨[.int .i64 x.idx, .bool x.ix, .bool x.fz], [], rfl, rfl⟩
theorem pt_y (x y : Smy) : Pt (sC x) 0 (sC y) (sC y) := Pt.self rfl
theorem pt_n (x y : Wnt) : Pt (wC x) 0 (wC y) (wC y) := Pt.self rfl
theorem pt_nx (x : Wnt) (b : Bool) : Pt (wC x) 1 [.bool b] (wC { x with ix := b }) := ⟨[.int .i64 x.idx], [.bool x.ix], [.bool x.fz, .bool x.rv], rfl, rfl, rfl, rfl⟩
theorem pt_nf (x : Wnt) (b : Bool) : Pt (wC x) 2 [.bool b] (wC { x with fz := b }) := ⟨[.int .i64 x.idx, .bool x.ix], [.bool x.fz], [.bool x.rv], rfl, rfl, rfl, rfl⟩
theorem pt_nr (x : Wnt) (b : Bool) : Pt (wC x) 3 [.bool b] (wC { x with rv := b }) := ⟨[.int .i64 x.idx, .bool x.ix, .bool x.fz], [.bool x.rv], [], rfl, rfl, rfl, rfl⟩
/-- a slice of summaries wherever it lies -/
abbrev Sy (w : World) (s : Sx Smy) : Prop := Sx.Ok sC 4 w s
/-- a row of summaries of one's own -/
abbrev Oy (w : World) (base : Nat) (v : Value) (xs : List Smy) : Prop := w.ownsRow base 39 4 v xs.length (xs.flatMap sC)
theorem sC_len (x : Smy) : (sC x).length = 4 := rfl
theorem Oy.sy {w : World} {base : Nat} {v : Value} {xs : List Smy} (h : Oy w base v xs) : ∃ s : Sx Smy, v = s.v ∧ s.xs = xs ∧ Sy w s ∧ (∀ x, s.a = some x → base ≤ x.block ∧ v.ownBlock = some x.block) := own_sx h (fun x _ => sC_len x)
theorem Oy.nil (w : World) (base : Nat) : Oy w base (.slice none 0 0) [] := own_nil w base _
theorem Oy.later {w w' : World} {base : Nat} {v : Value} {xs : List Smy} (h : Oy w base v xs) (hb : Below w.heap.size w w') : Oy w' base v xs := own_laterG h hb
theorem Oy.old {w w' : World} {base : Nat} {v : Value} {xs : List Smy} (h : Oy w base v xs) (ho : Old w w') : Oy w' base v xs := own_blk h (fun g hg => ho.block g (own_lt h hg).2)
theorem Sy.old {w w' : World} {s : Sx Smy} (h : Sy w s) (ho : Old w w') : Sy w' s := h.keep ho.size (fun _ x _ hx => ho.block _ hx)
theorem Sy.at_ {w : World} {s : Sx Smy} (h : Sy w s) {k : Nat} (hk : k < s.n) : ∃ x b off, s.xs[k]? = some x ∧ s.a = some ⟨b, off, none⟩ ∧ b < w.heap.size ∧ w.rangeAt b (off + k * 4) (sC x) := by
  have hl : k < s.xs.length := by rw [h.len]; exact hk
  obtain ⟨b, off, h1, h2, h3⟩ := Sx.Ok.at_ h (List.getElem?_eq_getElem hl)
  exact ⟨_, b, off, List.getElem?_eq_getElem hl, h1, h2, h3⟩
theorem wl_appendY {ops : Array Oper} {rest : List Oper} {o : Oper} {a : Act} {w : World} {Q : Exit → Act → World → Prop} (hw : Region.wanted o (yielded ops a.tmps) = true) (s x : Operand) (ho : o.op = .call { callee := .builtin .append, args := #[s, x], argTypes := #[22, 22] })
    {base : Nat} {v : Value} {xs : List Smy} (hs : a.eval s = v) (hown : Oy w base v xs) (y : Sx Smy) (hy : Sy w y) (hx : a.eval x = y.v) (hb : (xs.length + y.n) * 24 ≤ 140737488355328) (hbase : base ≤ w.heap.size)
    (h : ∀ v' w', Oy w' base v' (xs ++ y.xs) → w.grownBy w' v.ownBlock → (v'.ownBlock = v.ownBlock ∨ v'.ownBlock = some w.heap.size) → wpList Try.prog ops Q rest (a.put o.dst v') w') : wpList Try.prog ops Q (o :: rest) a w :=
  wl hw fun k hk => op_appendL s x 22 ho Try.underlying22 Try.inY rfl (by omega) hs hown y hy (fun z _ => sC_len z) (fun z _ => one_y z) hx hb (by omega) hbase (fun v' w' h1 h2 h3 => hk _ _ (h v' w' h1 h2 h3))
theorem infoY3 : ∃ i, Try.prog.info? 39 = some i ∧ i.zero = some (aV (sC zSmy)) ∧ i.size = 4 ∧ i.bytes = 24 := by
  have h := Try.inY
  cases hq : Try.prog.info? 39 with
  | none => rw [hq] at h; simp at h
  | some i =>
    rw [hq] at h
    simp only [Option.map_some, Option.some.injEq, Prod.mk.injEq] at h
    exact ⟨i, rfl, h.1, h.2.1, h.2.2⟩
theorem op_bs1Y {o : Oper} {a : Act} {w w0 : World} {k : Act → World → Prop} {Q : Exit → Act → World → Prop} {rows : List Row} {K : World → Prop} (x : Operand) (ho : o.op = .buildSlice 22 1 #[(0, x)]) (e : Smy) (hx : a.eval x = aV (sC e)) (hS : Hs17 w0 rows K w)
    (h : ∀ g w', Hs17 w0 ((g, 39, sC e) :: rows) K w' → k (a.put o.dst (.slice (some ⟨g, 0, none⟩) 1 1)) w') : o.wp Try.prog a w k Q := by
  obtain ⟨i, hi, hz, hs, -⟩ := infoY3
  have hr := run_bsG (P := Try.prog) w 22 39 i _ [aV (sC e)] 4 Try.underlying22 hi hs hz (fun v hv => by simp at hv; subst hv; rfl) (by simp) (by simp)
  have hc : ([aV (sC e)].flatMap cellsL) = sC e := by simp [cellsL, aV, Value.cells]
  rw [hc] at hr
  have hr' : (Instr.buildSlice 22 1 ((#[((0 : Nat), x)]).map fun p => (p.1, a.eval p.2))).run Try.prog w = .ok (.slice (some ⟨w.heap.size, 0, none⟩) 1 1) (w.alloc (.cells (sC e).toArray 39)) := by
    simp only [List.map_toArray, List.map_cons, List.map_nil, hx]
    exact hr
  unfold Oper.wp
  simp [execOp, ho, Result.andThen]
  simp at hr'
  rw [hr']
  exact h _ _ (hS.alloc 39 (sC e))
theorem sy_one {w w0 : World} {rows : List Row} {K : World → Prop} {g : Nat} {t : TypeId} {e : Smy} (hS : Hs17 w0 ((g, t, sC e) :: rows) K w) : Sy w ⟨some ⟨g, 0, none⟩, 1, 1, [e]⟩ := by
  have hA := hS.get 0 rfl
  refine ⟨rfl, Nat.le_refl _, by show 1 ≤ maxLen; unfold maxLen; omega, (fun h => by cases h), fun _ => ⟨g, 0, rfl, hA.lt, fun i x hi => ?_⟩⟩
  cases i with
  | zero => simp at hi; subst hi; simpa using (At.self _).range hA
  | succ i => simp at hi
/-! What is answered. -/
def smOf (e : Ent) : Smy := ⟨e.cert.serial, e.idx, e.fz, e.rv⟩
end Go.Proofs.Ytibebhlblmdcgaa
