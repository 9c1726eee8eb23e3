import Derived.Test.YtibebhlblmdcgaaQGrB
import Derived.Laws.Tables
import Derived.Deep.MidRow
import Derived.Test.YtibebhlblmdcgaaQCmpW
import Derived.Deep.Slices
import Derived.Laws.AppendOwnNone
namespace Go.Proofs.Ytibebhlblmdcgaa
open Go.RowKit

/-- append to a row of one's own: the row stays where it is or goes to new memory -/
theorem run_append_own_at {P : Program} (w : World) (base : Nat) (t ty e : TypeId) (i : TypeInfo) (z : Value) (size bytes : Nat) (ht : P.underlying t = some (.slice e)) (hi : P.info? e = some i) (hz : i.zero = some z)
    (hsize : i.size = size) (hby : i.bytes = bytes) (hzs : z.cells.size = size) (hsz : 0 < size)
    (v : Value) (n : Nat) (xs : List Value) (hown : w.ownsRow base e size v n xs)
    (a : Addr) (m c : Nat) (news : List Value) (hl : news.length = m * size) (hnews : ∀ j u, news[j]? = some u → w.cell? (a.add j) = some u) (h1 : ∀ u ∈ news, u.oneCell' = true)
    (h63 : n + m ≤ maxLen) (hbytes : (n + m) * bytes ≤ 140737488355328) (hbase : base ≤ w.heap.size) :
    ∃ v' w', (Builtin.append_ #[t, t] ty #[v, .slice (some a) m c]).run P w = .ok v' w' ∧ w'.ownsRow base e size v' (n + m) (xs ++ news) ∧ w.grownBy w' v.ownBlock ∧
      (v'.ownBlock = v.ownBlock ∨ v'.ownBlock = some w.heap.size) := by
  obtain ⟨v', w', hr, h2, h3, h4⟩ := run_append_own (P := P) w base t ty e i z size bytes ht hi hz hsize hby hzs hsz v n xs hown a m c news hl hnews h1 h63 hbytes hbase
  refine ⟨v', w', hr, h2, h3, ?_⟩
  subst hsize
  subst hby
  have hsmall : n + m ≤ 9223372036854775807 := by simp only [maxLen] at h63; omega
  rcases hown.2 with ⟨rfl, rfl⟩ | ⟨g, cap, cur, rfl, hbg, hg, hnc, hcm, hcs, htake⟩
  · by_cases hm : m = 0
    · left; rw [h4.2 ⟨rfl, hm⟩]
    · have hr2 := run_append_nil (P := P) w t ty e i z ht hi hz a m c news hl hnews (by omega) (by omega) (by have hb := hbytes; simp only [Nat.zero_add] at hb; omega)
      rw [hr] at hr2
      injection hr2 with e1 e2
      right; rw [e1]; rfl
  · by_cases hroom : n + m ≤ cap
    · have hfit : n * i.size + news.length ≤ cur.size := by rw [hl, hcs, ← Nat.add_mul]; exact Nat.mul_le_mul_right _ hroom
      have hr2 := run_append_room (P := P) w t ty e i ht hi g n cap cur hg a m c news hl hnews h1 hroom hfit
      rw [hr] at hr2
      injection hr2 with e1 e2
      left; rw [e1]; rfl
    · have holds : ∀ j u, xs[j]? = some u → w.cell? ((⟨g, 0, none⟩ : Addr).add j) = some u := hown.cells (g := g) rfl
      have hr2 := run_append_grow (P := P) w t ty e i z ht hi hz ⟨g, 0, none⟩ n cap xs hown.1 holds a m c news hl hnews (by omega) (by omega) (growslice_fits (by omega) hbytes)
      rw [hr] at hr2
      injection hr2 with e1 e2
      right; rw [e1]; rfl
theorem wpList_append_own_at {P : Program} {w : World} {ops : Array Oper} {rest : List Oper} {o : Oper} {a : Act} {Q : Exit → Act → World → Prop} (hgd : o.guard = none) (s x : Operand) (t : TypeId)
    (ho : o.op = .call { callee := .builtin .append, args := #[s, x], argTypes := #[t, t] })
    (base : Nat) (e : TypeId) (i : TypeInfo) (z : Value) (size bytes : Nat) (ht : P.underlying t = some (.slice e)) (hi : P.info? e = some i) (hz : i.zero = some z)
    (hsize : i.size = size) (hby : i.bytes = bytes) (hzs : z.cells.size = size) (hsz : 0 < size)
    (v : Value) (n : Nat) (xs : List Value) (hs : a.eval s = v) (hown : w.ownsRow base e size v n xs)
    (ad : Addr) (m c : Nat) (news : List Value) (hx : a.eval x = .slice (some ad) m c) (hl : news.length = m * size) (hnews : ∀ j u, news[j]? = some u → w.cell? (ad.add j) = some u) (h1 : ∀ u ∈ news, u.oneCell' = true)
    (h63 : n + m ≤ maxLen) (hbytes : (n + m) * bytes ≤ 140737488355328) (hbase : base ≤ w.heap.size)
    (h : ∀ v' w', Hid (w'.ownsRow base e size v' (n + m) (xs ++ news)) → Hid (w.grownBy w' v.ownBlock) → Hid (v'.ownBlock = v.ownBlock ∨ v'.ownBlock = some w.heap.size) → wpList P ops Q rest (a.put o.dst v') w') : wpList P ops Q (o :: rest) a w := by
  refine wpList_plain hgd fun K hK => ?_
  obtain ⟨v', w', hr, h2, h3, h4⟩ := run_append_own_at (P := P) w base t o.type e i z size bytes ht hi hz hsize hby hzs hsz v n xs hown ad m c news hl hnews h1 h63 hbytes hbase
  unfold Oper.wp execOp
  simp only [ho, resolve, invoke, builtin, Sem.run_bind, Sem.run_pure, Result.andThen_ok, List.map_toArray, List.map_cons, List.map_nil, hs, hx, hr]
  exact hK _ _ (h v' w' h2 h3 h4)
/-- two rows of one's own lie apart -/
def Apt (v u : Value) : Prop := v.ownBlock = none ∨ v.ownBlock ≠ u.ownBlock
theorem Apt.symm {v u : Value} (h : Apt v u) : Apt u v := by
  unfold Apt at *
  cases hu : u.ownBlock with
  | none => exact .inl rfl
  | some k => right; intro e; rcases h with h | h
              · rw [h] at e; cases e
              · exact h (e.symm.trans hu.symm ▸ e.symm ▸ rfl)
theorem Apt.grown {w : World} {base e n : Nat} {v v' u : Value} {xs : List Value} (h : Apt v u) (hu : w.ownsRow base e 1 u n xs) (hv : v'.ownBlock = v.ownBlock ∨ v'.ownBlock = some w.heap.size) : Apt v' u := by
  unfold Apt at *
  rcases hv with hv | hv
  · rw [hv]; exact h
  · right
    rw [hv]
    intro e1
    have := (hu.lt _ e1.symm).2
    omega
end Go.Proofs.Ytibebhlblmdcgaa

set_option linter.unusedSimpArgs false
set_option linter.unusedVariables false
namespace Go.Proofs.Ytibebhlblmdcgaa
open Go.RowKit

/-! Rows of structs: slices built of parts, appends of any width. -/
def cellsL (v : Value) : List Value := v.cells.toList
def prts : List Value → Nat → List (Nat × Value)
  | [], _ => []
  | v :: l, k => (k, v) :: prts l (k + 1)
theorem fold_set (c : List Value) : ∀ (s off : Nat) (pre z rest : List Value), z.length = c.length → pre.length = off + s →
    (c.zipIdx s).foldl (fun (cs : Array Value) (p : Value × Nat) => cs.setIfInBounds (off + p.2) p.1) (pre ++ (z ++ rest)).toArray = (pre ++ (c ++ rest)).toArray := by
  induction c with
  | nil => intro s off pre z rest hz _; have : z = [] := List.eq_nil_of_length_eq_zero hz; subst this; rfl
  | cons a t ih =>
    intro s off pre z rest hz hp
    obtain ⟨z0, zt, rfl⟩ : ∃ z0 zt, z = z0 :: zt := by cases z with | nil => simp at hz | cons z0 zt => exact ⟨z0, zt, rfl⟩
    rw [List.zipIdx_cons, List.foldl_cons]
    have e : (pre ++ (z0 :: zt ++ rest)).toArray.setIfInBounds (off + s) a = ((pre ++ [a]) ++ (zt ++ rest)).toArray := by
      rw [← hp]; simp
    show List.foldl _ ((pre ++ (z0 :: zt ++ rest)).toArray.setIfInBounds (off + s) a) _ = _
    rw [e, ih (s + 1) off (pre ++ [a]) zt rest (by simpa using hz) (by simp; omega)]
    simp
theorem fill_cat (place : Nat → Option (Nat × Nat)) (vs : List Value) : ∀ (k : Nat) (pre z : List Value), (∀ j v, vs[j]? = some v → place (k + j) = some (pre.length + ((vs.take j).flatMap cellsL).length, v.cells.size)) → z.length = (vs.flatMap cellsL).length →
    Instr.fill place (pre ++ z).toArray (prts vs k) = some (pre ++ vs.flatMap cellsL).toArray := by
  induction vs with
  | nil => intro k pre z _ hz; have : z = [] := List.eq_nil_of_length_eq_zero (by simpa using hz); subst this; simp [prts, Instr.fill]
  | cons v t ih =>
    intro k pre z hp hz
    have h0 := hp 0 v rfl
    simp at h0
    rw [List.flatMap_cons, List.length_append] at hz
    have hc : (cellsL v).length = v.cells.size := by simp [cellsL]
    rw [prts, Instr.fill, h0]
    simp only []
    rw [if_neg (by simp; omega), ← Array.foldl_toList, Array.toList_zipIdx]
    have hz2 : z = z.take v.cells.size ++ z.drop v.cells.size := (List.take_append_drop _ _).symm
    have hf := fold_set (cellsL v) 0 pre.length pre (z.take v.cells.size) (z.drop v.cells.size) (by rw [List.length_take, hc]; omega) (by simp)
    rw [← hz2] at hf
    have hf' : List.foldl (fun (cs : Array Value) (x : Value × Nat) => cs.setIfInBounds (pre.length + x.2) x.1) (pre ++ z).toArray (v.cells.toList.zipIdx) = (pre ++ (cellsL v ++ z.drop v.cells.size)).toArray := hf
    rw [hf', ← List.append_assoc, ih (k + 1) (pre ++ cellsL v) (z.drop v.cells.size) (fun j u hj => ?_) (by rw [List.length_drop]; omega), List.flatMap_cons, List.append_assoc]
    have := hp (j + 1) u (by simpa using hj)
    rw [show k + 1 + j = k + (j + 1) by omega, this, List.take_succ_cons, List.flatMap_cons, List.length_append, List.length_append, Nat.add_assoc]
theorem flat_size (vs : List Value) (m : Nat) (hm : ∀ v ∈ vs, v.cells.size = m) : (vs.flatMap cellsL).length = vs.length * m := by
  induction vs with
  | nil => simp
  | cons a t ih =>
    rw [List.flatMap_cons, List.length_append, ih (fun v hv => hm v (by simp [hv]))]
    have : (cellsL a).length = m := by rw [cellsL, Array.length_toList]; exact hm a (by simp)
    rw [this, List.length_cons, Nat.add_mul]; omega
theorem run_bsG {P : Program} (w : World) (t elem : TypeId) (i : TypeInfo) (zv : Value) (vs : List Value) (m : Nat) (hu : P.underlying t = some (.slice elem)) (hi : P.info? elem = some i) (hs : i.size = m) (hz : i.zero = some zv) (hm : ∀ v ∈ vs, v.cells.size = m) (h0 : 0 < vs.length * m) (h24 : vs.length * m ≤ 16777216) :
    (Instr.buildSlice t vs.length (prts vs 0).toArray).run P w = .ok (.slice (some ⟨w.heap.size, 0, none⟩) vs.length vs.length) (w.alloc (.cells (vs.flatMap cellsL).toArray elem)) := by
  have hf' : ∀ f : Nat → Value, Instr.fill (fun i => some (i * m, m)) ((Array.range (vs.length * m)).map f) (prts vs 0) = some (vs.flatMap cellsL).toArray := fun f => by
    have hf := fill_cat (fun i => some (i * m, m)) vs 0 [] ((Array.range (vs.length * m)).map f).toList (fun j v hj => by
      have hjl : j < vs.length := (List.getElem?_eq_some_iff.1 hj).1
      have h1 := flat_size (vs.take j) m (fun v hv => hm v (List.mem_of_mem_take hv))
      rw [List.length_take, Nat.min_eq_left (by omega)] at h1
      simp only [List.length_nil, Nat.zero_add]
      rw [h1, hm v (List.mem_of_getElem? hj)]) (by simp [flat_size vs m hm])
    rw [List.nil_append, Array.toArray_toList, List.nil_append] at hf
    exact hf
  have hT : ∀ w, (typeInfo elem).run P w = .ok i w := fun w => run_typeInfo w hi
  have h24' : ¬ (16777216 < vs.length * m) := by omega
  have h0' : ¬ (vs.length * m = 0) := by omega
  simp [Instr.buildSlice, run_underlying hu, go_sem, sizeOf, zeroValue, hT, hs, hz, h24', Result.andThen]
  rw [if_neg h0', hf']
  simp [go_sem]

/-- a slice of structs at a step -/
theorem wpList_bsG {P : Program} {ops : Array Oper} {rest : List Oper} {o : Oper} {a : Act} {w : World} {Q : Exit → Act → World → Prop} (hgd : o.guard = none) (t : TypeId) (n : Nat) (ps : Array (Nat × Operand)) (ho : o.op = .buildSlice t n ps) (v : Value) (w' : World)
    (hrun : (Instr.buildSlice t n (ps.map fun p => (p.1, a.eval p.2))).run P w = .ok v w') (h : wpList P ops Q rest (a.put o.dst v) w') : wpList P ops Q (o :: rest) a w := by
  refine wpList_plain hgd fun K hK => ?_
  unfold Oper.wp
  simp [execOp, ho, hrun, Result.andThen]
  exact hK _ _ h
theorem step_bsG {P : Program} {ops : Array Oper} {o : Oper} {a : Act} {w : World} {K : Act → World → Prop} {Q : Exit → Act → World → Prop} {E : Prop} (hgd : o.guard = none) (t : TypeId) (n : Nat) (ps : Array (Nat × Operand)) (ho : o.op = .buildSlice t n ps) (v : Value) (w' : World)
    (hrun : (Instr.buildSlice t n (ps.map fun p => (p.1, a.eval p.2))).run P w = .ok v w') (h : K (a.put o.dst v) w') : if Region.wanted o (yielded ops a.tmps) = true then Oper.wp P o a w K Q else E := by
  have hw : Region.wanted o (yielded ops a.tmps) = true := by simp [Region.wanted, hgd]
  rw [if_pos hw]
  unfold Oper.wp
  simp [execOp, ho, hrun, Result.andThen]
  exact h
theorem step_appG {P : Program} {ops : Array Oper} {o : Oper} {a : Act} {w : World} {K : Act → World → Prop} {Q : Exit → Act → World → Prop} {E : Prop} (hgd : o.guard = none) (s x : Operand) (t : TypeId)
    (ho : o.op = .call { callee := .builtin .append, args := #[s, x], argTypes := #[t, t] })
    (base : Nat) (e : TypeId) (i : TypeInfo) (z : Value) (size bytes : Nat) (ht : P.underlying t = some (.slice e)) (hi : P.info? e = some i) (hz : i.zero = some z)
    (hsize : i.size = size) (hby : i.bytes = bytes) (hzs : z.cells.size = size) (hsz : 0 < size)
    (v : Value) (n : Nat) (xs : List Value) (hs : a.eval s = v) (hown : w.ownsRow base e size v n xs)
    (ad : Addr) (m c : Nat) (news : List Value) (hx : a.eval x = .slice (some ad) m c) (hl : news.length = m * size) (hnews : ∀ j u, news[j]? = some u → w.cell? (ad.add j) = some u) (h1 : ∀ u ∈ news, u.oneCell' = true)
    (h63 : n + m ≤ maxLen) (hbytes : (n + m) * bytes ≤ 140737488355328) (hbase : base ≤ w.heap.size)
    (h : ∀ v' w', w'.ownsRow base e size v' (n + m) (xs ++ news) → w.grownBy w' v.ownBlock → K (a.put o.dst v') w') :
    if Region.wanted o (yielded ops a.tmps) = true then Oper.wp P o a w K Q else E := by
  have hw : Region.wanted o (yielded ops a.tmps) = true := by simp [Region.wanted, hgd]
  rw [if_pos hw]
  obtain ⟨v', w', hr, r1, r2, r3⟩ := run_append_own_at (P := P) w base t o.type e i z size bytes ht hi hz hsize hby hzs hsz v n xs hown ad m c news hl hnews h1 h63 hbytes hbase
  unfold Oper.wp
  simp [execOp, ho, resolve, invoke, builtin, hs, hx, hr, Result.andThen]
  exact h v' w' r1 r2
theorem wpList_appG {P : Program} {ops : Array Oper} {rest : List Oper} {o : Oper} {a : Act} {w : World} {Q : Exit → Act → World → Prop} (hgd : o.guard = none) (s x : Operand) (t : TypeId)
    (ho : o.op = .call { callee := .builtin .append, args := #[s, x], argTypes := #[t, t] })
    (base : Nat) (e : TypeId) (i : TypeInfo) (z : Value) (size bytes : Nat) (ht : P.underlying t = some (.slice e)) (hi : P.info? e = some i) (hz : i.zero = some z)
    (hsize : i.size = size) (hby : i.bytes = bytes) (hzs : z.cells.size = size) (hsz : 0 < size)
    (v : Value) (n : Nat) (xs : List Value) (hs : a.eval s = v) (hown : w.ownsRow base e size v n xs)
    (ad : Addr) (m c : Nat) (news : List Value) (hx : a.eval x = .slice (some ad) m c) (hl : news.length = m * size) (hnews : ∀ j u, news[j]? = some u → w.cell? (ad.add j) = some u) (h1 : ∀ u ∈ news, u.oneCell' = true)
    (h63 : n + m ≤ maxLen) (hbytes : (n + m) * bytes ≤ 140737488355328) (hbase : base ≤ w.heap.size)
    (h : ∀ v' w', w'.ownsRow base e size v' (n + m) (xs ++ news) → w.grownBy w' v.ownBlock → wpList P ops Q rest (a.put o.dst v') w') :
    wpList P ops Q (o :: rest) a w := by
  refine wpList_plain hgd fun K hK => ?_
  obtain ⟨v', w', hr, r1, r2, r3⟩ := run_append_own_at (P := P) w base t o.type e i z size bytes ht hi hz hsize hby hzs hsz v n xs hown ad m c news hl hnews h1 h63 hbytes hbase
  unfold Oper.wp
  simp [execOp, ho, resolve, invoke, builtin, hs, hx, hr, Result.andThen]
  exact hK _ _ (h v' w' r1 r2)

/-! rows of one's own -/
theorem own_keepG {w w' : World} {base e sz n : Nat} {v : Value} {xs : List Value} {row : Option Nat} (h : w.ownsRow base e sz v n xs) (hg : w.grownBy w' row) (hne : ∀ g, v.ownBlock = some g → some g ≠ row) : w'.ownsRow base e sz v n xs := by
  refine ⟨h.1, ?_⟩
  rcases h.2 with h2 | ⟨g, cap, cur, h1, h2, h3, h4⟩
  · exact .inl h2
  · have hgl : g < w.heap.size := (h.lt g (by rw [h1]; rfl)).2
    exact .inr ⟨g, cap, cur, h1, h2, (hg.block g hgl (hne g (by rw [h1]; rfl))).trans h3, h4⟩
theorem own_neG {w : World} {base base' n n' e e' sz sz' : Nat} {v v' : Value} {xs xs' : List Value} (h : w.ownsRow base e sz v n xs) (h' : w.ownsRow base' e' sz' v' n' xs') (he : e ≠ e') : ∀ g, v.ownBlock = some g → some g ≠ v'.ownBlock := by
  intro g hg hv
  rcases h.2 with ⟨rfl, -⟩ | ⟨g1, cap, cur, rfl, -, h1, -⟩
  · simp [Value.ownBlock] at hg
  rcases h'.2 with ⟨rfl, -⟩ | ⟨g2, cap', cur', rfl, -, h2, -⟩
  · simp [Value.ownBlock] at hv
  simp only [Value.ownBlock, Option.some.injEq] at hg hv
  subst hg hv
  rw [h1] at h2
  simp at h2
  exact he h2.2
theorem own_belG {B : Nat} {w w1 : World} {row : Option Nat} {v : Value} {base e sz n : Nat} {xs : List Value} (h : w.ownsRow base e sz v n xs) (hg : w.grownBy w1 v.ownBlock) (hB : B ≤ base) (hs : B ≤ w.heap.size) : Below B w w1 :=
  ⟨hg.os, hg.tape, hg.output, hg.size, fun k hk => hg.block k (by omega) (fun e => by
    rcases h.2 with ⟨rfl, -⟩ | ⟨g, cap, cur, rfl, hge, -⟩
    · simp [Value.ownBlock] at e
    · simp [Value.ownBlock] at e; omega)⟩
theorem own_laterG {w w' : World} {base e sz n : Nat} {v : Value} {xs : List Value} (h : w.ownsRow base e sz v n xs) (hb : Below w.heap.size w w') : w'.ownsRow base e sz v n xs := by
  refine ⟨h.1, ?_⟩
  rcases h.2 with h2 | ⟨g, cap, cur, h1, h2, h3, h4⟩
  · exact .inl h2
  · have hgl : g < w.heap.size := (h.lt g (by rw [h1]; rfl)).2
    exact .inr ⟨g, cap, cur, h1, h2, (hb.block g hgl).trans h3, h4⟩
theorem own_monoG {w : World} {base base' e sz n : Nat} {v : Value} {xs : List Value} (h : w.ownsRow base e sz v n xs) (hb : base' ≤ base) : w.ownsRow base' e sz v n xs := by
  refine ⟨h.1, ?_⟩
  rcases h.2 with h2 | ⟨g, cap, cur, h1, h2, h3⟩
  · exact .inl h2
  · exact .inr ⟨g, cap, cur, h1, Nat.le_trans hb h2, h3⟩
theorem own_newG (w : World) (e sz n : Nat) (xs : List Value) (hl : xs.length = n * sz) (hn : n ≤ 1000) (hsz : 0 < sz) : (w.alloc (.cells xs.toArray e)).ownsRow w.heap.size e sz (.slice (some ⟨w.heap.size, 0, none⟩) n n) n xs :=
  ⟨hl, .inr ⟨w.heap.size, n, xs.toArray, rfl, Nat.le_refl _, heap_alloc_last w _, Nat.le_refl _, by unfold maxLen; omega, by simpa using hl, by simp [← hl]⟩⟩

end Go.Proofs.Ytibebhlblmdcgaa

set_option linter.unusedSimpArgs false
set_option linter.unusedVariables false
namespace Go.Proofs.Ytibebhlblmdcgaa
open Go.RowKit

/-! Structs built. -/
theorem fill_pt {place : Nat → Option (Nat × Nat)} {c c' p' : List Value} {off k : Nat} {v : Value} {rest : List (Nat × Value)} (hp : place k = some (off, p'.length)) (hv : v.cells = p'.toArray) (h : Pt c off p' c') : Instr.fill place c.toArray ((k, v) :: rest) = Instr.fill place c'.toArray rest := by
  obtain ⟨pre, p, post, rfl, rfl, rfl, hl⟩ := h
  rw [Instr.fill, hp]
  simp only []
  rw [if_neg (by simp [hv]; omega), hv, ← Array.foldl_toList, Array.toList_zipIdx]
  have hf := fold_set p' 0 pre.length pre p post hl (by simp)
  have hf' : List.foldl (fun (cs : Array Value) (x : Value × Nat) => cs.setIfInBounds (pre.length + x.2) x.1) (pre ++ (p ++ post)).toArray (p'.toArray.toList.zipIdx) = (pre ++ (p' ++ post)).toArray := hf
  rw [hf']
theorem built_struct {P : Program} {t : TypeId} {Z : List Value} {n : Nat} {fields : Array Field} {places : List (Nat × Nat)} (hi : (P.info? t).map (fun i => (i.zero, i.size)) = some (some (aV Z), n)) (hu : P.underlying t = some (.struct fields))
    (hp : fields.toList.mapM (fun f => (P.info? f.type).map fun i => (f.offset, i.size)) = some places) (parts : List (Nat × Value)) : P.built t parts = Instr.fill (fun x => places.toArray[x]?) Z.toArray parts := by
  obtain ⟨i, hii, hz, -⟩ := info_of hi
  unfold Program.built
  rw [hii, hu]
  simp only [hz, hp]
  rfl
theorem built_array {P : Program} {t e : TypeId} {Z : List Value} {n m : Nat} (hi : (P.info? t).map (fun i => (i.zero, i.size)) = some (some (aV Z), n)) (hu : P.underlying t = some (.array m e)) (he : (P.info? e).map (·.size) = some 1) (parts : List (Nat × Value)) : P.built t parts = Instr.fill (fun i => some (i * 1, 1)) Z.toArray parts := by
  obtain ⟨i, hii, hz, -⟩ := info_of hi
  unfold Program.built
  cases hq : P.info? e with
  | none => rw [hq] at he; simp at he
  | some ie =>
    rw [hq] at he
    simp only [Option.map_some, Option.some.injEq] at he
    rw [hii, hu]
    simp only [hz, hq, he]
    rfl
theorem Try.bE (parts : List (Nat × Value)) : Try.prog.built 45 parts = Instr.fill (fun x => [(0, 99), (99, 1), (100, 32), (132, 1), (133, 64), (197, 1), (198, 64)].toArray[x]?) (eC zEnt).toArray parts := built_struct Try.inE' Try.underlying45 (by kernel_rfl) parts
theorem Try.bC (parts : List (Nat × Value)) : Try.prog.built 43 parts = Instr.fill (fun x => [(0, 1), (1, 1), (2, 1), (3, 32), (35, 64)].toArray[x]?) (crtC zCrt).toArray parts := built_struct Try.inC Try.underlying43 (by kernel_rfl) parts
theorem Try.bF (parts : List (Nat × Value)) : Try.prog.built 27 parts = Instr.fill (fun x => [(0, 1), (1, 64)].toArray[x]?) (fC zFlr).toArray parts := built_struct Try.inF Try.underlying27 (by kernel_rfl) parts
theorem Try.bG (parts : List (Nat × Value)) : Try.prog.built 30 parts = Instr.fill (fun x => [(0, 65), (65, 1), (66, 1)].toArray[x]?) (gC zFlr 0 nilS).toArray parts := built_struct Try.inG Try.underlying30 (by kernel_rfl) parts
theorem Try.bS (parts : List (Nat × Value)) : Try.prog.built 25 parts = Instr.fill (fun i => some (i * 1, 1)) (U8 z64).toArray parts := built_array Try.inS Try.underlying25 Try.in1u parts
theorem Try.bH (parts : List (Nat × Value)) : Try.prog.built 41 parts = Instr.fill (fun i => some (i * 1, 1)) (U8 z32).toArray parts := built_array Try.inH Try.underlying41 Try.in1u parts
theorem pl_len {l : List Value} {o n : Nat} (h : l.length = n) : (some (o, n) : Option (Nat × Nat)) = some (o, l.length) := by rw [h]
theorem b_e0 : Try.prog.built 45 [] = some (eC zEnt).toArray := by rw [Try.bE]; rfl
theorem b_g0 : Try.prog.built 30 [] = some (gC zFlr 0 nilS).toArray := by rw [Try.bG]; rfl
theorem b_s0 : Try.prog.built 25 [] = some (U8 z64).toArray := by rw [Try.bS]; rfl
theorem b_ent {c : Crt} {i : Int} {l : List Int} (hc : c.Ok) (hl : By 32 l) : Try.prog.built 45 [(0, aV (crtC c)), (1, .int .i64 i), (2, aV (U8 l))] = some (eC ⟨c, i, l, false, z64, false, z64⟩).toArray := by
  have h1 : Ent.Ok { zEnt with cert := c } := ⟨hc, z32_by, z64_by, z64_by⟩
  rw [Try.bE, fill_pt (p' := crtC c) (pl_len (crtC_len hc)) rfl (pt_cert zEnt_ok hc), fill_pt (p' := [.int .i64 i]) rfl rfl (pt_idx h1 i), fill_pt (p' := U8 l) (pl_len (by simp [hl.len])) rfl (pt_val ⟨hc, z32_by, z64_by, z64_by⟩ hl)]
  rfl
theorem b_gst {f : Flr} {acc : Int} {v : Value} (hf : f.Ok) (hv : v.cells = #[v]) : Try.prog.built 30 [(0, aV (fC f)), (1, .int .i64 acc), (2, v)] = some (gC f acc v).toArray := by
  rw [Try.bG, fill_pt (p' := fC f) (pl_len (fC_len hf)) rfl (pt_gf zFlr_ok hf 0 nilS), fill_pt (p' := [.int .i64 acc]) rfl rfl (pt_ga hf 0 acc nilS), fill_pt (p' := [v]) rfl hv (pt_gr hf acc nilS v)]
  rfl
end Go.Proofs.Ytibebhlblmdcgaa

set_option linter.unusedSimpArgs false
set_option linter.unusedVariables false
namespace Go.Proofs.Ytibebhlblmdcgaa
open Go.RowKit

/-! Slices of structs, wherever they lie; rows of them of one's own. -/
structure Sx (α : Type) where (a : Option Addr) (n c : Nat) (xs : List α)
def Sx.v {α : Type} (s : Sx α) : Value := .slice s.a s.n s.c
structure Sx.Ok {α : Type} (f : α → List Value) (sz : Nat) (w : World) (s : Sx α) : Prop where
  len : s.xs.length = s.n
  le : s.n ≤ s.c
  mx : s.c ≤ maxLen
  nn : s.a = none → s.n = 0 ∧ s.c = 0
  lies : 0 < s.n → ∃ b off, s.a = some ⟨b, off, none⟩ ∧ b < w.heap.size ∧ ∀ i x, s.xs[i]? = some x → w.rangeAt b (off + i * sz) (f x)
section
variable {α : Type} {f : α → List Value} {sz : Nat} {w w' : World} {s : Sx α}
theorem rangeAt_blk {b o : Nat} {cs : List Value} (h : w.rangeAt b o cs) (hb : w'.heap[b]? = w.heap[b]?) : w'.rangeAt b o cs := fun j v hv => by
  rw [← h j v hv]; exact World.cell?_of_block (w := w) (w' := w') (a := ⟨b, _, none⟩) hb
theorem Sx.Ok.keep (h : s.Ok f sz w) (hs : w.heap.size ≤ w'.heap.size) (hk : 0 < s.n → ∀ x, s.a = some x → x.block < w.heap.size → w'.heap[x.block]? = w.heap[x.block]?) : s.Ok f sz w' := by
  refine ⟨h.len, h.le, h.mx, h.nn, fun h0 => ?_⟩
  obtain ⟨b, off, e, hlt, hr⟩ := h.lies h0
  exact ⟨b, off, e, Nat.lt_of_lt_of_le hlt hs, fun i x hi => rangeAt_blk (hr i x hi) (hk h0 _ e hlt)⟩
theorem Sx.Ok.later (h : s.Ok f sz w) (hb : Below w.heap.size w w') : s.Ok f sz w' := h.keep hb.size (fun _ x _ hx => hb.block _ hx)
theorem Sx.Ok.nil (w : World) (c : Nat) : Sx.Ok f sz w (⟨none, 0, 0, []⟩ : Sx α) := ⟨rfl, Nat.le_refl _, Nat.zero_le _, fun _ => ⟨rfl, rfl⟩, fun h => absurd h (by simp)⟩
/-- the piece from i up to j -/
def Sx.cut (s : Sx α) (sz i j : Nat) : Sx α := ⟨s.a.map fun x => ⟨x.block, x.off + i * sz, x.spot⟩, j - i, s.c - i, (s.xs.drop i).take (j - i)⟩
theorem Sx.Ok.cut (h : s.Ok f sz w) {i j : Nat} (hij : i ≤ j) (hj : j ≤ s.n) : (s.cut sz i j).Ok f sz w := by
  have hl := h.len
  have hle := h.le
  refine ⟨by simp [Sx.cut]; omega, by simp [Sx.cut]; omega, Nat.le_trans (by simp [Sx.cut]) h.mx, fun e => ?_, fun h0 => ?_⟩
  · have : s.a = none := by cases hs : s.a <;> simp [Sx.cut, hs] at e ⊢
    have h1 := h.nn this
    simp only [Sx.cut]; omega
  · simp only [Sx.cut] at h0
    obtain ⟨b, off, e, hlt, hr⟩ := h.lies (by omega)
    refine ⟨b, off + i * sz, by simp [Sx.cut, e], hlt, fun k x hk => ?_⟩
    simp only [Sx.cut] at hk
    have hk' : s.xs[i + k]? = some x := by
      rw [List.getElem?_take] at hk
      split at hk
      · rwa [List.getElem?_drop] at hk
      · cases hk
    have := hr (i + k) x hk'
    rwa [show off + (i + k) * sz = off + i * sz + k * sz by rw [Nat.add_mul]; omega] at this
theorem Sx.Ok.at_ (h : s.Ok f sz w) {i : Nat} {x : α} (hi : s.xs[i]? = some x) : ∃ b off, s.a = some ⟨b, off, none⟩ ∧ b < w.heap.size ∧ w.rangeAt b (off + i * sz) (f x) := by
  have hlt := (List.getElem?_eq_some_iff.1 hi).1
  obtain ⟨b, off, e, hb, hr⟩ := h.lies (by have := h.len; omega)
  exact ⟨b, off, e, hb, hr i x hi⟩
theorem flat_len : ∀ {xs : List α}, (∀ x ∈ xs, (f x).length = sz) → (xs.flatMap f).length = xs.length * sz
  | [], _ => by simp
  | x :: t, h => by
    rw [List.flatMap_cons, List.length_append, h x (by simp), flat_len (fun y hy => h y (by simp [hy])), List.length_cons, Nat.add_mul]; omega
theorem flat_at : ∀ {xs : List α} {i : Nat} {x : α}, (∀ x ∈ xs, (f x).length = sz) → xs[i]? = some x → ∀ (j : Nat) (v : Value), (f x)[j]? = some v → (xs.flatMap f)[i * sz + j]? = some v
  | [], i, x, _, h, j, v, hv => by simp at h
  | a :: t, 0, x, hh, h, j, v, hv => by
    simp at h; subst h
    have hj := (List.getElem?_eq_some_iff.1 hv).1
    rw [List.flatMap_cons, List.getElem?_append_left (by omega)]
    simpa using hv
  | a :: t, i + 1, x, hh, h, j, v, hv => by
    have ha := hh a (by simp)
    rw [List.flatMap_cons, List.getElem?_append_right (by rw [ha, Nat.add_mul]; omega), ha]
    have := flat_at (xs := t) (i := i) (fun l hl => hh l (by simp [hl])) (by simpa using h) j v hv
    rw [show (i + 1) * sz + j - sz = i * sz + j by rw [Nat.add_mul]; omega]; exact this
theorem Sx.Ok.flat (h : s.Ok f sz w) (hl : ∀ x ∈ s.xs, (f x).length = sz) (hsz : 0 < sz) {b off : Nat} (ha : s.a = some ⟨b, off, none⟩) (j : Nat) (v : Value) (hv : (s.xs.flatMap f)[j]? = some v) : w.cell? ⟨b, off + j, none⟩ = some v := by
  have hj := (List.getElem?_eq_some_iff.1 hv).1
  rw [flat_len hl] at hj
  have hd : j / sz < s.xs.length := by rw [Nat.div_lt_iff_lt_mul hsz]; exact hj
  obtain ⟨x, hx⟩ : ∃ x, s.xs[j / sz]? = some x := ⟨_, List.getElem?_eq_getElem hd⟩
  obtain ⟨b', off', e, -, hr⟩ := h.lies (by have := h.len; have h9 : 0 < s.xs.length := Nat.lt_of_le_of_lt (Nat.zero_le _) hd; omega)
  rw [ha] at e; cases e
  have hm : j % sz < (f x).length := by rw [hl x (List.mem_of_getElem? hx)]; exact Nat.mod_lt _ hsz
  have h1 := flat_at hl hx (j % sz) _ (List.getElem?_eq_getElem hm)
  have e2 : j / sz * sz + j % sz = j := by rw [Nat.mul_comm]; exact Nat.div_add_mod j sz
  rw [e2, hv] at h1
  have h2 := hr _ x hx (j % sz) _ (List.getElem?_eq_getElem hm)
  rw [← h1] at h2
  rw [show off + j / sz * sz + j % sz = off + j by omega] at h2
  exact h2
/-- a row of one's own is a slice -/
theorem own_sx {base T : Nat} {v : Value} {xs : List α} (h : w.ownsRow base T sz v xs.length (xs.flatMap f)) (hl : ∀ x ∈ xs, (f x).length = sz) : ∃ s : Sx α, v = s.v ∧ s.xs = xs ∧ s.Ok f sz w ∧ (∀ x, s.a = some x → base ≤ x.block ∧ v.ownBlock = some x.block) := by
  obtain ⟨h1, h2⟩ := h
  rcases h2 with ⟨rfl, h0⟩ | ⟨g, cap, cur, rfl, hb, hg, hle, hmx, hsz, ht⟩
  · have e : xs = [] := List.eq_nil_of_length_eq_zero h0
    subst e
    exact ⟨⟨none, 0, 0, []⟩, rfl, rfl, .nil w 0, fun x hx => by cases hx⟩
  · have hlt : g < w.heap.size := by
      by_cases hlt : g < w.heap.size
      · exact hlt
      · rw [Array.getElem?_eq_none (by omega)] at hg; cases hg
    refine ⟨⟨some ⟨g, 0, none⟩, xs.length, cap, xs⟩, rfl, rfl, ⟨rfl, hle, hmx, (fun e => by cases e), fun _ => ⟨g, 0, rfl, hlt, fun i x hi j u hu => ?_⟩⟩, fun x hx => by cases hx; exact ⟨hb, rfl⟩⟩
    have hc := flat_at hl hi j u hu
    rw [← ht] at hc
    rw [Nat.zero_add, cell_of_row w g (i * sz + j) _ _ _ hg]
    rw [List.getElem?_take] at hc
    split at hc
    · simpa using hc
    · cases hc
theorem own_nil (w : World) (base T : Nat) : w.ownsRow base T sz (.slice none 0 0) ([] : List α).length (([] : List α).flatMap f) := ⟨by simp, .inl ⟨rfl, rfl⟩⟩
end

section
variable {α : Type} {f : α → List Value} {sz : Nat} {w : World} {P : Program} {o : Oper} {a : Act} {k : Act → World → Prop} {Q : Exit → Act → World → Prop}
/-- append of any slice to a row of one's own -/
theorem op_append (s x : Operand) (t : TypeId) (ho : o.op = .call { callee := .builtin .append, args := #[s, x], argTypes := #[t, t] })
    {base : Nat} {e : TypeId} {zv : Value} {bytes : Nat} (ht : P.underlying t = some (.slice e)) (hi : (P.info? e).map (fun i => (i.zero, i.size, i.bytes)) = some (some zv, sz, bytes)) (hzs : zv.cells.size = sz) (hsz : 0 < sz)
    {v : Value} {xs : List α} (hs : a.eval s = v) (hown : w.ownsRow base e sz v xs.length (xs.flatMap f)) (y : Sx α) (hy : y.Ok f sz w) (hl : ∀ z ∈ y.xs, (f z).length = sz) (h1 : ∀ z ∈ y.xs, ∀ u ∈ f z, u.oneCell' = true) (hx : a.eval x = y.v)
    (hb : (xs.length + y.n) * bytes ≤ 140737488355328) (hb1 : 0 < bytes) (hbase : base ≤ w.heap.size)
    (h : ∀ v' w', w'.ownsRow base e sz v' (xs ++ y.xs).length ((xs ++ y.xs).flatMap f) → w.grownBy w' v.ownBlock → k (a.put o.dst v') w') : o.wp P a w k Q := by
  obtain ⟨i, hii, hiz, his, hib⟩ : ∃ i, P.info? e = some i ∧ i.zero = some zv ∧ i.size = sz ∧ i.bytes = bytes := by
    cases hq : P.info? e with
    | none => rw [hq] at hi; simp at hi
    | some i =>
      rw [hq] at hi
      simp only [Option.map_some, Option.some.injEq, Prod.mk.injEq] at hi
      exact ⟨i, rfl, hi.1, hi.2.1, hi.2.2⟩
  cases hya : y.a with
  | none =>
    obtain ⟨h0, hc0⟩ := hy.nn hya
    have hl0 : y.xs = [] := List.eq_nil_of_length_eq_zero (by rw [hy.len, h0])
    have hr := run_append_owned_none (P := P) (w := w) base t o.type e i sz ht hii v xs.length (xs.flatMap f) hown
    unfold Oper.wp
    simp [execOp, ho, resolve, invoke, builtin, hs, hx, Sx.v, hya, h0, hc0, hr, Result.andThen]
    exact h v w (by rw [hl0]; simpa using hown) (World.grownBy.refl w _)
  | some ad =>
    have hc1 : ∀ j u, (y.xs.flatMap f)[j]? = some u → w.cell? (ad.add j) = some u := fun j u hu => by
      have hpos : 0 < y.xs.length := by
        rcases Nat.eq_zero_or_pos y.xs.length with h0 | h0
        · rw [List.eq_nil_of_length_eq_zero h0] at hu; simp at hu
        · exact h0
      obtain ⟨b, off, e2, -, -⟩ := hy.lies (by rw [← hy.len]; exact hpos)
      rw [hya] at e2; cases e2
      rw [addr_add]
      exact hy.flat hl hsz hya j u hu
    have hc2 : ∀ u ∈ y.xs.flatMap f, u.oneCell' = true := fun u hu => by
      obtain ⟨z, hz, hu⟩ := List.mem_flatMap.1 hu
      exact h1 z hz u hu
    have hc3 : xs.length + y.n ≤ maxLen := by
      have : (xs.length + y.n) * 1 ≤ (xs.length + y.n) * bytes := Nat.mul_le_mul_left _ hb1
      unfold maxLen; omega
    obtain ⟨v', w', hr, r1, r2, r3⟩ := run_append_own_at (P := P) w base t o.type e i zv sz bytes ht hii hiz his hib hzs hsz v xs.length (xs.flatMap f) hown ad y.n y.c (y.xs.flatMap f) (by rw [flat_len hl, hy.len]) hc1 hc2 hc3 hb hbase
    unfold Oper.wp
    simp [execOp, ho, resolve, invoke, builtin, hs, hx, Sx.v, hya, hr, Result.andThen]
    refine h v' w' ?_ r2
    rw [List.length_append, List.flatMap_append, hy.len]; exact r1
end
end Go.Proofs.Ytibebhlblmdcgaa
