import Derived.Test.YtdcaojiiaocnaaaGreatDoorQGrB
import Derived.Laws.Tables
import Derived.Deep.MidRow
import Derived.Test.YtdcaojiiaocnaaaGreatDoorQGrA
namespace Go.Proofs.YtdcaojiiaocnaaaGreatDoor
open Go.RowKit

/-- append to a row of one's own: the row stays where it is or goes to new memory -/
theorem run_append_own_at {P : Program} (w : World) (base : Nat) (t ty e : TypeId) (i : TypeInfo) (z : Value) (size bytes : Nat) (ht : P.underlying t = some (.slice e)) (hi : P.info? e = some i) (hz : i.zero = some z)
    (hsize : i.size = size) (hby : i.bytes = bytes) (hzs : z.cells.size = size) (hsz : 0 < size)
    (v : Value) (n : Nat) (xs : List Value) (hown : w.ownsRow base e size v n xs)
    (a : Addr) (m c : Nat) (news : List Value) (hl : news.length = m * size) (hnews : ∀ j u, news[j]? = some u → w.cell? (a.add j) = some u) (h1 : ∀ u ∈ news, u.oneCell' = true)
    (h63 : n + m ≤ maxLen) (hbytes : (n + m) * bytes ≤ 140737488355328) (hbase : base ≤ w.heap.size) :
    ∃ v' w', (Builtin.append_ #[t, t] ty #[v, .slice (some a) m c]).run P w = .ok v' w' ∧ w'.ownsRow base e size v' (n + m) (xs ++ news) ∧ w.grownBy w' v.ownBlock ∧
      (v'.ownBlock = v.ownBlock ∨ v'.ownBlock = some w.heap.size) := by
  obtain ⟨v', w', hr, h2, h3, h4⟩ := run_append_own (P := P) w base t ty e i z size bytes ht hi hz hsize hby hzs hsz v n xs hown a m c news hl hnews h1 h63 hbytes hbase
  refine ⟨v', w', hr, h2, h3, ?_⟩
  subst hsize
  subst hby
  have hsmall : n + m ≤ 9223372036854775807 := by simp only [maxLen] at h63; omega
  rcases hown.2 with ⟨rfl, rfl⟩ | ⟨g, cap, cur, rfl, hbg, hg, hnc, hcm, hcs, htake⟩
  · by_cases hm : m = 0
    · left; rw [h4.2 ⟨rfl, hm⟩]
    · have hr2 := run_append_nil (P := P) w t ty e i z ht hi hz a m c news hl hnews (by omega) (by omega) (by have hb := hbytes; simp only [Nat.zero_add] at hb; omega)
      rw [hr] at hr2
      injection hr2 with e1 e2
      right; rw [e1]; rfl
  · by_cases hroom : n + m ≤ cap
    · have hfit : n * i.size + news.length ≤ cur.size := by rw [hl, hcs, ← Nat.add_mul]; exact Nat.mul_le_mul_right _ hroom
      have hr2 := run_append_room (P := P) w t ty e i ht hi g n cap cur hg a m c news hl hnews h1 hroom hfit
      rw [hr] at hr2
      injection hr2 with e1 e2
      left; rw [e1]; rfl
    · have holds : ∀ j u, xs[j]? = some u → w.cell? ((⟨g, 0, none⟩ : Addr).add j) = some u := hown.cells (g := g) rfl
      have hr2 := run_append_grow (P := P) w t ty e i z ht hi hz ⟨g, 0, none⟩ n cap xs hown.1 holds a m c news hl hnews (by omega) (by omega) (growslice_fits (by omega) hbytes)
      rw [hr] at hr2
      injection hr2 with e1 e2
      right; rw [e1]; rfl
theorem wpList_append_own_at {P : Program} {w : World} {ops : Array Oper} {rest : List Oper} {o : Oper} {a : Act} {Q : Exit → Act → World → Prop} (hgd : o.guard = none) (s x : Operand) (t : TypeId)
    (ho : o.op = .call { callee := .builtin .append, args := #[s, x], argTypes := #[t, t] })
    (base : Nat) (e : TypeId) (i : TypeInfo) (z : Value) (size bytes : Nat) (ht : P.underlying t = some (.slice e)) (hi : P.info? e = some i) (hz : i.zero = some z)
    (hsize : i.size = size) (hby : i.bytes = bytes) (hzs : z.cells.size = size) (hsz : 0 < size)
    (v : Value) (n : Nat) (xs : List Value) (hs : a.eval s = v) (hown : w.ownsRow base e size v n xs)
    (ad : Addr) (m c : Nat) (news : List Value) (hx : a.eval x = .slice (some ad) m c) (hl : news.length = m * size) (hnews : ∀ j u, news[j]? = some u → w.cell? (ad.add j) = some u) (h1 : ∀ u ∈ news, u.oneCell' = true)
    (h63 : n + m ≤ maxLen) (hbytes : (n + m) * bytes ≤ 140737488355328) (hbase : base ≤ w.heap.size)
    (h : ∀ v' w', Hid (w'.ownsRow base e size v' (n + m) (xs ++ news)) → Hid (w.grownBy w' v.ownBlock) → Hid (v'.ownBlock = v.ownBlock ∨ v'.ownBlock = some w.heap.size) → wpList P ops Q rest (a.put o.dst v') w') : wpList P ops Q (o :: rest) a w := by
  refine wpList_plain hgd fun K hK => ?_
  obtain ⟨v', w', hr, h2, h3, h4⟩ := run_append_own_at (P := P) w base t o.type e i z size bytes ht hi hz hsize hby hzs hsz v n xs hown ad m c news hl hnews h1 h63 hbytes hbase
  unfold Oper.wp execOp
  simp only [ho, resolve, invoke, builtin, Sem.run_bind, Sem.run_pure, Result.andThen_ok, List.map_toArray, List.map_cons, List.map_nil, hs, hx, hr]
  exact hK _ _ (h v' w' h2 h3 h4)
/-- two rows of one's own lie apart -/
def Apt (v u : Value) : Prop := v.ownBlock = none ∨ v.ownBlock ≠ u.ownBlock
theorem Apt.symm {v u : Value} (h : Apt v u) : Apt u v := by
  unfold Apt at *
  cases hu : u.ownBlock with
  | none => exact .inl rfl
  | some k => right; intro e; rcases h with h | h
              · rw [h] at e; cases e
              · exact h (e.symm.trans hu.symm ▸ e.symm ▸ rfl)
theorem Apt.grown {w : World} {base e n : Nat} {v v' u : Value} {xs : List Value} (h : Apt v u) (hu : w.ownsRow base e 1 u n xs) (hv : v'.ownBlock = v.ownBlock ∨ v'.ownBlock = some w.heap.size) : Apt v' u := by
  unfold Apt at *
  rcases hv with hv | hv
  · rw [hv]; exact h
  · right
    rw [hv]
    intro e1
    have := (hu.lt _ e1.symm).2
    omega
set_option linter.unusedSimpArgs false
set_option linter.unusedVariables false

/-! Rows of structs: slices built of parts, appends of any width. -/
def cellsL (v : Value) : List Value := v.cells.toList
def prts : List Value → Nat → List (Nat × Value)
  | [], _ => []
  | v :: l, k => (k, v) :: prts l (k + 1)
theorem fold_set (c : List Value) : ∀ (s off : Nat) (pre z rest : List Value), z.length = c.length → pre.length = off + s →
    (c.zipIdx s).foldl (fun (cs : Array Value) (p : Value × Nat) => cs.setIfInBounds (off + p.2) p.1) (pre ++ (z ++ rest)).toArray = (pre ++ (c ++ rest)).toArray := by
  induction c with
  | nil => intro s off pre z rest hz _; have : z = [] := List.eq_nil_of_length_eq_zero hz; subst this; rfl
  | cons a t ih =>
    intro s off pre z rest hz hp
    obtain ⟨z0, zt, rfl⟩ : ∃ z0 zt, z = z0 :: zt := by cases z with | nil => simp at hz | cons z0 zt => exact ⟨z0, zt, rfl⟩
    rw [List.zipIdx_cons, List.foldl_cons]
    have e : (pre ++ (z0 :: zt ++ rest)).toArray.setIfInBounds (off + s) a = ((pre ++ [a]) ++ (zt ++ rest)).toArray := by
      rw [← hp]; simp
    show List.foldl _ ((pre ++ (z0 :: zt ++ rest)).toArray.setIfInBounds (off + s) a) _ = _
    rw [e, ih (s + 1) off (pre ++ [a]) zt rest (by simpa using hz) (by simp; omega)]
    simp
theorem fill_cat (place : Nat → Option (Nat × Nat)) (vs : List Value) : ∀ (k : Nat) (pre z : List Value), (∀ j v, vs[j]? = some v → place (k + j) = some (pre.length + ((vs.take j).flatMap cellsL).length, v.cells.size)) → z.length = (vs.flatMap cellsL).length →
    Instr.fill place (pre ++ z).toArray (prts vs k) = some (pre ++ vs.flatMap cellsL).toArray := by
  induction vs with
  | nil => intro k pre z _ hz; have : z = [] := List.eq_nil_of_length_eq_zero (by simpa using hz); subst this; simp [prts, Instr.fill]
  | cons v t ih =>
    intro k pre z hp hz
    have h0 := hp 0 v rfl
    simp at h0
    rw [List.flatMap_cons, List.length_append] at hz
    have hc : (cellsL v).length = v.cells.size := by simp [cellsL]
    rw [prts, Instr.fill, h0]
    simp only []
    rw [if_neg (by simp; omega), ← Array.foldl_toList, Array.toList_zipIdx]
    have hz2 : z = z.take v.cells.size ++ z.drop v.cells.size := (List.take_append_drop _ _).symm
    have hf := fold_set (cellsL v) 0 pre.length pre (z.take v.cells.size) (z.drop v.cells.size) (by rw [List.length_take, hc]; omega) (by simp)
    rw [← hz2] at hf
    have hf' : List.foldl (fun (cs : Array Value) (x : Value × Nat) => cs.setIfInBounds (pre.length + x.2) x.1) (pre ++ z).toArray (v.cells.toList.zipIdx) = (pre ++ (cellsL v ++ z.drop v.cells.size)).toArray := hf
    rw [hf', ← List.append_assoc, ih (k + 1) (pre ++ cellsL v) (z.drop v.cells.size) (fun j u hj => ?_) (by rw [List.length_drop]; omega), List.flatMap_cons, List.append_assoc]
    have := hp (j + 1) u (by simpa using hj)
    rw [show k + 1 + j = k + (j + 1) by omega, this, List.take_succ_cons, List.flatMap_cons, List.length_append, List.length_append, Nat.add_assoc]
theorem flat_size (vs : List Value) (m : Nat) (hm : ∀ v ∈ vs, v.cells.size = m) : (vs.flatMap cellsL).length = vs.length * m := by
  induction vs with
  | nil => simp
  | cons a t ih =>
    rw [List.flatMap_cons, List.length_append, ih (fun v hv => hm v (by simp [hv]))]
    have : (cellsL a).length = m := by rw [cellsL, Array.length_toList]; exact hm a (by simp)
    rw [this, List.length_cons, Nat.add_mul]; omega
theorem run_bsG {P : Program} (w : World) (t elem : TypeId) (i : TypeInfo) (zv : Value) (vs : List Value) (m : Nat) (hu : P.underlying t = some (.slice elem)) (hi : P.info? elem = some i) (hs : i.size = m) (hz : i.zero = some zv) (hm : ∀ v ∈ vs, v.cells.size = m) (h0 : 0 < vs.length * m) (h24 : vs.length * m ≤ 16777216) :
    (Instr.buildSlice t vs.length (prts vs 0).toArray).run P w = .ok (.slice (some ⟨w.heap.size, 0, none⟩) vs.length vs.length) (w.alloc (.cells (vs.flatMap cellsL).toArray elem)) := by
  have hf' : ∀ f : Nat → Value, Instr.fill (fun i => some (i * m, m)) ((Array.range (vs.length * m)).map f) (prts vs 0) = some (vs.flatMap cellsL).toArray := fun f => by
    have hf := fill_cat (fun i => some (i * m, m)) vs 0 [] ((Array.range (vs.length * m)).map f).toList (fun j v hj => by
      have hjl : j < vs.length := (List.getElem?_eq_some_iff.1 hj).1
      have h1 := flat_size (vs.take j) m (fun v hv => hm v (List.mem_of_mem_take hv))
      rw [List.length_take, Nat.min_eq_left (by omega)] at h1
      simp only [List.length_nil, Nat.zero_add]
      rw [h1, hm v (List.mem_of_getElem? hj)]) (by simp [flat_size vs m hm])
    rw [List.nil_append, Array.toArray_toList, List.nil_append] at hf
    exact hf
  have hT : ∀ w, (typeInfo elem).run P w = .ok i w := fun w => run_typeInfo w hi
  have h24' : ¬ (16777216 < vs.length * m) := by omega
  have h0' : ¬ (vs.length * m = 0) := by omega
  simp [Instr.buildSlice, run_underlying hu, go_sem, sizeOf, zeroValue, hT, hs, hz, h24', Result.andThen]
  rw [if_neg h0', hf']
  simp [go_sem]

/-- a slice of structs at a step -/
theorem wpList_bsG {P : Program} {ops : Array Oper} {rest : List Oper} {o : Oper} {a : Act} {w : World} {Q : Exit → Act → World → Prop} (hgd : o.guard = none) (t : TypeId) (n : Nat) (ps : Array (Nat × Operand)) (ho : o.op = .buildSlice t n ps) (v : Value) (w' : World)
    (hrun : (Instr.buildSlice t n (ps.map fun p => (p.1, a.eval p.2))).run P w = .ok v w') (h : wpList P ops Q rest (a.put o.dst v) w') : wpList P ops Q (o :: rest) a w := by
  refine wpList_plain hgd fun K hK => ?_
  unfold Oper.wp
  simp [execOp, ho, hrun, Result.andThen]
  exact hK _ _ h
theorem step_bsG {P : Program} {ops : Array Oper} {o : Oper} {a : Act} {w : World} {K : Act → World → Prop} {Q : Exit → Act → World → Prop} {E : Prop} (hgd : o.guard = none) (t : TypeId) (n : Nat) (ps : Array (Nat × Operand)) (ho : o.op = .buildSlice t n ps) (v : Value) (w' : World)
    (hrun : (Instr.buildSlice t n (ps.map fun p => (p.1, a.eval p.2))).run P w = .ok v w') (h : K (a.put o.dst v) w') : if Region.wanted o (yielded ops a.tmps) = true then Oper.wp P o a w K Q else E := by
  have hw : Region.wanted o (yielded ops a.tmps) = true := by simp [Region.wanted, hgd]
  rw [if_pos hw]
  unfold Oper.wp
  simp [execOp, ho, hrun, Result.andThen]
  exact h
theorem step_appG {P : Program} {ops : Array Oper} {o : Oper} {a : Act} {w : World} {K : Act → World → Prop} {Q : Exit → Act → World → Prop} {E : Prop} (hgd : o.guard = none) (s x : Operand) (t : TypeId)
    (ho : o.op = .call { callee := .builtin .append, args := #[s, x], argTypes := #[t, t] })
    (base : Nat) (e : TypeId) (i : TypeInfo) (z : Value) (size bytes : Nat) (ht : P.underlying t = some (.slice e)) (hi : P.info? e = some i) (hz : i.zero = some z)
    (hsize : i.size = size) (hby : i.bytes = bytes) (hzs : z.cells.size = size) (hsz : 0 < size)
    (v : Value) (n : Nat) (xs : List Value) (hs : a.eval s = v) (hown : w.ownsRow base e size v n xs)
    (ad : Addr) (m c : Nat) (news : List Value) (hx : a.eval x = .slice (some ad) m c) (hl : news.length = m * size) (hnews : ∀ j u, news[j]? = some u → w.cell? (ad.add j) = some u) (h1 : ∀ u ∈ news, u.oneCell' = true)
    (h63 : n + m ≤ maxLen) (hbytes : (n + m) * bytes ≤ 140737488355328) (hbase : base ≤ w.heap.size)
    (h : ∀ v' w', w'.ownsRow base e size v' (n + m) (xs ++ news) → w.grownBy w' v.ownBlock → K (a.put o.dst v') w') :
    if Region.wanted o (yielded ops a.tmps) = true then Oper.wp P o a w K Q else E := by
  have hw : Region.wanted o (yielded ops a.tmps) = true := by simp [Region.wanted, hgd]
  rw [if_pos hw]
  obtain ⟨v', w', hr, r1, r2, r3⟩ := run_append_own_at (P := P) w base t o.type e i z size bytes ht hi hz hsize hby hzs hsz v n xs hown ad m c news hl hnews h1 h63 hbytes hbase
  unfold Oper.wp
  simp [execOp, ho, resolve, invoke, builtin, hs, hx, hr, Result.andThen]
  exact h v' w' r1 r2
theorem wpList_appG {P : Program} {ops : Array Oper} {rest : List Oper} {o : Oper} {a : Act} {w : World} {Q : Exit → Act → World → Prop} (hgd : o.guard = none) (s x : Operand) (t : TypeId)
    (ho : o.op = .call { callee := .builtin .append, args := #[s, x], argTypes := #[t, t] })
    (base : Nat) (e : TypeId) (i : TypeInfo) (z : Value) (size bytes : Nat) (ht : P.underlying t = some (.slice e)) (hi : P.info? e = some i) (hz : i.zero = some z)
    (hsize : i.size = size) (hby : i.bytes = bytes) (hzs : z.cells.size = size) (hsz : 0 < size)
    (v : Value) (n : Nat) (xs : List Value) (hs : a.eval s = v) (hown : w.ownsRow base e size v n xs)
    (ad : Addr) (m c : Nat) (news : List Value) (hx : a.eval x = .slice (some ad) m c) (hl : news.length = m * size) (hnews : ∀ j u, news[j]? = some u → w.cell? (ad.add j) = some u) (h1 : ∀ u ∈ news, u.oneCell' = true)
    (h63 : n + m ≤ maxLen) (hbytes : (n + m) * bytes ≤ 140737488355328) (hbase : base ≤ w.heap.size)
    (h : ∀ v' w', w'.ownsRow base e size v' (n + m) (xs ++ news) → w.grownBy w' v.ownBlock → wpList P ops Q rest (a.put o.dst v') w') :
    wpList P ops Q (o :: rest) a w := by
  refine wpList_plain hgd fun K hK => ?_
  obtain ⟨v', w', hr, r1, r2, r3⟩ := run_append_own_at (P := P) w base t o.type e i z size bytes ht hi hz hsize hby hzs hsz v n xs hown ad m c news hl hnews h1 h63 hbytes hbase
  unfold Oper.wp
  simp [execOp, ho, resolve, invoke, builtin, hs, hx, hr, Result.andThen]
  exact hK _ _ (h v' w' r1 r2)

/-! rows of one's own -/
theorem own_keepG {w w' : World} {base e sz n : Nat} {v : Value} {xs : List Value} {row : Option Nat} (h : w.ownsRow base e sz v n xs) (hg : w.grownBy w' row) (hne : ∀ g, v.ownBlock = some g → some g ≠ row) : w'.ownsRow base e sz v n xs := by
  refine ⟨h.1, ?_⟩
  rcases h.2 with h2 | ⟨g, cap, cur, h1, h2, h3, h4⟩
  · exact .inl h2
  · have hgl : g < w.heap.size := (h.lt g (by rw [h1]; rfl)).2
    exact .inr ⟨g, cap, cur, h1, h2, (hg.block g hgl (hne g (by rw [h1]; rfl))).trans h3, h4⟩
theorem own_neG {w : World} {base base' n n' e e' sz sz' : Nat} {v v' : Value} {xs xs' : List Value} (h : w.ownsRow base e sz v n xs) (h' : w.ownsRow base' e' sz' v' n' xs') (he : e ≠ e') : ∀ g, v.ownBlock = some g → some g ≠ v'.ownBlock := by
  intro g hg hv
  rcases h.2 with ⟨rfl, -⟩ | ⟨g1, cap, cur, rfl, -, h1, -⟩
  · simp [Value.ownBlock] at hg
  rcases h'.2 with ⟨rfl, -⟩ | ⟨g2, cap', cur', rfl, -, h2, -⟩
  · simp [Value.ownBlock] at hv
  simp only [Value.ownBlock, Option.some.injEq] at hg hv
  subst hg hv
  rw [h1] at h2
  simp at h2
  exact he h2.2
theorem own_belG {B : Nat} {w w1 : World} {row : Option Nat} {v : Value} {base e sz n : Nat} {xs : List Value} (h : w.ownsRow base e sz v n xs) (hg : w.grownBy w1 v.ownBlock) (hB : B ≤ base) (hs : B ≤ w.heap.size) : Below B w w1 :=
  ⟨hg.os, hg.tape, hg.output, hg.size, fun k hk => hg.block k (by omega) (fun e => by
    rcases h.2 with ⟨rfl, -⟩ | ⟨g, cap, cur, rfl, hge, -⟩
    · simp [Value.ownBlock] at e
    · simp [Value.ownBlock] at e; omega)⟩
theorem own_laterG {w w' : World} {base e sz n : Nat} {v : Value} {xs : List Value} (h : w.ownsRow base e sz v n xs) (hb : Below w.heap.size w w') : w'.ownsRow base e sz v n xs := by
  refine ⟨h.1, ?_⟩
  rcases h.2 with h2 | ⟨g, cap, cur, h1, h2, h3, h4⟩
  · exact .inl h2
  · have hgl : g < w.heap.size := (h.lt g (by rw [h1]; rfl)).2
    exact .inr ⟨g, cap, cur, h1, h2, (hb.block g hgl).trans h3, h4⟩
theorem own_monoG {w : World} {base base' e sz n : Nat} {v : Value} {xs : List Value} (h : w.ownsRow base e sz v n xs) (hb : base' ≤ base) : w.ownsRow base' e sz v n xs := by
  refine ⟨h.1, ?_⟩
  rcases h.2 with h2 | ⟨g, cap, cur, h1, h2, h3⟩
  · exact .inl h2
  · exact .inr ⟨g, cap, cur, h1, Nat.le_trans hb h2, h3⟩
theorem own_newG (w : World) (e sz n : Nat) (xs : List Value) (hl : xs.length = n * sz) (hn : n ≤ 1000) (hsz : 0 < sz) : (w.alloc (.cells xs.toArray e)).ownsRow w.heap.size e sz (.slice (some ⟨w.heap.size, 0, none⟩) n n) n xs :=
  ⟨hl, .inr ⟨w.heap.size, n, xs.toArray, rfl, Nat.le_refl _, heap_alloc_last w _, Nat.le_refl _, by unfold maxLen; omega, by simpa using hl, by simp [← hl]⟩⟩


/-! What is written, told by a set of blocks. -/

structure Buts (S : Nat → Prop) (w w' : World) : Prop where
  os : w'.os = w.os
  tape : w'.tape = w.tape
  output : w'.output = w.output
  size : w.heap.size ≤ w'.heap.size
  block : ∀ k, k < w.heap.size → ¬ S k → w'.heap[k]? = w.heap[k]?
theorem Buts.refl (S : Nat → Prop) (w : World) : Buts S w w := ⟨rfl, rfl, rfl, Nat.le_refl _, fun _ _ _ => rfl⟩
theorem Buts.trans {S : Nat → Prop} {a b c : World} (x : Buts S a b) (y : Buts S b c) : Buts S a c :=
  ⟨y.os.trans x.os, y.tape.trans x.tape, y.output.trans x.output, Nat.le_trans x.size y.size, fun i hi h => (y.block i (Nat.lt_of_lt_of_le hi x.size) h).trans (x.block i hi h)⟩
/-- what is written later may be another set, on new blocks -/
theorem Buts.trans' {S T : Nat → Prop} {a b c : World} (x : Buts S a b) (y : Buts T b c) (h : ∀ k, k < a.heap.size → T k → S k) : Buts S a c :=
  ⟨y.os.trans x.os, y.tape.trans x.tape, y.output.trans x.output, Nat.le_trans x.size y.size, fun i hi hs => (y.block i (Nat.lt_of_lt_of_le hi x.size) (fun ht => hs (h i hi ht))).trans (x.block i hi hs)⟩
theorem Buts.mono {S T : Nat → Prop} {a b : World} (x : Buts S a b) (h : ∀ k, k < a.heap.size → S k → T k) : Buts T a b :=
  ⟨x.os, x.tape, x.output, x.size, fun i hi ht => x.block i hi (fun hs => ht (h i hi hs))⟩
theorem Buts.of_but {p : Nat} {a b : World} (x : But p a b) : Buts (· = p) a b := ⟨x.os, x.tape, x.output, x.size, fun i hi h => x.block i hi h⟩
theorem Buts.to_but {p : Nat} {a b : World} (x : Buts (· = p) a b) : But p a b := ⟨x.os, x.tape, x.output, x.size, fun i hi h => x.block i hi h⟩
theorem Buts.of_below {S : Nat → Prop} {a b : World} (x : Below a.heap.size a b) : Buts S a b := ⟨x.os, x.tape, x.output, x.size, fun i hi _ => x.block i hi⟩
theorem Buts.below {S : Nat → Prop} {a b : World} (x : Buts S a b) {B : Nat} (hB : B ≤ a.heap.size) (h : ∀ k, S k → B ≤ k) : Below B a b :=
  ⟨x.os, x.tape, x.output, x.size, fun i hi => x.block i (Nat.lt_of_lt_of_le hi hB) (fun hs => by have := h i hs; omega)⟩
theorem Buts.setCell {S : Nat → Prop} {a b : World} (x : Buts S a b) {g : Nat} (hg : S g) (i : Nat) (v : Value) : Buts S a (b.setCell ⟨g, i, none⟩ v) :=
  x.trans ((Buts.of_but ((But.refl g b).setCell i v)).mono (fun k _ e => by subst e; exact hg))
theorem Buts.arr {S : Nat → Prop} {a b : World} (x : Buts S a b) {g : Nat} {ty : TypeId} {l : List Value} (h : Arr a g ty l) (hg : ¬ S g) : Arr b g ty l := (x.block g h.lt hg).trans h
theorem Buts.own {S : Nat → Prop} {a b : World} (x : Buts S a b) {base e sz n : Nat} {v : Value} {xs : List Value} (h : a.ownsRow base e sz v n xs) (hg : ∀ g, v.ownBlock = some g → ¬ S g) : b.ownsRow base e sz v n xs := by
  refine ⟨h.1, ?_⟩
  rcases h.2 with h2 | ⟨g, cap, cur, h1, h2, h3, h4⟩
  · exact .inl h2
  · have hgl : g < a.heap.size := (h.lt g (by rw [h1]; rfl)).2
    exact .inr ⟨g, cap, cur, h1, h2, (x.block g hgl (hg g (by rw [h1]; rfl))).trans h3, h4⟩
theorem Buts.lies {S : Nat → Prop} {a b : World} (x : Buts S a b) {ad : Option Addr} {l : List Int} (hl : Lies a ad l) (hg : 0 < l.length → ∀ y, ad = some y → ¬ S y.block) : Lies b ad l := by
  intro hp
  obtain ⟨bk, off, rfl, hlt, hc⟩ := hl hp
  exact ⟨bk, off, rfl, Nat.lt_of_lt_of_le hlt x.size, fun i hi => (World.cell?_of_block (w := a) (w' := b) (a := ⟨bk, off + i, none⟩) (x.block bk hlt (hg hp _ rfl))).trans (hc i hi)⟩
theorem Buts.ok {S : Nat → Prop} {a b : World} (x : Buts S a b) {s : Sl} (h : s.Ok a) (hg : 0 < s.l.length → ∀ y, s.a = some y → ¬ S y.block) : s.Ok b :=
  ⟨h.len, h.le, h.mx, h.nn, h.isB, x.lies h.lies hg⟩

theorem own_arr_ne {w : World} {base e n g sz : Nat} {ty : TypeId} {v : Value} {xs l : List Value} (h : w.ownsRow base e sz v n xs) (ha : Arr w g ty l) (ht : ty ≠ e) : v.ownBlock ≠ some g := by
  intro e1
  rcases h.2 with ⟨rfl, -⟩ | ⟨g', cap, cur, rfl, -, hg, -⟩
  · simp [Value.ownBlock] at e1
  · simp only [Value.ownBlock, Option.some.injEq] at e1
    subst e1
    unfold Arr at ha
    rw [hg] at ha
    simp only [Option.some.injEq, Obj.cells.injEq] at ha
    exact ht ha.2.1.symm
theorem own_mono {w : World} {base base' e sz n : Nat} {v : Value} {xs : List Value} (h : w.ownsRow base e sz v n xs) (hb : base' ≤ base) : w.ownsRow base' e sz v n xs := by
  refine ⟨h.1, ?_⟩
  rcases h.2 with h2 | ⟨g, cap, cur, h1, h2, h3⟩
  · exact .inl h2
  · exact .inr ⟨g, cap, cur, h1, Nat.le_trans hb h2, h3⟩
/-- it lies where its block does -/
theorem own_to {w : World} {base base' e sz n : Nat} {v : Value} {xs : List Value} (h : w.ownsRow base e sz v n xs) (hb : ∀ g, v.ownBlock = some g → base' ≤ g) : w.ownsRow base' e sz v n xs := by
  refine ⟨h.1, ?_⟩
  rcases h.2 with h2 | ⟨g, cap, cur, h1, h2, h3⟩
  · exact .inl h2
  · exact .inr ⟨g, cap, cur, h1, hb g (by rw [h1]; rfl), h3⟩
theorem arr_ne {w : World} {g g' : Nat} {ty ty' : TypeId} {l l' : List Value} (h : Arr w g ty l) (h' : Arr w g' ty' l') (ht : ty ≠ ty') : g ≠ g' := by
  intro e
  subst e
  unfold Arr at h h'
  rw [h] at h'
  simp only [Option.some.injEq, Obj.cells.injEq] at h'
  exact ht h'.2.1
end Go.Proofs.YtdcaojiiaocnaaaGreatDoor
