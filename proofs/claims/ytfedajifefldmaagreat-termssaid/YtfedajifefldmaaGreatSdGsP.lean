import Derived.Test.YtfedajifefldmaaGreatSdGsM
import Derived.Test.YtfedajifefldmaaGreatSdAccX
import Derived.Deep.RegionHeld3
import Derived.Test.YtfedajifefldmaaGreatSdKCert
import Derived.Test.YtfedajifefldmaaGreatSdKFreeze
import Derived.Test.YtfedajifefldmaaGreatSdKAck
import Derived.Test.YtfedajifefldmaaGreatSdKRevocation
import Derived.Test.YtfedajifefldmaaGreatSdKFloor
import Derived.Test.YtfedajifefldmaaGreatSdKReceipt
import Derived.Test.YtfedajifefldmaaGreatSdKHead
import Derived.Deep.MidRow
import Derived.Deep.Cut
set_option linter.unusedSimpArgs false
set_option linter.unusedVariables false
namespace Go.Proofs.YtfedajifefldmaaGreat
open Go.RowKit
theorem flat_size (vs : List Value) (m : Nat) (hm : ∀ v ∈ vs, v.cells.size = m) : (vs.flatMap cellsL).length = vs.length * m := by
  induction vs with
  | nil => simp
  | cons a t ih =>
    rw [List.flatMap_cons, List.length_append, ih (fun v hv => hm v (by simp [hv]))]
    have : (cellsL a).length = m := by rw [cellsL, Array.length_toList]; exact hm a (by simp)
    rw [this, List.length_cons, Nat.add_mul]; omega
theorem run_bsG {P : Program} (w : World) (t elem : TypeId) (i : TypeInfo) (zv : Value) (vs : List Value) (m : Nat) (hu : P.underlying t = some (.slice elem)) (hi : P.info? elem = some i) (hs : i.size = m) (hz : i.zero = some zv) (hm : ∀ v ∈ vs, v.cells.size = m) (h0 : 0 < vs.length * m) (h24 : vs.length * m ≤ 16777216) :
    (Instr.buildSlice t vs.length (prts vs 0).toArray).run P w = .ok (.slice (some ⟨w.heap.size, 0, none⟩) vs.length vs.length) (w.alloc (.cells (vs.flatMap cellsL).toArray elem)) := by
  have hf' : ∀ f : Nat → Value, Instr.fill (fun i => some (i * m, m)) ((Array.range (vs.length * m)).map f) (prts vs 0) = some (vs.flatMap cellsL).toArray := fun f => by
    have hf := fill_cat (fun i => some (i * m, m)) vs 0 [] ((Array.range (vs.length * m)).map f).toList (fun j v hj => by
      have hjl : j < vs.length := (List.getElem?_eq_some_iff.1 hj).1
      have h1 := flat_size (vs.take j) m (fun v hv => hm v (List.mem_of_mem_take hv))
      rw [List.length_take, Nat.min_eq_left (by omega)] at h1
      simp only [List.length_nil, Nat.zero_add]
      rw [h1, hm v (List.mem_of_getElem? hj)]) (by simp [flat_size vs m hm])
    rw [List.nil_append, Array.toArray_toList, List.nil_append] at hf
    exact hf
  have hT : ∀ w, (typeInfo elem).run P w = .ok i w := fun w => run_typeInfo w hi
  have h24' : ¬ (16777216 < vs.length * m) := by omega
  have h0' : ¬ (vs.length * m = 0) := by omega
  simp [Instr.buildSlice, run_underlying hu, go_sem, sizeOf, zeroValue, hT, hs, hz, h24', Result.andThen]
  rw [if_neg h0', hf']
  simp [go_sem]
theorem wpList_bsG {P : Program} {ops : Array Oper} {rest : List Oper} {o : Oper} {a : Act} {w : World} {Q : Exit → Act → World → Prop} (hgd : o.guard = none) (t : TypeId) (n : Nat) (ps : Array (Nat × Operand)) (ho : o.op = .buildSlice t n ps) (v : Value) (w' : World)
    (hrun : (Instr.buildSlice t n (ps.map fun p => (p.1, a.eval p.2))).run P w = .ok v w') (h : wpList P ops Q rest (a.put o.dst v) w') : wpList P ops Q (o :: rest) a w := by
  refine wpList_plain hgd fun K hK => ?_
  unfold Oper.wp
  simp [execOp, ho, hrun, Result.andThen]
  exact hK _ _ h
theorem step_bsG {P : Program} {ops : Array Oper} {o : Oper} {a : Act} {w : World} {K : Act → World → Prop} {Q : Exit → Act → World → Prop} {E : Prop} (hgd : o.guard = none) (t : TypeId) (n : Nat) (ps : Array (Nat × Operand)) (ho : o.op = .buildSlice t n ps) (v : Value) (w' : World)
    (hrun : (Instr.buildSlice t n (ps.map fun p => (p.1, a.eval p.2))).run P w = .ok v w') (h : K (a.put o.dst v) w') : if Region.wanted o (yielded ops a.tmps) = true then Oper.wp P o a w K Q else E := by
  have hw : Region.wanted o (yielded ops a.tmps) = true := by simp [Region.wanted, hgd]
  rw [if_pos hw]
  unfold Oper.wp
  simp [execOp, ho, hrun, Result.andThen]
  exact h
theorem yieldsIf_bd {P : Program} {ops : Array Oper} {S : World → Prop} {o : Oper} {a : Act} (hw : Region.wanted o (yielded ops a.tmps) = true) (t : TypeId) (ps : Array (Nat × Operand)) (ho : o.op = .build t ps) (cells : Array Value)
    (hb : P.built t (ps.map fun p => (p.1, a.eval p.2)).toList = some cells) : YieldsIf P ops S o (.agg cells) a := by
  refine .inl ⟨hw, fun w _ => ?_⟩
  have hrun := run_build (P := P) w t (ps.map fun p => (p.1, a.eval p.2)) cells hb
  simp [execOp, ho, hrun, Result.andThen]
theorem step_appG {P : Program} {ops : Array Oper} {o : Oper} {a : Act} {w : World} {K : Act → World → Prop} {Q : Exit → Act → World → Prop} {E : Prop} (hgd : o.guard = none) (s x : Operand) (t : TypeId)
    (ho : o.op = .call { callee := .builtin .append, args := #[s, x], argTypes := #[t, t] })
    (base : Nat) (e : TypeId) (i : TypeInfo) (z : Value) (size bytes : Nat) (ht : P.underlying t = some (.slice e)) (hi : P.info? e = some i) (hz : i.zero = some z)
    (hsize : i.size = size) (hby : i.bytes = bytes) (hzs : z.cells.size = size) (hsz : 0 < size)
    (v : Value) (n : Nat) (xs : List Value) (hs : a.eval s = v) (hown : w.ownsRow base e size v n xs)
    (ad : Addr) (m c : Nat) (news : List Value) (hx : a.eval x = .slice (some ad) m c) (hl : news.length = m * size) (hnews : ∀ j u, news[j]? = some u → w.cell? (ad.add j) = some u) (h1 : ∀ u ∈ news, u.oneCell' = true)
    (h63 : n + m ≤ maxLen) (hbytes : (n + m) * bytes ≤ 140737488355328) (hbase : base ≤ w.heap.size)
    (h : ∀ v' w', w'.ownsRow base e size v' (n + m) (xs ++ news) → w.grownBy w' v.ownBlock → K (a.put o.dst v') w') :
    if Region.wanted o (yielded ops a.tmps) = true then Oper.wp P o a w K Q else E := by
  have hw : Region.wanted o (yielded ops a.tmps) = true := by simp [Region.wanted, hgd]
  rw [if_pos hw]
  obtain ⟨v', w', hr, r1, r2, r3⟩ := run_append_own_at (P := P) w base t o.type e i z size bytes ht hi hz hsize hby hzs hsz v n xs hown ad m c news hl hnews h1 h63 hbytes hbase
  unfold Oper.wp
  simp [execOp, ho, resolve, invoke, builtin, hs, hx, hr, Result.andThen]
  exact h v' w' r1 r2
theorem wpList_appG {P : Program} {ops : Array Oper} {rest : List Oper} {o : Oper} {a : Act} {w : World} {Q : Exit → Act → World → Prop} (hgd : o.guard = none) (s x : Operand) (t : TypeId)
    (ho : o.op = .call { callee := .builtin .append, args := #[s, x], argTypes := #[t, t] })
    (base : Nat) (e : TypeId) (i : TypeInfo) (z : Value) (size bytes : Nat) (ht : P.underlying t = some (.slice e)) (hi : P.info? e = some i) (hz : i.zero = some z)
    (hsize : i.size = size) (hby : i.bytes = bytes) (hzs : z.cells.size = size) (hsz : 0 < size)
    (v : Value) (n : Nat) (xs : List Value) (hs : a.eval s = v) (hown : w.ownsRow base e size v n xs)
    (ad : Addr) (m c : Nat) (news : List Value) (hx : a.eval x = .slice (some ad) m c) (hl : news.length = m * size) (hnews : ∀ j u, news[j]? = some u → w.cell? (ad.add j) = some u) (h1 : ∀ u ∈ news, u.oneCell' = true)
    (h63 : n + m ≤ maxLen) (hbytes : (n + m) * bytes ≤ 140737488355328) (hbase : base ≤ w.heap.size)
    (h : ∀ v' w', w'.ownsRow base e size v' (n + m) (xs ++ news) → w.grownBy w' v.ownBlock → wpList P ops Q rest (a.put o.dst v') w') :
    wpList P ops Q (o :: rest) a w := by
  refine wpList_plain hgd fun K hK => ?_
  obtain ⟨v', w', hr, r1, r2, r3⟩ := run_append_own_at (P := P) w base t o.type e i z size bytes ht hi hz hsize hby hzs hsz v n xs hown ad m c news hl hnews h1 h63 hbytes hbase
  unfold Oper.wp
  simp [execOp, ho, resolve, invoke, builtin, hs, hx, hr, Result.andThen]
  exact hK _ _ (h v' w' r1 r2)
theorem own_keepG {w w' : World} {base e sz n : Nat} {v : Value} {xs : List Value} {row : Option Nat} (h : w.ownsRow base e sz v n xs) (hg : w.grownBy w' row) (hne : ∀ g, v.ownBlock = some g → some g ≠ row) : w'.ownsRow base e sz v n xs := by
  refine ⟨h.1, ?_⟩
  rcases h.2 with h2 | ⟨g, cap, cur, h1, h2, h3, h4⟩
  · exact .inl h2
  · have hgl : g < w.heap.size := (h.lt g (by rw [h1]; rfl)).2
    exact .inr ⟨g, cap, cur, h1, h2, (hg.block g hgl (hne g (by rw [h1]; rfl))).trans h3, h4⟩
theorem own_neG {w : World} {base base' n n' e e' sz sz' : Nat} {v v' : Value} {xs xs' : List Value} (h : w.ownsRow base e sz v n xs) (h' : w.ownsRow base' e' sz' v' n' xs') (he : e ≠ e') : ∀ g, v.ownBlock = some g → some g ≠ v'.ownBlock := by
  intro g hg hv
  rcases h.2 with ⟨rfl, -⟩ | ⟨g1, cap, cur, rfl, -, h1, -⟩
  · simp [Value.ownBlock] at hg
  rcases h'.2 with ⟨rfl, -⟩ | ⟨g2, cap', cur', rfl, -, h2, -⟩
  · simp [Value.ownBlock] at hv
  simp only [Value.ownBlock, Option.some.injEq] at hg hv
  subst hg hv
  rw [h1] at h2
  simp at h2
  exact he h2.2
theorem own_belG {B : Nat} {w w1 : World} {row : Option Nat} {v : Value} {base e sz n : Nat} {xs : List Value} (h : w.ownsRow base e sz v n xs) (hg : w.grownBy w1 v.ownBlock) (hB : B ≤ base) (hs : B ≤ w.heap.size) : Below B w w1 :=
  ⟨hg.os, hg.tape, hg.output, hg.size, fun k hk => hg.block k (by omega) (fun e => by
    rcases h.2 with ⟨rfl, -⟩ | ⟨g, cap, cur, rfl, hge, -⟩
    · simp [Value.ownBlock] at e
    · simp [Value.ownBlock] at e; omega)⟩
theorem own_laterG {w w' : World} {base e sz n : Nat} {v : Value} {xs : List Value} (h : w.ownsRow base e sz v n xs) (hb : Below w.heap.size w w') : w'.ownsRow base e sz v n xs := by
  refine ⟨h.1, ?_⟩
  rcases h.2 with h2 | ⟨g, cap, cur, h1, h2, h3, h4⟩
  · exact .inl h2
  · have hgl : g < w.heap.size := (h.lt g (by rw [h1]; rfl)).2
    exact .inr ⟨g, cap, cur, h1, h2, (hb.block g hgl).trans h3, h4⟩
theorem own_monoG {w : World} {base base' e sz n : Nat} {v : Value} {xs : List Value} (h : w.ownsRow base e sz v n xs) (hb : base' ≤ base) : w.ownsRow base' e sz v n xs := by
  refine ⟨h.1, ?_⟩
  rcases h.2 with h2 | ⟨g, cap, cur, h1, h2, h3⟩
  · exact .inl h2
  · exact .inr ⟨g, cap, cur, h1, Nat.le_trans hb h2, h3⟩
theorem own_newG (w : World) (e sz n : Nat) (xs : List Value) (hl : xs.length = n * sz) (hn : n ≤ 1000) (hsz : 0 < sz) : (w.alloc (.cells xs.toArray e)).ownsRow w.heap.size e sz (.slice (some ⟨w.heap.size, 0, none⟩) n n) n xs :=
  ⟨hl, .inr ⟨w.heap.size, n, xs.toArray, rfl, Nat.le_refl _, heap_alloc_last w _, Nat.le_refl _, by unfold maxLen; omega, by simpa using hl, by simp [← hl]⟩⟩
structure Prt where
  v : Value
  l : List Int
  g : List Int
def Prt.cells (p : Prt) : List Value := p.v :: U8 p.g
def OwnB (w : World) (base : Nat) (v : Value) (l : List Int) : Prop := w.ownsRow base 5 1 v l.length (U8 l) ∧ IsB l
structure Prts (w : World) (base : Nat) (v : Value) (ps : List Prt) : Prop where
  own : w.ownsRow base 118 65 v ps.length (ps.flatMap Prt.cells)
  each : ∀ p ∈ ps, OwnB w base p.v p.l ∧ p.g.length = 64 ∧ IsB p.g
theorem OwnB.later {w w' : World} {base : Nat} {v : Value} {l : List Int} (h : OwnB w base v l) (hb : Below w.heap.size w w') : OwnB w' base v l := ⟨own_laterG h.1 hb, h.2⟩
theorem OwnB.mono {w : World} {base base' : Nat} {v : Value} {l : List Int} (h : OwnB w base v l) (hb : base' ≤ base) : OwnB w base' v l := ⟨own_monoG h.1 hb, h.2⟩
theorem OwnB.keep {w w' : World} {base base' e sz n : Nat} {v v' : Value} {l : List Int} {xs : List Value} (h : OwnB w base v l) (h' : w.ownsRow base' e sz v' n xs) (he : 5 ≠ e) (hg : w.grownBy w' v'.ownBlock) : OwnB w' base v l := ⟨own_keepG h.1 hg (own_neG h.1 h' he), h.2⟩
theorem OwnB.one {w : World} {base : Nat} {v : Value} {l : List Int} (h : OwnB w base v l) : v.oneCell' = true := by
  obtain ⟨a, c, rfl⟩ := own_parts h.1; rfl
theorem OwnB.cells {w : World} {base : Nat} {v : Value} {l : List Int} (h : OwnB w base v l) : v.cells = #[v] := by
  obtain ⟨a, c, rfl⟩ := own_parts h.1; rfl
theorem Prts.later {w w' : World} {base : Nat} {v : Value} {ps : List Prt} (h : Prts w base v ps) (hb : Below w.heap.size w w') : Prts w' base v ps := ⟨own_laterG h.own hb, fun p hp => ⟨(h.each p hp).1.later hb, (h.each p hp).2⟩⟩
theorem Prts.mono {w : World} {base base' : Nat} {v : Value} {ps : List Prt} (h : Prts w base v ps) (hb : base' ≤ base) : Prts w base' v ps := ⟨own_monoG h.own hb, fun p hp => ⟨(h.each p hp).1.mono hb, (h.each p hp).2⟩⟩
theorem Prts.nil (w : World) (base : Nat) : Prts w base (.slice none 0 0) [] := ⟨⟨rfl, .inl ⟨rfl, rfl⟩⟩, fun p hp => by simp at hp⟩
theorem Prt.len {p : Prt} (h : p.g.length = 64) : p.cells.length = 65 := by simp [Prt.cells, U8, h]
def PPost (E : List (List Int × List Int)) (w : World) (e : Ending) (w' : World) : Prop := ∃ v ps, e = .returned v ∧ Prts w' w.heap.size v ps ∧ ps.map (fun p => (p.l, p.g)) = E ∧ Below w.heap.size w w'
theorem partZ : ∃ (it : TypeInfo) (Z : List Value), Tryz.prog.info? 118 = some it ∧ it.zero = some (.agg Z.toArray) ∧ Z.length = 65 ∧ it.size = 65 ∧ it.bytes = 88 := by
  have h : (Tryz.prog.info? 118).bind (·.zero) = some (.agg (Value.slice none 0 0 :: U8 (List.replicate 64 0)).toArray) := by kernel_rfl
  have h2 : (Tryz.prog.info? 118).map (fun i => (i.size, i.bytes)) = some (65, 88) := by kernel_rfl
  have h3 : (Value.slice none 0 0 :: U8 (List.replicate 64 0)).length = 65 := by rw [List.length_cons, U8_length, List.length_replicate]
  generalize (Value.slice none 0 0 :: U8 (List.replicate 64 0)) = Z at h h3
  cases hit : Tryz.prog.info? 118 with
  | none => rw [hit] at h; simp at h
  | some it =>
    rw [hit] at h h2
    simp at h h2
    exact ⟨it, Z, rfl, h, h3, h2.1, h2.2⟩
theorem part_built {w : World} {base : Nat} {v : Value} {l : List Int} (h : OwnB w base v l) (g : List Int) (hg : g.length = 64) : Tryz.prog.built 118 [(0, v), (1, .agg (U8 g).toArray)] = some (Prt.cells ⟨v, l, g⟩).toArray := by
  obtain ⟨it, Z, hi, hz, hZ, -, -⟩ := partZ
  have h1 : v.cells.size = 1 := by rw [h.cells]; rfl
  have h2 : (Value.agg (U8 g).toArray).cells.size = 64 := by show (U8 g).toArray.size = 64; rw [List.size_toArray, U8_length, hg]
  have this := built_cat hi Tryz.underlying118 hz (sz := [1, 64]) (by kernel_rfl) [v, .agg (U8 g).toArray] (by simp only [List.map_cons, List.map_nil, h1, h2]) (by rw [hZ]; rfl)
  have e1 : cellsL v = [v] := by unfold cellsL; rw [h.cells]
  have e2 : cellsL (.agg (U8 g).toArray) = U8 g := cells_agg _
  show Tryz.prog.built _ (prts [v, .agg (U8 g).toArray] 0) = _
  rw [this, List.flatMap_cons, List.flatMap_cons, List.flatMap_nil, e1, e2, List.append_nil]
  rfl
theorem part_slice (w : World) (p : Prt) (hg : p.g.length = 64) : (Instr.buildSlice 114 1 #[(0, .agg p.cells.toArray)]).run Tryz.prog w = .ok (.slice (some ⟨w.heap.size, 0, none⟩) 1 1) (w.alloc (.cells p.cells.toArray 118)) := by
  obtain ⟨it, Z, hi, hz, hZ, hs, -⟩ := partZ
  have := run_bsG w 114 118 it _ [.agg p.cells.toArray] 65 Tryz.underlying114 hi hs hz (by simp [Value.cells, Prt.len hg]) (by simp) (by simp)
  simp [prts, cellsL, Value.cells] at this
  exact this
theorem Prts.one {w : World} {base : Nat} {p : Prt} (hp : OwnB w base p.v p.l) (hb : base ≤ w.heap.size) (hg : p.g.length = 64) (hG : IsB p.g) : Prts (w.alloc (.cells p.cells.toArray 118)) base (.slice (some ⟨w.heap.size, 0, none⟩) 1 1) [p] :=
  ⟨by simpa using own_monoG (own_newG w 118 65 1 p.cells (by rw [Prt.len hg]) (by decide) (by decide)) hb, fun q hq => by simp at hq; subst hq; exact ⟨hp.later (below_one w _), hg, hG⟩⟩
end Go.Proofs.YtfedajifefldmaaGreat
namespace Go.Proofs.YtfedajifefldmaaGreat
open Go.RowKit
theorem arr_sub {w : World} {g : Nat} {ty : TypeId} {s : Nat → Kd} {N : Nat} {x : Nat → Int} (h : Arr w g ty (cl s N x)) (off n : Nat) (s' : Nat → Kd) (hn : off + n ≤ N) (hs : ∀ i, i < n → s (off + i) = s' i) : w.rangeAt g off (cl s' n (sft off x)) := by
  intro j v hj
  have hjn : j < n := by
    by_cases h : j < n
    · exact h
    · rw [List.getElem?_eq_none (by rw [cl_length]; omega)] at hj; cases hj
  rw [cl_at _ _ _ _ hjn] at hj
  rw [h.cell, cl_at _ _ _ _ (by omega), hs j hjn]
  exact hj
theorem cl_u8 (x : Nat → Int) (off n : Nat) : cl sB n (sft off x) = U8 (run x off n) := by
  unfold cl U8 run
  rw [List.map_map]
  rfl
theorem run_isB {s : Nat → Kd} {N : Nat} {x : Nat → Int} {off n : Nat} (hok : ∀ i, i < N → (s i).ok (x i)) (hn : off + n ≤ N) (hs : ∀ i, i < n → s (off + i) = .b) : IsB (run x off n) := by
  intro c hc
  unfold run at hc
  rw [List.mem_map] at hc
  obtain ⟨i, hi, rfl⟩ := hc
  have hi := List.mem_range.1 hi
  have := hok (off + i) (by omega)
  rw [hs i hi] at this
  exact this
theorem TPost.ownB {L : List Int} {w w' : World} {e : Ending} (h : TPost L w e w') : ∃ a c, e = .returned (.slice a L.length c) ∧ OwnB w' w.heap.size (.slice a L.length c) L ∧ Below w.heap.size w w' := by
  obtain ⟨a, c, he, ho, hB, hb⟩ := h
  exact ⟨a, c, he, ⟨ho, hB⟩, hb⟩
theorem Prts.app {w w' : World} {base : Nat} {v v' : Value} {ps : List Prt} {p : Prt} (h : Prts w base v ps) (hp : OwnB w base p.v p.l) (hg : p.g.length = 64) (hG : IsB p.g) (ho : w'.ownsRow base 118 65 v' (ps.length + 1) (ps.flatMap Prt.cells ++ p.cells)) (hgr : w.grownBy w' v.ownBlock) : Prts w' base v' (ps ++ [p]) := by
  refine ⟨?_, fun q hq => ?_⟩
  · rw [List.length_append, List.flatMap_append]
    simpa using ho
  · rcases List.mem_append.1 hq with h1 | h1
    · exact ⟨(h.each q h1).1.keep h.own (by decide) hgr, (h.each q h1).2⟩
    · simp at h1; subst h1
      exact ⟨hp.keep h.own (by decide) hgr, hg, hG⟩
theorem part_oc {w : World} {base : Nat} {p : Prt} (hp : OwnB w base p.v p.l) : ∀ u ∈ p.cells, u.oneCell' = true := by
  intro u hu
  unfold Prt.cells at hu
  rcases List.mem_cons.1 hu with rfl | h
  · exact hp.one
  · exact u8_oc _ u h
theorem arr_adds {w : World} {g : Nat} {ty : TypeId} {l : List Value} (h : Arr w g ty l) : ∀ j u, l[j]? = some u → w.cell? ((⟨g, 0, none⟩ : Addr).add j) = some u := by
  intro j u hj
  have e : (⟨g, 0, none⟩ : Addr).add j = ⟨g, j, none⟩ := by
    unfold Addr.add; split
    · rename_i h0; subst h0; rfl
    · simp
  rw [e, h.cell, hj]
theorem Tryz.szPSig : (Tryz.prog.info? 32).map (·.size) = some 64 := by kernel_rfl
theorem Tryz.szPCert : (Tryz.prog.info? 39).map (·.size) = some 99 := by kernel_rfl
set_option maxHeartbeats 2000000 in
set_option maxRecDepth 100000 in
theorem certParts_any (w : World) (x : Nat → Int) (hok : ∀ i, i < 99 → (sCert i).ok (x i)) :
    Calls Tryz.prog 88 #[.agg (cl sCert 99 x).toArray] w (PPost [(tellL 1 (fsAll (fCert.take 4)) x, run x 35 64)] w) := by
  have b1 : Below w.heap.size w (w.alloc (.cells (cl sCert 99 x).toArray 39)) := below_one w _
  have A1 := Arr.new w 39 (cl sCert 99 x)
  have r1 := A1.range
  have r2 : (w.alloc (.cells (cl sCert 99 x).toArray 39)).rangeAt w.heap.size 35 (U8 (run x 35 64)) := by
    rw [← cl_u8]; exact arr_sub A1 35 64 sB (by decide) (fun i hi => by unfold sCert sB; rw [if_neg (by omega)])
  have hlt := A1.lt
  have hZ : (Tryz.prog.info? 39).map (·.size) = some (cl sCert 99 x).length := by rw [cl_length]; kernel_rfl
  have hGl : (run x 35 64).length = 64 := run_length _ _ _
  have hGB : IsB (run x 35 64) := run_isB hok (by decide) (fun i hi => by unfold sCert; rw [if_neg (by omega)])
  have hZG : (Tryz.prog.info? 32).map (·.size) = some (U8 (run x 35 64)).length := by rw [U8_length, hGl]; exact Tryz.szPSig
  have hSay := fun W => sayCert_any W x hok
  clear A1 hok
  generalize hL : tellL 1 (fsAll (fCert.take 4)) x = L at *
  generalize cl sCert 99 x = X at *
  generalize run x 35 64 = G at *
  clear hL
  go_enter Tryz.func88, Tryz.ntmps88
  go_wp2
  generalize w.alloc (.cells X.toArray 39) = W at *
  have hC := hSay W.drew
  refine wp_region_noPanic ?_
  refine wp_region_held_drew (S := fun w' => w'.rangeAt w.heap.size 0 X ∧ w'.rangeAt w.heap.size 35 (U8 G)) (by kernel_rfl) ⟨r1, r2⟩ (fun hHeld => ?_)
  refine wpAnyH_take (i := 0) (v := _) rfl (by kernel_rfl) (by kernel_rfl) (by kernel_rfl) (fun _ _ _ h => h) (yieldsIf_load_mid (by rfl) _ _ rfl _ _ rfl _ _ (fun _ h => h.1) Tryz.underlying39 rfl hZ) hHeld ?_
  simp [Act.put]
  refine wpAnyH_take (i := 2) (v := (.pointer (some ⟨w.heap.size, 35, none⟩))) rfl (by kernel_rfl) (by kernel_rfl) (by kernel_rfl) (fun _ _ _ h => h) (Or.inl ⟨by rfl, fun w hSw => by go_simp⟩) hHeld ?_
  simp [Act.put]
  refine wpAnyH_take (i := 3) (v := _) rfl (by kernel_rfl) (by kernel_rfl) (by kernel_rfl) (fun _ _ _ h => h) (yieldsIf_load_mid (by rfl) _ _ rfl _ _ rfl _ _ (fun _ h => h.2) Tryz.underlying32 rfl hZG) hHeld ?_
  simp [Act.put]
  refine wpAnyH_ready (rs := [1]) (by kernel_rfl) (by simp) ?_
  refine AllReadyH.cons rfl (fun K hK => ?_) AllReadyH.nil
  go_simp
  refine hC.mono ?_
  intro e w1 hT
  obtain ⟨av, cv, rfl, hown, hB1⟩ := hT.ownB
  refine hK.out _ _ ⟨fun j v hj => (World.cell?_of_block (hB1.block _ hlt)).trans (hHeld.1 j v hj), fun j v hj => (World.cell?_of_block (hB1.block _ hlt)).trans (hHeld.2 j v hj)⟩ (fun hHeld => ?_)
  have hlt1 : w.heap.size < w1.heap.size := Nat.lt_of_lt_of_le hlt hB1.size
  clear hK K hC hT hSay
  have hbd := part_built hown G hGl
  have hrun := part_slice w1 ⟨.slice av L.length cv, L, G⟩ hGl
  have HP : Hid (PPost [(L, G)] w (.returned (.slice (some ⟨w1.heap.size, 0, none⟩) 1 1)) (w1.alloc (.cells (Prt.cells ⟨.slice av L.length cv, L, G⟩).toArray 118))) := hide ⟨_, [⟨.slice av L.length cv, L, G⟩], rfl, (Prts.one (p := ⟨.slice av L.length cv, L, G⟩) hown hB1.size hGl hGB).mono b1.size, rfl, b1.trans ((undrew_bel (hB1.alloc hB1.size _) (Nat.le_refl _)).mono b1.size)⟩
  clear hown hB1
  generalize hCC : (Prt.cells ⟨.slice av L.length cv, L, G⟩).toArray = C at *
  clear hCC
  generalize L.length = m at *
  refine wpAnyH_take (i := 4) (v := (.agg C)) rfl (by kernel_rfl) (by kernel_rfl) (by kernel_rfl) (fun _ _ _ h => h) (yieldsIf_bd (by rfl) _ _ rfl _ (by simpa [Act.eval] using hbd)) hHeld ?_
  simp [Act.put]
  refine wpAnyH_ready (rs := [5]) (by kernel_rfl) (by simp) ?_
  refine AllReadyH.cons rfl (fun K hK => ?_) AllReadyH.nil
  refine step_bsG rfl _ _ _ rfl _ _ (by simpa [Act.eval] using hrun) ?_
  simp only [Act.put]
  have hblk : ∀ k, k < w1.heap.size → (w1.alloc (.cells C 118)).heap[k]? = w1.heap[k]? := (below_one w1 (.cells C 118)).block
  refine hK.out _ _ ⟨fun j v hj => (World.cell?_of_block (hblk _ hlt1)).trans (hHeld.1 j v hj), fun j v hj => (World.cell?_of_block (hblk _ hlt1)).trans (hHeld.2 j v hj)⟩ (fun hHeld => ?_)
  clear hK K hrun hbd
  refine wpAnyH_take (i := 6) (v := (.slice (some ⟨w1.heap.size, 0, none⟩) 1 1)) rfl (by kernel_rfl) (by kernel_rfl) (by kernel_rfl) (fun _ _ _ h => h) (Or.inl ⟨by rfl, fun w hSw => by go_simp⟩) hHeld ?_
  simp [Act.put]
  refine wpAnyH_done (by kernel_rfl) ?_ _
  unfold NoPanic
  clear hHeld
  go_wp2
  go_ret
  exact unhide HP
set_option maxHeartbeats 2000000 in
set_option maxRecDepth 100000 in
theorem partsAck_any (w : World) (x : Nat → Int) (hok : ∀ i, i < 99 → (sAck i).ok (x i)) :
    Calls Tryz.prog 96 #[.agg (cl sAck 99 x).toArray] w (PPost [(tellL 5 (fsAll (fAck.take 4)) x, run x 35 64)] w) := by
  have b1 : Below w.heap.size w (w.alloc (.cells (cl sAck 99 x).toArray 75)) := below_one w _
  have A1 := Arr.new w 75 (cl sAck 99 x)
  have r1 := A1.range
  have r2 : (w.alloc (.cells (cl sAck 99 x).toArray 75)).rangeAt w.heap.size 35 (U8 (run x 35 64)) := by
    rw [← cl_u8]; exact arr_sub A1 35 64 sB (by decide) (fun i hi => by unfold sAck sB; rw [if_neg (by omega)])
  have hlt := A1.lt
  have hZ : (Tryz.prog.info? 75).map (·.size) = some (cl sAck 99 x).length := by rw [cl_length]; kernel_rfl
  have hGl : (run x 35 64).length = 64 := run_length _ _ _
  have hGB : IsB (run x 35 64) := run_isB hok (by decide) (fun i hi => by unfold sAck; rw [if_neg (by omega)])
  have hZG : (Tryz.prog.info? 32).map (·.size) = some (U8 (run x 35 64)).length := by rw [U8_length, hGl]; exact Tryz.szPSig
  have hSay := fun W => sayAck_any W x hok
  clear A1 hok
  generalize hL : tellL 5 (fsAll (fAck.take 4)) x = L at *
  generalize cl sAck 99 x = X at *
  generalize run x 35 64 = G at *
  clear hL
  go_enter Tryz.func96, Tryz.ntmps96
  go_wp2
  generalize w.alloc (.cells X.toArray 75) = W at *
  have hC := hSay W.drew
  refine wp_region_noPanic ?_
  refine wp_region_held_drew (S := fun w' => w'.rangeAt w.heap.size 0 X ∧ w'.rangeAt w.heap.size 35 (U8 G)) (by kernel_rfl) ⟨r1, r2⟩ (fun hHeld => ?_)
  refine wpAnyH_take (i := 0) (v := _) rfl (by kernel_rfl) (by kernel_rfl) (by kernel_rfl) (fun _ _ _ h => h) (yieldsIf_load_mid (by rfl) _ _ rfl _ _ rfl _ _ (fun _ h => h.1) Tryz.underlying75 rfl hZ) hHeld ?_
  simp [Act.put]
  refine wpAnyH_take (i := 2) (v := (.pointer (some ⟨w.heap.size, 35, none⟩))) rfl (by kernel_rfl) (by kernel_rfl) (by kernel_rfl) (fun _ _ _ h => h) (Or.inl ⟨by rfl, fun w hSw => by go_simp⟩) hHeld ?_
  simp [Act.put]
  refine wpAnyH_take (i := 3) (v := _) rfl (by kernel_rfl) (by kernel_rfl) (by kernel_rfl) (fun _ _ _ h => h) (yieldsIf_load_mid (by rfl) _ _ rfl _ _ rfl _ _ (fun _ h => h.2) Tryz.underlying32 rfl hZG) hHeld ?_
  simp [Act.put]
  refine wpAnyH_ready (rs := [1]) (by kernel_rfl) (by simp) ?_
  refine AllReadyH.cons rfl (fun K hK => ?_) AllReadyH.nil
  go_simp
  refine hC.mono ?_
  intro e w1 hT
  obtain ⟨av, cv, rfl, hown, hB1⟩ := hT.ownB
  refine hK.out _ _ ⟨fun j v hj => (World.cell?_of_block (hB1.block _ hlt)).trans (hHeld.1 j v hj), fun j v hj => (World.cell?_of_block (hB1.block _ hlt)).trans (hHeld.2 j v hj)⟩ (fun hHeld => ?_)
  have hlt1 : w.heap.size < w1.heap.size := Nat.lt_of_lt_of_le hlt hB1.size
  clear hK K hC hT hSay
  have hbd := part_built hown G hGl
  have hrun := part_slice w1 ⟨.slice av L.length cv, L, G⟩ hGl
  have HP : Hid (PPost [(L, G)] w (.returned (.slice (some ⟨w1.heap.size, 0, none⟩) 1 1)) (w1.alloc (.cells (Prt.cells ⟨.slice av L.length cv, L, G⟩).toArray 118))) := hide ⟨_, [⟨.slice av L.length cv, L, G⟩], rfl, (Prts.one (p := ⟨.slice av L.length cv, L, G⟩) hown hB1.size hGl hGB).mono b1.size, rfl, b1.trans ((undrew_bel (hB1.alloc hB1.size _) (Nat.le_refl _)).mono b1.size)⟩
  clear hown hB1
  generalize hCC : (Prt.cells ⟨.slice av L.length cv, L, G⟩).toArray = C at *
  clear hCC
  generalize L.length = m at *
  refine wpAnyH_take (i := 4) (v := (.agg C)) rfl (by kernel_rfl) (by kernel_rfl) (by kernel_rfl) (fun _ _ _ h => h) (yieldsIf_bd (by rfl) _ _ rfl _ (by simpa [Act.eval] using hbd)) hHeld ?_
  simp [Act.put]
  refine wpAnyH_ready (rs := [5]) (by kernel_rfl) (by simp) ?_
  refine AllReadyH.cons rfl (fun K hK => ?_) AllReadyH.nil
  refine step_bsG rfl _ _ _ rfl _ _ (by simpa [Act.eval] using hrun) ?_
  simp only [Act.put]
  have hblk : ∀ k, k < w1.heap.size → (w1.alloc (.cells C 118)).heap[k]? = w1.heap[k]? := (below_one w1 (.cells C 118)).block
  refine hK.out _ _ ⟨fun j v hj => (World.cell?_of_block (hblk _ hlt1)).trans (hHeld.1 j v hj), fun j v hj => (World.cell?_of_block (hblk _ hlt1)).trans (hHeld.2 j v hj)⟩ (fun hHeld => ?_)
  clear hK K hrun hbd
  refine wpAnyH_take (i := 6) (v := (.slice (some ⟨w1.heap.size, 0, none⟩) 1 1)) rfl (by kernel_rfl) (by kernel_rfl) (by kernel_rfl) (fun _ _ _ h => h) (Or.inl ⟨by rfl, fun w hSw => by go_simp⟩) hHeld ?_
  simp [Act.put]
  refine wpAnyH_done (by kernel_rfl) ?_ _
  unfold NoPanic
  clear hHeld
  go_wp2
  go_ret
  exact unhide HP
set_option maxHeartbeats 2000000 in
set_option maxRecDepth 100000 in
theorem partsFloor_any (w : World) (x : Nat → Int) (hok : ∀ i, i < 65 → (sFloor i).ok (x i)) :
    Calls Tryz.prog 101 #[.agg (cl sFloor 65 x).toArray] w (PPost [(tellL 7 (fsAll (fFloor.take 1)) x, run x 1 64)] w) := by
  have b1 : Below w.heap.size w (w.alloc (.cells (cl sFloor 65 x).toArray 34)) := below_one w _
  have A1 := Arr.new w 34 (cl sFloor 65 x)
  have r1 := A1.range
  have r2 : (w.alloc (.cells (cl sFloor 65 x).toArray 34)).rangeAt w.heap.size 1 (U8 (run x 1 64)) := by
    rw [← cl_u8]; exact arr_sub A1 1 64 sB (by decide) (fun i hi => by unfold sFloor sB; rw [if_neg (by omega)])
  have hlt := A1.lt
  have hZ : (Tryz.prog.info? 34).map (·.size) = some (cl sFloor 65 x).length := by rw [cl_length]; kernel_rfl
  have hGl : (run x 1 64).length = 64 := run_length _ _ _
  have hGB : IsB (run x 1 64) := run_isB hok (by decide) (fun i hi => by unfold sFloor; rw [if_neg (by omega)])
  have hZG : (Tryz.prog.info? 32).map (·.size) = some (U8 (run x 1 64)).length := by rw [U8_length, hGl]; exact Tryz.szPSig
  have hSay := fun W => sayFloor_any W x hok
  clear A1 hok
  generalize hL : tellL 7 (fsAll (fFloor.take 1)) x = L at *
  generalize cl sFloor 65 x = X at *
  generalize run x 1 64 = G at *
  clear hL
  go_enter Tryz.func101, Tryz.ntmps101
  go_wp2
  generalize w.alloc (.cells X.toArray 34) = W at *
  have hC := hSay W.drew
  refine wp_region_noPanic ?_
  refine wp_region_held_drew (S := fun w' => w'.rangeAt w.heap.size 0 X ∧ w'.rangeAt w.heap.size 1 (U8 G)) (by kernel_rfl) ⟨r1, r2⟩ (fun hHeld => ?_)
  refine wpAnyH_take (i := 0) (v := _) rfl (by kernel_rfl) (by kernel_rfl) (by kernel_rfl) (fun _ _ _ h => h) (yieldsIf_load_mid (by rfl) _ _ rfl _ _ rfl _ _ (fun _ h => h.1) Tryz.underlying34 rfl hZ) hHeld ?_
  simp [Act.put]
  refine wpAnyH_take (i := 2) (v := (.pointer (some ⟨w.heap.size, 1, none⟩))) rfl (by kernel_rfl) (by kernel_rfl) (by kernel_rfl) (fun _ _ _ h => h) (Or.inl ⟨by rfl, fun w hSw => by go_simp⟩) hHeld ?_
  simp [Act.put]
  refine wpAnyH_take (i := 3) (v := _) rfl (by kernel_rfl) (by kernel_rfl) (by kernel_rfl) (fun _ _ _ h => h) (yieldsIf_load_mid (by rfl) _ _ rfl _ _ rfl _ _ (fun _ h => h.2) Tryz.underlying32 rfl hZG) hHeld ?_
  simp [Act.put]
  refine wpAnyH_ready (rs := [1]) (by kernel_rfl) (by simp) ?_
  refine AllReadyH.cons rfl (fun K hK => ?_) AllReadyH.nil
  go_simp
  refine hC.mono ?_
  intro e w1 hT
  obtain ⟨av, cv, rfl, hown, hB1⟩ := hT.ownB
  refine hK.out _ _ ⟨fun j v hj => (World.cell?_of_block (hB1.block _ hlt)).trans (hHeld.1 j v hj), fun j v hj => (World.cell?_of_block (hB1.block _ hlt)).trans (hHeld.2 j v hj)⟩ (fun hHeld => ?_)
  have hlt1 : w.heap.size < w1.heap.size := Nat.lt_of_lt_of_le hlt hB1.size
  clear hK K hC hT hSay
  have hbd := part_built hown G hGl
  have hrun := part_slice w1 ⟨.slice av L.length cv, L, G⟩ hGl
  have HP : Hid (PPost [(L, G)] w (.returned (.slice (some ⟨w1.heap.size, 0, none⟩) 1 1)) (w1.alloc (.cells (Prt.cells ⟨.slice av L.length cv, L, G⟩).toArray 118))) := hide ⟨_, [⟨.slice av L.length cv, L, G⟩], rfl, (Prts.one (p := ⟨.slice av L.length cv, L, G⟩) hown hB1.size hGl hGB).mono b1.size, rfl, b1.trans ((undrew_bel (hB1.alloc hB1.size _) (Nat.le_refl _)).mono b1.size)⟩
  clear hown hB1
  generalize hCC : (Prt.cells ⟨.slice av L.length cv, L, G⟩).toArray = C at *
  clear hCC
  generalize L.length = m at *
  refine wpAnyH_take (i := 4) (v := (.agg C)) rfl (by kernel_rfl) (by kernel_rfl) (by kernel_rfl) (fun _ _ _ h => h) (yieldsIf_bd (by rfl) _ _ rfl _ (by simpa [Act.eval] using hbd)) hHeld ?_
  simp [Act.put]
  refine wpAnyH_ready (rs := [5]) (by kernel_rfl) (by simp) ?_
  refine AllReadyH.cons rfl (fun K hK => ?_) AllReadyH.nil
  refine step_bsG rfl _ _ _ rfl _ _ (by simpa [Act.eval] using hrun) ?_
  simp only [Act.put]
  have hblk : ∀ k, k < w1.heap.size → (w1.alloc (.cells C 118)).heap[k]? = w1.heap[k]? := (below_one w1 (.cells C 118)).block
  refine hK.out _ _ ⟨fun j v hj => (World.cell?_of_block (hblk _ hlt1)).trans (hHeld.1 j v hj), fun j v hj => (World.cell?_of_block (hblk _ hlt1)).trans (hHeld.2 j v hj)⟩ (fun hHeld => ?_)
  clear hK K hrun hbd
  refine wpAnyH_take (i := 6) (v := (.slice (some ⟨w1.heap.size, 0, none⟩) 1 1)) rfl (by kernel_rfl) (by kernel_rfl) (by kernel_rfl) (fun _ _ _ h => h) (Or.inl ⟨by rfl, fun w hSw => by go_simp⟩) hHeld ?_
  simp [Act.put]
  refine wpAnyH_done (by kernel_rfl) ?_ _
  unfold NoPanic
  clear hHeld
  go_wp2
  go_ret
  exact unhide HP
set_option maxHeartbeats 2000000 in
set_option maxRecDepth 100000 in
theorem partsReceipt_any (w : World) (x : Nat → Int) (hok : ∀ i, i < 67 → (sReceipt i).ok (x i)) :
    Calls Tryz.prog 104 #[.agg (cl sReceipt 67 x).toArray] w (PPost [(tellL 8 (fsAll (fReceipt.take 3)) x, run x 3 64)] w) := by
  have b1 : Below w.heap.size w (w.alloc (.cells (cl sReceipt 67 x).toArray 86)) := below_one w _
  have A1 := Arr.new w 86 (cl sReceipt 67 x)
  have r1 := A1.range
  have r2 : (w.alloc (.cells (cl sReceipt 67 x).toArray 86)).rangeAt w.heap.size 3 (U8 (run x 3 64)) := by
    rw [← cl_u8]; exact arr_sub A1 3 64 sB (by decide) (fun i hi => by unfold sReceipt sB; rw [if_neg (by omega)])
  have hlt := A1.lt
  have hZ : (Tryz.prog.info? 86).map (·.size) = some (cl sReceipt 67 x).length := by rw [cl_length]; kernel_rfl
  have hGl : (run x 3 64).length = 64 := run_length _ _ _
  have hGB : IsB (run x 3 64) := run_isB hok (by decide) (fun i hi => by unfold sReceipt; rw [if_neg (by omega)])
  have hZG : (Tryz.prog.info? 32).map (·.size) = some (U8 (run x 3 64)).length := by rw [U8_length, hGl]; exact Tryz.szPSig
  have hSay := fun W => sayReceipt_any W x hok
  clear A1 hok
  generalize hL : tellL 8 (fsAll (fReceipt.take 3)) x = L at *
  generalize cl sReceipt 67 x = X at *
  generalize run x 3 64 = G at *
  clear hL
  go_enter Tryz.func104, Tryz.ntmps104
  go_wp2
  generalize w.alloc (.cells X.toArray 86) = W at *
  have hC := hSay W.drew
  refine wp_region_noPanic ?_
  refine wp_region_held_drew (S := fun w' => w'.rangeAt w.heap.size 0 X ∧ w'.rangeAt w.heap.size 3 (U8 G)) (by kernel_rfl) ⟨r1, r2⟩ (fun hHeld => ?_)
  refine wpAnyH_take (i := 0) (v := _) rfl (by kernel_rfl) (by kernel_rfl) (by kernel_rfl) (fun _ _ _ h => h) (yieldsIf_load_mid (by rfl) _ _ rfl _ _ rfl _ _ (fun _ h => h.1) Tryz.underlying86 rfl hZ) hHeld ?_
  simp [Act.put]
  refine wpAnyH_take (i := 2) (v := (.pointer (some ⟨w.heap.size, 3, none⟩))) rfl (by kernel_rfl) (by kernel_rfl) (by kernel_rfl) (fun _ _ _ h => h) (Or.inl ⟨by rfl, fun w hSw => by go_simp⟩) hHeld ?_
  simp [Act.put]
  refine wpAnyH_take (i := 3) (v := _) rfl (by kernel_rfl) (by kernel_rfl) (by kernel_rfl) (fun _ _ _ h => h) (yieldsIf_load_mid (by rfl) _ _ rfl _ _ rfl _ _ (fun _ h => h.2) Tryz.underlying32 rfl hZG) hHeld ?_
  simp [Act.put]
  refine wpAnyH_ready (rs := [1]) (by kernel_rfl) (by simp) ?_
  refine AllReadyH.cons rfl (fun K hK => ?_) AllReadyH.nil
  go_simp
  refine hC.mono ?_
  intro e w1 hT
  obtain ⟨av, cv, rfl, hown, hB1⟩ := hT.ownB
  refine hK.out _ _ ⟨fun j v hj => (World.cell?_of_block (hB1.block _ hlt)).trans (hHeld.1 j v hj), fun j v hj => (World.cell?_of_block (hB1.block _ hlt)).trans (hHeld.2 j v hj)⟩ (fun hHeld => ?_)
  have hlt1 : w.heap.size < w1.heap.size := Nat.lt_of_lt_of_le hlt hB1.size
  clear hK K hC hT hSay
  have hbd := part_built hown G hGl
  have hrun := part_slice w1 ⟨.slice av L.length cv, L, G⟩ hGl
  have HP : Hid (PPost [(L, G)] w (.returned (.slice (some ⟨w1.heap.size, 0, none⟩) 1 1)) (w1.alloc (.cells (Prt.cells ⟨.slice av L.length cv, L, G⟩).toArray 118))) := hide ⟨_, [⟨.slice av L.length cv, L, G⟩], rfl, (Prts.one (p := ⟨.slice av L.length cv, L, G⟩) hown hB1.size hGl hGB).mono b1.size, rfl, b1.trans ((undrew_bel (hB1.alloc hB1.size _) (Nat.le_refl _)).mono b1.size)⟩
  clear hown hB1
  generalize hCC : (Prt.cells ⟨.slice av L.length cv, L, G⟩).toArray = C at *
  clear hCC
  generalize L.length = m at *
  refine wpAnyH_take (i := 4) (v := (.agg C)) rfl (by kernel_rfl) (by kernel_rfl) (by kernel_rfl) (fun _ _ _ h => h) (yieldsIf_bd (by rfl) _ _ rfl _ (by simpa [Act.eval] using hbd)) hHeld ?_
  simp [Act.put]
  refine wpAnyH_ready (rs := [5]) (by kernel_rfl) (by simp) ?_
  refine AllReadyH.cons rfl (fun K hK => ?_) AllReadyH.nil
  refine step_bsG rfl _ _ _ rfl _ _ (by simpa [Act.eval] using hrun) ?_
  simp only [Act.put]
  have hblk : ∀ k, k < w1.heap.size → (w1.alloc (.cells C 118)).heap[k]? = w1.heap[k]? := (below_one w1 (.cells C 118)).block
  refine hK.out _ _ ⟨fun j v hj => (World.cell?_of_block (hblk _ hlt1)).trans (hHeld.1 j v hj), fun j v hj => (World.cell?_of_block (hblk _ hlt1)).trans (hHeld.2 j v hj)⟩ (fun hHeld => ?_)
  clear hK K hrun hbd
  refine wpAnyH_take (i := 6) (v := (.slice (some ⟨w1.heap.size, 0, none⟩) 1 1)) rfl (by kernel_rfl) (by kernel_rfl) (by kernel_rfl) (fun _ _ _ h => h) (Or.inl ⟨by rfl, fun w hSw => by go_simp⟩) hHeld ?_
  simp [Act.put]
  refine wpAnyH_done (by kernel_rfl) ?_ _
  unfold NoPanic
  clear hHeld
  go_wp2
  go_ret
  exact unhide HP
set_option maxHeartbeats 2000000 in
set_option maxRecDepth 100000 in
theorem partsHead_any (w : World) (x : Nat → Int) (hok : ∀ i, i < 97 → (sHead i).ok (x i)) :
    Calls Tryz.prog 109 #[.agg (cl sHead 97 x).toArray] w (PPost [(tellL 10 (fsAll (fHead.take 2)) x, run x 33 64)] w) := by
  have b1 : Below w.heap.size w (w.alloc (.cells (cl sHead 97 x).toArray 96)) := below_one w _
  have A1 := Arr.new w 96 (cl sHead 97 x)
  have r1 := A1.range
  have r2 : (w.alloc (.cells (cl sHead 97 x).toArray 96)).rangeAt w.heap.size 33 (U8 (run x 33 64)) := by
    rw [← cl_u8]; exact arr_sub A1 33 64 sB (by decide) (fun i hi => by unfold sHead sB; rw [if_neg (by omega)])
  have hlt := A1.lt
  have hZ : (Tryz.prog.info? 96).map (·.size) = some (cl sHead 97 x).length := by rw [cl_length]; kernel_rfl
  have hGl : (run x 33 64).length = 64 := run_length _ _ _
  have hGB : IsB (run x 33 64) := run_isB hok (by decide) (fun i hi => by unfold sHead; rw [if_neg (by omega)])
  have hZG : (Tryz.prog.info? 32).map (·.size) = some (U8 (run x 33 64)).length := by rw [U8_length, hGl]; exact Tryz.szPSig
  have hSay := fun W => sayHead_any W x hok
  clear A1 hok
  generalize hL : tellL 10 (fsAll (fHead.take 2)) x = L at *
  generalize cl sHead 97 x = X at *
  generalize run x 33 64 = G at *
  clear hL
  go_enter Tryz.func109, Tryz.ntmps109
  go_wp2
  generalize w.alloc (.cells X.toArray 96) = W at *
  have hC := hSay W.drew
  refine wp_region_noPanic ?_
  refine wp_region_held_drew (S := fun w' => w'.rangeAt w.heap.size 0 X ∧ w'.rangeAt w.heap.size 33 (U8 G)) (by kernel_rfl) ⟨r1, r2⟩ (fun hHeld => ?_)
  refine wpAnyH_take (i := 0) (v := _) rfl (by kernel_rfl) (by kernel_rfl) (by kernel_rfl) (fun _ _ _ h => h) (yieldsIf_load_mid (by rfl) _ _ rfl _ _ rfl _ _ (fun _ h => h.1) Tryz.underlying96 rfl hZ) hHeld ?_
  simp [Act.put]
  refine wpAnyH_take (i := 2) (v := (.pointer (some ⟨w.heap.size, 33, none⟩))) rfl (by kernel_rfl) (by kernel_rfl) (by kernel_rfl) (fun _ _ _ h => h) (Or.inl ⟨by rfl, fun w hSw => by go_simp⟩) hHeld ?_
  simp [Act.put]
  refine wpAnyH_take (i := 3) (v := _) rfl (by kernel_rfl) (by kernel_rfl) (by kernel_rfl) (fun _ _ _ h => h) (yieldsIf_load_mid (by rfl) _ _ rfl _ _ rfl _ _ (fun _ h => h.2) Tryz.underlying32 rfl hZG) hHeld ?_
  simp [Act.put]
  refine wpAnyH_ready (rs := [1]) (by kernel_rfl) (by simp) ?_
  refine AllReadyH.cons rfl (fun K hK => ?_) AllReadyH.nil
  go_simp
  refine hC.mono ?_
  intro e w1 hT
  obtain ⟨av, cv, rfl, hown, hB1⟩ := hT.ownB
  refine hK.out _ _ ⟨fun j v hj => (World.cell?_of_block (hB1.block _ hlt)).trans (hHeld.1 j v hj), fun j v hj => (World.cell?_of_block (hB1.block _ hlt)).trans (hHeld.2 j v hj)⟩ (fun hHeld => ?_)
  have hlt1 : w.heap.size < w1.heap.size := Nat.lt_of_lt_of_le hlt hB1.size
  clear hK K hC hT hSay
  have hbd := part_built hown G hGl
  have hrun := part_slice w1 ⟨.slice av L.length cv, L, G⟩ hGl
  have HP : Hid (PPost [(L, G)] w (.returned (.slice (some ⟨w1.heap.size, 0, none⟩) 1 1)) (w1.alloc (.cells (Prt.cells ⟨.slice av L.length cv, L, G⟩).toArray 118))) := hide ⟨_, [⟨.slice av L.length cv, L, G⟩], rfl, (Prts.one (p := ⟨.slice av L.length cv, L, G⟩) hown hB1.size hGl hGB).mono b1.size, rfl, b1.trans ((undrew_bel (hB1.alloc hB1.size _) (Nat.le_refl _)).mono b1.size)⟩
  clear hown hB1
  generalize hCC : (Prt.cells ⟨.slice av L.length cv, L, G⟩).toArray = C at *
  clear hCC
  generalize L.length = m at *
  refine wpAnyH_take (i := 4) (v := (.agg C)) rfl (by kernel_rfl) (by kernel_rfl) (by kernel_rfl) (fun _ _ _ h => h) (yieldsIf_bd (by rfl) _ _ rfl _ (by simpa [Act.eval] using hbd)) hHeld ?_
  simp [Act.put]
  refine wpAnyH_ready (rs := [5]) (by kernel_rfl) (by simp) ?_
  refine AllReadyH.cons rfl (fun K hK => ?_) AllReadyH.nil
  refine step_bsG rfl _ _ _ rfl _ _ (by simpa [Act.eval] using hrun) ?_
  simp only [Act.put]
  have hblk : ∀ k, k < w1.heap.size → (w1.alloc (.cells C 118)).heap[k]? = w1.heap[k]? := (below_one w1 (.cells C 118)).block
  refine hK.out _ _ ⟨fun j v hj => (World.cell?_of_block (hblk _ hlt1)).trans (hHeld.1 j v hj), fun j v hj => (World.cell?_of_block (hblk _ hlt1)).trans (hHeld.2 j v hj)⟩ (fun hHeld => ?_)
  clear hK K hrun hbd
  refine wpAnyH_take (i := 6) (v := (.slice (some ⟨w1.heap.size, 0, none⟩) 1 1)) rfl (by kernel_rfl) (by kernel_rfl) (by kernel_rfl) (fun _ _ _ h => h) (Or.inl ⟨by rfl, fun w hSw => by go_simp⟩) hHeld ?_
  simp [Act.put]
  refine wpAnyH_done (by kernel_rfl) ?_ _
  unfold NoPanic
  clear hHeld
  go_wp2
  go_ret
  exact unhide HP
end Go.Proofs.YtfedajifefldmaaGreat
namespace Go.Proofs.YtfedajifefldmaaGreat
open Go.RowKit
def certE (x : Nat → Int) : List Int × List Int := (tellL 1 (fsAll (fCert.take 4)) x, run x 35 64)
set_option maxHeartbeats 2000000 in
set_option maxRecDepth 100000 in
theorem partsTicket_any (w : World) (x : Nat → Int) (hok : ∀ i, i < 132 → (sTicket i).ok (x i)) :
    Calls Tryz.prog 90 #[.agg (cl sTicket 132 x).toArray] w (PPost [certE x] w) := by
  have b1 : Below w.heap.size w (w.alloc (.cells (cl sTicket 132 x).toArray 60)) := below_one w _
  have A1 := Arr.new w 60 (cl sTicket 132 x)
  have r1 : (w.alloc (.cells (cl sTicket 132 x).toArray 60)).rangeAt w.heap.size 0 (cl sCert 99 x) := by
    have := arr_sub A1 0 99 sCert (by decide) (fun i hi => by unfold sTicket; rw [Nat.zero_add, if_pos hi])
    rwa [sft_zero] at this
  have hZ : (Tryz.prog.info? 39).map (·.size) = some (cl sCert 99 x).length := by rw [cl_length]; exact Tryz.szPCert
  have hC := certParts_any (w.alloc (.cells (cl sTicket 132 x).toArray 60)) x (fun i hi => by have := hok i (by omega); unfold sTicket at this; rwa [if_pos hi] at this)
  have HR := hide r1
  have HZ := hide hZ
  have HB := hide b1
  clear A1 hok r1 hZ b1
  generalize cl sTicket 132 x = X at *
  generalize cl sCert 99 x = XC at *
  go_enter Tryz.func90, Tryz.ntmps90
  go_upto_region 1 with fail
  generalize w.alloc (.cells X.toArray 60) = W at *
  refine wp_region_lit ?_
  refine wpList_plain rfl fun K1 h => ?_; go_simp; refine h _ _ ?_; clear h K1
  refine wpList_load_mid rfl 39 (.tmp 3) rfl w.heap.size 0 rfl XC _ (unhide HR) Tryz.underlying39 rfl (unhide HZ) ?_
  simp only [Act.put]
  refine wpList_plain rfl fun K1 hK1 => ?_
  go_simp
  refine hC.mono ?_
  rintro e w1 ⟨v, ps, rfl, hP, hE, hB1⟩
  obtain ⟨av, cv, rfl⟩ := own_parts hP.own
  have HE : Hid (PPost [certE x] w (.returned (.slice av ps.length cv)) w1) := hide ⟨_, ps, rfl, hP.mono (unhide HB).size, hE, (unhide HB).trans (hB1.mono (unhide HB).size)⟩
  clear hC hP hE hB1
  generalize ps.length = m at *
  refine hK1 _ _ ?_
  clear hK1 K1
  go_wp2
  go_ret
  exact unhide HE
set_option maxHeartbeats 1000000 in
set_option maxRecDepth 100000 in
theorem partsOrder_any (w : World) (x : Nat → Int) :
    Calls Tryz.prog 107 #[.agg (cl sOrder 34 x).toArray] w (PPost [] w) := by
  have b1 : Below w.heap.size w (w.alloc (.cells (cl sOrder 34 x).toArray 91)) := below_one w _
  generalize cl sOrder 34 x = X at *
  go_enter Tryz.func107, Tryz.ntmps107
  go_wp2
  go_ret
  exact ⟨_, [], rfl, Prts.nil _ _, rfl, b1⟩
set_option maxHeartbeats 4000000 in
set_option maxRecDepth 100000 in
theorem partsFreeze_any (w : World) (x : Nat → Int) (hok : ∀ i, i < 163 → (sFreeze i).ok (x i)) :
    Calls Tryz.prog 94 #[.agg (cl sFreeze 163 x).toArray] w (PPost [certE x, (tellL 4 (fsAll (fFreeze.take 1)) x, run x 99 64)] w) := by
  have b1 : Below w.heap.size w (w.alloc (.cells (cl sFreeze 163 x).toArray 70)) := below_one w _
  have A1 := Arr.new w 70 (cl sFreeze 163 x)
  have r1 := A1.range
  have r2 : (w.alloc (.cells (cl sFreeze 163 x).toArray 70)).rangeAt w.heap.size 99 (U8 (run x 99 64)) := by
    rw [← cl_u8]; exact arr_sub A1 99 64 sB (by decide) (fun i hi => by unfold sFreeze sB; rw [if_neg (by omega)])
  have r3 : (w.alloc (.cells (cl sFreeze 163 x).toArray 70)).rangeAt w.heap.size 0 (cl sCert 99 x) := by
    have := arr_sub A1 0 99 sCert (by decide) (fun i hi => by unfold sFreeze; rw [Nat.zero_add, if_pos hi])
    rwa [sft_zero] at this
  have hlt := A1.lt
  have hZ : (Tryz.prog.info? 70).map (·.size) = some (cl sFreeze 163 x).length := by rw [cl_length]; kernel_rfl
  have hZC : (Tryz.prog.info? 39).map (·.size) = some (cl sCert 99 x).length := by rw [cl_length]; exact Tryz.szPCert
  have hGl : (run x 99 64).length = 64 := run_length _ _ _
  have hGB : IsB (run x 99 64) := run_isB hok (by decide) (fun i hi => by unfold sFreeze; rw [if_neg (by omega)])
  have hZG : (Tryz.prog.info? 32).map (·.size) = some (U8 (run x 99 64)).length := by rw [U8_length, hGl]; exact Tryz.szPSig
  have hSay := fun W => sayFreeze_any W x hok
  have hCP := fun W => certParts_any W x (fun i hi => by have := hok i (by omega); unfold sFreeze at this; rwa [if_pos hi] at this)
  obtain ⟨it, Z, hi, hz, hZl, hs, hb⟩ := partZ
  clear A1 hok
  generalize hL : tellL 4 (fsAll (fFreeze.take 1)) x = L at *
  generalize cl sFreeze 163 x = X at *
  generalize cl sCert 99 x = XC at *
  generalize run x 99 64 = G at *
  clear hL
  go_enter Tryz.func94, Tryz.ntmps94
  go_wp2
  generalize w.alloc (.cells X.toArray 70) = W at *
  have hC := hCP W.drew
  refine wp_region_noPanic ?_
  refine wp_region_held_drew (S := fun w' => w'.rangeAt w.heap.size 0 X ∧ w'.rangeAt w.heap.size 99 (U8 G) ∧ w'.rangeAt w.heap.size 0 XC) (by kernel_rfl) ⟨r1, r2, r3⟩ (fun hHeld => ?_)
  have hKeep : ∀ (a b : World), (∀ k, k < a.heap.size → b.heap[k]? = a.heap[k]?) → w.heap.size < a.heap.size → (a.rangeAt w.heap.size 0 X ∧ a.rangeAt w.heap.size 99 (U8 G) ∧ a.rangeAt w.heap.size 0 XC) → (b.rangeAt w.heap.size 0 X ∧ b.rangeAt w.heap.size 99 (U8 G) ∧ b.rangeAt w.heap.size 0 XC) := fun a b h hl hh => ⟨fun j v hj => (World.cell?_of_block (h _ hl)).trans (hh.1 j v hj), fun j v hj => (World.cell?_of_block (h _ hl)).trans (hh.2.1 j v hj), fun j v hj => (World.cell?_of_block (h _ hl)).trans (hh.2.2 j v hj)⟩
  refine wpAnyH_take (i := 0) (v := (.pointer (some ⟨w.heap.size, 0, none⟩))) rfl (by kernel_rfl) (by kernel_rfl) (by kernel_rfl) (fun _ _ _ h => h) (Or.inl ⟨by rfl, fun w hSw => by go_simp⟩) hHeld ?_
  simp [Act.put]
  refine wpAnyH_take (i := 1) (v := _) rfl (by kernel_rfl) (by kernel_rfl) (by kernel_rfl) (fun _ _ _ h => h) (yieldsIf_load_mid (by rfl) _ _ rfl _ _ rfl _ _ (fun _ h => h.2.2) Tryz.underlying39 rfl hZC) hHeld ?_
  simp [Act.put]
  refine wpAnyH_take (i := 3) (v := _) rfl (by kernel_rfl) (by kernel_rfl) (by kernel_rfl) (fun _ _ _ h => h) (yieldsIf_load_mid (by rfl) _ _ rfl _ _ rfl _ _ (fun _ h => h.1) Tryz.underlying70 rfl hZ) hHeld ?_
  simp [Act.put]
  refine wpAnyH_take (i := 5) (v := (.pointer (some ⟨w.heap.size, 99, none⟩))) rfl (by kernel_rfl) (by kernel_rfl) (by kernel_rfl) (fun _ _ _ h => h) (Or.inl ⟨by rfl, fun w hSw => by go_simp⟩) hHeld ?_
  simp [Act.put]
  refine wpAnyH_take (i := 6) (v := _) rfl (by kernel_rfl) (by kernel_rfl) (by kernel_rfl) (fun _ _ _ h => h) (yieldsIf_load_mid (by rfl) _ _ rfl _ _ rfl _ _ (fun _ h => h.2.1) Tryz.underlying32 rfl hZG) hHeld ?_
  simp [Act.put]
  refine wpAnyH_ready (rs := [2]) (by kernel_rfl) (by simp) ?_
  refine AllReadyH.cons rfl (fun K hK => ?_) AllReadyH.nil
  go_simp
  refine hC.mono ?_
  rintro e w1 ⟨v1, ps, rfl, hP1, hE1, hB1⟩
  have hlt1 : w.heap.size < w1.heap.size := Nat.lt_of_lt_of_le hlt hB1.size
  have hl1 : ps.length = 1 := by have := congrArg List.length hE1; simpa using this
  obtain ⟨av1, cv1, rfl⟩ := own_parts hP1.own
  rw [hl1]
  refine hK.out _ _ (hKeep _ _ hB1.block hlt hHeld) (fun hHeld => ?_)
  clear hK K hC
  have hD := hSay w1
  refine wpAnyH_ready (rs := [4]) (by kernel_rfl) (by simp) ?_
  refine AllReadyH.cons rfl (fun K hK => ?_) AllReadyH.nil
  go_simp
  refine hD.mono ?_
  intro e w2 hT
  obtain ⟨av, cv, rfl, hown, hB2⟩ := hT.ownB
  refine hK.out _ _ (hKeep _ _ hB2.block hlt1 hHeld) (fun hHeld => ?_)
  have hlt2 : w.heap.size < w2.heap.size := Nat.lt_of_lt_of_le hlt1 hB2.size
  clear hK K hD hT hSay hCP
  have hbd := part_built hown G hGl
  have hrun := part_slice w2 ⟨.slice av L.length cv, L, G⟩ hGl
  have hb3 : Below w2.heap.size w2 (w2.alloc (.cells (Prt.cells ⟨.slice av L.length cv, L, G⟩).toArray 118)) := below_one w2 _
  have hP3 := (hP1.later hB2).later hb3
  have hO3 : OwnB (w2.alloc (.cells (Prt.cells ⟨.slice av L.length cv, L, G⟩).toArray 118)) W.heap.size (.slice av L.length cv) L := (hown.later hb3).mono hB1.size
  have hnews := arr_adds (Arr.new w2 118 (Prt.cells ⟨.slice av L.length cv, L, G⟩))
  have hoc := part_oc (p := ⟨.slice av L.length cv, L, G⟩) hO3
  have hcl : (Prt.cells ⟨.slice av L.length cv, L, G⟩).length = 65 := Prt.len (p := ⟨.slice av L.length cv, L, G⟩) hGl
  have hs3 : W.heap.size ≤ (w2.alloc (.cells (Prt.cells ⟨.slice av L.length cv, L, G⟩).toArray 118)).heap.size := Nat.le_trans hB1.size (Nat.le_trans hB2.size hb3.size)
  have hbW : Below W.heap.size W (w2.alloc (.cells (Prt.cells ⟨.slice av L.length cv, L, G⟩).toArray 118)) := (undrew_bel hB1 (Nat.le_refl _)).trans ((hB2.trans (hb3.mono hB2.size)).mono hB1.size)
  have HA : Hid (∀ v' w', w'.ownsRow W.heap.size 118 65 v' (1 + 1) (ps.flatMap Prt.cells ++ Prt.cells ⟨.slice av L.length cv, L, G⟩) → (w2.alloc (.cells (Prt.cells ⟨.slice av L.length cv, L, G⟩).toArray 118)).grownBy w' (.slice av1 ps.length cv1 : Value).ownBlock → PPost [certE x, (L, G)] w (.returned v') w' ∧ ∀ k, k < W.heap.size → w'.heap[k]? = W.heap[k]?) := by
    intro v' w' ho hg
    have hp' := Prts.app (p := ⟨.slice av L.length cv, L, G⟩) hP3 hO3 hGl hGB (by rw [hl1]; exact ho) hg
    have hbe : Below W.heap.size (w2.alloc (.cells (Prt.cells ⟨.slice av L.length cv, L, G⟩).toArray 118)) w' := own_belG (row := none) hP3.own hg (Nat.le_refl _) hs3
    refine ⟨⟨v', ps ++ [⟨.slice av L.length cv, L, G⟩], rfl, hp'.mono b1.size, by rw [List.map_append, hE1]; rfl, b1.trans ((hbW.trans hbe).mono b1.size)⟩, fun k hk => (hbW.trans hbe).block k hk⟩
  have hown3 := hP3.own
  rw [hl1] at hown3 HA
  clear hP3 hO3 hown hP1 hE1 hB1 hB2 hbW
  generalize hXS : ps.flatMap Prt.cells = XS at *
  generalize hCC : Prt.cells ⟨.slice av L.length cv, L, G⟩ = C at *
  clear hCC hXS hl1 ps
  generalize L.length = m at *
  refine wpAnyH_take (i := 7) (v := (.agg C.toArray)) rfl (by kernel_rfl) (by kernel_rfl) (by kernel_rfl) (fun _ _ _ h => h) (yieldsIf_bd (by rfl) _ _ rfl _ (by simpa [Act.eval] using hbd)) hHeld ?_
  simp [Act.put]
  refine wpAnyH_ready (rs := [8]) (by kernel_rfl) (by simp) ?_
  refine AllReadyH.cons rfl (fun K hK => ?_) AllReadyH.nil
  refine step_bsG rfl _ _ _ rfl _ _ (by simpa [Act.eval] using hrun) ?_
  simp only [Act.put]
  refine hK.out _ _ (hKeep _ _ hb3.block hlt2 hHeld) (fun hHeld => ?_)
  clear hK K hrun hbd
  have hlt3 := Nat.lt_of_lt_of_le hlt2 hb3.size
  refine wpAnyH_ready (rs := [9]) (by kernel_rfl) (by simp) ?_
  refine AllReadyH.cons rfl (fun K hK => ?_) AllReadyH.nil
  refine step_appG rfl (.tmp 5) (.tmp 11) 114 rfl W.heap.size 118 it (.agg Z.toArray) 65 88 Tryz.underlying114 hi hz hs hb (by simp [Value.cells, hZl]) (by decide) (.slice av1 1 cv1) 1 XS rfl hown3 ⟨w2.heap.size, 0, none⟩ 1 1 C rfl (by rw [hcl]) hnews hoc (by unfold maxLen; omega) (by omega) hs3 (fun v' w' ho hg => ?_)
  obtain ⟨hPP, hbk⟩ := unhide HA v' w' ho hg
  obtain ⟨av', cv', rfl⟩ := own_parts ho
  refine hK.out _ _ (hKeep W w' hbk hlt ⟨r1, r2, r3⟩) (fun hHeld => ?_)
  clear hK K HA ho hg hbk hnews hoc hown3
  refine wpAnyH_take (i := 10) (v := (.slice av' (1 + 1) cv')) rfl (by kernel_rfl) (by kernel_rfl) (by kernel_rfl) (fun _ _ _ h => h) (Or.inl ⟨by rfl, fun w hSw => by go_simp⟩) hHeld ?_
  simp [Act.put]
  refine wpAnyH_done (by kernel_rfl) ?_ _
  unfold NoPanic
  clear hHeld
  go_wp2
  go_ret
  exact hPP
set_option maxHeartbeats 4000000 in
set_option maxRecDepth 100000 in
theorem partsRevocation_any (w : World) (x : Nat → Int) (hok : ∀ i, i < 163 → (sRevocation i).ok (x i)) :
    Calls Tryz.prog 99 #[.agg (cl sRevocation 163 x).toArray] w (PPost [certE x, (tellL 6 (fsAll (fRevocation.take 1)) x, run x 99 64)] w) := by
  have b1 : Below w.heap.size w (w.alloc (.cells (cl sRevocation 163 x).toArray 79)) := below_one w _
  have A1 := Arr.new w 79 (cl sRevocation 163 x)
  have r1 := A1.range
  have r2 : (w.alloc (.cells (cl sRevocation 163 x).toArray 79)).rangeAt w.heap.size 99 (U8 (run x 99 64)) := by
    rw [← cl_u8]; exact arr_sub A1 99 64 sB (by decide) (fun i hi => by unfold sRevocation sB; rw [if_neg (by omega)])
  have r3 : (w.alloc (.cells (cl sRevocation 163 x).toArray 79)).rangeAt w.heap.size 0 (cl sCert 99 x) := by
    have := arr_sub A1 0 99 sCert (by decide) (fun i hi => by unfold sRevocation; rw [Nat.zero_add, if_pos hi])
    rwa [sft_zero] at this
  have hlt := A1.lt
  have hZ : (Tryz.prog.info? 79).map (·.size) = some (cl sRevocation 163 x).length := by rw [cl_length]; kernel_rfl
  have hZC : (Tryz.prog.info? 39).map (·.size) = some (cl sCert 99 x).length := by rw [cl_length]; exact Tryz.szPCert
  have hGl : (run x 99 64).length = 64 := run_length _ _ _
  have hGB : IsB (run x 99 64) := run_isB hok (by decide) (fun i hi => by unfold sRevocation; rw [if_neg (by omega)])
  have hZG : (Tryz.prog.info? 32).map (·.size) = some (U8 (run x 99 64)).length := by rw [U8_length, hGl]; exact Tryz.szPSig
  have hSay := fun W => sayRevocation_any W x hok
  have hCP := fun W => certParts_any W x (fun i hi => by have := hok i (by omega); unfold sRevocation at this; rwa [if_pos hi] at this)
  obtain ⟨it, Z, hi, hz, hZl, hs, hb⟩ := partZ
  clear A1 hok
  generalize hL : tellL 6 (fsAll (fRevocation.take 1)) x = L at *
  generalize cl sRevocation 163 x = X at *
  generalize cl sCert 99 x = XC at *
  generalize run x 99 64 = G at *
  clear hL
  go_enter Tryz.func99, Tryz.ntmps99
  go_wp2
  generalize w.alloc (.cells X.toArray 79) = W at *
  have hC := hCP W.drew
  refine wp_region_noPanic ?_
  refine wp_region_held_drew (S := fun w' => w'.rangeAt w.heap.size 0 X ∧ w'.rangeAt w.heap.size 99 (U8 G) ∧ w'.rangeAt w.heap.size 0 XC) (by kernel_rfl) ⟨r1, r2, r3⟩ (fun hHeld => ?_)
  have hKeep : ∀ (a b : World), (∀ k, k < a.heap.size → b.heap[k]? = a.heap[k]?) → w.heap.size < a.heap.size → (a.rangeAt w.heap.size 0 X ∧ a.rangeAt w.heap.size 99 (U8 G) ∧ a.rangeAt w.heap.size 0 XC) → (b.rangeAt w.heap.size 0 X ∧ b.rangeAt w.heap.size 99 (U8 G) ∧ b.rangeAt w.heap.size 0 XC) := fun a b h hl hh => ⟨fun j v hj => (World.cell?_of_block (h _ hl)).trans (hh.1 j v hj), fun j v hj => (World.cell?_of_block (h _ hl)).trans (hh.2.1 j v hj), fun j v hj => (World.cell?_of_block (h _ hl)).trans (hh.2.2 j v hj)⟩
  refine wpAnyH_take (i := 0) (v := (.pointer (some ⟨w.heap.size, 0, none⟩))) rfl (by kernel_rfl) (by kernel_rfl) (by kernel_rfl) (fun _ _ _ h => h) (Or.inl ⟨by rfl, fun w hSw => by go_simp⟩) hHeld ?_
  simp [Act.put]
  refine wpAnyH_take (i := 1) (v := _) rfl (by kernel_rfl) (by kernel_rfl) (by kernel_rfl) (fun _ _ _ h => h) (yieldsIf_load_mid (by rfl) _ _ rfl _ _ rfl _ _ (fun _ h => h.2.2) Tryz.underlying39 rfl hZC) hHeld ?_
  simp [Act.put]
  refine wpAnyH_take (i := 3) (v := _) rfl (by kernel_rfl) (by kernel_rfl) (by kernel_rfl) (fun _ _ _ h => h) (yieldsIf_load_mid (by rfl) _ _ rfl _ _ rfl _ _ (fun _ h => h.1) Tryz.underlying79 rfl hZ) hHeld ?_
  simp [Act.put]
  refine wpAnyH_take (i := 5) (v := (.pointer (some ⟨w.heap.size, 99, none⟩))) rfl (by kernel_rfl) (by kernel_rfl) (by kernel_rfl) (fun _ _ _ h => h) (Or.inl ⟨by rfl, fun w hSw => by go_simp⟩) hHeld ?_
  simp [Act.put]
  refine wpAnyH_take (i := 6) (v := _) rfl (by kernel_rfl) (by kernel_rfl) (by kernel_rfl) (fun _ _ _ h => h) (yieldsIf_load_mid (by rfl) _ _ rfl _ _ rfl _ _ (fun _ h => h.2.1) Tryz.underlying32 rfl hZG) hHeld ?_
  simp [Act.put]
  refine wpAnyH_ready (rs := [2]) (by kernel_rfl) (by simp) ?_
  refine AllReadyH.cons rfl (fun K hK => ?_) AllReadyH.nil
  go_simp
  refine hC.mono ?_
  rintro e w1 ⟨v1, ps, rfl, hP1, hE1, hB1⟩
  have hlt1 : w.heap.size < w1.heap.size := Nat.lt_of_lt_of_le hlt hB1.size
  have hl1 : ps.length = 1 := by have := congrArg List.length hE1; simpa using this
  obtain ⟨av1, cv1, rfl⟩ := own_parts hP1.own
  rw [hl1]
  refine hK.out _ _ (hKeep _ _ hB1.block hlt hHeld) (fun hHeld => ?_)
  clear hK K hC
  have hD := hSay w1
  refine wpAnyH_ready (rs := [4]) (by kernel_rfl) (by simp) ?_
  refine AllReadyH.cons rfl (fun K hK => ?_) AllReadyH.nil
  go_simp
  refine hD.mono ?_
  intro e w2 hT
  obtain ⟨av, cv, rfl, hown, hB2⟩ := hT.ownB
  refine hK.out _ _ (hKeep _ _ hB2.block hlt1 hHeld) (fun hHeld => ?_)
  have hlt2 : w.heap.size < w2.heap.size := Nat.lt_of_lt_of_le hlt1 hB2.size
  clear hK K hD hT hSay hCP
  have hbd := part_built hown G hGl
  have hrun := part_slice w2 ⟨.slice av L.length cv, L, G⟩ hGl
  have hb3 : Below w2.heap.size w2 (w2.alloc (.cells (Prt.cells ⟨.slice av L.length cv, L, G⟩).toArray 118)) := below_one w2 _
  have hP3 := (hP1.later hB2).later hb3
  have hO3 : OwnB (w2.alloc (.cells (Prt.cells ⟨.slice av L.length cv, L, G⟩).toArray 118)) W.heap.size (.slice av L.length cv) L := (hown.later hb3).mono hB1.size
  have hnews := arr_adds (Arr.new w2 118 (Prt.cells ⟨.slice av L.length cv, L, G⟩))
  have hoc := part_oc (p := ⟨.slice av L.length cv, L, G⟩) hO3
  have hcl : (Prt.cells ⟨.slice av L.length cv, L, G⟩).length = 65 := Prt.len (p := ⟨.slice av L.length cv, L, G⟩) hGl
  have hs3 : W.heap.size ≤ (w2.alloc (.cells (Prt.cells ⟨.slice av L.length cv, L, G⟩).toArray 118)).heap.size := Nat.le_trans hB1.size (Nat.le_trans hB2.size hb3.size)
  have hbW : Below W.heap.size W (w2.alloc (.cells (Prt.cells ⟨.slice av L.length cv, L, G⟩).toArray 118)) := (undrew_bel hB1 (Nat.le_refl _)).trans ((hB2.trans (hb3.mono hB2.size)).mono hB1.size)
  have HA : Hid (∀ v' w', w'.ownsRow W.heap.size 118 65 v' (1 + 1) (ps.flatMap Prt.cells ++ Prt.cells ⟨.slice av L.length cv, L, G⟩) → (w2.alloc (.cells (Prt.cells ⟨.slice av L.length cv, L, G⟩).toArray 118)).grownBy w' (.slice av1 ps.length cv1 : Value).ownBlock → PPost [certE x, (L, G)] w (.returned v') w' ∧ ∀ k, k < W.heap.size → w'.heap[k]? = W.heap[k]?) := by
    intro v' w' ho hg
    have hp' := Prts.app (p := ⟨.slice av L.length cv, L, G⟩) hP3 hO3 hGl hGB (by rw [hl1]; exact ho) hg
    have hbe : Below W.heap.size (w2.alloc (.cells (Prt.cells ⟨.slice av L.length cv, L, G⟩).toArray 118)) w' := own_belG (row := none) hP3.own hg (Nat.le_refl _) hs3
    refine ⟨⟨v', ps ++ [⟨.slice av L.length cv, L, G⟩], rfl, hp'.mono b1.size, by rw [List.map_append, hE1]; rfl, b1.trans ((hbW.trans hbe).mono b1.size)⟩, fun k hk => (hbW.trans hbe).block k hk⟩
  have hown3 := hP3.own
  rw [hl1] at hown3 HA
  clear hP3 hO3 hown hP1 hE1 hB1 hB2 hbW
  generalize hXS : ps.flatMap Prt.cells = XS at *
  generalize hCC : Prt.cells ⟨.slice av L.length cv, L, G⟩ = C at *
  clear hCC hXS hl1 ps
  generalize L.length = m at *
  refine wpAnyH_take (i := 7) (v := (.agg C.toArray)) rfl (by kernel_rfl) (by kernel_rfl) (by kernel_rfl) (fun _ _ _ h => h) (yieldsIf_bd (by rfl) _ _ rfl _ (by simpa [Act.eval] using hbd)) hHeld ?_
  simp [Act.put]
  refine wpAnyH_ready (rs := [8]) (by kernel_rfl) (by simp) ?_
  refine AllReadyH.cons rfl (fun K hK => ?_) AllReadyH.nil
  refine step_bsG rfl _ _ _ rfl _ _ (by simpa [Act.eval] using hrun) ?_
  simp only [Act.put]
  refine hK.out _ _ (hKeep _ _ hb3.block hlt2 hHeld) (fun hHeld => ?_)
  clear hK K hrun hbd
  have hlt3 := Nat.lt_of_lt_of_le hlt2 hb3.size
  refine wpAnyH_ready (rs := [9]) (by kernel_rfl) (by simp) ?_
  refine AllReadyH.cons rfl (fun K hK => ?_) AllReadyH.nil
  refine step_appG rfl (.tmp 5) (.tmp 11) 114 rfl W.heap.size 118 it (.agg Z.toArray) 65 88 Tryz.underlying114 hi hz hs hb (by simp [Value.cells, hZl]) (by decide) (.slice av1 1 cv1) 1 XS rfl hown3 ⟨w2.heap.size, 0, none⟩ 1 1 C rfl (by rw [hcl]) hnews hoc (by unfold maxLen; omega) (by omega) hs3 (fun v' w' ho hg => ?_)
  obtain ⟨hPP, hbk⟩ := unhide HA v' w' ho hg
  obtain ⟨av', cv', rfl⟩ := own_parts ho
  refine hK.out _ _ (hKeep W w' hbk hlt ⟨r1, r2, r3⟩) (fun hHeld => ?_)
  clear hK K HA ho hg hbk hnews hoc hown3
  refine wpAnyH_take (i := 10) (v := (.slice av' (1 + 1) cv')) rfl (by kernel_rfl) (by kernel_rfl) (by kernel_rfl) (fun _ _ _ h => h) (Or.inl ⟨by rfl, fun w hSw => by go_simp⟩) hHeld ?_
  simp [Act.put]
  refine wpAnyH_done (by kernel_rfl) ?_ _
  unfold NoPanic
  clear hHeld
  go_wp2
  go_ret
  exact hPP
end Go.Proofs.YtfedajifefldmaaGreat
namespace Go.Proofs.YtfedajifefldmaaGreat
open Go.RowKit
theorem built_first {P : Program} {t : TypeId} {it : TypeInfo} {fields : Array Field} {Z : List Value} {n m : Nat} (hit : P.info? t = some it) (hu : P.underlying t = some (.struct fields)) (hz : it.zero = some (.agg Z.toArray))
    (hp : fields.toList.mapM (fun f => (P.info? f.type).map fun i => (f.offset, i.size)) = some (plc [n, m] 0)) (v : Value) (hv : v.cells.size = n) (hZ : Z.length = n + m) : P.built t [(0, v)] = some (cellsL v ++ Z.drop n).toArray := by
  unfold Program.built
  rw [hit, hu]
  simp only [hz, hp]
  have hcl : (cellsL v).length = n := by rw [cellsL, Array.length_toList]; exact hv
  have hf := fold_set (cellsL v) 0 0 [] (Z.take n) (Z.drop n) (by rw [List.length_take, hcl]; omega) (by simp)
  rw [List.nil_append, List.nil_append, List.take_append_drop] at hf
  show Instr.fill _ Z.toArray _ = _
  have h0 : (plc [n, m] 0).toArray[0]? = some (0, n) := rfl
  rw [Instr.fill]
  simp only [h0]
  rw [if_neg (by simp [hv]; omega), ← Array.foldl_toList, Array.toList_zipIdx]
  have hf' : List.foldl (fun (cs : Array Value) (x : Value × Nat) => cs.setIfInBounds (0 + x.2) x.1) Z.toArray (v.cells.toList.zipIdx) = (cellsL v ++ Z.drop n).toArray := hf
  rw [hf']
  rfl
def onlyC (x : Nat → Int) : Nat → Int := fun i => if i < 99 then x i else 0
theorem onlyC_cells {s : Nat → Kd} (x : Nat → Int) (hs : ∀ i, i < 99 → s i = sCert i) : cl sCert 99 x ++ (cl s 163 (fun _ => 0)).drop 99 = cl s 163 (onlyC x) := by
  apply List.ext_getElem?
  intro i
  by_cases hi : i < 99
  · rw [List.getElem?_append_left (by rw [cl_length]; exact hi), cl_at _ _ _ _ hi, cl_at _ _ _ _ (by omega), hs i hi]
    unfold onlyC; rw [if_pos hi]
  · rw [List.getElem?_append_right (by rw [cl_length]; omega), cl_length, List.getElem?_drop]
    by_cases h2 : i < 163
    · rw [cl_at _ _ _ _ (by omega), cl_at _ _ _ _ h2, show 99 + (i - 99) = i by omega]
      unfold onlyC; rw [if_neg hi]
    · rw [List.getElem?_eq_none (by rw [cl_length]; omega), List.getElem?_eq_none (by rw [cl_length]; omega)]
theorem gud_freeze1 : ∃ R, Gud (fsAll (fFreeze.take 1)) 0 99 R := by
  obtain ⟨R, hG, -⟩ := kin_Cert
  refine ⟨fun y => R y ∧ True, ?_⟩
  show Gud (fsAll [fsIn 0 (fsAll fCert)]) 0 99 _
  rw [fsIn_zero]
  exact gud_cons hG (gud_nil 99)
theorem tell_onlyC (d : Int) {x y : Nat → Int} (h : ∀ i, i < 99 → x i = y i) : tellL d (fsAll (fFreeze.take 1)) x = tellL d (fsAll (fFreeze.take 1)) y := by
  obtain ⟨R, hG⟩ := gud_freeze1
  unfold tellL
  rw [hG.fl x y h, hG.loc x y (fun i _ hi => h i hi)]
theorem built_Freeze (x : Nat → Int) : Tryz.prog.built 70 [(0, .agg (cl sCert 99 x).toArray)] = some (cl sFreeze 163 (onlyC x)).toArray := by
  obtain ⟨Z, it, hZ, hZl, hit, hz, -⟩ := zeroFreeze_named
  have := built_first (n := 99) (m := 64) hit Tryz.underlying70 hz (by kernel_rfl) (.agg (cl sCert 99 x).toArray) (by show (cl sCert 99 x).toArray.size = 99; rw [List.size_toArray, cl_length]) hZl
  rw [this, cells_agg, hZ, onlyC_cells x (fun i hi => by unfold sFreeze; rw [if_pos hi])]
theorem built_Revocation (x : Nat → Int) : Tryz.prog.built 79 [(0, .agg (cl sCert 99 x).toArray)] = some (cl sRevocation 163 (onlyC x)).toArray := by
  obtain ⟨Z, it, hZ, hZl, hit, hz, -⟩ := zeroRevocation_named
  have := built_first (n := 99) (m := 64) hit Tryz.underlying79 hz (by kernel_rfl) (.agg (cl sCert 99 x).toArray) (by show (cl sCert 99 x).toArray.size = 99; rw [List.size_toArray, cl_length]) hZl
  rw [this, cells_agg, hZ, onlyC_cells x (fun i hi => by unfold sRevocation; rw [if_pos hi])]
theorem onlyC_okF {x : Nat → Int} (h : ∀ i, i < 99 → (sCert i).ok (x i)) : ∀ i, i < 163 → (sFreeze i).ok (onlyC x i) := fun i hi => by
  unfold sFreeze onlyC
  by_cases h9 : i < 99
  · rw [if_pos h9, if_pos h9]; exact h i h9
  · rw [if_neg h9, if_neg h9]; exact kd_zero _
theorem onlyC_okR {x : Nat → Int} (h : ∀ i, i < 99 → (sCert i).ok (x i)) : ∀ i, i < 163 → (sRevocation i).ok (onlyC x i) := onlyC_okF h
def frzL (x : Nat → Int) : List Int := tellL 4 (fsAll (fFreeze.take 1)) (onlyC x)
def rvkL (x : Nat → Int) : List Int := tellL 6 (fsAll (fRevocation.take 1)) (onlyC x)
def entE (x : Nat → Int) : List (List Int × List Int) := certE x :: ((if x 132 ≠ 0 then [(frzL x, run x 133 64)] else []) ++ (if x 197 ≠ 0 then [(rvkL x, run x 198 64)] else []))
set_option maxHeartbeats 8000000 in
set_option maxRecDepth 100000 in
theorem partsEntry_any (w : World) (x : Nat → Int) (hok : ∀ i, i < 262 → (sEntry i).ok (x i)) :
    Calls Tryz.prog 92 #[.agg (cl sEntry 262 x).toArray] w (PPost (entE x) w) := by
  have hokC : ∀ i, i < 99 → (sCert i).ok (x i) := fun i hi => by have := hok i (by omega); unfold sEntry at this; rwa [if_pos hi] at this
  have b1 : Below w.heap.size w (w.alloc (.cells (cl sEntry 262 x).toArray 65)) := below_one w _
  have A1 := Arr.new w 65 (cl sEntry 262 x)
  have rC : (w.alloc (.cells (cl sEntry 262 x).toArray 65)).rangeAt w.heap.size 0 (cl sCert 99 x) := by
    have := arr_sub A1 0 99 sCert (by decide) (fun i hi => by unfold sEntry; rw [Nat.zero_add, if_pos hi])
    rwa [sft_zero] at this
  have rF : (w.alloc (.cells (cl sEntry 262 x).toArray 65)).rangeAt w.heap.size 133 (U8 (run x 133 64)) := by
    rw [← cl_u8]; exact arr_sub A1 133 64 sB (by decide) (fun i hi => by unfold sEntry sB; rw [if_neg (by omega), if_neg (by omega), if_neg (by omega)])
  have rR : (w.alloc (.cells (cl sEntry 262 x).toArray 65)).rangeAt w.heap.size 198 (U8 (run x 198 64)) := by
    rw [← cl_u8]; exact arr_sub A1 198 64 sB (by decide) (fun i hi => by unfold sEntry sB; rw [if_neg (by omega), if_neg (by omega), if_neg (by omega)])
  have c132 : (w.alloc (.cells (cl sEntry 262 x).toArray 65)).cell? ⟨w.heap.size, 132, none⟩ = some (.bool (decide (x 132 ≠ 0))) := by rw [A1.cell, cl_at _ _ _ _ (by decide)]; rfl
  have c197 : (w.alloc (.cells (cl sEntry 262 x).toArray 65)).cell? ⟨w.heap.size, 197, none⟩ = some (.bool (decide (x 197 ≠ 0))) := by rw [A1.cell, cl_at _ _ _ _ (by decide)]; rfl
  have hlt := A1.lt
  have hZC : (Tryz.prog.info? 39).map (·.size) = some (cl sCert 99 x).length := by rw [cl_length]; exact Tryz.szPCert
  have hGlFreeze : (run x 133 64).length = 64 := run_length _ _ _
  have hGlRevocation : (run x 198 64).length = 64 := run_length _ _ _
  have hGBFreeze : IsB (run x 133 64) := run_isB hok (by decide) (fun i hi => by unfold sEntry; rw [if_neg (by omega), if_neg (by omega), if_neg (by omega)])
  have hGBRevocation : IsB (run x 198 64) := run_isB hok (by decide) (fun i hi => by unfold sEntry; rw [if_neg (by omega), if_neg (by omega), if_neg (by omega)])
  have hZGFreeze : (Tryz.prog.info? 32).map (·.size) = some (U8 (run x 133 64)).length := by rw [U8_length, hGlFreeze]; exact Tryz.szPSig
  have hZGRevocation : (Tryz.prog.info? 32).map (·.size) = some (U8 (run x 198 64)).length := by rw [U8_length, hGlRevocation]; exact Tryz.szPSig
  have hSayFreeze : ∀ W, Calls Tryz.prog 50 #[.agg (cl sFreeze 163 (onlyC x)).toArray] W (TPost (frzL x) W) := fun W => sayFreeze_any W (onlyC x) (onlyC_okF hokC)
  have hSayRevocation : ∀ W, Calls Tryz.prog 51 #[.agg (cl sRevocation 163 (onlyC x)).toArray] W (TPost (rvkL x) W) := fun W => sayRevocation_any W (onlyC x) (onlyC_okR hokC)
  have HBFreeze := hide (built_Freeze x)
  have HBRevocation := hide (built_Revocation x)
  have hCP := certParts_any (w.alloc (.cells (cl sEntry 262 x).toArray 65)) x hokC
  obtain ⟨it, Z, hi, hz, hZl, hs, hb⟩ := partZ
  have HEE : Hid (entE x = certE x :: ((if x 132 ≠ 0 then [(frzL x, run x 133 64)] else []) ++ (if x 197 ≠ 0 then [(rvkL x, run x 198 64)] else []))) := hide rfl
  clear A1 hok
  generalize entE x = EE at *
  generalize cl sEntry 262 x = X at *
  generalize cl sCert 99 x = XC at *
  generalize cl sFreeze 163 (onlyC x) = XFreeze at *
  generalize cl sRevocation 163 (onlyC x) = XRevocation at *
  generalize run x 133 64 = GF at *
  generalize run x 198 64 = GR at *
  have RC := hide rC
  go_enter Tryz.func92, Tryz.ntmps92
  go_upto_region 1 with fail
  generalize w.alloc (.cells X.toArray 65) = W at *
  have hKeepFreeze : ∀ (b : World), (∀ k, k < W.heap.size → b.heap[k]? = W.heap[k]?) → (b.rangeAt w.heap.size 0 XC ∧ b.rangeAt w.heap.size 133 (U8 GF)) := fun b h => ⟨fun j v hj => (World.cell?_of_block (h _ hlt)).trans (rC j v hj), fun j v hj => (World.cell?_of_block (h _ hlt)).trans (rF j v hj)⟩
  have hKeepRevocation : ∀ (b : World), (∀ k, k < W.heap.size → b.heap[k]? = W.heap[k]?) → (b.rangeAt w.heap.size 0 XC ∧ b.rangeAt w.heap.size 198 (U8 GR)) := fun b h => ⟨fun j v hj => (World.cell?_of_block (h _ hlt)).trans (rC j v hj), fun j v hj => (World.cell?_of_block (h _ hlt)).trans (rR j v hj)⟩
  have hc132 : ∀ (b : World), (∀ k, k < W.heap.size → b.heap[k]? = W.heap[k]?) → b.cell? ⟨w.heap.size, 132, none⟩ = some (.bool (decide (x 132 ≠ 0))) := fun b h => (World.cell?_of_block (h _ hlt)).trans c132
  have hc197 : ∀ (b : World), (∀ k, k < W.heap.size → b.heap[k]? = W.heap[k]?) → b.cell? ⟨w.heap.size, 197, none⟩ = some (.bool (decide (x 197 ≠ 0))) := fun b h => (World.cell?_of_block (h _ hlt)).trans c197
  clear rC rF rR c132 c197
  refine wp_region_lit ?_
  refine wpList_plain rfl fun K1 h => ?_; go_simp; refine h _ _ ?_; clear h K1
  refine wpList_load_mid rfl 39 (.tmp 4) rfl w.heap.size 0 rfl XC _ (unhide RC) Tryz.underlying39 rfl hZC ?_
  simp only [Act.put]
  refine wpList_plain rfl fun K1 hK1 => ?_
  go_simp
  refine hCP.mono ?_
  rintro e w1 ⟨v1, psw1, rfl, hP1, hE1, hB1⟩
  obtain ⟨aw1, cw1, rfl⟩ := own_parts hP1.own
  have Lw1 : Hid (psw1.length = 1) := hide (by have := congrArg List.length hE1; simpa using this)
  have Pw1 := hide hP1
  have Bw1 := hide hB1
  have Mw1 := hide hE1
  have d132 := hc132 w1 hB1.block
  clear hCP hP1 hE1 hB1 RC
  rw [unhide Lw1]
  refine hK1 _ _ ?_
  clear hK1 K1
  have HB1 := hide b1
  clear b1
  by_cases h132 : x 132 ≠ 0
  · rw [decide_eq_true h132] at d132
    rw [if_pos h132] at HEE
    go_upto_region 3 with fail
    have hC1 := hSayFreeze w1.drew
    refine wp_region_noPanic ?_
    refine wp_region_held_drew (S := fun w' => w'.rangeAt w.heap.size 0 XC ∧ w'.rangeAt w.heap.size 133 (U8 GF)) (by kernel_rfl) (hKeepFreeze w1 (unhide Bw1).block) (fun hHeld => ?_)
    refine wpAnyH_take (i := 0) (v := (.slice aw1 1 cw1)) rfl (by kernel_rfl) (by kernel_rfl) (by kernel_rfl) (fun _ _ _ h => h) (Or.inl ⟨by rfl, fun w hSw => by go_simp⟩) hHeld ?_
    simp [Act.put]
    refine wpAnyH_take (i := 1) (v := (.pointer (some ⟨w.heap.size, 0, none⟩))) rfl (by kernel_rfl) (by kernel_rfl) (by kernel_rfl) (fun _ _ _ h => h) (Or.inl ⟨by rfl, fun w hSw => by go_simp⟩) hHeld ?_
    simp [Act.put]
    refine wpAnyH_take (i := 2) (v := _) rfl (by kernel_rfl) (by kernel_rfl) (by kernel_rfl) (fun _ _ _ h => h) (yieldsIf_load_mid (by rfl) _ _ rfl _ _ rfl _ _ (fun _ h => h.1) Tryz.underlying39 rfl hZC) hHeld ?_
    simp [Act.put]
    refine wpAnyH_take (i := 3) (v := (.agg XFreeze.toArray)) rfl (by kernel_rfl) (by kernel_rfl) (by kernel_rfl) (fun _ _ _ h => h) (yieldsIf_bd (by rfl) _ _ rfl _ (by simpa [Act.eval] using (unhide HBFreeze))) hHeld ?_
    simp [Act.put]
    refine wpAnyH_take (i := 5) (v := (.pointer (some ⟨w.heap.size, 133, none⟩))) rfl (by kernel_rfl) (by kernel_rfl) (by kernel_rfl) (fun _ _ _ h => h) (Or.inl ⟨by rfl, fun w hSw => by go_simp⟩) hHeld ?_
    simp [Act.put]
    refine wpAnyH_take (i := 6) (v := _) rfl (by kernel_rfl) (by kernel_rfl) (by kernel_rfl) (fun _ _ _ h => h) (yieldsIf_load_mid (by rfl) _ _ rfl _ _ rfl _ _ (fun _ h => h.2) Tryz.underlying32 rfl hZGFreeze) hHeld ?_
    simp [Act.put]
    refine wpAnyH_ready (rs := [4]) (by kernel_rfl) (by simp) ?_
    refine AllReadyH.cons rfl (fun K hK => ?_) AllReadyH.nil
    go_simp
    refine hC1.mono ?_
    intro e u1 hT
    obtain ⟨av, cv, rfl, hown, hB2⟩ := hT.ownB
    have hbx : Below W.heap.size w1 u1 := undrew_bel hB2 (unhide Bw1).size
    have hbu : Below W.heap.size W u1 := (unhide Bw1).trans hbx
    refine hK.out _ _ (hKeepFreeze u1 hbu.block) (fun hHeld => ?_)
    clear hK K hC1 hT
    have hbd := part_built hown GF hGlFreeze
    have hrun := part_slice u1 ⟨.slice av (frzL x).length cv, frzL x, GF⟩ hGlFreeze
    have hb3 : Below u1.heap.size u1 (u1.alloc (.cells (Prt.cells ⟨.slice av (frzL x).length cv, frzL x, GF⟩).toArray 118)) := below_one u1 _
    have hP3 := ((unhide Pw1).later (undrew_bel hB2 (Nat.le_refl _))).later hb3
    have hO3 : OwnB (u1.alloc (.cells (Prt.cells ⟨.slice av (frzL x).length cv, frzL x, GF⟩).toArray 118)) W.heap.size (.slice av (frzL x).length cv) (frzL x) := (hown.later hb3).mono (unhide Bw1).size
    have hnews := arr_adds (Arr.new u1 118 (Prt.cells ⟨.slice av (frzL x).length cv, frzL x, GF⟩))
    have hoc := part_oc (p := ⟨.slice av (frzL x).length cv, frzL x, GF⟩) hO3
    have hcl : (Prt.cells ⟨.slice av (frzL x).length cv, frzL x, GF⟩).length = 65 := Prt.len (p := ⟨.slice av (frzL x).length cv, frzL x, GF⟩) hGlFreeze
    have hbW : Below W.heap.size W (u1.alloc (.cells (Prt.cells ⟨.slice av (frzL x).length cv, frzL x, GF⟩).toArray 118)) := hbu.trans (hb3.mono hbu.size)
    have HA : Hid (∀ v' w', w'.ownsRow W.heap.size 118 65 v' (1 + 1) (psw1.flatMap Prt.cells ++ Prt.cells ⟨.slice av (frzL x).length cv, frzL x, GF⟩) → (u1.alloc (.cells (Prt.cells ⟨.slice av (frzL x).length cv, frzL x, GF⟩).toArray 118)).grownBy w' (.slice aw1 psw1.length cw1 : Value).ownBlock → Prts w' W.heap.size v' (psw1 ++ [(⟨.slice av (frzL x).length cv, frzL x, GF⟩ : Prt)]) ∧ Below W.heap.size W w' ∧ (psw1 ++ [(⟨.slice av (frzL x).length cv, frzL x, GF⟩ : Prt)]).map (fun p : Prt => (p.l, p.g)) = psw1.map (fun p : Prt => (p.l, p.g)) ++ [(frzL x, GF)]) := by
      intro v' w' ho hg
      have hp' := Prts.app (p := ⟨.slice av (frzL x).length cv, frzL x, GF⟩) hP3 hO3 hGlFreeze hGBFreeze (by rw [unhide Lw1]; exact ho) hg
      have hbe : Below W.heap.size (u1.alloc (.cells (Prt.cells ⟨.slice av (frzL x).length cv, frzL x, GF⟩).toArray 118)) w' := own_belG (row := none) hP3.own hg (Nat.le_refl _) hbW.size
      exact ⟨hp', hbW.trans hbe, by rw [List.map_append]; rfl⟩
    have hown3 := hP3.own
    rw [unhide Lw1] at hown3 HA
    have hszB := hbW.size
    clear hP3 hO3 hown hB2 hbx
    refine wpAnyH_take (i := 7) (v := (.agg (Prt.cells ⟨.slice av (frzL x).length cv, frzL x, GF⟩).toArray)) rfl (by kernel_rfl) (by kernel_rfl) (by kernel_rfl) (fun _ _ _ h => h) (yieldsIf_bd (by rfl) _ _ rfl _ (by simpa [Act.eval] using hbd)) hHeld ?_
    simp [Act.put]
    refine wpAnyH_ready (rs := [8]) (by kernel_rfl) (by simp) ?_
    refine AllReadyH.cons rfl (fun K hK => ?_) AllReadyH.nil
    refine step_bsG rfl _ _ _ rfl _ _ (by simpa [Act.eval] using hrun) ?_
    simp only [Act.put]
    refine hK.out _ _ (hKeepFreeze _ hbW.block) (fun hHeld => ?_)
    clear hK K hrun hbd
    refine wpAnyH_ready (rs := [9]) (by kernel_rfl) (by simp) ?_
    refine AllReadyH.cons rfl (fun K hK => ?_) AllReadyH.nil
    refine step_appG rfl (.tmp 9) (.tmp 17) 114 rfl W.heap.size 118 it (.agg Z.toArray) 65 88 Tryz.underlying114 hi hz hs hb (by simp [Value.cells, hZl]) (by decide) (.slice aw1 1 cw1) 1 _ rfl hown3 ⟨u1.heap.size, 0, none⟩ 1 1 _ rfl (by rw [hcl]) hnews hoc (by unfold maxLen; omega) (by omega) hszB (fun v' x1 ho hg => ?_)
    obtain ⟨hPP, hbk, hmm⟩ := unhide HA v' x1 ho hg
    obtain ⟨ax1, cx1, rfl⟩ := own_parts ho
    refine hK.out _ _ (hKeepFreeze x1 hbk.block) (fun hHeld => ?_)
    clear hK K HA ho hg hnews hoc hown3 hbW hszB hcl hb3 hbu
    rw [show (1 + 1 : Nat) = 2 from rfl] at *
    have Bx1 := hide hbk
    have Lx1 : Hid ((psw1 ++ [(⟨.slice av (frzL x).length cv, frzL x, GF⟩ : Prt)]).length = 2) := hide (by rw [List.length_append, unhide Lw1]; rfl)
    have hPP2 : Prts x1 W.heap.size (.slice ax1 (psw1 ++ [(⟨.slice av (frzL x).length cv, frzL x, GF⟩ : Prt)]).length cx1) (psw1 ++ [(⟨.slice av (frzL x).length cv, frzL x, GF⟩ : Prt)]) := by rw [unhide Lx1]; exact hPP
    have Px1 := hide hPP2
    have Mx1 := hide (hmm.trans (congrArg (· ++ [(frzL x, GF)]) (unhide Mw1)))
    clear hbk hPP hPP2 hmm
    generalize hps : psw1 ++ [(⟨.slice av (frzL x).length cv, frzL x, GF⟩ : Prt)] = psx1 at *
    clear hps
    refine wpAnyH_take (i := 10) (v := (.slice ax1 2 cx1)) rfl (by kernel_rfl) (by kernel_rfl) (by kernel_rfl) (fun _ _ _ h => h) (Or.inl ⟨by rfl, fun w hSw => by go_simp⟩) hHeld ?_
    simp [Act.put]
    refine wpAnyH_done (by kernel_rfl) ?_ _
    unfold NoPanic
    clear hHeld
    have d197 := hc197 x1 (unhide Bx1).block
    by_cases h197 : x 197 ≠ 0
    · rw [decide_eq_true h197] at d197
      rw [if_pos h197] at HEE
      go_upto_region 5 with fail
      have hC2 := hSayRevocation x1.drew
      refine wp_region_noPanic ?_
      refine wp_region_held_drew (S := fun w' => w'.rangeAt w.heap.size 0 XC ∧ w'.rangeAt w.heap.size 198 (U8 GR)) (by kernel_rfl) (hKeepRevocation x1 (unhide Bx1).block) (fun hHeld => ?_)
      refine wpAnyH_take (i := 0) (v := (.slice ax1 2 cx1)) rfl (by kernel_rfl) (by kernel_rfl) (by kernel_rfl) (fun _ _ _ h => h) (Or.inl ⟨by rfl, fun w hSw => by go_simp⟩) hHeld ?_
      simp [Act.put]
      refine wpAnyH_take (i := 1) (v := (.pointer (some ⟨w.heap.size, 0, none⟩))) rfl (by kernel_rfl) (by kernel_rfl) (by kernel_rfl) (fun _ _ _ h => h) (Or.inl ⟨by rfl, fun w hSw => by go_simp⟩) hHeld ?_
      simp [Act.put]
      refine wpAnyH_take (i := 2) (v := _) rfl (by kernel_rfl) (by kernel_rfl) (by kernel_rfl) (fun _ _ _ h => h) (yieldsIf_load_mid (by rfl) _ _ rfl _ _ rfl _ _ (fun _ h => h.1) Tryz.underlying39 rfl hZC) hHeld ?_
      simp [Act.put]
      refine wpAnyH_take (i := 3) (v := (.agg XRevocation.toArray)) rfl (by kernel_rfl) (by kernel_rfl) (by kernel_rfl) (fun _ _ _ h => h) (yieldsIf_bd (by rfl) _ _ rfl _ (by simpa [Act.eval] using (unhide HBRevocation))) hHeld ?_
      simp [Act.put]
      refine wpAnyH_take (i := 5) (v := (.pointer (some ⟨w.heap.size, 198, none⟩))) rfl (by kernel_rfl) (by kernel_rfl) (by kernel_rfl) (fun _ _ _ h => h) (Or.inl ⟨by rfl, fun w hSw => by go_simp⟩) hHeld ?_
      simp [Act.put]
      refine wpAnyH_take (i := 6) (v := _) rfl (by kernel_rfl) (by kernel_rfl) (by kernel_rfl) (fun _ _ _ h => h) (yieldsIf_load_mid (by rfl) _ _ rfl _ _ rfl _ _ (fun _ h => h.2) Tryz.underlying32 rfl hZGRevocation) hHeld ?_
      simp [Act.put]
      refine wpAnyH_ready (rs := [4]) (by kernel_rfl) (by simp) ?_
      refine AllReadyH.cons rfl (fun K hK => ?_) AllReadyH.nil
      go_simp
      refine hC2.mono ?_
      intro e u2 hT
      obtain ⟨av, cv, rfl, hown, hB2⟩ := hT.ownB
      have hbx : Below W.heap.size x1 u2 := undrew_bel hB2 (unhide Bx1).size
      have hbu : Below W.heap.size W u2 := (unhide Bx1).trans hbx
      refine hK.out _ _ (hKeepRevocation u2 hbu.block) (fun hHeld => ?_)
      clear hK K hC2 hT
      have hbd := part_built hown GR hGlRevocation
      have hrun := part_slice u2 ⟨.slice av (rvkL x).length cv, rvkL x, GR⟩ hGlRevocation
      have hb3 : Below u2.heap.size u2 (u2.alloc (.cells (Prt.cells ⟨.slice av (rvkL x).length cv, rvkL x, GR⟩).toArray 118)) := below_one u2 _
      have hP3 := ((unhide Px1).later (undrew_bel hB2 (Nat.le_refl _))).later hb3
      have hO3 : OwnB (u2.alloc (.cells (Prt.cells ⟨.slice av (rvkL x).length cv, rvkL x, GR⟩).toArray 118)) W.heap.size (.slice av (rvkL x).length cv) (rvkL x) := (hown.later hb3).mono (unhide Bx1).size
      have hnews := arr_adds (Arr.new u2 118 (Prt.cells ⟨.slice av (rvkL x).length cv, rvkL x, GR⟩))
      have hoc := part_oc (p := ⟨.slice av (rvkL x).length cv, rvkL x, GR⟩) hO3
      have hcl : (Prt.cells ⟨.slice av (rvkL x).length cv, rvkL x, GR⟩).length = 65 := Prt.len (p := ⟨.slice av (rvkL x).length cv, rvkL x, GR⟩) hGlRevocation
      have hbW : Below W.heap.size W (u2.alloc (.cells (Prt.cells ⟨.slice av (rvkL x).length cv, rvkL x, GR⟩).toArray 118)) := hbu.trans (hb3.mono hbu.size)
      have HA : Hid (∀ v' w', w'.ownsRow W.heap.size 118 65 v' (2 + 1) (psx1.flatMap Prt.cells ++ Prt.cells ⟨.slice av (rvkL x).length cv, rvkL x, GR⟩) → (u2.alloc (.cells (Prt.cells ⟨.slice av (rvkL x).length cv, rvkL x, GR⟩).toArray 118)).grownBy w' (.slice ax1 psx1.length cx1 : Value).ownBlock → Prts w' W.heap.size v' (psx1 ++ [(⟨.slice av (rvkL x).length cv, rvkL x, GR⟩ : Prt)]) ∧ Below W.heap.size W w' ∧ (psx1 ++ [(⟨.slice av (rvkL x).length cv, rvkL x, GR⟩ : Prt)]).map (fun p : Prt => (p.l, p.g)) = psx1.map (fun p : Prt => (p.l, p.g)) ++ [(rvkL x, GR)]) := by
        intro v' w' ho hg
        have hp' := Prts.app (p := ⟨.slice av (rvkL x).length cv, rvkL x, GR⟩) hP3 hO3 hGlRevocation hGBRevocation (by rw [unhide Lx1]; exact ho) hg
        have hbe : Below W.heap.size (u2.alloc (.cells (Prt.cells ⟨.slice av (rvkL x).length cv, rvkL x, GR⟩).toArray 118)) w' := own_belG (row := none) hP3.own hg (Nat.le_refl _) hbW.size
        exact ⟨hp', hbW.trans hbe, by rw [List.map_append]; rfl⟩
      have hown3 := hP3.own
      rw [unhide Lx1] at hown3 HA
      have hszB := hbW.size
      clear hP3 hO3 hown hB2 hbx
      refine wpAnyH_take (i := 7) (v := (.agg (Prt.cells ⟨.slice av (rvkL x).length cv, rvkL x, GR⟩).toArray)) rfl (by kernel_rfl) (by kernel_rfl) (by kernel_rfl) (fun _ _ _ h => h) (yieldsIf_bd (by rfl) _ _ rfl _ (by simpa [Act.eval] using hbd)) hHeld ?_
      simp [Act.put]
      refine wpAnyH_ready (rs := [8]) (by kernel_rfl) (by simp) ?_
      refine AllReadyH.cons rfl (fun K hK => ?_) AllReadyH.nil
      refine step_bsG rfl _ _ _ rfl _ _ (by simpa [Act.eval] using hrun) ?_
      simp only [Act.put]
      refine hK.out _ _ (hKeepRevocation _ hbW.block) (fun hHeld => ?_)
      clear hK K hrun hbd
      refine wpAnyH_ready (rs := [9]) (by kernel_rfl) (by simp) ?_
      refine AllReadyH.cons rfl (fun K hK => ?_) AllReadyH.nil
      refine step_appG rfl (.tmp 21) (.tmp 29) 114 rfl W.heap.size 118 it (.agg Z.toArray) 65 88 Tryz.underlying114 hi hz hs hb (by simp [Value.cells, hZl]) (by decide) (.slice ax1 2 cx1) 2 _ rfl hown3 ⟨u2.heap.size, 0, none⟩ 1 1 _ rfl (by rw [hcl]) hnews hoc (by unfold maxLen; omega) (by omega) hszB (fun v' x2 ho hg => ?_)
      obtain ⟨hPP, hbk, hmm⟩ := unhide HA v' x2 ho hg
      obtain ⟨ax2, cx2, rfl⟩ := own_parts ho
      refine hK.out _ _ (hKeepRevocation x2 hbk.block) (fun hHeld => ?_)
      clear hK K HA ho hg hnews hoc hown3 hbW hszB hcl hb3 hbu
      rw [show (2 + 1 : Nat) = 3 from rfl] at *
      have Bx2 := hide hbk
      have Lx2 : Hid ((psx1 ++ [(⟨.slice av (rvkL x).length cv, rvkL x, GR⟩ : Prt)]).length = 3) := hide (by rw [List.length_append, unhide Lx1]; rfl)
      have hPP2 : Prts x2 W.heap.size (.slice ax2 (psx1 ++ [(⟨.slice av (rvkL x).length cv, rvkL x, GR⟩ : Prt)]).length cx2) (psx1 ++ [(⟨.slice av (rvkL x).length cv, rvkL x, GR⟩ : Prt)]) := by rw [unhide Lx2]; exact hPP
      have Px2 := hide hPP2
      have Mx2 := hide (hmm.trans (congrArg (· ++ [(rvkL x, GR)]) (unhide Mx1)))
      clear hbk hPP hPP2 hmm
      generalize hps : psx1 ++ [(⟨.slice av (rvkL x).length cv, rvkL x, GR⟩ : Prt)] = psx2 at *
      clear hps
      refine wpAnyH_take (i := 10) (v := (.slice ax2 3 cx2)) rfl (by kernel_rfl) (by kernel_rfl) (by kernel_rfl) (fun _ _ _ h => h) (Or.inl ⟨by rfl, fun w hSw => by go_simp⟩) hHeld ?_
      simp [Act.put]
      refine wpAnyH_done (by kernel_rfl) ?_ _
      unfold NoPanic
      clear hHeld
      go_wp2
      go_ret
      exact ⟨_, psx2, rfl, (by have := unhide Px2; rw [unhide Lx2] at this; exact this.mono (unhide HB1).size), by rw [unhide Mx2, unhide HEE]; rfl, (unhide HB1).trans ((unhide Bx2).mono (unhide HB1).size)⟩
    · rw [decide_eq_false h197] at d197
      rw [if_neg h197] at HEE
      go_wp2
      go_ret
      exact ⟨_, psx1, rfl, (by have := unhide Px1; rw [unhide Lx1] at this; exact this.mono (unhide HB1).size), by rw [unhide Mx1, unhide HEE]; rfl, (unhide HB1).trans ((unhide Bx1).mono (unhide HB1).size)⟩
  · rw [decide_eq_false h132] at d132
    rw [if_neg h132] at HEE
    have d197 := hc197 w1 (unhide Bw1).block
    by_cases h197 : x 197 ≠ 0
    · rw [decide_eq_true h197] at d197
      rw [if_pos h197] at HEE
      go_upto_region 5 with fail
      have hC2 := hSayRevocation w1.drew
      refine wp_region_noPanic ?_
      refine wp_region_held_drew (S := fun w' => w'.rangeAt w.heap.size 0 XC ∧ w'.rangeAt w.heap.size 198 (U8 GR)) (by kernel_rfl) (hKeepRevocation w1 (unhide Bw1).block) (fun hHeld => ?_)
      refine wpAnyH_take (i := 0) (v := (.slice aw1 1 cw1)) rfl (by kernel_rfl) (by kernel_rfl) (by kernel_rfl) (fun _ _ _ h => h) (Or.inl ⟨by rfl, fun w hSw => by go_simp⟩) hHeld ?_
      simp [Act.put]
      refine wpAnyH_take (i := 1) (v := (.pointer (some ⟨w.heap.size, 0, none⟩))) rfl (by kernel_rfl) (by kernel_rfl) (by kernel_rfl) (fun _ _ _ h => h) (Or.inl ⟨by rfl, fun w hSw => by go_simp⟩) hHeld ?_
      simp [Act.put]
      refine wpAnyH_take (i := 2) (v := _) rfl (by kernel_rfl) (by kernel_rfl) (by kernel_rfl) (fun _ _ _ h => h) (yieldsIf_load_mid (by rfl) _ _ rfl _ _ rfl _ _ (fun _ h => h.1) Tryz.underlying39 rfl hZC) hHeld ?_
      simp [Act.put]
      refine wpAnyH_take (i := 3) (v := (.agg XRevocation.toArray)) rfl (by kernel_rfl) (by kernel_rfl) (by kernel_rfl) (fun _ _ _ h => h) (yieldsIf_bd (by rfl) _ _ rfl _ (by simpa [Act.eval] using (unhide HBRevocation))) hHeld ?_
      simp [Act.put]
      refine wpAnyH_take (i := 5) (v := (.pointer (some ⟨w.heap.size, 198, none⟩))) rfl (by kernel_rfl) (by kernel_rfl) (by kernel_rfl) (fun _ _ _ h => h) (Or.inl ⟨by rfl, fun w hSw => by go_simp⟩) hHeld ?_
      simp [Act.put]
      refine wpAnyH_take (i := 6) (v := _) rfl (by kernel_rfl) (by kernel_rfl) (by kernel_rfl) (fun _ _ _ h => h) (yieldsIf_load_mid (by rfl) _ _ rfl _ _ rfl _ _ (fun _ h => h.2) Tryz.underlying32 rfl hZGRevocation) hHeld ?_
      simp [Act.put]
      refine wpAnyH_ready (rs := [4]) (by kernel_rfl) (by simp) ?_
      refine AllReadyH.cons rfl (fun K hK => ?_) AllReadyH.nil
      go_simp
      refine hC2.mono ?_
      intro e u2 hT
      obtain ⟨av, cv, rfl, hown, hB2⟩ := hT.ownB
      have hbx : Below W.heap.size w1 u2 := undrew_bel hB2 (unhide Bw1).size
      have hbu : Below W.heap.size W u2 := (unhide Bw1).trans hbx
      refine hK.out _ _ (hKeepRevocation u2 hbu.block) (fun hHeld => ?_)
      clear hK K hC2 hT
      have hbd := part_built hown GR hGlRevocation
      have hrun := part_slice u2 ⟨.slice av (rvkL x).length cv, rvkL x, GR⟩ hGlRevocation
      have hb3 : Below u2.heap.size u2 (u2.alloc (.cells (Prt.cells ⟨.slice av (rvkL x).length cv, rvkL x, GR⟩).toArray 118)) := below_one u2 _
      have hP3 := ((unhide Pw1).later (undrew_bel hB2 (Nat.le_refl _))).later hb3
      have hO3 : OwnB (u2.alloc (.cells (Prt.cells ⟨.slice av (rvkL x).length cv, rvkL x, GR⟩).toArray 118)) W.heap.size (.slice av (rvkL x).length cv) (rvkL x) := (hown.later hb3).mono (unhide Bw1).size
      have hnews := arr_adds (Arr.new u2 118 (Prt.cells ⟨.slice av (rvkL x).length cv, rvkL x, GR⟩))
      have hoc := part_oc (p := ⟨.slice av (rvkL x).length cv, rvkL x, GR⟩) hO3
      have hcl : (Prt.cells ⟨.slice av (rvkL x).length cv, rvkL x, GR⟩).length = 65 := Prt.len (p := ⟨.slice av (rvkL x).length cv, rvkL x, GR⟩) hGlRevocation
      have hbW : Below W.heap.size W (u2.alloc (.cells (Prt.cells ⟨.slice av (rvkL x).length cv, rvkL x, GR⟩).toArray 118)) := hbu.trans (hb3.mono hbu.size)
      have HA : Hid (∀ v' w', w'.ownsRow W.heap.size 118 65 v' (1 + 1) (psw1.flatMap Prt.cells ++ Prt.cells ⟨.slice av (rvkL x).length cv, rvkL x, GR⟩) → (u2.alloc (.cells (Prt.cells ⟨.slice av (rvkL x).length cv, rvkL x, GR⟩).toArray 118)).grownBy w' (.slice aw1 psw1.length cw1 : Value).ownBlock → Prts w' W.heap.size v' (psw1 ++ [(⟨.slice av (rvkL x).length cv, rvkL x, GR⟩ : Prt)]) ∧ Below W.heap.size W w' ∧ (psw1 ++ [(⟨.slice av (rvkL x).length cv, rvkL x, GR⟩ : Prt)]).map (fun p : Prt => (p.l, p.g)) = psw1.map (fun p : Prt => (p.l, p.g)) ++ [(rvkL x, GR)]) := by
        intro v' w' ho hg
        have hp' := Prts.app (p := ⟨.slice av (rvkL x).length cv, rvkL x, GR⟩) hP3 hO3 hGlRevocation hGBRevocation (by rw [unhide Lw1]; exact ho) hg
        have hbe : Below W.heap.size (u2.alloc (.cells (Prt.cells ⟨.slice av (rvkL x).length cv, rvkL x, GR⟩).toArray 118)) w' := own_belG (row := none) hP3.own hg (Nat.le_refl _) hbW.size
        exact ⟨hp', hbW.trans hbe, by rw [List.map_append]; rfl⟩
      have hown3 := hP3.own
      rw [unhide Lw1] at hown3 HA
      have hszB := hbW.size
      clear hP3 hO3 hown hB2 hbx
      refine wpAnyH_take (i := 7) (v := (.agg (Prt.cells ⟨.slice av (rvkL x).length cv, rvkL x, GR⟩).toArray)) rfl (by kernel_rfl) (by kernel_rfl) (by kernel_rfl) (fun _ _ _ h => h) (yieldsIf_bd (by rfl) _ _ rfl _ (by simpa [Act.eval] using hbd)) hHeld ?_
      simp [Act.put]
      refine wpAnyH_ready (rs := [8]) (by kernel_rfl) (by simp) ?_
      refine AllReadyH.cons rfl (fun K hK => ?_) AllReadyH.nil
      refine step_bsG rfl _ _ _ rfl _ _ (by simpa [Act.eval] using hrun) ?_
      simp only [Act.put]
      refine hK.out _ _ (hKeepRevocation _ hbW.block) (fun hHeld => ?_)
      clear hK K hrun hbd
      refine wpAnyH_ready (rs := [9]) (by kernel_rfl) (by simp) ?_
      refine AllReadyH.cons rfl (fun K hK => ?_) AllReadyH.nil
      refine step_appG rfl (.tmp 21) (.tmp 29) 114 rfl W.heap.size 118 it (.agg Z.toArray) 65 88 Tryz.underlying114 hi hz hs hb (by simp [Value.cells, hZl]) (by decide) (.slice aw1 1 cw1) 1 _ rfl hown3 ⟨u2.heap.size, 0, none⟩ 1 1 _ rfl (by rw [hcl]) hnews hoc (by unfold maxLen; omega) (by omega) hszB (fun v' x2 ho hg => ?_)
      obtain ⟨hPP, hbk, hmm⟩ := unhide HA v' x2 ho hg
      obtain ⟨ax2, cx2, rfl⟩ := own_parts ho
      refine hK.out _ _ (hKeepRevocation x2 hbk.block) (fun hHeld => ?_)
      clear hK K HA ho hg hnews hoc hown3 hbW hszB hcl hb3 hbu
      rw [show (1 + 1 : Nat) = 2 from rfl] at *
      have Bx2 := hide hbk
      have Lx2 : Hid ((psw1 ++ [(⟨.slice av (rvkL x).length cv, rvkL x, GR⟩ : Prt)]).length = 2) := hide (by rw [List.length_append, unhide Lw1]; rfl)
      have hPP2 : Prts x2 W.heap.size (.slice ax2 (psw1 ++ [(⟨.slice av (rvkL x).length cv, rvkL x, GR⟩ : Prt)]).length cx2) (psw1 ++ [(⟨.slice av (rvkL x).length cv, rvkL x, GR⟩ : Prt)]) := by rw [unhide Lx2]; exact hPP
      have Px2 := hide hPP2
      have Mx2 := hide (hmm.trans (congrArg (· ++ [(rvkL x, GR)]) (unhide Mw1)))
      clear hbk hPP hPP2 hmm
      generalize hps : psw1 ++ [(⟨.slice av (rvkL x).length cv, rvkL x, GR⟩ : Prt)] = psx2 at *
      clear hps
      refine wpAnyH_take (i := 10) (v := (.slice ax2 2 cx2)) rfl (by kernel_rfl) (by kernel_rfl) (by kernel_rfl) (fun _ _ _ h => h) (Or.inl ⟨by rfl, fun w hSw => by go_simp⟩) hHeld ?_
      simp [Act.put]
      refine wpAnyH_done (by kernel_rfl) ?_ _
      unfold NoPanic
      clear hHeld
      go_wp2
      go_ret
      exact ⟨_, psx2, rfl, (by have := unhide Px2; rw [unhide Lx2] at this; exact this.mono (unhide HB1).size), by rw [unhide Mx2, unhide HEE]; rfl, (unhide HB1).trans ((unhide Bx2).mono (unhide HB1).size)⟩
    · rw [decide_eq_false h197] at d197
      rw [if_neg h197] at HEE
      go_wp2
      go_ret
      exact ⟨_, psw1, rfl, (by have := unhide Pw1; rw [unhide Lw1] at this; exact this.mono (unhide HB1).size), by rw [unhide Mw1, unhide HEE]; rfl, (unhide HB1).trans ((unhide Bw1).mono (unhide HB1).size)⟩
end Go.Proofs.YtfedajifefldmaaGreat
