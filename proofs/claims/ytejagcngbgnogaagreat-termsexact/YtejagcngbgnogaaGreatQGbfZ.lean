import Derived.Test.YtejagcngbgnogaaGreatQShr
import Derived.Test.YtejagcngbgnogaaGreatQGawZ
import Derived.Test.YtejagcngbgnogaaGreatQGaiZ
import Derived.Test.YtejagcngbgnogaaGreatQAccX
import Derived.Deep.RegionHeld3
import Derived.Test.YtejagcngbgnogaaGreatQGakZ
import Derived.Test.YtejagcngbgnogaaGreatQGaqZ
import Derived.Test.YtejagcngbgnogaaGreatQGarZ
import Derived.Test.YtejagcngbgnogaaGreatQGasZ
import Derived.Test.YtejagcngbgnogaaGreatQGatZ
import Derived.Test.YtejagcngbgnogaaGreatQGauZ
import Derived.Deep.MidRow
import Derived.Deep.Cut
set_option linter.unusedSimpArgs false
set_option linter.unusedVariables false
namespace Go.Proofs.YtejagcngbgnogaaGreat
open Go.RowKit
theorem flat_size (vs : List Value) (m : Nat) (hm : ∀ v ∈ vs, v.cells.size = m) : (vs.flatMap bY).length = vs.length * m := by
 induction vs with
 | nil => simp
 | cons a t ih =>
  rw [List.flatMap_cons, List.length_append, ih (fun v hv => hm v (by simp [hv]))]
  have : (bY a).length = m := by rw [bY, Array.length_toList]; exact hm a (by simp)
  rw [this, List.length_cons, Nat.add_mul]; omega
theorem run_bsG {P : Program} (w : World) (t elem : TypeId) (i : TypeInfo) (zv : Value) (vs : List Value) (m : Nat) (hu : P.underlying t = some (.slice elem)) (hi : P.info? elem = some i) (hs : i.size = m) (hz : i.zero = some zv) (hm : ∀ v ∈ vs, v.cells.size = m) (h0 : 0 < vs.length * m) (h24 : vs.length * m ≤ 16777216) :
  (Instr.buildSlice t vs.length (prts vs 0).toArray).run P w = .ok (.slice (some ⟨w.heap.size, 0, none⟩) vs.length vs.length) (w.alloc (.cells (vs.flatMap bY).toArray elem)) := by
 have hf' : ∀ f : Nat → Value, Instr.fill (fun i => some (i * m, m)) ((Array.range (vs.length * m)).map f) (prts vs 0) = some (vs.flatMap bY).toArray := fun f => by
  have hf := fill_cat (fun i => some (i * m, m)) vs 0 [] ((Array.range (vs.length * m)).map f).toList (fun j v hj => by
   have hjl : j < vs.length := (List.getElem?_eq_some_iff.1 hj).1
   have h1 := flat_size (vs.take j) m (fun v hv => hm v (List.mem_of_mem_take hv))
   rw [List.length_take, Nat.min_eq_left (by omega)] at h1
   simp only [List.length_nil, Nat.zero_add]
   rw [h1, hm v (List.mem_of_getElem? hj)]) (by simp [flat_size vs m hm])
  rw [List.nil_append, Array.toArray_toList, List.nil_append] at hf
  exact hf
 have hT : ∀ w, (typeInfo elem).run P w = .ok i w := fun w => run_typeInfo w hi
 have h24' : ¬ (16777216 < vs.length * m) := by omega
 have h0' : ¬ (vs.length * m = 0) := by omega
 simp [Instr.buildSlice, run_underlying hu, go_sem, sizeOf, zeroValue, hT, hs, hz, h24', Result.andThen]
 rw [if_neg h0', hf']
 simp [go_sem]
theorem lR {P : Program} {ops : Array Oper} {rest : List Oper} {o : Oper} {a : Act} {w : World} {Q : Exit → Act → World → Prop} (hgd : o.guard = none) (t : TypeId) (n : Nat) (ps : Array (Nat × Operand)) (ho : o.op = .buildSlice t n ps) (v : Value) (w' : World)
  (hrun : (Instr.buildSlice t n (ps.map fun p => (p.1, a.eval p.2))).run P w = .ok v w') (h : wpList P ops Q rest (a.put o.dst v) w') : wpList P ops Q (o :: rest) a w := by
 refine wpList_plain hgd fun K hK => ?_
 unfold Oper.wp
 simp [execOp, ho, hrun, Result.andThen]
 exact hK _ _ h
theorem lY {P : Program} {ops : Array Oper} {o : Oper} {a : Act} {w : World} {K : Act → World → Prop} {Q : Exit → Act → World → Prop} {E : Prop} (hgd : o.guard = none) (t : TypeId) (n : Nat) (ps : Array (Nat × Operand)) (ho : o.op = .buildSlice t n ps) (v : Value) (w' : World)
  (hrun : (Instr.buildSlice t n (ps.map fun p => (p.1, a.eval p.2))).run P w = .ok v w') (h : K (a.put o.dst v) w') : if Region.wanted o (yielded ops a.tmps) = true then Oper.wp P o a w K Q else E := by
 have hw : Region.wanted o (yielded ops a.tmps) = true := by simp [Region.wanted, hgd]
 rw [if_pos hw]
 unfold Oper.wp
 simp [execOp, ho, hrun, Result.andThen]
 exact h
theorem dB {P : Program} {ops : Array Oper} {S : World → Prop} {o : Oper} {a : Act} (hw : Region.wanted o (yielded ops a.tmps) = true) (t : TypeId) (ps : Array (Nat × Operand)) (ho : o.op = .build t ps) (cells : Array Value)
  (hb : P.built t (ps.map fun p => (p.1, a.eval p.2)).toList = some cells) : YieldsIf P ops S o (.agg cells) a := by
 refine .inl ⟨hw, fun w _ => ?_⟩
 have hrun := run_build (P := P) w t (ps.map fun p => (p.1, a.eval p.2)) cells hb
 simp [execOp, ho, hrun, Result.andThen]
theorem mP {P : Program} {ops : Array Oper} {o : Oper} {a : Act} {w : World} {K : Act → World → Prop} {Q : Exit → Act → World → Prop} {E : Prop} (hgd : o.guard = none) (s x : Operand) (t : TypeId)
  (ho : o.op = .call { callee := .builtin .append, args := #[s, x], argTypes := #[t, t] })
  (base : Nat) (e : TypeId) (i : TypeInfo) (z : Value) (size bytes : Nat) (ht : P.underlying t = some (.slice e)) (hi : P.info? e = some i) (hz : i.zero = some z)
  (hsize : i.size = size) (hby : i.bytes = bytes) (hzs : z.cells.size = size) (hsz : 0 < size)
  (v : Value) (n : Nat) (xs : List Value) (hs : a.eval s = v) (hown : w.ownsRow base e size v n xs)
  (ad : Addr) (m c : Nat) (news : List Value) (hx : a.eval x = .slice (some ad) m c) (hl : news.length = m * size) (hnews : ∀ j u, news[j]? = some u → w.cell? (ad.add j) = some u) (h1 : ∀ u ∈ news, u.oneCell' = true)
  (h63 : n + m ≤ maxLen) (hbytes : (n + m) * bytes ≤ 140737488355328) (hbase : base ≤ w.heap.size)
  (h : ∀ v' w', w'.ownsRow base e size v' (n + m) (xs ++ news) → w.grownBy w' v.ownBlock → K (a.put o.dst v') w') :
  if Region.wanted o (yielded ops a.tmps) = true then Oper.wp P o a w K Q else E := by
 have hw : Region.wanted o (yielded ops a.tmps) = true := by simp [Region.wanted, hgd]
 rw [if_pos hw]
 obtain ⟨v', w', hr, r1, r2, r3⟩ := gT (P := P) w base t o.type e i z size bytes ht hi hz hsize hby hzs hsz v n xs hown ad m c news hl hnews h1 h63 hbytes hbase
 unfold Oper.wp
 simp [execOp, ho, resolve, invoke, builtin, hs, hx, hr, Result.andThen]
 exact h v' w' r1 r2
theorem qJ {P : Program} {ops : Array Oper} {rest : List Oper} {o : Oper} {a : Act} {w : World} {Q : Exit → Act → World → Prop} (hgd : o.guard = none) (s x : Operand) (t : TypeId)
  (ho : o.op = .call { callee := .builtin .append, args := #[s, x], argTypes := #[t, t] })
  (base : Nat) (e : TypeId) (i : TypeInfo) (z : Value) (size bytes : Nat) (ht : P.underlying t = some (.slice e)) (hi : P.info? e = some i) (hz : i.zero = some z)
  (hsize : i.size = size) (hby : i.bytes = bytes) (hzs : z.cells.size = size) (hsz : 0 < size)
  (v : Value) (n : Nat) (xs : List Value) (hs : a.eval s = v) (hown : w.ownsRow base e size v n xs)
  (ad : Addr) (m c : Nat) (news : List Value) (hx : a.eval x = .slice (some ad) m c) (hl : news.length = m * size) (hnews : ∀ j u, news[j]? = some u → w.cell? (ad.add j) = some u) (h1 : ∀ u ∈ news, u.oneCell' = true)
  (h63 : n + m ≤ maxLen) (hbytes : (n + m) * bytes ≤ 140737488355328) (hbase : base ≤ w.heap.size)
  (h : ∀ v' w', w'.ownsRow base e size v' (n + m) (xs ++ news) → w.grownBy w' v.ownBlock → wpList P ops Q rest (a.put o.dst v') w') :
  wpList P ops Q (o :: rest) a w := by
 refine wpList_plain hgd fun K hK => ?_
 obtain ⟨v', w', hr, r1, r2, r3⟩ := gT (P := P) w base t o.type e i z size bytes ht hi hz hsize hby hzs hsz v n xs hown ad m c news hl hnews h1 h63 hbytes hbase
 unfold Oper.wp
 simp [execOp, ho, resolve, invoke, builtin, hs, hx, hr, Result.andThen]
 exact hK _ _ (h v' w' r1 r2)
theorem eM {w w' : World} {base e sz n : Nat} {v : Value} {xs : List Value} {row : Option Nat} (h : w.ownsRow base e sz v n xs) (hg : w.grownBy w' row) (hne : ∀ g, v.ownBlock = some g → some g ≠ row) : w'.ownsRow base e sz v n xs := by
 refine ⟨h.1, ?_⟩
 rcases h.2 with h2 | ⟨g, cap, cur, h1, h2, h3, h4⟩
 ·exact .inl h2
 ·have hgl : g < w.heap.size := (h.lt g (by rw [h1]; rfl)).2
  exact .inr ⟨g, cap, cur, h1, h2, (hg.block g hgl (hne g (by rw [h1]; rfl))).trans h3, h4⟩
theorem eJ {w : World} {base base' n n' e e' sz sz' : Nat} {v v' : Value} {xs xs' : List Value} (h : w.ownsRow base e sz v n xs) (h' : w.ownsRow base' e' sz' v' n' xs') (he : e ≠ e') : ∀ g, v.ownBlock = some g → some g ≠ v'.ownBlock := by
 intro g hg hv
 rcases h.2 with ⟨rfl, -⟩ | ⟨g1, cap, cur, rfl, -, h1, -⟩
 ·simp [Value.ownBlock] at hg
 rcases h'.2 with ⟨rfl, -⟩ | ⟨g2, cap', cur', rfl, -, h2, -⟩
 ·simp [Value.ownBlock] at hv
 simp only [Value.ownBlock, Option.some.injEq] at hg hv
 subst hg hv
 rw [h1] at h2
 simp at h2
 exact he h2.2
theorem iR {B : Nat} {w w1 : World} {row : Option Nat} {v : Value} {base e sz n : Nat} {xs : List Value} (h : w.ownsRow base e sz v n xs) (hg : w.grownBy w1 v.ownBlock) (hB : B ≤ base) (hs : B ≤ w.heap.size) : Below B w w1 :=
 ⟨hg.os, hg.tape, hg.output, hg.size, fun k hk => hg.block k (by omega) (fun e => by
  rcases h.2 with ⟨rfl, -⟩ | ⟨g, cap, cur, rfl, hge, -⟩
  ·simp [Value.ownBlock] at e
  ·simp [Value.ownBlock] at e; omega)⟩
theorem eK {w w' : World} {base e sz n : Nat} {v : Value} {xs : List Value} (h : w.ownsRow base e sz v n xs) (hb : Below w.heap.size w w') : w'.ownsRow base e sz v n xs := by
 refine ⟨h.1, ?_⟩
 rcases h.2 with h2 | ⟨g, cap, cur, h1, h2, h3, h4⟩
 ·exact .inl h2
 ·have hgl : g < w.heap.size := (h.lt g (by rw [h1]; rfl)).2
  exact .inr ⟨g, cap, cur, h1, h2, (hb.block g hgl).trans h3, h4⟩
theorem gI {w : World} {base base' e sz n : Nat} {v : Value} {xs : List Value} (h : w.ownsRow base e sz v n xs) (hb : base' ≤ base) : w.ownsRow base' e sz v n xs := by
 refine ⟨h.1, ?_⟩
 rcases h.2 with h2 | ⟨g, cap, cur, h1, h2, h3⟩
 ·exact .inl h2
 ·exact .inr ⟨g, cap, cur, h1, Nat.le_trans hb h2, h3⟩
theorem own_newG (w : World) (e sz n : Nat) (xs : List Value) (hl : xs.length = n * sz) (hn : n ≤ 1000) (hsz : 0 < sz) : (w.alloc (.cells xs.toArray e)).ownsRow w.heap.size e sz (.slice (some ⟨w.heap.size, 0, none⟩) n n) n xs :=
 ⟨hl, .inr ⟨w.heap.size, n, xs.toArray, rfl, Nat.le_refl _, heap_alloc_last w _, Nat.le_refl _, by unfold maxLen; omega, by simpa using hl, by simp [← hl]⟩⟩
structure Prt where
 v : Value
 l : List Int
 g : List Int
def Prt.cells (p : Prt) : List Value := p.v :: U8 p.g
def cI (w : World) (base : Nat) (v : Value) (l : List Int) : Prop := w.ownsRow base 5 1 v l.length (U8 l) ∧ IsB l
structure Prts (w : World) (base : Nat) (v : Value) (ps : List Prt) : Prop where
 own : w.ownsRow base 232 65 v ps.length (ps.flatMap Prt.cells)
 each : ∀ p ∈ ps, cI w base p.v p.l ∧ p.g.length = 64 ∧ IsB p.g
 apart : ps.Pairwise fun p q => ∀ g, p.v.ownBlock = some g → q.v.ownBlock ≠ some g
theorem cI.later {w w' : World} {base : Nat} {v : Value} {l : List Int} (h : cI w base v l) (hb : Below w.heap.size w w') : cI w' base v l := ⟨eK h.1 hb, h.2⟩
theorem cI.mono {w : World} {base base' : Nat} {v : Value} {l : List Int} (h : cI w base v l) (hb : base' ≤ base) : cI w base' v l := ⟨gI h.1 hb, h.2⟩
theorem cI.keep {w w' : World} {base base' e sz n : Nat} {v v' : Value} {l : List Int} {xs : List Value} (h : cI w base v l) (h' : w.ownsRow base' e sz v' n xs) (he : 5 ≠ e) (hg : w.grownBy w' v'.ownBlock) : cI w' base v l := ⟨eM h.1 hg (eJ h.1 h' he), h.2⟩
theorem cI.one {w : World} {base : Nat} {v : Value} {l : List Int} (h : cI w base v l) : v.oneCell' = true := by
 obtain ⟨a, c, rfl⟩ := bK h.1; rfl
theorem cI.cells {w : World} {base : Nat} {v : Value} {l : List Int} (h : cI w base v l) : v.cells = #[v] := by
 obtain ⟨a, c, rfl⟩ := bK h.1; rfl
theorem Prts.later {w w' : World} {base : Nat} {v : Value} {ps : List Prt} (h : Prts w base v ps) (hb : Below w.heap.size w w') : Prts w' base v ps := ⟨eK h.own hb, fun p hp => ⟨(h.each p hp).1.later hb, (h.each p hp).2⟩, h.apart⟩
theorem Prts.mono {w : World} {base base' : Nat} {v : Value} {ps : List Prt} (h : Prts w base v ps) (hb : base' ≤ base) : Prts w base' v ps := ⟨gI h.own hb, fun p hp => ⟨(h.each p hp).1.mono hb, (h.each p hp).2⟩, h.apart⟩
theorem Prts.nil (w : World) (base : Nat) : Prts w base (.slice none 0 0) [] := ⟨⟨rfl, .inl ⟨rfl, rfl⟩⟩, fun p hp => by simp at hp, List.Pairwise.nil⟩
theorem Prt.len {p : Prt} (h : p.g.length = 64) : p.cells.length = 65 := by simp [Prt.cells, U8, h]
def jC (E : List (List Int × List Int)) (w : World) (e : Ending) (w' : World) : Prop := ∃ v ps, e = .returned v ∧ Prts w' w.heap.size v ps ∧ ps.map (fun p => (p.l, p.g)) = E ∧ Below w.heap.size w w'
theorem partZ : ∃ (it : TypeInfo) (Z : List Value), Tryz.prog.info? 232 = some it ∧ it.zero = some (.agg Z.toArray) ∧ Z.length = 65 ∧ it.size = 65 ∧ it.bytes = 88 := by
 have h : (Tryz.prog.info? 232).bind (·.zero) = some (.agg (Value.slice none 0 0 :: U8 (List.replicate 64 0)).toArray) := by kernel_rfl
 have h2 : (Tryz.prog.info? 232).map (fun i => (i.size, i.bytes)) = some (65, 88) := by kernel_rfl
 have h3 : (Value.slice none 0 0 :: U8 (List.replicate 64 0)).length = 65 := by rw [List.length_cons, U8_length, List.length_replicate]
 generalize (Value.slice none 0 0 :: U8 (List.replicate 64 0)) = Z at h h3
 cases hit : Tryz.prog.info? 232 with
 | none => rw [hit] at h; simp at h
 | some it =>
  rw [hit] at h h2
  simp at h h2
  exact ⟨it, Z, rfl, h, h3, h2.1, h2.2⟩
theorem jV {w : World} {base : Nat} {v : Value} {l : List Int} (h : cI w base v l) (g : List Int) (hg : g.length = 64) : Tryz.prog.built 232 [(0, v), (1, .agg (U8 g).toArray)] = some (Prt.cells ⟨v, l, g⟩).toArray := by
 obtain ⟨it, Z, hi, hz, hZ, -, -⟩ := partZ
 have h1 : v.cells.size = 1 := by rw [h.cells]; rfl
 have h2 : (Value.agg (U8 g).toArray).cells.size = 64 := by show (U8 g).toArray.size = 64; rw [List.size_toArray, U8_length, hg]
 have this := gQ hi Tryz.underlying232 hz (sz := [1, 64]) (by kernel_rfl) [v, .agg (U8 g).toArray] (by simp only [List.map_cons, List.map_nil, h1, h2]) (by rw [hZ]; rfl)
 have e1 : bY v = [v] := by unfold bY; rw [h.cells]
 have e2 : bY (.agg (U8 g).toArray) = U8 g := gO _
 show Tryz.prog.built _ (prts [v, .agg (U8 g).toArray] 0) = _
 rw [this, List.flatMap_cons, List.flatMap_cons, List.flatMap_nil, e1, e2, List.append_nil]
 rfl
theorem jU (w : World) (p : Prt) (hg : p.g.length = 64) : (Instr.buildSlice 228 1 #[(0, .agg p.cells.toArray)]).run Tryz.prog w = .ok (.slice (some ⟨w.heap.size, 0, none⟩) 1 1) (w.alloc (.cells p.cells.toArray 232)) := by
 obtain ⟨it, Z, hi, hz, hZ, hs, -⟩ := partZ
 have := run_bsG w 228 232 it _ [.agg p.cells.toArray] 65 Tryz.underlying228 hi hs hz (by simp [Value.cells, Prt.len hg]) (by simp) (by simp)
 simp [prts, bY, Value.cells] at this
 exact this
theorem Prts.one {w : World} {base : Nat} {p : Prt} (hp : cI w base p.v p.l) (hb : base ≤ w.heap.size) (hg : p.g.length = 64) (hG : IsB p.g) : Prts (w.alloc (.cells p.cells.toArray 232)) base (.slice (some ⟨w.heap.size, 0, none⟩) 1 1) [p] :=
 ⟨by simpa using gI (own_newG w 232 65 1 p.cells (by rw [Prt.len hg]) (by decide) (by decide)) hb, fun q hq => by simp at hq; subst hq; exact ⟨hp.later (aJ w _), hg, hG⟩, List.pairwise_singleton _ _⟩
set_option maxHeartbeats 2000000
set_option maxRecDepth 100000
theorem dM {w : World} {g : Nat} {ty : TypeId} {s : Nat → Kd} {N : Nat} {x : Nat → Int} (h : Arr w g ty (cl s N x)) (off n : Nat) (s' : Nat → Kd) (hn : off + n ≤ N) (hs : ∀ i, i < n → s (off + i) = s' i) : w.rangeAt g off (cl s' n (sft off x)) := by
 intro j v hj
 have hjn : j < n := by
  by_cases h : j < n
  ·exact h
  ·rw [List.getElem?_eq_none (by rw [aC]; omega)] at hj; cases hj
 rw [eB _ _ _ _ hjn] at hj
 rw [h.cell, eB _ _ _ _ (by omega), hs j hjn]
 exact hj
theorem iG (x : Nat → Int) (off n : Nat) : cl sB n (sft off x) = U8 (run x off n) := by
 unfold cl U8 run
 rw [List.map_map]
 rfl
theorem fD {s : Nat → Kd} {N : Nat} {x : Nat → Int} {off n : Nat} (hok : ∀ i, i < N → (s i).ok (x i)) (hn : off + n ≤ N) (hs : ∀ i, i < n → s (off + i) = .b) : IsB (run x off n) := by
 intro c hc
 unfold run at hc
 rw [List.mem_map] at hc
 obtain ⟨i, hi, rfl⟩ := hc
 have hi := List.mem_range.1 hi
 have := hok (off + i) (by omega)
 rw [hs i hi] at this
 exact this
theorem cZ.ownB {L : List Int} {w w' : World} {e : Ending} (h : cZ L w e w') : ∃ a c, e = .returned (.slice a L.length c) ∧ cI w' w.heap.size (.slice a L.length c) L ∧ Below w.heap.size w w' := by
 obtain ⟨a, c, he, ho, hB, hb⟩ := h
 exact ⟨a, c, he, ⟨ho, hB⟩, hb⟩
theorem Prts.app {w w' : World} {base : Nat} {v v' : Value} {ps : List Prt} {p : Prt} (h : Prts w base v ps) (hp : cI w base p.v p.l) (hg : p.g.length = 64) (hG : IsB p.g) (ho : w'.ownsRow base 232 65 v' (ps.length + 1) (ps.flatMap Prt.cells ++ p.cells)) (hgr : w.grownBy w' v.ownBlock) (hne : ∀ q ∈ ps, ∀ g, q.v.ownBlock = some g → p.v.ownBlock ≠ some g) : Prts w' base v' (ps ++ [p]) := by
 refine ⟨?_, fun q hq => ?_, List.pairwise_append.2 ⟨h.apart, List.pairwise_singleton _ _, fun a ha b hb => by simp at hb; subst hb; exact hne a ha⟩⟩
 ·rw [List.length_append, List.flatMap_append]
  simpa using ho
 ·rcases List.mem_append.1 hq with h1 | h1
  ·exact ⟨(h.each q h1).1.keep h.own (by decide) hgr, (h.each q h1).2⟩
  ·simp at h1; subst h1
   exact ⟨hp.keep h.own (by decide) hgr, hg, hG⟩
theorem nM {w : World} {base : Nat} {p : Prt} (hp : cI w base p.v p.l) : ∀ u ∈ p.cells, u.oneCell' = true := by
 intro u hu
 unfold Prt.cells at hu
 rcases List.mem_cons.1 hu with rfl | h
 ·exact hp.one
 ·exact u8_oc _ u h
theorem fX {w : World} {g : Nat} {ty : TypeId} {l : List Value} (h : Arr w g ty l) : ∀ j u, l[j]? = some u → w.cell? ((⟨g, 0, none⟩ : Addr).add j) = some u := by
 intro j u hj
 have e : (⟨g, 0, none⟩ : Addr).add j = ⟨g, j, none⟩ := by
  unfold Addr.add; split
  ·rename_i h0; subst h0; rfl
  ·simp
 rw [e, h.cell, hj]
theorem Tryz.szPSig : (Tryz.prog.info? 30).map (·.size) = some 64 := by kernel_rfl
theorem Tryz.szPCert : (Tryz.prog.info? 32).map (·.size) = some 99 := by kernel_rfl
section
theorem rs114 {G : Prop} (h : G := by
 have hSay := fun W => qM W x hok
 clear A1 hok
 generalize hL : tellL 1 (aB (aF.take 4)) x = L at *
 exact sh15) : G := h
open Go.Proofs.YtejagcngbgnogaaGreat renaming aD → z15a, nq99 → z15b, nq35 → z15c, nq32 → z15f, nqe35 → z15cQ, aD → z144a, nq99 → z144b, nq32 → z144c, nq35 → z144d, nqe35 → z144dQ, rs114 → z144rr
open Go.Proofs.Tryz renaming func262 → z15d, ntmps262 → z15e, underlying32 → z15g
theorem jN (w : World) (x : Nat → Int) (hok : ∀ i, i < 99 → (aD i).ok (x i)) :
  Calls Tryz.prog 262 #[.agg (cl aD 99 x).toArray] w (jC [(tellL 1 (aB (aF.take 4)) x, run x 35 64)] w) := sh144
end
section
theorem rs115 {G : Prop} (h : G := by
 have hSay := fun W => sG W x hok
 clear A1 hok
 generalize hL : tellL 5 (aB (aZ.take 4)) x = L at *
 exact sh15) : G := h
open Go.Proofs.YtejagcngbgnogaaGreat renaming bI → z15a, nq99 → z15b, nq35 → z15c, nq69 → z15f, nqe35 → z15cQ, bI → z144a, nq99 → z144b, nq69 → z144c, nq35 → z144d, nqe35 → z144dQ, rs115 → z144rr
open Go.Proofs.Tryz renaming func270 → z15d, ntmps270 → z15e, underlying69 → z15g
theorem partsAck_any (w : World) (x : Nat → Int) (hok : ∀ i, i < 99 → (bI i).ok (x i)) :
  Calls Tryz.prog 270 #[.agg (cl bI 99 x).toArray] w (jC [(tellL 5 (aB (aZ.take 4)) x, run x 35 64)] w) := sh144
end
section
theorem rs116 {G : Prop} (h : G := by
 have hSay := fun W => oU W x hok
 clear A1 hok
 generalize hL : tellL 7 (aB (aQ.take 1)) x = L at *
 exact sh15) : G := h
open Go.Proofs.YtejagcngbgnogaaGreat renaming aU → z15a, nq65 → z15b, nq1 → z15c, nq76 → z15f, fQ → z15cQ, aU → z144a, nq65 → z144b, nq76 → z144c, nq1 → z144d, fQ → z144dQ, rs116 → z144rr
open Go.Proofs.Tryz renaming func274 → z15d, ntmps274 → z15e, underlying76 → z15g
theorem tX (w : World) (x : Nat → Int) (hok : ∀ i, i < 65 → (aU i).ok (x i)) :
  Calls Tryz.prog 274 #[.agg (cl aU 65 x).toArray] w (jC [(tellL 7 (aB (aQ.take 1)) x, run x 1 64)] w) := sh144
end
section
theorem rs117 {G : Prop} (h : G := by
 have hSay := fun W => nH W x hok
 clear A1 hok
 generalize hL : tellL 8 (aB (aH.take 3)) x = L at *
 exact sh15) : G := h
open Go.Proofs.YtejagcngbgnogaaGreat renaming aK → z15a, nq67 → z15b, nq3 → z15c, nq80 → z15f, nqe3 → z15cQ, aK → z144a, nq67 → z144b, nq80 → z144c, nq3 → z144d, nqe3 → z144dQ, rs117 → z144rr
open Go.Proofs.Tryz renaming func276 → z15d, ntmps276 → z15e, underlying80 → z15g
theorem rI (w : World) (x : Nat → Int) (hok : ∀ i, i < 67 → (aK i).ok (x i)) :
  Calls Tryz.prog 276 #[.agg (cl aK 67 x).toArray] w (jC [(tellL 8 (aB (aH.take 3)) x, run x 3 64)] w) := sh144
end
section
theorem rs118 {G : Prop} (h : G := by
 have hSay := fun W => qL W x hok
 clear A1 hok
 generalize hL : tellL 10 (aB (aX.take 2)) x = L at *
 exact sh15) : G := h
open Go.Proofs.YtejagcngbgnogaaGreat renaming bE → z15a, nq97 → z15b, nq33 → z15c, nq88 → z15f, nqe33 → z15cQ, bE → z144a, nq97 → z144b, nq88 → z144c, nq33 → z144d, nqe33 → z144dQ, rs118 → z144rr
open Go.Proofs.Tryz renaming func280 → z15d, ntmps280 → z15e, underlying88 → z15g
theorem partsHead_any (w : World) (x : Nat → Int) (hok : ∀ i, i < 97 → (bE i).ok (x i)) :
  Calls Tryz.prog 280 #[.agg (cl bE 97 x).toArray] w (jC [(tellL 10 (aB (aX.take 2)) x, run x 33 64)] w) := sh144
end
end Go.Proofs.YtejagcngbgnogaaGreat

set_option maxHeartbeats 4000000
set_option maxRecDepth 100000
set_option linter.unusedSimpArgs false
set_option linter.unusedVariables false
namespace Go.Proofs.YtejagcngbgnogaaGreat
open Go.RowKit
def cT (x : Nat → Int) : List Int × List Int := (tellL 1 (aB (aF.take 4)) x, run x 35 64)
theorem sK (w : World) (x : Nat → Int) (hok : ∀ i, i < 132 → (aS i).ok (x i)) :
  Calls Tryz.prog 264 #[.agg (cl aS 132 x).toArray] w (jC [cT x] w) := by
 have b1 : Below w.heap.size w (w.alloc (.cells (cl aS 132 x).toArray 57)) := aJ w _
 have A1 := Arr.new w 57 (cl aS 132 x)
 have r1 : (w.alloc (.cells (cl aS 132 x).toArray 57)).rangeAt w.heap.size 0 (cl aD 99 x) := by
  have := dM A1 0 99 aD (by decide) (fun i hi => by unfold aS; rw [Nat.zero_add, if_pos hi])
  rwa [bF] at this
 have hZ : (Tryz.prog.info? 32).map (·.size) = some (cl aD 99 x).length := by rw [aC]; exact Tryz.szPCert
 have hC := jN (w.alloc (.cells (cl aS 132 x).toArray 57)) x (fun i hi => by have := hok i (by omega); unfold aS at this; rwa [if_pos hi] at this)
 have HR := aA r1
 have HZ := aA hZ
 have HB := aA b1
 clear A1 hok r1 hZ b1
 generalize cl aS 132 x = X at *
 generalize cl aD 99 x = XC at *
 go_enter Tryz.func264, Tryz.ntmps264
 go_upto_region 1 with fail
 generalize w.alloc (.cells X.toArray 57) = W at *
 refine eI ?_
 refine wpList_load_mid rfl 32 (.tmp 3) rfl w.heap.size 0 rfl XC _ (unhide HR) Tryz.underlying32 rfl (unhide HZ) ?_
 simp only [Act.put]
 refine wpList_plain rfl fun K1 hK1 => ?_
 go_simp
 refine hC.mono ?_
 rintro e w1 ⟨v, ps, rfl, hP, hE, hB1⟩
 obtain ⟨av, cv, rfl⟩ := bK hP.own
 have HE : Hid (jC [cT x] w (.returned (.slice av ps.length cv)) w1) := aA ⟨_, ps, rfl, hP.mono (unhide HB).size, hE, (unhide HB).trans (hB1.mono (unhide HB).size)⟩
 clear hC hP hE hB1
 generalize ps.length = m at *
 refine hK1 _ _ ?_
 clear hK1 K1
 go_wp2
 go_ret
 exact unhide HE
theorem tQ (w : World) (x : Nat → Int) :
  Calls Tryz.prog 278 #[.agg (cl bD 34 x).toArray] w (jC [] w) := by
 have b1 : Below w.heap.size w (w.alloc (.cells (cl bD 34 x).toArray 84)) := aJ w _
 generalize cl bD 34 x = X at *
 go_enter Tryz.func278, Tryz.ntmps278
 go_wp2
 go_ret
 exact ⟨_, [], rfl, Prts.nil _ _, rfl, b1⟩
section
theorem rs135 {G : Prop} (h : G := by
 obtain ⟨it, Z, hi, hz, hZl, hs, hb⟩ := partZ
 clear A1 hok
 generalize hL : tellL 4 (aB (aM.take 1)) x = L at *
 exact sh39) : G := h
open Go.Proofs.YtejagcngbgnogaaGreat renaming aR → z39a, nq65 → z39d, aR → z150a, nq65 → z150b, lJ → z150c, rs135 → z150rr
open Go.Proofs.Tryz renaming func268 → z39b, ntmps268 → z39c, underlying65 → z39e
theorem sO (w : World) (x : Nat → Int) (hok : ∀ i, i < 163 → (aR i).ok (x i)) :
  Calls Tryz.prog 268 #[.agg (cl aR 163 x).toArray] w (jC [cT x, (tellL 4 (aB (aM.take 1)) x, run x 99 64)] w) := sh150
end
section
theorem rs136 {G : Prop} (h : G := by
 obtain ⟨it, Z, hi, hz, hZl, hs, hb⟩ := partZ
 clear A1 hok
 generalize hL : tellL 6 (aB (aE.take 1)) x = L at *
 exact sh39) : G := h
open Go.Proofs.YtejagcngbgnogaaGreat renaming aG → z39a, nq72 → z39d, aG → z150a, nq72 → z150b, jD → z150c, rs136 → z150rr
open Go.Proofs.Tryz renaming func272 → z39b, ntmps272 → z39c, underlying72 → z39e
theorem oO (w : World) (x : Nat → Int) (hok : ∀ i, i < 163 → (aG i).ok (x i)) :
  Calls Tryz.prog 272 #[.agg (cl aG 163 x).toArray] w (jC [cT x, (tellL 6 (aB (aE.take 1)) x, run x 99 64)] w) := sh150
end
end Go.Proofs.YtejagcngbgnogaaGreat
