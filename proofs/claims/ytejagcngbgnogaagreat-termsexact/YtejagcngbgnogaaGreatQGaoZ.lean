import Derived.Test.YtejagcngbgnogaaGreatQShr
import Derived.Test.YtejagcngbgnogaaGreatQAccX
import Derived.DeepKeys
import Derived.Laws.StructEq
namespace Go.Proofs.YtejagcngbgnogaaGreat
open Go.RowKit
def ag (n : Nat) (x y : Nat → Int) : Bool := decide (∀ i, i < n → x i = y i)
theorem ag_add (a b : Nat) (x y : Nat → Int) : ag (a + b) x y = (ag a x y && ag b (sft a x) (sft a y)) := by
 unfold ag
 rw [Bool.eq_iff_iff]
 simp only [decide_eq_true_eq, Bool.and_eq_true]
 constructor
 ·intro h; exact ⟨fun i hi => h i (by omega), fun i hi => h (a + i) (by omega)⟩
 ·rintro ⟨h1, h2⟩ i hi
  by_cases hia : i < a
  ·exact h1 i hia
  ·have := h2 (i - a) (by omega)
   unfold sft at this
   rw [show a + (i - a) = i by omega] at this
   exact this
theorem ag_zero (x y : Nat → Int) : ag 0 x y = true := by unfold ag; simp
theorem ag_one (x y : Nat → Int) : ag 1 x y = (x 0 == y 0) := by
 unfold ag
 rw [Bool.eq_iff_iff]
 simp only [decide_eq_true_eq, beq_iff_eq]
 exact ⟨fun h => h 0 (by omega), fun h i hi => by rw [show i = 0 by omega]; exact h⟩
theorem run_eqB {P : Program} {t e : TypeId} {n : Nat} {k : IntKind} (d : Nat) (hu : P.underlying t = some (.array n e)) (hue : P.underlying e = some (.int k)) (hi : (P.info? e).map (·.size) = some 1)
  (l l' : List Int) (hl : l.length = n) (hl' : l'.length = n) (w : World) :
  (Op.equalIn (d + 1 + 1) t (.agg (l.map (Value.int k)).toArray) (.agg (l'.map (Value.int k)).toArray)).run P w = .ok (decide (l = l')) w := by
 obtain ⟨i, hii⟩ : ∃ i, P.info? e = some i := by cases hq : P.info? e with
  | none => simp [hq] at hi
  | some i => exact ⟨i, rfl⟩
 have hs : P.cellsOf e = 1 := by simp [Program.cellsOf, hii] at hi ⊢; exact hi
 rw [run_equalIn_array w (d + 1) _ _ hu hii, hs]
 rw [mQ hue d l l' w _ (by intro j hj; rw [List.mem_range] at hj; omega), ← hl, all_range_eq l l' (by omega)]
theorem cl_b {s : Nat → Kd} {m : Nat} {x : Nat → Int} (h : ∀ i, i < m → s i = .b) : cl s m x = (run x 0 m).map (Value.int .u8) := by
 unfold cl run
 rw [List.map_map]
 apply List.map_congr_left
 intro i hi
 rw [h i (List.mem_range.1 hi)]
 simp [Kd.v]
theorem run_eq (m : Nat) (x y : Nat → Int) : decide (run x 0 m = run y 0 m) = ag m x y := by
 unfold ag run
 rw [Bool.eq_iff_iff]
 simp only [decide_eq_true_eq]
 constructor
 ·intro h i hi
  have := congrArg (fun l => l.getD i 0) h
  simpa [hi] using this
 ·intro h
  apply List.map_congr_left
  intro i hi
  simpa using h i (List.mem_range.1 hi)
def PartEq (P : Program) (d : Nat) (s : Nat → Kd) (N : Nat) (t : TypeId) (o m : Nat) : Prop := ∀ x y w, (∀ i, i < N → (s i).ok (x i)) → (∀ i, i < N → (s i).ok (y i)) →
 ∃ a b, (part t (cl s N x).toArray o).run P w = .ok a w ∧ (part t (cl s N y).toArray o).run P w = .ok b w ∧ (Op.equalIn d t a b).run P w = .ok (ag m (sft o x) (sft o y)) w
def Fits (P : Program) (d : Nat) (s : Nat → Kd) (N : Nat) : List Field → List Nat → Nat → Prop
 | [], [], _ => True
 | f :: fs, m :: ms, o => f.name ≠ "_" ∧ f.offset = o ∧ PartEq P d s N f.type o m ∧ Fits P d s N fs ms (o + m)
 | _, _, _ => False
theorem qU {P : Program} {d : Nat} {s : Nat → Kd} {N : Nat} : ∀ (fs : List Field) (ms : List Nat) (o : Nat), Fits P d s N fs ms o → ∀ (x y : Nat → Int) (w : World), (∀ i, i < N → (s i).ok (x i)) → (∀ i, i < N → (s i).ok (y i)) →
  (Op.eqFields d (cl s N x).toArray (cl s N y).toArray fs).run P w = .ok (ag ms.sum (sft o x) (sft o y)) w
 | [], [], o, _, x, y, w, _, _ => by simp [Op.eqFields, ag_zero]
 | [], _ :: _, _, h, _, _, _, _, _ => h.elim
 | _ :: _, [], _, h, _, _, _, _, _ => h.elim
 | f :: fs, m :: ms, o, h, x, y, w, hx, hy => by
  obtain ⟨h1, rfl, h3, h4⟩ := h
  obtain ⟨a, b, ha, hb, he⟩ := h3 x y w hx hy
  have ih := qU fs ms (f.offset + m) h4 x y w hx hy
  rw [Op.eqFields, if_pos h1]
  simp only [Sem.run_bind, ha, hb, he, Result.andThen_ok]
  rw [List.sum_cons, ag_add, lV, lV]
  cases hq : ag m (sft f.offset x) (sft f.offset y)
  ·simp
  ·simp [ih]
theorem dU {P : Program} {d : Nat} {s : Nat → Kd} {N o : Nat} {t : TypeId} {k : IntKind} (hu : P.underlying t = some (.int k)) (ho : o < N) (hs : s o = .n) : PartEq P (d + 1) s N t o 1 := by
 intro x y w hx hy
 have hp : ∀ x : Nat → Int, (part t (cl s N x).toArray o).run P w = .ok (.int .i64 (x o)) w := fun x => by
  have hc : (cl s N x).toArray[o]? = some (.int .i64 (x o)) := by
   have := eB s N x o ho
   rw [hs] at this
   simpa [Kd.v] using this
  unfold part
  simp [isAgg, run_underlying hu, hc]
 refine ⟨_, _, hp x, hp y, ?_⟩
 rw [run_equalIn_int w d t .i64 k _ _ hu, ag_one]
 rfl
theorem part_bool {P : Program} {d : Nat} {s : Nat → Kd} {N o : Nat} {t : TypeId} (hu : P.underlying t = some .bool) (ho : o < N) (hs : s o = .t) : PartEq P (d + 1) s N t o 1 := by
 intro x y w hx hy
 have hp : ∀ x : Nat → Int, (part t (cl s N x).toArray o).run P w = .ok (.bool (decide (x o ≠ 0))) w := fun x => by
  have hc : (cl s N x).toArray[o]? = some (.bool (decide (x o ≠ 0))) := by
   have := eB s N x o ho
   rw [hs] at this
   simpa [Kd.v] using this
  unfold part
  simp [isAgg, run_underlying hu, hc]
 refine ⟨_, _, hp x, hp y, ?_⟩
 rw [run_equalIn_bool' w d t _ _ hu, ag_one]
 have h1 := hx o ho
 have h2 := hy o ho
 rw [hs] at h1 h2
 simp only [Kd.ok] at h1 h2
 have e : ∀ z : Nat → Int, sft o z 0 = z o := fun z => rfl
 rw [e, e]
 rcases h1 with h1 | h1 <;> rcases h2 with h2 | h2 <;> rw [h1, h2] <;> rfl
theorem ext_cl (s : Nat → Kd) (N o m : Nat) (x : Nat → Int) (h : o + m ≤ N) : (cl s N x).toArray.extract o (o + m) = (cl (fun i => s (o + i)) m (sft o x)).toArray := by
 apply Array.ext'
 apply List.ext_getElem?
 intro i
 have e : ((cl s N x).toArray.extract o (o + m)).toList = ((cl s N x).drop o).take m := by
  simp [List.extract]
 rw [e, List.getElem?_take, List.getElem?_drop]
 by_cases hi : i < m
 ·rw [if_pos hi, eB _ _ _ _ (by omega), eB _ _ _ _ hi]; rfl
 ·rw [if_neg hi, List.getElem?_eq_none (by rw [aC]; omega)]
theorem nX {P : Program} {s : Nat → Kd} {N o m : Nat} {t : TypeId} {td : TypeDesc} (hu : P.underlying t = some td) (hd : td.isRow = true) (hi : (P.info? t).map (·.size) = some m) (ho : o + m ≤ N) (x : Nat → Int) (w : World) : (part t (cl s N x).toArray o).run P w = .ok (.agg (cl (fun i => s (o + i)) m (sft o x)).toArray) w := by
 obtain ⟨i, hii⟩ : ∃ i, P.info? t = some i := by cases hq : P.info? t with
  | none => simp [hq] at hi
  | some i => exact ⟨i, rfl⟩
 have hs : i.size = m := by rw [hii] at hi; simpa using hi
 have hA : (isAgg t).run P w = .ok true w := by
  unfold isAgg
  rw [Sem.run_bind, run_underlying hu w]
  cases td <;> simp_all [TypeDesc.isRow]
 unfold part
 rw [Sem.run_bind, hA]
 simp only [Result.andThen_ok, if_true, Sem.run_bind, sizeOf, run_typeInfo w hii, Sem.run_pure, hs, ext_cl s N o m x ho]
theorem cX {P : Program} {d : Nat} {s : Nat → Kd} {N o m : Nat} {t e : TypeId} (hu : P.underlying t = some (.array m e)) (hue : P.underlying e = some (.int .u8)) (hie : (P.info? e).map (·.size) = some 1) (hi : (P.info? t).map (·.size) = some m) (ho : o + m ≤ N) (hs : ∀ i, i < m → s (o + i) = .b) : PartEq P (d + 1 + 1) s N t o m := by
 intro x y w hx hy
 refine ⟨_, _, nX hu rfl hi ho x w, nX hu rfl hi ho y w, ?_⟩
 rw [cl_b hs, cl_b hs, run_eqB d hu hue hie _ _ (by simp [run]) (by simp [run]), run_eq]
theorem fJ {P : Program} {d : Nat} {s : Nat → Kd} {N : Nat} {t : TypeId} {fields : Array Field} {ms : List Nat} (hu : P.underlying t = some (.struct fields)) (hp : P.stoodInHeld t = false) (hf : Fits P d s N fields.toList ms 0) (hN : ms.sum = N) (x y : Nat → Int) (w : World) (hx : ∀ i, i < N → (s i).ok (x i)) (hy : ∀ i, i < N → (s i).ok (y i)) :
  (Op.equalIn (d + 1) t (.agg (cl s N x).toArray) (.agg (cl s N y).toArray)).run P w = .ok (ag N x y) w := by
 have hfo : P.fieldsOf t = fields := by unfold Program.fieldsOf; rw [hu]
 rw [run_equalIn_struct w d t _ _ (by rw [hfo]; exact hu) hp, hfo, qU fields.toList ms 0 hf x y w hx hy, bF, bF, hN]
theorem Tryz.sz1e : (Tryz.prog.info? 5).map (·.size) = some 1 := by kernel_rfl
theorem eqCert_any (x y : Nat → Int) (w : World) (hx : ∀ i, i < 99 → (aD i).ok (x i)) (hy : ∀ i, i < 99 → (aD i).ok (y i)) : (Op.equalIn 10000 32 (.agg (cl aD 99 x).toArray) (.agg (cl aD 99 y).toArray)).run Tryz.prog w = .ok (ag 99 x y) w :=
  fJ (d := 9999) (ms := [1, 1, 1, 32, 64]) Tryz.underlying32 (by kernel_rfl)
    ⟨by decide, rfl, dU (d := 9998) Tryz.underlying3 (by decide) rfl, by decide, rfl, dU (d := 9998) Tryz.underlying3 (by decide) rfl, by decide, rfl, dU (d := 9998) Tryz.underlying2 (by decide) rfl,
     by decide, rfl, cX (d := 9997) Tryz.underlying28 Tryz.underlying5 Tryz.sz1e Tryz.szKHash (by decide) (fun i hi => by unfold aD; rw [if_neg (by omega)]),
     by decide, rfl, cX (d := 9997) Tryz.underlying30 Tryz.underlying5 Tryz.sz1e Tryz.szKSig (by decide) (fun i hi => by unfold aD; rw [if_neg (by omega)]), trivial⟩ rfl x y w hx hy
end Go.Proofs.YtejagcngbgnogaaGreat
