import Derived.Test.YtibebhlblmdcgaaQStkW
import Derived.Test.YtibebhlblmdcgaaQRlW20
set_option linter.unusedSimpArgs false
set_option linter.unusedVariables false
namespace Go.Proofs.Ytibebhlblmdcgaa
open Go.RowKit

/-! What is wanted behind all that somebody has: the document's lacking. -/
def addM (m : Int → Option Wnt) (e : Ent) : Int → Option Wnt := mSet m e.cert.serial (some (wAll e))
def wants (xs : List Ent) : Int → Option Wnt := xs.foldl addM (fun _ => none)
def leftM (xs : List Ent) (hs : List Smy) : Int → Option Wnt := hs.foldl strM (wants xs)
def kst (n : Int) (o : Option Wnt) (h : Smy) : Option Wnt := if h.ser = n then (match o with | none => none | some x => if wNo (wWo x h) then none else some (wWo x h)) else o
theorem strM_at (m : Int → Option Wnt) (h : Smy) (n : Int) : strM m h n = kst n (m n) h := by
  unfold strM kst
  by_cases hq : h.ser = n
  · subst hq
    cases hm : m h.ser with
    | none => simp [hm]
    | some x => simp only [if_true]; split <;> simp [mSet]
  · rw [if_neg hq]
    cases hm : m h.ser with
    | none => rfl
    | some x => simp only []; split <;> (simp only [mSet]; rw [if_neg (fun e : n = h.ser => hq e.symm)])
theorem leftM_at (m : Int → Option Wnt) (hs : List Smy) (n : Int) : (hs.foldl strM m) n = hs.foldl (kst n) (m n) := by
  induction hs generalizing m with
  | nil => rfl
  | cons h t ih => rw [List.foldl_cons, List.foldl_cons, ih, strM_at]
def wOf (e : Ent) (a : Lst) : Wnt := ⟨e.idx, !a.th || decide (a.ix < e.idx), e.fz && !a.fz, e.rv && !a.rv⟩
def oOf (e : Ent) (a : Lst) : Option Wnt := if a.th && wNo (wOf e a) then none else some (wOf e a)
theorem kst_step (e : Ent) (a : Lst) (h : Smy) (n : Int) : kst n (oOf e a) h = oOf e (lstep n a h) := by
  unfold kst lstep
  by_cases hq : h.ser = n
  · rw [if_pos hq, if_pos hq]
    obtain ⟨th, ix, fz, rv⟩ := a
    obtain ⟨hs, hi, hf, hr⟩ := h
    have hw : wWo (wOf e ⟨th, ix, fz, rv⟩) ⟨hs, hi, hf, hr⟩ = wOf e ⟨true, if !th || decide (ix < hi) then hi else ix, fz || hf, rv || hr⟩ := by
      unfold wWo wOf
      simp only [Wnt.mk.injEq, true_and, Bool.not_true, Bool.false_or]
      refine ⟨?_, ?_, ?_⟩
      · cases th
        · simp
        · simp only [Bool.not_true, Bool.false_or, decide_eq_true_eq]
          by_cases h1 : ix < hi
          · rw [if_pos h1, Bool.eq_iff_iff]; simp; omega
          · rw [if_neg h1, Bool.eq_iff_iff]; simp; omega
      · cases e.fz <;> cases fz <;> cases hf <;> rfl
      · cases e.rv <;> cases rv <;> cases hr <;> rfl
    unfold oOf
    simp only [Bool.true_and]
    rw [← hw]
    by_cases hc : (th && wNo (wOf e ⟨th, ix, fz, rv⟩)) = true
    · rw [if_pos hc]
      simp only [Bool.and_eq_true] at hc
      have h2 : wNo (wWo (wOf e ⟨th, ix, fz, rv⟩) ⟨hs, hi, hf, hr⟩) = true := by
        have := hc.2
        unfold wNo at this
        unfold wNo wWo
        simp only [Bool.and_eq_true, Bool.not_eq_true'] at this
        simp [this.1.1, this.1.2, this.2]
      rw [if_pos h2]
    · rw [if_neg hc]
  · rw [if_neg hq, if_neg hq]
theorem kst_all (e : Ent) (hs : List Smy) (n : Int) (a : Lst) : hs.foldl (kst n) (oOf e a) = oOf e (hs.foldl (lstep n) a) := by
  induction hs generalizing a with
  | nil => rfl
  | cons h t ih => rw [List.foldl_cons, List.foldl_cons, kst_step, ih]
theorem oOf_start (e : Ent) : oOf e ⟨false, 0, false, false⟩ = some (wAll e) := by
  unfold oOf wOf wAll
  simp
theorem oOf_some (e : Ent) (a : Lst) : (oOf e a).isSome = (!a.th || (decide (a.ix < e.idx) || ((e.fz && !a.fz) || (e.rv && !a.rv)))) := by
  unfold oOf wNo wOf
  obtain ⟨th, ix, fz, rv⟩ := a
  simp only
  cases th <;> cases decide (ix < e.idx) <;> cases e.fz <;> cases fz <;> cases e.rv <;> cases rv <;> rfl
theorem wants_at {xs : List Ent} (hnd : (xs.map (·.cert.serial)).Nodup) {e : Ent} (he : e ∈ xs) : wants xs e.cert.serial = some (wAll e) := by
  unfold wants
  generalize (fun _ => none : Int → Option Wnt) = m
  induction xs generalizing m with
  | nil => cases he
  | cons x t ih =>
    rw [List.foldl_cons]
    simp only [List.map_cons, List.nodup_cons] at hnd
    rcases List.mem_cons.1 he with rfl | ht
    · have hk : ∀ (l : List Ent) (m : Int → Option Wnt), (∀ y ∈ l, y.cert.serial ≠ e.cert.serial) → (l.foldl addM m) e.cert.serial = m e.cert.serial := by
        intro l
        induction l with
        | nil => intro m _; rfl
        | cons y l ihl =>
          intro m hy
          rw [List.foldl_cons, ihl _ (fun z hz => hy z (by simp [hz]))]
          unfold addM mSet
          rw [if_neg (fun q => hy y (by simp) q.symm)]
      rw [hk t _ (fun y hy q => hnd.1 (List.mem_map.2 ⟨y, hy, q⟩))]
      unfold addM mSet
      rw [if_pos rfl]
    · exact ih hnd.2 ht _
theorem left_lack {xs : List Ent} (hnd : (xs.map (·.cert.serial)).Nodup) (hs : List Smy) {e : Ent} (he : e ∈ xs) : (leftM xs hs e.cert.serial).isSome = lackB e hs := by
  unfold leftM
  rw [leftM_at, wants_at hnd he, ← oOf_start, kst_all, oOf_some]
  rfl
theorem left_filter {xs : List Ent} (hnd : (xs.map (·.cert.serial)).Nodup) (hs : List Smy) : (xs.filter fun e => (leftM xs hs e.cert.serial).isSome) = xs.filter fun e => lackB e hs :=
  List.filter_congr (fun e he => left_lack hnd hs he)
theorem wants_take {xs : List Ent} {k : Nat} {x : Ent} (h : xs[k]? = some x) : wants (xs.take (k + 1)) = addM (wants (xs.take k)) x := by
  unfold wants
  rw [List.take_add_one, h, List.foldl_append]; rfl
theorem leftM_take {xs : List Ent} {hs : List Smy} {k : Nat} {x : Smy} (h : hs[k]? = some x) : leftM xs (hs.take (k + 1)) = strM (leftM xs (hs.take k)) x := by
  unfold leftM
  rw [List.take_add_one, h, List.foldl_append]; rfl
/-! The walk's own. -/
theorem MW.drew {w : World} {b n : Nat} {m : Int → Option Wnt} (h : MW w b n m) : MW w.drew b n m := h.later (fun _ _ _ => rfl)
theorem MW.wide {w : World} {b n n' : Nat} {m : Int → Option Wnt} (h : MW w b n m) (hn : n ≤ n') : MW w b n' m := by
  obtain ⟨D, k, hk, h1⟩ := h
  exact ⟨D, k, by omega, h1⟩
theorem op_mmk {o : Oper} {a : Act} {w : World} {k : Act → World → Prop} {Q : Exit → Act → World → Prop} {P : Program} (t : TypeId) (ho : o.op = .makeMap t none)
    (h : ∀ b w', b = w.heap.size → MW w' b 0 (fun _ => none) → Below w.heap.size w w' → k (a.put o.dst (.map (some b))) w') : o.wp P a w k Q := by
  unfold Oper.wp execOp
  simp only [ho, Option.map_none, Sem.run_bind, run_makeMap, Sem.run_pure, Result.andThen_ok]
  exact h _ _ rfl (MW.made w) ((Below.refl _ _).alloc (Nat.le_refl _) _)
theorem Hs17.at_ {w0 w : World} (hb : Below w0.heap.size w0 w) (K : World → Prop) (h : ∀ w', Old w w' → K w') : Hs17 w0 [] K w :=
  ⟨by simp, (fun p hp => by cases hp), (fun p hp => by cases hp), hb, fun w' h1 h2 => h w' ⟨h1, fun k hk => h2 k hk (fun p hp => by cases hp)⟩⟩
theorem Hs17.but {w0 w w' : World} {rows : List Row} {K : World → Prop} {b n : Nat} {m : Int → Option Wnt} (h : Hs17 w0 rows K w) (hM : MW w b n m) (hb : But b w w') (h0 : w0.heap.size ≤ b) : Hs17 w0 rows (fun _ => True) w' :=
  ⟨h.nd, fun p hp => hb.arr (h.arr p hp) (hM.ne (h.arr p hp)), h.old, h.bel.trans (hb.below h.bel.size h0), fun _ _ _ => trivial⟩
end Go.Proofs.Ytibebhlblmdcgaa
