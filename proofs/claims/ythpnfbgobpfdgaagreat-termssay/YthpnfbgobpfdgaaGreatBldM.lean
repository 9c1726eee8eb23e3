import Derived.Test.YthpnfbgobpfdgaaGreatFrmM
namespace Go.Proofs.YthpnfbgobpfdgaaGreat
open Go.RowKit

/-! A slice of fields, written out. -/
def nils (n : Nat) : List Value := List.replicate n .nilFunc
theorem fold3 (v : FV) (off : Nat) (cs : Array Value) : (Value.agg v.a).cells.zipIdx.foldl (fun cs (c, j) => cs.setIfInBounds (off + j) c) cs = ((cs.setIfInBounds (off + 0) (.func (.func v.k1) #[] v.c1)).setIfInBounds (off + 1) (.func (.func v.k2) #[] v.c2)).setIfInBounds (off + 2) (.func (.func v.k3) #[] v.c3) := by
  simp [Value.cells, FV.a, Array.zipIdx]
theorem set3 (pre zs : List Value) (a b c : Value) (k : Nat) (hp : pre.length = k * 3) : (((pre ++ (.nilFunc :: .nilFunc :: .nilFunc :: zs)).toArray.setIfInBounds (k * 3 + 0) a).setIfInBounds (k * 3 + 1) b).setIfInBounds (k * 3 + 2) c = ((pre ++ [a, b, c]) ++ zs).toArray := by
  simp only [List.setIfInBounds_toArray]
  congr 1
  rw [← hp]
  simp
def parts : List FV → Nat → List (Nat × Value)
  | [], _ => []
  | v :: l, k => (k, .agg v.a) :: parts l (k + 1)
theorem fill_fv (vs : List FV) : ∀ (k : Nat) (pre : List Value), pre.length = k * 3 → Instr.fill (fun i => some (i * 3, 3)) (pre ++ nils (3 * vs.length)).toArray (parts vs k) = some (pre ++ vs.flatMap FV.l).toArray := by
  induction vs with
  | nil => intro k pre _; simp [parts, Instr.fill, nils]
  | cons v l ih =>
    intro k pre hp
    have e : nils (3 * (v :: l).length) = .nilFunc :: .nilFunc :: .nilFunc :: nils (3 * l.length) := by
      simp only [nils, List.length_cons]
      rw [show 3 * (l.length + 1) = 3 * l.length + 1 + 1 + 1 by omega]
      rfl
    have h3 : (Value.agg v.a).cells.size = 3 := rfl
    have hsz : (pre ++ nils (3 * (v :: l).length)).toArray.size = k * 3 + 3 + 3 * l.length := by
      simp [nils, hp]; omega
    rw [parts, Instr.fill]
    simp only []
    rw [if_neg (by rw [h3, hsz]; simp), fold3, e, set3 pre _ _ _ _ k hp]
    have := ih (k + 1) (pre ++ [.func (.func v.k1) #[] v.c1, .func (.func v.k2) #[] v.c2, .func (.func v.k3) #[] v.c3]) (by simp [hp]; omega)
    rw [this, List.flatMap_cons, List.append_assoc]
    rfl
theorem run_bs {P : Program} (w : World) (t elem : TypeId) (i : TypeInfo) (vs : List FV) (hu : P.underlying t = some (.slice elem)) (hi : P.info? elem = some i) (hs : i.size = 3) (hz : i.zero = some (.agg #[.nilFunc, .nilFunc, .nilFunc])) (hv : 0 < vs.length) (hv2 : vs.length ≤ 100) :
    (Instr.buildSlice t vs.length (parts vs 0).toArray).run P w = .ok (.slice (some ⟨w.heap.size, 0, none⟩) vs.length vs.length) (w.alloc (.cells (vs.flatMap FV.l).toArray elem)) := by
  have hf := fill_fv vs 0 [] rfl
  have hc : (Array.range (vs.length * 3)).map ((#[Value.nilFunc, .nilFunc, .nilFunc] : Array Value)[· % 3]!) = ([] ++ nils (3 * vs.length)).toArray := by
    apply Array.ext'
    rw [List.nil_append]
    apply List.ext_getElem?
    intro j
    by_cases hj : j < vs.length * 3
    · have h3 : j % 3 = 0 ∨ j % 3 = 1 ∨ j % 3 = 2 := by omega
      have hj' : j < 3 * vs.length := by omega
      simp [nils, hj, hj']
      rcases h3 with h | h | h <;> simp [h]
    · have hj' : ¬ j < 3 * vs.length := by omega
      simp [nils, hj, hj']
  have h24 : ¬ (vs.length * 3 > 2 ^ 24) := by omega
  have h0 : ¬ (vs.length * 3 = 0) := by omega
  have hT : ∀ w, (typeInfo elem).run P w = .ok i w := fun w => run_typeInfo w hi
  have h24' : ¬ (16777216 < vs.length * 3) := by omega
  have hf' : Instr.fill (fun i => some (i * 3, 3)) (Array.map (fun x => #[Value.nilFunc, Value.nilFunc, Value.nilFunc][x % 3]!) (Array.range (vs.length * 3))) (parts vs 0) = some (vs.flatMap FV.l).toArray := by rw [hc]; exact hf
  clear hf hc
  have e3 : ∀ x : Nat, (#[Value.nilFunc, Value.nilFunc, Value.nilFunc] : Array Value)[x % 3]! = [Value.nilFunc, Value.nilFunc, Value.nilFunc][x % 3]?.getD default := fun x => by simp
  simp only [e3] at hf'
  simp [Instr.buildSlice, run_underlying hu, go_sem, sizeOf, zeroValue, hT, hs, hz, h24', Result.andThen]
  rw [if_neg h0]
  rw [hf']
  simp [go_sem]
/-- a slice of fields at a step -/
theorem wpList_bs {P : Program} {ops : Array Oper} {rest : List Oper} {o : Oper} {a : Act} {w : World} {Q : Exit → Act → World → Prop} (hgd : o.guard = none) (t : TypeId) (n : Nat) (ps : Array (Nat × Operand)) (ho : o.op = .buildSlice t n ps) (v : Value) (w' : World)
    (hrun : (Instr.buildSlice t n (ps.map fun p => (p.1, a.eval p.2))).run P w = .ok v w') (h : wpList P ops Q rest (a.put o.dst v) w') : wpList P ops Q (o :: rest) a w := by
  refine wpList_plain hgd fun K hK => ?_
  unfold Oper.wp
  simp [execOp, ho, hrun, Result.andThen]
  exact hK _ _ h

/-- the fields one by one, each in the world that its maker left -/
def Mades (sT : Nat → Kd) (nT : Nat) : World → World → List FdS → List FV → Prop
  | w, w2, [], [] => w2 = w
  | w, w2, f :: fs, v :: vs => ∃ w1, Fld (New noS w w1) w1 sT nT f v.t ∧ Below w.heap.size w w1 ∧ Mades sT nT w1 w2 fs vs
  | _, _, [], _ :: _ => False
  | _, _, _ :: _, [] => False
theorem Mades.nil {sT : Nat → Kd} {nT : Nat} (w : World) : Mades sT nT w w [] [] := by simp only [Mades]
theorem Mades.cons {sT : Nat → Kd} {nT : Nat} {w w1 w2 : World} {f : FdS} {fs : List FdS} {v : FV} {vs : List FV} (hF : Fld (New noS w w1) w1 sT nT f v.t) (hb : Below w.heap.size w w1) (h : Mades sT nT w1 w2 fs vs) : Mades sT nT w w2 (f :: fs) (v :: vs) := by
  simp only [Mades]; exact ⟨w1, hF, hb, h⟩
theorem Mades.ind {sT : Nat → Kd} {nT : Nat} {motive : World → World → List FdS → List FV → Prop} (h0 : ∀ w, motive w w [] []) (h1 : ∀ {w w1 w2 : World} {f : FdS} {fs : List FdS} {v : FV} {vs : List FV}, Fld (New noS w w1) w1 sT nT f v.t → Below w.heap.size w w1 → Mades sT nT w1 w2 fs vs → motive w1 w2 fs vs → motive w w2 (f :: fs) (v :: vs)) :
    ∀ (fs : List FdS) (vs : List FV) (w w2 : World), Mades sT nT w w2 fs vs → motive w w2 fs vs
  | [], [], w, w2, h => by simp only [Mades] at h; subst h; exact h0 _
  | f :: fs, v :: vs, w, w2, h => by
    simp only [Mades] at h
    obtain ⟨w1, hF, hb, h⟩ := h
    exact h1 hF hb h (Mades.ind h0 h1 fs vs w1 w2 h)
  | [], _ :: _, _, _, h => by simp only [Mades] at h
  | _ :: _, [], _, _, h => by simp only [Mades] at h
theorem Mades.bel {sT : Nat → Kd} {nT : Nat} {w w2 : World} {fs : List FdS} {vs : List FV} (h : Mades sT nT w w2 fs vs) : Below w.heap.size w w2 :=
  Mades.ind (motive := fun w w2 _ _ => Below w.heap.size w w2) (fun _ => Below.refl _ _) (fun _ hb _ ih => hb.trans (ih.mono hb.size)) fs vs w w2 h
theorem Mades.len {sT : Nat → Kd} {nT : Nat} {w w2 : World} {fs : List FdS} {vs : List FV} (h : Mades sT nT w w2 fs vs) : vs.length = fs.length :=
  Mades.ind (motive := fun _ _ fs vs => vs.length = fs.length) (fun _ => rfl) (fun _ _ _ ih => by simp [ih]) fs vs w w2 h
theorem Mades.fld {sT : Nat → Kd} {nT : Nat} {w w2 : World} {fs : List FdS} {vs : List FV} (h : Mades sT nT w w2 fs vs) : ∀ (i : Nat) (f : FdS) (v : FV), fs[i]? = some f → vs[i]? = some v → Fld (New noS w w2) w2 sT nT f v.t := by
  refine Mades.ind (motive := fun w w2 fs vs => ∀ (i : Nat) (f : FdS) (v : FV), fs[i]? = some f → vs[i]? = some v → Fld (New noS w w2) w2 sT nT f v.t) ?_ ?_ fs vs w w2 h
  · intro w i f v h1; simp at h1
  · intro w w1 w2 f fs v vs hF hb h ih
    have hb2 := h.bel
    intro i f' v' h1 h2
    cases i with
    | zero =>
      simp at h1 h2; subst h1; subst h2
      refine hF.later (fun k hk => ?_) ⟨fun k hk => ?_, hb2.size, fun k hk => ?_⟩
      · rcases hk with h3 | h3
        · exact h3.elim
        · exact .inr ⟨h3.1, Nat.lt_of_lt_of_le h3.2 hb2.size⟩
      · rcases hk with h3 | h3
        · exact h3.elim
        · exact h3.2
      · rcases hk with h3 | h3
        · exact h3.elim
        · exact hb2.block k h3.2
    | succ i =>
      refine (ih i f' v' (by simpa using h1) (by simpa using h2)).later (fun k hk => ?_) (Kept.refl fun k hk => ?_)
      · rcases hk with h3 | h3
        · exact h3.elim
        · exact .inr ⟨Nat.le_trans hb.size h3.1, h3.2⟩
      · rcases hk with h3 | h3
        · exact h3.elim
        · exact h3.2
/-- the table, when the form's own variable has been written -/
theorem frm_done {sT : Nat → Kd} {nT : Nat} {w W0 w5 W : World} {fs : List FdS} {vs : List FV} {tyF : TypeId} {dom sgn : Int} (h0 : W0.heap.size = w.heap.size + 1) (hb0 : Below w.heap.size w W0) (h : Mades sT nT W0 w5 fs vs) (hW : Buts (fun b => b = w.heap.size) (w5.alloc (.cells (vs.flatMap FV.l).toArray tyF)) W) :
    FrmPost dom sgn sT nT fs tyF w (.returned (.agg #[.int .i64 dom, .int .i64 sgn, .slice (some ⟨w5.heap.size, 0, none⟩) fs.length fs.length])) W := by
  have hb5 := h.bel
  have hs5 := hb5.size
  have hba : Below w.heap.size w (w5.alloc (.cells (vs.flatMap FV.l).toArray tyF)) := below_more (hb0.trans (hb5.mono hb0.size)) _ (by omega)
  have hsz : (w5.alloc (.cells (vs.flatMap FV.l).toArray tyF)).heap.size = w5.heap.size + 1 := by simp
  have hsW := hW.size
  have hbW : Below w.heap.size (w5.alloc (.cells (vs.flatMap FV.l).toArray tyF)) W := hW.below (by omega) (fun k hk => by omega)
  refine ⟨w5.heap.size, vs, rfl, ⟨?_, .inr ⟨by omega, by omega⟩, h.len, fun i f v h1 h2 => ?_⟩, hba.trans hbW⟩
  · exact hW.arr (Arr.new w5 tyF (vs.flatMap FV.l)) (by omega)
  · refine (h.fld i f v h1 h2).later (fun k hk => ?_) ⟨fun k hk => ?_, by omega, fun k hk => ?_⟩
    · rcases hk with h3 | h3
      · exact h3.elim
      · exact .inr ⟨by omega, by omega⟩
    · rcases hk with h3 | h3
      · exact h3.elim
      · exact h3.2
    · rcases hk with h3 | h3
      · exact h3.elim
      · rw [hW.block k (by omega) (by omega)]
        exact (below_one w5 (.cells (vs.flatMap FV.l).toArray tyF)).block k h3.2
/-! A term within another. -/
theorem ins_in (o a : Nat) (x y : Nat → Int) : ins o x (ins a (sft o x) y) = ins (o + a) x y := by
  funext i; unfold ins sft
  by_cases h1 : i < o
  · rw [if_pos h1, if_pos (by omega)]
  · rw [if_neg h1]
    by_cases h2 : i - o < a
    · rw [if_pos h2, if_pos (by omega)]; congr 1; omega
    · rw [if_neg h2, if_neg (by omega)]; congr 1; omega
theorem GRes.in {f : FdS} {p q o a N : Nat} {s t : Sl} {fl fl' : Int} {ty : TypeId} {sh : Nat → Kd} {x x' : Nat → Int} {w w' : World} (h : GRes f p q (o + a) s fl ty sh N x w w' t fl' x') : GRes (fsIn a f) p q o s fl ty sh N x w w' t fl' x' := by
  refine ⟨h.rdr, h.same, h.le, h.trm, h.but, h.stays, fun h0 => ?_⟩
  have h1 := h.got h0
  simp only [fsIn, sft_sft]
  cases hE : f.get (sft (o + a) x) s.l with
  | none => rw [hE] at h1; exact h1
  | some yr =>
    obtain ⟨y, r⟩ := yr
    rw [hE] at h1
    exact ⟨h1.1, by rw [ins_in]; exact h1.2.1, h1.2.2⟩
theorem Seg.in {sT sP : Nat → Kd} {nT nP a : Nat} {sh : Nat → Kd} {N o : Nat} (h : Seg sT nT sh N o) (ha : a + nP ≤ nT) (hs : ∀ j, j < nP → sT (a + j) = sP j) : Seg sP nP sh N (o + a) :=
  ⟨by have := h.le; omega, fun j hj => by rw [Nat.add_assoc, h.eq _ (by omega), hs j hj]⟩
end Go.Proofs.YthpnfbgobpfdgaaGreat
