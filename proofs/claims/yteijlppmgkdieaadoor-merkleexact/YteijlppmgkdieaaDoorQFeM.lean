import Derived.Test.YteijlppmgkdieaaDoorQStM
set_option linter.unusedSimpArgs false
set_option linter.unusedVariables false
namespace Go.Proofs.YteijlppmgkdieaaDoor
open Go.RowKit

/-! Structs compared: of any program. -/
/-- a cell's kind: an integer's, or none: a bool -/
abbrev CK := Option IntKind
def fitK : CK → Value → Prop
  | some k, v => ∃ z, v = .int k z
  | none, v => ∃ q, v = .bool q
/-- cells of these kinds -/
def Wt : List CK → List Value → Prop
  | [], [] => True
  | k :: ks, v :: c => fitK k v ∧ Wt ks c
  | _, _ => False
theorem Wt.len : ∀ {ks : List CK} {c : List Value}, Wt ks c → c.length = ks.length
  | [], [], _ => rfl
  | k :: ks, v :: c, h => by simp [Wt.len h.2]
  | [], _ :: _, h => h.elim
  | _ :: _, [], h => h.elim
theorem Wt.app : ∀ {ks ks' : List CK} {c c' : List Value}, Wt ks c → Wt ks' c' → Wt (ks ++ ks') (c ++ c')
  | [], ks', [], c', _, h => h
  | k :: ks, ks', v :: c, c', h, h' => ⟨h.1, Wt.app h.2 h'⟩
  | [], _, _ :: _, _, h, _ => h.elim
  | _ :: _, _, [], _, h, _ => h.elim
theorem Wt.split : ∀ {ks ks' : List CK} {c : List Value}, Wt (ks ++ ks') c → ∃ c1 c2, c = c1 ++ c2 ∧ Wt ks c1 ∧ Wt ks' c2
  | [], ks', c, h => ⟨[], c, rfl, trivial, h⟩
  | k :: ks, ks', v :: c, h => by
    obtain ⟨c1, c2, rfl, h1, h2⟩ := Wt.split (ks := ks) (ks' := ks') h.2
    exact ⟨v :: c1, c2, rfl, ⟨h.1, h1⟩, h2⟩
  | k :: ks, ks', [], h => h.elim
theorem Wt.u8 (l : List Int) : Wt (List.replicate l.length (some .u8)) (U8 l) := by
  induction l with
  | nil => trivial
  | cons a t ih => exact ⟨⟨a, rfl⟩, ih⟩
theorem Wt.u8n {l : List Int} {n : Nat} (h : l.length = n) : Wt (List.replicate n (some .u8)) (U8 l) := by subst h; exact Wt.u8 l
theorem Wt.of_u8 : ∀ {n : Nat} {c : List Value}, Wt (List.replicate n (some .u8)) c → ∃ l : List Int, l.length = n ∧ c = U8 l
  | 0, [], _ => ⟨[], rfl, rfl⟩
  | n + 1, v :: c, h => by
    obtain ⟨z, rfl⟩ := h.1
    obtain ⟨l, hl, rfl⟩ := Wt.of_u8 (n := n) h.2
    exact ⟨z :: l, by simp [hl], rfl⟩
  | 0, _ :: _, h => h.elim
  | n + 1, [], h => h.elim
def Fv (td : TypeDesc) (c : List Value) : Value := if td.isRow then aV c else c.headD undef
def Feq (P : Program) (d : Nat) (t : TypeId) (ks : List CK) : Prop := ∃ td, P.underlying t = some td ∧ (P.info? t).map (·.size) = some ks.length ∧ (td.isRow = false → ks.length = 1) ∧
  ∀ c c' w q, Wt ks c → Wt ks c' → (q = true ↔ c = c') → (Op.equalIn d t (Fv td c) (Fv td c')).run P w = .ok q w
theorem run_eqB {P : Program} {t e : TypeId} {n : Nat} {k : IntKind} (d : Nat) (hu : P.underlying t = some (.array n e)) (hue : P.underlying e = some (.int k)) (hi : (P.info? e).map (·.size) = some 1)
    (l l' : List Int) (hl : l.length = n) (hl' : l'.length = n) (w : World) :
    (Op.equalIn (d + 1 + 1) t (.agg (l.map (Value.int k)).toArray) (.agg (l'.map (Value.int k)).toArray)).run P w = .ok (decide (l = l')) w := by
  obtain ⟨i, hii⟩ : ∃ i, P.info? e = some i := by cases hq : P.info? e with
    | none => simp [hq] at hi
    | some i => exact ⟨i, rfl⟩
  have hs : P.cellsOf e = 1 := by simp [Program.cellsOf, hii] at hi ⊢; exact hi
  rw [run_equalIn_array w (d + 1) _ _ hu hii, hs]
  rw [run_eqItems_int hue d l l' w _ (by intro j hj; rw [List.mem_range] at hj; omega), ← hl, all_range_eq l l' (by omega)]
theorem bool_iff {q q' : Bool} {p : Prop} (h : q = true ↔ p) (h' : q' = true ↔ p) : q = q' := by
  rw [Bool.eq_iff_iff, h, h']
theorem U8_inj {l l' : List Int} : U8 l = U8 l' ↔ l = l' := by
  constructor
  · intro h
    unfold U8 at h
    exact (List.map_inj_right (fun x y e => by cases e; rfl)).1 h
  · rintro rfl; rfl
theorem feq_int {P : Program} {d : Nat} {t : TypeId} {k : IntKind} (hu : P.underlying t = some (.int k)) (hi : (P.info? t).map (·.size) = some 1) : Feq P (d + 1) t [some k] := by
  refine ⟨.int k, hu, hi, fun _ => rfl, fun c c' w q hc hc' hq => ?_⟩
  match c, c', hc, hc' with
  | [v], [v'], hc, hc' =>
    obtain ⟨z, rfl⟩ := hc.1
    obtain ⟨z', rfl⟩ := hc'.1
    show (Op.equalIn (d + 1) t (.int k z) (.int k z')).run P w = _
    rw [run_equalIn_int w d t k k _ _ hu]
    congr 1
    refine bool_iff (p := z = z') (by simp) (hq.trans (by simp))
theorem feq_bool {P : Program} {d : Nat} {t : TypeId} (hu : P.underlying t = some .bool) (hi : (P.info? t).map (·.size) = some 1) : Feq P (d + 1) t [none] := by
  refine ⟨.bool, hu, hi, fun _ => rfl, fun c c' w q hc hc' hq => ?_⟩
  match c, c', hc, hc' with
  | [v], [v'], hc, hc' =>
    obtain ⟨z, rfl⟩ := hc.1
    obtain ⟨z', rfl⟩ := hc'.1
    show (Op.equalIn (d + 1) t (.bool z) (.bool z')).run P w = _
    rw [run_equalIn_bool' w d t _ _ hu]
    congr 1
    refine bool_iff (p := z = z') (by simp) (hq.trans (by simp))
theorem feq_bytes {P : Program} {d : Nat} {t e : TypeId} {n : Nat} (hu : P.underlying t = some (.array n e)) (hue : P.underlying e = some (.int .u8)) (hie : (P.info? e).map (·.size) = some 1) (hi : (P.info? t).map (·.size) = some n) : Feq P (d + 1 + 1) t (List.replicate n (some .u8)) := by
  refine ⟨_, hu, by simpa using hi, fun h => by simp [TypeDesc.isRow] at h, fun c c' w q hc hc' hq => ?_⟩
  obtain ⟨l, hl, rfl⟩ := hc.of_u8
  obtain ⟨l', hl', rfl⟩ := hc'.of_u8
  show (Op.equalIn (d + 1 + 1) t (.agg (U8 l).toArray) (.agg (U8 l').toArray)).run P w = _
  have := run_eqB (P := P) d hu hue hie l l' hl hl' w
  unfold U8
  rw [this]
  congr 1
  exact bool_iff (p := l = l') (by simp) (hq.trans U8_inj)
theorem run_part {P : Program} {t : TypeId} {td : TypeDesc} {n : Nat} (hu : P.underlying t = some td) (hi : (P.info? t).map (·.size) = some n) (pre c post : List Value) (hc : c.length = n) (h1 : td.isRow = false → n = 1) (w : World) :
    (part t (pre ++ (c ++ post)).toArray pre.length).run P w = .ok (Fv td c) w := by
  obtain ⟨i, hii⟩ : ∃ i, P.info? t = some i := by cases hq : P.info? t with
    | none => simp [hq] at hi
    | some i => exact ⟨i, rfl⟩
  have hs : i.size = n := by rw [hii] at hi; simpa using hi
  cases hr : td.isRow
  · have hA : (isAgg t).run P w = .ok false w := by
      unfold isAgg
      rw [Sem.run_bind, run_underlying hu w]
      cases td <;> simp_all [TypeDesc.isRow]
    obtain ⟨v, rfl⟩ : ∃ v, c = [v] := by
      have := h1 hr
      match c, hc with
      | [v], _ => exact ⟨v, rfl⟩
      | [], h => simp at h; omega
      | _ :: _ :: _, h => simp at h; omega
    unfold part Fv
    simp [hA, hr]
  · have hA : (isAgg t).run P w = .ok true w := by
      unfold isAgg
      rw [Sem.run_bind, run_underlying hu w]
      cases td <;> simp_all [TypeDesc.isRow]
    have e1 : (pre ++ (c ++ post)).toArray.extract pre.length (pre.length + n) = c.toArray := by
      apply Array.ext'
      simp [List.extract, hc]
    unfold part
    rw [Sem.run_bind, hA]
    simp only [Result.andThen_ok, if_true, Sem.run_bind, sizeOf, run_typeInfo w hii, Sem.run_pure, hs, e1]
    unfold Fv
    rw [hr]; rfl
def Ffs (P : Program) (d : Nat) : List Field → List (List CK) → Nat → Prop
  | [], [], _ => True
  | f :: fs, ks :: kss, o => f.name ≠ "_" ∧ f.offset = o ∧ Feq P d f.type ks ∧ Ffs P d fs kss (o + ks.length)
  | _, _, _ => False
theorem eqFields_run {P : Program} {d : Nat} : ∀ (fs : List Field) (kss : List (List CK)) (pre pre' c c' : List Value) (q : Bool) (w : World), pre.length = pre'.length → Ffs P d fs kss pre.length → Wt kss.flatten c → Wt kss.flatten c' → (q = true ↔ c = c') →
    (Op.eqFields d (pre ++ c).toArray (pre' ++ c').toArray fs).run P w = .ok q w
  | [], [], pre, pre', c, c', q, w, _, _, hc, hc', hq => by
    have h1 := hc.len
    have h2 := hc'.len
    have e1 : c = [] := List.eq_nil_of_length_eq_zero (by simpa using h1)
    have e2 : c' = [] := List.eq_nil_of_length_eq_zero (by simpa using h2)
    subst e1 e2
    have : q = true := hq.2 rfl
    subst this
    simp [Op.eqFields]
  | [], _ :: _, _, _, _, _, _, _, _, h, _, _, _ => h.elim
  | _ :: _, [], _, _, _, _, _, _, _, h, _, _, _ => h.elim
  | f :: fs, ks :: kss, pre, pre', c, c', q, w, hl, h, hc, hc', hq => by
    obtain ⟨h1, h2, ⟨td, hu, hi, hone, he⟩, h4⟩ := h
    rw [List.flatten_cons] at hc hc'
    obtain ⟨c1, c2, rfl, hc1, hc2⟩ := hc.split
    obtain ⟨d1, d2, rfl, hd1, hd2⟩ := hc'.split
    have p1 := run_part hu hi pre c1 c2 hc1.len hone w
    have p2 := run_part hu hi pre' d1 d2 hd1.len hone w
    rw [← hl] at p2
    obtain ⟨q1, hq1⟩ : ∃ q1 : Bool, q1 = true ↔ c1 = d1 := by
      by_cases h : c1 = d1
      · exact ⟨true, by simp [h]⟩
      · exact ⟨false, by simp [h]⟩
    have he1 := he c1 d1 w q1 hc1 hd1 hq1
    rw [Op.eqFields, if_pos h1, h2]
    simp only [Sem.run_bind, p1, p2, he1, Result.andThen_ok]
    have hlen : c1.length = d1.length := by rw [hc1.len, hd1.len]
    cases hqq : q1
    · have hne : c1 ≠ d1 := fun e => by rw [hq1.2 e] at hqq; cases hqq
      have : q = false := by
        cases hq9 : q
        · rfl
        · exact absurd (List.append_inj_left (hq.1 hq9) hlen) hne
      subst this
      simp
    · have heq : c1 = d1 := hq1.1 hqq
      subst heq
      have := eqFields_run fs kss (pre ++ c1) (pre' ++ c1) c2 d2 q w (by simp [hl]) (by rw [List.length_append, hc1.len]; exact h4) hc2 hd2 (hq.trans (by simp))
      simp only [List.append_assoc] at this
      simp [this]
theorem feq_struct {P : Program} {d : Nat} {t : TypeId} {fields : Array Field} {kss : List (List CK)} (hu : P.underlying t = some (.struct fields)) (hp : P.stoodInHeld t = false) (hi : (P.info? t).map (·.size) = some kss.flatten.length) (hf : Ffs P d fields.toList kss 0) : Feq P (d + 1) t kss.flatten := by
  refine ⟨_, hu, hi, fun h => by simp [TypeDesc.isRow] at h, fun c c' w q hc hc' hq => ?_⟩
  show (Op.equalIn (d + 1) t (.agg c.toArray) (.agg c'.toArray)).run P w = _
  have hfo : P.fieldsOf t = fields := by unfold Program.fieldsOf; rw [hu]
  rw [run_equalIn_struct w d t _ _ (by rw [hfo]; exact hu) hp, hfo]
  exact eqFields_run fields.toList kss [] [] c c' q w rfl hf hc hc' hq
theorem Feq.row {P : Program} {d : Nat} {t : TypeId} {ks : List CK} (h : Feq P d t ks) {td : TypeDesc} (hu : P.underlying t = some td) (hd : td.isRow = true) {c c' : List Value} (hc : Wt ks c) (hc' : Wt ks c') {q : Bool} (hq : q = true ↔ c = c') (w : World) : (Op.equalIn d t (aV c) (aV c')).run P w = .ok q w := by
  obtain ⟨td', hu', -, -, h⟩ := h
  rw [hu] at hu'; cases hu'
  have := h c c' w q hc hc' hq
  unfold Fv at this
  rw [hd] at this
  exact this
section
variable {P : Program} {o : Oper} {a : Act} {w : World}
/-- two structs compared -/
theorem ex_eql (t : TypeId) (x y : Operand) (ho : o.op = .binOp .eql t x y t) (c c' : List Value) (hx : a.eval x = aV c) (hy : a.eval y = aV c') (q : Bool) (he : (Op.equalIn 10000 t (aV c) (aV c')).run P w = .ok q w) (hg : P.eqGuardType P.depth t = false) : (execOp a.eval o).run P w = .ok (.value (.bool q)) w := by
  unfold aV at *
  unfold execOp
  rw [ho]
  simp only [hx, hy]
  simp [eqGuard, binOp, Op.equal, Op.maxDepth, Sem.run_bind, Result.andThen, hg, he]
theorem ex_neq (t : TypeId) (x y : Operand) (ho : o.op = .binOp .neq t x y t) (c c' : List Value) (hx : a.eval x = aV c) (hy : a.eval y = aV c') (q : Bool) (he : (Op.equalIn 10000 t (aV c) (aV c')).run P w = .ok q w) (hg : P.eqGuardType P.depth t = false) : (execOp a.eval o).run P w = .ok (.value (.bool (!q))) w := by
  unfold aV at *
  unfold execOp
  rw [ho]
  simp only [hx, hy]
  simp [eqGuard, binOp, Op.equal, Op.maxDepth, Sem.run_bind, Result.andThen, hg, he]
end
end Go.Proofs.YteijlppmgkdieaaDoor
