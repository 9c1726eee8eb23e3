import Derived.Test.YtjedgkcpkieaeaaMxW
set_option linter.unusedSimpArgs false
set_option linter.unusedVariables false
namespace Go.Proofs.Ytjedgkcpkieaeaa
open Go.RowKit

/-! What acknowledgements come to hangs on which they are, alone. -/
theorem akF_get {r : Int} {n : Nat} {p : List Bool × Int} {x : Akn} (hl : p.1.length = n) {i : Nat} (hi : i < n) : (akF r n p x).1.getD i false = (p.1.getD i false || (akOk r n x && x.g == (i : Int) + 1)) := by
  unfold akF
  cases hk : akOk r n x with
  | false => simp
  | true =>
    have hk' := hk
    unfold akOk at hk'
    simp at hk'
    rw [if_pos rfl]
    by_cases e : x.g = (i : Int) + 1
    · have e2 : x.g.toNat - 1 = i := by omega
      rw [e2]
      simp [e, hl, hi]
    · have e2 : ¬ x.g.toNat - 1 = i := by omega
      have e3 : (x.g == (i : Int) + 1) = false := by simpa using e
      simp [e3, List.getElem?_set, e2]
theorem akA_get {r : Int} {n : Nat} : ∀ {xs : List Akn} {p : List Bool × Int}, p.1.length = n → ∀ {i : Nat}, i < n → (akA r n p xs).1.getD i false = (p.1.getD i false || xs.any (fun x => akOk r n x && x.g == (i : Int) + 1))
  | [], p, hl, i, hi => by simp [akA]
  | x :: t, p, hl, i, hi => by
    rw [akA, List.foldl_cons]
    have := akA_get (r := r) (xs := t) (p := akF r n p x) ((akF_len r n p x).trans hl) hi
    rw [akA] at this
    rw [this, akF_get hl hi, List.any_cons, Bool.or_assoc]
theorem mxZ_le {a b c : Int} : mxZ a b ≤ c ↔ a ≤ c ∧ b ≤ c := by rw [mxZ_eq]; omega
theorem akA_le {r : Int} {n : Nat} {c : Int} : ∀ {xs : List Akn} {p : List Bool × Int}, (akA r n p xs).2 ≤ c ↔ p.2 ≤ c ∧ ∀ x ∈ xs, akOk r n x = true → x.i ≤ c
  | [], p => by simp [akA]
  | x :: t, p => by
    rw [akA, List.foldl_cons]
    have := akA_le (r := r) (n := n) (c := c) (xs := t) (p := akF r n p x)
    rw [akA] at this
    rw [this]
    cases hk : akOk r n x with
    | false => simp [akF, hk]
    | true =>
      simp only [akF, hk, if_true, mxZ_le, List.mem_cons, forall_eq_or_imp]
      constructor
      · rintro ⟨⟨h1, h2⟩, h3⟩; exact ⟨h1, fun _ => h2, h3⟩
      · rintro ⟨h1, h2, h3⟩; exact ⟨⟨h1, h2 trivial⟩, h3⟩
theorem any_same {α : Type} {f : α → Bool} {xs ys : List α} (h : ∀ x, x ∈ xs ↔ x ∈ ys) : xs.any f = ys.any f := by
  rw [Bool.eq_iff_iff, List.any_eq_true, List.any_eq_true]
  exact ⟨fun ⟨x, hx, e⟩ => ⟨x, (h x).1 hx, e⟩, fun ⟨x, hx, e⟩ => ⟨x, (h x).2 hx, e⟩⟩
theorem akA_same {r : Int} {n : Nat} {xs ys : List Akn} {p : List Bool × Int} (hp : p.1.length = n) (h : ∀ x, x ∈ xs ↔ x ∈ ys) : akA r n p xs = akA r n p ys := by
  refine Prod.ext ?_ ?_
  · exact ext_b ((akA_len r n xs p).trans hp) ((akA_len r n ys p).trans hp) (fun i hi => by rw [akA_get hp hi, akA_get hp hi, any_same h])
  · apply Int.le_antisymm
    · exact akA_le.2 ⟨(akA_le.1 (Int.le_refl (akA r n p ys).2)).1, fun x hx => (akA_le.1 (Int.le_refl (akA r n p ys).2)).2 x ((h x).1 hx)⟩
    · exact akA_le.2 ⟨(akA_le.1 (Int.le_refl (akA r n p xs).2)).1, fun x hx => (akA_le.1 (Int.le_refl (akA r n p xs).2)).2 x ((h x).2 hx)⟩
theorem mxL_mem (xs : List Akn) (ps : List Int) (x : Akn) : x ∈ mxL xs ps ↔ x ∈ xs := by
  rw [mxL, List.mem_append, List.mem_reverse]
  constructor
  · rintro (h | h)
    · obtain ⟨p, -, hp⟩ := List.mem_filterMap.1 h
      unfold mxF at hp
      split at hp
      · exact List.mem_of_getElem? hp
      · cases hp
    · exact h
  · exact fun h => .inr h
theorem akA_cut1 {r : Int} {n : Nat} {xs : List Akn} (j : Nat) : orL (akA r n (List.replicate n false, 0) (xs.take j)).1 (akA r n (List.replicate n false, 0) (xs.drop j)).1 = (akA r n (List.replicate n false, 0) xs).1 := by
  have hp : (List.replicate n false).length = n := by simp
  refine ext_b (n := n) (by rw [orL_len, akA_len]; exact hp) (by rw [akA_len]; exact hp) (fun i hi => ?_)
  rw [orL_at _ _ (by rw [akA_len]; simpa using hi), akA_get hp hi, akA_get hp hi, akA_get hp hi]
  simp only [rep_getD_b, Bool.false_or]
  rw [← List.any_append, List.take_append_drop]
theorem akA_cut2 {r : Int} {n : Nat} {xs : List Akn} (p : List Bool × Int) (j : Nat) : mxZ (akA r n p (xs.take j)).2 (akA r n p (xs.drop j)).2 = (akA r n p xs).2 := by
  apply Int.le_antisymm
  · have h := akA_le.1 (Int.le_refl (akA r n p xs).2)
    exact mxZ_le.2 ⟨akA_le.2 ⟨h.1, fun x hx => h.2 x (List.mem_of_mem_take hx)⟩, akA_le.2 ⟨h.1, fun x hx => h.2 x (List.mem_of_mem_drop hx)⟩⟩
  · have h := mxZ_le.1 (Int.le_refl (mxZ (akA r n p (xs.take j)).2 (akA r n p (xs.drop j)).2))
    refine akA_le.2 ⟨(akA_le.1 h.1).1, fun x hx => ?_⟩
    rw [← List.take_append_drop j xs] at hx
    rcases List.mem_append.1 hx with hx | hx
    · exact (akA_le.1 h.1).2 x hx
    · exact (akA_le.1 h.2).2 x hx

/-! Slices cut. -/
def Sx.frm {α : Type} (s : Sx α) (sz i : Nat) : Sx α := ⟨if s.c = i then s.a else s.a.map (·.add (i * sz)), s.n - i, s.c - i, s.xs.drop i⟩
def Sx.upto {α : Type} (s : Sx α) (sz i : Nat) : Sx α := ⟨if s.c = 0 then s.a else s.a.map (·.add (0 * sz)), i - 0, s.c - 0, s.xs.take i⟩
section
variable {α : Type} {f : α → List Value} {sz : Nat} {w : World} {s : Sx α}
theorem Sx.Ok.frm (h : s.Ok f sz w) {i : Nat} (hi : i ≤ s.n) : (s.frm sz i).Ok f sz w := by
  have hl := h.len
  have hle := h.le
  refine ⟨by simp [Sx.frm]; omega, by simp [Sx.frm]; omega, Nat.le_trans (by simp [Sx.frm]) h.mx, fun e => ?_, fun h0 => ?_⟩
  · have : s.a = none := by
      simp only [Sx.frm] at e
      split at e
      · exact e
      · cases hs : s.a <;> simp [hs] at e ⊢
    have h1 := h.nn this
    simp only [Sx.frm]; omega
  · simp only [Sx.frm] at h0
    obtain ⟨b, off, e, hlt, hr⟩ := h.lies (by omega)
    refine ⟨b, off + i * sz, ?_, hlt, fun k x hk => ?_⟩
    · simp only [Sx.frm]; rw [if_neg (by omega), e]; simp [addr_add]
    · simp only [Sx.frm, List.getElem?_drop] at hk
      have := hr (i + k) x hk
      rwa [show off + (i + k) * sz = off + i * sz + k * sz by rw [Nat.add_mul]; omega] at this
theorem Sx.Ok.upto (h : s.Ok f sz w) {i : Nat} (hi : i ≤ s.n) : (s.upto sz i).Ok f sz w := by
  have hl := h.len
  have hle := h.le
  refine ⟨by simp [Sx.upto]; omega, by simp [Sx.upto]; omega, Nat.le_trans (by simp [Sx.upto]) h.mx, fun e => ?_, fun h0 => ?_⟩
  · have : s.a = none := by
      simp only [Sx.upto] at e
      split at e
      · exact e
      · cases hs : s.a <;> simp [hs] at e ⊢
    have h1 := h.nn this
    simp only [Sx.upto]; omega
  · simp only [Sx.upto] at h0
    obtain ⟨b, off, e, hlt, hr⟩ := h.lies (by omega)
    refine ⟨b, off, ?_, hlt, fun k x hk => ?_⟩
    · simp only [Sx.upto]; rw [if_neg (by omega), e]; simp [addr_add]
    · simp only [Sx.upto] at hk
      rw [List.getElem?_take] at hk
      split at hk
      · exact hr k x hk
      · cases hk
end
section
variable {P : Program} {o : Oper} {a : Act} {w w0 : World} {T e : TypeId} {sz : Nat} {α : Type}
theorem run_szG (hu : P.underlying T = some (.slice e)) (hi : (P.info? e).map (·.size) = some sz) (w : World) : (sizeOf (P.elem T)).run P w = .ok sz w := by
  have he : P.elem T = e := by simp [Program.elem, hu]
  rw [he]
  cases hq : P.info? e with
  | none => rw [hq] at hi; simp at hi
  | some i => rw [hq] at hi; simp at hi; simp [sizeOf, typeInfo, hq, hi]
theorem ex_frmG (hu : P.underlying T = some (.slice e)) (hz : (P.info? e).map (·.size) = some sz) (x y : Operand) (ho : o.op = .slice T x (some y) none none) (s : Sx α) (i : Nat) (hi : i ≤ s.n) (hx : a.eval x = s.v) (hy : a.eval y = .int .i64 i) : (execOp a.eval o).run P w = .ok (.value (s.frm sz i).v) w := by
  have hu' : P.underlying T = some (.slice (P.elem T)) := by simp [Program.elem, hu]
  have hrun : (Instr.sliceAt T s.v (some (.int .i64 (i : Int))) none none).run P w = .ok (s.frm sz i).v w := by
    unfold Sx.v
    rw [run_sliceAt_slice w _ _ _ _ _ hu', run_slice_l w _ s.a s.n s.c hu' .i64 i (by omega) (by omega), run_szG hu hz]
    simp only [Result.andThen, sliced, Int.toNat_natCast, Sx.frm]
  rw [← hx, ← hy] at hrun
  simp [execOp, ho, hrun, Result.andThen]
theorem ex_uptoG (hu : P.underlying T = some (.slice e)) (hz : (P.info? e).map (·.size) = some sz) (x y : Operand) (ho : o.op = .slice T x none (some y) none) (s : Sx α) (i : Nat) (hi : i ≤ s.c) (hx : a.eval x = s.v) (hy : a.eval y = .int .i64 i) : (execOp a.eval o).run P w = .ok (.value (s.upto sz i).v) w := by
  have hu' : P.underlying T = some (.slice (P.elem T)) := by simp [Program.elem, hu]
  have hrun : (Instr.sliceAt T s.v none (some (.int .i64 (i : Int))) none).run P w = .ok (s.upto sz i).v w := by
    unfold Sx.v
    rw [run_sliceAt_slice w _ _ _ _ _ hu', run_slice_h w _ s.a s.n s.c hu' .i64 i (by omega) (by omega), run_szG hu hz]
    simp only [Result.andThen, sliced, Int.toNat_natCast, Sx.upto]
  rw [← hx, ← hy] at hrun
  simp [execOp, ho, hrun, Result.andThen]
end
end Go.Proofs.Ytjedgkcpkieaeaa
