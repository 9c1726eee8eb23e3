import Derived.Test.YtebaiaghbfbgmaaBuM
import Derived.Deep.Slices
import Derived.Laws.AppendOwnNone
set_option linter.unusedSimpArgs false
set_option linter.unusedVariables false
namespace Go.Proofs.Ytebaiaghbfbgmaa
open Go.RowKit

/-! Slices of structs, wherever they lie; rows of them of one's own. -/
structure Sx (α : Type) where (a : Option Addr) (n c : Nat) (xs : List α)
def Sx.v {α : Type} (s : Sx α) : Value := .slice s.a s.n s.c
structure Sx.Ok {α : Type} (f : α → List Value) (sz : Nat) (w : World) (s : Sx α) : Prop where
  len : s.xs.length = s.n
  le : s.n ≤ s.c
  mx : s.c ≤ maxLen
  nn : s.a = none → s.n = 0 ∧ s.c = 0
  lies : 0 < s.n → ∃ b off, s.a = some ⟨b, off, none⟩ ∧ b < w.heap.size ∧ ∀ i x, s.xs[i]? = some x → w.rangeAt b (off + i * sz) (f x)
section
variable {α : Type} {f : α → List Value} {sz : Nat} {w w' : World} {s : Sx α}
theorem rangeAt_blk {b o : Nat} {cs : List Value} (h : w.rangeAt b o cs) (hb : w'.heap[b]? = w.heap[b]?) : w'.rangeAt b o cs := fun j v hv => by
  rw [← h j v hv]; exact World.cell?_of_block (w := w) (w' := w') (a := ⟨b, _, none⟩) hb
theorem Sx.Ok.keep (h : s.Ok f sz w) (hs : w.heap.size ≤ w'.heap.size) (hk : 0 < s.n → ∀ x, s.a = some x → x.block < w.heap.size → w'.heap[x.block]? = w.heap[x.block]?) : s.Ok f sz w' := by
  refine ⟨h.len, h.le, h.mx, h.nn, fun h0 => ?_⟩
  obtain ⟨b, off, e, hlt, hr⟩ := h.lies h0
  exact ⟨b, off, e, Nat.lt_of_lt_of_le hlt hs, fun i x hi => rangeAt_blk (hr i x hi) (hk h0 _ e hlt)⟩
theorem Sx.Ok.later (h : s.Ok f sz w) (hb : Below w.heap.size w w') : s.Ok f sz w' := h.keep hb.size (fun _ x _ hx => hb.block _ hx)
theorem Sx.Ok.nil (w : World) (c : Nat) : Sx.Ok f sz w (⟨none, 0, 0, []⟩ : Sx α) := ⟨rfl, Nat.le_refl _, Nat.zero_le _, fun _ => ⟨rfl, rfl⟩, fun h => absurd h (by simp)⟩
/-- the piece from i up to j -/
def Sx.cut (s : Sx α) (sz i j : Nat) : Sx α := ⟨s.a.map fun x => ⟨x.block, x.off + i * sz, x.spot⟩, j - i, s.c - i, (s.xs.drop i).take (j - i)⟩
theorem Sx.Ok.cut (h : s.Ok f sz w) {i j : Nat} (hij : i ≤ j) (hj : j ≤ s.n) : (s.cut sz i j).Ok f sz w := by
  have hl := h.len
  have hle := h.le
  refine ⟨by simp [Sx.cut]; omega, by simp [Sx.cut]; omega, Nat.le_trans (by simp [Sx.cut]) h.mx, fun e => ?_, fun h0 => ?_⟩
  · have : s.a = none := by cases hs : s.a <;> simp [Sx.cut, hs] at e ⊢
    have h1 := h.nn this
    simp only [Sx.cut]; omega
  · simp only [Sx.cut] at h0
    obtain ⟨b, off, e, hlt, hr⟩ := h.lies (by omega)
    refine ⟨b, off + i * sz, by simp [Sx.cut, e], hlt, fun k x hk => ?_⟩
    simp only [Sx.cut] at hk
    have hk' : s.xs[i + k]? = some x := by
      rw [List.getElem?_take] at hk
      split at hk
      · rwa [List.getElem?_drop] at hk
      · cases hk
    have := hr (i + k) x hk'
    rwa [show off + (i + k) * sz = off + i * sz + k * sz by rw [Nat.add_mul]; omega] at this
theorem Sx.Ok.at_ (h : s.Ok f sz w) {i : Nat} {x : α} (hi : s.xs[i]? = some x) : ∃ b off, s.a = some ⟨b, off, none⟩ ∧ b < w.heap.size ∧ w.rangeAt b (off + i * sz) (f x) := by
  have hlt := (List.getElem?_eq_some_iff.1 hi).1
  obtain ⟨b, off, e, hb, hr⟩ := h.lies (by have := h.len; omega)
  exact ⟨b, off, e, hb, hr i x hi⟩
theorem flat_len : ∀ {xs : List α}, (∀ x ∈ xs, (f x).length = sz) → (xs.flatMap f).length = xs.length * sz
  | [], _ => by simp
  | x :: t, h => by
    rw [List.flatMap_cons, List.length_append, h x (by simp), flat_len (fun y hy => h y (by simp [hy])), List.length_cons, Nat.add_mul]; omega
theorem flat_at : ∀ {xs : List α} {i : Nat} {x : α}, (∀ x ∈ xs, (f x).length = sz) → xs[i]? = some x → ∀ (j : Nat) (v : Value), (f x)[j]? = some v → (xs.flatMap f)[i * sz + j]? = some v
  | [], i, x, _, h, j, v, hv => by simp at h
  | a :: t, 0, x, hh, h, j, v, hv => by
    simp at h; subst h
    have hj := (List.getElem?_eq_some_iff.1 hv).1
    rw [List.flatMap_cons, List.getElem?_append_left (by omega)]
    simpa using hv
  | a :: t, i + 1, x, hh, h, j, v, hv => by
    have ha := hh a (by simp)
    rw [List.flatMap_cons, List.getElem?_append_right (by rw [ha, Nat.add_mul]; omega), ha]
    have := flat_at (xs := t) (i := i) (fun l hl => hh l (by simp [hl])) (by simpa using h) j v hv
    rw [show (i + 1) * sz + j - sz = i * sz + j by rw [Nat.add_mul]; omega]; exact this
theorem Sx.Ok.flat (h : s.Ok f sz w) (hl : ∀ x ∈ s.xs, (f x).length = sz) (hsz : 0 < sz) {b off : Nat} (ha : s.a = some ⟨b, off, none⟩) (j : Nat) (v : Value) (hv : (s.xs.flatMap f)[j]? = some v) : w.cell? ⟨b, off + j, none⟩ = some v := by
  have hj := (List.getElem?_eq_some_iff.1 hv).1
  rw [flat_len hl] at hj
  have hd : j / sz < s.xs.length := by rw [Nat.div_lt_iff_lt_mul hsz]; exact hj
  obtain ⟨x, hx⟩ : ∃ x, s.xs[j / sz]? = some x := ⟨_, List.getElem?_eq_getElem hd⟩
  obtain ⟨b', off', e, -, hr⟩ := h.lies (by have := h.len; have h9 : 0 < s.xs.length := Nat.lt_of_le_of_lt (Nat.zero_le _) hd; omega)
  rw [ha] at e; cases e
  have hm : j % sz < (f x).length := by rw [hl x (List.mem_of_getElem? hx)]; exact Nat.mod_lt _ hsz
  have h1 := flat_at hl hx (j % sz) _ (List.getElem?_eq_getElem hm)
  have e2 : j / sz * sz + j % sz = j := by rw [Nat.mul_comm]; exact Nat.div_add_mod j sz
  rw [e2, hv] at h1
  have h2 := hr _ x hx (j % sz) _ (List.getElem?_eq_getElem hm)
  rw [← h1] at h2
  rw [show off + j / sz * sz + j % sz = off + j by omega] at h2
  exact h2
/-- a row of one's own is a slice -/
theorem own_sx {base T : Nat} {v : Value} {xs : List α} (h : w.ownsRow base T sz v xs.length (xs.flatMap f)) (hl : ∀ x ∈ xs, (f x).length = sz) : ∃ s : Sx α, v = s.v ∧ s.xs = xs ∧ s.Ok f sz w ∧ (∀ x, s.a = some x → base ≤ x.block ∧ v.ownBlock = some x.block) := by
  obtain ⟨h1, h2⟩ := h
  rcases h2 with ⟨rfl, h0⟩ | ⟨g, cap, cur, rfl, hb, hg, hle, hmx, hsz, ht⟩
  · have e : xs = [] := List.eq_nil_of_length_eq_zero h0
    subst e
    exact ⟨⟨none, 0, 0, []⟩, rfl, rfl, .nil w 0, fun x hx => by cases hx⟩
  · have hlt : g < w.heap.size := by
      by_cases hlt : g < w.heap.size
      · exact hlt
      · rw [Array.getElem?_eq_none (by omega)] at hg; cases hg
    refine ⟨⟨some ⟨g, 0, none⟩, xs.length, cap, xs⟩, rfl, rfl, ⟨rfl, hle, hmx, (fun e => by cases e), fun _ => ⟨g, 0, rfl, hlt, fun i x hi j u hu => ?_⟩⟩, fun x hx => by cases hx; exact ⟨hb, rfl⟩⟩
    have hc := flat_at hl hi j u hu
    rw [← ht] at hc
    rw [Nat.zero_add, cell_of_row w g (i * sz + j) _ _ _ hg]
    rw [List.getElem?_take] at hc
    split at hc
    · simpa using hc
    · cases hc
theorem own_nil (w : World) (base T : Nat) : w.ownsRow base T sz (.slice none 0 0) ([] : List α).length (([] : List α).flatMap f) := ⟨by simp, .inl ⟨rfl, rfl⟩⟩
end

section
variable {α : Type} {f : α → List Value} {sz : Nat} {w : World} {P : Program} {o : Oper} {a : Act} {k : Act → World → Prop} {Q : Exit → Act → World → Prop}
/-- append of any slice to a row of one's own -/
theorem op_append (s x : Operand) (t : TypeId) (ho : o.op = .call { callee := .builtin .append, args := #[s, x], argTypes := #[t, t] })
    {base : Nat} {e : TypeId} {zv : Value} {bytes : Nat} (ht : P.underlying t = some (.slice e)) (hi : (P.info? e).map (fun i => (i.zero, i.size, i.bytes)) = some (some zv, sz, bytes)) (hzs : zv.cells.size = sz) (hsz : 0 < sz)
    {v : Value} {xs : List α} (hs : a.eval s = v) (hown : w.ownsRow base e sz v xs.length (xs.flatMap f)) (y : Sx α) (hy : y.Ok f sz w) (hl : ∀ z ∈ y.xs, (f z).length = sz) (h1 : ∀ z ∈ y.xs, ∀ u ∈ f z, u.oneCell' = true) (hx : a.eval x = y.v)
    (hb : (xs.length + y.n) * bytes ≤ 140737488355328) (hb1 : 0 < bytes) (hbase : base ≤ w.heap.size)
    (h : ∀ v' w', w'.ownsRow base e sz v' (xs ++ y.xs).length ((xs ++ y.xs).flatMap f) → w.grownBy w' v.ownBlock → k (a.put o.dst v') w') : o.wp P a w k Q := by
  obtain ⟨i, hii, hiz, his, hib⟩ : ∃ i, P.info? e = some i ∧ i.zero = some zv ∧ i.size = sz ∧ i.bytes = bytes := by
    cases hq : P.info? e with
    | none => rw [hq] at hi; simp at hi
    | some i =>
      rw [hq] at hi
      simp only [Option.map_some, Option.some.injEq, Prod.mk.injEq] at hi
      exact ⟨i, rfl, hi.1, hi.2.1, hi.2.2⟩
  cases hya : y.a with
  | none =>
    obtain ⟨h0, hc0⟩ := hy.nn hya
    have hl0 : y.xs = [] := List.eq_nil_of_length_eq_zero (by rw [hy.len, h0])
    have hr := run_append_owned_none (P := P) (w := w) base t o.type e i sz ht hii v xs.length (xs.flatMap f) hown
    unfold Oper.wp
    simp [execOp, ho, resolve, invoke, builtin, hs, hx, Sx.v, hya, h0, hc0, hr, Result.andThen]
    exact h v w (by rw [hl0]; simpa using hown) (World.grownBy.refl w _)
  | some ad =>
    have hc1 : ∀ j u, (y.xs.flatMap f)[j]? = some u → w.cell? (ad.add j) = some u := fun j u hu => by
      have hpos : 0 < y.xs.length := by
        rcases Nat.eq_zero_or_pos y.xs.length with h0 | h0
        · rw [List.eq_nil_of_length_eq_zero h0] at hu; simp at hu
        · exact h0
      obtain ⟨b, off, e2, -, -⟩ := hy.lies (by rw [← hy.len]; exact hpos)
      rw [hya] at e2; cases e2
      rw [addr_add]
      exact hy.flat hl hsz hya j u hu
    have hc2 : ∀ u ∈ y.xs.flatMap f, u.oneCell' = true := fun u hu => by
      obtain ⟨z, hz, hu⟩ := List.mem_flatMap.1 hu
      exact h1 z hz u hu
    have hc3 : xs.length + y.n ≤ maxLen := by
      have : (xs.length + y.n) * 1 ≤ (xs.length + y.n) * bytes := Nat.mul_le_mul_left _ hb1
      unfold maxLen; omega
    obtain ⟨v', w', hr, r1, r2, r3⟩ := run_append_own_at (P := P) w base t o.type e i zv sz bytes ht hii hiz his hib hzs hsz v xs.length (xs.flatMap f) hown ad y.n y.c (y.xs.flatMap f) (by rw [flat_len hl, hy.len]) hc1 hc2 hc3 hb hbase
    unfold Oper.wp
    simp [execOp, ho, resolve, invoke, builtin, hs, hx, Sx.v, hya, hr, Result.andThen]
    refine h v' w' ?_ r2
    rw [List.length_append, List.flatMap_append, hy.len]; exact r1
end
end Go.Proofs.Ytebaiaghbfbgmaa
