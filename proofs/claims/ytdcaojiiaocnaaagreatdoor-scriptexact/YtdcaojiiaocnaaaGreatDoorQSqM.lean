import Derived.Test.YtdcaojiiaocnaaaGreatDoorQStM
import Derived.Test.YtdcaojiiaocnaaaGreatDoorQGaeZ
import Derived.Deep.Slices
import Derived.Laws.AppendOwnNone
set_option linter.unusedSimpArgs false
set_option linter.unusedVariables false
namespace Go.Proofs.YtdcaojiiaocnaaaGreatDoor
open Go.RowKit

/-! Slices of structs, wherever they lie; rows of them of one's own. -/
structure Sx (α : Type) where (a : Option Addr) (n c : Nat) (xs : List α)
def Sx.v {α : Type} (s : Sx α) : Value := .slice s.a s.n s.c
structure Sx.Ok {α : Type} (f : α → List Value) (sz : Nat) (w : World) (s : Sx α) : Prop where
  len : s.xs.length = s.n
  le : s.n ≤ s.c
  mx : s.c ≤ maxLen
  nn : s.a = none → s.n = 0 ∧ s.c = 0
  lies : 0 < s.n → ∃ b off, s.a = some ⟨b, off, none⟩ ∧ b < w.heap.size ∧ ∀ i x, s.xs[i]? = some x → w.rangeAt b (off + i * sz) (f x)
section
variable {α : Type} {f : α → List Value} {sz : Nat} {w w' : World} {s : Sx α}
theorem rangeAt_blk {b o : Nat} {cs : List Value} (h : w.rangeAt b o cs) (hb : w'.heap[b]? = w.heap[b]?) : w'.rangeAt b o cs := fun j v hv => by
  rw [← h j v hv]; exact World.cell?_of_block (w := w) (w' := w') (a := ⟨b, _, none⟩) hb
theorem Sx.Ok.keep (h : s.Ok f sz w) (hs : w.heap.size ≤ w'.heap.size) (hk : 0 < s.n → ∀ x, s.a = some x → x.block < w.heap.size → w'.heap[x.block]? = w.heap[x.block]?) : s.Ok f sz w' := by
  refine ⟨h.len, h.le, h.mx, h.nn, fun h0 => ?_⟩
  obtain ⟨b, off, e, hlt, hr⟩ := h.lies h0
  exact ⟨b, off, e, Nat.lt_of_lt_of_le hlt hs, fun i x hi => rangeAt_blk (hr i x hi) (hk h0 _ e hlt)⟩
theorem Sx.Ok.later (h : s.Ok f sz w) (hb : Below w.heap.size w w') : s.Ok f sz w' := h.keep hb.size (fun _ x _ hx => hb.block _ hx)
theorem Sx.Ok.nil (w : World) (c : Nat) : Sx.Ok f sz w (⟨none, 0, 0, []⟩ : Sx α) := ⟨rfl, Nat.le_refl _, Nat.zero_le _, fun _ => ⟨rfl, rfl⟩, fun h => absurd h (by simp)⟩
/-- the piece from i up to j -/
def Sx.cut (s : Sx α) (sz i j : Nat) : Sx α := ⟨s.a.map fun x => ⟨x.block, x.off + i * sz, x.spot⟩, j - i, s.c - i, (s.xs.drop i).take (j - i)⟩
theorem Sx.Ok.cut (h : s.Ok f sz w) {i j : Nat} (hij : i ≤ j) (hj : j ≤ s.n) : (s.cut sz i j).Ok f sz w := by
  have hl := h.len
  have hle := h.le
  refine ⟨by simp [Sx.cut]; omega, by simp [Sx.cut]; omega, Nat.le_trans (by simp [Sx.cut]) h.mx, fun e => ?_, fun h0 => ?_⟩
  · have : s.a = none := by cases hs : s.a <;> simp [Sx.cut, hs] at e ⊢
    have h1 := h.nn this
    simp only [Sx.cut]; omega
  · simp only [Sx.cut] at h0
    obtain ⟨b, off, e, hlt, hr⟩ := h.lies (by omega)
    refine ⟨b, off + i * sz, by simp [Sx.cut, e], hlt, fun k x hk => ?_⟩
    simp only [Sx.cut] at hk
    have hk' : s.xs[i + k]? = some x := by
      rw [List.getElem?_take] at hk
      split at hk
      · rwa [List.getElem?_drop] at hk
      · cases hk
    have := hr (i + k) x hk'
    rwa [show off + (i + k) * sz = off + i * sz + k * sz by rw [Nat.add_mul]; omega] at this
theorem Sx.Ok.at_ (h : s.Ok f sz w) {i : Nat} {x : α} (hi : s.xs[i]? = some x) : ∃ b off, s.a = some ⟨b, off, none⟩ ∧ b < w.heap.size ∧ w.rangeAt b (off + i * sz) (f x) := by
  have hlt := (List.getElem?_eq_some_iff.1 hi).1
  obtain ⟨b, off, e, hb, hr⟩ := h.lies (by have := h.len; omega)
  exact ⟨b, off, e, hb, hr i x hi⟩
theorem flat_len : ∀ {xs : List α}, (∀ x ∈ xs, (f x).length = sz) → (xs.flatMap f).length = xs.length * sz
  | [], _ => by simp
  | x :: t, h => by
    rw [List.flatMap_cons, List.length_append, h x (by simp), flat_len (fun y hy => h y (by simp [hy])), List.length_cons, Nat.add_mul]; omega
theorem flat_at : ∀ {xs : List α} {i : Nat} {x : α}, (∀ x ∈ xs, (f x).length = sz) → xs[i]? = some x → ∀ (j : Nat) (v : Value), (f x)[j]? = some v → (xs.flatMap f)[i * sz + j]? = some v
  | [], i, x, _, h, j, v, hv => by simp at h
  | a :: t, 0, x, hh, h, j, v, hv => by
    simp at h; subst h
    have hj := (List.getElem?_eq_some_iff.1 hv).1
    rw [List.flatMap_cons, List.getElem?_append_left (by omega)]
    simpa using hv
  | a :: t, i + 1, x, hh, h, j, v, hv => by
    have ha := hh a (by simp)
    rw [List.flatMap_cons, List.getElem?_append_right (by rw [ha, Nat.add_mul]; omega), ha]
    have := flat_at (xs := t) (i := i) (fun l hl => hh l (by simp [hl])) (by simpa using h) j v hv
    rw [show (i + 1) * sz + j - sz = i * sz + j by rw [Nat.add_mul]; omega]; exact this
theorem Sx.Ok.flat (h : s.Ok f sz w) (hl : ∀ x ∈ s.xs, (f x).length = sz) (hsz : 0 < sz) {b off : Nat} (ha : s.a = some ⟨b, off, none⟩) (j : Nat) (v : Value) (hv : (s.xs.flatMap f)[j]? = some v) : w.cell? ⟨b, off + j, none⟩ = some v := by
  have hj := (List.getElem?_eq_some_iff.1 hv).1
  rw [flat_len hl] at hj
  have hd : j / sz < s.xs.length := by rw [Nat.div_lt_iff_lt_mul hsz]; exact hj
  obtain ⟨x, hx⟩ : ∃ x, s.xs[j / sz]? = some x := ⟨_, List.getElem?_eq_getElem hd⟩
  obtain ⟨b', off', e, -, hr⟩ := h.lies (by have := h.len; have h9 : 0 < s.xs.length := Nat.lt_of_le_of_lt (Nat.zero_le _) hd; omega)
  rw [ha] at e; cases e
  have hm : j % sz < (f x).length := by rw [hl x (List.mem_of_getElem? hx)]; exact Nat.mod_lt _ hsz
  have h1 := flat_at hl hx (j % sz) _ (List.getElem?_eq_getElem hm)
  have e2 : j / sz * sz + j % sz = j := by rw [Nat.mul_comm]; exact Nat.div_add_mod j sz
  rw [e2, hv] at h1
  have h2 := hr _ x hx (j % sz) _ (List.getElem?_eq_getElem hm)
  rw [← h1] at h2
  rw [show off + j / sz * sz + j % sz = off + j by omega] at h2
  exact h2
/-- a row of one's own is a slice -/
theorem own_sx {base T : Nat} {v : Value} {xs : List α} (h : w.ownsRow base T sz v xs.length (xs.flatMap f)) (hl : ∀ x ∈ xs, (f x).length = sz) : ∃ s : Sx α, v = s.v ∧ s.xs = xs ∧ s.Ok f sz w ∧ (∀ x, s.a = some x → base ≤ x.block ∧ v.ownBlock = some x.block) := by
  obtain ⟨h1, h2⟩ := h
  rcases h2 with ⟨rfl, h0⟩ | ⟨g, cap, cur, rfl, hb, hg, hle, hmx, hsz, ht⟩
  · have e : xs = [] := List.eq_nil_of_length_eq_zero h0
    subst e
    exact ⟨⟨none, 0, 0, []⟩, rfl, rfl, .nil w 0, fun x hx => by cases hx⟩
  · have hlt : g < w.heap.size := by
      by_cases hlt : g < w.heap.size
      · exact hlt
      · rw [Array.getElem?_eq_none (by omega)] at hg; cases hg
    refine ⟨⟨some ⟨g, 0, none⟩, xs.length, cap, xs⟩, rfl, rfl, ⟨rfl, hle, hmx, (fun e => by cases e), fun _ => ⟨g, 0, rfl, hlt, fun i x hi j u hu => ?_⟩⟩, fun x hx => by cases hx; exact ⟨hb, rfl⟩⟩
    have hc := flat_at hl hi j u hu
    rw [← ht] at hc
    rw [Nat.zero_add, cell_of_row w g (i * sz + j) _ _ _ hg]
    rw [List.getElem?_take] at hc
    split at hc
    · simpa using hc
    · cases hc
theorem own_nil (w : World) (base T : Nat) : w.ownsRow base T sz (.slice none 0 0) ([] : List α).length (([] : List α).flatMap f) := ⟨by simp, .inl ⟨rfl, rfl⟩⟩
end

section
variable {α : Type} {f : α → List Value} {sz : Nat} {w : World} {P : Program} {o : Oper} {a : Act} {k : Act → World → Prop} {Q : Exit → Act → World → Prop}
/-- append of any slice to a row of one's own: where it lies then -/
theorem op_appendL (s x : Operand) (t : TypeId) (ho : o.op = .call { callee := .builtin .append, args := #[s, x], argTypes := #[t, t] })
    {base : Nat} {e : TypeId} {zv : Value} {bytes : Nat} (ht : P.underlying t = some (.slice e)) (hi : (P.info? e).map (fun i => (i.zero, i.size, i.bytes)) = some (some zv, sz, bytes)) (hzs : zv.cells.size = sz) (hsz : 0 < sz)
    {v : Value} {xs : List α} (hs : a.eval s = v) (hown : w.ownsRow base e sz v xs.length (xs.flatMap f)) (y : Sx α) (hy : y.Ok f sz w) (hl : ∀ z ∈ y.xs, (f z).length = sz) (h1 : ∀ z ∈ y.xs, ∀ u ∈ f z, u.oneCell' = true) (hx : a.eval x = y.v)
    (hb : (xs.length + y.n) * bytes ≤ 140737488355328) (hb1 : 0 < bytes) (hbase : base ≤ w.heap.size)
    (h : ∀ v' w', w'.ownsRow base e sz v' (xs ++ y.xs).length ((xs ++ y.xs).flatMap f) → w.grownBy w' v.ownBlock → (v'.ownBlock = v.ownBlock ∨ v'.ownBlock = some w.heap.size) → k (a.put o.dst v') w') : o.wp P a w k Q := by
  obtain ⟨i, hii, hiz, his, hib⟩ : ∃ i, P.info? e = some i ∧ i.zero = some zv ∧ i.size = sz ∧ i.bytes = bytes := by
    cases hq : P.info? e with
    | none => rw [hq] at hi; simp at hi
    | some i =>
      rw [hq] at hi
      simp only [Option.map_some, Option.some.injEq, Prod.mk.injEq] at hi
      exact ⟨i, rfl, hi.1, hi.2.1, hi.2.2⟩
  cases hya : y.a with
  | none =>
    obtain ⟨h0, hc0⟩ := hy.nn hya
    have hl0 : y.xs = [] := List.eq_nil_of_length_eq_zero (by rw [hy.len, h0])
    have hr := run_append_owned_none (P := P) (w := w) base t o.type e i sz ht hii v xs.length (xs.flatMap f) hown
    unfold Oper.wp
    simp [execOp, ho, resolve, invoke, builtin, hs, hx, Sx.v, hya, h0, hc0, hr, Result.andThen]
    exact h v w (by rw [hl0]; simpa using hown) (World.grownBy.refl w _) (.inl rfl)
  | some ad =>
    have hc1 : ∀ j u, (y.xs.flatMap f)[j]? = some u → w.cell? (ad.add j) = some u := fun j u hu => by
      have hpos : 0 < y.xs.length := by
        rcases Nat.eq_zero_or_pos y.xs.length with h0 | h0
        · rw [List.eq_nil_of_length_eq_zero h0] at hu; simp at hu
        · exact h0
      obtain ⟨b, off, e2, -, -⟩ := hy.lies (by rw [← hy.len]; exact hpos)
      rw [hya] at e2; cases e2
      rw [addr_add]
      exact hy.flat hl hsz hya j u hu
    have hc2 : ∀ u ∈ y.xs.flatMap f, u.oneCell' = true := fun u hu => by
      obtain ⟨z, hz, hu⟩ := List.mem_flatMap.1 hu
      exact h1 z hz u hu
    have hc3 : xs.length + y.n ≤ maxLen := by
      have : (xs.length + y.n) * 1 ≤ (xs.length + y.n) * bytes := Nat.mul_le_mul_left _ hb1
      unfold maxLen; omega
    obtain ⟨v', w', hr, r1, r2, r3⟩ := run_append_own_at (P := P) w base t o.type e i zv sz bytes ht hii hiz his hib hzs hsz v xs.length (xs.flatMap f) hown ad y.n y.c (y.xs.flatMap f) (by rw [flat_len hl, hy.len]) hc1 hc2 hc3 hb hbase
    unfold Oper.wp
    simp [execOp, ho, resolve, invoke, builtin, hs, hx, Sx.v, hya, hr, Result.andThen]
    refine h v' w' ?_ r2 r3
    rw [List.length_append, List.flatMap_append, hy.len]; exact r1
end
/-- all below is as it was -/
structure Old (w w' : World) : Prop where
  size : w.heap.size ≤ w'.heap.size
  block : ∀ k, k < w.heap.size → w'.heap[k]? = w.heap[k]?
theorem Old.of {w w' : World} (h : Below w.heap.size w w') : Old w w' := ⟨h.size, h.block⟩
theorem Hs17.begin (w0 : World) (K : World → Prop) (h : ∀ w', Old w0 w' → K w') : Hs17 w0 [] K w0 :=
  ⟨by simp, (fun p hp => by cases hp), (fun p hp => by cases hp), Below.refl _ _, fun w' h1 h2 => h w' ⟨h1, fun k hk => h2 k hk (fun p hp => by cases hp)⟩⟩
theorem own_blk {w w' : World} {base e sz n : Nat} {v : Value} {xs : List Value} (h : w.ownsRow base e sz v n xs) (hb : ∀ g, v.ownBlock = some g → w'.heap[g]? = w.heap[g]?) : w'.ownsRow base e sz v n xs := by
  refine ⟨h.1, ?_⟩
  rcases h.2 with h2 | ⟨g, cap, cur, h1, h2, h3, h4⟩
  · exact .inl h2
  · exact .inr ⟨g, cap, cur, h1, h2, (hb g (by rw [h1]; rfl)).trans h3, h4⟩
theorem own_lt {w : World} {base e sz n : Nat} {v : Value} {xs : List Value} (h : w.ownsRow base e sz v n xs) {g : Nat} (hg : v.ownBlock = some g) : base ≤ g ∧ g < w.heap.size := h.lt g hg
theorem Arr.old {w w' : World} {g : Nat} {t : TypeId} {l : List Value} (h : Arr w g t l) (ho : Old w w') : Arr w' g t l := (ho.block g h.lt).trans h
theorem rangeAt_old {w w' : World} {b o : Nat} {cs : List Value} (h : w.rangeAt b o cs) (hb : b < w.heap.size) (ho : Old w w') : w'.rangeAt b o cs := rangeAt_blk h (ho.block b hb)
section
variable {P : Program} {o : Oper} {a : Act} {w : World}
theorem ex_loadR (t : TypeId) (x : Operand) (ho : o.op = .load t x) (g off : Nat) (hx : a.eval x = .pointer (some ⟨g, off, none⟩)) (p : List Value) (hr : w.rangeAt g off p) {d : TypeDesc} (hu : P.underlying t = some d) (hd : d.isRow = true) (hz : (P.info? t).map (·.size) = some p.length) :
    (execOp a.eval o).run P w = .ok (.value (aV p)) w := by
  unfold execOp
  simp only [ho, hx, Instr.loadAt, Instr.sureAddr, Sem.run_bind, Sem.run_pure, Result.andThen_ok, run_loadVar_mid w g off t p d hr hu hd hz]
  rfl
end

/-! A row of one's own (of entries, of summaries) among the rows: behind them, and none where it is empty. -/
section
variable {α : Type} {f : α → List Value} {sz : Nat} {e : TypeId}
def RowG (f : α → List Value) (sz : Nat) (e : TypeId) (s : Sx α) (l : List α) (R : List Row) : Prop :=
  l.length = s.n ∧ ((s.a = none ∧ s.n = 0 ∧ s.c = 0 ∧ R = []) ∨ ∃ g sp, s.a = some ⟨g, 0, none⟩ ∧ s.n ≤ s.c ∧ s.c ≤ maxLen ∧ (l.flatMap f ++ sp).length = s.c * sz ∧ R = [(g, e, l.flatMap f ++ sp)])
theorem Hs17.swap {w0 w : World} {rows rows' : List Row} {K : World → Prop} (h : Hs17 w0 rows K w) (hp : rows.Perm rows') : Hs17 w0 rows' K w :=
  ⟨(hp.map (·.1)).nodup_iff.1 h.nd, fun p hq => h.arr p (hp.mem_iff.2 hq), fun p hq => h.old p (hp.mem_iff.2 hq), h.bel, fun w' h1 h2 => h.keep w' h1 (fun k hk hn => h2 k hk (fun p hq => hn p (hp.mem_iff.2 hq)))⟩
/-- what a call made, among the rows -/
theorem Hs17.ownG {w0 w w' : World} {rows : List Row} {K : World → Prop} {s : Sx α} {l : List α} (hl : l.length = s.n) (hS : Hs17 w0 rows K w) (hb : Below w.heap.size w w') (hO : w'.ownsRow w.heap.size e sz s.v l.length (l.flatMap f)) :
    ∃ R, RowG f sz e s l R ∧ Hs17 w0 (rows ++ R) K w' := by
  obtain ⟨sa, sn, sc, sx⟩ := s
  simp only [Sx.v] at hO hl
  rcases hO.2 with ⟨hv, h0⟩ | ⟨g, cap, cur, hv, hbg, hg, hle, hmx, hsz, ht⟩
  · cases hv
    refine ⟨[], ⟨hl, .inl ⟨rfl, rfl, rfl, rfl⟩⟩, ?_⟩
    rw [List.append_nil]; exact hS.later hb
  · simp only [Value.slice.injEq] at hv
    obtain ⟨rfl, hsn, rfl⟩ := hv
    have hcur : cur.toList = l.flatMap f ++ cur.toList.drop (l.length * sz) := by
      conv => lhs; rw [← List.take_append_drop (l.length * sz) cur.toList]
      congr 1
    have hA : Arr w' g e (l.flatMap f ++ cur.toList.drop (l.length * sz)) := by
      unfold Arr
      rw [← hcur]; simpa using hg
    have h' := hS.later hb
    have hgs : ∀ p ∈ rows, p.1 ≠ g := fun p hp e => by have h3 := (hS.arr p hp).lt; omega
    refine ⟨[(g, e, l.flatMap f ++ cur.toList.drop (l.length * sz))], ⟨hl, .inr ⟨g, _, rfl, by simp only; omega, hmx, by rw [← hcur]; simpa using hsz, rfl⟩⟩, ?_⟩
    have hH : Hs17 w0 ((g, e, l.flatMap f ++ cur.toList.drop (l.length * sz)) :: rows) K w' := by
      refine ⟨?_, ?_, ?_, h'.bel, ?_⟩
      · rw [List.map_cons, List.nodup_cons]
        refine ⟨fun h => ?_, h'.nd⟩
        obtain ⟨p, hp, e⟩ := List.mem_map.1 h
        exact hgs p hp e
      · intro p hp
        rcases List.mem_cons.1 hp with rfl | hp
        · exact hA
        · exact h'.arr p hp
      · intro p hp
        rcases List.mem_cons.1 hp with rfl | hp
        · exact Nat.le_trans hS.bel.size hbg
        · exact h'.old p hp
      · intro w'' q1 q2
        refine hS.keep w'' (Nat.le_trans hb.size q1) (fun k hk hp => ?_)
        refine (q2 k (Nat.lt_of_lt_of_le hk hb.size) (fun p hp' => ?_)).trans (hb.block k hk)
        rcases List.mem_cons.1 hp' with rfl | hp'
        · show g ≠ k; omega
        · exact hp p hp'
    exact hH.swap ((List.perm_append_singleton _ _).symm)
/-- and out of the rows again: one's own -/
theorem RowG.own {w0 w : World} {rows R : List Row} {K : World → Prop} {s : Sx α} {l : List α} (h : RowG f sz e s l R) (hf : ∀ x ∈ l, (f x).length = sz) (hS : Hs17 w0 (rows ++ R) K w) : w.ownsRow w0.heap.size e sz s.v l.length (l.flatMap f) := by
  obtain ⟨sa, sn, sc, sx⟩ := s
  obtain ⟨hl, h⟩ := h
  simp only at hl h
  have hlen : (l.flatMap f).length = l.length * sz := by
    clear h hl hS
    induction l with
    | nil => simp
    | cons x t ih => rw [List.flatMap_cons, List.length_append, ih (fun y hy => hf y (by simp [hy])), hf x (by simp), List.length_cons, Nat.succ_mul]; omega
  refine ⟨hlen, ?_⟩
  rcases h with ⟨rfl, rfl, rfl, rfl⟩ | ⟨g, sp, rfl, hle, hmx, hsz, rfl⟩
  · exact .inl ⟨rfl, hl⟩
  · have hA := hS.arr (g, e, l.flatMap f ++ sp) (by simp)
    have ho := hS.old (g, e, l.flatMap f ++ sp) (by simp)
    refine .inr ⟨g, sc, (l.flatMap f ++ sp).toArray, by rw [hl]; rfl, ho, hA, by omega, hmx, by simpa using hsz, ?_⟩
    rw [← hlen]; simp
theorem RowG.block {s : Sx α} {l : List α} {R : List Row} (h : RowG f sz e s l R) {g : Nat} (hg : s.v.ownBlock = some g) : ∃ p ∈ R, p.1 = g := by
  obtain ⟨sa, sn, sc, sx⟩ := s
  rcases h.2 with ⟨h1, -, -, -⟩ | ⟨g', sp, h1, -, -, -, rfl⟩
  · simp only at h1; subst h1; cases hg
  · simp only at h1; subst h1
    simp only [Sx.v] at hg
    cases hg
    exact ⟨_, List.mem_singleton.2 rfl, rfl⟩
/-- appended to: the row is another one -/
theorem Hs17.regrow {w0 w w' : World} {rows R : List Row} {K : World → Prop} {s : Sx α} {l l' : List α} {v' : Value} (hS : Hs17 w0 (rows ++ R) K w) (hR : RowG f sz e s l R) (hf : ∀ x ∈ l, (f x).length = sz) (hg : w.grownBy w' s.v.ownBlock)
    (hO : w'.ownsRow w0.heap.size e sz v' l'.length (l'.flatMap f)) (hov : v'.ownBlock = s.v.ownBlock ∨ v'.ownBlock = some w.heap.size) :
    ∃ s' R', v' = s'.v ∧ RowG f sz e s' l' R' ∧ Hs17 w0 (rows ++ R') K w' := by
  have hB : Below w0.heap.size w0 w' := hS.bel.trans (own_belG (row := none) (hR.own hf hS) hg (Nat.le_refl _) hS.bel.size)
  have hnd := hS.nd
  rw [List.map_append, List.nodup_append] at hnd
  have hne : ∀ p ∈ rows, s.v.ownBlock ≠ some p.1 := fun p hp q => by
    obtain ⟨r, hr, hq⟩ := hR.block q
    exact hnd.2.2 _ (List.mem_map.2 ⟨p, hp, rfl⟩) _ (List.mem_map.2 ⟨r, hr, rfl⟩) hq.symm
  have hne' : ∀ p ∈ rows, v'.ownBlock ≠ some p.1 := fun p hp q => by
    rcases hov with h | h
    · exact hne p hp (h.symm.trans q)
    · rw [q] at h
      have h3 := (hS.arr p (by simp [hp])).lt
      have h4 := Option.some.inj h
      omega
  have hA : ∀ p ∈ rows, Arr w' p.1 p.2.1 p.2.2 := fun p hp => by
    have h3 := hS.arr p (by simp [hp])
    exact (hg.block p.1 h3.lt (fun q => hne p hp q.symm)).trans h3
  have hk : ∀ R' : List Row, (∀ g, v'.ownBlock = some g → ∃ p ∈ R', p.1 = g) → (∀ p ∈ R', v'.ownBlock = some p.1) → ∀ w'', w'.heap.size ≤ w''.heap.size → (∀ k, k < w'.heap.size → (∀ p ∈ rows ++ R', p.1 ≠ k) → w''.heap[k]? = w'.heap[k]?) → K w'' := by
    intro R' hR1 hR2 w'' q1 q2
    refine hS.keep w'' (Nat.le_trans hg.size q1) (fun k hk hp => ?_)
    refine (q2 k (Nat.lt_of_lt_of_le hk hg.size) (fun p hp' => ?_)).trans (hg.block k hk (fun q => ?_))
    · rcases List.mem_append.1 hp' with h | h
      · exact hp p (by simp [h])
      · intro q
        have h5 := hR2 p h
        rw [q] at h5
        rcases hov with h6 | h6
        · obtain ⟨r, hr, hq⟩ := hR.block (h6.symm.trans h5)
          exact hp r (by simp [hr]) hq
        · rw [h5] at h6
          have := Option.some.inj h6
          omega
    · obtain ⟨r, hr, hq⟩ := hR.block q.symm
      exact hp r (by simp [hr]) hq
  rcases hO.2 with ⟨hv, h0⟩ | ⟨g, cap, cur, hv, hbg, hgg, hle, hmx, hsz, ht⟩
  · refine ⟨⟨none, 0, 0, l'⟩, [], hv, ⟨h0, .inl ⟨rfl, rfl, rfl, rfl⟩⟩, ?_⟩
    rw [List.append_nil]
    refine ⟨hnd.1, hA, fun p hp => hS.old p (by simp [hp]), hB, fun w'' q1 q2 => hk [] (fun g q => by rw [hv] at q; cases q) (fun p hp => by cases hp) w'' q1 (fun k hk hp => q2 k hk (fun p hp' => hp p (by simp [hp'])))⟩
  · subst hv
    have hcur : cur.toList = l'.flatMap f ++ cur.toList.drop (l'.length * sz) := by
      conv => lhs; rw [← List.take_append_drop (l'.length * sz) cur.toList]
      congr 1
    refine ⟨⟨some ⟨g, 0, none⟩, l'.length, cap, l'⟩, [(g, e, l'.flatMap f ++ cur.toList.drop (l'.length * sz))], rfl, ⟨rfl, .inr ⟨g, _, rfl, hle, hmx, by rw [← hcur]; simpa using hsz, rfl⟩⟩, ?_⟩
    refine ⟨?_, ?_, ?_, hB, fun w'' q1 q2 => hk [(g, e, l'.flatMap f ++ cur.toList.drop (l'.length * sz))] (fun g' q => ⟨_, List.mem_singleton.2 rfl, Option.some.inj q⟩) (fun p hp => by rw [List.mem_singleton.1 hp]; rfl) w'' q1 q2⟩
    · rw [List.map_append, List.nodup_append]
      refine ⟨hnd.1, by simp, fun a ha b hb q => ?_⟩
      obtain ⟨p, hp, rfl⟩ := List.mem_map.1 ha
      simp only [List.map_cons, List.map_nil, List.mem_singleton] at hb
      exact hne' p hp (by rw [q, hb]; rfl)
    · intro p hp
      rcases List.mem_append.1 hp with h | h
      · exact hA p h
      · rw [List.mem_singleton.1 h]
        show Arr w' g e _
        unfold Arr
        rw [← hcur]; simpa using hgg
    · intro p hp
      rcases List.mem_append.1 hp with h | h
      · exact hS.old p (by simp [h])
      · rw [List.mem_singleton.1 h]; exact hbg
end

section
variable {α : Type} {f : α → List Value} {sz : Nat} {e : TypeId}
theorem flatG_len : ∀ {l : List α}, (∀ y ∈ l, (f y).length = sz) → (l.flatMap f).length = l.length * sz
  | [], _ => by simp
  | x :: t, h => by rw [List.flatMap_cons, List.length_append, flatG_len (fun y hy => h y (by simp [hy])), h x (by simp), List.length_cons, Nat.succ_mul]; omega
theorem pt_flat {l : List α} (hf : ∀ y ∈ l, (f y).length = sz) {i : Nat} (hi : i < l.length) {x : α} (hx : (f x).length = sz) (sp : List Value) : Pt (l.flatMap f ++ sp) (i * sz) (f x) ((l.set i x).flatMap f ++ sp) := by
  have hd : l.drop i = l[i] :: l.drop (i + 1) := List.drop_eq_getElem_cons hi
  have e1 : l.flatMap f = (l.take i).flatMap f ++ (f l[i] ++ (l.drop (i + 1)).flatMap f) := by
    conv => lhs; rw [← List.take_append_drop i l, List.flatMap_append, hd, List.flatMap_cons]
  have e2 : (l.set i x).flatMap f = (l.take i).flatMap f ++ (f x ++ (l.drop (i + 1)).flatMap f) := by
    rw [List.set_eq_take_append_cons_drop, if_pos hi, List.flatMap_append, List.flatMap_cons]
  refine ⟨(l.take i).flatMap f, f l[i], (l.drop (i + 1)).flatMap f ++ sp, ?_, ?_, ?_, ?_⟩
  · rw [e1]; simp [List.append_assoc]
  · rw [e2]; simp [List.append_assoc]
  · rw [flatG_len (fun y hy => hf y (List.mem_of_mem_take hy)), List.length_take]; congr 1; omega
  · rw [hf _ (List.getElem_mem hi), hx]
/-- one of them written to -/
theorem RowG.put {s : Sx α} {l : List α} {R : List Row} (h : RowG f sz e s l R) (hf : ∀ y ∈ l, (f y).length = sz) {i : Nat} (hi : i < s.n) {x : α} (hx : (f x).length = sz) :
    ∃ g c c', s.a = some ⟨g, 0, none⟩ ∧ R = [(g, e, c)] ∧ Pt c (i * sz) (f x) c' ∧ RowG f sz e s (l.set i x) [(g, e, c')] := by
  obtain ⟨hl, h⟩ := h
  rcases h with ⟨-, h0, -, -⟩ | ⟨g, sp, h1, h2, h3, h4, rfl⟩
  · omega
  · refine ⟨g, _, _, h1, rfl, pt_flat hf (by omega) hx sp, by rw [List.length_set]; exact hl, .inr ⟨g, sp, h1, h2, h3, ?_, rfl⟩⟩
    rw [← h4, List.length_append, List.length_append, flatG_len hf, flatG_len (sz := sz), List.length_set]
    intro y hy
    rcases List.mem_or_eq_of_mem_set hy with h | rfl
    · exact hf y h
    · exact hx
end

section
variable {α : Type} {f : α → List Value} {sz : Nat} {w w' : World} {s : Sx α}
theorem Sx.Ok.old (h : s.Ok f sz w) (ho : Old w w') : s.Ok f sz w' := h.keep ho.size (fun _ x _ hx => ho.block _ hx)
theorem Hs17.ownK {w0 w w' : World} {rows : List Row} {K : World → Prop} {e : TypeId} {v : Value} {xs : List α} (hS : Hs17 w0 rows K w) (hb : Below w.heap.size w w') (hO : w'.ownsRow w.heap.size e sz v xs.length (xs.flatMap f)) : Hs17 w0 rows (fun w => K w ∧ w.ownsRow w0.heap.size e sz v xs.length (xs.flatMap f)) w' := by
  refine (hS.later hb).also (fun w'' h1 h2 => ?_)
  refine own_monoG (own_blk hO (fun g hg => h2 g (own_lt hO hg).2 (fun p hp e => ?_))) hS.bel.size
  have h3 := (hS.arr p hp).lt
  have h4 := (own_lt hO hg).1
  omega
end
/-- a row written over in whatever way -/
theorem Hs17.chg {w0 w w' : World} {rows : List Row} {K : World → Prop} (h : Hs17 w0 rows K w) (i : Nat) {g : Nat} {t : TypeId} {c c' : List Value} (hi : rows[i]? = some (g, t, c)) (hA' : Arr w' g t c') (hb : But g w w') : Hs17 w0 (rows.set i (g, t, c')) K w' := by
  have hA := h.get i hi
  have hg0 : w0.heap.size ≤ g := h.old _ (List.mem_of_getElem? hi)
  obtain ⟨hil, hie⟩ := List.getElem?_eq_some_iff.1 hi
  have hm : (rows.set i (g, t, c')).map (·.1) = rows.map (·.1) := by
    rw [List.map_set]
    apply List.ext_getElem?
    intro j
    rw [List.getElem?_set]
    split
    · rename_i e; subst e
      rw [if_pos (by simpa using hil), List.getElem?_map, hi]; rfl
    · rfl
  refine ⟨by rw [hm]; exact h.nd, fun q hq => ?_, fun q hq => ?_, h.bel.trans (hb.below h.bel.size hg0), fun w'' h1 h2 => ?_⟩
  · obtain ⟨j, hj⟩ := List.mem_iff_getElem?.1 hq
    rw [List.getElem?_set] at hj
    split at hj
    · rename_i e; subst e
      simp only [hil, if_true, Option.some.injEq] at hj
      subst hj; exact hA'
    · rename_i hne
      have hqa := h.arr q (List.mem_of_getElem? hj)
      have hgq : q.1 ≠ g := by
        intro e
        have hnd := h.nd
        have h1 : (rows.map (·.1))[i]? = some g := by rw [List.getElem?_map, hi]; rfl
        have h2 : (rows.map (·.1))[j]? = some g := by rw [List.getElem?_map, hj]; simp [e]
        exact hne ((List.getElem?_inj (by simpa using hil) hnd).1 (h1.trans h2.symm))
      exact hb.arr hqa hgq
  · have : q.1 ∈ (rows.set i (g, t, c')).map (·.1) := List.mem_map.2 ⟨q, hq, rfl⟩
    rw [hm] at this
    obtain ⟨q', hq', e⟩ := List.mem_map.1 this
    rw [← e]; exact h.old q' hq'
  · refine h.keep w'' (Nat.le_trans hb.size h1) (fun k hk hp' => ?_)
    have hgk : g ≠ k := hp' _ (List.mem_of_getElem? hi)
    refine (h2 k (Nat.lt_of_lt_of_le hk hb.size) (fun q hq => ?_)).trans (hb.block k hk (fun e => hgk e.symm))
    have : q.1 ∈ (rows.set i (g, t, c')).map (·.1) := List.mem_map.2 ⟨q, hq, rfl⟩
    rw [hm] at this
    obtain ⟨q', hq', e⟩ := List.mem_map.1 this
    rw [← e]; exact hp' q' hq'
/-- a block that a call made, among the rows -/
theorem Hs17.newRow {w0 w w' : World} {rows : List Row} {K : World → Prop} {g : Nat} {t : TypeId} {c : List Value} (hS : Hs17 w0 rows K w) (hb : Below w.heap.size w w') (hg : w.heap.size ≤ g) (hA : Arr w' g t c) : Hs17 w0 ((g, t, c) :: rows) K w' := by
  have h' := hS.later hb
  have hgs : ∀ p ∈ rows, p.1 ≠ g := fun p hp e => by have h3 := (hS.arr p hp).lt; omega
  refine ⟨?_, ?_, ?_, h'.bel, ?_⟩
  · rw [List.map_cons, List.nodup_cons]
    refine ⟨fun h => ?_, h'.nd⟩
    obtain ⟨p, hp, e⟩ := List.mem_map.1 h
    exact hgs p hp e
  · intro p hp
    rcases List.mem_cons.1 hp with rfl | hp
    · exact hA
    · exact h'.arr p hp
  · intro p hp
    rcases List.mem_cons.1 hp with rfl | hp
    · exact Nat.le_trans hS.bel.size hg
    · exact h'.old p hp
  · intro w'' q1 q2
    refine hS.keep w'' (Nat.le_trans hb.size q1) (fun k hk hp => ?_)
    refine (q2 k (Nat.lt_of_lt_of_le hk hb.size) (fun p hp' => ?_)).trans (hb.block k hk)
    rcases List.mem_cons.1 hp' with rfl | hp'
    · show g ≠ k; omega
    · exact hp p hp'
/-- a row that is only read from now on -/
theorem Hs17.keepRow {w0 w : World} {rows : List Row} {K : World → Prop} {g : Nat} {t : TypeId} {c : List Value} (hS : Hs17 w0 ((g, t, c) :: rows) K w) : Hs17 w0 rows (fun w => K w ∧ Arr w g t c) w := by
  have hnd := hS.nd
  rw [List.map_cons, List.nodup_cons] at hnd
  have hA := hS.get 0 rfl
  refine ⟨hnd.2, fun p hp => hS.arr p (List.mem_cons_of_mem _ hp), fun p hp => hS.old p (List.mem_cons_of_mem _ hp), hS.bel, fun w'' q1 q2 => ⟨hS.keep w'' q1 (fun k hk hp => q2 k hk (fun p hp' => hp p (List.mem_cons_of_mem _ hp'))), ?_⟩⟩
  refine (q2 g hA.lt (fun p hp e => hnd.1 (List.mem_map.2 ⟨p, hp, e⟩))).trans hA
/-- a slice of one element -/
theorem op_bs1G {P : Program} {o : Oper} {a : Act} {w w0 : World} {k : Act → World → Prop} {Q : Exit → Act → World → Prop} {rows : List Row} {K : World → Prop} (T e : TypeId) (x : Operand) (ho : o.op = .buildSlice T 1 #[(0, x)]) {sz bytes : Nat} {zv : Value} (hu : P.underlying T = some (.slice e)) (hi : (P.info? e).map (fun i => (i.zero, i.size, i.bytes)) = some (some zv, sz, bytes)) (v : Value) (c : List Value) (hx : a.eval x = v) (hv : v.cells = c.toArray) (hc : c.length = sz) (h0 : 0 < sz) (h1 : sz ≤ 16777216) (hS : Hs17 w0 rows K w)
    (h : ∀ g w', Hs17 w0 ((g, e, c) :: rows) K w' → k (a.put o.dst (.slice (some ⟨g, 0, none⟩) 1 1)) w') : o.wp P a w k Q := by
  obtain ⟨i, hii, hiz, his, hib⟩ : ∃ i, P.info? e = some i ∧ i.zero = some zv ∧ i.size = sz ∧ i.bytes = bytes := by
    cases hq : P.info? e with
    | none => rw [hq] at hi; simp at hi
    | some i =>
      rw [hq] at hi
      simp only [Option.map_some, Option.some.injEq, Prod.mk.injEq] at hi
      exact ⟨i, rfl, hi.1, hi.2.1, hi.2.2⟩
  have hr := run_bsG (P := P) w T e i _ [v] sz hu hii his hiz (fun u hu => by simp at hu; subst hu; rw [hv]; simp [hc]) (by simpa using h0) (by simpa using h1)
  have hcc : ([v].flatMap cellsL) = c := by simp [cellsL, hv]
  rw [hcc] at hr
  have hr' : (Instr.buildSlice T 1 ((#[((0 : Nat), x)]).map fun p => (p.1, a.eval p.2))).run P w = .ok (.slice (some ⟨w.heap.size, 0, none⟩) 1 1) (w.alloc (.cells c.toArray e)) := by
    simp only [List.map_toArray, List.map_cons, List.map_nil, hx]
    exact hr
  unfold Oper.wp
  simp [execOp, ho, Result.andThen]
  simp at hr'
  rw [hr']
  exact h _ _ (hS.alloc e c)
theorem sx_one {α : Type} {f : α → List Value} {sz : Nat} {w w0 : World} {rows : List Row} {K : World → Prop} {g : Nat} {t : TypeId} {x : α} (hS : Hs17 w0 ((g, t, f x) :: rows) K w) : Sx.Ok f sz w ⟨some ⟨g, 0, none⟩, 1, 1, [x]⟩ := by
  have hA := hS.get 0 rfl
  refine ⟨rfl, Nat.le_refl _, by show 1 ≤ maxLen; unfold maxLen; omega, (fun h => by cases h), fun _ => ⟨g, 0, rfl, hA.lt, fun i y hi => ?_⟩⟩
  cases i with
  | zero => simp at hi; subst hi; simpa using (At.self _).range hA
  | succ i => simp at hi
end Go.Proofs.YtdcaojiiaocnaaaGreatDoor
