import Derived.Test.YtaidncibndcbfaaDoorQPaiM
set_option linter.unusedVariables false
namespace Go.Proofs.YtaidncibndcbfaaDoor
open Go.RowKit

theorem fl_len {m : Nat} : ∀ {zs : List (List Int)}, (∀ z ∈ zs, z.length = m) → (flH zs).length = zs.length * m
  | [], _ => by simp [flH]
  | a :: t, h => by
    rw [flH, List.flatMap_cons, List.length_append, U8_length, h a (by simp)]
    have := fl_len (zs := t) (fun l hl => h l (by simp [hl]))
    rw [flH] at this
    rw [this, List.length_cons, Nat.add_mul]; omega
theorem fl_at {m : Nat} : ∀ {zs : List (List Int)} {i : Nat} {z : List Int}, (∀ z ∈ zs, z.length = m) → zs[i]? = some z → ∀ (j : Nat) (v : Value), (U8 z)[j]? = some v → (flH zs)[i * m + j]? = some v
  | [], i, l, _, h, j, v, hv => by simp at h
  | a :: t, 0, l, hh, h, j, v, hv => by
    simp at h; subst h
    have hj := (List.getElem?_eq_some_iff.1 hv).1
    rw [flH, List.flatMap_cons, List.getElem?_append_left (by omega)]
    simpa using hv
  | a :: t, i + 1, l, hh, h, j, v, hv => by
    have ha := hh a (by simp)
    rw [flH, List.flatMap_cons, List.getElem?_append_right (by rw [U8_length, ha, Nat.add_mul]; omega), U8_length, ha]
    have := fl_at (zs := t) (i := i) (fun l hl => hh l (by simp [hl])) (by simpa using h) j v hv
    rw [flH] at this
    rw [show (i + 1) * m + j - m = i * m + j by rw [Nat.add_mul]; omega]; exact this
/-- a list of pairs of one's own -/
structure POwn (w : World) (base : Nat) (v : Value) (zs : List (List Int)) : Prop where
  own : w.ownsRow base 44 64 v zs.length (flH zs)
  len : ∀ z ∈ zs, z.length = 64
theorem POwn.later {w w' : World} {base : Nat} {v : Value} {zs : List (List Int)} (h : POwn w base v zs) (hb : Below w.heap.size w w') : POwn w' base v zs := ⟨own_laterG h.own hb, h.len⟩
theorem POwn.nil (w : World) (base : Nat) : POwn w base (.slice none 0 0) [] := ⟨⟨rfl, .inl ⟨rfl, rfl⟩⟩, fun l h => by cases h⟩
/-- it is a slice, and each pair lies in it -/
theorem POwn.sl {w : World} {base : Nat} {v : Value} {zs : List (List Int)} (h : POwn w base v zs) : ∃ a c, v = .slice a zs.length c ∧ zs.length ≤ c ∧ c ≤ maxLen ∧ (0 < zs.length → ∃ g, a = some ⟨g, 0, none⟩ ∧ base ≤ g ∧ g < w.heap.size ∧ ∀ i z, zs[i]? = some z → w.rangeAt g (i * 64) (U8 z)) := by
  obtain ⟨h1, h2⟩ := h.own
  rcases h2 with ⟨rfl, h0⟩ | ⟨g, cap, cur, rfl, hb, hg, hle, hmx, hsz, ht⟩
  · rw [h0]; exact ⟨none, 0, rfl, Nat.le_refl _, Nat.zero_le _, fun h9 => absurd h9 (by omega)⟩
  · have hlt : g < w.heap.size := by
      by_cases hlt : g < w.heap.size
      · exact hlt
      · rw [Array.getElem?_eq_none (by omega)] at hg; cases hg
    refine ⟨some ⟨g, 0, none⟩, cap, rfl, hle, hmx, fun _ => ⟨g, rfl, hb, hlt, fun i z hi j v hv => ?_⟩⟩
    have hc := fl_at h.len hi j v hv
    rw [← ht] at hc
    rw [cell_of_row w g (i * 64 + j) _ _ _ hg]
    rw [List.getElem?_take] at hc
    split at hc
    · simpa using hc
    · cases hc
/-- a slice of one pair -/
theorem wpList_bsP {ops : Array Oper} {rest : List Oper} {o : Oper} {a : Act} {w : World} {Q : Exit → Act → World → Prop} (hgd : o.guard = none) (x : Operand) (ho : o.op = .buildSlice 39 1 #[(0, x)]) (z : List Int) (hz : z.length = 64) (hx : a.eval x = hV z)
    (h : ∀ w', Arr w' w.heap.size 44 (U8 z) → Below w.heap.size w w' → wpList Tryd.prog ops Q rest (a.put o.dst (.slice (some ⟨w.heap.size, 0, none⟩) 1 1)) w') : wpList Tryd.prog ops Q (o :: rest) a w := by
  obtain ⟨i, hi, hzz, hs, -⟩ := infoP
  have hr := run_bsG (P := Tryd.prog) w 39 44 i _ [hV z] 64 Tryd.underlying39 hi hs hzz (fun v hv => by simp at hv; subst hv; simp [hV, Value.cells, hz]) (by simp) (by simp)
  have hc : ([hV z].flatMap cellsL) = U8 z := by simp [cellsL, hV, Value.cells]
  rw [hc] at hr
  obtain ⟨W, hW, hA, hb, -⟩ := arr1 w 44 (U8 z)
  rw [← hW] at hr
  refine wpList_bsG hgd 39 1 _ ho _ W ?_ (h W hA hb)
  simp [hx]
  exact hr
/-- one more pair -/
theorem wpList_pushP {ops : Array Oper} {rest : List Oper} {o : Oper} {a : Act} {w : World} {Q : Exit → Act → World → Prop} (hgd : o.guard = none) (s x : Operand)
    (ho : o.op = .call { callee := .builtin .append, args := #[s, x], argTypes := #[39, 39] }) (base : Nat) (v : Value) (zs : List (List Int)) (z : List Int) (g c : Nat) (hown : POwn w base v zs) (hz : z.length = 64) (hA : Arr w g 44 (U8 z)) (hs : a.eval s = v) (hx : a.eval x = .slice (some ⟨g, 0, none⟩) 1 c)
    (hn : zs.length ≤ 1000000) (hbase : base ≤ w.heap.size) (h : ∀ v' w', POwn w' base v' (zs ++ [z]) → Below base w w' → wpList Tryd.prog ops Q rest (a.put o.dst v') w') :
    wpList Tryd.prog ops Q (o :: rest) a w := by
  obtain ⟨i, hi, hzz, hsz, hby⟩ := infoP
  refine wpList_appG hgd s x 39 ho base 44 i _ 64 64 Tryd.underlying39 hi hzz hsz hby (by simp [Value.cells, zeroP_len]) (by omega) v zs.length (flH zs) hs hown.own ⟨g, 0, none⟩ 1 c (U8 z) hx (by simp [hz]) (fun j u hu => by rw [addr_add, Nat.zero_add, hA.cell]; exact hu) (U8_one z) (by unfold maxLen; omega) (by omega) hbase (fun v' w' h1 h2 => h v' w' ⟨?_, fun y hy => ?_⟩ (own_belG (row := none) hown.own h2 (Nat.le_refl _) hbase))
  · rw [flH_app, flH_one, List.length_append]; exact h1
  · rcases List.mem_append.1 hy with hy | hy
    · exact hown.len y hy
    · simp at hy; subst hy; exact hz
theorem Tryd.infoBo : (Tryd.prog.info? 4).map (fun i => (i.zero, i.size, i.bytes)) = some (some (.bool false), 1, 1) := by kernel_rfl
def bL (ss : List Bool) : List Value := ss.map Value.bool
/-- one more side -/
theorem wpList_pushB {ops : Array Oper} {rest : List Oper} {o : Oper} {a : Act} {w : World} {Q : Exit → Act → World → Prop} (hgd : o.guard = none) (s x : Operand)
    (ho : o.op = .call { callee := .builtin .append, args := #[s, x], argTypes := #[64, 64] }) (base : Nat) (v : Value) (ss : List Bool) (q : Bool) (hown : w.ownsRow base 4 1 v ss.length (bL ss)) (hs : a.eval s = v) (hx : a.eval x = .slice (some ⟨w.heap.size, 0, none⟩) 1 1)
    (w1 : World) (hw1 : w1 = w.alloc (.cells #[.bool q] 4)) (hn : ss.length ≤ 1000000) (hbase : base ≤ w.heap.size) (h : ∀ v' w', w'.ownsRow base 4 1 v' (ss ++ [q]).length (bL (ss ++ [q])) → Below base w w' → wpList Tryd.prog ops Q rest (a.put o.dst v') w') :
    wpList Tryd.prog ops Q (o :: rest) a w1 := by
  obtain ⟨i, hi, hz, hsz, hby⟩ : ∃ i, Tryd.prog.info? 4 = some i ∧ i.zero = some (.bool false) ∧ i.size = 1 ∧ i.bytes = 1 := by
    have h := Tryd.infoBo
    cases hi : Tryd.prog.info? 4 with
    | none => rw [hi] at h; simp at h
    | some i =>
      rw [hi] at h
      simp only [Option.map_some, Option.some.injEq, Prod.mk.injEq] at h
      exact ⟨i, rfl, h.1, h.2.1, h.2.2⟩
  obtain ⟨W, hW, hA, hb, -⟩ := arr1 w 4 [.bool q]
  have e : w1 = W := hw1.trans hW.symm
  subst e
  have hown1 := own_laterG hown hb
  refine wpList_appG hgd s x 64 ho base 4 i _ 1 1 Tryd.underlying64 hi hz hsz hby rfl (by omega) v ss.length (bL ss) hs hown1 ⟨w.heap.size, 0, none⟩ 1 1 [.bool q] hx rfl (fun j u hu => by rw [addr_add, Nat.zero_add, hA.cell]; exact hu) (fun u hu => by simp at hu; subst hu; rfl) (by unfold maxLen; omega) (by omega) (Nat.le_trans hbase hb.size) (fun v' w' h1 h2 => h v' w' ?_ (hb.mono hbase |>.trans (own_belG (row := none) hown1 h2 (Nat.le_refl _) (Nat.le_trans hbase hb.size))))
  rw [List.length_append]
  simpa [bL] using h1
end Go.Proofs.YtaidncibndcbfaaDoor
