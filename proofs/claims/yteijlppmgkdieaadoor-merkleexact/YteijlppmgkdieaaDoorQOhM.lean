import Derived.Test.YteijlppmgkdieaaDoorQBsM
import Derived.Test.YteijlppmgkdieaaDoorQRvW
set_option linter.unusedVariables false
namespace Go.Proofs.YteijlppmgkdieaaDoor
open Go.RowKit

theorem Tryd.infoH16 : (Tryd.prog.info? 28).map (fun i => (i.zero, i.size, i.bytes)) = some (some (.agg (U8 (List.replicate 32 0)).toArray), 32, 32) := by kernel_rfl
theorem infoH : ∃ i, Tryd.prog.info? 28 = some i ∧ i.zero = some (.agg (U8 (List.replicate 32 0)).toArray) ∧ i.size = 32 ∧ i.bytes = 32 := by
  have h := Tryd.infoH16
  cases hi : Tryd.prog.info? 28 with
  | none => rw [hi] at h; simp at h
  | some i =>
    rw [hi] at h
    simp only [Option.map_some, Option.some.injEq, Prod.mk.injEq] at h
    exact ⟨i, rfl, h.1, h.2.1, h.2.2⟩
/-- hashes laid one behind another -/
def flH (ls : List (List Int)) : List Value := ls.flatMap U8
theorem flH_len : ∀ {ls : List (List Int)}, (∀ l ∈ ls, Hs l) → (flH ls).length = ls.length * 32
  | [], _ => rfl
  | a :: t, h => by
    rw [flH, List.flatMap_cons, List.length_append, U8_length, (h a (by simp)).len]
    have := flH_len (ls := t) (fun l hl => h l (by simp [hl]))
    rw [flH] at this
    rw [this, List.length_cons]; omega
theorem flH_app (a b : List (List Int)) : flH (a ++ b) = flH a ++ flH b := by simp [flH]
theorem flH_one (l : List Int) : flH [l] = U8 l := by simp [flH]
theorem flH_at : ∀ {ls : List (List Int)} {i : Nat} {l : List Int}, (∀ l ∈ ls, Hs l) → ls[i]? = some l → ∀ (j : Nat) (v : Value), (U8 l)[j]? = some v → (flH ls)[i * 32 + j]? = some v
  | [], i, l, _, h, j, v, hv => by simp at h
  | a :: t, 0, l, hh, h, j, v, hv => by
    simp at h; subst h
    have hj := (List.getElem?_eq_some_iff.1 hv).1
    rw [flH, List.flatMap_cons, List.getElem?_append_left (by omega)]
    simpa using hv
  | a :: t, i + 1, l, hh, h, j, v, hv => by
    have ha := (hh a (by simp)).len
    rw [flH, List.flatMap_cons, List.getElem?_append_right (by rw [U8_length, ha]; omega), U8_length, ha]
    have := flH_at (ls := t) (i := i) (fun l hl => hh l (by simp [hl])) (by simpa using h) j v hv
    rw [flH] at this
    rw [show (i + 1) * 32 + j - 32 = i * 32 + j by omega]; exact this
/-- a list of hashes of one's own -/
structure HOwn (w : World) (base : Nat) (v : Value) (ls : List (List Int)) : Prop where
  own : w.ownsRow base 28 32 v ls.length (flH ls)
  hs : ∀ l ∈ ls, Hs l
theorem HOwn.later {w w' : World} {base : Nat} {v : Value} {ls : List (List Int)} (h : HOwn w base v ls) (hb : Below w.heap.size w w') : HOwn w' base v ls := ⟨own_laterG h.own hb, h.hs⟩
theorem HOwn.mono {w : World} {base base' : Nat} {v : Value} {ls : List (List Int)} (h : HOwn w base v ls) (hb : base' ≤ base) : HOwn w base' v ls := ⟨own_monoG h.own hb, h.hs⟩
theorem HOwn.nil (w : World) (base : Nat) : HOwn w base (.slice none 0 0) [] := ⟨⟨rfl, .inl ⟨rfl, rfl⟩⟩, fun l h => by cases h⟩
/-- it is a slice of hashes -/
theorem HOwn.hl {w : World} {base : Nat} {v : Value} {ls : List (List Int)} (h : HOwn w base v ls) : ∃ s : Hl, v = s.v ∧ s.ls = ls ∧ s.n = ls.length ∧ s.Ok w ∧ (∀ x, s.a = some x → base ≤ x.block ∧ x.block < w.heap.size) := by
  obtain ⟨h1, h2⟩ := h.own
  rcases h2 with ⟨rfl, h0⟩ | ⟨g, cap, cur, rfl, hb, hg, hle, hmx, hsz, ht⟩
  · have : ls = [] := List.length_eq_zero_iff.1 h0
    subst this
    exact ⟨⟨none, 0, 0, []⟩, rfl, rfl, rfl, ⟨rfl, Nat.le_refl _, Nat.zero_le _, fun _ => ⟨rfl, rfl⟩, (fun l hl => by cases hl), fun h => absurd h (by simp)⟩, fun x hx => by cases hx⟩
  · have hlt : g < w.heap.size := by
      by_cases hlt : g < w.heap.size
      · exact hlt
      · rw [Array.getElem?_eq_none (by omega)] at hg; cases hg
    refine ⟨⟨some ⟨g, 0, none⟩, ls.length, cap, ls⟩, rfl, rfl, rfl, ⟨rfl, hle, hmx, (fun e => by cases e), h.hs, fun _ => ⟨g, 0, rfl, hlt, fun i l hi j v hv => ?_⟩⟩, fun x hx => by cases hx; exact ⟨hb, hlt⟩⟩
    rw [Nat.zero_add]
    have hc := flH_at h.hs hi j v hv
    rw [← ht] at hc
    rw [cell_of_row w g (i * 32 + j) _ _ _ hg]
    rw [List.getElem?_take] at hc
    split at hc
    · simpa using hc
    · cases hc
/-- a slice of one hash -/
theorem wpList_bs1 {ops : Array Oper} {rest : List Oper} {o : Oper} {a : Act} {w : World} {Q : Exit → Act → World → Prop} (hgd : o.guard = none) (x : Operand) (ho : o.op = .buildSlice 32 1 #[(0, x)]) (l : List Int) (hl : Hs l) (hx : a.eval x = hV l)
    (h : ∀ w', Arr w' w.heap.size 28 (U8 l) → Below w.heap.size w w' → wpList Tryd.prog ops Q rest (a.put o.dst (.slice (some ⟨w.heap.size, 0, none⟩) 1 1)) w') : wpList Tryd.prog ops Q (o :: rest) a w := by
  obtain ⟨i, hi, hz, hs, -⟩ := infoH
  have hr := run_bsG (P := Tryd.prog) w 32 28 i _ [hV l] 32 Tryd.underlying32 hi hs hz (fun v hv => by simp at hv; subst hv; simp [hV, Value.cells, hl.len]) (by simp) (by simp)
  have hc : ([hV l].flatMap cellsL) = U8 l := by simp [cellsL, hV, Value.cells]
  rw [hc] at hr
  obtain ⟨W, hW, hA, hb, -⟩ := arr1 w 28 (U8 l)
  rw [← hW] at hr
  refine wpList_bsG hgd 32 1 _ ho _ W ?_ (h W hA hb)
  simp [hx]
  exact hr
/-- a list of one hash of one's own -/
theorem HOwn.one {w : World} {g base : Nat} {l : List Int} (hA : Arr w g 28 (U8 l)) (hl : Hs l) (hg : base ≤ g) : HOwn w base (.slice (some ⟨g, 0, none⟩) 1 1) [l] :=
  ⟨⟨by simp [flH, hl.len], .inr ⟨g, 1, _, rfl, hg, hA, Nat.le_refl _, by unfold maxLen; omega, by simp [hl.len], by simp [flH_one]; exact List.take_of_length_le (by rw [U8_length, hl.len]; omega)⟩⟩, fun x hx => by simp at hx; subst hx; exact hl⟩
/-- one more hash -/
theorem wpList_push1 {ops : Array Oper} {rest : List Oper} {o : Oper} {a : Act} {w : World} {Q : Exit → Act → World → Prop} (hgd : o.guard = none) (s x : Operand)
    (ho : o.op = .call { callee := .builtin .append, args := #[s, x], argTypes := #[32, 32] }) (base : Nat) (v : Value) (ls : List (List Int)) (l : List Int) (g c : Nat) (hown : HOwn w base v ls) (hl : Hs l) (hA : Arr w g 28 (U8 l)) (hs : a.eval s = v) (hx : a.eval x = .slice (some ⟨g, 0, none⟩) 1 c)
    (hn : ls.length ≤ 1000000) (hbase : base ≤ w.heap.size) (h : ∀ v' w', HOwn w' base v' (ls ++ [l]) → w.grownBy w' v.ownBlock → wpList Tryd.prog ops Q rest (a.put o.dst v') w') :
    wpList Tryd.prog ops Q (o :: rest) a w := by
  obtain ⟨i, hi, hz, hsz, hby⟩ := infoH
  refine wpList_appG hgd s x 32 ho base 28 i _ 32 32 Tryd.underlying32 hi hz hsz hby (by simp [Value.cells]) (by omega) v ls.length (flH ls) hs hown.own ⟨g, 0, none⟩ 1 c (U8 l) hx (by simp [hl.len]) (fun j u hu => by rw [addr_add, Nat.zero_add, hA.cell]; exact hu) (U8_one l) (by unfold maxLen; omega) (by omega) hbase (fun v' w' h1 h2 => h v' w' ⟨?_, fun y hy => ?_⟩ h2)
  · rw [flH_app, flH_one, List.length_append]; exact h1
  · rcases List.mem_append.1 hy with hy | hy
    · exact hown.hs y hy
    · simp at hy; subst hy; exact hl
theorem HOwn.bel {w w' : World} {base B : Nat} {v : Value} {ls : List (List Int)} (h : HOwn w base v ls) (hg : w.grownBy w' v.ownBlock) (hB : B ≤ base) (hs : B ≤ w.heap.size) : Below B w w' := own_belG (row := none) h.own hg hB hs
end Go.Proofs.YteijlppmgkdieaaDoor
