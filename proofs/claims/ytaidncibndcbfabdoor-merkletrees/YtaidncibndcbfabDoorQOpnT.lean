import Derived.Test.YtaidncibndcbfabDoorQOpenG
import Derived.Test.YtaidncibndcbfabDoorQFulW
import Derived.Test.YtaidncibndcbfabDoorQRrW
import Derived.Deep.Slices
set_option linter.unusedVariables false
namespace Go.Proofs.YtaidncibndcbfabDoor
open Go.ChangeShapes Go.WideShapes Go.ChangeAt Go.WideMaps Go.WideElems Go.RowKit

/-- steps of two trees, wherever they lie -/
structure Tl where
  a : Option Addr
  n : Nat
  c : Nat
  ts : List (List Int × Bool)
def Tl.v (s : Tl) : Value := .slice s.a s.n s.c
structure Tl.Ok (w : World) (s : Tl) : Prop where
  len : s.ts.length = s.n
  le : s.n ≤ s.c
  mx : s.c ≤ maxLen
  hs : ∀ t ∈ s.ts, Hs t.1
  lies : 0 < s.n → ∃ b off, s.a = some ⟨b, off, none⟩ ∧ b < w.heap.size ∧ ∀ i t, s.ts[i]? = some t → w.rangeAt b (off + i * 33) (U8 t.1) ∧ w.cell? ⟨b, off + i * 33 + 32, none⟩ = some (.bool t.2)
theorem Tl.Ok.later {w w' : World} {s : Tl} (h : s.Ok w) (hb : Below w.heap.size w w') : s.Ok w' := by
  refine ⟨h.len, h.le, h.mx, h.hs, fun h0 => ?_⟩
  obtain ⟨b, off, e, hlt, hr⟩ := h.lies h0
  refine ⟨b, off, e, Nat.lt_of_lt_of_le hlt hb.size, fun i t hi => ⟨rangeAt_later (hr i t hi).1 hb hlt, ?_⟩⟩
  exact (hb.cell (p := ⟨b, _, none⟩) hlt).trans (hr i t hi).2

section
variable {H : Type} {enc : TypeId × Value → H} {w : World} {held : Bool} {m : Nat}
theorem open_tstep {cs : List Value} {y : DataW H × List MemPlace} (h : DataW.trod enc Tryd.prog w 0 (fun _ => true) held m 33 cs = some y) : ∃ (l : List Int) (q : Bool), cs = U8 l ++ [.bool q] ∧ Hs l := by
  obtain ⟨xs, n, -, hxx, hcl, hl, hx⟩ := DataW.trod_struct Tryd.underlying33 h
  have hl' : xs.length = 2 := hl
  have hcl' : cs.length = 33 := hcl.trans (by kernel_rfl)
  have one : ∀ i (hi : i < xs.length), xs[i]? = some xs[i] := fun i hi => by simp
  have kh : Tryd.prog.cellsOf 27 = 32 := by kernel_rfl
  have kb : Tryd.prog.cellsOf 4 = 1 := by kernel_rfl
  have f0 : DataW.trod enc Tryd.prog w 0 (fun _ => true) held n 27 ((cs.drop 0).take 32) = some xs[0] := by rw [← one 0 (by omega), ← hx 0 _ rfl]; simp [kh]
  have f1 : DataW.trod enc Tryd.prog w 0 (fun _ => true) held n 4 ((cs.drop 32).take 1) = some xs[1] := by rw [← one 1 (by omega), ← hx 1 _ rfl]; simp [kb]
  obtain ⟨l, hlen, e0, -, hwf⟩ := trod_ints_array Tryd.underlying27 Tryd.underlying5 (by kernel_rfl) (by kernel_rfl) f0
  obtain ⟨q, e1, -⟩ := DataW.trod_bool Tryd.underlying4 f1
  refine ⟨l, q, ?_, ⟨hlen, fun z hz => by have := bounds_u8 (hwf z hz); omega⟩⟩
  rw [List.drop_zero] at e0
  have e2 : cs.drop 32 = [.bool q] := by
    rw [← e1]
    exact (List.take_of_length_le (by rw [List.length_drop]; omega)).symm
  rw [← List.take_append_drop 32 cs, e0, e2]; rfl
theorem open_tl {v : Value} {y : DataW H × List MemPlace} (h : DataW.trod enc Tryd.prog w 0 (fun _ => true) held m 22 [v] = some y) :
    ∃ s : Tl, v = s.v ∧ s.Ok w := by
  rcases Deep.open_slice Tryd.underlying22 h with ⟨hcs, _⟩ | ⟨a, len, cap, q, n, D, Pl, hcs, _, hl, hm, hq, hy, hx⟩
  · simp at hcs
    exact ⟨⟨none, 0, 0, []⟩, hcs, ⟨rfl, Nat.le_refl _, Nat.zero_le _, (fun l hl => by cases hl), fun h => absurd h (by simp)⟩⟩
  · simp at hcs
    simp only [if_true] at hq
    subst hq
    have kc : Tryd.prog.cellsOf 33 = 33 := by kernel_rfl
    rw [kc] at hx
    have hS : ∀ i, i < len → ∃ t : List Int × Bool, (∀ j, j < 33 → w.cell? ((a.add (i * 33)).add j) = (U8 t.1 ++ [.bool t.2])[j]?) ∧ Hs t.1 := by
      intro i hi
      obtain ⟨cs', h1, h2⟩ := hx i (by omega)
      obtain ⟨l, q2, rfl, hh⟩ := open_tstep h2
      exact ⟨(l, q2), (World.cells?_some h1).2.2, hh⟩
    obtain ⟨S, hS⟩ := Go.Deep.choose_lt hS
    refine ⟨⟨some a, len, q, (List.range len).map S⟩, (by rw [Tl.v]; simpa using hcs), ⟨by simp, hl, hm, fun l hl' => ?_, fun hpos => ?_⟩⟩
    · simp at hl'
      obtain ⟨i, hi, rfl⟩ := hl'
      exact (hS i hi).2
    · simp only at hpos
      have h0 := (hS 0 hpos).1 0 (by omega)
      obtain ⟨b, off, spot⟩ := a
      have hlen0 := (hS 0 hpos).2.len
      obtain ⟨z, hz⟩ : ∃ z, (U8 (S 0).1 ++ [.bool (S 0).2])[0]? = some z := ⟨_, List.getElem?_eq_getElem (by simp)⟩
      rw [hz] at h0
      have hspot : spot = none := by simpa [Addr.add] using World.cell?_spot h0
      subst hspot
      refine ⟨b, off, rfl, cell_lt h0, fun i t hi => ?_⟩
      have hil : i < len := by
        by_cases hil : i < len
        · exact hil
        · rw [List.getElem?_eq_none (by simp; omega)] at hi; simp at hi
      have ho : t = S i := by rw [List.getElem?_map, List.getElem?_range hil] at hi; simpa using hi.symm
      subst ho
      have g := (hS i hil).1
      have hl32 := (hS i hil).2.len
      simp only [addr_add] at g
      refine ⟨fun j v hv => ?_, ?_⟩
      · have hj : j < 32 := by
          have h1 := (List.getElem?_eq_some_iff.1 hv).1
          rw [U8_length, hl32] at h1
          exact h1
        rw [g j (by omega), List.getElem?_append_left (by rw [U8_length, hl32]; exact hj)]; exact hv
      · rw [g 32 (by omega), List.getElem?_append_right (by rw [U8_length, hl32]; omega), U8_length, hl32]; rfl
end
set_option maxRecDepth 100000 in
theorem open_tl_v {H : Type} {enc : TypeId × Value → H} {w : World} {held : Bool} {r : Reach} {b0 : Nat} {v : Value} {d : DataW H} {p : List MemPlace} (hv : Value.okWide Tryd.prog w r b0 22 v) (h : DataW.Trod enc Tryd.prog w 0 (fun _ => true) held 22 v d p) :
    ∃ s : Tl, v = s.v ∧ s.Ok w := by
  obtain ⟨m, hm⟩ := h
  have hc : v.cells.toList = [v] := by
    obtain ⟨a, n, c, rfl⟩ := okWide_slice Tryd.underlying22 hv
    rfl
  rw [hc] at hm
  exact open_tl hm
/-- one more hash, and where the list lies now -/
theorem wpList_push2 {ops : Array Oper} {rest : List Oper} {o : Oper} {a : Act} {w : World} {Q : Exit → Act → World → Prop} (hgd : o.guard = none) (s x : Operand)
    (ho : o.op = .call { callee := .builtin .append, args := #[s, x], argTypes := #[25, 25] }) (base : Nat) (v : Value) (ls : List (List Int)) (l : List Int) (g c : Nat) (hown : HOwn w base v ls) (hl : Hs l) (hA : Arr w g 27 (U8 l)) (hs : a.eval s = v) (hx : a.eval x = .slice (some ⟨g, 0, none⟩) 1 c)
    (hn : ls.length ≤ 1000000) (hbase : base ≤ w.heap.size) (h : ∀ na nn nc w', HOwn w' base (.slice na nn nc) (ls ++ [l]) → nn = (ls ++ [l]).length → w.grownBy w' v.ownBlock → ((Value.slice na nn nc).ownBlock = v.ownBlock ∨ (Value.slice na nn nc).ownBlock = some w.heap.size) → wpList Tryd.prog ops Q rest (a.put o.dst (.slice na nn nc)) w') :
    wpList Tryd.prog ops Q (o :: rest) a w := by
  obtain ⟨i, hi, hz, hsz, hby⟩ := infoH
  refine wpList_plain hgd fun K hK => ?_
  obtain ⟨v', w', hr, r1, r2, r3⟩ := run_append_own_at (P := Tryd.prog) w base 25 o.type 27 i _ 32 32 Tryd.underlying25 hi hz hsz hby (by simp [Value.cells]) (by omega) v ls.length (flH ls) hown.own ⟨g, 0, none⟩ 1 c (U8 l) (by simp [hl.len]) (fun j u hu => by rw [addr_add, Nat.zero_add, hA.cell]; exact hu) (U8_one l) (by unfold maxLen; omega) (by omega) hbase
  unfold Oper.wp
  simp [execOp, ho, resolve, invoke, builtin, hs, hx, hr, Result.andThen]
  have hO : HOwn w' base v' (ls ++ [l]) := ⟨by rw [flH_app, flH_one, List.length_append]; exact r1, fun y hy => by
    rcases List.mem_append.1 hy with hy | hy
    · exact hown.hs y hy
    · simp at hy; subst hy; exact hl⟩
  obtain ⟨s2, rfl, -, h4, -, -⟩ := hO.hl
  exact hK _ _ (h s2.a s2.n s2.c w' hO h4 r2 r3)
end Go.Proofs.YtaidncibndcbfabDoor
