import Derived.Test.YtdcaojiiaocnaaaGreatDoorQOpenG
import Derived.Test.YtdcaojiiaocnaaaGreatDoorQSqM
import Derived.SizedLaws
import Derived.Deep.Slices
set_option linter.unusedSimpArgs false
set_option linter.unusedVariables false
namespace Go.Proofs.YtdcaojiiaocnaaaGreatDoor
open Go.ChangeShapes Go.WideShapes Go.ChangeAt Go.WideMaps Go.WideElems Go.RowKit

/-! Arguments opened: certificates, entries, floors. -/
theorem drop_split (cs : List Value) (o n : Nat) : cs.drop o = (cs.drop o).take n ++ cs.drop (o + n) := by
  rw [← List.drop_drop, List.take_append_drop]
section
variable {H : Type} {enc : TypeId × Value → H} {P : Program} {w : World} {held : Bool} {m : Nat}
theorem o_int {t : TypeId} {c : List Value} {x : DataW H × List MemPlace} (hu : P.underlying t = some (.int .i64)) (h : DataW.trod enc P w 0 (fun _ => true) held m t c = some x) : ∃ z : Int, c = [.int .i64 z] ∧ -9223372036854775808 ≤ z ∧ z ≤ 9223372036854775807 := by
  obtain ⟨z, e, -, hw⟩ := DataW.trod_int hu h
  have hb := bounds_i64 hw
  exact ⟨z, e, by omega, by omega⟩
theorem o_bool {t : TypeId} {c : List Value} {x : DataW H × List MemPlace} (hu : P.underlying t = some .bool) (h : DataW.trod enc P w 0 (fun _ => true) held m t c = some x) : ∃ b : Bool, c = [.bool b] := by
  obtain ⟨b, e, -⟩ := DataW.trod_bool hu h
  exact ⟨b, e⟩
end
/-- a slice of structs as an argument -/
theorem open_sx {α : Type} [Inhabited α] {f : α → List Value} {sz : Nat} {ok : α → Prop} {T e : TypeId} {bytes : Nat} {H : Type} {enc : TypeId × Value → H} {w : World} {held : Bool} {m : Nat} (hu : Tryz.prog.underlying T = some (.slice e)) (kc : Tryz.prog.cellsOf e = sz) (kb : Tryz.prog.bytesOf e = bytes) (hsz : 0 < sz)
    (hel : ∀ (m : Nat) (cs : List Value) (x : DataW H × List MemPlace), DataW.trod enc Tryz.prog w 0 (fun _ => true) held m e cs = some x → ∃ y : α, cs = f y ∧ ok y) (hf : ∀ y, ok y → (f y).length = sz)
    {v : Value} {y : DataW H × List MemPlace} (h : DataW.trod enc Tryz.prog w 0 (fun _ => true) held m T [v] = some y) :
    ∃ s : Sx α, v = s.v ∧ s.Ok f sz w ∧ (∀ x ∈ s.xs, ok x) ∧ ((∀ x ∈ y.1.weights Tryz.prog T, x ≤ reachN) → s.n * bytes ≤ reachN) := by
  rcases Deep.open_slice hu h with ⟨hcs, _⟩ | ⟨a, len, cap, q, n, D, Pl, hcs, _, hl, hm, hq, hy, hx⟩
  · simp at hcs
    exact ⟨⟨none, 0, 0, []⟩, hcs, .nil w 0, (fun l hl => by cases hl), fun _ => by simp⟩
  · simp at hcs
    simp only [if_true] at hq
    subst hq
    rw [kc] at hx
    have hS : ∀ i, i < len → ∃ l : α, (∀ j, j < sz → w.cell? ((a.add (i * sz)).add j) = (f l)[j]?) ∧ ok l := by
      intro i hi
      obtain ⟨cs', h1, h2⟩ := hx i (by omega)
      obtain ⟨l, rfl, hok⟩ := hel _ _ _ h2
      exact ⟨l, (World.cells?_some h1).2.2, hok⟩
    obtain ⟨S, hS⟩ := Go.Deep.choose_lt hS
    refine ⟨⟨some a, len, q, (List.range len).map S⟩, (by rw [Sx.v]; simpa using hcs), ⟨by simp, hl, hm, (fun e => by cases e), fun hpos => ?_⟩, fun l hl' => ?_, fun hw => ?_⟩
    · simp only at hpos
      have h0 := (hS 0 hpos).1 0 hsz
      obtain ⟨b, off, spot⟩ := a
      obtain ⟨z, hz⟩ : ∃ z, (f (S 0))[0]? = some z := ⟨_, List.getElem?_eq_getElem (by rw [hf _ (hS 0 hpos).2]; exact hsz)⟩
      rw [hz] at h0
      have hspot : spot = none := by simpa [Addr.add] using World.cell?_spot h0
      subst hspot
      rw [addr_add, addr_add] at h0
      refine ⟨b, off, rfl, cell_lt h0, fun i l hi j v hv => ?_⟩
      have hil : i < len := by
        by_cases hil : i < len
        · exact hil
        · rw [List.getElem?_eq_none (by simp; omega)] at hi; simp at hi
      have ho : l = S i := by rw [List.getElem?_map, List.getElem?_range hil] at hi; simpa using hi.symm
      subst ho
      have g := (hS i hil).1
      simp only [addr_add] at g
      have hj : j < sz := by
        have h1 := (List.getElem?_eq_some_iff.1 hv).1
        rwa [hf _ (hS i hil).2] at h1
      rw [g j hj]; exact hv
    · simp at hl'
      obtain ⟨i, hi, rfl⟩ := hl'
      exact (hS i hi).2
    · rw [hy] at hw
      unfold DataW.weights at hw
      rw [hu] at hw
      simp only [List.length_map, List.length_range, kb] at hw
      have h1 := hw _ (List.mem_cons_self ..)
      have h2 : len * bytes ≤ (len + (q - len)) * bytes := Nat.mul_le_mul_right bytes (by omega)
      simp only
      omega

theorem trod_slice_one {P : Program} {H : Type} {enc : TypeId × Value → H} {w : World} {held : Bool} {r : Reach} {b0 : Nat} {T e : TypeId} {v : Value} (hu : P.underlying T = some (.slice e)) (hv : Value.okWide P w r b0 T v) : v.cells.toList = [v] := by
  obtain ⟨a, n, c, rfl⟩ := okWide_slice hu hv
  rfl
end Go.Proofs.YtdcaojiiaocnaaaGreatDoor
