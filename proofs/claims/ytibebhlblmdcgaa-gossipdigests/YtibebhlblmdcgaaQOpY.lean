import Derived.Test.YtibebhlblmdcgaaQOpU
import Derived.Test.YtibebhlblmdcgaaQSmG
import Derived.Test.YtibebhlblmdcgaaQMpM
set_option linter.unusedSimpArgs false
set_option linter.unusedVariables false
namespace Go.Proofs.Ytibebhlblmdcgaa
open Go.ChangeShapes Go.WideShapes Go.ChangeAt Go.WideMaps Go.WideElems Go.RowKit

set_option maxRecDepth 100000 in
theorem open_smy {H : Type} {enc : TypeId × Value → H} {w : World} {held : Bool} {m : Nat} {cs : List Value} {x : DataW H × List MemPlace} (h : DataW.trod enc Try.prog w 0 (fun _ => true) held m 39 cs = some x) : ∃ e : Smy, cs = sC e ∧ I64 e.ser := by
  obtain ⟨xs, n, -, -, hcl, hl, hx⟩ := DataW.trod_struct Try.underlying39 h
  have hl' : xs.length = 4 := hl
  have hcl' : cs.length = 4 := hcl.trans (by kernel_rfl)
  have one : ∀ i (hi : i < xs.length), xs[i]? = some xs[i] := fun i hi => by simp
  obtain ⟨z0, e0, l0, u0⟩ := o_int (c := (cs.drop 0).take 1) Try.underlying3 (by have := hx 0 _ rfl; rw [one 0 (by omega)] at this; rw [← Try.ki]; exact this)
  obtain ⟨z1, e1, -, -⟩ := o_int (c := (cs.drop 1).take 1) Try.underlying3 (by have := hx 1 _ rfl; rw [one 1 (by omega)] at this; rw [← Try.ki]; exact this)
  obtain ⟨q2, e2⟩ := o_bool (c := (cs.drop 2).take 1) Try.underlying4 (by have := hx 2 _ rfl; rw [one 2 (by omega)] at this; rw [← Try.kt]; exact this)
  obtain ⟨q3, e3⟩ := o_bool (c := (cs.drop 3).take 1) Try.underlying4 (by have := hx 3 _ rfl; rw [one 3 (by omega)] at this; rw [← Try.kt]; exact this)
  refine ⟨⟨z0, z1, q2, q3⟩, ?_, ⟨l0, u0⟩⟩
  have h5 : cs.drop 4 = [] := List.drop_eq_nil_of_le (by omega)
  conv => lhs; rw [← List.drop_zero (l := cs)]
  rw [drop_split cs 0 1, e0, drop_split cs (0 + 1) 1, e1, drop_split cs (0 + 1 + 1) 1, e2, drop_split cs (0 + 1 + 1 + 1) 1, e3, h5, List.append_nil]
  rfl
set_option maxRecDepth 100000 in
/-- a slice of summaries as an argument: its length is within its bulk -/
theorem open_sums_u {T : TypeId} (hT : Try.prog.underlying T = some (.slice 39)) {H : Type} {enc : TypeId × Value → H} {w : World} {held : Bool} {r : Reach} {b0 : Nat} {v : Value} {d : DataW H} {p : List MemPlace} (hv : Value.okWide Try.prog w r b0 T v) (h : DataW.Trod enc Try.prog w 0 (fun _ => true) held T v d p) :
    ∃ s : Sx Smy, v = s.v ∧ Sy w s ∧ (∀ y ∈ s.xs, I64 y.ser) ∧ s.n ≤ Rows.uptoBulk d := by
  obtain ⟨m, hm⟩ := h
  have hc : v.cells.toList = [v] := by
    obtain ⟨a, n, c, rfl⟩ := okWide_slice hT hv
    rfl
  rw [hc] at hm
  have : Inhabited Smy := ⟨zSmy⟩
  obtain ⟨s, hs, hok, he, hw⟩ := open_sx (f := sC) (sz := 4) (ok := fun y => I64 y.ser) (bytes := 24) hT (by kernel_rfl) (by kernel_rfl) (by decide) (fun m cs x hx => open_smy hx) (fun y hy => sC_len y) hm
  refine ⟨s, hs, hok, he, ?_⟩
  rcases Deep.open_slice hT hm with ⟨hcs, _⟩ | ⟨a, len, cap, q, n, D, Pl, hcs, _, hl, hmx, hq, hy, hx⟩
  · simp at hcs
    rw [hs] at hcs
    simp only [Sx.v, Value.slice.injEq] at hcs
    rw [hcs.2.1]; exact Nat.zero_le _
  · simp at hcs
    rw [hs] at hcs
    simp only [Sx.v, Value.slice.injEq] at hcs
    rw [hcs.2.1]
    have hd := congrArg Prod.fst hy
    simp only at hd
    rw [hd]
    simp only [Rows.uptoBulk]
    have h1 := bulkLen ((List.range len).map D)
    simp only [List.length_map, List.length_range] at h1
    omega
end Go.Proofs.Ytibebhlblmdcgaa
