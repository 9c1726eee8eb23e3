import Derived.Test.YtebaiaghbfbgmaaOpenG
import Derived.Test.YtebaiaghbfbgmaaOpO
import Derived.SizedLaws
import Derived.Deep.Slices
set_option linter.unusedSimpArgs false
set_option linter.unusedVariables false
namespace Go.Proofs.Ytebaiaghbfbgmaa
open Go.ChangeShapes Go.WideShapes Go.ChangeAt Go.WideMaps Go.WideElems Go.RowKit

theorem bulkPos {H : Type} (d : DataW H) : 0 < Rows.uptoBulk d := by
  rcases d with l | _ | _ | _ | _ | _ | _ | _
  · rcases l with _ | _ | _ | _ | _ <;> simp [Rows.uptoBulk]
  all_goals simp [Rows.uptoBulk]
theorem bulkLen {H : Type} : ∀ l : List (DataW H), l.length ≤ Rows.uptoBulkAll l
  | [] => Nat.zero_le _
  | d :: l => by
    have h1 := bulkLen l
    have h2 := bulkPos d
    simp only [Rows.uptoBulkAll, List.length_cons]
    omega
theorem bulkIn {H : Type} {d : DataW H} : ∀ {l : List (DataW H)}, d ∈ l → Rows.uptoBulk d ≤ Rows.uptoBulkAll l
  | x :: l, h => by
    rcases List.mem_cons.1 h with rfl | h
    · simp only [Rows.uptoBulkAll]; omega
    · have := bulkIn h; simp only [Rows.uptoBulkAll]; omega
set_option maxRecDepth 100000 in
/-- a slice of calls as an argument: its length is within its bulk and its bytes within the reach -/
theorem open_ops_u {H : Type} {enc : TypeId × Value → H} {w : World} {held : Bool} {r : Reach} {b0 : Nat} {v : Value} {d : DataW H} {p : List MemPlace} (hv : Value.okWide Try.prog w r b0 22 v) (h : DataW.Trod enc Try.prog w 0 (fun _ => true) held 22 v d p) :
    ∃ s : Sx Opr, v = s.v ∧ Os w s ∧ s.n ≤ Rows.uptoBulk d ∧ ((∀ x ∈ d.weights Try.prog 22, x ≤ reachN) → s.n * 392 ≤ reachN) := by
  obtain ⟨m, hm⟩ := h
  have hc : v.cells.toList = [v] := by
    obtain ⟨a, n, c, rfl⟩ := okWide_slice Try.underlying22 hv
    rfl
  rw [hc] at hm
  have : Inhabited Opr := ⟨⟨0, zEnt, zFlr, 0, 0⟩⟩
  obtain ⟨s, hs, hok, he, hw⟩ := open_sx (f := opC) (sz := 330) (ok := Opr.Ok) (bytes := 392) Try.underlying22 (by kernel_rfl) (by kernel_rfl) (by decide) (fun m cs x hx => open_opr hx) (fun y hy => opC_len hy) hm
  refine ⟨s, hs, ⟨hok, he⟩, ?_, hw⟩
  rcases Deep.open_slice Try.underlying22 hm with ⟨hcs, _⟩ | ⟨a, len, cap, q, n, D, Pl, hcs, _, hl, hmx, hq, hy, hx⟩
  · simp at hcs
    rw [hs] at hcs
    simp only [Sx.v, Value.slice.injEq] at hcs
    rw [hcs.2.1]; exact Nat.zero_le _
  · simp at hcs
    rw [hs] at hcs
    simp only [Sx.v, Value.slice.injEq] at hcs
    rw [hcs.2.1]
    have hd := congrArg Prod.fst hy
    simp only at hd
    rw [hd]
    simp only [Rows.uptoBulk]
    have h1 := bulkLen ((List.range len).map D)
    simp only [List.length_map, List.length_range] at h1
    omega
end Go.Proofs.Ytebaiaghbfbgmaa
