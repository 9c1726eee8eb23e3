import Derived.Test.YtkkcjjjeckhbcaaDoorOpenS
namespace Go.Proofs.YtkkcjjjeckhbcaaDoor
open Go.ChangeShapes Go.WideShapes Go.ChangeAt Go.WideMaps Go.WideElems Go.RowKit

/-! The bound of the second form: what it says of a slice of bytes. -/
theorem bulkPos {H : Type} (d : DataW H) : 0 < Rows.uptoBulk d := by
  rcases d with l | _ | _ | _ | _ | _ | _ | _
  · rcases l with _ | _ | _ | _ | _ <;> simp [Rows.uptoBulk]
  all_goals simp [Rows.uptoBulk]
theorem bulkLen {H : Type} : ∀ l : List (DataW H), l.length ≤ Rows.uptoBulkAll l
  | [] => Nat.zero_le _
  | d :: l => by
    have h1 := bulkLen l
    have h2 := bulkPos d
    simp only [Rows.uptoBulkAll, List.length_cons]
    omega
theorem bulkIn {H : Type} {d : DataW H} : ∀ {l : List (DataW H)}, d ∈ l → Rows.uptoBulk d ≤ Rows.uptoBulkAll l
  | x :: l, h => by
    rcases List.mem_cons.1 h with rfl | h
    · simp only [Rows.uptoBulkAll]; omega
    · have := bulkIn h; simp only [Rows.uptoBulkAll]; omega
theorem open_sl_u {H : Type} {enc : TypeId × Value → H} {w : World} {held : Bool} {r : Reach} {b0 : Nat} {v : Value} {d : DataW H} {p : List MemPlace} (hv : Value.okWide Tryd.prog w r b0 29 v) (h : DataW.Trod enc Tryd.prog w 0 (fun _ => true) held 29 v d p) :
    ∃ s : Sl, v = s.v ∧ s.Ok w ∧ s.c ≤ Rows.uptoBulk d := by
  obtain ⟨s, hs, hok, -⟩ := open_sl_v hv h
  refine ⟨s, hs, hok, ?_⟩
  obtain ⟨m, hm⟩ := h
  have hc : v.cells.toList = [v] := by
    obtain ⟨a, n, c, rfl⟩ := okWide_slice Tryd.underlying29 hv
    rfl
  rw [hc] at hm
  rcases open_ints Tryd.underlying29 Tryd.underlying5 (by kernel_rfl) hm with ⟨hcs, _⟩ | ⟨x, l, c, zs, hcs, _, hl, hmx, hz, hy, _, _⟩
  · simp at hcs
    rw [hs] at hcs
    simp only [Sl.v, Value.slice.injEq] at hcs
    rw [hcs.2.2]; exact Nat.zero_le _
  · simp at hcs
    simp only [if_true] at hz
    rw [hs] at hcs
    simp only [Sl.v, Value.slice.injEq] at hcs
    rw [hcs.2.2]
    have hd : d = .slice (lits .u8 (zs.take l)) (lits .u8 (zs.drop l)) := by
      have := congrArg Prod.fst hy; simpa using this
    rw [hd]
    simp only [Rows.uptoBulk]
    have h1 := bulkLen (lits .u8 (zs.take l) : List (DataW H))
    have h2 := bulkLen (lits .u8 (zs.drop l) : List (DataW H))
    have e1 : (lits .u8 (zs.take l) : List (DataW H)).length = min l zs.length := by simp [lits]
    have e2 : (lits .u8 (zs.drop l) : List (DataW H)).length = zs.length - l := by simp [lits]
    rw [e1] at h1
    rw [e2] at h2
    omega
end Go.Proofs.YtkkcjjjeckhbcaaDoor
