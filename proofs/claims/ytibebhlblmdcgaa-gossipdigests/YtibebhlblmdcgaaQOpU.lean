import Derived.Test.YtibebhlblmdcgaaQOpenG
import Derived.Test.YtibebhlblmdcgaaQOpO
import Derived.SizedLaws
import Derived.Deep.Slices
set_option linter.unusedSimpArgs false
set_option linter.unusedVariables false
namespace Go.Proofs.Ytibebhlblmdcgaa
open Go.ChangeShapes Go.WideShapes Go.ChangeAt Go.WideMaps Go.WideElems Go.RowKit

theorem bulkPos {H : Type} (d : DataW H) : 0 < Rows.uptoBulk d := by
  rcases d with l | _ | _ | _ | _ | _ | _ | _
  · rcases l with _ | _ | _ | _ | _ <;> simp [Rows.uptoBulk]
  all_goals simp [Rows.uptoBulk]
theorem bulkLen {H : Type} : ∀ l : List (DataW H), l.length ≤ Rows.uptoBulkAll l
  | [] => Nat.zero_le _
  | d :: l => by
    have h1 := bulkLen l
    have h2 := bulkPos d
    simp only [Rows.uptoBulkAll, List.length_cons]
    omega
theorem bulkIn {H : Type} {d : DataW H} : ∀ {l : List (DataW H)}, d ∈ l → Rows.uptoBulk d ≤ Rows.uptoBulkAll l
  | x :: l, h => by
    rcases List.mem_cons.1 h with rfl | h
    · simp only [Rows.uptoBulkAll]; omega
    · have := bulkIn h; simp only [Rows.uptoBulkAll]; omega
end Go.Proofs.Ytibebhlblmdcgaa
