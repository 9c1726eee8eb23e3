import Derived.Test.YtibebhlblmdcgaaQMoM
set_option linter.unusedSimpArgs false
set_option linter.unusedVariables false
namespace Go.Proofs.Ytibebhlblmdcgaa
open Go.RowKit

/-- the rows that are not below -/
def nbX (l : List Ent) (n : Int) : List Ent := l.filter fun e => decide (n ≤ e.cert.serial)
theorem nbX_take {l : List Ent} {k : Nat} {e : Ent} {n : Int} (h : l[k]? = some e) : nbX (l.take (k + 1)) n = nbX (l.take k) n ++ (if n ≤ e.cert.serial then [e] else []) := by
  rw [List.take_add_one, h]
  simp only [nbX, List.filter_append, Option.toList_some]
  congr 1
  by_cases hq : n ≤ e.cert.serial <;> simp [hq]
theorem nbX_len (l : List Ent) (n : Int) : (nbX l n).length ≤ l.length := List.length_filter_le _ _

end Go.Proofs.Ytibebhlblmdcgaa
