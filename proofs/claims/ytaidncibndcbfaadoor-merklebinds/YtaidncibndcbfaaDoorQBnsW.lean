import Derived.Test.YtaidncibndcbfaaDoorQBndW
namespace Go.Proofs.YtaidncibndcbfaaDoor
open Go.RowKit
theorem binds_law (a : List Int) (p : Hl) (b : List Int) (q : Hl) (i n : Int) (r : List Int) (w : World) (ha : Hs a) (hb : Hs b) (hr : Hs r) (hp : p.Ok w) (hq : q.Ok w) (hL : Ld w) :
    Calls Tryd.prog 5 #[hV a, p.v, hV b, q.v, .int .i64 i, .int .i64 n, hV r] w fun e w' => e = .returned (.bool true) ∧ Below w.heap.size w w' := by
  by_cases hout : n < 1 ∨ 65536 < n ∨ i < 0 ∨ n ≤ i ∨ 200 < p.n ∨ 200 < q.n
  · exact binds_out a b r p q i n w ha hb hr hp hL hout
  · exact binds_in a b r p q i n i.toNat n.toNat w (by omega) (by omega) ha hb hr hp hq hL (by omega) (by omega) (by omega) (by omega) (by omega)
end Go.Proofs.YtaidncibndcbfaaDoor
