import Derived.Test.YtibebhlblmdcgaaQGsM
set_option linter.unusedSimpArgs false
set_option linter.unusedVariables false
namespace Go.Proofs.Ytibebhlblmdcgaa
open Go.RowKit

theorem yl_loadR17 {P : Program} {ops : Array Oper} {S : World → Prop} {o : Oper} {a : Act} (hw : Region.wanted o (yielded ops a.tmps) = true) (t : TypeId) (x : Operand) (ho : o.op = .load t x) (g off : Nat) (hx : a.eval x = .pointer (some ⟨g, off, none⟩)) (p : List Value) (hr : ∀ w, S w → w.rangeAt g off p) {d : TypeDesc} (hu : P.underlying t = some d) (hd : d.isRow = true) (hz : (P.info? t).map (·.size) = some p.length) :
    YieldsIf P ops S o (aV p) a := .inl ⟨hw, fun w h => ex_loadR t x ho g off hx p (hr w h) hu hd hz⟩
/-- two rows alike? -/
def eqL : List Ent → List Ent → Bool
  | [], [] => true
  | x :: a, y :: b => eqEb x y && eqL a b
  | _, _ => false
theorem eqL_iff : ∀ {a b : List Ent}, eqL a b = true ↔ a = b
  | [], [] => by simp [eqL]
  | x :: a, y :: b => by rw [eqL, Bool.and_eq_true, eqEb_iff, eqL_iff]; simp
  | [], _ :: _ => by simp [eqL]
  | _ :: _, [] => by simp [eqL]
theorem eqL_f {a b : List Ent} (h : a ≠ b) : eqL a b = false := by rw [Bool.eq_false_iff]; exact fun q => h (eqL_iff.1 q)
theorem takeE_succ {a b : List Ent} {k : Nat} {x : Ent} (h : a.take k = b.take k) (ha : a[k]? = some x) (hb : b[k]? = some x) : a.take (k + 1) = b.take (k + 1) := by
  rw [List.take_add_one, List.take_add_one, h, ha, hb]
end Go.Proofs.Ytibebhlblmdcgaa
