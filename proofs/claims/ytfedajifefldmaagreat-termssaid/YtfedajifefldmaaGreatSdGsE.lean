import Derived.Test.YtfedajifefldmaaGreatSdAccX
import Derived.DeepKeys
import Derived.Laws.StructEq
namespace Go.Proofs.YtfedajifefldmaaGreat
open Go.RowKit
def ag (n : Nat) (x y : Nat → Int) : Bool := decide (∀ i, i < n → x i = y i)
theorem run_eqB {P : Program} {t e : TypeId} {n : Nat} {k : IntKind} (d : Nat) (hu : P.underlying t = some (.array n e)) (hue : P.underlying e = some (.int k)) (hi : (P.info? e).map (·.size) = some 1)
    (l l' : List Int) (hl : l.length = n) (hl' : l'.length = n) (w : World) :
    (Op.equalIn (d + 1 + 1) t (.agg (l.map (Value.int k)).toArray) (.agg (l'.map (Value.int k)).toArray)).run P w = .ok (decide (l = l')) w := by
  obtain ⟨i, hii⟩ : ∃ i, P.info? e = some i := by cases hq : P.info? e with
    | none => simp [hq] at hi
    | some i => exact ⟨i, rfl⟩
  have hs : P.cellsOf e = 1 := by simp [Program.cellsOf, hii] at hi ⊢; exact hi
  rw [run_equalIn_array w (d + 1) _ _ hu hii, hs]
  rw [run_eqItems_int hue d l l' w _ (by intro j hj; rw [List.mem_range] at hj; omega), ← hl, all_range_eq l l' (by omega)]
theorem cl_b {s : Nat → Kd} {m : Nat} {x : Nat → Int} (h : ∀ i, i < m → s i = .b) : cl s m x = (run x 0 m).map (Value.int .u8) := by
  unfold cl run
  rw [List.map_map]
  apply List.map_congr_left
  intro i hi
  rw [h i (List.mem_range.1 hi)]
  simp [Kd.v]
theorem run_eq (m : Nat) (x y : Nat → Int) : decide (run x 0 m = run y 0 m) = ag m x y := by
  unfold ag run
  rw [Bool.eq_iff_iff]
  simp only [decide_eq_true_eq]
  constructor
  · intro h i hi
    have := congrArg (fun l => l.getD i 0) h
    simpa [hi] using this
  · intro h
    apply List.map_congr_left
    intro i hi
    simpa using h i (List.mem_range.1 hi)
def PartEq (P : Program) (d : Nat) (s : Nat → Kd) (N : Nat) (t : TypeId) (o m : Nat) : Prop := ∀ x y w, (∀ i, i < N → (s i).ok (x i)) → (∀ i, i < N → (s i).ok (y i)) →
  ∃ a b, (part t (cl s N x).toArray o).run P w = .ok a w ∧ (part t (cl s N y).toArray o).run P w = .ok b w ∧ (Op.equalIn d t a b).run P w = .ok (ag m (sft o x) (sft o y)) w
def Fits (P : Program) (d : Nat) (s : Nat → Kd) (N : Nat) : List Field → List Nat → Nat → Prop
  | [], [], _ => True
  | f :: fs, m :: ms, o => f.name ≠ "_" ∧ f.offset = o ∧ PartEq P d s N f.type o m ∧ Fits P d s N fs ms (o + m)
  | _, _, _ => False
end Go.Proofs.YtfedajifefldmaaGreat
namespace Go.Proofs.YtfedajifefldmaaGreat
open Go.RowKit
theorem Tryz.sz1e : (Tryz.prog.info? 5).map (·.size) = some 1 := by kernel_rfl
end Go.Proofs.YtfedajifefldmaaGreat
