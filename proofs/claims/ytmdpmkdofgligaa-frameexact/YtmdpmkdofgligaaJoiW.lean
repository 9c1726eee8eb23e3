import Derived.Test.YtmdpmkdofgligaaScaW
import Derived.Test.YtmdpmkdofgligaaEnW
set_option linter.unusedVariables false
namespace Go.Proofs.Ytmdpmkdofgligaa
open Go.RowKit

/-- the frames of payloads, each of the kind of its number -/
def frs : Nat → List Sl → List (Int × List Int)
  | _, [] => []
  | i, s :: ps => ((i : Int), s.l) :: frs (i + 1) ps
theorem frs_length : ∀ (ps : List Sl) (i : Nat), (frs i ps).length = ps.length
  | [], _ => rfl
  | s :: ps, i => by simp only [frs, List.length_cons, frs_length ps]
theorem frs_snoc : ∀ (ps : List Sl) (i : Nat) (s : Sl), frs i (ps ++ [s]) = frs i ps ++ [(((i + ps.length : Nat) : Int), s.l)]
  | [], i, s => rfl
  | t :: ps, i, s => by
    simp only [List.cons_append, frs, frs_snoc ps, List.length_cons, List.cons_append]
    rw [show i + 1 + ps.length = i + (ps.length + 1) by omega]
theorem flat_append : ∀ (a b : List (Int × List Int)), flat (a ++ b) = flat a ++ flat b
  | [], b => rfl
  | f :: a, b => by simp only [List.cons_append, flat, flat_append a b, List.append_assoc]
theorem flat_one (f : Int × List Int) : flat [f] = encL f.1 f.2 := by simp [flat]
/-- where each frame ends -/
def ens : Nat → List (Int × List Int) → List Nat
  | _, [] => []
  | i, f :: fs => (i + f.2.length + 10) :: ens (i + f.2.length + 10) fs
theorem ens_length : ∀ (fs : List (Int × List Int)) (i : Nat), (ens i fs).length = fs.length
  | [], _ => rfl
  | f :: fs, i => by simp only [ens, List.length_cons, ens_length fs]
theorem ens_snoc : ∀ (fs : List (Int × List Int)) (i : Nat) (f : Int × List Int), ens i (fs ++ [f]) = ens i fs ++ [i + (flat fs).length + f.2.length + 10]
  | [], i, f => by simp [ens, flat]
  | g :: fs, i, f => by
    simp only [List.cons_append, ens, ens_snoc fs, flat, List.length_append, encL_length]
    rw [show i + g.2.length + 10 + (flat fs).length + f.2.length + 10 = i + (g.2.length + 10 + (flat fs).length) + f.2.length + 10 by omega]
theorem flat_frs_len : ∀ (ps : List Sl) (i : Nat), (flat (frs i ps)).length = (cat ps).length + 10 * ps.length
  | [], _ => by simp [flat, frs, cat]
  | s :: ps, i => by
    have h := flat_frs_len ps (i + 1)
    have e : cat (s :: ps) = s.l ++ cat ps := by simp [cat]
    simp only [frs, flat, List.length_append, encL_length, h, e, List.length_cons]
    omega
theorem Try.infoI : (Try.prog.info? 3).map (fun i => (i.zero, i.size, i.bytes)) = some (some (.int .i64 0), 1, 8) := by kernel_rfl
theorem own_two {W W' : World} {b e sz n b' e' sz' m : Nat} {v u : Value} {xs ys : List Value} (h : W.ownsRow b e sz v n xs) (hg : W.grownBy W' u.ownBlock) (hu : W.ownsRow b' e' sz' u m ys) (hne : e ≠ e') : W'.ownsRow b e sz v n xs := by
  obtain ⟨h1, h2⟩ := h
  refine ⟨h1, ?_⟩
  rcases h2 with h2 | ⟨g, cap, cur, r1, r2, r3, r4⟩
  · exact .inl h2
  · exact .inr ⟨g, cap, cur, r1, r2, (hg.block g (Array.getElem?_eq_some_iff.1 r3).1 (fun e2 => own_typ hu r3 hne e2.symm)).trans r3, r4⟩
def I64s (l : List Nat) : List Value := l.map fun (x : Nat) => Value.int .i64 x
theorem I64s_append (a b : List Nat) : I64s (a ++ b) = I64s a ++ I64s b := by simp [I64s]
end Go.Proofs.Ytmdpmkdofgligaa
