import Derived.Test.YteijlppmgkdieaaDoorQCkcW
import Derived.Test.YteijlppmgkdieaaDoorQHzW
set_option linter.unusedVariables false
namespace Go.Proofs.YteijlppmgkdieaaDoor
open Go.RowKit

def nilH : Hl := ⟨none, 0, 0, []⟩
theorem nilH_v : nilH.v = .slice none 0 0 := rfl
theorem nilH_ok (w : World) : nilH.Ok w := ⟨rfl, Nat.le_refl _, Nat.zero_le _, fun _ => ⟨rfl, rfl⟩, (fun l hl => by cases hl), fun h => absurd h (by simp [nilH])⟩
/-- what Inclusion answers -/
structure InR (w : World) (s : Hl) (i : Int) (w' : World) (s2 : Hl) (ok : Bool) : Prop where
  is : ok = inT i s.n
  yes : ok = true → s2.ls = pathZ i.toNat s.ls
  no : ok = false → s2 = nilH
  its : HOwn w' w.heap.size s2.v s2.ls
  at_ : s2.Ok w'
theorem incl_any (s : Hl) (i : Int) (w : World) (hs : s.Ok w) (hL : Ld w) :
    Calls Tryd.prog 28 #[s.v, .int .i64 i] w fun e w' => ∃ s2 ok, InR w s i w' s2 ok ∧ e = .returned (.tuple #[s2.v, .bool ok]) ∧ Below w.heap.size w w' := by
  cases hin : inT i s.n
  · refine (incl_no s i w hin).mono ?_
    rintro e w' ⟨rfl, rfl⟩
    exact ⟨nilH, false, ⟨hin.symm, (fun h => by cases h), fun _ => rfl, HOwn.nil _ _, nilH_ok _⟩, rfl, Below.refl _ _⟩
  · obtain ⟨h1, h2, h3⟩ := inT_iff.1 hin
    obtain ⟨i', rfl⟩ := Int.eq_ofNat_of_zero_le h2
    refine (incl_ok s i' w hs hL (by omega) (by omega)).mono ?_
    rintro e w' ⟨v, rfl, hO, hb⟩
    obtain ⟨s2, rfl, h4, -, h5, -⟩ := hO.hl
    rw [← h4] at hO
    exact ⟨s2, true, ⟨hin.symm, fun _ => by rw [h4]; rfl, (fun h => by cases h), hO, h5⟩, rfl, hb⟩
/-- what Consistency answers -/
structure CoR (w : World) (s : Hl) (m : Int) (w' : World) (s2 : Hl) (ok : Bool) : Prop where
  is : ok = isBg m s.n
  yes : ok = true → s2.ls = if m = 0 then [] else bridZ m.toNat s.ls true
  no : ok = false → s2 = nilH
  its : HOwn w' w.heap.size s2.v s2.ls
  at_ : s2.Ok w'
theorem cons_any (s : Hl) (m : Int) (w : World) (hs : s.Ok w) (hL : Ld w) :
    Calls Tryd.prog 30 #[s.v, .int .i64 m] w fun e w' => ∃ s2 ok, CoR w s m w' s2 ok ∧ e = .returned (.tuple #[s2.v, .bool ok]) ∧ Below w.heap.size w w' := by
  cases hin : isBg m s.n
  · refine (cons_no s m w hin).mono ?_
    rintro e w' ⟨rfl, rfl⟩
    exact ⟨nilH, false, ⟨hin.symm, (fun h => by cases h), fun _ => rfl, HOwn.nil _ _, nilH_ok _⟩, rfl, Below.refl _ _⟩
  · obtain ⟨h1, h2, h3⟩ := isBg_iff.1 hin
    by_cases h0 : m = 0
    · subst h0
      refine (cons_zero s w (by omega)).mono ?_
      rintro e w' ⟨rfl, rfl⟩
      exact ⟨nilH, true, ⟨hin.symm, fun _ => by rw [if_pos rfl]; rfl, (fun h => by cases h), HOwn.nil _ _, nilH_ok _⟩, rfl, Below.refl _ _⟩
    · obtain ⟨m', rfl⟩ := Int.eq_ofNat_of_zero_le h2
      refine (cons_ok s m' w hs hL (by omega) (by omega) (by omega)).mono ?_
      rintro e w' ⟨v, rfl, hO, hb⟩
      obtain ⟨s2, rfl, h4, -, h5, -⟩ := hO.hl
      rw [← h4] at hO
      exact ⟨s2, true, ⟨hin.symm, fun _ => by rw [h4, if_neg h0]; rfl, (fun h => by cases h), hO, h5⟩, rfl, hb⟩
/-- what is there is proved -/
theorem ckI_path {ls : List (List Int)} {i : Nat} {x : List Int} (hn : ls.length ≤ 65536) (hx : ls[i]? = some x) : ckI x i ls.length (pathZ i ls) (rootZ16 ls) = true := by
  have hi := (List.getElem?_eq_some_iff.1 hx).1
  unfold ckI
  rw [inT_iff.2 (by omega), Int.toNat_natCast, Int.toNat_natCast, Bool.true_and]
  have h1 : (pathZ i ls).length = mplen i ls.length := mpath_len ndZ nonZ _ _ _ rfl
  have h2 : climbZ i ls.length x (pathZ i ls) = rootZ16 ls := mclimb_path ndZ nonZ _ _ _ _ rfl hx
  rw [decide_eq_true h1, h2, eqB_self]; rfl
/-- every beginning is proved -/
theorem ckC_bridge {ls : List (List Int)} {m : Int} (hn : isBg m ls.length = true) : ckC m ls.length (rootZ16 (ls.take m.toNat)) (rootZ16 ls) (if m = 0 then [] else bridZ m.toNat ls true) = true := by
  obtain ⟨h1, h2, h3⟩ := isBg_iff.1 hn
  unfold ckC
  rw [hn, Bool.true_and]
  by_cases h0 : m = 0
  · subst h0
    rw [if_pos rfl, if_pos rfl]
    simp only [Int.toNat_zero, List.take_zero, rootZ16_nil]
    rw [eqB_self]; rfl
  · rw [if_neg h0, if_neg h0]
    obtain ⟨m', rfl⟩ := Int.eq_ofNat_of_zero_le h2
    simp only [Int.toNat_natCast]
    have e1 : (bridZ m' ls true).length = mblen m' ls.length true := mbridge_len ndZ nonZ _ _ _ _ rfl
    have e2 : crossZ m' ls.length true (rootZ16 (ls.take m')) (bridZ m' ls true) = (rootZ16 (ls.take m'), rootZ16 ls) := mcross_bridge ndZ nonZ _ _ _ _ _ rfl (by omega) (by omega) (fun _ => rfl)
    rw [decide_eq_true e1, e2, eqB_self, eqB_self]; rfl
/-- a guarded build of a hash that is 0 -/
theorem wpList_zero {ops : Array Oper} {rest : List Oper} {o : Oper} {a : Act} {w : World} {Q : Exit → Act → World → Prop} (hw : Region.wanted o (yielded ops a.tmps) = true) (ho : o.op = .build 28 #[])
    (h : wpList Tryd.prog ops Q rest (a.put o.dst (hV zeroH)) w) : wpList Tryd.prog ops Q (o :: rest) a w := by
  refine wpList_val (hV zeroH) hw ?_ h
  have hb : Tryd.prog.built 28 [] = some (U8 zeroH).toArray := by kernel_rfl
  have hrun := run_build (P := Tryd.prog) w 28 #[] (U8 zeroH).toArray hb
  simp [execOp, ho, hrun, Result.andThen]
  rfl
theorem eqB_ne {a b : List Int} (h : a ≠ b) : decide (a = b) = false := decide_eq_false h
end Go.Proofs.YteijlppmgkdieaaDoor
