import Derived.Test.YtmaammjfbheciabDoorCmW
import Derived.Test.YtmaammjfbheciabDoorNxW
set_option linter.unusedVariables false
namespace Go.Proofs.YtmaammjfbheciabDoor
open Go.RowKit Go.Maps

theorem Hold.walk {rows : List (Nat × List Int)} {w w' : World} {p b n : Nat} {sd : List Int} {s : Nat} {ds : List Nat} (h : Hold rows w) (hw : Wst w p b n sd s ds) (hb : Buts (fun k => k = p ∨ k = b) w w') : Hold rows w' := by
  intro q hq
  have ha := h q hq
  refine hb.arr ha ?_
  rintro (e | e)
  · have hp := hw.P
    rw [← e] at hp
    unfold Arr at ha hp
    rw [ha] at hp
    have h9 : (23 : Nat) = 41 := congrArg (fun o => match o with | some (.cells _ t _) => t | _ => 0) hp
    exact absurd h9 (by decide)
  · exact hw.M.ne ha e
theorem bel_walk {B : Nat} {w v v' : World} {p b : Nat} (h : Below B w v) (hB : B ≤ v.heap.size) (hp : B ≤ p) (hq : B ≤ b) (k : Buts (fun k => k = p ∨ k = b) v v') : Below B w v' :=
  h.trans (k.below hB (fun i hi => by rcases hi with rfl | rfl <;> assumption))
/-- a Walker of which i values are told (or were asked for) -/
def XI (wr : World) (p b n : Nat) (v : List Int) (i : Nat) : Prop := ∃ s ds, Wst wr p b n v s ds ∧ ds.sum = n - i
theorem XI.later {w w' : World} {p b n : Nat} {v : List Int} {i : Nat} (h : XI w p b n v i) (hb : Below w.heap.size w w') : XI w' p b n v i := by
  obtain ⟨s, ds, h1, h2⟩ := h; exact ⟨s, ds, h1.later hb, h2⟩
theorem XI.keep {w w' : World} {p b n : Nat} {v : List Int} {i : Nat} (h : XI w p b n v i) {S : Nat → Prop} (hb : Buts S w w') (h1 : ¬ S p) (h2 : ¬ S b) : XI w' p b n v i := by
  obtain ⟨s, ds, h3, h4⟩ := h; exact ⟨s, ds, h3.keep hb h1 h2, h4⟩
theorem XI.apart {w : World} {p b n p' b' n' : Nat} {v v' : List Int} {i i' : Nat} (h : XI w p b n v i) (h' : XI w p' b' n' v' i') : p ≠ b' ∧ b ≠ p' := by
  obtain ⟨s, ds, h1, -⟩ := h
  obtain ⟨s', ds', h2, -⟩ := h'
  exact ⟨h2.M.ne h1.P, fun e => h1.M.ne h2.P e.symm⟩
theorem XI.hold {rows : List (Nat × List Int)} {w w' : World} {p b n : Nat} {v : List Int} {i : Nat} (h : Hold rows w) (hx : XI w p b n v i) (hb : Buts (fun k => k = p ∨ k = b) w w') : Hold rows w' := by
  obtain ⟨s, ds, h1, -⟩ := hx; exact h.walk h1 hb
theorem xnext_any (p b n : Nat) (v : List Int) (i : Nat) (w : World) (hv : Hs v) (hL : Ld w) (h : XI w p b n v i) (hn1 : 1 ≤ n) (hn : n ≤ 4096) :
    Calls Tryd.prog 8 #[.pointer (some ⟨p, 0, none⟩)] w fun e w' => e = .returned (.tuple #[.int .i64 ((if i < n then i + 1 else 0 : Nat) : Int), hV (vaR v n ((i + 1 : Nat) : Int)).1, .bool (vaR v n ((i + 1 : Nat) : Int)).2]) ∧ XI w' p b n v (i + 1) ∧ Buts (fun k => k = p ∨ k = b) w w' := by
  obtain ⟨s, ds, hW, hs⟩ := h
  by_cases hi : i < n
  · rw [if_pos hi, vaR, if_pos ⟨by omega, by omega, by omega, by omega⟩]
    obtain ⟨d, r, rfl⟩ : ∃ d r, ds = d :: r := by
      cases ds with
      | nil => simp at hs; omega
      | cons d r => exact ⟨d, r, rfl⟩
    refine (next_ok p b n s v d r (n - (i + 1)) w hv hL hW hn (by omega)).mono ?_
    rintro e w' ⟨rfl, s', r', h1, h2, h3, h4⟩
    refine ⟨?_, ⟨s', r', h1, h2⟩, h4⟩
    rw [show n - (n - (i + 1)) = i + 1 by omega, show ((n : Int) - ((i + 1 : Nat) : Int)).toNat = n - (i + 1) by omega]
  · rw [if_neg hi, vaR, if_neg (by omega)]
    have hd : ds = [] := by
      cases ds with
      | nil => rfl
      | cons d r => have := hW.F.1; simp only [List.sum_cons] at hs; omega
    subst hd
    refine (next_end p b n s v w hW hn).mono ?_
    rintro e w' ⟨rfl, h1⟩
    exact ⟨rfl, ⟨s, [], hW.later h1, by simp; omega⟩, Buts.of_below h1⟩
end Go.Proofs.YtmaammjfbheciabDoor
