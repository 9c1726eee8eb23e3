import Derived.Test.YtjdgibnpngkhkaaDoorSqM
import Derived.Deep.QuietTactic
import Derived.BigQuiet
set_option linter.unusedSimpArgs false
set_option linter.unusedVariables false
namespace Go.Proofs.YtjdgibnpngkhkaaDoor
open Go.RowKit

/-! The ledger: nets, sums, sides. -/
def Iz (z : Int) : Prop := -9223372036854775808 ≤ z ∧ z ≤ 9223372036854775807
def fitB (z : Int) : Bool := decide (-9223372036854775807 ≤ z ∧ z ≤ 9223372036854775807)
def accB (d : Int) : Bool := decide (0 ≤ d ∧ d ≤ 2)
def carB (r p : Int) : Bool := decide (1 ≤ r ∧ r ≤ 4096 ∧ 0 ≤ p ∧ p ≤ 1000000000)
def wrgB (d z : Int) : Bool := if d = 0 then decide (z < 0) else decide (0 < z)
def balZ (d z : Int) : Int := if d = 0 then z else -z
theorem wr_of {z : Int} (h : Iz z) : wrap64 z = z := by unfold wrap64; unfold Iz at h; omega
theorem wi_of {z : Int} (h : Iz z) : IntKind.i64.wrap z = z := (IntWalk.i64_left z).trans (wr_of h)
theorem wr_in (z : Int) : Iz (wrap64 z) := by unfold wrap64 Iz; omega
theorem fitB_t {z : Int} (h : fitB z = true) : -9223372036854775807 ≤ z ∧ z ≤ 9223372036854775807 := of_decide_eq_true h
theorem fitB_f {z : Int} (h : fitB z = false) : ¬ (-9223372036854775807 ≤ z ∧ z ≤ 9223372036854775807) := of_decide_eq_false h
theorem fitB_iz {z : Int} (h : fitB z = true) : Iz z := by have := fitB_t h; unfold Iz; omega
theorem fit_ne {z : Int} (hz : Iz z) : (z != -9223372036854775808) = fitB z := by
  unfold Iz at hz
  unfold fitB
  by_cases h : z = -9223372036854775808
  · subst h; rfl
  · rw [decide_eq_true (by omega)]; simpa using h

set_option maxRecDepth 100000 in
theorem fits_any (z : Int) (w : World) (hz : Iz z) :
    Calls Tryd.prog 16 #[.int .i64 z] w fun e w' => e = .returned (.bool (fitB z)) ∧ w' = w := by
  have hd := fit_ne hz
  go_enter Tryd.func16, Tryd.ntmps16
  go_wp2_with fail
  go_ret
  exact ⟨rfl, rfl⟩
set_option maxRecDepth 100000 in
theorem rfits_any (z : Int) (w : World) (hz : Iz z) :
    Calls Tryd.prog 33 #[.int .i64 z] w fun e w' => e = .returned (.bool (fitB z)) ∧ w' = w := by
  have hd := fit_ne hz
  go_enter Tryd.func33, Tryd.ntmps33
  go_wp2_with fail
  go_ret
  exact ⟨rfl, rfl⟩
set_option maxRecDepth 100000 in
theorem isAccount_any (d : Int) (w : World) : Calls Tryd.prog 21 #[.int .i64 d] w fun e w' => e = .returned (.bool (accB d)) ∧ w' = w := by
  unfold accB
  cases h1 : decide (0 ≤ d)
  · have h2 : decide (0 ≤ d ∧ d ≤ 2) = false := by simp at h1 ⊢; omega
    rw [h2]
    go_enter Tryd.func21, Tryd.ntmps21
    go_wp2
    go_ret
    exact ⟨rfl, rfl⟩
  · have h2 : decide (0 ≤ d ∧ d ≤ 2) = decide (d < 3) := by have := of_decide_eq_true h1; apply decide_eq_decide.2; omega
    rw [h2]
    go_enter Tryd.func21, Tryd.ntmps21
    go_wp2
    go_ret
    exact ⟨rfl, rfl⟩
set_option maxRecDepth 100000 in
theorem risAccount_any (d : Int) (w : World) : Calls Tryd.prog 30 #[.int .i64 d] w fun e w' => e = .returned (.bool (accB d)) ∧ w' = w := by
  unfold accB
  cases h1 : decide (0 ≤ d)
  · have h2 : decide (0 ≤ d ∧ d ≤ 2) = false := by simp at h1 ⊢; omega
    rw [h2]
    go_enter Tryd.func30, Tryd.ntmps30
    go_wp2
    go_ret
    exact ⟨rfl, rfl⟩
  · have h2 : decide (0 ≤ d ∧ d ≤ 2) = decide (d ≤ 2) := by have := of_decide_eq_true h1; apply decide_eq_decide.2; omega
    rw [h2]
    go_enter Tryd.func30, Tryd.ntmps30
    go_wp2
    go_ret
    exact ⟨rfl, rfl⟩
set_option maxRecDepth 100000 in
theorem isCarnet_any (r p : Int) (w : World) : Calls Tryd.prog 20 #[.int .i64 r, .int .i64 p] w fun e w' => e = .returned (.bool (carB r p)) ∧ w' = w := by
  unfold carB
  cases h1 : decide (1 ≤ r)
  · rw [show decide (1 ≤ r ∧ r ≤ 4096 ∧ 0 ≤ p ∧ p ≤ 1000000000) = false by simp at h1 ⊢; omega]
    go_enter Tryd.func20, Tryd.ntmps20
    go_wp2
    go_ret
    exact ⟨rfl, rfl⟩
  · cases h2 : decide (r ≤ 4096)
    · rw [show decide (1 ≤ r ∧ r ≤ 4096 ∧ 0 ≤ p ∧ p ≤ 1000000000) = false by simp at h1 h2 ⊢; omega]
      go_enter Tryd.func20, Tryd.ntmps20
      go_wp2
      go_ret
      exact ⟨rfl, rfl⟩
    · cases h3 : decide (0 ≤ p)
      · rw [show decide (1 ≤ r ∧ r ≤ 4096 ∧ 0 ≤ p ∧ p ≤ 1000000000) = false by simp at h1 h2 h3 ⊢; omega]
        go_enter Tryd.func20, Tryd.ntmps20
        go_wp2
        go_ret
        exact ⟨rfl, rfl⟩
      · rw [show decide (1 ≤ r ∧ r ≤ 4096 ∧ 0 ≤ p ∧ p ≤ 1000000000) = decide (p ≤ 1000000000) by simp at h1 h2 h3; apply decide_eq_decide.2; omega]
        go_enter Tryd.func20, Tryd.ntmps20
        go_wp2
        go_ret
        exact ⟨rfl, rfl⟩
set_option maxRecDepth 100000 in
theorem may_any (r p : Int) (w : World) : Calls Tryd.prog 35 #[.int .i64 r, .int .i64 p] w fun e w' => e = .returned (.bool (carB r p)) ∧ w' = w := by
  unfold carB
  cases h1 : decide (1 ≤ r)
  · rw [show decide (1 ≤ r ∧ r ≤ 4096 ∧ 0 ≤ p ∧ p ≤ 1000000000) = false by simp at h1 ⊢; omega]
    go_enter Tryd.func35, Tryd.ntmps35
    go_wp2
    go_ret
    exact ⟨rfl, rfl⟩
  · cases h2 : decide (r ≤ 4096)
    · rw [show decide (1 ≤ r ∧ r ≤ 4096 ∧ 0 ≤ p ∧ p ≤ 1000000000) = false by simp at h1 h2 ⊢; omega]
      go_enter Tryd.func35, Tryd.ntmps35
      go_wp2
      go_ret
      exact ⟨rfl, rfl⟩
    · cases h3 : decide (0 ≤ p)
      · rw [show decide (1 ≤ r ∧ r ≤ 4096 ∧ 0 ≤ p ∧ p ≤ 1000000000) = false by simp at h1 h2 h3 ⊢; omega]
        go_enter Tryd.func35, Tryd.ntmps35
        go_wp2
        go_ret
        exact ⟨rfl, rfl⟩
      · rw [show decide (1 ≤ r ∧ r ≤ 4096 ∧ 0 ≤ p ∧ p ≤ 1000000000) = decide (p ≤ 1000000000) by simp at h1 h2 h3; apply decide_eq_decide.2; omega]
        go_enter Tryd.func35, Tryd.ntmps35
        go_wp2
        go_ret
        exact ⟨rfl, rfl⟩
theorem sum_way {n a : Int} (hn : Iz n) (ha : Iz a) (hf : fitB (wrap64 (n + a)) = true) : (decide (n ≤ wrap64 (n + a)) == decide (0 ≤ a)) = fitB (n + a) := by
  have hf := fitB_t hf
  unfold wrap64 at hf ⊢
  unfold Iz at hn ha
  unfold fitB
  by_cases h : -9223372036854775807 ≤ n + a ∧ n + a ≤ 9223372036854775807
  · rw [decide_eq_true h]
    by_cases h0 : 0 ≤ a
    · rw [decide_eq_true h0, decide_eq_true (by omega)]; rfl
    · rw [decide_eq_false h0, decide_eq_false (by omega)]; rfl
  · rw [decide_eq_false h]
    by_cases h0 : 0 ≤ a
    · rw [decide_eq_true h0, decide_eq_false (by omega)]; rfl
    · rw [decide_eq_false h0, decide_eq_true (by omega)]; rfl
theorem sum_not {n a : Int} (hn : Iz n) (ha : Iz a) (h : fitB (wrap64 (n + a)) = false) : fitB (n + a) = false := by
  have hf := fitB_f h
  unfold wrap64 at hf
  unfold Iz at hn ha
  unfold fitB
  rw [decide_eq_false (by omega)]
set_option maxRecDepth 100000 in
theorem sum_any (n a : Int) (w : World) (hn : Iz n) (ha : Iz a) :
    Calls Tryd.prog 29 #[.int .i64 n, .int .i64 a] w fun e w' => e = .returned (.tuple #[.int .i64 (wrap64 (n + a)), .bool (fitB (n + a))]) ∧ w' = w := by
  have hi : Iz (wrap64 (n + a)) := wr_in _
  have hw : fitB (wrap64 (n + a)) = true → (decide (n ≤ wrap64 (n + a)) == decide (0 ≤ a)) = fitB (n + a) := sum_way hn ha
  have ho : fitB (wrap64 (n + a)) = false → fitB (n + a) = false := sum_not hn ha
  have hF := fits_any (wrap64 (n + a)) w hi
  obtain ⟨s, hs⟩ : ∃ s, wrap64 (n + a) = s := ⟨_, rfl⟩
  rw [hs] at hF hw ho hi ⊢
  replace hs : IntKind.i64.wrap (n + a) = s := (IntWalk.i64_left _).trans hs
  obtain ⟨t, ht⟩ : ∃ t, fitB (n + a) = t := ⟨_, rfl⟩
  rw [ht] at hw ho ⊢
  obtain ⟨f, hf⟩ : ∃ f, fitB s = f := ⟨_, rfl⟩
  rw [hf] at hw ho hF
  clear ht hf hi hn ha
  cases h1 : decide (n ≤ s) <;> cases h2 : decide (0 ≤ a) <;> rw [h1, h2] at hw
  · have e : f = t := by cases f with | false => rw [ho rfl] | true => rw [← hw rfl]; rfl
    clear hw ho
    go_enter Tryd.func29, Tryd.ntmps29
    go_wp2_with (refine hF.mono ?_; rintro e1 w1 ⟨rfl, hw1⟩; obtain rfl := hw1.symm)
    go_ret2
    exact ⟨rfl, rfl⟩
  · have e : t = false := by cases f with | false => exact ho rfl | true => rw [← hw rfl]; rfl
    subst e
    clear hw ho hF
    go_enter Tryd.func29, Tryd.ntmps29
    go_wp2_with fail
    go_ret2
    exact ⟨rfl, rfl⟩
  · have e : t = false := by cases f with | false => exact ho rfl | true => rw [← hw rfl]; rfl
    subst e
    clear hw ho hF
    go_enter Tryd.func29, Tryd.ntmps29
    go_wp2_with fail
    go_ret2
    exact ⟨rfl, rfl⟩
  · have e : f = t := by cases f with | false => rw [ho rfl] | true => rw [← hw rfl]; rfl
    subst e
    clear hw ho
    go_enter Tryd.func29, Tryd.ntmps29
    go_wp2_with (refine hF.mono ?_; rintro e1 w1 ⟨rfl, hw1⟩; obtain rfl := hw1.symm)
    go_ret2
    exact ⟨rfl, rfl⟩
/-- what plus and minus of the document answer where the sum leaves int64, and the sum where it does not -/
def inB (z : Int) : Bool := decide (-9223372036854775808 ≤ z ∧ z ≤ 9223372036854775807)
def inZ (z : Int) : Int := if inB z then z else 0
set_option maxRecDepth 100000 in
theorem plus_any (x a : Int) (w : World) (hx : Iz x) (ha : Iz a) (h0 : 0 ≤ a) :
    Calls Tryd.prog 31 #[.int .i64 x, .int .i64 a] w fun e w' => e = .returned (.tuple #[.int .i64 (inZ (x + a)), .bool (inB (x + a))]) ∧ w' = w := by
  unfold Iz at hx ha
  cases h1 : decide (0 < x)
  · have e1 : IntKind.i64.wrap (x + a) = x + a := wi_of (by simp at h1; unfold Iz; omega)
    have e2 : inB (x + a) = true := by unfold inB; simp at h1; exact decide_eq_true (by omega)
    have e3 : inZ (x + a) = x + a := by unfold inZ; rw [if_pos e2]
    rw [e2, e3]
    clear e2 e3
    go_enter Tryd.func31, Tryd.ntmps31
    go_wp2_with fail
    go_ret2
    exact ⟨rfl, rfl⟩
  · have e0 : IntKind.i64.wrap (9223372036854775807 - x) = 9223372036854775807 - x := wi_of (by simp at h1; unfold Iz; omega)
    cases h2 : decide (9223372036854775807 - x < a)
    · have e1 : IntKind.i64.wrap (x + a) = x + a := wi_of (by simp at h1 h2; unfold Iz; omega)
      have e2 : inB (x + a) = true := by unfold inB; simp at h1 h2; exact decide_eq_true (by omega)
      have e3 : inZ (x + a) = x + a := by unfold inZ; rw [if_pos e2]
      rw [e2, e3]
      clear e2 e3
      go_enter Tryd.func31, Tryd.ntmps31
      go_wp2_with fail
      go_ret2
      exact ⟨rfl, rfl⟩
    · have e2 : inB (x + a) = false := by unfold inB; simp at h1 h2; exact decide_eq_false (by omega)
      have e3 : inZ (x + a) = 0 := by unfold inZ; rw [if_neg (by rw [e2]; simp)]
      rw [e2, e3]
      clear e2 e3
      go_enter Tryd.func31, Tryd.ntmps31
      go_wp2_with fail
      go_ret2
      exact ⟨rfl, rfl⟩
set_option maxRecDepth 100000 in
theorem minus_any (x a : Int) (w : World) (hx : Iz x) (ha : Iz a) (h0 : 0 ≤ a) :
    Calls Tryd.prog 32 #[.int .i64 x, .int .i64 a] w fun e w' => e = .returned (.tuple #[.int .i64 (inZ (x - a)), .bool (inB (x - a))]) ∧ w' = w := by
  unfold Iz at hx ha
  cases h1 : decide (x < 0)
  · have e1 : IntKind.i64.wrap (x - a) = x - a := wi_of (by simp at h1; unfold Iz; omega)
    have e2 : inB (x - a) = true := by unfold inB; simp at h1; exact decide_eq_true (by omega)
    have e3 : inZ (x - a) = x - a := by unfold inZ; rw [if_pos e2]
    rw [e2, e3]
    clear e2 e3
    go_enter Tryd.func32, Tryd.ntmps32
    go_wp2_with fail
    go_ret2
    exact ⟨rfl, rfl⟩
  · obtain ⟨y, hy⟩ : ∃ y, IntKind.i64.wrap (x + 9223372036854775808) = y := ⟨_, rfl⟩
    have hy' : y = x + 9223372036854775808 := by rw [← hy]; exact wi_of (by simp at h1; unfold Iz; omega)
    cases h2 : decide (y < a)
    · have e1 : IntKind.i64.wrap (x - a) = x - a := wi_of (by simp at h1 h2; unfold Iz; omega)
      have e2 : inB (x - a) = true := by unfold inB; simp at h1 h2; exact decide_eq_true (by omega)
      have e3 : inZ (x - a) = x - a := by unfold inZ; rw [if_pos e2]
      rw [e2, e3]
      clear e2 e3 hy'
      go_enter Tryd.func32, Tryd.ntmps32
      go_wp2_with fail
      go_ret2
      exact ⟨rfl, rfl⟩
    · have e2 : inB (x - a) = false := by unfold inB; simp at h1 h2; exact decide_eq_false (by omega)
      have e3 : inZ (x - a) = 0 := by unfold inZ; rw [if_neg (by rw [e2]; simp)]
      rw [e2, e3]
      clear e2 e3 hy'
      go_enter Tryd.func32, Tryd.ntmps32
      go_wp2_with fail
      go_ret2
      exact ⟨rfl, rfl⟩
set_option maxRecDepth 100000 in
theorem rwrong_any (d z : Int) (w : World) : Calls Tryd.prog 34 #[.int .i64 d, .int .i64 z] w fun e w' => e = .returned (.bool (wrgB d z)) ∧ w' = w := by
  unfold wrgB
  by_cases h : d = 0
  · rw [if_pos h]
    subst h
    go_enter Tryd.func34, Tryd.ntmps34
    go_wp2_with fail
    go_ret
    exact ⟨rfl, rfl⟩
  · rw [if_neg h]
    go_enter Tryd.func34, Tryd.ntmps34
    go_wp2_with fail
    go_ret
    exact ⟨rfl, rfl⟩

/-! What is laid: which accounts are debit accounts. -/
def Dl (w : World) : Prop := w.cell? ⟨0, 0, none⟩ = some (.bool true) ∧ w.cell? ⟨0, 1, none⟩ = some (.bool false) ∧ w.cell? ⟨0, 2, none⟩ = some (.bool false)
theorem Dl.later {w w' : World} (h : Dl w) (hb : Below w.heap.size w w') : Dl w' :=
  ⟨(hb.cell (p := ⟨0, 0, none⟩) (cell_lt h.1)).trans h.1, (hb.cell (p := ⟨0, 1, none⟩) (cell_lt h.2.1)).trans h.2.1, (hb.cell (p := ⟨0, 2, none⟩) (cell_lt h.2.2)).trans h.2.2⟩
theorem balZ_iz {d z : Int} (h : fitB z = true) : Iz (balZ d z) := by
  have := fitB_t h
  unfold balZ Iz; split <;> omega
set_option maxRecDepth 100000 in
theorem balance_any (d z : Int) (w : World) (hd : accB d = true) (hz : fitB z = true) (hL : Dl w) :
    Calls Tryd.prog 22 #[.int .i64 d, .int .i64 z] w fun e w' => e = .returned (.int .i64 (balZ d z)) ∧ w' = w := by
  have hd' : 0 ≤ d ∧ d ≤ 2 := of_decide_eq_true hd
  obtain ⟨c0, c1, c2⟩ := hL
  have hz' := fitB_t hz
  have hn : IntKind.i64.wrap (-z) = -z := wi_of (by unfold Iz; omega)
  clear hz hz' hd
  unfold balZ
  obtain rfl | rfl | rfl : d = 0 ∨ d = 1 ∨ d = 2 := by omega
  · rw [if_pos rfl]
    go_enter Tryd.func22, Tryd.ntmps22
    go_wp2_with fail
    go_ret
    exact ⟨rfl, rfl⟩
  · rw [if_neg (by omega)]
    go_enter Tryd.func22, Tryd.ntmps22
    go_wp2_with fail
    go_ret
    exact ⟨rfl, rfl⟩
  · rw [if_neg (by omega)]
    go_enter Tryd.func22, Tryd.ntmps22
    go_wp2_with fail
    go_ret
    exact ⟨rfl, rfl⟩
set_option maxRecDepth 100000 in
theorem isWrong_any (d z : Int) (w : World) (hd : accB d = true) (hz : fitB z = true) (hL : Dl w) :
    Calls Tryd.prog 17 #[.int .i64 d, .int .i64 z] w fun e w' => e = .returned (.bool (wrgB d z)) ∧ w' = w := by
  have hB := balance_any d z w hd hz hL
  have e : decide (balZ d z < 0) = wrgB d z := by
    unfold balZ wrgB
    split
    · rfl
    · apply decide_eq_decide.2; omega
  generalize balZ d z = y at hB e
  generalize wrgB d z = t at e ⊢
  clear hL
  go_enter Tryd.func17, Tryd.ntmps17
  go_wp2_with (refine hB.mono ?_; rintro e1 w1 ⟨rfl, hw1⟩; obtain rfl := hw1.symm)
  go_ret
  exact ⟨rfl, rfl⟩
end Go.Proofs.YtjdgibnpngkhkaaDoor
