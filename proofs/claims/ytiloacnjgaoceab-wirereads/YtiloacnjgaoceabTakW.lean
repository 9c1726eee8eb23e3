import Derived.Test.YtiloacnjgaoceabProg
import Derived.Test.YtiloacnjgaoceabGrA
import Derived.Test.YtiloacnjgaoceabGrB
import Derived.Test.YtiloacnjgaoceabParM
import Derived.Recover
namespace Go.Proofs.Ytiloacnjgaoceab
open Go.RowKit

/-! The bytes that stand next: a variable that holds a slice. -/

theorem Try.szB : (Try.prog.info? 5).map (·.size) = some 1 := by kernel_rfl

/-- what is left behind the first n -/
def Sl.cut (s : Sl) (n : Nat) : Sl := ⟨if s.c = n then s.a else s.a.map (·.add n), s.n - n, s.c - n, s.l.drop n⟩
/-- the first n -/
def Sl.pre (s : Sl) (n : Nat) : Sl := ⟨s.a, n, s.c, s.l.take n⟩
theorem Sl.Ok.cut {w : World} {s : Sl} (h : s.Ok w) {n : Nat} (hn : n ≤ s.n) : (s.cut n).Ok w := by
  have hlen := h.len
  have hle := h.le
  refine ⟨by simp only [Sl.cut, List.length_drop]; omega, by simp only [Sl.cut]; omega, by have := h.mx; simp only [Sl.cut]; omega, ?_, h.isB.drop _, h.lies.from rfl (by omega)⟩
  intro ha
  simp only [Sl.cut] at ha ⊢
  have : s.a = none := by
    split at ha
    · exact ha
    · simpa using ha
  have := h.nn this
  omega
theorem Sl.Ok.pre {w : World} {s : Sl} (h : s.Ok w) {n : Nat} (hn : n ≤ s.n) : (s.pre n).Ok w := by
  have hlen := h.len
  have hle := h.le
  refine ⟨by simp only [Sl.pre, List.length_take]; omega, by simp only [Sl.pre]; omega, h.mx, fun ha => ?_, h.isB.take _, lies_take h.lies n⟩
  have := h.nn ha
  simp only [Sl.pre]; omega
/-- two slices of the same block -/
def Sl.Same (s t : Sl) : Prop := ∀ x, t.a = some x → ∃ y, s.a = some y ∧ y.block = x.block
theorem Sl.Same.refl (s : Sl) : s.Same s := fun x h => ⟨x, h, rfl⟩
theorem Sl.Same.trans {s t r : Sl} (h : s.Same t) (k : t.Same r) : s.Same r := fun x hx => by
  obtain ⟨y, hy, e⟩ := k x hx
  obtain ⟨z, hz, e'⟩ := h y hy
  exact ⟨z, hz, e'.trans e⟩
theorem Sl.same_cut (s : Sl) (n : Nat) : s.Same (s.cut n) := by
  intro x hx
  simp only [Sl.cut] at hx
  split at hx
  · exact ⟨x, hx, rfl⟩
  · simp only [Option.map_eq_some_iff] at hx
    obtain ⟨y, hy, rfl⟩ := hx
    exact ⟨y, hy, by unfold Addr.add; split <;> rfl⟩

/-- the panic of a refusal -/
def gives (c : Int) : Ending := .panicked [{ v := .iface 43 (.int .i64 c), recovered := false }]

/-- the variable u holds s -/
structure Unr (w : World) (u : Nat) (s : Sl) : Prop where
  arr : Arr w u 63 [s.v]
  ok : s.Ok w
  off : 0 < s.l.length → ∀ x, s.a = some x → x.block ≠ u

/-- what a reading of what stands next answers: V tells what the value is -/
def Prs {α : Type} (V : α → Value → World → World → Prop) (u : Nat) (s : Sl) (D : Parse α) (w : World) (e : Ending) (w' : World) : Prop :=
  But u w w' ∧ match D with
    | .ok (x, r) => ∃ v t, e = .returned v ∧ V x v w w' ∧ Unr w' u t ∧ t.l = r ∧ s.Same t
    | .error c => e = gives c
theorem Prs.yes {α : Type} {V : α → Value → World → World → Prop} {u : Nat} {s : Sl} {D : Parse α} {w w' : World} {x : α} {r : List Int} {v : Value} {t : Sl}
    (hD : D = .ok (x, r)) (hB : But u w w') (hV : V x v w w') (hU : Unr w' u t) (hr : t.l = r) (hS : s.Same t) : Prs V u s D w (.returned v) w' := by
  subst hD; exact ⟨hB, v, t, rfl, hV, hU, hr, hS⟩
theorem Prs.no {α : Type} {V : α → Value → World → World → Prop} {u : Nat} {s : Sl} {D : Parse α} {w w' : World} {c : Int}
    (hD : D = .error c) (hB : But u w w') : Prs V u s D w (gives c) w' := by
  subst hD; exact ⟨hB, rfl⟩
/-- a number of this kind -/
def isI (k : IntKind) (x : Int) (v : Value) (_ _ : World) : Prop := v = .int k x
def isN (x : Nat) (v : Value) (_ _ : World) : Prop := v = .int .i64 x
def isT (x : Bool) (v : Value) (_ _ : World) : Prop := v = .bool x
/-- new bytes -/
def isL (x : List Int) (v : Value) (w w' : World) : Prop := w'.ownsRow w.heap.size 5 1 v x.length (U8 x) ∧ IsB x

theorem But.ok {g : Nat} {w w' : World} (h : But g w w') {s : Sl} (hs : s.Ok w) (hg : 0 < s.l.length → ∀ x, s.a = some x → x.block ≠ g) : s.Ok w' :=
  ⟨hs.len, hs.le, hs.mx, hs.nn, hs.isB, h.lies hs.lies hg⟩
theorem Sl.off_same {s t : Sl} {g : Nat} (h : s.Same t) (hl : t.l.length ≤ s.l.length) (hs : 0 < s.l.length → ∀ x, s.a = some x → x.block ≠ g) : 0 < t.l.length → ∀ x, t.a = some x → x.block ≠ g := by
  intro hp x hx
  obtain ⟨y, hy, e⟩ := h x hx
  rw [← e]; exact hs (by omega) y hy
theorem Unr.set {w : World} {u : Nat} {s : Sl} (h : Unr w u s) {n : Nat} (hn : n ≤ s.n) : Unr (w.setCell ⟨u, 0, none⟩ (s.cut n).v) u (s.cut n) := by
  have hb : But u w (w.setCell ⟨u, 0, none⟩ (s.cut n).v) := (But.refl u w).setCell 0 _
  have ho := Sl.off_same (g := u) (s.same_cut n) (by simp [Sl.cut]) h.off
  exact ⟨by simpa using h.arr.set 0 (s.cut n).v, hb.ok (h.ok.cut hn) ho, ho⟩

set_option maxHeartbeats 1000000 in
set_option maxRecDepth 100000 in
theorem take_ok (u : Nat) (s : Sl) (n : Nat) (w : World) (h : Unr w u s) (hn : n ≤ s.n) :
    Calls Try.prog 42 #[.pointer (some ⟨u, 0, none⟩), .int .i64 n] w fun e w' => e = .returned (s.pre n).v ∧ w' = w.setCell ⟨u, 0, none⟩ (s.cut n).v := by
  have hc : w.cell? ⟨u, 0, none⟩ = some s.v := by simpa using h.arr.cell 0
  have hf := h.arr.frozen 0
  have hle := h.ok.le
  have hmx := h.ok.mx
  unfold maxLen at hmx
  obtain ⟨sa, sn, sc, sl⟩ := s
  simp only [Sl.v, Sl.pre, Sl.cut] at *
  clear h
  generalize hB : (if sc = n then sa else sa.map (·.add n)) = B
  have HB := hide hB
  clear hB
  go_enter Try.func42, Try.ntmps42
  go_wp2_with (refine wpList_slice_from rfl 63 (.tmp 25) (.tmp 26) rfl 5 Try.underlying63 Try.szB _ _ _ rfl .i64 _ n rfl rfl hn ?_; intro b hb)
  have hb := (unhide hb).trans (unhide HB)
  subst hb
  go_ret
  exact ⟨rfl, rfl⟩

set_option maxHeartbeats 1000000 in
set_option maxRecDepth 100000 in
theorem take_no (u : Nat) (s : Sl) (n : Int) (w : World) (h : Unr w u s) (hn : n < 0 ∨ (s.n : Int) < n) :
    Calls Try.prog 42 #[.pointer (some ⟨u, 0, none⟩), .int .i64 n] w fun e w' => e = gives 90 ∧ w' = w := by
  have hc : w.cell? ⟨u, 0, none⟩ = some s.v := by simpa using h.arr.cell 0
  have hle := h.ok.le
  have hmx := h.ok.mx
  unfold maxLen at hmx
  obtain ⟨sa, sn, sc, sl⟩ := s
  simp only [Sl.v] at *
  clear h
  by_cases h0 : n < 0
  · clear hn
    go_enter Try.func42, Try.ntmps42
    go_wp2
    exact ⟨rfl, rfl, rfl⟩
  · have hn : (sn : Int) < n := by omega
    go_enter Try.func42, Try.ntmps42
    go_wp2
    exact ⟨rfl, rfl, rfl⟩

theorem Unr.cell {w : World} {u : Nat} {s : Sl} (h : Unr w u s) : w.cell? ⟨u, 0, none⟩ = some s.v := by simpa using h.arr.cell 0
theorem Unr.but {w : World} {u : Nat} (v : Value) : But u w (w.setCell ⟨u, 0, none⟩ v) := (But.refl u w).setCell 0 _

set_option maxHeartbeats 1000000 in
set_option maxRecDepth 100000 in
theorem oneByte_ok (u : Nat) (s : Sl) (w : World) (h : Unr w u s) (hn : 1 ≤ s.n) :
    Calls Try.prog 65 #[.pointer (some ⟨u, 0, none⟩)] w fun e w' => e = .returned (.int .u8 (s.l.getD 0 0)) ∧ w' = w.setCell ⟨u, 0, none⟩ (s.cut 1).v := by
  obtain ⟨bk, off, ha, hlt, hc⟩ := h.ok.lies (by rw [h.ok.len]; omega)
  have hc0 : (w.setCell ⟨u, 0, none⟩ (s.cut 1).v).cell? ⟨bk, off, none⟩ = some (.int .u8 (s.l.getD 0 0)) := by
    rw [Unr.but (s.cut 1).v |>.cell (p := ⟨bk, off, none⟩) hlt (h.off (by rw [h.ok.len]; omega) _ ha)]
    simpa using hc 0 (by rw [h.ok.len]; omega)
  generalize s.l.getD 0 0 = x at *
  have hp : (s.pre 1).v = .slice (some ⟨bk, off, none⟩) 1 s.c := by simp [Sl.pre, Sl.v, ha]
  clear hc
  go_enter Try.func65, Try.ntmps65
  go_wp2_with (go_at_call 42; refine (take_ok u s 1 w h hn).mono ?_; rintro e w' ⟨rfl, rfl⟩; rw [hp])
  go_ret
  exact ⟨rfl, rfl⟩

set_option maxHeartbeats 1000000 in
set_option maxRecDepth 100000 in
theorem oneByte_no (u : Nat) (s : Sl) (w : World) (h : Unr w u s) (hn : s.n = 0) :
    Calls Try.prog 65 #[.pointer (some ⟨u, 0, none⟩)] w fun e w' => e = gives 90 ∧ w' = w := by
  go_enter Try.func65, Try.ntmps65
  go_wp2_with (go_at_call 42; refine (take_no u s 1 w h (by omega)).mono ?_; rintro e w' ⟨rfl, rfl⟩; unfold gives)
  exact ⟨rfl, rfl, rfl⟩
end Go.Proofs.Ytiloacnjgaoceab
