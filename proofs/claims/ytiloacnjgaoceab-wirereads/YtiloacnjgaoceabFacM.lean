import Derived.Test.YtiloacnjgaoceabCatW
import Derived.Test.YtiloacnjgaoceabMemX
namespace Go.Proofs.Ytiloacnjgaoceab
open Go.RowKit

/-- a Reader: what is left, the fault -/
structure Rdr (w : World) (p : Nat) (s : Sl) (f : Int) : Prop where
  arr : Arr w p 65 [s.v, .int .i64 f]
  ok : s.Ok w
  off : ∀ x, s.a = some x → x.block ≠ p ∧ x.block < w.heap.size

/-- what a call of a Reader answers and leaves -/
def Fac {α : Type} (V : α → Value → World → World → Prop) (z : Value) (p : Nat) (s : Sl) (f : Int) (D : Parse α) (w : World) (e : Ending) (w' : World) : Prop :=
  But p w w' ∧ if f ≠ 0 then e = .returned z ∧ Rdr w' p s f else match D with
    | .ok (x, r) => ∃ v t, e = .returned v ∧ V x v w w' ∧ Rdr w' p t 0 ∧ t.l = r ∧ s.Same t
    | .error c => e = .returned z ∧ Rdr w' p s c

theorem Fac.sticks {α : Type} {V : α → Value → World → World → Prop} {z : Value} {p : Nat} {s : Sl} {f : Int} {D : Parse α} {w w' : World}
    (hf : f ≠ 0) (hB : Below w.heap.size w w') (h : Rdr w p s f) : Fac V z p s f D w (.returned z) w' := by
  refine ⟨But.of_below hB, ?_⟩
  rw [if_pos hf]
  exact ⟨rfl, h.arr.later hB, h.ok.later hB, fun x hx => ⟨(h.off x hx).1, Nat.lt_of_lt_of_le (h.off x hx).2 hB.size⟩⟩

/-- what tells of a value holds on: the call began earlier, and the Reader alone was written since -/
def Lasts {α : Type} (V : α → Value → World → World → Prop) : Prop :=
  ∀ x v w0 w1 w2 w3 p l, V x v w1 w2 → w0.heap.size ≤ w1.heap.size → But p w2 w3 → Arr w2 p 65 l → V x v w0 w3
theorem lasts_I (k : IntKind) : Lasts (isI k) := fun _ _ _ _ _ _ _ _ h _ _ _ => h
theorem lasts_N : Lasts isN := fun _ _ _ _ _ _ _ _ h _ _ _ => h
theorem lasts_T : Lasts isT := fun _ _ _ _ _ _ _ _ h _ _ _ => h
theorem lasts_L : Lasts isL := by
  intro x v w0 w1 w2 w3 p l h hs hB hA
  refine ⟨own_mono ((Buts.of_but hB).own h.1 ?_) hs, h.2⟩
  intro g hg e
  subst e
  exact own_arr_ne h.1 hA (by decide) hg


theorem Fac.yes {α : Type} {V : α → Value → World → World → Prop} (hL : Lasts V) {z : Value} {p u : Nat} {s t : Sl} {D : Parse α} {w W w' : World} {x : α} {r : List Int} {v : Value}
    (hD : D = .ok (x, r)) (h : Rdr w p s 0) (hb : Below w.heap.size w W) (hB : But u W w') (hu : w.heap.size ≤ u) (hV : V x v W w') (hU : Unr w' u t) (hr : t.l = r) (hS : s.Same t) :
    Fac V z p s 0 D w (.returned v) (w'.setCell ⟨p, 0, none⟩ t.v) := by
  subst hD
  have hpu : p ≠ u := by have := h.arr.lt; omega
  have hA : Arr w' p 65 [s.v, .int .i64 0] := hB.arr (h.arr.later hb) hpu
  have hB3 : But p w' (w'.setCell ⟨p, 0, none⟩ t.v) := (But.refl p w').setCell 0 _
  have hoff : ∀ x, t.a = some x → x.block ≠ p ∧ x.block < w'.heap.size := fun x hx => by
    obtain ⟨y, hy, e⟩ := hS x hx
    have := h.off y hy
    rw [← e]; exact ⟨this.1, Nat.lt_of_lt_of_le this.2 (Nat.le_trans hb.size hB.size)⟩
  refine ⟨⟨hB3.os.trans (hB.os.trans hb.os), hB3.tape.trans (hB.tape.trans hb.tape), hB3.output.trans (hB.output.trans hb.output), Nat.le_trans hb.size (Nat.le_trans hB.size hB3.size), fun k hk hp => ?_⟩, ?_⟩
  · rw [hB3.block k (Nat.lt_of_lt_of_le hk (Nat.le_trans hb.size hB.size)) hp, hB.block k (Nat.lt_of_lt_of_le hk hb.size) (by omega), hb.block k hk]
  · rw [if_neg (by simp)]
    exact ⟨v, t, rfl, hL x v w W w' _ p _ hV hb.size hB3 hA, ⟨by simpa using hA.set 0 t.v, hB3.ok hU.ok (fun _ x hx => (hoff x hx).1), fun x hx => ⟨(hoff x hx).1, Nat.lt_of_lt_of_le (hoff x hx).2 hB3.size⟩⟩, hr, hS⟩

theorem Fac.no {α : Type} {V : α → Value → World → World → Prop} {z : Value} {p u : Nat} {s : Sl} {D : Parse α} {w W w' w'' : World} {c : Int}
    (hD : D = .error c) (h : Rdr w p s 0) (hb : Below w.heap.size w W) (hB : But u W w') (hu : w.heap.size ≤ u) (hA : Arr w'' p 65 [s.v, .int .i64 c]) (hB3 : But p w' w'') :
    Fac V z p s 0 D w (.returned z) w'' := by
  subst hD
  refine ⟨⟨hB3.os.trans (hB.os.trans hb.os), hB3.tape.trans (hB.tape.trans hb.tape), hB3.output.trans (hB.output.trans hb.output), Nat.le_trans hb.size (Nat.le_trans hB.size hB3.size), fun k hk hp => ?_⟩, ?_⟩
  · rw [hB3.block k (Nat.lt_of_lt_of_le hk (Nat.le_trans hb.size hB.size)) hp, hB.block k (Nat.lt_of_lt_of_le hk hb.size) (by omega), hb.block k hk]
  · rw [if_neg (by simp)]
    refine ⟨rfl, hA, ?_, fun x hx => ⟨(h.off x hx).1, Nat.lt_of_lt_of_le (h.off x hx).2 (Nat.le_trans hb.size (Nat.le_trans hB.size hB3.size))⟩⟩
    exact hB3.ok (hB.ok (h.ok.later hb) (fun _ x hx => by have := (h.off x hx).2; omega)) (fun _ x hx => (h.off x hx).1)

/-- what the reading leaves as it was -/
theorem Rdr.after {w W w' : World} {p : Nat} {s : Sl} {f : Int} (h : Rdr w p s f) {ty : TypeId} {x : Value} (A1 : Arr W w.heap.size ty [x]) (hb : Below w.heap.size w W) (hB : But (w.heap.size + 1) W w') :
    w'.cell? ⟨w.heap.size, 0, none⟩ = some x ∧ w'.cell? ⟨p, 0, none⟩ = some (.slice s.a s.n s.c) ∧ w'.frozen? ⟨p, 0, none⟩ = false ∧ Arr w' w.heap.size ty [x] ∧ Arr w' p 65 [s.v, .int .i64 f] := by
  have A1' := hB.arr A1 (by omega)
  have Ap := hB.arr (h.arr.later hb) (by have := h.arr.lt; omega)
  exact ⟨by simpa using A1'.cell 0, by simpa [Sl.v] using Ap.cell 0, Ap.frozen 0, A1', Ap⟩
theorem Unr.cell' {w : World} {u : Nat} {s : Sl} (h : Unr w u s) : w.cell? ⟨u, 0, none⟩ = some (.slice s.a s.n s.c) := h.cell

/-- where the reading begins -/
theorem Rdr.unr {w W : World} {p : Nat} {s : Sl} {f : Int} (h : Rdr w p s f) (hb : Below w.heap.size w W) {u : Nat} (hu : w.heap.size ≤ u) (hA : Arr W u 63 [s.v]) : Unr W u s :=
  ⟨hA, h.ok.later hb, fun _ x hx => by have := (h.off x hx).2; omega⟩
end Go.Proofs.Ytiloacnjgaoceab
