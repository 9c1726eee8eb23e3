import Derived.Test.YtmdpmkdofgligaaAppT
import Derived.Test.YtmdpmkdofgligaaShA13
import Derived.Test.YtmdpmkdofgligaaSaW
namespace Go.Proofs.Ytmdpmkdofgligaa
open Go.RowKit

theorem Try.infoS : (Try.prog.info? 29).map (fun i => (i.zero, i.size, i.bytes)) = some (some (.slice none 0 0), 1, 24) := by kernel_rfl
/-- the slices of a list -/
def vsOf (P : Nat → Sl) (N : Nat) : List Value := (List.range N).map fun i => (P i).v
theorem vsOf_at (P : Nat → Sl) (N i : Nat) (h : i < N) : (vsOf P N)[i]? = some (P i).v := by simp [vsOf, h]
theorem vsOf_succ (P : Nat → Sl) (N : Nat) (s : Sl) : vsOf P N ++ [s.v] = vsOf (fun i => if i = N then s else P i) (N + 1) := by
  unfold vsOf
  rw [List.range_succ, List.map_append]
  congr 1
  · apply List.map_congr_left
    intro i hi
    have : i < N := List.mem_range.1 hi
    simp only [show i ≠ N by omega, if_false]
  · simp
@[simp] theorem vsOf_length (P : Nat → Sl) (N : Nat) : (vsOf P N).length = N := by simp [vsOf]
/-- a slice's bytes lie in none of that row's memory -/
def Sl.Off (s : Sl) (b : Option Nat) : Prop := 0 < s.l.length → ∀ x, s.a = some x → some x.block ≠ b
/-- an answer: a whole block of its own, or nothing -/
structure Ans (B : Nat) (s : Sl) (wr : World) : Prop where
  ok : s.Ok wr
  full : s.c = s.n
  row : 0 < s.l.length → ∃ g E, s.a = some ⟨g, 0, none⟩ ∧ B ≤ g ∧ Arr wr g 5 (U8 s.l ++ E)
theorem Ans.later {B : Nat} {s : Sl} {wr w' : World} (h : Ans B s wr) (hb : Below wr.heap.size wr w') : Ans B s w' :=
  ⟨h.ok.later hb, h.full, fun hp => let ⟨g, E, h1, h2, h3⟩ := h.row hp; ⟨g, E, h1, h2, h3.later hb⟩⟩
/-- the shelf, with what was put on it -/
structure Shf (w : World) (gS N : Nat) (P Q : Nat → Sl) (lv wv : Value) (wr : World) : Prop where
  s : Arr wr gS 26 [lv, wv]
  ge : w.heap.size ≤ gS
  lrow : wr.ownsRow w.heap.size 29 1 lv N (vsOf P N)
  wrow : wr.ownsRow w.heap.size 29 1 wv N (vsOf Q N)
  apt : Apt lv wv
  p : ∀ i, i < N → Ans w.heap.size (P i) wr
  q : ∀ i, i < N → (Q i).Ok wr
  eq : ∀ i, i < N → (P i).l = (Q i).l
  sz : ∀ i, i < N → (P i).n ≤ 100000
  pp : ∀ i j, i < N → j < N → i ≠ j → 0 < (P j).l.length → ∀ y, (P j).a = some y → (P i).Off (some y.block)
  pq : ∀ i j, i < N → j < N → 0 < (P i).l.length → ∀ y, (P i).a = some y → (Q j).Off (some y.block)
  ql : ∀ i, i < N → (Q i).Off lv.ownBlock
  qw : ∀ i, i < N → (Q i).Off wv.ownBlock
  qs : ∀ i, i < N → (Q i).Off (some gS)
  bel : Below w.heap.size w wr
theorem Shf.later {w : World} {gS N : Nat} {P Q : Nat → Sl} {lv wv : Value} {wr w' : World} (h : Shf w gS N P Q lv wv wr) (hb : Below wr.heap.size wr w') : Shf w gS N P Q lv wv w' :=
  ⟨h.s.later hb, h.ge, own_later h.lrow hb, own_later h.wrow hb, h.apt, fun i hi => (h.p i hi).later hb, fun i hi => (h.q i hi).later hb, h.eq, h.sz, h.pp, h.pq, h.ql, h.qw, h.qs, h.bel.trans (hb.mono h.bel.size)⟩
/-- a row of slices lies in no block of another kind -/
theorem own_ne_arr {w : World} {base e n g : Nat} {ty : TypeId} {v : Value} {xs l : List Value} (h : w.ownsRow base e 1 v n xs) (ha : Arr w g ty l) (ht : ty ≠ e) : some g ≠ v.ownBlock := by
  intro e1
  rcases h.2 with ⟨rfl, -⟩ | ⟨g', cap, cur, rfl, -, hg, -⟩
  · simp [Value.ownBlock] at e1
  · simp only [Value.ownBlock, Option.some.injEq] at e1
    subst e1
    unfold Arr at ha
    rw [hg] at ha
    simp only [Option.some.injEq, Obj.cells.injEq] at ha
    exact ht ha.2.1.symm
end Go.Proofs.Ytmdpmkdofgligaa
