import Derived.Test.YtdcaojiiaocnaaaDoorQGrA
import Derived.Test.YtdcaojiiaocnaaaDoorQGrB
namespace Go.Proofs.YtdcaojiiaocnaaaDoor
open Go.RowKit

/-! What is written, told by a set of blocks. -/

structure Buts (S : Nat → Prop) (w w' : World) : Prop where
  os : w'.os = w.os
  tape : w'.tape = w.tape
  output : w'.output = w.output
  size : w.heap.size ≤ w'.heap.size
  block : ∀ k, k < w.heap.size → ¬ S k → w'.heap[k]? = w.heap[k]?
theorem Buts.refl (S : Nat → Prop) (w : World) : Buts S w w := ⟨rfl, rfl, rfl, Nat.le_refl _, fun _ _ _ => rfl⟩
theorem Buts.trans {S : Nat → Prop} {a b c : World} (x : Buts S a b) (y : Buts S b c) : Buts S a c :=
  ⟨y.os.trans x.os, y.tape.trans x.tape, y.output.trans x.output, Nat.le_trans x.size y.size, fun i hi h => (y.block i (Nat.lt_of_lt_of_le hi x.size) h).trans (x.block i hi h)⟩
/-- what is written later may be another set, on new blocks -/
theorem Buts.trans' {S T : Nat → Prop} {a b c : World} (x : Buts S a b) (y : Buts T b c) (h : ∀ k, k < a.heap.size → T k → S k) : Buts S a c :=
  ⟨y.os.trans x.os, y.tape.trans x.tape, y.output.trans x.output, Nat.le_trans x.size y.size, fun i hi hs => (y.block i (Nat.lt_of_lt_of_le hi x.size) (fun ht => hs (h i hi ht))).trans (x.block i hi hs)⟩
theorem Buts.mono {S T : Nat → Prop} {a b : World} (x : Buts S a b) (h : ∀ k, k < a.heap.size → S k → T k) : Buts T a b :=
  ⟨x.os, x.tape, x.output, x.size, fun i hi ht => x.block i hi (fun hs => ht (h i hi hs))⟩
theorem Buts.of_but {p : Nat} {a b : World} (x : But p a b) : Buts (· = p) a b := ⟨x.os, x.tape, x.output, x.size, fun i hi h => x.block i hi h⟩
theorem Buts.to_but {p : Nat} {a b : World} (x : Buts (· = p) a b) : But p a b := ⟨x.os, x.tape, x.output, x.size, fun i hi h => x.block i hi h⟩
theorem Buts.of_below {S : Nat → Prop} {a b : World} (x : Below a.heap.size a b) : Buts S a b := ⟨x.os, x.tape, x.output, x.size, fun i hi _ => x.block i hi⟩
theorem Buts.below {S : Nat → Prop} {a b : World} (x : Buts S a b) {B : Nat} (hB : B ≤ a.heap.size) (h : ∀ k, S k → B ≤ k) : Below B a b :=
  ⟨x.os, x.tape, x.output, x.size, fun i hi => x.block i (Nat.lt_of_lt_of_le hi hB) (fun hs => by have := h i hs; omega)⟩
theorem Buts.setCell {S : Nat → Prop} {a b : World} (x : Buts S a b) {g : Nat} (hg : S g) (i : Nat) (v : Value) : Buts S a (b.setCell ⟨g, i, none⟩ v) :=
  x.trans ((Buts.of_but ((But.refl g b).setCell i v)).mono (fun k _ e => by subst e; exact hg))
theorem Buts.arr {S : Nat → Prop} {a b : World} (x : Buts S a b) {g : Nat} {ty : TypeId} {l : List Value} (h : Arr a g ty l) (hg : ¬ S g) : Arr b g ty l := (x.block g h.lt hg).trans h
theorem Buts.own {S : Nat → Prop} {a b : World} (x : Buts S a b) {base e sz n : Nat} {v : Value} {xs : List Value} (h : a.ownsRow base e sz v n xs) (hg : ∀ g, v.ownBlock = some g → ¬ S g) : b.ownsRow base e sz v n xs := by
  refine ⟨h.1, ?_⟩
  rcases h.2 with h2 | ⟨g, cap, cur, h1, h2, h3, h4⟩
  · exact .inl h2
  · have hgl : g < a.heap.size := (h.lt g (by rw [h1]; rfl)).2
    exact .inr ⟨g, cap, cur, h1, h2, (x.block g hgl (hg g (by rw [h1]; rfl))).trans h3, h4⟩
theorem Buts.lies {S : Nat → Prop} {a b : World} (x : Buts S a b) {ad : Option Addr} {l : List Int} (hl : Lies a ad l) (hg : 0 < l.length → ∀ y, ad = some y → ¬ S y.block) : Lies b ad l := by
  intro hp
  obtain ⟨bk, off, rfl, hlt, hc⟩ := hl hp
  exact ⟨bk, off, rfl, Nat.lt_of_lt_of_le hlt x.size, fun i hi => (World.cell?_of_block (w := a) (w' := b) (a := ⟨bk, off + i, none⟩) (x.block bk hlt (hg hp _ rfl))).trans (hc i hi)⟩
theorem Buts.ok {S : Nat → Prop} {a b : World} (x : Buts S a b) {s : Sl} (h : s.Ok a) (hg : 0 < s.l.length → ∀ y, s.a = some y → ¬ S y.block) : s.Ok b :=
  ⟨h.len, h.le, h.mx, h.nn, h.isB, x.lies h.lies hg⟩

theorem own_arr_ne {w : World} {base e n g sz : Nat} {ty : TypeId} {v : Value} {xs l : List Value} (h : w.ownsRow base e sz v n xs) (ha : Arr w g ty l) (ht : ty ≠ e) : v.ownBlock ≠ some g := by
  intro e1
  rcases h.2 with ⟨rfl, -⟩ | ⟨g', cap, cur, rfl, -, hg, -⟩
  · simp [Value.ownBlock] at e1
  · simp only [Value.ownBlock, Option.some.injEq] at e1
    subst e1
    unfold Arr at ha
    rw [hg] at ha
    simp only [Option.some.injEq, Obj.cells.injEq] at ha
    exact ht ha.2.1.symm
theorem own_mono {w : World} {base base' e sz n : Nat} {v : Value} {xs : List Value} (h : w.ownsRow base e sz v n xs) (hb : base' ≤ base) : w.ownsRow base' e sz v n xs := by
  refine ⟨h.1, ?_⟩
  rcases h.2 with h2 | ⟨g, cap, cur, h1, h2, h3⟩
  · exact .inl h2
  · exact .inr ⟨g, cap, cur, h1, Nat.le_trans hb h2, h3⟩
/-- it lies where its block does -/
theorem own_to {w : World} {base base' e sz n : Nat} {v : Value} {xs : List Value} (h : w.ownsRow base e sz v n xs) (hb : ∀ g, v.ownBlock = some g → base' ≤ g) : w.ownsRow base' e sz v n xs := by
  refine ⟨h.1, ?_⟩
  rcases h.2 with h2 | ⟨g, cap, cur, h1, h2, h3⟩
  · exact .inl h2
  · exact .inr ⟨g, cap, cur, h1, hb g (by rw [h1]; rfl), h3⟩
theorem arr_ne {w : World} {g g' : Nat} {ty ty' : TypeId} {l l' : List Value} (h : Arr w g ty l) (h' : Arr w g' ty' l') (ht : ty ≠ ty') : g ≠ g' := by
  intro e
  subst e
  unfold Arr at h h'
  rw [h] at h'
  simp only [Option.some.injEq, Obj.cells.injEq] at h'
  exact ht h'.2.1
end Go.Proofs.YtdcaojiiaocnaaaDoor
