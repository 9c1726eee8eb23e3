import Derived.Test.YtkagnpnicbddlaaDoorTurnW
import Derived.Test.YtkagnpnicbddlaaDoorMacM
import Derived.Test.YtkagnpnicbddlaaDoorSumW
import Derived.Test.YtkagnpnicbddlaaDoorAppG
namespace Go.Proofs.YtkagnpnicbddlaaDoor
open Go.RowKit

theorem below_drew (w : World) : Below w.heap.size w w.drew := ⟨rfl, rfl, rfl, Nat.le_refl _, fun _ _ => rfl⟩
/-- what stands through a keyed hash: the frame, the result's cell -/
structure KyS (w : World) (gF gR : Nat) (ty : TypeId) (n : Nat) (F : List Int) (wr : World) : Prop where
  fr : Arr wr gF 5 (U8 F)
  res : ∃ Z : List Value, Z.length = n ∧ Arr wr gR ty Z
  bel : Below w.heap.size w wr
theorem KyS.later {w : World} {gF gR : Nat} {ty : TypeId} {n : Nat} {F : List Int} {wr w' : World} (s : KyS w gF gR ty n F wr) (hb : Below wr.heap.size wr w') : KyS w gF gR ty n F w' :=
  ⟨s.fr.later hb, let ⟨Z, h, hA⟩ := s.res; ⟨Z, h, hA.later hb⟩, s.bel.trans (hb.mono s.bel.size)⟩
theorem KyS.okF {w : World} {gF gR : Nat} {ty : TypeId} {n : Nat} {F : List Int} {wr : World} (s : KyS w gF gR ty n F wr) (k : Nat) (hl : F.length = k) (hB : IsB F) (hm : k ≤ maxLen) : Sl.Ok wr ⟨some ⟨gF, 0, none⟩, k, k, F⟩ :=
  ⟨hl, Nat.le_refl _, hm, (fun h => by cases h), hB, s.fr.lies⟩
theorem KyS.kept {w : World} {gF gR : Nat} {ty : TypeId} {n : Nat} {F : List Int} {wr : World} (s : KyS w gF gR ty n F wr) {g : Nat} {v : Value} (h : w.cell? ⟨g, 0, none⟩ = some v) : wr.cell? ⟨g, 0, none⟩ = some v :=
  (s.bel.cell (p := ⟨g, 0, none⟩) (cell_lt h)).trans h
theorem KyS.setRow {w : World} {gF gR : Nat} {ty : TypeId} {n : Nat} {F : List Int} {wr : World} (s : KyS w gF gR ty n F wr) {g : Nat} (c : Array Value) (h1 : gF < g) (h2 : gR < g) (h3 : w.heap.size ≤ gR) : KyS w gF gR ty n F (wr.setRow g c) :=
  ⟨s.fr.setRow_ne c (by omega), let ⟨Z, h, hA⟩ := s.res; ⟨Z, h, hA.setRow_ne c (by omega)⟩, below_setRow s.bel (by omega) c⟩
/-- .. and the inner hash -/
structure KyT (w : World) (gF gR : Nat) (ty : TypeId) (n : Nat) (F : List Int) (gI : Nat) (R : List Int) (wr : World) : Prop where
  s : KyS w gF gR ty n F wr
  inn : Arr wr gI ty (U8 R)
theorem KyT.later {w : World} {gF gR : Nat} {ty : TypeId} {n : Nat} {F : List Int} {gI : Nat} {R : List Int} {wr w' : World} (s : KyT w gF gR ty n F gI R wr) (hb : Below wr.heap.size wr w') : KyT w gF gR ty n F gI R w' := ⟨s.s.later hb, s.inn.later hb⟩
theorem KyS.resLt {w : World} {gF gR : Nat} {ty : TypeId} {n : Nat} {F : List Int} {wr : World} (s : KyS w gF gR ty n F wr) : gR < wr.heap.size := let ⟨_, _, hA⟩ := s.res; hA.lt
theorem KyT.setRes {w : World} {gF gR : Nat} {ty : TypeId} {n : Nat} {F : List Int} {gI : Nat} {R : List Int} {wr : World} (s : KyT w gF gR ty n F gI R wr) {R2 : List Int} (h : R2.length = n) (h1 : gR < gF) (h2 : gR < gI) (h3 : w.heap.size ≤ gR) : KyT w gF gR ty n F gI R (wr.setRow gR (U8 R2).toArray) :=
  ⟨⟨s.s.fr.setRow_ne _ (by omega), let ⟨_, _, hA⟩ := s.s.res; ⟨U8 R2, by simpa using h, hA.setRow (U8 R2)⟩, below_setRow s.s.bel h3 _⟩, s.inn.setRow_ne _ (by omega)⟩
theorem KyT.rI {w : World} {gF gR : Nat} {ty : TypeId} {n : Nat} {F : List Int} {gI : Nat} {R : List Int} (wr : World) (s : KyT w gF gR ty n F gI R wr) : wr.rangeAt gI 0 (U8 R) := fun j v hv => by rw [Nat.zero_add, s.inn.cell]; exact hv
theorem Sl.Ok.src {w : World} {s : Sl} (h : s.Ok w) : 0 < (U8 s.l).length → ∃ ad, s.a = some ad ∧ ∀ j v, (U8 s.l)[j]? = some v → w.cell? (ad.add j) = some v := by
  intro hp
  obtain ⟨b, off, ha, -, -⟩ := h.lies (by simpa using hp)
  exact ⟨_, ha, h.cells _ ha⟩
theorem new_row (w : World) (ty : TypeId) (l : List Value) (W : World) (h : w.alloc (.cells l.toArray ty (0, 0)) = W) : Arr W w.heap.size ty l ∧ Below w.heap.size w W := by
  subst h; exact ⟨Arr.new _ _ _, (Below.refl _ _).alloc (Nat.le_refl _) _⟩
theorem below_alloc (w : World) (o : Obj) : Below w.heap.size w (w.alloc o) := (Below.refl _ _).alloc (Nat.le_refl _) _
theorem liesV_new (w : World) (ty : TypeId) (vs : List Value) : LiesV (w.alloc (.cells vs.toArray ty (0, 0))) (some ⟨w.heap.size, 0, none⟩) vs := by
  intro _
  refine ⟨w.heap.size, 0, rfl, by simp, fun i v hv => ?_⟩
  rw [Nat.zero_add, (Arr.new w ty vs).cell]; exact hv
theorem liesV_two (w : World) (ty : TypeId) (a b : Value) : LiesV (w.alloc (.cells #[a, b] ty (0, 0))) (some ⟨w.heap.size, 0, none⟩) [a, b] := liesV_new w ty [a, b]
theorem liesV_at {w W : World} {ty : TypeId} {a b : Value} (h : w.alloc (.cells #[a, b] ty (0, 0)) = W) : LiesV W (some ⟨w.heap.size, 0, none⟩) [a, b] := by subst h; exact liesV_two w ty a b
theorem below_at {w W : World} {o : Obj} (h : w.alloc o = W) : Below w.heap.size w W := by subst h; exact below_alloc w o
theorem join_two (pa : Option Addr) (pc : Nat) (s t : Sl) (w : World) (J : List Int) (jn : Nat) (hs : s.Ok w) (ht : t.Ok w) (hJ : Hid (s.l ++ t.l = J)) (hj : Hid (J.length = jn)) (hv : LiesV w pa [s.v, t.v]) (hn : jn ≤ 1099511627776) :
    Calls Tryd.prog 20 #[.slice pa 2 pc] w fun e w' => e = .returned (.slice (some ⟨w.heap.size, 0, none⟩) jn jn) ∧
      w'.ownsRow w.heap.size 5 1 (.slice (some ⟨w.heap.size, 0, none⟩) jn jn) jn (U8 J) ∧ Below w.heap.size w w' := by
  have hc : cat [s, t] = J := by rw [← unhide hJ]; simp [cat]
  have h := join_any pa pc [s, t] w hv (by intro x hx; simp at hx; rcases hx with rfl | rfl <;> assumption) (by simp) (by rw [hc, unhide hj]; exact hn)
  rw [hc, unhide hj] at h
  exact h
theorem mturned_named (a : Option Addr) (n c : Nat) (l : List Int) (y : Int) (w : World) (X : List Int) (hX : Hid (X = xorC y l)) (hs : Sl.Ok w ⟨a, n, c, l⟩) (hn : n ≤ 1024) :
    Calls Tryd.prog 41 #[.slice a n c, .int .u8 y] w fun e w' => e = .returned (.slice (some ⟨w.heap.size, 0, none⟩) n n) ∧
      Sl.Ok w' ⟨some ⟨w.heap.size, 0, none⟩, n, n, X⟩ ∧ Below w.heap.size w w' := by
  refine (mturned_any a n c l y w hs hn).mono ?_
  rintro e w' ⟨rfl, ho, hb⟩
  rw [← unhide hX] at ho
  exact ⟨rfl, Sl.Ok.of_own ho (by rw [unhide hX]; exact xorC_isB y l), hb⟩
theorem splice_pad (n : Nat) (k : List Int) : splice (U8 (List.replicate n 0)) 0 (U8 k) = U8 (padTo n k) := by
  unfold splice padTo
  simp [U8, List.map_append]
end Go.Proofs.YtkagnpnicbddlaaDoor
