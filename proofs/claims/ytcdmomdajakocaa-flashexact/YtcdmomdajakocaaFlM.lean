import Derived.Test.YtcdmomdajakocaaProg
import Derived.Test.YtcdmomdajakocaaAppT
import Derived.Test.YtcdmomdajakocaaMemX
import Derived.Test.YtcdmomdajakocaaShM
namespace Go.Proofs.Ytcdmomdajakocaa
open Go.RowKit

/-! The flash: what it is, and where it lies. -/

/-- rows of one's own, of any width -/
theorem own_keepG {w w' : World} {base e sz n : Nat} {v : Value} {xs : List Value} {row : Option Nat} (h : w.ownsRow base e sz v n xs) (hg : w.grownBy w' row) (hne : ∀ g, v.ownBlock = some g → some g ≠ row) : w'.ownsRow base e sz v n xs := by
  refine ⟨h.1, ?_⟩
  rcases h.2 with h2 | ⟨g, cap, cur, h1, h2, h3, h4⟩
  · exact .inl h2
  · have hgl : g < w.heap.size := (h.lt g (by rw [h1]; rfl)).2
    exact .inr ⟨g, cap, cur, h1, h2, (hg.block g hgl (hne g (by rw [h1]; rfl))).trans h3, h4⟩
theorem own_neG {w : World} {base base' n n' e e' sz sz' : Nat} {v v' : Value} {xs xs' : List Value} (h : w.ownsRow base e sz v n xs) (h' : w.ownsRow base' e' sz' v' n' xs') (he : e ≠ e') : ∀ g, v.ownBlock = some g → some g ≠ v'.ownBlock := by
  intro g hg hv
  rcases h.2 with ⟨rfl, -⟩ | ⟨g1, cap, cur, rfl, -, h1, -⟩
  · simp [Value.ownBlock] at hg
  rcases h'.2 with ⟨rfl, -⟩ | ⟨g2, cap', cur', rfl, -, h2, -⟩
  · simp [Value.ownBlock] at hv
  simp only [Value.ownBlock, Option.some.injEq] at hg hv
  subst hg hv
  rw [h1] at h2
  simp at h2
  exact he h2.2
theorem own_laterG {w w' : World} {base e sz n : Nat} {v : Value} {xs : List Value} (h : w.ownsRow base e sz v n xs) (hb : Below w.heap.size w w') : w'.ownsRow base e sz v n xs := by
  refine ⟨h.1, ?_⟩
  rcases h.2 with h2 | ⟨g, cap, cur, h1, h2, h3, h4⟩
  · exact .inl h2
  · have hgl : g < w.heap.size := (h.lt g (by rw [h1]; rfl)).2
    exact .inr ⟨g, cap, cur, h1, h2, (hb.block g hgl).trans h3, h4⟩
theorem own_parts {w : World} {base e sz n : Nat} {v : Value} {xs : List Value} (h : w.ownsRow base e sz v n xs) : ∃ a c, v = .slice a n c := by
  rcases h.2 with ⟨rfl, rfl⟩ | ⟨g, cap, cur, rfl, -⟩
  · exact ⟨_, _, rfl⟩
  · exact ⟨_, _, rfl⟩

/-- a row of bytes of one's own -/
def OwB (w : World) (v : Value) (l : List Int) : Prop := w.ownsRow 0 5 1 v l.length (U8 l) ∧ IsB l
theorem OwB.later {w w' : World} {v : Value} {l : List Int} (h : OwB w v l) (hb : Below w.heap.size w w') : OwB w' v l := ⟨own_laterG h.1 hb, h.2⟩
theorem OwB.keep {S : Nat → Prop} {w w' : World} {v : Value} {l : List Int} (h : OwB w v l) (hb : Buts S w w') (hg : ∀ g, v.ownBlock = some g → ¬ S g) : OwB w' v l := ⟨hb.own h.1 hg, h.2⟩
theorem OwB.lt {w : World} {v : Value} {l : List Int} (h : OwB w v l) : ∀ k, v.ownBlock = some k → k < w.heap.size := fun k hk => (h.1.lt k hk).2
theorem OwB.nil (w : World) : OwB w (.slice none 0 0) [] := ⟨World.ownsRow_nil w 0 _ 1, fun x hx => by simp at hx⟩
theorem OwB.sl {w : World} {v : Value} {l : List Int} (h : OwB w v l) : ∃ s : Sl, v = s.v ∧ s.Ok w ∧ s.l = l ∧ s.n = l.length ∧ ∀ x, s.a = some x → v.ownBlock = some x.block := by
  obtain ⟨s, h1, h2, h3, h4, -⟩ := own_sl h.1 h.2
  exact ⟨s, h1, h2, h3, h4, fun x hx => by rw [h1]; simp [Sl.v, hx, Value.ownBlock]⟩
/-- bytes told in new memory -/
def BPost (l : List Int) (w : World) (e : Ending) (w' : World) : Prop :=
  ∃ v, e = .returned v ∧ OwB w' v l ∧ (∀ k, v.ownBlock = some k → w.heap.size ≤ k) ∧ Below w.heap.size w w'

/-- a flash -/
structure FlS where
  size : Nat
  l0 : List Int
  l1 : List Int
  q : List (Int × Int)
  down : Bool
  wr : Nat
def Cr (q : List (Int × Int)) : List Value := q.flatMap fun x => [.int .i64 x.1, .int .i64 x.2]
theorem Cr_cons (x : Int × Int) (q : List (Int × Int)) : Cr (x :: q) = .int .i64 x.1 :: .int .i64 x.2 :: Cr q := rfl
theorem Cr_app (a b : List (Int × Int)) : Cr (a ++ b) = Cr a ++ Cr b := by simp [Cr]
theorem Cr_len (q : List (Int × Int)) : (Cr q).length = q.length * 2 := by
  induction q with
  | nil => rfl
  | cons a t ih => rw [Cr_cons, List.length_cons, List.length_cons, List.length_cons, ih]; omega
theorem Cr_one (q : List (Int × Int)) : ∀ u ∈ Cr q, u.oneCell' = true := by
  intro u hu
  simp only [Cr, List.mem_flatMap] at hu
  obtain ⟨x, -, hx⟩ := hu
  simp at hx
  rcases hx with rfl | rfl <;> rfl
structure FlS.Ok (s : FlS) : Prop where
  b0 : IsB s.l0
  b1 : IsB s.l1
  z0 : s.l0.length ≤ s.size
  z1 : s.l1.length ≤ s.size
  mx : s.size ≤ 1048576
  ql : s.q.length ≤ 64
  qb : ∀ x ∈ s.q, 1 ≤ x.1 ∧ x.1 ≤ 1000000 ∧ 0 ≤ x.2 ∧ x.2 ≤ 1048576
structure Fls (w : World) (p : Nat) (v0 v1 qv : Value) (s : FlS) : Prop where
  arr : Arr w p 44 [.int .i64 s.size, v0, v1, qv, .bool s.down, .int .i64 s.wr]
  o0 : w.ownsRow 0 5 1 v0 s.l0.length (U8 s.l0)
  o1 : w.ownsRow 0 5 1 v1 s.l1.length (U8 s.l1)
  oq : w.ownsRow 0 82 2 qv s.q.length (Cr s.q)
  ne : ∀ k, v0.ownBlock = some k → v1.ownBlock ≠ some k
  ok : s.Ok
def FSet (p : Nat) (v0 v1 qv : Value) (k : Nat) : Prop := k = p ∨ v0.ownBlock = some k ∨ v1.ownBlock = some k ∨ qv.ownBlock = some k
def Fl (w : World) (p : Nat) (S : Nat → Prop) (s : FlS) : Prop := ∃ v0 v1 qv, Fls w p v0 v1 qv s ∧ S = FSet p v0 v1 qv
theorem Fls.n0 {w : World} {p : Nat} {v0 v1 qv : Value} {s : FlS} (h : Fls w p v0 v1 qv s) : v0.ownBlock ≠ some p := own_arr_ne h.o0 h.arr (by decide)
theorem Fls.n1 {w : World} {p : Nat} {v0 v1 qv : Value} {s : FlS} (h : Fls w p v0 v1 qv s) : v1.ownBlock ≠ some p := own_arr_ne h.o1 h.arr (by decide)
theorem Fls.nq {w : World} {p : Nat} {v0 v1 qv : Value} {s : FlS} (h : Fls w p v0 v1 qv s) : qv.ownBlock ≠ some p := own_arr_ne h.oq h.arr (by decide)
theorem Fls.q0 {w : World} {p : Nat} {v0 v1 qv : Value} {s : FlS} (h : Fls w p v0 v1 qv s) : ∀ g, qv.ownBlock = some g → v0.ownBlock ≠ some g := fun g hg e => own_neG h.oq h.o0 (by decide) g hg e.symm
theorem Fls.q1 {w : World} {p : Nat} {v0 v1 qv : Value} {s : FlS} (h : Fls w p v0 v1 qv s) : ∀ g, qv.ownBlock = some g → v1.ownBlock ≠ some g := fun g hg e => own_neG h.oq h.o1 (by decide) g hg e.symm
theorem Fls.keep {S : Nat → Prop} {w w' : World} {p : Nat} {v0 v1 qv : Value} {s : FlS} (h : Fls w p v0 v1 qv s) (hb : Buts S w w') (hd : ∀ k, FSet p v0 v1 qv k → ¬ S k) : Fls w' p v0 v1 qv s :=
  ⟨hb.arr h.arr (hd p (.inl rfl)), hb.own h.o0 (fun g hg => hd g (.inr (.inl hg))), hb.own h.o1 (fun g hg => hd g (.inr (.inr (.inl hg)))), hb.own h.oq (fun g hg => hd g (.inr (.inr (.inr hg)))), h.ne, h.ok⟩
theorem Fls.lt {w : World} {p : Nat} {v0 v1 qv : Value} {s : FlS} (h : Fls w p v0 v1 qv s) : ∀ k, FSet p v0 v1 qv k → k < w.heap.size := by
  rintro k (rfl | hk | hk | hk)
  · exact h.arr.lt
  · exact (h.o0.lt k hk).2
  · exact (h.o1.lt k hk).2
  · exact (h.oq.lt k hk).2
theorem Fl.keep {S T : Nat → Prop} {w w' : World} {p : Nat} {s : FlS} (h : Fl w p S s) (hb : Buts T w w') (hd : ∀ k, S k → ¬ T k) : Fl w' p S s := by
  obtain ⟨v0, v1, qv, hf, rfl⟩ := h
  exact ⟨v0, v1, qv, hf.keep hb hd, rfl⟩
theorem Fl.lt {S : Nat → Prop} {w : World} {p : Nat} {s : FlS} (h : Fl w p S s) : ∀ k, S k → k < w.heap.size := by
  obtain ⟨v0, v1, qv, hf, rfl⟩ := h
  exact hf.lt
theorem Fl.ok {S : Nat → Prop} {w : World} {p : Nat} {s : FlS} (h : Fl w p S s) : s.Ok := by
  obtain ⟨v0, v1, qv, hf, rfl⟩ := h
  exact hf.ok
theorem Fl.later {S : Nat → Prop} {w w' : World} {p : Nat} {s : FlS} (h : Fl w p S s) (hb : Below w.heap.size w w') : Fl w' p S s :=
  h.keep (Buts.of_below (S := fun _ => False) hb) (fun _ _ h => h)
/-- what a call leaves of a flash -/
structure FSt (p : Nat) (S : Nat → Prop) (s' : FlS) (w w' : World) (S' : Nat → Prop) : Prop where
  fl : Fl w' p S' s'
  but : Buts S w w'
  at_ : ∀ k, S' k → S k ∨ w.heap.size ≤ k
theorem FSt.refl {p : Nat} {S : Nat → Prop} {s : FlS} {w : World} (h : Fl w p S s) : FSt p S s w w S := ⟨h, Buts.refl _ _, fun _ h => .inl h⟩
theorem FSt.trans {p : Nat} {S S1 S2 : Nat → Prop} {s1 s2 : FlS} {w w1 w2 : World} (h : FSt p S s1 w w1 S1) (k : FSt p S1 s2 w1 w2 S2) : FSt p S s2 w w2 S2 := by
  refine ⟨k.fl, h.but.trans' k.but (fun i hi hs => ?_), fun i hi => ?_⟩
  · rcases h.at_ i hs with h1 | h1
    · exact h1
    · omega
  · rcases k.at_ i hi with h1 | h1
    · exact h.at_ i h1
    · exact .inr (Nat.le_trans h.but.size h1)
theorem FSt.later {p : Nat} {S S' : Nat → Prop} {s : FlS} {w W w' : World} (hb : Below w.heap.size w W) (h : FSt p S s W w' S') : FSt p S s w w' S' :=
  ⟨h.fl, (Buts.of_below hb).trans h.but, fun k hk => (h.at_ k hk).imp id (fun h1 => Nat.le_trans hb.size h1)⟩
theorem FSt.then {p : Nat} {S S' : Nat → Prop} {s : FlS} {w W w' : World} (h : FSt p S s w W S') (hb : Below W.heap.size W w') : FSt p S s w w' S' :=
  ⟨h.fl.later hb, h.but.trans (Buts.of_below hb), h.at_⟩
/-- what the calls do -/
def FlS.ref (s : FlS) (bank : Int) : Int := if bank < 0 ∨ 2 ≤ bank then 120 else if s.down then 121 else 0
def FlS.bk (s : FlS) (i : Int) : List Int := if i = 0 then s.l0 else s.l1
def FlS.setB (s : FlS) (i : Int) (l : List Int) : FlS := if i = 0 then { s with l0 := l } else { s with l1 := l }
def cntQ : List (Int × Int) → List (Int × Int) × Int × Bool
  | [] => ([], 0, false)
  | x :: r => if 1 < x.1 then ((x.1 - 1, x.2) :: r, 0, false) else (r, x.2, true)
/-- one write more: the flash, what is kept, whether it goes down -/
def FlS.write (s : FlS) : FlS × Int × Bool := ({ s with wr := s.wr + 1, q := (cntQ s.q).1, down := (cntQ s.q).2.2 }, (cntQ s.q).2.1, (cntQ s.q).2.2)
/-- the calls: the flash behind them, and their errors -/
def FlS.append (s : FlS) (bank : Int) (b : List Int) : FlS × Int :=
  if s.ref bank ≠ 0 then (s, s.ref bank)
  else if s.size < (s.bk bank).length + b.length then (s, 122)
  else if s.write.2.2 then (s.write.1.setB bank (s.bk bank ++ b.take s.write.2.1.toNat), 121) else (s.write.1.setB bank (s.bk bank ++ b), 0)
def tearL (l : List Int) (k : Nat) : List Int := List.replicate k 255 ++ l.drop k
def FlS.erase (s : FlS) (bank : Int) : FlS × Int :=
  if s.ref bank ≠ 0 then (s, s.ref bank)
  else if s.write.2.2 then (s.write.1.setB bank (if (s.bk bank).length ≤ s.write.2.1.toNat then [] else tearL (s.bk bank) s.write.2.1.toNat), 121) else (s.write.1.setB bank [], 0)
def FlS.arm (s : FlS) (a k : Int) : FlS × Int :=
  if a < 1 ∨ 1000000 < a ∨ k < 0 ∨ 1048576 < k then (s, 2)
  else if 64 ≤ s.q.length then (s, 1)
  else ({ s with q := s.q ++ [(a, k)] }, 0)
def FlS.restart (s : FlS) : FlS × Int := if s.down then ({ s with down := false }, 0) else (s, 123)
def APost (p : Nat) (S : Nat → Prop) (r : FlS × Int) (w : World) (e : Ending) (w' : World) : Prop :=
  e = .returned (.int .i64 r.2) ∧ ∃ S', FSt p S r.1 w w' S'
end Go.Proofs.Ytcdmomdajakocaa
