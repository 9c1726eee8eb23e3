import Derived.Test.YtppmgfkpfamabaaProg
import Derived.Test.YtppmgfkpfamabaaQGabZ
import Derived.Deep.QuietTactic
import Derived.BigQuiet
import Derived.Deep.RegionHeld3
namespace Go.Proofs.Ytppmgfkpfamabaa
open Go.RowKit
theorem own_keepG {w w' : World} {base e sz n : Nat} {v : Value} {xs : List Value} {row : Option Nat} (h : w.ownsRow base e sz v n xs) (hg : w.grownBy w' row) (hne : ∀ g, v.ownBlock = some g → some g ≠ row) : w'.ownsRow base e sz v n xs := by
  refine ⟨h.1, ?_⟩
  rcases h.2 with h2 | ⟨g, cap, cur, h1, h2, h3, h4⟩
  · exact .inl h2
  · have hgl : g < w.heap.size := (h.lt g (by rw [h1]; rfl)).2
    exact .inr ⟨g, cap, cur, h1, h2, (hg.block g hgl (hne g (by rw [h1]; rfl))).trans h3, h4⟩
theorem own_neG {w : World} {base base' n n' e e' sz sz' : Nat} {v v' : Value} {xs xs' : List Value} (h : w.ownsRow base e sz v n xs) (h' : w.ownsRow base' e' sz' v' n' xs') (he : e ≠ e') : ∀ g, v.ownBlock = some g → some g ≠ v'.ownBlock := by
  intro g hg hv
  rcases h.2 with ⟨rfl, -⟩ | ⟨g1, cap, cur, rfl, -, h1, -⟩
  · simp [Value.ownBlock] at hg
  rcases h'.2 with ⟨rfl, -⟩ | ⟨g2, cap', cur', rfl, -, h2, -⟩
  · simp [Value.ownBlock] at hv
  simp only [Value.ownBlock, Option.some.injEq] at hg hv
  subst hg hv
  rw [h1] at h2
  simp at h2
  exact he h2.2
theorem own_laterG {w w' : World} {base e sz n : Nat} {v : Value} {xs : List Value} (h : w.ownsRow base e sz v n xs) (hb : Below w.heap.size w w') : w'.ownsRow base e sz v n xs := by
  refine ⟨h.1, ?_⟩
  rcases h.2 with h2 | ⟨g, cap, cur, h1, h2, h3, h4⟩
  · exact .inl h2
  · have hgl : g < w.heap.size := (h.lt g (by rw [h1]; rfl)).2
    exact .inr ⟨g, cap, cur, h1, h2, (hb.block g hgl).trans h3, h4⟩
theorem own_parts {w : World} {base e sz n : Nat} {v : Value} {xs : List Value} (h : w.ownsRow base e sz v n xs) : ∃ a c, v = .slice a n c := by
  rcases h.2 with ⟨rfl, rfl⟩ | ⟨g, cap, cur, rfl, -⟩
  · exact ⟨_, _, rfl⟩
  · exact ⟨_, _, rfl⟩
def OwB (w : World) (v : Value) (l : List Int) : Prop := w.ownsRow 0 5 1 v l.length (U8 l) ∧ IsB l
theorem OwB.later {w w' : World} {v : Value} {l : List Int} (h : OwB w v l) (hb : Below w.heap.size w w') : OwB w' v l := ⟨own_laterG h.1 hb, h.2⟩
theorem OwB.keep {S : Nat → Prop} {w w' : World} {v : Value} {l : List Int} (h : OwB w v l) (hb : Buts S w w') (hg : ∀ g, v.ownBlock = some g → ¬ S g) : OwB w' v l := ⟨hb.own h.1 hg, h.2⟩
theorem OwB.lt {w : World} {v : Value} {l : List Int} (h : OwB w v l) : ∀ k, v.ownBlock = some k → k < w.heap.size := fun k hk => (h.1.lt k hk).2
theorem OwB.nil (w : World) : OwB w (.slice none 0 0) [] := ⟨World.ownsRow_nil w 0 _ 1, fun x hx => by simp at hx⟩
theorem OwB.sl {w : World} {v : Value} {l : List Int} (h : OwB w v l) : ∃ s : Sl, v = s.v ∧ s.Ok w ∧ s.l = l ∧ s.n = l.length ∧ ∀ x, s.a = some x → v.ownBlock = some x.block := by
  obtain ⟨s, h1, h2, h3, h4, -⟩ := own_sl h.1 h.2
  exact ⟨s, h1, h2, h3, h4, fun x hx => by rw [h1]; simp [Sl.v, hx, Value.ownBlock]⟩
def BPost (l : List Int) (w : World) (e : Ending) (w' : World) : Prop :=
  ∃ v, e = .returned v ∧ OwB w' v l ∧ (∀ k, v.ownBlock = some k → w.heap.size ≤ k) ∧ Below w.heap.size w w'
structure FlS where
  size : Nat
  l0 : List Int
  l1 : List Int
  q : List (Int × Int)
  down : Bool
  wr : Nat
def Cr (q : List (Int × Int)) : List Value := q.flatMap fun x => [.int .i64 x.1, .int .i64 x.2]
theorem Cr_cons (x : Int × Int) (q : List (Int × Int)) : Cr (x :: q) = .int .i64 x.1 :: .int .i64 x.2 :: Cr q := rfl
theorem Cr_app (a b : List (Int × Int)) : Cr (a ++ b) = Cr a ++ Cr b := by simp [Cr]
theorem Cr_len (q : List (Int × Int)) : (Cr q).length = q.length * 2 := by
  induction q with
  | nil => rfl
  | cons a t ih => rw [Cr_cons, List.length_cons, List.length_cons, List.length_cons, ih]; omega
theorem Cr_one (q : List (Int × Int)) : ∀ u ∈ Cr q, u.oneCell' = true := by
  intro u hu
  simp only [Cr, List.mem_flatMap] at hu
  obtain ⟨x, -, hx⟩ := hu
  simp at hx
  rcases hx with rfl | rfl <;> rfl
structure FlS.Ok (s : FlS) : Prop where
  b0 : IsB s.l0
  b1 : IsB s.l1
  z0 : s.l0.length ≤ s.size
  z1 : s.l1.length ≤ s.size
  mx : s.size ≤ 1048576
  ql : s.q.length ≤ 64
  qb : ∀ x ∈ s.q, 1 ≤ x.1 ∧ x.1 ≤ 1000000 ∧ 0 ≤ x.2 ∧ x.2 ≤ 1048576
structure Fls (w : World) (p : Nat) (v0 v1 qv : Value) (s : FlS) : Prop where
  arr : Arr w p 50 [.int .i64 s.size, v0, v1, qv, .bool s.down, .int .i64 s.wr]
  o0 : w.ownsRow 0 5 1 v0 s.l0.length (U8 s.l0)
  o1 : w.ownsRow 0 5 1 v1 s.l1.length (U8 s.l1)
  oq : w.ownsRow 0 87 2 qv s.q.length (Cr s.q)
  ne : ∀ k, v0.ownBlock = some k → v1.ownBlock ≠ some k
  ok : s.Ok
def FSet (p : Nat) (v0 v1 qv : Value) (k : Nat) : Prop := k = p ∨ v0.ownBlock = some k ∨ v1.ownBlock = some k ∨ qv.ownBlock = some k
def Fl (w : World) (p : Nat) (S : Nat → Prop) (s : FlS) : Prop := ∃ v0 v1 qv, Fls w p v0 v1 qv s ∧ S = FSet p v0 v1 qv
theorem Fls.n0 {w : World} {p : Nat} {v0 v1 qv : Value} {s : FlS} (h : Fls w p v0 v1 qv s) : v0.ownBlock ≠ some p := own_arr_ne h.o0 h.arr (by decide)
theorem Fls.n1 {w : World} {p : Nat} {v0 v1 qv : Value} {s : FlS} (h : Fls w p v0 v1 qv s) : v1.ownBlock ≠ some p := own_arr_ne h.o1 h.arr (by decide)
theorem Fls.nq {w : World} {p : Nat} {v0 v1 qv : Value} {s : FlS} (h : Fls w p v0 v1 qv s) : qv.ownBlock ≠ some p := own_arr_ne h.oq h.arr (by decide)
theorem Fls.q0 {w : World} {p : Nat} {v0 v1 qv : Value} {s : FlS} (h : Fls w p v0 v1 qv s) : ∀ g, qv.ownBlock = some g → v0.ownBlock ≠ some g := fun g hg e => own_neG h.oq h.o0 (by decide) g hg e.symm
theorem Fls.q1 {w : World} {p : Nat} {v0 v1 qv : Value} {s : FlS} (h : Fls w p v0 v1 qv s) : ∀ g, qv.ownBlock = some g → v1.ownBlock ≠ some g := fun g hg e => own_neG h.oq h.o1 (by decide) g hg e.symm
theorem Fls.keep {S : Nat → Prop} {w w' : World} {p : Nat} {v0 v1 qv : Value} {s : FlS} (h : Fls w p v0 v1 qv s) (hb : Buts S w w') (hd : ∀ k, FSet p v0 v1 qv k → ¬ S k) : Fls w' p v0 v1 qv s :=
  ⟨hb.arr h.arr (hd p (.inl rfl)), hb.own h.o0 (fun g hg => hd g (.inr (.inl hg))), hb.own h.o1 (fun g hg => hd g (.inr (.inr (.inl hg)))), hb.own h.oq (fun g hg => hd g (.inr (.inr (.inr hg)))), h.ne, h.ok⟩
theorem Fls.lt {w : World} {p : Nat} {v0 v1 qv : Value} {s : FlS} (h : Fls w p v0 v1 qv s) : ∀ k, FSet p v0 v1 qv k → k < w.heap.size := by
  rintro k (rfl | hk | hk | hk)
  · exact h.arr.lt
  · exact (h.o0.lt k hk).2
  · exact (h.o1.lt k hk).2
  · exact (h.oq.lt k hk).2
theorem Fl.keep {S T : Nat → Prop} {w w' : World} {p : Nat} {s : FlS} (h : Fl w p S s) (hb : Buts T w w') (hd : ∀ k, S k → ¬ T k) : Fl w' p S s := by
  obtain ⟨v0, v1, qv, hf, rfl⟩ := h
  exact ⟨v0, v1, qv, hf.keep hb hd, rfl⟩
theorem Fl.lt {S : Nat → Prop} {w : World} {p : Nat} {s : FlS} (h : Fl w p S s) : ∀ k, S k → k < w.heap.size := by
  obtain ⟨v0, v1, qv, hf, rfl⟩ := h
  exact hf.lt
theorem Fl.ok {S : Nat → Prop} {w : World} {p : Nat} {s : FlS} (h : Fl w p S s) : s.Ok := by
  obtain ⟨v0, v1, qv, hf, rfl⟩ := h
  exact hf.ok
theorem Fl.later {S : Nat → Prop} {w w' : World} {p : Nat} {s : FlS} (h : Fl w p S s) (hb : Below w.heap.size w w') : Fl w' p S s :=
  h.keep (Buts.of_below (S := fun _ => False) hb) (fun _ _ h => h)
structure FSt (p : Nat) (S : Nat → Prop) (s' : FlS) (w w' : World) (S' : Nat → Prop) : Prop where
  fl : Fl w' p S' s'
  but : Buts S w w'
  at_ : ∀ k, S' k → S k ∨ w.heap.size ≤ k
theorem FSt.refl {p : Nat} {S : Nat → Prop} {s : FlS} {w : World} (h : Fl w p S s) : FSt p S s w w S := ⟨h, Buts.refl _ _, fun _ h => .inl h⟩
theorem FSt.trans {p : Nat} {S S1 S2 : Nat → Prop} {s1 s2 : FlS} {w w1 w2 : World} (h : FSt p S s1 w w1 S1) (k : FSt p S1 s2 w1 w2 S2) : FSt p S s2 w w2 S2 := by
  refine ⟨k.fl, h.but.trans' k.but (fun i hi hs => ?_), fun i hi => ?_⟩
  · rcases h.at_ i hs with h1 | h1
    · exact h1
    · omega
  · rcases k.at_ i hi with h1 | h1
    · exact h.at_ i h1
    · exact .inr (Nat.le_trans h.but.size h1)
theorem FSt.later {p : Nat} {S S' : Nat → Prop} {s : FlS} {w W w' : World} (hb : Below w.heap.size w W) (h : FSt p S s W w' S') : FSt p S s w w' S' :=
  ⟨h.fl, (Buts.of_below hb).trans h.but, fun k hk => (h.at_ k hk).imp id (fun h1 => Nat.le_trans hb.size h1)⟩
theorem FSt.then {p : Nat} {S S' : Nat → Prop} {s : FlS} {w W w' : World} (h : FSt p S s w W S') (hb : Below W.heap.size W w') : FSt p S s w w' S' :=
  ⟨h.fl.later hb, h.but.trans (Buts.of_below hb), h.at_⟩
def FlS.ref (s : FlS) (bank : Int) : Int := if bank < 0 ∨ 2 ≤ bank then 120 else if s.down then 121 else 0
def FlS.bk (s : FlS) (i : Int) : List Int := if i = 0 then s.l0 else s.l1
def FlS.setB (s : FlS) (i : Int) (l : List Int) : FlS := if i = 0 then { s with l0 := l } else { s with l1 := l }
def cntQ : List (Int × Int) → List (Int × Int) × Int × Bool
  | [] => ([], 0, false)
  | x :: r => if 1 < x.1 then ((x.1 - 1, x.2) :: r, 0, false) else (r, x.2, true)
def FlS.write (s : FlS) : FlS × Int × Bool := ({ s with wr := s.wr + 1, q := (cntQ s.q).1, down := (cntQ s.q).2.2 }, (cntQ s.q).2.1, (cntQ s.q).2.2)
def FlS.append (s : FlS) (bank : Int) (b : List Int) : FlS × Int :=
  if s.ref bank ≠ 0 then (s, s.ref bank)
  else if s.size < (s.bk bank).length + b.length then (s, 122)
  else if s.write.2.2 then (s.write.1.setB bank (s.bk bank ++ b.take s.write.2.1.toNat), 121) else (s.write.1.setB bank (s.bk bank ++ b), 0)
def tearL (l : List Int) (k : Nat) : List Int := List.replicate k 255 ++ l.drop k
def FlS.erase (s : FlS) (bank : Int) : FlS × Int :=
  if s.ref bank ≠ 0 then (s, s.ref bank)
  else if s.write.2.2 then (s.write.1.setB bank (if (s.bk bank).length ≤ s.write.2.1.toNat then [] else tearL (s.bk bank) s.write.2.1.toNat), 121) else (s.write.1.setB bank [], 0)
def FlS.arm (s : FlS) (a k : Int) : FlS × Int :=
  if a < 1 ∨ 1000000 < a ∨ k < 0 ∨ 1048576 < k then (s, 2)
  else if 64 ≤ s.q.length then (s, 1)
  else ({ s with q := s.q ++ [(a, k)] }, 0)
def FlS.restart (s : FlS) : FlS × Int := if s.down then ({ s with down := false }, 0) else (s, 123)
def APost (p : Nat) (S : Nat → Prop) (r : FlS × Int) (w : World) (e : Ending) (w' : World) : Prop :=
  e = .returned (.int .i64 r.2) ∧ ∃ S', FSt p S r.1 w w' S'
set_option maxHeartbeats 1000000
set_option maxRecDepth 100000
theorem beginning_any (d : Sl) (n : Nat) (w : World) (hd : d.Ok w) (hn : n ≤ 1048576) :
    Calls Try.prog 11 #[d.v, .int .i64 n] w (BPost (d.l.take n) w) := by
  obtain ⟨i0, hi, hz0, hz1, hz2⟩ := info_parts Try.infoB
  obtain ⟨da, dn, dc, dl⟩ := d
  have hlen : dl.length = dn := hd.len
  have hm : dn ≤ 9223372036854775807 := by have := hd.le; have := hd.mx; unfold maxLen at this; simp only at *; omega
  simp only [Sl.v]
  have HD := hide hd
  clear hd
  by_cases h : n < dn
  · have hbs : i0.bytes * n ≤ 281474976710656 := by rw [hz2]; omega
    have hmx : n ≤ maxLen := by unfold maxLen; omega
    obtain ⟨T, hT⟩ : ∃ T, T = dl.take n := ⟨_, rfl⟩
    rw [← hT]
    have HT := hide hT
    have HC : Hid (dl.take n = T) := hide (by rw [hT]; skip)
    clear hT
    obtain ⟨X, hX⟩ : ∃ X, X = U8 (dl.take n) := ⟨_, rfl⟩
    have hkl : (dl.take n).length = n := by rw [List.length_take]; omega
    have HKL := hide hkl
    have HMN : Hid (X.length = Nat.min dn n) := hide (by rw [hX, U8_length, hkl]; exact (Nat.min_eq_right (by omega)).symm)
    have HXl : Hid (X.length = n) := hide (by rw [hX, U8_length, hkl])
    have HX1 : Hid (∀ v ∈ X, v.oneCell' = true) := hide (by rw [hX]; exact U8_one _)
    have HX := hide hX
    clear hkl hX
    go_enter Try.func11, Try.ntmps11
    go_wp2_with (first
      | (at_make; refine wpList_make_full _ rfl _ _ 22 rfl 0 5 i0 (.int .u8 0) 1 Try.underlying22 hi hz0 hz1 .i64 .i64 n n n rfl rfl rfl rfl hbs hmx (Nat.zero_le _) ?_
         intro w1 hown hgrow
         have hb1 : Hid (Below w.heap.size w w1) := hide ((Below.refl _ _).grown hgrow (Nat.le_refl _) (fun _ h => by cases h))
         have hA1 : Hid (Arr w1 w.heap.size 5 (U8 (List.replicate n 0))) := hide (own_arr (by rw [made_U8] at hown; exact hown))
         have hsz1 : Hid (w.heap.size < w1.heap.size) := hide ((unhide hA1).lt)
         have hs1 : Hid (0 < X.length → ∃ ad, da = some ad ∧ ∀ j v, X[j]? = some v → w1.cell? (ad.add j) = some v) := hide (fun h => by
            have hd1 := (unhide HD).later (unhide hb1)
            obtain ⟨bk, off, e1, -, -⟩ := hd1.lies (by simp only; have := unhide HXl; omega)
            have e2 : da = some ⟨bk, off, none⟩ := e1
            exact ⟨_, e2, fun j v hv => hd1.cells _ e2 j v (by rw [unhide HX] at hv; simp only [U8] at hv ⊢; rw [List.map_take, List.getElem?_take] at hv; split at hv; exact hv; cases hv)⟩)
         clear hown hgrow)
      | (refine wpList_copy_but rfl (.tmp 11) (.tmp 12) 22 22 rfl 5 Try.underlying22 Try.sz1b _ _ _ _ _ _ rfl rfl w.heap.size 0 (U8 (List.replicate n 0)) 5 (unhide hA1) X (unhide HMN) (fun h => ⟨rfl, unhide hs1 h⟩) (by rw [U8_length, unhide HXl, List.length_replicate]; omega) (unhide HX1) ?_
         intro w2 hA2 hB2))
    go_ret
    have hb2 : Below w.heap.size w w2 := (unhide hb1).trans ((unhide hB2).below (Nat.le_of_lt (unhide hsz1)) (Nat.le_refl _))
    have e3 : splice (U8 (List.replicate n 0)) 0 X = U8 T := by
      rw [← unhide HC, unhide HX]; simp only [splice, List.take_zero, List.nil_append, Nat.zero_add, U8_length]; rw [unhide HKL, List.drop_of_length_le (by simp), List.append_nil]
    have hA3 := unhide hA2
    rw [e3] at hA3
    have hl3 : T.length = n := by rw [← unhide HC]; exact unhide HKL
    refine ⟨_, rfl, ⟨?_, fun x hx => (unhide HD).isB x (List.mem_of_mem_take (by rw [unhide HT] at hx; exact hx))⟩, fun g hg => by simp [Value.ownBlock] at hg; omega, hb2⟩
    show w2.ownsRow 0 5 1 (.slice (some ⟨w.heap.size, 0, none⟩) n n) T.length (U8 T)
    rw [hl3]
    exact ⟨by rw [U8_length, hl3, Nat.mul_one], .inr ⟨w.heap.size, n, _, rfl, Nat.zero_le _, hA3, Nat.le_refl _, hmx, by simp [U8_length, hl3], by rw [Nat.mul_one]; exact List.take_of_length_le (by simp [U8_length]; omega)⟩⟩
  · have hbs : i0.bytes * dn ≤ 281474976710656 := by rw [hz2]; omega
    have hmx : dn ≤ maxLen := by unfold maxLen; omega
    obtain ⟨T, hT⟩ : ∃ T, T = dl.take n := ⟨_, rfl⟩
    rw [← hT]
    have HT := hide hT
    have HC : Hid (dl.take dn = T) := hide (by rw [hT]; rw [List.take_of_length_le (by omega), List.take_of_length_le (by omega)])
    clear hT
    obtain ⟨X, hX⟩ : ∃ X, X = U8 (dl.take dn) := ⟨_, rfl⟩
    have hkl : (dl.take dn).length = dn := by rw [List.length_take]; omega
    have HKL := hide hkl
    have HMN : Hid (X.length = Nat.min dn dn) := hide (by rw [hX, U8_length, hkl]; exact (Nat.min_self _).symm)
    have HXl : Hid (X.length = dn) := hide (by rw [hX, U8_length, hkl])
    have HX1 : Hid (∀ v ∈ X, v.oneCell' = true) := hide (by rw [hX]; exact U8_one _)
    have HX := hide hX
    clear hkl hX
    go_enter Try.func11, Try.ntmps11
    go_wp2_with (first
      | (at_make; refine wpList_make_full _ rfl _ _ 22 rfl 0 5 i0 (.int .u8 0) 1 Try.underlying22 hi hz0 hz1 .i64 .i64 dn dn dn rfl rfl rfl rfl hbs hmx (Nat.zero_le _) ?_
         intro w1 hown hgrow
         have hb1 : Hid (Below w.heap.size w w1) := hide ((Below.refl _ _).grown hgrow (Nat.le_refl _) (fun _ h => by cases h))
         have hA1 : Hid (Arr w1 w.heap.size 5 (U8 (List.replicate dn 0))) := hide (own_arr (by rw [made_U8] at hown; exact hown))
         have hsz1 : Hid (w.heap.size < w1.heap.size) := hide ((unhide hA1).lt)
         have hs1 : Hid (0 < X.length → ∃ ad, da = some ad ∧ ∀ j v, X[j]? = some v → w1.cell? (ad.add j) = some v) := hide (fun h => by
            have hd1 := (unhide HD).later (unhide hb1)
            obtain ⟨bk, off, e1, -, -⟩ := hd1.lies (by simp only; have := unhide HXl; omega)
            have e2 : da = some ⟨bk, off, none⟩ := e1
            exact ⟨_, e2, fun j v hv => hd1.cells _ e2 j v (by rw [unhide HX] at hv; simp only [U8] at hv ⊢; rw [List.map_take, List.getElem?_take] at hv; split at hv; exact hv; cases hv)⟩)
         clear hown hgrow)
      | (refine wpList_copy_but rfl (.tmp 11) (.tmp 12) 22 22 rfl 5 Try.underlying22 Try.sz1b _ _ _ _ _ _ rfl rfl w.heap.size 0 (U8 (List.replicate dn 0)) 5 (unhide hA1) X (unhide HMN) (fun h => ⟨rfl, unhide hs1 h⟩) (by rw [U8_length, unhide HXl, List.length_replicate]; omega) (unhide HX1) ?_
         intro w2 hA2 hB2))
    go_ret
    have hb2 : Below w.heap.size w w2 := (unhide hb1).trans ((unhide hB2).below (Nat.le_of_lt (unhide hsz1)) (Nat.le_refl _))
    have e3 : splice (U8 (List.replicate dn 0)) 0 X = U8 T := by
      rw [← unhide HC, unhide HX]; simp only [splice, List.take_zero, List.nil_append, Nat.zero_add, U8_length]; rw [unhide HKL, List.drop_of_length_le (by simp), List.append_nil]
    have hA3 := unhide hA2
    rw [e3] at hA3
    have hl3 : T.length = dn := by rw [← unhide HC]; exact unhide HKL
    refine ⟨_, rfl, ⟨?_, fun x hx => (unhide HD).isB x (List.mem_of_mem_take (by rw [unhide HT] at hx; exact hx))⟩, fun g hg => by simp [Value.ownBlock] at hg; omega, hb2⟩
    show w2.ownsRow 0 5 1 (.slice (some ⟨w.heap.size, 0, none⟩) dn dn) T.length (U8 T)
    rw [hl3]
    exact ⟨by rw [U8_length, hl3, Nat.mul_one], .inr ⟨w.heap.size, dn, _, rfl, Nat.zero_le _, hA3, Nat.le_refl _, hmx, by simp [U8_length, hl3], by rw [Nat.mul_one]; exact List.take_of_length_le (by simp [U8_length]; omega)⟩⟩
def szZ (z : Int) : Nat := (min (max z 0) 1048576).toNat
theorem szZ_le (z : Int) : szZ z ≤ 1048576 := by unfold szZ; omega
def fsLoad (z : Int) (a b : List Int) : FlS := ⟨szZ z, a.take (szZ z), b.take (szZ z), [], false, 0⟩
def NPost (s : FlS) (w : World) (e : Ending) (w' : World) : Prop :=
  ∃ p S, e = .returned (.pointer (some ⟨p, 0, none⟩)) ∧ Fl w' p S s ∧ (∀ k, S k → w.heap.size ≤ k) ∧ Below w.heap.size w w'
theorem below_one (w : World) (o : Obj) : Below w.heap.size w (w.alloc o) := (Below.refl _ _).alloc (Nat.le_refl _) _
theorem load_box {w w2 w3 : World} {v0 v1 : Value} {l0 l1 : List Int} {n : Nat} (hn : n ≤ 1048576) (h0 : OwB w2 v0 l0) (a0 : ∀ k, v0.ownBlock = some k → w.heap.size ≤ k) (b2 : Below w.heap.size w w2) (h1 : OwB w3 v1 l1) (a1 : ∀ k, v1.ownBlock = some k → w2.heap.size ≤ k) (b3 : Below w2.heap.size w2 w3) (z0 : l0.length ≤ n) (z1 : l1.length ≤ n) (k : Nat) :
    NPost ⟨n, l0, l1, [], false, 0⟩ w (.returned (.pointer (some ⟨w3.heap.size, 0, none⟩))) ((w3.drewN k).alloc (.cells #[.int .i64 n, v0, v1, .slice none 0 0, .bool false, .int .i64 0] 50)) := by
  have hb : Below w3.heap.size w3 ((w3.drewN k).alloc (.cells #[.int .i64 n, v0, v1, .slice none 0 0, .bool false, .int .i64 0] 50)) := (below_drewN (Below.refl _ w3) k).alloc (Nat.le_refl _) _
  have h23 := b3.size
  have h12 := b2.size
  refine ⟨_, FSet w3.heap.size v0 v1 (.slice none 0 0), rfl, ⟨v0, v1, .slice none 0 0, ⟨Arr.new (w3.drewN k) _ [.int .i64 n, v0, v1, .slice none 0 0, .bool false, .int .i64 0], ((h0.later b3).later hb).1, (h1.later hb).1, World.ownsRow_nil _ _ _ _, ?_, ⟨h0.2, h1.2, z0, z1, hn, by simp, by simp⟩⟩, rfl⟩, ?_, ?_⟩
  · intro g hg hg'
    have := h0.lt g hg
    have := a1 g hg'
    omega
  · rintro g (rfl | hg | hg | hg)
    · omega
    · exact a0 g hg
    · have := a1 g hg; omega
    · simp [Value.ownBlock] at hg
  · exact (b2.trans (b3.mono (by omega))).trans (hb.mono (by omega))
theorem load_any (z : Int) (d1 d2 : Sl) (w : World) (h1 : d1.Ok w) (h2 : d2.Ok w) :
    Calls Try.prog 4 #[.int .i64 z, d1.v, d2.v] w (NPost (fsLoad z d1.l d2.l) w) := by
  obtain ⟨n, hn⟩ : ∃ n, n = szZ z := ⟨_, rfl⟩
  have hn1 : n ≤ 1048576 := by rw [hn]; exact szZ_le z
  have hB := beginning_any d1 n w h1 hn1
  have HL : Hid (fsLoad z d1.l d2.l = ⟨n, d1.l.take n, d2.l.take n, [], false, 0⟩) := hide (by unfold fsLoad; rw [hn])
  rw [unhide HL]
  have H2 := hide h2
  obtain ⟨T1, hT1⟩ : ∃ T, T = d1.l.take n := ⟨_, rfl⟩
  obtain ⟨T2, hT2⟩ : ∃ T, T = d2.l.take n := ⟨_, rfl⟩
  have hz1 : Hid (T1.length ≤ n) := hide (by rw [hT1, List.length_take]; omega)
  have hz2 : Hid (T2.length ≤ n) := hide (by rw [hT2, List.length_take]; omega)
  rw [← hT1, ← hT2]
  rw [← hT1] at hB
  have HT2 := hide hT2
  clear hT1 hT2 HL h2 h1
  have hm : (n : Int) = if 1048576 < z then 1048576 else if z < 0 then 0 else z := by
    rw [hn]; unfold szZ; split
    · omega
    · split <;> omega
  have key : ∀ M : Int, M = (if 1048576 < z then 1048576 else if z < 0 then 0 else z) → (n : Int) = M := fun M h => by rw [h]; exact hm
  clear hm
  by_cases c1 : 1048576 < z
  · have e : (n : Int) = 1048576 := key _ (by rw [if_pos c1])
    rw [e] at hB
    clear key hn
    go_enter Try.func4, Try.ntmps4
    go_wp2_with (first
      | (go_at_call 11; refine hC.mono ?_; rintro e1 w3 ⟨u1, rfl, o1, a1, b3⟩; obtain ⟨x1, y1, rfl⟩ := own_parts o1.1; clear hC)
      | (go_at_call 11; refine hB.mono ?_; rintro e1 w2 ⟨u0, rfl, o0, a0, b2⟩; have hC := beginning_any d2 n w2 ((unhide H2).later b2) hn1; rw [e, ← unhide HT2] at hC; obtain ⟨x0, y0, rfl⟩ := own_parts o0.1; clear hB))
    go_ret
    have R := load_box hn1 o0 a0 b2 o1 a1 b3 (unhide hz1) (unhide hz2) 0
    rw [e] at R
    exact R
  by_cases c2 : z < 0
  · have e : (n : Int) = 0 := key _ (by rw [if_neg c1, if_pos c2])
    rw [e] at hB
    clear key hn
    go_enter Try.func4, Try.ntmps4
    go_wp2_with (first
      | (go_at_call 11; refine hC.mono ?_; rintro e1 w3 ⟨u1, rfl, o1, a1, b3⟩; obtain ⟨x1, y1, rfl⟩ := own_parts o1.1; clear hC)
      | (go_at_call 11; refine hB.mono ?_; rintro e1 w2 ⟨u0, rfl, o0, a0, b2⟩; have hC := beginning_any d2 n w2 ((unhide H2).later b2) hn1; rw [e, ← unhide HT2] at hC; obtain ⟨x0, y0, rfl⟩ := own_parts o0.1; clear hB))
    go_ret
    have R := load_box hn1 o0 a0 b2 o1 a1 b3 (unhide hz1) (unhide hz2) 0
    rw [e] at R
    exact R
  · have e : (n : Int) = z := key _ (by rw [if_neg c1, if_neg c2])
    rw [e] at hB
    clear key hn
    go_enter Try.func4, Try.ntmps4
    go_wp2_with (first
      | (go_at_call 11; refine hC.mono ?_; rintro e1 w3 ⟨u1, rfl, o1, a1, b3⟩; obtain ⟨x1, y1, rfl⟩ := own_parts o1.1; clear hC)
      | (go_at_call 11; refine hB.mono ?_; rintro e1 w2 ⟨u0, rfl, o0, a0, b2⟩; have hC := beginning_any d2 n w2 ((unhide H2).later b2) hn1; rw [e, ← unhide HT2] at hC; obtain ⟨x0, y0, rfl⟩ := own_parts o0.1; clear hB))
    go_ret
    have R := load_box hn1 o0 a0 b2 o1 a1 b3 (unhide hz1) (unhide hz2) 0
    rw [e] at R
    exact R
theorem Fls.cs {w : World} {p : Nat} {v0 v1 qv : Value} {s : FlS} (h : Fls w p v0 v1 qv s) : w.cell? ⟨p, 0, none⟩ = some (.int .i64 s.size) ∧ w.cell? ⟨p, 1, none⟩ = some v0 ∧ w.cell? ⟨p, 2, none⟩ = some v1 ∧ w.cell? ⟨p, 3, none⟩ = some qv ∧ w.cell? ⟨p, 4, none⟩ = some (.bool s.down) ∧ w.cell? ⟨p, 5, none⟩ = some (.int .i64 s.wr) :=
  ⟨by simpa using h.arr.cell 0, by simpa using h.arr.cell 1, by simpa using h.arr.cell 2, by simpa using h.arr.cell 3, by simpa using h.arr.cell 4, by simpa using h.arr.cell 5⟩
theorem refuses_any (p : Nat) (S : Nat → Prop) (s : FlS) (bank : Int) (w : World) (h : Fl w p S s) :
    Calls Try.prog 110 #[.pointer (some ⟨p, 0, none⟩), .int .i64 bank] w fun e w' => e = .returned (.int .i64 (s.ref bank)) ∧ w' = w := by
  obtain ⟨v0, v1, qv, hf, rfl⟩ := h
  obtain ⟨-, -, -, -, c4, -⟩ := hf.cs
  clear hf
  obtain ⟨r, hr⟩ : ∃ r, r = s.ref bank := ⟨_, rfl⟩
  rw [← hr]
  have HR := hide hr
  clear hr
  obtain ⟨dn, hdn⟩ : ∃ d, d = s.down := ⟨_, rfl⟩
  rw [← hdn] at c4
  have HDN := hide hdn
  clear hdn
  by_cases b0 : bank < 0
  · go_enter Try.func110, Try.ntmps110
    go_wp2
    go_ret
    exact ⟨by rw [unhide HR]; unfold FlS.ref; rw [if_pos (.inl b0)]; rfl, rfl⟩
  by_cases b2 : 2 ≤ bank
  · go_enter Try.func110, Try.ntmps110
    go_wp2
    go_ret
    exact ⟨by rw [unhide HR]; unfold FlS.ref; rw [if_pos (.inr b2)]; rfl, rfl⟩
  cases dn
  · go_enter Try.func110, Try.ntmps110
    go_wp2
    go_ret
    exact ⟨by rw [unhide HR]; unfold FlS.ref; rw [if_neg (by omega), ← unhide HDN]; rfl, rfl⟩
  · go_enter Try.func110, Try.ntmps110
    go_wp2
    go_ret
    exact ⟨by rw [unhide HR]; unfold FlS.ref; rw [if_neg (by omega), ← unhide HDN]; rfl, rfl⟩
theorem ok_drewN {w : World} {d : Sl} (h : d.Ok w) (k : Nat) : d.Ok (w.drewN k) := h.later (below_drewN (Below.refl _ _) k)
theorem below_undrewN {w w' : World} {k : Nat} (h : Below (w.drewN k).heap.size (w.drewN k) w') : Below w.heap.size w w' := ⟨h.os, h.tape, h.output, h.size, h.block⟩
theorem BPost.undrewN {l : List Int} {w w' : World} {e : Ending} {k : Nat} (h : BPost l (w.drewN k) e w') : BPost l w e w' := by
  obtain ⟨v, h1, h2, h3, h4⟩ := h
  exact ⟨v, h1, h2, h3, below_undrewN h4⟩
theorem room_0 (p : Nat) (S : Nat → Prop) (s : FlS) (w : World) (h : Fl w p S s) :
    Calls Try.prog 111 #[.pointer (some ⟨p, 0, none⟩), .int .i64 0] w fun e w' => e = .returned (.int .i64 (s.size - s.l0.length)) ∧ ∃ k, w' = w.drewN k := by
  obtain ⟨v0, v1, qv, hf, rfl⟩ := h
  obtain ⟨a0, b0, rfl⟩ := own_parts hf.o0
  obtain ⟨c0, c1, -, -, -, -⟩ := hf.cs
  have z0 := hf.ok.z0
  have mx := hf.ok.mx
  have e0 : (s.size : Int) - s.l0.length ≤ 9223372036854775807 := by omega
  clear hf
  go_enter Try.func111, Try.ntmps111
  go_wp2_with fail
  go_quiet (fail)
  go_wp2
  go_ret
  exact ⟨rfl, _, rfl⟩
theorem told_0 (p : Nat) (S : Nat → Prop) (s : FlS) (w : World) (h : Fl w p S s) :
    Calls Try.prog 27 #[.pointer (some ⟨p, 0, none⟩), .int .i64 0] w (BPost s.l0 w) := by
  obtain ⟨v0, v1, qv, hf, rfl⟩ := h
  obtain ⟨d, hd, hdo, hdl, hdn, -⟩ := OwB.sl ⟨hf.o0, hf.ok.b0⟩
  subst hd
  obtain ⟨c0, c1, -, -, -, -⟩ := hf.cs
  have HB : Hid (∀ k, Calls Try.prog 11 #[.slice d.a d.n d.c, .int .i64 s.size] (w.drewN k) (BPost s.l0 w)) := hide (fun k => by
    have hB := beginning_any d s.size (w.drewN k) (ok_drewN hdo k) hf.ok.mx
    rw [hdl, List.take_of_length_le hf.ok.z0] at hB
    exact hB.mono (fun e w' h => h.undrewN))
  have HA := hide hf.arr
  clear hf hdo hdl hdn
  simp only [Sl.v] at *
  go_enter Try.func27, Try.ntmps27
  go_wp2_with fail
  go_region_held3 (fun w' => w'.cell? ⟨p, 0, none⟩ = some (.int .i64 s.size) ∧ w'.cell? ⟨p, 1, none⟩ = some (.slice d.a d.n d.c)) (go_keep) (first | (go_at_call 11; refine (unhide HB 1).mono ?_; rintro e w1 ⟨v, rfl, h1, h2, h3⟩; have A1 := (unhide HA).later h3; have c0' : w1.cell? ⟨p, 0, none⟩ = some (.int .i64 s.size) := (by simpa using A1.cell 0); have c1' : w1.cell? ⟨p, 1, none⟩ = some (.slice d.a d.n d.c) := (by simpa using A1.cell 1)))
  go_wp2
  go_ret
  exact ⟨v, rfl, h1, h2, h3⟩
theorem room_1 (p : Nat) (S : Nat → Prop) (s : FlS) (w : World) (h : Fl w p S s) :
    Calls Try.prog 111 #[.pointer (some ⟨p, 0, none⟩), .int .i64 1] w fun e w' => e = .returned (.int .i64 (s.size - s.l1.length)) ∧ ∃ k, w' = w.drewN k := by
  obtain ⟨v0, v1, qv, hf, rfl⟩ := h
  obtain ⟨a0, b0, rfl⟩ := own_parts hf.o1
  obtain ⟨c0, -, c1, -, -, -⟩ := hf.cs
  have z0 := hf.ok.z1
  have mx := hf.ok.mx
  have e0 : (s.size : Int) - s.l1.length ≤ 9223372036854775807 := by omega
  clear hf
  go_enter Try.func111, Try.ntmps111
  go_wp2_with fail
  go_quiet (fail)
  go_wp2
  go_ret
  exact ⟨rfl, _, rfl⟩
theorem told_1 (p : Nat) (S : Nat → Prop) (s : FlS) (w : World) (h : Fl w p S s) :
    Calls Try.prog 27 #[.pointer (some ⟨p, 0, none⟩), .int .i64 1] w (BPost s.l1 w) := by
  obtain ⟨v0, v1, qv, hf, rfl⟩ := h
  obtain ⟨d, hd, hdo, hdl, hdn, -⟩ := OwB.sl ⟨hf.o1, hf.ok.b1⟩
  subst hd
  obtain ⟨c0, -, c1, -, -, -⟩ := hf.cs
  have HB : Hid (∀ k, Calls Try.prog 11 #[.slice d.a d.n d.c, .int .i64 s.size] (w.drewN k) (BPost s.l1 w)) := hide (fun k => by
    have hB := beginning_any d s.size (w.drewN k) (ok_drewN hdo k) hf.ok.mx
    rw [hdl, List.take_of_length_le hf.ok.z1] at hB
    exact hB.mono (fun e w' h => h.undrewN))
  have HA := hide hf.arr
  clear hf hdo hdl hdn
  simp only [Sl.v] at *
  go_enter Try.func27, Try.ntmps27
  go_wp2_with fail
  go_region_held3 (fun w' => w'.cell? ⟨p, 0, none⟩ = some (.int .i64 s.size) ∧ w'.cell? ⟨p, 2, none⟩ = some (.slice d.a d.n d.c)) (go_keep) (first | (go_at_call 11; refine (unhide HB 1).mono ?_; rintro e w1 ⟨v, rfl, h1, h2, h3⟩; have A1 := (unhide HA).later h3; have c0' : w1.cell? ⟨p, 0, none⟩ = some (.int .i64 s.size) := (by simpa using A1.cell 0); have c1' : w1.cell? ⟨p, 2, none⟩ = some (.slice d.a d.n d.c) := (by simpa using A1.cell 2)))
  go_wp2
  go_ret
  exact ⟨v, rfl, h1, h2, h3⟩
end Go.Proofs.Ytppmgfkpfamabaa
