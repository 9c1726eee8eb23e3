import Derived.Test.YtejagcngbgnogaaGreatQShr
import Derived.Test.YtejagcngbgnogaaGreatQGalZ
set_option linter.unusedSimpArgs false
namespace Go.Proofs.YtejagcngbgnogaaGreat
open Go.RowKit
theorem leB_leV' (m : List Int) (h : IsB m) : leB m.length (leV m) = m := by
 induction m with
 | nil => rfl
 | cons c r ih =>
  have hc := h c (by simp)
  have hr : IsB r := fun x hx => h x (by simp [hx])
  have ih := ih hr
  have e : leB (r.length + 1) (leV (c :: r)) = (leV (c :: r) % 256) :: leB r.length (leV (c :: r) / 256) := by
   unfold leB
   rw [List.range_succ_eq_map, List.map_cons, List.map_map]
   congr 1
   ·simp
   ·apply List.map_congr_left
    intro i _
    simp only [Function.comp, Nat.succ_eq_add_one]
    rw [show 8 * (i + 1) = 8 + 8 * i from by omega, Int.pow_add, ← Int.ediv_ediv_of_nonneg (by decide)]
    rfl
  rw [List.length_cons, e]
  have h1 : leV (c :: r) % 256 = c := by show (c + 256 * leV r) % 256 = c; omega
  have h2 : leV (c :: r) / 256 = leV r := by show (c + 256 * leV r) / 256 = leV r; omega
  rw [h1, h2, ih]
theorem beB_leV' (m : List Int) (h : IsB m) (n : Nat) (hn : m.length = n) : beB n (leV m.reverse) = m := by
 have := leB_leV' m.reverse h.reverse
 rw [List.length_reverse, hn] at this
 unfold beB; rw [this, List.reverse_reverse]
theorem leV_beB' (n : Nat) (x : Int) : leV (beB n x).reverse = x % 2 ^ (8 * n) := by
 unfold beB; rw [List.reverse_reverse, leV_leB]
theorem fN (n : Nat) (x : Int) : (beB n x).length = n := by simp [beB, leB]
structure Gud (f : FdS) (lo hi : Nat) (R : (Nat → Int) → Prop) : Prop where
 le : lo ≤ hi
 loc : ∀ x y, (∀ i, lo ≤ i → i < hi → x i = y i) → f.enc x = f.enc y
 fl : ∀ x y, (∀ i, i < hi → x i = y i) → f.fit x = f.fit y
 chg : ∀ x s y r, f.get x s = some (y, r) → ∀ i, ¬ (lo ≤ i ∧ i < hi) → y i = x i
 one : ∀ x s y r, IsB s → f.get x s = some (y, r) → s = f.enc y ++ r
 ext : ∀ x p y r q, f.get x p = some (y, r) → f.get x (p ++ q) = some (y, r ++ q)
 back : ∀ x y s, R y → (∀ i, lo ≤ i → i < hi → x i = 0) → ∃ z, f.get x (f.enc y ++ s) = some (z, s) ∧ ∀ i, lo ≤ i → i < hi → z i = y i
theorem pU32_ok {s r : List Int} {v : Int} (h : dV s = .ok (v, r)) : 4 ≤ s.length ∧ v = leV (s.take 4).reverse ∧ r = s.drop 4 := by
 unfold dV at h; split at h
 ·simp at h
 ·simp at h; exact ⟨by omega, h.1.symm, h.2.symm⟩
theorem pU64_ok {s r : List Int} {v : Int} (h : eP s = .ok (v, r)) : 8 ≤ s.length ∧ v = leV (s.take 8).reverse ∧ r = s.drop 8 := by
 unfold eP at h; split at h
 ·simp at h
 ·simp at h; exact ⟨by omega, h.1.symm, h.2.symm⟩
theorem pU32_yes {s : List Int} (h : 4 ≤ s.length) : dV s = .ok (leV (s.take 4).reverse, s.drop 4) := by unfold dV; rw [if_neg (by omega)]
theorem pU64_yes {s : List Int} (h : 8 ≤ s.length) : eP s = .ok (leV (s.take 8).reverse, s.drop 8) := by unfold eP; rw [if_neg (by omega)]
theorem num_get {a : Nat} {least : Int} {mo : (Nat → Int) → Int} {x y : Nat → Int} {s r : List Int} (h : (aO a least mo).get x s = some (y, r)) : 4 ≤ s.length ∧ y = upd x a (leV (s.take 4).reverse) ∧ r = s.drop 4 := by
 simp only [aO] at h
 cases hp : dV s with
 | error c => rw [hp] at h; simp at h
 | ok u =>
  obtain ⟨v, r'⟩ := u
  rw [hp] at h
  simp at h
  obtain ⟨h1, h2, h3⟩ := pU32_ok hp
  exact ⟨h1, by rw [← h.1, h2], by rw [← h.2, h3]⟩
theorem num_yes {a : Nat} {least : Int} {mo : (Nat → Int) → Int} {x : Nat → Int} {s : List Int} (h : 4 ≤ s.length) : (aO a least mo).get x s = some (upd x a (leV (s.take 4).reverse), s.drop 4) := by
 simp only [aO]; rw [pU32_yes h]
theorem eN (a : Nat) (least : Int) (mo : (Nat → Int) → Int) (hmo : ∀ x y : Nat → Int, (∀ i, i < a → x i = y i) → mo x = mo y) : Gud (aO a least mo) a (a + 1) (fun y => 0 ≤ y a ∧ y a < 4294967296) where
 le := Nat.le_succ _
 loc x y h := by simp only [aO]; rw [h a (Nat.le_refl _) (Nat.lt_succ_self _)]
 fl x y h := by simp only [aO]; rw [h a (Nat.lt_succ_self _), hmo x y (fun i hi => h i (by omega))]
 chg x s y r h i hi := by
  obtain ⟨-, rfl, -⟩ := num_get h
  unfold upd; rw [if_neg (by omega)]
 one x s y r hB h := by
  obtain ⟨h1, rfl, rfl⟩ := num_get h
  have hb : IsB (s.take 4) := hB.take 4
  have h2 := kA (s.take 4).reverse hb.reverse
  have hl : (s.take 4).length = 4 := by simp; omega
  rw [List.length_reverse, hl] at h2
  have e : leV (s.take 4).reverse % 4294967296 = leV (s.take 4).reverse := Int.emod_eq_of_lt h2.1 (by simpa using h2.2)
  simp only [aO, upd, if_true]
  rw [e, beB_leV' _ hb 4 hl, List.take_append_drop]
 ext x p y r q h := by
  obtain ⟨h1, rfl, rfl⟩ := num_get h
  rw [num_yes (by simp; omega), List.take_append_of_le_length h1, List.drop_append_of_le_length h1]
 back x y s hR _ := by
  refine ⟨upd x a (y a), ?_, fun i h1 h2 => ?_⟩
  ·rw [num_yes (by simp [aO, fN])]
   simp only [aO]
   have e1 : (beB 4 (y a % 4294967296) ++ s).take 4 = beB 4 (y a % 4294967296) := by rw [List.take_append_of_le_length (by rw [fN]; omega), List.take_of_length_le (by rw [fN]; omega)]
   have e2 : (beB 4 (y a % 4294967296) ++ s).drop 4 = s := by rw [List.drop_append_of_le_length (by rw [fN]; omega), List.drop_of_length_le (by rw [fN]; omega), List.nil_append]
   rw [e1, e2, leV_beB']
   have : y a % 4294967296 % 2 ^ (8 * 4) = y a := by simp only [Nat.reduceMul]; omega
   rw [this]
  ·obtain rfl : i = a := by omega
   simp [upd]
theorem mon_get {a : Nat} {most : Int} {x y : Nat → Int} {s r : List Int} (h : (aV a most).get x s = some (y, r)) : 8 ≤ s.length ∧ y = upd x a (IntKind.i64.wrap (leV (s.take 8).reverse)) ∧ r = s.drop 8 := by
 simp only [aV] at h
 cases hp : eP s with
 | error c => rw [hp] at h; simp at h
 | ok u =>
  obtain ⟨v, r'⟩ := u
  rw [hp] at h
  simp at h
  obtain ⟨h1, h2, h3⟩ := pU64_ok hp
  exact ⟨h1, by rw [← h.1, h2], by rw [← h.2, h3]⟩
theorem mon_yes {a : Nat} {most : Int} {x : Nat → Int} {s : List Int} (h : 8 ≤ s.length) : (aV a most).get x s = some (upd x a (IntKind.i64.wrap (leV (s.take 8).reverse)), s.drop 8) := by
 simp only [aV]; rw [pU64_yes h]
theorem wrapi_mod (v : Int) (h0 : 0 ≤ v) (h1 : v < 18446744073709551616) : IntKind.i64.wrap v % 18446744073709551616 = v := by
 rw [IntKind.wrap_i64]; omega
theorem lW (a : Nat) (most : Int) : Gud (aV a most) a (a + 1) (fun y => 0 ≤ y a ∧ y a ≤ 9223372036854775807) where
 le := Nat.le_succ _
 loc x y h := by simp only [aV]; rw [h a (Nat.le_refl _) (Nat.lt_succ_self _)]
 fl x y h := by simp only [aV]; rw [h a (Nat.lt_succ_self _)]
 chg x s y r h i hi := by
  obtain ⟨-, rfl, -⟩ := mon_get h
  unfold upd; rw [if_neg (by omega)]
 one x s y r hB h := by
  obtain ⟨h1, rfl, rfl⟩ := mon_get h
  have hb : IsB (s.take 8) := hB.take 8
  have h2 := kA (s.take 8).reverse hb.reverse
  have hl : (s.take 8).length = 8 := by simp; omega
  rw [List.length_reverse, hl] at h2
  simp only [aV, upd, if_true]
  rw [wrapi_mod _ h2.1 (by simpa using h2.2), beB_leV' _ hb 8 hl, List.take_append_drop]
 ext x p y r q h := by
  obtain ⟨h1, rfl, rfl⟩ := mon_get h
  rw [mon_yes (by simp; omega), List.take_append_of_le_length h1, List.drop_append_of_le_length h1]
 back x y s hR _ := by
  refine ⟨upd x a (y a), ?_, fun i h1 h2 => ?_⟩
  ·rw [mon_yes (by simp [aV, fN])]
   simp only [aV]
   have e1 : (beB 8 (y a % 18446744073709551616) ++ s).take 8 = beB 8 (y a % 18446744073709551616) := by rw [List.take_append_of_le_length (by rw [fN]; omega), List.take_of_length_le (by rw [fN]; omega)]
   have e2 : (beB 8 (y a % 18446744073709551616) ++ s).drop 8 = s := by rw [List.drop_append_of_le_length (by rw [fN]; omega), List.drop_of_length_le (by rw [fN]; omega), List.nil_append]
   rw [e1, e2, leV_beB']
   have : y a % 18446744073709551616 % 2 ^ (8 * 8) = y a := by simp only [Nat.reduceMul]; omega
   rw [this, nS _ ⟨by omega, by omega⟩]
  ·obtain rfl : i = a := by omega
   simp [upd]
theorem fix_get {a n : Nat} {x y : Nat → Int} {s r : List Int} (h : (aL a n).get x s = some (y, r)) : n ≤ s.length ∧ y = eE x a (s.take n) ∧ r = s.drop n := by
 simp only [aL] at h
 split at h
 ·simp at h
 ·simp at h; exact ⟨by omega, h.1.symm, h.2.symm⟩
theorem run_updL (x : Nat → Int) (a n : Nat) (l : List Int) (h : l.length = n) : run (eE x a l) a n = l := by
 unfold run eE
 apply List.ext_getElem?
 intro i
 by_cases hi : i < n
 ·simp only [List.getElem?_map, List.getElem?_range hi, Option.map_some]
  rw [if_pos (by omega), List.getElem?_eq_getElem (by omega)]
  simp [h, hi]
 ·rw [List.getElem?_eq_none (by simp; omega), List.getElem?_eq_none (by omega)]
theorem nU {x : Nat → Int} {a : Nat} {l : List Int} {i : Nat} (h : ¬ (a ≤ i ∧ i < a + l.length)) : eE x a l i = x i := by unfold eE; rw [if_neg h]
theorem updL_run (x y : Nat → Int) (a n i : Nat) (h1 : a ≤ i) (h2 : i < a + n) : eE x a (run y a n) i = y i := by
 unfold eE
 rw [aN, if_pos ⟨h1, h2⟩, run_getD _ _ _ _ (by omega)]
 congr 1; omega
theorem run_ext {x y : Nat → Int} {a n : Nat} (h : ∀ i, a ≤ i → i < a + n → x i = y i) : run x a n = run y a n := by
 unfold run
 apply List.map_congr_left
 intro i hi
 have := List.mem_range.1 hi
 exact h _ (by omega) (by omega)
theorem eO (a n : Nat) : Gud (aL a n) a (a + n) (fun _ => True) where
 le := Nat.le_add_right _ _
 loc x y h := run_ext h
 fl x y h := rfl
 chg x s y r h i hi := by
  obtain ⟨h1, rfl, -⟩ := fix_get h
  exact nU (by rw [List.length_take]; omega)
 one x s y r hB h := by
  obtain ⟨h1, rfl, rfl⟩ := fix_get h
  simp only [aL]
  rw [run_updL _ _ _ _ (by rw [List.length_take]; omega), List.take_append_drop]
 ext x p y r q h := by
  obtain ⟨h1, rfl, rfl⟩ := fix_get h
  simp only [aL]
  rw [if_neg (by simp; omega), List.take_append_of_le_length h1, List.drop_append_of_le_length h1]
 back x y s _ _ := by
  refine ⟨eE x a (run y a n), ?_, fun i h1 h2 => updL_run _ _ _ _ _ h1 h2⟩
  simp only [aL]
  rw [if_neg (by simp [aN]), List.take_append_of_le_length (by rw [aN]; omega), List.take_of_length_le (by rw [aN]; omega), List.drop_append_of_le_length (by rw [aN]; omega), List.drop_of_length_le (by rw [aN]; omega), List.nil_append]
theorem mrk_get {a b n : Nat} {x y : Nat → Int} {s r : List Int} (hB : ∀ c ∈ s, 0 ≤ c) (h : (bN a b n).get x s = some (y, r)) :
  (∃ s', s = 1 :: s' ∧ n ≤ s'.length ∧ y = eE (upd x a 1) b (s'.take n) ∧ r = s'.drop n) ∨ (∃ s', s = 0 :: s' ∧ y = upd x a 0 ∧ r = s') := by
 simp only [bN] at h
 cases s with
 | nil => simp [cH] at h
 | cons c s' =>
  have hc := hB c (by simp)
  by_cases h1 : 1 < c
  ·simp [cH, h1] at h
  ·by_cases hc1 : c = 1
   ·subst hc1
    simp [cH] at h
    exact .inl ⟨s', rfl, by omega, h.2.1.symm, h.2.2.symm⟩
   ·have : c = 0 := by omega
    subst this
    simp [cH] at h
    exact .inr ⟨s', rfl, h.1.symm, h.2.symm⟩
theorem mrk_get' {a b n : Nat} {x y : Nat → Int} {s r : List Int} (h : (bN a b n).get x s = some (y, r)) :
  (∃ c s', s = c :: s' ∧ ¬ 1 < c ∧ c = 1 ∧ n ≤ s'.length ∧ y = eE (upd x a 1) b (s'.take n) ∧ r = s'.drop n) ∨ (∃ c s', s = c :: s' ∧ ¬ 1 < c ∧ c ≠ 1 ∧ y = upd x a 0 ∧ r = s') := by
 simp only [bN] at h
 cases s with
 | nil => simp [cH] at h
 | cons c s' =>
  by_cases h1 : 1 < c
  ·simp [cH, h1] at h
  ·by_cases hc1 : c = 1
   ·subst hc1
    simp [cH] at h
    exact .inl ⟨1, s', rfl, by omega, rfl, by omega, h.2.1.symm, h.2.2.symm⟩
   ·simp [cH, h1, hc1] at h
    exact .inr ⟨c, s', rfl, h1, hc1, h.1.symm, h.2.symm⟩
theorem gud_mrk (a n : Nat) : Gud (bN a (a + 1) n) a (a + 1 + n) (fun y => (y a = 0 ∧ ∀ i, a + 1 ≤ i → i < a + 1 + n → y i = 0) ∨ y a = 1) where
 le := by omega
 loc x y h := by simp only [bN]; rw [h a (Nat.le_refl _) (by omega), run_ext (fun i h1 h2 => h i (by omega) h2)]
 fl x y h := by simp only [bN]; rw [h a (by omega), run_ext (fun i _ h2 => h i h2)]
 chg x s y r h i hi := by
  rcases mrk_get' h with ⟨c, s', -, -, -, hl, rfl, -⟩ | ⟨c, s', -, -, -, rfl, -⟩
  ·rw [nU (by rw [List.length_take]; omega)]; unfold upd; rw [if_neg (by omega)]
  ·unfold upd; rw [if_neg (by omega)]
 one x s y r hB h := by
  rcases mrk_get (fun c hc => (hB c hc).1) h with ⟨s', rfl, hl, rfl, rfl⟩ | ⟨s', rfl, rfl, rfl⟩
  ·simp only [bN]
   have e : eE (upd x a 1) (a + 1) (s'.take n) a = 1 := by rw [nU (by omega)]; simp [upd]
   rw [e, if_pos (by decide), run_updL _ _ _ _ (by rw [List.length_take]; omega)]
   simp
  ·simp only [bN]
   rw [if_neg (by simp [upd])]
   rfl
 ext x p y r q h := by
  rcases mrk_get' h with ⟨c, s', rfl, h1, rfl, hl, rfl, rfl⟩ | ⟨c, s', rfl, h1, h2, rfl, rfl⟩
  ·simp only [bN, List.cons_append, cH]
   rw [if_neg h1]
   simp only [decide_true]
   rw [if_neg (by simp; omega), List.take_append_of_le_length hl, List.drop_append_of_le_length hl]
  ·simp only [bN, List.cons_append, cH]
   rw [if_neg h1, decide_eq_false h2]
 back x y s hR h0 := by
  rcases hR with ⟨hy, hz⟩ | hy
  ·refine ⟨upd x a 0, ?_, fun i h1 h2 => ?_⟩
   ·simp only [bN, hy]
    rw [if_neg (by simp)]
    simp [cH]
   ·unfold upd
    split
    ·rename_i e; subst e; exact hy.symm
    ·rw [h0 i h1 h2, hz i (by omega) h2]
  ·refine ⟨eE (upd x a 1) (a + 1) (run y (a + 1) n), ?_, fun i h1 h2 => ?_⟩
   ·simp only [bN, hy]
    rw [if_pos (by decide)]
    simp only [List.cons_append, cH]
    rw [if_neg (by decide)]
    simp only [decide_true]
    rw [if_neg (by simp [aN]), List.take_append_of_le_length (by rw [aN]; omega), List.take_of_length_le (by rw [aN]; omega), List.drop_append_of_le_length (by rw [aN]; omega), List.drop_of_length_le (by rw [aN]; omega), List.nil_append]
   ·by_cases hi : i = a
    ·subst hi; rw [nU (by omega), hy]; simp [upd]
    ·exact updL_run _ _ _ _ _ (by omega) (by omega)
theorem gD (a : Nat) : Gud (aB []) a a (fun _ => True) where
 le := Nat.le_refl _
 loc x y h := rfl
 fl x y h := rfl
 chg x s y r h i hi := by simp only [aB, Option.some.injEq, Prod.mk.injEq] at h; rw [h.1]
 one x s y r hB h := by simp only [aB, Option.some.injEq, Prod.mk.injEq] at h; rw [← h.2]; rfl
 ext x p y r q h := by simp only [aB, Option.some.injEq, Prod.mk.injEq] at h ⊢; rw [h.1, h.2]; exact ⟨rfl, rfl⟩
 back x y s _ _ := ⟨x, rfl, fun i h1 h2 => by omega⟩
theorem cons_get {f : FdS} {l : List FdS} {x y : Nat → Int} {s r : List Int} (h : (aB (f :: l)).get x s = some (y, r)) : ∃ z t, f.get x s = some (z, t) ∧ (aB l).get z t = some (y, r) := by
 simp only [aB] at h
 cases hf : f.get x s with
 | none => rw [hf] at h; simp at h
 | some u => obtain ⟨z, t⟩ := u; rw [hf] at h; exact ⟨z, t, rfl, h⟩
theorem cons_yes {f : FdS} {l : List FdS} {x y z : Nat → Int} {s r t : List Int} (hf : f.get x s = some (z, t)) (h : (aB l).get z t = some (y, r)) : (aB (f :: l)).get x s = some (y, r) := by
 simp only [aB]; rw [hf]; exact h
theorem bO {f : FdS} {l : List FdS} {a b c : Nat} {R S : (Nat → Int) → Prop} (hf : Gud f a b R) (hl : Gud (aB l) b c S) : Gud (aB (f :: l)) a c (fun y => R y ∧ S y) where
 le := Nat.le_trans hf.le hl.le
 loc x y h := by
  have := hf.le; have := hl.le
  simp only [aB]; rw [hf.loc x y (fun i h1 h2 => h i h1 (by omega)), hl.loc x y (fun i h1 h2 => h i (by omega) h2)]
 fl x y h := by
  have := hl.le
  simp only [aB]; rw [hf.fl x y (fun i h1 => h i (by omega)), hl.fl x y h]
 chg x s y r h i hi := by
  have := hf.le; have := hl.le
  obtain ⟨z, t, h1, h2⟩ := cons_get h
  rw [hl.chg z t y r h2 i (by omega), hf.chg x s z t h1 i (by omega)]
 one x s y r hB h := by
  obtain ⟨z, t, h1, h2⟩ := cons_get h
  have e1 := hf.one x s z t hB h1
  have hBt : IsB t := fun c hc => hB c (by rw [e1]; simp [hc])
  have e2 := hl.one z t y r hBt h2
  have e3 : f.enc y = f.enc z := hf.loc y z (fun i h3 h4 => hl.chg z t y r h2 i (by omega))
  simp only [aB]
  rw [e3, List.append_assoc, ← e2, ← e1]
 ext x p y r q h := by
  obtain ⟨z, t, h1, h2⟩ := cons_get h
  exact cons_yes (hf.ext x p z t q h1) (hl.ext z t y r q h2)
 back x y s hR h0 := by
  have hle := hf.le; have hle2 := hl.le
  obtain ⟨z, h1, h2⟩ := hf.back x y ((aB l).enc y ++ s) hR.1 (fun i h3 h4 => h0 i h3 (by omega))
  obtain ⟨u, h3, h4⟩ := hl.back z y s hR.2 (fun i h5 h6 => by rw [hf.chg _ _ _ _ h1 i (by omega)]; exact h0 i (by omega) h6)
  refine ⟨u, ?_, fun i h5 h6 => ?_⟩
  ·have e : (aB (f :: l)).enc y ++ s = f.enc y ++ ((aB l).enc y ++ s) := by simp only [aB, List.append_assoc]
   rw [e]
   exact cons_yes h1 h3
  ·by_cases hi : b ≤ i
   ·exact h4 i hi h6
   ·rw [hl.chg _ _ _ _ h3 i (by omega), h2 i h5 (by omega)]
theorem pK (f : FdS) : bR 0 f = f := by
 obtain ⟨fit, enc, get⟩ := f
 unfold bR
 congr 1
 ·funext x; rw [bF]
 ·funext x; rw [bF]
 ·funext x s
  rw [bF]
  cases h : get x s with
  | none => simp only [h]
  | some u => obtain ⟨y, r⟩ := u; simp only [h, ins_zero]
theorem rep_getD0 (n j : Nat) : (List.replicate n (0 : Int)).getD j 0 = 0 := by
 rw [List.getD_eq_getElem?_getD, List.getElem?_replicate]; split <;> rfl
theorem kin_Cert : ∃ R, Gud (aB aF) 0 99 R ∧ (∀ y, (∀ i, i < 99 → (aD i).ok (y i)) → (aB aF).fit y = true → R y) ∧ ∀ y, ((aB aF).enc y).length ≤ 300 ∧ 0 < ((aB aF).enc y).length := by
 unfold aF
 skip
 refine ⟨_, (bO (eN 0 1 _ (fun _ _ _ => rfl)) (bO (eN 1 1 _ (fun _ _ _ => rfl)) (bO (lW 2 _) (bO (eO 3 32) (bO (eO 35 64) (gD 99)))))), fun y hok hf => ?_, fun y => ?_⟩
 ·exact sh73
 ·exact sh82
theorem kin_Ticket : ∃ R, Gud (aB aY) 0 132 R ∧ (∀ y, (∀ i, i < 132 → (aS i).ok (y i)) → (aB aY).fit y = true → R y) ∧ ∀ y, ((aB aY).enc y).length ≤ 300 ∧ 0 < ((aB aY).enc y).length := by
 unfold aY
 rw [pK]
 refine ⟨_, (bO (bO (eN 0 1 _ (fun _ _ _ => rfl)) (bO (eN 1 1 _ (fun _ _ _ => rfl)) (bO (lW 2 _) (bO (eO 3 32) (bO (eO 35 64) (gD 99)))))) (bO (eN 99 1 _ (fun x y h => h 1 (by omega))) (bO (eO 100 32) (gD 132)))), fun y hok hf => ?_, fun y => ?_⟩
 ·exact sh73
 ·exact sh82
theorem kin_Entry : ∃ R, Gud (aB aT) 0 262 R ∧ (∀ y, (∀ i, i < 262 → (aI i).ok (y i)) → (aB aT).fit y = true → R y) ∧ ∀ y, ((aB aT).enc y).length ≤ 300 ∧ 0 < ((aB aT).enc y).length := by
 unfold aT
 rw [pK]
 refine ⟨_, (bO (bO (eN 0 1 _ (fun _ _ _ => rfl)) (bO (eN 1 1 _ (fun _ _ _ => rfl)) (bO (lW 2 _) (bO (eO 3 32) (bO (eO 35 64) (gD 99)))))) (bO (eN 99 0 _ (fun x y h => h 1 (by omega))) (bO (eO 100 32) (bO (gud_mrk 132 64) (bO (gud_mrk 197 64) (gD 262)))))), fun y hok hf => ?_, fun y => ?_⟩
 ·have h132 := hok 132 (by omega)
  have h197 := hok 197 (by omega)
  have e132 : aI 132 = .t := rfl
  have e197 : aI 197 = .t := rfl
  rw [e132] at h132
  rw [e197] at h197
  simp only [Kd.ok] at h132 h197
  simp only [aB, aF, aO, aV, aL, bN, Bool.and_eq_true, Bool.or_eq_true, decide_eq_true_eq] at hf
  obtain ⟨⟨h1, h2, h3, -⟩, h4, -, h5, h6, -⟩ := hf
  have hrun : ∀ b, run y b 64 = List.replicate 64 0 → ∀ i, b ≤ i → i < b + 64 → y i = 0 := fun b h i hi1 hi2 => by
   have := congrArg (fun l => l.getD (i - b) 0) h
   simp only [run_getD _ _ _ _ (show i - b < 64 by omega)] at this
   rw [show b + (i - b) = i by omega] at this
   rw [this, rep_getD0]
  refine ⟨⟨⟨by omega, by omega⟩, ⟨by omega, by omega⟩, ⟨by omega, by omega⟩, trivial, trivial, trivial⟩, ⟨by omega, by omega⟩, trivial, ?_, ?_, trivial⟩
  ·rcases h132 with h | h
   ·exact .inl ⟨h, hrun 133 (h5.resolve_left (fun e => e h))⟩
   ·exact .inr h
  ·rcases h197 with h | h
   ·exact .inl ⟨h, hrun 198 (h6.resolve_left (fun e => e h))⟩
   ·exact .inr h
 ·simp only [aB, aF, aO, aV, aL, bN, List.length_append, fN, aN, List.length_nil]
  split <;> split <;> simp [aN]
theorem kin_Freeze : ∃ R, Gud (aB aM) 0 163 R ∧ (∀ y, (∀ i, i < 163 → (aR i).ok (y i)) → (aB aM).fit y = true → R y) ∧ ∀ y, ((aB aM).enc y).length ≤ 300 ∧ 0 < ((aB aM).enc y).length := by
 unfold aM
 exact sh131
theorem kin_Ack : ∃ R, Gud (aB aZ) 0 99 R ∧ (∀ y, (∀ i, i < 99 → (bI i).ok (y i)) → (aB aZ).fit y = true → R y) ∧ ∀ y, ((aB aZ).enc y).length ≤ 300 ∧ 0 < ((aB aZ).enc y).length := by
 unfold aZ
 skip
 refine ⟨_, (bO (eN 0 1 _ (fun _ _ _ => rfl)) (bO (eN 1 1 _ (fun _ _ _ => rfl)) (bO (eN 2 0 _ (fun _ _ _ => rfl)) (bO (eO 3 32) (bO (eO 35 64) (gD 99)))))), fun y hok hf => ?_, fun y => ?_⟩
 ·exact sh73
 ·exact sh82
theorem uH : ∃ R, Gud (aB aE) 0 163 R ∧ (∀ y, (∀ i, i < 163 → (aG i).ok (y i)) → (aB aE).fit y = true → R y) ∧ ∀ y, ((aB aE).enc y).length ≤ 300 ∧ 0 < ((aB aE).enc y).length := by
 unfold aE
 exact sh131
theorem kin_Floor : ∃ R, Gud (aB aQ) 0 65 R ∧ (∀ y, (∀ i, i < 65 → (aU i).ok (y i)) → (aB aQ).fit y = true → R y) ∧ ∀ y, ((aB aQ).enc y).length ≤ 300 ∧ 0 < ((aB aQ).enc y).length := by
 unfold aQ
 skip
 refine ⟨_, (bO (eN 0 1 _ (fun _ _ _ => rfl)) (bO (eO 1 64) (gD 65))), fun y hok hf => ?_, fun y => ?_⟩
 ·exact sh73
 ·exact sh82
theorem kin_Receipt : ∃ R, Gud (aB aH) 0 67 R ∧ (∀ y, (∀ i, i < 67 → (aK i).ok (y i)) → (aB aH).fit y = true → R y) ∧ ∀ y, ((aB aH).enc y).length ≤ 300 ∧ 0 < ((aB aH).enc y).length := by
 unfold aH
 skip
 refine ⟨_, (bO (eN 0 1 _ (fun _ _ _ => rfl)) (bO (eN 1 0 _ (fun _ _ _ => rfl)) (bO (lW 2 _) (bO (eO 3 64) (gD 67))))), fun y hok hf => ?_, fun y => ?_⟩
 ·exact sh73
 ·exact sh82
theorem kin_Order : ∃ R, Gud (aB bH) 0 34 R ∧ (∀ y, (∀ i, i < 34 → (bD i).ok (y i)) → (aB bH).fit y = true → R y) ∧ ∀ y, ((aB bH).enc y).length ≤ 300 ∧ 0 < ((aB bH).enc y).length := by
 unfold bH
 skip
 refine ⟨_, (bO (eN 0 1 _ (fun _ _ _ => rfl)) (bO (lW 1 _) (bO (eO 2 32) (gD 34)))), fun y hok hf => ?_, fun y => ?_⟩
 ·exact sh73
 ·exact sh82
theorem kin_Head : ∃ R, Gud (aB aX) 0 97 R ∧ (∀ y, (∀ i, i < 97 → (bE i).ok (y i)) → (aB aX).fit y = true → R y) ∧ ∀ y, ((aB aX).enc y).length ≤ 300 ∧ 0 < ((aB aX).enc y).length := by
 unfold aX
 skip
 refine ⟨_, (bO (eN 0 0 _ (fun _ _ _ => rfl)) (bO (eO 1 32) (bO (eO 33 64) (gD 97)))), fun y hok hf => ?_, fun y => ?_⟩
 ·exact sh73
 ·exact sh82
def fK (k : Int) : FdS := if k = 1 then aB aF else if k = 2 then aB aY else if k = 3 then aB aT else if k = 4 then aB aM else if k = 5 then aB aZ
 else if k = 6 then aB aE else if k = 7 then aB aQ else if k = 8 then aB aH else if k = 9 then aB bH else aB aX
def agL (dom : Int) (f : FdS) (l : List Int) : List Int := tellL dom f (decL dom f l).1
def AGP (dom : Int) (f : FdS) (l : List Int) (w : World) (e : Ending) (w' : World) : Prop := ∃ a c, e = .returned (.tuple #[.slice a (agL dom f l).length c, .bool (decide ((decL dom f l).2 = 0))]) ∧ w'.ownsRow w.heap.size 5 1 (.slice a (agL dom f l).length c) (agL dom f l).length (U8 (agL dom f l)) ∧ IsB (agL dom f l) ∧ Below w.heap.size w w'
end Go.Proofs.YtejagcngbgnogaaGreat
