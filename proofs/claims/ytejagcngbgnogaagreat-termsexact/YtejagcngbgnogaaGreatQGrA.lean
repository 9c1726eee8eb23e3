import Derived.Test.YtejagcngbgnogaaGreatQShr
import Derived.WalkKit
import Derived.Laws.BitsAllLaws
import Derived.Test.YtejagcngbgnogaaGreatProg
import Derived.WalkSpells
import Derived.WalkLawsBesides
import Derived.Deep.QuietTactic
import Derived.BigQuiet
import Derived.RegionTactic
import Derived.BigRegion
set_option maxHeartbeats 2000000
set_option maxRecDepth 100000
namespace Go.Proofs.YtejagcngbgnogaaGreat
open Go.RowKit
def rotZ (W : Nat) (x n : Int) : Int := (((BitVec.ofInt W x).rotateLeft (n % (W : Int)).toNat).toNat : Int)
end Go.Proofs.YtejagcngbgnogaaGreat
namespace Go.Proofs.YtejagcngbgnogaaGreat
open Go.RowKit
theorem sF (w : World) :
  Calls Tryz.prog 421 #[] w fun e w' => e = .returned (.int .i64 4) ∧ w' = w := by
 go_enter Tryz.func421, Tryz.ntmps421
 go_wp2
 go_ret
 exact ⟨rfl, rfl⟩
theorem sE (w : World) :
  Calls Tryz.prog 419 #[] w fun e w' => e = .returned (.int .i64 8) ∧ w' = w := by
 go_enter Tryz.func419, Tryz.ntmps419
 go_wp2
 go_ret
 exact ⟨rfl, rfl⟩
end Go.Proofs.YtejagcngbgnogaaGreat
namespace Go.Proofs.YtejagcngbgnogaaGreat
open Go.RowKit
theorem aA {p : Prop} (h : p) : Hid p := h
theorem unhide {p : Prop} (h : Hid p) : p := h.out
theorem mM (b off j : Nat) : (⟨b, off, none⟩ : Addr).add j = ⟨b, off + j, none⟩ := by
 unfold Addr.add; by_cases h : j = 0
 ·subst h; rfl
 ·rw [if_neg h]
def U8 (l : List Int) : List Value := l.map (Value.int .u8)
@[simp] theorem U8_length (l : List Int) : (U8 l).length = l.length := by simp [U8]
theorem U8_get (l : List Int) (i : Nat) : (U8 l)[i]? = (l[i]?).map (Value.int .u8) := by simp [U8]
theorem kV (l : List Int) (i : Nat) (h : i < l.length) : (U8 l)[i]? = some (.int .u8 (l.getD i 0)) := by
 rw [U8_get, List.getD_eq_getElem?_getD, List.getElem?_eq_getElem h]; rfl
theorem lH (l : List Int) (i : Nat) (x : Int) : (U8 l).set i (.int .u8 x) = U8 (l.set i x) := by simp [U8, List.map_set]
def IsB (l : List Int) : Prop := ∀ x ∈ l, 0 ≤ x ∧ x ≤ 255
theorem IsB.at {l : List Int} (h : IsB l) (i : Nat) : 0 ≤ l.getD i 0 ∧ l.getD i 0 ≤ 255 := sh101
def dW (w : World) (a : Option Addr) (l : List Int) : Prop :=
 0 < l.length → ∃ b off, a = some ⟨b, off, none⟩ ∧ b < w.heap.size ∧ ∀ i, i < l.length → w.cell? ⟨b, off + i, none⟩ = some (.int .u8 (l.getD i 0))
theorem fM {w : World} {a : Addr} {v : Value} (h : w.cell? a = some v) : a.block < w.heap.size := by
 unfold World.cell? at h
 by_cases hb : a.block < w.heap.size
 ·exact hb
 ·rw [Array.getElem?_eq_none (by omega)] at h; simp at h
theorem dW.below {w w' : World} {a : Option Addr} {l : List Int} {B : Nat} (h : dW w a l) (hb : Below B w w') (hB : ∀ x, a = some x → x.block < B) : dW w' a l := by
 intro hl
 obtain ⟨b, off, rfl, hlt, hc⟩ := h hl
 exact ⟨b, off, rfl, Nat.lt_of_lt_of_le hlt hb.size, fun i hi => (hb.cell (p := ⟨b, off + i, none⟩) (hB ⟨b, off, none⟩ rfl)).trans (hc i hi)⟩
theorem dW.later {w w' : World} {a : Option Addr} {l : List Int} (h : dW w a l) (hb : Below w.heap.size w w') : dW w' a l := by
 intro hl
 obtain ⟨b, off, rfl, hlt, hc⟩ := h hl
 exact ⟨b, off, rfl, Nat.lt_of_lt_of_le hlt hb.size, fun i hi => (hb.cell (p := ⟨b, off + i, none⟩) hlt).trans (hc i hi)⟩
theorem dW.nil (w : World) (a : Option Addr) : dW w a [] := fun h => absurd h (by simp)
theorem dW.of_own {w : World} {base e g n cap : Nat} {l : List Int} (h : w.ownsRow base e 1 (.slice (some ⟨g, 0, none⟩) n cap) n (U8 l)) : dW w (some ⟨g, 0, none⟩) l := by
 intro hl
 have hn : l.length = n := by have := h.1; simpa using this
 refine ⟨g, 0, rfl, (h.lt g rfl).2, fun i hi => ?_⟩
 rw [Nat.zero_add, h.cellAt i (by omega), kV l i hi]
theorem dW.sub {w : World} {b off : Nat} {l : List Int} (k n : Nat) (h : dW w (some ⟨b, off, none⟩) l) (hk : k + n ≤ l.length) : dW w (some ⟨b, off + k, none⟩) ((l.drop k).take n) := by
 intro hl
 have hl' : ((l.drop k).take n).length = n := by simp; omega
 obtain ⟨b', off', he, hlt, hc⟩ := h (by omega)
 simp at he; obtain ⟨rfl, rfl⟩ := he
 refine ⟨b, off + k, rfl, hlt, fun i hi => ?_⟩
 have := hc (k + i) (by omega)
 rw [Nat.add_assoc, this]
 simp only [List.getD_eq_getElem?_getD, List.getElem?_take, List.getElem?_drop]
 rw [if_pos (by omega)]
def leB (n : Nat) (x : Int) : List Int := (List.range n).map fun i => x / 2 ^ (8 * i) % 256
@[simp] theorem leB_length (n : Nat) (x : Int) : (leB n x).length = n := by simp [leB]
theorem leB_isB (n : Nat) (x : Int) : IsB (leB n x) := by
 intro y hy; simp only [leB, List.mem_map] at hy; obtain ⟨i, _, rfl⟩ := hy
 have h : (0:Int) < 256 := by decide
 exact ⟨Int.emod_nonneg _ (by decide), by have := Int.emod_lt_of_pos (x / 2 ^ (8 * i)) h; omega⟩
def fill (n : Nat) (f : Nat → Int) (k : Nat) : List Int := (List.range n).map fun i => if i < k then f i else 0
@[simp] theorem fill_length (n : Nat) (f : Nat → Int) (k : Nat) : (fill n f k).length = n := by simp [fill]
theorem fill_zero (n : Nat) (f : Nat → Int) : fill n f 0 = List.replicate n 0 := by
 unfold fill; apply List.ext_getElem <;> simp
theorem fill_set (n : Nat) (f : Nat → Int) (k : Nat) : (fill n f k).set k (f k) = fill n f (k + 1) := by
 apply List.ext_getElem
 ·simp
 ·intro i h1 h2
  simp only [fill, List.getElem_set, List.getElem_map, List.getElem_range]
  by_cases e : k = i
  ·subst e; simp
  ·simp only [e, if_false]
   by_cases h : i < k
   ·simp [h, Nat.lt_succ_of_lt h]
   ·rw [if_neg h, if_neg (by omega)]
theorem fill_all (n : Nat) (f : Nat → Int) : fill n f n = (List.range n).map f := by
 apply List.ext_getElem
 ·simp
 ·intro i h1 h2; simp [fill] at h1 ⊢; omega
theorem made_U8 (n : Nat) : (madeCells (Value.int .u8 0).cells (n * 1)).toList = U8 (List.replicate n 0) := by
 show (madeCells #[Value.int .u8 0] (n * 1)).toList = _
 rw [toList_madeCells_one, Nat.mul_one]; simp [U8]
end Go.Proofs.YtejagcngbgnogaaGreat
namespace Go.Proofs.YtejagcngbgnogaaGreat
open Go.RowKit
def leV : List Int → Int
 | [] => 0
 | c :: r => c + 256 * leV r
theorem kA : ∀ (l : List Int), IsB l → 0 ≤ leV l ∧ leV l < 2 ^ (8 * l.length)
 | [], _ => by simp [leV]
 | c :: r, h => by
  have hc := h c (by simp)
  have hr := kA r (fun x hx => h x (by simp [hx]))
  have e : (2 : Int) ^ (8 * (c :: r).length) = 256 * 2 ^ (8 * r.length) := by
   rw [List.length_cons, Nat.mul_add, Int.pow_add]; omega
  rw [e]; unfold leV; omega
theorem leV_append (a : List Int) (c : Int) : leV (a ++ [c]) = leV a + c * 2 ^ (8 * a.length) := by
 induction a with
 | nil => simp [leV]
 | cons d r ih =>
  have e : (2 : Int) ^ (8 * (d :: r).length) = 256 * 2 ^ (8 * r.length) := by
   rw [List.length_cons, Nat.mul_add, Int.pow_add]; omega
  rw [e]; simp only [List.cons_append, leV, ih]
  rw [show c * (256 * 2 ^ (8 * r.length)) = 256 * (c * 2 ^ (8 * r.length)) from by rw [← Int.mul_assoc, Int.mul_comm c 256, Int.mul_assoc]]
  omega
theorem leB_succ (n : Nat) (x : Int) : leB (n + 1) x = leB n x ++ [x / 2 ^ (8 * n) % 256] := by
 simp [leB, List.range_succ]
theorem uU (x a b : Int) (ha : 0 ≤ a) : x % (a * b) = x % a + a * (x / a % b) := by
 rw [Int.emod_def x (a * b), ← Int.ediv_ediv_of_nonneg ha, Int.emod_def x a, Int.emod_def (x / a) b, Int.mul_sub, Int.mul_assoc]
 omega
theorem leV_leB (n : Nat) (x : Int) : leV (leB n x) = x % 2 ^ (8 * n) := by
 induction n with
 | zero => simp [leB, leV, Int.emod_one]
 | succ n ih =>
  rw [leB_succ, leV_append, ih, leB_length]
  have e : (2 : Int) ^ (8 * (n + 1)) = 2 ^ (8 * n) * 256 := by rw [Nat.mul_add, Int.pow_add]; rfl
  rw [e, uU x _ 256 (Int.le_of_lt (Int.pow_pos (by decide))), Int.mul_comm]
theorem iX (l : List Int) (k : Nat) (h : k < l.length) : l.take (k + 1) = l.take k ++ [l.getD k 0] := by
 rw [List.take_succ_eq_append_getElem h]; simp [h]
theorem IsB.take {l : List Int} (h : IsB l) (k : Nat) : IsB (l.take k) := fun x hx => h x (List.mem_of_mem_take hx)
theorem IsB.drop {l : List Int} (h : IsB l) (k : Nat) : IsB (l.drop k) := fun x hx => h x (List.mem_of_mem_drop hx)
theorem IsB.reverse {l : List Int} (h : IsB l) : IsB l.reverse := fun x hx => h x (by simpa using hx)
theorem IsB.append {a b : List Int} (h : IsB a) (k : IsB b) : IsB (a ++ b) := fun x hx => by
 rcases List.mem_append.1 hx with h' | h'
 ·exact h x h'
 ·exact k x h'
theorem be_step (W : Nat) (k : Nat) (X c : Nat) (hc : c < 256) (hX : X < 2 ^ (8 * k)) (hk : 8 * k + 8 ≤ W) :
  (X * 256 % 2 ^ W) ||| c = c + 256 * X := by
 have h1 : X * 256 < 2 ^ W := by
  have : (2:Nat) ^ (8 * k + 8) ≤ 2 ^ W := Nat.pow_le_pow_right (by omega) hk
  rw [Nat.pow_add] at this; omega
 rw [Nat.mod_eq_of_lt h1]
 have : X * 256 = X * 2 ^ 8 := rfl
 rw [this, Nat.mul_comm X, ← Nat.two_pow_add_eq_or_of_lt (by omega : c < 2 ^ 8)]; omega
theorem toNat_pow (k : Nat) : ((2 ^ k : Nat) : Int) = (2 : Int) ^ k := by simp
theorem be_code (k : IntKind) (W : Nat) (M : Int) (hM : M = 2 ^ W) (hor : ∀ a b : Int, 0 ≤ a → a < M → 0 ≤ b → b < M → bits .or k a b = ((a.toNat ||| b.toNat : Nat) : Int))
  (l : List Int) (i : Nat) (hl : IsB l) (hi : i < l.length) (hW : 8 * l.length ≤ W) :
  bits .or k (leV (l.take i).reverse * 256 % M) (l.getD i 0) = leV (l.take (i + 1)).reverse := by
 have hc := hl.at i
 have hv := kA _ (hl.take i).reverse
 rw [iX l i hi, List.reverse_append]
 simp only [List.reverse_cons, List.reverse_nil, List.nil_append, List.singleton_append, leV]
 rw [List.length_reverse, List.length_take, Nat.min_eq_left (by omega)] at hv
 generalize leV (l.take i).reverse = X at hv
 generalize l.getD i 0 = c at hc
 obtain ⟨X', rfl⟩ := Int.eq_ofNat_of_zero_le hv.1
 obtain ⟨c', rfl⟩ := Int.eq_ofNat_of_zero_le hc.1
 have hX : X' < 2 ^ (8 * i) := by have := hv.2; rw [← toNat_pow] at this; omega
 have hMp : (0 : Int) < M := by rw [hM]; exact Int.pow_pos (by decide)
 have h256 : (256 : Int) ≤ M := by
  rw [hM]; have h : (2 : Nat) ^ 8 ≤ 2 ^ W := Nat.pow_le_pow_right (by omega) (by omega)
  have := toNat_pow W; omega
 rw [hor _ _ (Int.emod_nonneg _ (by omega)) (Int.emod_lt_of_pos _ hMp) (by omega) (by omega)]
 have e : ((X' : Int) * 256 % M).toNat = X' * 256 % 2 ^ W := by
  have : ((X' : Int) * 256 % M) = ((X' * 256 % 2 ^ W : Nat) : Int) := by rw [hM]; simp
  rw [this]; rfl
 rw [e, Int.toNat_natCast, be_step W i X' c' (by omega) hX (by omega)]
 simp
end Go.Proofs.YtejagcngbgnogaaGreat
namespace Go.Proofs.YtejagcngbgnogaaGreat
open Go.RowKit
theorem Tryz.infoB : (Tryz.prog.info? 5).map (fun i => (i.zero, i.size, i.bytes)) = some (some (.int .u8 0), 1, 1) := by kernel_rfl
theorem storele64_any (x : Int) (w : World) (_hx0 : 0 ≤ x) :
  Calls Tryz.prog 409 #[.int .u64 x] w fun e w' => e = .returned (.slice (some ⟨w.heap.size, 0, none⟩) 8 8) ∧
   w'.ownsRow w.heap.size 5 1 (.slice (some ⟨w.heap.size, 0, none⟩) 8 8) 8 (U8 (leB 8 x)) ∧ Below w.heap.size w w' := by
 obtain ⟨i0, hi, hz0, hz1, hz2⟩ := info_parts Tryz.infoB
 have hbs : i0.bytes * 8 ≤ 281474976710656 := by rw [hz2]; decide
 go_enter Tryz.func409, Tryz.ntmps409
 go_wp2_with (first
  | (go_at_call 419; refine (sE _).mono ?_; rintro e w' ⟨rfl, rfl⟩)
  | (at_make; refine wpList_make_full _ rfl _ _ 33 rfl w'.heap.size 5 i0 (.int .u8 0) 1 Tryz.underlying33 hi hz0 hz1 .i64 .i64 8 8 8 rfl rfl rfl rfl hbs (by decide) (Nat.le_refl _) ?_))
 intro w1 hown hgrow
 have hb1 : Below w'.heap.size w' w1 := (Below.refl _ _).grown hgrow (Nat.le_refl _) (fun _ h => by cases h)
 have hown0 : w1.ownsRow w'.heap.size 5 1 (.slice (some ⟨w'.heap.size, 0, none⟩) 8 8) 8 (U8 (fill 8 (fun i => x / 2 ^ (8 * i) % 256) 0)) := by
  rw [fill_zero, ← made_U8]; exact hown
 clear hown hgrow
 go_wp2
 go_loopw [9] (fun i wr => ∃ k : Nat, k ≤ 8 ∧ i = .int .i64 k ∧ wr.ownsRow w'.heap.size 5 1 (.slice (some ⟨w'.heap.size, 0, none⟩) 8 8) 8 (U8 (fill 8 (fun i => x / 2 ^ (8 * i) % 256) k)) ∧ Below w'.heap.size w' wr)
  (fun i _ => 8 - (intOf i).toNat)
 case atStart => exact ⟨0, by omega, rfl, hown0, hb1⟩
 case round =>
  obtain ⟨k, hk, rfl, hown, hbl⟩ := hrel
  clear hown0 hb1
  by_cases hlt : k < 8
  ·have hfz := hown.frozenAt k
   have hcl := (hown.cellAt k (by omega)).trans (kV _ k (by simpa using hlt))
   go_wp2
   go_roundw
   case rel =>
    have hst := (hown.stored k (.int .u8 (x / 2 ^ (8 * k) % 256))).1
    rw [lH, fill_set 8 (fun i => x / 2 ^ (8 * i) % 256) k] at hst
    exact ⟨k + 1, by omega, by go_num, hst, hbl.setCell (Nat.le_refl _) _⟩
   case measure => simp [intOf]; omega
  ·go_wp2
   go_ret
   have : k = 8 := by omega
   subst this
   rw [fill_all] at hown
   exact ⟨rfl, hown, hbl⟩
theorem storele32_any (x : Int) (w : World) (_hx0 : 0 ≤ x) :
  Calls Tryz.prog 414 #[.int .u32 x] w fun e w' => e = .returned (.slice (some ⟨w.heap.size, 0, none⟩) 4 4) ∧
   w'.ownsRow w.heap.size 5 1 (.slice (some ⟨w.heap.size, 0, none⟩) 4 4) 4 (U8 (leB 4 x)) ∧ Below w.heap.size w w' := by
 obtain ⟨i0, hi, hz0, hz1, hz2⟩ := info_parts Tryz.infoB
 have hbs : i0.bytes * 4 ≤ 281474976710656 := by rw [hz2]; decide
 go_enter Tryz.func414, Tryz.ntmps414
 go_wp2_with (first
  | (go_at_call 421; refine (sF _).mono ?_; rintro e w' ⟨rfl, rfl⟩)
  | (at_make; refine wpList_make_full _ rfl _ _ 33 rfl w'.heap.size 5 i0 (.int .u8 0) 1 Tryz.underlying33 hi hz0 hz1 .i64 .i64 4 4 4 rfl rfl rfl rfl hbs (by decide) (Nat.le_refl _) ?_))
 intro w1 hown hgrow
 have hb1 : Below w'.heap.size w' w1 := (Below.refl _ _).grown hgrow (Nat.le_refl _) (fun _ h => by cases h)
 have hown0 : w1.ownsRow w'.heap.size 5 1 (.slice (some ⟨w'.heap.size, 0, none⟩) 4 4) 4 (U8 (fill 4 (fun i => x / 2 ^ (8 * i) % 256) 0)) := by
  rw [fill_zero, ← made_U8]; exact hown
 clear hown hgrow
 go_wp2
 go_loopw [9] (fun i wr => ∃ k : Nat, k ≤ 4 ∧ i = .int .i64 k ∧ wr.ownsRow w'.heap.size 5 1 (.slice (some ⟨w'.heap.size, 0, none⟩) 4 4) 4 (U8 (fill 4 (fun i => x / 2 ^ (8 * i) % 256) k)) ∧ Below w'.heap.size w' wr)
  (fun i _ => 4 - (intOf i).toNat)
 case atStart => exact ⟨0, by omega, rfl, hown0, hb1⟩
 case round =>
  obtain ⟨k, hk, rfl, hown, hbl⟩ := hrel
  clear hown0 hb1
  by_cases hlt : k < 4
  ·have hfz := hown.frozenAt k
   have hcl := (hown.cellAt k (by omega)).trans (kV _ k (by simpa using hlt))
   go_wp2
   go_roundw
   case rel =>
    have hst := (hown.stored k (.int .u8 (x / 2 ^ (8 * k) % 256))).1
    rw [lH, fill_set 4 (fun i => x / 2 ^ (8 * i) % 256) k] at hst
    exact ⟨k + 1, by omega, by go_num, hst, hbl.setCell (Nat.le_refl _) _⟩
   case measure => simp [intOf]; omega
  ·go_wp2
   go_ret
   have : k = 4 := by omega
   subst this
   rw [fill_all] at hown
   exact ⟨rfl, hown, hbl⟩
def iY (l : List Int) (k : Nat) : List Int := (List.range l.length).map fun i => if i < k ∨ l.length ≤ i + k then l.getD (l.length - 1 - i) 0 else l.getD i 0
@[simp] theorem revTo_length (l : List Int) (k : Nat) : (iY l k).length = l.length := by simp [iY]
theorem revTo_zero (l : List Int) : iY l 0 = l := by
 apply List.ext_getElem
 ·simp
 ·intro i h1 h2
  simp [iY] at h1 ⊢
  rw [List.getElem?_eq_getElem h2, if_neg (by omega)]; rfl
theorem getD_lt (l : List Int) (i : Nat) (h : i < l.length) : l.getD i 0 = l[i] := by simp [h]
theorem revTo_all (l : List Int) (k : Nat) (hk : l.length ≤ 2 * k + 1) : iY l k = l.reverse := by
 apply List.ext_getElem
 ·simp
 ·intro i h1 h2
  simp at h1
  rw [List.getElem_reverse]
  simp only [iY, List.getElem_map, List.getElem_range]
  split
  ·rw [getD_lt _ _ (by omega)]
  ·rw [getD_lt _ _ h1]; congr 1; omega
theorem revTo_at (l : List Int) (k i : Nat) (hi : k ≤ i) (hj : i + k < l.length) : (iY l k).getD i 0 = l.getD i 0 := by
 rw [getD_lt _ _ (by simp; omega)]
 simp only [iY, List.getElem_map, List.getElem_range]
 rw [if_neg (by omega)]
theorem revTo_set (l : List Int) (k : Nat) (hk : 2 * k + 1 < l.length) :
  ((iY l k).set k (l.getD (l.length - 1 - k) 0)).set (l.length - 1 - k) (l.getD k 0) = iY l (k + 1) := by
 apply List.ext_getElem
 ·simp
 ·intro i h1 h2
  simp at h1
  simp only [List.getElem_set, iY, List.getElem_map, List.getElem_range]
  by_cases e1 : l.length - 1 - k = i
  ·rw [if_pos e1, if_pos (by omega)]; congr 1; omega
  ·rw [if_neg e1]
   by_cases e2 : k = i
   ·rw [if_pos e2, if_pos (by omega)]; congr 1; omega
   ·rw [if_neg e2]
    by_cases e3 : i < k ∨ l.length ≤ i + k
    ·rw [if_pos e3, if_pos (by omega)]
    ·rw [if_neg e3, if_neg (by omega)]
theorem reverse_any (base g n cap : Nat) (l : List Int) (w : World) (hn : n ≤ 1099511627776)
  (hown : w.ownsRow base 5 1 (.slice (some ⟨g, 0, none⟩) n cap) n (U8 l)) :
  Calls Tryz.prog 410 #[.slice (some ⟨g, 0, none⟩) n cap] w fun e w' => e = .returned (.tuple #[]) ∧
   w'.ownsRow base 5 1 (.slice (some ⟨g, 0, none⟩) n cap) n (U8 l.reverse) ∧ Below g w w' := by
 have hl : l.length = n := by have := hown.1; simpa using this
 have HL : Hid (l.length = n) := hl
 have hown0 : w.ownsRow base 5 1 (.slice (some ⟨g, 0, none⟩) n cap) n (U8 (iY l 0)) := by rw [revTo_zero]; exact hown
 clear hown hl
 go_enter Tryz.func410, Tryz.ntmps410
 go_wp2
 go_loopw [2, 3] (fun i j wr => ∃ k : Nat, 2 * k ≤ n ∧ i = .int .i64 k ∧ j = .int .i64 ((n : Int) - 1 - k) ∧ wr.ownsRow base 5 1 (.slice (some ⟨g, 0, none⟩) n cap) n (U8 (iY l k)) ∧ Below g w wr)
  (fun i _ _ => n - (intOf i).toNat)
 case atStart => exact ⟨0, by omega, rfl, by go_num, hown0, Below.refl _ _⟩
 case round =>
  obtain ⟨k, hk, rfl, rfl, hown, hbl⟩ := hrel
  clear hown0
  by_cases hlt : (k : Int) < (n : Int) - 1 - k
  ·obtain ⟨m, hm⟩ : ∃ m : Nat, (n : Int) - 1 - k = m := ⟨n - 1 - k, by omega⟩
   have hl := HL.out
   have hkm : k < m := by omega
   have hmn : m < n := by omega
   have hmn' : (m : Int) < (n : Int) := by omega
   have hkn' : (k : Int) < (n : Int) := by omega
   have c1 := (hown.cellAt k (by omega)).trans (kV _ k (by simp; omega))
   have c2 := (hown.cellAt m (by omega)).trans (kV _ m (by simp; omega))
   rw [revTo_at l k k (by omega) (by omega)] at c1
   rw [revTo_at l k m (by omega) (by omega)] at c2
   have f1 := hown.frozenAt k
   have f2 := hown.frozenAt m
   have HM : Hid ((n : Int) - 1 - k = m) := hm
   rw [hm]
   clear hl hm hlt
   generalize hx : l.getD k 0 = x at c1
   generalize hy : l.getD m 0 = y at c2
   have HX : Hid (l.getD k 0 = x) := hx
   have HY : Hid (l.getD m 0 = y) := hy
   clear hx hy
   go_wp2
   go_region
   go_wp2
   go_roundw
   case rel =>
    have hl := HL.out
    have hm := HM.out
    have hx := HX.out
    have hy := HY.out
    have hst := ((hown.stored k (.int .u8 y)).1.stored m (.int .u8 x)).1
    rw [lH, lH, ← hx, ← hy] at hst
    have hm' : m = l.length - 1 - k := by omega
    rw [← hx, ← hy]
    subst hm'
    rw [revTo_set l k (by omega)] at hst
    exact ⟨k + 1, by omega, by go_num, by go_num, hst.drew, ((hbl.setCell (Nat.le_refl _) _).setCell (Nat.le_refl _) _).drew⟩
   case measure => simp [intOf]; omega
  ·go_wp2
   go_end0
   have hh := HL.out
   rw [revTo_all l k (by omega)] at hown
   exact ⟨rfl, hown, hbl⟩
theorem storebe64_any (x : Int) (w : World) (hx0 : 0 ≤ x) :
  Calls Tryz.prog 383 #[.int .u64 x] w fun e w' => e = .returned (.slice (some ⟨w.heap.size, 0, none⟩) 8 8) ∧
   w'.ownsRow w.heap.size 5 1 (.slice (some ⟨w.heap.size, 0, none⟩) 8 8) 8 (U8 (leB 8 x).reverse) ∧ Below w.heap.size w w' := by
 go_enter Tryz.func383, Tryz.ntmps383
 go_wp2_with fail
 refine (storele64_any x _ hx0).mono ?_
 exact sh172
theorem storebe32_any (x : Int) (w : World) (hx0 : 0 ≤ x) :
  Calls Tryz.prog 389 #[.int .u32 x] w fun e w' => e = .returned (.slice (some ⟨w.heap.size, 0, none⟩) 4 4) ∧
   w'.ownsRow w.heap.size 5 1 (.slice (some ⟨w.heap.size, 0, none⟩) 4 4) 4 (U8 (leB 4 x).reverse) ∧ Below w.heap.size w w' := by
 go_enter Tryz.func389, Tryz.ntmps389
 go_wp2_with fail
 refine (storele32_any x _ hx0).mono ?_
 exact sh172
end Go.Proofs.YtejagcngbgnogaaGreat
namespace Go.Proofs.YtejagcngbgnogaaGreat
open Go.RowKit
theorem val_int {k : IntKind} {a b : Int} (h : a = b) : Value.int k a = Value.int k b := by rw [h]
theorem piece_ok (b off len cap at_ n : Nat) (w : World) (h1 : at_ + n ≤ len) (h2 : len ≤ cap) (h3 : cap ≤ maxLen) (h0 : 0 < n) :
  Calls Tryz.prog 420 #[.slice (some ⟨b, off, none⟩) len cap, .int .i64 at_, .int .i64 n] w fun e w' => e = .returned (.tuple #[.slice (some ⟨b, off + at_, none⟩) n (cap - at_), .bool true]) ∧ w' = w := by
 unfold maxLen at h3
 have t1 : ¬ ((at_ : Int) < 0) := by omega
 have t1' : decide ((at_ : Int) < 0) = false := by simp
 have t2 : ¬ ((len : Int) - (n : Int) < (at_ : Int)) := by omega
 go_enter Tryz.func420, Tryz.ntmps420
 go_wp2
 go_ret2
 exact ⟨rfl, rfl⟩
theorem or_u64 : ∀ a b : Int, 0 ≤ a → a < 18446744073709551616 → 0 ≤ b → b < 18446744073709551616 → bits .or .u64 a b = ((a.toNat ||| b.toNat : Nat) : Int) := fun a b h1 h2 h3 h4 => u64_or a b h1 h2 h3 h4
section
theorem rs139 {G : Prop} (h : G := by
 go_loop [8, 20] (fun x i => ∃ k : Nat, k ≤ 8 ∧ i = .int .i64 k ∧ x = .int .u64 (leV (p.take k).reverse)) (fun _ i => 8 - (intOf i).toNat)
 case atStart => exact ⟨0, by omega, rfl, by simp [leV]⟩
 case round =>
  obtain ⟨k, hk, rfl, rfl⟩ := hrel
  by_cases hlt : k < 8
  ·have hc := hpc k hlt
   have hb := hpB.at k
   have hb0 := hb.1
   have hb1 := hb.2
   have hcode := be_code .u64 64 18446744073709551616 (by decide) or_u64 p k hpB (by rw [HP.out]; omega) (by rw [HP.out]; decide)
   clear hpc
   generalize p.getD k 0 = c at hc hb hb0 hb1 hcode
   have HC := aA hcode
   clear hcode hb
   go_wp2
   go_roundw
   case rel => exact ⟨k + 1, by omega, by go_num, val_int (by have := HC.out; rw [IntKind.wrap_u64]; exact this)⟩
   case measure => simp [intOf]; omega
  ·go_wp2
   go_ret2
   have : k = 8 := by omega
   subst this
   rw [List.take_of_length_le (by rw [HP.out]; omega)]
   exact ⟨rfl, rfl⟩) : G := h
open Go.Proofs.YtejagcngbgnogaaGreat renaming nq8 → z152a, sE → z152e, nqe8 → z152aQ, rs139 → z152rr
open Go.Proofs.Tryz renaming func412 → z152b, ntmps412 → z152c
theorem loadbe64_ok (b off len cap at_ : Nat) (l : List Int) (w : World) (hl : l.length = len) (hB : IsB l) (hlies : dW w (some ⟨b, off, none⟩) l) (h1 : at_ + 8 ≤ len) (h2 : len ≤ cap) (h3 : cap ≤ maxLen) :
  Calls Tryz.prog 412 #[.slice (some ⟨b, off, none⟩) len cap, .int .i64 at_] w fun e w' => e = .returned (.tuple #[.int .u64 (leV ((l.drop at_).take 8).reverse), .bool true]) ∧ w' = w := sh152
end
theorem or_u32 : ∀ a b : Int, 0 ≤ a → a < 4294967296 → 0 ≤ b → b < 4294967296 → bits .or .u32 a b = ((a.toNat ||| b.toNat : Nat) : Int) := fun a b h1 h2 h3 h4 => u32_or a b h1 h2 h3 h4
section
theorem rs140 {G : Prop} (h : G := by
 go_loop [8, 20] (fun x i => ∃ k : Nat, k ≤ 4 ∧ i = .int .i64 k ∧ x = .int .u32 (leV (p.take k).reverse)) (fun _ i => 4 - (intOf i).toNat)
 case atStart => exact ⟨0, by omega, rfl, by simp [leV]⟩
 case round =>
  obtain ⟨k, hk, rfl, rfl⟩ := hrel
  by_cases hlt : k < 4
  ·have hc := hpc k hlt
   have hb := hpB.at k
   have hb0 := hb.1
   have hb1 := hb.2
   have hcode := be_code .u32 32 4294967296 (by decide) or_u32 p k hpB (by rw [HP.out]; omega) (by rw [HP.out]; decide)
   clear hpc
   generalize p.getD k 0 = c at hc hb hb0 hb1 hcode
   have HC := aA hcode
   clear hcode hb
   go_wp2
   go_roundw
   case rel => exact ⟨k + 1, by omega, by go_num, val_int (by have := HC.out; exact this)⟩
   case measure => simp [intOf]; omega
  ·go_wp2
   go_ret2
   have : k = 4 := by omega
   subst this
   rw [List.take_of_length_le (by rw [HP.out]; omega)]
   exact ⟨rfl, rfl⟩) : G := h
open Go.Proofs.YtejagcngbgnogaaGreat renaming nq4 → z152a, sF → z152e, nqe4 → z152aQ, rs140 → z152rr
open Go.Proofs.Tryz renaming func416 → z152b, ntmps416 → z152c
theorem loadbe32_ok (b off len cap at_ : Nat) (l : List Int) (w : World) (hl : l.length = len) (hB : IsB l) (hlies : dW w (some ⟨b, off, none⟩) l) (h1 : at_ + 4 ≤ len) (h2 : len ≤ cap) (h3 : cap ≤ maxLen) :
  Calls Tryz.prog 416 #[.slice (some ⟨b, off, none⟩) len cap, .int .i64 at_] w fun e w' => e = .returned (.tuple #[.int .u32 (leV ((l.drop at_).take 4).reverse), .bool true]) ∧ w' = w := sh152
end
end Go.Proofs.YtejagcngbgnogaaGreat
namespace Go.Proofs.YtejagcngbgnogaaGreat
open Go.RowKit
structure Sl where
 a : Option Addr
 n : Nat
 c : Nat
 l : List Int
def Sl.v (s : Sl) : Value := .slice s.a s.n s.c
structure Sl.Ok (w : World) (s : Sl) : Prop where
 len : s.l.length = s.n
 le : s.n ≤ s.c
 mx : s.c ≤ maxLen
 nn : s.a = none → s.n = 0 ∧ s.c = 0
 isB : IsB s.l
 lies : dW w s.a s.l
theorem Sl.Ok.later {w w' : World} {s : Sl} (h : s.Ok w) (hb : Below w.heap.size w w') : s.Ok w' := ⟨h.len, h.le, h.mx, h.nn, h.isB, h.lies.later hb⟩
section
open Go.Proofs.YtejagcngbgnogaaGreat renaming kV → z100a
theorem Sl.Ok.cells {w : World} {s : Sl} (h : s.Ok w) : ∀ ad, s.a = some ad → ∀ j u, (U8 s.l)[j]? = some u → w.cell? (ad.add j) = some u := sh100
end
theorem U8_one (l : List Int) : ∀ u ∈ U8 l, u.oneCell' = true := by
 intro u hu; simp [U8] at hu; obtain ⟨x, _, rfl⟩ := hu; rfl
def LiesV (w : World) (a : Option Addr) (vs : List Value) : Prop :=
 0 < vs.length → ∃ b off, a = some ⟨b, off, none⟩ ∧ b < w.heap.size ∧ ∀ i v, vs[i]? = some v → w.cell? ⟨b, off + i, none⟩ = some v
theorem LiesV.later {w w' : World} {a : Option Addr} {vs : List Value} (h : LiesV w a vs) (hb : Below w.heap.size w w') : LiesV w' a vs := by
 intro hl
 obtain ⟨b, off, rfl, hlt, hc⟩ := h hl
 exact ⟨b, off, rfl, Nat.lt_of_lt_of_le hlt hb.size, fun i v hi => (hb.cell (p := ⟨b, off + i, none⟩) hlt).trans (hc i v hi)⟩
def cat (ps : List Sl) : List Int := ps.flatMap Sl.l
theorem oK (ps : List Sl) (k : Nat) (s : Sl) (h : ps[k]? = some s) : cat (ps.take (k + 1)) = cat (ps.take k) ++ s.l := by
 have hk : k < ps.length := by
  by_cases hk : k < ps.length
  ·exact hk
  ·rw [List.getElem?_eq_none (by omega)] at h; simp at h
 rw [List.take_succ_eq_append_getElem hk]
 rw [List.getElem?_eq_getElem hk] at h; simp at h
 simp [cat, h]
theorem nC (ps : List Sl) (k : Nat) : (cat (ps.take k)).length ≤ (cat ps).length := by
 have h : cat ps = cat (ps.take k) ++ cat (ps.drop k) := by
  unfold cat; rw [← List.flatMap_append, List.take_append_drop]
 rw [h, List.length_append]; omega
theorem join_any (pa : Option Addr) (pc : Nat) (ps : List Sl) (w : World) (hv : LiesV w pa (ps.map Sl.v)) (hok : ∀ s ∈ ps, s.Ok w)
  (hn : ps.length ≤ 1099511627776) (htot : (cat ps).length ≤ 1099511627776) :
  Calls Tryz.prog 377 #[.slice pa ps.length pc] w fun e w' => e = .returned (.slice (some ⟨w.heap.size, 0, none⟩) (cat ps).length (cat ps).length) ∧
   w'.ownsRow w.heap.size 5 1 (.slice (some ⟨w.heap.size, 0, none⟩) (cat ps).length (cat ps).length) (cat ps).length (U8 (cat ps)) ∧ Below w.heap.size w w' := by
 obtain ⟨i0, hi, hz0, hz1, hz2⟩ := info_parts Tryz.infoB
 obtain ⟨T, hT⟩ : ∃ T, T = (cat ps).length := ⟨_, rfl⟩
 have HT := aA hT
 have htot' : T ≤ 1099511627776 := by omega
 rw [← hT]
 have hbs : i0.bytes * T ≤ 281474976710656 := by rw [hz2]; omega
 have hmx : T ≤ maxLen := by unfold maxLen; omega
 clear hT htot
 go_enter Tryz.func377, Tryz.ntmps377
 go_wp2
 go_loop [3, 11] (fun t i => ∃ k : Nat, k ≤ ps.length ∧ i = .int .i64 k ∧ t = .int .i64 (cat (ps.take k)).length) (fun _ i => ps.length - (intOf i).toNat)
 case atStart => exact ⟨0, by omega, rfl, by simp [cat]⟩
 case round =>
  obtain ⟨k, hk, rfl, rfl⟩ := hrel
  have hle := nC ps k
  rw [← unhide HT] at hle
  by_cases hlt : k < ps.length
  ·obtain ⟨s, hs⟩ : ∃ s, ps[k]? = some s := ⟨_, List.getElem?_eq_getElem hlt⟩
   have hmem : s ∈ ps := List.mem_of_getElem? hs
   have hso := hok s hmem
   obtain ⟨b, off, rfl, hbl, hc⟩ := hv (by simp; omega)
   have hck := hc k s.v (by simp [hs])
   have hlen := hso.len
   have hcs := oK ps k s hs
   have hle2 := nC ps (k + 1)
   rw [← unhide HT, hcs, List.length_append] at hle2
   have HL := aA hlen
   have HC := aA hcs
   have hsn : (cat (ps.take k)).length + s.n ≤ 1099511627776 := by omega
   obtain ⟨sa, sn, sc, sl⟩ := s
   simp only [Sl.v] at hck hsn
   clear hc hs hmem hso hlen hcs hle2 hok hv
   generalize hq : (cat (ps.take k)).length = q at *
   have HQ := aA hq
   clear hq
   go_wp2
   go_round
   case rel => exact ⟨k + 1, by omega, by go_num, by rw [unhide HC, List.length_append, unhide HL, unhide HQ]; go_num⟩
   case measure => simp [intOf]; omega
  ·have hkk : k = ps.length := by omega
   subst hkk
   rw [List.take_length, ← unhide HT]
   go_wp2_with (at_make; refine wpList_make_own _ rfl _ _ 33 rfl w.heap.size 5 i0 (.int .u8 0) 1 Tryz.underlying33 hi hz0 hz1 .i64 .i64 T T rfl rfl rfl hbs hmx (Nat.le_refl _) ?_)
   intro w1 hown hgrow
   have hb1 : Below w.heap.size w w1 := (Below.refl _ _).grown hgrow (Nat.le_refl _) (fun _ h => by cases h)
   clear hgrow
   go_wp2
   go_loopw [6, 24] (fun j i wr => ∃ k : Nat, k ≤ ps.length ∧ i = .int .i64 k ∧ j = .slice (some ⟨w.heap.size, 0, none⟩) (cat (ps.take k)).length T ∧
     wr.ownsRow w.heap.size 5 1 (.slice (some ⟨w.heap.size, 0, none⟩) (cat (ps.take k)).length T) (cat (ps.take k)).length (U8 (cat (ps.take k))) ∧ Below w.heap.size w wr)
    (fun _ i _ => ps.length - (intOf i).toNat)
   case atStart => exact ⟨0, by omega, rfl, by simp [cat], hown, hb1⟩
   case round =>
    obtain ⟨k, hk, rfl, rfl, hown, hbl⟩ := hrel
    by_cases hlt : k < ps.length
    ·obtain ⟨s, hs⟩ : ∃ s, ps[k]? = some s := ⟨_, List.getElem?_eq_getElem hlt⟩
     have hmem : s ∈ ps := List.mem_of_getElem? hs
     have hso := (hok s hmem).later hbl
     obtain ⟨b, off, rfl, hbw, hc⟩ := hv.later hbl (by simp; omega)
     have hck := hc k s.v (by simp [hs])
     have hlen := hso.len
     have hcs := oK ps k s hs
     have hle2 := nC ps (k + 1)
     rw [← unhide HT, hcs, List.length_append] at hle2
     have HC := aA hcs
     have HL := aA hlen
     have HSO := aA hso
     have HS := aA hs
     have hle3 : (cat (ps.take k)).length + s.n ≤ T := by omega
     obtain ⟨sa, sn, sc, sl⟩ := s
     simp only [Sl.v] at hck
     clear hc hs hmem hso hlen hcs hle2 hok hv
     go_wp2_with (at_builtin; refine wpList_append_fits_any _ rfl _ _ 33 rfl w.heap.size 5 i0 1 Tryz.underlying33 hi hz1 w.heap.size (cat (ps.take k)).length T (U8 (cat (ps.take k))) rfl hown sa sn sc (U8 sl) rfl (by have := unhide HL; simpa using this) (unhide HSO).nn (unhide HSO).cells (U8_one _) hle3 ?_)
     intro w2 hown2 hgrow2
     have hb2 : Below w.heap.size w w2 := hbl.grown hgrow2 hbl.size (fun _ h => by cases h; exact Nat.le_refl _)
     clear hgrow2 hown hck
     go_wp2
     go_roundw
     case rel =>
      have hl := unhide HL
      have hc := unhide HC
      have e1 : (cat (ps.take (k + 1))).length = (cat (ps.take k)).length + sn := by rw [hc, List.length_append]; omega
      have e2 : U8 (cat (ps.take (k + 1))) = U8 (cat (ps.take k)) ++ U8 sl := by rw [hc]; simp [U8]
      exact ⟨k + 1, by omega, by go_num, by rw [e1], by rw [e1, e2]; exact hown2, hb2⟩
     case measure => simp [intOf]; omega
    ·have hkk : k = ps.length := by omega
     subst hkk
     rw [List.take_length, ← unhide HT] at hown
     go_wp2
     go_ret
     rw [List.take_length, ← unhide HT]
     exact ⟨rfl, hown, hbl⟩
end Go.Proofs.YtejagcngbgnogaaGreat
