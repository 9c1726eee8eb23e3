import Derived.WalkKit
import Derived.Laws.BitsAllLaws
import Derived.Test.YtdcaojiiaocnaaaGreatDoorProg
import Derived.WalkSpells
import Derived.WalkLawsBesides
import Derived.Deep.QuietTactic
import Derived.BigQuiet
import Derived.RegionTactic
import Derived.BigRegion
namespace Go.Proofs.YtdcaojiiaocnaaaGreatDoor
open Go.RowKit

/-! Words: turns as BitVec's own. -/

def rotZ (W : Nat) (x n : Int) : Int := (((BitVec.ofInt W x).rotateLeft (n % (W : Int)).toNat).toNat : Int)

theorem rotZ_nonneg (W : Nat) (x n : Int) : 0 ≤ rotZ W x n := by unfold rotZ; omega
theorem rotZ_lt32 (x n : Int) : rotZ 32 x n < 4294967296 := by
  unfold rotZ; have := ((BitVec.ofInt 32 x).rotateLeft (n % ((32 : Nat) : Int)).toNat).isLt; omega
theorem rotZ_lt64 (x n : Int) : rotZ 64 x n < 18446744073709551616 := by
  unfold rotZ; have := ((BitVec.ofInt 64 x).rotateLeft (n % ((64 : Nat) : Int)).toNat).isLt; omega

theorem ofInt_toNat (W : Nat) (b : BitVec W) : BitVec.ofInt W (b.toNat : Int) = b := by
  rw [BitVec.ofInt_natCast]; simp

theorem rotL_rotL {W : Nat} (b : BitVec W) (r s : Nat) (hr : r < W) (hs : s < W) :
    (b.rotateLeft r).rotateLeft s = b.rotateLeft ((r + s) % W) := by
  have hm : (r + s) % W < W := Nat.mod_lt _ (by omega)
  have hq : (r + s) % W = if r + s < W then r + s else r + s - W := by
    split
    · exact Nat.mod_eq_of_lt ‹_›
    · rw [Nat.mod_eq_sub_mod (by omega), Nat.mod_eq_of_lt (by omega)]
  apply BitVec.eq_of_getElem_eq
  intro i hi
  simp only [BitVec.getElem_rotateLeft, Nat.mod_eq_of_lt hr, Nat.mod_eq_of_lt hs, Nat.mod_eq_of_lt hm]
  split at hq <;> (rw [hq] at hm) <;> simp only [hq] <;> (repeat' split) <;> first | omega | (congr 1; omega)

theorem rotZ_rotZ (W : Nat) (hW : 0 < W) (x n m : Int) : rotZ W (rotZ W x n) m = rotZ W x (n + m) := by
  have a1 := Int.emod_nonneg n (b := (W : Int)) (by omega)
  have a2 := Int.emod_lt_of_pos n (b := (W : Int)) (by omega)
  have b1 := Int.emod_nonneg m (b := (W : Int)) (by omega)
  have b2 := Int.emod_lt_of_pos m (b := (W : Int)) (by omega)
  unfold rotZ
  rw [ofInt_toNat, rotL_rotL _ _ _ (by omega) (by omega)]
  congr 3
  rw [← Int.toNat_add a1 b1]
  have : ((n % (W : Int) + m % (W : Int)).toNat % W : Nat) = ((n % (W : Int) + m % (W : Int)) % (W : Int)).toNat := by
    rw [Int.toNat_emod (by omega) (by omega)]; simp
  rw [this, ← Int.add_emod]

theorem rotZ_turnless (W : Nat) (x n : Int) (hn : n % (W : Int) = 0) (h0 : 0 ≤ x) (h1 : x < 2 ^ W) : rotZ W x n = x := by
  unfold rotZ
  rw [hn]
  obtain ⟨X, rfl⟩ := Int.eq_ofNat_of_zero_le h0
  have e : BitVec.rotateLeft (BitVec.ofInt W (X : Int)) (0 : Int).toNat = BitVec.ofInt W (X : Int) := by
    apply BitVec.eq_of_getElem_eq; intro i hi; simp [BitVec.getElem_rotateLeft]
  rw [e, BitVec.ofInt_natCast, BitVec.toNat_ofNat, Nat.mod_eq_of_lt]
  have : ((2 : Int) ^ W) = ((2 ^ W : Nat) : Int) := by simp
  omega

theorem rotZ_mod (W : Nat) (x n m : Int) (h : n % (W : Int) = m % (W : Int)) : rotZ W x n = rotZ W x m := by
  unfold rotZ; rw [h]

theorem rotL_xor {W : Nat} (a b : BitVec W) (r : Nat) : a.rotateLeft r ^^^ b.rotateLeft r = (a ^^^ b).rotateLeft r := by
  apply BitVec.eq_of_getElem_eq
  intro i hi
  simp only [BitVec.getElem_rotateLeft, BitVec.getElem_xor]
  split <;> rfl
theorem rotL_and {W : Nat} (a b : BitVec W) (r : Nat) : a.rotateLeft r &&& b.rotateLeft r = (a &&& b).rotateLeft r := by
  apply BitVec.eq_of_getElem_eq
  intro i hi
  simp only [BitVec.getElem_rotateLeft, BitVec.getElem_and]
  split <;> rfl

theorem wrap32_id (b : BitVec 32) : IntKind.u32.wrap (b.toNat : Int) = (b.toNat : Int) := by
  rw [IntKind.wrap_u32']; have := b.isLt; omega
theorem wrap64_id (b : BitVec 64) : IntKind.u64.wrap (b.toNat : Int) = (b.toNat : Int) := by
  rw [IntKind.wrap_u64]; have := b.isLt; omega
theorem bits_xor32 (x y : Int) : bits .xor .u32 x y = ((BitVec.ofInt 32 x ^^^ BitVec.ofInt 32 y).toNat : Int) := wrap32_id _
theorem bits_or32 (x y : Int) : bits .or .u32 x y = ((BitVec.ofInt 32 x ||| BitVec.ofInt 32 y).toNat : Int) := wrap32_id _
theorem bits_and64 (x y : Int) : bits .and .u64 x y = ((BitVec.ofInt 64 x &&& BitVec.ofInt 64 y).toNat : Int) := wrap64_id _
theorem bits_or64 (x y : Int) : bits .or .u64 x y = ((BitVec.ofInt 64 x ||| BitVec.ofInt 64 y).toNat : Int) := wrap64_id _

theorem rotZ_xor32 (x y n : Int) : bits .xor .u32 (rotZ 32 x n) (rotZ 32 y n) = rotZ 32 (bits .xor .u32 x y) n := by
  rw [bits_xor32, bits_xor32]; unfold rotZ; rw [ofInt_toNat, ofInt_toNat, ofInt_toNat, rotL_xor]
theorem rotZ_and64 (x y n : Int) : bits .and .u64 (rotZ 64 x n) (rotZ 64 y n) = rotZ 64 (bits .and .u64 x y) n := by
  rw [bits_and64, bits_and64]; unfold rotZ; rw [ofInt_toNat, ofInt_toNat, ofInt_toNat, rotL_and]

theorem bits_xor32_bd (x y : Int) : 0 ≤ bits .xor .u32 x y ∧ bits .xor .u32 x y < 4294967296 := by
  rw [bits_xor32]; have := (BitVec.ofInt 32 x ^^^ BitVec.ofInt 32 y).isLt; omega
theorem bits_and64_bd (x y : Int) : 0 ≤ bits .and .u64 x y ∧ bits .and .u64 x y < 18446744073709551616 := by
  rw [bits_and64]; have := (BitVec.ofInt 64 x &&& BitVec.ofInt 64 y).isLt; omega

/-- what the program reckons is the turn -/
theorem rot_parts (W : Nat) (X s : Nat) (hs : s < W) (hX : X < 2 ^ W) :
    (BitVec.ofInt W (((X * 2 ^ s % 2 ^ W : Nat)) : Int) ||| BitVec.ofInt W ((X / 2 ^ (W - s) : Nat) : Int)).toNat = ((BitVec.ofInt W (X : Int)).rotateLeft s).toNat := by
  rw [BitVec.ofInt_natCast, BitVec.ofInt_natCast, BitVec.ofInt_natCast, BitVec.rotateLeft_def, Nat.mod_eq_of_lt hs]
  simp only [BitVec.toNat_or, BitVec.toNat_ofNat, BitVec.toNat_shiftLeft, BitVec.toNat_ushiftRight, Nat.shiftLeft_eq, Nat.shiftRight_eq_div_pow, Nat.mod_mod, Nat.mod_eq_of_lt hX]
  rw [Nat.mod_eq_of_lt (a := X / 2 ^ (W - s))]
  exact Nat.lt_of_le_of_lt (Nat.div_le_self _ _) hX

theorem rot32_code (x n : Int) (h0 : 0 ≤ x) (h1 : x < 4294967296) :
    bits .or .u32 (x * 2 ^ (n % 32).toNat % 4294967296) (x / 2 ^ (32 - n % 32).toNat) = rotZ 32 x n := by
  rw [bits_or32]
  obtain ⟨X, rfl⟩ := Int.eq_ofNat_of_zero_le h0
  have hs : (n % 32).toNat < 32 := by omega
  have e1 : (32 - n % 32).toNat = 32 - (n % 32).toNat := by omega
  have e2 : ((X : Int) * 2 ^ (n % 32).toNat % 4294967296) = ((X * 2 ^ (n % 32).toNat % 2 ^ 32 : Nat) : Int) := by simp
  have e3 : ((X : Int) / 2 ^ (32 - (n % 32).toNat)) = ((X / 2 ^ (32 - (n % 32).toNat) : Nat) : Int) := by simp
  rw [e1, e2, e3, rot_parts 32 X _ hs (by omega)]
  rfl
theorem rot64_code (x n : Int) (h0 : 0 ≤ x) (h1 : x < 18446744073709551616) :
    bits .or .u64 (x * 2 ^ (n % 64).toNat % 18446744073709551616) (x / 2 ^ (64 - n % 64).toNat) = rotZ 64 x n := by
  rw [bits_or64]
  obtain ⟨X, rfl⟩ := Int.eq_ofNat_of_zero_le h0
  have hs : (n % 64).toNat < 64 := by omega
  have e1 : (64 - n % 64).toNat = 64 - (n % 64).toNat := by omega
  have e2 : ((X : Int) * 2 ^ (n % 64).toNat % 18446744073709551616) = ((X * 2 ^ (n % 64).toNat % 2 ^ 64 : Nat) : Int) := by simp
  have e3 : ((X : Int) / 2 ^ (64 - (n % 64).toNat)) = ((X / 2 ^ (64 - (n % 64).toNat) : Nat) : Int) := by simp
  rw [e1, e2, e3, rot_parts 64 X _ hs (by omega)]
  rfl

theorem i64_mask (n : Int) (k : Nat) (hk : k < 63) : bits .and .i64 n (2 ^ k - 1) = n % 2 ^ k := by
  have hp : (2 : Nat) ^ k < 2 ^ 63 := Nat.pow_lt_pow_right (by omega) hk
  have hq : (0 : Nat) < 2 ^ k := Nat.pos_of_ne_zero (by simp)
  have hc : ((2 : Int) ^ k - 1) = ((2 ^ k - 1 : Nat) : Int) := by
    have : ((2 ^ k : Nat) : Int) = (2 : Int) ^ k := by simp
    omega
  show IntKind.i64.wrap ((BitVec.ofInt 64 n &&& BitVec.ofInt 64 (2 ^ k - 1)).toNat : Nat) = n % 2 ^ k
  have key : (BitVec.ofInt 64 n &&& BitVec.ofInt 64 (2 ^ k - 1)).toNat = (n % 2 ^ k).toNat := by
    rw [hc, BitVec.ofInt_natCast, BitVec.toNat_and, BitVec.toNat_ofNat, Nat.mod_eq_of_lt (by omega), Nat.and_two_pow_sub_one_eq_mod, BitVec.toNat_ofInt]
    have e : (2 : Int) ^ k ∣ ((2 ^ 64 : Nat) : Int) := by
      refine ⟨2 ^ (64 - k), ?_⟩
      rw [← Int.pow_add]; have : k + (64 - k) = 64 := by omega
      rw [this]; simp
    have e2 := Int.emod_emod_of_dvd n e
    rw [← e2, Int.toNat_emod (Int.emod_nonneg _ (by decide)) (Int.le_of_lt (Int.pow_pos (by decide)))]
    congr 1
  rw [key, IntKind.wrap_i64]
  have hp' : ((2 ^ k : Nat) : Int) = (2 : Int) ^ k := by simp
  have a1 := Int.emod_nonneg n (b := (2 : Int) ^ k) (by omega)
  have a2 := Int.emod_lt_of_pos n (b := (2 : Int) ^ k) (by omega)
  omega
theorem i64_and31 (n : Int) : bits .and .i64 n 31 = n % 32 := i64_mask n 5 (by omega)
theorem i64_and63 (n : Int) : bits .and .i64 n 63 = n % 64 := i64_mask n 6 (by omega)
end Go.Proofs.YtdcaojiiaocnaaaGreatDoor

namespace Go.Proofs.YtdcaojiiaocnaaaGreatDoor
open Go.RowKit

theorem ret_int {k : IntKind} {a b : Int} (h : a = b) : Ending.returned (.int k a) = .returned (.int k b) := by rw [h]

theorem neg_mod32 (n : Int) : wrap64 (-n) % 32 = (-n) % 32 := by unfold wrap64; omega
theorem neg_mod64 (n : Int) : wrap64 (-n) % 64 = (-n) % 64 := by unfold wrap64; omega
end Go.Proofs.YtdcaojiiaocnaaaGreatDoor

namespace Go.Proofs.YtdcaojiiaocnaaaGreatDoor
open Go.RowKit

/-! Bytes in memory. -/

theorem hide {p : Prop} (h : p) : Hid p := h
theorem unhide {p : Prop} (h : Hid p) : p := h.out

theorem addr_add (b off j : Nat) : (⟨b, off, none⟩ : Addr).add j = ⟨b, off + j, none⟩ := by
  unfold Addr.add; by_cases h : j = 0
  · subst h; rfl
  · rw [if_neg h]

def U8 (l : List Int) : List Value := l.map (Value.int .u8)
@[simp] theorem U8_length (l : List Int) : (U8 l).length = l.length := by simp [U8]
theorem U8_get (l : List Int) (i : Nat) : (U8 l)[i]? = (l[i]?).map (Value.int .u8) := by simp [U8]
theorem U8_at (l : List Int) (i : Nat) (h : i < l.length) : (U8 l)[i]? = some (.int .u8 (l.getD i 0)) := by
  rw [U8_get, List.getD_eq_getElem?_getD, List.getElem?_eq_getElem h]; rfl
theorem U8_set (l : List Int) (i : Nat) (x : Int) : (U8 l).set i (.int .u8 x) = U8 (l.set i x) := by simp [U8, List.map_set]

def IsB (l : List Int) : Prop := ∀ x ∈ l, 0 ≤ x ∧ x ≤ 255

theorem IsB.at {l : List Int} (h : IsB l) (i : Nat) : 0 ≤ l.getD i 0 ∧ l.getD i 0 ≤ 255 := by
  rw [List.getD_eq_getElem?_getD]
  by_cases hi : i < l.length
  · rw [List.getElem?_eq_getElem hi]; exact h _ (List.getElem_mem hi)
  · rw [List.getElem?_eq_none (by omega)]; simp

/-- the bytes l lie at a, in w -/
def Lies (w : World) (a : Option Addr) (l : List Int) : Prop :=
  0 < l.length → ∃ b off, a = some ⟨b, off, none⟩ ∧ b < w.heap.size ∧ ∀ i, i < l.length → w.cell? ⟨b, off + i, none⟩ = some (.int .u8 (l.getD i 0))

theorem cell_lt {w : World} {a : Addr} {v : Value} (h : w.cell? a = some v) : a.block < w.heap.size := by
  unfold World.cell? at h
  by_cases hb : a.block < w.heap.size
  · exact hb
  · rw [Array.getElem?_eq_none (by omega)] at h; simp at h

theorem Lies.below {w w' : World} {a : Option Addr} {l : List Int} {B : Nat} (h : Lies w a l) (hb : Below B w w') (hB : ∀ x, a = some x → x.block < B) : Lies w' a l := by
  intro hl
  obtain ⟨b, off, rfl, hlt, hc⟩ := h hl
  exact ⟨b, off, rfl, Nat.lt_of_lt_of_le hlt hb.size, fun i hi => (hb.cell (p := ⟨b, off + i, none⟩) (hB ⟨b, off, none⟩ rfl)).trans (hc i hi)⟩

theorem Lies.later {w w' : World} {a : Option Addr} {l : List Int} (h : Lies w a l) (hb : Below w.heap.size w w') : Lies w' a l := by
  intro hl
  obtain ⟨b, off, rfl, hlt, hc⟩ := h hl
  exact ⟨b, off, rfl, Nat.lt_of_lt_of_le hlt hb.size, fun i hi => (hb.cell (p := ⟨b, off + i, none⟩) hlt).trans (hc i hi)⟩

theorem Lies.nil (w : World) (a : Option Addr) : Lies w a [] := fun h => absurd h (by simp)

theorem Lies.of_own {w : World} {base e g n cap : Nat} {l : List Int} (h : w.ownsRow base e 1 (.slice (some ⟨g, 0, none⟩) n cap) n (U8 l)) : Lies w (some ⟨g, 0, none⟩) l := by
  intro hl
  have hn : l.length = n := by have := h.1; simpa using this
  refine ⟨g, 0, rfl, (h.lt g rfl).2, fun i hi => ?_⟩
  rw [Nat.zero_add, h.cellAt i (by omega), U8_at l i hi]

theorem Lies.sub {w : World} {b off : Nat} {l : List Int} (k n : Nat) (h : Lies w (some ⟨b, off, none⟩) l) (hk : k + n ≤ l.length) : Lies w (some ⟨b, off + k, none⟩) ((l.drop k).take n) := by
  intro hl
  have hl' : ((l.drop k).take n).length = n := by simp; omega
  obtain ⟨b', off', he, hlt, hc⟩ := h (by omega)
  simp at he; obtain ⟨rfl, rfl⟩ := he
  refine ⟨b, off + k, rfl, hlt, fun i hi => ?_⟩
  have := hc (k + i) (by omega)
  rw [Nat.add_assoc, this]
  simp only [List.getD_eq_getElem?_getD, List.getElem?_take, List.getElem?_drop]
  rw [if_pos (by omega)]

/-- the bytes of a number, the lowest first -/
def leB (n : Nat) (x : Int) : List Int := (List.range n).map fun i => x / 2 ^ (8 * i) % 256
@[simp] theorem leB_length (n : Nat) (x : Int) : (leB n x).length = n := by simp [leB]
theorem leB_isB (n : Nat) (x : Int) : IsB (leB n x) := by
  intro y hy; simp only [leB, List.mem_map] at hy; obtain ⟨i, _, rfl⟩ := hy
  have h : (0:Int) < 256 := by decide
  exact ⟨Int.emod_nonneg _ (by decide), by have := Int.emod_lt_of_pos (x / 2 ^ (8 * i)) h; omega⟩

/-- what stands in the row behind k rounds of a store of f -/
def fill (n : Nat) (f : Nat → Int) (k : Nat) : List Int := (List.range n).map fun i => if i < k then f i else 0
@[simp] theorem fill_length (n : Nat) (f : Nat → Int) (k : Nat) : (fill n f k).length = n := by simp [fill]
theorem fill_zero (n : Nat) (f : Nat → Int) : fill n f 0 = List.replicate n 0 := by
  unfold fill; apply List.ext_getElem <;> simp
theorem fill_set (n : Nat) (f : Nat → Int) (k : Nat) : (fill n f k).set k (f k) = fill n f (k + 1) := by
  apply List.ext_getElem
  · simp
  · intro i h1 h2
    simp only [fill, List.getElem_set, List.getElem_map, List.getElem_range]
    by_cases e : k = i
    · subst e; simp
    · simp only [e, if_false]
      by_cases h : i < k
      · simp [h, Nat.lt_succ_of_lt h]
      · rw [if_neg h, if_neg (by omega)]
theorem fill_all (n : Nat) (f : Nat → Int) : fill n f n = (List.range n).map f := by
  apply List.ext_getElem
  · simp
  · intro i h1 h2; simp [fill] at h1 ⊢; omega

theorem made_U8 (n : Nat) : (madeCells (Value.int .u8 0).cells (n * 1)).toList = U8 (List.replicate n 0) := by
  show (madeCells #[Value.int .u8 0] (n * 1)).toList = _
  rw [toList_madeCells_one, Nat.mul_one]; simp [U8]
end Go.Proofs.YtdcaojiiaocnaaaGreatDoor

namespace Go.Proofs.YtdcaojiiaocnaaaGreatDoor
open Go.RowKit

/-- the number of bytes, the lowest first -/
def leV : List Int → Int
  | [] => 0
  | c :: r => c + 256 * leV r

theorem leV_bd : ∀ (l : List Int), IsB l → 0 ≤ leV l ∧ leV l < 2 ^ (8 * l.length)
  | [], _ => by simp [leV]
  | c :: r, h => by
    have hc := h c (by simp)
    have hr := leV_bd r (fun x hx => h x (by simp [hx]))
    have e : (2 : Int) ^ (8 * (c :: r).length) = 256 * 2 ^ (8 * r.length) := by
      rw [List.length_cons, Nat.mul_add, Int.pow_add]; omega
    rw [e]; unfold leV; omega

theorem leV_append (a : List Int) (c : Int) : leV (a ++ [c]) = leV a + c * 2 ^ (8 * a.length) := by
  induction a with
  | nil => simp [leV]
  | cons d r ih =>
    have e : (2 : Int) ^ (8 * (d :: r).length) = 256 * 2 ^ (8 * r.length) := by
      rw [List.length_cons, Nat.mul_add, Int.pow_add]; omega
    rw [e]; simp only [List.cons_append, leV, ih]
    rw [show c * (256 * 2 ^ (8 * r.length)) = 256 * (c * 2 ^ (8 * r.length)) from by rw [← Int.mul_assoc, Int.mul_comm c 256, Int.mul_assoc]]
    omega

theorem leB_succ (n : Nat) (x : Int) : leB (n + 1) x = leB n x ++ [x / 2 ^ (8 * n) % 256] := by
  simp [leB, List.range_succ]

theorem emod_mul_split (x a b : Int) (ha : 0 ≤ a) : x % (a * b) = x % a + a * (x / a % b) := by
  rw [Int.emod_def x (a * b), ← Int.ediv_ediv_of_nonneg ha, Int.emod_def x a, Int.emod_def (x / a) b, Int.mul_sub, Int.mul_assoc]
  omega

theorem leV_leB (n : Nat) (x : Int) : leV (leB n x) = x % 2 ^ (8 * n) := by
  induction n with
  | zero => simp [leB, leV, Int.emod_one]
  | succ n ih =>
    rw [leB_succ, leV_append, ih, leB_length]
    have e : (2 : Int) ^ (8 * (n + 1)) = 2 ^ (8 * n) * 256 := by rw [Nat.mul_add, Int.pow_add]; rfl
    rw [e, emod_mul_split x _ 256 (Int.le_of_lt (Int.pow_pos (by decide))), Int.mul_comm]

theorem take_succ_getD (l : List Int) (k : Nat) (h : k < l.length) : l.take (k + 1) = l.take k ++ [l.getD k 0] := by
  rw [List.take_succ_eq_append_getElem h]; simp [h]

theorem IsB.take {l : List Int} (h : IsB l) (k : Nat) : IsB (l.take k) := fun x hx => h x (List.mem_of_mem_take hx)
theorem IsB.drop {l : List Int} (h : IsB l) (k : Nat) : IsB (l.drop k) := fun x hx => h x (List.mem_of_mem_drop hx)
theorem IsB.reverse {l : List Int} (h : IsB l) : IsB l.reverse := fun x hx => h x (by simpa using hx)
theorem IsB.append {a b : List Int} (h : IsB a) (k : IsB b) : IsB (a ++ b) := fun x hx => by
  rcases List.mem_append.1 hx with h' | h'
  · exact h x h'
  · exact k x h'

/-- one byte more, the highest first -/
theorem be_step (W : Nat) (k : Nat) (X c : Nat) (hc : c < 256) (hX : X < 2 ^ (8 * k)) (hk : 8 * k + 8 ≤ W) :
    (X * 256 % 2 ^ W) ||| c = c + 256 * X := by
  have h1 : X * 256 < 2 ^ W := by
    have : (2:Nat) ^ (8 * k + 8) ≤ 2 ^ W := Nat.pow_le_pow_right (by omega) hk
    rw [Nat.pow_add] at this; omega
  rw [Nat.mod_eq_of_lt h1]
  have : X * 256 = X * 2 ^ 8 := rfl
  rw [this, Nat.mul_comm X, ← Nat.two_pow_add_eq_or_of_lt (by omega : c < 2 ^ 8)]; omega
theorem le_step (W : Nat) (k : Nat) (X c : Nat) (hc : c < 256) (hX : X < 2 ^ (8 * k)) (hk : 8 * k + 8 ≤ W) :
    X ||| (c * 2 ^ (8 * k) % 2 ^ W) = X + c * 2 ^ (8 * k) := by
  have h1 : c * 2 ^ (8 * k) < 2 ^ W := by
    have h2 : (2:Nat) ^ (8 * k + 8) ≤ 2 ^ W := Nat.pow_le_pow_right (by omega) hk
    have h3 : c * 2 ^ (8 * k) < 256 * 2 ^ (8 * k) := Nat.mul_lt_mul_of_pos_right hc (Nat.two_pow_pos _)
    rw [Nat.pow_add] at h2; omega
  rw [Nat.mod_eq_of_lt h1, Nat.or_comm, Nat.mul_comm c, ← Nat.two_pow_add_eq_or_of_lt hX]; omega

theorem toNat_pow (k : Nat) : ((2 ^ k : Nat) : Int) = (2 : Int) ^ k := by simp

theorem be_code (k : IntKind) (W : Nat) (M : Int) (hM : M = 2 ^ W) (hor : ∀ a b : Int, 0 ≤ a → a < M → 0 ≤ b → b < M → bits .or k a b = ((a.toNat ||| b.toNat : Nat) : Int))
    (l : List Int) (i : Nat) (hl : IsB l) (hi : i < l.length) (hW : 8 * l.length ≤ W) :
    bits .or k (leV (l.take i).reverse * 256 % M) (l.getD i 0) = leV (l.take (i + 1)).reverse := by
  have hc := hl.at i
  have hv := leV_bd _ (hl.take i).reverse
  rw [take_succ_getD l i hi, List.reverse_append]
  simp only [List.reverse_cons, List.reverse_nil, List.nil_append, List.singleton_append, leV]
  rw [List.length_reverse, List.length_take, Nat.min_eq_left (by omega)] at hv
  generalize leV (l.take i).reverse = X at hv
  generalize l.getD i 0 = c at hc
  obtain ⟨X', rfl⟩ := Int.eq_ofNat_of_zero_le hv.1
  obtain ⟨c', rfl⟩ := Int.eq_ofNat_of_zero_le hc.1
  have hX : X' < 2 ^ (8 * i) := by have := hv.2; rw [← toNat_pow] at this; omega
  have hMp : (0 : Int) < M := by rw [hM]; exact Int.pow_pos (by decide)
  have h256 : (256 : Int) ≤ M := by
    rw [hM]; have h : (2 : Nat) ^ 8 ≤ 2 ^ W := Nat.pow_le_pow_right (by omega) (by omega)
    have := toNat_pow W; omega
  rw [hor _ _ (Int.emod_nonneg _ (by omega)) (Int.emod_lt_of_pos _ hMp) (by omega) (by omega)]
  have e : ((X' : Int) * 256 % M).toNat = X' * 256 % 2 ^ W := by
    have : ((X' : Int) * 256 % M) = ((X' * 256 % 2 ^ W : Nat) : Int) := by rw [hM]; simp
    rw [this]; rfl
  rw [e, Int.toNat_natCast, be_step W i X' c' (by omega) hX (by omega)]
  simp

theorem le_code (k : IntKind) (W : Nat) (M : Int) (hM : M = 2 ^ W) (hor : ∀ a b : Int, 0 ≤ a → a < M → 0 ≤ b → b < M → bits .or k a b = ((a.toNat ||| b.toNat : Nat) : Int))
    (l : List Int) (i : Nat) (hl : IsB l) (hi : i < l.length) (hW : 8 * l.length ≤ W) :
    bits .or k (leV (l.take i)) (l.getD i 0 * 2 ^ (8 * i) % M) = leV (l.take (i + 1)) := by
  have hc := hl.at i
  have hv := leV_bd _ (hl.take i)
  rw [take_succ_getD l i hi, leV_append]
  rw [List.length_take, Nat.min_eq_left (by omega)] at hv ⊢
  generalize leV (l.take i) = X at hv
  generalize l.getD i 0 = c at hc
  obtain ⟨X', rfl⟩ := Int.eq_ofNat_of_zero_le hv.1
  obtain ⟨c', rfl⟩ := Int.eq_ofNat_of_zero_le hc.1
  have hX : X' < 2 ^ (8 * i) := by have := hv.2; rw [← toNat_pow] at this; omega
  have hXM : (X' : Int) < M := by
    rw [hM, ← toNat_pow]; have : (2:Nat) ^ (8 * i) ≤ 2 ^ W := Nat.pow_le_pow_right (by omega) (by omega)
    omega
  have hMp : (0 : Int) < M := by rw [hM]; exact Int.pow_pos (by decide)
  rw [hor _ _ (by omega) hXM (Int.emod_nonneg _ (by omega)) (Int.emod_lt_of_pos _ hMp)]
  have e : ((c' : Int) * 2 ^ (8 * i) % M).toNat = c' * 2 ^ (8 * i) % 2 ^ W := by
    have : ((c' : Int) * 2 ^ (8 * i) % M) = ((c' * 2 ^ (8 * i) % 2 ^ W : Nat) : Int) := by rw [hM]; simp
    rw [this]; rfl
  rw [e, Int.toNat_natCast, le_step W i X' c' (by omega) hX (by omega)]
  simp
end Go.Proofs.YtdcaojiiaocnaaaGreatDoor

namespace Go.Proofs.YtdcaojiiaocnaaaGreatDoor
open Go.RowKit

theorem Tryz.infoB : (Tryz.prog.info? 5).map (fun i => (i.zero, i.size, i.bytes)) = some (some (.int .u8 0), 1, 1) := by kernel_rfl

/-- the first k and the last k exchanged -/
def revTo (l : List Int) (k : Nat) : List Int := (List.range l.length).map fun i => if i < k ∨ l.length ≤ i + k then l.getD (l.length - 1 - i) 0 else l.getD i 0
@[simp] theorem revTo_length (l : List Int) (k : Nat) : (revTo l k).length = l.length := by simp [revTo]
theorem revTo_zero (l : List Int) : revTo l 0 = l := by
  apply List.ext_getElem
  · simp
  · intro i h1 h2
    simp [revTo] at h1 ⊢
    rw [List.getElem?_eq_getElem h2, if_neg (by omega)]; rfl
theorem getD_lt (l : List Int) (i : Nat) (h : i < l.length) : l.getD i 0 = l[i] := by simp [h]
theorem revTo_all (l : List Int) (k : Nat) (hk : l.length ≤ 2 * k + 1) : revTo l k = l.reverse := by
  apply List.ext_getElem
  · simp
  · intro i h1 h2
    simp at h1
    rw [List.getElem_reverse]
    simp only [revTo, List.getElem_map, List.getElem_range]
    split
    · rw [getD_lt _ _ (by omega)]
    · rw [getD_lt _ _ h1]; congr 1; omega
theorem revTo_at (l : List Int) (k i : Nat) (hi : k ≤ i) (hj : i + k < l.length) : (revTo l k).getD i 0 = l.getD i 0 := by
  rw [getD_lt _ _ (by simp; omega)]
  simp only [revTo, List.getElem_map, List.getElem_range]
  rw [if_neg (by omega)]
theorem revTo_set (l : List Int) (k : Nat) (hk : 2 * k + 1 < l.length) :
    ((revTo l k).set k (l.getD (l.length - 1 - k) 0)).set (l.length - 1 - k) (l.getD k 0) = revTo l (k + 1) := by
  apply List.ext_getElem
  · simp
  · intro i h1 h2
    simp at h1
    simp only [List.getElem_set, revTo, List.getElem_map, List.getElem_range]
    by_cases e1 : l.length - 1 - k = i
    · rw [if_pos e1, if_pos (by omega)]; congr 1; omega
    · rw [if_neg e1]
      by_cases e2 : k = i
      · rw [if_pos e2, if_pos (by omega)]; congr 1; omega
      · rw [if_neg e2]
        by_cases e3 : i < k ∨ l.length ≤ i + k
        · rw [if_pos e3, if_pos (by omega)]
        · rw [if_neg e3, if_neg (by omega)]

end Go.Proofs.YtdcaojiiaocnaaaGreatDoor

namespace Go.Proofs.YtdcaojiiaocnaaaGreatDoor
open Go.RowKit

theorem val_int {k : IntKind} {a b : Int} (h : a = b) : Value.int k a = Value.int k b := by rw [h]

theorem or_u64 : ∀ a b : Int, 0 ≤ a → a < 18446744073709551616 → 0 ≤ b → b < 18446744073709551616 → bits .or .u64 a b = ((a.toNat ||| b.toNat : Nat) : Int) := fun a b h1 h2 h3 h4 => u64_or a b h1 h2 h3 h4

theorem or_u32 : ∀ a b : Int, 0 ≤ a → a < 4294967296 → 0 ≤ b → b < 4294967296 → bits .or .u32 a b = ((a.toNat ||| b.toNat : Nat) : Int) := fun a b h1 h2 h3 h4 => u32_or a b h1 h2 h3 h4

end Go.Proofs.YtdcaojiiaocnaaaGreatDoor

namespace Go.Proofs.YtdcaojiiaocnaaaGreatDoor
open Go.RowKit

/-- a slice of bytes: its parts, and the bytes that lie there -/
structure Sl where
  a : Option Addr
  n : Nat
  c : Nat
  l : List Int
def Sl.v (s : Sl) : Value := .slice s.a s.n s.c

structure Sl.Ok (w : World) (s : Sl) : Prop where
  len : s.l.length = s.n
  le : s.n ≤ s.c
  mx : s.c ≤ maxLen
  nn : s.a = none → s.n = 0 ∧ s.c = 0
  isB : IsB s.l
  lies : Lies w s.a s.l

theorem Sl.Ok.later {w w' : World} {s : Sl} (h : s.Ok w) (hb : Below w.heap.size w w') : s.Ok w' := ⟨h.len, h.le, h.mx, h.nn, h.isB, h.lies.later hb⟩

theorem Sl.Ok.cells {w : World} {s : Sl} (h : s.Ok w) : ∀ ad, s.a = some ad → ∀ j u, (U8 s.l)[j]? = some u → w.cell? (ad.add j) = some u := by
  intro ad had j u hu
  have hj : j < s.l.length := by
    by_cases hj : j < s.l.length
    · exact hj
    · rw [List.getElem?_eq_none (by simp; omega)] at hu; simp at hu
  obtain ⟨b, off, ha, _, hc⟩ := h.lies (by omega)
  rw [ha] at had; simp at had; subst had
  rw [U8_at s.l j hj] at hu; simp only [Option.some.injEq] at hu; subst hu
  rw [addr_add]; exact hc j hj

theorem U8_one (l : List Int) : ∀ u ∈ U8 l, u.oneCell' = true := by
  intro u hu; simp [U8] at hu; obtain ⟨x, _, rfl⟩ := hu; rfl

/-- values that lie in a row -/
def LiesV (w : World) (a : Option Addr) (vs : List Value) : Prop :=
  0 < vs.length → ∃ b off, a = some ⟨b, off, none⟩ ∧ b < w.heap.size ∧ ∀ i v, vs[i]? = some v → w.cell? ⟨b, off + i, none⟩ = some v

theorem LiesV.later {w w' : World} {a : Option Addr} {vs : List Value} (h : LiesV w a vs) (hb : Below w.heap.size w w') : LiesV w' a vs := by
  intro hl
  obtain ⟨b, off, rfl, hlt, hc⟩ := h hl
  exact ⟨b, off, rfl, Nat.lt_of_lt_of_le hlt hb.size, fun i v hi => (hb.cell (p := ⟨b, off + i, none⟩) hlt).trans (hc i v hi)⟩

def cat (ps : List Sl) : List Int := ps.flatMap Sl.l
theorem cat_take_succ (ps : List Sl) (k : Nat) (s : Sl) (h : ps[k]? = some s) : cat (ps.take (k + 1)) = cat (ps.take k) ++ s.l := by
  have hk : k < ps.length := by
    by_cases hk : k < ps.length
    · exact hk
    · rw [List.getElem?_eq_none (by omega)] at h; simp at h
  rw [List.take_succ_eq_append_getElem hk]
  rw [List.getElem?_eq_getElem hk] at h; simp at h
  simp [cat, h]
theorem cat_take_le (ps : List Sl) (k : Nat) : (cat (ps.take k)).length ≤ (cat ps).length := by
  have h : cat ps = cat (ps.take k) ++ cat (ps.drop k) := by
    unfold cat; rw [← List.flatMap_append, List.take_append_drop]
  rw [h, List.length_append]; omega

end Go.Proofs.YtdcaojiiaocnaaaGreatDoor
