import Derived.Test.YtmdpmkdofgligaaGrA
namespace Go.Proofs.Ytmdpmkdofgligaa
open Go.RowKit

/-- one place of the register (of any length): its lowest bit falls out, and turns -/
def sN (x : Nat) : Nat := if x % 2 = 1 then x / 2 ^^^ 3988292384 else x / 2
def sNs : Nat → Nat → Nat
  | 0, x => x
  | n + 1, x => sNs n (sN x)

theorem xor_div2 (x y : Nat) : (x ^^^ y) / 2 = x / 2 ^^^ y / 2 := by
  have h := Nat.shiftRight_xor_distrib (a := x) (b := y) (i := 1)
  simpa [Nat.shiftRight_eq_div_pow] using h
theorem xor_mod2 (x y : Nat) : (x ^^^ y) % 2 = (x + y) % 2 := by
  have h : (x ^^^ y).testBit 0 = (x.testBit 0 ^^ y.testBit 0) := Nat.testBit_xor ..
  simp only [Nat.testBit_zero] at h
  have h1 : (x ^^^ y) % 2 = 0 ∨ (x ^^^ y) % 2 = 1 := by omega
  have h2 : x % 2 = 0 ∨ x % 2 = 1 := by omega
  have h3 : y % 2 = 0 ∨ y % 2 = 1 := by omega
  rw [Nat.add_mod]
  rcases h1 with h1 | h1 <;> rcases h2 with h2 | h2 <;> rcases h3 with h3 | h3 <;> simp [h1, h2, h3] at h ⊢
theorem xor_l (a b c : Nat) : a ^^^ (b ^^^ c) = b ^^^ (a ^^^ c) := by rw [← Nat.xor_assoc, Nat.xor_comm a b, Nat.xor_assoc]
theorem sN_xor (x y : Nat) : sN (x ^^^ y) = sN x ^^^ sN y := by
  unfold sN
  rw [xor_div2, xor_mod2]
  have hx : x % 2 = 0 ∨ x % 2 = 1 := by omega
  have hy : y % 2 = 0 ∨ y % 2 = 1 := by omega
  rcases hx with hx | hx <;> rcases hy with hy | hy
  · rw [if_neg (by omega), if_neg (by omega), if_neg (by omega)]
  · rw [if_pos (by omega), if_neg (by omega), if_pos (by omega), Nat.xor_assoc]
  · rw [if_pos (by omega), if_pos (by omega), if_neg (by omega), Nat.xor_assoc, Nat.xor_comm (y / 2), ← Nat.xor_assoc]
  · rw [if_neg (by omega), if_pos (by omega), if_pos (by omega)]
    have e : (x / 2 ^^^ 3988292384) ^^^ (y / 2 ^^^ 3988292384) = (x / 2 ^^^ y / 2) ^^^ (3988292384 ^^^ 3988292384) := by
      rw [Nat.xor_assoc, Nat.xor_assoc, xor_l 3988292384 (y / 2)]
    rw [e, Nat.xor_self, Nat.xor_zero]
theorem sNs_xor (n : Nat) : ∀ x y, sNs n (x ^^^ y) = sNs n x ^^^ sNs n y := by
  induction n with
  | zero => intro x y; rfl
  | succ n ih => intro x y; show sNs n (sN (x ^^^ y)) = _; rw [sN_xor, ih]; rfl
theorem sNs_add (m n : Nat) : ∀ x, sNs (m + n) x = sNs n (sNs m x) := by
  induction m with
  | zero => intro x; rw [Nat.zero_add]; rfl
  | succ m ih => intro x; rw [Nat.succ_add]; exact ih (sN x)
theorem sN_dbl (x : Nat) : sN (2 * x) = x := by unfold sN; rw [if_neg (by omega)]; omega
theorem sNs_shl (n : Nat) : ∀ x, sNs n (x * 2 ^ n) = x := by
  induction n with
  | zero => intro x; simp [sNs]
  | succ n ih =>
    intro x
    show sNs n (sN (x * 2 ^ (n + 1))) = x
    rw [show x * 2 ^ (n + 1) = 2 * (x * 2 ^ n) by rw [Nat.pow_succ, ← Nat.mul_assoc]; omega, sN_dbl, ih]
theorem sN_lt {x : Nat} (h : x < 4294967296) : sN x < 4294967296 := by
  unfold sN
  split
  · exact Nat.xor_lt_two_pow (n := 32) (by omega) (by decide)
  · omega
theorem sNs_lt (n : Nat) : ∀ {x}, x < 4294967296 → sNs n x < 4294967296 := by
  induction n with
  | zero => intro x h; exact h
  | succ n ih => intro x h; exact ih (sN_lt h)
theorem sN_ne {x : Nat} (h : x < 4294967296) (h0 : x ≠ 0) : sN x ≠ 0 := by
  unfold sN
  split
  · intro e
    have : x / 2 = 3988292384 := by
      have h1 := congrArg (· ^^^ 3988292384) e
      simp only [Nat.xor_assoc, Nat.xor_self, Nat.xor_zero, Nat.zero_xor] at h1
      exact h1
    omega
  · omega
theorem sNs_ne (n : Nat) : ∀ {x}, x < 4294967296 → x ≠ 0 → sNs n x ≠ 0 := by
  induction n with
  | zero => intro x _ h; exact h
  | succ n ih => intro x h h0; exact ih (sN_lt h) (sN_ne h h0)
theorem xor_eq0 {a b : Nat} (h : a ^^^ b = 0) : a = b := by
  have h1 := congrArg (· ^^^ b) h
  simp only [Nat.xor_assoc, Nat.xor_self, Nat.xor_zero, Nat.zero_xor] at h1
  exact h1
theorem xor_inj {a b c : Nat} (h : a ^^^ c = b ^^^ c) : a = b := by
  have h1 := congrArg (· ^^^ c) h
  simp only [Nat.xor_assoc, Nat.xor_self, Nat.xor_zero] at h1
  exact h1
theorem sNs_inj (n : Nat) {x y : Nat} (hx : x < 4294967296) (hy : y < 4294967296) (h : sNs n x = sNs n y) : x = y := by
  refine xor_eq0 (Classical.byContradiction fun hn => sNs_ne n (Nat.xor_lt_two_pow (n := 32) hx hy) hn ?_)
  rw [sNs_xor, h, Nat.xor_self]

/-- the register behind bytes -/
def regN : Nat → List Int → Nat
  | r, [] => r
  | r, c :: l => regN (sNs 8 (r ^^^ c.toNat)) l
theorem regN_nil (r : Nat) : regN r [] = r := rfl
theorem regN_cons (r : Nat) (c : Int) (l : List Int) : regN r (c :: l) = regN (sNs 8 (r ^^^ c.toNat)) l := rfl
def crcN (l : List Int) : Nat := regN 4294967295 l ^^^ 4294967295
/-- the check sum -/
def crc (l : List Int) : Int := (crcN l : Int)

theorem regN_append (a : List Int) : ∀ r b, regN r (a ++ b) = regN (regN r a) b := by
  induction a with
  | nil => intro r b; rfl
  | cons c a ih => intro r b; exact ih _ b
theorem regN_lt (l : List Int) : IsB l → ∀ {r}, r < 4294967296 → regN r l < 4294967296 := by
  induction l with
  | nil => intro _ r h; exact h
  | cons c l ih =>
    intro hB r h
    have hc := hB c (by simp)
    exact ih (fun x hx => hB x (by simp [hx])) (sNs_lt 8 (Nat.xor_lt_two_pow (n := 32) h (by omega)))
theorem crcN_lt {l : List Int} (h : IsB l) : crcN l < 4294967296 := Nat.xor_lt_two_pow (n := 32) (regN_lt l h (by decide)) (by decide)
theorem crc_bd {l : List Int} (h : IsB l) : 0 ≤ crc l ∧ crc l < 4294967296 := by
  have := crcN_lt h; unfold crc; omega

/-- the number of bytes, the lowest first -/
def lvN : List Int → Nat
  | [] => 0
  | c :: l => c.toNat + 256 * lvN l
theorem IsB.tail {c : Int} {l : List Int} (h : IsB (c :: l)) : IsB l := fun x hx => h x (by simp [hx])
theorem IsB.head {c : Int} {l : List Int} (h : IsB (c :: l)) : 0 ≤ c ∧ c ≤ 255 := h c (by simp)
theorem lvN_leV : ∀ (l : List Int), IsB l → (lvN l : Int) = leV l
  | [], _ => rfl
  | c :: l, h => by
    have := lvN_leV l h.tail
    have := h.head
    unfold lvN leV
    omega
theorem add_xor (k a b : Nat) (h : a < 2 ^ k) : a + 2 ^ k * b = a ^^^ 2 ^ k * b := by
  rw [Nat.add_comm, Nat.two_pow_add_eq_or_of_lt h, Nat.xor_comm]
  apply Nat.eq_of_testBit_eq
  intro i
  rw [Nat.testBit_or, Nat.testBit_xor, Nat.testBit_two_pow_mul]
  by_cases hi : k ≤ i
  · rw [Nat.testBit_lt_two_pow (Nat.lt_of_lt_of_le h (Nat.pow_le_pow_right (by decide) hi))]; simp
  · simp [hi]
theorem lvN_cons {c : Int} {l : List Int} (h : IsB (c :: l)) : lvN (c :: l) = c.toNat ^^^ lvN l * 256 := by
  have := h.head
  have e := add_xor 8 c.toNat (lvN l) (by omega)
  show c.toNat + 256 * lvN l = _
  rw [show (256 : Nat) = 2 ^ 8 from rfl, e, Nat.mul_comm]
/-- the register behind bytes, by their number -/
theorem regN_lv (l : List Int) : IsB l → ∀ r, regN r l = sNs (8 * l.length) (r ^^^ lvN l) := by
  induction l with
  | nil => intro _ r; rw [regN_nil]; exact (Nat.xor_zero r).symm
  | cons c l ih =>
    intro hB r
    have h := ih hB.tail (sNs 8 (r ^^^ c.toNat))
    have e : 8 * (c :: l).length = 8 + 8 * l.length := by rw [List.length_cons]; omega
    rw [regN_cons, h, lvN_cons hB, e, sNs_add, ← Nat.xor_assoc, sNs_xor 8 (r ^^^ c.toNat) (lvN l * 256)]
    have h2 : sNs 8 (lvN l * 256) = lvN l := sNs_shl 8 (lvN l)
    rw [h2]
theorem lvN_lt (l : List Int) : IsB l → lvN l < 2 ^ (8 * l.length) := by
  induction l with
  | nil => intro _; simp [lvN]
  | cons c l ih =>
    intro hB
    have h1 := ih hB.tail
    have h2 := hB.head
    have e : (2 : Nat) ^ (8 * (c :: l).length) = 256 * 2 ^ (8 * l.length) := by rw [List.length_cons, Nat.mul_add, Nat.pow_add]; omega
    rw [e]; unfold lvN; omega
theorem lvN_inj : ∀ (a b : List Int), a.length = b.length → IsB a → IsB b → lvN a = lvN b → a = b
  | [], [], _, _, _, _ => rfl
  | c :: a, d :: b, hl, ha, hb, h => by
    have h1 := ha.head
    have h2 := hb.head
    unfold lvN at h
    have := lvN_inj a b (by simpa using hl) ha.tail hb.tail (by omega)
    rw [this, show c = d by omega]
theorem lvN_append (a : List Int) : ∀ b, IsB a → lvN (a ++ b) = lvN a + 2 ^ (8 * a.length) * lvN b := by
  induction a with
  | nil => intro b _; simp [lvN]
  | cons c a ih =>
    intro b h
    show c.toNat + 256 * lvN (a ++ b) = _
    rw [ih b h.tail, List.length_cons, show 8 * (a.length + 1) = 8 + 8 * a.length by omega, Nat.pow_add, Nat.mul_add]
    show _ = c.toNat + 256 * lvN a + _
    rw [show (2 : Nat) ^ 8 = 256 from rfl, Nat.mul_assoc]
    omega
theorem lvN_take (a b : List Int) (h : IsB a) : lvN a = lvN (a ++ b) % 2 ^ (8 * a.length) := by
  rw [lvN_append a b h, Nat.add_mul_mod_self_left, Nat.mod_eq_of_lt (lvN_lt a h)]
theorem lvN_drop (a b : List Int) (h : IsB a) : lvN b = lvN (a ++ b) / 2 ^ (8 * a.length) := by
  rw [lvN_append a b h, Nat.add_mul_div_left _ _ (Nat.two_pow_pos _), Nat.div_eq_of_lt (lvN_lt a h), Nat.zero_add]

/-- three lists of one length, and their difference -/
def xor3 : List Int → List Int → List Int → List Int
  | a :: l, b :: m, c :: n => ((a.toNat ^^^ b.toNat ^^^ c.toNat : Nat) : Int) :: xor3 l m n
  | _, _, _ => []
theorem regN_xor3 : ∀ (a b c : List Int), a.length = b.length → a.length = c.length → ∀ r s t, regN (r ^^^ s ^^^ t) (xor3 a b c) = regN r a ^^^ regN s b ^^^ regN t c
  | [], [], [], _, _, r, s, t => rfl
  | a :: l, b :: m, c :: n, h1, h2, r, s, t => by
    show regN (sNs 8 ((r ^^^ s ^^^ t) ^^^ (((a.toNat ^^^ b.toNat ^^^ c.toNat : Nat) : Int)).toNat)) (xor3 l m n) = _
    have e : (r ^^^ s ^^^ t) ^^^ (((a.toNat ^^^ b.toNat ^^^ c.toNat : Nat) : Int)).toNat = (r ^^^ a.toNat) ^^^ (s ^^^ b.toNat) ^^^ (t ^^^ c.toNat) := by
      rw [Int.toNat_natCast]
      simp only [Nat.xor_assoc]
      congr 1
      rw [xor_l t a.toNat, xor_l s a.toNat]
      congr 1
      congr 1
      rw [xor_l t b.toNat]
    rw [e, sNs_xor, sNs_xor]
    exact regN_xor3 l m n (by simpa using h1) (by simpa using h2) _ _ _
theorem crcN_xor3 (a b c : List Int) (h1 : a.length = b.length) (h2 : a.length = c.length) : crcN (xor3 a b c) = crcN a ^^^ crcN b ^^^ crcN c := by
  have h := regN_xor3 a b c h1 h2 4294967295 4294967295 4294967295
  rw [Nat.xor_self, Nat.zero_xor] at h
  unfold crcN
  rw [h]
  generalize regN 4294967295 a = x
  generalize regN 4294967295 b = y
  generalize regN 4294967295 c = z
  generalize 4294967295 = m
  simp only [Nat.xor_assoc]
  rw [xor_l m y, xor_l m z, Nat.xor_self, Nat.xor_zero, Nat.xor_comm m z]
end Go.Proofs.Ytmdpmkdofgligaa
