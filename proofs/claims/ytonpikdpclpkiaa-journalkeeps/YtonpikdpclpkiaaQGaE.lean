import Derived.Test.YtonpikdpclpkiaaQGrA
import Derived.Test.YtonpikdpclpkiaaQGrB
import Derived.Deep.QuietTactic
import Derived.BigQuiet
import Derived.Deep.RegionHeld3
import Derived.Maps.AppendAt
namespace Go.Proofs.Ytonpikdpclpkiaa
open Go.RowKit

/-- one place of the register (of any length): its lowest bit falls out, and turns -/
def sN (x : Nat) : Nat := if x % 2 = 1 then x / 2 ^^^ 3988292384 else x / 2
def sNs : Nat → Nat → Nat
  | 0, x => x
  | n + 1, x => sNs n (sN x)

theorem xor_div2 (x y : Nat) : (x ^^^ y) / 2 = x / 2 ^^^ y / 2 := by
  have h := Nat.shiftRight_xor_distrib (a := x) (b := y) (i := 1)
  simpa [Nat.shiftRight_eq_div_pow] using h
theorem xor_mod2 (x y : Nat) : (x ^^^ y) % 2 = (x + y) % 2 := by
  have h : (x ^^^ y).testBit 0 = (x.testBit 0 ^^ y.testBit 0) := Nat.testBit_xor ..
  simp only [Nat.testBit_zero] at h
  have h1 : (x ^^^ y) % 2 = 0 ∨ (x ^^^ y) % 2 = 1 := by omega
  have h2 : x % 2 = 0 ∨ x % 2 = 1 := by omega
  have h3 : y % 2 = 0 ∨ y % 2 = 1 := by omega
  rw [Nat.add_mod]
  rcases h1 with h1 | h1 <;> rcases h2 with h2 | h2 <;> rcases h3 with h3 | h3 <;> simp [h1, h2, h3] at h ⊢
theorem xor_l (a b c : Nat) : a ^^^ (b ^^^ c) = b ^^^ (a ^^^ c) := by rw [← Nat.xor_assoc, Nat.xor_comm a b, Nat.xor_assoc]
theorem sN_xor (x y : Nat) : sN (x ^^^ y) = sN x ^^^ sN y := by
  unfold sN
  rw [xor_div2, xor_mod2]
  have hx : x % 2 = 0 ∨ x % 2 = 1 := by omega
  have hy : y % 2 = 0 ∨ y % 2 = 1 := by omega
  rcases hx with hx | hx <;> rcases hy with hy | hy
  · rw [if_neg (by omega), if_neg (by omega), if_neg (by omega)]
  · rw [if_pos (by omega), if_neg (by omega), if_pos (by omega), Nat.xor_assoc]
  · rw [if_pos (by omega), if_pos (by omega), if_neg (by omega), Nat.xor_assoc, Nat.xor_comm (y / 2), ← Nat.xor_assoc]
  · rw [if_neg (by omega), if_pos (by omega), if_pos (by omega)]
    have e : (x / 2 ^^^ 3988292384) ^^^ (y / 2 ^^^ 3988292384) = (x / 2 ^^^ y / 2) ^^^ (3988292384 ^^^ 3988292384) := by
      rw [Nat.xor_assoc, Nat.xor_assoc, xor_l 3988292384 (y / 2)]
    rw [e, Nat.xor_self, Nat.xor_zero]
theorem sNs_xor (n : Nat) : ∀ x y, sNs n (x ^^^ y) = sNs n x ^^^ sNs n y := by
  induction n with
  | zero => intro x y; rfl
  | succ n ih => intro x y; show sNs n (sN (x ^^^ y)) = _; rw [sN_xor, ih]; rfl
theorem sNs_add (m n : Nat) : ∀ x, sNs (m + n) x = sNs n (sNs m x) := by
  induction m with
  | zero => intro x; rw [Nat.zero_add]; rfl
  | succ m ih => intro x; rw [Nat.succ_add]; exact ih (sN x)
theorem sN_dbl (x : Nat) : sN (2 * x) = x := by unfold sN; rw [if_neg (by omega)]; omega
theorem sNs_shl (n : Nat) : ∀ x, sNs n (x * 2 ^ n) = x := by
  induction n with
  | zero => intro x; simp [sNs]
  | succ n ih =>
    intro x
    show sNs n (sN (x * 2 ^ (n + 1))) = x
    rw [show x * 2 ^ (n + 1) = 2 * (x * 2 ^ n) by rw [Nat.pow_succ, ← Nat.mul_assoc]; omega, sN_dbl, ih]
theorem sN_lt {x : Nat} (h : x < 4294967296) : sN x < 4294967296 := by
  unfold sN
  split
  · exact Nat.xor_lt_two_pow (n := 32) (by omega) (by decide)
  · omega
theorem sNs_lt (n : Nat) : ∀ {x}, x < 4294967296 → sNs n x < 4294967296 := by
  induction n with
  | zero => intro x h; exact h
  | succ n ih => intro x h; exact ih (sN_lt h)
theorem sN_ne {x : Nat} (h : x < 4294967296) (h0 : x ≠ 0) : sN x ≠ 0 := by
  unfold sN
  split
  · intro e
    have : x / 2 = 3988292384 := by
      have h1 := congrArg (· ^^^ 3988292384) e
      simp only [Nat.xor_assoc, Nat.xor_self, Nat.xor_zero, Nat.zero_xor] at h1
      exact h1
    omega
  · omega
theorem sNs_ne (n : Nat) : ∀ {x}, x < 4294967296 → x ≠ 0 → sNs n x ≠ 0 := by
  induction n with
  | zero => intro x _ h; exact h
  | succ n ih => intro x h h0; exact ih (sN_lt h) (sN_ne h h0)
theorem xor_eq0 {a b : Nat} (h : a ^^^ b = 0) : a = b := by
  have h1 := congrArg (· ^^^ b) h
  simp only [Nat.xor_assoc, Nat.xor_self, Nat.xor_zero, Nat.zero_xor] at h1
  exact h1
theorem xor_inj {a b c : Nat} (h : a ^^^ c = b ^^^ c) : a = b := by
  have h1 := congrArg (· ^^^ c) h
  simp only [Nat.xor_assoc, Nat.xor_self, Nat.xor_zero] at h1
  exact h1
theorem sNs_inj (n : Nat) {x y : Nat} (hx : x < 4294967296) (hy : y < 4294967296) (h : sNs n x = sNs n y) : x = y := by
  refine xor_eq0 (Classical.byContradiction fun hn => sNs_ne n (Nat.xor_lt_two_pow (n := 32) hx hy) hn ?_)
  rw [sNs_xor, h, Nat.xor_self]

/-- the register behind bytes -/
def regN : Nat → List Int → Nat
  | r, [] => r
  | r, c :: l => regN (sNs 8 (r ^^^ c.toNat)) l
theorem regN_nil (r : Nat) : regN r [] = r := rfl
theorem regN_cons (r : Nat) (c : Int) (l : List Int) : regN r (c :: l) = regN (sNs 8 (r ^^^ c.toNat)) l := rfl
def crcN (l : List Int) : Nat := regN 4294967295 l ^^^ 4294967295
/-- the check sum -/
def crc (l : List Int) : Int := (crcN l : Int)

theorem regN_append (a : List Int) : ∀ r b, regN r (a ++ b) = regN (regN r a) b := by
  induction a with
  | nil => intro r b; rfl
  | cons c a ih => intro r b; exact ih _ b
theorem regN_lt (l : List Int) : IsB l → ∀ {r}, r < 4294967296 → regN r l < 4294967296 := by
  induction l with
  | nil => intro _ r h; exact h
  | cons c l ih =>
    intro hB r h
    have hc := hB c (by simp)
    exact ih (fun x hx => hB x (by simp [hx])) (sNs_lt 8 (Nat.xor_lt_two_pow (n := 32) h (by omega)))
theorem crcN_lt {l : List Int} (h : IsB l) : crcN l < 4294967296 := Nat.xor_lt_two_pow (n := 32) (regN_lt l h (by decide)) (by decide)
theorem crc_bd {l : List Int} (h : IsB l) : 0 ≤ crc l ∧ crc l < 4294967296 := by
  have := crcN_lt h; unfold crc; omega

/-- the number of bytes, the lowest first -/
def lvN : List Int → Nat
  | [] => 0
  | c :: l => c.toNat + 256 * lvN l
theorem IsB.tail {c : Int} {l : List Int} (h : IsB (c :: l)) : IsB l := fun x hx => h x (by simp [hx])
theorem IsB.head {c : Int} {l : List Int} (h : IsB (c :: l)) : 0 ≤ c ∧ c ≤ 255 := h c (by simp)
theorem lvN_leV : ∀ (l : List Int), IsB l → (lvN l : Int) = leV l
  | [], _ => rfl
  | c :: l, h => by
    have := lvN_leV l h.tail
    have := h.head
    unfold lvN leV
    omega
theorem add_xor (k a b : Nat) (h : a < 2 ^ k) : a + 2 ^ k * b = a ^^^ 2 ^ k * b := by
  rw [Nat.add_comm, Nat.two_pow_add_eq_or_of_lt h, Nat.xor_comm]
  apply Nat.eq_of_testBit_eq
  intro i
  rw [Nat.testBit_or, Nat.testBit_xor, Nat.testBit_two_pow_mul]
  by_cases hi : k ≤ i
  · rw [Nat.testBit_lt_two_pow (Nat.lt_of_lt_of_le h (Nat.pow_le_pow_right (by decide) hi))]; simp
  · simp [hi]
theorem lvN_cons {c : Int} {l : List Int} (h : IsB (c :: l)) : lvN (c :: l) = c.toNat ^^^ lvN l * 256 := by
  have := h.head
  have e := add_xor 8 c.toNat (lvN l) (by omega)
  show c.toNat + 256 * lvN l = _
  rw [show (256 : Nat) = 2 ^ 8 from rfl, e, Nat.mul_comm]
/-- the register behind bytes, by their number -/
theorem regN_lv (l : List Int) : IsB l → ∀ r, regN r l = sNs (8 * l.length) (r ^^^ lvN l) := by
  induction l with
  | nil => intro _ r; rw [regN_nil]; exact (Nat.xor_zero r).symm
  | cons c l ih =>
    intro hB r
    have h := ih hB.tail (sNs 8 (r ^^^ c.toNat))
    have e : 8 * (c :: l).length = 8 + 8 * l.length := by rw [List.length_cons]; omega
    rw [regN_cons, h, lvN_cons hB, e, sNs_add, ← Nat.xor_assoc, sNs_xor 8 (r ^^^ c.toNat) (lvN l * 256)]
    have h2 : sNs 8 (lvN l * 256) = lvN l := sNs_shl 8 (lvN l)
    rw [h2]
theorem lvN_lt (l : List Int) : IsB l → lvN l < 2 ^ (8 * l.length) := by
  induction l with
  | nil => intro _; simp [lvN]
  | cons c l ih =>
    intro hB
    have h1 := ih hB.tail
    have h2 := hB.head
    have e : (2 : Nat) ^ (8 * (c :: l).length) = 256 * 2 ^ (8 * l.length) := by rw [List.length_cons, Nat.mul_add, Nat.pow_add]; omega
    rw [e]; unfold lvN; omega
theorem lvN_inj : ∀ (a b : List Int), a.length = b.length → IsB a → IsB b → lvN a = lvN b → a = b
  | [], [], _, _, _, _ => rfl
  | c :: a, d :: b, hl, ha, hb, h => by
    have h1 := ha.head
    have h2 := hb.head
    unfold lvN at h
    have := lvN_inj a b (by simpa using hl) ha.tail hb.tail (by omega)
    rw [this, show c = d by omega]
theorem lvN_append (a : List Int) : ∀ b, IsB a → lvN (a ++ b) = lvN a + 2 ^ (8 * a.length) * lvN b := by
  induction a with
  | nil => intro b _; simp [lvN]
  | cons c a ih =>
    intro b h
    show c.toNat + 256 * lvN (a ++ b) = _
    rw [ih b h.tail, List.length_cons, show 8 * (a.length + 1) = 8 + 8 * a.length by omega, Nat.pow_add, Nat.mul_add]
    show _ = c.toNat + 256 * lvN a + _
    rw [show (2 : Nat) ^ 8 = 256 from rfl, Nat.mul_assoc]
    omega
theorem lvN_take (a b : List Int) (h : IsB a) : lvN a = lvN (a ++ b) % 2 ^ (8 * a.length) := by
  rw [lvN_append a b h, Nat.add_mul_mod_self_left, Nat.mod_eq_of_lt (lvN_lt a h)]
theorem lvN_drop (a b : List Int) (h : IsB a) : lvN b = lvN (a ++ b) / 2 ^ (8 * a.length) := by
  rw [lvN_append a b h, Nat.add_mul_div_left _ _ (Nat.two_pow_pos _), Nat.div_eq_of_lt (lvN_lt a h), Nat.zero_add]

/-- three lists of one length, and their difference -/
def xor3 : List Int → List Int → List Int → List Int
  | a :: l, b :: m, c :: n => ((a.toNat ^^^ b.toNat ^^^ c.toNat : Nat) : Int) :: xor3 l m n
  | _, _, _ => []
theorem regN_xor3 : ∀ (a b c : List Int), a.length = b.length → a.length = c.length → ∀ r s t, regN (r ^^^ s ^^^ t) (xor3 a b c) = regN r a ^^^ regN s b ^^^ regN t c
  | [], [], [], _, _, r, s, t => rfl
  | a :: l, b :: m, c :: n, h1, h2, r, s, t => by
    show regN (sNs 8 ((r ^^^ s ^^^ t) ^^^ (((a.toNat ^^^ b.toNat ^^^ c.toNat : Nat) : Int)).toNat)) (xor3 l m n) = _
    have e : (r ^^^ s ^^^ t) ^^^ (((a.toNat ^^^ b.toNat ^^^ c.toNat : Nat) : Int)).toNat = (r ^^^ a.toNat) ^^^ (s ^^^ b.toNat) ^^^ (t ^^^ c.toNat) := by
      rw [Int.toNat_natCast]
      simp only [Nat.xor_assoc]
      congr 1
      rw [xor_l t a.toNat, xor_l s a.toNat]
      congr 1
      congr 1
      rw [xor_l t b.toNat]
    rw [e, sNs_xor, sNs_xor]
    exact regN_xor3 l m n (by simpa using h1) (by simpa using h2) _ _ _
theorem crcN_xor3 (a b c : List Int) (h1 : a.length = b.length) (h2 : a.length = c.length) : crcN (xor3 a b c) = crcN a ^^^ crcN b ^^^ crcN c := by
  have h := regN_xor3 a b c h1 h2 4294967295 4294967295 4294967295
  rw [Nat.xor_self, Nat.zero_xor] at h
  unfold crcN
  rw [h]
  generalize regN 4294967295 a = x
  generalize regN 4294967295 b = y
  generalize regN 4294967295 c = z
  generalize 4294967295 = m
  simp only [Nat.xor_assoc]
  rw [xor_l m y, xor_l m z, Nat.xor_self, Nat.xor_zero, Nat.xor_comm m z]
end Go.Proofs.Ytonpikdpclpkiaa

namespace Go.Proofs.Ytonpikdpclpkiaa
open Go.RowKit

theorem regN_take_succ (r : Nat) (l : List Int) (k : Nat) (h : k < l.length) : regN r (l.take (k + 1)) = sNs 8 (regN r (l.take k) ^^^ (l.getD k 0).toNat) := by
  rw [take_succ_getD l k h, regN_append]; rfl

theorem sN_code (z : Nat) (hz : z < 4294967296) : bits .xor .u32 ((z : Int) / 2) (3988292384 * bits .and .u32 (z : Int) 1 % 4294967296) = (sN z : Int) := by
  have h1 : bits .and .u32 (z : Int) 1 = ((z % 2 : Nat) : Int) := by
    rw [u32_and _ _ (by omega) (by omega) (by omega) (by omega), Int.toNat_natCast]
    show ((z &&& 1 : Nat) : Int) = _
    rw [Nat.and_one_is_mod]
  rw [h1, u32_xor _ _ (by omega) (by omega) (by omega) (by omega)]
  unfold sN
  have h2 : ((z : Int) / 2).toNat = z / 2 := by omega
  rw [h2]
  split
  · next h => rw [h]; rfl
  · next h => rw [show z % 2 = 0 by omega]; simp
theorem crc_code (l : List Int) (r : Nat) (hr : regN 4294967295 l = r) (h : r < 4294967296) : bits .xor .u32 IntKind.u32.max (r : Int) = crc l := by
  rw [u32_xor _ _ (by decide) (by decide) (by omega) (by omega)]
  unfold crc crcN
  rw [hr, Int.toNat_natCast, Nat.xor_comm r]
  rfl
set_option maxHeartbeats 2000000 in
set_option maxRecDepth 100000 in
theorem sum_any (s : Sl) (w : World) (hs : s.Ok w) :
    Calls Try.prog 44 #[s.v] w fun e w' => e = .returned (.int .u32 (crc s.l)) ∧ w' = w := by
  obtain ⟨a, n, c, l⟩ := s
  have hl : l.length = n := hs.len
  have hn : n ≤ 9223372036854775807 := by have := hs.le; have := hs.mx; unfold maxLen at this; simp only at *; omega
  simp only [Sl.v]
  have HS := hide hs
  have HL := hide hl
  clear hs hl
  go_enter Try.func44, Try.ntmps44
  go_wp2
  go_loop [3, 9] (fun r i => ∃ k : Nat, k ≤ n ∧ i = .int .i64 k ∧ r = .int .u32 (regN 4294967295 (l.take k))) (fun _ i => n - (intOf i).toNat)
  case atStart => exact ⟨0, by omega, rfl, rfl⟩
  case round =>
    obtain ⟨k, hk, rfl, rfl⟩ := hrel
    have hR := regN_lt (l.take k) ((unhide HS).isB.take k) (r := 4294967295) (by decide)
    generalize hr : regN 4294967295 (l.take k) = r at *
    by_cases hlt : k < n
    · obtain ⟨ab, ao, haa, -, hac⟩ := (unhide HS).lies (by show 0 < l.length; rw [unhide HL]; omega)
      have haa' : a = some ⟨ab, ao, none⟩ := haa
      subst haa'
      have ca : w.cell? ⟨ab, ao + k, none⟩ = some (.int .u8 (l.getD k 0)) := hac k (by show k < l.length; rw [unhide HL]; omega)
      have hb := (unhide HS).isB.at k
      simp only at hb
      have hsu := regN_take_succ 4294967295 l k (by rw [unhide HL]; omega)
      rw [hr] at hsu
      generalize l.getD k 0 = x at *
      have hkz : (k : Int) < (n : Int) := by omega
      have HSU := hide hsu
      have HR := hide hr
      clear haa hac hsu hr
      go_wp2
      obtain ⟨y, hy⟩ : ∃ y, y = r ^^^ x.toNat := ⟨_, rfl⟩
      have hy1 : y < 4294967296 := by rw [hy]; exact Nat.xor_lt_two_pow (n := 32) hR (by omega)
      have hy2 : bits .xor .u32 (r : Int) x = (y : Int) := by rw [hy, u32_xor _ _ (by omega) (by omega) (by omega) (by omega), Int.toNat_natCast]
      have HY := hide hy
      clear hy
      go_loop [3, 17] (fun r i => ∃ k : Nat, k ≤ 8 ∧ i = .int .i64 k ∧ r = .int .u32 (sNs k y)) (fun _ i => 8 - (intOf i).toNat)
      case atStart => exact ⟨0, by omega, rfl, val_int hy2⟩
      case round =>
        obtain ⟨j, hj, rfl, rfl⟩ := hrel
        have hz := sNs_lt j hy1
        have hzs : sNs (j + 1) y = sN (sNs j y) := by rw [sNs_add]; rfl
        generalize hzz : sNs j y = z at *
        have HZ := hide hzz
        clear hzz
        by_cases hlt8 : j < 8
        · go_wp2
          go_round
          case rel => exact ⟨j + 1, by omega, by go_num, val_int ((sN_code z hz).trans (by rw [hzs]))⟩
          case measure => simp [intOf]; omega
        · have hj8 : j = 8 := by omega
          subst hj8
          go_wp2
          go_round
          case rel => exact ⟨k + 1, by omega, by go_num, by rw [unhide HSU, ← unhide HY, unhide HZ]⟩
          case measure => simp [intOf]; omega
    · have hkk : k = n := by omega
      subst hkk
      go_wp2
      go_ret
      refine ⟨?_, rfl⟩
      rw [List.take_of_length_le (by rw [unhide HL]; exact Nat.le_refl _)] at hr
      exact ret_int (crc_code l r hr hR)
end Go.Proofs.Ytonpikdpclpkiaa

set_option linter.unusedVariables false
namespace Go.Proofs.Ytonpikdpclpkiaa
open Go.RowKit

theorem own_dr {B e n size : Nat} {w : World} {v : Value} {xs : List Value} (h : w.ownsRow B e size v n xs) (q : Nat) : (w.drewN q).ownsRow B e size v n xs := h
theorem step_append_own {P : Program} {ops : Array Oper} {o : Oper} {a : Act} {w : World} {K : Act → World → Prop} {Q : Exit → Act → World → Prop} {E : Prop} (hgd : o.guard = none) (s x : Operand) (t : TypeId)
    (ho : o.op = .call { callee := .builtin .append, args := #[s, x], argTypes := #[t, t] })
    (base : Nat) (e : TypeId) (i : TypeInfo) (z : Value) (size bytes : Nat) (ht : P.underlying t = some (.slice e)) (hi : P.info? e = some i) (hz : i.zero = some z)
    (hsize : i.size = size) (hby : i.bytes = bytes) (hzs : z.cells.size = size) (hsz : 0 < size)
    (v : Value) (n : Nat) (xs : List Value) (hs : a.eval s = v) (hown : w.ownsRow base e size v n xs)
    (ad : Addr) (m c : Nat) (news : List Value) (hx : a.eval x = .slice (some ad) m c) (hl : news.length = m * size) (hnews : ∀ j u, news[j]? = some u → w.cell? (ad.add j) = some u) (h1 : ∀ u ∈ news, u.oneCell' = true)
    (h63 : n + m ≤ maxLen) (hbytes : (n + m) * bytes ≤ 140737488355328) (hbase : base ≤ w.heap.size)
    (h : ∀ v' w', w'.ownsRow base e size v' (n + m) (xs ++ news) → w.grownBy w' v.ownBlock → K (a.put o.dst v') w') :
    if Region.wanted o (yielded ops a.tmps) = true then Oper.wp P o a w K Q else E := by
  have hw : Region.wanted o (yielded ops a.tmps) = true := by simp [Region.wanted, hgd]
  rw [if_pos hw]
  exact wp_append_own w s x t ho base e i z size bytes ht hi hz hsize hby hzs hsz v n xs hs hown ad m c news hx hl hnews h1 h63 hbytes hbase fun v' w' h2 h3 _ => h v' w' h2 h3

theorem xor3_length : ∀ (a b c : List Int), a.length = b.length → a.length = c.length → (xor3 a b c).length = a.length
  | [], [], [], _, _ => rfl
  | a :: l, b :: m, c :: n, h1, h2 => by
    show (xor3 l m n).length + 1 = l.length + 1
    rw [xor3_length l m n (by simpa using h1) (by simpa using h2)]
theorem xor3_getD : ∀ (a b c : List Int) (k : Nat), k < a.length → a.length = b.length → a.length = c.length → (xor3 a b c).getD k 0 = (((a.getD k 0).toNat ^^^ (b.getD k 0).toNat ^^^ (c.getD k 0).toNat : Nat) : Int)
  | [], _, _, _, h, _, _ => by simp at h
  | a :: l, b :: m, c :: n, k, h, h1, h2 => by
    cases k with
    | zero => rfl
    | succ k => exact xor3_getD l m n k (by simpa using h) (by simpa using h1) (by simpa using h2)
  | _ :: _, [], _, _, _, h1, _ => by simp at h1
  | _ :: _, _ :: _, [], _, _, _, h2 => by simp at h2
theorem xor3_isB : ∀ (a b c : List Int), IsB a → IsB b → IsB c → IsB (xor3 a b c)
  | a :: l, b :: m, c :: n, h1, h2, h3 => by
    intro x hx
    have e : xor3 (a :: l) (b :: m) (c :: n) = ((a.toNat ^^^ b.toNat ^^^ c.toNat : Nat) : Int) :: xor3 l m n := rfl
    rw [e] at hx
    rcases List.mem_cons.1 hx with rfl | hx
    · have := h1.head
      have := h2.head
      have := h3.head
      have : a.toNat ^^^ b.toNat ^^^ c.toNat < 2 ^ 8 := Nat.xor_lt_two_pow (Nat.xor_lt_two_pow (by omega) (by omega)) (by omega)
      omega
    · exact xor3_isB l m n h1.tail h2.tail h3.tail x hx
  | [], _, _, _, _, _ => fun x hx => by simp [xor3] at hx
  | _ :: _, [], _, _, _, _ => fun x hx => by simp [xor3] at hx
  | _ :: _, _ :: _, [], _, _, _ => fun x hx => by simp [xor3] at hx
theorem u8_xor3 (x y z : Int) (hx : 0 ≤ x ∧ x ≤ 255) (hy : 0 ≤ y ∧ y ≤ 255) (hz : 0 ≤ z ∧ z ≤ 255) : bits .xor .u8 (bits .xor .u8 x y) z = ((x.toNat ^^^ y.toNat ^^^ z.toNat : Nat) : Int) := by
  have h : x.toNat ^^^ y.toNat < 2 ^ 8 := Nat.xor_lt_two_pow (by omega) (by omega)
  rw [u8_xor x y (by omega) (by omega) (by omega) (by omega), u8_xor _ z (by omega) (by omega) (by omega) (by omega), Int.toNat_natCast]
theorem Sl.Ok.pre {w : World} {s : Sl} (h : s.Ok w) (k : Nat) (hk : k ≤ s.n) : Sl.Ok w ⟨s.a, k, s.c, s.l.take k⟩ := by
  have h1 := h.len
  have h2 := h.le
  exact ⟨by simp only [List.length_take]; omega, by simp only; omega, h.mx, (fun e => by have := h.nn e; simp only; omega), h.isB.take k, lies_take h.lies k⟩
theorem crc_xor3 (a b c : List Int) (ha : IsB a) (hb : IsB b) (hc : IsB c) (h1 : a.length = b.length) (h2 : a.length = c.length) : bits .xor .u32 (bits .xor .u32 (crc a) (crc b)) (crc c) = crc (xor3 a b c) := by
  have e1 := crcN_lt ha
  have e2 := crcN_lt hb
  have e3 := crcN_lt hc
  have e4 : crcN a ^^^ crcN b < 2 ^ 32 := Nat.xor_lt_two_pow (by omega) (by omega)
  unfold crc
  rw [u32_xor_nat _ _ e1 e2, u32_xor_nat _ _ e4 e3, crcN_xor3 a b c h1 h2]
/-- the four bytes of a word, the lowest first -/
theorem lv4 (x : Int) (h0 : 0 ≤ x) (h1 : x < 4294967296) : lvN [x % 256, x / 256 % 256, x / 65536 % 256, x / 16777216] = x.toNat := by
  simp only [lvN]
  omega
theorem crc_last (a : List Int) (ha : IsB a) (q : List Int) (hq : IsB q) (hl : q.length = 4) (x : Nat) (hx : lvN q = x) (hx1 : x < 4294967296) : crcN (a ++ q) = sNs 32 (regN 4294967295 a ^^^ x) ^^^ 4294967295 := by
  unfold crcN
  rw [regN_append, regN_lv q hq, hl, hx]
theorem crc_apart (a : List Int) (ha : IsB a) (p q : List Int) (hp : IsB p) (hq : IsB q) (hl : p.length = 4) (hl2 : q.length = 4) : (crc (a ++ p) = crc (a ++ q)) = (p = q) := by
  apply propext
  constructor
  · intro h
    have h1 := lvN_lt p hp
    have h2 := lvN_lt q hq
    rw [hl] at h1
    rw [hl2] at h2
    have hr := regN_lt a ha (r := 4294967295) (by decide)
    have e : crcN (a ++ p) = crcN (a ++ q) := by unfold crc at h; omega
    rw [crc_last a ha p hp hl _ rfl h1, crc_last a ha q hq hl2 _ rfl h2] at e
    have e2 := sNs_inj 32 (Nat.xor_lt_two_pow (n := 32) hr h1) (Nat.xor_lt_two_pow (n := 32) hr h2) (xor_inj e)
    rw [Nat.xor_comm, Nat.xor_comm _ (lvN q)] at e2
    exact lvN_inj p q (by rw [hl, hl2]) hp hq (xor_inj e2)
  · intro h; rw [h]
theorem ok_drewN {w : World} {d : Sl} (h : d.Ok w) (k : Nat) : d.Ok (w.drewN k) := h.later (below_drewN (Below.refl _ _) k)
theorem sum_q {W : World} {n : Nat} {a : Option Addr} {m c : Nat} {l : List Int} (h : Sl.Ok W ⟨a, m, c, l⟩) : Calls Try.prog 44 #[.slice a m c] (W.drewN n) fun e w'' => e = .returned (.int .u32 (crc l)) ∧ ∃ m, w'' = W.drewN m :=
  Calls.quiet_of_same (sum_any _ _ (ok_drewN h n))
theorem below_one (w : World) (o : Obj) : Below w.heap.size w (w.alloc o) := (Below.refl _ _).alloc (Nat.le_refl _) o
theorem lit_ok (w : World) (l : List Int) (hB : IsB l) (hl : l.length ≤ 1048576) : Sl.Ok (w.alloc (.cells (U8 l).toArray 5)) ⟨some ⟨w.heap.size, 0, none⟩, l.length, l.length, l⟩ := by
  have hA : Arr (w.alloc (.cells (U8 l).toArray 5)) w.heap.size 5 (U8 l) := Arr.new w _ (U8 l)
  exact ⟨rfl, Nat.le_refl _, (by unfold maxLen; omega : l.length ≤ maxLen), (fun h => by cases h), hB, hA.lies⟩
/-- append([]byte{}, d...) -/
theorem wpList_append_made {w0 : World} {ops : Array Oper} {rest : List Oper} {o : Oper} {a : Act} {Q : Exit → Act → World → Prop} (hgd : o.guard = none) (s x : Operand)
    (ho : o.op = .call { callee := .builtin .append, args := #[s, x], argTypes := #[22, 22] }) (hs : a.eval s = .slice (some ⟨w0.heap.size, 0, none⟩) 0 0)
    (d : Sl) (hd : d.Ok w0) (hx : a.eval x = .slice d.a d.n d.c) (hb : d.n ≤ 140737488355328)
    (h : ∀ v' w', Hid (w'.ownsRow w0.heap.size 5 1 v' d.n (U8 d.l)) → Hid (Below w0.heap.size w0 w') → wpList Try.prog ops Q rest (a.put o.dst v') w') : wpList Try.prog ops Q (o :: rest) a (w0.alloc (.cells #[] 5)) := by
  obtain ⟨i0, hi, hz0, hz1, hz2⟩ := info_parts Try.infoB
  have he : (w0.alloc (.cells #[] 5)).ownsRow w0.heap.size 5 1 (.slice (some ⟨w0.heap.size, 0, none⟩) 0 0) 0 (U8 ([] : List Int)) := World.ownsRow_made w0 #[] 0 (Nat.le_refl _) (by unfold maxLen; omega) rfl
  have hb1 := below_one w0 (.cells #[] 5)
  refine wpList_append_sl hgd s x 22 ho w0.heap.size 5 i0 (.int .u8 0) Try.underlying22 hi hz0 hz1 hz2 rfl _ 0 _ hs he d (hd.later hb1) hx (by omega) (by simp) ?_
  intro v' w' h1 h2
  have h3 := below_grown hb1 (Nat.le_refl _) he (unhide h2)
  have e : U8 ([] : List Int) ++ U8 d.l = U8 d.l := by simp [U8]
  have h4 := unhide h1
  rw [e, Nat.zero_add] at h4
  exact h v' w' h4 h3
/-- append(v, b0, b1, ..) -/
theorem wpList_append_lit {w0 W : World} {ops : Array Oper} {rest : List Oper} {o : Oper} {a : Act} {Q : Exit → Act → World → Prop} (hgd : o.guard = none) (s x : Operand)
    (ho : o.op = .call { callee := .builtin .append, args := #[s, x], argTypes := #[22, 22] }) (base : Nat) (v : Value) (n : Nat) (l q : List Int) (hs : a.eval s = v)
    (hown : W.ownsRow base 5 1 v n (U8 l)) (hbl : Below base w0 W) (hbase : base ≤ w0.heap.size) (hq : IsB q) (hql : q.length ≤ 1048576) (hx : a.eval x = .slice (some ⟨W.heap.size, 0, none⟩) q.length q.length) (hb : n + q.length ≤ 140737488355328)
    (h : ∀ v' w', Hid (w'.ownsRow base 5 1 v' (n + q.length) (U8 (l ++ q))) → Hid (Below base w0 w') → wpList Try.prog ops Q rest (a.put o.dst v') w') : wpList Try.prog ops Q (o :: rest) a (W.alloc (.cells (U8 q).toArray 5)) := by
  obtain ⟨i0, hi, hz0, hz1, hz2⟩ := info_parts Try.infoB
  refine wpList_append_sl hgd s x 22 ho base 5 i0 (.int .u8 0) Try.underlying22 hi hz0 hz1 hz2 rfl _ n _ hs (hown.alloc _) ⟨_, _, _, q⟩ (lit_ok W q hq hql) hx (by simp only; omega) (by have := hbl.size; simp; omega) ?_
  intro v' w' h1 h2
  have h4 := unhide h1
  rw [← U8_append] at h4
  exact h v' w' h4 (below_app hbl hbase hown (unhide h2))
theorem zero4_isB : IsB [0, 0, 0, 0] := fun x hx => by simp at hx; omega
theorem four_isB (x : Int) (h : 0 ≤ x ∧ x < 4294967296) : IsB [x % 256, x / 256 % 256, x / 65536 % 256, x / 16777216] := fun y hy => by simp at hy; omega
theorem bel_then {B : Nat} {w0 w w' : World} (h : Below B w0 w) (hB : B ≤ w.heap.size) (k : Below w.heap.size w w') : Below B w0 w' := h.trans (k.mono hB)
theorem own_to' {w : World} {base base' e n : Nat} {v : Value} {xs : List Value} {s : Nat} (h : w.ownsRow s e 1 v n xs) (_ : base ≤ s) (hb : base' ≤ base) : w.ownsRow base' e 1 v n xs := by
  obtain ⟨h1, h2⟩ := h
  refine ⟨h1, ?_⟩
  rcases h2 with h2 | ⟨g, cap, cur, r1, r2, r3⟩
  · exact .inl h2
  · exact .inr ⟨g, cap, cur, r1, by omega, r3⟩
theorem sums_end (a : List Int) (x : Int) (ha : IsB a) (hx : 0 ≤ x ∧ x < 4294967296) : (crc (a ++ [0, 0, 0, 0]) = crc (a ++ [x % 256, x / 256 % 256, x / 65536 % 256, x / 16777216])) = (x = 0) := by
  rw [crc_apart a ha _ _ zero4_isB (four_isB x hx) rfl rfl]
  apply propext
  simp only [List.cons.injEq, and_true]
  constructor
  · intro h; omega
  · rintro rfl; decide
theorem getD_take (l : List Int) {n k : Nat} (h : k < n) : (l.take n).getD k 0 = l.getD k 0 := by
  simp [List.getD, h]
end Go.Proofs.Ytonpikdpclpkiaa
