import Derived.Test.YtipmgnigejpfjaaGrA
import Derived.Test.YtipmgnigejpfjaaHexX2
namespace Go.Proofs.Ytipmgnigejpfjaa
open Go.RowKit

theorem strL_strOfNums (l : List Int) (h : IsB l) : strL (strOfNums l) = l := by
  unfold strL; rw [strOfNums_data, List.map_map]
  conv => rhs; rw [← List.map_id l]
  apply List.map_congr_left
  intro x hx
  have := h x hx
  simp only [Function.comp, UInt8.toNat_ofNat', id]; omega
theorem strOfNums_strL (s : ByteArray) : strOfNums (strL s) = s := by
  apply bytes_ext
  rw [strOfNums_data]; unfold strL; rw [List.map_map]
  conv => rhs; rw [← List.map_id s.data.toList]
  apply List.map_congr_left
  intro x _
  simp
theorem strOfNums_sz (l : List Int) : (strOfNums l).size = l.length := strOfNums_size l

theorem digV_hexD (v : Int) (h0 : 0 ≤ v) (h1 : v ≤ 15) : digV (hexD v) = some v := by
  unfold digV hexD
  split
  · rw [if_pos (by omega)]; congr 1; omega
  · rw [if_neg (by omega), if_pos (by omega)]; congr 1; omega
theorem hexD_digV {c v : Int} (h : digV c = some v) : hexD v = c := by
  unfold digV at h; unfold hexD
  split at h
  · simp at h; subst h; rw [if_pos (by omega)]; omega
  · split at h
    · simp at h; subst h; rw [if_neg (by omega)]; omega
    · simp at h

theorem hexL_even (l : List Int) : ∀ i, i < l.length → (hexL l).getD (2 * i) 0 = hexD (l.getD i 0 / 16) ∧ (hexL l).getD (2 * i + 1) 0 = hexD (l.getD i 0 % 16) := by
  induction l with
  | nil => intro i hi; simp at hi
  | cons x r ih =>
    intro i hi
    have e : hexL (x :: r) = hexD (x / 16) :: hexD (x % 16) :: hexL r := by simp [hexL]
    rw [e]
    cases i with
    | zero => simp
    | succ i =>
      have := ih i (by simpa using hi)
      rw [show 2 * (i + 1) = 2 * i + 1 + 1 from by omega]
      simpa using this

theorem hex_okHex (l : List Int) (h : IsB l) : OkHex (hexL l) := by
  refine ⟨by rw [hexL_length]; omega, fun j hj => ?_⟩
  rw [hexL_length] at hj
  have hb := h.at (j / 2)
  have he := hexL_even l (j / 2) (by omega)
  rcases Nat.mod_two_eq_zero_or_one j with hm | hm
  · have : j = 2 * (j / 2) := by omega
    rw [this, he.1, digV_hexD _ (by omega) (by omega)]; rfl
  · have : j = 2 * (j / 2) + 1 := by omega
    rw [this, he.2, digV_hexD _ (by omega) (by omega)]; rfl

theorem unhex_hexL (l : List Int) (h : IsB l) : unhexL (hexL l) = l := by
  apply List.ext_getElem
  · simp [unhexL, hexL_length]
  · intro i h1 h2
    have hb := h.at i
    have he := hexL_even l i h2
    simp only [unhexL, List.getElem_map, List.getElem_range, hexV]
    rw [he.1, he.2, digV_hexD _ (by omega) (by omega), digV_hexD _ (by omega) (by omega)]
    rw [getD_lt _ _ h2] at hb ⊢
    simp; omega

theorem unhexL_length (L : List Int) : (unhexL L).length = L.length / 2 := by simp [unhexL]
theorem unhexL_isB (L : List Int) (h : OkHex L) : IsB (unhexL L) := by
  intro x hx
  simp only [unhexL, List.mem_map, List.mem_range] at hx
  obtain ⟨i, hi, rfl⟩ := hx
  obtain ⟨a, ha⟩ := Option.isSome_iff_exists.1 (h.2 (2 * i) (by omega))
  obtain ⟨b, hb⟩ := Option.isSome_iff_exists.1 (h.2 (2 * i + 1) (by omega))
  have b1 := digV_bd ha
  have b2 := digV_bd hb
  simp only [hexV, ha, hb, Option.getD_some]; omega

theorem hex_unhexL (L : List Int) (h : OkHex L) : hexL (unhexL L) = L := by
  apply List.ext_getElem
  · rw [hexL_length, unhexL_length]; have := h.1; omega
  · intro j h1 h2
    have hu := hexL_even (unhexL L) (j / 2) (by rw [unhexL_length]; rw [hexL_length, unhexL_length] at h1; omega)
    have hlen := h.1
    have hv : (unhexL L).getD (j / 2) 0 = hexV L (j / 2) := by
      rw [getD_lt _ _ (by rw [unhexL_length]; omega)]; simp [unhexL]
    obtain ⟨a, ha⟩ := Option.isSome_iff_exists.1 (h.2 (2 * (j / 2)) (by omega))
    obtain ⟨b, hb⟩ := Option.isSome_iff_exists.1 (h.2 (2 * (j / 2) + 1) (by omega))
    have b1 := digV_bd ha
    have b2 := digV_bd hb
    rw [hv] at hu
    simp only [hexV, ha, hb, Option.getD_some] at hu
    rw [← getD_lt _ _ h1, ← getD_lt _ _ h2]
    rcases Nat.mod_two_eq_zero_or_one j with hm | hm
    · have e : j = 2 * (j / 2) := by omega
      conv => lhs; rw [e]
      conv => rhs; rw [e]
      rw [hu.1, show (a * 16 + b) / 16 = a from by omega]; exact hexD_digV ha
    · have e : j = 2 * (j / 2) + 1 := by omega
      conv => lhs; rw [e]
      conv => rhs; rw [e]
      rw [hu.2, show (a * 16 + b) % 16 = b from by omega]; exact hexD_digV hb

theorem u8_xor_xor (x : Int) (h0 : 0 ≤ x) (h1 : x ≤ 255) : bits .xor .u8 (bits .xor .u8 x x) x = x := by
  rw [u8_xor x x h0 (by omega) h0 (by omega)]
  simp only [Nat.xor_self]
  rw [u8_xor _ x (by simp) (by simp) h0 (by omega)]
  simp; omega
theorem xorL_back (l : List Int) (h : IsB l) : xorL (xorL l l) l = l := by
  apply List.ext_getElem
  · simp
  · intro i h1 h2
    have hb := h.at i
    have e : (xorL l l).getD i 0 = bits .xor .u8 (l.getD i 0) (l.getD i 0) := by
      rw [getD_lt _ _ (by simpa using h2)]; simp [xorL]
    have e2 : (xorL (xorL l l) l)[i] = bits .xor .u8 ((xorL l l).getD i 0) (l.getD i 0) := by
      simp [xorL]
    rw [e2, e, u8_xor_xor _ hb.1 hb.2, getD_lt _ _ h2]
theorem bits_xor8_bd (x y : Int) : 0 ≤ bits .xor .u8 x y ∧ bits .xor .u8 x y ≤ 255 := by
  have : bits .xor .u8 x y = ((BitVec.ofInt 8 x ^^^ BitVec.ofInt 8 y).toNat : Int) := by
    show IntKind.u8.wrap ((BitVec.ofInt 8 x ^^^ BitVec.ofInt 8 y).toNat : Int) = _
    rw [IntKind.wrap_u8']; have := (BitVec.ofInt 8 x ^^^ BitVec.ofInt 8 y).isLt; omega
  rw [this]; have := (BitVec.ofInt 8 x ^^^ BitVec.ofInt 8 y).isLt; omega
theorem xorL_isB (a b : List Int) : IsB (xorL a b) := by
  intro x hx; simp only [xorL, List.mem_map] at hx; obtain ⟨i, _, rfl⟩ := hx; exact bits_xor8_bd _ _

theorem Sl.Ok.split {w : World} {s : Sl} (h : s.Ok w) (hp : 0 < s.n) : ∃ b off, s.a = some ⟨b, off, none⟩ := by
  obtain ⟨b, off, ha, _⟩ := h.lies (by rw [h.len]; exact hp)
  exact ⟨b, off, ha⟩
theorem loadbe64_at (s : Sl) (w : World) (hs : s.Ok w) (at_ : Nat) (x : Int) (hx : leV ((s.l.drop at_).take 8).reverse = x) (h : at_ + 8 ≤ s.n) :
    Calls Try.prog 28 #[s.v, .int .i64 at_] w fun e w' => e = .returned (.tuple #[.int .u64 x, .bool true]) ∧ w' = w := by
  obtain ⟨b, off, ha⟩ := hs.split (by omega)
  obtain ⟨a, n, c, l⟩ := s
  simp only at ha; subst ha
  have := loadbe64_ok b off n c at_ l w hs.len hs.isB hs.lies h hs.le hs.mx
  rw [hx] at this; exact this
theorem loadle32_at (s : Sl) (w : World) (hs : s.Ok w) (at_ : Nat) (x : Int) (hx : leV ((s.l.drop at_).take 4) = x) (h : at_ + 4 ≤ s.n) :
    Calls Try.prog 26 #[s.v, .int .i64 at_] w fun e w' => e = .returned (.tuple #[.int .u32 x, .bool true]) ∧ w' = w := by
  obtain ⟨b, off, ha⟩ := hs.split (by omega)
  obtain ⟨a, n, c, l⟩ := s
  simp only at ha; subst ha
  have := loadle32_ok b off n c at_ l w hs.len hs.isB hs.lies h hs.le hs.mx
  rw [hx] at this; exact this

theorem part_be (a b c : List Int) (x : Int) (h0 : 0 ≤ x) (h1 : x < 18446744073709551616) (n : Nat) (ha : a.length = n) :
    leV (((a ++ (leB 8 x).reverse ++ b ++ c).drop n).take 8).reverse = x := by
  have : ((a ++ (leB 8 x).reverse ++ b ++ c).drop n).take 8 = (leB 8 x).reverse := by
    subst ha; simp [List.append_assoc]
  rw [this, List.reverse_reverse, leV_leB]; omega
theorem part_le (a b c : List Int) (x : Int) (h0 : 0 ≤ x) (h1 : x < 4294967296) (n : Nat) (ha : a.length + b.length + c.length = n) :
    leV (((a ++ b ++ c ++ leB 4 x).drop n).take 4) = x := by
  have : ((a ++ b ++ c ++ leB 4 x).drop n).take 4 = leB 4 x := by
    subst ha
    rw [List.drop_append_of_le_length (by simp; omega), List.drop_of_length_le (by simp; omega)]
    simp [List.take_of_length_le]
  rw [this, leV_leB]; omega
end Go.Proofs.Ytipmgnigejpfjaa
