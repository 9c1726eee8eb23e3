import Derived.Test.YtoipofidogajkaaSusM
set_option linter.unusedVariables false
namespace Go.Proofs.Ytoipofidogajkaa
open Go.RowKit

theorem xor_mul (a b f : Nat) : (a ^^^ b) * 2 ^ f = a * 2 ^ f ^^^ b * 2 ^ f := by
  have h := Nat.shiftLeft_xor_distrib (a := a) (b := b) (i := f)
  simpa [Nat.shiftLeft_eq] using h
/-- one bit of a byte turned -/
theorem lvN_turn : ∀ (l : List Int) (j p : Nat), IsB l → j < l.length → p < 8 → lvN (l.set j (((l.getD j 0).toNat ^^^ 2 ^ p : Nat) : Int)) = lvN l ^^^ 2 ^ (8 * j + p)
  | [], j, p, _, h, _ => by simp at h
  | c :: l, 0, p, hB, _, hp => by
    have hc := hB.head
    have h2 : c.toNat ^^^ 2 ^ p < 2 ^ 8 := Nat.xor_lt_two_pow (by omega) (Nat.pow_lt_pow_right (by decide) hp)
    have hB2 : IsB ((((c.toNat ^^^ 2 ^ p : Nat)) : Int) :: l) := by
      intro x hx
      rcases List.mem_cons.1 hx with rfl | hx
      · omega
      · exact hB.tail x hx
    show lvN ((((c.toNat ^^^ 2 ^ p : Nat)) : Int) :: l) = _
    rw [lvN_cons hB2, lvN_cons hB, Int.toNat_natCast, Nat.mul_zero, Nat.zero_add, Nat.xor_assoc, Nat.xor_assoc, Nat.xor_comm (2 ^ p)]
  | c :: l, j + 1, p, hB, h, hp => by
    have ih := lvN_turn l j p hB.tail (by simpa using h) hp
    have hB2 : IsB (c :: l.set j (((l.getD j 0).toNat ^^^ 2 ^ p : Nat) : Int)) := by
      intro x hx
      rcases List.mem_cons.1 hx with rfl | hx
      · exact hB.head
      · rcases List.mem_or_eq_of_mem_set hx with h1 | h1
        · exact hB.tail x h1
        · have := hB.tail.at j
          have : (l.getD j 0).toNat ^^^ 2 ^ p < 2 ^ 8 := Nat.xor_lt_two_pow (by omega) (Nat.pow_lt_pow_right (by decide) hp)
          rw [h1]; omega
    show lvN (c :: l.set j (((l.getD j 0).toNat ^^^ 2 ^ p : Nat) : Int)) = _
    have e := xor_mul (lvN l) (2 ^ (8 * j + p)) 8
    rw [lvN_cons hB2, lvN_cons hB, ih, show (256 : Nat) = 2 ^ 8 from rfl, e, Nat.xor_assoc, ← Nat.pow_add, show 8 * j + p + 8 = 8 * (j + 1) + p by omega]
theorem turn_isB {l : List Int} (hB : IsB l) (j p : Nat) (hp : p < 8) : IsB (l.set j (((l.getD j 0).toNat ^^^ 2 ^ p : Nat) : Int)) := by
  intro x hx
  rcases List.mem_or_eq_of_mem_set hx with h1 | h1
  · exact hB x h1
  · have := hB.at j
    have : (l.getD j 0).toNat ^^^ 2 ^ p < 2 ^ 8 := Nat.xor_lt_two_pow (by omega) (Nat.pow_lt_pow_right (by decide) hp)
    rw [h1]; omega
theorem mod_next (x k : Nat) : x % 2 ^ (k + 1) = if x / 2 ^ k % 2 = 1 then x % 2 ^ k ^^^ 2 ^ k else x % 2 ^ k := by
  have e : x % 2 ^ (k + 1) = x % 2 ^ k + 2 ^ k * (x / 2 ^ k % 2) := by rw [Nat.pow_succ, Nat.mod_mul]
  have h2 : x / 2 ^ k % 2 = 0 ∨ x / 2 ^ k % 2 = 1 := by omega
  rcases h2 with h2 | h2
  · rw [if_neg (by omega), e, h2, Nat.mul_zero, Nat.add_zero]
  · have := add_xor k (x % 2 ^ k) 1 (Nat.mod_lt _ (Nat.two_pow_pos k))
    rw [if_pos h2, e, h2, this, Nat.mul_one]

theorem tmod_bit (x k : Nat) : (((x : Int) / 2 ^ k).tmod 2 == 1) = decide (x / 2 ^ k % 2 = 1) := by
  have e : (x : Int) / 2 ^ k = ((x / 2 ^ k : Nat) : Int) := by rw [Int.natCast_ediv]; simp
  rw [e]
  have h2 : (((x / 2 ^ k : Nat) : Int)).tmod 2 = ((x / 2 ^ k % 2 : Nat) : Int) := by rw [Int.tmod_eq_emod_of_nonneg (Int.natCast_nonneg _)]; rfl
  rw [h2]
  by_cases h : x / 2 ^ k % 2 = 1
  · rw [h]; rfl
  · rw [show x / 2 ^ k % 2 = 0 by omega]; rfl
theorem bit_code (y : Int) (p : Nat) (hy : 0 ≤ y ∧ y ≤ 255) (hp : p < 8) : bits .xor .u8 y (2 ^ p % 256) = ((y.toNat ^^^ 2 ^ p : Nat) : Int) := by
  have h1 : (2 : Nat) ^ p < 2 ^ 8 := Nat.pow_lt_pow_right (by decide) hp
  have e : (2 : Int) ^ p = ((2 ^ p : Nat) : Int) := by simp
  rw [e]
  generalize (2 : Nat) ^ p = m at h1 ⊢
  have h2 : (m : Int) % 256 = (m : Int) := by omega
  rw [h2, u8_xor y _ (by omega) (by omega) (by omega) (by omega), Int.toNat_natCast]
set_option maxHeartbeats 2000000 in
set_option maxRecDepth 100000 in
theorem turned_any (d : Sl) (f x : Nat) (w : World) (hd : d.Ok w) (hn : d.n ≤ 1099511627776) (h0 : 0 < d.n) (hx : x < 4294967296) (hf : f < 8 * d.n) (hr : ∀ k, k < 32 → x / 2 ^ k % 2 = 1 → f + k < 8 * d.n) :
    Calls Try.prog 13 #[d.v, .int .i64 f, .int .u32 x] w fun e w' => ∃ g c q, e = .returned (.slice (some ⟨g, 0, none⟩) d.n c) ∧ w'.ownsRow w.heap.size 5 1 (.slice (some ⟨g, 0, none⟩) d.n c) d.n (U8 q) ∧
      IsB q ∧ q.length = d.n ∧ lvN q = lvN d.l ^^^ x * 2 ^ f ∧ Below w.heap.size w w' := by
  obtain ⟨a, n, c, l⟩ := d
  have hl : l.length = n := hd.len
  have hn' : n ≤ 1099511627776 := hn
  have h0' : 0 < n := h0
  have hf' : f < 8 * n := hf
  simp only at hr
  have HD := hide hd
  have HL := hide hl
  have HR := hide hr
  clear hd hl hn hr h0 hf
  simp only [Sl.v]
  go_enter Try.func13, Try.ntmps13
  go_wp2_with (at_builtin; refine wpList_append_made rfl _ _ rfl rfl ⟨_, _, _, _⟩ (unhide HD) rfl (by simp only; omega) ?_)
  intro v1 w1 o1 b1
  obtain ⟨g, gc, rfl, -, -⟩ := (unhide o1).form h0'
  have O1 := unhide o1
  have B1 := unhide b1
  clear o1 b1
  go_wp2_with fail
  go_loopw [8] (fun i wr => ∃ k q, k ≤ 32 ∧ i = .int .i64 (k : Nat) ∧ wr.ownsRow w.heap.size 5 1 (.slice (some ⟨g, 0, none⟩) n gc) n (U8 q) ∧ Hid (IsB q ∧ q.length = n ∧ lvN q = lvN l ^^^ (x % 2 ^ k) * 2 ^ f) ∧ Below w.heap.size w wr) (fun i _ => 32 - (intOf i).toNat)
  case atStart => exact ⟨0, l, by omega, rfl, O1, hide ⟨(unhide HD).isB, unhide HL, by simp [Nat.mod_one]⟩, B1⟩
  case round =>
    clear O1 B1
    obtain ⟨k, q, hk, rfl, hown, HQ, hbl⟩ := hrel
    by_cases hlt : k < 32
    · by_cases hb : x / 2 ^ k % 2 = 1
      · have hrk := unhide HR k hlt hb
        have hjn : (f + k) / 8 < n * 1 := by omega
        have hfz := hown.frozenAt ((f + k) / 8)
        have hcl := (hown.cellAt ((f + k) / 8) hjn).trans (U8_at _ ((f + k) / 8) (by rw [(unhide HQ).2.1]; omega))
        have ht : (((x : Int) / 2 ^ k).tmod 2 == 1) = true := by rw [tmod_bit]; exact decide_eq_true hb
        generalize hy : q.getD ((f + k) / 8) 0 = y at hcl
        have hyb : 0 ≤ y ∧ y ≤ 255 := by rw [← hy]; exact (unhide HQ).1.at _
        have HY := hide hy
        have HB := hide hb
        clear hy hb
        go_wp2_with fail
        go_roundw
        case rel =>
          have hst := (hown.stored ((f + k) / 8) (.int .u8 (bits .xor .u8 y (2 ^ ((f + k) % 8) % 256)))).1
          have hp8 : (f + k) % 8 < 8 := Nat.mod_lt _ (by decide)
          rw [U8_set, bit_code y _ hyb hp8, ← unhide HY] at hst
          rw [bit_code y _ hyb hp8, ← unhide HY]
          refine ⟨k + 1, _, by omega, by go_num, hst, hide ⟨turn_isB (unhide HQ).1 _ _ hp8, by rw [List.length_set]; exact (unhide HQ).2.1, ?_⟩, hbl.setCell (p := ⟨g, (f + k) / 8, none⟩) ((hown.lt g rfl).1) _⟩
          rw [lvN_turn q _ _ (unhide HQ).1 (by rw [(unhide HQ).2.1]; omega) hp8, (unhide HQ).2.2, mod_next, if_pos (unhide HB), xor_mul, ← Nat.pow_add, Nat.xor_assoc, show 8 * ((f + k) / 8) + (f + k) % 8 = k + f by omega]
        case measure => simp [intOf]; omega
      · have ht : (((x : Int) / 2 ^ k).tmod 2 == 1) = false := by rw [tmod_bit]; exact decide_eq_false hb
        have HB := hide hb
        clear hb
        go_wp2_with fail
        go_roundw
        case rel => exact ⟨k + 1, q, by omega, by go_num, hown, hide ⟨(unhide HQ).1, (unhide HQ).2.1, by rw [mod_next, if_neg (unhide HB)]; exact (unhide HQ).2.2⟩, hbl⟩
        case measure => simp [intOf]; omega
    · have hk32 : k = 32 := by omega
      subst hk32
      go_wp2_with fail
      go_ret
      have e := (unhide HQ).2.2
      rw [Nat.mod_eq_of_lt (by omega)] at e
      exact ⟨g, gc, q, rfl, hown, (unhide HQ).1, (unhide HQ).2.1, e, hbl⟩
end Go.Proofs.Ytoipofidogajkaa
