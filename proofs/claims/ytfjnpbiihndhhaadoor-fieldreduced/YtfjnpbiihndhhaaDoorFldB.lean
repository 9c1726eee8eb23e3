import Derived.Test.YtfjnpbiihndhhaaDoorFldA
namespace Go.Proofs.YtfjnpbiihndhhaaDoor
open Go.RowKit

/-! A sum of products, and what it comes to. -/
theorem or_low (k : Nat) (x y : Int) (h : 0 ≤ x ∧ x * ((2 ^ k : Nat) : Int) < 18446744073709551616) (h' : 0 ≤ y ∧ y < ((2 ^ k : Nat) : Int)) (hk : 2 ^ k ≤ 2 ^ 64) : bits .or .u64 (x * ((2 ^ k : Nat) : Int)) y = x * ((2 ^ k : Nat) : Int) + y := by
  obtain ⟨X, rfl⟩ := Int.eq_ofNat_of_zero_le h.1
  obtain ⟨Y, rfl⟩ := Int.eq_ofNat_of_zero_le h'.1
  have hX : X * 2 ^ k < 2 ^ 64 := by have := h.2; omega
  have hY : Y < 2 ^ k := by have := h'.2; omega
  have e : bits .or .u64 ((X : Int) * ((2 ^ k : Nat) : Int)) (Y : Int) = ((BitVec.ofInt 64 ((X : Int) * ((2 ^ k : Nat) : Int)) ||| BitVec.ofInt 64 (Y : Int)).toNat : Int) := wrap64_id _
  rw [e, BitVec.toNat_or, ← Int.natCast_mul, BitVec.ofInt_natCast, BitVec.ofInt_natCast, BitVec.toNat_ofNat, BitVec.toNat_ofNat, Nat.mod_eq_of_lt hX, Nat.mod_eq_of_lt (by omega), Nat.mul_comm X, ← Nat.two_pow_add_eq_or_of_lt hY]
  simp
theorem or13 (x y : Int) (h : 0 ≤ x ∧ x * 8192 < 18446744073709551616) (h' : 0 ≤ y ∧ y < 8192) : bits .or .u64 (x * 8192) y = x * 8192 + y := or_low 13 x y h h' (by decide)
theorem red_o (x o r : Int) (hx : 0 ≤ x ∧ x < 2251799813840896) (ho : 0 ≤ o ∧ o ≤ 19) (h : r = IntKind.u64.wrap (x + o) / 2251799813685248) : r = (x + o) / 2251799813685248 ∧ 0 ≤ r ∧ r ≤ 19 := by
  rw [IntKind.wrap_u64] at h; omega
theorem red_m (x m r : Int) (hx : 0 ≤ x ∧ x < 2251799813840896) (hm : Wd m) (h : r = IntKind.u64.wrap (x + m / 2251799813685248)) : r = x + m / 2251799813685248 ∧ Wd r := by
  unfold Wd at *; rw [IntKind.wrap_u64] at h; omega
/-- what reduced makes, in the program's words -/
theorem red_code (a b c d e o0 o1 o2 o3 o4 m0 m1 m2 m3 m4 : Int)
    (ha : 0 ≤ a ∧ a < 2251799813840896) (hb : 0 ≤ b ∧ b < 2251799813693440) (hc : 0 ≤ c ∧ c < 2251799813693440) (hd : 0 ≤ d ∧ d < 2251799813693440) (he : 0 ≤ e ∧ e < 2251799813693440)
    (h0 : o0 = IntKind.u64.wrap (a + 19) / 2251799813685248) (h1 : o1 = IntKind.u64.wrap (b + o0) / 2251799813685248) (h2 : o2 = IntKind.u64.wrap (c + o1) / 2251799813685248) (h3 : o3 = IntKind.u64.wrap (d + o2) / 2251799813685248) (h4 : o4 = IntKind.u64.wrap (e + o3) / 2251799813685248)
    (g0 : m0 = IntKind.u64.wrap (a + IntKind.u64.wrap (19 * o4))) (g1 : m1 = IntKind.u64.wrap (b + m0 / 2251799813685248)) (g2 : m2 = IntKind.u64.wrap (c + m1 / 2251799813685248)) (g3 : m3 = IntKind.u64.wrap (d + m2 / 2251799813685248)) (g4 : m4 = IntKind.u64.wrap (e + m3 / 2251799813685248)) :
    U64 [bits .and .u64 m0 2251799813685247, bits .and .u64 m1 2251799813685247, bits .and .u64 m2 2251799813685247, bits .and .u64 m3 2251799813685247, bits .and .u64 m4 2251799813685247] = U64 (El (val5 a b c d e)) := by
  obtain ⟨r0, p0⟩ := red_o a 19 o0 ⟨ha.1, by omega⟩ ⟨by omega, by omega⟩ h0
  obtain ⟨r1, p1⟩ := red_o b o0 o1 ⟨hb.1, by omega⟩ p0 h1
  obtain ⟨r2, p2⟩ := red_o c o1 o2 ⟨hc.1, by omega⟩ p1 h2
  obtain ⟨r3, p3⟩ := red_o d o2 o3 ⟨hd.1, by omega⟩ p2 h3
  obtain ⟨r4, p4⟩ := red_o e o3 o4 ⟨he.1, by omega⟩ p3 h4
  have q0 : m0 = a + 19 * o4 := by clear h0 h1 h2 h3 h4 r0 r1 r2 r3 r4 g1 g2 g3 g4; rw [IntKind.wrap_u64, IntKind.wrap_u64] at g0; omega
  have z0 : Wd m0 := by unfold Wd; clear h0 h1 h2 h3 h4 r0 r1 r2 r3 r4 g0 g1 g2 g3 g4; omega
  obtain ⟨q1, z1⟩ := red_m b m0 m1 ⟨hb.1, by omega⟩ z0 g1
  obtain ⟨q2, z2⟩ := red_m c m1 m2 ⟨hc.1, by omega⟩ z1 g2
  obtain ⟨q3, z3⟩ := red_m d m2 m3 ⟨hd.1, by omega⟩ z2 g3
  obtain ⟨q4, z4⟩ := red_m e m3 m4 ⟨he.1, by omega⟩ z3 g4
  rw [and51 _ z0, and51 _ z1, and51 _ z2, and51 _ z3, and51 _ z4]
  rw [red_core a b c d e o0 o1 o2 o3 o4 m0 m1 m2 m3 m4 ha hb hc hd he r0 r1 r2 r3 r4 q0 q1 q2 q3 q4]
def Su (s : Int) : Value := .agg #[.int .u64 (s / 18446744073709551616), .int .u64 (s % 18446744073709551616)]

set_option maxHeartbeats 400000 in
set_option maxRecDepth 100000 in
theorem with_any (s a b : Int) (w : World) (ha : Wd a) (hb : Wd b) (hs0 : 0 ≤ s) (hs : s + a * b < 340282366920938463463374607431768211456) :
    Calls Tryd.prog 30 #[Su s, .int .u64 a, .int .u64 b] w fun e w' => e = .returned (Su (s + a * b)) ∧ Below w.heap.size w w' := by
  unfold Su
  have hp : 0 ≤ a * b := Int.mul_nonneg ha.1 hb.1
  have q1 : 0 ≤ s / 18446744073709551616 := by omega
  have q2 : 0 ≤ s % 18446744073709551616 := by omega
  have q3 : 0 ≤ a * b / 18446744073709551616 := by omega
  have q4 : 0 ≤ a * b % 18446744073709551616 := by omega
  have k0 : 0 ≤ (s % 18446744073709551616 + a * b % 18446744073709551616) / 18446744073709551616 := by omega
  have k1 : (s % 18446744073709551616 + a * b % 18446744073709551616) / 18446744073709551616 ≤ 1 := by omega
  have HA := hide ha
  have HB := hide hb
  have H0 := hide hs0
  have HS := hide hs
  have HP := hide hp
  clear ha hb hs0 hs hp
  go_enter Tryd.func30, Tryd.ntmps30
  go_wp2_with (first
    | (go_at_call 34; refine (mul64_any a b _ (unhide HA) (unhide HB)).mono ?_; rintro e w' ⟨rfl, rfl⟩)
    | simp only [add64_0 _ _ q2 q4]
    | simp only [add64 _ _ _ q1 q3 k0 k1])
  have e : (s / 18446744073709551616 + a * b / 18446744073709551616 + (s % 18446744073709551616 + a * b % 18446744073709551616) / 18446744073709551616) % 18446744073709551616 = (s + a * b) / 18446744073709551616 := by
    have h1 := unhide H0
    have h2 := unhide HS
    have h3 := unhide HP
    omega
  rw [e]
  simp [bodyPost, results, Tryd.results30, go_sem]
  have hs1 : (w.alloc (Obj.cells #[Value.int IntKind.u64 (s / 18446744073709551616), Value.int IntKind.u64 (s % 18446744073709551616)] 50)).heap.size = w.heap.size + 1 := by simp
  exact ((Below.refl _ _).alloc (Nat.le_refl _) _).alloc (by rw [hs1]; omega) _

theorem results_tmp5 {fn : Func} {t u v x y : Tmp} (h : fn.results = #[.tmp t, .tmp u, .tmp v, .tmp x, .tmp y]) (tmps : Array Value) (P : Program) (w : World) :
    (results fn tmps).run P w = .ok (.tuple #[tmps.getD t undef, tmps.getD u undef, tmps.getD v undef, tmps.getD x undef, tmps.getD y undef]) w := by
  simp [results, h]
theorem ret_five {a b c d e a' b' c' d' e' : Value} (h1 : a = a') (h2 : b = b') (h3 : c = c') (h4 : d = d') (h5 : e = e') : Ending.returned (.tuple #[a, b, c, d, e]) = .returned (.tuple #[a', b', c', d', e']) := by rw [h1, h2, h3, h4, h5]
set_option maxHeartbeats 400000 in
set_option maxRecDepth 100000 in
theorem carry_any (a b c d e : Int) (w : World) (ha : Wd a) (hb : Wd b) (hc : Wd c) (hd : Wd d) (he : Wd e) :
    Calls Tryd.prog 29 #[.int .u64 a, .int .u64 b, .int .u64 c, .int .u64 d, .int .u64 e] w fun r w' => r = .returned (.tuple #[.int .u64 (ca0 a e), .int .u64 (ca a b), .int .u64 (ca b c), .int .u64 (ca c d), .int .u64 (ca d e)]) ∧ w' = w := by
  have HA := hide ha
  have HB := hide hb
  have HC := hide hc
  have HD := hide hd
  have HE := hide he
  clear ha hb hc hd he
  go_enter Tryd.func29, Tryd.ntmps29
  go_wp2_with fail
  refine bodyPost_ret (results_tmp5 rfl _ _ _) rfl ⟨?_, rfl⟩
  have h1 := unhide HA
  have h2 := unhide HB
  have h3 := unhide HC
  have h4 := unhide HD
  have h5 := unhide HE
  simp only [Array.getD_eq_getD_getElem?, List.getElem?_toArray, List.getElem?_cons_succ, List.getElem?_cons_zero, Option.getD_some, IntKind.wrap_u64, and51 _ h1, and51 _ h2, and51 _ h3, and51 _ h4, and51 _ h5]
  unfold Wd at *
  refine ret_five (int_eq ?_) (int_eq ?_) (int_eq ?_) (int_eq ?_) (int_eq ?_)
  all_goals (first | unfold ca0 | unfold ca); omega
set_option maxHeartbeats 400000 in
set_option maxRecDepth 100000 in
theorem limb_raw (h l : Int) (w : World) :
    Calls Tryd.prog 31 #[.agg #[.int .u64 h, .int .u64 l]] w fun e w' => e = .returned (.int .u64 (bits .and .u64 l 2251799813685247)) ∧ ∃ o, w' = w.alloc o := by
  go_enter Tryd.func31, Tryd.ntmps31
  go_wp2_with fail
  go_ret
  exact ⟨rfl, _, rfl⟩
set_option maxHeartbeats 400000 in
set_option maxRecDepth 100000 in
theorem over_raw (h l : Int) (w : World) :
    Calls Tryd.prog 32 #[.agg #[.int .u64 h, .int .u64 l]] w fun e w' => e = .returned (.int .u64 (bits .or .u64 (IntKind.u64.wrap (h * 8192)) (l / 2251799813685248))) ∧ ∃ o, w' = w.alloc o := by
  go_enter Tryd.func32, Tryd.ntmps32
  go_wp2_with fail
  go_ret
  exact ⟨rfl, _, rfl⟩
theorem limbE (s : Int) : bits .and .u64 (s % 18446744073709551616) 2251799813685247 = s % 2251799813685248 := by
  rw [and51 _ ⟨by omega, by omega⟩]
  omega
theorem overE (s : Int) (h : Sm s) : bits .or .u64 (IntKind.u64.wrap (s / 18446744073709551616 * 8192)) (s % 18446744073709551616 / 2251799813685248) = s / 2251799813685248 := by
  unfold Sm at h
  rw [IntKind.wrap_u64, show s / 18446744073709551616 * 8192 % 18446744073709551616 = s / 18446744073709551616 * 8192 by omega, or13 _ _ ⟨by omega, by omega⟩ ⟨by omega, by omega⟩]
  omega
set_option maxHeartbeats 400000 in
set_option maxRecDepth 100000 in
theorem carry_raw (a b c d e : Int) (w : World) :
    Calls Tryd.prog 29 #[.int .u64 a, .int .u64 b, .int .u64 c, .int .u64 d, .int .u64 e] w fun r w' => r = .returned (.tuple #[.int .u64 (IntKind.u64.wrap (bits .and .u64 a 2251799813685247 + IntKind.u64.wrap (19 * (e / 2251799813685248)))), .int .u64 (IntKind.u64.wrap (bits .and .u64 b 2251799813685247 + a / 2251799813685248)), .int .u64 (IntKind.u64.wrap (bits .and .u64 c 2251799813685247 + b / 2251799813685248)), .int .u64 (IntKind.u64.wrap (bits .and .u64 d 2251799813685247 + c / 2251799813685248)), .int .u64 (IntKind.u64.wrap (bits .and .u64 e 2251799813685247 + d / 2251799813685248))]) ∧ w' = w := by
  go_enter Tryd.func29, Tryd.ntmps29
  go_wp2_with fail
  exact bodyPost_ret (results_tmp5 rfl _ _ _) rfl ⟨rfl, rfl⟩
theorem caE (a b : Int) (ha : Wd a) (hb : Wd b) : IntKind.u64.wrap (bits .and .u64 b 2251799813685247 + a / 2251799813685248) = ca a b := by
  rw [and51 _ hb, IntKind.wrap_u64]; unfold Wd at *; unfold ca; omega
theorem ca0E (a e : Int) (ha : Wd a) (he : Wd e) : IntKind.u64.wrap (bits .and .u64 a 2251799813685247 + IntKind.u64.wrap (19 * (e / 2251799813685248))) = ca0 a e := by
  rw [and51 _ ha, IntKind.wrap_u64, IntKind.wrap_u64]; unfold Wd at *; unfold ca0; omega
set_option maxHeartbeats 400000 in
set_option maxRecDepth 100000 in
theorem carried_any (a b c d e : Int) (w : World) (ha : Wd a) (hb : Wd b) (hc : Wd c) (hd : Wd d) (he : Wd e) :
    Calls Tryd.prog 22 #[.agg (U64 [a, b, c, d, e]).toArray] w fun r w' => r = .returned (.tuple #[.int .u64 (ca0 a e), .int .u64 (ca a b), .int .u64 (ca b c), .int .u64 (ca c d), .int .u64 (ca d e)]) ∧ Below w.heap.size w w' := by
  have HA := hide ha
  have HB := hide hb
  have HC := hide hc
  have HD := hide hd
  have HE := hide he
  clear ha hb hc hd he
  simp only [U64, List.map_cons, List.map_nil]
  go_enter Tryd.func22, Tryd.ntmps22
  go_wp2_with (go_at_call 29; refine (carry_any a b c d e _ (unhide HA) (unhide HB) (unhide HC) (unhide HD) (unhide HE)).mono ?_; rintro r w' ⟨rfl, rfl⟩)
  exact bodyPost_ret (results_tmp5 rfl _ _ _) rfl ⟨rfl, (Below.refl _ _).alloc (Nat.le_refl _) _⟩
set_option maxHeartbeats 400000 in
set_option maxRecDepth 100000 in
theorem reduced_any (a b c d e : Int) (w : World) (ha : Wd a) (hb : Wd b) (hc : Wd c) (hd : Wd d) (he : Wd e) :
    Calls Tryd.prog 23 #[.int .u64 a, .int .u64 b, .int .u64 c, .int .u64 d, .int .u64 e] w fun r w' => r = .returned (.agg (U64 (El (val5 a b c d e))).toArray) ∧ Below w.heap.size w w' := by
  have HA := hide ha
  have HB := hide hb
  have HC := hide hc
  have HD := hide hd
  have HE := hide he
  clear ha hb hc hd he
  go_enter Tryd.func23, Tryd.ntmps23
  go_wp2_with (go_at_call 29; refine (carry_any a b c d e _ (unhide HA) (unhide HB) (unhide HC) (unhide HD) (unhide HE)).mono ?_; rintro r w' ⟨rfl, rfl⟩)
  simp [bodyPost, results, Tryd.results23, go_sem]
  have h1 := unhide HA
  have h5 := unhide HE
  refine ⟨?_, (Below.refl _ _).alloc (Nat.le_refl _) _⟩
  have := red_code (ca0 a e) (ca a b) (ca b c) (ca c d) (ca d e) _ _ _ _ _ _ _ _ _ _ (ca0_bd h5) (ca_bd (unhide HA)) (ca_bd (unhide HB)) (ca_bd (unhide HC)) (ca_bd (unhide HD)) rfl rfl rfl rfl rfl rfl rfl rfl rfl rfl
  rw [show El (val5 a b c d e) = El (val5 (ca0 a e) (ca a b) (ca b c) (ca c d) (ca d e)) from El_congr (carry_cg a b c d e).symm]
  rw [← this]
  rfl
end Go.Proofs.YtfjnpbiihndhhaaDoor
