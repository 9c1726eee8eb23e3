import Derived.Test.YtmaammjfbheciaaDoorNxW
set_option linter.unusedVariables false
namespace Go.Proofs.YtmaammjfbheciaaDoor
open Go.RowKit Go.Maps

set_option maxHeartbeats 1000000 in
set_option maxRecDepth 100000 in
theorem pebbles_any (p b n s : Nat) (sd : List Int) (ds : List Nat) (w : World) (h : Wst w p b n sd s ds) :
    Calls Tryd.prog 31 #[.pointer (some ⟨p, 0, none⟩)] w fun e w' => e = .returned (.int .i64 ds.length) ∧ w' = w := by
  have c3 := h.P.cell 3
  simp [wkC] at c3
  have hl := fun ty => h.M.len ty
  rw [keysOf_length] at hl
  clear h
  go_enter Tryd.func31, Tryd.ntmps31
  go_wp2
  go_ret
  exact ⟨rfl, rfl⟩
set_option maxHeartbeats 1000000 in
set_option maxRecDepth 100000 in
theorem steps_any (p b n s : Nat) (sd : List Int) (ds : List Nat) (w : World) (h : Wst w p b n sd s ds) :
    Calls Tryd.prog 20 #[.pointer (some ⟨p, 0, none⟩)] w fun e w' => e = .returned (.int .i64 s) ∧ w' = w := by
  have c2 := h.P.cell 2
  simp [wkC] at c2
  clear h
  go_enter Tryd.func20, Tryd.ntmps20
  go_wp2
  go_ret
  exact ⟨rfl, rfl⟩
set_option maxHeartbeats 1000000 in
set_option maxRecDepth 100000 in
theorem lg_any (n : Nat) (w : World) (hn : n ≤ 4096) : Calls Tryd.prog 32 #[.int .i64 n] w fun e w' => e = .returned (.int .i64 (lgN n)) ∧ w' = w := by
  have h12 : lgN n ≤ 12 := (lgN_le_iff 12 n).2 (by omega)
  go_enter Tryd.func32, Tryd.ntmps32
  go_wp2
  go_loopw [3, 4] (fun kv pv wr => ∃ k q : Nat, kv = .int .i64 k ∧ pv = .int .i64 q ∧ q = 2 ^ k ∧ k ≤ lgN n ∧ wr = w) (fun kv _ _ => lgN n - (intOf kv).toNat)
  case atStart => exact ⟨0, 1, rfl, rfl, rfl, Nat.zero_le _, rfl⟩
  case round =>
    obtain ⟨k, q, rfl, rfl, hq, hk, rfl⟩ := hrel
    by_cases hlt : q < n
    · have hlz : (q : Int) < (n : Int) := by omega
      have hk1 : k < lgN n := lgN_lt (by rw [← hq]; exact hlt)
      have w1 : IntKind.i64.wrap ((k : Int) + 1) = ((k + 1 : Nat) : Int) := by rw [IntKind.wrap_i64]; omega
      have w2 : IntKind.i64.wrap (2 * (q : Int)) = ((2 * q : Nat) : Int) := by clear w1; rw [IntKind.wrap_i64]; omega
      obtain ⟨k1, hk1e⟩ : ∃ k1, k1 = k + 1 := ⟨_, rfl⟩
      obtain ⟨q1, hq1e⟩ : ∃ q1, q1 = 2 * q := ⟨_, rfl⟩
      rw [← hk1e] at w1
      rw [← hq1e] at w2
      have H1 : Hid (k1 = k + 1 ∧ q1 = 2 ^ k1 ∧ k1 ≤ lgN n ∧ k < lgN n) := hide ⟨hk1e, by rw [hq1e, hk1e, hq, Nat.pow_succ]; omega, by omega, hk1⟩
      clear hk1e hq1e hk1 hq hk
      go_wp2
      go_roundw
      case rel => exact ⟨k1, q1, rfl, rfl, (unhide H1).2.1, (unhide H1).2.2.1, trivial⟩
      case measure => have h1 := unhide H1; simp [intOf]; omega
    · have hlz : decide ((q : Int) < (n : Int)) = false := decide_eq_false (by omega)
      have HK := hide (lgN_is (n := n) (k := k) (by rw [← hq]; omega) hk)
      clear hq hk
      go_wp2
      go_ret
      exact ⟨by rw [← unhide HK]; rfl, rfl⟩

set_option maxHeartbeats 4000000 in
set_option maxRecDepth 100000 in
theorem thrifty_any (p b n s : Nat) (sd : List Int) (ds : List Nat) (calls steps : Nat) (w : World) (h : Wst w p b n sd s ds) (hn1 : 1 ≤ n) (hn : n ≤ 4096) (hc : calls < n → ds ≠ []) (hst : steps ≤ s) (hg : 1 ≤ calls → n ≤ s + 1) :
    Calls Tryd.prog 19 #[.pointer (some ⟨p, 0, none⟩), .int .i64 n, .int .i64 calls, .int .i64 steps] w fun e w' => e = .returned (.bool true) ∧ w' = w := by
  have hPe := pebbles_any p b n s sd ds w h
  have hSt := steps_any p b n s sd ds w h
  have hLg := lg_any n w hn
  have hL12 : lgN n ≤ 12 := (lgN_le_iff 12 n).2 (by omega)
  have hfc := fits_count h.F
  have hC := h.C
  have hs3 := h.small hn
  have hd0 : calls < n → 1 ≤ ds.length := fun hh => by
    have := hc hh
    cases ds with
    | nil => exact absurd rfl this
    | cons a r => simp
  obtain ⟨P, hP⟩ : ∃ P, P = ds.length := ⟨_, rfl⟩
  obtain ⟨L, hL⟩ : ∃ L, L = lgN n := ⟨_, rfl⟩
  obtain ⟨NL, hNL⟩ : ∃ NL, NL = n * lgN n := ⟨_, rfl⟩
  obtain ⟨L1, hL1⟩ : ∃ L1, L1 = L + 1 := ⟨_, rfl⟩
  obtain ⟨S2, hS2⟩ : ∃ S2, S2 = 2 * s := ⟨_, rfl⟩
  obtain ⟨n1, hn1e⟩ : ∃ n1, n1 = n - 1 := ⟨_, rfl⟩
  have hNL2 : NL ≤ 100000 := by rw [hNL]; have : n * lgN n ≤ 4096 * 12 := Nat.mul_le_mul hn hL12; omega
  have hNLz : (n : Int) * (L : Int) = (NL : Int) := by rw [hNL, hL]; exact (Int.natCast_mul n (lgN n)).symm
  rw [← hP] at hPe hfc hd0
  rw [← hL] at hLg hL12 hfc
  rw [← hNL] at hC
  have e1 : decide ((P : Int) < 0) = false := decide_eq_false (by omega)
  have e2 : decide ((L1 : Int) < (P : Int)) = false := decide_eq_false (by omega)
  have e3 : decide ((steps : Int) ≤ (s : Int)) = true := decide_eq_true (by omega)
  have e4 : decide ((S2 : Int) ≤ (NL : Int)) = true := decide_eq_true (by omega)
  have w1 : IntKind.i64.wrap ((L : Int) + 1) = (L1 : Int) := by rw [IntKind.wrap_i64]; omega
  have w2 : IntKind.i64.wrap (2 * (s : Int)) = (S2 : Int) := by clear w1; rw [IntKind.wrap_i64]; omega
  have w3 : IntKind.i64.wrap ((n : Int) * (L : Int)) = (NL : Int) := by clear w1 w2; rw [hNLz, IntKind.wrap_i64]; omega
  have w4 : IntKind.i64.wrap ((n : Int) - 1) = (n1 : Int) := by clear w1 w2 w3 hNLz; rw [IntKind.wrap_i64]; omega
  have W : Hid (IntKind.i64.wrap ((L : Int) + 1) = (L1 : Int) ∧ IntKind.i64.wrap (2 * (s : Int)) = (S2 : Int) ∧ IntKind.i64.wrap ((n : Int) * (L : Int)) = (NL : Int) ∧ IntKind.i64.wrap ((n : Int) - 1) = (n1 : Int)) := hide ⟨w1, w2, w3, w4⟩
  clear w1 w2 w3 w4 hNLz h hfc hC hs3 hP hL hNL hL1 hS2 hL12 hNL2 hc hst
  by_cases h0 : calls = 0
  · subst h0
    have d0 : ((((0 : Nat) : Int)) == 0) = true := by simp
    have d1 : decide (((0 : Nat) : Int) < (n : Int)) = true := decide_eq_true (by omega)
    have d2 : decide ((P : Int) < 1) = false := decide_eq_false (by have := hd0 (by omega); omega)
    clear hd0 hg hn1e hn1 hn
    obtain ⟨w1, w2, w3, w4⟩ := unhide W
    clear W
    generalize ((0 : Nat) : Int) = cz at d0 d1 ⊢
    generalize (n : Int) = nz at hPe hSt hLg e1 e2 e3 e4 w1 w2 w3 w4 d0 d1 d2 ⊢
    generalize (s : Int) = sz at hPe hSt hLg e1 e2 e3 e4 w1 w2 w3 w4 d0 d1 d2 ⊢
    generalize (P : Int) = Pz at hPe hSt hLg e1 e2 e3 e4 w1 w2 w3 w4 d0 d1 d2 ⊢
    generalize (L : Int) = Lz at hPe hSt hLg e1 e2 e3 e4 w1 w2 w3 w4 d0 d1 d2 ⊢
    generalize (L1 : Int) = L1z at hPe hSt hLg e1 e2 e3 e4 w1 w2 w3 w4 d0 d1 d2 ⊢
    generalize (S2 : Int) = S2z at hPe hSt hLg e1 e2 e3 e4 w1 w2 w3 w4 d0 d1 d2 ⊢
    generalize (NL : Int) = NLz at hPe hSt hLg e1 e2 e3 e4 w1 w2 w3 w4 d0 d1 d2 ⊢
    generalize (n1 : Int) = n1z at hPe hSt hLg e1 e2 e3 e4 w1 w2 w3 w4 d0 d1 d2 ⊢
    generalize (steps : Int) = stz at hPe hSt hLg e1 e2 e3 e4 w1 w2 w3 w4 d0 d1 d2 ⊢
    go_enter Tryd.func19, Tryd.ntmps19
    go_wp2_with (first
      | (go_at_call 31; refine hPe.mono ?_; rintro e w1 ⟨rfl, h1⟩; obtain rfl := h1.symm)
      | (go_at_call 20; refine hSt.mono ?_; rintro e w1 ⟨rfl, h1⟩; obtain rfl := h1.symm)
      | (go_at_call 32; refine hLg.mono ?_; rintro e w1 ⟨rfl, h1⟩; obtain rfl := h1.symm))
    go_ret
    exact ⟨rfl, rfl⟩
  · have d0 : ((calls : Int) == 0) = false := by rw [beq_eq_false_iff_ne]; omega
    have d3 : decide ((n1 : Int) ≤ (s : Int)) = true := decide_eq_true (by have := hg (by omega); omega)
    by_cases h1 : calls < n
    · have d1 : decide ((calls : Int) < (n : Int)) = true := decide_eq_true (by omega)
      have d2 : decide ((P : Int) < 1) = false := decide_eq_false (by have := hd0 (by omega); omega)
      clear hd0 hg hn1e hn1 hn h1 h0
      obtain ⟨w1, w2, w3, w4⟩ := unhide W
      clear W
      generalize (n : Int) = nz at hPe hSt hLg e1 e2 e3 e4 w1 w2 w3 w4 d0 d1 d2 d3 ⊢
      generalize (s : Int) = sz at hPe hSt hLg e1 e2 e3 e4 w1 w2 w3 w4 d0 d1 d2 d3 ⊢
      generalize (P : Int) = Pz at hPe hSt hLg e1 e2 e3 e4 w1 w2 w3 w4 d0 d1 d2 d3 ⊢
      generalize (L : Int) = Lz at hPe hSt hLg e1 e2 e3 e4 w1 w2 w3 w4 d0 d1 d2 d3 ⊢
      generalize (L1 : Int) = L1z at hPe hSt hLg e1 e2 e3 e4 w1 w2 w3 w4 d0 d1 d2 d3 ⊢
      generalize (S2 : Int) = S2z at hPe hSt hLg e1 e2 e3 e4 w1 w2 w3 w4 d0 d1 d2 d3 ⊢
      generalize (NL : Int) = NLz at hPe hSt hLg e1 e2 e3 e4 w1 w2 w3 w4 d0 d1 d2 d3 ⊢
      generalize (n1 : Int) = n1z at hPe hSt hLg e1 e2 e3 e4 w1 w2 w3 w4 d0 d1 d2 d3 ⊢
      generalize (steps : Int) = stz at hPe hSt hLg e1 e2 e3 e4 w1 w2 w3 w4 d0 d1 d2 d3 ⊢
      generalize (calls : Int) = cz at hPe hSt hLg e1 e2 e3 e4 w1 w2 w3 w4 d0 d1 d2 d3 ⊢
      go_enter Tryd.func19, Tryd.ntmps19
      go_wp2_with (first
        | (go_at_call 31; refine hPe.mono ?_; rintro e w1 ⟨rfl, h1⟩; obtain rfl := h1.symm)
        | (go_at_call 20; refine hSt.mono ?_; rintro e w1 ⟨rfl, h1⟩; obtain rfl := h1.symm)
        | (go_at_call 32; refine hLg.mono ?_; rintro e w1 ⟨rfl, h1⟩; obtain rfl := h1.symm))
      go_ret
      exact ⟨rfl, rfl⟩
    · have d1 : decide ((calls : Int) < (n : Int)) = false := decide_eq_false (by omega)
      clear hd0 hg hn1e hn1 hn h1 h0
      obtain ⟨w1, w2, w3, w4⟩ := unhide W
      clear W
      generalize (n : Int) = nz at hPe hSt hLg e1 e2 e3 e4 w1 w2 w3 w4 d0 d1 d3 ⊢
      generalize (s : Int) = sz at hPe hSt hLg e1 e2 e3 e4 w1 w2 w3 w4 d0 d1 d3 ⊢
      generalize (P : Int) = Pz at hPe hSt hLg e1 e2 e3 e4 w1 w2 w3 w4 d0 d1 d3 ⊢
      generalize (L : Int) = Lz at hPe hSt hLg e1 e2 e3 e4 w1 w2 w3 w4 d0 d1 d3 ⊢
      generalize (L1 : Int) = L1z at hPe hSt hLg e1 e2 e3 e4 w1 w2 w3 w4 d0 d1 d3 ⊢
      generalize (S2 : Int) = S2z at hPe hSt hLg e1 e2 e3 e4 w1 w2 w3 w4 d0 d1 d3 ⊢
      generalize (NL : Int) = NLz at hPe hSt hLg e1 e2 e3 e4 w1 w2 w3 w4 d0 d1 d3 ⊢
      generalize (n1 : Int) = n1z at hPe hSt hLg e1 e2 e3 e4 w1 w2 w3 w4 d0 d1 d3 ⊢
      generalize (steps : Int) = stz at hPe hSt hLg e1 e2 e3 e4 w1 w2 w3 w4 d0 d1 d3 ⊢
      generalize (calls : Int) = cz at hPe hSt hLg e1 e2 e3 e4 w1 w2 w3 w4 d0 d1 d3 ⊢
      go_enter Tryd.func19, Tryd.ntmps19
      go_wp2_with (first
        | (go_at_call 31; refine hPe.mono ?_; rintro e w1 ⟨rfl, h1⟩; obtain rfl := h1.symm)
        | (go_at_call 20; refine hSt.mono ?_; rintro e w1 ⟨rfl, h1⟩; obtain rfl := h1.symm)
        | (go_at_call 32; refine hLg.mono ?_; rintro e w1 ⟨rfl, h1⟩; obtain rfl := h1.symm))
      go_ret
      exact ⟨rfl, rfl⟩
end Go.Proofs.YtmaammjfbheciaaDoor
