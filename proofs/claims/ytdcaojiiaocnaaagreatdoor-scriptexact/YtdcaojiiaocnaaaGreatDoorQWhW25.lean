import Derived.Test.YtdcaojiiaocnaaaGreatDoorQGanZ
import Derived.Deep.DeepCutAuto
import Derived.Deep.QuietTactic
import Derived.BigQuiet
set_option linter.unusedSimpArgs false
set_option linter.unusedVariables false
namespace Go.Proofs.YtdcaojiiaocnaaaGreatDoor
open Go.RowKit

set_option maxHeartbeats 4000000 in
set_option maxRecDepth 100000 in
theorem refwh_any (s : ByteArray) (w : World) (hs : s.size ≤ 1048576) :
    Calls Tryz.prog 46 #[.string s] w fun e w' => e = .returned (.tuple #[.int .i64 ((wholeL (strL s)).getD 0), .bool (wholeL (strL s)).isSome]) ∧ Below w.heap.size w w' := by
  have hS := Hs17.start0 w
  rw [whole_wq]
  by_cases h0 : s.size = 0
  · have hz : ¬ (0 : Int) < (s.size : Int) := by omega
    have e0 : (if (strL s).head? = some 45 then wq true (strL s).tail else wq false (strL s)) = none := by
      have : strL s = [] := List.eq_nil_of_length_eq_zero (by rw [strL_length]; exact h0)
      rw [this]; rfl
    rw [e0]
    clear e0
    go_enter Tryz.func46, Tryz.ntmps46
    go_wp2
    go_ret2
    exact ⟨rfl, hS.bel⟩
  have hpos : 0 < s.size := by omega
  have hposz : (0 : Int) < (s.size : Int) := by omega
  have hx0 := strL_at s 0 hpos
  obtain ⟨x0, hx⟩ : ∃ x0 : Int, (s[0].toNat : Int) = x0 := ⟨_, rfl⟩
  rw [hx] at hx0
  by_cases hm : x0 = 45
  · subst hm
    have eH : (strL s).head? = some 45 := by rw [head_at (by rw [strL_length]; exact hpos), hx0]
    rw [if_pos eH, ← strL_tail]
    have hss : (s.extract 1 s.size).size = s.size - 1 := by simp
    obtain ⟨S, hSd⟩ : ∃ S, s.extract 1 s.size = S := ⟨_, rfl⟩
    rw [hSd] at hss ⊢
    have hsS : S.size ≤ 1048576 := by omega
    clear eH hx0 h0
    go_enter Tryz.func46, Tryz.ntmps46
    go_upto_region 4 with fail
    clear hx hpos hposz hss hs hSd
    by_cases a1 : S.size = 0
    · have hz : (S.size : Int) < 1 := by omega
      have hfin : Hid (wq true (strL S) = none) := hide (wq_no (fun h => h.1.1 (List.eq_nil_of_length_eq_zero (by rw [strL_length]; exact a1))))
      go_wp2
      go_ret2
      rw [unhide hfin]
      exact ⟨rfl, hS.bel⟩
    by_cases a2 : 18 < S.size
    · have hz : ¬ (S.size : Int) < 1 := by omega
      have hz2 : (18 : Int) < (S.size : Int) := by omega
      have hfin : Hid (wq true (strL S) = none) := hide (wq_no (fun h => by have h9 := h.1.2.1; rw [strL_length] at h9; omega))
      go_wp2
      go_ret2
      rw [unhide hfin]
      exact ⟨rfl, hS.bel⟩
    have hz : ¬ (S.size : Int) < 1 := by omega
    have hz2 : ¬ (18 : Int) < (S.size : Int) := by omega
    have hp : 0 < S.size := by omega
    have hpz : (0 : Int) < (S.size : Int) := by omega
    have hy0 := strL_at S 0 hp
    obtain ⟨y, hy⟩ : ∃ y : Int, (S[0].toNat : Int) = y := ⟨_, rfl⟩
    rw [hy] at hy0
    have hH : (strL S).head? = some y := by rw [head_at (by rw [strL_length]; exact hp), hy0]
    have HH := hide hH
    clear hy0 hH
    by_cases a3 : y = 48
    · subst a3
      have hfin : Hid (wq true (strL S) = none) := hide (wq_no (fun h => h.2 rfl (unhide HH)))
      go_wp2
      go_ret2
      rw [unhide hfin]
      exact ⟨rfl, hS.bel⟩
    · have hy48 : (y == 48) = false := by simpa using a3
      have HOK : Hid ((∀ c ∈ strL S, isDg c) → okDg (strL S) ∧ okM true (strL S)) := hide fun hd => ⟨⟨fun h => by have h9 := congrArg List.length h; rw [strL_length] at h9; exact a1 h9, by rw [strL_length]; omega, hd, fun h => by rw [unhide HH] at h; simp only [Option.some.injEq] at h; exact absurd h a3⟩, fun _ h => by rw [unhide HH] at h; simp only [Option.some.injEq] at h; exact a3 h⟩
      go_wp2_with fail
      go_loopw [5, 6] (fun vn vi wr => ∃ k : Nat, k ≤ S.size ∧ vn = .int .i64 (valL ((strL S).take k) : Nat) ∧ vi = .int .i64 k ∧ Hid (∀ c ∈ (strL S).take k, isDg c) ∧ Hs17 w [] (fun _ => True) wr) (fun _ vi _ => S.size - (intOf vi).toNat)
      case atStart => exact ⟨0, by omega, rfl, rfl, hide (by intro c hc; simp at hc), hS⟩
      case round =>
        clear hS
        obtain ⟨k, hk, rfl, rfl, HD, hS⟩ := hrel
        have hvk := val_lt _ (unhide HD)
        rw [List.length_take, Nat.min_eq_left (by rw [strL_length]; exact hk)] at hvk
        by_cases hlt : k < S.size
        · have hkz : (k : Int) < (S.size : Int) := by omega
          have hkl : k < (strL S).length := by rw [strL_length]; exact hlt
          have hgx := strL_at S k hlt
          obtain ⟨x, hx⟩ : ∃ x : Int, (S[k].toNat : Int) = x := ⟨_, rfl⟩
          rw [hx] at hgx
          have hvt := val_take hkl
          rw [hgx] at hvt
          obtain ⟨v, hv⟩ : ∃ v : Nat, valL ((strL S).take k) = v := ⟨_, rfl⟩
          rw [hv] at hvk hvt ⊢
          have hv17 : v < 100000000000000000 := by
            have : (10 : Nat) ^ k ≤ 10 ^ 17 := Nat.pow_le_pow_right (by omega) (by omega)
            have e : (10 : Nat) ^ 17 = 100000000000000000 := by decide
            omega
          have HGX := hide hgx
          have HVT := hide hvt
          have HKL := hide hkl
          have hxb : 0 ≤ x ∧ x ≤ 255 := by rw [← hx]; exact byte_bd _
          clear hgx hvk hv hvt hkl
          by_cases h48 : x < 48
          · have hfin : Hid (wq true (strL S) = none) := hide (wq_no (fun h => by
              have := h.1.2.2.1 _ (mem_getD (unhide HKL))
              rw [unhide HGX] at this
              unfold isDg at this; omega))
            clear HGX HVT HKL
            go_wp2
            go_ret2
            rw [unhide hfin]
            exact ⟨rfl, hS.bel⟩
          · by_cases h57 : 57 < x
            · have hfin : Hid (wq true (strL S) = none) := hide (wq_no (fun h => by
                have := h.1.2.2.1 _ (mem_getD (unhide HKL))
                rw [unhide HGX] at this
                unfold isDg at this; omega))
              clear HGX HVT HKL
              go_wp2
              go_ret2
              rw [unhide hfin]
              exact ⟨rfl, hS.bel⟩
            · have HD' : Hid (∀ c ∈ (strL S).take (k + 1), isDg c) := hide (dig_take (unhide HKL) (unhide HD) (by rw [unhide HGX]; unfold isDg; omega))
              have e1 : IntKind.i64.wrap (10 * (v : Int)) = 10 * (v : Int) := wi_of24 (by omega) (by omega)
              have e2 : IntKind.u8.wrap (x - 48) = x - 48 := u8_of25 (by omega) (by omega)
              have e3 : IntKind.i64.wrap (10 * (v : Int) + (x - 48)) = ((valL ((strL S).take (k + 1)) : Nat) : Int) := by
                rw [unhide HVT, show 10 * (v : Int) + (x - 48) = ((10 * v + (x - 48).toNat : Nat) : Int) by omega]; exact wi_of24 (by omega) (by omega)
              have e4 : IntKind.i64.wrap (x - 48) = x - 48 := wi_of24 (by omega) (by omega)
              clear HGX HVT HKL
              go_wp2
              go_roundw
              case rel => exact ⟨k + 1, by omega, by go_num, by go_num, HD', hS⟩
              case measure => simp [intOf]; omega
        · obtain rfl : S.size = k := by omega
          have hkd : ¬ (S.size : Int) < (S.size : Int) := by omega
          have htk : (strL S).take S.size = strL S := List.take_of_length_le (by rw [strL_length]; exact Nat.le_refl _)
          rw [htk] at hvk ⊢
          have hd := unhide HD
          rw [htk] at hd
          have hfin : Hid (wq true (strL S) = some (if true = true then -(valL (strL S) : Int) else (valL (strL S) : Int))) := hide (wq_yes ⟨(unhide HOK hd).1, (unhide HOK hd).2⟩)
          obtain ⟨V, hV⟩ : ∃ V, valL (strL S) = V := ⟨_, rfl⟩
          have hV18 : V < 1000000000000000000 := by
            have : (10 : Nat) ^ S.size ≤ 10 ^ 18 := Nat.pow_le_pow_right (by omega) (by omega)
            have e : (10 : Nat) ^ 18 = 1000000000000000000 := by decide
            omega
          rw [hV] at hfin ⊢
          clear htk hvk hd HD hV HOK
          have e5 : IntKind.i64.wrap (-(V : Int)) = -(V : Int) := wi_of24 (by omega) (by omega)
          go_wp2
          go_ret2
          rw [unhide hfin]
          exact ⟨rfl, hS.bel⟩

  · have eH : (strL s).head? ≠ some 45 := by rw [head_at (by rw [strL_length]; exact hpos), hx0]; intro h; simp only [Option.some.injEq] at h; exact hm h
    rw [if_neg eH]
    have hm' : (x0 == 45) = false := by simpa using hm
    obtain ⟨S, hSe⟩ : ∃ S, S = s := ⟨_, rfl⟩
    subst hSe
    have hsS : S.size ≤ 1048576 := hs
    clear eH hx0 h0
    go_enter Tryz.func46, Tryz.ntmps46
    go_upto_region 4 with fail
    clear hx hpos hposz hs hm hm'
    by_cases a1 : S.size = 0
    · have hz : (S.size : Int) < 1 := by omega
      have hfin : Hid (wq false (strL S) = none) := hide (wq_no (fun h => h.1.1 (List.eq_nil_of_length_eq_zero (by rw [strL_length]; exact a1))))
      go_wp2
      go_ret2
      rw [unhide hfin]
      exact ⟨rfl, hS.bel⟩
    by_cases a2 : 18 < S.size
    · have hz : ¬ (S.size : Int) < 1 := by omega
      have hz2 : (18 : Int) < (S.size : Int) := by omega
      have hfin : Hid (wq false (strL S) = none) := hide (wq_no (fun h => by have h9 := h.1.2.1; rw [strL_length] at h9; omega))
      go_wp2
      go_ret2
      rw [unhide hfin]
      exact ⟨rfl, hS.bel⟩
    have hz : ¬ (S.size : Int) < 1 := by omega
    have hz2 : ¬ (18 : Int) < (S.size : Int) := by omega
    have hp : 0 < S.size := by omega
    have hpz : (0 : Int) < (S.size : Int) := by omega
    have hy0 := strL_at S 0 hp
    obtain ⟨y, hy⟩ : ∃ y : Int, (S[0].toNat : Int) = y := ⟨_, rfl⟩
    rw [hy] at hy0
    have hH : (strL S).head? = some y := by rw [head_at (by rw [strL_length]; exact hp), hy0]
    have HH := hide hH
    clear hy0 hH
    by_cases a3 : y = 48
    · subst a3
      by_cases a4 : 1 < S.size
      · have hz3 : (1 : Int) < (S.size : Int) := by omega
        have hfin : Hid (wq false (strL S) = none) := hide (wq_no (fun h => by have h9 := h.1.2.2.2 (unhide HH); rw [strL_length] at h9; omega))
        go_wp2
        go_ret2
        rw [unhide hfin]
        exact ⟨rfl, hS.bel⟩
      · have hz3 : ¬ (1 : Int) < (S.size : Int) := by omega
        have HOK : Hid ((∀ c ∈ strL S, isDg c) → okDg (strL S) ∧ okM false (strL S)) := hide fun hd => ⟨⟨fun h => by have h9 := congrArg List.length h; rw [strL_length] at h9; exact a1 h9, by rw [strL_length]; omega, hd, fun _ => by rw [strL_length]; omega⟩, fun h => by cases h⟩
        go_wp2_with fail
        go_loopw [5, 6] (fun vn vi wr => ∃ k : Nat, k ≤ S.size ∧ vn = .int .i64 (valL ((strL S).take k) : Nat) ∧ vi = .int .i64 k ∧ Hid (∀ c ∈ (strL S).take k, isDg c) ∧ Hs17 w [] (fun _ => True) wr) (fun _ vi _ => S.size - (intOf vi).toNat)
        case atStart => exact ⟨0, by omega, rfl, rfl, hide (by intro c hc; simp at hc), hS⟩
        case round =>
          clear hS
          obtain ⟨k, hk, rfl, rfl, HD, hS⟩ := hrel
          have hvk := val_lt _ (unhide HD)
          rw [List.length_take, Nat.min_eq_left (by rw [strL_length]; exact hk)] at hvk
          by_cases hlt : k < S.size
          · have hkz : (k : Int) < (S.size : Int) := by omega
            have hkl : k < (strL S).length := by rw [strL_length]; exact hlt
            have hgx := strL_at S k hlt
            obtain ⟨x, hx⟩ : ∃ x : Int, (S[k].toNat : Int) = x := ⟨_, rfl⟩
            rw [hx] at hgx
            have hvt := val_take hkl
            rw [hgx] at hvt
            obtain ⟨v, hv⟩ : ∃ v : Nat, valL ((strL S).take k) = v := ⟨_, rfl⟩
            rw [hv] at hvk hvt ⊢
            have hv17 : v < 100000000000000000 := by
              have : (10 : Nat) ^ k ≤ 10 ^ 17 := Nat.pow_le_pow_right (by omega) (by omega)
              have e : (10 : Nat) ^ 17 = 100000000000000000 := by decide
              omega
            have HGX := hide hgx
            have HVT := hide hvt
            have HKL := hide hkl
            have hxb : 0 ≤ x ∧ x ≤ 255 := by rw [← hx]; exact byte_bd _
            clear hgx hvk hv hvt hkl
            by_cases h48 : x < 48
            · have hfin : Hid (wq false (strL S) = none) := hide (wq_no (fun h => by
                have := h.1.2.2.1 _ (mem_getD (unhide HKL))
                rw [unhide HGX] at this
                unfold isDg at this; omega))
              clear HGX HVT HKL
              go_wp2
              go_ret2
              rw [unhide hfin]
              exact ⟨rfl, hS.bel⟩
            · by_cases h57 : 57 < x
              · have hfin : Hid (wq false (strL S) = none) := hide (wq_no (fun h => by
                  have := h.1.2.2.1 _ (mem_getD (unhide HKL))
                  rw [unhide HGX] at this
                  unfold isDg at this; omega))
                clear HGX HVT HKL
                go_wp2
                go_ret2
                rw [unhide hfin]
                exact ⟨rfl, hS.bel⟩
              · have HD' : Hid (∀ c ∈ (strL S).take (k + 1), isDg c) := hide (dig_take (unhide HKL) (unhide HD) (by rw [unhide HGX]; unfold isDg; omega))
                have e1 : IntKind.i64.wrap (10 * (v : Int)) = 10 * (v : Int) := wi_of24 (by omega) (by omega)
                have e2 : IntKind.u8.wrap (x - 48) = x - 48 := u8_of25 (by omega) (by omega)
                have e3 : IntKind.i64.wrap (10 * (v : Int) + (x - 48)) = ((valL ((strL S).take (k + 1)) : Nat) : Int) := by
                  rw [unhide HVT, show 10 * (v : Int) + (x - 48) = ((10 * v + (x - 48).toNat : Nat) : Int) by omega]; exact wi_of24 (by omega) (by omega)
                have e4 : IntKind.i64.wrap (x - 48) = x - 48 := wi_of24 (by omega) (by omega)
                clear HGX HVT HKL
                go_wp2
                go_roundw
                case rel => exact ⟨k + 1, by omega, by go_num, by go_num, HD', hS⟩
                case measure => simp [intOf]; omega
          · obtain rfl : S.size = k := by omega
            have hkd : ¬ (S.size : Int) < (S.size : Int) := by omega
            have htk : (strL S).take S.size = strL S := List.take_of_length_le (by rw [strL_length]; exact Nat.le_refl _)
            rw [htk] at hvk ⊢
            have hd := unhide HD
            rw [htk] at hd
            have hfin : Hid (wq false (strL S) = some (if false = true then -(valL (strL S) : Int) else (valL (strL S) : Int))) := hide (wq_yes ⟨(unhide HOK hd).1, (unhide HOK hd).2⟩)
            obtain ⟨V, hV⟩ : ∃ V, valL (strL S) = V := ⟨_, rfl⟩
            have hV18 : V < 1000000000000000000 := by
              have : (10 : Nat) ^ S.size ≤ 10 ^ 18 := Nat.pow_le_pow_right (by omega) (by omega)
              have e : (10 : Nat) ^ 18 = 1000000000000000000 := by decide
              omega
            rw [hV] at hfin ⊢
            clear htk hvk hd HD hV HOK
            go_wp2
            go_ret2
            rw [unhide hfin]
            exact ⟨rfl, hS.bel⟩
    · have hy48 : (y == 48) = false := by simpa using a3
      have HOK : Hid ((∀ c ∈ strL S, isDg c) → okDg (strL S) ∧ okM false (strL S)) := hide fun hd => ⟨⟨fun h => by have h9 := congrArg List.length h; rw [strL_length] at h9; exact a1 h9, by rw [strL_length]; omega, hd, fun h => by rw [unhide HH] at h; simp only [Option.some.injEq] at h; exact absurd h a3⟩, fun _ h => by rw [unhide HH] at h; simp only [Option.some.injEq] at h; exact a3 h⟩
      go_wp2_with fail
      go_loopw [5, 6] (fun vn vi wr => ∃ k : Nat, k ≤ S.size ∧ vn = .int .i64 (valL ((strL S).take k) : Nat) ∧ vi = .int .i64 k ∧ Hid (∀ c ∈ (strL S).take k, isDg c) ∧ Hs17 w [] (fun _ => True) wr) (fun _ vi _ => S.size - (intOf vi).toNat)
      case atStart => exact ⟨0, by omega, rfl, rfl, hide (by intro c hc; simp at hc), hS⟩
      case round =>
        clear hS
        obtain ⟨k, hk, rfl, rfl, HD, hS⟩ := hrel
        have hvk := val_lt _ (unhide HD)
        rw [List.length_take, Nat.min_eq_left (by rw [strL_length]; exact hk)] at hvk
        by_cases hlt : k < S.size
        · have hkz : (k : Int) < (S.size : Int) := by omega
          have hkl : k < (strL S).length := by rw [strL_length]; exact hlt
          have hgx := strL_at S k hlt
          obtain ⟨x, hx⟩ : ∃ x : Int, (S[k].toNat : Int) = x := ⟨_, rfl⟩
          rw [hx] at hgx
          have hvt := val_take hkl
          rw [hgx] at hvt
          obtain ⟨v, hv⟩ : ∃ v : Nat, valL ((strL S).take k) = v := ⟨_, rfl⟩
          rw [hv] at hvk hvt ⊢
          have hv17 : v < 100000000000000000 := by
            have : (10 : Nat) ^ k ≤ 10 ^ 17 := Nat.pow_le_pow_right (by omega) (by omega)
            have e : (10 : Nat) ^ 17 = 100000000000000000 := by decide
            omega
          have HGX := hide hgx
          have HVT := hide hvt
          have HKL := hide hkl
          have hxb : 0 ≤ x ∧ x ≤ 255 := by rw [← hx]; exact byte_bd _
          clear hgx hvk hv hvt hkl
          by_cases h48 : x < 48
          · have hfin : Hid (wq false (strL S) = none) := hide (wq_no (fun h => by
              have := h.1.2.2.1 _ (mem_getD (unhide HKL))
              rw [unhide HGX] at this
              unfold isDg at this; omega))
            clear HGX HVT HKL
            go_wp2
            go_ret2
            rw [unhide hfin]
            exact ⟨rfl, hS.bel⟩
          · by_cases h57 : 57 < x
            · have hfin : Hid (wq false (strL S) = none) := hide (wq_no (fun h => by
                have := h.1.2.2.1 _ (mem_getD (unhide HKL))
                rw [unhide HGX] at this
                unfold isDg at this; omega))
              clear HGX HVT HKL
              go_wp2
              go_ret2
              rw [unhide hfin]
              exact ⟨rfl, hS.bel⟩
            · have HD' : Hid (∀ c ∈ (strL S).take (k + 1), isDg c) := hide (dig_take (unhide HKL) (unhide HD) (by rw [unhide HGX]; unfold isDg; omega))
              have e1 : IntKind.i64.wrap (10 * (v : Int)) = 10 * (v : Int) := wi_of24 (by omega) (by omega)
              have e2 : IntKind.u8.wrap (x - 48) = x - 48 := u8_of25 (by omega) (by omega)
              have e3 : IntKind.i64.wrap (10 * (v : Int) + (x - 48)) = ((valL ((strL S).take (k + 1)) : Nat) : Int) := by
                rw [unhide HVT, show 10 * (v : Int) + (x - 48) = ((10 * v + (x - 48).toNat : Nat) : Int) by omega]; exact wi_of24 (by omega) (by omega)
              have e4 : IntKind.i64.wrap (x - 48) = x - 48 := wi_of24 (by omega) (by omega)
              clear HGX HVT HKL
              go_wp2
              go_roundw
              case rel => exact ⟨k + 1, by omega, by go_num, by go_num, HD', hS⟩
              case measure => simp [intOf]; omega
        · obtain rfl : S.size = k := by omega
          have hkd : ¬ (S.size : Int) < (S.size : Int) := by omega
          have htk : (strL S).take S.size = strL S := List.take_of_length_le (by rw [strL_length]; exact Nat.le_refl _)
          rw [htk] at hvk ⊢
          have hd := unhide HD
          rw [htk] at hd
          have hfin : Hid (wq false (strL S) = some (if false = true then -(valL (strL S) : Int) else (valL (strL S) : Int))) := hide (wq_yes ⟨(unhide HOK hd).1, (unhide HOK hd).2⟩)
          obtain ⟨V, hV⟩ : ∃ V, valL (strL S) = V := ⟨_, rfl⟩
          have hV18 : V < 1000000000000000000 := by
            have : (10 : Nat) ^ S.size ≤ 10 ^ 18 := Nat.pow_le_pow_right (by omega) (by omega)
            have e : (10 : Nat) ^ 18 = 1000000000000000000 := by decide
            omega
          rw [hV] at hfin ⊢
          clear htk hvk hd HD hV HOK
          go_wp2
          go_ret2
          rw [unhide hfin]
          exact ⟨rfl, hS.bel⟩

end Go.Proofs.YtdcaojiiaocnaaaGreatDoor
