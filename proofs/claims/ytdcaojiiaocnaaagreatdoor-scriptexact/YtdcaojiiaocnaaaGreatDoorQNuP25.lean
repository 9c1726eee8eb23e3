import Derived.Test.YtdcaojiiaocnaaaGreatDoorQGanZ
import Derived.Laws.RangeAny
set_option linter.unusedSimpArgs false
set_option linter.unusedVariables false
namespace Go.Proofs.YtdcaojiiaocnaaaGreatDoor
open Go.RowKit

/-! The program's readNumber: a range over runes. -/
theorem wr32 {x : Int} (h0 : -2147483648 ≤ x) (h1 : x ≤ 2147483647) : IntKind.i32.wrap x = x := by
  simp [IntKind.wrap, IntKind.signed, IntKind.bits]; omega
theorem dg_yes (r : Int) (w : World) (h : isDg r) :
    Calls Tryz.prog 76 #[.int .i32 r] w fun e w' => e = .returned (.tuple #[.int .i64 (r - 48), .bool true]) ∧ w' = w := by
  obtain ⟨h0, h1⟩ := h
  have a0 : ¬ r < 48 := by omega
  have a1 : ¬ 57 < r := by omega
  have a2 := wr32 (x := r - 48) (by omega) (by omega)
  have a3 : IntKind.i64.wrap (r - 48) = r - 48 := wi_of24 (by omega) (by omega)
  go_enter Tryz.func76, Tryz.ntmps76
  go_wp2
  go_ret2
  exact ⟨by simp [a2, a3], rfl⟩
theorem dg_no (r : Int) (w : World) (h : ¬ isDg r) :
    Calls Tryz.prog 76 #[.int .i32 r] w fun e w' => e = .returned (.tuple #[.int .i64 0, .bool false]) ∧ w' = w := by
  by_cases a0 : r < 48
  · go_enter Tryz.func76, Tryz.ntmps76
    go_wp2
    go_ret2
    exact ⟨rfl, rfl⟩
  · have a1 : 57 < r := by unfold isDg at h; omega
    go_enter Tryz.func76, Tryz.ntmps76
    go_wp2
    go_ret2
    exact ⟨rfl, rfl⟩
theorem head_cut (S : ByteArray) (h : 1 ≤ S.size) : ((S.extract 0 1).toList == ({ data := #[45] } : ByteArray).toList) = decide ((strL S).head? = some 45) := by
  rw [Bool.eq_iff_iff, beq_iff_eq, decide_eq_true_eq, ByteArray.toList_eq, ByteArray.toList_eq]
  obtain ⟨a, r, hS⟩ : ∃ a r, S.data.toList = a :: r := by
    cases hd : S.data.toList with
    | nil => have : S.data.toList.length = 0 := by rw [hd]; rfl
             have h2 : S.data.toList.length = S.size := by rw [Array.length_toList]; rfl
             omega
    | cons a r => exact ⟨a, r, rfl⟩
  have e1 : (S.extract 0 1).data.toList = [a] := by
    rw [ByteArray.data_extract, Array.toList_extract, hS]; simp
  have e2 : (strL S).head? = some (a.toNat : Int) := by unfold strL; rw [hS]; rfl
  rw [e1, e2]
  constructor
  · intro hc
    have : a = 45 := by simpa using hc
    subst this; rfl
  · intro hc
    have h3 : (a.toNat : Int) = 45 := by simpa using hc
    have : a = 45 := by
      apply UInt8.toNat_inj.1
      have h4 : (45 : UInt8).toNat = 45 := rfl
      omega
    subst this; rfl
theorem hp_any (S : ByteArray) (w : World) (hs : S.size ≤ 1048576) :
    Calls Tryz.prog 103 #[.string S, .string { data := #[45] }] w fun e w' => e = .returned (.bool (decide ((strL S).head? = some 45))) ∧ w' = w := by
  have h1 : ({ data := #[45] } : ByteArray).size = 1 := rfl
  by_cases h : 1 ≤ S.size
  · have hz : (1 : Int) ≤ (S.size : Int) := by omega
    have hq : ((S.extract 0 1).toList == ({ data := #[45] } : ByteArray).toList) = decide ((strL S).head? = some 45) := head_cut S h
    have e45 : ({ data := #[45] } : ByteArray).toList = [45] := by simp
    go_enter Tryz.func103, Tryz.ntmps103
    go_wp2
    go_ret
    exact ⟨by rw [← hq, e45]; rfl, rfl⟩
  · have hz : ¬ (1 : Int) ≤ (S.size : Int) := by omega
    have hq : decide ((strL S).head? = some 45) = false := by
      have : strL S = [] := List.eq_nil_of_length_eq_zero (by rw [strL_length]; omega)
      rw [this]; simp
    rw [hq]
    go_enter Tryz.func103, Tryz.ntmps103
    go_wp2
    go_ret
    exact ⟨rfl, rfl⟩
theorem iter_bel (w : World) (s : ByteArray) (p : Nat) : Below w.heap.size w (w.iter s p) := (Below.refl _ w).alloc (Nat.le_refl _) _
/-- what CutPrefix leaves -/
def cutS (S : ByteArray) : ByteArray := if (strL S).head? = some 45 then S.extract 1 S.size else S
theorem cp_any (S : ByteArray) (w : World) (hs : S.size ≤ 1048576) :
    Calls Tryz.prog 75 #[.string S, .string { data := #[45] }] w fun e w' => e = .returned (.tuple #[.string (cutS S), .bool (decide ((strL S).head? = some 45))]) ∧ w' = w := by
  have h1 : ({ data := #[45] } : ByteArray).size = 1 := rfl
  have hc : Calls Tryz.prog 94 #[.string S, .string { data := #[45] }] w fun e w' => e = .returned (.tuple #[.string (cutS S), .bool (decide ((strL S).head? = some 45))]) ∧ w' = w := by
    unfold cutS
    by_cases h : (strL S).head? = some 45
    · have hn : 1 ≤ S.size := by
        rcases Nat.eq_zero_or_pos S.size with h0 | h0
        · have : strL S = [] := List.eq_nil_of_length_eq_zero (by rw [strL_length]; omega)
          rw [this] at h; cases h
        · exact h0
      have hz : (1 : Int) ≤ (S.size : Int) := by omega
      have hd : decide ((strL S).head? = some 45) = true := by simpa using h
      rw [if_pos h, hd]
      go_enter Tryz.func94, Tryz.ntmps94
      go_wp2_with (go_at_call 103; refine (hp_any S _ hs).mono ?_; rw [hd]; rintro e w' ⟨rfl, rfl⟩)
      go_ret2
      exact ⟨rfl, rfl⟩
    · have hd : decide ((strL S).head? = some 45) = false := by simpa using h
      rw [if_neg h, hd]
      go_enter Tryz.func94, Tryz.ntmps94
      go_wp2_with (go_at_call 103; refine (hp_any S _ hs).mono ?_; rw [hd]; rintro e w' ⟨rfl, rfl⟩)
      go_ret2
      exact ⟨rfl, rfl⟩
  go_enter Tryz.func75, Tryz.ntmps75
  go_wp2_with (go_at_call 94; refine hc.mono ?_; rintro e w' ⟨rfl, rfl⟩)
  go_ret2
  exact ⟨rfl, rfl⟩
theorem cutS_wq (S : ByteArray) : wholeL (strL S) = wq (decide ((strL S).head? = some 45)) (strL (cutS S)) := by
  rw [whole_wq]
  unfold cutS
  by_cases h : (strL S).head? = some 45
  · rw [if_pos h, if_pos h, strL_tail]; simp [h]
  · rw [if_neg h, if_neg h]; simp [h]
theorem cutS_size (S : ByteArray) : (cutS S).size ≤ S.size := by
  unfold cutS
  split
  · simp
  · exact Nat.le_refl _
def ansN : Option Int → Value
  | some n => .tuple #[.int .i64 n, .bool true]
  | none => .tuple #[.int .i64 0, .bool false]
set_option maxHeartbeats 4000000 in
set_option maxRecDepth 100000 in
theorem rn_any (S : ByteArray) (w : World) (hs : S.size ≤ 1048576) :
    Calls Tryz.prog 57 #[.string S] w fun e w' => e = .returned (ansN (wholeL (strL S))) ∧ Below w.heap.size w w' := by
  obtain ⟨m, hm⟩ : ∃ m : Bool, decide ((strL S).head? = some 45) = m := ⟨_, rfl⟩
  obtain ⟨D, hD⟩ : ∃ D, cutS S = D := ⟨_, rfl⟩
  have hw := cutS_wq S
  have hDs : D.size ≤ S.size := by rw [← hD]; exact cutS_size S
  have hcp : ∀ v, Calls Tryz.prog 75 #[.string S, .string { data := #[45] }] v fun e w' => e = .returned (.tuple #[.string D, .bool m]) ∧ w' = v := fun v => by
    have := cp_any S v hs
    rw [hm, hD] at this; exact this
  have hS0 : m = false → D = S := fun h => by
    rw [← hD]; unfold cutS; rw [if_neg]; rw [h] at hm; simpa using hm
  have hm1 : m = true → (strL S).head? = some 45 := fun h => by rw [h] at hm; simpa using hm
  rw [hm, hD] at hw
  rw [hw]
  clear hw hm hD
  have hnil : ∀ v, Below w.heap.size w v → Ending.returned (.tuple #[.int .i64 0, .bool false]) = Ending.returned (ansN none) ∧ Below w.heap.size w v := fun v h => ⟨rfl, h⟩
  by_cases h0 : D.size = 0
  · have hq : wq m (strL D) = none := wq_no (fun h => h.1.1 (List.eq_nil_of_length_eq_zero (by rw [strL_length]; exact h0)))
    have h0z : (D.size : Int) = 0 := by omega
    rw [hq]
    go_enter Tryz.func57, Tryz.ntmps57
    go_wp2_with (go_at_call 75; refine (hcp _).mono ?_; rintro e w' ⟨rfl, rfl⟩)
    go_ret2
    exact hnil _ (Below.refl _ _)
  have h0p : 0 < D.size := by omega
  have h0z : ¬ (D.size : Int) = 0 := by omega
  by_cases h18 : 18 < D.size
  · have hq : wq m (strL D) = none := wq_no (fun h => by have := h.1.2.1; rw [strL_length] at this; omega)
    have h18z : (18 : Int) < (D.size : Int) := by omega
    rw [hq]
    go_enter Tryz.func57, Tryz.ntmps57
    go_wp2_with (go_at_call 75; refine (hcp _).mono ?_; rintro e w' ⟨rfl, rfl⟩)
    go_ret2
    exact hnil _ (Below.refl _ _)
  have h18z : ¬ (18 : Int) < (D.size : Int) := by omega
  have hz1 : ((D.size : Int) == 0) = false := by simpa using h0z
  have hz2 : decide ((18 : Int) < (D.size : Int)) = false := by simpa using h18z
  have hc0 : (strL D).head? = some (D[0].toNat : Int) := by rw [head_at (by rw [strL_length]; exact h0p), strL_at D 0 h0p]
  obtain ⟨c0, hc⟩ : ∃ c : Int, (D[0].toNat : Int) = c := ⟨_, rfl⟩
  rw [hc] at hc0
  obtain ⟨q0, hq0⟩ : ∃ q : Bool, (S.toList == [48]) = q := ⟨_, rfl⟩
  have hqn : (!(S.toList == [48])) = !q0 := by rw [hq0]
  have hS1 : q0 = true → strL S = [48] := fun h => by
    rw [h] at hq0
    have h1 : S.toList = [48] := by simpa using hq0
    rw [ByteArray.toList_eq] at h1
    unfold strL; rw [h1]; rfl
  have hS2 : q0 = false → strL S ≠ [48] := fun h h1 => by
    have h2 : S.data.toList = [48] := by
      unfold strL at h1
      cases hd : S.data.toList with
      | nil => rw [hd] at h1; cases h1
      | cons a r =>
        rw [hd] at h1
        simp only [List.map_cons, List.cons.injEq, List.map_eq_nil_iff] at h1
        obtain ⟨ha, hr⟩ := h1
        have : a = 48 := by
          apply UInt8.toNat_inj.1
          have h4 : (48 : UInt8).toNat = 48 := rfl
          omega
        subst this hr; rfl
    rw [ByteArray.toList_eq, h2] at hq0
    rw [h] at hq0; simp at hq0
  by_cases hbad : c0 = 48 ∧ q0 = false
  · obtain ⟨rfl, rfl⟩ := hbad
    have hq : wq m (strL D) = none := wq_no (fun h => by
      cases m with
      | true => exact h.2 rfl hc0
      | false =>
        have h1 := h.1.2.2.2 hc0
        rw [hS0 rfl] at h1 hc0
        refine hS2 rfl ?_
        cases hd : strL S with
        | nil => rw [hd] at hc0; cases hc0
        | cons a r =>
          rw [hd] at hc0 h1
          simp only [List.head?_cons, Option.some.injEq] at hc0
          simp only [List.length_cons, Nat.add_eq_right, List.length_eq_zero_iff] at h1
          rw [hc0, h1])
    rw [hq]
    go_enter Tryz.func57, Tryz.ntmps57
    go_wp2_with (go_at_call 75; refine (hcp _).mono ?_; rintro e w' ⟨rfl, rfl⟩)
    go_ret2
    exact hnil _ (Below.refl _ _)
  have hL : 1 ≤ (strL D).length ∧ (strL D).length ≤ 18 := by rw [strL_length]; omega
  have hone : c0 = 48 → m = false ∧ (strL D).length = 1 := fun h => by
    have hq : q0 = true := by
      cases q0 with
      | true => rfl
      | false => exact absurd ⟨h, rfl⟩ hbad
    have h1 := hS1 hq
    cases m with
    | true =>
      have := hm1 rfl
      rw [h1] at this; cases this
    | false => rw [hS0 rfl, h1]; exact ⟨rfl, rfl⟩
  have hall : (∀ c ∈ strL D, isDg c) → wq m (strL D) = some (if m = true then -(valL (strL D) : Int) else (valL (strL D) : Int)) := fun h => by
    refine wq_yes ⟨⟨fun e => by rw [e] at hL; simp at hL, hL.2, h, fun e => ?_⟩, fun hm e => ?_⟩
    · rw [hc0] at e
      exact (hone (Option.some.inj e)).2
    · rw [hc0] at e
      have := (hone (Option.some.inj e)).1
      rw [this] at hm; cases hm
  have hnot : ∀ k, k < D.size → ¬ isDg ((strL D).getD k 0) → wq m (strL D) = none := fun k hk hn => wq_no (fun h => hn (h.1.2.2.1 _ (mem_getD (by rw [strL_length]; exact hk))))
  by_cases hc48 : c0 = 48
  · obtain rfl := hc48
    obtain rfl : q0 = true := by
      cases q0 with
      | true => rfl
      | false => exact absurd ⟨rfl, rfl⟩ hbad
    clear hbad hone hS1 hS2 hS0 hm1
    go_enter Tryz.func57, Tryz.ntmps57
    go_wp2_with (go_at_call 75; refine (hcp _).mono ?_; rintro e w9 ⟨rfl, h9⟩; rw [h9]; clear h9)
    go_loopw [6] (fun vn wr => ∃ k : Nat, k ≤ D.size ∧ vn = .int .i64 (valL ((strL D).take k) : Nat) ∧ (∀ c ∈ (strL D).take k, isDg c) ∧ wr = w.iter D k) (fun _ wr => D.size - wr.iterPos w.heap.size)
    case atStart => exact ⟨0, by omega, rfl, fun c hc => by simp at hc, rfl⟩
    case round =>
      obtain ⟨k, hk, rfl, hdg, rfl⟩ := hrel
      have hV := val_lt _ hdg
      rw [List.length_take, Nat.min_eq_left (by rw [strL_length]; exact hk)] at hV
      have hV18 : valL ((strL D).take k) < 10 ^ 18 := Nat.lt_of_lt_of_le hV (Nat.pow_le_pow_right (by omega) (by omega))
      by_cases hlt : k < D.size
      · have hat := strL_at D k hlt
        have hkl : k < (strL D).length := by rw [strL_length]; exact hlt
        by_cases hd : isDg ((strL D).getD k 0)
        · rw [hat] at hd
          have hasc : (D[k]'hlt).toNat < 128 := by unfold isDg at hd; omega
          have hnx : ∀ ty, (Instr.next (.pointer (some ⟨w.heap.size, 0, none⟩)) true ty).run Tryz.prog (w.iter D k) = _ := fun ty => run_next_ascii w D k ty hlt hasc
          obtain ⟨x, hx⟩ : ∃ x : Int, ((D[k]'hlt).toNat : Int) = x := ⟨_, rfl⟩
          rw [hx] at hnx hd hat
          have hvt := val_take hkl
          rw [hat] at hvt
          have hdt := dig_take hkl hdg (by rw [hat]; exact hd)
          obtain ⟨V, hVe⟩ : ∃ V, valL ((strL D).take k) = V := ⟨_, rfl⟩
          rw [hVe] at hV hvt
          rw [hVe]
          have hd2 := hd
          unfold isDg at hd2
          have hp18 : (10 : Nat) ^ 18 = 1000000000000000000 := by decide
          have hV17 : V < 10 ^ 17 := Nat.lt_of_lt_of_le hV (Nat.pow_le_pow_right (by omega) (by omega))
          have hp17 : (10 : Nat) ^ 17 = 100000000000000000 := by decide
          rw [hp17] at hV17
          have e1 : IntKind.i64.wrap (10 * (V : Int)) = 10 * (V : Int) := wi_of24 (by omega) (by omega)
          have e2 : IntKind.i64.wrap (10 * (V : Int) + (x - 48)) = 10 * (V : Int) + (x - 48) := wi_of24 (by omega) (by omega)
          have e3 : 10 * (V : Int) + (x - 48) = ((10 * V + (x - 48).toNat : Nat) : Int) := by omega
          go_wp2_with (go_at_call 76; refine (dg_yes x _ hd).mono ?_; rintro e w' ⟨rfl, rfl⟩)
          go_roundw
          case rel => exact ⟨k + 1, by omega, by rw [hvt]; congr 1; omega, hdt, rfl⟩
          case measure => simp only [World.iterPos_iter]; omega
        · have hN := hnot k hlt hd
          rw [hat] at hd
          have hnx : ∀ ty, (Instr.next (.pointer (some ⟨w.heap.size, 0, none⟩)) true ty).run Tryz.prog (w.iter D k) = _ := fun ty => run_next_any w D k ty hlt
          have hrd : ¬ isDg ((Utf8.decode D k).1 : Int) := fun hc => by
            by_cases ha : (D[k]'hlt).toNat < 128
            · rw [decode_ascii D k hlt ha] at hc; exact hd hc
            · have := (decode_high D k hlt (by omega)).1
              unfold isDg at hc; omega
          obtain ⟨r, hr⟩ : ∃ r : Int, ((Utf8.decode D k).1 : Int) = r := ⟨_, rfl⟩
          obtain ⟨p, hp⟩ : ∃ p : Nat, k + (Utf8.decode D k).2 = p := ⟨_, rfl⟩
          rw [hr, hp] at hnx
          rw [hr] at hrd
          go_wp2_with (go_at_call 76; refine (dg_no r _ hrd).mono ?_; rintro e w' ⟨rfl, rfl⟩)
          go_ret2
          exact ⟨by rw [hN]; rfl, iter_bel w D p⟩
      · obtain rfl : k = D.size := by omega
        have hnx : ∀ ty, (Instr.next (.pointer (some ⟨w.heap.size, 0, none⟩)) true ty).run Tryz.prog (w.iter D D.size) = _ := fun ty => run_next_end w D D.size ty hlt
        have hft : (strL D).take D.size = strL D := List.take_of_length_le (by rw [strL_length]; exact Nat.le_refl _)
        rw [hft] at hdg hV18
        rw [hft]
        obtain ⟨V, hVe⟩ : ∃ V, valL (strL D) = V := ⟨_, rfl⟩
        rw [hVe] at hV18
        rw [hVe]
        have hp18 : (10 : Nat) ^ 18 = 1000000000000000000 := by decide
        rw [hp18] at hV18
        have e5 : IntKind.i64.wrap (-(V : Int)) = -(V : Int) := wi_of24 (by omega) (by omega)
        cases m with
        | true =>
          go_wp2_with fail
          go_ret2
          exact ⟨by rw [hall hdg, hVe]; simp [ansN, e5], iter_bel w D _⟩
        | false =>
          go_wp2_with fail
          go_ret2
          exact ⟨by rw [hall hdg, hVe]; simp [ansN], iter_bel w D _⟩
  · clear hbad hone hS1 hS2 hS0 hm1
    go_enter Tryz.func57, Tryz.ntmps57
    go_wp2_with (go_at_call 75; refine (hcp _).mono ?_; rintro e w9 ⟨rfl, h9⟩; rw [h9]; clear h9)
    go_loopw [6] (fun vn wr => ∃ k : Nat, k ≤ D.size ∧ vn = .int .i64 (valL ((strL D).take k) : Nat) ∧ (∀ c ∈ (strL D).take k, isDg c) ∧ wr = w.iter D k) (fun _ wr => D.size - wr.iterPos w.heap.size)
    case atStart => exact ⟨0, by omega, rfl, fun c hc => by simp at hc, rfl⟩
    case round =>
      obtain ⟨k, hk, rfl, hdg, rfl⟩ := hrel
      have hV := val_lt _ hdg
      rw [List.length_take, Nat.min_eq_left (by rw [strL_length]; exact hk)] at hV
      have hV18 : valL ((strL D).take k) < 10 ^ 18 := Nat.lt_of_lt_of_le hV (Nat.pow_le_pow_right (by omega) (by omega))
      by_cases hlt : k < D.size
      · have hat := strL_at D k hlt
        have hkl : k < (strL D).length := by rw [strL_length]; exact hlt
        by_cases hd : isDg ((strL D).getD k 0)
        · rw [hat] at hd
          have hasc : (D[k]'hlt).toNat < 128 := by unfold isDg at hd; omega
          have hnx : ∀ ty, (Instr.next (.pointer (some ⟨w.heap.size, 0, none⟩)) true ty).run Tryz.prog (w.iter D k) = _ := fun ty => run_next_ascii w D k ty hlt hasc
          obtain ⟨x, hx⟩ : ∃ x : Int, ((D[k]'hlt).toNat : Int) = x := ⟨_, rfl⟩
          rw [hx] at hnx hd hat
          have hvt := val_take hkl
          rw [hat] at hvt
          have hdt := dig_take hkl hdg (by rw [hat]; exact hd)
          obtain ⟨V, hVe⟩ : ∃ V, valL ((strL D).take k) = V := ⟨_, rfl⟩
          rw [hVe] at hV hvt
          rw [hVe]
          have hd2 := hd
          unfold isDg at hd2
          have hp18 : (10 : Nat) ^ 18 = 1000000000000000000 := by decide
          have hV17 : V < 10 ^ 17 := Nat.lt_of_lt_of_le hV (Nat.pow_le_pow_right (by omega) (by omega))
          have hp17 : (10 : Nat) ^ 17 = 100000000000000000 := by decide
          rw [hp17] at hV17
          have e1 : IntKind.i64.wrap (10 * (V : Int)) = 10 * (V : Int) := wi_of24 (by omega) (by omega)
          have e2 : IntKind.i64.wrap (10 * (V : Int) + (x - 48)) = 10 * (V : Int) + (x - 48) := wi_of24 (by omega) (by omega)
          have e3 : 10 * (V : Int) + (x - 48) = ((10 * V + (x - 48).toNat : Nat) : Int) := by omega
          go_wp2_with (go_at_call 76; refine (dg_yes x _ hd).mono ?_; rintro e w' ⟨rfl, rfl⟩)
          go_roundw
          case rel => exact ⟨k + 1, by omega, by rw [hvt]; congr 1; omega, hdt, rfl⟩
          case measure => simp only [World.iterPos_iter]; omega
        · have hN := hnot k hlt hd
          rw [hat] at hd
          have hnx : ∀ ty, (Instr.next (.pointer (some ⟨w.heap.size, 0, none⟩)) true ty).run Tryz.prog (w.iter D k) = _ := fun ty => run_next_any w D k ty hlt
          have hrd : ¬ isDg ((Utf8.decode D k).1 : Int) := fun hc => by
            by_cases ha : (D[k]'hlt).toNat < 128
            · rw [decode_ascii D k hlt ha] at hc; exact hd hc
            · have := (decode_high D k hlt (by omega)).1
              unfold isDg at hc; omega
          obtain ⟨r, hr⟩ : ∃ r : Int, ((Utf8.decode D k).1 : Int) = r := ⟨_, rfl⟩
          obtain ⟨p, hp⟩ : ∃ p : Nat, k + (Utf8.decode D k).2 = p := ⟨_, rfl⟩
          rw [hr, hp] at hnx
          rw [hr] at hrd
          go_wp2_with (go_at_call 76; refine (dg_no r _ hrd).mono ?_; rintro e w' ⟨rfl, rfl⟩)
          go_ret2
          exact ⟨by rw [hN]; rfl, iter_bel w D p⟩
      · obtain rfl : k = D.size := by omega
        have hnx : ∀ ty, (Instr.next (.pointer (some ⟨w.heap.size, 0, none⟩)) true ty).run Tryz.prog (w.iter D D.size) = _ := fun ty => run_next_end w D D.size ty hlt
        have hft : (strL D).take D.size = strL D := List.take_of_length_le (by rw [strL_length]; exact Nat.le_refl _)
        rw [hft] at hdg hV18
        rw [hft]
        obtain ⟨V, hVe⟩ : ∃ V, valL (strL D) = V := ⟨_, rfl⟩
        rw [hVe] at hV18
        rw [hVe]
        have hp18 : (10 : Nat) ^ 18 = 1000000000000000000 := by decide
        rw [hp18] at hV18
        have e5 : IntKind.i64.wrap (-(V : Int)) = -(V : Int) := wi_of24 (by omega) (by omega)
        cases m with
        | true =>
          go_wp2_with fail
          go_ret2
          exact ⟨by rw [hall hdg, hVe]; simp [ansN, e5], iter_bel w D _⟩
        | false =>
          go_wp2_with fail
          go_ret2
          exact ⟨by rw [hall hdg, hVe]; simp [ansN], iter_bel w D _⟩
end Go.Proofs.YtdcaojiiaocnaaaGreatDoor
