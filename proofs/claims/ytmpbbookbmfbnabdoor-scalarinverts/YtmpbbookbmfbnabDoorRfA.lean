import Derived.Test.YtmpbbookbmfbnabDoorScE
namespace Go.Proofs.YtmpbbookbmfbnabDoor
open Go.RowKit

/-! The document's numbers: lists of digits to the base 256. -/
def I64 (l : List Int) : List Value := l.map (Value.int .i64)
@[simp] theorem I64_length (l : List Int) : (I64 l).length = l.length := by simp [I64]
theorem I64_at (l : List Int) (i : Nat) (h : i < l.length) : (I64 l)[i]? = some (.int .i64 (l.getD i 0)) := by
  unfold I64
  rw [List.getElem?_map, List.getD_eq_getElem?_getD, List.getElem?_eq_getElem h]; rfl
theorem I64_set (l : List Int) (i : Nat) (x : Int) : (I64 l).set i (.int .i64 x) = I64 (l.set i x) := by simp [I64, List.map_set]
theorem I64_one (l : List Int) : ∀ v ∈ I64 l, v.oneCell' = true := by
  intro v hv; simp only [I64, List.mem_map] at hv; obtain ⟨a, _, rfl⟩ := hv; rfl
theorem I64_snoc (l : List Int) (x : Int) : I64 l ++ [.int .i64 x] = I64 (l ++ [x]) := by simp [I64]
/-- a slice that tells the list l -/
structure NS (w : World) (v : Value) (l : List Int) : Prop where
  ex : ∃ b off cap, v = .slice (some ⟨b, off, none⟩) l.length cap ∧ l.length ≤ cap ∧ cap ≤ maxLen ∧ b < w.heap.size ∧ ∀ i, i < l.length → w.cell? ⟨b, off + i, none⟩ = some (.int .i64 (l.getD i 0))
theorem NS.later {w w' : World} {v : Value} {l : List Int} (h : NS w v l) (hb : Below w.heap.size w w') : NS w' v l := by
  obtain ⟨b, off, cap, e, h1, h2, h3, h4⟩ := h.ex
  exact ⟨b, off, cap, e, h1, h2, Nat.lt_of_lt_of_le h3 hb.size, fun i hi => (hb.cell (p := ⟨b, off + i, none⟩) h3).trans (h4 i hi)⟩
abbrev Own (w : World) (base : Nat) (v : Value) (l : List Int) : Prop := w.ownsRow base 3 1 v l.length (I64 l)
theorem NS.of {w : World} {base : Nat} {v : Value} {l : List Int} (h : Own w base v l) (hl : 0 < l.length) : NS w v l := by
  rcases h.2 with ⟨_, h0⟩ | ⟨g, cap, cur, rfl, hb, hg, hn, hm, _⟩
  · omega
  · refine ⟨g, 0, cap, rfl, hn, hm, blk_lt hg, fun i hi => ?_⟩
    rw [Nat.zero_add, h.cellAt i (by omega), I64_at l i hi]
theorem Own.later {w w' : World} {base : Nat} {v : Value} {l : List Int} (h : Own w base v l) (hb : Below w.heap.size w w') : Own w' base v l := own_later h hb
/-- the digits of a number, far behind too -/
theorem num_getD {l : List Int} (h : Dg 256 l) (i : Nat) : num 256 l / 256 ^ i % 256 = l.getD i 0 := by
  by_cases hi : i < l.length
  · have := dg_num 256 (by decide) l h
    rw [← dg_at 256 (by decide) l.length i _ hi, this]
  · have hb := num_bd 256 (by decide) l h
    have hp : (256 : Int) ^ l.length ≤ 256 ^ i := by
      obtain ⟨k, rfl⟩ : ∃ k, i = l.length + k := ⟨i - l.length, by omega⟩
      rw [Int.pow_add]
      have h1 : (0 : Int) < 256 ^ k := Int.pow_pos (by decide)
      have h2 : (0 : Int) < 256 ^ l.length := Int.pow_pos (by decide)
      have := Int.mul_le_mul_of_nonneg_left (show (1 : Int) ≤ 256 ^ k by omega) (Int.le_of_lt h2)
      omega
    rw [Int.ediv_eq_zero_of_lt hb.1 (by omega), List.getD_eq_getElem?_getD, List.getElem?_eq_none (by omega)]
    rfl
theorem next_dig (n : Int) (k : Nat) : n / 256 ^ k = 256 * (n / 256 ^ (k + 1)) + n / 256 ^ k % 256 := by
  have := (Int.emod_add_mul_ediv (n / 256 ^ k) 256).symm
  rw [ediv2 _ _ _ (Int.pow_pos (by decide)), ← Int.pow_succ] at this
  have h2 : n / 256 ^ k = n / 256 ^ k % 256 + 256 * (n / 256 ^ (k + 1)) := this
  omega
theorem far_zero {l : List Int} (h : Dg 256 l) (i : Nat) (hi : l.length ≤ i) : num 256 l / 256 ^ i = 0 := by
  have hb := num_bd 256 (by decide) l h
  have hp : (256 : Int) ^ l.length ≤ 256 ^ i := by
    obtain ⟨k, rfl⟩ : ∃ k, i = l.length + k := ⟨i - l.length, by omega⟩
    rw [Int.pow_add]
    have h1 : (0 : Int) < 256 ^ k := Int.pow_pos (by decide)
    have h2 : (0 : Int) < 256 ^ l.length := Int.pow_pos (by decide)
    have := Int.mul_le_mul_of_nonneg_left (show (1 : Int) ≤ 256 ^ k by omega) (Int.le_of_lt h2)
    omega
  exact Int.ediv_eq_zero_of_lt hb.1 (by omega)
set_option maxHeartbeats 1000000 in
set_option maxRecDepth 100000 in
theorem rAt_any (l : List Int) (v : Value) (i : Nat) (x : Int) (w : World) (h : NS w v l) (hx : l.getD i 0 = x) :
    Calls Tryd.prog 41 #[v, .int .i64 i] w fun r w' => r = .returned (.int .i64 x) ∧ w' = w := by
  subst hx
  obtain ⟨b, off, cap, rfl, h1, h2, h3, h4⟩ := h.ex
  by_cases hlt : i < l.length
  · have c0 := h4 i hlt
    have hlt' : (i : Int) < (l.length : Int) := by omega
    generalize l.getD i 0 = x at c0 ⊢
    clear h4 h
    generalize l.length = n at *
    go_enter Tryd.func41, Tryd.ntmps41
    go_wp2_with fail
    go_ret
    exact ⟨rfl, rfl⟩
  · have e : l.getD i 0 = 0 := by rw [List.getD_eq_getElem?_getD, List.getElem?_eq_none (by omega)]; rfl
    rw [e]
    have hlt' : ¬ (i : Int) < (l.length : Int) := by omega
    clear h4 h e
    generalize l.length = n at *
    go_enter Tryd.func41, Tryd.ntmps41
    go_wp2_with fail
    go_ret
    exact ⟨rfl, rfl⟩
def lng (l m : List Int) : Nat := if l.length < m.length then m.length else l.length
set_option maxHeartbeats 1000000 in
set_option maxRecDepth 100000 in
theorem rLonger_any (l m : List Int) (v u : Value) (w : World) (h : NS w v l) (k : NS w u m) :
    Calls Tryd.prog 43 #[v, u] w fun r w' => r = .returned (.int .i64 (lng l m : Nat)) ∧ w' = w := by
  obtain ⟨b, off, cap, rfl, -⟩ := h.ex
  obtain ⟨b', off', cap', rfl, -⟩ := k.ex
  clear h k
  unfold lng
  generalize l.length = n at *
  generalize m.length = n' at *
  by_cases hlt : n < n'
  · rw [if_pos hlt]
    have hlt' : (n : Int) < (n' : Int) := by omega
    go_enter Tryd.func43, Tryd.ntmps43
    go_wp2_with fail
    go_ret
    exact ⟨rfl, rfl⟩
  · rw [if_neg hlt]
    have hlt' : ¬ (n : Int) < (n' : Int) := by omega
    go_enter Tryd.func43, Tryd.ntmps43
    go_wp2_with fail
    go_ret
    exact ⟨rfl, rfl⟩
theorem lt_dig {X Y : Int} (m : Nat) (h : X / 256 ^ (m + 1) = Y / 256 ^ (m + 1)) (hne : X / 256 ^ m % 256 ≠ Y / 256 ^ m % 256) : decide (X / 256 ^ m % 256 < Y / 256 ^ m % 256) = decide (X < Y) := by
  have e1 := next_dig X m
  have e2 := next_dig Y m
  have hp : (0 : Int) < 256 ^ m := Int.pow_pos (by decide)
  have a1 := Int.emod_add_mul_ediv X (256 ^ m)
  have a2 := Int.emod_add_mul_ediv Y (256 ^ m)
  have b1 := Int.emod_nonneg X (show (256 : Int) ^ m ≠ 0 by omega)
  have b2 := Int.emod_nonneg Y (show (256 : Int) ^ m ≠ 0 by omega)
  have c1 := Int.emod_lt_of_pos X hp
  have c2 := Int.emod_lt_of_pos Y hp
  rw [h] at e1
  generalize Y / 256 ^ (m + 1) = Q at *
  generalize X / 256 ^ m % 256 = x at *
  generalize Y / 256 ^ m % 256 = y at *
  generalize X / 256 ^ m = A at *
  generalize Y / 256 ^ m = B at *
  generalize X % 256 ^ m = r at *
  generalize Y % 256 ^ m = s at *
  generalize (256 : Int) ^ m = P at *
  by_cases hxy : x < y
  · rw [decide_eq_true hxy, decide_eq_true]
    have : P * (A + 1) ≤ P * B := Int.mul_le_mul_of_nonneg_left (by omega) (by omega)
    rw [Int.mul_add, Int.mul_one] at this
    omega
  · rw [decide_eq_false hxy, decide_eq_false]
    have : P * (B + 1) ≤ P * A := Int.mul_le_mul_of_nonneg_left (by omega) (by omega)
    rw [Int.mul_add, Int.mul_one] at this
    omega
set_option maxHeartbeats 1000000 in
set_option maxRecDepth 100000 in
theorem rLess_any (l m : List Int) (v u : Value) (w : World) (h : NS w v l) (k : NS w u m) (hl : l.length < 1000000) (hm : m.length < 1000000) (hdl : Dg 256 l) (hdm : Dg 256 m) :
    Calls Tryd.prog 38 #[v, u] w fun r w' => r = .returned (.bool (decide (num 256 l < num 256 m))) ∧ w' = w := by
  have hN : lng l m < 1000000 := by unfold lng; split <;> omega
  have s1 : num 256 l / 256 ^ (lng l m) = 0 := far_zero hdl _ (by unfold lng; split <;> omega)
  have s2 : num 256 m / 256 ^ (lng l m) = 0 := far_zero hdm _ (by unfold lng; split <;> omega)
  have HV := hide h
  have HU := hide k
  have HDL := hide (fun i => num_getD hdl i)
  have HDM := hide (fun i => num_getD hdm i)
  have HS := hide (s1.trans s2.symm)
  have HN := hide hN
  clear h k hl hm hdl hdm s1 s2
  go_enter Tryd.func38, Tryd.ntmps38
  go_wp2_with fail
  refine (rLonger_any l m v u _ (unhide HV) (unhide HU)).mono ?_
  rintro r w1 ⟨rfl, rfl⟩
  generalize lng l m = N at *
  have q1 : IntKind.i64.wrap ((N : Int) - 1) = (N : Int) - 1 := by rw [IntKind.wrap_i64]; omega
  go_wp2_with fail
  go_loopw [5] (fun i wr => ∃ (k : Nat), k ≤ N ∧ i = .int .i64 ((k : Int) - 1) ∧ num 256 l / 256 ^ k = num 256 m / 256 ^ k ∧ wr = w1) (fun i _ => (intOf i + 1).toNat)
  case atStart => exact ⟨N, Nat.le_refl _, rfl, unhide HS, rfl⟩
  case round =>
    obtain ⟨k, hk, rfl, hd, rfl⟩ := hrel
    have HD := hide hd
    clear hd q1
    by_cases hlt : 0 < k
    · obtain ⟨j, rfl⟩ : ∃ j, k = j + 1 := ⟨k - 1, by omega⟩
      have e1 : ((j + 1 : Nat) : Int) - 1 = (j : Int) := by omega
      rw [e1]
      clear e1 hlt
      have hj : (0 : Int) ≤ (j : Int) := by omega
      have x1 := unhide HDL j
      have x2 := unhide HDM j
      generalize hx : l.getD j 0 = x at x1
      generalize hy : m.getD j 0 = y at x2
      have HX := hide hx
      have HY := hide hy
      have H1 := hide x1
      have H2 := hide x2
      clear hx hy x1 x2
      go_wp2_with fail
      refine (rAt_any l v j x _ (unhide HV) (unhide HX)).mono ?_
      rintro r w2 ⟨rfl, rfl⟩
      go_wp2_with fail
      refine (rAt_any m u j y _ (unhide HU) (unhide HY)).mono ?_
      rintro r w3 ⟨rfl, rfl⟩
      by_cases hq : x = y
      · have hqb : (x != y) = false := by simp [hq]
        have HQ := hide hq
        clear hq
        go_wp2_with fail
        go_roundw
        case rel =>
          refine ⟨j, by omega, by go_num, ?_, by trivial⟩
          rw [next_dig _ j, next_dig (num 256 m) j, unhide HD, unhide H1, unhide H2, unhide HQ]
        case measure => simp [intOf]
      · have hqb : (x != y) = true := by simp [hq]
        have hlt2 := lt_dig j (unhide HD) (by rw [unhide H1, unhide H2]; exact hq)
        rw [unhide H1, unhide H2] at hlt2
        have HQ := hide hlt2
        clear hq hlt2
        go_wp2_with fail
        refine (rAt_any l v j x _ (unhide HV) (unhide HX)).mono ?_
        rintro r w2 ⟨rfl, rfl⟩
        go_wp2_with fail
        refine (rAt_any m u j y _ (unhide HU) (unhide HY)).mono ?_
        rintro r w3 ⟨rfl, rfl⟩
        go_wp2_with fail
        go_ret
        rw [unhide HQ]
        exact ⟨rfl, rfl⟩
    · have hk0 : k = 0 := by omega
      subst hk0
      have hE := unhide HD
      rw [Int.pow_zero, Int.ediv_one, Int.ediv_one] at hE
      clear hk hlt
      go_wp2_with fail
      go_ret
      rw [hE, decide_eq_false (Int.lt_irrefl _)]
      exact ⟨rfl, rfl⟩
end Go.Proofs.YtmpbbookbmfbnabDoor
