import Derived.Test.YtfjnpbiihndhhaaDoorFldE
namespace Go.Proofs.YtfjnpbiihndhhaaDoor
open Go.RowKit

theorem Lc.wd {x : Int} (h : Lc x) : Wd x := by unfold Lc at h; unfold Wd; omega
set_option maxHeartbeats 400000 in
set_option maxRecDepth 100000 in
theorem mul_any (x y : List Int) (a b : Int) (w : World) (hx : Rep x a) (hy : Rep y b) :
    Calls Tryd.prog 7 #[.agg (U64 x).toArray, .agg (U64 y).toArray] w fun r w' => r = .returned (.agg (U64 (El (a * b))).toArray) ∧ Below w.heap.size w w' := by
  have HX := hide hx
  have HY := hide hy
  clear hx hy
  go_enter Tryd.func7, Tryd.ntmps7
  go_wp2_with (first
    | refine wpList_load_row rfl 24 (.tmp 2) rfl _ rfl 24 _ (0, 0) _ (nw3_0 w _ _ _ _ _ _) Tryd.underlying24 rfl (unhide HX).sz ?_
    | refine wpList_load_row rfl 24 (.tmp 3) rfl _ rfl 24 _ (0, 0) _ (nw3_1 w _ _ _ _ _ _) Tryd.underlying24 rfl (unhide HY).sz ?_)
  refine (product_any x y a b _ (unhide HX) (unhide HY)).mono ?_
  rintro r w1 ⟨p0, p1, p2, p3, p4, rfl, hp, hbel⟩
  obtain ⟨hx, hy, hr, hb, hs⟩ := after3 hbel
  have HP := hide hp
  clear hbel hp
  go_wp2_with fail
  refine (reduced_rep _ _ _ _ _ (a * b) _ (unhide HP).1.wd (unhide HP).2.1.wd (unhide HP).2.2.1.wd (unhide HP).2.2.2.1.wd (unhide HP).2.2.2.2.1.wd (unhide HP).2.2.2.2.2).mono ?_
  rintro r w3 ⟨rfl, hbel⟩
  replace hr := keep hr hbel
  have hs3 := hbel.size
  replace hb := bnext hb (by omega) hbel
  clear hbel
  go_wp2_with (refine wpList_store_row rfl 24 _ _ rfl _ _ rfl rfl 24 _ hr (El_sz _) (by rfl) (El_all _) ?_)
  refine bodyPost_ret (results_cell_row rfl _ _ _ 24 _ (0, 0) _ rfl (setRow_heap _ _ _ _ _ _ hr) Tryd.underlying24 rfl (El_sz _)) rfl ?_
  exact ⟨rfl, below_setRow hb (by omega) _⟩

/-! squares: so many times squared. -/
def sqN (a : Int) : Nat → Int
  | 0 => a
  | n + 1 => sqN a n * sqN a n
theorem sqN_pow (a : Int) (n : Nat) : sqN a n = a ^ (2 ^ n) := by
  induction n with
  | zero => show a = a ^ 1; rw [Int.pow_succ, Int.pow_zero, Int.one_mul]
  | succ n ih => rw [sqN, ih, ← Int.pow_add]; congr 1; rw [Nat.pow_succ]; omega
def SqI (a : Int) (k : Nat) (l0 l1 l2 l3 l4 : Int) : Prop := Lc l0 ∧ Lc l1 ∧ Lc l2 ∧ Lc l3 ∧ Lc l4 ∧ val5 l0 l1 l2 l3 l4 % PP = sqN a k % PP
set_option maxHeartbeats 800000 in
set_option maxRecDepth 100000 in
theorem squares_any (x : List Int) (a : Int) (n : Nat) (w : World) (hx : Rep x a) (hn : n ≤ 1000) :
    Calls Tryd.prog 25 #[.agg (U64 x).toArray, .int .i64 n] w fun r w' => r = .returned (.agg (U64 (El (sqN a n))).toArray) ∧ Below w.heap.size w w' := by
  have HX := hide hx
  clear hx
  go_enter Tryd.func25, Tryd.ntmps25
  go_wp2_with (refine wpList_load_row rfl 24 _ rfl _ rfl 24 _ (0, 0) _ (nw2_0 w _ _ _ _) Tryd.underlying24 rfl (unhide HX).sz ?_)
  refine (carried_rep x a _ (unhide HX)).mono ?_
  rintro r w1 ⟨p0, p1, p2, p3, p4, rfl, hp, hbel⟩
  obtain ⟨hx, hr, hb, hs⟩ := after2 hbel
  have HP := hide hp
  clear hbel hp
  go_wp2_with fail
  clear hx
  go_loopw [5, 6, 7, 8, 9, 19] (fun v5 v6 v7 v8 v9 i wr => ∃ (k : Nat) (q0 q1 q2 q3 q4 : Int), k ≤ n ∧ v5 = .int .u64 q0 ∧ v6 = .int .u64 q1 ∧ v7 = .int .u64 q2 ∧ v8 = .int .u64 q3 ∧ v9 = .int .u64 q4 ∧ i = .int .i64 k ∧ SqI a k q0 q1 q2 q3 q4 ∧ wr.heap[w.heap.size + 1]? = some (.cells (U64 [0, 0, 0, 0, 0]).toArray 24 (0, 0)) ∧ Below w.heap.size w wr) (fun _ _ _ _ _ i _ => n - (intOf i).toNat)
  case atStart => exact ⟨0, p0, p1, p2, p3, p4, by omega, rfl, rfl, rfl, rfl, rfl, rfl, unhide HP, hr, hb⟩
  case round =>
    obtain ⟨k, q0, q1, q2, q3, q4, hk, rfl, rfl, rfl, rfl, rfl, rfl, hq, hr, hb⟩ := hrel
    have HQ := hide hq
    clear hq
    by_cases hlt : k < n
    · go_wp2_with fail
      refine (square_any q0 q1 q2 q3 q4 _ (unhide HQ).1 (unhide HQ).2.1 (unhide HQ).2.2.1 (unhide HQ).2.2.2.1 (unhide HQ).2.2.2.2.1).mono ?_
      rintro r w2 ⟨t0, t1, t2, t3, t4, rfl, ht, hbel⟩
      go_wp2
      go_roundw
      case rel => exact ⟨k + 1, t0, t1, t2, t3, t4, by omega, rfl, rfl, rfl, rfl, rfl, by go_num, ⟨ht.1, ht.2.1, ht.2.2.1, ht.2.2.2.1, ht.2.2.2.2.1, ht.2.2.2.2.2.trans (cg_mul (unhide HQ).2.2.2.2.2 (unhide HQ).2.2.2.2.2)⟩, keep hr hbel, bnext hb hb.size hbel⟩
      case measure => simp [intOf]; omega
    · have hkn : k = n := by omega
      subst hkn
      go_wp2_with fail
      refine (reduced_rep _ _ _ _ _ (sqN a k) _ (unhide HQ).1.wd (unhide HQ).2.1.wd (unhide HQ).2.2.1.wd (unhide HQ).2.2.2.1.wd (unhide HQ).2.2.2.2.1.wd (unhide HQ).2.2.2.2.2).mono ?_
      rintro r w3 ⟨rfl, hbel⟩
      replace hr := keep hr hbel
      replace hb := bnext hb hb.size hbel
      clear hbel
      go_wp2_with (refine wpList_store_row rfl 24 _ _ rfl _ _ rfl rfl 24 _ hr (El_sz _) (by rfl) (El_all _) ?_)
      refine bodyPost_ret (results_cell_row rfl _ _ _ 24 _ (0, 0) _ rfl (setRow_heap _ _ _ _ _ _ hr) Tryd.underlying24 rfl (El_sz _)) rfl ?_
      exact ⟨rfl, below_setRow hb (by omega) _⟩
end Go.Proofs.YtfjnpbiihndhhaaDoor
