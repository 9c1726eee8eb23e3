import Derived.Test.YteggllmgjlafnaaPwrW
import Derived.Test.YteggllmgjlafnaaInvM
namespace Go.Proofs.Yteggllmgjlafnaa
open Go.RowKit

theorem sz32 {l : List Int} (h : l.length = 32) : (Try.prog.info? 34).map (·.size) = some (U8 l).toArray.size := by rw [Try.sz32]; simp [h]
theorem isB_pwr (lo hi : Int) (h0 : 0 ≤ lo) (h1 : lo ≤ 255) (h2 : 0 ≤ hi) (h3 : hi ≤ 255) : IsB (pwr lo hi) := by
  intro x hx
  simp only [pwr, List.mem_cons, List.mem_append, List.mem_replicate, List.not_mem_nil, or_false] at hx
  rcases hx with rfl | ⟨-, rfl⟩ | rfl <;> omega
theorem isB_lit (n : Int) (h : 0 ≤ n ∧ n ≤ 255) : IsB (n :: List.replicate 31 0) := by
  intro x hx
  simp only [List.mem_cons, List.mem_replicate] at hx
  rcases hx with rfl | ⟨-, rfl⟩ <;> omega
theorem isB_zero (n : Nat) : IsB (List.replicate n 0) := by
  intro x hx
  simp only [List.mem_replicate] at hx
  obtain ⟨-, rfl⟩ := hx
  omega
theorem numB_zero (n : Nat) : numB (List.replicate n 0) = 0 := by
  induction n with
  | zero => rfl
  | succ n ih => rw [List.replicate_succ, numB, ih]; rfl
theorem numB_app (p q : List Int) : numB (p ++ q) = numB p + 256 ^ p.length * numB q := by
  induction p with
  | nil => simp [numB]
  | cons x t ih => rw [List.cons_append, numB, ih, numB, List.length_cons, Nat.pow_succ, Nat.mul_add, Nat.mul_comm (256 ^ t.length) 256, Nat.mul_assoc, Nat.add_assoc]
theorem pow_p1 {a : Int} (h : a % PP ≠ 0) : a ^ numB (pwr 236 127) % PP = 1 % PP := by
  rw [numB_inv]; exact fermatZ h
theorem pow_sum (a : Int) (m n r : Nat) (h : m + n = r) : a ^ m * a ^ n % PP = a ^ r % PP := by rw [← Int.pow_add, h]
theorem pow_lit1 (a : Int) : a ^ numB (1 :: List.replicate 31 0) % PP = a % PP := by
  rw [numB, numB_zero, show (1 : Int).toNat + 256 * 0 = 1 from rfl, pow_one']
theorem pow_lit0 (a : Int) : a ^ numB (List.replicate 32 0) % PP = 1 % PP := by
  rw [numB_zero, Int.pow_zero]
theorem isZero_t (x : List Int) (a : Int) (w : World) (hx : Rep x a) (h : a % PP = 0) :
    Calls Try.prog 17 #[.agg (U64 x).toArray] w fun r w' => r = .returned (.bool true) ∧ Below w.heap.size w w' := by
  have := isZero_any x a w hx
  rwa [decide_eq_true h] at this
theorem isZero_f (x : List Int) (a : Int) (w : World) (hx : Rep x a) (h : a % PP ≠ 0) :
    Calls Try.prog 17 #[.agg (U64 x).toArray] w fun r w' => r = .returned (.bool false) ∧ Below w.heap.size w w' := by
  have := isZero_any x a w hx
  rwa [decide_eq_false h] at this
theorem isB_app {p q : List Int} (hp : IsB p) (hq : IsB q) : IsB (p ++ q) := by
  intro z hz
  rcases List.mem_append.1 hz with h | h
  · exact hp z h
  · exact hq z h
/-! A list that is filled up. -/
theorem fill_len (P : List Int) (k : Nat) (h : P.length = k) (hk : k ≤ 32) : (P ++ List.replicate (32 - k) 0).length = 32 := by simp; omega
theorem fill_set (P : List Int) (k : Nat) (v : Int) (h : P.length = k) (hk : k < 32) : (P ++ List.replicate (32 - k) 0).set k v = (P ++ [v]) ++ List.replicate (32 - (k + 1)) 0 := by
  obtain ⟨m, hm⟩ : ∃ m, 32 - k = m + 1 := ⟨31 - k, by omega⟩
  rw [hm, show 32 - (k + 1) = m by omega, List.replicate_succ, List.set_append_right _ _ (by omega), h, Nat.sub_self, List.set_cons_zero, List.append_assoc]
  rfl
theorem take_one (A : List Int) (k : Nat) (h : k < A.length) : A.take k ++ [A.getD k 0] = A.take (k + 1) := by
  rw [List.take_add_one, List.getD_eq_getElem?_getD, List.getElem?_eq_getElem h]; rfl
structure SumI (A B : List Int) (w w0 : World) (g : Nat) (k : Nat) (P : List Int) (wr : World) : Prop where
  hA : Arr wr (w.heap.size + 1) 31 (U8 A)
  hB : Arr wr (w.heap.size + 1 + 1) 31 (U8 B)
  e9 : Arr wr g 34 (U8 (A.take k ++ List.replicate (32 - k) 0))
  e10 : Arr wr (g + 1) 34 (U8 (B.take k ++ List.replicate (32 - k) 0))
  e11 : Arr wr (g + 1 + 1) 34 (U8 (P ++ List.replicate (32 - k) 0))
  fr : Below g w0 wr
set_option maxHeartbeats 20000000 in
set_option maxRecDepth 100000 in
theorem inverse_any (x A B : List Int) (a : Int) (w : World) (hx : Rep x a) (hla : A.length = 16) (hlb : B.length = 16) (hA : IsB A) (hB : IsB B) :
    Calls Try.prog 4 #[.agg (U64 x).toArray, .agg (U8 A).toArray, .agg (U8 B).toArray] w fun r w' => r = .returned (.bool true) ∧ Below w.heap.size w w' := by
  have HX := hide hx
  have HLA := hide hla
  have HLB := hide hlb
  have HBA := hide hA
  have HBB := hide hB
  clear hx hla hlb hA hB
  go_enter Try.func4, Try.ntmps4
  go_wp2_with fail
  refine (small_any 1 _ (by unfold Wd; omega)).mono ?_
  rintro r w1 ⟨rfl, hbel⟩
  obtain ⟨hx, hA, hB, hb, hs1⟩ := after3 hbel
  clear hbel
  have hx0 := keep hx (afterS (z := #[Value.int IntKind.u64 0, Value.int IntKind.u64 0, Value.int IntKind.u64 0, Value.int IntKind.u64 0, Value.int IntKind.u64 0]) (t := 24) (c := (U64 (El 1)).toArray) (Below.refl _ _)).2.1
  go_wp2_with (first
    | refine wpList_store_row rfl 24 _ _ rfl _ _ rfl rfl 24 _ (new1 _ _ _).2.1 (El_sz _) (by rfl) (El_all _) ?_
    | refine wpList_load_row rfl 24 (.tmp 3) rfl _ rfl 24 _ (0, 0) _ hx0 Try.underlying24 rfl (unhide HX).sz ?_)
  refine (invert_any x a _ (unhide HX)).mono ?_
  rintro r w2 ⟨rfl, hbel⟩
  obtain ⟨h7, hbel2, hs2⟩ := afterS hbel
  replace hx := keep hx hbel2
  replace hA := keep hA hbel2
  replace hB := keep hB hbel2
  replace hb := bnext hb hb.size hbel2
  clear hbel hbel2 hx0
  have hx0 := keep hx (afterS (z := #[Value.int IntKind.u64 0, Value.int IntKind.u64 0, Value.int IntKind.u64 0, Value.int IntKind.u64 0, Value.int IntKind.u64 0]) (t := 24) (c := (U64 (El (a ^ eInv))).toArray) (Below.refl _ _)).2.1
  go_wp2_with (first
    | refine wpList_store_row rfl 24 _ _ rfl _ _ rfl rfl 24 _ (new1 _ _ _).2.1 (El_sz _) (by rfl) (El_all _) ?_
    | refine wpList_load_row rfl 24 (.tmp 3) rfl _ rfl 24 _ (0, 0) _ hx0 Try.underlying24 rfl (unhide HX).sz ?_)
  by_cases hz : a % PP = 0
  · have HZ := hide hz
    clear hz
    refine (isZero_t x a _ (unhide HX) (unhide HZ)).mono ?_
    rintro r w3 ⟨rfl, hbel⟩
    obtain ⟨h8, hbel2, -⟩ := afterS hbel
    replace hb := bnext hb hb.size hbel2
    clear hbel hbel2 hx0 hx hA hB h7
    go_wp2_with (refine wpList_load_row rfl 24 (.tmp 8) rfl _ rfl 24 _ (0, 0) _ h8 Try.underlying24 rfl (El_sz _) ?_)
    refine (isZero_t _ (a ^ eInv) _ (Rep.El _) (inv_zero (unhide HZ))).mono ?_
    rintro r w4 ⟨rfl, hbel⟩
    replace hb := bnext hb hb.size hbel
    clear hbel
    go_wp2_with fail
    refine (counts_any _).mono ?_
    rintro r w5 ⟨rfl, hbel⟩
    replace hb := bnext hb hb.size hbel
    go_wp2_with fail
    go_ret
    exact ⟨rfl, hb⟩
  · have HNZ := hide hz
    clear hz
    refine (isZero_f x a _ (unhide HX) (unhide HNZ)).mono ?_
    rintro r w3 ⟨rfl, hbel⟩
    obtain ⟨h8, hbel2, -⟩ := afterS hbel
    replace hx := keep hx hbel2
    replace h7 := keep h7 hbel2
    replace hA := keep hA hbel2
    replace hB := keep hB hbel2
    replace hb := bnext hb hb.size hbel2
    have l7 := blk_lt h7
    have l8 := blk_lt h8
    have hs3 : w.heap.size + 2 < w3.heap.size := by have := hbel2.size; omega
    clear hbel hbel2 hx0
    go_wp2_with fail
    replace hb := hb.drew
    refine wp_region_held_drew (S := (fun w' => w'.heap[w.heap.size]? = some (.cells (U64 x).toArray 24 (0, 0)) ∧ w'.heap[w1.heap.size]? = some (.cells (U64 (El (1))).toArray 24 (0, 0)) ∧ w'.heap[w2.heap.size]? = some (.cells (U64 (El (a ^ eInv))).toArray 24 (0, 0)) ∧ w'.heap[w.heap.size + 1]? = some (.cells (U8 A).toArray 31 (0, 0)) ∧ w'.heap[w.heap.size + 1 + 1]? = some (.cells (U8 B).toArray 31 (0, 0)))) (by kernel_rfl) ⟨hx, h7, h8, hA, hB⟩ (fun hHeld => ?_)
    refine wpAnyH_take (i := 0) (oi := _) (v := .agg (U64 x).toArray) rfl (by kernel_rfl) (by kernel_rfl) (by kernel_rfl) (fun _ _ _ h => h) (yieldsIf_load_mid (by rfl) _ _ rfl _ _ rfl _ _ (fun _ h => blk_range h.1) Try.underlying24 rfl (by simpa using (unhide HX).sz)) hHeld ?_
    simp [Act.put]
    refine wpAnyH_take (i := 1) (oi := _) (v := .agg (U64 (El (a ^ eInv))).toArray) rfl (by kernel_rfl) (by kernel_rfl) (by kernel_rfl) (fun _ _ _ h => h) (yieldsIf_load_mid (by rfl) _ _ rfl _ _ rfl _ _ (fun _ h => blk_range h.2.2.1) Try.underlying24 rfl (by simpa using (Rep.El (a ^ eInv)).sz)) hHeld ?_
    simp [Act.put]
    refine wpAnyH_take (i := 3) (oi := _) (v := .agg (U64 (El (1))).toArray) rfl (by kernel_rfl) (by kernel_rfl) (by kernel_rfl) (fun _ _ _ h => h) (yieldsIf_load_mid (by rfl) _ _ rfl _ _ rfl _ _ (fun _ h => blk_range h.2.1) Try.underlying24 rfl (by simpa using (Rep.El (1)).sz)) hHeld ?_
    simp [Act.put]
    refine wpAnyH_ready (rs := [2]) (by kernel_rfl) (by simp) ?_
    refine AllReadyH.cons rfl (fun K hK => ?_) AllReadyH.nil
    go_simp
    refine (mul_any x (El (a ^ eInv)) a (a ^ eInv) _ (unhide HX) (Rep.El (a ^ eInv))).mono ?_
    rintro e v1 ⟨rfl, hbel⟩
    generalize hE1 : El (a * (a ^ eInv)) = E1
    have HE1 := hide hE1
    clear hE1
    replace hb := bnext hb hb.size hbel
    have hC := And.intro (keep hHeld.1 hbel) (And.intro (keep hHeld.2.1 hbel) (And.intro (keep hHeld.2.2.1 hbel) (And.intro (keep hHeld.2.2.2.1 hbel) (keep hHeld.2.2.2.2 hbel))))
    refine hK.out _ _ hC (fun hHeld => ?_)
    clear hK K hbel hC
    have hq1 : ∀ w, (Op.equalIn 10000 24 (.agg (U64 E1).toArray) (.agg (U64 (El (1))).toArray)).run Try.prog w = .ok true w := fun w => eqT (Eq.trans (Eq.symm (unhide HE1)) (Eq.trans (El_congr (a := (a * (a ^ eInv))) (b := (1)) (inv_mul (unhide HNZ))) rfl)) (rep_is (unhide HE1)).len w
    refine wpAnyH_take (i := 4) (oi := _) (v := .bool false) rfl (by kernel_rfl) (by kernel_rfl) (by kernel_rfl) (fun _ _ _ h => h) (Or.inl ⟨by rfl, fun w hSw => by go_simp⟩) hHeld ?_
    simp [Act.put]
    clear hq1
    refine wpAnyH_take (i := 5) (oi := _) (v := .bool false) rfl (by kernel_rfl) (by kernel_rfl) (by kernel_rfl) (fun _ _ _ h => h) (Or.inl ⟨by rfl, fun w hSw => by go_simp⟩) hHeld ?_
    simp [Act.put]
    refine wpAnyH_take (i := 6) (oi := _) (v := .agg (U64 x).toArray) rfl (by kernel_rfl) (by kernel_rfl) (by kernel_rfl) (fun _ _ _ h => h) (yieldsIf_load_mid (by rfl) _ _ rfl _ _ rfl _ _ (fun _ h => blk_range h.1) Try.underlying24 rfl (by simpa using (unhide HX).sz)) hHeld ?_
    simp [Act.put]
    refine wpAnyH_take (i := 9) (oi := _) (v := .agg (U64 (El (1))).toArray) rfl (by kernel_rfl) (by kernel_rfl) (by kernel_rfl) (fun _ _ _ h => h) (yieldsIf_load_mid (by rfl) _ _ rfl _ _ rfl _ _ (fun _ h => blk_range h.2.1) Try.underlying24 rfl (by simpa using (Rep.El (1)).sz)) hHeld ?_
    simp [Act.put]
    refine wpAnyH_ready (rs := [7]) (by kernel_rfl) (by simp) ?_
    refine AllReadyH.cons rfl (fun K hK => ?_) AllReadyH.nil
    go_simp
    refine (power_any 236 127 _).mono ?_
    rintro e v2 ⟨rfl, hbel⟩
    replace hb := bnext hb hb.size hbel
    have hC := And.intro (keep hHeld.1 hbel) (And.intro (keep hHeld.2.1 hbel) (And.intro (keep hHeld.2.2.1 hbel) (And.intro (keep hHeld.2.2.2.1 hbel) (keep hHeld.2.2.2.2 hbel))))
    refine hK.out _ _ hC (fun hHeld => ?_)
    clear hK K hbel hC
    refine wpAnyH_ready (rs := [8]) (by kernel_rfl) (by simp) ?_
    refine AllReadyH.cons rfl (fun K hK => ?_) AllReadyH.nil
    go_simp
    refine (pow_any x (pwr 236 127) a _ (unhide HX) rfl (isB_pwr _ _ (by decide) (by decide) (by decide) (by decide))).mono ?_
    rintro e v3 ⟨rfl, hbel⟩
    generalize hE3 : El (a ^ numB (pwr 236 127)) = E3
    have HE3 := hide hE3
    clear hE3
    replace hb := bnext hb hb.size hbel
    have hC := And.intro (keep hHeld.1 hbel) (And.intro (keep hHeld.2.1 hbel) (And.intro (keep hHeld.2.2.1 hbel) (And.intro (keep hHeld.2.2.2.1 hbel) (keep hHeld.2.2.2.2 hbel))))
    refine hK.out _ _ hC (fun hHeld => ?_)
    clear hK K hbel hC
    have hq2 : ∀ w, (Op.equalIn 10000 24 (.agg (U64 E3).toArray) (.agg (U64 (El (1))).toArray)).run Try.prog w = .ok true w := fun w => eqT (Eq.trans (Eq.symm (unhide HE3)) (Eq.trans (El_congr (a := (a ^ numB (pwr 236 127))) (b := (1)) (pow_p1 (unhide HNZ))) rfl)) (rep_is (unhide HE3)).len w
    refine wpAnyH_take (i := 10) (oi := _) (v := .bool false) rfl (by kernel_rfl) (by kernel_rfl) (by kernel_rfl) (fun _ _ _ h => h) (Or.inl ⟨by rfl, fun w hSw => by go_simp⟩) hHeld ?_
    simp [Act.put]
    clear hq2
    refine wpAnyH_take (i := 11) (oi := _) (v := .bool false) rfl (by kernel_rfl) (by kernel_rfl) (by kernel_rfl) (fun _ _ _ h => h) (Or.inl ⟨by rfl, fun w hSw => by go_simp⟩) hHeld ?_
    simp [Act.put]
    refine wpAnyH_take (i := 12) (oi := _) (v := .bool false) rfl (by kernel_rfl) (by kernel_rfl) (by kernel_rfl) (fun _ _ _ h => h) (Or.inl ⟨by rfl, fun w hSw => by go_simp⟩) hHeld ?_
    simp [Act.put]
    refine wpAnyH_take (i := 13) (oi := _) (v := .agg (U64 (El (a ^ eInv))).toArray) rfl (by kernel_rfl) (by kernel_rfl) (by kernel_rfl) (fun _ _ _ h => h) (yieldsIf_load_mid (by rfl) _ _ rfl _ _ rfl _ _ (fun _ h => blk_range h.2.2.1) Try.underlying24 rfl (by simpa using (Rep.El (a ^ eInv)).sz)) hHeld ?_
    simp [Act.put]
    refine wpAnyH_take (i := 15) (oi := _) (v := .agg (U64 x).toArray) rfl (by kernel_rfl) (by kernel_rfl) (by kernel_rfl) (fun _ _ _ h => h) (yieldsIf_load_mid (by rfl) _ _ rfl _ _ rfl _ _ (fun _ h => blk_range h.1) Try.underlying24 rfl (by simpa using (unhide HX).sz)) hHeld ?_
    simp [Act.put]
    refine wpAnyH_take (i := 16) (oi := _) (v := .agg (U64 (El (a ^ eInv))).toArray) rfl (by kernel_rfl) (by kernel_rfl) (by kernel_rfl) (fun _ _ _ h => h) (yieldsIf_load_mid (by rfl) _ _ rfl _ _ rfl _ _ (fun _ h => blk_range h.2.2.1) Try.underlying24 rfl (by simpa using (Rep.El (a ^ eInv)).sz)) hHeld ?_
    simp [Act.put]
    refine wpAnyH_ready (rs := [14]) (by kernel_rfl) (by simp) ?_
    refine AllReadyH.cons rfl (fun K hK => ?_) AllReadyH.nil
    go_simp
    refine (invert_any (El (a ^ eInv)) (a ^ eInv) _ (Rep.El (a ^ eInv))).mono ?_
    rintro e v4 ⟨rfl, hbel⟩
    generalize hE4 : El ((a ^ eInv) ^ eInv) = E4
    have HE4 := hide hE4
    clear hE4
    replace hb := bnext hb hb.size hbel
    have hC := And.intro (keep hHeld.1 hbel) (And.intro (keep hHeld.2.1 hbel) (And.intro (keep hHeld.2.2.1 hbel) (And.intro (keep hHeld.2.2.2.1 hbel) (keep hHeld.2.2.2.2 hbel))))
    refine hK.out _ _ hC (fun hHeld => ?_)
    clear hK K hbel hC
    refine wpAnyH_ready (rs := [17]) (by kernel_rfl) (by simp) ?_
    refine AllReadyH.cons rfl (fun K hK => ?_) AllReadyH.nil
    go_simp
    refine (select_true x (El (a ^ eInv)) a _ (unhide HX)).mono ?_
    rintro e v5 ⟨rfl, hbel⟩
    generalize hE5 : El (a) = E5
    have HE5 := hide hE5
    clear hE5
    replace hb := bnext hb hb.size hbel
    have hC := And.intro (keep hHeld.1 hbel) (And.intro (keep hHeld.2.1 hbel) (And.intro (keep hHeld.2.2.1 hbel) (And.intro (keep hHeld.2.2.2.1 hbel) (keep hHeld.2.2.2.2 hbel))))
    refine hK.out _ _ hC (fun hHeld => ?_)
    clear hK K hbel hC
    have hq3 : ∀ w, (Op.equalIn 10000 24 (.agg (U64 E4).toArray) (.agg (U64 E5).toArray)).run Try.prog w = .ok true w := fun w => eqT (Eq.trans (Eq.symm (unhide HE4)) (Eq.trans (El_congr (a := ((a ^ eInv) ^ eInv)) (b := (a)) (inv_inv (unhide HNZ))) (unhide HE5))) (rep_is (unhide HE4)).len w
    refine wpAnyH_take (i := 18) (oi := _) (v := .bool false) rfl (by kernel_rfl) (by kernel_rfl) (by kernel_rfl) (fun _ _ _ h => h) (Or.inl ⟨by rfl, fun w hSw => by go_simp⟩) hHeld ?_
    simp [Act.put]
    clear hq3
    refine wpAnyH_take (i := 19) (oi := _) (v := .bool false) rfl (by kernel_rfl) (by kernel_rfl) (by kernel_rfl) (fun _ _ _ h => h) (Or.inl ⟨by rfl, fun w hSw => by go_simp⟩) hHeld ?_
    simp [Act.put]
    refine wpAnyH_done (by kernel_rfl) ?_ _
    clear hx h7 h8 hA hB
    have hs4 := hb.size
    obtain ⟨hx, h7, h8, hA, hB⟩ := hHeld
    go_wp2_with fail
    obtain ⟨q9, q10, q11, hbv, -⟩ := after3 (Below.refl _ _ : Below (((v5.alloc (.cells (U8 (List.replicate 32 0)).toArray 34)).alloc (.cells (U8 (List.replicate 32 0)).toArray 34)).alloc (.cells (U8 (List.replicate 32 0)).toArray 34)).heap.size _ _)
    have lA := blk_lt hA
    have lB := blk_lt hB
    go_loopw [12, 13] (fun ov i wr => ∃ (k n : Nat) (P : List Int), k ≤ 16 ∧ ov = .int .i64 n ∧ i = .int .i64 k ∧ n ≤ 1 ∧ P.length = k ∧ IsB P ∧ numB P + 256 ^ k * n = numB (A.take k) + numB (B.take k) ∧ SumI A B w v5 v5.heap.size k P wr) (fun _ i _ => 16 - (intOf i).toNat)
    case atStart => exact ⟨0, 0, [], by omega, rfl, rfl, by omega, rfl, by intro x hx; simp at hx, rfl, ⟨keep hA hbv, keep hB hbv, q9, q10, q11, hbv⟩⟩
    case round =>
      clear q9 q10 q11 hbv
      obtain ⟨k, n, P, hk, rfl, rfl, hn, hP, hPB, hsum, I⟩ := hrel
      have HPB := hide hPB
      have HSM := hide hsum
      clear hPB hsum
      have hg1 : w.heap.size + 1 ≠ v5.heap.size := by omega
      by_cases hlt : k < 16
      · have cA := I.hA.cell8 k (by rw [unhide HLA]; omega)
        have f9 := I.e9.frozen k
        have c9 := I.e9.cell8 k (by rw [fill_len _ k (by rw [List.length_take, unhide HLA]; omega) (by omega)]; omega)
        have bA := (unhide HBA).at k
        have bB := (unhide HBB).at k
        generalize hak : A.getD k 0 = ak at cA bA
        have hA1 := I.hA.other (a := ⟨v5.heap.size, k, none⟩) (.int .u8 ak) (by show w.heap.size + 1 ≠ v5.heap.size; omega)
        have hB1 := I.hB.other (a := ⟨v5.heap.size, k, none⟩) (.int .u8 ak) (by show w.heap.size + 1 + 1 ≠ v5.heap.size; omega)
        have h9 := I.e9.set8 k ak
        have h10 := I.e10.other (a := ⟨v5.heap.size, k, none⟩) (.int .u8 ak) (by show v5.heap.size + 1 ≠ v5.heap.size; omega)
        have h11 := I.e11.other (a := ⟨v5.heap.size, k, none⟩) (.int .u8 ak) (by show v5.heap.size + 1 + 1 ≠ v5.heap.size; omega)
        have hf := I.fr.setCell (p := ⟨v5.heap.size, k, none⟩) (Nat.le_refl _) (.int .u8 ak)
        have cB := hB1.cell8 k (by rw [unhide HLB]; omega)
        have f10 := h10.frozen k
        have c10 := h10.cell8 k (by rw [fill_len _ k (by rw [List.length_take, unhide HLB]; omega) (by omega)]; omega)
        generalize hbk : B.getD k 0 = bk at cB bB
        have hA2 := hA1.other (a := ⟨v5.heap.size + 1, k, none⟩) (.int .u8 bk) (by show w.heap.size + 1 ≠ v5.heap.size + 1; omega)
        have hB2 := hB1.other (a := ⟨v5.heap.size + 1, k, none⟩) (.int .u8 bk) (by show w.heap.size + 1 + 1 ≠ v5.heap.size + 1; omega)
        have h9b := h9.other (a := ⟨v5.heap.size + 1, k, none⟩) (.int .u8 bk) (by show v5.heap.size ≠ v5.heap.size + 1; omega)
        have h10b := h10.set8 k bk
        have h11b := h11.other (a := ⟨v5.heap.size + 1, k, none⟩) (.int .u8 bk) (by show v5.heap.size + 1 + 1 ≠ v5.heap.size + 1; omega)
        replace hf := hf.setCell (p := ⟨v5.heap.size + 1, k, none⟩) (by show v5.heap.size ≤ v5.heap.size + 1; omega) (.int .u8 bk)
        have cA2 := hA2.cell8 k (by rw [unhide HLA]; omega)
        have cB2 := hB2.cell8 k (by rw [unhide HLB]; omega)
        rw [hak] at cA2
        rw [hbk] at cB2
        have f11 := h11b.frozen k
        have c11 := h11b.cell8 k (by rw [fill_len _ k hP (by omega)]; omega)
        have e1 : IntKind.i64.wrap ((n : Int) + ak) = (n : Int) + ak := by rw [IntKind.wrap_i64]; omega
        have e2 : IntKind.i64.wrap ((n : Int) + ak + bk) = (n : Int) + ak + bk := by rw [IntKind.wrap_i64]; omega
        have HAK := hide hak
        have HBK := hide hbk
        clear hak hbk
        go_wp2_with fail
        go_quiet (fail)
        clear cA cB c9 f9 c10 f10 cA2 cB2 hA1 hB1 h9 h10 h11 I
        go_wp2_with fail
        go_roundw
        case rel =>
          clear c11 f11 e1 e2
          have lTA : (A.take k).length = k := by rw [List.length_take, unhide HLA]; omega
          have lTB : (B.take k).length = k := by rw [List.length_take, unhide HLB]; omega
          have tA := take_one A k (by rw [unhide HLA]; omega)
          have tB := take_one B k (by rw [unhide HLB]; omega)
          rw [unhide HAK] at tA
          rw [unhide HBK] at tB
          rw [fill_set _ k _ lTA (by omega), tA] at h9b
          rw [fill_set _ k _ lTB (by omega), tB] at h10b
          have h11c := (h11b.drewN nq).set8 k (((n : Int) + ak + bk) % 256)
          rw [fill_set _ k _ hP (by omega)] at h11c
          have nA : numB (A.take (k + 1)) = numB (A.take k) + 256 ^ k * ak.toNat := by rw [← tA, numB_app, lTA]; simp [numB]
          have nB : numB (B.take (k + 1)) = numB (B.take k) + 256 ^ k * bk.toNat := by rw [← tB, numB_app, lTB]; simp [numB]
          have nP : numB (P ++ [((n : Int) + ak + bk) % 256]) = numB P + 256 ^ k * (((n : Int) + ak + bk) % 256).toNat := by rw [numB_app, hP]; simp [numB]
          refine ⟨k + 1, (((n : Int) + ak + bk) / 256).toNat, P ++ [((n : Int) + ak + bk) % 256], by omega, int_eq (by omega), by go_num, by omega, by simp [hP], ?_, ?_, ⟨(hA2.drewN nq).other _ (by show w.heap.size + 1 ≠ v5.heap.size + 1 + 1; omega), (hB2.drewN nq).other _ (by show w.heap.size + 1 + 1 ≠ v5.heap.size + 1 + 1; omega), (h9b.drewN nq).other _ (by show v5.heap.size ≠ v5.heap.size + 1 + 1; omega), (h10b.drewN nq).other _ (by show v5.heap.size + 1 ≠ v5.heap.size + 1 + 1; omega), h11c, (below_drewN hf nq).setCell (by show v5.heap.size ≤ v5.heap.size + 1 + 1; omega) _⟩⟩
          · intro z hz
            rcases List.mem_append.1 hz with h | h
            · exact unhide HPB z h
            · rw [List.mem_singleton] at h; subst h; omega
          · have hs := unhide HSM
            rw [nP, nA, nB, Nat.pow_succ, Nat.mul_assoc]
            have e3 : 256 ^ k * (((n : Int) + ak + bk) % 256).toNat + 256 ^ k * (256 * (((n : Int) + ak + bk) / 256).toNat) = 256 ^ k * n + 256 ^ k * ak.toNat + 256 ^ k * bk.toNat := by
              rw [← Nat.mul_add, ← Nat.mul_add, ← Nat.mul_add]; congr 1; omega
            omega
        case measure => simp [intOf]; omega
      · have hk16 : k = 16 := by omega
        subst hk16
        clear hk hlt
        have f11 := I.e11.frozen 16
        have c11 := I.e11.cell8 16 (by rw [fill_len _ 16 hP (by omega)]; omega)
        have h11 := I.e11.set8 16 n
        rw [fill_set _ 16 _ hP (by omega)] at h11
        have h9 := I.e9.other (a := ⟨v5.heap.size + 1 + 1, 16, none⟩) (.int .u8 n) (by show v5.heap.size ≠ v5.heap.size + 1 + 1; omega)
        have h10 := I.e10.other (a := ⟨v5.heap.size + 1 + 1, 16, none⟩) (.int .u8 n) (by show v5.heap.size + 1 ≠ v5.heap.size + 1 + 1; omega)
        have hf := I.fr.setCell (p := ⟨v5.heap.size + 1 + 1, 16, none⟩) (by show v5.heap.size ≤ v5.heap.size + 1 + 1; omega) (.int .u8 n)
        clear I
        have en : IntKind.u8.wrap (n : Int) = (n : Int) := by rw [IntKind.wrap_u8]; omega
        go_wp2_with fail
        clear f11 c11
        rw [show List.take 16 A = A from List.take_of_length_le (by rw [unhide HLA]; omega)] at h9 HSM
        rw [show List.take 16 B = B from List.take_of_length_le (by rw [unhide HLB]; omega)] at h10 HSM
        have HSUM : Hid (numB (A ++ List.replicate 16 0) + numB (B ++ List.replicate 16 0) = numB (P ++ [(n : Int)] ++ List.replicate 15 0)) := by
          refine hide ?_
          have hs := unhide HSM
          rw [numB_app, numB_app, numB_app, numB_app, numB_zero, numB_zero, hP]
          simp [numB]
          omega
        have HL9 : Hid ((A ++ List.replicate 16 0).length = 32) := hide (by simp [unhide HLA])
        have HL10 : Hid ((B ++ List.replicate 16 0).length = 32) := hide (by simp [unhide HLB])
        have HL11 : Hid ((P ++ [(n : Int)] ++ List.replicate 15 0).length = 32) := hide (by simp [hP])
        have HI9 : Hid (IsB (A ++ List.replicate 16 0)) := hide (isB_app (unhide HBA) (isB_zero _))
        have HI10 : Hid (IsB (B ++ List.replicate 16 0)) := hide (isB_app (unhide HBB) (isB_zero _))
        have HI11 : Hid (IsB (P ++ [(n : Int)] ++ List.replicate 15 0)) := hide (isB_app (isB_app (unhide HPB) (by intro z hz; rw [List.mem_singleton] at hz; subst hz; omega)) (isB_zero _))
        replace hx := (hf.block _ (blk_lt hx)).trans hx
        replace h7 := (hf.block _ (blk_lt h7)).trans h7
        replace h8 := (hf.block _ (blk_lt h8)).trans h8
        replace hb := bnext hb hb.size hf
        generalize wr.setCell ⟨v5.heap.size + 1 + 1, 16, none⟩ (.int .u8 n) = V at *
        generalize A ++ List.replicate 16 0 = ea at *
        generalize B ++ List.replicate 16 0 = fb at *
        generalize P ++ [(n : Int)] ++ List.replicate 15 0 = sm at *
        generalize v5.heap.size = gv at *
        have h9' : V.heap[gv]? = some (.cells (U8 ea).toArray 34 (0, 0)) := h9
        have h10' : V.heap[gv + 1]? = some (.cells (U8 fb).toArray 34 (0, 0)) := h10
        have h11' : V.heap[gv + 1 + 1]? = some (.cells (U8 sm).toArray 34 (0, 0)) := h11
        clear h9 h10 h11 hA hB hf
        replace hb := hb.drew
        refine wp_region_held_drew (S := (fun w' => w'.heap[w.heap.size]? = some (.cells (U64 x).toArray 24 (0, 0)) ∧ w'.heap[w1.heap.size]? = some (.cells (U64 (El (1))).toArray 24 (0, 0)) ∧ w'.heap[w2.heap.size]? = some (.cells (U64 (El (a ^ eInv))).toArray 24 (0, 0)) ∧ w'.heap[gv]? = some (.cells (U8 ea).toArray 34 (0, 0)) ∧ w'.heap[gv + 1]? = some (.cells (U8 fb).toArray 34 (0, 0)) ∧ w'.heap[gv + 1 + 1]? = some (.cells (U8 sm).toArray 34 (0, 0)))) (by kernel_rfl) ⟨hx, h7, h8, h9', h10', h11'⟩ (fun hHeld => ?_)
        refine wpAnyH_take (i := 0) (oi := _) (v := .agg (U64 x).toArray) rfl (by kernel_rfl) (by kernel_rfl) (by kernel_rfl) (fun _ _ _ h => h) (yieldsIf_load_mid (by rfl) _ _ rfl _ _ rfl _ _ (fun _ h => blk_range h.1) Try.underlying24 rfl (by simpa using (unhide HX).sz)) hHeld ?_
        simp [Act.put]
        refine wpAnyH_take (i := 1) (oi := _) (v := .agg (U8 ea).toArray) rfl (by kernel_rfl) (by kernel_rfl) (by kernel_rfl) (fun _ _ _ h => h) (yieldsIf_load_mid (by rfl) _ _ rfl _ _ rfl _ _ (fun _ h => blk_range h.2.2.2.1) Try.underlying34 rfl (by simpa using (sz32 (unhide HL9)))) hHeld ?_
        simp [Act.put]
        refine wpAnyH_take (i := 3) (oi := _) (v := .agg (U64 x).toArray) rfl (by kernel_rfl) (by kernel_rfl) (by kernel_rfl) (fun _ _ _ h => h) (yieldsIf_load_mid (by rfl) _ _ rfl _ _ rfl _ _ (fun _ h => blk_range h.1) Try.underlying24 rfl (by simpa using (unhide HX).sz)) hHeld ?_
        simp [Act.put]
        refine wpAnyH_take (i := 4) (oi := _) (v := .agg (U8 fb).toArray) rfl (by kernel_rfl) (by kernel_rfl) (by kernel_rfl) (fun _ _ _ h => h) (yieldsIf_load_mid (by rfl) _ _ rfl _ _ rfl _ _ (fun _ h => blk_range h.2.2.2.2.1) Try.underlying34 rfl (by simpa using (sz32 (unhide HL10)))) hHeld ?_
        simp [Act.put]
        refine wpAnyH_take (i := 7) (oi := _) (v := .agg (U64 x).toArray) rfl (by kernel_rfl) (by kernel_rfl) (by kernel_rfl) (fun _ _ _ h => h) (yieldsIf_load_mid (by rfl) _ _ rfl _ _ rfl _ _ (fun _ h => blk_range h.1) Try.underlying24 rfl (by simpa using (unhide HX).sz)) hHeld ?_
        simp [Act.put]
        refine wpAnyH_take (i := 8) (oi := _) (v := .agg (U8 sm).toArray) rfl (by kernel_rfl) (by kernel_rfl) (by kernel_rfl) (fun _ _ _ h => h) (yieldsIf_load_mid (by rfl) _ _ rfl _ _ rfl _ _ (fun _ h => blk_range h.2.2.2.2.2) Try.underlying34 rfl (by simpa using (sz32 (unhide HL11)))) hHeld ?_
        simp [Act.put]
        refine wpAnyH_ready (rs := [2]) (by kernel_rfl) (by simp) ?_
        refine AllReadyH.cons rfl (fun K hK => ?_) AllReadyH.nil
        go_simp
        refine (pow_any x ea a _ (unhide HX) (unhide HL9) (unhide HI9)).mono ?_
        rintro e v21 ⟨rfl, hbel⟩
        generalize hE21 : El (a ^ numB ea) = E21
        have HE21 := hide hE21
        clear hE21
        replace hb := bnext hb hb.size hbel
        have hC := And.intro (keep hHeld.1 hbel) (And.intro (keep hHeld.2.1 hbel) (And.intro (keep hHeld.2.2.1 hbel) (And.intro (keep hHeld.2.2.2.1 hbel) (And.intro (keep hHeld.2.2.2.2.1 hbel) (keep hHeld.2.2.2.2.2 hbel)))))
        refine hK.out _ _ hC (fun hHeld => ?_)
        clear hK K hbel hC
        refine wpAnyH_ready (rs := [5]) (by kernel_rfl) (by simp) ?_
        refine AllReadyH.cons rfl (fun K hK => ?_) AllReadyH.nil
        go_simp
        refine (pow_any x fb a _ (unhide HX) (unhide HL10) (unhide HI10)).mono ?_
        rintro e v22 ⟨rfl, hbel⟩
        generalize hE22 : El (a ^ numB fb) = E22
        have HE22 := hide hE22
        clear hE22
        replace hb := bnext hb hb.size hbel
        have hC := And.intro (keep hHeld.1 hbel) (And.intro (keep hHeld.2.1 hbel) (And.intro (keep hHeld.2.2.1 hbel) (And.intro (keep hHeld.2.2.2.1 hbel) (And.intro (keep hHeld.2.2.2.2.1 hbel) (keep hHeld.2.2.2.2.2 hbel)))))
        refine hK.out _ _ hC (fun hHeld => ?_)
        clear hK K hbel hC
        refine wpAnyH_ready (rs := [6]) (by kernel_rfl) (by simp) ?_
        refine AllReadyH.cons rfl (fun K hK => ?_) AllReadyH.nil
        go_simp
        refine (mul_any E21 E22 (a ^ numB ea) (a ^ numB fb) _ (rep_is (unhide HE21)) (rep_is (unhide HE22))).mono ?_
        rintro e v23 ⟨rfl, hbel⟩
        generalize hE23 : El ((a ^ numB ea) * (a ^ numB fb)) = E23
        have HE23 := hide hE23
        clear hE23
        replace hb := bnext hb hb.size hbel
        have hC := And.intro (keep hHeld.1 hbel) (And.intro (keep hHeld.2.1 hbel) (And.intro (keep hHeld.2.2.1 hbel) (And.intro (keep hHeld.2.2.2.1 hbel) (And.intro (keep hHeld.2.2.2.2.1 hbel) (keep hHeld.2.2.2.2.2 hbel)))))
        refine hK.out _ _ hC (fun hHeld => ?_)
        clear hK K hbel hC
        refine wpAnyH_ready (rs := [9]) (by kernel_rfl) (by simp) ?_
        refine AllReadyH.cons rfl (fun K hK => ?_) AllReadyH.nil
        go_simp
        refine (pow_any x sm a _ (unhide HX) (unhide HL11) (unhide HI11)).mono ?_
        rintro e v24 ⟨rfl, hbel⟩
        generalize hE24 : El (a ^ numB sm) = E24
        have HE24 := hide hE24
        clear hE24
        replace hb := bnext hb hb.size hbel
        have hC := And.intro (keep hHeld.1 hbel) (And.intro (keep hHeld.2.1 hbel) (And.intro (keep hHeld.2.2.1 hbel) (And.intro (keep hHeld.2.2.2.1 hbel) (And.intro (keep hHeld.2.2.2.2.1 hbel) (keep hHeld.2.2.2.2.2 hbel)))))
        refine hK.out _ _ hC (fun hHeld => ?_)
        clear hK K hbel hC
        have hq4 : ∀ w, (Op.equalIn 10000 24 (.agg (U64 E23).toArray) (.agg (U64 E24).toArray)).run Try.prog w = .ok true w := fun w => eqT (Eq.trans (Eq.symm (unhide HE23)) (Eq.trans (El_congr (a := ((a ^ numB ea) * (a ^ numB fb))) (b := (a ^ numB sm)) (pow_sum a _ _ _ (unhide HSUM))) (unhide HE24))) (rep_is (unhide HE23)).len w
        refine wpAnyH_take (i := 10) (oi := _) (v := .bool true) rfl (by kernel_rfl) (by kernel_rfl) (by kernel_rfl) (fun _ _ _ h => h) (Or.inl ⟨by rfl, fun w hSw => by go_simp⟩) hHeld ?_
        simp [Act.put]
        clear hq4
        refine wpAnyH_take (i := 11) (oi := _) (v := .bool true) rfl (by kernel_rfl) (by kernel_rfl) (by kernel_rfl) (fun _ _ _ h => h) (Or.inl ⟨by rfl, fun w hSw => by go_simp⟩) hHeld ?_
        simp [Act.put]
        refine wpAnyH_take (i := 12) (oi := _) (v := .agg (U64 x).toArray) rfl (by kernel_rfl) (by kernel_rfl) (by kernel_rfl) (fun _ _ _ h => h) (yieldsIf_load_mid (by rfl) _ _ rfl _ _ rfl _ _ (fun _ h => blk_range h.1) Try.underlying24 rfl (by simpa using (unhide HX).sz)) hHeld ?_
        simp [Act.put]
        refine wpAnyH_take (i := 13) (oi := _) (v := .agg (U8 (1 :: List.replicate 31 0)).toArray) rfl (by kernel_rfl) (by kernel_rfl) (by kernel_rfl) (fun _ _ _ h => h) (Or.inl ⟨by rfl, fun w hSw => by go_simp; rfl⟩) hHeld ?_
        simp [Act.put]
        refine wpAnyH_take (i := 15) (oi := _) (v := .agg (U64 x).toArray) rfl (by kernel_rfl) (by kernel_rfl) (by kernel_rfl) (fun _ _ _ h => h) (yieldsIf_load_mid (by rfl) _ _ rfl _ _ rfl _ _ (fun _ h => blk_range h.1) Try.underlying24 rfl (by simpa using (unhide HX).sz)) hHeld ?_
        simp [Act.put]
        refine wpAnyH_take (i := 16) (oi := _) (v := .agg (U64 (El (a ^ eInv))).toArray) rfl (by kernel_rfl) (by kernel_rfl) (by kernel_rfl) (fun _ _ _ h => h) (yieldsIf_load_mid (by rfl) _ _ rfl _ _ rfl _ _ (fun _ h => blk_range h.2.2.1) Try.underlying24 rfl (by simpa using (Rep.El (a ^ eInv)).sz)) hHeld ?_
        simp [Act.put]
        refine wpAnyH_ready (rs := [14]) (by kernel_rfl) (by simp) ?_
        refine AllReadyH.cons rfl (fun K hK => ?_) AllReadyH.nil
        go_simp
        refine (pow_any x (1 :: List.replicate 31 0) a _ (unhide HX) rfl (isB_lit _ (by decide))).mono ?_
        rintro e v25 ⟨rfl, hbel⟩
        generalize hE25 : El (a ^ numB (1 :: List.replicate 31 0)) = E25
        have HE25 := hide hE25
        clear hE25
        replace hb := bnext hb hb.size hbel
        have hC := And.intro (keep hHeld.1 hbel) (And.intro (keep hHeld.2.1 hbel) (And.intro (keep hHeld.2.2.1 hbel) (And.intro (keep hHeld.2.2.2.1 hbel) (And.intro (keep hHeld.2.2.2.2.1 hbel) (keep hHeld.2.2.2.2.2 hbel)))))
        refine hK.out _ _ hC (fun hHeld => ?_)
        clear hK K hbel hC
        refine wpAnyH_ready (rs := [17]) (by kernel_rfl) (by simp) ?_
        refine AllReadyH.cons rfl (fun K hK => ?_) AllReadyH.nil
        go_simp
        refine (select_true x (El (a ^ eInv)) a _ (unhide HX)).mono ?_
        rintro e v26 ⟨rfl, hbel⟩
        generalize hE26 : El (a) = E26
        have HE26 := hide hE26
        clear hE26
        replace hb := bnext hb hb.size hbel
        have hC := And.intro (keep hHeld.1 hbel) (And.intro (keep hHeld.2.1 hbel) (And.intro (keep hHeld.2.2.1 hbel) (And.intro (keep hHeld.2.2.2.1 hbel) (And.intro (keep hHeld.2.2.2.2.1 hbel) (keep hHeld.2.2.2.2.2 hbel)))))
        refine hK.out _ _ hC (fun hHeld => ?_)
        clear hK K hbel hC
        have hq5 : ∀ w, (Op.equalIn 10000 24 (.agg (U64 E25).toArray) (.agg (U64 E26).toArray)).run Try.prog w = .ok true w := fun w => eqT (Eq.trans (Eq.symm (unhide HE25)) (Eq.trans (El_congr (a := (a ^ numB (1 :: List.replicate 31 0))) (b := (a)) (pow_lit1 a)) (unhide HE26))) (rep_is (unhide HE25)).len w
        refine wpAnyH_take (i := 18) (oi := _) (v := .bool true) rfl (by kernel_rfl) (by kernel_rfl) (by kernel_rfl) (fun _ _ _ h => h) (Or.inl ⟨by rfl, fun w hSw => by go_simp⟩) hHeld ?_
        simp [Act.put]
        clear hq5
        refine wpAnyH_take (i := 19) (oi := _) (v := .bool true) rfl (by kernel_rfl) (by kernel_rfl) (by kernel_rfl) (fun _ _ _ h => h) (Or.inl ⟨by rfl, fun w hSw => by go_simp⟩) hHeld ?_
        simp [Act.put]
        refine wpAnyH_take (i := 20) (oi := _) (v := .bool true) rfl (by kernel_rfl) (by kernel_rfl) (by kernel_rfl) (fun _ _ _ h => h) (Or.inl ⟨by rfl, fun w hSw => by go_simp⟩) hHeld ?_
        simp [Act.put]
        refine wpAnyH_take (i := 21) (oi := _) (v := .agg (U64 x).toArray) rfl (by kernel_rfl) (by kernel_rfl) (by kernel_rfl) (fun _ _ _ h => h) (yieldsIf_load_mid (by rfl) _ _ rfl _ _ rfl _ _ (fun _ h => blk_range h.1) Try.underlying24 rfl (by simpa using (unhide HX).sz)) hHeld ?_
        simp [Act.put]
        refine wpAnyH_take (i := 22) (oi := _) (v := .agg (U8 (List.replicate 32 0)).toArray) rfl (by kernel_rfl) (by kernel_rfl) (by kernel_rfl) (fun _ _ _ h => h) (Or.inl ⟨by rfl, fun w hSw => by go_simp; rfl⟩) hHeld ?_
        simp [Act.put]
        refine wpAnyH_take (i := 24) (oi := _) (v := .agg (U64 (El (1))).toArray) rfl (by kernel_rfl) (by kernel_rfl) (by kernel_rfl) (fun _ _ _ h => h) (yieldsIf_load_mid (by rfl) _ _ rfl _ _ rfl _ _ (fun _ h => blk_range h.2.1) Try.underlying24 rfl (by simpa using (Rep.El (1)).sz)) hHeld ?_
        simp [Act.put]
        refine wpAnyH_ready (rs := [23]) (by kernel_rfl) (by simp) ?_
        refine AllReadyH.cons rfl (fun K hK => ?_) AllReadyH.nil
        go_simp
        refine (pow_any x (List.replicate 32 0) a _ (unhide HX) rfl (isB_zero _)).mono ?_
        rintro e v27 ⟨rfl, hbel⟩
        generalize hE27 : El (a ^ numB (List.replicate 32 0)) = E27
        have HE27 := hide hE27
        clear hE27
        replace hb := bnext hb hb.size hbel
        have hC := And.intro (keep hHeld.1 hbel) (And.intro (keep hHeld.2.1 hbel) (And.intro (keep hHeld.2.2.1 hbel) (And.intro (keep hHeld.2.2.2.1 hbel) (And.intro (keep hHeld.2.2.2.2.1 hbel) (keep hHeld.2.2.2.2.2 hbel)))))
        refine hK.out _ _ hC (fun hHeld => ?_)
        clear hK K hbel hC
        have hq6 : ∀ w, (Op.equalIn 10000 24 (.agg (U64 E27).toArray) (.agg (U64 (El (1))).toArray)).run Try.prog w = .ok true w := fun w => eqT (Eq.trans (Eq.symm (unhide HE27)) (Eq.trans (El_congr (a := (a ^ numB (List.replicate 32 0))) (b := (1)) (pow_lit0 a)) rfl)) (rep_is (unhide HE27)).len w
        refine wpAnyH_take (i := 25) (oi := _) (v := .bool true) rfl (by kernel_rfl) (by kernel_rfl) (by kernel_rfl) (fun _ _ _ h => h) (Or.inl ⟨by rfl, fun w hSw => by go_simp⟩) hHeld ?_
        simp [Act.put]
        clear hq6
        refine wpAnyH_take (i := 26) (oi := _) (v := .bool true) rfl (by kernel_rfl) (by kernel_rfl) (by kernel_rfl) (fun _ _ _ h => h) (Or.inl ⟨by rfl, fun w hSw => by go_simp⟩) hHeld ?_
        simp [Act.put]
        refine wpAnyH_take (i := 27) (oi := _) (v := .bool true) rfl (by kernel_rfl) (by kernel_rfl) (by kernel_rfl) (fun _ _ _ h => h) (Or.inl ⟨by rfl, fun w hSw => by go_simp⟩) hHeld ?_
        simp [Act.put]
        refine wpAnyH_ready (rs := [28]) (by kernel_rfl) (by simp) ?_
        refine AllReadyH.cons rfl (fun K hK => ?_) AllReadyH.nil
        go_simp
        refine (counts_any _).mono ?_
        rintro e v28 ⟨rfl, hbel⟩
        replace hb := bnext hb hb.size hbel
        have hC := And.intro (keep hHeld.1 hbel) (And.intro (keep hHeld.2.1 hbel) (And.intro (keep hHeld.2.2.1 hbel) (And.intro (keep hHeld.2.2.2.1 hbel) (And.intro (keep hHeld.2.2.2.2.1 hbel) (keep hHeld.2.2.2.2.2 hbel)))))
        refine hK.out _ _ hC (fun hHeld => ?_)
        clear hK K hbel hC
        refine wpAnyH_take (i := 29) (oi := _) (v := .bool true) rfl (by kernel_rfl) (by kernel_rfl) (by kernel_rfl) (fun _ _ _ h => h) (Or.inl ⟨by rfl, fun w hSw => by go_simp⟩) hHeld ?_
        simp [Act.put]
        refine wpAnyH_take (i := 30) (oi := _) (v := .bool true) rfl (by kernel_rfl) (by kernel_rfl) (by kernel_rfl) (fun _ _ _ h => h) (Or.inl ⟨by rfl, fun w hSw => by go_simp⟩) hHeld ?_
        simp [Act.put]
        refine wpAnyH_done (by kernel_rfl) ?_ _
        go_wp2
        go_ret
        exact ⟨rfl, hb⟩
end Go.Proofs.Yteggllmgjlafnaa
