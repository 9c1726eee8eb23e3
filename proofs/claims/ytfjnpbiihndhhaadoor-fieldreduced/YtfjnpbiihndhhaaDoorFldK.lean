import Derived.Test.YtfjnpbiihndhhaaDoorFldJ
namespace Go.Proofs.YtfjnpbiihndhhaaDoor
open Go.RowKit

theorem and8_1 (z : Nat) (h : z < 256) : bits .and .u8 (z : Int) 1 = ((z % 2 : Nat) : Int) := by
  have key : ∀ z : Fin 256, bits .and .u8 (z.val : Int) 1 = ((z.val % 2 : Nat) : Int) := by decide +kernel
  exact key ⟨z, h⟩
theorem bit_of (e : List Int) (hB : IsB e) (m : Nat) : bits .and .u8 (e.getD (m / 8) 0 / 2 ^ (m % 8)) 1 = ((numB e / 2 ^ m % 2 : Nat) : Int) := by
  have hb := hB.at (m / 8)
  rw [numB_bit e hB m]
  generalize e.getD (m / 8) 0 = y at *
  obtain ⟨Y, rfl⟩ := Int.eq_ofNat_of_zero_le hb.1
  have e1 : ((Y : Int) / 2 ^ (m % 8)) = ((Y / 2 ^ (m % 8) : Nat) : Int) := by rw [Int.natCast_ediv, Int.natCast_pow]; rfl
  have hlt : Y / 2 ^ (m % 8) < 256 := Nat.lt_of_le_of_lt (Nat.div_le_self _ _) (by omega)
  rw [e1, and8_1 _ hlt]
  rfl
theorem pow_bit0 (a : Int) (n m : Nat) (h : n / 2 ^ m % 2 = 0) : a ^ (n / 2 ^ (m + 1)) * a ^ (n / 2 ^ (m + 1)) = a ^ (n / 2 ^ m) := by
  rw [← Int.pow_add]; congr 1; rw [Nat.pow_succ, ← Nat.div_div_eq_div_mul]; omega
theorem pow_bit1 (a : Int) (n m : Nat) (h : n / 2 ^ m % 2 = 1) : a ^ (n / 2 ^ (m + 1)) * a ^ (n / 2 ^ (m + 1)) * a = a ^ (n / 2 ^ m) := by
  rw [← Int.pow_add, ← Int.pow_succ]; congr 1; rw [Nat.pow_succ, ← Nat.div_div_eq_div_mul]; omega
structure PowI (x e : List Int) (w : World) (g5 : Nat) (L : List Int) (wr : World) : Prop where
  hx : wr.heap[w.heap.size]? = some (.cells (U64 x).toArray 24 (0, 0))
  he : wr.heap[w.heap.size + 1]? = some (.cells (U8 e).toArray 25 (0, 0))
  hr : wr.heap[w.heap.size + 1 + 1]? = some (.cells #[Value.int IntKind.u64 0, Value.int IntKind.u64 0, Value.int IntKind.u64 0, Value.int IntKind.u64 0, Value.int IntKind.u64 0] 24 (0, 0))
  h5 : wr.heap[g5]? = some (.cells (U64 L).toArray 24 (0, 0))
  hb : Below w.heap.size w wr
theorem PowI.step {x e : List Int} {w : World} {g5 : Nat} {L : List Int} {wr w' : World} (h : PowI x e w g5 L wr) (k : Below wr.heap.size wr w') : PowI x e w g5 L w' :=
  ⟨keep h.hx k, keep h.he k, keep h.hr k, keep h.h5 k, bnext h.hb h.hb.size k⟩
theorem PowI.put {x e : List Int} {w : World} {g5 : Nat} {L : List Int} {wr : World} (h : PowI x e w g5 L wr) (hg : w.heap.size + 1 + 1 < g5) (M : List Int) : PowI x e w g5 M (wr.setRow g5 (U64 M).toArray) :=
  ⟨(setRow_other _ _ _ _ (by omega)).trans h.hx, (setRow_other _ _ _ _ (by omega)).trans h.he, (setRow_other _ _ _ _ (by omega)).trans h.hr, setRow_heap _ _ _ _ _ _ h.h5, below_setRow h.hb (by omega) _⟩
theorem PowI.byte {x e : List Int} {w : World} {g5 : Nat} {L : List Int} {wr : World} (h : PowI x e w g5 L wr) (j : Nat) (hj : j < e.length) : wr.cell? ⟨w.heap.size + 1, j, none⟩ = some (.int .u8 (e.getD j 0)) := by
  rw [cell_of_row wr _ j _ _ _ h.he]
  simp [U8, hj]
theorem start4 (w : World) (c d f : Array Value) (t u v : TypeId) (w1 : World) (h : Below (((w.alloc (.cells c t)).alloc (.cells d u)).alloc (.cells f v)).heap.size (((w.alloc (.cells c t)).alloc (.cells d u)).alloc (.cells f v)) w1) (z m : Array Value) (s : TypeId) :
    ∃ W, W = (w1.alloc (.cells z s)).setRow w1.heap.size m ∧ W.heap[w.heap.size]? = some (.cells c t (0, 0)) ∧ W.heap[w.heap.size + 1]? = some (.cells d u (0, 0)) ∧ W.heap[w.heap.size + 1 + 1]? = some (.cells f v (0, 0)) ∧ W.heap[w1.heap.size]? = some (.cells m s (0, 0)) ∧ Below w.heap.size w W ∧ w.heap.size + 1 + 1 < w1.heap.size := by
  obtain ⟨h1, h2, h3, hb, hs⟩ := after3 h
  obtain ⟨h4, hb2, -⟩ := afterS (Below.refl _ _ : Below ((w1.alloc (.cells z s)).setRow w1.heap.size m).heap.size _ _)
  exact ⟨_, rfl, keep h1 hb2, keep h2 hb2, keep h3 hb2, h4, bnext hb hb.size hb2, by omega⟩

set_option maxHeartbeats 4000000 in
set_option maxRecDepth 100000 in
theorem pow_any (x e : List Int) (a : Int) (w : World) (hx : Rep x a) (hl : e.length = 32) (hB : IsB e) :
    Calls Tryd.prog 11 #[.agg (U64 x).toArray, .agg (U8 e).toArray] w fun r w' => r = .returned (.agg (U64 (El (a ^ numB e))).toArray) ∧ Below w.heap.size w w' := by
  have HX := hide hx
  have HL := hide hl
  have HB := hide hB
  clear hx hl hB
  go_enter Tryd.func11, Tryd.ntmps11
  go_wp2_with fail
  refine (small_any 1 _ (by unfold Wd; omega)).mono ?_
  rintro r w1 ⟨rfl, hbel⟩
  go_wp2_with (refine wpList_store_row rfl 24 _ _ rfl _ _ rfl rfl 24 _ (new1 _ _ _).2.1 (El_sz _) (by rfl) (El_all _) ?_)
  obtain ⟨w0, hw0, h0, h1, h2, h5, hb, hg5⟩ := start4 w (U64 x).toArray (U8 e).toArray #[Value.int IntKind.u64 0, Value.int IntKind.u64 0, Value.int IntKind.u64 0, Value.int IntKind.u64 0, Value.int IntKind.u64 0] 24 25 24 w1 hbel #[Value.int IntKind.u64 0, Value.int IntKind.u64 0, Value.int IntKind.u64 0, Value.int IntKind.u64 0, Value.int IntKind.u64 0] (U64 (El 1)).toArray 24
  rw [← hw0]
  clear hw0 hbel
  generalize w1.heap.size = g5 at *
  have HG := hide hg5
  clear hg5
  go_loopw [6] (fun i wr => ∃ (k : Nat) (L : List Int), k ≤ 256 ∧ i = .int .i64 ((k : Int) - 1) ∧ El (a ^ (numB e / 2 ^ k)) = L ∧ PowI x e w g5 L wr) (fun i _ => (intOf i + 1).toNat)
  case atStart =>
    refine ⟨256, El 1, by omega, rfl, congrArg El ?_, ⟨h0, h1, h2, h5, hb⟩⟩
    have hlt := numB_lt e (unhide HB)
    rw [unhide HL] at hlt
    rw [Nat.div_eq_of_lt (by rw [show (2 : Nat) ^ 256 = 256 ^ 32 from by decide]; exact hlt), Int.pow_zero]
  case round =>
    clear h0 h1 h2 h5 hb
    obtain ⟨k, L, hk, rfl, hL, I⟩ := hrel
    have HLR := hide hL
    clear hL
    by_cases hlt : 0 < k
    · obtain ⟨m, rfl⟩ : ∃ m, k = m + 1 := ⟨k - 1, by omega⟩
      have e1 : ((m + 1 : Nat) : Int) - 1 = (m : Int) := by omega
      rw [e1]
      clear e1 hlt
      have h5 := I.h5
      go_wp2_with (refine wpList_load_row rfl 24 (.tmp 5) rfl _ rfl 24 _ (0, 0) _ h5 Tryd.underlying24 rfl (rep_is (unhide HLR)).sz ?_)
      refine (sq_any L _ _ (rep_is (unhide HLR))).mono ?_
      rintro r v1 ⟨rfl, hbel⟩
      replace I := I.step hbel
      generalize hE : El (a ^ (numB e / 2 ^ (m + 1)) * a ^ (numB e / 2 ^ (m + 1))) = E
      have HE := hide hE
      clear hE hbel h5
      have h5 := I.h5
      replace I := I.put (unhide HG) E
      have hcell := I.byte (m / 8) (by rw [unhide HL]; omega)
      have hbit := bit_of e (unhide HB) m
      generalize e.getD (m / 8) 0 = y at hcell hbit
      have h5b := I.h5
      have hxb := I.hx
      rcases Nat.mod_two_eq_zero_or_one (numB e / 2 ^ m) with h | h
      · rw [h] at hbit
        have HB0 := hide h
        clear h
        go_wp2_with (refine wpList_store_row rfl 24 (.tmp 5) (.tmp 13) rfl _ _ rfl rfl 24 _ h5 (rep_is (unhide HE)).sz (by simp [(rep_is (unhide HE)).len, (rep_is (unhide HLR)).len]) (all_one (U64_one _)) ?_)
        go_roundw
        case rel => exact ⟨m, E, by omega, by go_num, (congrArg El (pow_bit0 a (numB e) m (unhide HB0))).symm.trans (unhide HE), I⟩
        case measure => simp [intOf]
      · rw [h] at hbit
        have HB1 := hide h
        clear h
        go_wp2_with (first
          | refine wpList_store_row rfl 24 (.tmp 5) (.tmp 13) rfl _ _ rfl rfl 24 _ h5 (rep_is (unhide HE)).sz (by simp [(rep_is (unhide HE)).len, (rep_is (unhide HLR)).len]) (all_one (U64_one _)) ?_
          | refine wpList_load_row rfl 24 (.tmp 5) rfl _ rfl 24 _ (0, 0) _ h5b Tryd.underlying24 rfl (rep_is (unhide HE)).sz ?_
          | refine wpList_load_row rfl 24 (.tmp 2) rfl _ rfl 24 _ (0, 0) _ hxb Tryd.underlying24 rfl (unhide HX).sz ?_)
        refine (mul_any E x _ a _ (rep_is (unhide HE)) (unhide HX)).mono ?_
        rintro r v2 ⟨rfl, hbel⟩
        clear hcell hbit h5b hxb h5
        replace I := I.step hbel
        have h5 := I.h5
        generalize hF : El (a ^ (numB e / 2 ^ (m + 1)) * a ^ (numB e / 2 ^ (m + 1)) * a) = F
        have HF := hide hF
        clear hF hbel
        replace I := I.put (unhide HG) F
        go_wp2_with (refine wpList_store_row rfl 24 (.tmp 5) (.tmp 25) rfl _ _ rfl rfl 24 _ h5 (rep_is (unhide HF)).sz (by simp [(rep_is (unhide HF)).len, (rep_is (unhide HE)).len]) (all_one (U64_one _)) ?_)
        go_roundw
        case rel => exact ⟨m, F, by omega, by go_num, (congrArg El (pow_bit1 a (numB e) m (unhide HB1))).symm.trans (unhide HF), I⟩
        case measure => simp [intOf]
    · have hk0 : k = 0 := by omega
      subst hk0
      have hE : El (a ^ numB e) = L := by have := unhide HLR; rwa [Nat.pow_zero, Nat.div_one] at this
      subst hE
      have h5 := I.h5
      have hr := I.hr
      clear hk hlt
      go_wp2_with (first
        | refine wpList_load_row rfl 24 (.tmp 5) rfl _ rfl 24 _ (0, 0) _ h5 Tryd.underlying24 rfl (El_sz _) ?_
        | refine wpList_store_row rfl 24 (.tmp 4) (.tmp 26) rfl _ _ rfl rfl 24 _ hr (El_sz _) (by rfl) (all_one (U64_one _)) ?_)
      refine bodyPost_ret (results_cell_row rfl _ _ _ 24 _ (0, 0) _ rfl (setRow_heap _ _ _ _ _ _ hr) Tryd.underlying24 rfl (El_sz _)) rfl ?_
      exact ⟨rfl, below_setRow I.hb (by omega) _⟩
end Go.Proofs.YtfjnpbiihndhhaaDoor
