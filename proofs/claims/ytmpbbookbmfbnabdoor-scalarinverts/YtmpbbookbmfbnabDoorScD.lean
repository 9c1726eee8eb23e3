import Derived.Test.YtmpbbookbmfbnabDoorScC
namespace Go.Proofs.YtmpbbookbmfbnabDoor
open Go.RowKit

/-! Sums and products modulo the order, by the program. -/
structure RmI (n : Int) (w : World) (k : Nat) (wr : World) : Prop where
  ha : Arr wr w.heap.size 48 (U32 (dg B32 16 n))
  hr : Arr wr (w.heap.size + 1) 46 (U32 (List.replicate 8 0))
  hn : Arr wr (w.heap.size + 1 + 1) 46 (U32 (dg B32 8 (n / B32 ^ k % LL)))
  hb : Below w.heap.size w wr
theorem RmI.later {n : Int} {k : Nat} {w wr w' : World} (h : RmI n w k wr) (hb : Below wr.heap.size wr w') : RmI n w k w' :=
  ⟨h.ha.later hb, h.hr.later hb, h.hn.later hb, bnext h.hb h.hb.size hb⟩
set_option maxHeartbeats 1000000 in
set_option maxRecDepth 100000 in
theorem remainder_any (n : Int) (w : World) (hO : OLaid w) (hn : 0 ≤ n ∧ n < B32 ^ 16) :
    Calls Tryd.prog 31 #[.agg (U32 (dg B32 16 n)).toArray] w fun e w' => e = .returned (.agg (U32 (dg B32 8 (n % LL))).toArray) ∧ Below w.heap.size w w' := by
  have h00 : n / B32 ^ 16 % LL = 0 := by rw [Int.ediv_eq_zero_of_lt hn.1 hn.2]; rfl
  have HO := hide hO
  have HZ := hide h00
  clear hO hn h00
  obtain ⟨h0, h1, h2, hb, -⟩ := after3 (Below.refl _ _ : Below (((w.alloc (.cells (U32 (dg B32 16 n)).toArray 48)).alloc (.cells (U32 (List.replicate 8 0)).toArray 46)).alloc (.cells (U32 (List.replicate 8 0)).toArray 46)).heap.size _ _)
  have HI0 := hide (⟨h0, h1, by rw [unhide HZ]; exact h2, hb⟩ : RmI n w 16 _)
  clear h0 h1 h2 hb HZ
  generalize hx : dg B32 16 n = x at HI0 ⊢
  have HX := hide hx
  clear hx
  go_enter Tryd.func31, Tryd.ntmps31
  go_wp2_with fail
  go_loopw [4] (fun i wr => ∃ (k : Nat), k ≤ 16 ∧ i = .int .i64 ((k : Int) - 1) ∧ RmI n w k wr) (fun i _ => (intOf i + 1).toNat)
  case atStart => exact ⟨16, by omega, rfl, unhide HI0⟩
  case round =>
    clear HI0
    obtain ⟨k, hk, rfl, I⟩ := hrel
    by_cases hlt : 0 < k
    · obtain ⟨m, rfl⟩ : ∃ m, k = m + 1 := ⟨k - 1, by omega⟩
      have e1 : ((m + 1 : Nat) : Int) - 1 = (m : Int) := by omega
      rw [e1]
      clear e1 hlt
      have c0 := I.ha.cell32 m (by rw [dg_len]; omega)
      rw [dg_at B32 B32_pos 16 m n (by omega)] at c0
      have hmod := modL (n / B32 ^ (m + 1))
      have hlow := low_word n m
      have bx : 0 ≤ n / B32 ^ m % B32 ∧ n / B32 ^ m % B32 < B32 := ⟨Int.emod_nonneg _ (by decide), Int.emod_lt_of_pos _ (by decide)⟩
      have I1 := I.later ((Below.refl _ _).drew : Below wr.heap.size wr wr.drew)
      have c1 : wr.drew.cell? ⟨w.heap.size, m, none⟩ = some (.int .u32 (n / B32 ^ m % B32)) := c0
      generalize hr : n / B32 ^ (m + 1) % LL = r at hmod hlow
      generalize n / B32 ^ m % B32 = t at bx hlow c1
      have HR := hide hr
      have HL := hide hlow
      have HB := hide bx
      have HM := hide hmod
      have hm0 : (0 : Int) ≤ (m : Int) := by omega
      have hm9 : (m : Int) < 16 := by omega
      clear I hr hlow bx hmod c0
      go_wp2_with fail
      refine wp_region_held_drew (S := fun w' => w'.cell? ⟨w.heap.size, m, none⟩ = some (.int .u32 t)) (by kernel_rfl) c1 (fun hHeld => ?_)
      clear c1
      generalize wr.drew = v0 at I1 hHeld ⊢
      refine wpAnyH_take (i := 1) (oi := _) (v := .int .i64 m) rfl (by kernel_rfl) (by kernel_rfl) (by kernel_rfl) (fun _ _ _ h => h) (Or.inl ⟨by rfl, fun w hSw => by go_simp⟩) hHeld ?_
      simp [Act.put]
      refine wpAnyH_take (i := 2) (oi := _) (v := .pointer (some ⟨w.heap.size, m, none⟩)) rfl (by kernel_rfl) (by kernel_rfl) (by kernel_rfl) (fun _ _ _ h => h) (Or.inl ⟨by rfl, fun w hSw => by go_simp⟩) hHeld ?_
      simp [Act.put]
      refine wpAnyH_take (i := 3) (oi := _) (v := .int .u32 t) rfl (by kernel_rfl) (by kernel_rfl) (by kernel_rfl) (fun _ _ _ h => h) (Or.inl ⟨by rfl, fun w hSw => by go_simp⟩) hHeld ?_
      simp [Act.put]
      refine wpAnyH_ready (rs := [0]) (by kernel_rfl) (by simp) ?_
      refine AllReadyH.cons rfl (fun K hK => ?_) AllReadyH.nil
      refine step_load_row rfl 46 (.tmp 3) rfl _ rfl 46 _ (0, 0) _ I1.hn Tryd.underlying46 rfl (sz8 (dg_len _ _ _)) ?_
      simp [Act.put]
      refine hK.out _ _ hHeld (fun hHeld => ?_)
      clear hK K
      refine wpAnyH_ready (rs := [4]) (by kernel_rfl) (by simp) ?_
      refine AllReadyH.cons rfl (fun K hK => ?_) AllReadyH.nil
      go_simp
      rw [unhide HR]
      refine (lowered_any r t _ ((unhide HO).later I1.hb) (unhide HM) (unhide HB)).mono ?_
      rintro e v1 ⟨rfl, hbel⟩
      have I2 := I1.later hbel
      have hC := (hbel.cell (p := ⟨w.heap.size, m, none⟩) (cell_lt hHeld)).trans hHeld
      rw [unhide HL]
      clear hbel I1 hHeld
      refine hK.out _ _ hC (fun hHeld => ?_)
      clear hK K hC
      refine wpAnyH_ready (rs := [5]) (by kernel_rfl) (by simp) ?_
      refine AllReadyH.cons rfl (fun K hK => ?_) AllReadyH.nil
      refine step_store_row rfl 46 (.tmp 3) (.tmp 13) rfl _ _ rfl rfl 46 _ I2.hn (sz8 (dg_len _ _ _)) (sz_eq32 (by rw [dg_len, dg_len])) (all_one (U32_one _)) ?_
      simp [Act.put]
      have hA : Arr (v1.setRow (w.heap.size + 1 + 1) (U32 (dg B32 8 (n / B32 ^ m % LL))).toArray) w.heap.size 48 (U32 (dg B32 16 n)) := I2.ha.setRow_ne _ (by omega)
      have hC : (v1.setRow (w.heap.size + 1 + 1) (U32 (dg B32 8 (n / B32 ^ m % LL))).toArray).cell? ⟨w.heap.size, m, none⟩ = some (.int .u32 t) := by
        have h1 := hA.cell32 m (by rw [dg_len]; omega)
        have h2 := I2.ha.cell32 m (by rw [dg_len]; omega)
        rw [h1, ← h2]; exact hHeld
      have J : RmI n w m (v1.setRow (w.heap.size + 1 + 1) (U32 (dg B32 8 (n / B32 ^ m % LL))).toArray) := ⟨hA, I2.hr.setRow_ne _ (by omega), I2.hn.setRow _, below_setRow I2.hb (by omega) _⟩
      clear hA I2 hHeld
      refine hK.out _ _ hC (fun hHeld => ?_)
      clear hK K hHeld hC
      refine wpAnyH_done (by kernel_rfl) ?_ _
      go_wp2_with fail
      go_roundw
      case rel => exact ⟨m, by omega, by go_num, J⟩
      case measure => simp [intOf]
    · have hk0 : k = 0 := by omega
      subst hk0
      have hn := I.hn
      rw [Int.pow_zero, Int.ediv_one] at hn
      have hr := I.hr
      have hb := I.hb
      have hz := sz8 (dg_len B32 8 (n % LL))
      clear hk hlt I
      go_wp2_with (first
        | refine wpList_load_row rfl 46 (.tmp 3) rfl _ rfl 46 _ (0, 0) _ hn Tryd.underlying46 rfl hz ?_
        | refine wpList_store_row rfl 46 (.tmp 2) (.tmp 14) rfl _ _ rfl rfl 46 _ hr hz (sz_eq32 (by rw [dg_len]; rfl)) (all_one (U32_one _)) ?_)
      refine bodyPost_ret (results_cell_row rfl _ _ _ 46 _ (0, 0) _ rfl (setRow_heap _ _ _ _ _ _ hr) Tryd.underlying46 rfl hz) rfl ?_
      exact ⟨rfl, below_setRow hb (by omega) _⟩

theorem w8_bd (n : Int) : 0 ≤ n % B32 ^ 8 ∧ n % B32 ^ 8 < B32 ^ 8 := ⟨Int.emod_nonneg _ (by decide), Int.emod_lt_of_pos _ (by decide)⟩
theorem prod16 {a b c : Int} (ha : 0 ≤ a ∧ a < B32 ^ 8) (hb : 0 ≤ b ∧ b < B32 ^ 8) (hc : 0 ≤ c ∧ c < B32 ^ 8) : 0 ≤ a * b + c ∧ a * b + c < B32 ^ 16 := by
  have h1 : 0 ≤ a * b := Int.mul_nonneg ha.1 hb.1
  have h2 : a * b ≤ (B32 ^ 8 - 1) * (B32 ^ 8 - 1) := Int.mul_le_mul (by omega) (by omega) hb.1 (by decide)
  have h3 : (B32 ^ 8 - 1) * (B32 ^ 8 - 1) + B32 ^ 8 ≤ B32 ^ 16 := by decide
  omega
/-- a row of 32 bytes that means a number modulo the order -/
structure Sb (b : List Int) (n : Int) : Prop where
  len : b.length = 32
  dig : Dg 256 b
  cg : num 256 b % LL = n % LL
theorem Sb.of {b : List Int} (hl : b.length = 32) (hd : Dg 256 b) : Sb b (num 256 b) := ⟨hl, hd, rfl⟩
theorem Sb.Sc (n : Int) : Sb (Sc n) n := ⟨Sc_len n, Sc_dg n, by rw [num_Sc, Int.emod_emod]⟩
theorem Sb.bd {b : List Int} {n : Int} (h : Sb b n) : 0 ≤ num 256 b ∧ num 256 b < B32 ^ 8 := by
  have := num_bd 256 (by decide) b h.dig
  rw [h.len] at this
  exact ⟨this.1, Int.lt_of_lt_of_le this.2 (by decide)⟩
theorem Sb.cgr {b : List Int} {n m : Int} (h : Sb b n) (e : n % LL = m % LL) : Sb b m := ⟨h.len, h.dig, h.cg.trans e⟩
theorem cg_add {a b c d : Int} (h : a % LL = b % LL) (k : c % LL = d % LL) : (a + c) % LL = (b + d) % LL := by rw [Int.add_emod, h, k, ← Int.add_emod]
theorem cg_mul {a b c d : Int} (h : a % LL = b % LL) (k : c % LL = d % LL) : (a * c) % LL = (b * d) % LL := by rw [Int.mul_emod, h, k, ← Int.mul_emod]
theorem cg_sub {a b c d : Int} (h : a % LL = b % LL) (k : c % LL = d % LL) : (a - c) % LL = (b - d) % LL := by rw [Int.sub_emod, h, k, ← Int.sub_emod]
theorem told_Sc (n : Int) : dg 256 32 (n % LL) = Sc n := rfl
structure MaI (a b c : List Int) (w wr : World) : Prop where
  h0 : Arr wr w.heap.size 23 (U8 a)
  h1 : Arr wr (w.heap.size + 1) 23 (U8 b)
  h2 : Arr wr (w.heap.size + 1 + 1) 23 (U8 c)
  hr : ∃ l : List Int, l.length = 32 ∧ Arr wr (w.heap.size + 1 + 1 + 1) 23 (U8 l)
  hb : Below w.heap.size w wr
theorem MaI.later {a b c : List Int} {w wr w' : World} (h : MaI a b c w wr) (hb : Below wr.heap.size wr w') : MaI a b c w w' :=
  ⟨h.h0.later hb, h.h1.later hb, h.h2.later hb, (by obtain ⟨l, hl, hr⟩ := h.hr; exact ⟨l, hl, hr.later hb⟩), bnext h.hb h.hb.size hb⟩
theorem arr_range {w : World} {g : Nat} {ty : TypeId} {l : List Value} (h : Arr w g ty l) : w.rangeAt g 0 l := fun j v hv => by
  rw [Nat.zero_add, h.cell]; exact hv
theorem nw4 (w : World) (c0 c1 c2 c3 : Array Value) (t0 t1 t2 t3 : TypeId) : ∀ W, ((((w.alloc (.cells c0 t0)).alloc (.cells c1 t1)).alloc (.cells c2 t2)).alloc (.cells c3 t3)) = W →
    W.heap[w.heap.size]? = some (.cells c0 t0 (0, 0)) ∧ W.heap[w.heap.size + 1]? = some (.cells c1 t1 (0, 0)) ∧ W.heap[w.heap.size + 1 + 1]? = some (.cells c2 t2 (0, 0)) ∧ W.heap[w.heap.size + 1 + 1 + 1]? = some (.cells c3 t3 (0, 0)) ∧ Below w.heap.size w W := by
  rintro W rfl
  obtain ⟨h0, h1, h2, hb, -⟩ := after3 (Below.refl _ _ : Below (((w.alloc (.cells c0 t0)).alloc (.cells c1 t1)).alloc (.cells c2 t2)).heap.size _ _)
  have hs : (((w.alloc (.cells c0 t0)).alloc (.cells c1 t1)).alloc (.cells c2 t2)).heap.size = w.heap.size + 1 + 1 + 1 := by simp
  generalize (((w.alloc (.cells c0 t0)).alloc (.cells c1 t1)).alloc (.cells c2 t2)) = V at *
  obtain ⟨-, h3, hb2⟩ := new1 V c3 t3
  rw [hs] at h3
  exact ⟨keep h0 hb2, keep h1 hb2, keep h2 hb2, h3, bnext hb hb.size hb2⟩
theorem szS' {l : List Int} (h : l.length = 32) : (Tryd.prog.info? 23).map (·.size) = some (U8 l).length := by
  have := szS h; simpa using this
set_option maxHeartbeats 1000000 in
set_option maxRecDepth 100000 in
theorem mulAdd_any (a b c : List Int) (A B C : Int) (w : World) (hO : OLaid w) (ha : Sb a A) (hb : Sb b B) (hc : Sb c C) :
    Calls Tryd.prog 15 #[.agg (U8 a).toArray, .agg (U8 b).toArray, .agg (U8 c).toArray] w fun e w' => e = .returned (.agg (U8 (Sc (A * B + C))).toArray) ∧ Below w.heap.size w w' := by
  have hsc : Sc (num 256 a * num 256 b + num 256 c) = Sc (A * B + C) := Sc_congr (cg_add (cg_mul ha.cg hb.cg) hc.cg)
  have hp := prod16 ha.bd hb.bd hc.bd
  have HO := hide hO
  have HA := hide ha
  have HBB := hide hb
  have HC := hide hc
  have HS := hide hsc
  have HP := hide hp
  clear hO ha hb hc hsc hp
  go_enter Tryd.func15, Tryd.ntmps15
  go_wp2_with fail
  generalize hW : World.alloc _ _ = W
  obtain ⟨h0, h1, h2, h3, hb⟩ := nw4 w (U8 a).toArray (U8 b).toArray (U8 c).toArray (U8 (List.replicate 32 0)).toArray 23 23 23 23 W hW
  have I : MaI a b c w W := ⟨h0, h1, h2, ⟨_, by simp, h3⟩, hb⟩
  have I1 := I.later ((Below.refl _ _).drew : Below W.heap.size W W.drew)
  clear hW h0 h1 h2 h3 hb I
  refine wp_region_held_drew (S := MaI a b c w) (by kernel_rfl) I1 (fun hHeld => ?_)
  clear I1
  generalize W.drew = v0 at hHeld ⊢
  refine wpAnyH_take (i := 0) (oi := _) (v := .agg (U8 a).toArray) rfl (by kernel_rfl) (by kernel_rfl) (by kernel_rfl) (fun _ _ _ h => h) (yieldsIf_load_mid (by rfl) _ _ rfl _ _ rfl _ _ (fun _ h => arr_range h.h0) Tryd.underlying23 rfl (szS' (unhide HA).len)) hHeld ?_
  simp [Act.put]
  refine wpAnyH_take (i := 2) (oi := _) (v := .agg (U8 b).toArray) rfl (by kernel_rfl) (by kernel_rfl) (by kernel_rfl) (fun _ _ _ h => h) (yieldsIf_load_mid (by rfl) _ _ rfl _ _ rfl _ _ (fun _ h => arr_range h.h1) Tryd.underlying23 rfl (szS' (unhide HBB).len)) hHeld ?_
  simp [Act.put]
  refine wpAnyH_take (i := 4) (oi := _) (v := .agg (U8 c).toArray) rfl (by kernel_rfl) (by kernel_rfl) (by kernel_rfl) (fun _ _ _ h => h) (yieldsIf_load_mid (by rfl) _ _ rfl _ _ rfl _ _ (fun _ h => arr_range h.h2) Tryd.underlying23 rfl (szS' (unhide HC).len)) hHeld ?_
  simp [Act.put]
  refine wpAnyH_ready (rs := [1]) (by kernel_rfl) (by simp) ?_
  refine AllReadyH.cons rfl (fun K hK => ?_) AllReadyH.nil
  go_simp
  refine (words_any a _ (unhide HA).len (unhide HA).dig).mono ?_
  rintro e v2 ⟨rfl, hbel⟩
  have hC := hHeld.later hbel
  clear hbel hHeld
  refine hK.out _ _ hC (fun hHeld => ?_)
  clear hK K hC
  refine wpAnyH_ready (rs := [3]) (by kernel_rfl) (by simp) ?_
  refine AllReadyH.cons rfl (fun K hK => ?_) AllReadyH.nil
  go_simp
  refine (words_any b _ (unhide HBB).len (unhide HBB).dig).mono ?_
  rintro e v4 ⟨rfl, hbel⟩
  have hC := hHeld.later hbel
  clear hbel hHeld
  refine hK.out _ _ hC (fun hHeld => ?_)
  clear hK K hC
  refine wpAnyH_ready (rs := [5]) (by kernel_rfl) (by simp) ?_
  refine AllReadyH.cons rfl (fun K hK => ?_) AllReadyH.nil
  go_simp
  refine (words_any c _ (unhide HC).len (unhide HC).dig).mono ?_
  rintro e v6 ⟨rfl, hbel⟩
  have hC := hHeld.later hbel
  clear hbel hHeld
  refine hK.out _ _ hC (fun hHeld => ?_)
  clear hK K hC
  refine wpAnyH_ready (rs := [6]) (by kernel_rfl) (by simp) ?_
  refine AllReadyH.cons rfl (fun K hK => ?_) AllReadyH.nil
  go_simp
  refine (product_any (num 256 a) (num 256 b) (num 256 c) _ (unhide HA).bd (unhide HBB).bd (unhide HC).bd).mono ?_
  rintro e v7 ⟨rfl, hbel⟩
  have hC := hHeld.later hbel
  clear hbel hHeld
  refine hK.out _ _ hC (fun hHeld => ?_)
  clear hK K hC
  refine wpAnyH_ready (rs := [7]) (by kernel_rfl) (by simp) ?_
  refine AllReadyH.cons rfl (fun K hK => ?_) AllReadyH.nil
  go_simp
  refine (remainder_any (num 256 a * num 256 b + num 256 c) _ ((unhide HO).later hHeld.hb) (unhide HP)).mono ?_
  rintro e v8 ⟨rfl, hbel⟩
  have hC := hHeld.later hbel
  clear hbel hHeld
  refine hK.out _ _ hC (fun hHeld => ?_)
  clear hK K hC
  refine wpAnyH_ready (rs := [8]) (by kernel_rfl) (by simp) ?_
  refine AllReadyH.cons rfl (fun K hK => ?_) AllReadyH.nil
  go_simp
  refine (told_any ((num 256 a * num 256 b + num 256 c) % LL) _).mono ?_
  rintro e v9 ⟨rfl, hbel⟩
  have hC := hHeld.later hbel
  rw [told_Sc, unhide HS]
  clear hbel hHeld
  refine hK.out _ _ hC (fun hHeld => ?_)
  clear hK K hC
  obtain ⟨l, hl, hr⟩ := hHeld.hr
  generalize Sc_len (A * B + C) = hlen
  have HLEN := hide hlen
  clear hlen
  generalize hR : Sc (A * B + C) = R at HLEN
  have HR := hide hR
  clear hR
  refine wpAnyH_ready (rs := [9]) (by kernel_rfl) (by simp) ?_
  refine AllReadyH.cons rfl (fun K hK => ?_) AllReadyH.nil
  refine step_store_row rfl 23 (.tmp 6) (.tmp 15) rfl _ _ rfl rfl 23 _ hr (szS (unhide HLEN)) (sz_eq8 (by rw [hl, unhide HLEN])) (all_one (U8_one _)) ?_
  simp [Act.put]
  have hC : MaI a b c w (v9.setRow (w.heap.size + 1 + 1 + 1) (U8 R).toArray) := ⟨hHeld.h0.setRow_ne _ (by omega), hHeld.h1.setRow_ne _ (by omega), hHeld.h2.setRow_ne _ (by omega), ⟨R, unhide HLEN, hr.setRow _⟩, below_setRow hHeld.hb (by omega) _⟩
  have hb := hHeld.hb
  clear hHeld
  refine hK.out _ _ hC (fun hHeld => ?_)
  clear hK K hC
  refine wpAnyH_done (by kernel_rfl) ?_ _
  go_wp2_with fail
  refine bodyPost_ret (results_cell_row rfl _ _ _ 23 _ (0, 0) _ rfl (setRow_heap _ _ _ _ _ _ hr) Tryd.underlying23 rfl (szS (unhide HLEN))) rfl ?_
  exact ⟨by rw [unhide HR], below_setRow hb (by omega) _⟩

def MLaid (w : World) : Prop := ∀ i, i < 32 → w.cell? ⟨1, i, none⟩ = some (.int .u8 (mL.getD i 0))
theorem MLaid.lt {w : World} (h : MLaid w) : 1 < w.heap.size := cell_lt (h 0 (by decide))
theorem MLaid.later {w w' : World} (h : MLaid w) (hb : Below w.heap.size w w') : MLaid w' := fun i hi => (hb.cell (p := ⟨1, i, none⟩) h.lt).trans (h i hi)
theorem cells_range8 {w : World} {g n : Nat} {L : List Int} (hl : L.length = n) (h : ∀ i, i < n → w.cell? ⟨g, i, none⟩ = some (.int .u8 (L.getD i 0))) : w.rangeAt g 0 (U8 L) := fun j v hv => by
  have hj : j < n := by
    by_cases hj : j < n
    · exact hj
    · rw [List.getElem?_eq_none (by simp [hl]; omega)] at hv; simp at hv
  rw [U8_at L j (by omega)] at hv
  rw [Nat.zero_add, h j hj]; exact hv
theorem MLaid.range {w : World} (h : MLaid w) : w.rangeAt 1 0 (U8 mL) := cells_range8 (n := 32) rfl h
theorem mL_Sb : Sb mL (-1) := ⟨rfl, mL_dg, by rw [mL_num]; decide⟩
def one1 : List Int := 1 :: List.replicate 31 0
theorem one1_Sb : Sb one1 1 := ⟨rfl, by unfold Dg one1; decide, by decide⟩
theorem zero_Sb : Sb (List.replicate 32 0) 0 := ⟨rfl, Dg_zero 256 (by decide) 32, by rw [num_zero]⟩
set_option maxHeartbeats 1000000 in
set_option maxRecDepth 100000 in
theorem add_any (a b : List Int) (A B : Int) (w : World) (hO : OLaid w) (ha : Sb a A) (hb : Sb b B) :
    Calls Tryd.prog 7 #[.agg (U8 a).toArray, .agg (U8 b).toArray] w fun e w' => e = .returned (.agg (U8 (Sc (A + B))).toArray) ∧ Below w.heap.size w w' := by
  have HO := hide hO
  have HA := hide ha
  have HBB := hide hb
  clear hO ha hb
  go_enter Tryd.func7, Tryd.ntmps7
  go_wp2_with (first
    | refine wpList_load_row rfl 23 (.tmp 2) rfl _ rfl 23 _ (0, 0) _ (nw3_0 w _ _ _ _ _ _) Tryd.underlying23 rfl (szS (unhide HA).len) ?_
    | refine wpList_load_row rfl 23 (.tmp 3) rfl _ rfl 23 _ (0, 0) _ (nw3_1 w _ _ _ _ _ _) Tryd.underlying23 rfl (szS (unhide HBB).len) ?_
    | refine wpList_build_to rfl 23 _ rfl (U8 one1).toArray (by kernel_rfl) ?_)
  refine (mulAdd_any a one1 b A 1 B _ ((unhide HO).later (after3 (Below.refl _ _)).2.2.2.1) (unhide HA) one1_Sb (unhide HBB)).mono ?_
  rintro e w1 ⟨rfl, hbel⟩
  obtain ⟨-, -, hr0, hb, -⟩ := after3 hbel
  have hr : Arr w1 (w.heap.size + 1 + 1) 23 (U8 (List.replicate 32 0)) := hr0
  clear hr0
  have hz := szS (Sc_len (A + B))
  rw [Int.mul_one]
  clear hbel
  go_wp2_with (first
    | refine wpList_store_row rfl 23 (.tmp 4) (.tmp 8) rfl _ _ rfl rfl 23 _ hr hz (sz_eq8 (by rw [Sc_len]; rfl)) (all_one (U8_one _)) ?_)
  refine bodyPost_ret (results_cell_row rfl _ _ _ 23 _ (0, 0) _ rfl (setRow_heap _ _ _ _ _ _ hr) Tryd.underlying23 rfl hz) rfl ?_
  exact ⟨rfl, below_setRow hb (by omega) _⟩
set_option maxHeartbeats 1000000 in
set_option maxRecDepth 100000 in
theorem sub_any (a b : List Int) (A B : Int) (w : World) (hO : OLaid w) (hM : MLaid w) (ha : Sb a A) (hb : Sb b B) :
    Calls Tryd.prog 9 #[.agg (U8 a).toArray, .agg (U8 b).toArray] w fun e w' => e = .returned (.agg (U8 (Sc (A - B))).toArray) ∧ Below w.heap.size w w' := by
  have HO := hide hO
  have HA := hide ha
  have HBB := hide hb
  clear hO ha hb
  obtain ⟨-, -, -, hbX, -⟩ := after3 (Below.refl _ _ : Below (((w.alloc (.cells (U8 a).toArray 23)).alloc (.cells (U8 b).toArray 23)).alloc (.cells (U8 (List.replicate 32 0)).toArray 23)).heap.size _ _)
  have hM2 := hM.later hbX
  clear hM hbX
  go_enter Tryd.func9, Tryd.ntmps9
  go_wp2_with (first
    | refine wpList_load_row rfl 23 (.tmp 2) rfl _ rfl 23 _ (0, 0) _ (nw3_0 w _ _ _ _ _ _) Tryd.underlying23 rfl (szS (unhide HA).len) ?_
    | refine wpList_load_row rfl 23 (.tmp 3) rfl _ rfl 23 _ (0, 0) _ (nw3_1 w _ _ _ _ _ _) Tryd.underlying23 rfl (szS (unhide HBB).len) ?_
    | refine wpList_load_mid rfl 23 (.global 1) rfl _ _ rfl _ _ hM2.range Tryd.underlying23 rfl (by kernel_rfl) ?_)
  clear hM2
  refine (mulAdd_any b mL a B (-1) A _ ((unhide HO).later (after3 (Below.refl _ _)).2.2.2.1) (unhide HBB) mL_Sb (unhide HA)).mono ?_
  rintro e w1 ⟨rfl, hbel⟩
  obtain ⟨-, -, hr0, hb, -⟩ := after3 hbel
  have hr : Arr w1 (w.heap.size + 1 + 1) 23 (U8 (List.replicate 32 0)) := hr0
  clear hr0
  have hz := szS (Sc_len (A - B))
  rw [show B * -1 + A = A - B by omega]
  clear hbel
  go_wp2_with (first
    | refine wpList_store_row rfl 23 (.tmp 4) (.tmp 8) rfl _ _ rfl rfl 23 _ hr hz (sz_eq8 (by rw [Sc_len]; rfl)) (all_one (U8_one _)) ?_)
  refine bodyPost_ret (results_cell_row rfl _ _ _ 23 _ (0, 0) _ rfl (setRow_heap _ _ _ _ _ _ hr) Tryd.underlying23 rfl hz) rfl ?_
  exact ⟨rfl, below_setRow hb (by omega) _⟩
set_option maxHeartbeats 1000000 in
set_option maxRecDepth 100000 in
theorem mul_any (a b : List Int) (A B : Int) (w : World) (hO : OLaid w) (ha : Sb a A) (hb : Sb b B) :
    Calls Tryd.prog 13 #[.agg (U8 a).toArray, .agg (U8 b).toArray] w fun e w' => e = .returned (.agg (U8 (Sc (A * B))).toArray) ∧ Below w.heap.size w w' := by
  have HO := hide hO
  have HA := hide ha
  have HBB := hide hb
  clear hO ha hb
  go_enter Tryd.func13, Tryd.ntmps13
  go_wp2_with (first
    | refine wpList_load_row rfl 23 (.tmp 2) rfl _ rfl 23 _ (0, 0) _ (nw3_0 w _ _ _ _ _ _) Tryd.underlying23 rfl (szS (unhide HA).len) ?_
    | refine wpList_load_row rfl 23 (.tmp 3) rfl _ rfl 23 _ (0, 0) _ (nw3_1 w _ _ _ _ _ _) Tryd.underlying23 rfl (szS (unhide HBB).len) ?_
    | refine wpList_build_to rfl 23 _ rfl (U8 (List.replicate 32 0)).toArray (by kernel_rfl) ?_)
  refine (mulAdd_any a b (List.replicate 32 0) A B 0 _ ((unhide HO).later (after3 (Below.refl _ _)).2.2.2.1) (unhide HA) (unhide HBB) zero_Sb).mono ?_
  rintro e w1 ⟨rfl, hbel⟩
  obtain ⟨-, -, hr0, hb, -⟩ := after3 hbel
  have hr : Arr w1 (w.heap.size + 1 + 1) 23 (U8 (List.replicate 32 0)) := hr0
  clear hr0
  have hz := szS (Sc_len (A * B))
  rw [Int.add_zero]
  clear hbel
  go_wp2_with (first
    | refine wpList_store_row rfl 23 (.tmp 4) (.tmp 8) rfl _ _ rfl rfl 23 _ hr hz (sz_eq8 (by rw [Sc_len]; rfl)) (all_one (U8_one _)) ?_)
  refine bodyPost_ret (results_cell_row rfl _ _ _ 23 _ (0, 0) _ rfl (setRow_heap _ _ _ _ _ _ hr) Tryd.underlying23 rfl hz) rfl ?_
  exact ⟨rfl, below_setRow hb (by omega) _⟩
set_option maxHeartbeats 1000000 in
set_option maxRecDepth 100000 in
theorem neg_any (a : List Int) (A : Int) (w : World) (hO : OLaid w) (hM : MLaid w) (ha : Sb a A) :
    Calls Tryd.prog 11 #[.agg (U8 a).toArray] w fun e w' => e = .returned (.agg (U8 (Sc (-A))).toArray) ∧ Below w.heap.size w w' := by
  have HO := hide hO
  have HA := hide ha
  clear hO ha
  obtain ⟨-, -, hbX, -⟩ := after2 (Below.refl _ _ : Below ((w.alloc (.cells (U8 a).toArray 23)).alloc (.cells (U8 (List.replicate 32 0)).toArray 23)).heap.size _ _)
  have hM2 := hM.later hbX
  clear hM hbX
  go_enter Tryd.func11, Tryd.ntmps11
  go_wp2_with (first
    | refine wpList_load_row rfl 23 (.tmp 1) rfl _ rfl 23 _ (0, 0) _ (nw2_0 w _ _ _ _) Tryd.underlying23 rfl (szS (unhide HA).len) ?_
    | refine wpList_load_mid rfl 23 (.global 1) rfl _ _ rfl _ _ hM2.range Tryd.underlying23 rfl (by kernel_rfl) ?_)
  clear hM2
  refine (mul_any a mL A (-1) _ ((unhide HO).later (after2 (Below.refl _ _)).2.2.1) (unhide HA) mL_Sb).mono ?_
  rintro e w1 ⟨rfl, hbel⟩
  obtain ⟨-, hr0, hb, -⟩ := after2 hbel
  have hr : Arr w1 (w.heap.size + 1) 23 (U8 (List.replicate 32 0)) := hr0
  clear hr0
  have hz := szS (Sc_len (-A))
  rw [show A * -1 = -A by omega]
  clear hbel
  go_wp2_with (first
    | refine wpList_store_row rfl 23 (.tmp 2) (.tmp 5) rfl _ _ rfl rfl 23 _ hr hz (sz_eq8 (by rw [Sc_len]; rfl)) (all_one (U8_one _)) ?_)
  refine bodyPost_ret (results_cell_row rfl _ _ _ 23 _ (0, 0) _ rfl (setRow_heap _ _ _ _ _ _ hr) Tryd.underlying23 rfl hz) rfl ?_
  exact ⟨rfl, below_setRow hb (by omega) _⟩
end Go.Proofs.YtmpbbookbmfbnabDoor
