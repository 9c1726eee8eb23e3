import Derived.Test.YtfjnpbiihndhhaaDoorFldC
import Derived.Test.YtfjnpbiihndhhaaDoorBytN
namespace Go.Proofs.YtfjnpbiihndhhaaDoor
open Go.RowKit

/-! Bytes read and told, by the program. -/
theorem or_comm (x y : Int) : bits .or .u64 x y = bits .or .u64 y x := by
  have e1 : bits .or .u64 x y = ((BitVec.ofInt 64 x ||| BitVec.ofInt 64 y).toNat : Int) := wrap64_id _
  have e2 : bits .or .u64 y x = ((BitVec.ofInt 64 y ||| BitVec.ofInt 64 x).toNat : Int) := wrap64_id _
  rw [e1, e2, BitVec.or_comm]
/-- the low part or what stands above it -/
theorem or_hi (k : Nat) (x y : Int) (hy : 0 ≤ y ∧ y < ((2 ^ k : Nat) : Int)) (hx : 0 ≤ x ∧ x * ((2 ^ k : Nat) : Int) < 18446744073709551616) (hk : 2 ^ k ≤ 2 ^ 64) : bits .or .u64 y (x * ((2 ^ k : Nat) : Int)) = y + x * ((2 ^ k : Nat) : Int) := by
  rw [or_comm, or_low k x y hx hy hk, Int.add_comm]
theorem Tryd.sz4 : (Tryd.prog.info? 46).map (·.size) = some 4 := by kernel_rfl
theorem run_index32 (b : List Int) (j : Nat) (w : World) (y : Int) (hj : j < 32) (hy : (U8 b)[j]? = some (.int .u8 y)) : (Instr.index 25 (.agg (U8 b).toArray) (.int .i64 j)).run Tryd.prog w = .ok (.int .u8 y) w := by
  simp [Instr.index, asIntOf, run_underlying Tryd.underlying25, part, hy, hj]
theorem pow_bytes (r : Nat) : (2 : Int) ^ (r * 8) = 256 ^ r := by
  rw [show (256 : Int) = 2 ^ 8 from by decide, ← Int.pow_mul, Nat.mul_comm]
theorem or_byte (x y : Int) (r : Nat) (hr : r < 8) (hx : 0 ≤ x ∧ x < 256 ^ r) (hy : 0 ≤ y ∧ y < 256) (h : x + y * 256 ^ r < 2 ^ 64) :
    bits .or .u64 x (IntKind.u64.wrap (IntKind.u64.wrap y * 2 ^ (r * 8))) = x + y * 256 ^ r := by
  have e1 : IntKind.u64.wrap y = y := by rw [IntKind.wrap_u64]; omega
  have hp := p256 r
  have h0 : 0 ≤ y * 256 ^ r := Int.mul_nonneg hy.1 (by omega)
  rw [show (2 : Int) ^ 64 = 18446744073709551616 from rfl] at h
  have e2 : IntKind.u64.wrap (y * 2 ^ (r * 8)) = y * 256 ^ r := by rw [pow_bytes, IntKind.wrap_u64]; omega
  rw [e1, e2, ← pow_bytes]
  have hc : ((2 ^ (r * 8) : Nat) : Int) = 2 ^ (r * 8) := by rw [Int.natCast_pow]; rfl
  rw [← hc]
  refine or_hi (r * 8) y x ?_ ?_ (Nat.pow_le_pow_right (by decide) (by omega))
  · rw [hc, pow_bytes]; exact hx
  · rw [hc, pow_bytes]; exact ⟨hy.1, by omega⟩
theorem or13' (a b : Int) (ha : Wd a) : bits .or .u64 (a / 2251799813685248) (IntKind.u64.wrap (b * 8192)) = a / 2251799813685248 + b * 8192 % 18446744073709551616 := by
  unfold Wd at *
  have e : b * 8192 % 18446744073709551616 = b % 2251799813685248 * 8192 := by omega
  rw [IntKind.wrap_u64, e]
  exact or_hi 13 (b % 2251799813685248) (a / 2251799813685248) ⟨by omega, by omega⟩ ⟨by omega, by omega⟩ (by decide)
theorem or26' (a b : Int) (ha : Wd a) : bits .or .u64 (a / 274877906944) (IntKind.u64.wrap (b * 67108864)) = a / 274877906944 + b * 67108864 % 18446744073709551616 := by
  unfold Wd at *
  have e : b * 67108864 % 18446744073709551616 = b % 274877906944 * 67108864 := by omega
  rw [IntKind.wrap_u64, e]
  exact or_hi 26 (b % 274877906944) (a / 274877906944) ⟨by omega, by omega⟩ ⟨by omega, by omega⟩ (by decide)
theorem or39' (a b : Int) (ha : Wd a) : bits .or .u64 (a / 33554432) (IntKind.u64.wrap (b * 549755813888)) = a / 33554432 + b * 549755813888 % 18446744073709551616 := by
  unfold Wd at *
  have e : b * 549755813888 % 18446744073709551616 = b % 33554432 * 549755813888 := by omega
  rw [IntKind.wrap_u64, e]
  exact or_hi 39 (b % 33554432) (a / 33554432) ⟨by omega, by omega⟩ ⟨by omega, by omega⟩ (by decide)
structure FroI (b : List Int) (n : Int) (w : World) (k : Nat) (wr : World) : Prop where
  hr : Arr wr (w.heap.size + 1) 24 (U64 (List.replicate 5 0))
  hd : Arr wr (w.heap.size + 1 + 1) 46 (U64 (dg (2 ^ 64) 4 (n % 256 ^ k)))
  hb : Below w.heap.size w wr
theorem num256 (b : List Int) (hB : Dg 256 b) (k : Nat) (hk : k < b.length) : num 256 b / 256 ^ k % 256 = b.getD k 0 := by
  have := dg_num 256 (by decide) b hB
  rw [← dg_at 256 (by decide) b.length k _ hk, this]
theorem Tryd.sz32' {l : List Int} (h : l.length = 32) : (Tryd.prog.info? 25).map (·.size) = some (U8 l).toArray.size := by
  have : (Tryd.prog.info? 25).map (·.size) = some 32 := by kernel_rfl
  rw [this]; simp [h]
set_option maxHeartbeats 2000000 in
set_option maxRecDepth 100000 in
theorem fromBytes_any (b : List Int) (w : World) (hl : b.length = 32) (hB : Dg 256 b) :
    Calls Tryd.prog 12 #[.agg (U8 b).toArray] w fun r w' => r = .returned (.agg (U64 (El (fromB b))).toArray) ∧ Below w.heap.size w w' := by
  obtain ⟨n, hn⟩ : ∃ n, n = num 256 b := ⟨_, rfl⟩
  have HL := hide hl
  have HB := hide hB
  have HN := hide hn
  clear hl hB hn
  go_enter Tryd.func12, Tryd.ntmps12
  go_wp2_with (refine wpList_load_row rfl 25 (.tmp 1) rfl _ rfl 25 _ (0, 0) _ (nw3_0 w _ _ _ _ _ _) Tryd.underlying25 rfl (Tryd.sz32' (unhide HL)) ?_)
  go_loopw [7] (fun i wr => ∃ (k : Nat), k ≤ 32 ∧ i = .int .i64 k ∧ FroI b n w k wr) (fun i _ => 32 - (intOf i).toNat)
  case atStart =>
    obtain ⟨-, h5, h6, hb, -⟩ := after3 (Below.refl _ _ : Below (((w.alloc (.cells (U8 b).toArray 25)).alloc (.cells (U64 (List.replicate 5 0)).toArray 24)).alloc (.cells (U64 (List.replicate 4 0)).toArray 46)).heap.size _ _)
    refine ⟨0, by omega, rfl, h5, ?_, hb⟩
    rw [byte_nil]; exact h6
  case round =>
    obtain ⟨k, hk, rfl, I⟩ := hrel
    by_cases hlt : k < 32
    · have f1 := I.hd.frozen (k / 8)
      have c1 := I.hd.cell64 (k / 8) (by rw [dg_len]; omega)
      have hbd := byte_bd n k hlt
      have hst := byte_acc n k hlt
      have hby : n / 256 ^ k % 256 = b.getD k 0 := by rw [unhide HN]; exact num256 b (unhide HB) k (by rw [unhide HL]; exact hlt)
      have hy := (unhide HB).at (by decide) k
      rw [hby] at hbd hst
      generalize hx1 : (dg (2 ^ 64) 4 (n % 256 ^ k)).getD (k / 8) 0 = x1 at c1 hbd hst
      have hidx : (U8 b)[k]? = some (.int .u8 (b.getD k 0)) := U8_at b k (by rw [unhide HL]; exact hlt)
      generalize b.getD k 0 = y at *
      have hix := fun w' => run_index32 b k w' y hlt hidx
      have HI := hide I
      have HST := hide hst
      have HBD := hide hbd
      have HY := hide hy
      clear I hst hbd hx1 hby hy hidx
      go_wp2_with fail
      clear hix
      go_region
      have eo := or_byte x1 y (k % 8) (by omega) ⟨(unhide HBD).1, (unhide HBD).2.1⟩ (unhide HY) (unhide HBD).2.2
      rw [eo]
      clear eo
      go_wp2_with fail
      go_roundw
      case rel =>
        have I := unhide HI
        have h3 := I.hd.set64 (k / 8) (x1 + y * 256 ^ (k % 8))
        rw [unhide HST] at h3
        exact ⟨k + 1, by omega, by go_num, (I.hr.other _ (by show w.heap.size + 1 ≠ w.heap.size + 1 + 1; omega)).drewN 1, h3.drewN 1, below_drewN (I.hb.setCell (by show w.heap.size ≤ w.heap.size + 1 + 1; omega) _) 1⟩
      case measure => simp [intOf]; omega
    · have : k = 32 := by omega
      subst this
      clear hk hlt
      have hbn := num_bd 256 (by decide) b (unhide HB)
      rw [unhide HL, ← unhide HN] at hbn
      have hmod : n % 256 ^ 32 = n := Int.emod_eq_of_lt hbn.1 hbn.2
      have hd := I.hd
      rw [hmod] at hd
      have hr := I.hr
      have hb := I.hb
      have hD := Dg_dg (2 ^ 64) (two_pos 64) 4 n
      have hnum := num_dg (2 ^ 64) (two_pos 64) 4 n
      rw [show ((2 : Int) ^ 64) ^ 4 = 256 ^ 32 from by decide, hmod] at hnum
      obtain ⟨w0, w1, w2, w3, hw⟩ : ∃ w0 w1 w2 w3, dg (2 ^ 64) 4 n = [w0, w1, w2, w3] := ⟨_, _, _, _, rfl⟩
      rw [hw] at hd hD hnum
      rw [show (2 : Int) ^ 64 = 18446744073709551616 from rfl] at hD
      have q0 : Wd w0 := hD w0 (by simp)
      have q1 : Wd w1 := hD w1 (by simp)
      have q2 : Wd w2 := hD w2 (by simp)
      have q3 : Wd w3 := hD w3 (by simp)
      have hval := limbs_of w0 w1 w2 w3 q0 q1 q2
      have hN : w0 + 18446744073709551616 * (w1 + 18446744073709551616 * (w2 + 18446744073709551616 * w3)) = num 256 b := by
        rw [← unhide HN, ← hnum]
        show _ = w0 + 18446744073709551616 * (w1 + 18446744073709551616 * (w2 + 18446744073709551616 * (w3 + 18446744073709551616 * 0)))
        omega
      rw [hN] at hval
      have hV : val5 (w0 % 2251799813685248) ((w0 / 2251799813685248 + w1 * 8192 % 18446744073709551616) % 2251799813685248) ((w1 / 274877906944 + w2 * 67108864 % 18446744073709551616) % 2251799813685248) ((w2 / 33554432 + w3 * 549755813888 % 18446744073709551616) % 2251799813685248) (w3 / 4096 % 2251799813685248) % PP = fromB b % PP := by rw [hval]; rfl
      have c0 : wr.cell? ⟨w.heap.size + 1 + 1, 0, none⟩ = some (.int .u64 w0) := hd.cell64 0 (by simp)
      have c1 : wr.cell? ⟨w.heap.size + 1 + 1, 1, none⟩ = some (.int .u64 w1) := hd.cell64 1 (by simp)
      have c2 : wr.cell? ⟨w.heap.size + 1 + 1, 2, none⟩ = some (.int .u64 w2) := hd.cell64 2 (by simp)
      have c3 : wr.cell? ⟨w.heap.size + 1 + 1, 3, none⟩ = some (.int .u64 w3) := hd.cell64 3 (by simp)
      have HV := hide hV
      have H0 := hide q0
      have H1 := hide q1
      have H2 := hide q2
      have H3 := hide q3
      have o1 := or13' w0 w1 q0
      have o2 := or26' w1 w2 q1
      have o3 := or39' w2 w3 q2
      have HO1 := hide o1
      have HO2 := hide o2
      have HO3 := hide o3
      clear I hbn hmod hd hD hnum hw q0 q1 q2 q3 hval hN hV o1 o2 o3
      go_wp2_with fail
      rw [unhide HO1, unhide HO2, unhide HO3]
      refine (reduced_eq _ _ _ _ _ _ _ _ _ _ (fromB b) _ ⟨and51 w0 (unhide H0), ?_⟩ ⟨and51 _ ?_, ?_⟩ ⟨and51 _ ?_, ?_⟩ ⟨and51 _ ?_, ?_⟩ ⟨and51 _ ?_, ?_⟩ (unhide HV)).mono ?_
      all_goals first | (have h0 := unhide H0; have h1 := unhide H1; have h2 := unhide H2; have h3 := unhide H3; unfold Wd at *; omega) | skip
      rintro r w9 ⟨rfl, hbel⟩
      replace hr := keep hr hbel
      replace hb := bnext hb hb.size hbel
      clear c0 c1 c2 c3 hbel
      go_wp2_with (refine wpList_store_row rfl 24 (.tmp 2) (.tmp 55) rfl _ _ rfl rfl 24 _ hr (El_sz _) (by rfl) (El_all _) ?_)
      refine bodyPost_ret (results_cell_row rfl _ _ _ 24 _ (0, 0) _ rfl (setRow_heap _ _ _ _ _ _ hr) Tryd.underlying24 rfl (El_sz _)) rfl ?_
      exact ⟨rfl, below_setRow hb (by omega) _⟩

/-! What is told. -/
theorem orB (k : Nat) (a b c : Int) (ha : 0 ≤ a ∧ a < ((2 ^ k : Nat) : Int)) (hk : k ≤ 64) (hc : b * ((2 ^ k : Nat) : Int) % 18446744073709551616 = c * ((2 ^ k : Nat) : Int)) (h0 : 0 ≤ c) (h1 : c * ((2 ^ k : Nat) : Int) < 18446744073709551616) :
    bits .or .u64 a (IntKind.u64.wrap (b * ((2 ^ k : Nat) : Int))) = a + b * ((2 ^ k : Nat) : Int) % 18446744073709551616 := by
  rw [IntKind.wrap_u64, hc]
  exact or_hi k c a ha ⟨h0, h1⟩ (Nat.pow_le_pow_right (by decide) hk)
def Li (x : Int) : Prop := 0 ≤ x ∧ x < 2251799813685248
theorem or51 (a b : Int) (ha : Li a) : bits .or .u64 a (IntKind.u64.wrap (b * 2251799813685248)) = a + b * 2251799813685248 % 18446744073709551616 := by
  unfold Li at *
  exact orB 51 a b (b % 8192) ⟨ha.1, by have := ha.2; omega⟩ (by decide) (by omega) (by omega) (by omega)
theorem or38 (a b : Int) (ha : Li a) : bits .or .u64 (a / 8192) (IntKind.u64.wrap (b * 274877906944)) = a / 8192 + b * 274877906944 % 18446744073709551616 := by
  unfold Li at *
  exact orB 38 (a / 8192) b (b % 67108864) ⟨by omega, by omega⟩ (by decide) (by omega) (by omega) (by omega)
theorem or25 (a b : Int) (ha : Li a) : bits .or .u64 (a / 67108864) (IntKind.u64.wrap (b * 33554432)) = a / 67108864 + b * 33554432 % 18446744073709551616 := by
  unfold Li at *
  exact orB 25 (a / 67108864) b (b % 549755813888) ⟨by omega, by omega⟩ (by decide) (by omega) (by omega) (by omega)
theorem or12 (a b : Int) (ha : Li a) : bits .or .u64 (a / 549755813888) (IntKind.u64.wrap (b * 4096)) = a / 549755813888 + b * 4096 % 18446744073709551616 := by
  unfold Li at *
  exact orB 12 (a / 549755813888) b (b % 4503599627370496) ⟨by omega, by omega⟩ (by decide) (by omega) (by omega) (by omega)
structure BytI (n : Int) (w : World) (g3 g4 : Nat) (k : Nat) (wr : World) : Prop where
  hr : Arr wr (w.heap.size + 1) 25 (U8 (List.replicate 32 0))
  h3 : Arr wr g3 46 (U64 (dg (2 ^ 64) 4 n))
  h4 : Arr wr g4 25 (U8 (dg 256 k n ++ List.replicate (32 - k) 0))
  hb : Below w.heap.size w wr
theorem tell_set (n : Int) (k : Nat) (hk : k < 32) : (dg 256 k n ++ List.replicate (32 - k) 0).set k (n / 256 ^ k % 256) = dg 256 (k + 1) n ++ List.replicate (32 - (k + 1)) 0 := by
  rw [dg_app 256 (by decide) k 1 n, show 32 - k = (32 - (k + 1)) + 1 by omega, List.replicate_succ, List.set_append_right _ _ (by rw [dg_len]; omega), dg_len, Nat.sub_self, List.set_cons_zero, List.append_assoc]
  rfl
set_option maxHeartbeats 2000000 in
set_option maxRecDepth 100000 in
theorem bytes_any (x : List Int) (a : Int) (w : World) (hx : Rep x a) :
    Calls Tryd.prog 16 #[.agg (U64 x).toArray] w fun r w' => r = .returned (.agg (U8 (bts a)).toArray) ∧ Below w.heap.size w w' := by
  have HX := hide hx
  clear hx
  go_enter Tryd.func16, Tryd.ntmps16
  go_wp2_with (refine wpList_load_row rfl 24 (.tmp 1) rfl _ rfl 24 _ (0, 0) _ (nw2_0 w _ _ _ _) Tryd.underlying24 rfl (unhide HX).sz ?_)
  refine (least_any x a _ (unhide HX)).mono ?_
  rintro r w1 ⟨rfl, hbel⟩
  obtain ⟨h1, hr, hb, hs⟩ := after2 hbel
  have hb1 := below_setRow hb (Nat.le_refl _) (U64 (El a)).toArray
  have h1b : (w1.setRow w.heap.size (U64 (El a)).toArray).heap[w.heap.size]? = _ := setRow_heap _ _ _ (U64 (El a)).toArray _ _ h1
  have hrb : (w1.setRow w.heap.size (U64 (El a)).toArray).heap[w.heap.size + 1]? = _ := (setRow_other _ _ _ _ (by omega)).trans hr
  have hle : w.heap.size + 1 < (w1.setRow w.heap.size (U64 (El a)).toArray).heap.size := blk_lt hrb
  clear hbel hb hr
  have hbd := El_bd a
  obtain ⟨n, hn⟩ : ∃ n, n = a % PP := ⟨_, rfl⟩
  rw [← hn] at hbd
  obtain ⟨x0, x1, x2, x3, x4, hl⟩ : ∃ x0 x1 x2 x3 x4, El a = [x0, x1, x2, x3, x4] := ⟨_, _, _, _, _, rfl⟩
  have hlims : lims n = [x0, x1, x2, x3, x4] := by rw [hn]; exact hl
  have hwd := words_of n hbd.1 (by have := hbd.2; unfold PP at this; omega) x0 x1 x2 x3 x4 hlims
  have hli : ∀ z ∈ lims n, Li z := by
    intro z hz
    simp only [lims, List.mem_cons, List.not_mem_nil, or_false] at hz
    rcases hz with rfl | rfl | rfl | rfl | rfl <;> (unfold Li; omega)
  rw [hlims] at hli
  have o0 := or51 x0 x1 (hli x0 (by simp))
  have o1 := or38 x1 x2 (hli x1 (by simp))
  have o2 := or25 x2 x3 (hli x2 (by simp))
  have o3 := or12 x3 x4 (hli x3 (by simp))
  have hA : Arr (w1.setRow w.heap.size (U64 (El a)).toArray) w.heap.size 24 (U64 (El a)) := h1b
  have c0 := hA.cell64 0 (by rw [hl]; simp)
  have c1 := hA.cell64 1 (by rw [hl]; simp)
  have c2 := hA.cell64 2 (by rw [hl]; simp)
  have c3 := hA.cell64 3 (by rw [hl]; simp)
  have c4 := hA.cell64 4 (by rw [hl]; simp)
  have g0 : (El a).getD 0 0 = x0 := by rw [hl]; rfl
  have g1 : (El a).getD 1 0 = x1 := by rw [hl]; rfl
  have g2 : (El a).getD 2 0 = x2 := by rw [hl]; rfl
  have g3 : (El a).getD 3 0 = x3 := by rw [hl]; rfl
  have g4 : (El a).getD 4 0 = x4 := by rw [hl]; rfl
  rw [g0] at c0
  rw [g1] at c1
  rw [g2] at c2
  rw [g3] at c3
  rw [g4] at c4
  have HN := hide hn
  have HBD := hide hbd
  have HWD := hide hwd
  have HLE := hide hle
  have HO0 := hide o0
  have HO1 := hide o1
  have HO2 := hide o2
  have HO3 := hide o3
  clear hn hbd hl hlims hwd hli o0 o1 o2 o3 hA g0 g1 g2 g3 g4 h1b hs hle
  go_wp2_with (first
    | refine wpList_store_row rfl 24 (.tmp 1) (.tmp 7) rfl _ _ rfl rfl 24 _ h1 (El_sz _) (by simp [(unhide HX).len, (Rep.El a).len]) (El_all _) ?_)
  rw [unhide HO0, unhide HO1, unhide HO2, unhide HO3]
  have hsz : (w1.setRow w.heap.size (U64 (El a)).toArray).heap.size = w1.heap.size := by simp
  obtain ⟨k3, k4, hb2, -⟩ := after2 (Below.refl _ _ : Below (((w1.setRow w.heap.size (U64 (El a)).toArray).alloc (.cells (U64 [x0 + x1 * 2251799813685248 % 18446744073709551616, x1 / 8192 + x2 * 274877906944 % 18446744073709551616, x2 / 67108864 + x3 * 33554432 % 18446744073709551616, x3 / 549755813888 + x4 * 4096 % 18446744073709551616]).toArray 46)).alloc (.cells (U8 (List.replicate 32 0)).toArray 25)).heap.size _ _)
  rw [hsz] at k3
  rw [hsz] at k4
  have hr2 := keep hrb hb2
  have hb3 := bnext hb1 hb1.size hb2
  have hle := unhide HLE
  rw [hsz] at hle
  have HLT := hide hle
  clear c0 c1 c2 c3 c4 hb1 hrb hb2 h1 HLE hle
  go_loopw [36] (fun i wr => ∃ (k : Nat), k ≤ 32 ∧ i = .int .i64 k ∧ BytI n w w1.heap.size (w1.heap.size + 1) k wr) (fun i _ => 32 - (intOf i).toNat)
  case atStart => exact ⟨0, by omega, rfl, hr2, by rw [unhide HWD]; exact k3, k4, hb3⟩
  case round =>
    clear k3 k4 hr2 hb3
    obtain ⟨k, hk, rfl, I⟩ := hrel
    by_cases hlt : k < 32
    · have f4 := I.h4.frozen k
      have c4 := I.h4.cell8 k (by simp [dg_len]; omega)
      have c3 := I.h3.cell64 (k / 8) (by rw [dg_len]; omega)
      have hby := byte_of n k hlt
      have hD := (Dg_dg (2 ^ 64) (two_pos 64) 4 n).at (two_pos 64) (k / 8)
      generalize hx3 : (dg (2 ^ 64) 4 n).getD (k / 8) 0 = z at c3 hby hD
      have HI := hide I
      have e1 : z / 2 ^ (k % 8 * 8) % 256 = n / 256 ^ k % 256 := by rw [pow_bytes, hby]
      have HE := hide e1
      clear I hby hD hx3 e1
      go_wp2_with fail
      rw [unhide HE]
      go_roundw
      case rel =>
        have I := unhide HI
        have h3 := I.h4.set8 k (n / 256 ^ k % 256)
        rw [tell_set n k hlt] at h3
        have l1 := unhide HLT
        exact ⟨k + 1, by omega, by go_num, I.hr.other _ (by show w.heap.size + 1 ≠ w1.heap.size + 1; omega), I.h3.other _ (by show w1.heap.size ≠ w1.heap.size + 1; omega), h3, I.hb.setCell (by show w.heap.size ≤ w1.heap.size + 1; omega) _⟩
      case measure => simp [intOf]; omega
    · have : k = 32 := by omega
      subst this
      clear hk hlt
      have hE : dg 256 32 n ++ List.replicate (32 - 32) 0 = bts a := by rw [Nat.sub_self, List.replicate_zero, List.append_nil, unhide HN]; rfl
      have h4 := I.h4
      rw [hE] at h4
      have hr := I.hr
      have hb := I.hb
      clear I hE
      go_wp2_with (first
        | refine wpList_load_row rfl 25 (.tmp 4) rfl _ rfl 25 _ (0, 0) _ h4 Tryd.underlying25 rfl (Tryd.sz32' (bts_len a)) ?_
        | refine wpList_store_row rfl 25 (.tmp 2) (.tmp 51) rfl _ _ rfl rfl 25 _ hr (Tryd.sz32' (bts_len a)) (by simp [bts_len]) (all_one (U8_one _)) ?_)
      refine bodyPost_ret (results_cell_row rfl _ _ _ 25 _ (0, 0) _ rfl (setRow_heap _ _ _ _ _ _ hr) Tryd.underlying25 rfl (Tryd.sz32' (bts_len a))) rfl ?_
      exact ⟨rfl, below_setRow hb (by omega) _⟩
end Go.Proofs.YtfjnpbiihndhhaaDoor
