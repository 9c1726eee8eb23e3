import Derived.Test.YtmpbbookbmfbnaaDoorSgdM
namespace Go.Proofs.YtmpbbookbmfbnaaDoor
open Go.RowKit

/-! Digits and Clamp, by the program. -/
structure DiI (a : List Int) (n : Int) (w : World) (g k : Nat) (c : Int) (P : List Int) (wr : World) : Prop where
  ha : Arr wr w.heap.size 23 (U8 a)
  hr : Arr wr (w.heap.size + 1) 25 (I8 (List.replicate 64 0))
  hd : Arr wr g 25 (I8 (P ++ List.replicate (64 - k) 0))
  hb : Below w.heap.size w wr
  sd : Sd n k c P
def zD : List Int := List.replicate 64 0
theorem i8_id (z : Int) (h : -128 ≤ z ∧ z ≤ 127) : IntKind.i8.wrap z = z := by
  show (if (true && decide (z % 256 ≥ 128)) = true then z % 256 - 256 else z % 256) = z
  by_cases hz : z % 256 ≥ 128
  · rw [if_pos (by simp [hz])]; omega
  · rw [if_neg (by simp [hz])]; omega
set_option maxHeartbeats 2000000 in
set_option maxRecDepth 100000 in
theorem digits_no (a : List Int) (w : World) (hO : OLaid w) (hl : a.length = 32) (hd : Dg 256 a) (hc : ¬ num 256 a < LL) :
    Calls Tryd.prog 9 #[.agg (U8 a).toArray] w fun e w' => e = .returned (.tuple #[.agg (I8 zD).toArray, .bool false]) ∧ Below w.heap.size w w' := by
  have HO := hide hO
  have HL := hide hl
  have HD := hide hd
  have HC : Hid (decide (num 256 a < LL) = false) := decide_eq_false hc
  clear hO hl hd hc
  obtain ⟨h0, h1, hb, -⟩ := after2 (Below.refl _ _ : Below ((w.alloc (.cells (U8 a).toArray 23)).alloc (.cells (I8 zD).toArray 25)).heap.size _ _)
  have hzs := szS (unhide HL)
  go_enter Tryd.func9, Tryd.ntmps9
  go_wp2_with (refine wpList_load_row rfl 23 (.tmp 1) rfl _ rfl 23 _ (0, 0) _ h0 Tryd.underlying23 rfl hzs ?_)
  refine (canonical_any a _ ((unhide HO).later hb) (unhide HL) (unhide HD)).mono ?_
  rintro e w1 ⟨rfl, hbel⟩
  rw [unhide HC]
  have hr : Arr w1 (w.heap.size + 1) 25 (I8 zD) := keep h1 hbel
  replace hb := bnext hb hb.size hbel
  have hz := szD (l := zD) rfl
  clear hbel h0 h1 hzs
  go_wp2_with (first
    | refine wpList_build_to rfl 25 _ rfl (I8 zD).toArray (by kernel_rfl) ?_
    | refine wpList_store_row rfl 25 (.tmp 2) (.tmp 11) rfl _ _ rfl rfl 25 _ hr hz (by rfl) (all_one (I8_one _)) ?_)
  refine bodyPost_ret (results_row_tmp rfl _ _ _ 25 _ (0, 0) _ rfl (.bool false) rfl (setRow_heap _ _ _ _ _ _ hr) Tryd.underlying25 rfl hz) rfl ?_
  exact ⟨rfl, below_setRow hb (by omega) _⟩
set_option maxHeartbeats 2000000 in
set_option maxRecDepth 100000 in
theorem digits_ok (a : List Int) (w : World) (hO : OLaid w) (hl : a.length = 32) (hd : Dg 256 a) (hc : num 256 a < LL) :
    Calls Tryd.prog 9 #[.agg (U8 a).toArray] w fun e w' => e = .returned (.tuple #[.agg (I8 (digs (num 256 a))).toArray, .bool true]) ∧ Below w.heap.size w w' := by
  obtain ⟨n, hn⟩ : ∃ n, n = num 256 a := ⟨_, rfl⟩
  have han : a = dg 256 32 n := by rw [hn]; exact bytes_is a hl hd
  have h00 : 0 ≤ n := by rw [hn]; exact (num_bd 256 (by decide) a hd).1
  rw [← hn] at hc ⊢
  have HN := hide hn
  have HAN := hide han
  have H00 := hide h00
  have HO := hide hO
  have HL := hide hl
  have HD := hide hd
  have HC := hide hc
  clear hO hl hd hc hn han h00
  obtain ⟨h0, h1, hb, -⟩ := after2 (Below.refl _ _ : Below ((w.alloc (.cells (U8 a).toArray 23)).alloc (.cells (I8 zD).toArray 25)).heap.size _ _)
  have hzs := szS (unhide HL)
  go_enter Tryd.func9, Tryd.ntmps9
  go_wp2_with (refine wpList_load_row rfl 23 (.tmp 1) rfl _ rfl 23 _ (0, 0) _ h0 Tryd.underlying23 rfl hzs ?_)
  refine (canonical_any a _ ((unhide HO).later hb) (unhide HL) (unhide HD)).mono ?_
  rintro e w1 ⟨rfl, hbel⟩
  rw [← unhide HN, decide_eq_true (unhide HC)]
  have ha : Arr w1 w.heap.size 23 (U8 a) := keep h0 hbel
  have hr : Arr w1 (w.heap.size + 1) 25 (I8 zD) := keep h1 hbel
  replace hb := bnext hb hb.size hbel
  have lt1 := hr.lt
  have hI : DiI a n w w1.heap.size 0 0 [] (w1.alloc (.cells (I8 zD).toArray 25)) := ⟨ha.alloc _, hr.alloc _, heap_alloc_last w1 _, hb.alloc hb.size _, Sd.start n⟩
  have HI := hide hI
  have HLT := hide lt1
  clear hbel h0 h1 hzs ha hr hb lt1 hI
  go_wp2_with fail
  generalize w1.heap.size = g at *
  go_loopw [5, 12] (fun c i wr => ∃ (k : Nat) (q : Int) (P : List Int), k ≤ 64 ∧ i = .int .i64 k ∧ c = .int .i8 q ∧ DiI a n w g k q P wr) (fun _ i _ => 64 - (intOf i).toNat)
  case atStart => exact ⟨0, 0, [], by omega, rfl, rfl, unhide HI⟩
  case round =>
    clear HI
    obtain ⟨k, q, P, hk, rfl, rfl, I⟩ := hrel
    by_cases hlt : k < 64
    · have c1 := I.ha.cell8 (k / 2) (by rw [unhide HL]; omega)
      have f4 := I.hd.frozen k
      have c4 := I.hd.celli8 k (by simp [I.sd.len]; omega)
      have hnib := nib_at n k hlt
      rw [← unhide HAN] at hnib
      have hab := (unhide HD).at (by decide) (k / 2)
      generalize a.getD (k / 2) 0 = x at c1 hnib hab
      have hxs : 0 ≤ x / 2 ^ (k % 2 * 4) ∧ x / 2 ^ (k % 2 * 4) < 256 := ⟨Int.ediv_nonneg hab.1 (Int.le_of_lt (Int.pow_pos (by decide))), Int.lt_of_le_of_lt (Int.ediv_le_self _ hab.1) hab.2⟩
      have hand := and15 _ hxs
      rw [hnib] at hand
      have hy : 0 ≤ n / 16 ^ k % 16 ∧ n / 16 ^ k % 16 < 16 := ⟨Int.emod_nonneg _ (by decide), Int.emod_lt_of_pos _ (by decide)⟩
      have hstep := I.sd.step _ _ rfl rfl
      have hq := I.sd.c01
      generalize n / 16 ^ k % 16 = y at hand hy hstep
      have HST := hide hstep
      have HY := hide hy
      have HQ := hide hq
      have HI := hide I
      clear I hstep hy hq hab hxs hnib
      have y0 := unhide HY
      have q0 := unhide HQ
      have w1 : IntKind.i8.wrap y = y := i8_id y (by omega)
      have w2 : IntKind.i8.wrap (y + q) = y + q := i8_id _ (by omega)
      have w3 : IntKind.i8.wrap (y + q + 8) = y + q + 8 := i8_id _ (by omega)
      have w4 : (y + q + 8).tdiv 16 = (y + q + 8) / 16 := Int.tdiv_eq_ediv_of_nonneg (by omega)
      have w5 : IntKind.i8.wrap ((y + q + 8) / 16) = (y + q + 8) / 16 := i8_id _ (by omega)
      have w6 : IntKind.i8.wrap (16 * ((y + q + 8) / 16)) = 16 * ((y + q + 8) / 16) := i8_id _ (by omega)
      have w7 : IntKind.i8.wrap (y + q - 16 * ((y + q + 8) / 16)) = y + q - 16 * ((y + q + 8) / 16) := i8_id _ (by omega)
      have W1 := hide w1
      have W2 := hide w2
      have W3 := hide w3
      have W4 := hide w4
      have W5 := hide w5
      have W6 := hide w6
      have W7 := hide w7
      clear w1 w2 w3 w4 w5 w6 w7 y0 q0
      go_wp2_with fail
      rw [unhide W1, unhide W2, unhide W3, unhide W4, unhide W5, unhide W6, unhide W7]
      go_roundw
      case rel =>
        have I := unhide HI
        have h3 := I.hd.seti8 k (y + q - 16 * ((y + q + 8) / 16))
        rw [set_snoc P k 64 _ I.sd.len hlt] at h3
        have l1 := unhide HLT
        exact ⟨k + 1, _, _, by omega, by go_num, rfl, I.ha.other _ (by show w.heap.size ≠ g; omega), I.hr.other _ (by show w.heap.size + 1 ≠ g; omega), h3, I.hb.setCell (by show w.heap.size ≤ g; omega) _, unhide HST⟩
      case measure => simp [intOf]; omega
    · have : k = 64 := by omega
      subst this
      clear hk hlt
      have hE := I.sd.done (unhide H00) (unhide HC)
      subst hE
      have hd := I.hd
      rw [Nat.sub_self, List.replicate_zero, List.append_nil] at hd
      have hr := I.hr
      have hb := I.hb
      have hz := szD (digs_len n)
      clear I
      go_wp2_with (first
        | refine wpList_load_row rfl 25 (.tmp 4) rfl _ rfl 25 _ (0, 0) _ hd Tryd.underlying25 rfl hz ?_
        | refine wpList_store_row rfl 25 (.tmp 2) (.tmp 37) rfl _ _ rfl rfl 25 _ hr hz (sz_eqi8 (by rw [digs_len]; rfl)) (all_one (I8_one _)) ?_)
      refine bodyPost_ret (results_row_tmp rfl _ _ _ 25 _ (0, 0) _ rfl (.bool true) rfl (setRow_heap _ _ _ _ _ _ hr) Tryd.underlying25 rfl hz) rfl ?_
      exact ⟨rfl, below_setRow hb (by omega) _⟩

end Go.Proofs.YtmpbbookbmfbnaaDoor
