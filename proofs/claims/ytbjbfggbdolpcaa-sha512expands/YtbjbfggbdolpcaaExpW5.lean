import Derived.Test.YtbjbfggbdolpcaaSchedW5
import Derived.Deep.QuietTactic
import Derived.BigQuiet
namespace Go.Proofs.Ytbjbfggbdolpcaa.S5
open Go.RowKit

theorem turned_code (x n : Int) (h0 : 0 ≤ x) (h1 : x < 18446744073709551616) (hn0 : 1 ≤ n) (hn1 : n ≤ 63) :
    bits .or .u64 (x / 2 ^ n.toNat) (x * 2 ^ (64 - n).toNat % 18446744073709551616) = rotZ 64 x (-n) := by
  have h := rot64_code x (-n) h0 h1
  have e1 : ((-n) % 64).toNat = (64 - n).toNat := by omega
  have e2 : (64 - (-n) % 64).toNat = n.toNat := by omega
  rw [e1, e2] at h
  rw [← h, bits_or64, bits_or64, BitVec.or_comm]

set_option maxHeartbeats 400000 in
theorem turned_any (x n : Int) (w : World) (hx0 : 0 ≤ x) (hx1 : x < 18446744073709551616) (hn0 : 1 ≤ n) (hn1 : n ≤ 63) :
    Calls Try.prog 10 #[.int .u64 x, .int .u64 n] w fun e w' => e = .returned (.int .u64 (rotZ 64 x (-n))) ∧ w' = w := by
  have HX0 := hide hx0
  have HX1 := hide hx1
  clear hx0 hx1
  go_enter Try.func10, Try.ntmps10
  go_wp2
  go_ret
  exact ⟨ret_int (turned_code x n (unhide HX0) (unhide HX1) hn0 hn1), rfl⟩
theorem wordAt_byte (B : List Int) (q r : Nat) (hB : IsB B) (hl : 8 * q + 8 ≤ B.length) (hr : r < 8) : wordAt B q / 2 ^ (56 - 8 * r) % 256 = B.getD (8 * q + r) 0 := by
  have hp : ((B.drop (8 * q)).take 8).length = 8 := by simp; omega
  have hg : B.getD (8 * q + r) 0 = ((B.drop (8 * q)).take 8).getD r 0 := by
    simp only [List.getD_eq_getElem?_getD, List.getElem?_take, hr, if_true, List.getElem?_drop]
  have hI : IsB ((B.drop (8 * q)).take 8) := (hB.drop _).take _
  rw [hg]
  unfold wordAt
  generalize (B.drop (8 * q)).take 8 = p at hp hI
  match p, hp with
  | [a, b, c, d, e, f, g, h], _ =>
    simp only [IsB, List.mem_cons, List.not_mem_nil, or_false, forall_eq_or_imp, forall_eq] at hI
    obtain ⟨h1, h2, h3, h4, h5, h6, h7, h8⟩ := hI
    simp only [List.reverse_cons, List.reverse_nil, List.nil_append, List.cons_append, leV]
    match r, hr with
    | 0, _ => simp; omega
    | 1, _ => simp; omega
    | 2, _ => simp; omega
    | 3, _ => simp; omega
    | 4, _ => simp; omega
    | 5, _ => simp; omega
    | 6, _ => simp; omega
    | 7, _ => simp; omega
theorem sched_at (b : List Int) (k : Nat) : ∀ n, k < n → (sched b n).getD k 0 = if k < 16 then wordAt b k else nextW (sched b k)
  | 0, h => by omega
  | n + 1, h => by
    by_cases hk : k < n
    · rw [← sched_at b k n hk]
      simp only [sched, List.getD_eq_getElem?_getD]
      rw [List.getElem?_append_left (by simpa using hk)]
    · obtain rfl : k = n := by omega
      simp only [sched, List.getD_eq_getElem?_getD]
      rw [List.getElem?_append_right (by simp)]
      simp
theorem sched_rule (b : List Int) (t n : Nat) (h16 : 16 ≤ t) (h : t < n) : (sched b n).getD t 0 = ad (ad (ad (s1Z ((sched b n).getD (t - 2) 0)) ((sched b n).getD (t - 7) 0)) (s0Z ((sched b n).getD (t - 15) 0))) ((sched b n).getD (t - 16) 0) := by
  have e : ∀ i, i < t → (sched b n).getD i 0 = (sched b t).getD i 0 := fun i hi => by rw [sched_at b i n (by omega), sched_at b i t hi]
  rw [sched_at b t n h, if_neg (by omega), e (t - 2) (by omega), e (t - 7) (by omega), e (t - 15) (by omega), e (t - 16) (by omega)]
  unfold nextW; rw [sched_length]
theorem Try.sz128x : (Try.prog.info? 27).map (·.size) = some 128 := by kernel_rfl
theorem zero80w : (Try.prog.info? 28).map (·.size) = some 80 := by kernel_rfl

set_option maxHeartbeats 2000000 in
set_option maxRecDepth 100000 in
theorem expands_any (B : List Int) (w : World) (hl : B.length = 128) (hB : IsB B) :
    Calls Try.prog 5 #[.agg (U8 B).toArray] w fun e w' => e = .returned (.bool true) ∧ Below w.heap.size w w' := by
  have HL := hide hl
  clear hl
  have hzb : (Try.prog.info? 27).map (·.size) = some (U8 B).toArray.size := by rw [Try.sz128x]; simp [unhide HL]
  obtain ⟨W, hW, hA, hbW, -⟩ := arr1 w 27 (U8 B)
  have hld := hA
  rw [hW] at hld
  have HW := hide hW
  clear hW
  go_enter Try.func5, Try.ntmps5
  go_wp2_with (refine wpList_load_row rfl 27 (.tmp 1) rfl w.heap.size rfl 27 _ (0, 0) _ hld Try.underlying27 rfl hzb ?_)
  rw [← unhide HW]
  clear hld hzb HW
  refine (schedule_any B W (unhide HL) hB).mono ?_
  rintro e w1 ⟨rfl, hb1⟩
  have hLn : (sched B 80).length = 80 := sched_length B 80
  obtain ⟨L, hL⟩ : ∃ L, L = sched B 80 := ⟨_, rfl⟩
  rw [← hL] at hLn ⊢
  have HLL := hide hL
  have hz : (Try.prog.info? 28).map (·.size) = some (U64 L).toArray.size := by rw [zero80w]; simp [hLn]
  have HLN := hide hLn
  obtain ⟨Z, hZ, hzv⟩ := zero80_named
  have hzs : Z.toArray.size = (U64 L).toArray.size := by rw [hZ]; simp [hLn]
  clear hL hLn hZ
  obtain ⟨W2, hW2, hAL, hb2, -⟩ := arr1 w1 28 (U64 L)
  have HW2 := hide hW2
  clear hW2
  go_wp2_with (refine wpList_store_row rfl 28 _ _ rfl w1.heap.size _ rfl rfl 28 _ (heap_alloc_last w1 _) hz hzs (all_one (U64_one _)) ?_; rw [World.setRow_alloc_new, ← unhide HW2])
  have hbT : Below w.heap.size w W2 := (hbW.trans (hb1.mono hbW.size)).trans (hb2.mono (by have := hb1.size; have := hbW.size; omega))
  have hA2 := (hA.later hb1).later hb2
  have hgl : w.heap.size < w1.heap.size := by have := hA.lt; have := hb1.size; omega
  have hLW : IsW L := by rw [unhide HLL]; exact sched_isW B 80 hB
  generalize w1.heap.size = gL at *
  clear hz hzv hzs HW2 hb2 hb1 hbW hA
  go_loopw [4] (fun i wr => ∃ j : Nat, j ≤ 128 ∧ i = .int .i64 j ∧ Arr wr gL 28 (U64 L) ∧ Arr wr w.heap.size 27 (U8 B) ∧ Below w.heap.size w wr) (fun i _ => 128 - (intOf i).toNat)
  case atStart => exact ⟨0, by omega, rfl, hAL, hA2, hbT⟩
  case round =>
    clear hAL hA2 hbT
    obtain ⟨j, hj, rfl, hAL, hA, hb⟩ := hrel
    by_cases hjl : j < 128
    · obtain ⟨q, hq⟩ : ∃ q, q = j / 8 := ⟨_, rfl⟩
      obtain ⟨r, hr⟩ : ∃ r, r = j % 8 := ⟨_, rfl⟩
      have hq1 : (j : Int) / 8 = (q : Int) := by omega
      have hr1 : (j : Int) % 8 = (r : Int) := by omega
      have hr7 : r ≤ 7 := by omega
      have hq7 : q < 16 := by omega
      have cg := hAL.cell64 q (by rw [unhide HLN]; omega)
      have cb := hA.cell8 j (by rw [unhide HL]; exact hjl)
      have hv : L.getD q 0 / 2 ^ (56 - 8 * r) % 256 = B.getD j 0 := by
        rw [unhide HLL, sched_at B q 80 (by omega), if_pos hq7, wordAt_byte B q r hB (by rw [unhide HL]; omega) (by omega)]
        congr 1; omega
      have hx0 := (hLW.at q).1
      generalize L.getD q 0 = x at cg hv hx0
      generalize B.getD j 0 = y at cb hv
      have HV := hide hv
      have hj128 : (j : Int) < 128 := by omega
      clear hv hq hr
      go_wp2_with fail
      obtain ⟨sh, hsh⟩ : ∃ sh, sh = 56 - 8 * r := ⟨_, rfl⟩
      have hs1 : (56 : Int) - 8 * (r : Int) = (sh : Int) := by omega
      have hs2 : sh ≤ 56 := by omega
      rw [hs1]
      have HV2 : Hid (x / 2 ^ sh % 256 = y) := by show _ = _; rw [hsh]; exact unhide HV
      clear HV hs1 hsh hr1 hr7
      have q1 : IntKind.i64.wrap ((j : Int) / 8) = (q : Int) := by rw [IntKind.wrap_i64]; omega
      have q2 : (q : Int) < 80 := by omega
      have q3 : (0 : Int) ≤ (q : Int) := by omega
      clear hq1
      go_quiet (fail)
      rw [unhide HV2]
      go_wp2
      go_roundw
      case rel => exact ⟨j + 1, by omega, by go_num, hAL.drewN _, hA.drewN _, below_drewN hb _⟩
      case measure => simp [intOf]; omega
    · have hj128 : ¬ ((j : Int) < 128) := by omega
      have hjd : decide ((j : Int) < 128) = false := by simpa using hj128
      clear hj128
      go_wp2_with fail
      clear hj hjl hjd
      generalize (j : Int) = j0
      go_loopw [6] (fun i wr => ∃ t : Nat, 16 ≤ t ∧ t ≤ 80 ∧ i = .int .i64 t ∧ Arr wr gL 28 (U64 L) ∧ Below w.heap.size w wr) (fun i _ => 80 - (intOf i).toNat)
      case atStart => exact ⟨16, by omega, by omega, rfl, hAL, hb⟩
      case round =>
        clear hAL hA hb
        obtain ⟨t, ht0, ht, rfl, hAL, hb⟩ := hrel
        by_cases hlt : t < 80
        · have ct := hAL.cell64 t (by rw [unhide HLN]; omega)
          have c2 := hAL.cell64 (t - 2) (by rw [unhide HLN]; omega)
          have c7 := hAL.cell64 (t - 7) (by rw [unhide HLN]; omega)
          have c15 := hAL.cell64 (t - 15) (by rw [unhide HLN]; omega)
          have c16 := hAL.cell64 (t - 16) (by rw [unhide HLN]; omega)
          have b2 := hLW.at (t - 2)
          have b15 := hLW.at (t - 15)
          have hrule := sched_rule B t 80 ht0 hlt
          rw [← unhide HLL] at hrule
          generalize L.getD t 0 = xt at ct hrule
          generalize L.getD (t - 2) 0 = x2 at c2 b2 hrule
          generalize L.getD (t - 7) 0 = x7 at c7 hrule
          generalize L.getD (t - 15) 0 = x15 at c15 b15 hrule
          generalize L.getD (t - 16) 0 = x16 at c16 hrule
          obtain ⟨m2, hm2, hn2⟩ : ∃ m, t - 2 = m ∧ (t : Int) - 2 = (m : Int) := ⟨t - 2, rfl, by omega⟩
          obtain ⟨m7, hm7, hn7⟩ : ∃ m, t - 7 = m ∧ (t : Int) - 7 = (m : Int) := ⟨t - 7, rfl, by omega⟩
          obtain ⟨m15, hm15, hn15⟩ : ∃ m, t - 15 = m ∧ (t : Int) - 15 = (m : Int) := ⟨t - 15, rfl, by omega⟩
          obtain ⟨m16, hm16, hn16⟩ : ∃ m, t - 16 = m ∧ (t : Int) - 16 = (m : Int) := ⟨t - 16, rfl, by omega⟩
          rw [hm2] at c2
          rw [hm7] at c7
          rw [hm15] at c15
          rw [hm16] at c16
          have d2 : (m2 : Int) < 80 := by omega
          have p2 : (0 : Int) ≤ (m2 : Int) := by omega
          have w2 : IntKind.i64.wrap ((t : Int) - 2) = (m2 : Int) := by rw [IntKind.wrap_i64]; omega
          have d7 : (m7 : Int) < 80 := by omega
          have p7 : (0 : Int) ≤ (m7 : Int) := by omega
          have w7 : IntKind.i64.wrap ((t : Int) - 7) = (m7 : Int) := by rw [IntKind.wrap_i64]; omega
          have d15 : (m15 : Int) < 80 := by omega
          have p15 : (0 : Int) ≤ (m15 : Int) := by omega
          have w15 : IntKind.i64.wrap ((t : Int) - 15) = (m15 : Int) := by rw [IntKind.wrap_i64]; omega
          have d16 : (m16 : Int) < 80 := by omega
          have p16 : (0 : Int) ≤ (m16 : Int) := by omega
          have w16 : IntKind.i64.wrap ((t : Int) - 16) = (m16 : Int) := by rw [IntKind.wrap_i64]; omega
          obtain ⟨b20, b21⟩ := b2
          obtain ⟨b150, b151⟩ := b15
          have B21 := hide b21
          have B151 := hide b151
          have HR := hide hrule
          clear hm2 hm7 hm15 hm16 b21 b151 hrule
          go_wp2_with fail
          refine (turned_any x2 19 _ b20 (unhide B21) (by omega) (by omega)).mono ?_
          rintro e w' ⟨rfl, rfl⟩
          go_wp2_with fail
          refine (turned_any x2 61 _ b20 (unhide B21) (by omega) (by omega)).mono ?_
          rintro e w' ⟨rfl, rfl⟩
          go_wp2_with fail
          refine (turned_any x15 1 _ b150 (unhide B151) (by omega) (by omega)).mono ?_
          rintro e w' ⟨rfl, rfl⟩
          go_wp2_with fail
          refine (turned_any x15 8 _ b150 (unhide B151) (by omega) (by omega)).mono ?_
          rintro e w' ⟨rfl, rfl⟩
          go_wp2_with fail
          rw [show bits BinOp.xor IntKind.u64 (bits BinOp.xor IntKind.u64 (rotZ 64 x2 (-19)) (rotZ 64 x2 (-61))) (x2 / 64) = s1Z x2 from rfl, show bits BinOp.xor IntKind.u64 (bits BinOp.xor IntKind.u64 (rotZ 64 x15 (-1)) (rotZ 64 x15 (-8))) (x15 / 128) = s0Z x15 from rfl]
          generalize s1Z x2 = A at HR ⊢
          generalize s0Z x15 = D at HR ⊢
          have HE : Hid (IntKind.u64.wrap (IntKind.u64.wrap (IntKind.u64.wrap (A + x7) + D) + x16) = xt) := by
            show _ = _
            rw [unhide HR]; simp only [IntKind.wrap_u64, ad]
          clear HR c2 c15 hn2 hn7 hn15 hn16
          go_quiet (fail)
          rw [unhide HE]
          go_wp2
          go_roundw
          case rel => exact ⟨t + 1, by omega, by omega, by go_num, hAL.drewN _, below_drewN hb _⟩
          case measure => simp [intOf]; omega
        · have hlt' : ¬ ((t : Int) < 80) := by omega
          have hltd : decide ((t : Int) < 80) = false := by simpa using hlt'
          go_wp2
          go_ret
          exact ⟨rfl, hb⟩
end Go.Proofs.Ytbjbfggbdolpcaa.S5
