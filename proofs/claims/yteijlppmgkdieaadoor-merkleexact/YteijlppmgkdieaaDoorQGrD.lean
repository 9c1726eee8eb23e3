import Derived.Test.YteijlppmgkdieaaDoorQGrC
import Derived.Test.YteijlppmgkdieaaDoorQGrA
import Derived.Test.YteijlppmgkdieaaDoorQGrB
import Derived.RegionTactic
import Derived.BigRegion
import Derived.Deep.RegionWith
namespace Go.Proofs.YteijlppmgkdieaaDoor
open Go.RowKit

/-! The reference's own turns, words and schedule. -/
theorem turned_code (x n : Int) (h0 : 0 ≤ x) (h1 : x < 4294967296) (hn0 : 1 ≤ n) (hn1 : n ≤ 31) :
    bits .or .u32 (x / 2 ^ n.toNat) (x * 2 ^ (32 - n).toNat % 4294967296) = rotZ 32 x (-n) := by
  have h := rot32_code x (-n) h0 h1
  have e1 : ((-n) % 32).toNat = (32 - n).toNat := by omega
  have e2 : (32 - (-n) % 32).toNat = n.toNat := by omega
  rw [e1, e2] at h
  rw [← h, bits_or32, bits_or32, BitVec.or_comm]

set_option maxHeartbeats 400000 in
set_option maxRecDepth 100000 in
theorem turned_any (x n : Int) (w : World) (hx0 : 0 ≤ x) (hx1 : x < 4294967296) (hn0 : 1 ≤ n) (hn1 : n ≤ 31) :
    Calls Tryd.prog 77 #[.int .u32 x, .int .i64 n] w fun e w' => e = .returned (.int .u32 (rotZ 32 x (-n))) ∧ w' = w := by
  have HX0 := hide hx0
  have HX1 := hide hx1
  clear hx0 hx1
  go_enter Tryd.func77, Tryd.ntmps77
  go_wp2
  go_ret
  exact ⟨ret_int (turned_code x n (unhide HX0) (unhide HX1) hn0 hn1), rfl⟩

theorem leV_step (p : List Int) (k : Nat) (hk : k < p.length) : leV (p.take (k + 1)).reverse = leV (p.take k).reverse * 256 + p.getD k 0 := by
  rw [List.take_succ_eq_append_getElem hk, List.reverse_append, getD_lt p k hk]
  simp [leV]
  omega
set_option maxHeartbeats 1000000 in
set_option maxRecDepth 100000 in
theorem word_any (b off len cap at_ : Nat) (l : List Int) (w : World) (hl : l.length = len) (hB : IsB l) (hlies : Lies w (some ⟨b, off, none⟩) l) (h1 : at_ + 4 ≤ len) (h2 : len ≤ cap) (h3 : cap ≤ maxLen) :
    Calls Tryd.prog 76 #[.slice (some ⟨b, off, none⟩) len cap, .int .i64 at_] w fun e w' => e = .returned (.int .u32 (leV ((l.drop at_).take 4).reverse)) ∧ w' = w := by
  unfold maxLen at h3
  have hp : ((l.drop at_).take 4).length = 4 := by simp; omega
  have hpB : IsB ((l.drop at_).take 4) := (hB.drop _).take _
  have hpl : Lies w (some ⟨b, off + at_, none⟩) ((l.drop at_).take 4) := hlies.sub at_ 4 (by omega)
  have hpc : ∀ i, i < 4 → w.cell? ⟨b, off + (at_ + i), none⟩ = some (.int .u8 (((l.drop at_).take 4).getD i 0)) := by
    obtain ⟨b', off', he, _, hc⟩ := hpl (by omega)
    simp at he; obtain ⟨rfl, rfl⟩ := he
    intro i hi; rw [← Nat.add_assoc]; exact hc i (by omega)
  generalize (l.drop at_).take 4 = p at hp hpB hpc
  have HP : Hid (p.length = 4) := hp
  clear hpl hlies hB hl hp
  go_enter Tryd.func76, Tryd.ntmps76
  go_wp2
  go_loop [5, 6] (fun x i => ∃ k : Nat, k ≤ 4 ∧ i = .int .i64 k ∧ x = .int .u32 (leV (p.take k).reverse)) (fun _ i => 4 - (intOf i).toNat)
  case atStart => exact ⟨0, by omega, rfl, by simp [leV]⟩
  case round =>
    obtain ⟨k, hk, rfl, rfl⟩ := hrel
    by_cases hlt : k < 4
    · have hc := hpc k hlt
      obtain ⟨hb0, hb1⟩ := hpB.at k
      have hst := leV_step p k (by rw [HP.out]; exact hlt)
      have hbd : 0 ≤ leV (p.take (k + 1)).reverse ∧ leV (p.take (k + 1)).reverse < 2 ^ (8 * (p.take (k + 1)).reverse.length) := leV_bd _ (by intro x hx; exact hpB x (List.mem_of_mem_take (List.mem_reverse.1 hx)))
      have hbl : (p.take (k + 1)).reverse.length = k + 1 := by simp [HP.out]; omega
      rw [hbl] at hbd
      have hle : (2 : Int) ^ (8 * (k + 1)) ≤ 4294967296 := by
        have : (2 : Nat) ^ (8 * (k + 1)) ≤ 2 ^ 32 := Nat.pow_le_pow_right (by omega) (by omega)
        have h2 : ((2 ^ (8 * (k + 1)) : Nat) : Int) = (2 : Int) ^ (8 * (k + 1)) := by simp
        omega
      have hfin : 0 ≤ leV (p.take (k + 1)).reverse ∧ leV (p.take (k + 1)).reverse < 4294967296 := ⟨hbd.1, Int.lt_of_lt_of_le hbd.2 hle⟩
      clear hbd hle hbl
      clear hpc
      have hik : (at_ : Int) + k < len := by omega
      generalize p.getD k 0 = c at hc hb0 hb1 hst
      generalize leV (p.take k).reverse = V at hst
      have HC := hide hst
      have HF := hide hfin
      clear hst hfin
      go_wp2
      go_round
      case rel => exact ⟨k + 1, by omega, by go_num, val_int (by have := HC.out; have := HF.out; omega)⟩
      case measure => simp [intOf]; omega
    · go_wp2
      go_ret
      have : k = 4 := by omega
      subst this
      rw [List.take_of_length_le (by rw [HP.out]; omega)]
      exact ⟨rfl, rfl⟩
end Go.Proofs.YteijlppmgkdieaaDoor

namespace Go.Proofs.YteijlppmgkdieaaDoor
open Go.RowKit

theorem cell_set_off_drew (w : World) (b : Nat) (v : Value) {i j : Nat} (h : i ≠ j) : (w.setCell ⟨b, j, none⟩ v).drew.cell? ⟨b, i, none⟩ = w.cell? ⟨b, i, none⟩ := cell_set_off w b v h

set_option maxHeartbeats 1000000 in
set_option maxRecDepth 100000 in
theorem refSchedule_any (B : List Int) (w : World) (hl : B.length = 64) (hB : IsB B) :
    Calls Tryd.prog 69 #[.agg (U8 B).toArray] w fun e w' => e = .returned (.agg (U32 (sched B 64)).toArray) ∧ Below w.heap.size w w' := by
  have HL := hide hl
  clear hl
  go_enter Tryd.func69, Tryd.ntmps69
  go_wp2_with fail
  rw [Z64]
  go_loopw [4] (fun i wr => ∃ k : Nat, k ≤ 16 ∧ i = .int .i64 k ∧ SchedI B w k wr) (fun i _ => 16 - (intOf i).toNat)
  case atStart =>
    refine ⟨0, by omega, rfl, ?_⟩
    have hs : (((w.alloc (Obj.cells (U8 B).toArray 52)).alloc (Obj.cells (U32 (List.replicate 64 0)).toArray 71))).heap.size = w.heap.size + 1 + 1 := by simp
    have hs1 : (w.alloc (Obj.cells (U8 B).toArray 52)).heap.size = w.heap.size + 1 := by simp
    refine ⟨((Arr.new _ _ _).alloc _).alloc _, ?_, ?_, ((Below.refl _ _).alloc (Nat.le_refl _) _ |>.alloc (by rw [hs1]; omega) _).alloc (by rw [hs]; omega) _⟩
    · have := (Arr.new (w.alloc (Obj.cells (U8 B).toArray 52)) 71 (U32 (List.replicate 64 0))).alloc (Obj.cells (U32 (List.replicate 64 0)).toArray 71)
      rw [hs1] at this; exact this
    · have := Arr.new ((w.alloc (Obj.cells (U8 B).toArray 52)).alloc (Obj.cells (U32 (List.replicate 64 0)).toArray 71)) 71 (U32 (List.replicate 64 0))
      rw [hs] at this; rw [schedA_zero]; exact this
  case round =>
    obtain ⟨k, hk, rfl, I⟩ := hrel
    by_cases hlt : k < 16
    · have hfz := I.arr.frozen k
      have hcl := I.arr.cell32 k (by rw [schedA_length _ _ (by omega)]; omega)
      go_wp2_with fail
      have e4 : (4 * (k : Int)) = ((4 * k : Nat) : Int) := by omega
      rw [e4]
      clear e4
      refine (word_any w.heap.size 0 64 64 (4 * k) B wr (unhide HL) hB I.blk.lies (by omega) (by omega) (by decide)).mono ?_
      rintro e w' ⟨rfl, rfl⟩
      have hx : leV ((B.drop (4 * k)).take 4).reverse = wordAt B k := rfl
      rw [hx]
      have bd := wordAt_bd B k hB
      generalize hX : wordAt B k = X at bd
      have HX := hide hX
      clear hX hx
      go_wp2
      go_roundw
      case rel =>
        refine ⟨k + 1, by omega, by go_num, I.blk.other _ (by show w.heap.size ≠ w.heap.size + 1 + 1; omega), I.res.other _ (by show w.heap.size + 1 ≠ w.heap.size + 1 + 1; omega), ?_, I.bel.setCell (by show w.heap.size ≤ w.heap.size + 1 + 1; omega) _⟩
        have := I.arr.set32 k X
        rwa [schedA_set B k (by omega) X (by rw [if_pos hlt]; exact (unhide HX).symm)] at this
      case measure => simp [intOf]; omega
    · have I16 : SchedI B w 16 wr := by
        have e : k = 16 := by omega
        rw [← e]; exact I
      clear I
      go_wp2_with fail
      clear hk hlt
      generalize (k : Int) = k0
      generalize decide (k0 < 16) = b0
      go_loopw [5] (fun i wr => ∃ k : Nat, 16 ≤ k ∧ k ≤ 64 ∧ i = .int .i64 k ∧ SchedI B w k wr) (fun i _ => 64 - (intOf i).toNat)
      case atStart => exact ⟨16, by omega, by omega, rfl, I16⟩
      case round =>
        clear I16
        obtain ⟨k, hk0, hk, rfl, I⟩ := hrel
        by_cases hlt : k < 64
        · have hfz := I.arr.frozen k
          have hL := schedA_length B k (by omega)
          have hcl := I.arr.cell32 k (by omega)
          have g2 := schedA_at B k (k - 2) (by omega)
          have g7 := schedA_at B k (k - 7) (by omega)
          have g15 := schedA_at B k (k - 15) (by omega)
          have g16 := schedA_at B k (k - 16) (by omega)
          have c2 := I.arr.cell32 (k - 2) (by omega)
          have c7 := I.arr.cell32 (k - 7) (by omega)
          have c15 := I.arr.cell32 (k - 15) (by omega)
          have c16 := I.arr.cell32 (k - 16) (by omega)
          have hW := sched_isW B k hB
          have b2 := hW.at (k - 2)
          have b15 := hW.at (k - 15)
          rw [g2] at c2
          rw [g7] at c7
          rw [g15] at c15
          rw [g16] at c16
          have HX : Hid (ad (ad (ad (s1Z ((sched B k).getD (k - 2) 0)) ((sched B k).getD (k - 7) 0)) (s0Z ((sched B k).getD (k - 15) 0))) ((sched B k).getD (k - 16) 0) = nextW (sched B k)) := by
            show _ = _; unfold nextW; rw [sched_length]
          generalize (sched B k).getD (k - 2) 0 = x2 at c2 b2 HX
          generalize (sched B k).getD (k - 7) 0 = x7 at c7 HX
          generalize (sched B k).getD (k - 15) 0 = x15 at c15 b15 HX
          generalize (sched B k).getD (k - 16) 0 = x16 at c16 HX
          generalize (schedA B k).getD k 0 = xk at hcl
          obtain ⟨m2, hm2, hn2⟩ : ∃ m, k - 2 = m ∧ (k : Int) - 2 = (m : Int) := ⟨k - 2, rfl, by omega⟩
          obtain ⟨m7, hm7, hn7⟩ : ∃ m, k - 7 = m ∧ (k : Int) - 7 = (m : Int) := ⟨k - 7, rfl, by omega⟩
          obtain ⟨m15, hm15, hn15⟩ : ∃ m, k - 15 = m ∧ (k : Int) - 15 = (m : Int) := ⟨k - 15, rfl, by omega⟩
          obtain ⟨m16, hm16, hn16⟩ : ∃ m, k - 16 = m ∧ (k : Int) - 16 = (m : Int) := ⟨k - 16, rfl, by omega⟩
          rw [hm2] at c2
          rw [hm7] at c7
          rw [hm15] at c15
          rw [hm16] at c16
          have d2 : (m2 : Int) < 64 := by omega
          have p2 : (0 : Int) ≤ (m2 : Int) := by omega
          have w2 : IntKind.i64.wrap ((k : Int) - 2) = (m2 : Int) := by rw [IntKind.wrap_i64]; omega
          have d7 : (m7 : Int) < 64 := by omega
          have p7 : (0 : Int) ≤ (m7 : Int) := by omega
          have w7 : IntKind.i64.wrap ((k : Int) - 7) = (m7 : Int) := by rw [IntKind.wrap_i64]; omega
          have d15 : (m15 : Int) < 64 := by omega
          have p15 : (0 : Int) ≤ (m15 : Int) := by omega
          have w15 : IntKind.i64.wrap ((k : Int) - 15) = (m15 : Int) := by rw [IntKind.wrap_i64]; omega
          have d16 : (m16 : Int) < 64 := by omega
          have p16 : (0 : Int) ≤ (m16 : Int) := by omega
          have w16 : IntKind.i64.wrap ((k : Int) - 16) = (m16 : Int) := by rw [IntKind.wrap_i64]; omega
          have ne2 : m2 ≠ k := by omega
          have ne7 : m7 ≠ k := by omega
          have ne15 : m15 ≠ k := by omega
          have ne16 : m16 ≠ k := by omega
          obtain ⟨b20, b21⟩ := b2
          obtain ⟨b150, b151⟩ := b15
          clear hn2 hn7 hn15 hn16 hm2 hm7 hm15 hm16 g2 g7 g15 g16 hW hL
          have hI := hide I
          clear I
          go_wp2_with fail
          refine (turned_any x2 17 _ b20 b21 (by decide) (by decide)).mono ?_
          rintro e w' ⟨rfl, rfl⟩
          go_wp2_with fail
          refine (turned_any x2 19 _ b20 b21 (by decide) (by decide)).mono ?_
          rintro e w' ⟨rfl, rfl⟩
          go_wp2_with fail
          refine (turned_any x15 7 _ b150 b151 (by decide) (by decide)).mono ?_
          rintro e w' ⟨rfl, rfl⟩
          go_wp2_with fail
          refine (turned_any x15 18 _ b150 b151 (by decide) (by decide)).mono ?_
          rintro e w' ⟨rfl, rfl⟩
          go_wp2_with fail
          have es1 : bits .xor .u32 (bits .xor .u32 (rotZ 32 x2 (-17)) (rotZ 32 x2 (-19))) (x2 / 1024) = s1Z x2 := rfl
          have es0 : bits .xor .u32 (bits .xor .u32 (rotZ 32 x15 (-7)) (rotZ 32 x15 (-18))) (x15 / 8) = s0Z x15 := rfl
          rw [es1, es0]
          clear es1 es0 c2 c15
          generalize hb : w.heap.size + 1 + 1 = b at *
          have C7 := hide c7
          have C16 := hide c16
          go_region_held3 (fun w' => w'.cell? ⟨b, m7, none⟩ = some (.int .u32 x7) ∧ w'.cell? ⟨b, m16, none⟩ = some (.int .u32 x16)) (first | exact ⟨(cell_set_off_drew _ _ _ ne7).trans (unhide C7), (cell_set_off_drew _ _ _ ne16).trans (unhide C16)⟩ | exact ⟨(cell_set_off _ _ _ ne7).trans (unhide C7), (cell_set_off _ _ _ ne16).trans (unhide C16)⟩ | go_keep) (fail)
          subst hb
          generalize hv : IntKind.u32.wrap (IntKind.u32.wrap (IntKind.u32.wrap (s1Z x2 + x7) + s0Z x15) + x16) = X
          have HV := hide hv
          clear hv
          go_wp2
          go_roundw
          case rel =>
            have I := unhide hI
            have hX : X = nextW (sched B k) := by
              rw [← unhide HX, ← unhide HV]
              simp only [IntKind.wrap_u32', ad]
            refine ⟨k + 1, by omega, by omega, by go_num, I.blk.other _ (by show w.heap.size ≠ w.heap.size + 1 + 1; omega), I.res.other _ (by show w.heap.size + 1 ≠ w.heap.size + 1 + 1; omega), ?_, ((I.bel).setCell (by show w.heap.size ≤ w.heap.size + 1 + 1; omega) _).drew⟩
            rw [← schedA_set B k (by omega) X (by rw [if_neg (by omega)]; exact hX)]
            exact I.arr.set32 k X
          case measure => simp [intOf]; omega
        · have : k = 64 := by omega
          subst this
          clear hk hlt
          have ha := I.arr
          rw [schedA_all] at ha
          have hLn : (sched B 64).length = 64 := sched_length B 64
          obtain ⟨L, hL⟩ : ∃ L, L = sched B 64 := ⟨_, rfl⟩
          rw [← hL] at ha hLn
          have HLL := hide hL
          have HLN := hide hLn
          clear hL hLn
          have hz : (Tryd.prog.info? 71).map (·.size) = some (U32 L).toArray.size := by rw [Tryd.sz64w]; simp [unhide HLN]
          have hbel := I.bel
          have hres := I.res
          clear I
          go_wp2_with (first
            | refine wpList_load_row rfl 71 (.tmp 3) rfl (w.heap.size + 1 + 1) rfl 71 _ (0, 0) _ ha Tryd.underlying71 rfl hz ?_
            | refine wpList_store_row rfl 71 (.tmp 2) (.tmp 63) rfl (w.heap.size + 1) _ rfl rfl 71 _ hres hz (by simp [unhide HLN]) (all_one (U32_one _)) ?_)
          refine bodyPost_ret (results_cell_row rfl _ _ (w.heap.size + 1) 71 _ (0, 0) _ rfl (Arr.setRow hres (U32 L)) Tryd.underlying71 rfl hz) rfl ?_
          rw [← unhide HLL]
          exact ⟨rfl, below_setRow hbel (by omega) _⟩
end Go.Proofs.YteijlppmgkdieaaDoor

namespace Go.Proofs.YteijlppmgkdieaaDoor
open Go.RowKit

set_option maxHeartbeats 1000000 in
set_option maxRecDepth 100000 in
theorem refRounds_any (w : World) :
    Calls Tryd.prog 70 #[] w fun e w' => e = .returned (.agg (U32 KZ).toArray) ∧ Below w.heap.size w w' := by
  obtain ⟨W, hW, hA, hb, hs⟩ := arr1 w 71 (U32 (List.replicate 64 0))
  have hKl : (U32 KZ).toArray.size = 64 := rfl
  have hz : (Tryd.prog.info? 71).map (·.size) = some (U32 KZ).toArray.size := by rw [Tryd.sz64w, hKl]
  have hzo : (U32 (List.replicate 64 0)).toArray.size = (U32 KZ).toArray.size := by rw [hKl]; simp
  have h1 := all_one (U32_one KZ)
  have HW := hide hW
  clear hW hKl
  go_enter Tryd.func70, Tryd.ntmps70
  go_wp2_with (first
    | (refine wpList_build_to rfl 71 _ rfl (U32 KZ).toArray (by kernel_rfl) ?_; rw [Z64, ← unhide HW]; generalize hC : (U32 KZ).toArray = C at hz hzo h1 ⊢)
    | refine wpList_store_row rfl 71 (.tmp 0) (.tmp 1) rfl w.heap.size _ rfl rfl 71 _ hA hz hzo h1 ?_)
  refine bodyPost_ret (results_cell_row rfl _ _ w.heap.size 71 _ (0, 0) _ rfl (setRow_heap W w.heap.size _ C 71 _ hA) Tryd.underlying71 rfl hz) rfl ?_
  rw [hC]
  exact ⟨rfl, below_setRow hb (Nat.le_refl _) _⟩

theorem Z8 : (#[Value.int .u32 0, .int .u32 0, .int .u32 0, .int .u32 0, .int .u32 0, .int .u32 0, .int .u32 0, .int .u32 0] : Array Value) = (U32 [0, 0, 0, 0, 0, 0, 0, 0]).toArray := rfl
/-- what the reference's loop lays: the state, one place on -/
def sh (s : List Int) (i : Nat) : Int := if i = 0 then 0 else s.getD (i - 1) 0

set_option maxHeartbeats 2000000 in
set_option maxRecDepth 100000 in
theorem refRound_any (s : List Int) (kk ww : Int) (w : World) (hs : s.length = 8) (hsW : IsW s) :
    Calls Tryd.prog 71 #[.agg (U32 s).toArray, .int .u32 kk, .int .u32 ww] w fun e w' => e = .returned (.agg (U32 (rnd (St.ofL s) kk ww).toL).toArray) ∧ Below w.heap.size w w' := by
  have HS := hide hs
  clear hs
  obtain ⟨a0, b0, c0, d0, e0, f0, g0, h0, rfl⟩ : ∃ a b c d e f g h, s = [a, b, c, d, e, f, g, h] := by
    have := unhide HS
    match s, this with
    | [a, b, c, d, e, f, g, h], _ => exact ⟨a, b, c, d, e, f, g, h, rfl⟩
  clear HS
  obtain ⟨⟨pa, qa⟩, -, -, -, ⟨pe, qe⟩, -, -, -⟩ := St.ok_parts (St.ofL_ok hsW)
  have pa : 0 ≤ a0 := pa
  have qa : a0 < 4294967296 := qa
  have pe : 0 ≤ e0 := pe
  have qe : e0 < 4294967296 := qe
  obtain ⟨W, hW, hA, hR, hbW, hsW2⟩ := arr2 w 51 51 (U32 [a0, b0, c0, d0, e0, f0, g0, h0]) (U32 [0, 0, 0, 0, 0, 0, 0, 0])
  have q0 : W.cell? ⟨w.heap.size, 0, none⟩ = some (.int .u32 a0) := hA.cell 0
  have q1 : W.cell? ⟨w.heap.size, 1, none⟩ = some (.int .u32 b0) := hA.cell 1
  have q2 : W.cell? ⟨w.heap.size, 2, none⟩ = some (.int .u32 c0) := hA.cell 2
  have q4 : W.cell? ⟨w.heap.size, 4, none⟩ = some (.int .u32 e0) := hA.cell 4
  have q5 : W.cell? ⟨w.heap.size, 5, none⟩ = some (.int .u32 f0) := hA.cell 5
  have q6 : W.cell? ⟨w.heap.size, 6, none⟩ = some (.int .u32 g0) := hA.cell 6
  have q7 : W.cell? ⟨w.heap.size, 7, none⟩ = some (.int .u32 h0) := hA.cell 7
  have HW := hide hW
  clear hW
  go_enter Tryd.func71, Tryd.ntmps71
  go_wp2_with (rw [Z8, ← unhide HW])
  rw [show bits .xor .u32 (bits .and .u32 e0 f0) (bits .and .u32 (4294967295 - e0) g0) = chZ e0 f0 g0 from rfl,
    show bits .xor .u32 (bits .xor .u32 (bits .and .u32 a0 b0) (bits .and .u32 a0 c0)) (bits .and .u32 b0 c0) = majZ a0 b0 c0 from rfl]
  go_quiet ((go_at_call 77; exact Calls.quiet_of_same (turned_any _ _ _ pe qe (by decide) (by decide))))
  generalize hT : (((h0 + bits BinOp.xor IntKind.u32 (bits BinOp.xor IntKind.u32 (rotZ 32 e0 (-6)) (rotZ 32 e0 (-11))) (rotZ 32 e0 (-25)) + chZ e0 f0 g0 + kk) % 4294967296 + ww) % 4294967296) = T1
  have HT : Hid (T1 = t1Z ⟨a0, b0, c0, d0, e0, f0, g0, h0⟩ kk ww) := by
    show _ = _
    rw [← hT]
    show _ = ad (ad (ad (ad h0 (S1Z e0)) (chZ e0 f0 g0)) kk) ww
    rw [show bits BinOp.xor IntKind.u32 (bits BinOp.xor IntKind.u32 (rotZ 32 e0 (-6)) (rotZ 32 e0 (-11))) (rotZ 32 e0 (-25)) = S1Z e0 from rfl]
    unfold ad
    omega
  clear hT q0 q1 q2 q4 q5 q6 q7 HW
  obtain ⟨W1, hW1⟩ : ∃ W1, W1 = W.drewN nq := ⟨_, rfl⟩
  have hA1 : Arr W1 w.heap.size 51 (U32 [a0, b0, c0, d0, e0, f0, g0, h0]) := by rw [hW1]; exact hA
  have hR1 : Arr W1 (w.heap.size + 1) 51 (U32 [0, 0, 0, 0, 0, 0, 0, 0]) := by rw [hW1]; exact hR
  have hb1 : Below w.heap.size w W1 := by rw [hW1]; exact below_drewN hbW nq
  have hs1 : W1.heap.size = w.heap.size + 1 + 1 := by rw [hW1]; exact hsW2
  rw [← hW1]
  clear hW1 hA hR hbW hsW2
  go_wp2_with fail
  refine (turned_any _ _ _ pa qa (by decide) (by decide)).mono ?_
  rintro e w' ⟨rfl, rfl⟩
  go_wp2_with fail
  refine (turned_any _ _ _ pa qa (by decide) (by decide)).mono ?_
  rintro e w' ⟨rfl, rfl⟩
  go_wp2_with fail
  refine (turned_any _ _ _ pa qa (by decide) (by decide)).mono ?_
  rintro e w' ⟨rfl, rfl⟩
  go_wp2_with fail
  rw [Z8, show ((bits BinOp.xor IntKind.u32 (bits BinOp.xor IntKind.u32 (rotZ 32 a0 (-2)) (rotZ 32 a0 (-13))) (rotZ 32 a0 (-22)) + majZ a0 b0 c0) % 4294967296) = t2Z ⟨a0, b0, c0, d0, e0, f0, g0, h0⟩ from rfl]
  generalize hT2 : t2Z ⟨a0, b0, c0, d0, e0, f0, g0, h0⟩ = T2
  have HT2 := hide hT2
  clear hT2
  obtain ⟨W2, hW2, hN2, hb2, -⟩ := arr1 w' 51 (U32 [0, 0, 0, 0, 0, 0, 0, 0])
  have hA2 := hA1.later hb2
  have hR2 := hR1.later hb2
  have hbT : Below w.heap.size w W2 := hb1.trans (hb2.mono (by omega))
  rw [hs1] at hN2
  rw [← hW2]
  clear hW2 hb2 hA1 hR1 hb1 hs1
  generalize hs0 : [a0, b0, c0, d0, e0, f0, g0, h0] = s at hA2
  have hs8 : s.length = 8 := by rw [← hs0]; rfl
  have HS8 := hide hs8
  have HS0 := hide hs0
  clear hs8 hs0
  go_loopw [14] (fun i wr => ∃ j : Nat, 1 ≤ j ∧ j ≤ 8 ∧ i = .int .i64 j ∧ Arr wr w.heap.size 51 (U32 s) ∧ Arr wr (w.heap.size + 1) 51 (U32 [0, 0, 0, 0, 0, 0, 0, 0]) ∧ Arr wr (w.heap.size + 1 + 1) 51 (U32 (fill 8 (sh s) j)) ∧ Below w.heap.size w wr) (fun i _ => 8 - (intOf i).toNat)
  case atStart =>
    refine ⟨1, by omega, by omega, rfl, hA2, hR2, ?_, hbT⟩
    have e : fill 8 (sh s) 1 = [0, 0, 0, 0, 0, 0, 0, 0] := by rw [← fill_set, fill_zero]; rfl
    rw [e]; exact hN2
  case round =>
    clear hA2 hR2 hN2 hbT
    obtain ⟨j, hj1, hj8, rfl, hA, hR, hN, hbl⟩ := hrel
    by_cases hlt : j < 8
    · have fj := hN.frozen j
      have cj := hN.cell32 j (by simpa using hlt)
      have ci := hA.cell32 (j - 1) (by rw [unhide HS8]; omega)
      generalize (fill 8 (sh s) j).getD j 0 = xj at cj
      obtain ⟨m, hm, hm2⟩ : ∃ m, j - 1 = m ∧ (j : Int) - 1 = m := ⟨j - 1, rfl, by omega⟩
      have wm : IntKind.i64.wrap ((j : Int) - 1) = (m : Int) := by rw [IntKind.wrap_i64]; omega
      have wm8 : (m : Int) < 8 := by omega
      have wm0 : (0 : Int) ≤ m := by omega
      rw [hm] at ci
      generalize hx : s.getD m 0 = x at ci
      have HX : Hid (x = sh s j) := by
        show _ = _; unfold sh; rw [if_neg (by omega), hm, hx]
      clear hx hm hm2
      go_wp2
      go_roundw
      case rel =>
        refine ⟨j + 1, by omega, by omega, by go_num, hA.other _ (by show w.heap.size ≠ w.heap.size + 1 + 1; omega), hR.other _ (by show w.heap.size + 1 ≠ w.heap.size + 1 + 1; omega), ?_, hbl.setCell (by show w.heap.size ≤ w.heap.size + 1 + 1; omega) _⟩
        rw [← fill_set, ← unhide HX]
        exact hN.set32 j x
      case measure => simp [intOf]; omega
    · have e8 : j = 8 := by omega
      have hN' : Arr wr (w.heap.size + 1 + 1) 51 (U32 [0, a0, b0, c0, d0, e0, f0, g0]) := by
        rw [e8, fill_all, ← unhide HS0] at hN; exact hN
      clear hN e8
      have c4 : wr.cell? ⟨w.heap.size + 1 + 1, 4, none⟩ = some (.int .u32 d0) := hN'.cell 4
      have c0' : wr.cell? ⟨w.heap.size + 1 + 1, 0, none⟩ = some (.int .u32 0) := hN'.cell 0
      have f4 := hN'.frozen 4
      have f0' := hN'.frozen 0
      have ne2 : w.heap.size + 1 ≠ w.heap.size + 1 + 1 := by omega
      have hld := (hN'.set32 4 ((d0 + T1) % 4294967296)).set32 0 ((T1 + T2) % 4294967296)
      have hst := (hR.other (a := ⟨w.heap.size + 1 + 1, 4, none⟩) (.int .u32 ((d0 + T1) % 4294967296)) ne2).other (a := ⟨w.heap.size + 1 + 1, 0, none⟩) (.int .u32 ((T1 + T2) % 4294967296)) ne2
      have HLD := hide hld
      have HST := hide hst
      clear hld hst
      go_wp2_with (first
        | refine wpList_load_row rfl 51 (.tmp 13) rfl (w.heap.size + 1 + 1) rfl 51 _ (0, 0) _ (unhide HLD) Tryd.underlying51 rfl Tryd.sz8w ?_
        | refine wpList_store_row rfl 51 (.tmp 6) (.tmp 90) rfl (w.heap.size + 1) _ rfl rfl 51 _ (unhide HST) Tryd.sz8w rfl (all_one (U32_one _)) ?_)
      refine bodyPost_ret (results_cell_row rfl _ _ (w.heap.size + 1) 51 _ (0, 0) _ rfl (Arr.setRow (unhide HST) _) Tryd.underlying51 rfl Tryd.sz8w) rfl ?_
      refine ⟨?_, below_setRow ((hbl.setCell (by show w.heap.size ≤ w.heap.size + 1 + 1; omega) _).setCell (by show w.heap.size ≤ w.heap.size + 1 + 1; omega) _) (by omega) _⟩
      rw [unhide HT, ← unhide HT2]
      rfl
end Go.Proofs.YteijlppmgkdieaaDoor

namespace Go.Proofs.YteijlppmgkdieaaDoor
open Go.RowKit

structure RBI (s L KL : List Int) (w : World) (gL gK gS : Nat) (S : St) (wr : World) : Prop where
  sta : Arr wr w.heap.size 51 (U32 s)
  res : Arr wr (w.heap.size + 1 + 1) 51 (U32 [0, 0, 0, 0, 0, 0, 0, 0])
  arr : Arr wr gL 71 (U32 L)
  kon : Arr wr gK 71 (U32 KL)
  cur : Arr wr gS 51 (U32 S.toL)
  bel : Below w.heap.size w wr

theorem RBI.later {s L KL : List Int} {w : World} {gL gK gS : Nat} {S : St} {wr w' : World} (h : RBI s L KL w gL gK gS S wr) (hb : Below wr.heap.size wr w') : RBI s L KL w gL gK gS S w' :=
  ⟨h.sta.later hb, h.res.later hb, h.arr.later hb, h.kon.later hb, h.cur.later hb, h.bel.trans (hb.mono h.bel.size)⟩

theorem Arr.set8x {w : World} {g : Nat} {ty : TypeId} {S : St} (h : Arr w g ty (U32 S.toL)) (T : St) :
    Arr ((((((((w.setCell ⟨g, 0, none⟩ (.int .u32 T.a)).setCell ⟨g, 1, none⟩ (.int .u32 T.b)).setCell ⟨g, 2, none⟩ (.int .u32 T.c)).setCell ⟨g, 3, none⟩ (.int .u32 T.d)).setCell ⟨g, 4, none⟩ (.int .u32 T.e)).setCell ⟨g, 5, none⟩ (.int .u32 T.f)).setCell ⟨g, 6, none⟩ (.int .u32 T.g)).setCell ⟨g, 7, none⟩ (.int .u32 T.h)) g ty (U32 T.toL) :=
  (((((((h.set32 0 T.a).set32 1 T.b).set32 2 T.c).set32 3 T.d).set32 4 T.e).set32 5 T.f).set32 6 T.g).set32 7 T.h
theorem Arr.far8 {w : World} {g k : Nat} {ty : TypeId} {l : List Value} (h : Arr w k ty l) (T : St) (hk : k ≠ g) :
    Arr ((((((((w.setCell ⟨g, 0, none⟩ (.int .u32 T.a)).setCell ⟨g, 1, none⟩ (.int .u32 T.b)).setCell ⟨g, 2, none⟩ (.int .u32 T.c)).setCell ⟨g, 3, none⟩ (.int .u32 T.d)).setCell ⟨g, 4, none⟩ (.int .u32 T.e)).setCell ⟨g, 5, none⟩ (.int .u32 T.f)).setCell ⟨g, 6, none⟩ (.int .u32 T.g)).setCell ⟨g, 7, none⟩ (.int .u32 T.h)) k ty l :=
  (((((((h.other _ hk).other _ hk).other _ hk).other _ hk).other _ hk).other _ hk).other _ hk).other _ hk
theorem below8x {B : Nat} {a w : World} {g : Nat} (h : Below B a w) (T : St) (hk : B ≤ g) :
    Below B a ((((((((w.setCell ⟨g, 0, none⟩ (.int .u32 T.a)).setCell ⟨g, 1, none⟩ (.int .u32 T.b)).setCell ⟨g, 2, none⟩ (.int .u32 T.c)).setCell ⟨g, 3, none⟩ (.int .u32 T.d)).setCell ⟨g, 4, none⟩ (.int .u32 T.e)).setCell ⟨g, 5, none⟩ (.int .u32 T.f)).setCell ⟨g, 6, none⟩ (.int .u32 T.g)).setCell ⟨g, 7, none⟩ (.int .u32 T.h)) :=
  (((((((h.setCell hk _).setCell hk _).setCell hk _).setCell hk _).setCell hk _).setCell hk _).setCell hk _).setCell hk _

set_option maxHeartbeats 2000000 in
set_option maxRecDepth 100000 in
theorem refBlock_any (s B : List Int) (w : World) (hs : s.length = 8) (hsW : IsW s) (hl : B.length = 64) (hB : IsB B) :
    Calls Tryd.prog 50 #[.agg (U32 s).toArray, .agg (U8 B).toArray] w fun e w' => e = .returned (.agg (U32 (blockZ s B)).toArray) ∧ Below w.heap.size w w' := by
  have HL := hide hl
  have HS := hide hs
  have hzb : (Tryd.prog.info? 52).map (·.size) = some (U8 B).toArray.size := by rw [Tryd.sz64b]; simp [hl]
  have hzs : (Tryd.prog.info? 51).map (·.size) = some (U32 s).toArray.size := by rw [Tryd.sz8w]; simp [hs]
  have hzs8 : (U32 [0, 0, 0, 0, 0, 0, 0, 0]).toArray.size = (U32 s).toArray.size := by simp [hs]
  clear hl hs
  obtain ⟨W, hW, hA, hBk, hR, hbW, hsW2⟩ := arr3 w 51 52 51 (U32 s) (U8 B) (U32 [0, 0, 0, 0, 0, 0, 0, 0])
  have HW := hide hW
  clear hW
  go_enter Tryd.func50, Tryd.ntmps50
  go_wp2_with (first
    | (rw [Z8, ← unhide HW])
    | refine wpList_load_row rfl 52 (.tmp 3) rfl (w.heap.size + 1) rfl 52 (U8 B).toArray (0, 0) _ hBk Tryd.underlying52 rfl hzb ?_)
  refine (refSchedule_any B W (unhide HL) hB).mono ?_
  rintro e w1 ⟨rfl, hb1⟩
  have hLn : (sched B 64).length = 64 := sched_length B 64
  obtain ⟨L, hL⟩ : ∃ L, L = sched B 64 := ⟨_, rfl⟩
  rw [← hL] at hLn ⊢
  have HLL := hide hL
  have hz : (Tryd.prog.info? 71).map (·.size) = some (U32 L).toArray.size := by rw [Tryd.sz64w]; simp [hLn]
  have hzl : (U32 (List.replicate 64 0)).toArray.size = (U32 L).toArray.size := by simp [hLn]
  have HLN := hide hLn
  clear hL hLn HW
  go_wp2_with (rw [Z64]; refine wpList_store_row rfl 71 (.tmp 5) (.tmp 11) rfl w1.heap.size _ rfl rfl 71 _ (heap_alloc_last w1 _) hz hzl (all_one (U32_one _)) ?_)
  rw [World.setRow_alloc_new]
  obtain ⟨W2, hW2, hAL, hb2, hs2⟩ := arr1 w1 71 (U32 L)
  rw [← hW2]
  have hlt1 : w.heap.size + 1 + 1 < w1.heap.size := by have := hb1.size; omega
  have hbT : Below w.heap.size w W2 := (hbW.trans (hb1.mono (by omega))).trans (hb2.mono (by omega))
  have hA2 := (hA.later hb1).later hb2
  have hR2 := (hR.later hb1).later hb2
  clear hW2 hA hR hBk hbW hb1 hb2 hsW2 hzb hz hzl
  refine (refRounds_any W2).mono ?_
  rintro e w3 ⟨rfl, hb3⟩
  have hKl : KZ.length = 64 := rfl
  obtain ⟨KL, hKL⟩ : ∃ KL, KL = KZ := ⟨_, rfl⟩
  rw [← hKL] at hKl ⊢
  have HKL := hide hKL
  have hz : (Tryd.prog.info? 71).map (·.size) = some (U32 KL).toArray.size := by rw [Tryd.sz64w]; simp [hKl]
  have hzl : (U32 (List.replicate 64 0)).toArray.size = (U32 KL).toArray.size := by simp [hKl]
  have HKN := hide hKl
  clear hKl hKL
  have hA3 := hA2.later hb3
  have hR3 := hR2.later hb3
  have hL3 := hAL.later hb3
  have hs3 := hb3.size
  go_wp2_with (first
    | (rw [Z64]; refine wpList_store_row rfl 71 (.tmp 6) (.tmp 12) rfl w3.heap.size _ rfl rfl 71 _ (heap_alloc_last w3 _) hz hzl (all_one (U32_one _)) ?_; rw [World.setRow_alloc_new])
    | refine wpList_load_row rfl 51 (.tmp 2) rfl w.heap.size rfl 51 _ (0, 0) _ (hA3.alloc _) Tryd.underlying51 rfl hzs ?_
    | (rw [Z8]; refine wpList_store_row rfl 51 (.tmp 7) (.tmp 13) rfl (w3.heap.size + 1) _ rfl rfl 51 _ (by simpa using heap_alloc_last (w3.alloc (Obj.cells (U32 KL).toArray 71)) (Obj.cells (U32 [0, 0, 0, 0, 0, 0, 0, 0]).toArray 51)) hzs hzs8 (all_one (U32_one _)) ?_))
  have hs4 : (w3.alloc (Obj.cells (U32 KL).toArray 71)).heap.size = w3.heap.size + 1 := by simp
  obtain ⟨W5, hW5, hK5, hS5, hb5, -⟩ := arr2 w3 71 51 (U32 KL) (U32 s)
  have hX : ((w3.alloc (Obj.cells (U32 KL).toArray 71)).alloc (Obj.cells (U32 [0, 0, 0, 0, 0, 0, 0, 0]).toArray 51)).setRow (w3.heap.size + 1) (U32 s).toArray = W5 := by
    rw [← hs4, World.setRow_alloc_new, hW5]
  rw [hX]
  have hsE : s = (St.ofL s).toL := by
    have := unhide HS
    match s, this with
    | [a, b, c, d, e, f, g, h], _ => rfl
  have R0 : RBI s L KL w w1.heap.size w3.heap.size (w3.heap.size + 1) (St.ofL s) W5 :=
    ⟨hA3.later hb5, hR3.later hb5, hL3.later hb5, hK5, by rw [← hsE]; exact hS5, (hbT.trans (hb3.mono (by omega))).trans (hb5.mono (by omega))⟩
  have ok0 := St.ofL_ok hsW
  have ltK : w1.heap.size < w3.heap.size := by omega
  clear hX hW5 hs4 hK5 hS5 hb5 hA3 hR3 hL3 hbT hb3 hz hzl hzs8 hzs hsE hs3 hs2 hA2 hR2 hAL
  generalize w1.heap.size = gL at *
  generalize w3.heap.size = gK at *
  go_loopw [8] (fun i wr => ∃ k : Nat, ∃ S : St, k ≤ 64 ∧ i = .int .i64 k ∧ S = rounds (St.ofL s) L k ∧ RBI s L KL w gL gK (gK + 1) S wr) (fun i _ => 64 - (intOf i).toNat)
  case atStart => exact ⟨0, _, by omega, rfl, rfl, R0⟩
  case round =>
    clear R0
    obtain ⟨k, S, hk, rfl, hS, I⟩ := hrel
    have HSS := hide hS
    have hok : S.Ok := by rw [hS]; exact ok0.rounds L k
    clear hS
    by_cases hlt : k < 64
    · have ck := I.kon.cell32 k (by rw [unhide HKN]; exact hlt)
      have cl := I.arr.cell32 k (by rw [unhide HLN]; exact hlt)
      generalize hkk : KL.getD k 0 = kk at ck
      generalize hll : L.getD k 0 = ll at cl
      have HKK := hide hkk
      have HLK := hide hll
      clear hkk hll
      have y0 : wr.cell? ⟨gK + 1, 0, none⟩ = some (.int .u32 S.a) := I.cur.cell 0
      have y1 : wr.cell? ⟨gK + 1, 1, none⟩ = some (.int .u32 S.b) := I.cur.cell 1
      have y2 : wr.cell? ⟨gK + 1, 2, none⟩ = some (.int .u32 S.c) := I.cur.cell 2
      have y3 : wr.cell? ⟨gK + 1, 3, none⟩ = some (.int .u32 S.d) := I.cur.cell 3
      have y4 : wr.cell? ⟨gK + 1, 4, none⟩ = some (.int .u32 S.e) := I.cur.cell 4
      have y5 : wr.cell? ⟨gK + 1, 5, none⟩ = some (.int .u32 S.f) := I.cur.cell 5
      have y6 : wr.cell? ⟨gK + 1, 6, none⟩ = some (.int .u32 S.g) := I.cur.cell 6
      have y7 : wr.cell? ⟨gK + 1, 7, none⟩ = some (.int .u32 S.h) := I.cur.cell 7
      go_wp2_with fail
      go_region_with ((
        go_at_call 71
        refine (refRound_any S.toL kk ll _ rfl hok).mono ?_
        rintro e w9 ⟨rfl, hb9⟩
        rw [show (U32 (rnd (St.ofL S.toL) kk ll).toL).toArray = #[.int .u32 (rnd S kk ll).a, .int .u32 (rnd S kk ll).b, .int .u32 (rnd S kk ll).c, .int .u32 (rnd S kk ll).d, .int .u32 (rnd S kk ll).e, .int .u32 (rnd S kk ll).f, .int .u32 (rnd S kk ll).g, .int .u32 (rnd S kk ll).h] from rfl]
        have I9 := I.later ⟨hb9.os, hb9.tape, hb9.output, hb9.size, hb9.block⟩
        have z0 : w9.cell? ⟨gK + 1, 0, none⟩ = some (.int .u32 S.a) := I9.cur.cell 0
        have z1 : w9.cell? ⟨gK + 1, 1, none⟩ = some (.int .u32 S.b) := I9.cur.cell 1
        have z2 : w9.cell? ⟨gK + 1, 2, none⟩ = some (.int .u32 S.c) := I9.cur.cell 2
        have z3 : w9.cell? ⟨gK + 1, 3, none⟩ = some (.int .u32 S.d) := I9.cur.cell 3
        have z4 : w9.cell? ⟨gK + 1, 4, none⟩ = some (.int .u32 S.e) := I9.cur.cell 4
        have z5 : w9.cell? ⟨gK + 1, 5, none⟩ = some (.int .u32 S.f) := I9.cur.cell 5
        have z6 : w9.cell? ⟨gK + 1, 6, none⟩ = some (.int .u32 S.g) := I9.cur.cell 6
        have z7 : w9.cell? ⟨gK + 1, 7, none⟩ = some (.int .u32 S.h) := I9.cur.cell 7
        have fz : ∀ i, w9.frozen? ⟨gK + 1, i, none⟩ = false := I9.cur.frozen
        clear hb9))
      all_goals
        go_wp2
        go_roundw
        case rel =>
          refine ⟨k + 1, rnd S kk ll, by omega, by go_num, ?_, I9.sta.far8 _ (by omega), I9.res.far8 _ (by omega), I9.arr.far8 _ (by omega), I9.kon.far8 _ (by omega), I9.cur.set8x _, below8x I9.bel _ (by omega)⟩
          rw [rounds, ← unhide HSS, ← unhide HKK, ← unhide HLK, unhide HKL]
        case measure => simp [intOf]; omega
    · have e64 : k = 64 := by omega
      have HF : Hid (S = rounds (St.ofL s) L 64) := by
        show _ = _; rw [← e64]; exact unhide HSS
      clear e64
      have hTl : S.toL.length = 8 := rfl
      have icur := I.cur
      generalize hTT : S.toL = T at hTl icur
      have HTT := hide hTT
      have HTL := hide hTl
      clear hTT hTl
      go_wp2_with fail
      go_loopw [9] (fun i wr => ∃ j : Nat, j ≤ 8 ∧ i = .int .i64 j ∧ Arr wr w.heap.size 51 (U32 s) ∧ Arr wr (w.heap.size + 1 + 1) 51 (U32 [0, 0, 0, 0, 0, 0, 0, 0]) ∧ Arr wr (gK + 1) 51 (U32 (addTo T s j)) ∧ Below w.heap.size w wr) (fun i _ => 8 - (intOf i).toNat)
      case atStart =>
        refine ⟨0, by omega, rfl, I.sta, I.res, ?_, I.bel⟩
        rw [addTo_zero _ _ (unhide HTL)]; exact icur
      case round =>
        clear I icur
        obtain ⟨j, hj, rfl, hA, hR, hC, hbl⟩ := hrel
        by_cases hjl : j < 8
        · have cj := hC.cell32 j (by simpa using hjl)
          rw [addTo_at _ _ _ hjl] at cj
          have fj := hC.frozen j
          have cs := hA.cell32 j (by rw [unhide HS]; exact hjl)
          generalize hx : T.getD j 0 = x at cj
          generalize hy : s.getD j 0 = y at cs
          have HX := hide hx
          have HY := hide hy
          clear hx hy
          go_wp2_with fail
          go_region
          go_wp2
          go_roundw
          case rel =>
            have n1 : w.heap.size ≠ gK + 1 := by omega
            have n2 : w.heap.size + 1 + 1 ≠ gK + 1 := by omega
            have n3 : w.heap.size ≤ gK + 1 := by omega
            refine ⟨j + 1, by omega, by go_num, hA.other (a := ⟨gK + 1, j, none⟩) _ n1, hR.other (a := ⟨gK + 1, j, none⟩) _ n2, ?_, (hbl.setCell (p := ⟨gK + 1, j, none⟩) n3 _).drew⟩
            rw [← addTo_set, unhide HX, unhide HY]
            exact hC.set32 j _
          case measure => simp [intOf]; omega
        · have e8 : j = 8 := by omega
          have hC8 : Arr wr (gK + 1) 51 (U32 (blockZ s B)) := by
            rw [e8, addTo_all T s (unhide HTL) (unhide HS), List.zipWith_comm] at hC
            have : List.zipWith (fun b a => ad a b) s T = blockZ s B := by
              unfold blockZ; rw [← unhide HTT, unhide HF, unhide HLL]
              congr 1; funext a b; exact ad_comm _ _
            rwa [this] at hC
          have hR0 : (blockZ s B).length = 8 := blockZ_length s B (unhide HS)
          clear e8 hC
          generalize hRR : blockZ s B = R at hC8 hR0
          have HRR := hide hRR
          clear hRR
          have hzr : (Tryd.prog.info? 51).map (·.size) = some (U32 R).toArray.size := by rw [Tryd.sz8w]; simp [hR0]
          have hzo : (U32 [0, 0, 0, 0, 0, 0, 0, 0]).toArray.size = (U32 R).toArray.size := by simp [hR0]
          have HR0 := hide hR0
          clear hR0
          go_wp2_with (first
            | refine wpList_load_row rfl 51 (.tmp 7) rfl (gK + 1) rfl 51 _ (0, 0) _ hC8 Tryd.underlying51 rfl hzr ?_
            | refine wpList_store_row rfl 51 (.tmp 4) (.tmp 39) rfl (w.heap.size + 1 + 1) _ rfl rfl 51 _ hR hzr hzo (all_one (U32_one _)) ?_)
          refine bodyPost_ret (results_cell_row rfl _ _ (w.heap.size + 1 + 1) 51 _ (0, 0) _ rfl (Arr.setRow hR (U32 R)) Tryd.underlying51 rfl hzr) rfl ?_
          refine ⟨?_, below_setRow hbl (by omega) _⟩
          rw [← unhide HRR]
end Go.Proofs.YteijlppmgkdieaaDoor
