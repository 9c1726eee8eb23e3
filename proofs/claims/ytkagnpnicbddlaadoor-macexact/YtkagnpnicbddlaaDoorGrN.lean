import Derived.Test.YtkagnpnicbddlaaDoorGrB
import Derived.Test.YtkagnpnicbddlaaDoorGrF
import Derived.RegionTactic
import Derived.BigRegion
import Derived.Deep.RegionWith
import Derived.Test.YtkagnpnicbddlaaDoorGrG
import Derived.Lib.SlBytesConst
import Derived.Lib.ConvBytes
namespace Go.Proofs.YtkagnpnicbddlaaDoor.S5
open Go.RowKit

/-! The reference's turns, stirs, words and schedule. -/
theorem turnR_code (x n : Int) (h0 : 0 ≤ x) (h1 : x < 18446744073709551616) (hn0 : 1 ≤ n) (hn1 : n ≤ 63) :
    bits .or .u64 (x / 2 ^ n.toNat) (x * 2 ^ (64 - n).toNat % 18446744073709551616) = rotZ 64 x (-n) := by
  have h := rot64_code x (-n) h0 h1
  have e1 : ((-n) % 64).toNat = (64 - n).toNat := by omega
  have e2 : (64 - (-n) % 64).toNat = n.toNat := by omega
  rw [e1, e2] at h
  rw [← h, bits_or64, bits_or64, BitVec.or_comm]

set_option maxHeartbeats 400000 in
set_option maxRecDepth 100000 in
theorem refR_any (x n : Int) (w : World) (hx0 : 0 ≤ x) (hx1 : x < 18446744073709551616) (hn0 : 1 ≤ n) (hn1 : n ≤ 63) :
    Calls Tryd.prog 95 #[.int .u64 x, .int .u64 n] w fun e w' => e = .returned (.int .u64 (rotZ 64 x (-n))) ∧ w' = w := by
  have HX0 := hide hx0
  have HX1 := hide hx1
  clear hx0 hx1
  go_enter Tryd.func95, Tryd.ntmps95
  go_wp2
  go_ret
  exact ⟨ret_int (turnR_code x n (unhide HX0) (unhide HX1) hn0 hn1), rfl⟩
set_option maxHeartbeats 400000 in
set_option maxRecDepth 100000 in
theorem refs0_any (x : Int) (w : World) (hx0 : 0 ≤ x) (hx1 : x < 18446744073709551616) :
    Calls Tryd.prog 94 #[.int .u64 x] w fun e w' => e = .returned (.int .u64 (s0Z x)) ∧ w' = w := by
  have HX := hide hx1
  clear hx1
  go_enter Tryd.func94, Tryd.ntmps94
  go_wp2_with fail
  refine (refR_any x 1 _ hx0 (unhide HX) (by omega) (by omega)).mono ?_
  rintro e w1 ⟨rfl, rfl⟩
  go_wp2_with fail
  refine (refR_any x 8 _ hx0 (unhide HX) (by omega) (by omega)).mono ?_
  rintro e w2 ⟨rfl, rfl⟩
  go_wp2
  go_ret
  exact ⟨rfl, rfl⟩
set_option maxHeartbeats 400000 in
set_option maxRecDepth 100000 in
theorem refs1_any (x : Int) (w : World) (hx0 : 0 ≤ x) (hx1 : x < 18446744073709551616) :
    Calls Tryd.prog 93 #[.int .u64 x] w fun e w' => e = .returned (.int .u64 (s1Z x)) ∧ w' = w := by
  have HX := hide hx1
  clear hx1
  go_enter Tryd.func93, Tryd.ntmps93
  go_wp2_with fail
  refine (refR_any x 19 _ hx0 (unhide HX) (by omega) (by omega)).mono ?_
  rintro e w1 ⟨rfl, rfl⟩
  go_wp2_with fail
  refine (refR_any x 61 _ hx0 (unhide HX) (by omega) (by omega)).mono ?_
  rintro e w2 ⟨rfl, rfl⟩
  go_wp2
  go_ret
  exact ⟨rfl, rfl⟩

theorem leV_step (p : List Int) (k : Nat) (hk : k < p.length) : leV (p.take (k + 1)).reverse = leV (p.take k).reverse * 256 + p.getD k 0 := by
  rw [List.take_succ_eq_append_getElem hk, List.reverse_append, getD_lt p k hk]
  simp [leV]
  omega
set_option maxHeartbeats 1000000 in
set_option maxRecDepth 100000 in
theorem refWord_any (b off cap : Nat) (p : List Int) (w : World) (hp : p.length = 8) (hpB : IsB p) (hlies : Lies w (some ⟨b, off, none⟩) p) :
    Calls Tryd.prog 92 #[.slice (some ⟨b, off, none⟩) 8 cap] w fun e w' => e = .returned (.int .u64 (leV p.reverse)) ∧ w' = w := by
  have hpc : ∀ i, i < 8 → w.cell? ⟨b, off + i, none⟩ = some (.int .u8 (p.getD i 0)) := by
    obtain ⟨b', off', he, _, hc⟩ := hlies (by omega)
    simp at he; obtain ⟨rfl, rfl⟩ := he
    intro i hi; exact hc i (by omega)
  have HP : Hid (p.length = 8) := hp
  clear hlies hp
  go_enter Tryd.func92, Tryd.ntmps92
  go_wp2
  go_loop [3, 4] (fun x i => ∃ k : Nat, k ≤ 8 ∧ i = .int .i64 k ∧ x = .int .u64 (leV (p.take k).reverse)) (fun _ i => 8 - (intOf i).toNat)
  case atStart => exact ⟨0, by omega, rfl, by simp [leV]⟩
  case round =>
    obtain ⟨k, hk, rfl, rfl⟩ := hrel
    by_cases hlt : k < 8
    · have hc := hpc k hlt
      obtain ⟨hb0, hb1⟩ := hpB.at k
      have hst := leV_step p k (by rw [HP.out]; exact hlt)
      have hbd : 0 ≤ leV (p.take (k + 1)).reverse ∧ leV (p.take (k + 1)).reverse < 2 ^ (8 * (p.take (k + 1)).reverse.length) := leV_bd _ (by intro x hx; exact hpB x (List.mem_of_mem_take (List.mem_reverse.1 hx)))
      have hbl : (p.take (k + 1)).reverse.length = k + 1 := by simp [HP.out]; omega
      rw [hbl] at hbd
      have hle : (2 : Int) ^ (8 * (k + 1)) ≤ 18446744073709551616 := by
        have : (2 : Nat) ^ (8 * (k + 1)) ≤ 2 ^ 64 := Nat.pow_le_pow_right (by omega) (by omega)
        have h2 : ((2 ^ (8 * (k + 1)) : Nat) : Int) = (2 : Int) ^ (8 * (k + 1)) := by simp
        omega
      have hfin : 0 ≤ leV (p.take (k + 1)).reverse ∧ leV (p.take (k + 1)).reverse < 18446744073709551616 := ⟨hbd.1, Int.lt_of_lt_of_le hbd.2 hle⟩
      clear hbd hle hbl
      clear hpc
      generalize p.getD k 0 = c at hc hb0 hb1 hst
      generalize leV (p.take k).reverse = V at hst
      have HC := hide hst
      have HF := hide hfin
      clear hst hfin
      go_wp2
      go_round
      case rel => exact ⟨k + 1, by omega, by go_num, val_int (by have := HC.out; have := HF.out; simp only [IntKind.wrap_u64]; omega)⟩
      case measure => simp [intOf]; omega
    · go_wp2
      go_ret
      have : k = 8 := by omega
      subst this
      rw [List.take_of_length_le (by rw [HP.out]; omega)]
      exact ⟨rfl, rfl⟩
end Go.Proofs.YtkagnpnicbddlaaDoor.S5

namespace Go.Proofs.YtkagnpnicbddlaaDoor.S5
open Go.RowKit

theorem Tryd.infoW : (Tryd.prog.info? 31).map (fun i => (i.zero, i.size, i.bytes)) = some (some (.int .u64 0), 1, 8) := by kernel_rfl
theorem info_partsW {P : Program} {t : TypeId} {z : Value} {s b : Nat} (h : (P.info? t).map (fun i => (i.zero, i.size, i.bytes)) = some (some z, s, b)) : ∃ i, P.info? t = some i ∧ i.zero = some z ∧ i.size = s ∧ i.bytes = b := by
  cases hq : P.info? t with
  | none => simp [hq] at h
  | some i => simp [hq] at h; exact ⟨i, rfl, h.1, h.2.1, h.2.2⟩
theorem one_word (x : Int) : ∀ u ∈ [Value.int .u64 x], u.oneCell' = true := by intro u hu; simp at hu; subst hu; rfl
theorem U64_snoc2 (l : List Int) (x : Int) : U64 l ++ [.int .u64 x] = U64 (l ++ [x]) := by simp [U64]

set_option maxHeartbeats 2000000 in
set_option maxRecDepth 10000 in
theorem words_any (b off cap : Nat) (B : List Int) (w : World) (hl : B.length = 128) (hB : IsB B) (hlies : Lies w (some ⟨b, off, none⟩) B) (hc : 128 ≤ cap) :
    Calls Tryd.prog 87 #[.slice (some ⟨b, off, none⟩) 128 cap] w fun e w' => ∃ v, e = .returned v ∧ w'.ownsRow w.heap.size 31 1 v 80 (U64 (sched B 80)) ∧ Below w.heap.size w w' := by
  obtain ⟨i0, hi, hz0, hz1, hz2⟩ := info_partsW Tryd.infoW
  have HL := hide hl
  have HLI := hide hlies
  clear hl hlies
  go_enter Tryd.func87, Tryd.ntmps87
  go_wp2_with fail
  go_loopw [3, 4] (fun v i wr => ∃ k : Nat, k ≤ 16 ∧ i = .int .i64 k ∧ wr.ownsRow w.heap.size 31 1 v k (U64 (sched B k)) ∧ Below w.heap.size w wr) (fun _ i _ => 16 - (intOf i).toNat)
  case atStart => exact ⟨0, by omega, rfl, World.ownsRow_nil _ _ _ _, Below.refl _ _⟩
  case round =>
    obtain ⟨k, hk, rfl, hown, hbl⟩ := hrel
    by_cases hlt : k < 16
    · have hp : ((B.drop (8 * k)).take 8).length = 8 := by have := unhide HL; simp; omega
      have hpB : IsB ((B.drop (8 * k)).take 8) := (hB.drop _).take _
      have hpl := ((unhide HLI).later hbl).sub (8 * k) 8 (by rw [unhide HL]; omega)
      have hkz : (k : Int) < 16 := by omega
      have hne : ¬ cap = 8 * k := by omega
      go_wp2_with fail
      refine (refWord_any b (off + 8 * k) (cap - 8 * k) _ wr hp hpB hpl).mono ?_
      rintro e w' ⟨rfl, rfl⟩
      obtain ⟨X, hX⟩ : ∃ X, X = leV ((B.drop (8 * k)).take 8).reverse := ⟨_, rfl⟩
      rw [← hX]
      have HX : Hid (sched B (k + 1) = sched B k ++ [X]) := by show _ = _; rw [sched, if_pos hlt, hX]; rfl
      clear hX hp hpB hpl
      go_wp2_with (at_builtin; refine wpList_append_own _ rfl _ _ 99 rfl w.heap.size 31 i0 (.int .u64 0) 1 8 Tryd.underlying99 hi hz0 hz1 hz2 rfl (by decide) _ k (U64 (sched B k)) rfl (hown.alloc _) ⟨w'.heap.size, 0, none⟩ 1 1 [.int .u64 X] rfl rfl (cell_one_new _ _ _) (one_word _) (by unfold maxLen; omega) (by omega) (by have := hbl.size; simp; omega) ?_)
      intro v1 w1 hown1 hgrow1 _
      have hb1 := below_app hbl (Nat.le_refl _) hown hgrow1
      rw [U64_snoc2, ← unhide HX] at hown1
      clear hgrow1 hown hbl
      go_wp2
      go_roundw
      case rel => exact ⟨k + 1, by omega, by go_num, hown1, hb1⟩
      case measure => simp [intOf]; omega
    · have hk16 : k = 16 := by omega
      have hown16 := hown
      rw [hk16] at hown16
      have HO16 := hide hown16
      clear hown hown16 hk16
      go_wp2_with fail
      have hown := unhide HO16
      clear hk hlt HO16
      generalize hk0 : (k : Int) = k0
      clear hk0
      go_loopw [3, 5] (fun v i wr => ∃ t : Nat, 16 ≤ t ∧ t ≤ 80 ∧ i = .int .i64 t ∧ wr.ownsRow w.heap.size 31 1 v t (U64 (sched B t)) ∧ Below w.heap.size w wr) (fun _ i _ => 80 - (intOf i).toNat)
      case atStart => exact ⟨16, by omega, by omega, rfl, hown, hbl⟩
      case round =>
        clear hown hbl
        obtain ⟨t, ht0, ht, rfl, hown, hbl⟩ := hrel
        obtain ⟨g, cp, rfl, hgb, hgl⟩ := hown.form (by omega)
        by_cases hlt : t < 80
        · have hl : (sched B t).length = t := sched_length B t
          have hcell : ∀ j, j < t → wr.cell? ⟨g, j, none⟩ = some (.int .u64 ((sched B t).getD j 0)) := fun j hj => by rw [hown.cellAt j (by omega), U64_at _ j (by rw [hl]; exact hj)]
          have c2 := hcell (t - 2) (by omega)
          have c7 := hcell (t - 7) (by omega)
          have c15 := hcell (t - 15) (by omega)
          have c16 := hcell (t - 16) (by omega)
          have hW := sched_isW B t hB
          have b2 := hW.at (t - 2)
          have b15 := hW.at (t - 15)
          have HR : Hid (sched B (t + 1) = sched B t ++ [ad (ad (ad (s1Z ((sched B t).getD (t - 2) 0)) ((sched B t).getD (t - 7) 0)) (s0Z ((sched B t).getD (t - 15) 0))) ((sched B t).getD (t - 16) 0)]) := by
            show _ = _; rw [sched, if_neg (by omega)]; unfold nextW; rw [hl]
          have hx : ∀ j, j < t → (U64 (sched B t))[j]? = some (.int .u64 ((sched B t).getD j 0)) := fun j hj => U64_at _ j (by rw [hl]; exact hj)
          have y2 := hx (t - 2) (by omega)
          have y7 := hx (t - 7) (by omega)
          have y15 := hx (t - 15) (by omega)
          have y16 := hx (t - 16) (by omega)
          generalize (sched B t).getD (t - 2) 0 = x2 at c2 b2 HR y2
          generalize (sched B t).getD (t - 7) 0 = x7 at c7 HR y7
          generalize (sched B t).getD (t - 15) 0 = x15 at c15 b15 HR y15
          generalize (sched B t).getD (t - 16) 0 = x16 at c16 HR y16
          obtain ⟨m2, hm2, hn2⟩ : ∃ m, t - 2 = m ∧ (t : Int) - 2 = (m : Int) := ⟨t - 2, rfl, by omega⟩
          obtain ⟨m7, hm7, hn7⟩ : ∃ m, t - 7 = m ∧ (t : Int) - 7 = (m : Int) := ⟨t - 7, rfl, by omega⟩
          obtain ⟨m15, hm15, hn15⟩ : ∃ m, t - 15 = m ∧ (t : Int) - 15 = (m : Int) := ⟨t - 15, rfl, by omega⟩
          obtain ⟨m16, hm16, hn16⟩ : ∃ m, t - 16 = m ∧ (t : Int) - 16 = (m : Int) := ⟨t - 16, rfl, by omega⟩
          rw [hm2] at c2 y2
          rw [hm7] at c7 y7
          rw [hm15] at c15 y15
          rw [hm16] at c16 y16
          have d2 : (m2 : Int) < (t : Int) := by omega
          have p2 : (0 : Int) ≤ (m2 : Int) := by omega
          have w2 : IntKind.i64.wrap ((t : Int) - 2) = (m2 : Int) := by rw [IntKind.wrap_i64]; omega
          have d7 : (m7 : Int) < (t : Int) := by omega
          have p7 : (0 : Int) ≤ (m7 : Int) := by omega
          have w7 : IntKind.i64.wrap ((t : Int) - 7) = (m7 : Int) := by rw [IntKind.wrap_i64]; omega
          have d15 : (m15 : Int) < (t : Int) := by omega
          have p15 : (0 : Int) ≤ (m15 : Int) := by omega
          have w15 : IntKind.i64.wrap ((t : Int) - 15) = (m15 : Int) := by rw [IntKind.wrap_i64]; omega
          have d16 : (m16 : Int) < (t : Int) := by omega
          have p16 : (0 : Int) ≤ (m16 : Int) := by omega
          have w16 : IntKind.i64.wrap ((t : Int) - 16) = (m16 : Int) := by rw [IntKind.wrap_i64]; omega
          obtain ⟨b20, b21⟩ := b2
          obtain ⟨b150, b151⟩ := b15
          have B21 := hide b21
          have B151 := hide b151
          have l2 : m2 < t := by omega
          have l7 : m7 < t := by omega
          have l15 : m15 < t := by omega
          have l16 : m16 < t := by omega
          have HOWN := hide hown
          have HX2 := hide y2
          have HX7 := hide y7
          have HX15 := hide y15
          have HX16 := hide y16
          clear hn2 hn7 hn15 hn16 hm2 hm7 hm15 hm16 hW hcell hx hl b21 b151 hown y2 y7 y15 y16
          go_wp2_with fail
          go_region_held3 (fun w' => w'.cell? ⟨g, m2, none⟩ = some (.int .u64 x2) ∧ w'.cell? ⟨g, m7, none⟩ = some (.int .u64 x7) ∧ w'.cell? ⟨g, m15, none⟩ = some (.int .u64 x15) ∧ w'.cell? ⟨g, m16, none⟩ = some (.int .u64 x16))
            (first | exact ⟨(hkeep9 m2 l2).trans (unhide HX2), (hkeep9 m7 l7).trans (unhide HX7), (hkeep9 m15 l15).trans (unhide HX15), (hkeep9 m16 l16).trans (unhide HX16)⟩ | go_keep)
            (first
              | (go_at_call 93; refine (refs1_any x2 _ b20 (unhide B21)).mono ?_; rintro e w' ⟨rfl, rfl⟩)
              | (go_at_call 94; refine (refs0_any x15 _ b150 (unhide B151)).mono ?_; rintro e w' ⟨rfl, rfl⟩)
              | (refine step_append_keep rfl (.tmp 25) (.tmp 51) 99 rfl w.heap.size 31 i0 (.int .u64 0) 8 Tryd.underlying99 hi hz0 hz1 hz2 rfl g t cp (U64 (sched B t)) rfl ((unhide HOWN).alloc _).drew ⟨wr.heap.size, 0, none⟩ 1 1 [.int .u64 _] rfl rfl (cell_one_new _ _ _) (one_word _) (by omega) (by unfold maxLen; omega) (by omega) (by have := hbl.size; simp; omega) ?_
                 intro g9 cp9 w9 hown9 hgr9 hkeep9))
          have hb9 : Below w.heap.size w w9 := ((hbl.alloc hbl.size _).drew).grown hgr9 (by have := hbl.size; simp; omega) (fun _ h => by cases h; exact hgb)
          have hX : IntKind.u64.wrap (IntKind.u64.wrap (IntKind.u64.wrap (s1Z x2 + x7) + s0Z x15) + x16) = ad (ad (ad (s1Z x2) x7) (s0Z x15)) x16 := by simp only [IntKind.wrap_u64, ad]
          rw [U64_snoc2, hX, ← unhide HR] at hown9
          clear hgr9 hkeep9 hX
          go_wp2
          go_roundw
          case rel => exact ⟨t + 1, by omega, by omega, by go_num, hown9, hb9⟩
          case measure => simp [intOf]; omega
        · have ht80 : t = 80 := by omega
          subst ht80
          go_wp2
          go_ret
          exact ⟨_, rfl, hown, hbl⟩
end Go.Proofs.YtkagnpnicbddlaaDoor.S5

namespace Go.Proofs.YtkagnpnicbddlaaDoor.S5
open Go.RowKit

set_option maxHeartbeats 2000000 in
set_option maxRecDepth 100000 in
theorem refRound_any (a0 b0 c0 d0 e0 f0 g0 h0 kk ww : Int) (w : World) (hs : IsW [a0, b0, c0, d0, e0, f0, g0, h0]) :
    Calls Tryd.prog 88 #[.agg (U64 [a0, b0, c0, d0, e0, f0, g0, h0]).toArray, .int .u64 kk, .int .u64 ww] w fun e w' => e = .returned (.agg (U64 (rnd ⟨a0, b0, c0, d0, e0, f0, g0, h0⟩ kk ww).toL).toArray) ∧ Below w.heap.size w w' := by
  rw [show (U64 [a0, b0, c0, d0, e0, f0, g0, h0]).toArray = #[.int .u64 a0, .int .u64 b0, .int .u64 c0, .int .u64 d0, .int .u64 e0, .int .u64 f0, .int .u64 g0, .int .u64 h0] from rfl]
  obtain ⟨⟨pa, qa⟩, -, -, -, ⟨pe, qe⟩, -, -, -⟩ : (0 ≤ a0 ∧ a0 < 18446744073709551616) ∧ (0 ≤ b0 ∧ b0 < 18446744073709551616) ∧ (0 ≤ c0 ∧ c0 < 18446744073709551616) ∧ (0 ≤ d0 ∧ d0 < 18446744073709551616) ∧ (0 ≤ e0 ∧ e0 < 18446744073709551616) ∧ (0 ≤ f0 ∧ f0 < 18446744073709551616) ∧ (0 ≤ g0 ∧ g0 < 18446744073709551616) ∧ (0 ≤ h0 ∧ h0 < 18446744073709551616) := by
    simpa [IsW] using hs
  have QA := hide qa
  have QE := hide qe
  clear qa qe hs
  go_enter Tryd.func88, Tryd.ntmps88
  go_wp2_with fail
  have hnot := u64_not e0 pe (unhide QE)
  rw [show (if IntKind.u64.signed = true then (-1 : Int) else IntKind.u64.max) = IntKind.u64.max from rfl] at hnot
  rw [hnot]
  clear hnot h
  rw [show bits BinOp.xor IntKind.u64 (bits BinOp.and IntKind.u64 e0 f0) (bits BinOp.and IntKind.u64 (18446744073709551615 - e0) g0) = chZ e0 f0 g0 from rfl, show bits BinOp.xor IntKind.u64 (bits BinOp.xor IntKind.u64 (bits BinOp.and IntKind.u64 a0 b0) (bits BinOp.and IntKind.u64 a0 c0)) (bits BinOp.and IntKind.u64 b0 c0) = majZ a0 b0 c0 from rfl]
  obtain ⟨W, hW, hA, hR, hbW, -⟩ := arr2 w 74 74 (U64 [a0, b0, c0, d0, e0, f0, g0, h0]) (U64 [0, 0, 0, 0, 0, 0, 0, 0])
  rw [show #[Value.int IntKind.u64 a0, .int .u64 b0, .int .u64 c0, .int .u64 d0, .int .u64 e0, .int .u64 f0, .int .u64 g0, .int .u64 h0] = (U64 [a0, b0, c0, d0, e0, f0, g0, h0]).toArray from rfl, show #[Value.int IntKind.u64 0, .int .u64 0, .int .u64 0, .int .u64 0, .int .u64 0, .int .u64 0, .int .u64 0, .int .u64 0] = (U64 [0, 0, 0, 0, 0, 0, 0, 0]).toArray from rfl, ← hW]
  clear hW
  have q0 : W.cell? ⟨w.heap.size, 0, none⟩ = some (.int .u64 a0) := hA.cell 0
  have q1 : W.cell? ⟨w.heap.size, 1, none⟩ = some (.int .u64 b0) := hA.cell 1
  have q2 : W.cell? ⟨w.heap.size, 2, none⟩ = some (.int .u64 c0) := hA.cell 2
  have q3 : W.cell? ⟨w.heap.size, 3, none⟩ = some (.int .u64 d0) := hA.cell 3
  have q4 : W.cell? ⟨w.heap.size, 4, none⟩ = some (.int .u64 e0) := hA.cell 4
  have q5 : W.cell? ⟨w.heap.size, 5, none⟩ = some (.int .u64 f0) := hA.cell 5
  have q6 : W.cell? ⟨w.heap.size, 6, none⟩ = some (.int .u64 g0) := hA.cell 6
  have q7 : W.cell? ⟨w.heap.size, 7, none⟩ = some (.int .u64 h0) := hA.cell 7
  generalize hCH : chZ e0 f0 g0 = CH
  generalize hMJ : majZ a0 b0 c0 = MJ
  have HCH := hide hCH
  have HMJ := hide hMJ
  clear hCH hMJ
  go_quiet ((go_at_call 95; exact Calls.quiet_of_same (refR_any _ _ _ pe (unhide QE) (by omega) (by omega))))
  generalize hT : IntKind.u64.wrap (IntKind.u64.wrap (IntKind.u64.wrap (IntKind.u64.wrap (h0 + bits BinOp.xor IntKind.u64 (bits BinOp.xor IntKind.u64 (rotZ 64 e0 (-14)) (rotZ 64 e0 (-18))) (rotZ 64 e0 (-41))) + CH) + kk) + ww) = T1
  have HT : Hid (T1 = t1Z ⟨a0, b0, c0, d0, e0, f0, g0, h0⟩ kk ww) := by
    show _ = _
    rw [← hT, ← unhide HCH]
    simp only [IntKind.wrap_u64]
    rfl
  clear hT
  go_wp2_with fail
  obtain ⟨W3, hW3⟩ : ∃ W3, W3 = W.drewN nq := ⟨_, rfl⟩
  have hR3 : Arr W3 (w.heap.size + 1) 74 (U64 [0, 0, 0, 0, 0, 0, 0, 0]) := by rw [hW3]; exact hR
  have hb3 : Below w.heap.size w W3 := by rw [hW3]; exact below_drewN hbW nq
  have r0 : W3.cell? ⟨w.heap.size, 0, none⟩ = some (.int .u64 a0) := by rw [hW3]; exact q0
  have r1 : W3.cell? ⟨w.heap.size, 1, none⟩ = some (.int .u64 b0) := by rw [hW3]; exact q1
  have r2 : W3.cell? ⟨w.heap.size, 2, none⟩ = some (.int .u64 c0) := by rw [hW3]; exact q2
  have r3 : W3.cell? ⟨w.heap.size, 3, none⟩ = some (.int .u64 d0) := by rw [hW3]; exact q3
  have r4 : W3.cell? ⟨w.heap.size, 4, none⟩ = some (.int .u64 e0) := by rw [hW3]; exact q4
  have r5 : W3.cell? ⟨w.heap.size, 5, none⟩ = some (.int .u64 f0) := by rw [hW3]; exact q5
  have r6 : W3.cell? ⟨w.heap.size, 6, none⟩ = some (.int .u64 g0) := by rw [hW3]; exact q6
  rw [← hW3]
  clear hW3 q0 q1 q2 q3 q4 q5 q6 q7 hR hbW hA
  refine (refR_any a0 28 _ pa (unhide QA) (by omega) (by omega)).mono ?_
  rintro e w' ⟨rfl, rfl⟩
  go_wp2_with fail
  refine (refR_any a0 34 _ pa (unhide QA) (by omega) (by omega)).mono ?_
  rintro e w' ⟨rfl, rfl⟩
  go_wp2_with fail
  refine (refR_any a0 39 _ pa (unhide QA) (by omega) (by omega)).mono ?_
  rintro e w' ⟨rfl, rfl⟩
  have hzo : (U64 [0, 0, 0, 0, 0, 0, 0, 0]).toArray.size = 8 := rfl
  go_wp2_with (refine wpList_store_row rfl 74 (.tmp 6) (.tmp 88) rfl (w.heap.size + 1) (U64 [_, a0, b0, c0, _, e0, f0, g0]).toArray rfl rfl 74 _ hR3 Tryd.sz8w hzo (all_one (U64_one _)) ?_)
  refine bodyPost_ret (results_cell_row rfl _ _ (w.heap.size + 1) 74 _ (0, 0) _ rfl (Arr.setRow hR3 _) Tryd.underlying74 rfl Tryd.sz8w) rfl ?_
  refine ⟨?_, below_setRow hb3 (by omega) _⟩
  rw [unhide HT, ← unhide HMJ]
  simp only [IntKind.wrap_u64]
  rfl
end Go.Proofs.YtkagnpnicbddlaaDoor.S5

namespace Go.Proofs.YtkagnpnicbddlaaDoor.S5
open Go.RowKit

/-- the reference's constants lie in their variable -/
def RKLaid (w : World) : Prop := ∀ i, i < 80 → w.cell? ⟨5, i, none⟩ = some (.int .u64 (KZ.getD i 0))
theorem RKLaid.lt {w : World} (h : RKLaid w) : 5 < w.heap.size := cell_lt (h 0 (by decide))
theorem RKLaid.later {w w' : World} (h : RKLaid w) (hb : Below w.heap.size w w') : RKLaid w' := fun i hi => (hb.cell (p := ⟨5, i, none⟩) h.lt).trans (h i hi)

theorem arr_set8 {w : World} {g : Nat} {ty : TypeId} {S : St} (h : Arr w g ty (U64 S.toL)) (T : St) : Arr ((((((((w.setCell ⟨g, 0, none⟩ (.int .u64 T.a)).setCell ⟨g, 1, none⟩ (.int .u64 T.b)).setCell ⟨g, 2, none⟩ (.int .u64 T.c)).setCell ⟨g, 3, none⟩ (.int .u64 T.d)).setCell ⟨g, 4, none⟩ (.int .u64 T.e)).setCell ⟨g, 5, none⟩ (.int .u64 T.f)).setCell ⟨g, 6, none⟩ (.int .u64 T.g)).setCell ⟨g, 7, none⟩ (.int .u64 T.h)) g ty (U64 T.toL) :=
  (((((((h.set64 0 T.a).set64 1 T.b).set64 2 T.c).set64 3 T.d).set64 4 T.e).set64 5 T.f).set64 6 T.g).set64 7 T.h
theorem but_set8 {g : Nat} {a w : World} (h : But g a w) (T : St) : But g a ((((((((w.setCell ⟨g, 0, none⟩ (.int .u64 T.a)).setCell ⟨g, 1, none⟩ (.int .u64 T.b)).setCell ⟨g, 2, none⟩ (.int .u64 T.c)).setCell ⟨g, 3, none⟩ (.int .u64 T.d)).setCell ⟨g, 4, none⟩ (.int .u64 T.e)).setCell ⟨g, 5, none⟩ (.int .u64 T.f)).setCell ⟨g, 6, none⟩ (.int .u64 T.g)).setCell ⟨g, 7, none⟩ (.int .u64 T.h)) :=
  (((((((h.setCell 0 _).setCell 1 _).setCell 2 _).setCell 3 _).setCell 4 _).setCell 5 _).setCell 6 _).setCell 7 _
theorem Z8r : (#[Value.int .u64 0, .int .u64 0, .int .u64 0, .int .u64 0, .int .u64 0, .int .u64 0, .int .u64 0, .int .u64 0] : Array Value) = (U64 [0, 0, 0, 0, 0, 0, 0, 0]).toArray := rfl

set_option maxHeartbeats 2000000 in
set_option maxRecDepth 100000 in
theorem step_any (s B : List Int) (b off cap : Nat) (w : World) (hs : s.length = 8) (hsW : IsW s) (hl : B.length = 128) (hB : IsB B) (hlies : Lies w (some ⟨b, off, none⟩) B) (hc : 128 ≤ cap) (hK : RKLaid w) :
    Calls Tryd.prog 81 #[.agg (U64 s).toArray, .slice (some ⟨b, off, none⟩) 128 cap] w fun e w' => e = .returned (.agg (U64 (blockZ s B)).toArray) ∧ Below w.heap.size w w' := by
  have HL := hide hl
  have HS := hide hs
  clear hl hs
  obtain ⟨W, hW, hA, hR, hbW, -⟩ := arr2 w 74 74 (U64 s) (U64 [0, 0, 0, 0, 0, 0, 0, 0])
  have HW := hide hW
  clear hW
  go_enter Tryd.func81, Tryd.ntmps81
  go_wp2_with fail
  rw [Z8r, ← unhide HW]
  clear HW
  refine (words_any b off cap B W (unhide HL) hB (hlies.later hbW) hc).mono ?_
  rintro e w1 ⟨v, rfl, hown, hb1⟩
  obtain ⟨g, cp, rfl, hgb, hgl⟩ := hown.form (by omega)
  have hA1 := hA.later hb1
  have hR1 := hR.later hb1
  have hbT : Below w.heap.size w w1 := hbW.trans (hb1.mono hbW.size)
  have hLn : (sched B 80).length = 80 := sched_length B 80
  obtain ⟨L, hL⟩ : ∃ L, L = sched B 80 := ⟨_, rfl⟩
  rw [← hL] at hown hLn
  have hcell : ∀ j, j < 80 → w1.cell? ⟨g, j, none⟩ = some (.int .u64 (L.getD j 0)) := fun j hj => by rw [hown.cellAt j (by omega), U64_at _ j (by rw [hLn]; exact hj)]
  have HC := hide hcell
  have HLL := hide hL
  have HLN := hide hLn
  have hgW : w.heap.size + 1 < w1.heap.size := hR1.lt
  have hcp : 80 ≤ cp := by
    rcases hown.2 with ⟨h, -⟩ | ⟨g', cap', cur, h, -, -, hle, -⟩
    · simp at h
    · simp at h; omega
  have hzs : (Tryd.prog.info? 74).map (·.size) = some (U64 s).toArray.size := by rw [Tryd.sz8w]; simp [unhide HS]
  have hzo : (U64 [0, 0, 0, 0, 0, 0, 0, 0]).toArray.size = (U64 s).toArray.size := by simp [unhide HS]
  clear hcell hL hLn hown hb1 hR hA hbW hlies
  obtain ⟨W2, hW2, hV2, hb2, -⟩ := arr1 w1 74 (U64 s)
  have HW2 := hide hW2
  clear hW2
  have hA1z := hA1.alloc (.cells (U64 [0, 0, 0, 0, 0, 0, 0, 0]).toArray 74 (0, 0))
  go_wp2_with (first
    | (refine wpList_load_row rfl 74 (.tmp 2) rfl w.heap.size rfl 74 _ (0, 0) _ hA1 Tryd.underlying74 rfl hzs ?_)
    | (rw [Z8r]; refine wpList_load_row rfl 74 (.tmp 2) rfl w.heap.size rfl 74 _ (0, 0) _ hA1z Tryd.underlying74 rfl hzs ?_)
    | (rw [Z8r]; refine wpList_store_row rfl 74 _ _ rfl w1.heap.size _ rfl rfl 74 _ (heap_alloc_last w1 _) hzs hzo (all_one (U64_one _)) ?_; rw [World.setRow_alloc_new, ← unhide HW2]))
  have hK1 : RKLaid w1 := hK.later hbT
  have hA2 := hA1.later hb2
  have hR2 := hR1.later hb2
  have hbT2 : Below w.heap.size w W2 := hbT.trans (hb2.mono hbT.size)
  have hK2 := hide (hK1.later hb2)
  have HC2 := hide (show ∀ j, j < 80 → W2.cell? ⟨g, j, none⟩ = some (.int .u64 (L.getD j 0)) from fun j hj => (hb2.cell (p := ⟨g, j, none⟩) hgl).trans (unhide HC j hj))
  have hKv := hK1.lt
  obtain ⟨gv, hgv⟩ : ∃ gv, gv = w1.heap.size := ⟨_, rfl⟩
  rw [← hgv] at hV2 hgl hgW hKv ⊢
  have hV0 : Arr W2 gv 74 (U64 (St.ofL s).toL) := by
    have e : (St.ofL s).toL = s := by
      have := unhide HS
      match s, this with
      | [a, b, c, d, e, f, g, h], _ => rfl
    rw [e]; exact hV2
  clear hgv hV2 hb2 HC hK1 hbT hA1 hR1 hA1z HW2 hzs hzo hK
  go_loopw [7] (fun i wr => ∃ k : Nat, ∃ S : St, k ≤ 80 ∧ i = .int .i64 k ∧ S = rounds (St.ofL s) L k ∧ Arr wr gv 74 (U64 S.toL) ∧ But gv W2 wr) (fun i _ => 80 - (intOf i).toNat)
  case atStart => exact ⟨0, _, by omega, rfl, rfl, hV0, But.refl _ _⟩
  case round =>
    clear hV0
    obtain ⟨k, S, hk, rfl, hS, hV, hBt⟩ := hrel
    have HSS := hide hS
    have hok : S.Ok := by rw [hS]; exact (St.ofL_ok hsW).rounds L k
    clear hS
    by_cases hlt : k < 80
    · have ck := (hBt.cell (p := ⟨5, k, none⟩) (cell_lt (unhide hK2 k hlt)) (by show 5 ≠ gv; omega)).trans (unhide hK2 k hlt)
      have cl := (hBt.cell (p := ⟨g, k, none⟩) (cell_lt (unhide HC2 k hlt)) (by show g ≠ gv; omega)).trans (unhide HC2 k hlt)
      generalize hkk : KZ.getD k 0 = kk at ck
      generalize hll : L.getD k 0 = ll at cl
      have HKK := hide hkk
      have HLK := hide hll
      clear hkk hll
      have y0 : wr.cell? ⟨gv, 0, none⟩ = some (.int .u64 S.a) := hV.cell 0
      have y1 : wr.cell? ⟨gv, 1, none⟩ = some (.int .u64 S.b) := hV.cell 1
      have y2 : wr.cell? ⟨gv, 2, none⟩ = some (.int .u64 S.c) := hV.cell 2
      have y3 : wr.cell? ⟨gv, 3, none⟩ = some (.int .u64 S.d) := hV.cell 3
      have y4 : wr.cell? ⟨gv, 4, none⟩ = some (.int .u64 S.e) := hV.cell 4
      have y5 : wr.cell? ⟨gv, 5, none⟩ = some (.int .u64 S.f) := hV.cell 5
      have y6 : wr.cell? ⟨gv, 6, none⟩ = some (.int .u64 S.g) := hV.cell 6
      have y7 : wr.cell? ⟨gv, 7, none⟩ = some (.int .u64 S.h) := hV.cell 7
      have CR := hide (fun w => refRound_any S.a S.b S.c S.d S.e S.f S.g S.h kk ll w hok)
      clear hok
      go_wp2_with fail
      go_region_with ((
        go_at_call 88
        refine (unhide CR _).mono ?_
        rintro e w9 ⟨rfl, hb9⟩
        rw [show (U64 (rnd ⟨S.a, S.b, S.c, S.d, S.e, S.f, S.g, S.h⟩ kk ll).toL).toArray = #[.int .u64 (rnd S kk ll).a, .int .u64 (rnd S kk ll).b, .int .u64 (rnd S kk ll).c, .int .u64 (rnd S kk ll).d, .int .u64 (rnd S kk ll).e, .int .u64 (rnd S kk ll).f, .int .u64 (rnd S kk ll).g, .int .u64 (rnd S kk ll).h] from rfl]
        have hb9' : Below wr.heap.size wr w9 := ⟨hb9.os, hb9.tape, hb9.output, hb9.size, hb9.block⟩
        have hV9 := hV.later hb9'
        have hB9 := hBt.trans (But.of_below (g := gv) hb9')
        have z0 : w9.cell? ⟨gv, 0, none⟩ = some (.int .u64 S.a) := hV9.cell 0
        have z1 : w9.cell? ⟨gv, 1, none⟩ = some (.int .u64 S.b) := hV9.cell 1
        have z2 : w9.cell? ⟨gv, 2, none⟩ = some (.int .u64 S.c) := hV9.cell 2
        have z3 : w9.cell? ⟨gv, 3, none⟩ = some (.int .u64 S.d) := hV9.cell 3
        have z4 : w9.cell? ⟨gv, 4, none⟩ = some (.int .u64 S.e) := hV9.cell 4
        have z5 : w9.cell? ⟨gv, 5, none⟩ = some (.int .u64 S.f) := hV9.cell 5
        have z6 : w9.cell? ⟨gv, 6, none⟩ = some (.int .u64 S.g) := hV9.cell 6
        have z7 : w9.cell? ⟨gv, 7, none⟩ = some (.int .u64 S.h) := hV9.cell 7
        have fz : ∀ i, w9.frozen? ⟨gv, i, none⟩ = false := hV9.frozen
        clear hb9 hb9'))
      all_goals
        go_wp2
        go_roundw
        case rel =>
          refine ⟨k + 1, rnd S kk ll, by omega, by go_num, ?_, arr_set8 hV9 _, but_set8 hB9 _⟩
          rw [rounds, ← unhide HSS, ← unhide HKK, ← unhide HLK]
        case measure => simp [intOf]; omega
    · have e80 : k = 80 := by omega
      have HF : Hid (S = rounds (St.ofL s) L 80) := by
        show _ = _; rw [← e80]; exact unhide HSS
      clear e80
      have hkd : decide ((k : Int) < 80) = false := by simp; omega
      go_wp2_with fail
      have hTl : S.toL.length = 8 := rfl
      generalize hTT : S.toL = T at hTl hV
      have HTT := hide hTT
      have HTL := hide hTl
      clear hTT hTl hkd
      go_loopw [8] (fun i wr => ∃ j : Nat, j ≤ 8 ∧ i = .int .i64 j ∧ Arr wr gv 74 (U64 (addTo T s j)) ∧ But gv W2 wr) (fun i _ => 8 - (intOf i).toNat)
      case atStart =>
        refine ⟨0, by omega, rfl, ?_, hBt⟩
        rw [addTo_zero _ _ (unhide HTL)]; exact hV
      case round =>
        clear hV hBt
        obtain ⟨j, hj, rfl, hV, hBt⟩ := hrel
        by_cases hjl : j < 8
        · have cj := hV.cell64 j (by simpa using hjl)
          rw [addTo_at _ _ _ hjl] at cj
          have fj := hV.frozen j
          have cs := (hBt.arr hA2 (by omega)).cell64 j (by rw [unhide HS]; exact hjl)
          generalize hx : T.getD j 0 = x at cj
          generalize hy : s.getD j 0 = y at cs
          have HX := hide hx
          have HY := hide hy
          clear hx hy
          go_wp2_with fail
          go_region_with (fail)
          all_goals
            go_wp2
            go_roundw
            case rel =>
              refine ⟨j + 1, by omega, by go_num, ?_, (hBt.setCell j _).drew⟩
              have hh := hV.set64 j (ad x y)
              rw [← unhide HX, ← unhide HY, addTo_set] at hh
              rw [unhide HX, unhide HY] at hh
              have hh2 : Arr (wr.setCell ⟨gv, j, none⟩ (.int .u64 (IntKind.u64.wrap (x + y)))) gv 74 (U64 (addTo T s (j + 1))) := by simpa only [IntKind.wrap_u64, ad] using hh
              exact hh2
            case measure => simp [intOf]; omega
        · have e8 : j = 8 := by omega
          have hA8 : Arr wr gv 74 (U64 (blockZ s B)) := by
            rw [e8, addTo_all T s (unhide HTL) (unhide HS)] at hV
            have e : List.zipWith ad T s = blockZ s B := by
              unfold blockZ; rw [← unhide HLL, ← unhide HF, unhide HTT]
              exact List.zipWith_comm_of_comm ad_comm
            rwa [e] at hV
          have hR0 : (blockZ s B).length = 8 := blockZ_length s B (unhide HS)
          clear e8 hV
          generalize hRR : blockZ s B = R at hA8 hR0
          have HRR := hide hRR
          clear hRR
          have hzr : (Tryd.prog.info? 74).map (·.size) = some (U64 R).toArray.size := by rw [Tryd.sz8w]; simp [hR0]
          have hzo : (U64 [0, 0, 0, 0, 0, 0, 0, 0]).toArray.size = (U64 R).toArray.size := by simp [hR0]
          have hRs := hBt.arr hR2 (by omega)
          have hbl : Below w.heap.size w wr := hbT2.trans (hBt.below hbT2.size (by omega))
          clear hR0
          have hjd : decide ((j : Int) < 8) = false := by simp; omega
          go_wp2_with (first
            | refine wpList_load_row rfl 74 (.tmp 6) rfl gv rfl 74 _ (0, 0) _ hA8 Tryd.underlying74 rfl hzr ?_
            | refine wpList_store_row rfl 74 (.tmp 4) _ rfl (w.heap.size + 1) _ rfl rfl 74 _ hRs hzr hzo (all_one (U64_one _)) ?_)
          refine bodyPost_ret (results_cell_row rfl _ _ (w.heap.size + 1) 74 _ (0, 0) _ rfl (Arr.setRow hRs (U64 R)) Tryd.underlying74 rfl hzr) rfl ?_
          refine ⟨?_, below_setRow hbl (by omega) _⟩
          rw [← unhide HRR]

structure RbS (w : World) (s B : List Int) (wr : World) : Prop where
  s : Arr wr w.heap.size 74 (U64 s)
  b : Arr wr (w.heap.size + 1) 75 (U8 B)
  kon : RKLaid wr
  bel : Below w.heap.size w wr
theorem RbS.later {w : World} {s B : List Int} {wr w' : World} (h : RbS w s B wr) (hb : Below wr.heap.size wr w') : RbS w s B w' := ⟨h.s.later hb, h.b.later hb, h.kon.later hb, h.bel.trans (hb.mono h.bel.size)⟩
theorem RbS.drew {w : World} {s B : List Int} {wr : World} (h : RbS w s B wr) : RbS w s B wr.drew := h.later ⟨rfl, rfl, rfl, Nat.le_refl _, fun _ _ => rfl⟩
theorem RbS.rS {w : World} {s B : List Int} (wr : World) (h : RbS w s B wr) : wr.rangeAt w.heap.size 0 (U64 s) := fun j v hv => by rw [Nat.zero_add, h.s.cell]; exact hv

end Go.Proofs.YtkagnpnicbddlaaDoor.S5

namespace Go.Proofs.YtkagnpnicbddlaaDoor.S5
open Go.RowKit

theorem be_at (x : Int) (k : Nat) (h : k < 8) : (leB 8 x).reverse.getD k 0 = x / 2 ^ (56 - 8 * k) % 256 := by
  match k, h with
  | 0, _ => rfl
  | 1, _ => rfl
  | 2, _ => rfl
  | 3, _ => rfl
  | 4, _ => rfl
  | 5, _ => rfl
  | 6, _ => rfl
  | 7, _ => rfl

set_option maxHeartbeats 1000000 in
set_option maxRecDepth 10000 in
theorem tell_any (x : Int) (w : World) (hx : 0 ≤ x) :
    Calls Tryd.prog 82 #[.int .u64 x] w fun e w' => ∃ v, e = .returned v ∧ w'.ownsRow w.heap.size 5 1 v 8 (U8 (leB 8 x).reverse) ∧ Below w.heap.size w w' := by
  obtain ⟨i0, hi, hz0, hz1, hz2⟩ := info_parts Tryd.infoB
  go_enter Tryd.func82, Tryd.ntmps82
  go_wp2_with fail
  have HX := hide hx
  clear hx
  go_loopw [3, 4] (fun v i wr => ∃ k : Nat, k ≤ 8 ∧ i = .int .i64 k ∧ wr.ownsRow w.heap.size 5 1 v k (U8 ((leB 8 x).reverse.take k)) ∧ Below w.heap.size w wr) (fun _ i _ => 8 - (intOf i).toNat)
  case atStart => exact ⟨0, by omega, rfl, World.ownsRow_nil _ _ _ _, Below.refl _ _⟩
  case round =>
    obtain ⟨k, hk, rfl, hown, hbl⟩ := hrel
    by_cases hlt : k < 8
    · have htk := take_snoc (leB 8 x).reverse k (by simpa using hlt)
      rw [be_at x k hlt] at htk
      obtain ⟨sh, hsh⟩ : ∃ sh, sh = 56 - 8 * k := ⟨_, rfl⟩
      have hs1 : (56 : Int) - 8 * (k : Int) = (sh : Int) := by omega
      rw [← hsh] at htk
      have HTK := hide htk
      have hs2 : sh ≤ 56 := by omega
      have hx0 := unhide HX
      clear htk hsh
      go_wp2_with (at_builtin; refine wpList_append_own _ rfl _ _ 24 rfl w.heap.size 5 i0 (.int .u8 0) 1 1 Tryd.underlying24 hi hz0 hz1 hz2 rfl (by decide) _ k (U8 ((leB 8 x).reverse.take k)) rfl (hown.alloc _) ⟨wr.heap.size, 0, none⟩ 1 1 [.int .u8 (x / 2 ^ sh % 256)] rfl rfl (cell_one_new _ _ _) (one_byte _) (by unfold maxLen; omega) (by omega) (by have := hbl.size; simp; omega) ?_)
      intro v1 w1 hown1 hgrow1 _
      have hb1 := below_app hbl (Nat.le_refl _) hown hgrow1
      rw [U8_snoc2, ← unhide HTK] at hown1
      clear hgrow1 hown hbl
      go_wp2
      go_roundw
      case rel => exact ⟨k + 1, by omega, by go_num, hown1, hb1⟩
      case measure => simp [intOf]; omega
    · have e8 : k = 8 := by omega
      subst e8
      go_wp2
      go_ret
      refine ⟨_, rfl, ?_, hbl⟩
      rwa [List.take_of_length_le (by simp)] at hown

set_option maxHeartbeats 2000000 in
set_option maxRecDepth 10000 in
theorem refPad_any (n : Nat) (w : World) (hn : n < 18446744073709551616) :
    Calls Tryd.prog 80 #[.int .u64 n] w fun e w' => ∃ v, e = .returned v ∧ w'.ownsRow w.heap.size 5 1 v (padLen n) (U8 (padZ n)) ∧ Below w.heap.size w w' := by
  obtain ⟨i0, hi, hz0, hz1, hz2⟩ := info_parts Tryd.infoB
  have hzc : (Value.int .u8 0).cells.size = 1 := rfl
  have hpl := padLen_bd n
  have hpm := padLen_mod n
  obtain ⟨u, hu⟩ : ∃ u : Nat, (n : Int) % 128 = u := ⟨n % 128, by omega⟩
  have hu64 : u < 128 := by omega
  obtain ⟨K, hK⟩ : ∃ K, padLen n = K + 17 := ⟨padLen n - 17, by omega⟩
  have hKb : K ≤ 127 := by omega
  have hKm : (u + K + 17) % 128 = 0 := by omega
  have HK := hide hK
  have HKM := hide hKm
  have HN := hide hn
  clear hpl hpm hK hKm hn
  obtain ⟨W, hW, hA, hbW, -⟩ := arr1 w 5 (U8 [128])
  have hown : W.ownsRow w.heap.size 5 1 (.slice (some ⟨w.heap.size, 0, none⟩) 1 1) 1 (U8 [128]) := ⟨rfl, .inr ⟨w.heap.size, 1, _, rfl, Nat.le_refl _, hA, Nat.le_refl _, by unfold maxLen; omega, rfl, rfl⟩⟩
  have HW := hide hW
  clear hW hA
  go_enter Tryd.func80, Tryd.ntmps80
  go_wp2_with fail
  rw [show (#[Value.int .u8 128] : Array Value) = (U8 [128]).toArray from rfl, ← unhide HW, hu]
  go_loopw [3] (fun v wr => ∃ k : Nat, k ≤ K ∧ wr.ownsRow w.heap.size 5 1 v (k + 1) (U8 (128 :: List.replicate k 0)) ∧ Below w.heap.size w wr) (fun v _ => 200 - slLen v)
  case atStart => exact ⟨0, by omega, hown, hbW⟩
  case round =>
    clear hown hbW
    obtain ⟨k, hk, hown, hbl⟩ := hrel
    have hisB : IsB (128 :: List.replicate k 0) := by
      intro x hx
      rcases List.mem_cons.1 hx with rfl | h
      · omega
      · have := List.eq_of_mem_replicate h; omega
    obtain ⟨s, hs, -, -, hsn, -⟩ := own_sl hown hisB
    obtain ⟨sa, sn, sc, sl⟩ := s
    have hsn' : sn = k + 1 := hsn
    simp only [Sl.v] at hs
    subst hs
    subst hsn'
    by_cases hlt : k < K
    · have hm : ((u : Int) + ((k : Int) + 1) + 16) % 128 ≠ 0 := by have := unhide HKM; omega
      have hmb : (((u : Int) + ((k : Int) + 1) + 16) % 128 != 0) = true := by simpa using hm
      go_wp2_with (at_builtin; refine wpList_append_own _ rfl _ _ 24 rfl w.heap.size 5 i0 (.int .u8 0) 1 1 Tryd.underlying24 hi hz0 hz1 hz2 rfl (by decide) _ (k + 1) (U8 (128 :: List.replicate k 0)) rfl (hown.alloc _) ⟨wr.heap.size, 0, none⟩ 1 1 [.int .u8 0] rfl rfl (cell_one_new _ _ _) (one_byte _) (by unfold maxLen; omega) (by omega) (by have := hbl.size; simp; omega) ?_)
      intro v1 w1 hown1 hgrow1 _
      have hb1 := below_app hbl (Nat.le_refl _) hown hgrow1
      rw [U8_snoc2, List.cons_append, ← List.replicate_succ'] at hown1
      have hl1 := own_slLen hown1
      clear hgrow1 hown hbl
      go_wp2
      go_roundw
      case rel => exact ⟨k + 1, by omega, hown1, hb1⟩
      case measure =>
        show 200 - slLen v1 < 200 - slLen (Value.slice sa (k + 1) sc)
        rw [hl1]
        show 200 - (k + 1 + 1) < 200 - (k + 1)
        omega
    · have hkK : k = K := by omega
      subst hkK
      have hm : ((u : Int) + ((k : Int) + 1) + 16) % 128 = 0 := by have := unhide HKM; omega
      have hmb : (((u : Int) + ((k : Int) + 1) + 16) % 128 != 0) = false := by simpa using hm
      go_wp2_with fail
      have hq0 : (0 : Int) ≤ (n : Int) / 2305843009213693952 := by omega
      have ew : IntKind.u64.wrap ((n : Int) / 2305843009213693952) = (n : Int) / 2305843009213693952 := by rw [IntKind.wrap_u64]; have := unhide HN; omega
      rw [ew]
      refine (tell_any _ _ hq0).mono ?_
      rintro e w1 ⟨t1, rfl, own1, hb1⟩
      have eHi : (leB 8 ((n : Int) / 2305843009213693952)).reverse = padHi n := by unfold padHi; congr 2; have := unhide HN; omega
      rw [eHi] at own1
      have hownA : w1.ownsRow w.heap.size 5 1 (.slice sa (k + 1) sc) (k + 1) (U8 (128 :: List.replicate k 0)) := own_later hown hb1
      have hbl1 : Below w.heap.size w w1 := hbl.trans (hb1.mono hbl.size)
      obtain ⟨d1, rfl, ok1, hd1, hn1, -⟩ := own_sl own1 (show IsB (padHi n) from fun x hx => leB_isB 8 _ x (List.mem_reverse.1 hx))
      have HA := hide hownA
      have OK1 := hide ok1
      have hn1' : d1.n = 8 := hn1
      obtain ⟨da, dn, dc, dl⟩ := d1
      have hdl : dl = padHi n := hd1
      have hn1'' : dn = 8 := hn1'
      have hs1 := hbl1.size
      clear ew hm hmb eHi own1 hownA hown hbl hb1 hd1 hn1 hn1' ok1 hq0
      subst hn1''
      simp only [Sl.v]
      go_wp2_with (at_builtin
                   refine wpList_append_sl rfl _ _ 24 rfl w.heap.size 5 i0 (.int .u8 0) Tryd.underlying24 hi hz0 hz1 hz2 hzc _ (k + 1) (U8 (128 :: List.replicate k 0)) rfl (unhide HA) ⟨da, 8, dc, dl⟩ (unhide OK1) rfl (by show k + 1 + 8 ≤ _; omega) hs1 ?_
                   intro v2 w2 own2 gr2)
      have hb2 : Below w.heap.size w w2 := below_grown hbl1 (Nat.le_refl _) (unhide HA) (unhide gr2)
      have own2' := unhide own2
      clear gr2 own2 HA OK1 hbl1
      have ew : IntKind.u64.wrap ((n : Int) * 8) = 8 * (n : Int) % 18446744073709551616 := by rw [IntKind.wrap_u64, Int.mul_comm]
      have hw0 : 0 ≤ IntKind.u64.wrap ((n : Int) * 8) := by rw [ew]; omega
      refine (tell_any _ _ hw0).mono ?_
      rintro e w3 ⟨t3, rfl, own3, hb3⟩
      rw [ew] at own3
      have eLo : (leB 8 (8 * (n : Int) % 18446744073709551616)).reverse = padLo n := rfl
      rw [eLo] at own3
      have hownA : w3.ownsRow w.heap.size 5 1 v2 (k + 1 + 8) (U8 (128 :: List.replicate k 0) ++ U8 dl) := own_later own2' hb3
      have hbl3 : Below w.heap.size w w3 := hb2.trans (hb3.mono hb2.size)
      obtain ⟨d3, rfl, ok3, hd3, hn3, -⟩ := own_sl own3 (show IsB (padLo n) from fun x hx => leB_isB 8 _ x (List.mem_reverse.1 hx))
      have HA := hide hownA
      have OK3 := hide ok3
      have hn3' : d3.n = 8 := hn3
      obtain ⟨ea, en, ec, el⟩ := d3
      have hel : el = padLo n := hd3
      have hn3'' : en = 8 := hn3'
      have hs3 := hbl3.size
      have HDL := hide hdl
      have HEL := hide hel
      clear ew hw0 eLo own3 hownA own2' hb2 hb3 hd3 hn3 hn3' ok3 hdl hel
      subst hn3''
      simp only [Sl.v]
      go_wp2_with (at_builtin
                   refine wpList_append_sl rfl _ _ 24 rfl w.heap.size 5 i0 (.int .u8 0) Tryd.underlying24 hi hz0 hz1 hz2 hzc _ (k + 1 + 8) (U8 (128 :: List.replicate k 0) ++ U8 dl) rfl (unhide HA) ⟨ea, 8, ec, el⟩ (unhide OK3) rfl (by show k + 1 + 8 + 8 ≤ _; omega) hs3 ?_
                   intro v4 w4 own4 gr4)
      have hb4 : Below w.heap.size w w4 := below_grown hbl3 (Nat.le_refl _) (unhide HA) (unhide gr4)
      have own4' := unhide own4
      go_ret
      refine ⟨_, rfl, ?_, hb4⟩
      have hKK := unhide HK
      have e : U8 (128 :: List.replicate k 0) ++ U8 dl ++ U8 el = U8 (padZ n) := by
        rw [← U8_append, ← U8_append, unhide HDL, unhide HEL]
        unfold padZ padB; rw [hKK, show k + 17 - 17 = k by omega]
        simp
      have e2 : k + 1 + 8 + 8 = padLen n := by omega
      have h4 : w4.ownsRow w.heap.size 5 1 v4 (k + 1 + 8 + 8) (U8 (128 :: List.replicate k 0) ++ U8 dl ++ U8 el) := own4'
      rwa [e, e2] at h4
end Go.Proofs.YtkagnpnicbddlaaDoor.S5

namespace Go.Proofs.YtkagnpnicbddlaaDoor.S5
open Go.RowKit

theorem leB8_at (x : Int) (r : Nat) (h : r < 8) : (be8 x).getD r 0 = x / 2 ^ (56 - 8 * r) % 256 := by
  match r, h with
  | 0, _ => rfl
  | 1, _ => rfl
  | 2, _ => rfl
  | 3, _ => rfl
  | 4, _ => rfl
  | 5, _ => rfl
  | 6, _ => rfl
  | 7, _ => rfl
theorem wordsB_at : ∀ (st : List Int) (j : Nat), j / 8 < st.length → (wordsB st).getD j 0 = st.getD (j / 8) 0 / 2 ^ (56 - 8 * (j % 8)) % 256
  | [], j, h => by simp at h
  | x :: l, j, h => by
    by_cases hj : j < 8
    · have e : (wordsB (x :: l)).getD j 0 = (be8 x).getD j 0 := by
        simp only [wordsB, List.getD_eq_getElem?_getD]
        rw [List.getElem?_append_left (by simpa using hj)]
      rw [e, leB8_at x j hj, show j / 8 = 0 by omega, show j % 8 = j by omega]
      rfl
    · obtain ⟨i, rfl⟩ : ∃ i, j = i + 8 := ⟨j - 8, by omega⟩
      have e : (wordsB (x :: l)).getD (i + 8) 0 = (wordsB l).getD i 0 := by
        simp only [wordsB, List.getD_eq_getElem?_getD]
        rw [List.getElem?_append_right (by simp)]
        simp
      rw [e, wordsB_at l i (by simp at h; omega), show (i + 8) / 8 = i / 8 + 1 by omega, show (i + 8) % 8 = i % 8 by omega]
      rfl
theorem fill_words (st : List Int) (h : st.length = 8) : fill 64 (fun i => st.getD (i / 8) 0 / 2 ^ (56 - 8 * (i % 8)) % 256) 64 = wordsB st := by
  rw [fill_all]
  apply List.ext_getElem
  · simp [wordsB_length, h]
  · intro i h1 h2
    simp at h1
    have := wordsB_at st i (by omega)
    rw [getD_lt (wordsB st) i h2] at this
    rw [this]
    simp
end Go.Proofs.YtkagnpnicbddlaaDoor.S5

namespace Go.Proofs.YtkagnpnicbddlaaDoor.S5
open Go.RowKit

theorem Tryd.sz1x : (Tryd.prog.info? 5).map (·.size) = some 1 := by kernel_rfl
theorem eqWide (l l' : List Int) (h : l.length = 64) (h' : l'.length = 64) (w : World) : (Op.equalIn 10000 36 (.agg (U8 l).toArray) (.agg (U8 l').toArray)).run Tryd.prog w = .ok (decide (l = l')) w :=
  run_equalIn_ints Tryd.underlying36 Tryd.underlying5 Tryd.sz1x l l' h h' w
/-- []byte of a constant text: a block of its own -/
theorem conv_const (w : World) (l : List Int) (n c : Nat) :
    ∃ W, W = w.alloc (.cells (U8 l).toArray 5 (n, c)) ∧ Lies W (some ⟨w.heap.size, 0, none⟩) l ∧ Below w.heap.size w W ∧ w.heap.size < W.heap.size := by
  have hrow : (w.alloc (.cells (U8 l).toArray 5 (n, c))).heap[w.heap.size]? = some (.cells (U8 l).toArray 5 (n, c)) := heap_alloc_last w _
  have hlt : w.heap.size < (w.alloc (.cells (U8 l).toArray 5 (n, c))).heap.size := by simp
  refine ⟨_, rfl, fun _ => ⟨w.heap.size, 0, rfl, hlt, fun i hi => ?_⟩, (Below.refl _ _).alloc (Nat.le_refl _) _, hlt⟩
  rw [Nat.zero_add, cell_of_row _ w.heap.size i _ _ _ hrow, ← U8_at l i hi]; simp
theorem zeroWide : (Tryd.prog.info? 36).map (fun i => (i.zero, i.size)) = some (some (.agg (U8 (List.replicate 64 0)).toArray), 64) := by kernel_rfl
theorem zeroWide_named : ∃ Z : List Value, Z = U8 (List.replicate 64 0) ∧ Z.toArray.size = 64 ∧ ∀ w, (zeroValue 36).run Tryd.prog w = .ok (.agg Z.toArray) w := ⟨_, rfl, by simp, (zero_of_info zeroWide).1⟩
/-- the mark behind the row of a constant text -/
theorem run_convert_mark {P : Program} (w : World) (t e : TypeId) (C : Array Value) (n c g : Nat) (ht : P.underlying t = some (.slice e)) (he : P.underlying e = some (.int .u8)) (hr : w.heap[g]? = some (.cells C e (0, 0))) :
    ∃ W, (convert t t (.slice (some ⟨g, 0, none⟩) n c)).run P w = .ok (.slice (some ⟨g, 0, none⟩) n c) W ∧ W.heap[g]? = some (.cells C e (C.size, C.size + 1)) ∧ But g w W := by
  have hsh : w.shape? g = some (e, C.size) := by unfold World.shape?; rw [hr]
  have hlt : g < w.heap.size := by
    by_cases hb : g < w.heap.size
    · exact hb
    · rw [Array.getElem?_eq_none (by omega)] at hr; simp at hr
  have hge : w.heap[g] = .cells C e (0, 0) := by
    rw [Array.getElem?_eq_getElem hlt] at hr; exact Option.some.inj hr
  refine ⟨w.freeze ⟨g, C.size, none⟩ 1, ?_, ?_, ?_⟩
  · simp [convert, run_underlying ht, run_underlying he, markStringish, hsh]
  · simp only [World.freeze, hlt, Nat.one_ne_zero, if_false, Array.size_modify, Array.getElem?_eq_getElem, Array.getElem_modify_self, hge]
    simp
  · refine ⟨rfl, rfl, rfl, ?_, fun k hk hkg => ?_⟩
    · simp [World.freeze]
    · simp [World.freeze, Array.getElem?_modify, Ne.symm hkg]
/-- []byte("abc") -/
theorem abc_conv (w : World) : ∃ W, (convert 24 24 (.slice (some ⟨w.heap.size, 0, none⟩) 3 3)).run Tryd.prog (w.alloc (.cells #[Value.int .u8 97, .int .u8 98, .int .u8 99] 5)) = .ok (.slice (some ⟨w.heap.size, 0, none⟩) 3 3) W ∧
    Lies W (some ⟨w.heap.size, 0, none⟩) [97, 98, 99] ∧ Below w.heap.size w W ∧ w.heap.size < W.heap.size := by
  have hr : (w.alloc (.cells #[Value.int .u8 97, .int .u8 98, .int .u8 99] 5)).heap[w.heap.size]? = some (.cells (U8 [97, 98, 99]).toArray 5 (0, 0)) := heap_alloc_last w _
  obtain ⟨W, h1, h2, h3⟩ := run_convert_mark (P := Tryd.prog) (w.alloc (.cells #[Value.int .u8 97, .int .u8 98, .int .u8 99] 5)) 24 5 _ 3 3 w.heap.size Tryd.underlying24 Tryd.underlying5 hr
  have hlt : w.heap.size < W.heap.size := by have := h3.size; simp at this; omega
  refine ⟨W, h1, fun _ => ⟨w.heap.size, 0, rfl, hlt, fun i hi => ?_⟩, ((Below.refl w.heap.size w).alloc (Nat.le_refl _) _).trans (h3.below (by simp) (Nat.le_refl _)), hlt⟩
  rw [Nat.zero_add, cell_of_row W w.heap.size i _ _ _ h2, ← U8_at [97, 98, 99] i hi]; simp
theorem bytesWorld_below (w : World) (e : TypeId) (s : ByteArray) : Below w.heap.size w (Lib.bytesWorld w e s) :=
  ⟨rfl, rfl, rfl, by rw [Lib.bytesWorld_size]; omega, fun k hk => Lib.bytesWorld_at_old w e s k hk⟩
theorem bytesWorld_lies (w : World) (e : TypeId) (s : ByteArray) (l : List Int) (hl : l = s.data.toList.map fun b => (b.toNat : Int)) : Lies (Lib.bytesWorld w e s) (some ⟨w.heap.size, 0, none⟩) l := by
  intro _
  refine ⟨w.heap.size, 0, rfl, by rw [Lib.bytesWorld_size]; omega, fun i hi => ?_⟩
  have hs : i < s.size := by rw [hl] at hi; simpa using hi
  rw [Nat.zero_add, Lib.bytesWorld_cell w e s i hs, hl]
  congr 2
  have h2 : i < s.data.size := hs
  simp only [List.getD_eq_getElem?_getD, List.getElem?_map, Array.getElem?_toList, Array.getElem?_eq_getElem h2]
  rfl
end Go.Proofs.YtkagnpnicbddlaaDoor.S5

namespace Go.Proofs.YtkagnpnicbddlaaDoor.S5
open Go.RowKit

/-- the reference's first state -/
def RFLaid (w : World) : Prop := ∀ i, i < 8 → w.cell? ⟨4, i, none⟩ = some (.int .u64 (FZ.getD i 0))
theorem RFLaid.lt {w : World} (h : RFLaid w) : 4 < w.heap.size := cell_lt (h 0 (by decide))
theorem RFLaid.later {w w' : World} (h : RFLaid w) (hb : Below w.heap.size w w') : RFLaid w' := fun i hi => (hb.cell (p := ⟨4, i, none⟩) h.lt).trans (h i hi)
theorem RFLaid.range {w : World} (h : RFLaid w) : w.rangeAt 4 0 (U64 FZ) := fun j v hv => by
  have hj : j < 8 := by have := List.getElem?_eq_some_iff.1 hv; obtain ⟨hh, -⟩ := this; exact hh
  rw [Nat.zero_add, h j hj]
  rw [U64_at FZ j hj] at hv
  exact hv

set_option maxHeartbeats 4000000 in
set_option maxRecDepth 100000 in
theorem refSum_any (d : Sl) (w : World) (hd : d.Ok w) (hK : RKLaid w) (hL : RFLaid w) (hdn : d.n ≤ 400000) :
    Calls Tryd.prog 78 #[d.v] w fun e w' => e = .returned (.agg (U8 (sumZ d.l)).toArray) ∧ Below w.heap.size w w' := by
  obtain ⟨i0, hi, hz0, hz1, hz2⟩ := info_parts Tryd.infoB
  have hzc : (Value.int .u8 0).cells.size = 1 := rfl
  obtain ⟨da, dn, dc, l⟩ := d
  have hdl : l.length = dn := hd.len
  have hdn' : dn ≤ 400000 := hdn
  have HDL := hide hdl
  clear hdl hdn
  simp only [Sl.v]
  obtain ⟨Z, hZ, hZl, hzv⟩ := zeroWide_named
  have HZ := hide hZ
  have HZL := hide hZl
  clear hZ hZl
  obtain ⟨W0, hW0, hR0, hb0, hs0⟩ := arr1 w 36 Z
  have hd0 := hd.later hb0
  have HW0 := hide hW0
  have HD0 := hide hd0
  rw [hW0] at hd0
  have HD := hide hd0
  have hs0' : w.heap.size < W0.heap.size := by omega
  have hAB : IsB (l ++ padZ dn) := fun x hx => by
    rcases List.mem_append.1 hx with h | h
    · exact hd.isB x h
    · exact padZ_isB dn x h
  clear hW0 hd0 hs0 hd
  have hzF : (Tryd.prog.info? 74).map (·.size) = some (U64 FZ).toArray.size := Tryd.sz8w
  obtain ⟨S0, hS0⟩ : ∃ S0, S0 = (U64 FZ).toArray := ⟨_, rfl⟩
  have hS1 := all_one (U64_one FZ)
  have hzo : (U64 [0, 0, 0, 0, 0, 0, 0, 0]).toArray.size = (U64 FZ).toArray.size := rfl
  rw [← hS0] at hzF hS1 hzo
  have HS0 := hide hS0
  clear hS0
  go_enter Tryd.func78, Tryd.ntmps78
  go_wp2_with (first
    | (at_builtin
       refine wpList_append_sl rfl _ _ 24 rfl W0.heap.size 5 i0 (.int .u8 0) Tryd.underlying24 hi hz0 hz1 hz2 hzc (.slice none 0 0) 0 [] rfl (World.ownsRow_nil _ _ _ _) ⟨da, dn, dc, l⟩ (unhide HD) rfl (by show 0 + dn ≤ _; omega) (by rw [unhide HW0]; exact Nat.le_refl _) ?_
       rw [← unhide HW0]
       intro v1 w2 own1 gr1))
  have hb2 : Below W0.heap.size W0 w2 := below_grown (Below.refl _ _) (Nat.le_refl _) (World.ownsRow_nil _ _ 5 _) (unhide gr1)
  have hs2 := hb2.size
  clear gr1 HW0 HD
  refine (refPad_any dn w2 (by omega)).mono ?_
  rintro e w3 ⟨vp, rfl, hownp, hb3⟩
  have own1' : w3.ownsRow W0.heap.size 5 1 v1 (0 + dn) ([] ++ U8 l) := own_later (unhide own1) hb3
  have HO1 := hide own1'
  have hb3' : Below W0.heap.size W0 w3 := hb2.trans (hb3.mono hs2)
  have hs3 := hb3'.size
  have hpl := padLen_bd dn
  have hpm := padLen_mod dn
  obtain ⟨dp, rfl, okp, hpL, hpN, -⟩ := own_sl hownp (padZ_isB dn)
  obtain ⟨pa, pn, pcp, pll⟩ := dp
  have hpL' : pll = padZ dn := hpL
  have hpN' : pn = padLen dn := hpN
  generalize hL' : padLen dn = L at hpl hpm hpN'
  subst hpN'
  subst hpL'
  have hL9 := hpl.1
  have hL72 := hpl.2
  have HP3 := hide okp
  have HPM := hide hpm
  simp only [Sl.v]
  clear okp own1 own1' hb3 hpl hpm hL' hb2 hownp hpL hpN
  go_wp2_with (first
    | (at_builtin
       refine wpList_append_sl rfl _ _ 24 rfl W0.heap.size 5 i0 (.int .u8 0) Tryd.underlying24 hi hz0 hz1 hz2 hzc v1 (0 + dn) ([] ++ U8 l) rfl (unhide HO1) ⟨pa, pn, pcp, padZ dn⟩ (unhide HP3) rfl (by show 0 + dn + pn ≤ _; omega) hs3 ?_
       intro v2 w4 own2 gr2
       have hb4 : Below W0.heap.size W0 w4 := below_grown hb3' (Nat.le_refl _) (unhide HO1) (unhide gr2)
       have ho2 := unhide own2
       rw [List.nil_append, ← U8_append] at ho2
       obtain ⟨s4, hv4, ok4, hl4, hn4, -⟩ := own_sl ho2 hAB
       obtain ⟨a4, n4, c4, A⟩ := s4
       have hl4' : A = l ++ padZ dn := hl4
       have hn4' : n4 = 0 + dn + pn := hn4
       have hAl : A.length = n4 := ok4.len
       have hc4 : n4 ≤ c4 := ok4.le
       have hAB4 : IsB A := ok4.isB
       obtain ⟨b4, o4, hae, hb4lt, hcell4⟩ := ok4.lies (by show 0 < A.length; omega)
       have hae' : a4 = some ⟨b4, o4, none⟩ := hae
       have hc4mx : c4 ≤ maxLen := ok4.mx
       unfold maxLen at hc4mx
       subst hae'
       simp only [Sl.v] at hv4
       subst hv4
       have HCELL := hide (show ∀ i, i < A.length → w4.cell? ⟨b4, o4 + i, none⟩ = some (.int .u8 (A.getD i 0)) from hcell4)
       have t3 : (n4 : Int) % 128 = 0 := by have := unhide HPM; omega
       have hq : n4 % 128 = 0 := by omega
       have HQ := hide hq
       have hn4b : n4 ≤ 400144 := by omega
       have HA := hide hl4'
       have HAL := hide hAl
       clear own2 gr2 hb3' ho2 ok4 hl4 hn4 hl4' hn4' hAl hae hcell4 hq HO1 HP3
       have hb4' : Below w.heap.size w w4 := hb0.trans (hb4.mono hb0.size)
       have hR4 : Arr w4 w.heap.size 36 Z := hR0.later hb4
       have HL5 := hide (hL.later hb4'))
    | (refine wpList_load_mid rfl 74 (.global 4) rfl _ _ rfl _ _ (unhide HL5).range Tryd.underlying74 rfl sz8F ?_
       rw [← unhide HS0])
    | (rw [Z8r]; refine wpList_store_row rfl 74 _ _ rfl w4.heap.size _ rfl rfl 74 _ (heap_alloc_last w4 _) hzF hzo hS1 ?_; rw [unhide HS0, World.setRow_alloc_new]))
  obtain ⟨W6, hW6, hG6, hb6, -⟩ := arr1 w4 74 (U64 FZ)
  rw [← hW6, ← unhide HS0]
  have hK6 : RKLaid w4 := hK.later hb4'
  obtain ⟨gs, hgs⟩ : ∃ gs, gs = w4.heap.size := ⟨_, rfl⟩
  rw [← hgs] at hG6
  rw [← hgs]
  have HGS := hide hgs
  have hbl4 : w.heap.size < gs := by have := hb4.size; omega
  clear hW6 HL5 hgs t3 hzF hS1 hzo hb0 hR0 hb4 hK hL hAB HS0 hs2 hs3 HPM hs0'
  go_loopw [5] (fun i wr => ∃ k at_ : Nat, at_ = 128 * k ∧ at_ ≤ n4 ∧ i = .int .i64 at_ ∧ Arr wr gs 74 (U64 (led FZ A k)) ∧ Below w4.heap.size w4 wr) (fun i _ => n4 - (intOf i).toNat)
  case atStart => exact ⟨0, 0, rfl, by omega, rfl, hG6, hb6⟩
  case round =>
    clear hG6 hb6
    obtain ⟨k, at_, hatk, hat, rfl, hG, hB⟩ := hrel
    have HATK := hide hatk
    clear hatk
    have hstl : (led FZ A k).length = 8 := led_length FZ A rfl k
    have hstW : IsW (led FZ A k) := led_isW FZ A FZ_isW k
    by_cases hlt : at_ < n4
    · have h64 : at_ + 128 ≤ n4 := by have h1 := unhide HATK; have h2 := unhide HQ; omega
      have hltz : (at_ : Int) < (n4 : Int) := by omega
      obtain ⟨st, hst⟩ : ∃ st, st = led FZ A k := ⟨_, rfl⟩
      rw [← hst] at hG hstl hstW
      have HST := hide hst
      have HSTL := hide hstl
      clear hst hstl
      go_wp2_with fail
      have hXl : ((A.drop at_).take 128).length = 128 := by rw [List.length_take, List.length_drop, unhide HAL]; omega
      have hXB : IsB ((A.drop at_).take 128) := fun x hx => hAB4 x (List.mem_of_mem_drop (List.mem_of_mem_take hx))
      have hlA : Lies w4 (some ⟨b4, o4, none⟩) A := fun _ => ⟨b4, o4, rfl, hb4lt, unhide HCELL⟩
      have hXs := hlA.sub at_ 128 (by rw [unhide HAL]; exact h64)
      obtain ⟨X, hX⟩ : ∃ X, X = (A.drop at_).take 128 := ⟨_, rfl⟩
      rw [← hX] at hXl hXB hXs
      have HX := hide hX
      have HXL := hide hXl
      have HXS := hide hXs
      have hzs : (Tryd.prog.info? 74).map (·.size) = some (U64 st).toArray.size := by rw [Tryd.sz8w]; simp [unhide HSTL]
      have hne : ¬ c4 = at_ := by omega
      obtain ⟨en, hen⟩ : ∃ en : Nat, en = at_ + 128 := ⟨_, rfl⟩
      have hwe : IntKind.i64.wrap ((at_ : Int) + 128) = (en : Int) := by rw [IntKind.wrap_i64]; omega
      have he0 : (0 : Int) ≤ (en : Int) := by omega
      have he1 : (en : Int) ≤ (c4 : Int) := by omega
      have he2 : at_ ≤ en := by omega
      have he3 : en - at_ = 128 := by omega
      have HEN := hide hen
      clear hen
      have hG' : Arr wr.drew gs 74 (U64 st) := hG
      have HB := hide hB
      clear hX hXl hlA hXs
      refine wp_region_held_drew (S := fun _ : World => True) (by kernel_rfl) trivial (fun hHeld => ?_)
      refine wpAnyH_take (i := 1) (oi := _) (v := .slice (some ⟨b4, o4, none⟩) n4 c4) rfl (by kernel_rfl) (by kernel_rfl) (by kernel_rfl) (fun _ _ _ h => h) (Or.inl ⟨by rfl, fun w hSw => by go_simp⟩) hHeld ?_
      simp [Act.put]
      refine wpAnyH_take (i := 2) (oi := _) (v := .int .i64 at_) rfl (by kernel_rfl) (by kernel_rfl) (by kernel_rfl) (fun _ _ _ h => h) (Or.inl ⟨by rfl, fun w hSw => by go_simp⟩) hHeld ?_
      simp [Act.put]
      refine wpAnyH_take (i := 3) (oi := _) (v := .int .i64 at_) rfl (by kernel_rfl) (by kernel_rfl) (by kernel_rfl) (fun _ _ _ h => h) (Or.inl ⟨by rfl, fun w hSw => by go_simp⟩) hHeld ?_
      simp [Act.put]
      refine wpAnyH_take (i := 4) (oi := _) (v := .int .i64 en) rfl (by kernel_rfl) (by kernel_rfl) (by kernel_rfl) (fun _ _ _ h => h) (Or.inl ⟨by rfl, fun w hSw => by go_simp⟩) hHeld ?_
      simp [Act.put]
      refine wpAnyH_take (i := 5) (oi := _) (v := .slice (some ⟨b4, o4 + at_, none⟩) 128 (c4 - at_)) rfl (by kernel_rfl) (by kernel_rfl) (by kernel_rfl) (fun _ _ _ h => h) (Or.inl ⟨by rfl, fun w hSw => by go_simp⟩) hHeld ?_
      simp [Act.put]
      refine wpAnyH_ready (rs := [0]) (by kernel_rfl) (by simp) ?_
      refine AllReadyH.cons rfl (fun K hK => ?_) AllReadyH.nil
      refine step_load_row rfl 74 (.tmp 4) rfl gs rfl 74 _ (0, 0) _ hG' Tryd.underlying74 rfl hzs ?_
      simp [Act.put]
      refine hK.out _ _ trivial (fun hHeld => ?_)
      clear hK K
      refine wpAnyH_ready (rs := [6]) (by kernel_rfl) (by simp) ?_
      refine AllReadyH.cons rfl (fun K hK => ?_) AllReadyH.nil
      go_simp
      refine (step_any st X b4 (o4 + at_) (c4 - at_) _ (unhide HSTL) hstW (unhide HXL) hXB ((unhide HXS).later (show Below w4.heap.size w4 wr.drew from (unhide HB).drew)) (by omega) (hK6.later (show Below w4.heap.size w4 wr.drew from (unhide HB).drew))).mono ?_
      rintro e w7 ⟨rfl, hb7⟩
      have hb7' : Below wr.heap.size wr w7 := ⟨hb7.os, hb7.tape, hb7.output, hb7.size, hb7.block⟩
      have hG7 := hG.later hb7'
      have hB7 : Below w4.heap.size w4 w7 := (unhide HB).trans (hb7'.mono (unhide HB).size)
      have hRl : (blockZ st X).length = 8 := blockZ_length _ _ (unhide HSTL)
      obtain ⟨R, hRR⟩ : ∃ R, R = blockZ st X := ⟨_, rfl⟩
      rw [← hRR] at hRl ⊢
      have HRR := hide hRR
      have hzr : (Tryd.prog.info? 74).map (·.size) = some (U64 R).toArray.size := by rw [Tryd.sz8w]; simp [hRl]
      have hzo : (U64 st).toArray.size = (U64 R).toArray.size := by simp [hRl, unhide HSTL]
      clear hRl hRR hb7 hb7' hG hG' HB
      refine hK.out _ _ trivial (fun hHeld => ?_)
      clear hK K
      refine wpAnyH_ready (rs := [7]) (by kernel_rfl) (by simp) ?_
      refine AllReadyH.cons rfl (fun K hK => ?_) AllReadyH.nil
      refine step_store_row rfl 74 (.tmp 4) (.tmp 32) rfl gs _ rfl rfl 74 _ hG7 hzr hzo (all_one (U64_one _)) ?_
      simp [Act.put]
      refine hK.out _ _ trivial (fun hHeld => ?_)
      clear hK K
      refine wpAnyH_done (by kernel_rfl) ?_ _
      go_wp2
      go_roundw
      case rel =>
        refine ⟨k + 1, at_ + 128, by have := unhide HATK; omega, by omega, by go_num, ?_, below_setRow hB7 (by have := unhide HGS; omega) _⟩
        have hR2 : R = led FZ A (k + 1) := by
          rw [unhide HRR, led, ← unhide HST, unhide HX, unhide HATK]
        rw [← hR2]
        exact hG7.setRow (U64 R)
      case measure => simp [intOf]; omega
    · have hk : k = (l ++ padZ l.length).length / 128 := by
        have h1 := unhide HATK
        have h2 : A.length = n4 := unhide HAL
        have h3 : A = l ++ padZ dn := unhide HA
        rw [unhide HDL, ← h3, h2]
        omega
      have hsum : wordsB (led FZ A k) = sumZ l := by
        unfold sumZ
        rw [← hk, unhide HDL, ← unhide HA]
      obtain ⟨st, hst⟩ : ∃ st, st = led FZ A k := ⟨_, rfl⟩
      rw [← hst] at hG hstl hstW hsum
      have HSUM := hide hsum
      have HSTL := hide hstl
      clear hst hstl hsum hk HATK
      have hltz : ¬ ((at_ : Int) < (n4 : Int)) := by omega
      have hltd : decide ((at_ : Int) < (n4 : Int)) = false := by simpa using hltz
      clear hltz
      go_wp2_with fail
      obtain ⟨W8, hW8, hO8, hb8, -⟩ := arr1 wr 36 Z
      rw [← hW8]
      rw [unhide HZ] at hO8
      have hRs := (hR4.later hB).later hb8
      have hG8 := hG.later hb8
      have hbw8 : Below w.heap.size w W8 := (hb4'.trans (hB.mono hb4'.size)).trans (hb8.mono (by have := hb4'.size; have := hB.size; omega))
      have hgso : gs < wr.heap.size := hG.lt
      clear hW8 hb8 hB hG hR4 hltd hlt hat
      generalize hat0 : (at_ : Int) = at0
      clear hat0
      generalize wr.heap.size = go at *
      go_loopw [7] (fun i wr => ∃ j : Nat, j ≤ 8 ∧ i = .int .i64 j ∧ Arr wr gs 74 (U64 st) ∧ Arr wr go 36 (U8 (fill 64 (fun i => st.getD (i / 8) 0 / 2 ^ (56 - 8 * (i % 8)) % 256) (8 * j))) ∧ Arr wr w.heap.size 36 Z ∧ Below w.heap.size w wr) (fun i _ => 8 - (intOf i).toNat)
      case atStart => exact ⟨0, by omega, rfl, hG8, by rw [Nat.mul_zero, fill_zero]; exact hO8, hRs, hbw8⟩
      case round =>
        clear hG8 hO8 hRs hbw8
        obtain ⟨j, hj, rfl, hG, hO, hRs, hbw⟩ := hrel
        by_cases hjl : j < 8
        · have cg := hG.cell64 j (by rw [unhide HSTL]; exact hjl)
          have hx0 := (hstW.at j).1
          generalize hx : st.getD j 0 = x at cg hx0
          have HX := hide hx
          clear hx
          go_wp2_with fail
          refine (tell_any x wr hx0).mono ?_
          rintro e w9 ⟨vt, rfl, hownt, hb9⟩
          have hG9 := hG.later hb9
          have hO9 := hO.later hb9
          have hR9 := hRs.later hb9
          have hbw9 : Below w.heap.size w w9 := hbw.trans (hb9.mono hbw.size)
          obtain ⟨gt, ct, rfl, hgt, hgtl⟩ := hownt.form (by omega)
          have hgot : go < gt := by have := hO.lt; omega
          have hct : ∀ k, k < 8 → w9.cell? ⟨gt, k, none⟩ = some (.int .u8 ((leB 8 x).reverse.getD k 0)) := fun k hk => by rw [hownt.cellAt k (by omega), U8_at _ k (by simpa using hk)]
          have HCT := hide hct
          clear hct hownt hb9 hG hO hRs hbw
          go_wp2_with fail
          go_loopw [9] (fun i wr => ∃ k : Nat, k ≤ 8 ∧ i = .int .i64 k ∧ Arr wr go 36 (U8 (fill 64 (fun i => st.getD (i / 8) 0 / 2 ^ (56 - 8 * (i % 8)) % 256) (8 * j + k))) ∧ But go w9 wr) (fun i _ => 8 - (intOf i).toNat)
          case atStart => exact ⟨0, by omega, rfl, hO9, But.refl _ _⟩
          case round =>
            clear hO9
            obtain ⟨k, hk, rfl, hO, hBt⟩ := hrel
            by_cases hkl : k < 8
            · have ct := (hBt.cell (p := ⟨gt, k, none⟩) (cell_lt (unhide HCT k hkl)) (by show gt ≠ go; omega)).trans (unhide HCT k hkl)
              rw [be_at x k hkl] at ct
              have co := hO.cell8 (8 * j + k) (by simp; omega)
              have fo := hO.frozen (8 * j + k)
              generalize (fill 64 (fun i => st.getD (i / 8) 0 / 2 ^ (56 - 8 * (i % 8)) % 256) (8 * j + k)).getD (8 * j + k) 0 = xo at co
              have hfs := fill_set 64 (fun i => st.getD (i / 8) 0 / 2 ^ (56 - 8 * (i % 8)) % 256) (8 * j + k)
              have q1 : (8 * j + k) / 8 = j := by omega
              have q2 : (8 * j + k) % 8 = k := by omega
              simp only [q1, q2, unhide HX] at hfs
              have HFS := hide hfs
              generalize hy : x / 2 ^ (56 - 8 * k) % 256 = y at ct
              have HY := hide hy
              clear hy hfs q1 q2
              obtain ⟨m, hm⟩ : ∃ m, m = 8 * j + k := ⟨_, rfl⟩
              rw [← hm] at co fo
              have hm1 : 8 * (j : Int) + (k : Int) = (m : Int) := by omega
              have hm2 : (m : Int) < 64 := by omega
              have HM := hide hm
              clear hm
              go_wp2
              go_roundw
              case rel =>
                refine ⟨k + 1, by omega, by go_num, ?_, hBt.setCell m _⟩
                have h1 := unhide HFS
                rw [unhide HY, ← unhide HM] at h1
                rw [show 8 * j + (k + 1) = m + 1 by have := unhide HM; omega, ← h1]
                have h2 := hO
                rw [← unhide HM] at h2
                exact h2.set8 m y
              case measure => simp [intOf]; omega
            · have e8 : k = 8 := by omega
              have hO8 : Arr wr go 36 (U8 (fill 64 (fun i => st.getD (i / 8) 0 / 2 ^ (56 - 8 * (i % 8)) % 256) (8 * (j + 1)))) := by
                rw [e8, show 8 * j + 8 = 8 * (j + 1) by omega] at hO; exact hO
              have hGf := hBt.arr hG9 (by omega)
              have hRf := hBt.arr hR9 (by omega)
              have hbf : Below w.heap.size w wr := hbw9.trans (hBt.below hbw9.size (by omega))
              have hkd : decide ((k : Int) < 8) = false := by simp; omega
              clear hO hBt e8
              go_wp2
              go_roundw
              case rel => exact ⟨j + 1, by omega, by go_num, hGf, hO8, hRf, hbf⟩
              case measure => simp [intOf]; omega
        · have e8 : j = 8 := by omega
          have hO8 : Arr wr go 36 (U8 (sumZ l)) := by
            rw [e8, show 8 * 8 = 64 from rfl, fill_words st (unhide HSTL), unhide HSUM] at hO; exact hO
          have hRl := sumZ_length l
          clear hO e8
          obtain ⟨R, hRR⟩ : ∃ R, R = sumZ l := ⟨_, rfl⟩
          rw [← hRR] at hO8 hRl
          have HRR := hide hRR
          have hzr : (Tryd.prog.info? 36).map (·.size) = some (U8 R).toArray.size := by rw [Tryd.szH]; simp [hRl]
          have hzo : Z.toArray.size = (U8 R).toArray.size := by rw [unhide HZL]; simp [hRl]
          clear hRl hRR
          have hjd : decide ((j : Int) < 8) = false := by simp; omega
          go_wp2_with (first
            | refine wpList_load_row rfl 36 (.tmp 6) rfl go rfl 36 _ (0, 0) _ hO8 Tryd.underlying36 rfl hzr ?_
            | refine wpList_store_row rfl 36 (.tmp 2) _ rfl w.heap.size _ rfl rfl 36 _ hRs hzr hzo (all_one (U8_one _)) ?_)
          refine bodyPost_ret (results_cell_row rfl _ _ w.heap.size 36 _ (0, 0) _ rfl (Arr.setRow hRs (U8 R)) Tryd.underlying36 rfl hzr) rfl ?_
          refine ⟨?_, below_setRow hbw (Nat.le_refl _) _⟩
          rw [← unhide HRR]
end Go.Proofs.YtkagnpnicbddlaaDoor.S5
