import Derived.Test.YtppmgfkpfamabaaQGavZ
import Derived.Test.YtppmgfkpfamabaaQGauZ
import Derived.Deep.QuietTactic
import Derived.BigQuiet
import Derived.Test.YtppmgfkpfamabaaQGafZ
import Derived.Test.YtppmgfkpfamabaaQGaeZ
import Derived.Test.YtppmgfkpfamabaaQGarZ
set_option maxHeartbeats 2000000
set_option maxRecDepth 100000
set_option linter.unusedSimpArgs false
set_option linter.unusedVariables false
namespace Go.Proofs.Ytppmgfkpfamabaa
open Go.RowKit
theorem rdec_ok (ab ao n c i m : Nat) (l : List Int) (w : World) (hd : Sl.Ok w ⟨some ⟨ab, ao, none⟩, n, c, l⟩) (hz : i + m + 10 ≤ n) (hm : l.getD i 0 = 165) (hm2 : leV ((l.drop (i + 2)).take 4).reverse = (m : Int)) (h7 : m ≤ 262144) (X : List Int) (hX : (leB 4 (crc ((l.drop (i + 1)).take (m + 5)))) = X) (hE : (l.drop (i + 6 + m)).take 4 = X) :
    Calls Try.prog 84 #[.slice (some ⟨ab, ao, none⟩) n c, .int .i64 i] w fun e w' => ∃ v, e = .returned (.tuple #[frV (l.getD (i + 1) 0) v, .int .i64 (i + m + 10 : Nat), .int .i64 0]) ∧
      w'.ownsRow w.heap.size 5 1 v m (U8 ((l.drop (i + 6)).take m)) ∧ Below w.heap.size w w' := by
  have hlen : l.length = n := hd.len
  have hle : n ≤ c := hd.le
  have hmx : c ≤ 9223372036854775807 := by have := hd.mx; unfold maxLen at this; exact this
  have hXl : X.length = 4 := by rw [← hX]; simp
  have d0 : decide ((i : Int) < 0) = false := decide_eq_false (by omega)
  have d1 : decide ((n : Int) < (i : Int)) = false := decide_eq_false (by omega)
  obtain ⟨q, hq⟩ : ∃ q, n = i + q := ⟨n - i, by omega⟩
  have hs : IntKind.i64.wrap ((n : Int) - (i : Int)) = (q : Int) := by rw [IntKind.wrap_i64]; omega
  have d2 : ((q : Int) == 0) = false := by rw [beq_eq_false_iff_ne]; omega
  have hCC : ∀ (j : Nat) w', j < n → Sl.Ok w' ⟨some ⟨ab, ao, none⟩, n, c, l⟩ → w'.cell? ⟨ab, ao + j, none⟩ = some (.int .u8 (l.getD j 0)) := fun j w' hj h' => by
    obtain ⟨ab', ao', e1, -, e2⟩ := h'.lies (by show 0 < l.length; omega)
    simp only [Option.some.injEq, Addr.mk.injEq] at e1
    obtain ⟨rfl, rfl, -⟩ := e1
    exact e2 j (by show j < l.length; omega)
  have hC : ∀ w', Sl.Ok w' ⟨some ⟨ab, ao, none⟩, n, c, l⟩ → w'.cell? ⟨ab, ao + i, none⟩ = some (.int .u8 165) := fun w' h' => by rw [← hm]; exact hCC i w' (by omega) h'
  have hiz : (i : Int) < (n : Int) := by omega
  have d3 : ((165 : Int) != 165) = false := rfl
  have d4 : decide ((q : Int) < 6) = false := decide_eq_false (by omega)
  have hN : ∀ w', Sl.Ok w' ⟨some ⟨ab, ao, none⟩, n, c, l⟩ → Calls Try.prog 88 #[.slice (some ⟨ab, ao, none⟩) n c, .int .i64 ((i + 2 : Nat) : Int)] w' fun e w'' => e = .returned (.int .i64 (m : Int)) ∧ Below w'.heap.size w' w'' := fun w' h' => by
    have := rnumber_any ⟨some ⟨ab, ao, none⟩, n, c, l⟩ (i + 2) w' h' (by simp only; omega)
    simp only [Sl.v] at this
    rw [hm2] at this
    exact this
  obtain ⟨i2, hi2⟩ : ∃ j, i + 2 = j := ⟨_, rfl⟩
  have w2 : IntKind.i64.wrap ((i : Int) + 2) = (i2 : Int) := by rw [IntKind.wrap_i64]; omega
  rw [hi2] at hN
  have d5 : decide ((262144 : Int) < (m : Int)) = false := decide_eq_false (by omega)
  have w3 : IntKind.i64.wrap ((m : Int) + 10) = (m : Int) + 10 := by rw [IntKind.wrap_i64]; omega
  have d6 : decide ((q : Int) < (m : Int) + 10) = false := decide_eq_false (by omega)
  obtain ⟨i1, hi1⟩ : ∃ j, i + 1 = j := ⟨_, rfl⟩
  obtain ⟨i6, hi6⟩ : ∃ j, i + 6 = j := ⟨_, rfl⟩
  obtain ⟨iz, hiz6⟩ : ∃ j, i + 6 + m = j := ⟨_, rfl⟩
  have w1 : IntKind.i64.wrap ((i : Int) + 1) = (i1 : Int) := by rw [IntKind.wrap_i64]; omega
  have w6 : IntKind.i64.wrap ((i : Int) + 6) = (i6 : Int) := by rw [IntKind.wrap_i64]; omega
  have wz : IntKind.i64.wrap ((i6 : Int) + (m : Int)) = (iz : Int) := by rw [IntKind.wrap_i64]; omega
  have f2 : (i1 : Int) ≤ (iz : Int) := by omega
  have f3 : (iz : Int) ≤ (c : Int) := by omega
  have f4 : i1 ≤ iz ∧ iz ≤ c ∧ i1 < c := by omega
  have f5 : ¬ c = i1 := by omega
  have hSu : ∀ w', Sl.Ok w' ⟨some ⟨ab, ao, none⟩, n, c, l⟩ → Calls Try.prog 73 #[.slice (some ⟨ab, ao + i1, none⟩) (iz - i1) (c - i1)] w' fun e w'' => e = .returned (.int .u32 (crc ((l.drop (i + 1)).take (m + 5)))) ∧ Below w'.heap.size w' w'' := fun w' h' => by
    have h2 := rsum_any _ w' (h'.mid i1 (iz - i1) (by omega))
    simp only [Sl.v] at h2
    rw [← hi1] at h2
    rw [show iz - (i + 1) = m + 5 by omega] at h2
    rw [← hi1, show iz - (i + 1) = m + 5 by omega]
    exact h2.mono fun e w'' ⟨e1, e2⟩ => ⟨e1, by rw [e2]; exact Below.refl _ _⟩
  have hcb := crc_bd ((hd.isB.drop (i + 1)).take (m + 5))
  simp only at hcb
  have hFo : ∀ w', Calls Try.prog 72 #[.int .u32 (crc ((l.drop (i + 1)).take (m + 5)))] w' fun e w'' => ∃ g4, e = .returned (.slice (some ⟨g4, 0, none⟩) 4 4) ∧ w''.ownsRow w'.heap.size 5 1 (.slice (some ⟨g4, 0, none⟩) 4 4) 4 (U8 X.reverse) ∧ Below w'.heap.size w' w'' := fun w' => by
    refine (rfour_any _ w' hcb).mono fun e w'' ⟨e1, e2⟩ => ⟨w'.heap.size, e1, ?_, by rw [e2]; exact below_alloc w' _⟩
    have h3 := own_newF w' X.reverse (by rw [List.length_reverse, hXl]; unfold maxLen; omega)
    rw [List.length_reverse, hXl, ← hX] at h3
    rw [e2, ← hX]
    exact h3
  have hS := Hs17.begin w (fun w' => Sl.Ok w' ⟨some ⟨ab, ao, none⟩, n, c, l⟩) (fun _ ho => hd.old ho)
  generalize crc ((l.drop (i + 1)).take (m + 5)) = cr at hSu hFo hcb
  have HLE := hide (And.intro hlen hXl)
  have HI := hide (And.intro hi1 (And.intro hi6 hiz6))
  have HZ := hide hz
  have HM7 := hide (And.intro h7 hmx)
  have HD := hide hd.isB
  rw [hiz6] at hE
  rw [hi1, hi6]
  have hkc : ∀ w', Sl.Ok w' ⟨some ⟨ab, ao, none⟩, n, c, l⟩ → w'.cell? ⟨ab, ao + i1, none⟩ = some (.int .u8 (l.getD i1 0)) := fun w' h' => hCC i1 w' (by omega) h'
  have hpy : ∀ w', Sl.Ok w' ⟨some ⟨ab, ao, none⟩, n, c, l⟩ → Sl.Ok w' ⟨some ⟨ab, ao + i6, none⟩, m, c - i6, (l.drop i6).take m⟩ := fun w' h' => h'.mid i6 m (by omega)
  have f6 : (i1 : Int) < (n : Int) := by omega
  have f7 : (i6 : Int) ≤ (iz : Int) := by omega
  have f8 : i6 ≤ iz ∧ iz ≤ c ∧ i6 < c := by omega
  have f9 : ¬ c = i6 := by omega
  have hsm : iz - i6 = m := by omega
  have HSM := hide hsm
  have w10 : IntKind.i64.wrap ((i : Int) + 10) = (i : Int) + 10 := by rw [IntKind.wrap_i64]; omega
  have w11 : IntKind.i64.wrap ((i : Int) + 10 + (m : Int)) = ((i + m + 10 : Nat) : Int) := by rw [IntKind.wrap_i64]; omega
  obtain ⟨nx, hnx⟩ : ∃ k, i + m + 10 = k := ⟨_, rfl⟩
  rw [hnx] at w11 ⊢
  clear hsm hnx
  clear hq hlen hd hm hm2 hi2 hX hz hXl hi1 hi6 hiz6
  go_enter Try.func84, Try.ntmps84
  go_upto_region 0 with fail
  refine wp_region_lit ?_
  refine alZ 136 rfl _ Try.inR hS ?_
  clear hS
  intro g1 w1 hS
  refine snZ2 ?_
  go_upto_region 1 with fail
  refine wp_region_lit ?_
  refine alZ 136 rfl _ Try.inR hS ?_
  clear hS
  intro g2 w2 hS
  refine wpList_nil ?_
  go_upto_region 2 with fail
  refine raZ8 ?_
  go_upto_region 4 with fail
  refine raZ5 ?_
  go_upto_region 5 with fail
  refine raZ2 ?_
  have c7 := hC _ hS.K
  go_upto_region 7 with fail
  refine raZ5 ?_
  clear c7
  go_upto_region 9 with fail
  refine raZ2 ?_
  go_upto_region 11 with fail
  refine rgZ3 ?_
  refine caZ ?_
  intro kQ hkQ
  refine (hN _ hS.K).mono ?_
  rintro e w3 ⟨rfl, hb1⟩
  replace hS := hS.later hb1
  refine hkQ _ _ ?_
  clear hkQ kQ hb1
  refine snZ1 ?_
  clear hN hC
  go_upto_region 12 with fail
  refine raZ2 ?_
  go_upto_region 14 with fail
  refine raZ4 ?_
  go_upto_region 16 with fail
  refine rgZ8 ?_
  refine caZ ?_
  intro kQ hkQ
  refine (hSu _ hS.K).mono ?_
  rintro e w4 ⟨rfl, hb1⟩
  replace hS := hS.later hb1
  refine hkQ _ _ ?_
  clear hkQ kQ hb1
  refine caZ ?_
  intro kQ hkQ
  refine (hFo _).mono ?_
  rintro e w5 ⟨g4, rfl, hO4, hb1⟩
  replace hS := hS.ownB hb1 hO4
  refine hkQ _ _ ?_
  clear hkQ kQ hb1
  clear hO4
  refine snZ1 ?_
  clear hSu hFo hcb
  go_wp2_with fail
  go_loopw [11] (fun v wr => ∃ j : Nat, j ≤ 4 ∧ v = .int .i64 j ∧ Hid (((l.drop iz).take 4).take j = X.take j) ∧ Hs17 w [(g2, 136, (rC 0 nilB)), (g1, 136, (rC 0 nilB))] (fun w' => Sl.Ok w' ⟨some ⟨ab, ao, none⟩, n, c, l⟩ ∧ w'.ownsRow w.heap.size 5 1 (.slice (some ⟨g4, 0, none⟩) 4 4) 4 (U8 X.reverse)) wr) (fun v _ => 4 - (intOf v).toNat)
  case atStart => exact ⟨0, by omega, rfl, hide (by simp), hS⟩
  case round =>
    clear hS
    obtain ⟨j, hj, rfl, HJ, hS⟩ := hrel
    by_cases hlt : j < 4
    · have hjz : (j : Int) < 4 := by omega
      obtain ⟨ij, hij⟩ : ∃ k, iz + j = k := ⟨_, rfl⟩
      obtain ⟨j3, hj3⟩ : ∃ k, k + j = 3 := ⟨3 - j, by omega⟩
      have hijn : ij < n := by have := unhide HZ; have := (unhide HI).2.2; omega
      have wj : IntKind.i64.wrap ((iz : Int) + (j : Int)) = (ij : Int) := by have := (unhide HM7).2; rw [IntKind.wrap_i64]; omega
      have w3j : IntKind.i64.wrap ((3 : Int) - (j : Int)) = (j3 : Int) := by rw [IntKind.wrap_i64]; omega
      have hg1 : (ij : Int) < (n : Int) := by omega
      have hg2 : (j3 : Int) < 4 := by omega
      have hB1 : ∀ w', (fun w' => Sl.Ok w' ⟨some ⟨ab, ao, none⟩, n, c, l⟩ ∧ w'.ownsRow w.heap.size 5 1 (.slice (some ⟨g4, 0, none⟩) 4 4) 4 (U8 X.reverse)) w' → w'.cell? ⟨ab, ao + ij, none⟩ = some (.int .u8 (l.getD ij 0)) := fun w' h' => hCC ij w' hijn h'.1
      have hB2 : ∀ w', (fun w' => Sl.Ok w' ⟨some ⟨ab, ao, none⟩, n, c, l⟩ ∧ w'.ownsRow w.heap.size 5 1 (.slice (some ⟨g4, 0, none⟩) 4 4) 4 (U8 X.reverse)) w' → w'.cell? ⟨g4, j3, none⟩ = some (.int .u8 (X.getD j 0)) := fun w' h' => by
        have h5 := (h'.2.cellAt j3 (by omega)).trans (U8_at _ j3 (by rw [List.length_reverse, (unhide HLE).2]; omega))
        rw [h5, rev_at X j3 j (by rw [(unhide HLE).2]; omega)]
      have hstep : ((l.drop iz).take 4).take (j + 1) = ((l.drop iz).take 4).take j ++ [l.getD ij 0] := by
        have hq4 : j < ((l.drop iz).take 4).length := by have h8 := (unhide HLE).1; have h9 := unhide HZ; have h10 := (unhide HI).2.2; rw [List.length_take, List.length_drop]; omega
        rw [take_snoc _ j hq4, ← hij]
        congr 2
        simp [List.getD, List.getElem?_take, hlt, List.getElem?_drop]
      have hstep2 : X.take (j + 1) = X.take j ++ [X.getD j 0] := take_snoc X j (by rw [(unhide HLE).2]; exact hlt)
      have hxy : l.getD ij 0 = X.getD j 0 := by
        have h5 := congrArg (List.take (j + 1)) hE
        rw [hstep, hstep2, unhide HJ] at h5
        simpa using h5
      have HJ2 : Hid (((l.drop iz).take 4).take (j + 1) = X.take (j + 1)) := hide (by rw [hE])
      rw [hxy] at hB1
      have e1 : (X.getD j 0 != X.getD j 0) = false := by simp
      generalize X.getD j 0 = x at *
      clear hstep hstep2 hxy
      go_upto_region 20 with fail
      refine wp_region_noPanic ?_
      replace hS := hS.drew
      refine wp_region_held_drew (S := Hs17 _ _ _) (by kernel_rfl) (hS.sub (((List.Sublist.slnil).cons_cons _).cons_cons _)) (fun hHeld => ?_)
      generalize World.drew _ = w26 at hS hHeld ⊢
      refine tkZ 0 ((.slice (some ⟨ab, ao, none⟩) n c)) rfl (Or.inl ⟨by rfl, fun w hSw => by go_simp⟩) hHeld ?_
      refine tkZ 1 (.int .i64 i) rfl (Or.inl ⟨by rfl, fun w hSw => by go_simp⟩) hHeld ?_
      refine tkZ 2 (.int .i64 i6) rfl (Or.inl ⟨by rfl, fun w hSw => by go_simp⟩) hHeld ?_
      refine tkZ 3 (.int .i64 m) rfl (Or.inl ⟨by rfl, fun w hSw => by go_simp⟩) hHeld ?_
      refine tkZ 4 (.int .i64 iz) rfl (Or.inl ⟨by rfl, fun w hSw => by go_simp⟩) hHeld ?_
      refine tkZ 5 (.int .i64 j) rfl (Or.inl ⟨by rfl, fun w hSw => by go_simp⟩) hHeld ?_
      refine tkZ 6 (.int .i64 ij) rfl (Or.inl ⟨by rfl, fun w hSw => by go_simp⟩) hHeld ?_
      refine tkZ 7 (.pointer (some ⟨ab, ao + ij, none⟩)) rfl (Or.inl ⟨by rfl, fun w hSw => by go_simp⟩) hHeld ?_
      refine tkZ 8 (.int .u8 x) rfl (Or.inl ⟨by rfl, fun w' hSw => by have cq := hB1 w' hSw.K; go_simp⟩) hHeld ?_
      refine tkZ 9 ((.slice (some ⟨g4, 0, none⟩) 4 4)) rfl (Or.inl ⟨by rfl, fun w hSw => by go_simp⟩) hHeld ?_
      refine tkZ 10 (.int .i64 j) rfl (Or.inl ⟨by rfl, fun w hSw => by go_simp⟩) hHeld ?_
      refine tkZ 11 (.int .i64 j3) rfl (Or.inl ⟨by rfl, fun w hSw => by go_simp⟩) hHeld ?_
      refine tkZ 12 (.pointer (some ⟨g4, j3, none⟩)) rfl (Or.inl ⟨by rfl, fun w hSw => by go_simp⟩) hHeld ?_
      refine tkZ 13 (.int .u8 x) rfl (Or.inl ⟨by rfl, fun w' hSw => by have cq := hB2 w' hSw.K; go_simp⟩) hHeld ?_
      refine tkZ 14 (.bool false) rfl (Or.inl ⟨by rfl, fun w hSw => by go_simp⟩) hHeld ?_
      refine wpAnyH_done (by kernel_rfl) ?_ _
      unfold NoPanic
      clear hHeld
      clear hB1 hB2
      go_wp2_with fail
      go_roundw
      case rel => exact ⟨j + 1, by omega, by go_num, HJ2, hS⟩
      case measure => simp [intOf]; omega
    · have hj4 : j = 4 := by omega
      subst hj4
      clear HJ hE hCC
      have ck := hkc _ hS.K.1
      obtain ⟨kk, hkk⟩ : ∃ k, l.getD i1 0 = k := ⟨_, rfl⟩
      rw [hkk] at ck
      have HKK := hide hkk
      clear hkk
      go_upto_region 22 with fail
      refine rgZ5 ?_
      refine vZ _ (ex_build 136 #[(0, .tmp 91)] rfl _ (b_rk kk) rfl) ?_
      refine alZ 136 rfl _ Try.inR hS ?_
      clear hS
      intro g66 w66 hS
      refine srZ 136 (.tmp 12) (.tmp 92) rfl 0 rfl 0 rfl _ _ (pt_r 0 kk nilB nilB) rfl (szR _ _) (one_r _ rfl) hS ?_
      clear hS
      intro w67 hS
      refine wpList_nil ?_
      clear ck hkc
      go_upto_region 23 with fail
      refine wp_region_noPanic ?_
      replace hS := hS.drew
      refine wp_region_held_drew (S := Hs17 _ _ _) (by kernel_rfl) (hS.sub ((((List.Sublist.slnil).cons_cons _).cons_cons _).cons _)) (fun hHeld => ?_)
      generalize World.drew _ = w68 at hS hHeld ⊢
      refine tkZ 0 (.pointer (some ⟨g66, 1, none⟩)) rfl (Or.inl ⟨by rfl, fun w hSw => by go_simp⟩) hHeld ?_
      refine tkZ 2 ((.slice (some ⟨ab, ao, none⟩) n c)) rfl (Or.inl ⟨by rfl, fun w hSw => by go_simp⟩) hHeld ?_
      refine tkZ 3 (.int .i64 i) rfl (Or.inl ⟨by rfl, fun w hSw => by go_simp⟩) hHeld ?_
      refine tkZ 4 (.int .i64 i6) rfl (Or.inl ⟨by rfl, fun w hSw => by go_simp⟩) hHeld ?_
      refine tkZ 5 (.int .i64 i) rfl (Or.inl ⟨by rfl, fun w hSw => by go_simp⟩) hHeld ?_
      refine tkZ 6 (.int .i64 i6) rfl (Or.inl ⟨by rfl, fun w hSw => by go_simp⟩) hHeld ?_
      refine tkZ 7 (.int .i64 m) rfl (Or.inl ⟨by rfl, fun w hSw => by go_simp⟩) hHeld ?_
      refine tkZ 8 (.int .i64 iz) rfl (Or.inl ⟨by rfl, fun w hSw => by go_simp⟩) hHeld ?_
      refine tkZ 9 ((.slice (some ⟨ab, ao + i6, none⟩) (iz - i6) (c - i6))) rfl (Or.inl ⟨by rfl, fun w hSw => by go_simp⟩) hHeld ?_
      rw [unhide HSM]
      refine rd1 1 rfl fun kQ hkQ => ?_
      refine dw (by kernel_rfl) (op_val (nilB) (ex_load1 22 (.tmp 93) rfl 0 rfl 1 rfl (nilB) (at_rp kk nilB) Try.underlying22 rfl hS) ?_)
      refine hkQ.out _ _ hS.sbZ (fun hHeld => ?_)
      clear hkQ kQ
      simp [Act.put]
      refine rd1 10 rfl fun kQ hkQ => ?_
      refine dw (by kernel_rfl) (op_appB (.tmp 94) (.tmp 102) rfl (base := World.heap _ |>.size) (n := 0) (v := nilB) (xs := []) rfl (World.ownsRow_nil _ _ _ _) _ (hpy _ hS.K.1) rfl (by have := unhide HM7; simp only; omega) (Nat.le_refl _) ?_)
      intro v5 w5 hO5 hg5 _
      have hb5 := below_nil hg5
      rw [Nat.zero_add, List.nil_append] at hO5
      simp only at hO5
      replace hS := hS.ownB hb5 hO5
      obtain ⟨a5, c5, hv5⟩ : ∃ a c, v5 = Value.slice a m c := by
        rcases hO5.2 with ⟨h, h0⟩ | ⟨g, c, cur, h, -⟩
        · exact ⟨none, 0, by rw [h, h0]⟩
        · exact ⟨_, _, h⟩
      subst hv5
      clear hg5 hb5 hO5 hHeld hpy
      refine hkQ.out _ _ ((hS.weak (fun _ h => h.1)).sub ((((List.Sublist.slnil).cons_cons _).cons_cons _).cons _)) (fun hHeld => ?_)
      clear hkQ kQ
      simp [Act.put]
      refine tkZ 11 (.pointer (some ⟨g66, 1, none⟩)) rfl (Or.inl ⟨by rfl, fun w hSw => by go_simp⟩) hHeld ?_
      refine rd1 12 rfl fun kQ hkQ => ?_
      refine dw (by kernel_rfl) (op_store 22 (.tmp 104) (.tmp 103) rfl 0 rfl 1 rfl _ _ (pt_rp kk nilB (.slice a5 m c5)) rfl Try.in1y (one_v rfl) hS ?_)
      clear hS hHeld
      intro w69 hS
      change Hs17 _ [_, _, _] _ _ at hS
      refine hkQ.out _ _ ((hS.weak (fun _ h => h.1)).sub ((((List.Sublist.slnil).cons_cons _).cons_cons _).cons _)) (fun hHeld => ?_)
      clear hkQ kQ
      simp [Act.put]
      refine wpAnyH_done (by kernel_rfl) ?_ _
      unfold NoPanic
      clear hHeld
      go_upto_region 24 with fail
      refine wp_region_lit ?_
      refine ldZ 136 (.tmp 12) rfl 0 rfl 0 rfl _ (At.self _) Try.underlying136 rfl (szR _ _) hS ?_
      refine stZ4 ?_
      refine srZ 136 (.tmp 4) (.tmp 105) rfl 2 rfl 0 rfl _ _ (pt_r 0 kk nilB (.slice a5 m c5)) rfl (szR _ _) (one_r _ rfl) hS ?_
      clear hS
      intro w70 hS
      refine snZ2 ?_
      go_wp2
      refine bodyPost_ret (res_ctt rfl hS 2 rfl rfl Try.underlying136 rfl (szR _ _) (.int .i64 nx) (.int .i64 0) rfl rfl) rfl ?_
      exact ⟨.slice a5 m c5, by rw [unhide HKK]; rfl, hS.K.2, hS.bel⟩
theorem leB_of_leV {q : List Int} {x : Int} (hq : IsB q) (hl : q.length = 4) (hx : 0 ≤ x ∧ x < 4294967296) : leV q = x ↔ q = leB 4 x := by
  have h1 := leV_leB 4 x
  rw [show (2 : Int) ^ (8 * 4) = 4294967296 from rfl, Int.emod_eq_of_lt hx.1 hx.2] at h1
  refine ⟨fun h => lvN_inj _ _ (by rw [hl]; simp) hq (leB_isB 4 x) ?_, fun h => by rw [h, h1]⟩
  have h2 := lvN_leV q hq
  have h3 := lvN_leV (leB 4 x) (leB_isB 4 x)
  omega
theorem rdecode_any (d : Sl) (i : Nat) (w : World) (hd : d.Ok w) (hi : i ≤ d.n) :
    ((mz (d.l.drop i)).1 = 0 ∧ Calls Try.prog 84 #[d.v, .int .i64 i] w fun e w' => e = .returned (.tuple #[fr0, .int .i64 i, .int .i64 (mz (d.l.drop i)).2]) ∧ Below w.heap.size w w') ∨
    (∃ m, mz (d.l.drop i) = (m + 10, 0) ∧ i + m + 10 ≤ d.n ∧ m ≤ 262144 ∧ Calls Try.prog 84 #[d.v, .int .i64 i] w fun e w' => ∃ v, e = .returned (.tuple #[frV (d.l.getD (i + 1) 0) v, .int .i64 (i + m + 10 : Nat), .int .i64 0]) ∧
      w'.ownsRow w.heap.size 5 1 v m (U8 ((d.l.drop (i + 6)).take m)) ∧ Below w.heap.size w w') := by
  obtain ⟨a, n, c, l⟩ := d
  have hlen : l.length = n := hd.len
  have hi' : i ≤ n := hi
  simp only [Sl.v] at hi ⊢
  have hql : (l.drop i).length = n - i := by rw [List.length_drop, hlen]
  have hg0 : (l.drop i).getD 0 0 = l.getD i 0 := by simp [List.getD, List.getElem?_drop]
  have hd2 : (l.drop i).drop 2 = l.drop (i + 2) := by rw [List.drop_drop]
  have hd1 : (l.drop i).drop 1 = l.drop (i + 1) := by rw [List.drop_drop]
  obtain ⟨m, hm⟩ : ∃ m, m = lenL (l.drop i) := ⟨_, rfl⟩
  have hmB := lenL_bd (hd.isB.drop i)
  simp only at hmB
  rw [← hm, hd2] at hmB
  unfold mz
  rw [← hm, hql, hg0, hd1]
  by_cases h0 : n - i = 0
  · rw [if_pos h0]
    exact .inl ⟨rfl, rdec_end a n c i l w hd hi' (by omega)⟩
  rw [if_neg h0]
  obtain ⟨ab, ao, haa, -, -⟩ := hd.lies (by show 0 < l.length; omega)
  have haa' : a = some ⟨ab, ao, none⟩ := haa
  subst haa'
  by_cases h1 : l.getD i 0 = 165
  · rw [if_neg (fun h => h h1)]
    by_cases h2 : n - i < 6
    · rw [if_pos h2]
      exact .inl ⟨rfl, rdec_short _ n c i l w hd hi' (by omega) h1 (by omega)⟩
    rw [if_neg h2]
    by_cases h3 : 262144 < m
    · rw [if_pos h3]
      exact .inl ⟨rfl, rdec_long _ n c i l w hd hi' m (by omega) h1 hmB.1.symm h3⟩
    rw [if_neg h3]
    by_cases h4 : n - i < m + 10
    · rw [if_pos h4]
      exact .inl ⟨rfl, rdec_cut _ n c i l w hd hi' m (by omega) h1 hmB.1.symm (by omega) (by omega)⟩
    rw [if_neg h4, List.drop_drop, show i + (m + 6) = i + 6 + m by omega]
    have hcb := crc_bd ((hd.isB.drop (i + 1)).take (m + 5))
    simp only at hcb
    have hq4 : ((l.drop (i + 6 + m)).take 4).length = 4 := by rw [List.length_take, List.length_drop]; omega
    have hiff := leB_of_leV (q := (l.drop (i + 6 + m)).take 4) ((hd.isB.drop (i + 6 + m)).take 4) hq4 hcb
    by_cases h5 : leV ((l.drop (i + 6 + m)).take 4) = crc ((l.drop (i + 1)).take (m + 5))
    · rw [if_neg (fun h => h h5)]
      exact .inr ⟨m, rfl, by omega, by omega, rdec_ok ab ao n c i m l w hd (by omega) h1 hmB.1.symm (by omega) _ rfl (hiff.1 h5)⟩
    · rw [if_pos h5]
      exact .inl ⟨rfl, rdec_sum ab ao n c i m l w hd (by omega) h1 hmB.1.symm (by omega) _ rfl (fun h => h5 (hiff.2 h))⟩
  · rw [if_pos h1]
    exact .inl ⟨rfl, rdec_mark _ n c i l w hd hi' (by omega) h1⟩
set_option maxHeartbeats 1000000
def dev (p : Nat) : Value := .iface 24 (.pointer (some ⟨p, 0, none⟩))
theorem Try.mApp (a : Addr) (w : World) : (method 276 24 (.pointer (some a)) "Append").run Try.prog w = .ok (105, .pointer (some a)) w := by kernel_rfl
theorem Try.mEra (a : Addr) (w : World) : (method 276 24 (.pointer (some a)) "Erase").run Try.prog w = .ok (107, .pointer (some a)) w := by kernel_rfl
theorem Try.mRea (a : Addr) (w : World) : (method 276 24 (.pointer (some a)) "Read").run Try.prog w = .ok (108, .pointer (some a)) w := by kernel_rfl
theorem Try.mRoo (a : Addr) (w : World) : (method 276 24 (.pointer (some a)) "Room").run Try.prog w = .ok (109, .pointer (some a)) w := by kernel_rfl
def FlS.empty (s : FlS) (bank : Int) : FlS × Int := if s.ref bank ≠ 0 then (s, s.ref bank) else if (s.bk bank).length = 0 then (s, 0) else s.erase bank
def FlS.refill (s : FlS) (bank : Int) (b : List Int) : FlS × Int := if (s.empty bank).2 ≠ 0 then s.empty bank else (s.empty bank).1.append bank b
theorem empty_any (p : Nat) (S : Nat → Prop) (s : FlS) (bank : Int) (w : World) (h : Fl w p S s) (hw : s.wr ≤ 4000000000000000000) :
    Calls Try.prog 30 #[dev p, .int .i64 bank] w (APost p S (s.empty bank) w) := by
  have hR := read_any p S s bank w h
  have hm := Try.mRea
  have hm2 := Try.mEra
  unfold dev
  by_cases hr : s.ref bank = 0
  · by_cases hl : (s.bk bank).length = 0
    · have HP : Hid (s.empty bank = (s, 0)) := hide (by unfold FlS.empty; rw [if_neg (fun h => h hr), if_pos hl])
      rw [unhide HP]
      rw [hr] at hR
      have HRD : Hid ((s.read bank).length = 0) := hide (by unfold FlS.read; rw [if_pos hr]; exact hl)
      have HF := hide h
      clear h hr hl HP
      go_enter Try.func30, Try.ntmps30
      go_wp2_with (go_at_call 108; refine hR.mono ?_; rintro e w1 ⟨v, rfl, h1, h2, h3⟩; clear hR; have h4 := h1.1; rw [unhide HRD] at h4; obtain ⟨va, vc, hv⟩ := own_parts h4; subst hv; clear h1 h2 h4; have HB := hide h3; clear h3)
      go_ret
      exact ⟨rfl, S, (FSt.refl (unhide HF)).then (unhide HB)⟩
    · have HP : Hid (s.empty bank = s.erase bank) := hide (by unfold FlS.empty; rw [if_neg (fun h => h hr), if_neg hl])
      rw [unhide HP]
      rw [hr] at hR
      obtain ⟨n, hn⟩ : ∃ n, n = (s.read bank).length := ⟨_, rfl⟩
      have hnz : n ≠ 0 := by rw [hn]; unfold FlS.read; rw [if_pos hr]; exact hl
      have hnz2 : ((n : Int) == 0) = false := by rw [beq_eq_false_iff_ne]; omega
      have HN := hide hn
      have HF := hide h
      clear h hr hl HP hn hnz
      go_enter Try.func30, Try.ntmps30
      go_wp2_with (first | (go_at_call 107; refine hE.mono ?_; rintro e w2 ⟨rfl, S', k1⟩; clear hE; have HK := hide k1; clear k1) | (go_at_call 108; refine hR.mono ?_; rintro e w1 ⟨v, rfl, h1, h2, h3⟩; clear hR; have h4 := h1.1; rw [← unhide HN] at h4; obtain ⟨va, vc, hv⟩ := own_parts h4; subst hv; clear h1 h2 h4; have HB := hide h3; have hE := erase_any p S s bank w1 ((unhide HF).later h3) hw; clear h3))
      go_ret
      exact ⟨rfl, S', (unhide HK).later (unhide HB)⟩
  · have HP : Hid (s.empty bank = (s, s.ref bank)) := hide (by unfold FlS.empty; rw [if_pos hr])
    rw [unhide HP]
    obtain ⟨r, hrr⟩ : ∃ r, r = s.ref bank := ⟨_, rfl⟩
    rw [← hrr] at hR hr ⊢
    have hr2 : (r == 0) = false := by rw [beq_eq_false_iff_ne]; exact hr
    have hr3 : (r != 0) = true := by rw [bne_iff_ne]; exact hr
    have HF := hide h
    clear h hr HP hrr
    go_enter Try.func30, Try.ntmps30
    go_wp2_with (go_at_call 108; refine hR.mono ?_; rintro e w1 ⟨v, rfl, h1, h2, h3⟩; clear hR; obtain ⟨va, vc, hv⟩ := own_parts h1.1; subst hv; clear h1 h2; have HB := hide h3; clear h3)
    go_ret
    exact ⟨rfl, S, (FSt.refl (unhide HF)).then (unhide HB)⟩
theorem join_big (pa : Option Addr) (pc : Nat) (ps : List Sl) (w : World) (hv : LiesV w pa (ps.map Sl.v)) (hok : ∀ s ∈ ps, s.Ok w)
    (hn : ps.length ≤ 1099511627776) (htot : (cat ps).length ≤ 140737488355328) :
    Calls Try.prog 50 #[.slice pa ps.length pc] w fun e w' => e = .returned (.slice (some ⟨w.heap.size, 0, none⟩) (cat ps).length (cat ps).length) ∧
      w'.ownsRow w.heap.size 5 1 (.slice (some ⟨w.heap.size, 0, none⟩) (cat ps).length (cat ps).length) (cat ps).length (U8 (cat ps)) ∧ Below w.heap.size w w' := by
  obtain ⟨i0, hi, hz0, hz1, hz2⟩ := info_parts Try.infoB
  obtain ⟨T, hT⟩ : ∃ T, T = (cat ps).length := ⟨_, rfl⟩
  have HT := hide hT
  have htot' : T ≤ 140737488355328 := by omega
  rw [← hT]
  have hbs : i0.bytes * T ≤ 281474976710656 := by rw [hz2]; omega
  have hmx : T ≤ maxLen := by unfold maxLen; omega
  clear hT htot
  go_enter Try.func50, Try.ntmps50
  go_wp2
  go_loop [3, 11] (fun t i => ∃ k : Nat, k ≤ ps.length ∧ i = .int .i64 k ∧ t = .int .i64 (cat (ps.take k)).length) (fun _ i => ps.length - (intOf i).toNat)
  case atStart => exact ⟨0, by omega, rfl, by simp [cat]⟩
  case round =>
    obtain ⟨k, hk, rfl, rfl⟩ := hrel
    have hle := cat_take_le ps k
    rw [← unhide HT] at hle
    by_cases hlt : k < ps.length
    · obtain ⟨s, hs⟩ : ∃ s, ps[k]? = some s := ⟨_, List.getElem?_eq_getElem hlt⟩
      have hmem : s ∈ ps := List.mem_of_getElem? hs
      have hso := hok s hmem
      obtain ⟨b, off, rfl, hbl, hc⟩ := hv (by simp; omega)
      have hck := hc k s.v (by simp [hs])
      have hlen := hso.len
      have hcs := cat_take_succ ps k s hs
      have hle2 := cat_take_le ps (k + 1)
      rw [← unhide HT, hcs, List.length_append] at hle2
      have HL := hide hlen
      have HC := hide hcs
      have hsn : (cat (ps.take k)).length + s.n ≤ 140737488355328 := by omega
      obtain ⟨sa, sn, sc, sl⟩ := s
      simp only [Sl.v] at hck hsn
      clear hc hs hmem hso hlen hcs hle2 hok hv
      generalize hq : (cat (ps.take k)).length = q at *
      have HQ := hide hq
      clear hq
      go_wp2
      go_round
      case rel => exact ⟨k + 1, by omega, by go_num, by rw [unhide HC, List.length_append, unhide HL, unhide HQ]; go_num⟩
      case measure => simp [intOf]; omega
    · have hkk : k = ps.length := by omega
      subst hkk
      rw [List.take_length, ← unhide HT]
      go_wp2_with (at_make; refine wpList_make_own _ rfl _ _ 22 rfl w.heap.size 5 i0 (.int .u8 0) 1 Try.underlying22 hi hz0 hz1 .i64 .i64 T T rfl rfl rfl hbs hmx (Nat.le_refl _) ?_)
      intro w1 hown hgrow
      have hb1 : Below w.heap.size w w1 := (Below.refl _ _).grown hgrow (Nat.le_refl _) (fun _ h => by cases h)
      clear hgrow
      go_wp2
      go_loopw [6, 24] (fun j i wr => ∃ k : Nat, k ≤ ps.length ∧ i = .int .i64 k ∧ j = .slice (some ⟨w.heap.size, 0, none⟩) (cat (ps.take k)).length T ∧
          wr.ownsRow w.heap.size 5 1 (.slice (some ⟨w.heap.size, 0, none⟩) (cat (ps.take k)).length T) (cat (ps.take k)).length (U8 (cat (ps.take k))) ∧ Below w.heap.size w wr)
        (fun _ i _ => ps.length - (intOf i).toNat)
      case atStart => exact ⟨0, by omega, rfl, by simp [cat], hown, hb1⟩
      case round =>
        obtain ⟨k, hk, rfl, rfl, hown, hbl⟩ := hrel
        by_cases hlt : k < ps.length
        · obtain ⟨s, hs⟩ : ∃ s, ps[k]? = some s := ⟨_, List.getElem?_eq_getElem hlt⟩
          have hmem : s ∈ ps := List.mem_of_getElem? hs
          have hso := (hok s hmem).later hbl
          obtain ⟨b, off, rfl, hbw, hc⟩ := hv.later hbl (by simp; omega)
          have hck := hc k s.v (by simp [hs])
          have hlen := hso.len
          have hcs := cat_take_succ ps k s hs
          have hle2 := cat_take_le ps (k + 1)
          rw [← unhide HT, hcs, List.length_append] at hle2
          have HC := hide hcs
          have HL := hide hlen
          have HSO := hide hso
          have HS := hide hs
          have hle3 : (cat (ps.take k)).length + s.n ≤ T := by omega
          obtain ⟨sa, sn, sc, sl⟩ := s
          simp only [Sl.v] at hck
          clear hc hs hmem hso hlen hcs hle2 hok hv
          go_wp2_with (at_builtin; refine wpList_append_fits_any _ rfl _ _ 22 rfl w.heap.size 5 i0 1 Try.underlying22 hi hz1 w.heap.size (cat (ps.take k)).length T (U8 (cat (ps.take k))) rfl hown sa sn sc (U8 sl) rfl (by have := unhide HL; simpa using this) (unhide HSO).nn (unhide HSO).cells (U8_one _) hle3 ?_)
          intro w2 hown2 hgrow2
          have hb2 : Below w.heap.size w w2 := hbl.grown hgrow2 hbl.size (fun _ h => by cases h; exact Nat.le_refl _)
          clear hgrow2 hown hck
          go_wp2
          go_roundw
          case rel =>
            have hl := unhide HL
            have hc := unhide HC
            have e1 : (cat (ps.take (k + 1))).length = (cat (ps.take k)).length + sn := by rw [hc, List.length_append]; omega
            have e2 : U8 (cat (ps.take (k + 1))) = U8 (cat (ps.take k)) ++ U8 sl := by rw [hc]; simp [U8]
            exact ⟨k + 1, by omega, by go_num, by rw [e1], by rw [e1, e2]; exact hown2, hb2⟩
          case measure => simp [intOf]; omega
        · have hkk : k = ps.length := by omega
          subst hkk
          rw [List.take_length, ← unhide HT] at hown
          go_wp2
          go_ret
          rw [List.take_length, ← unhide HT]
          exact ⟨rfl, hown, hbl⟩
theorem joinb_two (pa : Option Addr) (pc : Nat) (s t : Sl) (w : World) (J : List Int) (jn : Nat) (hs : s.Ok w) (ht : t.Ok w) (hJ : Hid (s.l ++ t.l = J)) (hj : Hid (J.length = jn)) (hv : LiesV w pa [s.v, t.v]) (hn : jn ≤ 140737488355328) :
    Calls Try.prog 50 #[.slice pa 2 pc] w fun e w' => e = .returned (.slice (some ⟨w.heap.size, 0, none⟩) jn jn) ∧
      w'.ownsRow w.heap.size 5 1 (.slice (some ⟨w.heap.size, 0, none⟩) jn jn) jn (U8 J) ∧ Below w.heap.size w w' := by
  have hc : cat [s, t] = J := by rw [← unhide hJ]; simp [cat]
  have h := join_big pa pc [s, t] w hv (by intro x hx; simp at hx; rcases hx with rfl | rfl <;> assumption) (by simp) (by rw [hc, unhide hj]; exact hn)
  rw [hc, unhide hj] at h
  exact h
theorem joinb_three (pa : Option Addr) (pc : Nat) (s t u : Sl) (w : World) (J : List Int) (jn : Nat) (hs : s.Ok w) (ht : t.Ok w) (hu : u.Ok w) (hJ : Hid (s.l ++ (t.l ++ u.l) = J)) (hj : Hid (J.length = jn)) (hv : LiesV w pa [s.v, t.v, u.v]) (hn : jn ≤ 140737488355328) :
    Calls Try.prog 50 #[.slice pa 3 pc] w fun e w' => e = .returned (.slice (some ⟨w.heap.size, 0, none⟩) jn jn) ∧
      w'.ownsRow w.heap.size 5 1 (.slice (some ⟨w.heap.size, 0, none⟩) jn jn) jn (U8 J) ∧ Below w.heap.size w w' := by
  have hc : cat [s, t, u] = J := by rw [← unhide hJ]; simp [cat]
  have h := join_big pa pc [s, t, u] w hv (by intro x hx; simp at hx; rcases hx with rfl | rfl | rfl <;> assumption) (by simp) (by rw [hc, unhide hj]; exact hn)
  rw [hc, unhide hj] at h
  exact h
end Go.Proofs.Ytppmgfkpfamabaa
