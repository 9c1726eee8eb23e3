import Derived.Test.YtbjbfggbdolpcabDoorAppG
import Derived.Test.YtbjbfggbdolpcabDoorPadM5
namespace Go.Proofs.YtbjbfggbdolpcabDoor.S5
open Go.RowKit

theorem be_at (x : Int) (k : Nat) (h : k < 8) : (leB 8 x).reverse.getD k 0 = x / 2 ^ (56 - 8 * k) % 256 := by
  match k, h with
  | 0, _ => rfl
  | 1, _ => rfl
  | 2, _ => rfl
  | 3, _ => rfl
  | 4, _ => rfl
  | 5, _ => rfl
  | 6, _ => rfl
  | 7, _ => rfl

set_option maxHeartbeats 1000000 in
set_option maxRecDepth 10000 in
theorem tell_any (x : Int) (w : World) (hx : 0 ≤ x) :
    Calls Tryd.prog 24 #[.int .u64 x] w fun e w' => ∃ v, e = .returned v ∧ w'.ownsRow w.heap.size 5 1 v 8 (U8 (leB 8 x).reverse) ∧ Below w.heap.size w w' := by
  obtain ⟨i0, hi, hz0, hz1, hz2⟩ := info_parts Tryd.infoB
  go_enter Tryd.func24, Tryd.ntmps24
  go_wp2_with fail
  have HX := hide hx
  clear hx
  go_loopw [3, 4] (fun v i wr => ∃ k : Nat, k ≤ 8 ∧ i = .int .i64 k ∧ wr.ownsRow w.heap.size 5 1 v k (U8 ((leB 8 x).reverse.take k)) ∧ Below w.heap.size w wr) (fun _ i _ => 8 - (intOf i).toNat)
  case atStart => exact ⟨0, by omega, rfl, World.ownsRow_nil _ _ _ _, Below.refl _ _⟩
  case round =>
    obtain ⟨k, hk, rfl, hown, hbl⟩ := hrel
    by_cases hlt : k < 8
    · have htk := take_snoc (leB 8 x).reverse k (by simpa using hlt)
      rw [be_at x k hlt] at htk
      obtain ⟨sh, hsh⟩ : ∃ sh, sh = 56 - 8 * k := ⟨_, rfl⟩
      have hs1 : (56 : Int) - 8 * (k : Int) = (sh : Int) := by omega
      rw [← hsh] at htk
      have HTK := hide htk
      have hs2 : sh ≤ 56 := by omega
      have hx0 := unhide HX
      clear htk hsh
      go_wp2_with (at_builtin; refine wpList_append_own _ rfl _ _ 23 rfl w.heap.size 5 i0 (.int .u8 0) 1 1 Tryd.underlying23 hi hz0 hz1 hz2 rfl (by decide) _ k (U8 ((leB 8 x).reverse.take k)) rfl (hown.alloc _) ⟨wr.heap.size, 0, none⟩ 1 1 [.int .u8 (x / 2 ^ sh % 256)] rfl rfl (cell_one_new _ _ _) (one_byte _) (by unfold maxLen; omega) (by omega) (by have := hbl.size; simp; omega) ?_)
      intro v1 w1 hown1 hgrow1 _
      have hb1 := below_app hbl (Nat.le_refl _) hown hgrow1
      rw [U8_snoc2, ← unhide HTK] at hown1
      clear hgrow1 hown hbl
      go_wp2
      go_roundw
      case rel => exact ⟨k + 1, by omega, by go_num, hown1, hb1⟩
      case measure => simp [intOf]; omega
    · have e8 : k = 8 := by omega
      subst e8
      go_wp2
      go_ret
      refine ⟨_, rfl, ?_, hbl⟩
      rwa [List.take_of_length_le (by simp)] at hown

set_option maxHeartbeats 2000000 in
set_option maxRecDepth 10000 in
theorem refPad_any (n : Nat) (w : World) (hn : n < 18446744073709551616) :
    Calls Tryd.prog 22 #[.int .u64 n] w fun e w' => ∃ v, e = .returned v ∧ w'.ownsRow w.heap.size 5 1 v (padLen n) (U8 (padZ n)) ∧ Below w.heap.size w w' := by
  obtain ⟨i0, hi, hz0, hz1, hz2⟩ := info_parts Tryd.infoB
  have hzc : (Value.int .u8 0).cells.size = 1 := rfl
  have hpl := padLen_bd n
  have hpm := padLen_mod n
  obtain ⟨u, hu⟩ : ∃ u : Nat, (n : Int) % 128 = u := ⟨n % 128, by omega⟩
  have hu64 : u < 128 := by omega
  obtain ⟨K, hK⟩ : ∃ K, padLen n = K + 17 := ⟨padLen n - 17, by omega⟩
  have hKb : K ≤ 127 := by omega
  have hKm : (u + K + 17) % 128 = 0 := by omega
  have HK := hide hK
  have HKM := hide hKm
  have HN := hide hn
  clear hpl hpm hK hKm hn
  obtain ⟨W, hW, hA, hbW, -⟩ := arr1 w 5 (U8 [128])
  have hown : W.ownsRow w.heap.size 5 1 (.slice (some ⟨w.heap.size, 0, none⟩) 1 1) 1 (U8 [128]) := ⟨rfl, .inr ⟨w.heap.size, 1, _, rfl, Nat.le_refl _, hA, Nat.le_refl _, by unfold maxLen; omega, rfl, rfl⟩⟩
  have HW := hide hW
  clear hW hA
  go_enter Tryd.func22, Tryd.ntmps22
  go_wp2_with fail
  rw [show (#[Value.int .u8 128] : Array Value) = (U8 [128]).toArray from rfl, ← unhide HW, hu]
  go_loopw [3] (fun v wr => ∃ k : Nat, k ≤ K ∧ wr.ownsRow w.heap.size 5 1 v (k + 1) (U8 (128 :: List.replicate k 0)) ∧ Below w.heap.size w wr) (fun v _ => 200 - slLen v)
  case atStart => exact ⟨0, by omega, hown, hbW⟩
  case round =>
    clear hown hbW
    obtain ⟨k, hk, hown, hbl⟩ := hrel
    have hisB : IsB (128 :: List.replicate k 0) := by
      intro x hx
      rcases List.mem_cons.1 hx with rfl | h
      · omega
      · have := List.eq_of_mem_replicate h; omega
    obtain ⟨s, hs, -, -, hsn, -⟩ := own_sl hown hisB
    obtain ⟨sa, sn, sc, sl⟩ := s
    have hsn' : sn = k + 1 := hsn
    simp only [Sl.v] at hs
    subst hs
    subst hsn'
    by_cases hlt : k < K
    · have hm : ((u : Int) + ((k : Int) + 1) + 16) % 128 ≠ 0 := by have := unhide HKM; omega
      have hmb : (((u : Int) + ((k : Int) + 1) + 16) % 128 != 0) = true := by simpa using hm
      go_wp2_with (at_builtin; refine wpList_append_own _ rfl _ _ 23 rfl w.heap.size 5 i0 (.int .u8 0) 1 1 Tryd.underlying23 hi hz0 hz1 hz2 rfl (by decide) _ (k + 1) (U8 (128 :: List.replicate k 0)) rfl (hown.alloc _) ⟨wr.heap.size, 0, none⟩ 1 1 [.int .u8 0] rfl rfl (cell_one_new _ _ _) (one_byte _) (by unfold maxLen; omega) (by omega) (by have := hbl.size; simp; omega) ?_)
      intro v1 w1 hown1 hgrow1 _
      have hb1 := below_app hbl (Nat.le_refl _) hown hgrow1
      rw [U8_snoc2, List.cons_append, ← List.replicate_succ'] at hown1
      have hl1 := own_slLen hown1
      clear hgrow1 hown hbl
      go_wp2
      go_roundw
      case rel => exact ⟨k + 1, by omega, hown1, hb1⟩
      case measure =>
        show 200 - slLen v1 < 200 - slLen (Value.slice sa (k + 1) sc)
        rw [hl1]
        show 200 - (k + 1 + 1) < 200 - (k + 1)
        omega
    · have hkK : k = K := by omega
      subst hkK
      have hm : ((u : Int) + ((k : Int) + 1) + 16) % 128 = 0 := by have := unhide HKM; omega
      have hmb : (((u : Int) + ((k : Int) + 1) + 16) % 128 != 0) = false := by simpa using hm
      go_wp2_with fail
      have hq0 : (0 : Int) ≤ (n : Int) / 2305843009213693952 := by omega
      have ew : IntKind.u64.wrap ((n : Int) / 2305843009213693952) = (n : Int) / 2305843009213693952 := by rw [IntKind.wrap_u64]; have := unhide HN; omega
      rw [ew]
      refine (tell_any _ _ hq0).mono ?_
      rintro e w1 ⟨t1, rfl, own1, hb1⟩
      have eHi : (leB 8 ((n : Int) / 2305843009213693952)).reverse = padHi n := by unfold padHi; congr 2; have := unhide HN; omega
      rw [eHi] at own1
      have hownA : w1.ownsRow w.heap.size 5 1 (.slice sa (k + 1) sc) (k + 1) (U8 (128 :: List.replicate k 0)) := own_later hown hb1
      have hbl1 : Below w.heap.size w w1 := hbl.trans (hb1.mono hbl.size)
      obtain ⟨d1, rfl, ok1, hd1, hn1, -⟩ := own_sl own1 (show IsB (padHi n) from fun x hx => leB_isB 8 _ x (List.mem_reverse.1 hx))
      have HA := hide hownA
      have OK1 := hide ok1
      have hn1' : d1.n = 8 := hn1
      obtain ⟨da, dn, dc, dl⟩ := d1
      have hdl : dl = padHi n := hd1
      have hn1'' : dn = 8 := hn1'
      have hs1 := hbl1.size
      clear ew hm hmb eHi own1 hownA hown hbl hb1 hd1 hn1 hn1' ok1 hq0
      subst hn1''
      simp only [Sl.v]
      go_wp2_with (at_builtin
                   refine wpList_append_sl rfl _ _ 23 rfl w.heap.size 5 i0 (.int .u8 0) Tryd.underlying23 hi hz0 hz1 hz2 hzc _ (k + 1) (U8 (128 :: List.replicate k 0)) rfl (unhide HA) ⟨da, 8, dc, dl⟩ (unhide OK1) rfl (by show k + 1 + 8 ≤ _; omega) hs1 ?_
                   intro v2 w2 own2 gr2)
      have hb2 : Below w.heap.size w w2 := below_grown hbl1 (Nat.le_refl _) (unhide HA) (unhide gr2)
      have own2' := unhide own2
      clear gr2 own2 HA OK1 hbl1
      have ew : IntKind.u64.wrap ((n : Int) * 8) = 8 * (n : Int) % 18446744073709551616 := by rw [IntKind.wrap_u64, Int.mul_comm]
      have hw0 : 0 ≤ IntKind.u64.wrap ((n : Int) * 8) := by rw [ew]; omega
      refine (tell_any _ _ hw0).mono ?_
      rintro e w3 ⟨t3, rfl, own3, hb3⟩
      rw [ew] at own3
      have eLo : (leB 8 (8 * (n : Int) % 18446744073709551616)).reverse = padLo n := rfl
      rw [eLo] at own3
      have hownA : w3.ownsRow w.heap.size 5 1 v2 (k + 1 + 8) (U8 (128 :: List.replicate k 0) ++ U8 dl) := own_later own2' hb3
      have hbl3 : Below w.heap.size w w3 := hb2.trans (hb3.mono hb2.size)
      obtain ⟨d3, rfl, ok3, hd3, hn3, -⟩ := own_sl own3 (show IsB (padLo n) from fun x hx => leB_isB 8 _ x (List.mem_reverse.1 hx))
      have HA := hide hownA
      have OK3 := hide ok3
      have hn3' : d3.n = 8 := hn3
      obtain ⟨ea, en, ec, el⟩ := d3
      have hel : el = padLo n := hd3
      have hn3'' : en = 8 := hn3'
      have hs3 := hbl3.size
      have HDL := hide hdl
      have HEL := hide hel
      clear ew hw0 eLo own3 hownA own2' hb2 hb3 hd3 hn3 hn3' ok3 hdl hel
      subst hn3''
      simp only [Sl.v]
      go_wp2_with (at_builtin
                   refine wpList_append_sl rfl _ _ 23 rfl w.heap.size 5 i0 (.int .u8 0) Tryd.underlying23 hi hz0 hz1 hz2 hzc _ (k + 1 + 8) (U8 (128 :: List.replicate k 0) ++ U8 dl) rfl (unhide HA) ⟨ea, 8, ec, el⟩ (unhide OK3) rfl (by show k + 1 + 8 + 8 ≤ _; omega) hs3 ?_
                   intro v4 w4 own4 gr4)
      have hb4 : Below w.heap.size w w4 := below_grown hbl3 (Nat.le_refl _) (unhide HA) (unhide gr4)
      have own4' := unhide own4
      go_ret
      refine ⟨_, rfl, ?_, hb4⟩
      have hKK := unhide HK
      have e : U8 (128 :: List.replicate k 0) ++ U8 dl ++ U8 el = U8 (padZ n) := by
        rw [← U8_append, ← U8_append, unhide HDL, unhide HEL]
        unfold padZ padB; rw [hKK, show k + 17 - 17 = k by omega]
        simp
      have e2 : k + 1 + 8 + 8 = padLen n := by omega
      have h4 : w4.ownsRow w.heap.size 5 1 v4 (k + 1 + 8 + 8) (U8 (128 :: List.replicate k 0) ++ U8 dl ++ U8 el) := own4'
      rwa [e, e2] at h4
end Go.Proofs.YtbjbfggbdolpcabDoor.S5
