import Derived.Test.YtkkcjjjeckhbcaaRefPadP
import Derived.Deep.QuietTactic
import Derived.BigQuiet
namespace Go.Proofs.Ytkkcjjjeckhbcaa
open Go.RowKit

set_option maxHeartbeats 2000000 in
theorem same2_any (a b : Sl) (w : World) (ha : a.Ok w) (hb : b.Ok w) (hl : a.l = b.l) (hn : a.n ≤ 1099511627776) :
    Calls Try.prog 6 #[a.v, b.v] w fun e w' => e = .returned (.bool true) ∧ ∃ k, w' = w.drewN k := by
  obtain ⟨aa, an, ac, al⟩ := a
  obtain ⟨ba, bn, bc, bl⟩ := b
  have hl' : al = bl := hl
  have ha1 : al.length = an := ha.len
  have hb1 : bl.length = bn := hb.len
  have hn' : an ≤ 1099511627776 := hn
  obtain rfl : an = bn := by rw [← ha1, ← hb1, hl']
  subst hl'
  have HA := hide ha
  have HB := hide hb
  have HL := hide ha1
  clear ha hb hl ha1 hb1 hn
  simp only [Sl.v]
  go_enter Try.func6, Try.ntmps6
  go_wp2_with fail
  go_loopw [5] (fun i wr => ∃ k : Nat, k ≤ an ∧ i = .int .i64 k ∧ ∃ m, wr = w.drewN m) (fun i _ => an - (intOf i).toNat)
  case atStart => exact ⟨0, by omega, rfl, 0, rfl⟩
  case round =>
    obtain ⟨k, hk, rfl, m, hwr0⟩ := hrel
    have hwr := hide hwr0
    clear hwr0
    by_cases hlt : k < an
    · obtain ⟨ab, ao, haa, -, hac⟩ := (unhide HA).lies (by show 0 < al.length; rw [unhide HL]; omega)
      obtain ⟨bb, bo, hba, -, hbc⟩ := (unhide HB).lies (by show 0 < al.length; rw [unhide HL]; omega)
      have haa' : aa = some ⟨ab, ao, none⟩ := haa
      have hba' : ba = some ⟨bb, bo, none⟩ := hba
      subst haa' hba'
      have ca : wr.cell? ⟨ab, ao + k, none⟩ = some (.int .u8 (al.getD k 0)) := by rw [unhide hwr]; exact hac k (by show k < al.length; rw [unhide HL]; omega)
      have cb : wr.cell? ⟨bb, bo + k, none⟩ = some (.int .u8 (al.getD k 0)) := by rw [unhide hwr]; exact hbc k (by show k < al.length; rw [unhide HL]; omega)
      generalize al.getD k 0 = x at ca cb
      have hkz : (k : Int) < (an : Int) := by omega
      clear haa hba hac hbc
      go_wp2_with fail
      go_quiet (fail)
      go_wp2
      go_roundw
      case rel => exact ⟨k + 1, by omega, by go_num, _, by rw [unhide hwr]; exact World.drewN_drewN _ _ _⟩
      case measure => simp [intOf]; omega
    · have hkd : decide ((k : Int) < (an : Int)) = false := by simp; omega
      go_wp2
      go_ret
      exact ⟨rfl, m, unhide hwr⟩

theorem own_ne {w : World} {base e n g : Nat} {v : Value} {l : List Int} {y : Int} (h : w.ownsRow base e 1 v n (U8 l)) (hl : 0 < n) (hc : w.cell? ⟨g, 0, none⟩ = some (.int .u8 y)) (hxy : l.getD 0 0 ≠ y) : v.ownBlock ≠ some g := by
  intro hv
  have hn : l.length = n := by have := h.1; simpa using this
  rcases h.2 with ⟨rfl, h0⟩ | ⟨g', cap, cur, rfl, h1⟩
  · omega
  · simp only [Value.ownBlock, Option.some.injEq] at hv
    subst hv
    have hrow : w.ownsRow base e 1 (.slice (some ⟨g', 0, none⟩) n cap) n (U8 l) := ⟨h.1, .inr ⟨g', cap, cur, rfl, h1⟩⟩
    have h2 := (hrow.cellAt 0 (by omega)).trans (U8_at l 0 (by omega))
    rw [hc] at h2
    simp only [Option.some.injEq, Value.int.injEq, true_and] at h2
    exact hxy h2.symm
theorem grown_arr {w w' : World} {g : Nat} {row : Option Nat} {ty : TypeId} {l : List Value} (h : Arr w g ty l) (hg : w.grownBy w' row) (hne : row ≠ some g) : Arr w' g ty l := (hg.block g h.lt (fun e => hne e.symm)).trans h
theorem grown_ok {w w' : World} {row : Option Nat} {s : Sl} {b o : Nat} (h : s.Ok w) (ha : s.a = some ⟨b, o, none⟩) (hlt : b < w.heap.size) (hg : w.grownBy w' row) (hne : row ≠ some b) : s.Ok w' := by
  refine ⟨h.len, h.le, h.mx, h.nn, h.isB, fun hp => ?_⟩
  obtain ⟨b', o', ha', hlt', hc⟩ := h.lies hp
  rw [ha] at ha'
  simp at ha'
  obtain ⟨rfl, rfl⟩ := ha'
  exact ⟨b, o, ha, Nat.lt_of_lt_of_le hlt hg.size, fun i hi => (World.cell?_of_block (a := ⟨b, o + i, none⟩) (hg.block b hlt (fun e => hne e.symm))).trans (hc i hi)⟩
theorem ok_far {w : World} {s : Sl} {b o g : Nat} (h : s.Ok w) (ha : s.a = some ⟨b, o, none⟩) (hne : b ≠ g) (i : Nat) (v : Value) : s.Ok (w.setCell ⟨g, i, none⟩ v) := by
  refine ⟨h.len, h.le, h.mx, h.nn, h.isB, fun hp => ?_⟩
  obtain ⟨b', o', ha', hlt', hc⟩ := h.lies hp
  rw [ha] at ha'
  simp at ha'
  obtain ⟨rfl, rfl⟩ := ha'
  exact ⟨b, o, ha, by simpa using hlt', fun k hk => (World.cell?_of_block (a := ⟨b, o + k, none⟩) (heap_setCell_other w ⟨g, i, none⟩ b v hne)).trans (hc k hk)⟩
def over (l : List Int) (j : Nat) : List Int := List.replicate j 51 ++ l.drop j
theorem over_set (l : List Int) (j : Nat) (h : j < l.length) : (over l j).set j 51 = over l (j + 1) := by
  unfold over
  obtain ⟨x, r, hx⟩ : ∃ x r, l.drop j = x :: r := by
    cases hd : l.drop j with
    | nil => have := congrArg List.length hd; simp at this; omega
    | cons x r => exact ⟨x, r, rfl⟩
  have hr : l.drop (j + 1) = r := by rw [← List.drop_drop, hx]; rfl
  rw [List.set_append_right _ _ (by simp), List.length_replicate, Nat.sub_self, hx, List.set_cons_zero, hr, List.replicate_succ']
  simp
theorem over_length (l : List Int) (j : Nat) (h : j ≤ l.length) : (over l j).length = l.length := by simp [over]; omega

set_option maxHeartbeats 4000000 in
set_option maxRecDepth 100000 in
theorem pads_any (n : Nat) (w : World) :
    Calls Try.prog 3 #[.int .u64 n] w fun e w' => e = .returned (.bool true) ∧ Below w.heap.size w w' := by
  obtain ⟨i0, hi, hz0, hz1, hz2⟩ := info_parts Try.infoB
  have hpl := padLen_bd n
  have hpz := padZ_length n
  have hpB := padZ_isB n
  obtain ⟨L, hL⟩ : ∃ L, L = padLen n := ⟨_, rfl⟩
  obtain ⟨Z, hZ⟩ : ∃ Z, Z = padZ n := ⟨_, rfl⟩
  have hZ0 : Z.getD 0 0 = 128 := by rw [hZ]; rfl
  have C1 := fun w => pad_any n w
  have C2 := fun w => refPad_any n w
  rw [← hL] at hpl hpz
  rw [← hZ] at hpz hpB
  simp only [← hL, ← hZ] at C1 C2
  obtain ⟨hL9, hL72⟩ := hpl
  have HZ0 := hide hZ0
  have HPZ := hide hpz
  have C1 := hide C1
  have C2 := hide C2
  clear hL hZ hZ0 hpz
  go_enter Try.func3, Try.ntmps3
  go_wp2_with fail
  refine (unhide C1 w).mono ?_
  rintro e w1 ⟨rfl, hA1, hb1⟩
  go_wp2_with fail
  refine (unhide C1 w1).mono ?_
  rintro e w2 ⟨rfl, hA2, hb2⟩
  have hA12 := hA1.later hb2
  have g12 : w.heap.size < w1.heap.size := hA1.lt
  have g22 : w1.heap.size < w2.heap.size := hA2.lt
  have hbW2 : Below w.heap.size w w2 := hb1.trans (hb2.mono hb1.size)
  clear hA1 hb1 hb2
  go_wp2_with fail
  refine (unhide C2 w2).mono ?_
  rintro e w3 ⟨vw, rfl, hownw, hb3⟩
  have hA13 := hA12.later hb3
  have hA23 := hA2.later hb3
  have hbW3 : Below w.heap.size w w3 := hbW2.trans (hb3.mono hbW2.size)
  obtain ⟨sw, rfl, okw, hwl, hwn, hwb⟩ := own_sl hownw hpB
  obtain ⟨wa, wn, wc, wl⟩ := sw
  have hwl' : wl = Z := hwl
  have hwn' : wn = L := hwn
  subst hwl' hwn'
  obtain ⟨gw, ow, hwa, hgwlt, -⟩ := okw.lies (by show 0 < wl.length; rw [unhide HPZ]; omega)
  have hwa' : wa = some ⟨gw, ow, none⟩ := hwa
  subst hwa'
  have hgw2 : w2.heap.size ≤ gw := hwb _ rfl
  have how0 : ow = 0 := by
    rcases hownw.2 with ⟨hv, -⟩ | ⟨g', cap, cur, hv, -⟩
    · simp [Sl.v] at hv
    · simp only [Sl.v, Value.slice.injEq, Option.some.injEq, Addr.mk.injEq] at hv; exact hv.1.2.1
  subst how0
  have g23 : w1.heap.size < w3.heap.size := hA23.lt
  generalize hg1 : w.heap.size = g1 at *
  generalize hg2 : w1.heap.size = g2 at *
  have HG1 := hide hg1
  have hok1 : Sl.Ok w3 ⟨some ⟨g1, 0, none⟩, wn, wn, wl⟩ := ⟨unhide HPZ, Nat.le_refl _, by show wn ≤ maxLen; unfold maxLen; omega, (fun h => by cases h), hpB, hA13.lies⟩
  have hok2 : Sl.Ok w3 ⟨some ⟨g2, 0, none⟩, wn, wn, wl⟩ := ⟨unhide HPZ, Nat.le_refl _, by show wn ≤ maxLen; unfold maxLen; omega, (fun h => by cases h), hpB, hA23.lies⟩
  clear hg1 hg2 hb3 hbW2 hA12 hA2 hownw hwl hwn hwb hwa
  simp only [Sl.v]
  go_wp2_with fail
  refine (same2_any ⟨some ⟨g1, 0, none⟩, wn, wn, wl⟩ ⟨some ⟨gw, 0, none⟩, wn, wc, wl⟩ w3 hok1 okw rfl (by show wn ≤ _; omega)).mono ?_
  rintro e w4 ⟨rfl, q4, hw4⟩
  have hb4 : Below w3.heap.size w3 w4 := by rw [hw4]; exact below_drewN (Below.refl _ _) _
  have ok24 := hok2.later hb4
  have okw4 := okw.later hb4
  have hA14 := hA13.later hb4
  have hA24 := hA23.later hb4
  have hb44 : Below g1 w w4 := hbW3.trans (hb4.mono (by omega))
  have hgw4 : gw < w4.heap.size := Nat.lt_of_lt_of_le hgwlt hb4.size
  clear hw4 hb4 hok1 hok2 okw hA13 hA23 hbW3 hgwlt
  go_wp2_with fail
  refine (same2_any ⟨some ⟨g2, 0, none⟩, wn, wn, wl⟩ ⟨some ⟨gw, 0, none⟩, wn, wc, wl⟩ w4 ok24 okw4 rfl (by show wn ≤ _; omega)).mono ?_
  rintro e w5 ⟨rfl, q5, hw5⟩
  have hb5 : Below w4.heap.size w4 w5 := by rw [hw5]; exact below_drewN (Below.refl _ _) _
  have okw5 := okw4.later hb5
  have hA15 := hA14.later hb5
  have hA25 := hA24.later hb5
  have hb55 : Below g1 w w5 := hb44.trans (hb5.mono (by omega))
  have hgw5 : gw < w5.heap.size := Nat.lt_of_lt_of_le hgw4 hb5.size
  clear hw5 hb5 ok24 okw4 hA14 hA24 hb44 hgw4
  go_wp2_with fail
  have HPB := hide hpB
  go_loopw [6] (fun i wr => ∃ j : Nat, j ≤ wn ∧ i = .int .i64 j ∧ Arr wr g1 5 (U8 (over wl j)) ∧ Arr wr g2 5 (U8 wl) ∧ Sl.Ok wr ⟨some ⟨gw, 0, none⟩, wn, wc, wl⟩ ∧ Below g1 w wr ∧ gw < wr.heap.size) (fun i _ => wn - (intOf i).toNat)
  case atStart => exact ⟨0, by omega, rfl, by unfold over; simpa using hA15, hA25, okw5, hb55, hgw5⟩
  case round =>
    clear hA15 hA25 okw5 hb55 hgw5
    obtain ⟨j, hj, rfl, hA, hA2, okw, hb, hgw⟩ := hrel
    have hwl : wl.length = wn := unhide HPZ
    by_cases hlt : j < wn
    · have cj := hA.cell8 j (by rw [over_length _ _ (by omega)]; omega)
      have fj := hA.frozen j
      generalize (over wl j).getD j 0 = xj at cj
      have hjz : (j : Int) < (wn : Int) := by omega
      clear hwl
      go_wp2
      go_roundw
      case rel =>
        refine ⟨j + 1, by omega, by go_num, ?_, hA2.other _ (by show g2 ≠ g1; omega), ok_far okw rfl (by omega) _ _, hb.setCell (by show g1 ≤ g1; omega) _, by simpa using hgw⟩
        rw [← over_set wl j (by rw [unhide HPZ]; exact hlt)]
        exact hA.set8 j 51
      case measure => simp [intOf]; omega
    · have hjn : j = wn := by omega
      have hA' : Arr wr g1 5 (U8 (List.replicate wn 51)) := by
        rw [hjn] at hA; unfold over at hA; rw [List.drop_eq_nil_of_le (by omega), List.append_nil] at hA; exact hA
      have hown : wr.ownsRow g1 5 1 (.slice (some ⟨g1, 0, none⟩) wn wn) wn (U8 (List.replicate wn 51)) := ⟨by simp, .inr ⟨g1, wn, _, rfl, Nat.le_refl _, hA', Nat.le_refl _, by unfold maxLen; omega, by simp, by rw [Nat.mul_one, List.take_of_length_le (by simp)]⟩⟩
      have hjd : decide ((j : Int) < (wn : Int)) = false := by simp; omega
      have h2c : wr.cell? ⟨g2, 0, none⟩ = some (.int .u8 128) := by rw [hA2.cell8 0 (by omega), unhide HZ0]
      clear hjn hA hA' hwl h2c
      go_wp2_with fail
      go_loopw [7, 8] (fun v i wr => ∃ k : Nat, k ≤ 100 ∧ i = .int .i64 k ∧ wr.ownsRow g1 5 1 v (wn + k) (U8 (List.replicate wn 51 ++ List.replicate k 68)) ∧ Arr wr g2 5 (U8 wl) ∧ Sl.Ok wr ⟨some ⟨gw, 0, none⟩, wn, wc, wl⟩ ∧ Below g1 w wr ∧ gw < wr.heap.size) (fun _ i _ => 100 - (intOf i).toNat)
      case atStart => exact ⟨0, by omega, rfl, by simpa using hown, hA2, okw, hb, hgw⟩
      case round =>
        clear hown hA2 okw hb hgw
        obtain ⟨k, hk, rfl, hown, hA2, okw, hb, hgw⟩ := hrel
        have hg1 : w.heap.size = g1 := unhide HG1
        have hsz := hb.size
        have hwl : wl.length = wn := unhide HPZ
        have hf0 : (List.replicate wn (51 : Int) ++ List.replicate k 68).getD 0 0 ≠ 128 := by
          obtain ⟨q, hq⟩ : ∃ q, wn = q + 1 := ⟨wn - 1, by omega⟩
          rw [hq, List.replicate_succ]; simp
        have ne2 := own_ne hown (by omega) (by rw [hA2.cell8 0 (by omega), unhide HZ0]) hf0
        have new := own_ne hown (by omega) (by obtain ⟨b', o', he, -, hc⟩ := okw.lies (by show 0 < wl.length; omega); simp at he; obtain ⟨rfl, rfl⟩ := he; have h0 := hc 0 (by show 0 < wl.length; omega); exact h0.trans (by rw [show (Sl.mk (some ⟨gw, 0, none⟩) wn wc wl).l = wl from rfl, unhide HZ0])) hf0
        have hlen := own_slLen hown
        have HG := hide hg1
        have NE2 := hide ne2
        have NEW := hide new
        clear hf0 hg1 ne2 new hwl
        by_cases hlt : k < 100
        · have HA2 := hide hA2
          have OKW := hide okw
          have hgs : g1 ≤ wr.heap.size := by have := unhide HG; omega
          clear hA2 okw
          go_wp2_with (at_builtin; refine wpList_append_own _ rfl _ _ 23 rfl g1 5 i0 (.int .u8 0) 1 1 Try.underlying23 hi hz0 hz1 hz2 rfl (by decide) _ (wn + k) (U8 (List.replicate wn 51 ++ List.replicate k 68)) rfl (hown.alloc _) ⟨wr.heap.size, 0, none⟩ 1 1 [.int .u8 68] rfl rfl (cell_one_new _ _ _) (one_byte _) (by unfold maxLen; omega) (by omega) (by simp; omega) ?_)
          intro v2 w6 hown2 hgrow2 _
          have hb6 : Below g1 w w6 := below_app hb (by have := unhide HG; omega) hown hgrow2
          rw [U8_snoc2, List.append_assoc, ← List.replicate_succ'] at hown2
          have hA26 := grown_arr ((unhide HA2).alloc _) hgrow2 (unhide NE2)
          have okw6 := grown_ok ((unhide OKW).later ((Below.refl _ _).alloc (Nat.le_refl _) _)) rfl (by simp; omega) hgrow2 (unhide NEW)
          have hgw6 : gw < w6.heap.size := by have := hgrow2.size; simp at this; omega
          clear hgrow2 hown hb hlen HA2 OKW
          go_wp2
          go_roundw
          case rel => exact ⟨k + 1, by omega, by go_num, hown2, hA26, okw6, hb6, hgw6⟩
          case measure => simp [intOf]; omega
        · have hkk : k = 100 := by omega
          subst hkk
          obtain ⟨sv, hsv, -, -, hsn, -⟩ := own_sl hown (fun x hx => by rcases List.mem_append.1 hx with h | h <;> (have := List.eq_of_mem_replicate h; omega))
          obtain ⟨va, vn, vc, vl⟩ := sv
          have hsn' : vn = wn + 100 := hsn
          have hsv' : u7 = .slice va vn vc := hsv
          subst hsn' hsv'
          have ok2 : Sl.Ok wr ⟨some ⟨g2, 0, none⟩, wn, wn, wl⟩ := ⟨unhide HPZ, Nat.le_refl _, by show wn ≤ maxLen; unfold maxLen; omega, (fun h => by cases h), unhide HPB, hA2.lies⟩
          have hkd : decide (((100 : Nat) : Int) < 100) = false := by simp
          clear hown hlen hsn hsv hA2
          go_wp2_with fail
          refine (same2_any ⟨some ⟨g2, 0, none⟩, wn, wn, wl⟩ ⟨some ⟨gw, 0, none⟩, wn, wc, wl⟩ wr ok2 okw rfl (by show wn ≤ _; omega)).mono ?_
          rintro e x1 ⟨rfl, q1, hx1⟩
          have hbx : Below wr.heap.size wr x1 := by rw [hx1]; exact below_drewN (Below.refl _ _) _
          have okx := okw.later hbx
          have hbx1 : Below g1 w x1 := hb.trans (hbx.mono (by have := unhide HG; omega))
          clear hx1 hbx ok2 okw hb
          go_wp2_with fail
          refine (unhide C1 x1).mono ?_
          rintro e x2 ⟨rfl, hA9, hb9⟩
          have okx2 := okx.later hb9
          have hbx2 : Below g1 w x2 := hbx1.trans (hb9.mono (by have := hbx1.size; have := unhide HG; omega))
          have ok9 : Sl.Ok x2 ⟨some ⟨x1.heap.size, 0, none⟩, wn, wn, wl⟩ := ⟨unhide HPZ, Nat.le_refl _, by show wn ≤ maxLen; unfold maxLen; omega, (fun h => by cases h), unhide HPB, hA9.lies⟩
          clear hb9 okx hbx1 hA9
          go_wp2_with fail
          refine (same2_any ⟨some ⟨x1.heap.size, 0, none⟩, wn, wn, wl⟩ ⟨some ⟨gw, 0, none⟩, wn, wc, wl⟩ x2 ok9 okx2 rfl (by show wn ≤ _; omega)).mono ?_
          rintro e x3 ⟨rfl, q3, hx3⟩
          have hbx3 : Below g1 w x3 := by rw [hx3]; exact below_drewN hbx2 _
          clear hx3
          go_wp2
          go_ret
          exact ⟨rfl, by rw [unhide HG1]; exact hbx3⟩
end Go.Proofs.Ytkkcjjjeckhbcaa
