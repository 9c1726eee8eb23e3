import Derived.Test.YtaepmfkdnjembaaExM24
import Derived.Test.YtaepmfkdnjembaaPlM24
import Derived.Deep.DeepCutAuto
import Derived.Deep.QuietTactic
import Derived.BigQuiet
set_option linter.unusedSimpArgs false
set_option linter.unusedVariables false
namespace Go.Proofs.Ytaepmfkdnjembaa
open Go.RowKit

set_option maxHeartbeats 4000000 in
set_option maxRecDepth 100000 in
theorem wipe_any (w0 : World) (rows : List Row) (gb mb last : Nat) (ms ex : List Ms) (m : Ms) (w : World) (hS : Hs17 w0 rows (BagW w0.heap.size gb mb ms (m :: ex) last) w) (hn : m.s.n ≤ 1048576) :
    Calls Try.prog 37 #[aV (mC m)] w fun e w' => ∃ z : Int, e = .returned (.int .i64 z) ∧ Hs17 w0 rows (BagW w0.heap.size gb mb ms ex last) w' := by
  obtain ⟨R, hR, hS'⟩ := hS.exRow
  replace hS := hS'
  clear hS'
  obtain ⟨mi, mf, mt, ⟨ya, yn, yc, yx⟩⟩ := m
  simp only [mC, Sx.v] at hR hS hn ⊢
  go_enter Try.func37, Try.ntmps37
  go_upto_region 0 with fail
  refine wp_region_lit ?_
  refine wl_box (by kernel_rfl) 32 (.tmp 0) rfl (msC mi mf mt (.slice ya yn yc)) rfl hS ?_
  clear hS
  intro g1 w1 hS
  simp [Act.put]
  refine wl (by kernel_rfl) fun kQ hkQ => ?_
  go_simp
  refine hkQ _ _ ?_
  clear hkQ kQ
  refine wpList_nil ?_
  go_wp2_with fail
  go_loopw [3] (fun vi wr => ∃ (k : Nat) (xs : List Int) (R : List Row), k ≤ yn ∧ vi = .int .i64 k ∧ RowG uC 1 5 ⟨ya, yn, yc, xs⟩ xs R ∧ Hs17 w0 ((g1, 32, (msC mi mf mt (.slice ya yn yc))) :: (rows ++ R)) (BagW w0.heap.size gb mb ms ex last) wr) (fun vi _ => yn - (intOf vi).toNat)
  case atStart => exact ⟨0, yx, R, by omega, rfl, hR, hS⟩
  case round =>
    clear hS hR
    obtain ⟨k, xs, R, hk, rfl, hR, hS⟩ := hrel
    by_cases hlt : k < yn
    · have hkz : (k : Int) < (yn : Int) := by omega
      obtain ⟨g, c, c', ha, rfl, hPt, hR'⟩ := hR.put (fun x _ => uC_len x) (i := k) hlt (x := 9) rfl
      have ha' : ya = some ⟨g, 0, none⟩ := ha
      subst ha'
      rw [Nat.mul_one] at hPt
      clear ha hR
      replace hS := hS.swap (rowE_front _ _ _)
      go_upto_region 2 with fail
      refine wp_region_lit ?_
      refine wl (by kernel_rfl) fun kQ hkQ => ?_
      go_simp
      refine hkQ _ _ ?_
      clear hkQ kQ
      refine wl (by kernel_rfl) fun kQ hkQ => ?_
      go_simp
      refine hkQ _ _ ?_
      clear hkQ kQ
      refine wl_load1 (by kernel_rfl) 27 (.tmp 7) rfl 1 rfl 3 rfl ((.slice (some ⟨g, 0, none⟩) yn yc)) (at_D3 mi mf mt (.slice (some ⟨g, 0, none⟩) yn yc)) Try.underlying27 rfl hS ?_
      simp [Act.put]
      refine wl (by kernel_rfl) fun kQ hkQ => ?_
      go_simp
      refine hkQ _ _ ?_
      clear hkQ kQ
      refine wl (by kernel_rfl) fun kQ hkQ => ?_
      go_simp
      refine hkQ _ _ ?_
      clear hkQ kQ
      refine wpList_nil ?_
      go_upto_region 4 with fail
      refine wp_region_lit ?_
      refine wl (by kernel_rfl) fun kQ hkQ => ?_
      go_simp
      refine hkQ _ _ ?_
      clear hkQ kQ
      refine wl_load1 (by kernel_rfl) 27 (.tmp 13) rfl 1 rfl 3 rfl ((.slice (some ⟨g, 0, none⟩) yn yc)) (at_D3 mi mf mt (.slice (some ⟨g, 0, none⟩) yn yc)) Try.underlying27 rfl hS ?_
      simp [Act.put]
      refine wl (by kernel_rfl) fun kQ hkQ => ?_
      go_simp
      refine hkQ _ _ ?_
      clear hkQ kQ
      refine wl (by kernel_rfl) fun kQ hkQ => ?_
      go_simp
      refine hkQ _ _ ?_
      clear hkQ kQ
      refine wl_store (by kernel_rfl) 5 (.tmp 16) (.const (.int .u8 9)) rfl 0 rfl k rfl [.int .u8 9] c' hPt rfl Try.j1u (one_one rfl) hS ?_
      clear hS
      intro w31 hS
      change Hs17 w0 ((g, 5, c') :: (g1, 32, (msC mi mf mt (.slice (some ⟨g, 0, none⟩) yn yc))) :: rows) (BagW w0.heap.size gb mb ms ex last) w31 at hS
      simp [Act.put]
      refine wpList_nil ?_
      replace hS := hS.swap (rowE_front _ _ _).symm
      go_wp2_with fail
      go_roundw
      case rel => exact ⟨k + 1, _, _, by omega, by go_num, hR', hS⟩
      case measure => simp [intOf]; omega
    · obtain rfl : yn = k := by omega
      have hkz : ¬ (yn : Int) < (yn : Int) := by omega
      go_upto_region 2 with fail
      refine wp_region_lit ?_
      refine wl (by kernel_rfl) fun kQ hkQ => ?_
      go_simp
      refine hkQ _ _ ?_
      clear hkQ kQ
      refine wl (by kernel_rfl) fun kQ hkQ => ?_
      go_simp
      refine hkQ _ _ ?_
      clear hkQ kQ
      refine wl_load1 (by kernel_rfl) 27 (.tmp 7) rfl 0 rfl 3 rfl ((.slice ya yn yc)) (at_D3 mi mf mt (.slice ya yn yc)) Try.underlying27 rfl hS ?_
      simp [Act.put]
      refine wl (by kernel_rfl) fun kQ hkQ => ?_
      go_simp
      refine hkQ _ _ ?_
      clear hkQ kQ
      refine wl (by kernel_rfl) fun kQ hkQ => ?_
      go_simp
      refine hkQ _ _ ?_
      clear hkQ kQ
      refine wpList_nil ?_
      go_upto_region 5 with fail
      clear hkz hlt
      refine wp_region_lit ?_
      refine wl (by kernel_rfl) fun kQ hkQ => ?_
      go_simp
      refine hkQ _ _ ?_
      clear hkQ kQ
      refine wl_load1 (by kernel_rfl) 27 (.tmp 17) rfl 0 rfl 3 rfl ((.slice ya yn yc)) (at_D3 mi mf mt (.slice ya yn yc)) Try.underlying27 rfl hS ?_
      simp [Act.put]
      refine wl (by kernel_rfl) fun kQ hkQ => ?_
      go_simp
      refine hkQ _ _ ?_
      clear hkQ kQ
      refine wpList_nil ?_
      go_wp2_with fail
      go_loopw [4, 5] (fun vl vi wr => ∃ (k : Nat) (q : Sx Int) (R : List Row), k ≤ 64 ∧ vl = q.v ∧ vi = .int .i64 k ∧ q.n ≤ yn + k ∧ RowG uC 1 5 q q.xs R ∧ Hs17 w0 ((g1, 32, (msC mi mf mt (.slice ya yn yc))) :: (rows ++ R)) (BagW w0.heap.size gb mb ms ex last) wr) (fun _ vi _ => 64 - (intOf vi).toNat)
      case atStart => exact ⟨0, ⟨ya, yn, yc, xs⟩, R, by omega, rfl, rfl, by simp, hR, hS⟩
      case round =>
        clear hS hR
        obtain ⟨k, q, R, hk, rfl, rfl, hqn, hR, hS⟩ := hrel
        obtain ⟨pa, pn, pc, px⟩ := q
        simp only [Sx.v] at hR hS hqn ⊢
        have hpl : px.length = pn := hR.1
        by_cases hlt : k < 64
        · have hkz : (k : Int) < 64 := by omega
          go_upto_region 7 with fail
          refine wp_region_lit ?_
          refine wl (by kernel_rfl) fun kQ hkQ => ?_
          go_simp
          refine hkQ _ _ ?_
          clear hkQ kQ
          refine wl (by kernel_rfl) fun kQ hkQ => ?_
          go_simp
          refine hkQ _ _ ?_
          clear hkQ kQ
          refine wpList_nil ?_
          go_upto_region 9 with fail
          clear hkz
          refine wp_region_lit ?_
          refine wl (by kernel_rfl) fun kQ hkQ => ?_
          go_simp
          refine hkQ _ _ ?_
          clear hkQ kQ
          refine wl_bs1u (by kernel_rfl) (.const (.int .u8 9)) rfl 9 rfl hS ?_
          clear hS
          intro g91 w91 hS
          simp [Act.put]
          refine wl_appu (by kernel_rfl) (.tmp 23) (.tmp 24) rfl rfl (RowG.own (f := uC) (rows := ((g91, 5, (uC 9)) :: (g1, 32, (msC mi mf mt (.slice ya yn yc))) :: rows)) hR (fun x _ => uC_len x) hS) ⟨some ⟨g91, 0, none⟩, 1, 1, [9]⟩ (sx_one hS) rfl (by show (px.length + 1) * 1 ≤ _; omega) hS.bel.size ?_
          intro v' w92 hO' hg' hov'
          obtain ⟨z', R92, rfl, hR', hS'⟩ := Hs17.regrow (f := uC) (rows := ((g91, 5, (uC 9)) :: (g1, 32, (msC mi mf mt (.slice ya yn yc))) :: rows)) (s := ⟨pa, pn, pc, px⟩) hS hR (fun x _ => uC_len x) hg' hO' hov'
          replace hS := hS'
          replace hR := hR'
          clear hS' hR' hO' hg' hov'
          obtain ⟨va, vn, vc, vx⟩ := z'
          simp only [Sx.v]
          replace hS : Hs17 w0 ((g1, 32, (msC mi mf mt (.slice ya yn yc))) :: (rows ++ R92)) (BagW w0.heap.size gb mb ms ex last) w92 := hS.sub ((List.Sublist.refl _).cons _)
          refine wl (by kernel_rfl) fun kQ hkQ => ?_
          go_simp
          refine hkQ _ _ ?_
          clear hkQ kQ
          refine wpList_nil ?_
          have hvn : (px ++ [9]).length = vn := hR.1
          rw [List.length_append] at hvn
          go_wp2_with fail
          go_roundw
          case rel => exact ⟨k + 1, ⟨va, vn, vc, px ++ [9]⟩, _, by omega, rfl, by go_num, by simp at hvn ⊢; omega, ⟨hR.1, hR.2⟩, hS⟩
          case measure => simp [intOf]; omega
        · have hkz : ¬ (k : Int) < 64 := by omega
          go_upto_region 7 with fail
          refine wp_region_lit ?_
          refine wl (by kernel_rfl) fun kQ hkQ => ?_
          go_simp
          refine hkQ _ _ ?_
          clear hkQ kQ
          refine wl (by kernel_rfl) fun kQ hkQ => ?_
          go_simp
          refine hkQ _ _ ?_
          clear hkQ kQ
          refine wpList_nil ?_
          go_wp2_with fail
          go_ret
          replace hS := hS.sub ((List.Sublist.refl _).cons _)
          exact ⟨⟨_, rfl⟩, hS.sub (List.sublist_append_left rows R)⟩
end Go.Proofs.Ytaepmfkdnjembaa
