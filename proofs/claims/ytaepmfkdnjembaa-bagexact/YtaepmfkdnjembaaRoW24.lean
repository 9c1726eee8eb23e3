import Derived.Test.YtaepmfkdnjembaaHxM
import Derived.Test.YtaepmfkdnjembaaPlM24
import Derived.Deep.DeepCutAuto
import Derived.Deep.QuietTactic
import Derived.BigQuiet
set_option linter.unusedSimpArgs false
set_option linter.unusedVariables false
namespace Go.Proofs.Ytaepmfkdnjembaa
open Go.RowKit

set_option maxHeartbeats 4000000 in
set_option maxRecDepth 100000 in
theorem roomy_any (w0 : World) (rows : List Row) (K : World → Prop) (y : Sx Int) (w : World) (hS : Hs17 w0 rows K w) (hy : Su w0 y) (hn : y.n ≤ 1048576) :
    Calls Try.prog 42 #[y.v] w fun e w' => ∃ q : Sx Int, e = .returned q.v ∧ q.xs = y.xs ++ List.replicate 64 201 ∧ ∃ R, RowG uC 1 5 q q.xs R ∧ Hs17 w0 (rows ++ R) K w' := by
  obtain ⟨ya, yn, yc, yx⟩ := y
  have hyl : yx.length = yn := hy.len
  have HY := hide hy
  clear hy
  simp only [Sx.v] at hn ⊢
  go_enter Try.func42, Try.ntmps42
  go_wp2_with fail
  go_loopw [3, 4] (fun vl vi wr => ∃ (k : Nat) (q : Sx Int) (R : List Row), k ≤ yn ∧ vl = q.v ∧ vi = .int .i64 k ∧ Hid (q.xs = yx.take k) ∧ RowG uC 1 5 q q.xs R ∧ Hs17 w0 (rows ++ R) K wr) (fun _ vi _ => yn - (intOf vi).toNat)
  case atStart => exact ⟨0, ⟨none, 0, 0, []⟩, [], by omega, rfl, rfl, hide rfl, ⟨rfl, .inl ⟨rfl, rfl, rfl, rfl⟩⟩, by rw [List.append_nil]; exact hS⟩
  case round =>
    clear hS
    obtain ⟨k, q, R, hk, rfl, rfl, HQ, hR, hS⟩ := hrel
    obtain ⟨pa, pn, pc, px⟩ := q
    simp only [Sx.v] at HQ hR hS ⊢
    have hpl : px.length ≤ yn := by rw [unhide HQ, List.length_take]; omega
    by_cases hlt : k < yn
    · have hkz : (k : Int) < (yn : Int) := by omega
      obtain ⟨b, off, hya, hbl, hc⟩ := Su.at_ (unhide HY) (k := k) hlt
      have hya' : ya = some ⟨b, off, none⟩ := hya
      subst hya'
      obtain ⟨z, hz⟩ : ∃ z, yx.getD k 0 = z := ⟨_, rfl⟩
      have HZ : Hid (yx.take (k + 1) = yx.take k ++ [z]) := hide (by
        rw [List.take_add_one, List.getElem?_eq_getElem (by omega), ← hz, List.getD_eq_getElem?_getD, List.getElem?_eq_getElem (by omega)]; rfl)
      have hcv : ∀ v, Below w0.heap.size w0 v → v.cell? ⟨b, off + k, none⟩ = some (.int .u8 z) := fun v hv => by
        obtain ⟨b2, o2, e2, -, h2⟩ := Su.at_ ((unhide HY).old (Old.of hv)) (k := k) hlt
        simp only [Option.some.injEq, Addr.mk.injEq] at e2
        obtain ⟨rfl, rfl, -⟩ := e2
        rw [← hz]; exact h2
      clear hya hz hc
      go_upto_region 3 with fail
      refine wp_region_lit ?_
      refine wl (by kernel_rfl) fun kQ hkQ => ?_
      go_simp
      refine hkQ _ _ ?_
      clear hkQ kQ
      refine wl (by kernel_rfl) fun kQ hkQ => ?_
      go_simp
      refine hkQ _ _ ?_
      clear hkQ kQ
      refine wl (by kernel_rfl) fun kQ hkQ => ?_
      go_simp
      refine hkQ _ _ ?_
      clear hkQ kQ
      refine wl (by kernel_rfl) fun kQ hkQ => ?_
      go_simp
      refine hkQ _ _ ?_
      clear hkQ kQ
      refine wpList_nil ?_
      go_upto_region 5 with fail
      refine wp_region_lit ?_
      refine wl (by kernel_rfl) fun kQ hkQ => ?_
      go_simp
      refine hkQ _ _ ?_
      clear hkQ kQ
      refine wl (by kernel_rfl) fun kQ hkQ => ?_
      go_simp
      refine hkQ _ _ ?_
      clear hkQ kQ
      refine wl (by kernel_rfl) fun kQ hkQ => ?_
      go_simp
      refine hkQ _ _ ?_
      clear hkQ kQ
      refine wl (by kernel_rfl) fun kQ hkQ => ?_
      go_simp
      refine hkQ _ _ ?_
      clear hkQ kQ
      refine wl_loadC (by kernel_rfl) 5 (.tmp 15) rfl b (off + k) rfl ((.int .u8 z)) (hcv _ hS.bel) Try.underlying5 rfl ?_
      simp [Act.put]
      refine wl_bs1u (by kernel_rfl) (.tmp 16) rfl z rfl hS ?_
      clear hS
      intro g31 w31 hS
      simp [Act.put]
      refine wl_appu (by kernel_rfl) (.tmp 12) (.tmp 17) rfl rfl (RowG.own (f := uC) (rows := ((g31, 5, (uC z)) :: rows)) hR (fun x _ => uC_len x) hS) ⟨some ⟨g31, 0, none⟩, 1, 1, [z]⟩ (sx_one hS) rfl (by show (px.length + 1) * 1 ≤ _; omega) hS.bel.size ?_
      intro v' w32 hO' hg' hov'
      obtain ⟨z', R32, rfl, hR', hS'⟩ := Hs17.regrow (f := uC) (rows := ((g31, 5, (uC z)) :: rows)) (s := ⟨pa, pn, pc, px⟩) hS hR (fun x _ => uC_len x) hg' hO' hov'
      replace hS := hS'
      replace hR := hR'
      clear hS' hR' hO' hg' hov'
      obtain ⟨va, vn, vc, vx⟩ := z'
      simp only [Sx.v]
      replace hS : Hs17 w0 (rows ++ R32) K w32 := hS.sub ((List.Sublist.refl _).cons _)
      refine wl (by kernel_rfl) fun kQ hkQ => ?_
      go_simp
      refine hkQ _ _ ?_
      clear hkQ kQ
      refine wpList_nil ?_
      go_wp2_with fail
      go_roundw
      case rel => exact ⟨k + 1, ⟨va, vn, vc, px ++ [z]⟩, _, by omega, rfl, by go_num, hide (by rw [unhide HZ, unhide HQ]), ⟨hR.1, hR.2⟩, hS⟩
      case measure => simp [intOf]; omega
    · obtain rfl : yn = k := by omega
      have hkz : ¬ (yn : Int) < (yn : Int) := by omega
      have hpx : px = yx := by rw [unhide HQ, List.take_of_length_le (by omega)]
      subst hpx
      go_upto_region 3 with fail
      refine wp_region_lit ?_
      refine wl (by kernel_rfl) fun kQ hkQ => ?_
      go_simp
      refine hkQ _ _ ?_
      clear hkQ kQ
      refine wl (by kernel_rfl) fun kQ hkQ => ?_
      go_simp
      refine hkQ _ _ ?_
      clear hkQ kQ
      refine wl (by kernel_rfl) fun kQ hkQ => ?_
      go_simp
      refine hkQ _ _ ?_
      clear hkQ kQ
      refine wl (by kernel_rfl) fun kQ hkQ => ?_
      go_simp
      refine hkQ _ _ ?_
      clear hkQ kQ
      refine wpList_nil ?_
      clear hkz hlt
      go_wp2_with fail
      go_loopw [3, 5] (fun vl vi wr => ∃ (k : Nat) (q : Sx Int) (R : List Row), k ≤ 64 ∧ vl = q.v ∧ vi = .int .i64 k ∧ Hid (q.xs = px ++ List.replicate k 201) ∧ RowG uC 1 5 q q.xs R ∧ Hs17 w0 (rows ++ R) K wr) (fun _ vi _ => 64 - (intOf vi).toNat)
      case atStart => exact ⟨0, ⟨pa, pn, pc, px⟩, R, by omega, rfl, rfl, hide (List.append_nil _).symm, hR, hS⟩
      case round =>
        clear hS hR
        obtain ⟨k, q, R, hk, rfl, rfl, HQ2, hR, hS⟩ := hrel
        obtain ⟨ra, rn, rc, rx⟩ := q
        simp only [Sx.v] at HQ2 hR hS ⊢
        have hpl : rx.length ≤ yn + 64 := by rw [unhide HQ2, List.length_append, List.length_replicate]; omega
        by_cases hlt : k < 64
        · have hkz : (k : Int) < 64 := by omega
          go_upto_region 7 with fail
          refine wp_region_lit ?_
          refine wl (by kernel_rfl) fun kQ hkQ => ?_
          go_simp
          refine hkQ _ _ ?_
          clear hkQ kQ
          refine wl (by kernel_rfl) fun kQ hkQ => ?_
          go_simp
          refine hkQ _ _ ?_
          clear hkQ kQ
          refine wpList_nil ?_
          go_upto_region 9 with fail
          clear hkz
          refine wp_region_lit ?_
          refine wl (by kernel_rfl) fun kQ hkQ => ?_
          go_simp
          refine hkQ _ _ ?_
          clear hkQ kQ
          refine wl_bs1u (by kernel_rfl) (.const (.int .u8 201)) rfl 201 rfl hS ?_
          clear hS
          intro g91 w91 hS
          simp [Act.put]
          refine wl_appu (by kernel_rfl) (.tmp 23) (.tmp 24) rfl rfl (RowG.own (f := uC) (rows := ((g91, 5, (uC 201)) :: rows)) hR (fun x _ => uC_len x) hS) ⟨some ⟨g91, 0, none⟩, 1, 1, [201]⟩ (sx_one hS) rfl (by show (rx.length + 1) * 1 ≤ _; omega) hS.bel.size ?_
          intro v' w92 hO' hg' hov'
          obtain ⟨z', R92, rfl, hR', hS'⟩ := Hs17.regrow (f := uC) (rows := ((g91, 5, (uC 201)) :: rows)) (s := ⟨ra, rn, rc, rx⟩) hS hR (fun x _ => uC_len x) hg' hO' hov'
          replace hS := hS'
          replace hR := hR'
          clear hS' hR' hO' hg' hov'
          obtain ⟨va, vn, vc, vx⟩ := z'
          simp only [Sx.v]
          replace hS : Hs17 w0 (rows ++ R92) K w92 := hS.sub ((List.Sublist.refl _).cons _)
          refine wl (by kernel_rfl) fun kQ hkQ => ?_
          go_simp
          refine hkQ _ _ ?_
          clear hkQ kQ
          refine wpList_nil ?_
          go_wp2_with fail
          go_roundw
          case rel => exact ⟨k + 1, ⟨va, vn, vc, rx ++ [201]⟩, _, by omega, rfl, by go_num, hide (by rw [unhide HQ2, List.append_assoc, List.replicate_succ']), ⟨hR.1, hR.2⟩, hS⟩
          case measure => simp [intOf]; omega
        · obtain rfl : k = 64 := by omega
          go_upto_region 7 with fail
          refine wp_region_lit ?_
          refine wl (by kernel_rfl) fun kQ hkQ => ?_
          go_simp
          refine hkQ _ _ ?_
          clear hkQ kQ
          refine wl (by kernel_rfl) fun kQ hkQ => ?_
          go_simp
          refine hkQ _ _ ?_
          clear hkQ kQ
          refine wpList_nil ?_
          go_wp2_with fail
          go_ret
          exact ⟨⟨ra, rn, rc, rx⟩, rfl, unhide HQ2, R, hR, hS⟩
end Go.Proofs.Ytaepmfkdnjembaa
