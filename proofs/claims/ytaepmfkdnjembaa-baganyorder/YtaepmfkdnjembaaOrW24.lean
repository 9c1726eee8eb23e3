import Derived.Test.YtaepmfkdnjembaaOrM24
import Derived.Deep.DeepCutAuto
import Derived.Deep.QuietTactic
import Derived.BigQuiet
set_option linter.unusedSimpArgs false
set_option linter.unusedVariables false
namespace Go.Proofs.Ytaepmfkdnjembaa
open Go.RowKit

set_option maxHeartbeats 4000000 in
set_option maxRecDepth 100000 in
theorem order_law (b : Sx (Sx Int)) (o : Sx Int) (w : World) (hb : b.Ok sbC 1 w) (hbs : ∀ s ∈ b.xs, Su w s) (ho : o.Ok iC 1 w) (hoz : ∀ z ∈ o.xs, I64 z) :
    Calls Try.prog 3 #[b.v, o.v] w fun e w' => e = .returned (.bool true) ∧ Below w.heap.size w w' := by
  obtain ⟨ba, bn, bc, bx⟩ := b
  obtain ⟨oa, on, oc, ox⟩ := o
  simp only [Sx.v]
  have hS := Hs17.begin w (fun _ => True) (fun _ _ => trivial)
  by_cases h1 : 200 < bn
  · have h1z : (200 : Int) < (bn : Int) := by omega
    clear hb hbs ho hoz h1
    go_enter Try.func3, Try.ntmps3
    go_upto_region 1 with fail
    refine wp_region_lit ?_
    refine wl (by kernel_rfl) fun kQ hkQ => ?_
    go_simp
    refine hkQ _ _ ?_
    clear hkQ kQ
    refine wl (by kernel_rfl) fun kQ hkQ => ?_
    go_simp
    refine hkQ _ _ ?_
    clear hkQ kQ
    refine wl (by kernel_rfl) fun kQ hkQ => ?_
    go_simp
    refine hkQ _ _ ?_
    clear hkQ kQ
    refine wl (by kernel_rfl) fun kQ hkQ => ?_
    go_simp
    refine hkQ _ _ ?_
    clear hkQ kQ
    refine wl_skip (by kernel_rfl) ?_
    simp [Act.put]
    refine wl_skip (by kernel_rfl) ?_
    simp [Act.put]
    refine wl_skip (by kernel_rfl) ?_
    simp [Act.put]
    refine wl (by kernel_rfl) fun kQ hkQ => ?_
    go_simp
    refine hkQ _ _ ?_
    clear hkQ kQ
    refine wl (by kernel_rfl) fun kQ hkQ => ?_
    go_simp
    refine hkQ _ _ ?_
    clear hkQ kQ
    refine wl_skip (by kernel_rfl) ?_
    simp [Act.put]
    refine wl_skip (by kernel_rfl) ?_
    simp [Act.put]
    refine wl (by kernel_rfl) fun kQ hkQ => ?_
    go_simp
    refine hkQ _ _ ?_
    clear hkQ kQ
    refine wpList_nil ?_
    go_upto_region 2 with fail
    refine wp_region_lit ?_
    refine wl (by kernel_rfl) fun kQ hkQ => ?_
    go_simp
    refine hkQ _ _ ?_
    clear hkQ kQ
    refine wl (by kernel_rfl) fun kQ hkQ => ?_
    go_simp
    refine hkQ _ _ ?_
    clear hkQ kQ
    refine wl (by kernel_rfl) fun kQ hkQ => ?_
    go_simp
    refine hkQ _ _ ?_
    clear hkQ kQ
    refine wl (by kernel_rfl) fun kQ hkQ => ?_
    go_simp
    refine hkQ _ _ ?_
    clear hkQ kQ
    refine wl_skip (by kernel_rfl) ?_
    simp [Act.put]
    refine wl_skip (by kernel_rfl) ?_
    simp [Act.put]
    refine wl_skip (by kernel_rfl) ?_
    simp [Act.put]
    refine wl (by kernel_rfl) fun kQ hkQ => ?_
    go_simp
    refine hkQ _ _ ?_
    clear hkQ kQ
    refine wl (by kernel_rfl) fun kQ hkQ => ?_
    go_simp
    refine hkQ _ _ ?_
    clear hkQ kQ
    refine wl (by kernel_rfl) fun kQ hkQ => ?_
    go_simp
    refine (holds_any _).mono ?_
    rintro e w1 ⟨rfl, hb1⟩
    replace hS := hS.later hb1
    refine hkQ _ _ ?_
    clear hkQ kQ hb1
    refine wl (by kernel_rfl) fun kQ hkQ => ?_
    go_simp
    refine hkQ _ _ ?_
    clear hkQ kQ
    refine wl (by kernel_rfl) fun kQ hkQ => ?_
    go_simp
    refine hkQ _ _ ?_
    clear hkQ kQ
    refine wpList_nil ?_
    go_wp2_with fail
    go_ret
    exact ⟨rfl, hS.bel⟩
  have h1z : ¬ (200 : Int) < (bn : Int) := by omega
  by_cases h2 : 200 < on
  · have h2z : (200 : Int) < (on : Int) := by omega
    clear hb hbs ho hoz h1 h2
    go_enter Try.func3, Try.ntmps3
    go_upto_region 1 with fail
    refine wp_region_lit ?_
    refine wl (by kernel_rfl) fun kQ hkQ => ?_
    go_simp
    refine hkQ _ _ ?_
    clear hkQ kQ
    refine wl (by kernel_rfl) fun kQ hkQ => ?_
    go_simp
    refine hkQ _ _ ?_
    clear hkQ kQ
    refine wl (by kernel_rfl) fun kQ hkQ => ?_
    go_simp
    refine hkQ _ _ ?_
    clear hkQ kQ
    refine wl (by kernel_rfl) fun kQ hkQ => ?_
    go_simp
    refine hkQ _ _ ?_
    clear hkQ kQ
    refine wl (by kernel_rfl) fun kQ hkQ => ?_
    go_simp
    refine hkQ _ _ ?_
    clear hkQ kQ
    refine wl (by kernel_rfl) fun kQ hkQ => ?_
    go_simp
    refine hkQ _ _ ?_
    clear hkQ kQ
    refine wl (by kernel_rfl) fun kQ hkQ => ?_
    go_simp
    refine hkQ _ _ ?_
    clear hkQ kQ
    refine wl (by kernel_rfl) fun kQ hkQ => ?_
    go_simp
    refine hkQ _ _ ?_
    clear hkQ kQ
    refine wl (by kernel_rfl) fun kQ hkQ => ?_
    go_simp
    refine hkQ _ _ ?_
    clear hkQ kQ
    refine wl_skip (by kernel_rfl) ?_
    simp [Act.put]
    refine wl_skip (by kernel_rfl) ?_
    simp [Act.put]
    refine wl (by kernel_rfl) fun kQ hkQ => ?_
    go_simp
    refine hkQ _ _ ?_
    clear hkQ kQ
    refine wpList_nil ?_
    go_upto_region 2 with fail
    refine wp_region_lit ?_
    refine wl (by kernel_rfl) fun kQ hkQ => ?_
    go_simp
    refine hkQ _ _ ?_
    clear hkQ kQ
    refine wl (by kernel_rfl) fun kQ hkQ => ?_
    go_simp
    refine hkQ _ _ ?_
    clear hkQ kQ
    refine wl (by kernel_rfl) fun kQ hkQ => ?_
    go_simp
    refine hkQ _ _ ?_
    clear hkQ kQ
    refine wl (by kernel_rfl) fun kQ hkQ => ?_
    go_simp
    refine hkQ _ _ ?_
    clear hkQ kQ
    refine wl (by kernel_rfl) fun kQ hkQ => ?_
    go_simp
    refine hkQ _ _ ?_
    clear hkQ kQ
    refine wl (by kernel_rfl) fun kQ hkQ => ?_
    go_simp
    refine hkQ _ _ ?_
    clear hkQ kQ
    refine wl (by kernel_rfl) fun kQ hkQ => ?_
    go_simp
    refine hkQ _ _ ?_
    clear hkQ kQ
    refine wl (by kernel_rfl) fun kQ hkQ => ?_
    go_simp
    refine hkQ _ _ ?_
    clear hkQ kQ
    refine wl (by kernel_rfl) fun kQ hkQ => ?_
    go_simp
    refine hkQ _ _ ?_
    clear hkQ kQ
    refine wl (by kernel_rfl) fun kQ hkQ => ?_
    go_simp
    refine (holds_any _).mono ?_
    rintro e w1 ⟨rfl, hb1⟩
    replace hS := hS.later hb1
    refine hkQ _ _ ?_
    clear hkQ kQ hb1
    refine wl (by kernel_rfl) fun kQ hkQ => ?_
    go_simp
    refine hkQ _ _ ?_
    clear hkQ kQ
    refine wl (by kernel_rfl) fun kQ hkQ => ?_
    go_simp
    refine hkQ _ _ ?_
    clear hkQ kQ
    refine wpList_nil ?_
    go_wp2_with fail
    go_ret
    exact ⟨rfl, hS.bel⟩
  have h2z : ¬ (200 : Int) < (on : Int) := by omega
  have hbn : bn ≤ 200 := by omega
  have hon : on ≤ 200 := by omega
  have HB := hide hb
  have HBS := hide hbs
  have HO := hide ho
  have HOZ := hide hoz
  clear hb hbs ho hoz h1 h2
  go_enter Try.func3, Try.ntmps3
  go_upto_region 1 with fail
  refine wp_region_lit ?_
  refine wl (by kernel_rfl) fun kQ hkQ => ?_
  go_simp
  refine hkQ _ _ ?_
  clear hkQ kQ
  refine wl (by kernel_rfl) fun kQ hkQ => ?_
  go_simp
  refine hkQ _ _ ?_
  clear hkQ kQ
  refine wl (by kernel_rfl) fun kQ hkQ => ?_
  go_simp
  refine hkQ _ _ ?_
  clear hkQ kQ
  refine wl (by kernel_rfl) fun kQ hkQ => ?_
  go_simp
  refine hkQ _ _ ?_
  clear hkQ kQ
  refine wl (by kernel_rfl) fun kQ hkQ => ?_
  go_simp
  refine hkQ _ _ ?_
  clear hkQ kQ
  refine wl (by kernel_rfl) fun kQ hkQ => ?_
  go_simp
  refine hkQ _ _ ?_
  clear hkQ kQ
  refine wl (by kernel_rfl) fun kQ hkQ => ?_
  go_simp
  refine hkQ _ _ ?_
  clear hkQ kQ
  refine wl (by kernel_rfl) fun kQ hkQ => ?_
  go_simp
  refine hkQ _ _ ?_
  clear hkQ kQ
  refine wl (by kernel_rfl) fun kQ hkQ => ?_
  go_simp
  refine hkQ _ _ ?_
  clear hkQ kQ
  refine wl (by kernel_rfl) fun kQ hkQ => ?_
  go_simp
  refine (holds_any _).mono ?_
  rintro e w1 ⟨rfl, hb1⟩
  replace hS := hS.later hb1
  refine hkQ _ _ ?_
  clear hkQ kQ hb1
  refine wl (by kernel_rfl) fun kQ hkQ => ?_
  go_simp
  refine hkQ _ _ ?_
  clear hkQ kQ
  refine wl (by kernel_rfl) fun kQ hkQ => ?_
  go_simp
  refine hkQ _ _ ?_
  clear hkQ kQ
  refine wpList_nil ?_
  go_upto_region 3 with fail
  clear h1z h2z
  refine wp_region_lit ?_
  refine wl (by kernel_rfl) fun kQ hkQ => ?_
  go_simp
  refine (new_any _).mono ?_
  rintro e w2 ⟨gb, mb, rfl, hG, hb1⟩
  replace hS := hS.bag0 hG hb1
  clear hG
  refine hkQ _ _ ?_
  clear hkQ kQ hb1
  refine wl (by kernel_rfl) fun kQ hkQ => ?_
  go_simp
  refine hkQ _ _ ?_
  clear hkQ kQ
  refine wpList_nil ?_
  go_wp2_with fail
  go_loopw [6, 7] (fun vn vi wr => ∃ (k n : Nat) (ms : List Ms), k ≤ bn ∧ n ≤ k ∧ vn = .int .i64 n ∧ vi = .int .i64 k ∧ Hid (NumA (ms.map Ms.p) ∧ ms.length = n) ∧ Hs17 w [] (BagW w.heap.size gb mb ms [] n) wr) (fun _ vi _ => bn - (intOf vi).toNat)
  case atStart => exact ⟨0, 0, [], by omega, by omega, rfl, rfl, hide ⟨NumA.nil, rfl⟩, hS⟩
  case round =>
    clear hS
    obtain ⟨k, n, ms, hk, hnk, rfl, rfl, HN, hS⟩ := hrel
    by_cases hlt : k < bn
    · have hkz : (k : Int) < (bn : Int) := by omega
      obtain ⟨y, hy⟩ : ∃ y, bx[k]? = some y := ⟨_, List.getElem?_eq_getElem (by have := (unhide HB).len; simp only at this; omega)⟩
      have hyS := unhide HBS y (List.mem_of_getElem? hy)
      obtain ⟨bb, bo, hba, hbl, hrg⟩ := Sx.Ok.at_ (unhide HB) (i := k) hy
      have hba' : ba = some ⟨bb, bo, none⟩ := hba
      subst hba'
      have HCY : Hid (∀ v, Below w.heap.size w v → v.cell? ⟨bb, bo + k, none⟩ = some y.v) := hide (fun v hv => by
        have h9 := rangeAt_old hrg hbl (Old.of hv)
        have := h9 0 _ rfl
        simpa using this)
      have hyl := hyS.len
      have HYS := hide hyS
      clear hba hy hbl hrg hyS
      obtain ⟨ya, yn, yc, yx⟩ := y
      simp only [Sx.v] at HCY hyl
      have HYL := hide hyl
      clear hyl
      by_cases hc : yn ≤ 1024
      · have hcz : (yn : Int) ≤ 1024 := by omega
        go_upto_region 8 with fail
        clear hkz
        refine wp_region_lit ?_
        refine wl (by kernel_rfl) fun kQ hkQ => ?_
        go_simp
        refine hkQ _ _ ?_
        clear hkQ kQ
        refine wl (by kernel_rfl) fun kQ hkQ => ?_
        go_simp
        refine hkQ _ _ ?_
        clear hkQ kQ
        refine wl (by kernel_rfl) fun kQ hkQ => ?_
        go_simp
        refine hkQ _ _ ?_
        clear hkQ kQ
        refine wl_loadC (by kernel_rfl) 27 (.tmp 50) rfl bb (bo + k) rfl ((.slice ya yn yc)) (unhide HCY _ hS.bel) Try.underlying27 rfl ?_
        simp [Act.put]
        refine wl (by kernel_rfl) fun kQ hkQ => ?_
        go_simp
        refine hkQ _ _ ?_
        clear hkQ kQ
        refine wl (by kernel_rfl) fun kQ hkQ => ?_
        go_simp
        refine hkQ _ _ ?_
        clear hkQ kQ
        refine wpList_nil ?_
        have hkn : IntKind.i64.wrap (-(k : Int)) = -(k : Int) := wi_of24 (by omega) (by omega)
        have hkz : (k : Int) < (bn : Int) := by omega
        go_upto_region 9 with fail
        clear hcz
        refine wp_region_lit ?_
        refine wl (by kernel_rfl) fun kQ hkQ => ?_
        go_simp
        refine hkQ _ _ ?_
        clear hkQ kQ
        refine wl (by kernel_rfl) fun kQ hkQ => ?_
        go_simp
        refine hkQ _ _ ?_
        clear hkQ kQ
        refine wl (by kernel_rfl) fun kQ hkQ => ?_
        go_simp
        refine hkQ _ _ ?_
        clear hkQ kQ
        refine wl (by kernel_rfl) fun kQ hkQ => ?_
        go_simp
        refine hkQ _ _ ?_
        clear hkQ kQ
        refine wl (by kernel_rfl) fun kQ hkQ => ?_
        go_simp
        refine hkQ _ _ ?_
        clear hkQ kQ
        obtain ⟨gT, hgT⟩ : ∃ gT, gT = wr.heap.size := ⟨_, rfl⟩
        replace hS : Hs17 w ([] ++ [(gT, 5, [])]) (BagW w.heap.size gb mb ms [] n) (wr.alloc (.cells #[] 5)) := by
          have h := hS.alloc 5 []
          rw [hgT]; exact h
        rw [← hgT]
        clear hgT
        generalize wr.alloc (.cells #[] 5) = w21 at hS ⊢
        have hR : RowG uC 1 5 (⟨some ⟨gT, 0, none⟩, 0, 0, []⟩ : Sx Int) [] [(gT, 5, [])] := ⟨rfl, .inr ⟨gT, [], rfl, Nat.le_refl _, Nat.zero_le _, rfl, rfl⟩⟩
        refine wl (by kernel_rfl) fun kQ hkQ => ?_
        go_simp
        refine hkQ _ _ ?_
        clear hkQ kQ
        refine wl (by kernel_rfl) fun kQ hkQ => ?_
        go_simp
        refine hkQ _ _ ?_
        clear hkQ kQ
        refine wl (by kernel_rfl) fun kQ hkQ => ?_
        go_simp
        refine hkQ _ _ ?_
        clear hkQ kQ
        refine wl_loadC (by kernel_rfl) 27 (.tmp 62) rfl bb (bo + k) rfl ((.slice ya yn yc)) (unhide HCY _ hS.bel) Try.underlying27 rfl ?_
        simp [Act.put]
        refine wl_appu (by kernel_rfl) (.tmp 59) (.tmp 63) rfl rfl (RowG.own (f := uC) (rows := []) hR (fun x _ => uC_len x) hS) ⟨ya, yn, yc, yx⟩ ((unhide HYS).old (Old.of hS.bel)) rfl (by simp only [List.length_nil]; omega) hS.bel.size ?_
        intro v' w22 hO' hg' hov'
        obtain ⟨z', R, rfl, hR', hS'⟩ := Hs17.regrow (f := uC) (rows := []) (s := (⟨some ⟨gT, 0, none⟩, 0, 0, []⟩ : Sx Int)) hS hR (fun x _ => uC_len x) hg' hO' hov'
        replace hS := Hs17.rowEx (rows := []) hR' hS' 0 0 0
        have hzl := hR'.1
        clear hS' hR' hR hO' hg' hov'
        obtain ⟨za, zn, zc, zx⟩ := z'
        simp only [Sx.v, List.nil_append] at hS hzl ⊢
        simp [Act.put]
        refine wv (aV (msC 0 (k : Int) (-(k : Int)) (.slice za zn zc))) (by kernel_rfl) (ex_build 32 #[(1, .tmp 56), (2, .tmp 58), (3, .tmp 64)] rfl (msC 0 (k : Int) (-(k : Int)) (.slice za zn zc)) (b_d3 (k : Int) (-(k : Int)) za zn zc) rfl) ?_
        simp [Act.put]
        refine wl (by kernel_rfl) fun kQ hkQ => ?_
        go_simp
        refine (put_any w [] _ gb mb n ms _ _ hS rfl (Nat.le_refl _) 0 (k : Int) (-(k : Int)) ⟨za, zn, zc, yx⟩ (rd_ex (m := ⟨0, 0, 0, ⟨za, zn, zc, yx⟩⟩) (List.mem_singleton.2 rfl)) (by omega)).mono ?_
        clear hS
        rintro e w23 ⟨ms', rfl, hp, hS⟩
        refine hkQ _ _ ?_
        clear hkQ kQ
        have hE : putE ms.length yx.length = 0 := by
          rcases putE_cases ms.length yx.length with ⟨h1, -⟩ | ⟨-, h2, -⟩ | ⟨-, -, h3⟩
          · have := unhide HYL; omega
          · have := (unhide HN).2; omega
          · exact h3
        have hE2 : putE (ms.map Ms.p).length yx.length = 0 := by rw [List.length_map]; exact hE
        have hp' : ms'.map Ms.p = ms.map Ms.p ++ [⟨((n + 1 : Nat) : Int), (k : Int), -(k : Int), yx⟩] := by rw [hp]; unfold putP; rw [if_pos hE2]
        have hN' : Hid (NumA (ms'.map Ms.p) ∧ ms'.length = n + 1) := by
          have h9 := unhide HN
          have e : (ms.map Ms.p).length = n := by rw [List.length_map]; exact h9.2
          refine hide ⟨?_, ?_⟩
          · rw [hp']
            have := h9.1.snoc (k : Int) (-(k : Int)) yx
            rw [e] at this; exact this
          · have := congrArg List.length hp'
            simpa [h9.2] using this
        replace hS : Hs17 w [] (BagW w.heap.size gb mb ms' [] (n + 1)) w23 := by
          have e : putL n ms.length yx.length = n + 1 := by unfold putL; rw [if_pos hE]
          have h9 := hS.fewer (List.nil_sublist _)
          simp only at h9
          rw [e] at h9; exact h9
        have eN : putN n ms.length yx.length = ((n + 1 : Nat) : Int) := by unfold putN; rw [if_pos hE]
        rw [hE, eN]
        clear hp hp' hE hE2 eN
        refine wl (by kernel_rfl) fun kQ hkQ => ?_
        go_simp
        refine hkQ _ _ ?_
        clear hkQ kQ
        refine wl (by kernel_rfl) fun kQ hkQ => ?_
        go_simp
        refine hkQ _ _ ?_
        clear hkQ kQ
        refine wl (by kernel_rfl) fun kQ hkQ => ?_
        go_simp
        refine hkQ _ _ ?_
        clear hkQ kQ
        refine wl (by kernel_rfl) fun kQ hkQ => ?_
        go_simp
        refine hkQ _ _ ?_
        clear hkQ kQ
        refine wl (by kernel_rfl) fun kQ hkQ => ?_
        go_simp
        refine hkQ _ _ ?_
        clear hkQ kQ
        refine wpList_nil ?_
        have e1 : IntKind.i64.wrap ((n : Int) + 1) = ((n + 1 : Nat) : Int) := by rw [show (n : Int) + 1 = ((n + 1 : Nat) : Int) by omega]; exact wi_of24 (by omega) (by omega)
        go_upto_region 10 with fail
        refine wp_region_lit ?_
        refine wl (by kernel_rfl) fun kQ hkQ => ?_
        go_simp
        refine hkQ _ _ ?_
        clear hkQ kQ
        refine wl (by kernel_rfl) fun kQ hkQ => ?_
        go_simp
        refine hkQ _ _ ?_
        clear hkQ kQ
        refine wl (by kernel_rfl) fun kQ hkQ => ?_
        go_simp
        refine hkQ _ _ ?_
        clear hkQ kQ
        refine wpList_nil ?_
        clear e1
        go_upto_region 11 with fail
        refine wp_region_lit ?_
        refine wl (by kernel_rfl) fun kQ hkQ => ?_
        go_simp
        refine hkQ _ _ ?_
        clear hkQ kQ
        refine wl (by kernel_rfl) fun kQ hkQ => ?_
        go_simp
        refine hkQ _ _ ?_
        clear hkQ kQ
        refine wl (by kernel_rfl) fun kQ hkQ => ?_
        go_simp
        refine hkQ _ _ ?_
        clear hkQ kQ
        refine wl (by kernel_rfl) fun kQ hkQ => ?_
        go_simp
        refine hkQ _ _ ?_
        clear hkQ kQ
        refine wl (by kernel_rfl) fun kQ hkQ => ?_
        go_simp
        refine hkQ _ _ ?_
        clear hkQ kQ
        refine wl (by kernel_rfl) fun kQ hkQ => ?_
        go_simp
        refine hkQ _ _ ?_
        clear hkQ kQ
        refine wl (by kernel_rfl) fun kQ hkQ => ?_
        go_simp
        refine hkQ _ _ ?_
        clear hkQ kQ
        refine wpList_nil ?_
        go_wp2_with fail
        go_roundw
        case rel => exact ⟨k + 1, n + 1, ms', by omega, by omega, rfl, by go_num, hN', hS⟩
        case measure => simp [intOf]; omega
      · have hcz : ¬ (yn : Int) ≤ 1024 := by omega
        go_upto_region 8 with fail
        clear hkz
        refine wp_region_lit ?_
        refine wl (by kernel_rfl) fun kQ hkQ => ?_
        go_simp
        refine hkQ _ _ ?_
        clear hkQ kQ
        refine wl (by kernel_rfl) fun kQ hkQ => ?_
        go_simp
        refine hkQ _ _ ?_
        clear hkQ kQ
        refine wl (by kernel_rfl) fun kQ hkQ => ?_
        go_simp
        refine hkQ _ _ ?_
        clear hkQ kQ
        refine wl_loadC (by kernel_rfl) 27 (.tmp 50) rfl bb (bo + k) rfl ((.slice ya yn yc)) (unhide HCY _ hS.bel) Try.underlying27 rfl ?_
        simp [Act.put]
        refine wl (by kernel_rfl) fun kQ hkQ => ?_
        go_simp
        refine hkQ _ _ ?_
        clear hkQ kQ
        refine wl (by kernel_rfl) fun kQ hkQ => ?_
        go_simp
        refine hkQ _ _ ?_
        clear hkQ kQ
        refine wpList_nil ?_
        go_wp2_with fail
        go_roundw
        case rel => exact ⟨k + 1, n, ms, by omega, by omega, rfl, by go_num, HN, hS⟩
        case measure => simp [intOf]; omega
    · have hkz : ¬ (k : Int) < (bn : Int) := by omega
      have hn200 : n ≤ 200 := by omega
      clear hlt hk hnk
      go_upto_region 13 with fail
      clear hkz
      refine wp_region_lit ?_
      refine wl (by kernel_rfl) fun kQ hkQ => ?_
      go_simp
      refine hkQ _ _ ?_
      clear hkQ kQ
      refine wl (by kernel_rfl) fun kQ hkQ => ?_
      go_simp
      refine (list_any w [] _ gb mb n ms [] _ hS rfl (Nat.le_refl _) (by omega)).mono ?_
      clear hS
      rintro e w61 ⟨q, rfl, hqp, R, hR, hS⟩
      refine hkQ _ _ ?_
      clear hkQ kQ
      rw [List.append_nil, List.nil_append] at hS
      obtain ⟨qa, qn, qc, qx⟩ := q
      simp only at hqp hR hS
      have hqn : qx.length = qn := hR.1
      have eqn : qn = n := by
        have h9 := congrArg List.length hqp
        rw [List.length_map, List.length_map, (unhide HN).2, hqn] at h9
        exact h9
      subst eqn
      simp only [Sx.v]
      refine wl (by kernel_rfl) fun kQ hkQ => ?_
      go_simp
      refine hkQ _ _ ?_
      clear hkQ kQ
      refine wpList_nil ?_
      obtain ⟨P, hP⟩ : ∃ P, qx.map Ms.p = P := ⟨_, rfl⟩
      have hPl : P.length = qn := by rw [← hP, List.length_map]; exact hqn
      have hNP : NumA P := by rw [← hP, hqp]; exact (unhide HN).1
      have hms0 : ms.map Ms.p = lfT P (List.replicate qn false) := by rw [lfT_none, ← hqp, hP]
      have HP := hide hP
      have HPL := hide hPl
      have HNP := hide hNP
      have HMS := hide hms0
      have HQN := hide hqn
      have hmk : qn ≤ 1048576 := by omega
      clear hqp hP hPl hNP hms0 hqn HN
      go_upto_region 14 with fail
      refine wp_region_lit ?_
      refine wl (by kernel_rfl) fun kQ hkQ => ?_
      go_simp
      refine hkQ _ _ ?_
      clear hkQ kQ
      refine wl (by kernel_rfl) fun kQ hkQ => ?_
      go_simp
      refine hkQ _ _ ?_
      clear hkQ kQ
      refine wl (by kernel_rfl) fun kQ hkQ => ?_
      go_simp
      refine hkQ _ _ ?_
      clear hkQ kQ
      refine wl (by kernel_rfl) fun kQ hkQ => ?_
      go_simp
      refine hkQ _ _ ?_
      clear hkQ kQ
      refine wpList_nil ?_
      go_upto_region 16 with fail
      refine wp_region_lit ?_
      refine wl (by kernel_rfl) fun kQ hkQ => ?_
      go_simp
      refine hkQ _ _ ?_
      clear hkQ kQ
      refine wl_make24 (by kernel_rfl) (.tmp 84) (.tmp 84) rfl qn rfl rfl hmk hS ?_
      clear hS
      intro gt w62 hS
      simp [Act.put]
      refine wl (by kernel_rfl) fun kQ hkQ => ?_
      go_simp
      refine hkQ _ _ ?_
      clear hkQ kQ
      refine wpList_nil ?_
      go_wp2_with fail
      go_loopw [12] (fun vi wr => ∃ (k : Nat) (tk : List Bool) (ms : List Ms), k ≤ on + qn ∧ vi = .int .i64 k ∧ Hid (tk.length = qn ∧ ms.map Ms.p = lfT P tk ∧ ∀ j, j < qn → on + j < k → tk.getD j false = true) ∧ Hs17 w ((gt, 4, tk.flatMap bC) :: R) (BagW w.heap.size gb mb ms qx qn) wr) (fun vi _ => on + qn - (intOf vi).toNat)
      case atStart => exact ⟨0, _, ms, by omega, rfl, hide ⟨List.length_replicate .., unhide HMS, fun j _ h => by omega⟩, hS⟩
      case round =>
        clear hS
        clear HMS
        obtain ⟨k, tk, ms, hk, rfl, HT, hS⟩ := hrel
        have e0 : IntKind.i64.wrap ((on : Int) + (qn : Int)) = ((on + qn : Nat) : Int) := by rw [show (on : Int) + (qn : Int) = ((on + qn : Nat) : Int) by omega]; exact wi_of24 (by omega) (by omega)
        obtain ⟨tot, htot⟩ : ∃ tot : Nat, on + qn = tot := ⟨_, rfl⟩
        rw [htot] at e0
        have HTOT := hide htot
        by_cases hlt : k < tot
        · have hkz : (k : Int) < (tot : Int) := by omega
          have hkb : k < 400 := by omega
          clear htot hk
          obtain ⟨d, hd⟩ : ∃ d : Int, (k : Int) - (on : Int) = d := ⟨_, rfl⟩
          obtain ⟨d1, hd1⟩ : ∃ d1 : Int, d + 1 = d1 := ⟨_, rfl⟩
          have e1 : IntKind.i64.wrap ((k : Int) - (on : Int)) = d := by rw [hd]; exact wi_of24 (by omega) (by omega)
          have e2 : IntKind.i64.wrap (d + 1) = d1 := by rw [hd1]; exact wi_of24 (by omega) (by omega)
          have HD : Hid ((k : Int) - (on : Int) + 1 = d1) := hide (by omega)
          clear hd hd1
          by_cases hko : k < on
          · have hkoz : (k : Int) < (on : Int) := by omega
            obtain ⟨z, hz0⟩ : ∃ z, ox[k]? = some z := ⟨_, List.getElem?_eq_getElem (by have := (unhide HO).len; simp only at this; omega)⟩
            have hz := unhide HOZ z (List.mem_of_getElem? hz0)
            obtain ⟨ob, oo, hoa, hol, hor⟩ := Sx.Ok.at_ (unhide HO) (i := k) hz0
            have hoa' : oa = some ⟨ob, oo, none⟩ := hoa
            subst hoa'
            have HCZ : Hid (∀ v, Below w.heap.size w v → v.cell? ⟨ob, oo + k, none⟩ = some (.int .i64 z)) := hide (fun v hv => by
              have h9 := rangeAt_old hor hol (Old.of hv)
              have := h9 0 _ rfl
              simpa using this)
            have HZ : Hid (on ≤ k → z = ((k - on : Nat) : Int) + 1) := hide (fun h => by omega)
            clear hoa hz0 hol hor hko
            go_upto_region 20 with fail
            clear hkz
            refine wp_region_lit ?_
            refine wl (by kernel_rfl) fun kQ hkQ => ?_
            go_simp
            refine hkQ _ _ ?_
            clear hkQ kQ
            refine wl (by kernel_rfl) fun kQ hkQ => ?_
            go_simp
            refine hkQ _ _ ?_
            clear hkQ kQ
            refine wl (by kernel_rfl) fun kQ hkQ => ?_
            go_simp
            refine hkQ _ _ ?_
            clear hkQ kQ
            refine wl (by kernel_rfl) fun kQ hkQ => ?_
            go_simp
            refine hkQ _ _ ?_
            clear hkQ kQ
            refine wl (by kernel_rfl) fun kQ hkQ => ?_
            go_simp
            refine hkQ _ _ ?_
            clear hkQ kQ
            refine wl (by kernel_rfl) fun kQ hkQ => ?_
            go_simp
            refine hkQ _ _ ?_
            clear hkQ kQ
            refine wpList_nil ?_
            clear e0 e1 e2
            go_upto_region 21 with fail
            refine wp_region_lit ?_
            refine wl (by kernel_rfl) fun kQ hkQ => ?_
            go_simp
            refine hkQ _ _ ?_
            clear hkQ kQ
            refine wl (by kernel_rfl) fun kQ hkQ => ?_
            go_simp
            refine hkQ _ _ ?_
            clear hkQ kQ
            refine wl (by kernel_rfl) fun kQ hkQ => ?_
            go_simp
            refine hkQ _ _ ?_
            clear hkQ kQ
            refine wl (by kernel_rfl) fun kQ hkQ => ?_
            go_simp
            refine hkQ _ _ ?_
            clear hkQ kQ
            refine wpList_nil ?_
            go_upto_region 22 with fail
            have hkoz2 := hkoz
            refine wp_region_lit ?_
            refine wl (by kernel_rfl) fun kQ hkQ => ?_
            go_simp
            refine hkQ _ _ ?_
            clear hkQ kQ
            refine wl (by kernel_rfl) fun kQ hkQ => ?_
            go_simp
            refine hkQ _ _ ?_
            clear hkQ kQ
            refine wl (by kernel_rfl) fun kQ hkQ => ?_
            go_simp
            refine hkQ _ _ ?_
            clear hkQ kQ
            refine wl_loadC (by kernel_rfl) 3 (.tmp 105) rfl ob (oo + k) rfl (.int .i64 z) (unhide HCZ _ hS.bel) Try.underlying3 rfl ?_
            simp [Act.put]
            refine wl (by kernel_rfl) fun kQ hkQ => ?_
            go_simp
            refine hkQ _ _ ?_
            clear hkQ kQ
            refine wpList_nil ?_
            clear hkoz hkoz2 HCZ
            go_upto_region 23 with fail
            have HVN : Hid ((lkV ms z).s.n ≤ 1048576) := hide (by have := (hS.K.body z).2.1; omega)
            refine wp_region_lit ?_
            refine wl (by kernel_rfl) fun kQ hkQ => ?_
            go_simp
            refine hkQ _ _ ?_
            clear hkQ kQ
            refine wl (by kernel_rfl) fun kQ hkQ => ?_
            go_simp
            refine hkQ _ _ ?_
            clear hkQ kQ
            refine wl (by kernel_rfl) fun kQ hkQ => ?_
            go_simp
            refine (take_any w _ _ gb mb qn ms qx _ hS (NoB.cons rfl (hR.noB rfl)) (Nat.le_refl _) z hz).mono ?_
            clear hS
            rintro e w81 ⟨rfl, hS⟩
            refine hkQ _ _ ?_
            clear hkQ kQ
            refine wl (by kernel_rfl) fun kQ hkQ => ?_
            go_simp
            refine hkQ _ _ ?_
            clear hkQ kQ
            refine wl (by kernel_rfl) fun kQ hkQ => ?_
            go_simp
            refine hkQ _ _ ?_
            clear hkQ kQ
            refine wl (by kernel_rfl) fun kQ hkQ => ?_
            go_simp
            refine hkQ _ _ ?_
            clear hkQ kQ
            refine wl_alloc (by kernel_rfl) 32 rfl (msC 0 0 0 (.slice none 0 0)) Try.inD hS ?_
            clear hS
            intro g82 w82 hS
            simp [Act.put]
            refine wl_store (by kernel_rfl) 32 (.tmp 14) (.tmp 111) rfl 0 rfl 0 rfl (msC ((lkV ms z).i) ((lkV ms z).f) ((lkV ms z).t) ((lkV ms z).s.v)) (msC ((lkV ms z).i) ((lkV ms z).f) ((lkV ms z).t) ((lkV ms z).s.v)) (pt_D 0 0 0 (.slice none 0 0) ((lkV ms z).i) ((lkV ms z).f) ((lkV ms z).t) ((lkV ms z).s.v)) rfl (sz_D _ _ _ _) (one_D _ _ _ rfl) hS ?_
            clear hS
            intro w83 hS
            change Hs17 w ((g82, 32, (msC ((lkV ms z).i) ((lkV ms z).f) ((lkV ms z).t) ((lkV ms z).s.v))) :: (gt, 4, (tk.flatMap bC)) :: R) (BagW w.heap.size gb mb (dlM ms z) (lkV ms z :: qx) qn) w83 at hS
            simp [Act.put]
            refine wl (by kernel_rfl) fun kQ hkQ => ?_
            go_simp
            refine hkQ _ _ ?_
            clear hkQ kQ
            refine wpList_nil ?_
            have hlk : lkB ms z = decide (1 ≤ z ∧ z ≤ (qn : Int) ∧ tk.getD (z - 1).toNat false = false) := by
              rw [← lkB_p, (unhide HT).2.1, pB_lfT (unhide HNP), unhide HPL]
            by_cases ha : 1 ≤ z ∧ z ≤ (qn : Int) ∧ tk.getD (z - 1).toNat false = false
            · skip
              obtain ⟨j, hj⟩ : ∃ j : Nat, z = (j : Int) + 1 := ⟨(z - 1).toNat, by omega⟩
              have hjq : j < qn := by omega
              have hjz : (j : Int) < (qn : Int) := by omega
              have htj : tk.getD j false = false := by have := ha.2.2; rw [hj] at this; have e : ((j : Int) + 1 - 1).toNat = j := by omega
                                                       rw [e] at this; exact this
              have ha1 : ¬ z < 1 := by omega
              have ha2 : ¬ (qn : Int) < z := by omega
              have e3 : IntKind.i64.wrap (z - 1) = (j : Int) := by rw [show z - 1 = (j : Int) by omega]; exact wi_of24 (by omega) (by omega)
              have hb : lkB ms z = true := by rw [hlk, decide_eq_true ha]
              rw [if_pos hb] at *
              obtain ⟨x, hx⟩ : ∃ x, qx[j]? = some x := ⟨_, List.getElem?_eq_getElem (by rw [unhide HQN]; exact hjq)⟩
              have hxm := List.mem_of_getElem? hx
              have hPx : P[j]? = some x.p := by rw [← unhide HP, List.getElem?_map, hx]; rfl
              have hvx : (lkV ms z).p = x.p := by
                rw [← lkV_p, (unhide HT).2.1, hj]
                exact pV_lfT (unhide HNP) tk hPx htj
              have hnew : Hid ((tk.set j true).length = qn ∧ (dlM ms z).map Ms.p = lfT P (tk.set j true) ∧ ∀ i, i < qn → on + i < k + 1 → (tk.set j true).getD i false = true) := by
                obtain ⟨t1, t2, t3⟩ := unhide HT
                refine hide ⟨by rw [List.length_set]; exact t1, ?_, fun i hi hik => ?_⟩
                · rw [dlM_p, t2, hj]
                  exact pD_lfT (unhide HNP) (by rw [t1, unhide HPL]) (by rw [unhide HPL]; exact hjq)
                · rw [getD_set24 tk j i (by omega)]
                  by_cases hij : j = i
                  · rw [if_pos hij]
                  · rw [if_neg hij]
                    by_cases hlast : on + i < k
                    · exact t3 i hi hlast
                    · exact absurd (unhide HZ (by omega)) (by omega)
              have HJ := hide hj
              have HTJ := hide htj
              have HTL := hide (unhide HT).1
              have hx9 := hx
              clear ha hb hlk hx hPx hj htj
              go_upto_region 24 with fail
              refine wp_region_lit ?_
              refine wl (by kernel_rfl) fun kQ hkQ => ?_
              go_simp
              refine hkQ _ _ ?_
              clear hkQ kQ
              refine wl (by kernel_rfl) fun kQ hkQ => ?_
              go_simp
              refine hkQ _ _ ?_
              clear hkQ kQ
              refine wl (by kernel_rfl) fun kQ hkQ => ?_
              go_simp
              refine hkQ _ _ ?_
              clear hkQ kQ
              refine wl (by kernel_rfl) fun kQ hkQ => ?_
              go_simp
              refine hkQ _ _ ?_
              clear hkQ kQ
              refine wl (by kernel_rfl) fun kQ hkQ => ?_
              go_simp
              refine hkQ _ _ ?_
              clear hkQ kQ
              refine wl (by kernel_rfl) fun kQ hkQ => ?_
              go_simp
              refine hkQ _ _ ?_
              clear hkQ kQ
              refine wl (by kernel_rfl) fun kQ hkQ => ?_
              go_simp
              refine hkQ _ _ ?_
              clear hkQ kQ
              refine wl (by kernel_rfl) fun kQ hkQ => ?_
              go_simp
              refine hkQ _ _ ?_
              clear hkQ kQ
              refine wl (by kernel_rfl) fun kQ hkQ => ?_
              go_simp
              refine hkQ _ _ ?_
              clear hkQ kQ
              refine wl (by kernel_rfl) fun kQ hkQ => ?_
              go_simp
              refine hkQ _ _ ?_
              clear hkQ kQ
              refine wl (by kernel_rfl) fun kQ hkQ => ?_
              go_simp
              refine hkQ _ _ ?_
              clear hkQ kQ
              refine wl (by kernel_rfl) fun kQ hkQ => ?_
              go_simp
              refine hkQ _ _ ?_
              clear hkQ kQ
              refine wl_load1 (by kernel_rfl) 4 (.tmp 124) rfl 1 rfl j rfl (.bool false) (at_b24 (by rw [unhide HTL]; exact hjq) (unhide HTJ)) Try.underlying4 rfl hS ?_
              simp [Act.put]
              refine wl (by kernel_rfl) fun kQ hkQ => ?_
              go_simp
              refine hkQ _ _ ?_
              clear hkQ kQ
              refine wpList_nil ?_
              go_upto_region 27 with fail
              refine wp_region_lit ?_
              refine wl (by kernel_rfl) fun kQ hkQ => ?_
              go_simp
              refine hkQ _ _ ?_
              clear hkQ kQ
              refine wl (by kernel_rfl) fun kQ hkQ => ?_
              go_simp
              refine hkQ _ _ ?_
              clear hkQ kQ
              refine wl (by kernel_rfl) fun kQ hkQ => ?_
              go_simp
              refine hkQ _ _ ?_
              clear hkQ kQ
              refine wl (by kernel_rfl) fun kQ hkQ => ?_
              go_simp
              refine hkQ _ _ ?_
              clear hkQ kQ
              refine wl_store (by kernel_rfl) 4 (.tmp 132) (.const (.bool true)) rfl 1 rfl j rfl [.bool true] ((tk.set j true).flatMap bC) (pt_b24 (by rw [unhide HTL]; exact hjq) true) rfl Try.j1b (one_one rfl) hS ?_
              clear hS
              intro w84 hS
              change Hs17 w ((g82, 32, (msC ((lkV ms z).i) ((lkV ms z).f) ((lkV ms z).t) ((lkV ms z).s.v))) :: (gt, 4, ((tk.set j true).flatMap bC)) :: R) (BagW w.heap.size gb mb (dlM ms z) (lkV ms z :: qx) qn) w84 at hS
              simp [Act.put]
              refine wpList_nil ?_
              obtain ⟨lb, lo, hqa, -, hlr⟩ := Sx.Ok.at_ (RowG.sx24 hR (fun x _ => mC_len x) (fun p hp => by simp [hp]) hS) (i := j) hx9
              have hqa' : qa = some ⟨lb, lo, none⟩ := hqa
              subst hqa'
              have hfb : ∀ v, Hs17 w ((g82, 32, (msC ((lkV ms z).i) ((lkV ms z).f) ((lkV ms z).t) ((lkV ms z).s.v))) :: (gt, 4, ((tk.set j true).flatMap bC)) :: R) (BagW w.heap.size gb mb (dlM ms z) (lkV ms z :: qx) qn) v → v.rangeAt lb (lo + j * 4) (mC x) := fun v hv => by
                obtain ⟨b2, o2, e2, -, hr2⟩ := Sx.Ok.at_ (RowG.sx24 hR (fun x _ => mC_len x) (fun p hp => by simp [hp]) hv) (i := j) hx9
                simp only [Option.some.injEq, Addr.mk.injEq] at e2
                obtain ⟨rfl, rfl, -⟩ := e2
                exact hr2
              have hSM : ∀ v, Hs17 w ((g82, 32, (msC ((lkV ms z).i) ((lkV ms z).f) ((lkV ms z).t) ((lkV ms z).s.v))) :: (gt, 4, ((tk.set j true).flatMap bC)) :: R) (BagW w.heap.size gb mb (dlM ms z) (lkV ms z :: qx) qn) v → Calls Try.prog 12 #[aV (mC (lkV ms z)), aV (mC x)] v fun e w' => e = .returned (.bool true) ∧ Below v.heap.size v w' := fun v hv => by
                have q1 := Ou.ok (hv.K.g.bd (lkV ms z) (by simp))
                have q2 := Ou.ok (hv.K.g.bd x (by simp [hxm]))
                have q3 : (lkV ms z).s.n ≤ 1048576 := unhide HVN
                revert q1 q2 q3 hvx
                generalize lkV ms z = y
                obtain ⟨i, f, t, s⟩ := y
                obtain ⟨i', f', t', s'⟩ := x
                intro hvx q1 q2 q3
                simp only [Ms.p, Pm.mk.injEq] at hvx
                obtain ⟨rfl, rfl, rfl, hxs⟩ := hvx
                exact sameM_t i f t s s' v q1 q2 q3 hxs
              clear hqa hlr hx9 hxm
              go_upto_region 28 with fail
              refine wp_region_noPanic ?_
              replace hS := hS.drew
              refine wp_region_held_drew (S := Hs17 w ((g82, 32, (msC ((lkV ms z).i) ((lkV ms z).f) ((lkV ms z).t) ((lkV ms z).s.v))) :: (gt, 4, ((tk.set j true).flatMap bC)) :: R) (BagW w.heap.size gb mb (dlM ms z) (lkV ms z :: qx) qn)) (by kernel_rfl) hS (fun hHeld => ?_)
              generalize World.drew _ = w85 at hS hHeld ⊢
              refine wpAnyH_take (i := 0) (oi := _) (v := .int .i64 0) rfl (by kernel_rfl) (by kernel_rfl) (by kernel_rfl) (fun _ _ _ h => h) (Or.inl ⟨by rfl, fun w hSw => by go_simp⟩) hHeld ?_
              simp [Act.put]
              refine wpAnyH_take (i := 1) (oi := _) (v := .bool false) rfl (by kernel_rfl) (by kernel_rfl) (by kernel_rfl) (fun _ _ _ h => h) (Or.inl ⟨by rfl, fun w hSw => by go_simp⟩) hHeld ?_
              simp [Act.put]
              refine wpAnyH_take (i := 2) (oi := _) (v := .bool false) rfl (by kernel_rfl) (by kernel_rfl) (by kernel_rfl) (fun _ _ _ h => h) (Or.inl ⟨by rfl, fun w hSw => by go_simp⟩) hHeld ?_
              simp [Act.put]
              refine wpAnyH_take (i := 3) (oi := _) (v := aV (msC ((lkV ms z).i) ((lkV ms z).f) ((lkV ms z).t) ((lkV ms z).s.v))) rfl (by kernel_rfl) (by kernel_rfl) (by kernel_rfl) (fun _ _ _ h => h) (yl_load (by kernel_rfl) 32 (.tmp 14) rfl 0 rfl 0 rfl (msC ((lkV ms z).i) ((lkV ms z).f) ((lkV ms z).t) ((lkV ms z).s.v)) (At.self _) Try.underlying32 rfl (sz_D _ _ _ _)) hHeld ?_
              simp [Act.put]
              refine wpAnyH_take (i := 4) (oi := _) (v := (.slice (some ⟨lb, lo, none⟩) qn qc)) rfl (by kernel_rfl) (by kernel_rfl) (by kernel_rfl) (fun _ _ _ h => h) (Or.inl ⟨by rfl, fun w hSw => by go_simp⟩) hHeld ?_
              simp [Act.put]
              refine wpAnyH_take (i := 5) (oi := _) (v := .int .i64 z) rfl (by kernel_rfl) (by kernel_rfl) (by kernel_rfl) (fun _ _ _ h => h) (Or.inl ⟨by rfl, fun w hSw => by go_simp⟩) hHeld ?_
              simp [Act.put]
              refine wpAnyH_take (i := 6) (oi := _) (v := .int .i64 (j : Int)) rfl (by kernel_rfl) (by kernel_rfl) (by kernel_rfl) (fun _ _ _ h => h) (Or.inl ⟨by rfl, fun w hSw => by go_simp⟩) hHeld ?_
              simp [Act.put]
              refine wpAnyH_take (i := 7) (oi := _) (v := (.pointer (some ⟨lb, lo + j * 4, none⟩))) rfl (by kernel_rfl) (by kernel_rfl) (by kernel_rfl) (fun _ _ _ h => h) (Or.inl ⟨by rfl, fun w hSw => by go_simp⟩) hHeld ?_
              simp [Act.put]
              refine wpAnyH_take (i := 8) (oi := _) (v := aV (msC x.i x.f x.t x.s.v)) rfl (by kernel_rfl) (by kernel_rfl) (by kernel_rfl) (fun _ _ _ h => h) (yl_loadR (by kernel_rfl) 32 (.tmp 140) rfl lb (lo + j * 4) rfl (msC x.i x.f x.t x.s.v) (fun w hSw => hfb _ hSw) Try.underlying32 rfl (sz_D _ _ _ _)) hHeld ?_
              simp [Act.put]
              refine wpAnyH_ready (rs := [9]) (by kernel_rfl) (by simp) ?_
              refine (AllReadyH.cons rfl (fun kQ hkQ => ?_) AllReadyH.nil)
              go_simp
              refine (hSM _ hS).mono ?_
              rintro e w86 ⟨rfl, hb1⟩
              replace hS := hS.later hb1
              clear hHeld hb1
              refine hkQ.out _ _ hS (fun hHeld => ?_)
              clear hkQ kQ
              refine wpAnyH_take (i := 10) (oi := _) (v := .bool false) rfl (by kernel_rfl) (by kernel_rfl) (by kernel_rfl) (fun _ _ _ h => h) (Or.inl ⟨by rfl, fun w hSw => by go_simp⟩) hHeld ?_
              simp [Act.put]
              refine wpAnyH_take (i := 11) (oi := _) (v := .bool false) rfl (by kernel_rfl) (by kernel_rfl) (by kernel_rfl) (fun _ _ _ h => h) (Or.inl ⟨by rfl, fun w hSw => by go_simp⟩) hHeld ?_
              simp [Act.put]
              refine wpAnyH_done (by kernel_rfl) ?_ _
              unfold NoPanic
              clear hHeld
              replace hS := hS.sub ((((List.Sublist.refl _)).cons_cons _).cons _)
              replace hS := hS.fewer (List.sublist_cons_self _ _)
              have htot := unhide HTOT
              go_wp2_with fail
              go_roundw
              case rel => exact ⟨k + 1, tk.set j true, dlM ms z, by omega, by go_num, hnew, hS⟩
              case measure => simp [intOf]; omega
            · skip
              have hb : lkB ms z = false := by rw [hlk, decide_eq_false ha]
              have hdl := dl_no hb
              have hb' : ¬ lkB ms z = true := by rw [hb]; simp
              rw [if_neg hb']
              rw [hdl] at hS
              have hnew : Hid (tk.length = qn ∧ ms.map Ms.p = lfT P tk ∧ ∀ i, i < qn → on + i < k + 1 → tk.getD i false = true) := by
                obtain ⟨t1, t2, t3⟩ := unhide HT
                refine hide ⟨t1, t2, fun i hi hik => ?_⟩
                by_cases hlast : on + i < k
                · exact t3 i hi hlast
                · have hzi := unhide HZ (by omega)
                  cases hq : tk.getD i false with
                  | true => rfl
                  | false =>
                    refine absurd ⟨?_, ?_, ?_⟩ ha
                    · omega
                    · omega
                    · have e : (z - 1).toNat = i := by omega
                      rw [e]; exact hq
              have HTL := hide (unhide HT).1
              clear hb hb' hlk hdl
              by_cases ha1 : z < 1
              · clear ha
                go_upto_region 24 with fail
                refine wp_region_lit ?_
                refine wl (by kernel_rfl) fun kQ hkQ => ?_
                go_simp
                refine hkQ _ _ ?_
                clear hkQ kQ
                refine wl (by kernel_rfl) fun kQ hkQ => ?_
                go_simp
                refine hkQ _ _ ?_
                clear hkQ kQ
                refine wl (by kernel_rfl) fun kQ hkQ => ?_
                go_simp
                refine hkQ _ _ ?_
                clear hkQ kQ
                refine wl_skip (by kernel_rfl) ?_
                simp [Act.put]
                refine wl_skip (by kernel_rfl) ?_
                simp [Act.put]
                refine wl_skip (by kernel_rfl) ?_
                simp [Act.put]
                refine wl (by kernel_rfl) fun kQ hkQ => ?_
                go_simp
                refine hkQ _ _ ?_
                clear hkQ kQ
                refine wl (by kernel_rfl) fun kQ hkQ => ?_
                go_simp
                refine hkQ _ _ ?_
                clear hkQ kQ
                refine wl_skip (by kernel_rfl) ?_
                simp [Act.put]
                refine wl_skip (by kernel_rfl) ?_
                simp [Act.put]
                refine wl_skip (by kernel_rfl) ?_
                simp [Act.put]
                refine wl_skip (by kernel_rfl) ?_
                simp [Act.put]
                refine wl_skip (by kernel_rfl) ?_
                simp [Act.put]
                refine wl (by kernel_rfl) fun kQ hkQ => ?_
                go_simp
                refine hkQ _ _ ?_
                clear hkQ kQ
                refine wpList_nil ?_
                go_upto_region 25 with fail
                refine wp_region_lit ?_
                refine wl (by kernel_rfl) fun kQ hkQ => ?_
                go_simp
                refine hkQ _ _ ?_
                clear hkQ kQ
                refine wl (by kernel_rfl) fun kQ hkQ => ?_
                go_simp
                refine hkQ _ _ ?_
                clear hkQ kQ
                refine wpList_nil ?_
                replace hS := hS.sub ((((List.Sublist.refl _)).cons_cons _).cons _)
                replace hS := hS.fewer (List.sublist_cons_self _ _)
                have htot := unhide HTOT
                go_wp2_with fail
                go_roundw
                case rel => exact ⟨k + 1, tk, ms, by omega, by go_num, hnew, hS⟩
                case measure => simp [intOf]; omega
              by_cases ha2 : (qn : Int) < z
              · clear ha
                go_upto_region 24 with fail
                refine wp_region_lit ?_
                refine wl (by kernel_rfl) fun kQ hkQ => ?_
                go_simp
                refine hkQ _ _ ?_
                clear hkQ kQ
                refine wl (by kernel_rfl) fun kQ hkQ => ?_
                go_simp
                refine hkQ _ _ ?_
                clear hkQ kQ
                refine wl (by kernel_rfl) fun kQ hkQ => ?_
                go_simp
                refine hkQ _ _ ?_
                clear hkQ kQ
                refine wl (by kernel_rfl) fun kQ hkQ => ?_
                go_simp
                refine hkQ _ _ ?_
                clear hkQ kQ
                refine wl (by kernel_rfl) fun kQ hkQ => ?_
                go_simp
                refine hkQ _ _ ?_
                clear hkQ kQ
                refine wl (by kernel_rfl) fun kQ hkQ => ?_
                go_simp
                refine hkQ _ _ ?_
                clear hkQ kQ
                refine wl (by kernel_rfl) fun kQ hkQ => ?_
                go_simp
                refine hkQ _ _ ?_
                clear hkQ kQ
                refine wl (by kernel_rfl) fun kQ hkQ => ?_
                go_simp
                refine hkQ _ _ ?_
                clear hkQ kQ
                refine wl_skip (by kernel_rfl) ?_
                simp [Act.put]
                refine wl_skip (by kernel_rfl) ?_
                simp [Act.put]
                refine wl_skip (by kernel_rfl) ?_
                simp [Act.put]
                refine wl_skip (by kernel_rfl) ?_
                simp [Act.put]
                refine wl_skip (by kernel_rfl) ?_
                simp [Act.put]
                refine wl (by kernel_rfl) fun kQ hkQ => ?_
                go_simp
                refine hkQ _ _ ?_
                clear hkQ kQ
                refine wpList_nil ?_
                go_upto_region 25 with fail
                refine wp_region_lit ?_
                refine wl (by kernel_rfl) fun kQ hkQ => ?_
                go_simp
                refine hkQ _ _ ?_
                clear hkQ kQ
                refine wl (by kernel_rfl) fun kQ hkQ => ?_
                go_simp
                refine hkQ _ _ ?_
                clear hkQ kQ
                refine wpList_nil ?_
                replace hS := hS.sub ((((List.Sublist.refl _)).cons_cons _).cons _)
                replace hS := hS.fewer (List.sublist_cons_self _ _)
                have htot := unhide HTOT
                go_wp2_with fail
                go_roundw
                case rel => exact ⟨k + 1, tk, ms, by omega, by go_num, hnew, hS⟩
                case measure => simp [intOf]; omega
              obtain ⟨j, hj⟩ : ∃ j : Nat, z = (j : Int) + 1 := ⟨(z - 1).toNat, by omega⟩
              have hjq : j < qn := by omega
              have hjz : (j : Int) < (qn : Int) := by omega
              have e3 : IntKind.i64.wrap (z - 1) = (j : Int) := by rw [show z - 1 = (j : Int) by omega]; exact wi_of24 (by omega) (by omega)
              have HTJ : Hid (tk.getD j false = true) := by
                cases hq : tk.getD j false with
                | true => exact hide rfl
                | false =>
                  refine absurd ⟨by omega, by omega, ?_⟩ ha
                  have e : (z - 1).toNat = j := by omega
                  rw [e]; exact hq
              clear ha hj
              go_upto_region 24 with fail
              refine wp_region_lit ?_
              refine wl (by kernel_rfl) fun kQ hkQ => ?_
              go_simp
              refine hkQ _ _ ?_
              clear hkQ kQ
              refine wl (by kernel_rfl) fun kQ hkQ => ?_
              go_simp
              refine hkQ _ _ ?_
              clear hkQ kQ
              refine wl (by kernel_rfl) fun kQ hkQ => ?_
              go_simp
              refine hkQ _ _ ?_
              clear hkQ kQ
              refine wl (by kernel_rfl) fun kQ hkQ => ?_
              go_simp
              refine hkQ _ _ ?_
              clear hkQ kQ
              refine wl (by kernel_rfl) fun kQ hkQ => ?_
              go_simp
              refine hkQ _ _ ?_
              clear hkQ kQ
              refine wl (by kernel_rfl) fun kQ hkQ => ?_
              go_simp
              refine hkQ _ _ ?_
              clear hkQ kQ
              refine wl (by kernel_rfl) fun kQ hkQ => ?_
              go_simp
              refine hkQ _ _ ?_
              clear hkQ kQ
              refine wl (by kernel_rfl) fun kQ hkQ => ?_
              go_simp
              refine hkQ _ _ ?_
              clear hkQ kQ
              refine wl (by kernel_rfl) fun kQ hkQ => ?_
              go_simp
              refine hkQ _ _ ?_
              clear hkQ kQ
              refine wl (by kernel_rfl) fun kQ hkQ => ?_
              go_simp
              refine hkQ _ _ ?_
              clear hkQ kQ
              refine wl (by kernel_rfl) fun kQ hkQ => ?_
              go_simp
              refine hkQ _ _ ?_
              clear hkQ kQ
              refine wl (by kernel_rfl) fun kQ hkQ => ?_
              go_simp
              refine hkQ _ _ ?_
              clear hkQ kQ
              refine wl_load1 (by kernel_rfl) 4 (.tmp 124) rfl 1 rfl j rfl (.bool true) (at_b24 (by rw [unhide HTL]; exact hjq) (unhide HTJ)) Try.underlying4 rfl hS ?_
              simp [Act.put]
              refine wl (by kernel_rfl) fun kQ hkQ => ?_
              go_simp
              refine hkQ _ _ ?_
              clear hkQ kQ
              refine wpList_nil ?_
              go_upto_region 25 with fail
              refine wp_region_lit ?_
              refine wl (by kernel_rfl) fun kQ hkQ => ?_
              go_simp
              refine hkQ _ _ ?_
              clear hkQ kQ
              refine wl (by kernel_rfl) fun kQ hkQ => ?_
              go_simp
              refine hkQ _ _ ?_
              clear hkQ kQ
              refine wpList_nil ?_
              replace hS := hS.sub ((((List.Sublist.refl _)).cons_cons _).cons _)
              replace hS := hS.fewer (List.sublist_cons_self _ _)
              have htot := unhide HTOT
              go_wp2_with fail
              go_roundw
              case rel => exact ⟨k + 1, tk, ms, by omega, by go_num, hnew, hS⟩
              case measure => simp [intOf]; omega
          · have hkoz : ¬ (k : Int) < (on : Int) := by omega
            have hz : I64 d1 := by have := unhide HD; unfold I64; omega
            have HZ : Hid (on ≤ k → d1 = ((k - on : Nat) : Int) + 1) := hide (fun h => by have := unhide HD; omega)
            clear hko
            go_upto_region 20 with fail
            clear hkz
            refine wp_region_lit ?_
            refine wl (by kernel_rfl) fun kQ hkQ => ?_
            go_simp
            refine hkQ _ _ ?_
            clear hkQ kQ
            refine wl (by kernel_rfl) fun kQ hkQ => ?_
            go_simp
            refine hkQ _ _ ?_
            clear hkQ kQ
            refine wl (by kernel_rfl) fun kQ hkQ => ?_
            go_simp
            refine hkQ _ _ ?_
            clear hkQ kQ
            refine wl (by kernel_rfl) fun kQ hkQ => ?_
            go_simp
            refine hkQ _ _ ?_
            clear hkQ kQ
            refine wl (by kernel_rfl) fun kQ hkQ => ?_
            go_simp
            refine hkQ _ _ ?_
            clear hkQ kQ
            refine wl (by kernel_rfl) fun kQ hkQ => ?_
            go_simp
            refine hkQ _ _ ?_
            clear hkQ kQ
            refine wpList_nil ?_
            clear e0 e1 e2
            go_upto_region 21 with fail
            refine wp_region_lit ?_
            refine wl (by kernel_rfl) fun kQ hkQ => ?_
            go_simp
            refine hkQ _ _ ?_
            clear hkQ kQ
            refine wl (by kernel_rfl) fun kQ hkQ => ?_
            go_simp
            refine hkQ _ _ ?_
            clear hkQ kQ
            refine wl (by kernel_rfl) fun kQ hkQ => ?_
            go_simp
            refine hkQ _ _ ?_
            clear hkQ kQ
            refine wl (by kernel_rfl) fun kQ hkQ => ?_
            go_simp
            refine hkQ _ _ ?_
            clear hkQ kQ
            refine wpList_nil ?_
            generalize d1 = z at *
            go_upto_region 23 with fail
            clear hkoz
            have HVN : Hid ((lkV ms z).s.n ≤ 1048576) := hide (by have := (hS.K.body z).2.1; omega)
            refine wp_region_lit ?_
            refine wl (by kernel_rfl) fun kQ hkQ => ?_
            go_simp
            refine hkQ _ _ ?_
            clear hkQ kQ
            refine wl (by kernel_rfl) fun kQ hkQ => ?_
            go_simp
            refine hkQ _ _ ?_
            clear hkQ kQ
            refine wl (by kernel_rfl) fun kQ hkQ => ?_
            go_simp
            refine (take_any w _ _ gb mb qn ms qx _ hS (NoB.cons rfl (hR.noB rfl)) (Nat.le_refl _) z hz).mono ?_
            clear hS
            rintro e w201 ⟨rfl, hS⟩
            refine hkQ _ _ ?_
            clear hkQ kQ
            refine wl (by kernel_rfl) fun kQ hkQ => ?_
            go_simp
            refine hkQ _ _ ?_
            clear hkQ kQ
            refine wl (by kernel_rfl) fun kQ hkQ => ?_
            go_simp
            refine hkQ _ _ ?_
            clear hkQ kQ
            refine wl (by kernel_rfl) fun kQ hkQ => ?_
            go_simp
            refine hkQ _ _ ?_
            clear hkQ kQ
            refine wl_alloc (by kernel_rfl) 32 rfl (msC 0 0 0 (.slice none 0 0)) Try.inD hS ?_
            clear hS
            intro g202 w202 hS
            simp [Act.put]
            refine wl_store (by kernel_rfl) 32 (.tmp 14) (.tmp 111) rfl 0 rfl 0 rfl (msC ((lkV ms z).i) ((lkV ms z).f) ((lkV ms z).t) ((lkV ms z).s.v)) (msC ((lkV ms z).i) ((lkV ms z).f) ((lkV ms z).t) ((lkV ms z).s.v)) (pt_D 0 0 0 (.slice none 0 0) ((lkV ms z).i) ((lkV ms z).f) ((lkV ms z).t) ((lkV ms z).s.v)) rfl (sz_D _ _ _ _) (one_D _ _ _ rfl) hS ?_
            clear hS
            intro w203 hS
            change Hs17 w ((g202, 32, (msC ((lkV ms z).i) ((lkV ms z).f) ((lkV ms z).t) ((lkV ms z).s.v))) :: (gt, 4, (tk.flatMap bC)) :: R) (BagW w.heap.size gb mb (dlM ms z) (lkV ms z :: qx) qn) w203 at hS
            simp [Act.put]
            refine wl (by kernel_rfl) fun kQ hkQ => ?_
            go_simp
            refine hkQ _ _ ?_
            clear hkQ kQ
            refine wpList_nil ?_
            have hlk : lkB ms z = decide (1 ≤ z ∧ z ≤ (qn : Int) ∧ tk.getD (z - 1).toNat false = false) := by
              rw [← lkB_p, (unhide HT).2.1, pB_lfT (unhide HNP), unhide HPL]
            by_cases ha : 1 ≤ z ∧ z ≤ (qn : Int) ∧ tk.getD (z - 1).toNat false = false
            · skip
              obtain ⟨j, hj⟩ : ∃ j : Nat, z = (j : Int) + 1 := ⟨(z - 1).toNat, by omega⟩
              have hjq : j < qn := by omega
              have hjz : (j : Int) < (qn : Int) := by omega
              have htj : tk.getD j false = false := by have := ha.2.2; rw [hj] at this; have e : ((j : Int) + 1 - 1).toNat = j := by omega
                                                       rw [e] at this; exact this
              have ha1 : ¬ z < 1 := by omega
              have ha2 : ¬ (qn : Int) < z := by omega
              have e3 : IntKind.i64.wrap (z - 1) = (j : Int) := by rw [show z - 1 = (j : Int) by omega]; exact wi_of24 (by omega) (by omega)
              have hb : lkB ms z = true := by rw [hlk, decide_eq_true ha]
              rw [if_pos hb] at *
              obtain ⟨x, hx⟩ : ∃ x, qx[j]? = some x := ⟨_, List.getElem?_eq_getElem (by rw [unhide HQN]; exact hjq)⟩
              have hxm := List.mem_of_getElem? hx
              have hPx : P[j]? = some x.p := by rw [← unhide HP, List.getElem?_map, hx]; rfl
              have hvx : (lkV ms z).p = x.p := by
                rw [← lkV_p, (unhide HT).2.1, hj]
                exact pV_lfT (unhide HNP) tk hPx htj
              have hnew : Hid ((tk.set j true).length = qn ∧ (dlM ms z).map Ms.p = lfT P (tk.set j true) ∧ ∀ i, i < qn → on + i < k + 1 → (tk.set j true).getD i false = true) := by
                obtain ⟨t1, t2, t3⟩ := unhide HT
                refine hide ⟨by rw [List.length_set]; exact t1, ?_, fun i hi hik => ?_⟩
                · rw [dlM_p, t2, hj]
                  exact pD_lfT (unhide HNP) (by rw [t1, unhide HPL]) (by rw [unhide HPL]; exact hjq)
                · rw [getD_set24 tk j i (by omega)]
                  by_cases hij : j = i
                  · rw [if_pos hij]
                  · rw [if_neg hij]
                    by_cases hlast : on + i < k
                    · exact t3 i hi hlast
                    · exact absurd (unhide HZ (by omega)) (by omega)
              have HJ := hide hj
              have HTJ := hide htj
              have HTL := hide (unhide HT).1
              have hx9 := hx
              clear ha hb hlk hx hPx hj htj
              go_upto_region 24 with fail
              refine wp_region_lit ?_
              refine wl (by kernel_rfl) fun kQ hkQ => ?_
              go_simp
              refine hkQ _ _ ?_
              clear hkQ kQ
              refine wl (by kernel_rfl) fun kQ hkQ => ?_
              go_simp
              refine hkQ _ _ ?_
              clear hkQ kQ
              refine wl (by kernel_rfl) fun kQ hkQ => ?_
              go_simp
              refine hkQ _ _ ?_
              clear hkQ kQ
              refine wl (by kernel_rfl) fun kQ hkQ => ?_
              go_simp
              refine hkQ _ _ ?_
              clear hkQ kQ
              refine wl (by kernel_rfl) fun kQ hkQ => ?_
              go_simp
              refine hkQ _ _ ?_
              clear hkQ kQ
              refine wl (by kernel_rfl) fun kQ hkQ => ?_
              go_simp
              refine hkQ _ _ ?_
              clear hkQ kQ
              refine wl (by kernel_rfl) fun kQ hkQ => ?_
              go_simp
              refine hkQ _ _ ?_
              clear hkQ kQ
              refine wl (by kernel_rfl) fun kQ hkQ => ?_
              go_simp
              refine hkQ _ _ ?_
              clear hkQ kQ
              refine wl (by kernel_rfl) fun kQ hkQ => ?_
              go_simp
              refine hkQ _ _ ?_
              clear hkQ kQ
              refine wl (by kernel_rfl) fun kQ hkQ => ?_
              go_simp
              refine hkQ _ _ ?_
              clear hkQ kQ
              refine wl (by kernel_rfl) fun kQ hkQ => ?_
              go_simp
              refine hkQ _ _ ?_
              clear hkQ kQ
              refine wl (by kernel_rfl) fun kQ hkQ => ?_
              go_simp
              refine hkQ _ _ ?_
              clear hkQ kQ
              refine wl_load1 (by kernel_rfl) 4 (.tmp 124) rfl 1 rfl j rfl (.bool false) (at_b24 (by rw [unhide HTL]; exact hjq) (unhide HTJ)) Try.underlying4 rfl hS ?_
              simp [Act.put]
              refine wl (by kernel_rfl) fun kQ hkQ => ?_
              go_simp
              refine hkQ _ _ ?_
              clear hkQ kQ
              refine wpList_nil ?_
              go_upto_region 27 with fail
              refine wp_region_lit ?_
              refine wl (by kernel_rfl) fun kQ hkQ => ?_
              go_simp
              refine hkQ _ _ ?_
              clear hkQ kQ
              refine wl (by kernel_rfl) fun kQ hkQ => ?_
              go_simp
              refine hkQ _ _ ?_
              clear hkQ kQ
              refine wl (by kernel_rfl) fun kQ hkQ => ?_
              go_simp
              refine hkQ _ _ ?_
              clear hkQ kQ
              refine wl (by kernel_rfl) fun kQ hkQ => ?_
              go_simp
              refine hkQ _ _ ?_
              clear hkQ kQ
              refine wl_store (by kernel_rfl) 4 (.tmp 132) (.const (.bool true)) rfl 1 rfl j rfl [.bool true] ((tk.set j true).flatMap bC) (pt_b24 (by rw [unhide HTL]; exact hjq) true) rfl Try.j1b (one_one rfl) hS ?_
              clear hS
              intro w204 hS
              change Hs17 w ((g202, 32, (msC ((lkV ms z).i) ((lkV ms z).f) ((lkV ms z).t) ((lkV ms z).s.v))) :: (gt, 4, ((tk.set j true).flatMap bC)) :: R) (BagW w.heap.size gb mb (dlM ms z) (lkV ms z :: qx) qn) w204 at hS
              simp [Act.put]
              refine wpList_nil ?_
              obtain ⟨lb, lo, hqa, -, hlr⟩ := Sx.Ok.at_ (RowG.sx24 hR (fun x _ => mC_len x) (fun p hp => by simp [hp]) hS) (i := j) hx9
              have hqa' : qa = some ⟨lb, lo, none⟩ := hqa
              subst hqa'
              have hfb : ∀ v, Hs17 w ((g202, 32, (msC ((lkV ms z).i) ((lkV ms z).f) ((lkV ms z).t) ((lkV ms z).s.v))) :: (gt, 4, ((tk.set j true).flatMap bC)) :: R) (BagW w.heap.size gb mb (dlM ms z) (lkV ms z :: qx) qn) v → v.rangeAt lb (lo + j * 4) (mC x) := fun v hv => by
                obtain ⟨b2, o2, e2, -, hr2⟩ := Sx.Ok.at_ (RowG.sx24 hR (fun x _ => mC_len x) (fun p hp => by simp [hp]) hv) (i := j) hx9
                simp only [Option.some.injEq, Addr.mk.injEq] at e2
                obtain ⟨rfl, rfl, -⟩ := e2
                exact hr2
              have hSM : ∀ v, Hs17 w ((g202, 32, (msC ((lkV ms z).i) ((lkV ms z).f) ((lkV ms z).t) ((lkV ms z).s.v))) :: (gt, 4, ((tk.set j true).flatMap bC)) :: R) (BagW w.heap.size gb mb (dlM ms z) (lkV ms z :: qx) qn) v → Calls Try.prog 12 #[aV (mC (lkV ms z)), aV (mC x)] v fun e w' => e = .returned (.bool true) ∧ Below v.heap.size v w' := fun v hv => by
                have q1 := Ou.ok (hv.K.g.bd (lkV ms z) (by simp))
                have q2 := Ou.ok (hv.K.g.bd x (by simp [hxm]))
                have q3 : (lkV ms z).s.n ≤ 1048576 := unhide HVN
                revert q1 q2 q3 hvx
                generalize lkV ms z = y
                obtain ⟨i, f, t, s⟩ := y
                obtain ⟨i', f', t', s'⟩ := x
                intro hvx q1 q2 q3
                simp only [Ms.p, Pm.mk.injEq] at hvx
                obtain ⟨rfl, rfl, rfl, hxs⟩ := hvx
                exact sameM_t i f t s s' v q1 q2 q3 hxs
              clear hqa hlr hx9 hxm
              go_upto_region 28 with fail
              refine wp_region_noPanic ?_
              replace hS := hS.drew
              refine wp_region_held_drew (S := Hs17 w ((g202, 32, (msC ((lkV ms z).i) ((lkV ms z).f) ((lkV ms z).t) ((lkV ms z).s.v))) :: (gt, 4, ((tk.set j true).flatMap bC)) :: R) (BagW w.heap.size gb mb (dlM ms z) (lkV ms z :: qx) qn)) (by kernel_rfl) hS (fun hHeld => ?_)
              generalize World.drew _ = w205 at hS hHeld ⊢
              refine wpAnyH_take (i := 0) (oi := _) (v := .int .i64 0) rfl (by kernel_rfl) (by kernel_rfl) (by kernel_rfl) (fun _ _ _ h => h) (Or.inl ⟨by rfl, fun w hSw => by go_simp⟩) hHeld ?_
              simp [Act.put]
              refine wpAnyH_take (i := 1) (oi := _) (v := .bool false) rfl (by kernel_rfl) (by kernel_rfl) (by kernel_rfl) (fun _ _ _ h => h) (Or.inl ⟨by rfl, fun w hSw => by go_simp⟩) hHeld ?_
              simp [Act.put]
              refine wpAnyH_take (i := 2) (oi := _) (v := .bool false) rfl (by kernel_rfl) (by kernel_rfl) (by kernel_rfl) (fun _ _ _ h => h) (Or.inl ⟨by rfl, fun w hSw => by go_simp⟩) hHeld ?_
              simp [Act.put]
              refine wpAnyH_take (i := 3) (oi := _) (v := aV (msC ((lkV ms z).i) ((lkV ms z).f) ((lkV ms z).t) ((lkV ms z).s.v))) rfl (by kernel_rfl) (by kernel_rfl) (by kernel_rfl) (fun _ _ _ h => h) (yl_load (by kernel_rfl) 32 (.tmp 14) rfl 0 rfl 0 rfl (msC ((lkV ms z).i) ((lkV ms z).f) ((lkV ms z).t) ((lkV ms z).s.v)) (At.self _) Try.underlying32 rfl (sz_D _ _ _ _)) hHeld ?_
              simp [Act.put]
              refine wpAnyH_take (i := 4) (oi := _) (v := (.slice (some ⟨lb, lo, none⟩) qn qc)) rfl (by kernel_rfl) (by kernel_rfl) (by kernel_rfl) (fun _ _ _ h => h) (Or.inl ⟨by rfl, fun w hSw => by go_simp⟩) hHeld ?_
              simp [Act.put]
              refine wpAnyH_take (i := 5) (oi := _) (v := .int .i64 z) rfl (by kernel_rfl) (by kernel_rfl) (by kernel_rfl) (fun _ _ _ h => h) (Or.inl ⟨by rfl, fun w hSw => by go_simp⟩) hHeld ?_
              simp [Act.put]
              refine wpAnyH_take (i := 6) (oi := _) (v := .int .i64 (j : Int)) rfl (by kernel_rfl) (by kernel_rfl) (by kernel_rfl) (fun _ _ _ h => h) (Or.inl ⟨by rfl, fun w hSw => by go_simp⟩) hHeld ?_
              simp [Act.put]
              refine wpAnyH_take (i := 7) (oi := _) (v := (.pointer (some ⟨lb, lo + j * 4, none⟩))) rfl (by kernel_rfl) (by kernel_rfl) (by kernel_rfl) (fun _ _ _ h => h) (Or.inl ⟨by rfl, fun w hSw => by go_simp⟩) hHeld ?_
              simp [Act.put]
              refine wpAnyH_take (i := 8) (oi := _) (v := aV (msC x.i x.f x.t x.s.v)) rfl (by kernel_rfl) (by kernel_rfl) (by kernel_rfl) (fun _ _ _ h => h) (yl_loadR (by kernel_rfl) 32 (.tmp 140) rfl lb (lo + j * 4) rfl (msC x.i x.f x.t x.s.v) (fun w hSw => hfb _ hSw) Try.underlying32 rfl (sz_D _ _ _ _)) hHeld ?_
              simp [Act.put]
              refine wpAnyH_ready (rs := [9]) (by kernel_rfl) (by simp) ?_
              refine (AllReadyH.cons rfl (fun kQ hkQ => ?_) AllReadyH.nil)
              go_simp
              refine (hSM _ hS).mono ?_
              rintro e w206 ⟨rfl, hb1⟩
              replace hS := hS.later hb1
              clear hHeld hb1
              refine hkQ.out _ _ hS (fun hHeld => ?_)
              clear hkQ kQ
              refine wpAnyH_take (i := 10) (oi := _) (v := .bool false) rfl (by kernel_rfl) (by kernel_rfl) (by kernel_rfl) (fun _ _ _ h => h) (Or.inl ⟨by rfl, fun w hSw => by go_simp⟩) hHeld ?_
              simp [Act.put]
              refine wpAnyH_take (i := 11) (oi := _) (v := .bool false) rfl (by kernel_rfl) (by kernel_rfl) (by kernel_rfl) (fun _ _ _ h => h) (Or.inl ⟨by rfl, fun w hSw => by go_simp⟩) hHeld ?_
              simp [Act.put]
              refine wpAnyH_done (by kernel_rfl) ?_ _
              unfold NoPanic
              clear hHeld
              replace hS := hS.sub ((((List.Sublist.refl _)).cons_cons _).cons _)
              replace hS := hS.fewer (List.sublist_cons_self _ _)
              have htot := unhide HTOT
              go_wp2_with fail
              go_roundw
              case rel => exact ⟨k + 1, tk.set j true, dlM ms z, by omega, by go_num, hnew, hS⟩
              case measure => simp [intOf]; omega
            · skip
              have hb : lkB ms z = false := by rw [hlk, decide_eq_false ha]
              have hdl := dl_no hb
              have hb' : ¬ lkB ms z = true := by rw [hb]; simp
              rw [if_neg hb']
              rw [hdl] at hS
              have hnew : Hid (tk.length = qn ∧ ms.map Ms.p = lfT P tk ∧ ∀ i, i < qn → on + i < k + 1 → tk.getD i false = true) := by
                obtain ⟨t1, t2, t3⟩ := unhide HT
                refine hide ⟨t1, t2, fun i hi hik => ?_⟩
                by_cases hlast : on + i < k
                · exact t3 i hi hlast
                · have hzi := unhide HZ (by omega)
                  cases hq : tk.getD i false with
                  | true => rfl
                  | false =>
                    refine absurd ⟨?_, ?_, ?_⟩ ha
                    · omega
                    · omega
                    · have e : (z - 1).toNat = i := by omega
                      rw [e]; exact hq
              have HTL := hide (unhide HT).1
              clear hb hb' hlk hdl
              by_cases ha1 : z < 1
              · clear ha
                go_upto_region 24 with fail
                refine wp_region_lit ?_
                refine wl (by kernel_rfl) fun kQ hkQ => ?_
                go_simp
                refine hkQ _ _ ?_
                clear hkQ kQ
                refine wl (by kernel_rfl) fun kQ hkQ => ?_
                go_simp
                refine hkQ _ _ ?_
                clear hkQ kQ
                refine wl (by kernel_rfl) fun kQ hkQ => ?_
                go_simp
                refine hkQ _ _ ?_
                clear hkQ kQ
                refine wl_skip (by kernel_rfl) ?_
                simp [Act.put]
                refine wl_skip (by kernel_rfl) ?_
                simp [Act.put]
                refine wl_skip (by kernel_rfl) ?_
                simp [Act.put]
                refine wl (by kernel_rfl) fun kQ hkQ => ?_
                go_simp
                refine hkQ _ _ ?_
                clear hkQ kQ
                refine wl (by kernel_rfl) fun kQ hkQ => ?_
                go_simp
                refine hkQ _ _ ?_
                clear hkQ kQ
                refine wl_skip (by kernel_rfl) ?_
                simp [Act.put]
                refine wl_skip (by kernel_rfl) ?_
                simp [Act.put]
                refine wl_skip (by kernel_rfl) ?_
                simp [Act.put]
                refine wl_skip (by kernel_rfl) ?_
                simp [Act.put]
                refine wl_skip (by kernel_rfl) ?_
                simp [Act.put]
                refine wl (by kernel_rfl) fun kQ hkQ => ?_
                go_simp
                refine hkQ _ _ ?_
                clear hkQ kQ
                refine wpList_nil ?_
                go_upto_region 25 with fail
                refine wp_region_lit ?_
                refine wl (by kernel_rfl) fun kQ hkQ => ?_
                go_simp
                refine hkQ _ _ ?_
                clear hkQ kQ
                refine wl (by kernel_rfl) fun kQ hkQ => ?_
                go_simp
                refine hkQ _ _ ?_
                clear hkQ kQ
                refine wpList_nil ?_
                replace hS := hS.sub ((((List.Sublist.refl _)).cons_cons _).cons _)
                replace hS := hS.fewer (List.sublist_cons_self _ _)
                have htot := unhide HTOT
                go_wp2_with fail
                go_roundw
                case rel => exact ⟨k + 1, tk, ms, by omega, by go_num, hnew, hS⟩
                case measure => simp [intOf]; omega
              by_cases ha2 : (qn : Int) < z
              · clear ha
                go_upto_region 24 with fail
                refine wp_region_lit ?_
                refine wl (by kernel_rfl) fun kQ hkQ => ?_
                go_simp
                refine hkQ _ _ ?_
                clear hkQ kQ
                refine wl (by kernel_rfl) fun kQ hkQ => ?_
                go_simp
                refine hkQ _ _ ?_
                clear hkQ kQ
                refine wl (by kernel_rfl) fun kQ hkQ => ?_
                go_simp
                refine hkQ _ _ ?_
                clear hkQ kQ
                refine wl (by kernel_rfl) fun kQ hkQ => ?_
                go_simp
                refine hkQ _ _ ?_
                clear hkQ kQ
                refine wl (by kernel_rfl) fun kQ hkQ => ?_
                go_simp
                refine hkQ _ _ ?_
                clear hkQ kQ
                refine wl (by kernel_rfl) fun kQ hkQ => ?_
                go_simp
                refine hkQ _ _ ?_
                clear hkQ kQ
                refine wl (by kernel_rfl) fun kQ hkQ => ?_
                go_simp
                refine hkQ _ _ ?_
                clear hkQ kQ
                refine wl (by kernel_rfl) fun kQ hkQ => ?_
                go_simp
                refine hkQ _ _ ?_
                clear hkQ kQ
                refine wl_skip (by kernel_rfl) ?_
                simp [Act.put]
                refine wl_skip (by kernel_rfl) ?_
                simp [Act.put]
                refine wl_skip (by kernel_rfl) ?_
                simp [Act.put]
                refine wl_skip (by kernel_rfl) ?_
                simp [Act.put]
                refine wl_skip (by kernel_rfl) ?_
                simp [Act.put]
                refine wl (by kernel_rfl) fun kQ hkQ => ?_
                go_simp
                refine hkQ _ _ ?_
                clear hkQ kQ
                refine wpList_nil ?_
                go_upto_region 25 with fail
                refine wp_region_lit ?_
                refine wl (by kernel_rfl) fun kQ hkQ => ?_
                go_simp
                refine hkQ _ _ ?_
                clear hkQ kQ
                refine wl (by kernel_rfl) fun kQ hkQ => ?_
                go_simp
                refine hkQ _ _ ?_
                clear hkQ kQ
                refine wpList_nil ?_
                replace hS := hS.sub ((((List.Sublist.refl _)).cons_cons _).cons _)
                replace hS := hS.fewer (List.sublist_cons_self _ _)
                have htot := unhide HTOT
                go_wp2_with fail
                go_roundw
                case rel => exact ⟨k + 1, tk, ms, by omega, by go_num, hnew, hS⟩
                case measure => simp [intOf]; omega
              obtain ⟨j, hj⟩ : ∃ j : Nat, z = (j : Int) + 1 := ⟨(z - 1).toNat, by omega⟩
              have hjq : j < qn := by omega
              have hjz : (j : Int) < (qn : Int) := by omega
              have e3 : IntKind.i64.wrap (z - 1) = (j : Int) := by rw [show z - 1 = (j : Int) by omega]; exact wi_of24 (by omega) (by omega)
              have HTJ : Hid (tk.getD j false = true) := by
                cases hq : tk.getD j false with
                | true => exact hide rfl
                | false =>
                  refine absurd ⟨by omega, by omega, ?_⟩ ha
                  have e : (z - 1).toNat = j := by omega
                  rw [e]; exact hq
              clear ha hj
              go_upto_region 24 with fail
              refine wp_region_lit ?_
              refine wl (by kernel_rfl) fun kQ hkQ => ?_
              go_simp
              refine hkQ _ _ ?_
              clear hkQ kQ
              refine wl (by kernel_rfl) fun kQ hkQ => ?_
              go_simp
              refine hkQ _ _ ?_
              clear hkQ kQ
              refine wl (by kernel_rfl) fun kQ hkQ => ?_
              go_simp
              refine hkQ _ _ ?_
              clear hkQ kQ
              refine wl (by kernel_rfl) fun kQ hkQ => ?_
              go_simp
              refine hkQ _ _ ?_
              clear hkQ kQ
              refine wl (by kernel_rfl) fun kQ hkQ => ?_
              go_simp
              refine hkQ _ _ ?_
              clear hkQ kQ
              refine wl (by kernel_rfl) fun kQ hkQ => ?_
              go_simp
              refine hkQ _ _ ?_
              clear hkQ kQ
              refine wl (by kernel_rfl) fun kQ hkQ => ?_
              go_simp
              refine hkQ _ _ ?_
              clear hkQ kQ
              refine wl (by kernel_rfl) fun kQ hkQ => ?_
              go_simp
              refine hkQ _ _ ?_
              clear hkQ kQ
              refine wl (by kernel_rfl) fun kQ hkQ => ?_
              go_simp
              refine hkQ _ _ ?_
              clear hkQ kQ
              refine wl (by kernel_rfl) fun kQ hkQ => ?_
              go_simp
              refine hkQ _ _ ?_
              clear hkQ kQ
              refine wl (by kernel_rfl) fun kQ hkQ => ?_
              go_simp
              refine hkQ _ _ ?_
              clear hkQ kQ
              refine wl (by kernel_rfl) fun kQ hkQ => ?_
              go_simp
              refine hkQ _ _ ?_
              clear hkQ kQ
              refine wl_load1 (by kernel_rfl) 4 (.tmp 124) rfl 1 rfl j rfl (.bool true) (at_b24 (by rw [unhide HTL]; exact hjq) (unhide HTJ)) Try.underlying4 rfl hS ?_
              simp [Act.put]
              refine wl (by kernel_rfl) fun kQ hkQ => ?_
              go_simp
              refine hkQ _ _ ?_
              clear hkQ kQ
              refine wpList_nil ?_
              go_upto_region 25 with fail
              refine wp_region_lit ?_
              refine wl (by kernel_rfl) fun kQ hkQ => ?_
              go_simp
              refine hkQ _ _ ?_
              clear hkQ kQ
              refine wl (by kernel_rfl) fun kQ hkQ => ?_
              go_simp
              refine hkQ _ _ ?_
              clear hkQ kQ
              refine wpList_nil ?_
              replace hS := hS.sub ((((List.Sublist.refl _)).cons_cons _).cons _)
              replace hS := hS.fewer (List.sublist_cons_self _ _)
              have htot := unhide HTOT
              go_wp2_with fail
              go_roundw
              case rel => exact ⟨k + 1, tk, ms, by omega, by go_num, hnew, hS⟩
              case measure => simp [intOf]; omega
        · obtain rfl : tot = k := by omega
          have hkz : ¬ (tot : Int) < (tot : Int) := by omega
          have hm0 : ms = [] := by
            obtain ⟨t1, t2, t3⟩ := unhide HT
            have h9 : lfT P tk = [] := lfT_all (unhide HNP) (fun j hj => t3 j (by rw [unhide HPL] at hj; exact hj) (by rw [unhide HPL] at hj; omega))
            rw [h9] at t2
            exact List.map_eq_nil_iff.1 t2
          subst hm0
          clear hlt hk htot
          go_upto_region 30 with fail
          clear hkz e0
          refine wp_region_lit ?_
          refine wl (by kernel_rfl) fun kQ hkQ => ?_
          go_simp
          refine hkQ _ _ ?_
          clear hkQ kQ
          refine wv (aV (msC 0 0 0 (.slice none 0 0))) (by kernel_rfl) (ex_build 32 #[] rfl (msC 0 0 0 (.slice none 0 0)) b_d0 rfl) ?_
          simp [Act.put]
          refine wl (by kernel_rfl) fun kQ hkQ => ?_
          go_simp
          refine (put_any w _ _ gb mb qn [] qx _ hS (NoB.cons rfl (hR.noB rfl)) (Nat.le_refl _) 0 0 0 ⟨none, 0, 0, []⟩ (fun w' _ => Sx.Ok.nil w' 0) (by omega)).mono ?_
          clear hS
          rintro e w401 ⟨ms', he, hp, hS⟩
          have he2 : e = .returned (.tuple #[.int .i64 ((qn + 1 : Nat) : Int), .int .i64 0]) := he
          subst he2
          clear he
          refine hkQ _ _ ?_
          clear hkQ kQ
          have hp2 : ms'.map Ms.p = [⟨((qn + 1 : Nat) : Int), 0, 0, []⟩] := hp
          have hml : ms'.length = 1 := by have := congrArg List.length hp2; simpa using this
          clear hp hp2
          refine wl (by kernel_rfl) fun kQ hkQ => ?_
          go_simp
          refine hkQ _ _ ?_
          clear hkQ kQ
          refine wl (by kernel_rfl) fun kQ hkQ => ?_
          go_simp
          refine hkQ _ _ ?_
          clear hkQ kQ
          refine wl (by kernel_rfl) fun kQ hkQ => ?_
          go_simp
          refine hkQ _ _ ?_
          clear hkQ kQ
          refine wl (by kernel_rfl) fun kQ hkQ => ?_
          go_simp
          refine hkQ _ _ ?_
          clear hkQ kQ
          refine wl (by kernel_rfl) fun kQ hkQ => ?_
          go_simp
          refine hkQ _ _ ?_
          clear hkQ kQ
          refine wpList_nil ?_
          have e1 : IntKind.i64.wrap ((qn : Int) + 1) = ((qn + 1 : Nat) : Int) := by rw [show (qn : Int) + 1 = ((qn + 1 : Nat) : Int) by omega]; exact wi_of24 (by omega) (by omega)
          go_upto_region 31 with fail
          refine wp_region_lit ?_
          refine wl (by kernel_rfl) fun kQ hkQ => ?_
          go_simp
          refine hkQ _ _ ?_
          clear hkQ kQ
          refine wl (by kernel_rfl) fun kQ hkQ => ?_
          go_simp
          refine (len_any gb mb _ ms' _ hS.K.st hS.K.g.mp).mono ?_
          rintro e w402 ⟨rfl, hb1⟩
          replace hS := hS.later hb1
          refine hkQ _ _ ?_
          clear hkQ kQ hb1
          rw [hml]
          refine wl (by kernel_rfl) fun kQ hkQ => ?_
          go_simp
          refine hkQ _ _ ?_
          clear hkQ kQ
          refine wl (by kernel_rfl) fun kQ hkQ => ?_
          go_simp
          refine hkQ _ _ ?_
          clear hkQ kQ
          refine wl (by kernel_rfl) fun kQ hkQ => ?_
          go_simp
          refine hkQ _ _ ?_
          clear hkQ kQ
          refine wl (by kernel_rfl) fun kQ hkQ => ?_
          go_simp
          refine hkQ _ _ ?_
          clear hkQ kQ
          refine wl (by kernel_rfl) fun kQ hkQ => ?_
          go_simp
          refine hkQ _ _ ?_
          clear hkQ kQ
          refine wl (by kernel_rfl) fun kQ hkQ => ?_
          go_simp
          refine hkQ _ _ ?_
          clear hkQ kQ
          refine wl (by kernel_rfl) fun kQ hkQ => ?_
          go_simp
          refine hkQ _ _ ?_
          clear hkQ kQ
          refine wl (by kernel_rfl) fun kQ hkQ => ?_
          go_simp
          refine hkQ _ _ ?_
          clear hkQ kQ
          refine wl (by kernel_rfl) fun kQ hkQ => ?_
          go_simp
          refine hkQ _ _ ?_
          clear hkQ kQ
          refine wl (by kernel_rfl) fun kQ hkQ => ?_
          go_simp
          refine hkQ _ _ ?_
          clear hkQ kQ
          refine wl (by kernel_rfl) fun kQ hkQ => ?_
          go_simp
          refine hkQ _ _ ?_
          clear hkQ kQ
          refine wl (by kernel_rfl) fun kQ hkQ => ?_
          go_simp
          refine hkQ _ _ ?_
          clear hkQ kQ
          refine wpList_nil ?_
          go_wp2_with fail
          go_ret
          exact ⟨rfl, hS.bel⟩
end Go.Proofs.Ytaepmfkdnjembaa
