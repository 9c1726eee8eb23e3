import Derived.Test.YtdcaojiiaocnaaaDoorQGbhZ
import Derived.Test.YtdcaojiiaocnaaaDoorQLvW25
import Derived.Test.YtdcaojiiaocnaaaDoorQLnP25
import Derived.Test.YtdcaojiiaocnaaaDoorQMbM25
import Derived.Deep.DeepCutAuto
import Derived.Deep.QuietTactic
import Derived.BigQuiet
set_option linter.unusedSimpArgs false
set_option linter.unusedVariables false
namespace Go.Proofs.YtdcaojiiaocnaaaDoor
open Go.RowKit

theorem own_at0 {X : World} {B b off n c : Nat} {l : List Int} (h : Ou X B (.slice (some ⟨b, off, none⟩) n c) l) : off = 0 := by
  rcases h.2 with ⟨h1, -⟩ | ⟨g, cap, cur, h1, -⟩
  · cases h1
  · simp only [Value.slice.injEq, Option.some.injEq, Addr.mk.injEq] at h1
    exact h1.1.2.1
set_option maxHeartbeats 8000000 in
set_option maxRecDepth 100000 in
theorem llines_law (s : Sx (Sx Int)) (rm : Sx Int) (w : World) (hs : Sx.Ok sbC 1 w s) (he : ∀ x ∈ s.xs, Su w x ∧ IsB x.xs) (hr : Su w rm) (hrb : IsB rm.xs) (hN : s.n ≤ 4194304) (hk : Pk25 w) :
    Calls Tryd.prog 5 #[s.v, rm.v] w fun e w' => e = .returned (.bool true) ∧ Below w.heap.size w w' := by
  obtain ⟨sa, sn, sc, sx⟩ := s
  obtain ⟨ra, rn, rc, rx⟩ := rm
  have hsl : sx.length = sn := hs.len
  have hrl : rx.length = rn := hr.len
  have hN' : sn ≤ 4194304 := hN
  simp only [Sx.v]
  have HS := hide hs
  have HE := hide he
  have HR := hide hr
  have HRB := hide hrb
  have HK := hide hk
  have HSL := hide hsl
  have HRL := hide hrl
  have HLl := hide (Ll.start w)
  clear hs he hr hrb hk hsl hrl hN
  go_enter Tryd.func5, Tryd.ntmps5
  go_wp2_with fail
  go_loopw [5, 6, 7] (fun v5 v6 v7 wr => ∃ (i : Nat) (ta : Option Addr) (tn tc : Nat) (tx : List Int) (qa : Option Addr) (qn qc : Nat) (ws : List (Sx Int)), i ≤ sn ∧ v5 = .slice ta tn tc ∧ v6 = .slice qa qn qc ∧ v7 = .int .i64 i ∧ Hid (TxI i tx (ws.map (·.xs)) ∧ ws.length ≤ i) ∧ Hid (Ll w ((.slice ta tn tc, tx) :: ws.map bxS) (.slice qa qn qc) (ws.map bxS) wr)) (fun _ _ v7 _ => sn - (intOf v7).toNat)
  case atStart => exact ⟨0, none, 0, 0, [], none, 0, 0, [], by omega, rfl, rfl, rfl, hide ⟨TxI.zero, Nat.le_refl _⟩, hide (unhide HLl).new0⟩
  case round =>
    clear HLl
    obtain ⟨i, ta, tn, tc, tx, qa, qn, qc, ws, hi, rfl, rfl, rfl, HT, HLl⟩ := hrel
    by_cases hlt : i < sn
    · have hiz : (i : Int) < (sn : Int) := by omega
      obtain ⟨⟨xa, xn, xc, xx⟩, hxi⟩ : ∃ x, sx[i]? = some x := ⟨_, List.getElem?_eq_getElem (by rw [unhide HSL]; exact hlt)⟩
      obtain ⟨sb, so, hsa, -, hsc⟩ := Sx.Ok.at_ (unhide HS) (i := i) hxi
      have hsa' : sa = some ⟨sb, so, none⟩ := hsa
      subst hsa'
      have hc0 : w.cell? ⟨sb, so + i, none⟩ = some (.slice xa xn xc) := by
        have h1 := hsc 0 _ rfl
        simpa [Sx.v] using h1
      obtain ⟨hxs, hxb⟩ := unhide HE _ (List.mem_of_getElem? hxi)
      have hxl : xx.length = xn := hxs.len
      have HC0 := hide hc0
      have HXS := hide hxs
      have HXB := hide hxb
      have HXL := hide hxl
      clear hsa hsc hc0 hxs hxb hxl hxi
      go_wp2_with fail
      have HL2 := hide (unhide HLl).new0
      go_loopw [8, 9] (fun v8 v9 wq => ∃ (k : Nat) (la : Option Addr) (ln lc : Nat) (l : List Int), k ≤ xn ∧ k ≤ 200 ∧ v8 = .slice la ln lc ∧ v9 = .int .i64 k ∧ Hid (LnK k l) ∧ Hid (Ll w ((.slice la ln lc, l) :: (.slice ta tn tc, tx) :: ws.map bxS) (.slice qa qn qc) (ws.map bxS) wq)) (fun _ v9 _ => 200 - (intOf v9).toNat)
      case atStart => exact ⟨0, none, 0, 0, [], by omega, by omega, rfl, rfl, hide LnK.zero, HL2⟩
      case round =>
        clear HL2 HLl
        obtain ⟨k, la, ln, lc, l, hk1, hk2, rfl, rfl, HK2, HLl⟩ := hrel
        have hci := cell_old25 (unhide HC0) (Old.of (unhide HLl).bel)
        by_cases hkn : k < xn
        · have hknz : (k : Int) < (xn : Int) := by omega
          by_cases hk200 : k < 200
          · have hk200z : (k : Int) < 200 := by omega
            obtain ⟨xb, xo, hxa, -, hxc⟩ := Su.at_ (unhide HXS) (k := k) hkn
            have hxa' : xa = some ⟨xb, xo, none⟩ := hxa
            subst hxa'
            have hxc' : w.cell? ⟨xb, xo + k, none⟩ = some (.int .u8 (xx.getD k 0)) := hxc
            have hcz := cell_old25 hxc' (Old.of (unhide HLl).bel)
            have hzb : 0 ≤ xx.getD k 0 ∧ xx.getD k 0 ≤ 255 := unhide HXB _ (mem_getD (by rw [unhide HXL]; exact hkn))
            obtain ⟨z, hz⟩ : ∃ z, xx.getD k 0 = z := ⟨_, rfl⟩
            rw [hz] at hcz hzb
            have HZB := hide hzb
            have hln : l.length = ln := (Ou.ok (s := ⟨la, ln, lc, l⟩) ((unhide HLl).bx.el _ (List.mem_cons_self ..))).len
            have hll : l.length ≤ 200 := Nat.le_trans (unhide HK2).le hk2
            clear hxa hxc hxc' hz hzb
            by_cases hz10 : z = 10
            · subst hz10
              go_wp2_with fail
              go_roundw
              case rel => exact ⟨k + 1, la, ln, lc, l, by omega, by omega, rfl, by go_num, hide (unhide HK2).skip, HLl⟩
              case measure => simp [intOf]; omega
            · go_upto_region 11 with fail
              refine wp_region_lit ?_
              refine wl (by kernel_rfl) fun kQ hkQ => ?_
              go_simp
              refine hkQ _ _ ?_
              clear hkQ kQ
              refine wl (by kernel_rfl) fun kQ hkQ => ?_
              go_simp
              refine hkQ _ _ ?_
              clear hkQ kQ
              refine wl (by kernel_rfl) fun kQ hkQ => ?_
              go_simp
              refine hkQ _ _ ?_
              clear hkQ kQ
              refine wl (by kernel_rfl) fun kQ hkQ => ?_
              go_simp
              refine hkQ _ _ ?_
              clear hkQ kQ
              refine wl_loadC (by kernel_rfl) 28 (.tmp 43) rfl sb (so + i) rfl (.slice (some ⟨xb, xo, none⟩) xn xc) hci Tryd.underlying28 rfl ?_
              simp [Act.put]
              refine wl (by kernel_rfl) fun kQ hkQ => ?_
              go_simp
              refine hkQ _ _ ?_
              clear hkQ kQ
              refine wl (by kernel_rfl) fun kQ hkQ => ?_
              go_simp
              refine hkQ _ _ ?_
              clear hkQ kQ
              refine wl_loadC (by kernel_rfl) 5 (.tmp 46) rfl xb (xo + k) rfl (.int .u8 z) hcz Tryd.underlying5 rfl ?_
              simp [Act.put]
              refine wl_bs1u (by kernel_rfl) (.tmp 47) rfl z rfl (Hs17.start0 _) ?_
              intro gA wA hA
              simp [Act.put]
              have hsA : Su wA ⟨some ⟨gA, 0, none⟩, 1, 1, [z]⟩ := arr_su25 (l := [z]) (hA.get 0 rfl) (by show 1 ≤ maxLen; unfold maxLen; omega)
              have hOA : Ou wA w.heap.size (.slice la ln lc) l := own_blk ((unhide HLl).bx.el _ (List.mem_cons_self ..)) (fun g hg => hA.bel.block g (own_cells ((unhide HLl).bx.el _ (List.mem_cons_self ..)) hg).2.1)
              refine wl_appu (by kernel_rfl) (.tmp 40) (.tmp 48) rfl rfl hOA ⟨some ⟨gA, 0, none⟩, 1, 1, [z]⟩ hsA rfl (by show (l.length + 1) * 1 ≤ 140737488355328; omega) (Nat.le_trans (unhide HLl).bel.size hA.bel.size) ?_
              intro v9 wB hO9 hg9 hl9
              have HL9 := hide ((unhide HLl).app hA.bel hO9 hg9 hl9)
              clear hsA hOA hO9 hg9 hl9 hA
              simp only [Act.put]
              refine wl (by kernel_rfl) fun kQ hkQ => ?_
              go_simp
              refine hkQ _ _ ?_
              clear hkQ kQ
              refine wpList_nil ?_
              obtain ⟨⟨la', ln', lc', lx'⟩, hv9, hx9, -, -⟩ := Ou.su ((unhide HL9).bx.el _ (List.mem_cons_self ..))
              have hv9' : v9 = .slice la' ln' lc' := hv9
              subst hv9'
              clear hv9 hx9 hln hll
              go_wp2_with fail
              go_roundw
              case rel => exact ⟨k + 1, la', ln', lc', l ++ [z], by omega, by omega, rfl, by go_num, hide ((unhide HK2).put (unhide HZB) hz10), HL9⟩
              case measure => simp [intOf]; omega
          · have hk200z : ¬ (k : Int) < 200 := by omega
            have hOl := (unhide HLl).bx.el _ (List.mem_cons_self ..)
            have hln : l.length = ln := (Ou.ok (s := ⟨la, ln, lc, l⟩) hOl).len
            have HLN := hide hln
            rcases l with _ | ⟨c0, lr⟩
            · obtain rfl : ln = 0 := hln.symm
              clear hOl hln HLN
              obtain ⟨l, hl0⟩ : ∃ l : List Int, l = [] := ⟨_, rfl⟩
              rw [← hl0] at HLl HK2
              have HKP : Hid (¬ (l ≠ [] ∧ l.head? ≠ some 35)) := hide (fun h => h.1 hl0)
              clear hl0
              have HFL : Hid (flushL (ws.map (·.xs)) l = ws.map (·.xs)) := hide (by
                unfold flushL
                rw [if_neg (unhide HKP)])
              clear HKP
              go_upto_region 14 with fail
              have hSL14 : Su _ ⟨la, 0, lc, l⟩ := Ou.ok (s := ⟨la, 0, lc, l⟩) ((unhide HLl).bx.el _ (List.mem_cons_self ..))
              have hTX : tx.length ≤ 1694498816 := by have := (unhide HT).1.le; omega
              have hll : l.length ≤ 200 := Nat.le_trans (unhide HK2).le hk2
              have HL7 := hide ((unhide HLl).perm (List.Perm.swap _ _ _))
              refine wp_region_lit ?_
              refine wl (by kernel_rfl) fun kQ hkQ => ?_
              go_simp
              refine hkQ _ _ ?_
              clear hkQ kQ
              refine wl (by kernel_rfl) fun kQ hkQ => ?_
              go_simp
              refine hkQ _ _ ?_
              clear hkQ kQ
              refine wl_appu (by kernel_rfl) (.tmp 63) (.tmp 64) rfl rfl ((unhide HL7).bx.el _ (List.mem_cons_self ..)) ⟨la, 0, lc, l⟩ hSL14 rfl (by show (tx.length + 0) * 1 ≤ 140737488355328; have h1 : l.length = 0 := hSL14.len; omega) (unhide HL7).bel.size ?_
              intro t1 w14 hO9 hg9 hl9
              have HL6 := hide ((unhide HL7).app (Below.refl _ _) hO9 hg9 hl9)
              clear hO9 hg9 hl9 hSL14 HL7
              simp only [Act.put]
              refine wl (by kernel_rfl) fun kQ hkQ => ?_
              go_simp
              refine hkQ _ _ ?_
              clear hkQ kQ
              refine wpList_nil ?_
              go_upto_region 15 with fail
              refine wp_region_lit ?_
              refine wl (by kernel_rfl) fun kQ hkQ => ?_
              go_simp
              refine hkQ _ _ ?_
              clear hkQ kQ
              refine wl_appS (by kernel_rfl) (.tmp 66) (.const (.string { data := #[10, 35] })) rfl rfl ((unhide HL6).bx.el _ (List.mem_cons_self ..)) { data := #[10, 35] } rfl (by decide) (by show (tx ++ l).length + 2 ≤ 140737488355328; rw [List.length_append]; omega) (unhide HL6).bel.size ?_
              intro t2 w15 hO9 hg9 hl9
              have HL5 := hide ((unhide HL6).app (Below.refl _ _) hO9 hg9 hl9)
              clear hO9 hg9 hl9 HL6
              simp only [Act.put]
              refine wl (by kernel_rfl) fun kQ hkQ => ?_
              go_simp
              refine hkQ _ _ ?_
              clear hkQ kQ
              refine wpList_nil ?_
              have HL4 : Hid (Ll w ((t2, tx ++ l ++ strL { data := #[10, 35] } ++ []) :: ws.map bxS) (.slice qa qn qc) (ws.map bxS) w15) := hide (by
                rw [List.append_nil]
                exact (unhide HL5).drop (((List.Sublist.refl _).cons _).cons_cons _))
              clear HL5 HLl
              obtain ⟨⟨ua, un, uc, ux⟩, hv9, hx9, -, -⟩ := Ou.su ((unhide HL4).bx.el _ (List.mem_cons_self ..))
              have hv9' : t2 = .slice ua un uc := hv9
              subst hv9'
              clear hv9 hx9
              go_wp2_with fail
              go_loopw [5, 10] (fun v5 v10 wq => ∃ (k : Nat) (ua : Option Addr) (un uc : Nat) (r : List Int), k ≤ rn ∧ k ≤ 200 ∧ v5 = .slice ua un uc ∧ v10 = .int .i64 k ∧ Hid (LnK k r) ∧ Hid (Ll w ((.slice ua un uc, tx ++ l ++ strL { data := #[10, 35] } ++ r) :: ws.map bxS) (.slice qa qn qc) (ws.map bxS) wq)) (fun _ v10 _ => 200 - (intOf v10).toNat)
              case atStart => exact ⟨0, ua, un, uc, [], by omega, by omega, rfl, rfl, hide LnK.zero, HL4⟩
              case round =>
                clear HL4
                obtain ⟨k3, ua, un, uc, r, hk31, hk32, rfl, rfl, HK3, HLl⟩ := hrel
                have hrr : r.length ≤ 200 := Nat.le_trans (unhide HK3).le hk32
                by_cases hkn : k3 < rn
                · have hknz : (k3 : Int) < (rn : Int) := by omega
                  by_cases hk200 : k3 < 200
                  · have hk200z : (k3 : Int) < 200 := by omega
                    obtain ⟨rb, ro, hxa, -, hxc⟩ := Su.at_ (unhide HR) (k := k3) hkn
                    have hxa' : ra = some ⟨rb, ro, none⟩ := hxa
                    subst hxa'
                    have hxc' : w.cell? ⟨rb, ro + k3, none⟩ = some (.int .u8 (rx.getD k3 0)) := hxc
                    have hcz := cell_old25 hxc' (Old.of (unhide HLl).bel)
                    have hzb : 0 ≤ rx.getD k3 0 ∧ rx.getD k3 0 ≤ 255 := unhide HRB _ (mem_getD (by rw [unhide HRL]; exact hkn))
                    obtain ⟨z, hz⟩ : ∃ z, rx.getD k3 0 = z := ⟨_, rfl⟩
                    rw [hz] at hcz hzb
                    have HZB := hide hzb
                    clear hxa hxc hxc' hz hzb
                    by_cases hz10 : z = 10
                    · subst hz10
                      go_wp2_with fail
                      go_roundw
                      case rel => exact ⟨k3 + 1, ua, un, uc, r, by omega, by omega, rfl, by go_num, hide (unhide HK3).skip, HLl⟩
                      case measure => simp [intOf]; omega
                    · go_upto_region 20 with fail
                      refine wp_region_lit ?_
                      refine wl (by kernel_rfl) fun kQ hkQ => ?_
                      go_simp
                      refine hkQ _ _ ?_
                      clear hkQ kQ
                      refine wl (by kernel_rfl) fun kQ hkQ => ?_
                      go_simp
                      refine hkQ _ _ ?_
                      clear hkQ kQ
                      refine wl (by kernel_rfl) fun kQ hkQ => ?_
                      go_simp
                      refine hkQ _ _ ?_
                      clear hkQ kQ
                      refine wl (by kernel_rfl) fun kQ hkQ => ?_
                      go_simp
                      refine hkQ _ _ ?_
                      clear hkQ kQ
                      refine wl_loadC (by kernel_rfl) 5 (.tmp 86) rfl rb (ro + k3) rfl (.int .u8 z) hcz Tryd.underlying5 rfl ?_
                      simp [Act.put]
                      refine wl_bs1u (by kernel_rfl) (.tmp 87) rfl z rfl (Hs17.start0 _) ?_
                      intro gA wA hA
                      simp [Act.put]
                      have hsA : Su wA ⟨some ⟨gA, 0, none⟩, 1, 1, [z]⟩ := arr_su25 (l := [z]) (hA.get 0 rfl) (by show 1 ≤ maxLen; unfold maxLen; omega)
                      have hOA : Ou wA w.heap.size (.slice ua un uc) (tx ++ l ++ strL { data := #[10, 35] } ++ r) := own_blk ((unhide HLl).bx.el _ (List.mem_cons_self ..)) (fun g hg => hA.bel.block g (own_cells ((unhide HLl).bx.el _ (List.mem_cons_self ..)) hg).2.1)
                      refine wl_appu (by kernel_rfl) (.tmp 83) (.tmp 88) rfl rfl hOA ⟨some ⟨gA, 0, none⟩, 1, 1, [z]⟩ hsA rfl (by show ((tx ++ l ++ strL { data := #[10, 35] } ++ r).length + 1) * 1 ≤ 140737488355328; simp only [List.length_append, strL_length]; have : ({ data := #[10, 35] } : ByteArray).size = 2 := rfl; omega) (Nat.le_trans (unhide HLl).bel.size hA.bel.size) ?_
                      intro v9 wB hO9 hg9 hl9
                      have HL9 := hide ((unhide HLl).app hA.bel hO9 hg9 hl9)
                      clear hsA hOA hO9 hg9 hl9 hA
                      simp only [Act.put]
                      refine wl (by kernel_rfl) fun kQ hkQ => ?_
                      go_simp
                      refine hkQ _ _ ?_
                      clear hkQ kQ
                      refine wpList_nil ?_
                      obtain ⟨⟨ua', un', uc', ux'⟩, hv9, hx9, -, -⟩ := Ou.su ((unhide HL9).bx.el _ (List.mem_cons_self ..))
                      have hv9' : v9 = .slice ua' un' uc' := hv9
                      subst hv9'
                      clear hv9 hx9
                      go_wp2_with fail
                      go_roundw
                      case rel => exact ⟨k3 + 1, ua', un', uc', r ++ [z], by omega, by omega, rfl, by go_num, hide ((unhide HK3).put (unhide HZB) hz10), hide (by have h := unhide HL9; rw [List.append_assoc _ r [z]] at h; exact h)⟩
                      case measure => simp [intOf]; omega
                  · have hk200z : ¬ (k3 : Int) < 200 := by omega
                    go_upto_region 21 with fail
                    refine wp_region_lit ?_
                    refine wl (by kernel_rfl) fun kQ hkQ => ?_
                    go_simp
                    refine hkQ _ _ ?_
                    clear hkQ kQ
                    refine wl_appS (by kernel_rfl) (.tmp 90) (.const (.string { data := #[10, 10] })) rfl rfl ((unhide HLl).bx.el _ (List.mem_cons_self ..)) { data := #[10, 10] } rfl (by decide) (by show (tx ++ l ++ strL { data := #[10, 35] } ++ r).length + 2 ≤ 140737488355328; simp only [List.length_append, strL_length]; have : ({ data := #[10, 35] } : ByteArray).size = 2 := rfl; omega) (unhide HLl).bel.size ?_
                    intro t3 w21 hO9 hg9 hl9
                    have HL9 := hide ((unhide HLl).app (Below.refl _ _) hO9 hg9 hl9)
                    clear hO9 hg9 hl9 HLl
                    simp only [Act.put]
                    refine wl (by kernel_rfl) fun kQ hkQ => ?_
                    go_simp
                    refine hkQ _ _ ?_
                    clear hkQ kQ
                    refine wpList_nil ?_
                    obtain ⟨⟨ua', un', uc', ux'⟩, hv9, hx9, -, -⟩ := Ou.su ((unhide HL9).bx.el _ (List.mem_cons_self ..))
                    have hv9' : t3 = .slice ua' un' uc' := hv9
                    subst hv9'
                    clear hv9 hx9
                    have HT' : Hid (TxI (i + 1) (tx ++ l ++ strL { data := #[10, 35] } ++ r ++ strL { data := #[10, 10] }) (ws.map (·.xs)) ∧ ws.length ≤ i + 1) := hide ⟨by
                      have h := (unhide HT).1.seg (unhide HK2) (unhide HK3) hk2 hk32
                      rw [unhide HFL] at h; exact h, by have := (unhide HT).2; simp; omega⟩
                    go_wp2_with fail
                    go_roundw
                    case rel => exact ⟨i + 1, ua', un', uc', _, _, _, _, ws, by omega, rfl, rfl, by go_num, HT', HL9⟩
                    case measure => simp [intOf]; omega
                · have hknz : ¬ (k3 : Int) < (rn : Int) := by omega
                  go_upto_region 21 with fail
                  refine wp_region_lit ?_
                  refine wl (by kernel_rfl) fun kQ hkQ => ?_
                  go_simp
                  refine hkQ _ _ ?_
                  clear hkQ kQ
                  refine wl_appS (by kernel_rfl) (.tmp 90) (.const (.string { data := #[10, 10] })) rfl rfl ((unhide HLl).bx.el _ (List.mem_cons_self ..)) { data := #[10, 10] } rfl (by decide) (by show (tx ++ l ++ strL { data := #[10, 35] } ++ r).length + 2 ≤ 140737488355328; simp only [List.length_append, strL_length]; have : ({ data := #[10, 35] } : ByteArray).size = 2 := rfl; omega) (unhide HLl).bel.size ?_
                  intro t3 w21 hO9 hg9 hl9
                  have HL9 := hide ((unhide HLl).app (Below.refl _ _) hO9 hg9 hl9)
                  clear hO9 hg9 hl9 HLl
                  simp only [Act.put]
                  refine wl (by kernel_rfl) fun kQ hkQ => ?_
                  go_simp
                  refine hkQ _ _ ?_
                  clear hkQ kQ
                  refine wpList_nil ?_
                  obtain ⟨⟨ua', un', uc', ux'⟩, hv9, hx9, -, -⟩ := Ou.su ((unhide HL9).bx.el _ (List.mem_cons_self ..))
                  have hv9' : t3 = .slice ua' un' uc' := hv9
                  subst hv9'
                  clear hv9 hx9
                  have HT' : Hid (TxI (i + 1) (tx ++ l ++ strL { data := #[10, 35] } ++ r ++ strL { data := #[10, 10] }) (ws.map (·.xs)) ∧ ws.length ≤ i + 1) := hide ⟨by
                    have h := (unhide HT).1.seg (unhide HK2) (unhide HK3) hk2 hk32
                    rw [unhide HFL] at h; exact h, by have := (unhide HT).2; simp; omega⟩
                  go_wp2_with fail
                  go_roundw
                  case rel => exact ⟨i + 1, ua', un', uc', _, _, _, _, ws, by omega, rfl, rfl, by go_num, HT', HL9⟩
                  case measure => simp [intOf]; omega
            · have hl0z : (0 : Int) < (ln : Int) := by simp at hln; omega
              obtain ⟨lb, lo, hla, -, hlc⟩ := Su.at_ (Ou.ok (s := ⟨la, ln, lc, c0 :: lr⟩) hOl) (k := 0) (by show 0 < ln; omega)
              have hla' : la = some ⟨lb, lo, none⟩ := hla
              subst hla'
              obtain rfl : lo = 0 := own_at0 hOl
              have hc9 : _ = some (Value.int .u8 c0) := hlc
              obtain ⟨l, hl0⟩ : ∃ l : List Int, l = c0 :: lr := ⟨_, rfl⟩
              by_cases h35 : c0 = 35
              · subst h35
                have HKP : Hid (¬ (l ≠ [] ∧ l.head? ≠ some 35)) := hide (fun h => h.2 (by rw [hl0]; rfl))
                rw [← hl0] at HLl HK2
                clear hl0 hOl hln HLN hla hlc
                go_upto_region 14 with fail
                clear hc9
                have HFL : Hid (flushL (ws.map (·.xs)) l = ws.map (·.xs)) := hide (by
                  unfold flushL
                  rw [if_neg (unhide HKP)])
                clear HKP
                go_upto_region 14 with fail
                have hSL14 : Su _ ⟨some ⟨lb, 0, none⟩, ln, lc, l⟩ := Ou.ok (s := ⟨some ⟨lb, 0, none⟩, ln, lc, l⟩) ((unhide HLl).bx.el _ (List.mem_cons_self ..))
                have hTX : tx.length ≤ 1694498816 := by have := (unhide HT).1.le; omega
                have hll : l.length ≤ 200 := Nat.le_trans (unhide HK2).le hk2
                have HL7 := hide ((unhide HLl).perm (List.Perm.swap _ _ _))
                refine wp_region_lit ?_
                refine wl (by kernel_rfl) fun kQ hkQ => ?_
                go_simp
                refine hkQ _ _ ?_
                clear hkQ kQ
                refine wl (by kernel_rfl) fun kQ hkQ => ?_
                go_simp
                refine hkQ _ _ ?_
                clear hkQ kQ
                refine wl_appu (by kernel_rfl) (.tmp 63) (.tmp 64) rfl rfl ((unhide HL7).bx.el _ (List.mem_cons_self ..)) ⟨some ⟨lb, 0, none⟩, ln, lc, l⟩ hSL14 rfl (by show (tx.length + ln) * 1 ≤ 140737488355328; have h1 : l.length = ln := hSL14.len; omega) (unhide HL7).bel.size ?_
                intro t1 w14 hO9 hg9 hl9
                have HL6 := hide ((unhide HL7).app (Below.refl _ _) hO9 hg9 hl9)
                clear hO9 hg9 hl9 hSL14 HL7
                simp only [Act.put]
                refine wl (by kernel_rfl) fun kQ hkQ => ?_
                go_simp
                refine hkQ _ _ ?_
                clear hkQ kQ
                refine wpList_nil ?_
                go_upto_region 15 with fail
                refine wp_region_lit ?_
                refine wl (by kernel_rfl) fun kQ hkQ => ?_
                go_simp
                refine hkQ _ _ ?_
                clear hkQ kQ
                refine wl_appS (by kernel_rfl) (.tmp 66) (.const (.string { data := #[10, 35] })) rfl rfl ((unhide HL6).bx.el _ (List.mem_cons_self ..)) { data := #[10, 35] } rfl (by decide) (by show (tx ++ l).length + 2 ≤ 140737488355328; rw [List.length_append]; omega) (unhide HL6).bel.size ?_
                intro t2 w15 hO9 hg9 hl9
                have HL5 := hide ((unhide HL6).app (Below.refl _ _) hO9 hg9 hl9)
                clear hO9 hg9 hl9 HL6
                simp only [Act.put]
                refine wl (by kernel_rfl) fun kQ hkQ => ?_
                go_simp
                refine hkQ _ _ ?_
                clear hkQ kQ
                refine wpList_nil ?_
                have HL4 : Hid (Ll w ((t2, tx ++ l ++ strL { data := #[10, 35] } ++ []) :: ws.map bxS) (.slice qa qn qc) (ws.map bxS) w15) := hide (by
                  rw [List.append_nil]
                  exact (unhide HL5).drop (((List.Sublist.refl _).cons _).cons_cons _))
                clear HL5 HLl
                obtain ⟨⟨ua, un, uc, ux⟩, hv9, hx9, -, -⟩ := Ou.su ((unhide HL4).bx.el _ (List.mem_cons_self ..))
                have hv9' : t2 = .slice ua un uc := hv9
                subst hv9'
                clear hv9 hx9
                go_wp2_with fail
                go_loopw [5, 10] (fun v5 v10 wq => ∃ (k : Nat) (ua : Option Addr) (un uc : Nat) (r : List Int), k ≤ rn ∧ k ≤ 200 ∧ v5 = .slice ua un uc ∧ v10 = .int .i64 k ∧ Hid (LnK k r) ∧ Hid (Ll w ((.slice ua un uc, tx ++ l ++ strL { data := #[10, 35] } ++ r) :: ws.map bxS) (.slice qa qn qc) (ws.map bxS) wq)) (fun _ v10 _ => 200 - (intOf v10).toNat)
                case atStart => exact ⟨0, ua, un, uc, [], by omega, by omega, rfl, rfl, hide LnK.zero, HL4⟩
                case round =>
                  clear HL4
                  obtain ⟨k3, ua, un, uc, r, hk31, hk32, rfl, rfl, HK3, HLl⟩ := hrel
                  have hrr : r.length ≤ 200 := Nat.le_trans (unhide HK3).le hk32
                  by_cases hkn : k3 < rn
                  · have hknz : (k3 : Int) < (rn : Int) := by omega
                    by_cases hk200 : k3 < 200
                    · have hk200z : (k3 : Int) < 200 := by omega
                      obtain ⟨rb, ro, hxa, -, hxc⟩ := Su.at_ (unhide HR) (k := k3) hkn
                      have hxa' : ra = some ⟨rb, ro, none⟩ := hxa
                      subst hxa'
                      have hxc' : w.cell? ⟨rb, ro + k3, none⟩ = some (.int .u8 (rx.getD k3 0)) := hxc
                      have hcz := cell_old25 hxc' (Old.of (unhide HLl).bel)
                      have hzb : 0 ≤ rx.getD k3 0 ∧ rx.getD k3 0 ≤ 255 := unhide HRB _ (mem_getD (by rw [unhide HRL]; exact hkn))
                      obtain ⟨z, hz⟩ : ∃ z, rx.getD k3 0 = z := ⟨_, rfl⟩
                      rw [hz] at hcz hzb
                      have HZB := hide hzb
                      clear hxa hxc hxc' hz hzb
                      by_cases hz10 : z = 10
                      · subst hz10
                        go_wp2_with fail
                        go_roundw
                        case rel => exact ⟨k3 + 1, ua, un, uc, r, by omega, by omega, rfl, by go_num, hide (unhide HK3).skip, HLl⟩
                        case measure => simp [intOf]; omega
                      · go_upto_region 20 with fail
                        refine wp_region_lit ?_
                        refine wl (by kernel_rfl) fun kQ hkQ => ?_
                        go_simp
                        refine hkQ _ _ ?_
                        clear hkQ kQ
                        refine wl (by kernel_rfl) fun kQ hkQ => ?_
                        go_simp
                        refine hkQ _ _ ?_
                        clear hkQ kQ
                        refine wl (by kernel_rfl) fun kQ hkQ => ?_
                        go_simp
                        refine hkQ _ _ ?_
                        clear hkQ kQ
                        refine wl (by kernel_rfl) fun kQ hkQ => ?_
                        go_simp
                        refine hkQ _ _ ?_
                        clear hkQ kQ
                        refine wl_loadC (by kernel_rfl) 5 (.tmp 86) rfl rb (ro + k3) rfl (.int .u8 z) hcz Tryd.underlying5 rfl ?_
                        simp [Act.put]
                        refine wl_bs1u (by kernel_rfl) (.tmp 87) rfl z rfl (Hs17.start0 _) ?_
                        intro gA wA hA
                        simp [Act.put]
                        have hsA : Su wA ⟨some ⟨gA, 0, none⟩, 1, 1, [z]⟩ := arr_su25 (l := [z]) (hA.get 0 rfl) (by show 1 ≤ maxLen; unfold maxLen; omega)
                        have hOA : Ou wA w.heap.size (.slice ua un uc) (tx ++ l ++ strL { data := #[10, 35] } ++ r) := own_blk ((unhide HLl).bx.el _ (List.mem_cons_self ..)) (fun g hg => hA.bel.block g (own_cells ((unhide HLl).bx.el _ (List.mem_cons_self ..)) hg).2.1)
                        refine wl_appu (by kernel_rfl) (.tmp 83) (.tmp 88) rfl rfl hOA ⟨some ⟨gA, 0, none⟩, 1, 1, [z]⟩ hsA rfl (by show ((tx ++ l ++ strL { data := #[10, 35] } ++ r).length + 1) * 1 ≤ 140737488355328; simp only [List.length_append, strL_length]; have : ({ data := #[10, 35] } : ByteArray).size = 2 := rfl; omega) (Nat.le_trans (unhide HLl).bel.size hA.bel.size) ?_
                        intro v9 wB hO9 hg9 hl9
                        have HL9 := hide ((unhide HLl).app hA.bel hO9 hg9 hl9)
                        clear hsA hOA hO9 hg9 hl9 hA
                        simp only [Act.put]
                        refine wl (by kernel_rfl) fun kQ hkQ => ?_
                        go_simp
                        refine hkQ _ _ ?_
                        clear hkQ kQ
                        refine wpList_nil ?_
                        obtain ⟨⟨ua', un', uc', ux'⟩, hv9, hx9, -, -⟩ := Ou.su ((unhide HL9).bx.el _ (List.mem_cons_self ..))
                        have hv9' : v9 = .slice ua' un' uc' := hv9
                        subst hv9'
                        clear hv9 hx9
                        go_wp2_with fail
                        go_roundw
                        case rel => exact ⟨k3 + 1, ua', un', uc', r ++ [z], by omega, by omega, rfl, by go_num, hide ((unhide HK3).put (unhide HZB) hz10), hide (by have h := unhide HL9; rw [List.append_assoc _ r [z]] at h; exact h)⟩
                        case measure => simp [intOf]; omega
                    · have hk200z : ¬ (k3 : Int) < 200 := by omega
                      go_upto_region 21 with fail
                      refine wp_region_lit ?_
                      refine wl (by kernel_rfl) fun kQ hkQ => ?_
                      go_simp
                      refine hkQ _ _ ?_
                      clear hkQ kQ
                      refine wl_appS (by kernel_rfl) (.tmp 90) (.const (.string { data := #[10, 10] })) rfl rfl ((unhide HLl).bx.el _ (List.mem_cons_self ..)) { data := #[10, 10] } rfl (by decide) (by show (tx ++ l ++ strL { data := #[10, 35] } ++ r).length + 2 ≤ 140737488355328; simp only [List.length_append, strL_length]; have : ({ data := #[10, 35] } : ByteArray).size = 2 := rfl; omega) (unhide HLl).bel.size ?_
                      intro t3 w21 hO9 hg9 hl9
                      have HL9 := hide ((unhide HLl).app (Below.refl _ _) hO9 hg9 hl9)
                      clear hO9 hg9 hl9 HLl
                      simp only [Act.put]
                      refine wl (by kernel_rfl) fun kQ hkQ => ?_
                      go_simp
                      refine hkQ _ _ ?_
                      clear hkQ kQ
                      refine wpList_nil ?_
                      obtain ⟨⟨ua', un', uc', ux'⟩, hv9, hx9, -, -⟩ := Ou.su ((unhide HL9).bx.el _ (List.mem_cons_self ..))
                      have hv9' : t3 = .slice ua' un' uc' := hv9
                      subst hv9'
                      clear hv9 hx9
                      have HT' : Hid (TxI (i + 1) (tx ++ l ++ strL { data := #[10, 35] } ++ r ++ strL { data := #[10, 10] }) (ws.map (·.xs)) ∧ ws.length ≤ i + 1) := hide ⟨by
                        have h := (unhide HT).1.seg (unhide HK2) (unhide HK3) hk2 hk32
                        rw [unhide HFL] at h; exact h, by have := (unhide HT).2; simp; omega⟩
                      go_wp2_with fail
                      go_roundw
                      case rel => exact ⟨i + 1, ua', un', uc', _, _, _, _, ws, by omega, rfl, rfl, by go_num, HT', HL9⟩
                      case measure => simp [intOf]; omega
                  · have hknz : ¬ (k3 : Int) < (rn : Int) := by omega
                    go_upto_region 21 with fail
                    refine wp_region_lit ?_
                    refine wl (by kernel_rfl) fun kQ hkQ => ?_
                    go_simp
                    refine hkQ _ _ ?_
                    clear hkQ kQ
                    refine wl_appS (by kernel_rfl) (.tmp 90) (.const (.string { data := #[10, 10] })) rfl rfl ((unhide HLl).bx.el _ (List.mem_cons_self ..)) { data := #[10, 10] } rfl (by decide) (by show (tx ++ l ++ strL { data := #[10, 35] } ++ r).length + 2 ≤ 140737488355328; simp only [List.length_append, strL_length]; have : ({ data := #[10, 35] } : ByteArray).size = 2 := rfl; omega) (unhide HLl).bel.size ?_
                    intro t3 w21 hO9 hg9 hl9
                    have HL9 := hide ((unhide HLl).app (Below.refl _ _) hO9 hg9 hl9)
                    clear hO9 hg9 hl9 HLl
                    simp only [Act.put]
                    refine wl (by kernel_rfl) fun kQ hkQ => ?_
                    go_simp
                    refine hkQ _ _ ?_
                    clear hkQ kQ
                    refine wpList_nil ?_
                    obtain ⟨⟨ua', un', uc', ux'⟩, hv9, hx9, -, -⟩ := Ou.su ((unhide HL9).bx.el _ (List.mem_cons_self ..))
                    have hv9' : t3 = .slice ua' un' uc' := hv9
                    subst hv9'
                    clear hv9 hx9
                    have HT' : Hid (TxI (i + 1) (tx ++ l ++ strL { data := #[10, 35] } ++ r ++ strL { data := #[10, 10] }) (ws.map (·.xs)) ∧ ws.length ≤ i + 1) := hide ⟨by
                      have h := (unhide HT).1.seg (unhide HK2) (unhide HK3) hk2 hk32
                      rw [unhide HFL] at h; exact h, by have := (unhide HT).2; simp; omega⟩
                    go_wp2_with fail
                    go_roundw
                    case rel => exact ⟨i + 1, ua', un', uc', _, _, _, _, ws, by omega, rfl, rfl, by go_num, HT', HL9⟩
                    case measure => simp [intOf]; omega
              · have HKP : Hid (l ≠ [] ∧ l.head? ≠ some 35) := hide ⟨by rw [hl0]; simp, by rw [hl0]; simpa using h35⟩
                rw [← hl0] at HLl HK2
                clear hl0 hOl hln HLN hla hlc
                go_upto_region 13 with fail
                clear hc9
                go_upto_region 13 with fail
                refine wp_region_lit ?_
                refine wl (by kernel_rfl) fun kQ hkQ => ?_
                go_simp
                refine hkQ _ _ ?_
                clear hkQ kQ
                refine wl (by kernel_rfl) fun kQ hkQ => ?_
                go_simp
                refine hkQ _ _ ?_
                clear hkQ kQ
                refine wl_bs1v (by kernel_rfl) (.tmp 60) rfl ⟨some ⟨lb, 0, none⟩, ln, lc, l⟩ rfl (Hs17.start0 _) ?_
                intro gA wA hA
                simp [Act.put]
                have hsA : Sx.Ok sbC 1 wA (⟨some ⟨gA, 0, none⟩, 1, 1, [(⟨some ⟨lb, 0, none⟩, ln, lc, l⟩ : Sx Int)]⟩ : Sx (Sx Int)) := arr_sb25 (hA.get 0 rfl)
                have hOA : wA.ownsRow w.heap.size 28 1 (.slice qa qn qc) ws.length (ws.flatMap sbC) := by
                  have h1 := (unhide HLl).ow
                  rw [bxS_v, List.length_map] at h1
                  exact own_blk h1 (fun g hg => hA.bel.block g (own_cells h1 hg).2.1)
                refine wl_appv (by kernel_rfl) (.tmp 59) (.tmp 61) rfl rfl hOA ⟨some ⟨gA, 0, none⟩, 1, 1, [⟨some ⟨lb, 0, none⟩, ln, lc, l⟩]⟩ hsA rfl (by show (ws.length + 1) * 24 ≤ 140737488355328; have := (unhide HT).2; omega) (Nat.le_trans (unhide HLl).bel.size hA.bel.size) ?_
                intro wv2 wB hO9 hg9
                have HL8 : Hid (Ll w ((.slice (some ⟨lb, 0, none⟩) ln lc, l) :: (.slice ta tn tc, tx) :: ws.map bxS) wv2 ((ws ++ [(⟨some ⟨lb, 0, none⟩, ln, lc, l⟩ : Sx Int)]).map bxS) wB) := hide (by
                  have h9 := (unhide HLl).want (u := ((.slice (some ⟨lb, 0, none⟩) ln lc, l) : Bx)) (wv' := wv2) (X3 := wB) hA.bel (by rw [bxS_v, List.length_map]; have h := hO9; rw [List.flatMap_append, List.length_append] at h; exact h) hg9
                  rw [List.map_append]; exact h9)
                clear hsA hOA hO9 hg9 hA HLl
                have HLl := HL8
                clear HL8
                obtain ⟨⟨qa2, qn2, qc2, qx2⟩, hv9, -, -, -⟩ := own_sx (f := sbC) (by have h := (unhide HLl).ow; rw [bxS_v, List.length_map] at h; exact h) (fun z _ => sbC_len z)
                have hv9' : wv2 = .slice qa2 qn2 qc2 := hv9
                subst hv9'
                clear hv9
                simp only [Act.put]
                refine wl (by kernel_rfl) fun kQ hkQ => ?_
                go_simp
                refine hkQ _ _ ?_
                clear hkQ kQ
                refine wpList_nil ?_
                clear hci
                have HFL : Hid (flushL (ws.map (·.xs)) l = (ws ++ [(⟨some ⟨lb, 0, none⟩, ln, lc, l⟩ : Sx Int)]).map (·.xs)) := hide (by
                  unfold flushL
                  rw [if_pos (unhide HKP), List.map_append]; rfl)
                clear HKP
                go_upto_region 14 with fail
                have hSL14 : Su _ ⟨some ⟨lb, 0, none⟩, ln, lc, l⟩ := Ou.ok (s := ⟨some ⟨lb, 0, none⟩, ln, lc, l⟩) ((unhide HLl).bx.el _ (List.mem_cons_self ..))
                have hTX : tx.length ≤ 1694498816 := by have := (unhide HT).1.le; omega
                have hll : l.length ≤ 200 := Nat.le_trans (unhide HK2).le hk2
                have HL7 := hide ((unhide HLl).perm (List.Perm.swap _ _ _))
                refine wp_region_lit ?_
                refine wl (by kernel_rfl) fun kQ hkQ => ?_
                go_simp
                refine hkQ _ _ ?_
                clear hkQ kQ
                refine wl (by kernel_rfl) fun kQ hkQ => ?_
                go_simp
                refine hkQ _ _ ?_
                clear hkQ kQ
                refine wl_appu (by kernel_rfl) (.tmp 63) (.tmp 64) rfl rfl ((unhide HL7).bx.el _ (List.mem_cons_self ..)) ⟨some ⟨lb, 0, none⟩, ln, lc, l⟩ hSL14 rfl (by show (tx.length + ln) * 1 ≤ 140737488355328; have h1 : l.length = ln := hSL14.len; omega) (unhide HL7).bel.size ?_
                intro t1 w14 hO9 hg9 hl9
                have HL6 := hide ((unhide HL7).app (Below.refl _ _) hO9 hg9 hl9)
                clear hO9 hg9 hl9 hSL14 HL7
                simp only [Act.put]
                refine wl (by kernel_rfl) fun kQ hkQ => ?_
                go_simp
                refine hkQ _ _ ?_
                clear hkQ kQ
                refine wpList_nil ?_
                go_upto_region 15 with fail
                refine wp_region_lit ?_
                refine wl (by kernel_rfl) fun kQ hkQ => ?_
                go_simp
                refine hkQ _ _ ?_
                clear hkQ kQ
                refine wl_appS (by kernel_rfl) (.tmp 66) (.const (.string { data := #[10, 35] })) rfl rfl ((unhide HL6).bx.el _ (List.mem_cons_self ..)) { data := #[10, 35] } rfl (by decide) (by show (tx ++ l).length + 2 ≤ 140737488355328; rw [List.length_append]; omega) (unhide HL6).bel.size ?_
                intro t2 w15 hO9 hg9 hl9
                have HL5 := hide ((unhide HL6).app (Below.refl _ _) hO9 hg9 hl9)
                clear hO9 hg9 hl9 HL6
                simp only [Act.put]
                refine wl (by kernel_rfl) fun kQ hkQ => ?_
                go_simp
                refine hkQ _ _ ?_
                clear hkQ kQ
                refine wpList_nil ?_
                have HL4 : Hid (Ll w ((t2, tx ++ l ++ strL { data := #[10, 35] } ++ []) :: (ws ++ [(⟨some ⟨lb, 0, none⟩, ln, lc, l⟩ : Sx Int)]).map bxS) (.slice qa2 qn2 qc2) ((ws ++ [(⟨some ⟨lb, 0, none⟩, ln, lc, l⟩ : Sx Int)]).map bxS) w15) := hide (by
                  rw [List.append_nil, List.map_append]
                  rw [List.map_append] at HL5
                  exact (unhide HL5).perm ((List.perm_append_comm (l₁ := [bxS (⟨some ⟨lb, 0, none⟩, ln, lc, l⟩ : Sx Int)]) (l₂ := ws.map bxS)).cons _))
                clear HL5 HLl
                obtain ⟨⟨ua, un, uc, ux⟩, hv9, hx9, -, -⟩ := Ou.su ((unhide HL4).bx.el _ (List.mem_cons_self ..))
                have hv9' : t2 = .slice ua un uc := hv9
                subst hv9'
                clear hv9 hx9
                go_wp2_with fail
                go_loopw [5, 10] (fun v5 v10 wq => ∃ (k : Nat) (ua : Option Addr) (un uc : Nat) (r : List Int), k ≤ rn ∧ k ≤ 200 ∧ v5 = .slice ua un uc ∧ v10 = .int .i64 k ∧ Hid (LnK k r) ∧ Hid (Ll w ((.slice ua un uc, tx ++ l ++ strL { data := #[10, 35] } ++ r) :: (ws ++ [(⟨some ⟨lb, 0, none⟩, ln, lc, l⟩ : Sx Int)]).map bxS) (.slice qa2 qn2 qc2) ((ws ++ [(⟨some ⟨lb, 0, none⟩, ln, lc, l⟩ : Sx Int)]).map bxS) wq)) (fun _ v10 _ => 200 - (intOf v10).toNat)
                case atStart => exact ⟨0, ua, un, uc, [], by omega, by omega, rfl, rfl, hide LnK.zero, HL4⟩
                case round =>
                  clear HL4
                  obtain ⟨k3, ua, un, uc, r, hk31, hk32, rfl, rfl, HK3, HLl⟩ := hrel
                  have hrr : r.length ≤ 200 := Nat.le_trans (unhide HK3).le hk32
                  by_cases hkn : k3 < rn
                  · have hknz : (k3 : Int) < (rn : Int) := by omega
                    by_cases hk200 : k3 < 200
                    · have hk200z : (k3 : Int) < 200 := by omega
                      obtain ⟨rb, ro, hxa, -, hxc⟩ := Su.at_ (unhide HR) (k := k3) hkn
                      have hxa' : ra = some ⟨rb, ro, none⟩ := hxa
                      subst hxa'
                      have hxc' : w.cell? ⟨rb, ro + k3, none⟩ = some (.int .u8 (rx.getD k3 0)) := hxc
                      have hcz := cell_old25 hxc' (Old.of (unhide HLl).bel)
                      have hzb : 0 ≤ rx.getD k3 0 ∧ rx.getD k3 0 ≤ 255 := unhide HRB _ (mem_getD (by rw [unhide HRL]; exact hkn))
                      obtain ⟨z, hz⟩ : ∃ z, rx.getD k3 0 = z := ⟨_, rfl⟩
                      rw [hz] at hcz hzb
                      have HZB := hide hzb
                      clear hxa hxc hxc' hz hzb
                      by_cases hz10 : z = 10
                      · subst hz10
                        go_wp2_with fail
                        go_roundw
                        case rel => exact ⟨k3 + 1, ua, un, uc, r, by omega, by omega, rfl, by go_num, hide (unhide HK3).skip, HLl⟩
                        case measure => simp [intOf]; omega
                      · go_upto_region 20 with fail
                        refine wp_region_lit ?_
                        refine wl (by kernel_rfl) fun kQ hkQ => ?_
                        go_simp
                        refine hkQ _ _ ?_
                        clear hkQ kQ
                        refine wl (by kernel_rfl) fun kQ hkQ => ?_
                        go_simp
                        refine hkQ _ _ ?_
                        clear hkQ kQ
                        refine wl (by kernel_rfl) fun kQ hkQ => ?_
                        go_simp
                        refine hkQ _ _ ?_
                        clear hkQ kQ
                        refine wl (by kernel_rfl) fun kQ hkQ => ?_
                        go_simp
                        refine hkQ _ _ ?_
                        clear hkQ kQ
                        refine wl_loadC (by kernel_rfl) 5 (.tmp 86) rfl rb (ro + k3) rfl (.int .u8 z) hcz Tryd.underlying5 rfl ?_
                        simp [Act.put]
                        refine wl_bs1u (by kernel_rfl) (.tmp 87) rfl z rfl (Hs17.start0 _) ?_
                        intro gA wA hA
                        simp [Act.put]
                        have hsA : Su wA ⟨some ⟨gA, 0, none⟩, 1, 1, [z]⟩ := arr_su25 (l := [z]) (hA.get 0 rfl) (by show 1 ≤ maxLen; unfold maxLen; omega)
                        have hOA : Ou wA w.heap.size (.slice ua un uc) (tx ++ l ++ strL { data := #[10, 35] } ++ r) := own_blk ((unhide HLl).bx.el _ (List.mem_cons_self ..)) (fun g hg => hA.bel.block g (own_cells ((unhide HLl).bx.el _ (List.mem_cons_self ..)) hg).2.1)
                        refine wl_appu (by kernel_rfl) (.tmp 83) (.tmp 88) rfl rfl hOA ⟨some ⟨gA, 0, none⟩, 1, 1, [z]⟩ hsA rfl (by show ((tx ++ l ++ strL { data := #[10, 35] } ++ r).length + 1) * 1 ≤ 140737488355328; simp only [List.length_append, strL_length]; have : ({ data := #[10, 35] } : ByteArray).size = 2 := rfl; omega) (Nat.le_trans (unhide HLl).bel.size hA.bel.size) ?_
                        intro v9 wB hO9 hg9 hl9
                        have HL9 := hide ((unhide HLl).app hA.bel hO9 hg9 hl9)
                        clear hsA hOA hO9 hg9 hl9 hA
                        simp only [Act.put]
                        refine wl (by kernel_rfl) fun kQ hkQ => ?_
                        go_simp
                        refine hkQ _ _ ?_
                        clear hkQ kQ
                        refine wpList_nil ?_
                        obtain ⟨⟨ua', un', uc', ux'⟩, hv9, hx9, -, -⟩ := Ou.su ((unhide HL9).bx.el _ (List.mem_cons_self ..))
                        have hv9' : v9 = .slice ua' un' uc' := hv9
                        subst hv9'
                        clear hv9 hx9
                        go_wp2_with fail
                        go_roundw
                        case rel => exact ⟨k3 + 1, ua', un', uc', r ++ [z], by omega, by omega, rfl, by go_num, hide ((unhide HK3).put (unhide HZB) hz10), hide (by have h := unhide HL9; rw [List.append_assoc _ r [z]] at h; exact h)⟩
                        case measure => simp [intOf]; omega
                    · have hk200z : ¬ (k3 : Int) < 200 := by omega
                      go_upto_region 21 with fail
                      refine wp_region_lit ?_
                      refine wl (by kernel_rfl) fun kQ hkQ => ?_
                      go_simp
                      refine hkQ _ _ ?_
                      clear hkQ kQ
                      refine wl_appS (by kernel_rfl) (.tmp 90) (.const (.string { data := #[10, 10] })) rfl rfl ((unhide HLl).bx.el _ (List.mem_cons_self ..)) { data := #[10, 10] } rfl (by decide) (by show (tx ++ l ++ strL { data := #[10, 35] } ++ r).length + 2 ≤ 140737488355328; simp only [List.length_append, strL_length]; have : ({ data := #[10, 35] } : ByteArray).size = 2 := rfl; omega) (unhide HLl).bel.size ?_
                      intro t3 w21 hO9 hg9 hl9
                      have HL9 := hide ((unhide HLl).app (Below.refl _ _) hO9 hg9 hl9)
                      clear hO9 hg9 hl9 HLl
                      simp only [Act.put]
                      refine wl (by kernel_rfl) fun kQ hkQ => ?_
                      go_simp
                      refine hkQ _ _ ?_
                      clear hkQ kQ
                      refine wpList_nil ?_
                      obtain ⟨⟨ua', un', uc', ux'⟩, hv9, hx9, -, -⟩ := Ou.su ((unhide HL9).bx.el _ (List.mem_cons_self ..))
                      have hv9' : t3 = .slice ua' un' uc' := hv9
                      subst hv9'
                      clear hv9 hx9
                      have HT' : Hid (TxI (i + 1) (tx ++ l ++ strL { data := #[10, 35] } ++ r ++ strL { data := #[10, 10] }) ((ws ++ [(⟨some ⟨lb, 0, none⟩, ln, lc, l⟩ : Sx Int)]).map (·.xs)) ∧ (ws ++ [(⟨some ⟨lb, 0, none⟩, ln, lc, l⟩ : Sx Int)]).length ≤ i + 1) := hide ⟨by
                        have h := (unhide HT).1.seg (unhide HK2) (unhide HK3) hk2 hk32
                        rw [unhide HFL] at h; exact h, by have := (unhide HT).2; simp; omega⟩
                      go_wp2_with fail
                      go_roundw
                      case rel => exact ⟨i + 1, ua', un', uc', _, _, _, _, (ws ++ [(⟨some ⟨lb, 0, none⟩, ln, lc, l⟩ : Sx Int)]), by omega, rfl, rfl, by go_num, HT', HL9⟩
                      case measure => simp [intOf]; omega
                  · have hknz : ¬ (k3 : Int) < (rn : Int) := by omega
                    go_upto_region 21 with fail
                    refine wp_region_lit ?_
                    refine wl (by kernel_rfl) fun kQ hkQ => ?_
                    go_simp
                    refine hkQ _ _ ?_
                    clear hkQ kQ
                    refine wl_appS (by kernel_rfl) (.tmp 90) (.const (.string { data := #[10, 10] })) rfl rfl ((unhide HLl).bx.el _ (List.mem_cons_self ..)) { data := #[10, 10] } rfl (by decide) (by show (tx ++ l ++ strL { data := #[10, 35] } ++ r).length + 2 ≤ 140737488355328; simp only [List.length_append, strL_length]; have : ({ data := #[10, 35] } : ByteArray).size = 2 := rfl; omega) (unhide HLl).bel.size ?_
                    intro t3 w21 hO9 hg9 hl9
                    have HL9 := hide ((unhide HLl).app (Below.refl _ _) hO9 hg9 hl9)
                    clear hO9 hg9 hl9 HLl
                    simp only [Act.put]
                    refine wl (by kernel_rfl) fun kQ hkQ => ?_
                    go_simp
                    refine hkQ _ _ ?_
                    clear hkQ kQ
                    refine wpList_nil ?_
                    obtain ⟨⟨ua', un', uc', ux'⟩, hv9, hx9, -, -⟩ := Ou.su ((unhide HL9).bx.el _ (List.mem_cons_self ..))
                    have hv9' : t3 = .slice ua' un' uc' := hv9
                    subst hv9'
                    clear hv9 hx9
                    have HT' : Hid (TxI (i + 1) (tx ++ l ++ strL { data := #[10, 35] } ++ r ++ strL { data := #[10, 10] }) ((ws ++ [(⟨some ⟨lb, 0, none⟩, ln, lc, l⟩ : Sx Int)]).map (·.xs)) ∧ (ws ++ [(⟨some ⟨lb, 0, none⟩, ln, lc, l⟩ : Sx Int)]).length ≤ i + 1) := hide ⟨by
                      have h := (unhide HT).1.seg (unhide HK2) (unhide HK3) hk2 hk32
                      rw [unhide HFL] at h; exact h, by have := (unhide HT).2; simp; omega⟩
                    go_wp2_with fail
                    go_roundw
                    case rel => exact ⟨i + 1, ua', un', uc', _, _, _, _, (ws ++ [(⟨some ⟨lb, 0, none⟩, ln, lc, l⟩ : Sx Int)]), by omega, rfl, rfl, by go_num, HT', HL9⟩
                    case measure => simp [intOf]; omega
        · have hknz : ¬ (k : Int) < (xn : Int) := by omega
          have hOl := (unhide HLl).bx.el _ (List.mem_cons_self ..)
          have hln : l.length = ln := (Ou.ok (s := ⟨la, ln, lc, l⟩) hOl).len
          have HLN := hide hln
          rcases l with _ | ⟨c0, lr⟩
          · obtain rfl : ln = 0 := hln.symm
            clear hOl hln HLN
            obtain ⟨l, hl0⟩ : ∃ l : List Int, l = [] := ⟨_, rfl⟩
            rw [← hl0] at HLl HK2
            have HKP : Hid (¬ (l ≠ [] ∧ l.head? ≠ some 35)) := hide (fun h => h.1 hl0)
            clear hl0
            have HFL : Hid (flushL (ws.map (·.xs)) l = ws.map (·.xs)) := hide (by
              unfold flushL
              rw [if_neg (unhide HKP)])
            clear HKP
            go_upto_region 14 with fail
            have hSL14 : Su _ ⟨la, 0, lc, l⟩ := Ou.ok (s := ⟨la, 0, lc, l⟩) ((unhide HLl).bx.el _ (List.mem_cons_self ..))
            have hTX : tx.length ≤ 1694498816 := by have := (unhide HT).1.le; omega
            have hll : l.length ≤ 200 := Nat.le_trans (unhide HK2).le hk2
            have HL7 := hide ((unhide HLl).perm (List.Perm.swap _ _ _))
            refine wp_region_lit ?_
            refine wl (by kernel_rfl) fun kQ hkQ => ?_
            go_simp
            refine hkQ _ _ ?_
            clear hkQ kQ
            refine wl (by kernel_rfl) fun kQ hkQ => ?_
            go_simp
            refine hkQ _ _ ?_
            clear hkQ kQ
            refine wl_appu (by kernel_rfl) (.tmp 63) (.tmp 64) rfl rfl ((unhide HL7).bx.el _ (List.mem_cons_self ..)) ⟨la, 0, lc, l⟩ hSL14 rfl (by show (tx.length + 0) * 1 ≤ 140737488355328; have h1 : l.length = 0 := hSL14.len; omega) (unhide HL7).bel.size ?_
            intro t1 w14 hO9 hg9 hl9
            have HL6 := hide ((unhide HL7).app (Below.refl _ _) hO9 hg9 hl9)
            clear hO9 hg9 hl9 hSL14 HL7
            simp only [Act.put]
            refine wl (by kernel_rfl) fun kQ hkQ => ?_
            go_simp
            refine hkQ _ _ ?_
            clear hkQ kQ
            refine wpList_nil ?_
            go_upto_region 15 with fail
            refine wp_region_lit ?_
            refine wl (by kernel_rfl) fun kQ hkQ => ?_
            go_simp
            refine hkQ _ _ ?_
            clear hkQ kQ
            refine wl_appS (by kernel_rfl) (.tmp 66) (.const (.string { data := #[10, 35] })) rfl rfl ((unhide HL6).bx.el _ (List.mem_cons_self ..)) { data := #[10, 35] } rfl (by decide) (by show (tx ++ l).length + 2 ≤ 140737488355328; rw [List.length_append]; omega) (unhide HL6).bel.size ?_
            intro t2 w15 hO9 hg9 hl9
            have HL5 := hide ((unhide HL6).app (Below.refl _ _) hO9 hg9 hl9)
            clear hO9 hg9 hl9 HL6
            simp only [Act.put]
            refine wl (by kernel_rfl) fun kQ hkQ => ?_
            go_simp
            refine hkQ _ _ ?_
            clear hkQ kQ
            refine wpList_nil ?_
            have HL4 : Hid (Ll w ((t2, tx ++ l ++ strL { data := #[10, 35] } ++ []) :: ws.map bxS) (.slice qa qn qc) (ws.map bxS) w15) := hide (by
              rw [List.append_nil]
              exact (unhide HL5).drop (((List.Sublist.refl _).cons _).cons_cons _))
            clear HL5 HLl
            obtain ⟨⟨ua, un, uc, ux⟩, hv9, hx9, -, -⟩ := Ou.su ((unhide HL4).bx.el _ (List.mem_cons_self ..))
            have hv9' : t2 = .slice ua un uc := hv9
            subst hv9'
            clear hv9 hx9
            go_wp2_with fail
            go_loopw [5, 10] (fun v5 v10 wq => ∃ (k : Nat) (ua : Option Addr) (un uc : Nat) (r : List Int), k ≤ rn ∧ k ≤ 200 ∧ v5 = .slice ua un uc ∧ v10 = .int .i64 k ∧ Hid (LnK k r) ∧ Hid (Ll w ((.slice ua un uc, tx ++ l ++ strL { data := #[10, 35] } ++ r) :: ws.map bxS) (.slice qa qn qc) (ws.map bxS) wq)) (fun _ v10 _ => 200 - (intOf v10).toNat)
            case atStart => exact ⟨0, ua, un, uc, [], by omega, by omega, rfl, rfl, hide LnK.zero, HL4⟩
            case round =>
              clear HL4
              obtain ⟨k3, ua, un, uc, r, hk31, hk32, rfl, rfl, HK3, HLl⟩ := hrel
              have hrr : r.length ≤ 200 := Nat.le_trans (unhide HK3).le hk32
              by_cases hkn : k3 < rn
              · have hknz : (k3 : Int) < (rn : Int) := by omega
                by_cases hk200 : k3 < 200
                · have hk200z : (k3 : Int) < 200 := by omega
                  obtain ⟨rb, ro, hxa, -, hxc⟩ := Su.at_ (unhide HR) (k := k3) hkn
                  have hxa' : ra = some ⟨rb, ro, none⟩ := hxa
                  subst hxa'
                  have hxc' : w.cell? ⟨rb, ro + k3, none⟩ = some (.int .u8 (rx.getD k3 0)) := hxc
                  have hcz := cell_old25 hxc' (Old.of (unhide HLl).bel)
                  have hzb : 0 ≤ rx.getD k3 0 ∧ rx.getD k3 0 ≤ 255 := unhide HRB _ (mem_getD (by rw [unhide HRL]; exact hkn))
                  obtain ⟨z, hz⟩ : ∃ z, rx.getD k3 0 = z := ⟨_, rfl⟩
                  rw [hz] at hcz hzb
                  have HZB := hide hzb
                  clear hxa hxc hxc' hz hzb
                  by_cases hz10 : z = 10
                  · subst hz10
                    go_wp2_with fail
                    go_roundw
                    case rel => exact ⟨k3 + 1, ua, un, uc, r, by omega, by omega, rfl, by go_num, hide (unhide HK3).skip, HLl⟩
                    case measure => simp [intOf]; omega
                  · go_upto_region 20 with fail
                    refine wp_region_lit ?_
                    refine wl (by kernel_rfl) fun kQ hkQ => ?_
                    go_simp
                    refine hkQ _ _ ?_
                    clear hkQ kQ
                    refine wl (by kernel_rfl) fun kQ hkQ => ?_
                    go_simp
                    refine hkQ _ _ ?_
                    clear hkQ kQ
                    refine wl (by kernel_rfl) fun kQ hkQ => ?_
                    go_simp
                    refine hkQ _ _ ?_
                    clear hkQ kQ
                    refine wl (by kernel_rfl) fun kQ hkQ => ?_
                    go_simp
                    refine hkQ _ _ ?_
                    clear hkQ kQ
                    refine wl_loadC (by kernel_rfl) 5 (.tmp 86) rfl rb (ro + k3) rfl (.int .u8 z) hcz Tryd.underlying5 rfl ?_
                    simp [Act.put]
                    refine wl_bs1u (by kernel_rfl) (.tmp 87) rfl z rfl (Hs17.start0 _) ?_
                    intro gA wA hA
                    simp [Act.put]
                    have hsA : Su wA ⟨some ⟨gA, 0, none⟩, 1, 1, [z]⟩ := arr_su25 (l := [z]) (hA.get 0 rfl) (by show 1 ≤ maxLen; unfold maxLen; omega)
                    have hOA : Ou wA w.heap.size (.slice ua un uc) (tx ++ l ++ strL { data := #[10, 35] } ++ r) := own_blk ((unhide HLl).bx.el _ (List.mem_cons_self ..)) (fun g hg => hA.bel.block g (own_cells ((unhide HLl).bx.el _ (List.mem_cons_self ..)) hg).2.1)
                    refine wl_appu (by kernel_rfl) (.tmp 83) (.tmp 88) rfl rfl hOA ⟨some ⟨gA, 0, none⟩, 1, 1, [z]⟩ hsA rfl (by show ((tx ++ l ++ strL { data := #[10, 35] } ++ r).length + 1) * 1 ≤ 140737488355328; simp only [List.length_append, strL_length]; have : ({ data := #[10, 35] } : ByteArray).size = 2 := rfl; omega) (Nat.le_trans (unhide HLl).bel.size hA.bel.size) ?_
                    intro v9 wB hO9 hg9 hl9
                    have HL9 := hide ((unhide HLl).app hA.bel hO9 hg9 hl9)
                    clear hsA hOA hO9 hg9 hl9 hA
                    simp only [Act.put]
                    refine wl (by kernel_rfl) fun kQ hkQ => ?_
                    go_simp
                    refine hkQ _ _ ?_
                    clear hkQ kQ
                    refine wpList_nil ?_
                    obtain ⟨⟨ua', un', uc', ux'⟩, hv9, hx9, -, -⟩ := Ou.su ((unhide HL9).bx.el _ (List.mem_cons_self ..))
                    have hv9' : v9 = .slice ua' un' uc' := hv9
                    subst hv9'
                    clear hv9 hx9
                    go_wp2_with fail
                    go_roundw
                    case rel => exact ⟨k3 + 1, ua', un', uc', r ++ [z], by omega, by omega, rfl, by go_num, hide ((unhide HK3).put (unhide HZB) hz10), hide (by have h := unhide HL9; rw [List.append_assoc _ r [z]] at h; exact h)⟩
                    case measure => simp [intOf]; omega
                · have hk200z : ¬ (k3 : Int) < 200 := by omega
                  go_upto_region 21 with fail
                  refine wp_region_lit ?_
                  refine wl (by kernel_rfl) fun kQ hkQ => ?_
                  go_simp
                  refine hkQ _ _ ?_
                  clear hkQ kQ
                  refine wl_appS (by kernel_rfl) (.tmp 90) (.const (.string { data := #[10, 10] })) rfl rfl ((unhide HLl).bx.el _ (List.mem_cons_self ..)) { data := #[10, 10] } rfl (by decide) (by show (tx ++ l ++ strL { data := #[10, 35] } ++ r).length + 2 ≤ 140737488355328; simp only [List.length_append, strL_length]; have : ({ data := #[10, 35] } : ByteArray).size = 2 := rfl; omega) (unhide HLl).bel.size ?_
                  intro t3 w21 hO9 hg9 hl9
                  have HL9 := hide ((unhide HLl).app (Below.refl _ _) hO9 hg9 hl9)
                  clear hO9 hg9 hl9 HLl
                  simp only [Act.put]
                  refine wl (by kernel_rfl) fun kQ hkQ => ?_
                  go_simp
                  refine hkQ _ _ ?_
                  clear hkQ kQ
                  refine wpList_nil ?_
                  obtain ⟨⟨ua', un', uc', ux'⟩, hv9, hx9, -, -⟩ := Ou.su ((unhide HL9).bx.el _ (List.mem_cons_self ..))
                  have hv9' : t3 = .slice ua' un' uc' := hv9
                  subst hv9'
                  clear hv9 hx9
                  have HT' : Hid (TxI (i + 1) (tx ++ l ++ strL { data := #[10, 35] } ++ r ++ strL { data := #[10, 10] }) (ws.map (·.xs)) ∧ ws.length ≤ i + 1) := hide ⟨by
                    have h := (unhide HT).1.seg (unhide HK2) (unhide HK3) hk2 hk32
                    rw [unhide HFL] at h; exact h, by have := (unhide HT).2; simp; omega⟩
                  go_wp2_with fail
                  go_roundw
                  case rel => exact ⟨i + 1, ua', un', uc', _, _, _, _, ws, by omega, rfl, rfl, by go_num, HT', HL9⟩
                  case measure => simp [intOf]; omega
              · have hknz : ¬ (k3 : Int) < (rn : Int) := by omega
                go_upto_region 21 with fail
                refine wp_region_lit ?_
                refine wl (by kernel_rfl) fun kQ hkQ => ?_
                go_simp
                refine hkQ _ _ ?_
                clear hkQ kQ
                refine wl_appS (by kernel_rfl) (.tmp 90) (.const (.string { data := #[10, 10] })) rfl rfl ((unhide HLl).bx.el _ (List.mem_cons_self ..)) { data := #[10, 10] } rfl (by decide) (by show (tx ++ l ++ strL { data := #[10, 35] } ++ r).length + 2 ≤ 140737488355328; simp only [List.length_append, strL_length]; have : ({ data := #[10, 35] } : ByteArray).size = 2 := rfl; omega) (unhide HLl).bel.size ?_
                intro t3 w21 hO9 hg9 hl9
                have HL9 := hide ((unhide HLl).app (Below.refl _ _) hO9 hg9 hl9)
                clear hO9 hg9 hl9 HLl
                simp only [Act.put]
                refine wl (by kernel_rfl) fun kQ hkQ => ?_
                go_simp
                refine hkQ _ _ ?_
                clear hkQ kQ
                refine wpList_nil ?_
                obtain ⟨⟨ua', un', uc', ux'⟩, hv9, hx9, -, -⟩ := Ou.su ((unhide HL9).bx.el _ (List.mem_cons_self ..))
                have hv9' : t3 = .slice ua' un' uc' := hv9
                subst hv9'
                clear hv9 hx9
                have HT' : Hid (TxI (i + 1) (tx ++ l ++ strL { data := #[10, 35] } ++ r ++ strL { data := #[10, 10] }) (ws.map (·.xs)) ∧ ws.length ≤ i + 1) := hide ⟨by
                  have h := (unhide HT).1.seg (unhide HK2) (unhide HK3) hk2 hk32
                  rw [unhide HFL] at h; exact h, by have := (unhide HT).2; simp; omega⟩
                go_wp2_with fail
                go_roundw
                case rel => exact ⟨i + 1, ua', un', uc', _, _, _, _, ws, by omega, rfl, rfl, by go_num, HT', HL9⟩
                case measure => simp [intOf]; omega
          · have hl0z : (0 : Int) < (ln : Int) := by simp at hln; omega
            obtain ⟨lb, lo, hla, -, hlc⟩ := Su.at_ (Ou.ok (s := ⟨la, ln, lc, c0 :: lr⟩) hOl) (k := 0) (by show 0 < ln; omega)
            have hla' : la = some ⟨lb, lo, none⟩ := hla
            subst hla'
            obtain rfl : lo = 0 := own_at0 hOl
            have hc9 : _ = some (Value.int .u8 c0) := hlc
            obtain ⟨l, hl0⟩ : ∃ l : List Int, l = c0 :: lr := ⟨_, rfl⟩
            by_cases h35 : c0 = 35
            · subst h35
              have HKP : Hid (¬ (l ≠ [] ∧ l.head? ≠ some 35)) := hide (fun h => h.2 (by rw [hl0]; rfl))
              rw [← hl0] at HLl HK2
              clear hl0 hOl hln HLN hla hlc
              go_upto_region 14 with fail
              clear hc9
              have HFL : Hid (flushL (ws.map (·.xs)) l = ws.map (·.xs)) := hide (by
                unfold flushL
                rw [if_neg (unhide HKP)])
              clear HKP
              go_upto_region 14 with fail
              have hSL14 : Su _ ⟨some ⟨lb, 0, none⟩, ln, lc, l⟩ := Ou.ok (s := ⟨some ⟨lb, 0, none⟩, ln, lc, l⟩) ((unhide HLl).bx.el _ (List.mem_cons_self ..))
              have hTX : tx.length ≤ 1694498816 := by have := (unhide HT).1.le; omega
              have hll : l.length ≤ 200 := Nat.le_trans (unhide HK2).le hk2
              have HL7 := hide ((unhide HLl).perm (List.Perm.swap _ _ _))
              refine wp_region_lit ?_
              refine wl (by kernel_rfl) fun kQ hkQ => ?_
              go_simp
              refine hkQ _ _ ?_
              clear hkQ kQ
              refine wl (by kernel_rfl) fun kQ hkQ => ?_
              go_simp
              refine hkQ _ _ ?_
              clear hkQ kQ
              refine wl_appu (by kernel_rfl) (.tmp 63) (.tmp 64) rfl rfl ((unhide HL7).bx.el _ (List.mem_cons_self ..)) ⟨some ⟨lb, 0, none⟩, ln, lc, l⟩ hSL14 rfl (by show (tx.length + ln) * 1 ≤ 140737488355328; have h1 : l.length = ln := hSL14.len; omega) (unhide HL7).bel.size ?_
              intro t1 w14 hO9 hg9 hl9
              have HL6 := hide ((unhide HL7).app (Below.refl _ _) hO9 hg9 hl9)
              clear hO9 hg9 hl9 hSL14 HL7
              simp only [Act.put]
              refine wl (by kernel_rfl) fun kQ hkQ => ?_
              go_simp
              refine hkQ _ _ ?_
              clear hkQ kQ
              refine wpList_nil ?_
              go_upto_region 15 with fail
              refine wp_region_lit ?_
              refine wl (by kernel_rfl) fun kQ hkQ => ?_
              go_simp
              refine hkQ _ _ ?_
              clear hkQ kQ
              refine wl_appS (by kernel_rfl) (.tmp 66) (.const (.string { data := #[10, 35] })) rfl rfl ((unhide HL6).bx.el _ (List.mem_cons_self ..)) { data := #[10, 35] } rfl (by decide) (by show (tx ++ l).length + 2 ≤ 140737488355328; rw [List.length_append]; omega) (unhide HL6).bel.size ?_
              intro t2 w15 hO9 hg9 hl9
              have HL5 := hide ((unhide HL6).app (Below.refl _ _) hO9 hg9 hl9)
              clear hO9 hg9 hl9 HL6
              simp only [Act.put]
              refine wl (by kernel_rfl) fun kQ hkQ => ?_
              go_simp
              refine hkQ _ _ ?_
              clear hkQ kQ
              refine wpList_nil ?_
              have HL4 : Hid (Ll w ((t2, tx ++ l ++ strL { data := #[10, 35] } ++ []) :: ws.map bxS) (.slice qa qn qc) (ws.map bxS) w15) := hide (by
                rw [List.append_nil]
                exact (unhide HL5).drop (((List.Sublist.refl _).cons _).cons_cons _))
              clear HL5 HLl
              obtain ⟨⟨ua, un, uc, ux⟩, hv9, hx9, -, -⟩ := Ou.su ((unhide HL4).bx.el _ (List.mem_cons_self ..))
              have hv9' : t2 = .slice ua un uc := hv9
              subst hv9'
              clear hv9 hx9
              go_wp2_with fail
              go_loopw [5, 10] (fun v5 v10 wq => ∃ (k : Nat) (ua : Option Addr) (un uc : Nat) (r : List Int), k ≤ rn ∧ k ≤ 200 ∧ v5 = .slice ua un uc ∧ v10 = .int .i64 k ∧ Hid (LnK k r) ∧ Hid (Ll w ((.slice ua un uc, tx ++ l ++ strL { data := #[10, 35] } ++ r) :: ws.map bxS) (.slice qa qn qc) (ws.map bxS) wq)) (fun _ v10 _ => 200 - (intOf v10).toNat)
              case atStart => exact ⟨0, ua, un, uc, [], by omega, by omega, rfl, rfl, hide LnK.zero, HL4⟩
              case round =>
                clear HL4
                obtain ⟨k3, ua, un, uc, r, hk31, hk32, rfl, rfl, HK3, HLl⟩ := hrel
                have hrr : r.length ≤ 200 := Nat.le_trans (unhide HK3).le hk32
                by_cases hkn : k3 < rn
                · have hknz : (k3 : Int) < (rn : Int) := by omega
                  by_cases hk200 : k3 < 200
                  · have hk200z : (k3 : Int) < 200 := by omega
                    obtain ⟨rb, ro, hxa, -, hxc⟩ := Su.at_ (unhide HR) (k := k3) hkn
                    have hxa' : ra = some ⟨rb, ro, none⟩ := hxa
                    subst hxa'
                    have hxc' : w.cell? ⟨rb, ro + k3, none⟩ = some (.int .u8 (rx.getD k3 0)) := hxc
                    have hcz := cell_old25 hxc' (Old.of (unhide HLl).bel)
                    have hzb : 0 ≤ rx.getD k3 0 ∧ rx.getD k3 0 ≤ 255 := unhide HRB _ (mem_getD (by rw [unhide HRL]; exact hkn))
                    obtain ⟨z, hz⟩ : ∃ z, rx.getD k3 0 = z := ⟨_, rfl⟩
                    rw [hz] at hcz hzb
                    have HZB := hide hzb
                    clear hxa hxc hxc' hz hzb
                    by_cases hz10 : z = 10
                    · subst hz10
                      go_wp2_with fail
                      go_roundw
                      case rel => exact ⟨k3 + 1, ua, un, uc, r, by omega, by omega, rfl, by go_num, hide (unhide HK3).skip, HLl⟩
                      case measure => simp [intOf]; omega
                    · go_upto_region 20 with fail
                      refine wp_region_lit ?_
                      refine wl (by kernel_rfl) fun kQ hkQ => ?_
                      go_simp
                      refine hkQ _ _ ?_
                      clear hkQ kQ
                      refine wl (by kernel_rfl) fun kQ hkQ => ?_
                      go_simp
                      refine hkQ _ _ ?_
                      clear hkQ kQ
                      refine wl (by kernel_rfl) fun kQ hkQ => ?_
                      go_simp
                      refine hkQ _ _ ?_
                      clear hkQ kQ
                      refine wl (by kernel_rfl) fun kQ hkQ => ?_
                      go_simp
                      refine hkQ _ _ ?_
                      clear hkQ kQ
                      refine wl_loadC (by kernel_rfl) 5 (.tmp 86) rfl rb (ro + k3) rfl (.int .u8 z) hcz Tryd.underlying5 rfl ?_
                      simp [Act.put]
                      refine wl_bs1u (by kernel_rfl) (.tmp 87) rfl z rfl (Hs17.start0 _) ?_
                      intro gA wA hA
                      simp [Act.put]
                      have hsA : Su wA ⟨some ⟨gA, 0, none⟩, 1, 1, [z]⟩ := arr_su25 (l := [z]) (hA.get 0 rfl) (by show 1 ≤ maxLen; unfold maxLen; omega)
                      have hOA : Ou wA w.heap.size (.slice ua un uc) (tx ++ l ++ strL { data := #[10, 35] } ++ r) := own_blk ((unhide HLl).bx.el _ (List.mem_cons_self ..)) (fun g hg => hA.bel.block g (own_cells ((unhide HLl).bx.el _ (List.mem_cons_self ..)) hg).2.1)
                      refine wl_appu (by kernel_rfl) (.tmp 83) (.tmp 88) rfl rfl hOA ⟨some ⟨gA, 0, none⟩, 1, 1, [z]⟩ hsA rfl (by show ((tx ++ l ++ strL { data := #[10, 35] } ++ r).length + 1) * 1 ≤ 140737488355328; simp only [List.length_append, strL_length]; have : ({ data := #[10, 35] } : ByteArray).size = 2 := rfl; omega) (Nat.le_trans (unhide HLl).bel.size hA.bel.size) ?_
                      intro v9 wB hO9 hg9 hl9
                      have HL9 := hide ((unhide HLl).app hA.bel hO9 hg9 hl9)
                      clear hsA hOA hO9 hg9 hl9 hA
                      simp only [Act.put]
                      refine wl (by kernel_rfl) fun kQ hkQ => ?_
                      go_simp
                      refine hkQ _ _ ?_
                      clear hkQ kQ
                      refine wpList_nil ?_
                      obtain ⟨⟨ua', un', uc', ux'⟩, hv9, hx9, -, -⟩ := Ou.su ((unhide HL9).bx.el _ (List.mem_cons_self ..))
                      have hv9' : v9 = .slice ua' un' uc' := hv9
                      subst hv9'
                      clear hv9 hx9
                      go_wp2_with fail
                      go_roundw
                      case rel => exact ⟨k3 + 1, ua', un', uc', r ++ [z], by omega, by omega, rfl, by go_num, hide ((unhide HK3).put (unhide HZB) hz10), hide (by have h := unhide HL9; rw [List.append_assoc _ r [z]] at h; exact h)⟩
                      case measure => simp [intOf]; omega
                  · have hk200z : ¬ (k3 : Int) < 200 := by omega
                    go_upto_region 21 with fail
                    refine wp_region_lit ?_
                    refine wl (by kernel_rfl) fun kQ hkQ => ?_
                    go_simp
                    refine hkQ _ _ ?_
                    clear hkQ kQ
                    refine wl_appS (by kernel_rfl) (.tmp 90) (.const (.string { data := #[10, 10] })) rfl rfl ((unhide HLl).bx.el _ (List.mem_cons_self ..)) { data := #[10, 10] } rfl (by decide) (by show (tx ++ l ++ strL { data := #[10, 35] } ++ r).length + 2 ≤ 140737488355328; simp only [List.length_append, strL_length]; have : ({ data := #[10, 35] } : ByteArray).size = 2 := rfl; omega) (unhide HLl).bel.size ?_
                    intro t3 w21 hO9 hg9 hl9
                    have HL9 := hide ((unhide HLl).app (Below.refl _ _) hO9 hg9 hl9)
                    clear hO9 hg9 hl9 HLl
                    simp only [Act.put]
                    refine wl (by kernel_rfl) fun kQ hkQ => ?_
                    go_simp
                    refine hkQ _ _ ?_
                    clear hkQ kQ
                    refine wpList_nil ?_
                    obtain ⟨⟨ua', un', uc', ux'⟩, hv9, hx9, -, -⟩ := Ou.su ((unhide HL9).bx.el _ (List.mem_cons_self ..))
                    have hv9' : t3 = .slice ua' un' uc' := hv9
                    subst hv9'
                    clear hv9 hx9
                    have HT' : Hid (TxI (i + 1) (tx ++ l ++ strL { data := #[10, 35] } ++ r ++ strL { data := #[10, 10] }) (ws.map (·.xs)) ∧ ws.length ≤ i + 1) := hide ⟨by
                      have h := (unhide HT).1.seg (unhide HK2) (unhide HK3) hk2 hk32
                      rw [unhide HFL] at h; exact h, by have := (unhide HT).2; simp; omega⟩
                    go_wp2_with fail
                    go_roundw
                    case rel => exact ⟨i + 1, ua', un', uc', _, _, _, _, ws, by omega, rfl, rfl, by go_num, HT', HL9⟩
                    case measure => simp [intOf]; omega
                · have hknz : ¬ (k3 : Int) < (rn : Int) := by omega
                  go_upto_region 21 with fail
                  refine wp_region_lit ?_
                  refine wl (by kernel_rfl) fun kQ hkQ => ?_
                  go_simp
                  refine hkQ _ _ ?_
                  clear hkQ kQ
                  refine wl_appS (by kernel_rfl) (.tmp 90) (.const (.string { data := #[10, 10] })) rfl rfl ((unhide HLl).bx.el _ (List.mem_cons_self ..)) { data := #[10, 10] } rfl (by decide) (by show (tx ++ l ++ strL { data := #[10, 35] } ++ r).length + 2 ≤ 140737488355328; simp only [List.length_append, strL_length]; have : ({ data := #[10, 35] } : ByteArray).size = 2 := rfl; omega) (unhide HLl).bel.size ?_
                  intro t3 w21 hO9 hg9 hl9
                  have HL9 := hide ((unhide HLl).app (Below.refl _ _) hO9 hg9 hl9)
                  clear hO9 hg9 hl9 HLl
                  simp only [Act.put]
                  refine wl (by kernel_rfl) fun kQ hkQ => ?_
                  go_simp
                  refine hkQ _ _ ?_
                  clear hkQ kQ
                  refine wpList_nil ?_
                  obtain ⟨⟨ua', un', uc', ux'⟩, hv9, hx9, -, -⟩ := Ou.su ((unhide HL9).bx.el _ (List.mem_cons_self ..))
                  have hv9' : t3 = .slice ua' un' uc' := hv9
                  subst hv9'
                  clear hv9 hx9
                  have HT' : Hid (TxI (i + 1) (tx ++ l ++ strL { data := #[10, 35] } ++ r ++ strL { data := #[10, 10] }) (ws.map (·.xs)) ∧ ws.length ≤ i + 1) := hide ⟨by
                    have h := (unhide HT).1.seg (unhide HK2) (unhide HK3) hk2 hk32
                    rw [unhide HFL] at h; exact h, by have := (unhide HT).2; simp; omega⟩
                  go_wp2_with fail
                  go_roundw
                  case rel => exact ⟨i + 1, ua', un', uc', _, _, _, _, ws, by omega, rfl, rfl, by go_num, HT', HL9⟩
                  case measure => simp [intOf]; omega
            · have HKP : Hid (l ≠ [] ∧ l.head? ≠ some 35) := hide ⟨by rw [hl0]; simp, by rw [hl0]; simpa using h35⟩
              rw [← hl0] at HLl HK2
              clear hl0 hOl hln HLN hla hlc
              go_upto_region 13 with fail
              clear hc9
              go_upto_region 13 with fail
              refine wp_region_lit ?_
              refine wl (by kernel_rfl) fun kQ hkQ => ?_
              go_simp
              refine hkQ _ _ ?_
              clear hkQ kQ
              refine wl (by kernel_rfl) fun kQ hkQ => ?_
              go_simp
              refine hkQ _ _ ?_
              clear hkQ kQ
              refine wl_bs1v (by kernel_rfl) (.tmp 60) rfl ⟨some ⟨lb, 0, none⟩, ln, lc, l⟩ rfl (Hs17.start0 _) ?_
              intro gA wA hA
              simp [Act.put]
              have hsA : Sx.Ok sbC 1 wA (⟨some ⟨gA, 0, none⟩, 1, 1, [(⟨some ⟨lb, 0, none⟩, ln, lc, l⟩ : Sx Int)]⟩ : Sx (Sx Int)) := arr_sb25 (hA.get 0 rfl)
              have hOA : wA.ownsRow w.heap.size 28 1 (.slice qa qn qc) ws.length (ws.flatMap sbC) := by
                have h1 := (unhide HLl).ow
                rw [bxS_v, List.length_map] at h1
                exact own_blk h1 (fun g hg => hA.bel.block g (own_cells h1 hg).2.1)
              refine wl_appv (by kernel_rfl) (.tmp 59) (.tmp 61) rfl rfl hOA ⟨some ⟨gA, 0, none⟩, 1, 1, [⟨some ⟨lb, 0, none⟩, ln, lc, l⟩]⟩ hsA rfl (by show (ws.length + 1) * 24 ≤ 140737488355328; have := (unhide HT).2; omega) (Nat.le_trans (unhide HLl).bel.size hA.bel.size) ?_
              intro wv2 wB hO9 hg9
              have HL8 : Hid (Ll w ((.slice (some ⟨lb, 0, none⟩) ln lc, l) :: (.slice ta tn tc, tx) :: ws.map bxS) wv2 ((ws ++ [(⟨some ⟨lb, 0, none⟩, ln, lc, l⟩ : Sx Int)]).map bxS) wB) := hide (by
                have h9 := (unhide HLl).want (u := ((.slice (some ⟨lb, 0, none⟩) ln lc, l) : Bx)) (wv' := wv2) (X3 := wB) hA.bel (by rw [bxS_v, List.length_map]; have h := hO9; rw [List.flatMap_append, List.length_append] at h; exact h) hg9
                rw [List.map_append]; exact h9)
              clear hsA hOA hO9 hg9 hA HLl
              have HLl := HL8
              clear HL8
              obtain ⟨⟨qa2, qn2, qc2, qx2⟩, hv9, -, -, -⟩ := own_sx (f := sbC) (by have h := (unhide HLl).ow; rw [bxS_v, List.length_map] at h; exact h) (fun z _ => sbC_len z)
              have hv9' : wv2 = .slice qa2 qn2 qc2 := hv9
              subst hv9'
              clear hv9
              simp only [Act.put]
              refine wl (by kernel_rfl) fun kQ hkQ => ?_
              go_simp
              refine hkQ _ _ ?_
              clear hkQ kQ
              refine wpList_nil ?_
              clear hci
              have HFL : Hid (flushL (ws.map (·.xs)) l = (ws ++ [(⟨some ⟨lb, 0, none⟩, ln, lc, l⟩ : Sx Int)]).map (·.xs)) := hide (by
                unfold flushL
                rw [if_pos (unhide HKP), List.map_append]; rfl)
              clear HKP
              go_upto_region 14 with fail
              have hSL14 : Su _ ⟨some ⟨lb, 0, none⟩, ln, lc, l⟩ := Ou.ok (s := ⟨some ⟨lb, 0, none⟩, ln, lc, l⟩) ((unhide HLl).bx.el _ (List.mem_cons_self ..))
              have hTX : tx.length ≤ 1694498816 := by have := (unhide HT).1.le; omega
              have hll : l.length ≤ 200 := Nat.le_trans (unhide HK2).le hk2
              have HL7 := hide ((unhide HLl).perm (List.Perm.swap _ _ _))
              refine wp_region_lit ?_
              refine wl (by kernel_rfl) fun kQ hkQ => ?_
              go_simp
              refine hkQ _ _ ?_
              clear hkQ kQ
              refine wl (by kernel_rfl) fun kQ hkQ => ?_
              go_simp
              refine hkQ _ _ ?_
              clear hkQ kQ
              refine wl_appu (by kernel_rfl) (.tmp 63) (.tmp 64) rfl rfl ((unhide HL7).bx.el _ (List.mem_cons_self ..)) ⟨some ⟨lb, 0, none⟩, ln, lc, l⟩ hSL14 rfl (by show (tx.length + ln) * 1 ≤ 140737488355328; have h1 : l.length = ln := hSL14.len; omega) (unhide HL7).bel.size ?_
              intro t1 w14 hO9 hg9 hl9
              have HL6 := hide ((unhide HL7).app (Below.refl _ _) hO9 hg9 hl9)
              clear hO9 hg9 hl9 hSL14 HL7
              simp only [Act.put]
              refine wl (by kernel_rfl) fun kQ hkQ => ?_
              go_simp
              refine hkQ _ _ ?_
              clear hkQ kQ
              refine wpList_nil ?_
              go_upto_region 15 with fail
              refine wp_region_lit ?_
              refine wl (by kernel_rfl) fun kQ hkQ => ?_
              go_simp
              refine hkQ _ _ ?_
              clear hkQ kQ
              refine wl_appS (by kernel_rfl) (.tmp 66) (.const (.string { data := #[10, 35] })) rfl rfl ((unhide HL6).bx.el _ (List.mem_cons_self ..)) { data := #[10, 35] } rfl (by decide) (by show (tx ++ l).length + 2 ≤ 140737488355328; rw [List.length_append]; omega) (unhide HL6).bel.size ?_
              intro t2 w15 hO9 hg9 hl9
              have HL5 := hide ((unhide HL6).app (Below.refl _ _) hO9 hg9 hl9)
              clear hO9 hg9 hl9 HL6
              simp only [Act.put]
              refine wl (by kernel_rfl) fun kQ hkQ => ?_
              go_simp
              refine hkQ _ _ ?_
              clear hkQ kQ
              refine wpList_nil ?_
              have HL4 : Hid (Ll w ((t2, tx ++ l ++ strL { data := #[10, 35] } ++ []) :: (ws ++ [(⟨some ⟨lb, 0, none⟩, ln, lc, l⟩ : Sx Int)]).map bxS) (.slice qa2 qn2 qc2) ((ws ++ [(⟨some ⟨lb, 0, none⟩, ln, lc, l⟩ : Sx Int)]).map bxS) w15) := hide (by
                rw [List.append_nil, List.map_append]
                rw [List.map_append] at HL5
                exact (unhide HL5).perm ((List.perm_append_comm (l₁ := [bxS (⟨some ⟨lb, 0, none⟩, ln, lc, l⟩ : Sx Int)]) (l₂ := ws.map bxS)).cons _))
              clear HL5 HLl
              obtain ⟨⟨ua, un, uc, ux⟩, hv9, hx9, -, -⟩ := Ou.su ((unhide HL4).bx.el _ (List.mem_cons_self ..))
              have hv9' : t2 = .slice ua un uc := hv9
              subst hv9'
              clear hv9 hx9
              go_wp2_with fail
              go_loopw [5, 10] (fun v5 v10 wq => ∃ (k : Nat) (ua : Option Addr) (un uc : Nat) (r : List Int), k ≤ rn ∧ k ≤ 200 ∧ v5 = .slice ua un uc ∧ v10 = .int .i64 k ∧ Hid (LnK k r) ∧ Hid (Ll w ((.slice ua un uc, tx ++ l ++ strL { data := #[10, 35] } ++ r) :: (ws ++ [(⟨some ⟨lb, 0, none⟩, ln, lc, l⟩ : Sx Int)]).map bxS) (.slice qa2 qn2 qc2) ((ws ++ [(⟨some ⟨lb, 0, none⟩, ln, lc, l⟩ : Sx Int)]).map bxS) wq)) (fun _ v10 _ => 200 - (intOf v10).toNat)
              case atStart => exact ⟨0, ua, un, uc, [], by omega, by omega, rfl, rfl, hide LnK.zero, HL4⟩
              case round =>
                clear HL4
                obtain ⟨k3, ua, un, uc, r, hk31, hk32, rfl, rfl, HK3, HLl⟩ := hrel
                have hrr : r.length ≤ 200 := Nat.le_trans (unhide HK3).le hk32
                by_cases hkn : k3 < rn
                · have hknz : (k3 : Int) < (rn : Int) := by omega
                  by_cases hk200 : k3 < 200
                  · have hk200z : (k3 : Int) < 200 := by omega
                    obtain ⟨rb, ro, hxa, -, hxc⟩ := Su.at_ (unhide HR) (k := k3) hkn
                    have hxa' : ra = some ⟨rb, ro, none⟩ := hxa
                    subst hxa'
                    have hxc' : w.cell? ⟨rb, ro + k3, none⟩ = some (.int .u8 (rx.getD k3 0)) := hxc
                    have hcz := cell_old25 hxc' (Old.of (unhide HLl).bel)
                    have hzb : 0 ≤ rx.getD k3 0 ∧ rx.getD k3 0 ≤ 255 := unhide HRB _ (mem_getD (by rw [unhide HRL]; exact hkn))
                    obtain ⟨z, hz⟩ : ∃ z, rx.getD k3 0 = z := ⟨_, rfl⟩
                    rw [hz] at hcz hzb
                    have HZB := hide hzb
                    clear hxa hxc hxc' hz hzb
                    by_cases hz10 : z = 10
                    · subst hz10
                      go_wp2_with fail
                      go_roundw
                      case rel => exact ⟨k3 + 1, ua, un, uc, r, by omega, by omega, rfl, by go_num, hide (unhide HK3).skip, HLl⟩
                      case measure => simp [intOf]; omega
                    · go_upto_region 20 with fail
                      refine wp_region_lit ?_
                      refine wl (by kernel_rfl) fun kQ hkQ => ?_
                      go_simp
                      refine hkQ _ _ ?_
                      clear hkQ kQ
                      refine wl (by kernel_rfl) fun kQ hkQ => ?_
                      go_simp
                      refine hkQ _ _ ?_
                      clear hkQ kQ
                      refine wl (by kernel_rfl) fun kQ hkQ => ?_
                      go_simp
                      refine hkQ _ _ ?_
                      clear hkQ kQ
                      refine wl (by kernel_rfl) fun kQ hkQ => ?_
                      go_simp
                      refine hkQ _ _ ?_
                      clear hkQ kQ
                      refine wl_loadC (by kernel_rfl) 5 (.tmp 86) rfl rb (ro + k3) rfl (.int .u8 z) hcz Tryd.underlying5 rfl ?_
                      simp [Act.put]
                      refine wl_bs1u (by kernel_rfl) (.tmp 87) rfl z rfl (Hs17.start0 _) ?_
                      intro gA wA hA
                      simp [Act.put]
                      have hsA : Su wA ⟨some ⟨gA, 0, none⟩, 1, 1, [z]⟩ := arr_su25 (l := [z]) (hA.get 0 rfl) (by show 1 ≤ maxLen; unfold maxLen; omega)
                      have hOA : Ou wA w.heap.size (.slice ua un uc) (tx ++ l ++ strL { data := #[10, 35] } ++ r) := own_blk ((unhide HLl).bx.el _ (List.mem_cons_self ..)) (fun g hg => hA.bel.block g (own_cells ((unhide HLl).bx.el _ (List.mem_cons_self ..)) hg).2.1)
                      refine wl_appu (by kernel_rfl) (.tmp 83) (.tmp 88) rfl rfl hOA ⟨some ⟨gA, 0, none⟩, 1, 1, [z]⟩ hsA rfl (by show ((tx ++ l ++ strL { data := #[10, 35] } ++ r).length + 1) * 1 ≤ 140737488355328; simp only [List.length_append, strL_length]; have : ({ data := #[10, 35] } : ByteArray).size = 2 := rfl; omega) (Nat.le_trans (unhide HLl).bel.size hA.bel.size) ?_
                      intro v9 wB hO9 hg9 hl9
                      have HL9 := hide ((unhide HLl).app hA.bel hO9 hg9 hl9)
                      clear hsA hOA hO9 hg9 hl9 hA
                      simp only [Act.put]
                      refine wl (by kernel_rfl) fun kQ hkQ => ?_
                      go_simp
                      refine hkQ _ _ ?_
                      clear hkQ kQ
                      refine wpList_nil ?_
                      obtain ⟨⟨ua', un', uc', ux'⟩, hv9, hx9, -, -⟩ := Ou.su ((unhide HL9).bx.el _ (List.mem_cons_self ..))
                      have hv9' : v9 = .slice ua' un' uc' := hv9
                      subst hv9'
                      clear hv9 hx9
                      go_wp2_with fail
                      go_roundw
                      case rel => exact ⟨k3 + 1, ua', un', uc', r ++ [z], by omega, by omega, rfl, by go_num, hide ((unhide HK3).put (unhide HZB) hz10), hide (by have h := unhide HL9; rw [List.append_assoc _ r [z]] at h; exact h)⟩
                      case measure => simp [intOf]; omega
                  · have hk200z : ¬ (k3 : Int) < 200 := by omega
                    go_upto_region 21 with fail
                    refine wp_region_lit ?_
                    refine wl (by kernel_rfl) fun kQ hkQ => ?_
                    go_simp
                    refine hkQ _ _ ?_
                    clear hkQ kQ
                    refine wl_appS (by kernel_rfl) (.tmp 90) (.const (.string { data := #[10, 10] })) rfl rfl ((unhide HLl).bx.el _ (List.mem_cons_self ..)) { data := #[10, 10] } rfl (by decide) (by show (tx ++ l ++ strL { data := #[10, 35] } ++ r).length + 2 ≤ 140737488355328; simp only [List.length_append, strL_length]; have : ({ data := #[10, 35] } : ByteArray).size = 2 := rfl; omega) (unhide HLl).bel.size ?_
                    intro t3 w21 hO9 hg9 hl9
                    have HL9 := hide ((unhide HLl).app (Below.refl _ _) hO9 hg9 hl9)
                    clear hO9 hg9 hl9 HLl
                    simp only [Act.put]
                    refine wl (by kernel_rfl) fun kQ hkQ => ?_
                    go_simp
                    refine hkQ _ _ ?_
                    clear hkQ kQ
                    refine wpList_nil ?_
                    obtain ⟨⟨ua', un', uc', ux'⟩, hv9, hx9, -, -⟩ := Ou.su ((unhide HL9).bx.el _ (List.mem_cons_self ..))
                    have hv9' : t3 = .slice ua' un' uc' := hv9
                    subst hv9'
                    clear hv9 hx9
                    have HT' : Hid (TxI (i + 1) (tx ++ l ++ strL { data := #[10, 35] } ++ r ++ strL { data := #[10, 10] }) ((ws ++ [(⟨some ⟨lb, 0, none⟩, ln, lc, l⟩ : Sx Int)]).map (·.xs)) ∧ (ws ++ [(⟨some ⟨lb, 0, none⟩, ln, lc, l⟩ : Sx Int)]).length ≤ i + 1) := hide ⟨by
                      have h := (unhide HT).1.seg (unhide HK2) (unhide HK3) hk2 hk32
                      rw [unhide HFL] at h; exact h, by have := (unhide HT).2; simp; omega⟩
                    go_wp2_with fail
                    go_roundw
                    case rel => exact ⟨i + 1, ua', un', uc', _, _, _, _, (ws ++ [(⟨some ⟨lb, 0, none⟩, ln, lc, l⟩ : Sx Int)]), by omega, rfl, rfl, by go_num, HT', HL9⟩
                    case measure => simp [intOf]; omega
                · have hknz : ¬ (k3 : Int) < (rn : Int) := by omega
                  go_upto_region 21 with fail
                  refine wp_region_lit ?_
                  refine wl (by kernel_rfl) fun kQ hkQ => ?_
                  go_simp
                  refine hkQ _ _ ?_
                  clear hkQ kQ
                  refine wl_appS (by kernel_rfl) (.tmp 90) (.const (.string { data := #[10, 10] })) rfl rfl ((unhide HLl).bx.el _ (List.mem_cons_self ..)) { data := #[10, 10] } rfl (by decide) (by show (tx ++ l ++ strL { data := #[10, 35] } ++ r).length + 2 ≤ 140737488355328; simp only [List.length_append, strL_length]; have : ({ data := #[10, 35] } : ByteArray).size = 2 := rfl; omega) (unhide HLl).bel.size ?_
                  intro t3 w21 hO9 hg9 hl9
                  have HL9 := hide ((unhide HLl).app (Below.refl _ _) hO9 hg9 hl9)
                  clear hO9 hg9 hl9 HLl
                  simp only [Act.put]
                  refine wl (by kernel_rfl) fun kQ hkQ => ?_
                  go_simp
                  refine hkQ _ _ ?_
                  clear hkQ kQ
                  refine wpList_nil ?_
                  obtain ⟨⟨ua', un', uc', ux'⟩, hv9, hx9, -, -⟩ := Ou.su ((unhide HL9).bx.el _ (List.mem_cons_self ..))
                  have hv9' : t3 = .slice ua' un' uc' := hv9
                  subst hv9'
                  clear hv9 hx9
                  have HT' : Hid (TxI (i + 1) (tx ++ l ++ strL { data := #[10, 35] } ++ r ++ strL { data := #[10, 10] }) ((ws ++ [(⟨some ⟨lb, 0, none⟩, ln, lc, l⟩ : Sx Int)]).map (·.xs)) ∧ (ws ++ [(⟨some ⟨lb, 0, none⟩, ln, lc, l⟩ : Sx Int)]).length ≤ i + 1) := hide ⟨by
                    have h := (unhide HT).1.seg (unhide HK2) (unhide HK3) hk2 hk32
                    rw [unhide HFL] at h; exact h, by have := (unhide HT).2; simp; omega⟩
                  go_wp2_with fail
                  go_roundw
                  case rel => exact ⟨i + 1, ua', un', uc', _, _, _, _, (ws ++ [(⟨some ⟨lb, 0, none⟩, ln, lc, l⟩ : Sx Int)]), by omega, rfl, rfl, by go_num, HT', HL9⟩
                  case measure => simp [intOf]; omega
    · obtain rfl : i = sn := by omega
      have hkd : ¬ ((i : Int) < (i : Int)) := by omega
      have hSTx : Su _ ⟨ta, tn, tc, tx⟩ := Ou.ok (s := ⟨ta, tn, tc, tx⟩) ((unhide HLl).bx.el _ (List.mem_cons_self ..))
      have htl : tx.length = tn := hSTx.len
      have hTX : tx.length ≤ 1694498816 := by have := (unhide HT).1.le; omega
      go_upto_region 22 with fail
      refine wp_region_lit ?_
      refine wl (by kernel_rfl) fun kQ hkQ => ?_
      go_simp
      refine hkQ _ _ ?_
      clear hkQ kQ
      refine wl (by kernel_rfl) fun kQ hkQ => ?_
      go_simp
      refine (lines_any ⟨ta, tn, tc, tx⟩ _ hSTx (unhide HT).1.by_ (by show tn ≤ 1099511627776; omega)).mono ?_
      rintro e wG ⟨gv, gs, rfl, hgx, hG, hb1⟩
      have hgx' : gs.map (·.xs) = ws.map (·.xs) := hgx.trans (unhide HT).1.lines
      have HL9 := hide ((unhide HLl).later hb1)
      have hGo := hG.own
      rw [osb_sb] at hGo
      obtain ⟨⟨ga, gn, gc, gx⟩, hv9, hgx9, hGok, -⟩ := own_sx (f := sbC) hGo (fun z _ => sbC_len z)
      have hv9' : gv = .slice ga gn gc := hv9
      subst hv9'
      obtain rfl : gx = gs := hgx9
      have hQo := (unhide HL9).ow
      rw [bxS_v, List.length_map] at hQo
      obtain ⟨⟨qa', qn', qc', qx⟩, hv8, hqx9, hQok, -⟩ := own_sx (f := sbC) hQo (fun z _ => sbC_len z)
      simp only [Sx.v, Value.slice.injEq] at hv8
      obtain ⟨rfl, rfl, rfl⟩ := hv8
      obtain rfl : qx = ws := hqx9
      have hgl : gx.length = gn := hGok.len
      have hql : qx.length = qn := hQok.len
      have hgq : gn = qn := by have := congrArg List.length hgx'; simp at this; omega
      subst hgq
      have HGX := hide hgx'
      have HGL := hide hgl
      have HQL := hide hql
      have hS := Hs17.begin wG (fun X => Pk25 X ∧ Sx.Ok sbC 1 X ⟨ga, gn, gc, gx⟩ ∧ (∀ x ∈ gx, Su X x) ∧ Sx.Ok sbC 1 X ⟨qa, gn, qc, qx⟩ ∧ (∀ y ∈ qx, Su X y)) (fun v ho => ⟨pk_old (pk_old (unhide HK) (Old.of (unhide HL9).bel)) ho, hGok.old ho, (fun x hx => (Ou.ok (s := x) (hG.el x hx)).old ho), hQok.old ho, (fun y hy => (Ou.ok (s := y) ((unhide HL9).bx.el _ (List.mem_cons_of_mem _ (List.mem_map.2 ⟨y, hy, rfl⟩)))).old ho)⟩)
      have HW := hide (unhide HL9).bel
      refine hkQ _ _ ?_
      clear hkQ kQ hb1 hG hGo hQo hGok hQok hgl hql hgx hgx' hv9 HLl HL9 hSTx
      refine wl (by kernel_rfl) fun kQ hkQ => ?_
      go_simp
      refine hkQ _ _ ?_
      clear hkQ kQ
      refine wpList_nil ?_
      go_upto_region 23 with fail
      refine wp_region_lit ?_
      refine wl (by kernel_rfl) fun kQ hkQ => ?_
      go_simp
      refine hkQ _ _ ?_
      clear hkQ kQ
      refine wl (by kernel_rfl) fun kQ hkQ => ?_
      go_simp
      refine hkQ _ _ ?_
      clear hkQ kQ
      refine wl (by kernel_rfl) fun kQ hkQ => ?_
      go_simp
      refine hkQ _ _ ?_
      clear hkQ kQ
      refine wl (by kernel_rfl) fun kQ hkQ => ?_
      go_simp
      refine hkQ _ _ ?_
      clear hkQ kQ
      refine wl (by kernel_rfl) fun kQ hkQ => ?_
      go_simp
      refine hkQ _ _ ?_
      clear hkQ kQ
      refine wl (by kernel_rfl) fun kQ hkQ => ?_
      go_simp
      refine hkQ _ _ ?_
      clear hkQ kQ
      refine wl (by kernel_rfl) fun kQ hkQ => ?_
      go_simp
      refine (lives_any _ hS.K.1).mono ?_
      rintro e w23 ⟨rfl, hb1⟩
      replace hS := hS.later hb1
      refine hkQ _ _ ?_
      clear hkQ kQ hb1
      refine wl (by kernel_rfl) fun kQ hkQ => ?_
      go_simp
      refine hkQ _ _ ?_
      clear hkQ kQ
      refine wl (by kernel_rfl) fun kQ hkQ => ?_
      go_simp
      refine hkQ _ _ ?_
      clear hkQ kQ
      refine wpList_nil ?_
      have hgb : gn ≤ 4194304 := by have h1 := (unhide HT).2; have h2 := unhide HQL; omega
      go_wp2_with fail
      go_loopw [12] (fun v12 wq => ∃ j : Nat, j ≤ gn ∧ v12 = .int .i64 j ∧ Hs17 wG [] (fun X => Pk25 X ∧ Sx.Ok sbC 1 X ⟨ga, gn, gc, gx⟩ ∧ (∀ x ∈ gx, Su X x) ∧ Sx.Ok sbC 1 X ⟨qa, gn, qc, qx⟩ ∧ (∀ y ∈ qx, Su X y)) wq) (fun v12 _ => gn - (intOf v12).toNat)
      case atStart => exact ⟨0, by omega, rfl, hS⟩
      case round =>
        clear hS
        obtain ⟨j, hj, rfl, hS⟩ := hrel
        by_cases hjl : j < gn
        · have hjz : (j : Int) < (gn : Int) := by omega
          obtain ⟨⟨xa, xn, xc, xx⟩, hxi⟩ : ∃ x, gx[j]? = some x := ⟨_, List.getElem?_eq_getElem (by rw [unhide HGL]; exact hjl)⟩
          obtain ⟨⟨ya, yn, yc, yx⟩, hyi⟩ : ∃ x, qx[j]? = some x := ⟨_, List.getElem?_eq_getElem (by rw [unhide HQL]; exact hjl)⟩
          have hxy : xx = yx := by
            have h1 := congrArg (fun L => L[j]?) (unhide HGX)
            simp only [List.getElem?_map, hxi, hyi, Option.map_some, Option.some.injEq] at h1
            exact h1
          subst hxy
          obtain ⟨gb, go, hga, -, -⟩ := Sx.Ok.at_ hS.K.2.1 (i := j) hxi
          obtain ⟨qb, qo, hqa, -, -⟩ := Sx.Ok.at_ hS.K.2.2.2.1 (i := j) hyi
          have hga' : ga = some ⟨gb, go, none⟩ := hga
          have hqa' : qa = some ⟨qb, qo, none⟩ := hqa
          subst hga' hqa'
          have CG : ∀ X, Hs17 wG [] (fun X => Pk25 X ∧ Sx.Ok sbC 1 X ⟨some ⟨gb, go, none⟩, gn, gc, gx⟩ ∧ (∀ x ∈ gx, Su X x) ∧ Sx.Ok sbC 1 X ⟨some ⟨qb, qo, none⟩, gn, qc, qx⟩ ∧ (∀ y ∈ qx, Su X y)) X → X.cell? ⟨gb, go + j, none⟩ = some (.slice xa xn xc) := fun X hX => by
            obtain ⟨b9, o9, h9, -, hc9⟩ := Sx.Ok.at_ hX.K.2.1 (i := j) hxi
            simp only [Option.some.injEq, Addr.mk.injEq] at h9
            obtain ⟨rfl, rfl, -⟩ := h9
            have h1 := hc9 0 _ rfl
            simpa [Sx.v] using h1
          have CQ : ∀ X, Hs17 wG [] (fun X => Pk25 X ∧ Sx.Ok sbC 1 X ⟨some ⟨gb, go, none⟩, gn, gc, gx⟩ ∧ (∀ x ∈ gx, Su X x) ∧ Sx.Ok sbC 1 X ⟨some ⟨qb, qo, none⟩, gn, qc, qx⟩ ∧ (∀ y ∈ qx, Su X y)) X → X.cell? ⟨qb, qo + j, none⟩ = some (.slice ya yn yc) := fun X hX => by
            obtain ⟨b9, o9, h9, -, hc9⟩ := Sx.Ok.at_ hX.K.2.2.2.1 (i := j) hyi
            simp only [Option.some.injEq, Addr.mk.injEq] at h9
            obtain ⟨rfl, rfl, -⟩ := h9
            have h1 := hc9 0 _ rfl
            simpa [Sx.v] using h1
          have CS : ∀ X, Hs17 wG [] (fun X => Pk25 X ∧ Sx.Ok sbC 1 X ⟨some ⟨gb, go, none⟩, gn, gc, gx⟩ ∧ (∀ x ∈ gx, Su X x) ∧ Sx.Ok sbC 1 X ⟨some ⟨qb, qo, none⟩, gn, qc, qx⟩ ∧ (∀ y ∈ qx, Su X y)) X → Calls Tryd.prog 14 #[.slice xa xn xc, .slice ya yn yc] X fun e w' => e = .returned (.bool true) ∧ Below X.heap.size X w' := fun X hX =>
            same_t (a := ⟨xa, xn, xc, xx⟩) (b := ⟨ya, yn, yc, xx⟩) (hX.K.2.2.1 _ (List.mem_of_getElem? hxi)) (hX.K.2.2.2.2 _ (List.mem_of_getElem? hyi)) (by
              have h1 : xx.length = xn := (hX.K.2.2.1 _ (List.mem_of_getElem? hxi)).len
              have h2 := (unhide HT).1.sm xx (List.mem_map.2 ⟨_, List.mem_of_getElem? hyi, rfl⟩)
              show xn ≤ 1048576
              omega) rfl
          clear hga hqa
          go_upto_region 28 with fail
          refine wp_region_noPanic ?_
          replace hS := hS.drew
          refine wp_region_held_drew (S := Hs17 wG [] (fun X => Pk25 X ∧ Sx.Ok sbC 1 X ⟨some ⟨gb, go, none⟩, gn, gc, gx⟩ ∧ (∀ x ∈ gx, Su X x) ∧ Sx.Ok sbC 1 X ⟨some ⟨qb, qo, none⟩, gn, qc, qx⟩ ∧ (∀ y ∈ qx, Su X y))) (by kernel_rfl) hS (fun hHeld => ?_)
          generalize World.drew _ = w4 at hS hHeld ⊢
          refine wpAnyH_take (i := 0) (oi := _) (v := .slice (some ⟨gb, go, none⟩) gn gc) rfl (by kernel_rfl) (by kernel_rfl) (by kernel_rfl) (fun _ _ _ h => h) (Or.inl ⟨by rfl, fun w hSw => by go_simp⟩) hHeld ?_
          simp [Act.put]
          refine wpAnyH_take (i := 1) (oi := _) (v := .int .i64 j) rfl (by kernel_rfl) (by kernel_rfl) (by kernel_rfl) (fun _ _ _ h => h) (Or.inl ⟨by rfl, fun w hSw => by go_simp⟩) hHeld ?_
          simp [Act.put]
          refine wpAnyH_take (i := 2) (oi := _) (v := .pointer (some ⟨gb, go + j, none⟩)) rfl (by kernel_rfl) (by kernel_rfl) (by kernel_rfl) (fun _ _ _ h => h) (Or.inl ⟨by rfl, fun w hSw => by go_simp⟩) hHeld ?_
          simp [Act.put]
          refine wpAnyH_take (i := 3) (oi := _) (v := .slice xa xn xc) rfl (by kernel_rfl) (by kernel_rfl) (by kernel_rfl) (fun _ _ _ h => h) (yl_loadC (by kernel_rfl) 28 (.tmp 111) rfl gb (go + j) rfl (.slice xa xn xc) CG Tryd.underlying28 rfl) hHeld ?_
          simp [Act.put]
          refine wpAnyH_take (i := 4) (oi := _) (v := .slice (some ⟨qb, qo, none⟩) gn qc) rfl (by kernel_rfl) (by kernel_rfl) (by kernel_rfl) (fun _ _ _ h => h) (Or.inl ⟨by rfl, fun w hSw => by go_simp⟩) hHeld ?_
          simp [Act.put]
          refine wpAnyH_take (i := 5) (oi := _) (v := .int .i64 j) rfl (by kernel_rfl) (by kernel_rfl) (by kernel_rfl) (fun _ _ _ h => h) (Or.inl ⟨by rfl, fun w hSw => by go_simp⟩) hHeld ?_
          simp [Act.put]
          refine wpAnyH_take (i := 6) (oi := _) (v := .pointer (some ⟨qb, qo + j, none⟩)) rfl (by kernel_rfl) (by kernel_rfl) (by kernel_rfl) (fun _ _ _ h => h) (Or.inl ⟨by rfl, fun w hSw => by go_simp⟩) hHeld ?_
          simp [Act.put]
          refine wpAnyH_take (i := 7) (oi := _) (v := .slice ya yn yc) rfl (by kernel_rfl) (by kernel_rfl) (by kernel_rfl) (fun _ _ _ h => h) (yl_loadC (by kernel_rfl) 28 (.tmp 115) rfl qb (qo + j) rfl (.slice ya yn yc) CQ Tryd.underlying28 rfl) hHeld ?_
          simp [Act.put]
          refine wpAnyH_ready (rs := [8]) (by kernel_rfl) (by simp) ?_
          refine AllReadyH.cons rfl (fun kQ hkQ => ?_) AllReadyH.nil
          go_simp
          refine (CS _ hS).mono ?_
          rintro e w5 ⟨rfl, hb1⟩
          replace hS := hS.later hb1
          clear hHeld hb1
          refine hkQ.out _ _ hS (fun hHeld => ?_)
          clear hkQ kQ
          try simp [Act.put]
          refine wpAnyH_take (i := 9) (oi := _) (v := .bool false) rfl (by kernel_rfl) (by kernel_rfl) (by kernel_rfl) (fun _ _ _ h => h) (Or.inl ⟨by rfl, fun w hSw => by go_simp⟩) hHeld ?_
          simp [Act.put]
          refine wpAnyH_done (by kernel_rfl) ?_ _
          unfold NoPanic
          clear hHeld CS CG CQ
          go_wp2_with fail
          go_roundw
          case rel => exact ⟨j + 1, by omega, by go_num, hS⟩
          case measure => simp [intOf]; omega
        · obtain rfl : j = gn := by omega
          have hkd : ¬ ((j : Int) < (j : Int)) := by omega
          go_wp2_with fail
          go_ret
          exact ⟨rfl, (unhide HW).trans (hS.bel.mono (unhide HW).size)⟩
end Go.Proofs.YtdcaojiiaocnaaaDoor
