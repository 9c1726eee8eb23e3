import Derived.Test.YtdcaojiiaocnaaaGreatDoorQGapZ
import Derived.Test.YtdcaojiiaocnaaaGreatDoorQGamZ
import Derived.Deep.DeepCutAuto
import Derived.Deep.QuietTactic
import Derived.BigQuiet
set_option linter.unusedSimpArgs false
set_option linter.unusedVariables false
namespace Go.Proofs.YtdcaojiiaocnaaaGreatDoor
open Go.RowKit

theorem Tryz.inBd : (Tryz.prog.info? 77).map (fun i => (i.zero, i.size)) = some (some (aV [.pointer none, .slice none 0 0]), 2) := by kernel_rfl
theorem p10_old {w w' : World} (h : P10 w) (ho : Old w w') : P10 w' := by
  unfold P10 Lib.TabIs World.var? at *
  cases hg : Tryz.prog.globalNamed "internal/strconv.uint64pow10" with
  | none => rw [hg] at h; cases h
  | some g =>
    rw [hg] at h
    rw [Option.bind_some] at h ⊢
    cases hh : w.heap[g]? with
    | none => rw [hh] at h; cases h
    | some o =>
      have := ho.block g (Array.getElem?_eq_some_iff.1 hh).1
      rw [this]; exact h
set_option maxHeartbeats 4000000 in
set_option maxRecDepth 100000 in
theorem show_any (e0 : Int) (s : Sx Int) (w : World) (hs : Sx.Ok iC 1 w s) (he : I64 e0) (hns : ∀ z ∈ s.xs, I64 z) (hn : s.n ≤ 1048576) (ht : P10 w) :
    Calls Tryz.prog 17 #[aV (reC e0 s.v)] w fun e w' => e = .returned (.string (strOfNums (showL e0 s.xs))) ∧ Below w.heap.size w w' := by
  obtain ⟨a, n, c, l⟩ := s
  have hl : l.length = n := hs.len
  have hn' : n ≤ 1048576 := hn
  simp only [Sx.v]
  have hKo : ∀ v, Old w v → (fun w9 => Sx.Ok iC 1 w9 ⟨a, n, c, l⟩ ∧ P10 w9) v := fun v ho => ⟨hs.old ho, p10_old ht ho⟩
  have hS := Hs17.begin w (fun w9 => Sx.Ok iC 1 w9 ⟨a, n, c, l⟩ ∧ P10 w9) hKo
  have HL := hide hl
  have HNS := hide hns
  have HE := hide he
  obtain ⟨D, hD⟩ : ∃ D, showL e0 [] = D := ⟨_, rfl⟩
  have hDl : D.length ≤ 30 := by rw [← hD]; exact showL_len he [] (fun z hz => by simp at hz)
  have HD0 : Hid (D = showL e0 (l.take 0)) := hide hD.symm
  have hds : (strOfNums D).size ≤ 1000 := by rw [str_sz]; omega
  clear hs hn hl hns ht
  go_enter Tryz.func17, Tryz.ntmps17
  go_upto_region 0 with fail
  refine wp_region_lit ?_
  refine wl_box (by kernel_rfl) 34 (.tmp 0) rfl (reC e0 (.slice a n c)) rfl hS ?_
  clear hS
  intro g1 w1 hS
  simp [Act.put]
  refine wl (by kernel_rfl) fun kQ hkQ => ?_
  go_simp
  refine hkQ _ _ ?_
  clear hkQ kQ
  refine wpList_nil ?_
  go_upto_region 1 with fail
  refine wp_region_lit ?_
  refine wl_alloc (by kernel_rfl) 77 rfl [.pointer none, .slice none 0 0] Tryz.inBd hS ?_
  clear hS
  intro g2 w2 hS
  simp [Act.put]
  refine wpList_nil ?_
  replace hS := Hs17.bld0 hS hKo rfl
  by_cases hz : e0 = 0
  · subst hz
    go_upto_region 2 with fail
    refine wp_region_lit ?_
    refine wl (by kernel_rfl) fun kQ hkQ => ?_
    go_simp
    refine hkQ _ _ ?_
    clear hkQ kQ
    refine wl_load1 (by kernel_rfl) 31 (.tmp 6) rfl 0 rfl 0 rfl (.int .i64 0) (at_Y0 0 (.slice a n c)) Tryz.underlying31 rfl hS ?_
    simp [Act.put]
    refine wl (by kernel_rfl) fun kQ hkQ => ?_
    go_simp
    refine hkQ _ _ ?_
    clear hkQ kQ
    refine wpList_nil ?_
    have hok : ByteArray.empty ++ ({ data := #[111, 107] } : ByteArray) = strOfNums D := by rw [← hD]; kernel_rfl
    clear hD
    go_upto_region 3 with fail
    refine wp_region_lit ?_
    refine wl (by kernel_rfl) fun kQ hkQ => ?_
    go_simp
    refine (wr_any _ g2 .empty _ _ hS.K.2 (by decide) hS.bel.size).mono ?_
    rintro e w11 ⟨rfl, hG1, hb1, ho1⟩
    rw [hok] at hG1
    replace hS := Hs17.bld hS hKo rfl hb1 ho1 hG1
    refine hkQ _ _ ?_
    clear hkQ kQ hb1
    clear ho1 hG1
    refine wpList_nil ?_
    clear hok
    go_upto_region 5 with fail
    refine wp_region_lit ?_
    refine wl (by kernel_rfl) fun kQ hkQ => ?_
    go_simp
    refine hkQ _ _ ?_
    clear hkQ kQ
    refine wl_load1 (by kernel_rfl) 32 (.tmp 15) rfl 0 rfl 1 rfl ((.slice a n c)) (at_Y1 0 (.slice a n c)) Tryz.underlying32 rfl hS ?_
    simp [Act.put]
    refine wl (by kernel_rfl) fun kQ hkQ => ?_
    go_simp
    refine hkQ _ _ ?_
    clear hkQ kQ
    refine wl (by kernel_rfl) fun kQ hkQ => ?_
    go_simp
    refine hkQ _ _ ?_
    clear hkQ kQ
    refine wpList_nil ?_
    go_wp2_with fail
    go_loopw [18] (fun vi wr => ∃ k : Nat, k ≤ n ∧ vi = .int .i64 k ∧ Hs17 w [(g1, 34, (reC 0 (.slice a n c)))] (fun v => (fun w9 => Sx.Ok iC 1 w9 ⟨a, n, c, l⟩ ∧ P10 w9) v ∧ Bld w.heap.size g2 (strOfNums (showL 0 (l.take k))) v) wr) (fun vi _ => n - (intOf vi).toNat)
    case atStart => exact ⟨0, by omega, rfl, by rw [← unhide HD0]; exact hS⟩
    case round =>
      clear hS hds
      obtain ⟨k, hk, rfl, hS⟩ := hrel
      have hsz : (strOfNums (showL 0 (l.take k))).size ≤ 100000000 := by
        rw [str_sz]
        have := showL_len (unhide HE) (l.take k) (fun z hz => unhide HNS z (List.mem_of_mem_take hz))
        rw [List.length_take] at this; omega
      by_cases hlt : k < n
      · skip
        have hkl : k < l.length := by rw [unhide HL]; exact hlt
        obtain ⟨b, off, ha, -, hc⟩ := Sx.Ok.at_ hS.K.1.1 (i := k) (List.getElem?_eq_getElem hkl)
        have ha' : a = some ⟨b, off, none⟩ := ha
        subst ha'
        obtain ⟨x, hx⟩ : ∃ x, l[k] = x := ⟨_, rfl⟩
        have hcx : ∀ v, Sx.Ok iC 1 v ⟨some ⟨b, off, none⟩, n, c, l⟩ → v.cell? ⟨b, off + k, none⟩ = some (.int .i64 x) := fun v hv => by
          obtain ⟨b2, o2, e2, -, h2⟩ := Sx.Ok.at_ hv (i := k) (List.getElem?_eq_getElem hkl)
          simp only [Option.some.injEq, Addr.mk.injEq] at e2
          obtain ⟨rfl, rfl, -⟩ := e2
          have h9 := h2 0 _ rfl
          rw [← hx]; simpa using h9
        have hxI : I64 x := by rw [← hx]; exact unhide HNS _ (List.getElem_mem hkl)
        have hkz : (k : Int) < (n : Int) := by omega
        have hnext : Hid (showL 0 (l.take (k + 1)) = showL 0 (l.take k) ++ 32 :: decL x) := hide (by
          rw [List.take_add_one, List.getElem?_eq_getElem hkl, hx]
          show showL 0 (l.take k ++ [x]) = _
          rw [showL_snoc])
        have hxs : (strOfNums (decL x)).size ≤ 20 := by rw [str_sz]; exact decL_len hxI
        clear ha hc hx
        obtain ⟨T, hT⟩ : ∃ T, showL 0 (l.take k) = T := ⟨_, rfl⟩
        rw [hT] at hsz hnext hS
        have h32 : ({ data := #[32] } : ByteArray) = strOfNums [32] := by kernel_rfl
        have hb1' : strOfNums [32] ++ strOfNums (decL x) = strOfNums (32 :: decL x) := str_app _ _
        have hb2 : strOfNums T ++ strOfNums (32 :: decL x) = strOfNums (T ++ 32 :: decL x) := str_app _ _
        have hs1 : (strOfNums [32]).size = 1 := by rw [str_sz]; rfl
        have hs2 : (strOfNums (32 :: decL x)).size ≤ 21 := by rw [str_sz, List.length_cons]; rw [str_sz] at hxs; omega
        have q1 : ¬ 9223372036854775807 < 1 + (strOfNums (decL x)).size := by omega
        clear hT
        go_upto_region 6 with fail
        refine wp_region_lit ?_
        refine wl (by kernel_rfl) fun kQ hkQ => ?_
        go_simp
        refine hkQ _ _ ?_
        clear hkQ kQ
        refine wpList_nil ?_
        go_upto_region 7 with fail
        refine wp_region_lit ?_
        refine wl (by kernel_rfl) fun kQ hkQ => ?_
        go_simp
        refine hkQ _ _ ?_
        clear hkQ kQ
        refine wl_loadC (by kernel_rfl) 2 (.tmp 20) rfl b (off + k) rfl (.int .i64 x) (hcx _ hS.K.1.1) Tryz.underlying2 rfl ?_
        simp [Act.put]
        refine wl (by kernel_rfl) fun kQ hkQ => ?_
        go_simp
        refine hkQ _ _ ?_
        clear hkQ kQ
        refine wpList_nil ?_
        go_upto_region 8 with fail
        refine wp_region_lit ?_
        refine wl (by kernel_rfl) fun kQ hkQ => ?_
        go_simp
        refine hkQ _ _ ?_
        clear hkQ kQ
        refine wl (by kernel_rfl) fun kQ hkQ => ?_
        go_simp
        refine (fmt_any x _ hxI hS.K.1.2).mono ?_
        rintro e w41 ⟨rfl, hb1⟩
        replace hS := hS.later hb1
        refine hkQ _ _ ?_
        clear hkQ kQ hb1
        refine wl (by kernel_rfl) fun kQ hkQ => ?_
        go_simp
        refine hkQ _ _ ?_
        clear hkQ kQ
        refine wl (by kernel_rfl) fun kQ hkQ => ?_
        go_simp
        refine (wr_any _ g2 (strOfNums T) (strOfNums (32 :: decL x)) _ hS.K.2 (by omega) hS.bel.size).mono ?_
        rintro e w42 ⟨rfl, hG1, hb1, ho1⟩
        rw [hb2] at hG1
        replace hS := Hs17.bld hS hKo rfl hb1 ho1 hG1
        refine hkQ _ _ ?_
        clear hkQ kQ hb1
        clear ho1 hG1
        refine wpList_nil ?_
        go_wp2_with fail
        go_roundw
        case rel => exact ⟨k + 1, by omega, by go_num, by rw [unhide hnext]; exact hS⟩
        case measure => simp [intOf]; omega
      · obtain rfl : n = k := by omega
        have hfin : l.take n = l := List.take_of_length_le (by rw [unhide HL]; exact Nat.le_refl _)
        have hkd : ¬ (n : Int) < (n : Int) := by omega
        rw [hfin] at hS
        clear hfin
        go_upto_region 6 with fail
        refine wp_region_lit ?_
        refine wl (by kernel_rfl) fun kQ hkQ => ?_
        go_simp
        refine hkQ _ _ ?_
        clear hkQ kQ
        refine wpList_nil ?_
        go_upto_region 10 with fail
        refine wp_region_lit ?_
        refine wl (by kernel_rfl) fun kQ hkQ => ?_
        go_simp
        refine (st_any _ g2 (strOfNums (showL 0 l)) _ hS.K.2 hS.bel.size).mono ?_
        rintro e w81 ⟨rfl, hG1, hb1, ho1⟩
        replace hS := Hs17.bld hS hKo rfl hb1 ho1 hG1
        refine hkQ _ _ ?_
        clear hkQ kQ hb1
        clear ho1 hG1
        refine wl (by kernel_rfl) fun kQ hkQ => ?_
        go_simp
        refine hkQ _ _ ?_
        clear hkQ kQ
        refine wpList_nil ?_
        go_wp2_with fail
        go_ret
        exact ⟨rfl, hS.bel⟩
  · skip
    have hzq : (e0 == 0) = false := by simpa using hz
    have hds0 : (strOfNums (decL e0)).size ≤ 20 := by rw [str_sz]; exact decL_len he
    have herr : ByteArray.empty ++ (strOfNums [101, 114, 114, 111, 114, 32] ++ strOfNums (decL e0)) = strOfNums D := by rw [str_app, ← hD, showL_err hz, ByteArray.empty_append]; rfl
    have h6 : ({ data := #[101, 114, 114, 111, 114, 32] } : ByteArray) = strOfNums [101, 114, 114, 111, 114, 32] := by kernel_rfl
    have hs6 : (strOfNums [101, 114, 114, 111, 114, 32]).size = 6 := by rw [str_sz]; rfl
    have hs7 : (strOfNums [101, 114, 114, 111, 114, 32] ++ strOfNums (decL e0)).size ≤ 30 := by rw [str_app, str_sz, List.length_append]; rw [str_sz] at hds0; simp; omega
    have q0 : ¬ 9223372036854775807 < 6 + (strOfNums (decL e0)).size := by omega
    have hse : ByteArray.empty.size = 0 := rfl
    clear hD
    go_upto_region 2 with fail
    refine wp_region_lit ?_
    refine wl (by kernel_rfl) fun kQ hkQ => ?_
    go_simp
    refine hkQ _ _ ?_
    clear hkQ kQ
    refine wl_load1 (by kernel_rfl) 31 (.tmp 6) rfl 0 rfl 0 rfl (.int .i64 e0) (at_Y0 e0 (.slice a n c)) Tryz.underlying31 rfl hS ?_
    simp [Act.put]
    refine wl (by kernel_rfl) fun kQ hkQ => ?_
    go_simp
    refine hkQ _ _ ?_
    clear hkQ kQ
    refine wpList_nil ?_
    go_upto_region 4 with fail
    refine wp_region_lit ?_
    refine wl (by kernel_rfl) fun kQ hkQ => ?_
    go_simp
    refine hkQ _ _ ?_
    clear hkQ kQ
    refine wl_load1 (by kernel_rfl) 31 (.tmp 10) rfl 0 rfl 0 rfl (.int .i64 e0) (at_Y0 e0 (.slice a n c)) Tryz.underlying31 rfl hS ?_
    simp [Act.put]
    refine wl (by kernel_rfl) fun kQ hkQ => ?_
    go_simp
    refine (ito_any e0 _ he hS.K.1.2).mono ?_
    rintro e w21 ⟨rfl, hb1⟩
    replace hS := hS.later hb1
    refine hkQ _ _ ?_
    clear hkQ kQ hb1
    refine wl (by kernel_rfl) fun kQ hkQ => ?_
    go_simp
    refine hkQ _ _ ?_
    clear hkQ kQ
    refine wl (by kernel_rfl) fun kQ hkQ => ?_
    go_simp
    refine (wr_any _ g2 .empty (strOfNums [101, 114, 114, 111, 114, 32] ++ strOfNums (decL e0)) _ hS.K.2 (by omega) hS.bel.size).mono ?_
    rintro e w22 ⟨rfl, hG1, hb1, ho1⟩
    rw [herr] at hG1
    replace hS := Hs17.bld hS hKo rfl hb1 ho1 hG1
    refine hkQ _ _ ?_
    clear hkQ kQ hb1
    clear ho1 hG1
    refine wpList_nil ?_
    clear herr h6 hs6 hs7 q0 hds0 hzq hse
    go_upto_region 5 with fail
    refine wp_region_lit ?_
    refine wl (by kernel_rfl) fun kQ hkQ => ?_
    go_simp
    refine hkQ _ _ ?_
    clear hkQ kQ
    refine wl_load1 (by kernel_rfl) 32 (.tmp 15) rfl 0 rfl 1 rfl ((.slice a n c)) (at_Y1 e0 (.slice a n c)) Tryz.underlying32 rfl hS ?_
    simp [Act.put]
    refine wl (by kernel_rfl) fun kQ hkQ => ?_
    go_simp
    refine hkQ _ _ ?_
    clear hkQ kQ
    refine wl (by kernel_rfl) fun kQ hkQ => ?_
    go_simp
    refine hkQ _ _ ?_
    clear hkQ kQ
    refine wpList_nil ?_
    go_wp2_with fail
    go_loopw [18] (fun vi wr => ∃ k : Nat, k ≤ n ∧ vi = .int .i64 k ∧ Hs17 w [(g1, 34, (reC e0 (.slice a n c)))] (fun v => (fun w9 => Sx.Ok iC 1 w9 ⟨a, n, c, l⟩ ∧ P10 w9) v ∧ Bld w.heap.size g2 (strOfNums (showL e0 (l.take k))) v) wr) (fun vi _ => n - (intOf vi).toNat)
    case atStart => exact ⟨0, by omega, rfl, by rw [← unhide HD0]; exact hS⟩
    case round =>
      clear hS hds
      obtain ⟨k, hk, rfl, hS⟩ := hrel
      have hsz : (strOfNums (showL e0 (l.take k))).size ≤ 100000000 := by
        rw [str_sz]
        have := showL_len (unhide HE) (l.take k) (fun z hz => unhide HNS z (List.mem_of_mem_take hz))
        rw [List.length_take] at this; omega
      by_cases hlt : k < n
      · skip
        have hkl : k < l.length := by rw [unhide HL]; exact hlt
        obtain ⟨b, off, ha, -, hc⟩ := Sx.Ok.at_ hS.K.1.1 (i := k) (List.getElem?_eq_getElem hkl)
        have ha' : a = some ⟨b, off, none⟩ := ha
        subst ha'
        obtain ⟨x, hx⟩ : ∃ x, l[k] = x := ⟨_, rfl⟩
        have hcx : ∀ v, Sx.Ok iC 1 v ⟨some ⟨b, off, none⟩, n, c, l⟩ → v.cell? ⟨b, off + k, none⟩ = some (.int .i64 x) := fun v hv => by
          obtain ⟨b2, o2, e2, -, h2⟩ := Sx.Ok.at_ hv (i := k) (List.getElem?_eq_getElem hkl)
          simp only [Option.some.injEq, Addr.mk.injEq] at e2
          obtain ⟨rfl, rfl, -⟩ := e2
          have h9 := h2 0 _ rfl
          rw [← hx]; simpa using h9
        have hxI : I64 x := by rw [← hx]; exact unhide HNS _ (List.getElem_mem hkl)
        have hkz : (k : Int) < (n : Int) := by omega
        have hnext : Hid (showL e0 (l.take (k + 1)) = showL e0 (l.take k) ++ 32 :: decL x) := hide (by
          rw [List.take_add_one, List.getElem?_eq_getElem hkl, hx]
          show showL e0 (l.take k ++ [x]) = _
          rw [showL_snoc])
        have hxs : (strOfNums (decL x)).size ≤ 20 := by rw [str_sz]; exact decL_len hxI
        clear ha hc hx
        obtain ⟨T, hT⟩ : ∃ T, showL e0 (l.take k) = T := ⟨_, rfl⟩
        rw [hT] at hsz hnext hS
        have h32 : ({ data := #[32] } : ByteArray) = strOfNums [32] := by kernel_rfl
        have hb1' : strOfNums [32] ++ strOfNums (decL x) = strOfNums (32 :: decL x) := str_app _ _
        have hb2 : strOfNums T ++ strOfNums (32 :: decL x) = strOfNums (T ++ 32 :: decL x) := str_app _ _
        have hs1 : (strOfNums [32]).size = 1 := by rw [str_sz]; rfl
        have hs2 : (strOfNums (32 :: decL x)).size ≤ 21 := by rw [str_sz, List.length_cons]; rw [str_sz] at hxs; omega
        have q1 : ¬ 9223372036854775807 < 1 + (strOfNums (decL x)).size := by omega
        clear hT
        go_upto_region 6 with fail
        refine wp_region_lit ?_
        refine wl (by kernel_rfl) fun kQ hkQ => ?_
        go_simp
        refine hkQ _ _ ?_
        clear hkQ kQ
        refine wpList_nil ?_
        go_upto_region 7 with fail
        refine wp_region_lit ?_
        refine wl (by kernel_rfl) fun kQ hkQ => ?_
        go_simp
        refine hkQ _ _ ?_
        clear hkQ kQ
        refine wl_loadC (by kernel_rfl) 2 (.tmp 20) rfl b (off + k) rfl (.int .i64 x) (hcx _ hS.K.1.1) Tryz.underlying2 rfl ?_
        simp [Act.put]
        refine wl (by kernel_rfl) fun kQ hkQ => ?_
        go_simp
        refine hkQ _ _ ?_
        clear hkQ kQ
        refine wpList_nil ?_
        go_upto_region 8 with fail
        refine wp_region_lit ?_
        refine wl (by kernel_rfl) fun kQ hkQ => ?_
        go_simp
        refine hkQ _ _ ?_
        clear hkQ kQ
        refine wl (by kernel_rfl) fun kQ hkQ => ?_
        go_simp
        refine (fmt_any x _ hxI hS.K.1.2).mono ?_
        rintro e w41 ⟨rfl, hb1⟩
        replace hS := hS.later hb1
        refine hkQ _ _ ?_
        clear hkQ kQ hb1
        refine wl (by kernel_rfl) fun kQ hkQ => ?_
        go_simp
        refine hkQ _ _ ?_
        clear hkQ kQ
        refine wl (by kernel_rfl) fun kQ hkQ => ?_
        go_simp
        refine (wr_any _ g2 (strOfNums T) (strOfNums (32 :: decL x)) _ hS.K.2 (by omega) hS.bel.size).mono ?_
        rintro e w42 ⟨rfl, hG1, hb1, ho1⟩
        rw [hb2] at hG1
        replace hS := Hs17.bld hS hKo rfl hb1 ho1 hG1
        refine hkQ _ _ ?_
        clear hkQ kQ hb1
        clear ho1 hG1
        refine wpList_nil ?_
        go_wp2_with fail
        go_roundw
        case rel => exact ⟨k + 1, by omega, by go_num, by rw [unhide hnext]; exact hS⟩
        case measure => simp [intOf]; omega
      · obtain rfl : n = k := by omega
        have hfin : l.take n = l := List.take_of_length_le (by rw [unhide HL]; exact Nat.le_refl _)
        have hkd : ¬ (n : Int) < (n : Int) := by omega
        rw [hfin] at hS
        clear hfin
        go_upto_region 6 with fail
        refine wp_region_lit ?_
        refine wl (by kernel_rfl) fun kQ hkQ => ?_
        go_simp
        refine hkQ _ _ ?_
        clear hkQ kQ
        refine wpList_nil ?_
        go_upto_region 10 with fail
        refine wp_region_lit ?_
        refine wl (by kernel_rfl) fun kQ hkQ => ?_
        go_simp
        refine (st_any _ g2 (strOfNums (showL e0 l)) _ hS.K.2 hS.bel.size).mono ?_
        rintro e w81 ⟨rfl, hG1, hb1, ho1⟩
        replace hS := Hs17.bld hS hKo rfl hb1 ho1 hG1
        refine hkQ _ _ ?_
        clear hkQ kQ hb1
        clear ho1 hG1
        refine wl (by kernel_rfl) fun kQ hkQ => ?_
        go_simp
        refine hkQ _ _ ?_
        clear hkQ kQ
        refine wpList_nil ?_
        go_wp2_with fail
        go_ret
        exact ⟨rfl, hS.bel⟩
end Go.Proofs.YtdcaojiiaocnaaaGreatDoor
