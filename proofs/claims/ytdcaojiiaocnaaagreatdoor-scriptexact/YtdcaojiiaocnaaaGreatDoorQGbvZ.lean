import Derived.Test.YtdcaojiiaocnaaaGreatDoorQGamZ
import Derived.Test.YtdcaojiiaocnaaaGreatDoorQDeW
import Derived.Deep.DeepCutAuto
import Derived.Deep.QuietTactic
import Derived.BigQuiet
import Derived.Test.YtdcaojiiaocnaaaGreatDoorQGanZ
set_option linter.unusedSimpArgs false
set_option linter.unusedVariables false
namespace Go.Proofs.YtdcaojiiaocnaaaGreatDoor
open Go.RowKit

set_option maxHeartbeats 4000000 in
set_option maxRecDepth 100000 in
theorem refshow_any (e0 : Int) (s : Sx Int) (w : World) (hs : Sx.Ok iC 1 w s) (he : I64 e0) (hns : ∀ z ∈ s.xs, I64 z) (hn : s.n ≤ 1048576) :
    Calls Tryz.prog 18 #[aV (reC e0 s.v)] w fun e w' => e = .returned (.string (strOfNums (showL e0 s.xs))) ∧ Below w.heap.size w w' := by
  obtain ⟨a, n, c, l⟩ := s
  have hl : l.length = n := hs.len
  have hn' : n ≤ 1048576 := hn
  simp only [Sx.v]
  have hS := Hs17.begin w (fun w9 => Sx.Ok iC 1 w9 ⟨a, n, c, l⟩) (fun w' ho => hs.old ho)
  have HL := hide hl
  have HNS := hide hns
  have HE := hide he
  obtain ⟨D, hD⟩ : ∃ D, showL e0 [] = D := ⟨_, rfl⟩
  have hDl : D.length ≤ 30 := by rw [← hD]; exact showL_len he [] (fun z hz => by simp at hz)
  have HD0 : Hid (D = showL e0 (l.take 0)) := hide hD.symm
  have hds : (strOfNums D).size ≤ 1000 := by rw [str_sz]; omega
  clear hs hn hl hns
  go_enter Tryz.func18, Tryz.ntmps18
  go_upto_region 0 with fail
  refine wp_region_lit ?_
  refine wl_box (by kernel_rfl) 34 (.tmp 0) rfl (reC e0 (.slice a n c)) rfl hS ?_
  clear hS
  intro g1 w1 hS
  simp [Act.put]
  refine wl (by kernel_rfl) fun kQ hkQ => ?_
  go_simp
  refine hkQ _ _ ?_
  clear hkQ kQ
  refine wpList_nil ?_
  go_upto_region 1 with fail
  refine wp_region_lit ?_
  refine wl (by kernel_rfl) fun kQ hkQ => ?_
  go_simp
  refine hkQ _ _ ?_
  clear hkQ kQ
  refine wpList_nil ?_
  by_cases hz : e0 = 0
  · subst hz
    go_upto_region 2 with fail
    refine wp_region_lit ?_
    refine wl (by kernel_rfl) fun kQ hkQ => ?_
    go_simp
    refine hkQ _ _ ?_
    clear hkQ kQ
    refine wl_load1 (by kernel_rfl) 31 (.tmp 5) rfl 0 rfl 0 rfl (.int .i64 0) (at_Y0 0 (.slice a n c)) Tryz.underlying31 rfl hS ?_
    simp [Act.put]
    refine wl (by kernel_rfl) fun kQ hkQ => ?_
    go_simp
    refine hkQ _ _ ?_
    clear hkQ kQ
    refine wpList_nil ?_
    have hok : ({ data := #[111, 107] } : ByteArray) = strOfNums D := by rw [← hD]; kernel_rfl
    rw [hok]
    clear hok hD
    go_wp2_with fail
    go_loopw [3, 4] (fun vs vi wr => ∃ k : Nat, k ≤ n ∧ vs = .string (strOfNums (showL 0 (l.take k))) ∧ vi = .int .i64 k ∧ Hs17 w [(g1, 34, (reC 0 (.slice a n c)))] (fun w9 => Sx.Ok iC 1 w9 ⟨a, n, c, l⟩) wr) (fun _ vi _ => n - (intOf vi).toNat)
    case atStart => exact ⟨0, by omega, by rw [← unhide HD0], rfl, hS⟩
    case round =>
      clear hS hds
      obtain ⟨k, hk, rfl, rfl, hS⟩ := hrel
      have hsz : (strOfNums (showL 0 (l.take k))).size ≤ 100000000 := by
        rw [str_sz]
        have := showL_len (unhide HE) (l.take k) (fun z hz => unhide HNS z (List.mem_of_mem_take hz))
        rw [List.length_take] at this; omega
      by_cases hlt : k < n
      · skip
        have hkl : k < l.length := by rw [unhide HL]; exact hlt
        obtain ⟨b, off, ha, -, hc⟩ := Sx.Ok.at_ hS.K (i := k) (List.getElem?_eq_getElem hkl)
        have ha' : a = some ⟨b, off, none⟩ := ha
        subst ha'
        obtain ⟨x, hx⟩ : ∃ x, l[k] = x := ⟨_, rfl⟩
        have hcx : ∀ v, Hs17 w [] (fun w9 => Sx.Ok iC 1 w9 ⟨some ⟨b, off, none⟩, n, c, l⟩) v → v.cell? ⟨b, off + k, none⟩ = some (.int .i64 x) := fun v hv => by
          obtain ⟨b2, o2, e2, -, h2⟩ := Sx.Ok.at_ hv.K (i := k) (List.getElem?_eq_getElem hkl)
          simp only [Option.some.injEq, Addr.mk.injEq] at e2
          obtain ⟨rfl, rfl, -⟩ := e2
          have h9 := h2 0 _ rfl
          rw [← hx]; simpa using h9
        have hxI : I64 x := by rw [← hx]; exact unhide HNS _ (List.getElem_mem hkl)
        have hkz : (k : Int) < (n : Int) := by omega
        have hnext : Hid (showL 0 (l.take (k + 1)) = showL 0 (l.take k) ++ 32 :: decL x) := hide (by
          rw [List.take_add_one, List.getElem?_eq_getElem hkl, hx]
          show showL 0 (l.take k ++ [x]) = _
          rw [showL_snoc])
        have hxs : (strOfNums (decL x)).size ≤ 20 := by rw [str_sz]; exact decL_len hxI
        clear ha hc hx
        obtain ⟨T, hT⟩ : ∃ T, showL 0 (l.take k) = T := ⟨_, rfl⟩
        rw [hT] at hsz hnext ⊢
        have h32 : ({ data := #[32] } : ByteArray) = strOfNums [32] := by kernel_rfl
        have hb1 : strOfNums T ++ strOfNums [32] = strOfNums (T ++ [32]) := str_app _ _
        have hb2 : strOfNums (T ++ [32]) ++ strOfNums (decL x) = strOfNums (T ++ [32] ++ decL x) := str_app _ _
        have hs1 : (strOfNums [32]).size = 1 := by rw [str_sz]; rfl
        have hs2 : (strOfNums (T ++ [32])).size = (strOfNums T).size + 1 := by rw [str_sz, str_sz, List.length_append]; rfl
        have q1 : ¬ 9223372036854775807 < (strOfNums T).size + 1 := by omega
        have q2 : ¬ 9223372036854775807 < (strOfNums T).size + 1 + (strOfNums (decL x)).size := by omega
        clear hT
        go_upto_region 5 with fail
        refine wp_region_lit ?_
        refine wl (by kernel_rfl) fun kQ hkQ => ?_
        go_simp
        refine hkQ _ _ ?_
        clear hkQ kQ
        refine wl (by kernel_rfl) fun kQ hkQ => ?_
        go_simp
        refine hkQ _ _ ?_
        clear hkQ kQ
        refine wl_load1 (by kernel_rfl) 32 (.tmp 13) rfl 0 rfl 1 rfl ((.slice (some ⟨b, off, none⟩) n c)) (at_Y1 0 (.slice (some ⟨b, off, none⟩) n c)) Tryz.underlying32 rfl hS ?_
        simp [Act.put]
        refine wl (by kernel_rfl) fun kQ hkQ => ?_
        go_simp
        refine hkQ _ _ ?_
        clear hkQ kQ
        refine wl (by kernel_rfl) fun kQ hkQ => ?_
        go_simp
        refine hkQ _ _ ?_
        clear hkQ kQ
        refine wpList_nil ?_
        go_upto_region 7 with fail
        refine wp_region_lit ?_
        refine wl (by kernel_rfl) fun kQ hkQ => ?_
        go_simp
        refine hkQ _ _ ?_
        clear hkQ kQ
        refine wl (by kernel_rfl) fun kQ hkQ => ?_
        go_simp
        refine hkQ _ _ ?_
        clear hkQ kQ
        refine wl (by kernel_rfl) fun kQ hkQ => ?_
        go_simp
        refine hkQ _ _ ?_
        clear hkQ kQ
        refine wl_load1 (by kernel_rfl) 32 (.tmp 21) rfl 0 rfl 1 rfl ((.slice (some ⟨b, off, none⟩) n c)) (at_Y1 0 (.slice (some ⟨b, off, none⟩) n c)) Tryz.underlying32 rfl hS ?_
        simp [Act.put]
        refine wl (by kernel_rfl) fun kQ hkQ => ?_
        go_simp
        refine hkQ _ _ ?_
        clear hkQ kQ
        refine wl (by kernel_rfl) fun kQ hkQ => ?_
        go_simp
        refine hkQ _ _ ?_
        clear hkQ kQ
        refine wl_loadC (by kernel_rfl) 2 (.tmp 24) rfl b (off + k) rfl (.int .i64 x) (hcx _ (hS.sub (List.nil_sublist _))) Tryz.underlying2 rfl ?_
        simp [Act.put]
        refine wl (by kernel_rfl) fun kQ hkQ => ?_
        go_simp
        refine (refdec_any x _ hxI).mono ?_
        rintro e w41 ⟨rfl, hb1⟩
        replace hS := hS.later hb1
        refine hkQ _ _ ?_
        clear hkQ kQ hb1
        refine wl (by kernel_rfl) fun kQ hkQ => ?_
        go_simp
        refine hkQ _ _ ?_
        clear hkQ kQ
        refine wl (by kernel_rfl) fun kQ hkQ => ?_
        go_simp
        refine hkQ _ _ ?_
        clear hkQ kQ
        refine wpList_nil ?_
        go_wp2_with fail
        go_roundw
        case rel => exact ⟨k + 1, by omega, by rw [unhide hnext], by go_num, hS⟩
        case measure => simp [intOf]; omega
      · obtain rfl : n = k := by omega
        have hfin : l.take n = l := List.take_of_length_le (by rw [unhide HL]; exact Nat.le_refl _)
        have hkd : ¬ (n : Int) < (n : Int) := by omega
        rw [hfin]
        clear hfin
        go_upto_region 5 with fail
        refine wp_region_lit ?_
        refine wl (by kernel_rfl) fun kQ hkQ => ?_
        go_simp
        refine hkQ _ _ ?_
        clear hkQ kQ
        refine wl (by kernel_rfl) fun kQ hkQ => ?_
        go_simp
        refine hkQ _ _ ?_
        clear hkQ kQ
        refine wl_load1 (by kernel_rfl) 32 (.tmp 13) rfl 0 rfl 1 rfl ((.slice a n c)) (at_Y1 0 (.slice a n c)) Tryz.underlying32 rfl hS ?_
        simp [Act.put]
        refine wl (by kernel_rfl) fun kQ hkQ => ?_
        go_simp
        refine hkQ _ _ ?_
        clear hkQ kQ
        refine wl (by kernel_rfl) fun kQ hkQ => ?_
        go_simp
        refine hkQ _ _ ?_
        clear hkQ kQ
        refine wpList_nil ?_
        go_wp2_with fail
        go_ret
        exact ⟨rfl, hS.bel⟩
  · skip
    have hzq : (e0 != 0) = true := by simpa using hz
    have hds0 : (strOfNums (decL e0)).size ≤ 20 := by rw [str_sz]; exact decL_len he
    have herr : strOfNums [101, 114, 114, 111, 114, 32] ++ strOfNums (decL e0) = strOfNums D := by rw [str_app, ← hD, showL_err hz]; rfl
    have h6 : ({ data := #[101, 114, 114, 111, 114, 32] } : ByteArray) = strOfNums [101, 114, 114, 111, 114, 32] := by kernel_rfl
    have hs6 : (strOfNums [101, 114, 114, 111, 114, 32]).size = 6 := by rw [str_sz]; rfl
    have q0 : ¬ 9223372036854775807 < 6 + (strOfNums (decL e0)).size := by omega
    clear hD
    go_upto_region 2 with fail
    refine wp_region_lit ?_
    refine wl (by kernel_rfl) fun kQ hkQ => ?_
    go_simp
    refine hkQ _ _ ?_
    clear hkQ kQ
    refine wl_load1 (by kernel_rfl) 31 (.tmp 5) rfl 0 rfl 0 rfl (.int .i64 e0) (at_Y0 e0 (.slice a n c)) Tryz.underlying31 rfl hS ?_
    simp [Act.put]
    refine wl (by kernel_rfl) fun kQ hkQ => ?_
    go_simp
    refine hkQ _ _ ?_
    clear hkQ kQ
    refine wpList_nil ?_
    go_upto_region 3 with fail
    refine wp_region_lit ?_
    refine wl (by kernel_rfl) fun kQ hkQ => ?_
    go_simp
    refine hkQ _ _ ?_
    clear hkQ kQ
    refine wl_load1 (by kernel_rfl) 31 (.tmp 8) rfl 0 rfl 0 rfl (.int .i64 e0) (at_Y0 e0 (.slice a n c)) Tryz.underlying31 rfl hS ?_
    simp [Act.put]
    refine wl (by kernel_rfl) fun kQ hkQ => ?_
    go_simp
    refine (refdec_any e0 _ he).mono ?_
    rintro e w21 ⟨rfl, hb1⟩
    replace hS := hS.later hb1
    refine hkQ _ _ ?_
    clear hkQ kQ hb1
    refine wl (by kernel_rfl) fun kQ hkQ => ?_
    go_simp
    refine hkQ _ _ ?_
    clear hkQ kQ
    refine wl (by kernel_rfl) fun kQ hkQ => ?_
    go_simp
    refine hkQ _ _ ?_
    clear hkQ kQ
    refine wpList_nil ?_
    clear herr h6 hs6 q0 hds0 hzq
    go_wp2_with fail
    go_loopw [3, 4] (fun vs vi wr => ∃ k : Nat, k ≤ n ∧ vs = .string (strOfNums (showL e0 (l.take k))) ∧ vi = .int .i64 k ∧ Hs17 w [(g1, 34, (reC e0 (.slice a n c)))] (fun w9 => Sx.Ok iC 1 w9 ⟨a, n, c, l⟩) wr) (fun _ vi _ => n - (intOf vi).toNat)
    case atStart => exact ⟨0, by omega, by rw [← unhide HD0], rfl, hS⟩
    case round =>
      clear hS hds
      obtain ⟨k, hk, rfl, rfl, hS⟩ := hrel
      have hsz : (strOfNums (showL e0 (l.take k))).size ≤ 100000000 := by
        rw [str_sz]
        have := showL_len (unhide HE) (l.take k) (fun z hz => unhide HNS z (List.mem_of_mem_take hz))
        rw [List.length_take] at this; omega
      by_cases hlt : k < n
      · skip
        have hkl : k < l.length := by rw [unhide HL]; exact hlt
        obtain ⟨b, off, ha, -, hc⟩ := Sx.Ok.at_ hS.K (i := k) (List.getElem?_eq_getElem hkl)
        have ha' : a = some ⟨b, off, none⟩ := ha
        subst ha'
        obtain ⟨x, hx⟩ : ∃ x, l[k] = x := ⟨_, rfl⟩
        have hcx : ∀ v, Hs17 w [] (fun w9 => Sx.Ok iC 1 w9 ⟨some ⟨b, off, none⟩, n, c, l⟩) v → v.cell? ⟨b, off + k, none⟩ = some (.int .i64 x) := fun v hv => by
          obtain ⟨b2, o2, e2, -, h2⟩ := Sx.Ok.at_ hv.K (i := k) (List.getElem?_eq_getElem hkl)
          simp only [Option.some.injEq, Addr.mk.injEq] at e2
          obtain ⟨rfl, rfl, -⟩ := e2
          have h9 := h2 0 _ rfl
          rw [← hx]; simpa using h9
        have hxI : I64 x := by rw [← hx]; exact unhide HNS _ (List.getElem_mem hkl)
        have hkz : (k : Int) < (n : Int) := by omega
        have hnext : Hid (showL e0 (l.take (k + 1)) = showL e0 (l.take k) ++ 32 :: decL x) := hide (by
          rw [List.take_add_one, List.getElem?_eq_getElem hkl, hx]
          show showL e0 (l.take k ++ [x]) = _
          rw [showL_snoc])
        have hxs : (strOfNums (decL x)).size ≤ 20 := by rw [str_sz]; exact decL_len hxI
        clear ha hc hx
        obtain ⟨T, hT⟩ : ∃ T, showL e0 (l.take k) = T := ⟨_, rfl⟩
        rw [hT] at hsz hnext ⊢
        have h32 : ({ data := #[32] } : ByteArray) = strOfNums [32] := by kernel_rfl
        have hb1 : strOfNums T ++ strOfNums [32] = strOfNums (T ++ [32]) := str_app _ _
        have hb2 : strOfNums (T ++ [32]) ++ strOfNums (decL x) = strOfNums (T ++ [32] ++ decL x) := str_app _ _
        have hs1 : (strOfNums [32]).size = 1 := by rw [str_sz]; rfl
        have hs2 : (strOfNums (T ++ [32])).size = (strOfNums T).size + 1 := by rw [str_sz, str_sz, List.length_append]; rfl
        have q1 : ¬ 9223372036854775807 < (strOfNums T).size + 1 := by omega
        have q2 : ¬ 9223372036854775807 < (strOfNums T).size + 1 + (strOfNums (decL x)).size := by omega
        clear hT
        go_upto_region 5 with fail
        refine wp_region_lit ?_
        refine wl (by kernel_rfl) fun kQ hkQ => ?_
        go_simp
        refine hkQ _ _ ?_
        clear hkQ kQ
        refine wl (by kernel_rfl) fun kQ hkQ => ?_
        go_simp
        refine hkQ _ _ ?_
        clear hkQ kQ
        refine wl_load1 (by kernel_rfl) 32 (.tmp 13) rfl 0 rfl 1 rfl ((.slice (some ⟨b, off, none⟩) n c)) (at_Y1 e0 (.slice (some ⟨b, off, none⟩) n c)) Tryz.underlying32 rfl hS ?_
        simp [Act.put]
        refine wl (by kernel_rfl) fun kQ hkQ => ?_
        go_simp
        refine hkQ _ _ ?_
        clear hkQ kQ
        refine wl (by kernel_rfl) fun kQ hkQ => ?_
        go_simp
        refine hkQ _ _ ?_
        clear hkQ kQ
        refine wpList_nil ?_
        go_upto_region 7 with fail
        refine wp_region_lit ?_
        refine wl (by kernel_rfl) fun kQ hkQ => ?_
        go_simp
        refine hkQ _ _ ?_
        clear hkQ kQ
        refine wl (by kernel_rfl) fun kQ hkQ => ?_
        go_simp
        refine hkQ _ _ ?_
        clear hkQ kQ
        refine wl (by kernel_rfl) fun kQ hkQ => ?_
        go_simp
        refine hkQ _ _ ?_
        clear hkQ kQ
        refine wl_load1 (by kernel_rfl) 32 (.tmp 21) rfl 0 rfl 1 rfl ((.slice (some ⟨b, off, none⟩) n c)) (at_Y1 e0 (.slice (some ⟨b, off, none⟩) n c)) Tryz.underlying32 rfl hS ?_
        simp [Act.put]
        refine wl (by kernel_rfl) fun kQ hkQ => ?_
        go_simp
        refine hkQ _ _ ?_
        clear hkQ kQ
        refine wl (by kernel_rfl) fun kQ hkQ => ?_
        go_simp
        refine hkQ _ _ ?_
        clear hkQ kQ
        refine wl_loadC (by kernel_rfl) 2 (.tmp 24) rfl b (off + k) rfl (.int .i64 x) (hcx _ (hS.sub (List.nil_sublist _))) Tryz.underlying2 rfl ?_
        simp [Act.put]
        refine wl (by kernel_rfl) fun kQ hkQ => ?_
        go_simp
        refine (refdec_any x _ hxI).mono ?_
        rintro e w41 ⟨rfl, hb1⟩
        replace hS := hS.later hb1
        refine hkQ _ _ ?_
        clear hkQ kQ hb1
        refine wl (by kernel_rfl) fun kQ hkQ => ?_
        go_simp
        refine hkQ _ _ ?_
        clear hkQ kQ
        refine wl (by kernel_rfl) fun kQ hkQ => ?_
        go_simp
        refine hkQ _ _ ?_
        clear hkQ kQ
        refine wpList_nil ?_
        go_wp2_with fail
        go_roundw
        case rel => exact ⟨k + 1, by omega, by rw [unhide hnext], by go_num, hS⟩
        case measure => simp [intOf]; omega
      · obtain rfl : n = k := by omega
        have hfin : l.take n = l := List.take_of_length_le (by rw [unhide HL]; exact Nat.le_refl _)
        have hkd : ¬ (n : Int) < (n : Int) := by omega
        rw [hfin]
        clear hfin
        go_upto_region 5 with fail
        refine wp_region_lit ?_
        refine wl (by kernel_rfl) fun kQ hkQ => ?_
        go_simp
        refine hkQ _ _ ?_
        clear hkQ kQ
        refine wl (by kernel_rfl) fun kQ hkQ => ?_
        go_simp
        refine hkQ _ _ ?_
        clear hkQ kQ
        refine wl_load1 (by kernel_rfl) 32 (.tmp 13) rfl 0 rfl 1 rfl ((.slice a n c)) (at_Y1 e0 (.slice a n c)) Tryz.underlying32 rfl hS ?_
        simp [Act.put]
        refine wl (by kernel_rfl) fun kQ hkQ => ?_
        go_simp
        refine hkQ _ _ ?_
        clear hkQ kQ
        refine wl (by kernel_rfl) fun kQ hkQ => ?_
        go_simp
        refine hkQ _ _ ?_
        clear hkQ kQ
        refine wpList_nil ?_
        go_wp2_with fail
        go_ret
        exact ⟨rfl, hS.bel⟩

/-! What is read is in range. -/
structure Fin25 (o : Opq) : Prop where
  ok : OkO o
  by_ : IsB o.b
  le : o.b.length ≤ 2200
theorem i64_nine {z : Int} (h : z.natAbs < nineQ) : I64 z := by unfold nineQ at h; unfold I64; omega
theorem fin_zero (k : Int) : Fin25 ⟨k, 0, 0, 0, 0, []⟩ :=
  have h : I64 0 := i64_nine (by decide)
  ⟨⟨h, h, h, h⟩, (fun c hc => by cases hc), by show (0 : Nat) ≤ 2200; decide⟩
theorem put_finP {o o' : Opq} {l : Int} {f : List Int} (h : Fin25 o) (hf : f.length ≤ 2200) (hp : putL o l f = some o') : Fin25 o' := by
  obtain ⟨⟨h1, h2, h3, h4⟩, h5, h6⟩ := h
  unfold putL at hp
  split at hp
  · obtain ⟨b, hb, rfl⟩ := Option.map_eq_some_iff.1 hp
    unfold bytesL at hb
    split at hb
    · obtain rfl := Option.some.inj hb
      exact ⟨⟨h1, h2, h3, h4⟩, (fun c hc => by cases hc), by simp⟩
    · split at hb
      · rename_i hk
        obtain rfl := Option.some.inj hb
        exact ⟨⟨h1, h2, h3, h4⟩, unhexL_isB _ hk.2, by show (unhexL f).length ≤ 2200; rw [unhexL_length]; omega⟩
      · cases hb
  · obtain ⟨z, hz, rfl⟩ := Option.map_eq_some_iff.1 hp
    have h9 : I64 z := i64_nine (dec_whole hz).2
    split
    · exact ⟨⟨h9, h2, h3, h4⟩, h5, h6⟩
    · split
      · exact ⟨⟨h1, h9, h3, h4⟩, h5, h6⟩
      · split
        · exact ⟨⟨h1, h2, h9, h4⟩, h5, h6⟩
        · split
          · exact ⟨⟨h1, h2, h3, h9⟩, h5, h6⟩
          · exact ⟨⟨h1, h2, h3, h4⟩, h5, h6⟩
theorem read_fin : ∀ (ls : List Int) (fs : List (List Int)) (at_ : Nat) (o : Opq), Fin25 o → (∀ f ∈ fs, f.length ≤ 2200) → Fin25 (readF ls fs at_ o).1
  | [], _, _, o, h, _ => by unfold readF; exact h
  | _ :: _, [], _, o, h, _ => by unfold readF; exact h
  | l :: ls, f :: fs, at_, o, h, hf => by
    unfold readF
    cases hp : putL o l f with
    | none => exact fin_zero 0
    | some o' => exact read_fin ls fs _ o' (put_finP h (hf f (by simp)) hp) (fun g hg => hf g (by simp [hg]))
theorem parse_fin (l : List Int) : Fin25 (parseL l).1 := by
  by_cases h1 : 2200 < l.length
  · have e : parseL l = (zOp, 1, 0) := by unfold parseL; rw [if_pos h1]
    rw [e]; exact fin_zero 0
  · obtain ⟨w, fs, hsp⟩ : ∃ w fs, splitB l = w :: fs := by
      cases hq : splitB l with
      | nil => exact absurd hq (splitB_ne l)
      | cons w fs => exact ⟨w, fs, rfl⟩
    have e : parseL l = if kindOf w = 0 then (zOp, 250, 0) else if fs.length ≠ (cmdF (kindOf w)).length then (zOp, 251, (l.length : Int)) else readF (cmdF (kindOf w)) fs (w.length + 1) ⟨kindOf w, 0, 0, 0, 0, []⟩ := by
      unfold parseL; rw [if_neg h1, hsp]
    rw [e]
    split
    · exact fin_zero 0
    · split
      · exact fin_zero 0
      · have hj : joinB (w :: fs) = l := by rw [← hsp]; exact join_split l
        refine read_fin _ fs _ _ (fin_zero _) (fun f hf => ?_)
        have h9 := join_len (w :: fs) (by simp)
        rw [hj] at h9
        have : f.length + 1 ≤ ((w :: fs).map (fun f => f.length + 1)).sum := le_sum25 (List.mem_map.2 ⟨f, by simp [hf], rfl⟩)
        omega
end Go.Proofs.YtdcaojiiaocnaaaGreatDoor
