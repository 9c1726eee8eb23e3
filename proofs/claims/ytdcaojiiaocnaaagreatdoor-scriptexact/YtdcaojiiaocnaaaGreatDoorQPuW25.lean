import Derived.Test.YtdcaojiiaocnaaaGreatDoorQGanZ
import Derived.Test.YtdcaojiiaocnaaaGreatDoorQWhW25
import Derived.Deep.DeepCutAuto
import Derived.Deep.QuietTactic
import Derived.BigQuiet
set_option linter.unusedSimpArgs false
set_option linter.unusedVariables false
namespace Go.Proofs.YtdcaojiiaocnaaaGreatDoor
open Go.RowKit

/-- an operation in memory: its body the one that was there, or new -/
def PuP (O : Opq) (sb : Sx Int) (l : Int) (s : ByteArray) (w : World) (e : Ending) (w' : World) : Prop :=
  ∃ (o' : Opq) (v : Sx Int), e = .returned (.tuple #[aV (opC o'.k o'.n o'.o o'.c o'.p v.v), .bool (putL O l (strL s)).isSome]) ∧ (∀ o2, putL O l (strL s) = some o2 → o2 = o') ∧ v.xs = o'.b ∧ (v = sb ∨ Ou w' w.heap.size v.v v.xs) ∧ Below w.heap.size w w'
set_option maxHeartbeats 4000000 in
set_option maxRecDepth 100000 in
theorem refput_any (k n oo c p : Int) (sb : Sx Int) (l : Int) (s : ByteArray) (w : World) (hs : s.size ≤ 1048576) (hl : okLt l) :
    Calls Tryz.prog 26 #[aV (opC k n oo c p sb.v), .int .u8 l, .string s] w (PuP ⟨k, n, oo, c, p, sb.xs⟩ sb l s w) := by
  have hS := Hs17.start0 w
  by_cases h66 : l = 66
  · subst h66
    obtain ⟨R, hR⟩ : ∃ R, bytesL (strL s) = R := ⟨_, rfl⟩
    have HP : Hid (putL ⟨k, n, oo, c, p, sb.xs⟩ 66 (strL s) = R.map (fun b => ⟨k, n, oo, c, p, b⟩)) := hide (by unfold putL; rw [if_pos rfl, hR])
    have HR := hide hR
    clear hR
    go_enter Tryz.func26, Tryz.ntmps26
    go_upto_region 0 with fail
    refine wp_region_lit ?_
    refine wl_box (by kernel_rfl) 30 (.tmp 0) rfl (opC k n oo c p sb.v) rfl hS ?_
    clear hS
    intro g1 w1 hS
    simp [Act.put]
    refine wl_alloc (by kernel_rfl) 30 rfl (opC 0 0 0 0 0 (.slice none 0 0)) Tryz.inO hS ?_
    clear hS
    intro g2 w2 hS
    simp [Act.put]
    refine wl (by kernel_rfl) fun kQ hkQ => ?_
    go_simp
    refine hkQ _ _ ?_
    clear hkQ kQ
    refine wpList_nil ?_
    go_upto_region 1 with fail
    refine wp_region_lit ?_
    refine wl (by kernel_rfl) fun kQ hkQ => ?_
    go_simp
    refine hkQ _ _ ?_
    clear hkQ kQ
    refine wl (by kernel_rfl) fun kQ hkQ => ?_
    go_simp
    refine hkQ _ _ ?_
    clear hkQ kQ
    refine wpList_nil ?_
    go_upto_region 2 with fail
    refine wp_region_lit ?_
    refine wl (by kernel_rfl) fun kQ hkQ => ?_
    go_simp
    refine hkQ _ _ ?_
    clear hkQ kQ
    refine wl (by kernel_rfl) fun kQ hkQ => ?_
    go_simp
    refine (reflist_any s _ hs).mono ?_
    rintro e w3 ⟨v, rfl, hvx, hO, hb1⟩
    replace hS := hS.ownK hb1 hO
    rw [unhide HR] at hvx ⊢
    have HVX := hide hvx
    clear hvx hO
    refine hkQ _ _ ?_
    clear hkQ kQ hb1
    refine wl (by kernel_rfl) fun kQ hkQ => ?_
    go_simp
    refine hkQ _ _ ?_
    clear hkQ kQ
    refine wl (by kernel_rfl) fun kQ hkQ => ?_
    go_simp
    refine hkQ _ _ ?_
    clear hkQ kQ
    refine wl (by kernel_rfl) fun kQ hkQ => ?_
    go_simp
    refine hkQ _ _ ?_
    clear hkQ kQ
    refine wl (by kernel_rfl) fun kQ hkQ => ?_
    go_simp
    refine hkQ _ _ ?_
    clear hkQ kQ
    refine wl (by kernel_rfl) fun kQ hkQ => ?_
    go_simp
    refine hkQ _ _ ?_
    clear hkQ kQ
    refine wpList_nil ?_
    go_upto_region 3 with fail
    refine wp_region_lit ?_
    refine wl (by kernel_rfl) fun kQ hkQ => ?_
    go_simp
    refine hkQ _ _ ?_
    clear hkQ kQ
    refine wl (by kernel_rfl) fun kQ hkQ => ?_
    go_simp
    refine hkQ _ _ ?_
    clear hkQ kQ
    refine wl_store (by kernel_rfl) 28 (.tmp 20) (.tmp 19) rfl 1 rfl 5 rfl [v.v] (opC k n oo c p v.v) (pt_O5 k n oo c p sb.v v.v) rfl Tryz.j1s (one_one rfl) hS ?_
    clear hS
    intro w4 hS
    change Hs17 w [(g2, 30, (opC 0 0 0 0 0 (.slice none 0 0))), (g1, 30, (opC k n oo c p v.v))] (fun w9 => (fun _ => True) w9 ∧ Ou w9 w.heap.size v.v v.xs) w4 at hS
    simp [Act.put]
    refine wpList_nil ?_
    go_upto_region 4 with fail
    refine wp_region_lit ?_
    refine wl_load (by kernel_rfl) 30 (.tmp 3) rfl 1 rfl 0 rfl (opC k n oo c p v.v) (At.self _) Tryz.underlying30 rfl (sz_O _ _ _ _ _ _) hS ?_
    simp [Act.put]
    refine wl (by kernel_rfl) fun kQ hkQ => ?_
    go_simp
    refine hkQ _ _ ?_
    clear hkQ kQ
    refine wl_store (by kernel_rfl) 30 (.tmp 6) (.tmp 21) rfl 0 rfl 0 rfl (opC k n oo c p v.v) (opC k n oo c p v.v) (pt_O 0 0 0 0 0 (.slice none 0 0) k n oo c p v.v) rfl (sz_O _ _ _ _ _ _) (one_O _ _ _ _ _ rfl) hS ?_
    clear hS
    intro w5 hS
    change Hs17 w [(g2, 30, (opC k n oo c p v.v)), (g1, 30, (opC k n oo c p v.v))] (fun w9 => (fun _ => True) w9 ∧ Ou w9 w.heap.size v.v v.xs) w5 at hS
    simp [Act.put]
    refine wl (by kernel_rfl) fun kQ hkQ => ?_
    go_simp
    refine hkQ _ _ ?_
    clear hkQ kQ
    refine wpList_nil ?_
    go_wp2_with fail
    refine bodyPost_ret (res_ct rfl hS 0 rfl rfl Tryz.underlying30 rfl (sz_O _ _ _ _ _ _) (_) rfl ) rfl ?_
    refine ⟨⟨k, n, oo, c, p, v.xs⟩, v, by rw [unhide HP]; cases R <;> rfl, fun o2 h => ?_, rfl, .inr hS.K.2, hS.bel⟩
    rw [unhide HP] at h
    cases hq : R with
    | none => rw [hq] at h; cases h
    | some b =>
      rw [hq] at h
      simp only [Option.map_some, Option.some.injEq] at h
      have hv := unhide HVX
      rw [hq] at hv
      rw [← h, hv]; rfl
  by_cases h78 : l = 78
  · subst h78
    obtain ⟨R, hR⟩ : ∃ R, wholeL (strL s) = R := ⟨_, rfl⟩
    obtain ⟨N, hN⟩ : ∃ N, R.getD 0 = N := ⟨_, rfl⟩
    obtain ⟨q, hq⟩ : ∃ q, R.isSome = q := ⟨_, rfl⟩
    have HP : Hid (putL ⟨k, n, oo, c, p, sb.xs⟩ 78 (strL s) = R.map (fun N => ⟨k, N, oo, c, p, sb.xs⟩)) := hide (by unfold putL; rw [if_neg (by omega), hR]; rfl)
    have HR := hide hR
    have HN := hide hN
    have HQ := hide hq
    clear hR hN hq h66
    go_enter Tryz.func26, Tryz.ntmps26
    go_upto_region 0 with fail
    refine wp_region_lit ?_
    refine wl_box (by kernel_rfl) 30 (.tmp 0) rfl (opC k n oo c p sb.v) rfl hS ?_
    clear hS
    intro g1 w1 hS
    simp [Act.put]
    refine wl_alloc (by kernel_rfl) 30 rfl (opC 0 0 0 0 0 (.slice none 0 0)) Tryz.inO hS ?_
    clear hS
    intro g2 w2 hS
    simp [Act.put]
    refine wl (by kernel_rfl) fun kQ hkQ => ?_
    go_simp
    refine hkQ _ _ ?_
    clear hkQ kQ
    refine wpList_nil ?_
    go_upto_region 1 with fail
    refine wp_region_lit ?_
    refine wl (by kernel_rfl) fun kQ hkQ => ?_
    go_simp
    refine hkQ _ _ ?_
    clear hkQ kQ
    refine wl (by kernel_rfl) fun kQ hkQ => ?_
    go_simp
    refine hkQ _ _ ?_
    clear hkQ kQ
    refine wpList_nil ?_
    go_upto_region 5 with fail
    refine wp_region_lit ?_
    refine wl (by kernel_rfl) fun kQ hkQ => ?_
    go_simp
    refine hkQ _ _ ?_
    clear hkQ kQ
    refine wl (by kernel_rfl) fun kQ hkQ => ?_
    go_simp
    refine (refwh_any s _ hs).mono ?_
    rintro e w3 ⟨rfl, hb1⟩
    replace hS := hS.later hb1
    refine hkQ _ _ ?_
    clear hkQ kQ hb1
    rw [unhide HR, unhide HN, unhide HQ]
    refine wl (by kernel_rfl) fun kQ hkQ => ?_
    go_simp
    refine hkQ _ _ ?_
    clear hkQ kQ
    refine wl (by kernel_rfl) fun kQ hkQ => ?_
    go_simp
    refine hkQ _ _ ?_
    clear hkQ kQ
    refine wl (by kernel_rfl) fun kQ hkQ => ?_
    go_simp
    refine hkQ _ _ ?_
    clear hkQ kQ
    refine wl (by kernel_rfl) fun kQ hkQ => ?_
    go_simp
    refine hkQ _ _ ?_
    clear hkQ kQ
    refine wl (by kernel_rfl) fun kQ hkQ => ?_
    go_simp
    refine hkQ _ _ ?_
    clear hkQ kQ
    refine wpList_nil ?_
    go_upto_region 6 with fail
    refine wp_region_lit ?_
    refine wl (by kernel_rfl) fun kQ hkQ => ?_
    go_simp
    refine hkQ _ _ ?_
    clear hkQ kQ
    refine wpList_nil ?_
    go_upto_region 7 with fail
    refine wp_region_lit ?_
    refine wl (by kernel_rfl) fun kQ hkQ => ?_
    go_simp
    refine hkQ _ _ ?_
    clear hkQ kQ
    refine wl (by kernel_rfl) fun kQ hkQ => ?_
    go_simp
    refine hkQ _ _ ?_
    clear hkQ kQ
    refine wpList_nil ?_
    go_upto_region 8 with fail
    refine wp_region_lit ?_
    refine wl (by kernel_rfl) fun kQ hkQ => ?_
    go_simp
    refine hkQ _ _ ?_
    clear hkQ kQ
    refine wl (by kernel_rfl) fun kQ hkQ => ?_
    go_simp
    refine hkQ _ _ ?_
    clear hkQ kQ
    refine wl_store (by kernel_rfl) 3 (.tmp 32) (.tmp 31) rfl 1 rfl 1 rfl [.int .i64 N] (opC k N oo c p sb.v) (pt_O1 k n oo c p sb.v N) rfl Tryz.j1i (one_one rfl) hS ?_
    clear hS
    intro w4 hS
    change Hs17 w [(g2, 30, (opC 0 0 0 0 0 (.slice none 0 0))), (g1, 30, (opC k N oo c p sb.v))] (fun _ => True) w4 at hS
    simp [Act.put]
    refine wpList_nil ?_
    go_upto_region 15 with fail
    refine wp_region_lit ?_
    refine wl_load (by kernel_rfl) 30 (.tmp 3) rfl 1 rfl 0 rfl (opC k N oo c p sb.v) (At.self _) Tryz.underlying30 rfl (sz_O _ _ _ _ _ _) hS ?_
    simp [Act.put]
    refine wl (by kernel_rfl) fun kQ hkQ => ?_
    go_simp
    refine hkQ _ _ ?_
    clear hkQ kQ
    refine wl_store (by kernel_rfl) 30 (.tmp 6) (.tmp 45) rfl 0 rfl 0 rfl (opC k N oo c p sb.v) (opC k N oo c p sb.v) (pt_O 0 0 0 0 0 (.slice none 0 0) k N oo c p sb.v) rfl (sz_O _ _ _ _ _ _) (one_O _ _ _ _ _ rfl) hS ?_
    clear hS
    intro w5 hS
    change Hs17 w [(g2, 30, (opC k N oo c p sb.v)), (g1, 30, (opC k N oo c p sb.v))] (fun _ => True) w5 at hS
    simp [Act.put]
    refine wl (by kernel_rfl) fun kQ hkQ => ?_
    go_simp
    refine hkQ _ _ ?_
    clear hkQ kQ
    refine wpList_nil ?_
    go_wp2_with fail
    refine bodyPost_ret (res_ct rfl hS 0 rfl rfl Tryz.underlying30 rfl (sz_O _ _ _ _ _ _) (_) rfl ) rfl ?_
    refine ⟨⟨k, N, oo, c, p, sb.xs⟩, sb, by rw [unhide HP, Option.isSome_map, unhide HQ]; rfl, fun o2 h => ?_, rfl, .inl rfl, hS.bel⟩
    rw [unhide HP] at h
    have hN := unhide HN
    cases hq : R with
    | none => rw [hq] at h; cases h
    | some b =>
      rw [hq] at h hN
      simp only [Option.map_some, Option.some.injEq] at h
      have hN' : b = N := hN
      rw [← h, hN']
  by_cases h79 : l = 79
  · subst h79
    obtain ⟨R, hR⟩ : ∃ R, wholeL (strL s) = R := ⟨_, rfl⟩
    obtain ⟨N, hN⟩ : ∃ N, R.getD 0 = N := ⟨_, rfl⟩
    obtain ⟨q, hq⟩ : ∃ q, R.isSome = q := ⟨_, rfl⟩
    have HP : Hid (putL ⟨k, n, oo, c, p, sb.xs⟩ 79 (strL s) = R.map (fun N => ⟨k, n, N, c, p, sb.xs⟩)) := hide (by unfold putL; rw [if_neg (by omega), hR]; rfl)
    have HR := hide hR
    have HN := hide hN
    have HQ := hide hq
    clear hR hN hq h66
    go_enter Tryz.func26, Tryz.ntmps26
    go_upto_region 0 with fail
    refine wp_region_lit ?_
    refine wl_box (by kernel_rfl) 30 (.tmp 0) rfl (opC k n oo c p sb.v) rfl hS ?_
    clear hS
    intro g1 w1 hS
    simp [Act.put]
    refine wl_alloc (by kernel_rfl) 30 rfl (opC 0 0 0 0 0 (.slice none 0 0)) Tryz.inO hS ?_
    clear hS
    intro g2 w2 hS
    simp [Act.put]
    refine wl (by kernel_rfl) fun kQ hkQ => ?_
    go_simp
    refine hkQ _ _ ?_
    clear hkQ kQ
    refine wpList_nil ?_
    go_upto_region 1 with fail
    refine wp_region_lit ?_
    refine wl (by kernel_rfl) fun kQ hkQ => ?_
    go_simp
    refine hkQ _ _ ?_
    clear hkQ kQ
    refine wl (by kernel_rfl) fun kQ hkQ => ?_
    go_simp
    refine hkQ _ _ ?_
    clear hkQ kQ
    refine wpList_nil ?_
    go_upto_region 5 with fail
    refine wp_region_lit ?_
    refine wl (by kernel_rfl) fun kQ hkQ => ?_
    go_simp
    refine hkQ _ _ ?_
    clear hkQ kQ
    refine wl (by kernel_rfl) fun kQ hkQ => ?_
    go_simp
    refine (refwh_any s _ hs).mono ?_
    rintro e w3 ⟨rfl, hb1⟩
    replace hS := hS.later hb1
    refine hkQ _ _ ?_
    clear hkQ kQ hb1
    rw [unhide HR, unhide HN, unhide HQ]
    refine wl (by kernel_rfl) fun kQ hkQ => ?_
    go_simp
    refine hkQ _ _ ?_
    clear hkQ kQ
    refine wl (by kernel_rfl) fun kQ hkQ => ?_
    go_simp
    refine hkQ _ _ ?_
    clear hkQ kQ
    refine wl (by kernel_rfl) fun kQ hkQ => ?_
    go_simp
    refine hkQ _ _ ?_
    clear hkQ kQ
    refine wl (by kernel_rfl) fun kQ hkQ => ?_
    go_simp
    refine hkQ _ _ ?_
    clear hkQ kQ
    refine wl (by kernel_rfl) fun kQ hkQ => ?_
    go_simp
    refine hkQ _ _ ?_
    clear hkQ kQ
    refine wpList_nil ?_
    go_upto_region 6 with fail
    refine wp_region_lit ?_
    refine wl (by kernel_rfl) fun kQ hkQ => ?_
    go_simp
    refine hkQ _ _ ?_
    clear hkQ kQ
    refine wpList_nil ?_
    go_upto_region 7 with fail
    refine wp_region_lit ?_
    refine wl (by kernel_rfl) fun kQ hkQ => ?_
    go_simp
    refine hkQ _ _ ?_
    clear hkQ kQ
    refine wl (by kernel_rfl) fun kQ hkQ => ?_
    go_simp
    refine hkQ _ _ ?_
    clear hkQ kQ
    refine wpList_nil ?_
    go_upto_region 9 with fail
    refine wp_region_lit ?_
    refine wl (by kernel_rfl) fun kQ hkQ => ?_
    go_simp
    refine hkQ _ _ ?_
    clear hkQ kQ
    refine wl (by kernel_rfl) fun kQ hkQ => ?_
    go_simp
    refine hkQ _ _ ?_
    clear hkQ kQ
    refine wpList_nil ?_
    go_upto_region 10 with fail
    refine wp_region_lit ?_
    refine wl (by kernel_rfl) fun kQ hkQ => ?_
    go_simp
    refine hkQ _ _ ?_
    clear hkQ kQ
    refine wl (by kernel_rfl) fun kQ hkQ => ?_
    go_simp
    refine hkQ _ _ ?_
    clear hkQ kQ
    refine wl_store (by kernel_rfl) 3 (.tmp 36) (.tmp 35) rfl 1 rfl 2 rfl [.int .i64 N] (opC k n N c p sb.v) (pt_O2 k n oo c p sb.v N) rfl Tryz.j1i (one_one rfl) hS ?_
    clear hS
    intro w4 hS
    change Hs17 w [(g2, 30, (opC 0 0 0 0 0 (.slice none 0 0))), (g1, 30, (opC k n N c p sb.v))] (fun _ => True) w4 at hS
    simp [Act.put]
    refine wpList_nil ?_
    go_upto_region 15 with fail
    refine wp_region_lit ?_
    refine wl_load (by kernel_rfl) 30 (.tmp 3) rfl 1 rfl 0 rfl (opC k n N c p sb.v) (At.self _) Tryz.underlying30 rfl (sz_O _ _ _ _ _ _) hS ?_
    simp [Act.put]
    refine wl (by kernel_rfl) fun kQ hkQ => ?_
    go_simp
    refine hkQ _ _ ?_
    clear hkQ kQ
    refine wl_store (by kernel_rfl) 30 (.tmp 6) (.tmp 45) rfl 0 rfl 0 rfl (opC k n N c p sb.v) (opC k n N c p sb.v) (pt_O 0 0 0 0 0 (.slice none 0 0) k n N c p sb.v) rfl (sz_O _ _ _ _ _ _) (one_O _ _ _ _ _ rfl) hS ?_
    clear hS
    intro w5 hS
    change Hs17 w [(g2, 30, (opC k n N c p sb.v)), (g1, 30, (opC k n N c p sb.v))] (fun _ => True) w5 at hS
    simp [Act.put]
    refine wl (by kernel_rfl) fun kQ hkQ => ?_
    go_simp
    refine hkQ _ _ ?_
    clear hkQ kQ
    refine wpList_nil ?_
    go_wp2_with fail
    refine bodyPost_ret (res_ct rfl hS 0 rfl rfl Tryz.underlying30 rfl (sz_O _ _ _ _ _ _) (_) rfl ) rfl ?_
    refine ⟨⟨k, n, N, c, p, sb.xs⟩, sb, by rw [unhide HP, Option.isSome_map, unhide HQ]; rfl, fun o2 h => ?_, rfl, .inl rfl, hS.bel⟩
    rw [unhide HP] at h
    have hN := unhide HN
    cases hq : R with
    | none => rw [hq] at h; cases h
    | some b =>
      rw [hq] at h hN
      simp only [Option.map_some, Option.some.injEq] at h
      have hN' : b = N := hN
      rw [← h, hN']
  by_cases h67 : l = 67
  · subst h67
    obtain ⟨R, hR⟩ : ∃ R, wholeL (strL s) = R := ⟨_, rfl⟩
    obtain ⟨N, hN⟩ : ∃ N, R.getD 0 = N := ⟨_, rfl⟩
    obtain ⟨q, hq⟩ : ∃ q, R.isSome = q := ⟨_, rfl⟩
    have HP : Hid (putL ⟨k, n, oo, c, p, sb.xs⟩ 67 (strL s) = R.map (fun N => ⟨k, n, oo, N, p, sb.xs⟩)) := hide (by unfold putL; rw [if_neg (by omega), hR]; rfl)
    have HR := hide hR
    have HN := hide hN
    have HQ := hide hq
    clear hR hN hq h66
    go_enter Tryz.func26, Tryz.ntmps26
    go_upto_region 0 with fail
    refine wp_region_lit ?_
    refine wl_box (by kernel_rfl) 30 (.tmp 0) rfl (opC k n oo c p sb.v) rfl hS ?_
    clear hS
    intro g1 w1 hS
    simp [Act.put]
    refine wl_alloc (by kernel_rfl) 30 rfl (opC 0 0 0 0 0 (.slice none 0 0)) Tryz.inO hS ?_
    clear hS
    intro g2 w2 hS
    simp [Act.put]
    refine wl (by kernel_rfl) fun kQ hkQ => ?_
    go_simp
    refine hkQ _ _ ?_
    clear hkQ kQ
    refine wpList_nil ?_
    go_upto_region 1 with fail
    refine wp_region_lit ?_
    refine wl (by kernel_rfl) fun kQ hkQ => ?_
    go_simp
    refine hkQ _ _ ?_
    clear hkQ kQ
    refine wl (by kernel_rfl) fun kQ hkQ => ?_
    go_simp
    refine hkQ _ _ ?_
    clear hkQ kQ
    refine wpList_nil ?_
    go_upto_region 5 with fail
    refine wp_region_lit ?_
    refine wl (by kernel_rfl) fun kQ hkQ => ?_
    go_simp
    refine hkQ _ _ ?_
    clear hkQ kQ
    refine wl (by kernel_rfl) fun kQ hkQ => ?_
    go_simp
    refine (refwh_any s _ hs).mono ?_
    rintro e w3 ⟨rfl, hb1⟩
    replace hS := hS.later hb1
    refine hkQ _ _ ?_
    clear hkQ kQ hb1
    rw [unhide HR, unhide HN, unhide HQ]
    refine wl (by kernel_rfl) fun kQ hkQ => ?_
    go_simp
    refine hkQ _ _ ?_
    clear hkQ kQ
    refine wl (by kernel_rfl) fun kQ hkQ => ?_
    go_simp
    refine hkQ _ _ ?_
    clear hkQ kQ
    refine wl (by kernel_rfl) fun kQ hkQ => ?_
    go_simp
    refine hkQ _ _ ?_
    clear hkQ kQ
    refine wl (by kernel_rfl) fun kQ hkQ => ?_
    go_simp
    refine hkQ _ _ ?_
    clear hkQ kQ
    refine wl (by kernel_rfl) fun kQ hkQ => ?_
    go_simp
    refine hkQ _ _ ?_
    clear hkQ kQ
    refine wpList_nil ?_
    go_upto_region 6 with fail
    refine wp_region_lit ?_
    refine wl (by kernel_rfl) fun kQ hkQ => ?_
    go_simp
    refine hkQ _ _ ?_
    clear hkQ kQ
    refine wpList_nil ?_
    go_upto_region 7 with fail
    refine wp_region_lit ?_
    refine wl (by kernel_rfl) fun kQ hkQ => ?_
    go_simp
    refine hkQ _ _ ?_
    clear hkQ kQ
    refine wl (by kernel_rfl) fun kQ hkQ => ?_
    go_simp
    refine hkQ _ _ ?_
    clear hkQ kQ
    refine wpList_nil ?_
    go_upto_region 9 with fail
    refine wp_region_lit ?_
    refine wl (by kernel_rfl) fun kQ hkQ => ?_
    go_simp
    refine hkQ _ _ ?_
    clear hkQ kQ
    refine wl (by kernel_rfl) fun kQ hkQ => ?_
    go_simp
    refine hkQ _ _ ?_
    clear hkQ kQ
    refine wpList_nil ?_
    go_upto_region 11 with fail
    refine wp_region_lit ?_
    refine wl (by kernel_rfl) fun kQ hkQ => ?_
    go_simp
    refine hkQ _ _ ?_
    clear hkQ kQ
    refine wl (by kernel_rfl) fun kQ hkQ => ?_
    go_simp
    refine hkQ _ _ ?_
    clear hkQ kQ
    refine wpList_nil ?_
    go_upto_region 12 with fail
    refine wp_region_lit ?_
    refine wl (by kernel_rfl) fun kQ hkQ => ?_
    go_simp
    refine hkQ _ _ ?_
    clear hkQ kQ
    refine wl (by kernel_rfl) fun kQ hkQ => ?_
    go_simp
    refine hkQ _ _ ?_
    clear hkQ kQ
    refine wl_store (by kernel_rfl) 3 (.tmp 40) (.tmp 39) rfl 1 rfl 3 rfl [.int .i64 N] (opC k n oo N p sb.v) (pt_O3 k n oo c p sb.v N) rfl Tryz.j1i (one_one rfl) hS ?_
    clear hS
    intro w4 hS
    change Hs17 w [(g2, 30, (opC 0 0 0 0 0 (.slice none 0 0))), (g1, 30, (opC k n oo N p sb.v))] (fun _ => True) w4 at hS
    simp [Act.put]
    refine wpList_nil ?_
    go_upto_region 15 with fail
    refine wp_region_lit ?_
    refine wl_load (by kernel_rfl) 30 (.tmp 3) rfl 1 rfl 0 rfl (opC k n oo N p sb.v) (At.self _) Tryz.underlying30 rfl (sz_O _ _ _ _ _ _) hS ?_
    simp [Act.put]
    refine wl (by kernel_rfl) fun kQ hkQ => ?_
    go_simp
    refine hkQ _ _ ?_
    clear hkQ kQ
    refine wl_store (by kernel_rfl) 30 (.tmp 6) (.tmp 45) rfl 0 rfl 0 rfl (opC k n oo N p sb.v) (opC k n oo N p sb.v) (pt_O 0 0 0 0 0 (.slice none 0 0) k n oo N p sb.v) rfl (sz_O _ _ _ _ _ _) (one_O _ _ _ _ _ rfl) hS ?_
    clear hS
    intro w5 hS
    change Hs17 w [(g2, 30, (opC k n oo N p sb.v)), (g1, 30, (opC k n oo N p sb.v))] (fun _ => True) w5 at hS
    simp [Act.put]
    refine wl (by kernel_rfl) fun kQ hkQ => ?_
    go_simp
    refine hkQ _ _ ?_
    clear hkQ kQ
    refine wpList_nil ?_
    go_wp2_with fail
    refine bodyPost_ret (res_ct rfl hS 0 rfl rfl Tryz.underlying30 rfl (sz_O _ _ _ _ _ _) (_) rfl ) rfl ?_
    refine ⟨⟨k, n, oo, N, p, sb.xs⟩, sb, by rw [unhide HP, Option.isSome_map, unhide HQ]; rfl, fun o2 h => ?_, rfl, .inl rfl, hS.bel⟩
    rw [unhide HP] at h
    have hN := unhide HN
    cases hq : R with
    | none => rw [hq] at h; cases h
    | some b =>
      rw [hq] at h hN
      simp only [Option.map_some, Option.some.injEq] at h
      have hN' : b = N := hN
      rw [← h, hN']
  by_cases h80 : l = 80
  · subst h80
    obtain ⟨R, hR⟩ : ∃ R, wholeL (strL s) = R := ⟨_, rfl⟩
    obtain ⟨N, hN⟩ : ∃ N, R.getD 0 = N := ⟨_, rfl⟩
    obtain ⟨q, hq⟩ : ∃ q, R.isSome = q := ⟨_, rfl⟩
    have HP : Hid (putL ⟨k, n, oo, c, p, sb.xs⟩ 80 (strL s) = R.map (fun N => ⟨k, n, oo, c, N, sb.xs⟩)) := hide (by unfold putL; rw [if_neg (by omega), hR]; rfl)
    have HR := hide hR
    have HN := hide hN
    have HQ := hide hq
    clear hR hN hq h66
    go_enter Tryz.func26, Tryz.ntmps26
    go_upto_region 0 with fail
    refine wp_region_lit ?_
    refine wl_box (by kernel_rfl) 30 (.tmp 0) rfl (opC k n oo c p sb.v) rfl hS ?_
    clear hS
    intro g1 w1 hS
    simp [Act.put]
    refine wl_alloc (by kernel_rfl) 30 rfl (opC 0 0 0 0 0 (.slice none 0 0)) Tryz.inO hS ?_
    clear hS
    intro g2 w2 hS
    simp [Act.put]
    refine wl (by kernel_rfl) fun kQ hkQ => ?_
    go_simp
    refine hkQ _ _ ?_
    clear hkQ kQ
    refine wpList_nil ?_
    go_upto_region 1 with fail
    refine wp_region_lit ?_
    refine wl (by kernel_rfl) fun kQ hkQ => ?_
    go_simp
    refine hkQ _ _ ?_
    clear hkQ kQ
    refine wl (by kernel_rfl) fun kQ hkQ => ?_
    go_simp
    refine hkQ _ _ ?_
    clear hkQ kQ
    refine wpList_nil ?_
    go_upto_region 5 with fail
    refine wp_region_lit ?_
    refine wl (by kernel_rfl) fun kQ hkQ => ?_
    go_simp
    refine hkQ _ _ ?_
    clear hkQ kQ
    refine wl (by kernel_rfl) fun kQ hkQ => ?_
    go_simp
    refine (refwh_any s _ hs).mono ?_
    rintro e w3 ⟨rfl, hb1⟩
    replace hS := hS.later hb1
    refine hkQ _ _ ?_
    clear hkQ kQ hb1
    rw [unhide HR, unhide HN, unhide HQ]
    refine wl (by kernel_rfl) fun kQ hkQ => ?_
    go_simp
    refine hkQ _ _ ?_
    clear hkQ kQ
    refine wl (by kernel_rfl) fun kQ hkQ => ?_
    go_simp
    refine hkQ _ _ ?_
    clear hkQ kQ
    refine wl (by kernel_rfl) fun kQ hkQ => ?_
    go_simp
    refine hkQ _ _ ?_
    clear hkQ kQ
    refine wl (by kernel_rfl) fun kQ hkQ => ?_
    go_simp
    refine hkQ _ _ ?_
    clear hkQ kQ
    refine wl (by kernel_rfl) fun kQ hkQ => ?_
    go_simp
    refine hkQ _ _ ?_
    clear hkQ kQ
    refine wpList_nil ?_
    go_upto_region 6 with fail
    refine wp_region_lit ?_
    refine wl (by kernel_rfl) fun kQ hkQ => ?_
    go_simp
    refine hkQ _ _ ?_
    clear hkQ kQ
    refine wpList_nil ?_
    go_upto_region 7 with fail
    refine wp_region_lit ?_
    refine wl (by kernel_rfl) fun kQ hkQ => ?_
    go_simp
    refine hkQ _ _ ?_
    clear hkQ kQ
    refine wl (by kernel_rfl) fun kQ hkQ => ?_
    go_simp
    refine hkQ _ _ ?_
    clear hkQ kQ
    refine wpList_nil ?_
    go_upto_region 9 with fail
    refine wp_region_lit ?_
    refine wl (by kernel_rfl) fun kQ hkQ => ?_
    go_simp
    refine hkQ _ _ ?_
    clear hkQ kQ
    refine wl (by kernel_rfl) fun kQ hkQ => ?_
    go_simp
    refine hkQ _ _ ?_
    clear hkQ kQ
    refine wpList_nil ?_
    go_upto_region 11 with fail
    refine wp_region_lit ?_
    refine wl (by kernel_rfl) fun kQ hkQ => ?_
    go_simp
    refine hkQ _ _ ?_
    clear hkQ kQ
    refine wl (by kernel_rfl) fun kQ hkQ => ?_
    go_simp
    refine hkQ _ _ ?_
    clear hkQ kQ
    refine wpList_nil ?_
    go_upto_region 13 with fail
    refine wp_region_lit ?_
    refine wl (by kernel_rfl) fun kQ hkQ => ?_
    go_simp
    refine hkQ _ _ ?_
    clear hkQ kQ
    refine wl (by kernel_rfl) fun kQ hkQ => ?_
    go_simp
    refine hkQ _ _ ?_
    clear hkQ kQ
    refine wpList_nil ?_
    go_upto_region 14 with fail
    refine wp_region_lit ?_
    refine wl (by kernel_rfl) fun kQ hkQ => ?_
    go_simp
    refine hkQ _ _ ?_
    clear hkQ kQ
    refine wl (by kernel_rfl) fun kQ hkQ => ?_
    go_simp
    refine hkQ _ _ ?_
    clear hkQ kQ
    refine wl_store (by kernel_rfl) 2 (.tmp 44) (.tmp 43) rfl 1 rfl 4 rfl [.int .i64 N] (opC k n oo c N sb.v) (pt_O4 k n oo c p sb.v N) rfl Tryz.j1l (one_one rfl) hS ?_
    clear hS
    intro w4 hS
    change Hs17 w [(g2, 30, (opC 0 0 0 0 0 (.slice none 0 0))), (g1, 30, (opC k n oo c N sb.v))] (fun _ => True) w4 at hS
    simp [Act.put]
    refine wpList_nil ?_
    go_upto_region 15 with fail
    refine wp_region_lit ?_
    refine wl_load (by kernel_rfl) 30 (.tmp 3) rfl 1 rfl 0 rfl (opC k n oo c N sb.v) (At.self _) Tryz.underlying30 rfl (sz_O _ _ _ _ _ _) hS ?_
    simp [Act.put]
    refine wl (by kernel_rfl) fun kQ hkQ => ?_
    go_simp
    refine hkQ _ _ ?_
    clear hkQ kQ
    refine wl_store (by kernel_rfl) 30 (.tmp 6) (.tmp 45) rfl 0 rfl 0 rfl (opC k n oo c N sb.v) (opC k n oo c N sb.v) (pt_O 0 0 0 0 0 (.slice none 0 0) k n oo c N sb.v) rfl (sz_O _ _ _ _ _ _) (one_O _ _ _ _ _ rfl) hS ?_
    clear hS
    intro w5 hS
    change Hs17 w [(g2, 30, (opC k n oo c N sb.v)), (g1, 30, (opC k n oo c N sb.v))] (fun _ => True) w5 at hS
    simp [Act.put]
    refine wl (by kernel_rfl) fun kQ hkQ => ?_
    go_simp
    refine hkQ _ _ ?_
    clear hkQ kQ
    refine wpList_nil ?_
    go_wp2_with fail
    refine bodyPost_ret (res_ct rfl hS 0 rfl rfl Tryz.underlying30 rfl (sz_O _ _ _ _ _ _) (_) rfl ) rfl ?_
    refine ⟨⟨k, n, oo, c, N, sb.xs⟩, sb, by rw [unhide HP, Option.isSome_map, unhide HQ]; rfl, fun o2 h => ?_, rfl, .inl rfl, hS.bel⟩
    rw [unhide HP] at h
    have hN := unhide HN
    cases hq : R with
    | none => rw [hq] at h; cases h
    | some b =>
      rw [hq] at h hN
      simp only [Option.map_some, Option.some.injEq] at h
      have hN' : b = N := hN
      rw [← h, hN']
  unfold okLt at hl
  omega
end Go.Proofs.YtdcaojiiaocnaaaGreatDoor
