import Derived.Test.YtjdgibnpngkhkaaDoorLgH
import Derived.Test.YtjdgibnpngkhkaaDoorLgI
import Derived.Test.YtjdgibnpngkhkaaDoorFeM
import Derived.Deep.DeepCutAuto
import Derived.Deep.QuietTactic
import Derived.BigQuiet
set_option linter.unusedSimpArgs false
set_option linter.unusedVariables false
namespace Go.Proofs.YtjdgibnpngkhkaaDoor
open Go.RowKit


/-! Books compared; a slice of calls or of sales in memory. -/
theorem feq_i3 (d : Nat) : Feq Tryd.prog (d + 1 + 1) 25 [some .i64, some .i64, some .i64] := by
  refine ⟨_, Tryd.underlying25, by show _ = some 3; kernel_rfl, fun h => by simp [TypeDesc.isRow] at h, fun c c' w q hc hc' hq => ?_⟩
  match c, c', hc, hc' with
  | [a1, a2, a3], [b1, b2, b3], hc, hc' =>
    obtain ⟨x1, rfl⟩ := hc.1
    obtain ⟨x2, rfl⟩ := hc.2.1
    obtain ⟨x3, rfl⟩ := hc.2.2.1
    obtain ⟨y1, rfl⟩ := hc'.1
    obtain ⟨y2, rfl⟩ := hc'.2.1
    obtain ⟨y3, rfl⟩ := hc'.2.2.1
    have := run_eqB (P := Tryd.prog) d Tryd.underlying25 Tryd.underlying2 Tryd.in1l [x1, x2, x3] [y1, y2, y3] rfl rfl w
    show (Op.equalIn (d + 1 + 1) 25 (.agg ([x1, x2, x3].map (Value.int .i64)).toArray) (.agg ([y1, y2, y3].map (Value.int .i64)).toArray)).run Tryd.prog w = _
    rw [this]
    congr 1
    exact bool_iff (p := [x1, x2, x3] = [y1, y2, y3]) (by simp) (hq.trans (by simp))
theorem fqK (d : Nat) : Feq Tryd.prog (d + 1 + 1 + 1) 27 [[some .i64, some .i64, some .i64]].flatten :=
  feq_struct Tryd.underlying27 (by kernel_rfl) (by show _ = some 3; kernel_rfl) ⟨by decide, rfl, feq_i3 d, trivial⟩
theorem wtK (x : Bk) : Wt [[some .i64, some .i64, some .i64]].flatten (bkC x) := ⟨⟨_, rfl⟩, ⟨_, rfl⟩, ⟨_, rfl⟩, trivial⟩
theorem eqK (x : Bk) (w : World) : (Op.equalIn 10000 27 (aV (bkC x)) (aV (bkC x))).run Tryd.prog w = .ok true w :=
  (fqK 9997).row Tryd.underlying27 rfl (wtK x) (wtK x) (by simp) w
theorem zk_ok : Bk.Ok ⟨0, 0, 0⟩ := by unfold Bk.Ok Iz; simp
theorem Tryd.egK : Tryd.prog.eqGuardType Tryd.prog.depth 27 = false := by kernel_rfl
set_option maxHeartbeats 4000000 in
set_option maxRecDepth 100000 in
theorem exact22_law (x : Bk) (s : Sx Op22) (w : World) (hx : x.Ok) (hs : s.Ok opC 7 w) (hso : ∀ o ∈ s.xs, o.Ok) (hL : Dl w) :
    Calls Tryd.prog 5 #[aV (bkC x), s.v] w fun e w' => e = .returned (.bool true) ∧ Below w.heap.size w w' := by
  obtain ⟨sa, sn, sc, sx⟩ := s
  have HL := hide hs.len
  have hsm : sn ≤ 9223372036854775807 := by have h1 := hs.le; have h2 := hs.mx; unfold maxLen at h2; simp only at h1 h2; omega
  have hS := Hs17.begin w (fun w' => Dl w' ∧ Sx.Ok opC 7 w' ⟨sa, sn, sc, sx⟩) (fun w' ho => ⟨hL.old ho, hs.old ho⟩)
  have hE0 : ∀ v, Dl v → Calls Tryd.prog 6 #[aV (bkC ⟨0, 0, 0⟩)] v fun e w' => e = .returned (.bool true) ∧ Below v.heap.size v w' := fun v hv => even_any ⟨0, 0, 0⟩ v zk_ok hv
  simp only [Sx.v]
  clear hs hL
  go_enter Tryd.func5, Tryd.ntmps5
  go_upto_region 0 with fail
  refine wp_region_lit ?_
  refine wl_box (by kernel_rfl) 27 (.tmp 0) rfl (bkC x) rfl hS ?_
  clear hS
  intro g1 w1 hS
  simp [Act.put]
  refine wl (by kernel_rfl) fun kQ hkQ => ?_
  go_simp
  refine hkQ _ _ ?_
  clear hkQ kQ
  refine wpList_nil ?_
  go_upto_region 1 with fail
  refine wp_region_lit ?_
  refine wv (aV (bkC (⟨0, 0, 0⟩ : Bk))) (by kernel_rfl) (ex_build 27 #[] rfl (bkC (⟨0, 0, 0⟩ : Bk)) b_k0 rfl) ?_
  simp [Act.put]
  refine wl (by kernel_rfl) fun kQ hkQ => ?_
  go_simp
  refine (hE0 _ hS.K.1).mono ?_
  rintro e w2 ⟨rfl, hb1⟩
  replace hS := hS.later hb1
  refine hkQ _ _ ?_
  clear hkQ kQ hb1
  refine wl (by kernel_rfl) fun kQ hkQ => ?_
  go_simp
  refine hkQ _ _ ?_
  clear hkQ kQ
  refine wpList_nil ?_
  clear hE0
  go_wp2_with fail
  go_loopw [5] (fun i wr => ∃ (k : Nat) (y : Bk), k ≤ sn ∧ i = .int .i64 k ∧ Hid y.Ok ∧ Hs17 w [(g1, 27, bkC y)] (fun w' => Dl w' ∧ Sx.Ok opC 7 w' ⟨sa, sn, sc, sx⟩) wr) (fun i _ => sn - (intOf i).toNat)
  case atStart => exact ⟨0, x, by omega, rfl, hide hx, hS⟩
  case round =>
    clear hS hx
    obtain ⟨k, y, hk, rfl, HY, hS⟩ := hrel
    by_cases hlt : k < sn
    · obtain ⟨o, ho⟩ : ∃ o, sx[k]? = some o := ⟨_, List.getElem?_eq_getElem (by have := unhide HL; omega)⟩
      obtain ⟨b, off, hsa, hbs, hrg⟩ := hS.K.2.at_ (i := k) ho
      simp only at hsa
      subst hsa
      have hoo := hso o (List.mem_of_getElem? ho)
      have hkz : (k : Int) < (sn : Int) := by omega
      have hM := fun v hv => mine_any y o v (unhide HY) hoo hv
      have hW := fun v => wanted_any y o v (unhide HY) hoo
      have hA := fun v hv => asks_any (opZ y o).1 o v (opZ_ok (unhide HY)) hv
      have HZ := hide (opZ_ok (o := o) (unhide HY))
      obtain ⟨⟨zb, ze⟩, hz⟩ : ∃ z : Bk × Int, opZ y o = z := ⟨_, rfl⟩
      rw [hz] at hM hW hA HZ
      simp only at hM hW hA HZ
      clear hz hbs ho hoo HY
      go_upto_region 6 with fail
      refine wp_region_lit ?_
      refine wl (by kernel_rfl) fun kQ hkQ => ?_
      go_simp
      refine hkQ _ _ ?_
      clear hkQ kQ
      refine wl (by kernel_rfl) fun kQ hkQ => ?_
      go_simp
      refine hkQ _ _ ?_
      clear hkQ kQ
      refine wl (by kernel_rfl) fun kQ hkQ => ?_
      go_simp
      refine hkQ _ _ ?_
      clear hkQ kQ
      refine wv (aV (opC o)) (by kernel_rfl) (ex_loadR 23 (.tmp 22) rfl (b) (off + k * 7) rfl (opC o) hrg Tryd.underlying23 rfl (sz_O _)) ?_
      simp [Act.put]
      refine wl_alloc (by kernel_rfl) 23 rfl (opC (⟨0, 0, 0, 0, 0, 0, 0⟩ : Op22)) Tryd.inO hS ?_
      clear hS
      intro g21 w21 hS
      simp [Act.put]
      refine wl_store (by kernel_rfl) 23 (.tmp 6) (.tmp 23) rfl 0 rfl 0 rfl (opC o) (opC o) (pt_O (⟨0, 0, 0, 0, 0, 0, 0⟩ : Op22) o) rfl (sz_O _) (one_O _) hS ?_
      clear hS
      intro w22 hS
      change Hs17 w [(g21, 23, (opC o)), (g1, 27, (bkC y))] (fun w' => Dl w' ∧ Sx.Ok opC 7 w' ⟨(some ⟨b, off, none⟩), sn, sc, sx⟩) w22 at hS
      simp [Act.put]
      refine wpList_nil ?_
      clear hrg hkz
      go_upto_region 7 with fail
      refine wp_region_lit ?_
      refine wl_load (by kernel_rfl) 27 (.tmp 2) rfl 1 rfl 0 rfl (bkC y) (At.self _) Tryd.underlying27 rfl (sz_K _) hS ?_
      simp [Act.put]
      refine wl_load (by kernel_rfl) 23 (.tmp 6) rfl 0 rfl 0 rfl (opC o) (At.self _) Tryd.underlying23 rfl (sz_O _) hS ?_
      simp [Act.put]
      refine wl (by kernel_rfl) fun kQ hkQ => ?_
      go_simp
      refine (hM _ hS.K.1).mono ?_
      rintro e w23 ⟨rfl, hb1⟩
      replace hS := hS.later hb1
      refine hkQ _ _ ?_
      clear hkQ kQ hb1
      refine wl (by kernel_rfl) fun kQ hkQ => ?_
      go_simp
      refine hkQ _ _ ?_
      clear hkQ kQ
      refine wl (by kernel_rfl) fun kQ hkQ => ?_
      go_simp
      refine hkQ _ _ ?_
      clear hkQ kQ
      refine wl (by kernel_rfl) fun kQ hkQ => ?_
      go_simp
      refine hkQ _ _ ?_
      clear hkQ kQ
      refine wl_alloc (by kernel_rfl) 27 rfl (bkC (⟨0, 0, 0⟩ : Bk)) Tryd.inK hS ?_
      clear hS
      intro g24 w24 hS
      simp [Act.put]
      refine wl_store (by kernel_rfl) 27 (.tmp 7) (.tmp 28) rfl 0 rfl 0 rfl (bkC zb) (bkC zb) (pt_K (⟨0, 0, 0⟩ : Bk) zb) rfl (sz_K _) (one_K _) hS ?_
      clear hS
      intro w25 hS
      change Hs17 w [(g24, 27, (bkC zb)), (g21, 23, (opC o)), (g1, 27, (bkC y))] (fun w' => Dl w' ∧ Sx.Ok opC 7 w' ⟨(some ⟨b, off, none⟩), sn, sc, sx⟩) w25 at hS
      simp [Act.put]
      refine wl (by kernel_rfl) fun kQ hkQ => ?_
      go_simp
      refine hkQ _ _ ?_
      clear hkQ kQ
      refine wpList_nil ?_
      go_upto_region 8 with fail
      refine wp_region_lit ?_
      refine wl_load (by kernel_rfl) 27 (.tmp 2) rfl 2 rfl 0 rfl (bkC y) (At.self _) Tryd.underlying27 rfl (sz_K _) hS ?_
      simp [Act.put]
      refine wl_load (by kernel_rfl) 23 (.tmp 6) rfl 1 rfl 0 rfl (opC o) (At.self _) Tryd.underlying23 rfl (sz_O _) hS ?_
      simp [Act.put]
      refine wl (by kernel_rfl) fun kQ hkQ => ?_
      go_simp
      refine (hW _).mono ?_
      rintro e w26 ⟨rfl, hb1⟩
      replace hS := hS.later hb1
      refine hkQ _ _ ?_
      clear hkQ kQ hb1
      refine wl (by kernel_rfl) fun kQ hkQ => ?_
      go_simp
      refine hkQ _ _ ?_
      clear hkQ kQ
      refine wl (by kernel_rfl) fun kQ hkQ => ?_
      go_simp
      refine hkQ _ _ ?_
      clear hkQ kQ
      refine wl (by kernel_rfl) fun kQ hkQ => ?_
      go_simp
      refine hkQ _ _ ?_
      clear hkQ kQ
      refine wl_alloc (by kernel_rfl) 27 rfl (bkC (⟨0, 0, 0⟩ : Bk)) Tryd.inK hS ?_
      clear hS
      intro g27 w27 hS
      simp [Act.put]
      refine wl_store (by kernel_rfl) 27 (.tmp 9) (.tmp 34) rfl 0 rfl 0 rfl (bkC zb) (bkC zb) (pt_K (⟨0, 0, 0⟩ : Bk) zb) rfl (sz_K _) (one_K _) hS ?_
      clear hS
      intro w28 hS
      change Hs17 w [(g27, 27, (bkC zb)), (g24, 27, (bkC zb)), (g21, 23, (opC o)), (g1, 27, (bkC y))] (fun w' => Dl w' ∧ Sx.Ok opC 7 w' ⟨(some ⟨b, off, none⟩), sn, sc, sx⟩) w28 at hS
      simp [Act.put]
      refine wl (by kernel_rfl) fun kQ hkQ => ?_
      go_simp
      refine hkQ _ _ ?_
      clear hkQ kQ
      refine wpList_nil ?_
      clear hM hW
      go_upto_region 9 with fail
      refine wp_region_lit ?_
      refine wl_load (by kernel_rfl) 27 (.tmp 7) rfl 1 rfl 0 rfl (bkC zb) (At.self _) Tryd.underlying27 rfl (sz_K _) hS ?_
      simp [Act.put]
      refine wl_load (by kernel_rfl) 27 (.tmp 9) rfl 0 rfl 0 rfl (bkC zb) (At.self _) Tryd.underlying27 rfl (sz_K _) hS ?_
      simp [Act.put]
      refine wv (.bool (!true)) (by kernel_rfl) (ex_neq 27 (.tmp 36) (.tmp 37) rfl (bkC zb) (bkC zb) rfl rfl true (eqK zb _) Tryd.egK) ?_
      simp [Act.put]
      refine wl (by kernel_rfl) fun kQ hkQ => ?_
      go_simp
      refine hkQ _ _ ?_
      clear hkQ kQ
      refine wl (by kernel_rfl) fun kQ hkQ => ?_
      go_simp
      refine hkQ _ _ ?_
      clear hkQ kQ
      refine wl (by kernel_rfl) fun kQ hkQ => ?_
      go_simp
      refine hkQ _ _ ?_
      clear hkQ kQ
      refine wl (by kernel_rfl) fun kQ hkQ => ?_
      go_simp
      refine hkQ _ _ ?_
      clear hkQ kQ
      refine wl (by kernel_rfl) fun kQ hkQ => ?_
      go_simp
      refine hkQ _ _ ?_
      clear hkQ kQ
      refine wl (by kernel_rfl) fun kQ hkQ => ?_
      go_simp
      refine hkQ _ _ ?_
      clear hkQ kQ
      refine wl_load (by kernel_rfl) 27 (.tmp 9) rfl 0 rfl 0 rfl (bkC zb) (At.self _) Tryd.underlying27 rfl (sz_K _) hS ?_
      simp [Act.put]
      refine wl_load (by kernel_rfl) 23 (.tmp 6) rfl 2 rfl 0 rfl (opC o) (At.self _) Tryd.underlying23 rfl (sz_O _) hS ?_
      simp [Act.put]
      refine wl (by kernel_rfl) fun kQ hkQ => ?_
      go_simp
      refine (hA _ hS.K.1).mono ?_
      rintro e w29 ⟨rfl, hb1⟩
      replace hS := hS.later hb1
      refine hkQ _ _ ?_
      clear hkQ kQ hb1
      refine wl (by kernel_rfl) fun kQ hkQ => ?_
      go_simp
      refine hkQ _ _ ?_
      clear hkQ kQ
      refine wl (by kernel_rfl) fun kQ hkQ => ?_
      go_simp
      refine hkQ _ _ ?_
      clear hkQ kQ
      refine wpList_nil ?_
      clear hA
      go_upto_region 11 with fail
      refine wp_region_lit ?_
      refine wl_load (by kernel_rfl) 27 (.tmp 9) rfl 0 rfl 0 rfl (bkC zb) (At.self _) Tryd.underlying27 rfl (sz_K _) hS ?_
      simp [Act.put]
      refine wl_store (by kernel_rfl) 27 (.tmp 2) (.tmp 50) rfl 3 rfl 0 rfl (bkC zb) (bkC zb) (pt_K y zb) rfl (sz_K _) (one_K _) hS ?_
      clear hS
      intro w30 hS
      change Hs17 w [(g27, 27, (bkC zb)), (g24, 27, (bkC zb)), (g21, 23, (opC o)), (g1, 27, (bkC zb))] (fun w' => Dl w' ∧ Sx.Ok opC 7 w' ⟨(some ⟨b, off, none⟩), sn, sc, sx⟩) w30 at hS
      simp [Act.put]
      refine wpList_nil ?_
      replace hS := hS.sub (((((List.Sublist.slnil).cons_cons _).cons _).cons _).cons _)
      go_wp2_with fail
      go_roundw
      case rel => exact ⟨k + 1, zb, by omega, by go_num, HZ, hS⟩
      case measure => simp [intOf]; omega
    · have hkd : decide ((k : Int) < (sn : Int)) = false := by simp; omega
      go_wp2
      go_ret
      exact ⟨rfl, hS.bel⟩
end Go.Proofs.YtjdgibnpngkhkaaDoor
