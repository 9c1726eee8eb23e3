import Derived.Test.YtibebhlblmdcgaaQGaD
import Derived.Test.YtibebhlblmdcgaaQRcW
set_option linter.unusedSimpArgs false
set_option linter.unusedVariables false
namespace Go.Proofs.Ytibebhlblmdcgaa
open Go.RowKit

set_option maxHeartbeats 2000000 in
set_option maxRecDepth 100000 in
theorem changed_any (s : Sx Ent) (e : Ent) (w : World) (hs : Es w s) (he : e.Ok) (hb : (s.n + 1) * 296 ≤ 140737488355328) :
    Calls Try.prog 21 #[s.v, aV (eC e)] w fun r w' => ∃ v, r = .returned v ∧ Oe w' w.heap.size v (rCh s.xs e) ∧ Below w.heap.size w w' := by
  obtain ⟨sa, sn, sc, sx⟩ := s
  have hlen : sx.length = sn := hs.ok.len
  have hS := Hs17.begin w (fun w' => Es w' ⟨sa, sn, sc, sx⟩) (fun w' ho => hs.old ho)
  have HL := hide hlen
  have HBd := hide hb
  have hsm : sn ≤ 475464663362 := by simp only at hb; omega
  simp only [Sx.v]
  clear hs hlen hb
  go_enter Try.func21, Try.ntmps21
  go_upto_region 0 with fail
  refine wp_region_lit ?_
  refine wl_box (by kernel_rfl) 45 (.tmp 1) rfl (eC e) rfl hS ?_
  clear hS
  intro g1 w1 hS
  simp [Act.put]
  refine wl (by kernel_rfl) fun kQ hkQ => ?_
  go_simp
  refine hkQ _ _ ?_
  clear hkQ kQ
  refine wpList_nil ?_
  have hA1 : Arr w1 g1 45 (eC e) := hS.get 0 rfl
  have HE := hide hS.K
  have HBW := hide hS.bel
  have HA1 := hide hA1
  clear hS hA1
  go_wp2_with fail
  go_loopw [5, 6] (fun v i wr => ∃ k : Nat, k ≤ sn ∧ i = .int .i64 k ∧ Oe wr w1.heap.size v (rCh (sx.take k) e) ∧ Below w1.heap.size w1 wr) (fun _ i _ => sn - (intOf i).toNat)
  case atStart => exact ⟨0, by omega, rfl, by simpa [rCh] using Oe.nil w1 w1.heap.size, Below.refl _ _⟩
  case round =>
    obtain ⟨k, hk, rfl, hO, hbl⟩ := hrel
    have hEw := (unhide HE).later hbl
    have hAr := (unhide HA1).later hbl
    have HB := hide hbl
    by_cases hlt : k < sn
    · obtain ⟨x, b, off, hge, hxo, hsa, hbs, hrg⟩ := hEw.at_ (k := k) hlt
      simp only at hge hsa
      subst hsa
      have hcat : rCh (sx.take (k + 1)) e = rCh (sx.take k) e ++ [if x.cert.serial = e.cert.serial then e else x] := by rw [List.take_add_one, hge]; simp [rCh]
      have hlenX : (rCh (sx.take k) e).length + 1 ≤ sn := by rw [rCh_len, List.length_take]; omega
      generalize hX : rCh (sx.take k) e = X at hO hcat hlenX
      have c1 : wr.cell? ⟨b, off + k * 262, none⟩ = some (.int .i64 x.cert.serial) := by have := hrg 0 _ ((at_eser x).get (j := 0) rfl); simpa using this
      have c2 : wr.cell? ⟨g1, 0, none⟩ = some (.int .i64 e.cert.serial) := by have := (At.self (eC e)).range hAr 0 _ ((at_eser e).get (j := 0) rfl); simpa using this
      have hS := Hs17.begin wr (fun w' => w'.rangeAt b (off + k * 262) (eC x) ∧ Oe w' w1.heap.size u5 X ∧ w'.rangeAt g1 0 (eC e)) (fun w' ho => ⟨rangeAt_old hrg hbs ho, hO.old ho, (At.self (eC e)).range (hAr.old ho)⟩)
      have HX := hide hlenX
      have hkz : (k : Int) < (sn : Int) := by omega
      clear hlenX hge hrg hEw hO hbl hX hbs hAr
      by_cases hq : x.cert.serial = e.cert.serial
      · rw [if_pos hq] at hcat
        have HC := hide hcat
        have d1 : (x.cert.serial == e.cert.serial) = true := by simpa using hq
        clear hcat hq
        go_upto_region 5 with fail
        go_quiet (fail)
        replace hS := hS.later (below_drewN (Below.refl _ _) nq)
        go_upto_region 6 with fail
        refine wp_region_lit ?_
        refine wl (by kernel_rfl) fun kQ hkQ => ?_
        go_simp
        refine hkQ _ _ ?_
        clear hkQ kQ
        refine wv (aV (eC e)) (by kernel_rfl) (ex_loadR 45 (.tmp 3) rfl (g1) (0) rfl (eC e) hS.K.2.2 Try.underlying45 rfl (szE he)) ?_
        simp [Act.put]
        refine wl (by kernel_rfl) fun k hk => ?_
        refine op_bs1 28 (.tmp 24) rfl e he rfl hS ?_
        clear hS
        intro g9 w9 hS
        refine hk _ _ ?_
        clear hk k
        simp [Act.put]
        refine wl_append (by kernel_rfl) (.tmp 23) (.tmp 25) rfl rfl hS.K.2.1 ⟨some ⟨g9, 0, none⟩, 1, 1, [e]⟩ (es_one hS he) rfl (by have := unhide HX; have := unhide HBd; simp only at *; omega) (Nat.le_trans (unhide HB).size hS.bel.size) ?_
        intro v' w' hO' hg9
        have hbw : Below w1.heap.size w1 w' := ((unhide HB).trans (hS.bel.mono (unhide HB).size)).trans ((hS.K.2.1).bel hg9 (Nat.le_refl _) (Nat.le_trans (unhide HB).size hS.bel.size))
        simp [Act.put]
        clear hS hg9
        refine wl (by kernel_rfl) fun kQ hkQ => ?_
        go_simp
        refine hkQ _ _ ?_
        clear hkQ kQ
        refine wpList_nil ?_
        clear c1 c2 d1
        go_wp2
        go_roundw
        case rel => exact ⟨k + 1, by omega, by go_num, by rw [unhide HC]; exact hO', hbw⟩
        case measure => simp [intOf]; omega
      · rw [if_neg hq] at hcat
        have HC := hide hcat
        have d1 : (x.cert.serial == e.cert.serial) = false := by simpa using hq
        clear hcat hq
        go_upto_region 5 with fail
        go_quiet (fail)
        replace hS := hS.later (below_drewN (Below.refl _ _) nq)
        go_upto_region 7 with fail
        refine wp_region_lit ?_
        refine wl (by kernel_rfl) fun kQ hkQ => ?_
        go_simp
        refine hkQ _ _ ?_
        clear hkQ kQ
        refine wl (by kernel_rfl) fun kQ hkQ => ?_
        go_simp
        refine hkQ _ _ ?_
        clear hkQ kQ
        refine wl (by kernel_rfl) fun kQ hkQ => ?_
        go_simp
        refine hkQ _ _ ?_
        clear hkQ kQ
        refine wl (by kernel_rfl) fun kQ hkQ => ?_
        go_simp
        refine hkQ _ _ ?_
        clear hkQ kQ
        refine wv (aV (eC x)) (by kernel_rfl) (ex_loadR 45 (.tmp 30) rfl (b) (off + k * 262) rfl (eC x) hS.K.1 Try.underlying45 rfl (szE hxo)) ?_
        simp [Act.put]
        refine wl (by kernel_rfl) fun k hk => ?_
        refine op_bs1 28 (.tmp 31) rfl x hxo rfl hS ?_
        clear hS
        intro g9 w9 hS
        refine hk _ _ ?_
        clear hk k
        simp [Act.put]
        refine wl_append (by kernel_rfl) (.tmp 27) (.tmp 32) rfl rfl hS.K.2.1 ⟨some ⟨g9, 0, none⟩, 1, 1, [x]⟩ (es_one hS hxo) rfl (by have := unhide HX; have := unhide HBd; simp only at *; omega) (Nat.le_trans (unhide HB).size hS.bel.size) ?_
        intro v' w' hO' hg9
        have hbw : Below w1.heap.size w1 w' := ((unhide HB).trans (hS.bel.mono (unhide HB).size)).trans ((hS.K.2.1).bel hg9 (Nat.le_refl _) (Nat.le_trans (unhide HB).size hS.bel.size))
        simp [Act.put]
        clear hS hg9
        refine wl (by kernel_rfl) fun kQ hkQ => ?_
        go_simp
        refine hkQ _ _ ?_
        clear hkQ kQ
        refine wpList_nil ?_
        clear c1 c2 d1
        go_wp2
        go_roundw
        case rel => exact ⟨k + 1, by omega, by go_num, by rw [unhide HC]; exact hO', hbw⟩
        case measure => simp [intOf]; omega
    · have hkd : decide ((k : Int) < (sn : Int)) = false := by simp; omega
      have hke : sx.take k = sx := List.take_of_length_le (by rw [unhide HL]; omega)
      rw [hke] at hO
      have HO := hide hO
      clear hO hbl hEw hke hAr
      go_wp2_with fail
      go_ret
      exact ⟨_, rfl, (unhide HO).mono (unhide HBW).size, (unhide HBW).trans ((unhide HB).mono (unhide HBW).size)⟩
end Go.Proofs.Ytibebhlblmdcgaa
