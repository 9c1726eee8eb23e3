import Derived.Test.YtibebhlblmdcgaaQSmG
import Derived.Deep.QuietTactic
import Derived.BigQuiet
set_option linter.unusedSimpArgs false
set_option linter.unusedVariables false
namespace Go.Proofs.Ytibebhlblmdcgaa
open Go.RowKit

set_option maxHeartbeats 2000000 in
set_option maxRecDepth 100000 in
theorem digest_any (f : Flr) (acc : Int) (s : Sx Ent) (w : World) (hf : f.Ok) (hs : Es w s) (hb : s.n * 296 ≤ 140737488355328) :
    Calls Try.prog 6 #[aV (gC f acc s.v)] w fun r w' => ∃ v, r = .returned v ∧ Oy w' w.heap.size v (s.xs.map smOf) ∧ Below w.heap.size w w' := by
  obtain ⟨sa, sn, sc, sx⟩ := s
  have hlen : sx.length = sn := hs.ok.len
  have hS := Hs17.begin w (fun w' => Es w' ⟨sa, sn, sc, sx⟩) (fun w' ho => hs.old ho)
  have HL := hide hlen
  have hsm : sn ≤ 475464663362 := by simp only at hb; omega
  simp only [Sx.v]
  clear hs hlen hb
  go_enter Try.func6, Try.ntmps6
  go_upto_region 0 with fail
  refine wp_region_lit ?_
  refine wl_box (by kernel_rfl) 30 (.tmp 0) rfl (gC f acc (.slice sa sn sc)) rfl hS ?_
  clear hS
  intro g1 w1 hS
  simp [Act.put]
  refine wl (by kernel_rfl) fun kQ hkQ => ?_
  go_simp
  refine hkQ _ _ ?_
  clear hkQ kQ
  refine wpList_nil ?_
  have hA1 : Arr w1 g1 30 (gC f acc (.slice sa sn sc)) := hS.get 0 rfl
  have c66 : w1.cell? ⟨g1, 66, none⟩ = some (.slice sa sn sc) := by have := (at_gr hf acc (.slice sa sn sc)).range hA1 0 _ rfl; simpa using this
  have HE := hide hS.K
  have HBW := hide hS.bel
  have HA1 := hide hA1
  clear hS hA1
  go_wp2_with fail
  clear c66
  go_loopw [3, 5, 9] (fun v _ i wr => ∃ k : Nat, k ≤ sn ∧ i = .int .i64 k ∧ Oy wr w1.heap.size v ((sx.take k).map smOf) ∧ Below w1.heap.size w1 wr) (fun _ _ i _ => sn - (intOf i).toNat)
  case atStart => exact ⟨0, by omega, rfl, by simpa using Oy.nil w1 w1.heap.size, Below.refl _ _⟩
  case round =>
    obtain ⟨k, hk, rfl, hO, hbl⟩ := hrel
    have c66 : wr.cell? ⟨g1, 66, none⟩ = some (.slice sa sn sc) := by have := (at_gr hf acc (.slice sa sn sc)).range ((unhide HA1).later hbl) 0 _ rfl; simpa using this
    have HB := hide hbl
    by_cases hlt : k < sn
    · obtain ⟨x, b, off, hge, hxo, hsa, hbs, hrg1⟩ := (unhide HE).at_ (k := k) hlt
      simp only at hge hsa
      subst hsa
      have hrg : wr.rangeAt b (off + k * 262) (eC x) := rangeAt_blk hrg1 (hbl.block b hbs)
      have hbs2 : b < wr.heap.size := Nat.lt_of_lt_of_le hbs hbl.size
      have hts : (sx.take (k + 1)).map smOf = (sx.take k).map smOf ++ [smOf x] := by rw [List.take_add_one, hge]; simp
      have hlenX : ((sx.take k).map smOf).length ≤ sn := by rw [List.length_map, List.length_take]; omega
      have HTS := hide hts
      have hkz : (k : Int) < (sn : Int) := by omega
      obtain ⟨Y, hY⟩ : ∃ Y, (sx.take k).map smOf = Y := ⟨_, rfl⟩
      rw [hY] at hO hlenX
      have HYE := hide hY
      have hS := Hs17.begin wr (fun w' => w'.rangeAt b (off + k * 262) (eC x) ∧ Oy w' w1.heap.size u3 Y) (fun w' ho => ⟨rangeAt_old hrg hbs2 ho, Oy.old hO ho⟩)
      have HX := hide hlenX
      clear hlenX hge hrg hO hbl hts hY hbs hbs2 hrg1
      go_upto_region 4 with fail
      refine wp_region_lit ?_
      refine wl (by kernel_rfl) fun kQ hkQ => ?_
      go_simp
      refine hkQ _ _ ?_
      clear hkQ kQ
      refine wv (aV (eC x)) (by kernel_rfl) (ex_loadR 45 (.tmp 11) rfl (b) (off + k * 262) rfl (eC x) hS.K.1 Try.underlying45 rfl (szE hxo)) ?_
      simp [Act.put]
      refine wl_alloc (by kernel_rfl) 45 rfl (eC zEnt) Try.inE' hS ?_
      clear hS
      intro g21 w21 hS
      simp [Act.put]
      refine wl_store (by kernel_rfl) 45 (.tmp 5) (.tmp 12) rfl 0 rfl 0 rfl (eC x) (eC x) (pt_e zEnt_ok hxo) rfl (szE hxo) (one_e _) hS ?_
      clear hS
      intro w22 hS
      change Hs17 wr [(g21, 45, (eC x))] _ w22 at hS
      simp [Act.put]
      refine wpList_nil ?_
      go_upto_region 5 with fail
      clear c66
      refine wp_region_lit ?_
      refine wl (by kernel_rfl) fun kQ hkQ => ?_
      go_simp
      refine hkQ _ _ ?_
      clear hkQ kQ
      refine wl (by kernel_rfl) fun kQ hkQ => ?_
      go_simp
      refine hkQ _ _ ?_
      clear hkQ kQ
      refine wl (by kernel_rfl) fun kQ hkQ => ?_
      go_simp
      refine hkQ _ _ ?_
      clear hkQ kQ
      refine wl_load1 (by kernel_rfl) 3 (.tmp 15) rfl 0 rfl 0 rfl (.int .i64 x.cert.serial) ((at_cert x).trans (at_ser x.cert) rfl) Try.underlying3 rfl hS ?_
      simp [Act.put]
      refine wl (by kernel_rfl) fun kQ hkQ => ?_
      go_simp
      refine hkQ _ _ ?_
      clear hkQ kQ
      refine wl_load1 (by kernel_rfl) 3 (.tmp 17) rfl 0 rfl 99 rfl (.int .i64 x.idx) (at_idx hxo) Try.underlying3 rfl hS ?_
      simp [Act.put]
      refine wl (by kernel_rfl) fun kQ hkQ => ?_
      go_simp
      refine hkQ _ _ ?_
      clear hkQ kQ
      refine wl_load1 (by kernel_rfl) 4 (.tmp 19) rfl 0 rfl 132 rfl (.bool x.fz) (at_fz hxo) Try.underlying4 rfl hS ?_
      simp [Act.put]
      refine wl (by kernel_rfl) fun kQ hkQ => ?_
      go_simp
      refine hkQ _ _ ?_
      clear hkQ kQ
      refine wl_load1 (by kernel_rfl) 4 (.tmp 21) rfl 0 rfl 197 rfl (.bool x.rv) (at_rv hxo) Try.underlying4 rfl hS ?_
      simp [Act.put]
      refine wv (aV (sC (smOf x))) (by kernel_rfl) (ex_build 39 #[(0, .tmp 16), (1, .tmp 18), (2, .tmp 20), (3, .tmp 22)] rfl (sC (smOf x)) (b_smy x.cert.serial x.idx x.fz x.rv) rfl) ?_
      simp [Act.put]
      refine wl (by kernel_rfl) fun k hk => ?_
      refine op_bs1Y (.tmp 23) rfl (smOf x) rfl hS ?_
      clear hS
      intro g9 w9 hS
      refine hk _ _ ?_
      clear hk k
      simp [Act.put]
      refine wl_appendY (by kernel_rfl) (.tmp 13) (.tmp 24) rfl rfl hS.K.2 ⟨some ⟨g9, 0, none⟩, 1, 1, [smOf x]⟩ (sy_one hS) rfl (by have := unhide HX; simp only; omega) (Nat.le_trans (unhide HB).size hS.bel.size) ?_
      intro v' w' hO' hg9 _
      have hbw : Below w1.heap.size w1 w' := ((unhide HB).trans (hS.bel.mono (unhide HB).size)).trans (own_belG (row := none) hS.K.2 hg9 (Nat.le_refl _) (Nat.le_trans (unhide HB).size hS.bel.size))
      simp [Act.put]
      clear hS hg9
      refine wl (by kernel_rfl) fun kQ hkQ => ?_
      go_simp
      refine hkQ _ _ ?_
      clear hkQ kQ
      refine wpList_nil ?_
      go_wp2
      go_roundw
      case rel => exact ⟨k + 1, by omega, by go_num, by rw [unhide HTS, unhide HYE]; exact hO', hbw⟩
      case measure => simp [intOf]; omega
    · have hkd : decide ((k : Int) < (sn : Int)) = false := by simp; omega
      have hke : sx.take k = sx := List.take_of_length_le (by rw [unhide HL]; omega)
      rw [hke] at hO
      have HO := hide hO
      clear hO hbl hke
      go_wp2_with fail
      go_ret
      exact ⟨_, rfl, own_monoG (unhide HO) (unhide HBW).size, (unhide HBW).trans ((unhide HB).mono (unhide HBW).size)⟩
set_option maxHeartbeats 2000000 in
set_option maxRecDepth 100000 in
theorem rdigest_any (f : Flr) (acc : Int) (s : Sx Ent) (w : World) (hf : f.Ok) (hs : Es w s) (hb : s.n * 296 ≤ 140737488355328) :
    Calls Try.prog 9 #[aV (gC f acc s.v)] w fun r w' => ∃ v, r = .returned v ∧ Oy w' w.heap.size v (s.xs.map smOf) ∧ Below w.heap.size w w' := by
  obtain ⟨sa, sn, sc, sx⟩ := s
  have hlen : sx.length = sn := hs.ok.len
  have hS := Hs17.begin w (fun w' => Es w' ⟨sa, sn, sc, sx⟩) (fun w' ho => hs.old ho)
  have HL := hide hlen
  have hsm : sn ≤ 475464663362 := by simp only at hb; omega
  simp only [Sx.v]
  clear hs hlen hb
  go_enter Try.func9, Try.ntmps9
  go_upto_region 0 with fail
  refine wp_region_lit ?_
  refine wl_box (by kernel_rfl) 30 (.tmp 0) rfl (gC f acc (.slice sa sn sc)) rfl hS ?_
  clear hS
  intro g1 w1 hS
  simp [Act.put]
  refine wl (by kernel_rfl) fun kQ hkQ => ?_
  go_simp
  refine hkQ _ _ ?_
  clear hkQ kQ
  refine wpList_nil ?_
  have hA1 : Arr w1 g1 30 (gC f acc (.slice sa sn sc)) := hS.get 0 rfl
  have c66 : w1.cell? ⟨g1, 66, none⟩ = some (.slice sa sn sc) := by have := (at_gr hf acc (.slice sa sn sc)).range hA1 0 _ rfl; simpa using this
  have HE := hide hS.K
  have HBW := hide hS.bel
  have HA1 := hide hA1
  clear hS hA1
  go_wp2_with fail
  clear c66
  go_loopw [3, 4, 5] (fun v i _ wr => ∃ k : Nat, k ≤ sn ∧ i = .int .i64 k ∧ Oy wr w1.heap.size v ((sx.take k).map smOf) ∧ Below w1.heap.size w1 wr) (fun _ i _ _ => sn - (intOf i).toNat)
  case atStart => exact ⟨0, by omega, rfl, by simpa using Oy.nil w1 w1.heap.size, Below.refl _ _⟩
  case round =>
    obtain ⟨k, hk, rfl, hO, hbl⟩ := hrel
    have c66 : wr.cell? ⟨g1, 66, none⟩ = some (.slice sa sn sc) := by have := (at_gr hf acc (.slice sa sn sc)).range ((unhide HA1).later hbl) 0 _ rfl; simpa using this
    have HB := hide hbl
    by_cases hlt : k < sn
    · obtain ⟨x, b, off, hge, hxo, hsa, hbs, hrg1⟩ := (unhide HE).at_ (k := k) hlt
      simp only at hge hsa
      subst hsa
      have hrg : wr.rangeAt b (off + k * 262) (eC x) := rangeAt_blk hrg1 (hbl.block b hbs)
      have hbs2 : b < wr.heap.size := Nat.lt_of_lt_of_le hbs hbl.size
      have hts : (sx.take (k + 1)).map smOf = (sx.take k).map smOf ++ [smOf x] := by rw [List.take_add_one, hge]; simp
      have hlenX : ((sx.take k).map smOf).length ≤ sn := by rw [List.length_map, List.length_take]; omega
      have HTS := hide hts
      have hkz : (k : Int) < (sn : Int) := by omega
      obtain ⟨Y, hY⟩ : ∃ Y, (sx.take k).map smOf = Y := ⟨_, rfl⟩
      rw [hY] at hO hlenX
      have HYE := hide hY
      have hS := Hs17.begin wr (fun w' => w'.rangeAt b (off + k * 262) (eC x) ∧ Oy w' w1.heap.size u3 Y) (fun w' ho => ⟨rangeAt_old hrg hbs2 ho, Oy.old hO ho⟩)
      have HX := hide hlenX
      clear hlenX hge hrg hO hbl hts hY hbs hbs2 hrg1
      go_upto_region 5 with fail
      refine wp_region_lit ?_
      refine wl (by kernel_rfl) fun kQ hkQ => ?_
      go_simp
      refine hkQ _ _ ?_
      clear hkQ kQ
      refine wl (by kernel_rfl) fun kQ hkQ => ?_
      go_simp
      refine hkQ _ _ ?_
      clear hkQ kQ
      refine wl (by kernel_rfl) fun kQ hkQ => ?_
      go_simp
      refine hkQ _ _ ?_
      clear hkQ kQ
      refine wl (by kernel_rfl) fun kQ hkQ => ?_
      go_simp
      refine hkQ _ _ ?_
      clear hkQ kQ
      refine wv (aV (eC x)) (by kernel_rfl) (ex_loadR 45 (.tmp 16) rfl (b) (off + k * 262) rfl (eC x) hS.K.1 Try.underlying45 rfl (szE hxo)) ?_
      simp [Act.put]
      refine wl_alloc (by kernel_rfl) 45 rfl (eC zEnt) Try.inE' hS ?_
      clear hS
      intro g21 w21 hS
      simp [Act.put]
      refine wl_store (by kernel_rfl) 45 (.tmp 5) (.tmp 17) rfl 0 rfl 0 rfl (eC x) (eC x) (pt_e zEnt_ok hxo) rfl (szE hxo) (one_e _) hS ?_
      clear hS
      intro w22 hS
      change Hs17 wr [(g21, 45, (eC x))] _ w22 at hS
      simp [Act.put]
      refine wpList_nil ?_
      go_upto_region 6 with fail
      clear c66
      refine wp_region_lit ?_
      refine wl (by kernel_rfl) fun kQ hkQ => ?_
      go_simp
      refine hkQ _ _ ?_
      clear hkQ kQ
      refine wl (by kernel_rfl) fun kQ hkQ => ?_
      go_simp
      refine hkQ _ _ ?_
      clear hkQ kQ
      refine wl (by kernel_rfl) fun kQ hkQ => ?_
      go_simp
      refine hkQ _ _ ?_
      clear hkQ kQ
      refine wl_load1 (by kernel_rfl) 3 (.tmp 20) rfl 0 rfl 0 rfl (.int .i64 x.cert.serial) ((at_cert x).trans (at_ser x.cert) rfl) Try.underlying3 rfl hS ?_
      simp [Act.put]
      refine wl (by kernel_rfl) fun kQ hkQ => ?_
      go_simp
      refine hkQ _ _ ?_
      clear hkQ kQ
      refine wl_load1 (by kernel_rfl) 3 (.tmp 22) rfl 0 rfl 99 rfl (.int .i64 x.idx) (at_idx hxo) Try.underlying3 rfl hS ?_
      simp [Act.put]
      refine wl (by kernel_rfl) fun kQ hkQ => ?_
      go_simp
      refine hkQ _ _ ?_
      clear hkQ kQ
      refine wl_load1 (by kernel_rfl) 4 (.tmp 24) rfl 0 rfl 132 rfl (.bool x.fz) (at_fz hxo) Try.underlying4 rfl hS ?_
      simp [Act.put]
      refine wl (by kernel_rfl) fun kQ hkQ => ?_
      go_simp
      refine hkQ _ _ ?_
      clear hkQ kQ
      refine wl_load1 (by kernel_rfl) 4 (.tmp 26) rfl 0 rfl 197 rfl (.bool x.rv) (at_rv hxo) Try.underlying4 rfl hS ?_
      simp [Act.put]
      refine wv (aV (sC (smOf x))) (by kernel_rfl) (ex_build 39 #[(0, .tmp 21), (1, .tmp 23), (2, .tmp 25), (3, .tmp 27)] rfl (sC (smOf x)) (b_smy x.cert.serial x.idx x.fz x.rv) rfl) ?_
      simp [Act.put]
      refine wl (by kernel_rfl) fun k hk => ?_
      refine op_bs1Y (.tmp 28) rfl (smOf x) rfl hS ?_
      clear hS
      intro g9 w9 hS
      refine hk _ _ ?_
      clear hk k
      simp [Act.put]
      refine wl_appendY (by kernel_rfl) (.tmp 18) (.tmp 29) rfl rfl hS.K.2 ⟨some ⟨g9, 0, none⟩, 1, 1, [smOf x]⟩ (sy_one hS) rfl (by have := unhide HX; simp only; omega) (Nat.le_trans (unhide HB).size hS.bel.size) ?_
      intro v' w' hO' hg9 _
      have hbw : Below w1.heap.size w1 w' := ((unhide HB).trans (hS.bel.mono (unhide HB).size)).trans (own_belG (row := none) hS.K.2 hg9 (Nat.le_refl _) (Nat.le_trans (unhide HB).size hS.bel.size))
      simp [Act.put]
      clear hS hg9
      refine wl (by kernel_rfl) fun kQ hkQ => ?_
      go_simp
      refine hkQ _ _ ?_
      clear hkQ kQ
      refine wpList_nil ?_
      go_wp2
      go_roundw
      case rel => exact ⟨k + 1, by omega, by go_num, by rw [unhide HTS, unhide HYE]; exact hO', hbw⟩
      case measure => simp [intOf]; omega
    · have hkd : decide ((k : Int) < (sn : Int)) = false := by simp; omega
      have hke : sx.take k = sx := List.take_of_length_le (by rw [unhide HL]; omega)
      rw [hke] at hO
      have HO := hide hO
      clear hO hbl hke
      go_wp2_with fail
      go_ret
      exact ⟨_, rfl, own_monoG (unhide HO) (unhide HBW).size, (unhide HBW).trans ((unhide HB).mono (unhide HBW).size)⟩
end Go.Proofs.Ytibebhlblmdcgaa
