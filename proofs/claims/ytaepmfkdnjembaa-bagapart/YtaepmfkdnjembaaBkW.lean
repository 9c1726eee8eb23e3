import Derived.Test.YtaepmfkdnjembaaPfM
import Derived.Deep.DeepCutAuto
import Derived.Deep.QuietTactic
import Derived.BigQuiet
set_option linter.unusedSimpArgs false
set_option linter.unusedVariables false
namespace Go.Proofs.Ytaepmfkdnjembaa
open Go.RowKit

theorem wi_of24 {z : Int} (h0 : -9223372036854775808 ≤ z) (h1 : z ≤ 9223372036854775807) : IntKind.i64.wrap z = z := by
  rw [IntWalk.i64_left z]
  unfold wrap64
  omega
set_option maxHeartbeats 4000000 in
set_option maxRecDepth 100000 in
theorem lying_any (gb : Nat) (n : Int) (m : Option Nat) (w : World) (hA : Arr w gb 67 (gbC n (.map m))) :
    Calls Try.prog 31 #[.pointer (some ⟨gb, 0, none⟩)] w fun e w' => e = .returned (.map m) ∧ Below w.heap.size w w' := by
  have hc : w.cell? ⟨gb, 1, none⟩ = some (.map m) := by rw [hA.cell]; rfl
  go_enter Try.func31, Try.ntmps31
  go_wp2_with fail
  go_ret
  exact ⟨rfl, Below.refl _ _⟩
set_option maxHeartbeats 4000000 in
set_option maxRecDepth 100000 in
theorem len_any (gb mb last : Nat) (ms : List Ms) (w : World) (hA : Arr w gb 67 (gbC last (.map (some mb)))) (hm : MW w mb ms) :
    Calls Try.prog 13 #[.pointer (some ⟨gb, 0, none⟩)] w fun e w' => e = .returned (.int .i64 (ms.length : Int)) ∧ Below w.heap.size w w' := by
  have hS := Hs17.begin w (fun w' => Arr w' gb 67 (gbC last (.map (some mb))) ∧ MW w' mb ms) (fun w' ho => ⟨hA.old ho, hm.blk (ho.block _ hm.lt)⟩)
  go_enter Try.func13, Try.ntmps13
  go_upto_region 1 with fail
  refine wp_region_lit ?_
  refine wl (by kernel_rfl) fun kQ hkQ => ?_
  go_simp
  refine hkQ _ _ ?_
  clear hkQ kQ
  refine wl (by kernel_rfl) fun kQ hkQ => ?_
  go_simp
  refine (lying_any gb _ _ _ hS.K.1).mono ?_
  rintro e w1 ⟨rfl, hb1⟩
  replace hS := hS.later hb1
  refine hkQ _ _ ?_
  clear hkQ kQ hb1
  refine wl_mlen (by kernel_rfl) (.tmp 4) rfl rfl hS.K.2 ?_
  simp [Act.put]
  refine wl (by kernel_rfl) fun kQ hkQ => ?_
  go_simp
  refine hkQ _ _ ?_
  clear hkQ kQ
  refine wpList_nil ?_
  go_wp2_with fail
  go_ret
  exact ⟨rfl, hS.bel⟩
set_option maxHeartbeats 4000000 in
set_option maxRecDepth 100000 in
theorem room_any (gb mb last : Nat) (ms : List Ms) (w : World) (hA : Arr w gb 67 (gbC last (.map (some mb)))) (hm : MW w mb ms) (hle : ms.length ≤ 4096) :
    Calls Try.prog 22 #[.pointer (some ⟨gb, 0, none⟩)] w fun e w' => e = .returned (.int .i64 ((4096 - ms.length : Nat) : Int)) ∧ Below w.heap.size w w' := by
  have hS := Hs17.begin w (fun w' => Arr w' gb 67 (gbC last (.map (some mb))) ∧ MW w' mb ms) (fun w' ho => ⟨hA.old ho, hm.blk (ho.block _ hm.lt)⟩)
  have e1 : IntKind.i64.wrap (4096 - (ms.length : Int)) = ((4096 - ms.length : Nat) : Int) := by rw [show (4096 : Int) - (ms.length : Int) = ((4096 - ms.length : Nat) : Int) by omega]; exact wi_of24 (by omega) (by omega)
  clear hle
  go_enter Try.func22, Try.ntmps22
  go_upto_region 1 with fail
  refine wp_region_lit ?_
  refine wl (by kernel_rfl) fun kQ hkQ => ?_
  go_simp
  refine hkQ _ _ ?_
  clear hkQ kQ
  refine wl (by kernel_rfl) fun kQ hkQ => ?_
  go_simp
  refine (lying_any gb _ _ _ hS.K.1).mono ?_
  rintro e w1 ⟨rfl, hb1⟩
  replace hS := hS.later hb1
  refine hkQ _ _ ?_
  clear hkQ kQ hb1
  refine wl (by kernel_rfl) fun kQ hkQ => ?_
  go_simp
  refine hkQ _ _ ?_
  clear hkQ kQ
  refine wpList_nil ?_
  go_upto_region 3 with fail
  refine wp_region_lit ?_
  refine wl (by kernel_rfl) fun kQ hkQ => ?_
  go_simp
  refine hkQ _ _ ?_
  clear hkQ kQ
  refine wl (by kernel_rfl) fun kQ hkQ => ?_
  go_simp
  refine (len_any gb mb last ms _ hS.K.1 hS.K.2).mono ?_
  rintro e w2 ⟨rfl, hb1⟩
  replace hS := hS.later hb1
  refine hkQ _ _ ?_
  clear hkQ kQ hb1
  refine wl (by kernel_rfl) fun kQ hkQ => ?_
  go_simp
  refine hkQ _ _ ?_
  clear hkQ kQ
  refine wl (by kernel_rfl) fun kQ hkQ => ?_
  go_simp
  refine hkQ _ _ ?_
  clear hkQ kQ
  refine wpList_nil ?_
  go_wp2_with fail
  go_ret
  exact ⟨rfl, hS.bel⟩
set_option maxHeartbeats 4000000 in
set_option maxRecDepth 100000 in
theorem new_any (w : World) :
    Calls Try.prog 8 #[] w fun e w' => ∃ gb mb, e = .returned (.pointer (some ⟨gb, 0, none⟩)) ∧ BagW w.heap.size gb mb [] [] 0 w' ∧ Below w.heap.size w w' := by
  have hS := Hs17.begin w (fun _ => True) (fun _ _ => trivial)
  go_enter Try.func8, Try.ntmps8
  go_upto_region 1 with fail
  refine wp_region_lit ?_
  refine wl_mmake (by kernel_rfl) rfl hS ?_
  clear hS
  intro mb w1 hS
  simp [Act.put]
  refine wv (aV (gbC 0 (.map (some mb)))) (by kernel_rfl) (ex_build 67 #[(1, .tmp 1)] rfl (gbC 0 (.map (some mb))) (b_g1 (some mb)) rfl) ?_
  simp [Act.put]
  refine wl_box (by kernel_rfl) 67 (.tmp 2) rfl (gbC 0 (.map (some mb))) rfl hS ?_
  clear hS
  intro gb w2 hS
  simp [Act.put]
  refine wl (by kernel_rfl) fun kQ hkQ => ?_
  go_simp
  refine hkQ _ _ ?_
  clear hkQ kQ
  refine wpList_nil ?_
  go_wp2_with fail
  go_ret
  exact ⟨gb, mb, rfl, ⟨hS.get 0 rfl, hS.K.2, hS.old _ (List.mem_cons_self ..), by simp, (fun m hm => by cases hm), (fun m hm => by cases hm)⟩, hS.bel⟩
set_option maxHeartbeats 4000000 in
set_option maxRecDepth 100000 in
theorem apart_any (i f t : Int) (y : Sx Int) (w : World) (hy : Su w y) (hn : y.n ≤ 1048576) :
    Calls Try.prog 30 #[aV (msC i f t y.v)] w fun e w' => ∃ s : Sx Int, e = .returned (aV (msC i f t s.v)) ∧ s.xs = y.xs ∧ Ou w' w.heap.size s.v s.xs ∧ Below w.heap.size w w' := by
  have hS := Hs17.begin w (fun w' => Su w' y) (fun w' ho => hy.old ho)
  clear hy
  go_enter Try.func30, Try.ntmps30
  go_upto_region 0 with fail
  refine wp_region_lit ?_
  refine wl_box (by kernel_rfl) 32 (.tmp 0) rfl (msC i f t y.v) rfl hS ?_
  clear hS
  intro g1 w1 hS
  simp [Act.put]
  refine wl_alloc (by kernel_rfl) 32 rfl (msC 0 0 0 (.slice none 0 0)) Try.inD hS ?_
  clear hS
  intro g2 w2 hS
  simp [Act.put]
  refine wpList_nil ?_
  go_upto_region 1 with fail
  refine wp_region_lit ?_
  refine wl (by kernel_rfl) fun kQ hkQ => ?_
  go_simp
  refine hkQ _ _ ?_
  clear hkQ kQ
  refine wl_load1 (by kernel_rfl) 27 (.tmp 3) rfl 1 rfl 3 rfl (y.v) (at_D3 i f t y.v) Try.underlying27 rfl hS ?_
  simp [Act.put]
  refine wl_apnu (by kernel_rfl) (.const (.slice none 0 0)) (.tmp 4) rfl rfl y hS.K rfl hn ?_
  intro s w3 hx hO hb1
  replace hS := hS.ownK (f := uC) hb1 hO
  clear hO hb1
  obtain ⟨sa, sn, sc, sx⟩ := s
  simp only [Sx.v] at hS
  simp only at hx
  simp [Act.put]
  refine wl (by kernel_rfl) fun kQ hkQ => ?_
  go_simp
  refine hkQ _ _ ?_
  clear hkQ kQ
  refine wl_store (by kernel_rfl) 27 (.tmp 6) (.tmp 5) rfl 1 rfl 3 rfl [(.slice sa sn sc)] (msC i f t (.slice sa sn sc)) (pt_D3 i f t y.v (.slice sa sn sc)) rfl Try.j1s (one_one rfl) hS ?_
  clear hS
  intro w4 hS
  change Hs17 w [(g2, 32, (msC 0 0 0 (.slice none 0 0))), (g1, 32, (msC i f t (.slice sa sn sc)))] (fun w8 => (fun w' => Su w' y) w8 ∧ w8.ownsRow w.heap.size 5 1 (.slice sa sn sc) sx.length (sx.flatMap uC)) w4 at hS
  simp [Act.put]
  refine wpList_nil ?_
  go_upto_region 2 with fail
  refine wp_region_lit ?_
  refine wl_load (by kernel_rfl) 32 (.tmp 1) rfl 1 rfl 0 rfl (msC i f t (.slice sa sn sc)) (At.self _) Try.underlying32 rfl (sz_D _ _ _ _) hS ?_
  simp [Act.put]
  refine wl_store (by kernel_rfl) 32 (.tmp 2) (.tmp 7) rfl 0 rfl 0 rfl (msC i f t (.slice sa sn sc)) (msC i f t (.slice sa sn sc)) (pt_D 0 0 0 (.slice none 0 0) i f t (.slice sa sn sc)) rfl (sz_D _ _ _ _) (one_D _ _ _ rfl) hS ?_
  clear hS
  intro w5 hS
  change Hs17 w [(g2, 32, (msC i f t (.slice sa sn sc))), (g1, 32, (msC i f t (.slice sa sn sc)))] (fun w8 => (fun w' => Su w' y) w8 ∧ w8.ownsRow w.heap.size 5 1 (.slice sa sn sc) sx.length (sx.flatMap uC)) w5 at hS
  simp [Act.put]
  refine wpList_nil ?_
  go_wp2_with fail
  refine bodyPost_ret (res_c rfl hS 0 rfl rfl Try.underlying32 rfl (sz_D _ _ _ _)  ) rfl ?_
  exact ⟨⟨sa, sn, sc, sx⟩, rfl, hx, hS.K.2, hS.bel⟩
set_option maxHeartbeats 4000000 in
set_option maxRecDepth 100000 in
theorem stake_any (w0 : World) (rows : List Row) (B mb : Nat) (ms ex : List Ms) (z : Int) (w : World) (hS : Hs17 w0 rows (Bgm B mb ms ex) w) (hn : NoU rows = true) (hw : w0.heap.size ≤ B) (hz : I64 z) :
    Calls Try.prog 33 #[.map (some mb), .int .i64 z] w fun e w' => e = .returned (.tuple #[aV (mC (lkV ms z)), .bool (lkB ms z)]) ∧ Hs17 w0 rows (Bgm B mb (dlM ms z) (lkV ms z :: ex)) w' := by
  go_enter Try.func33, Try.ntmps33
  go_upto_region 0 with fail
  refine wp_region_lit ?_
  refine wl_alloc (by kernel_rfl) 32 rfl (msC 0 0 0 (.slice none 0 0)) Try.inD hS ?_
  clear hS
  intro g1 w1 hS
  simp [Act.put]
  refine wl (by kernel_rfl) fun kQ hkQ => ?_
  go_simp
  refine hkQ _ _ ?_
  clear hkQ kQ
  refine wpList_nil ?_
  go_upto_region 1 with fail
  refine wp_region_lit ?_
  refine wl (by kernel_rfl) fun kQ hkQ => ?_
  go_simp
  refine hkQ _ _ ?_
  clear hkQ kQ
  refine wl (by kernel_rfl) fun kQ hkQ => ?_
  go_simp
  refine hkQ _ _ ?_
  clear hkQ kQ
  refine wl_look (by kernel_rfl) (.tmp 9) (.tmp 10) rfl rfl rfl hS.K.mp hz ?_
  simp [Act.put]
  refine wl (by kernel_rfl) fun kQ hkQ => ?_
  go_simp
  refine hkQ _ _ ?_
  clear hkQ kQ
  refine wl (by kernel_rfl) fun kQ hkQ => ?_
  go_simp
  refine hkQ _ _ ?_
  clear hkQ kQ
  refine wl (by kernel_rfl) fun kQ hkQ => ?_
  go_simp
  refine hkQ _ _ ?_
  clear hkQ kQ
  refine wl_alloc (by kernel_rfl) 32 rfl (msC 0 0 0 (.slice none 0 0)) Try.inD hS ?_
  clear hS
  intro g2 w2 hS
  simp [Act.put]
  refine wl_store (by kernel_rfl) 32 (.tmp 6) (.tmp 12) rfl 0 rfl 0 rfl (msC ((lkV ms z).i) ((lkV ms z).f) ((lkV ms z).t) ((lkV ms z).s.v)) (msC ((lkV ms z).i) ((lkV ms z).f) ((lkV ms z).t) ((lkV ms z).s.v)) (pt_D 0 0 0 (.slice none 0 0) ((lkV ms z).i) ((lkV ms z).f) ((lkV ms z).t) ((lkV ms z).s.v)) rfl (sz_D _ _ _ _) (one_D _ _ _ rfl) hS ?_
  clear hS
  intro w3 hS
  change Hs17 w0 ((g2, 32, (msC ((lkV ms z).i) ((lkV ms z).f) ((lkV ms z).t) ((lkV ms z).s.v))) :: (g1, 32, (msC 0 0 0 (.slice none 0 0))) :: rows) (Bgm B mb ms ex) w3 at hS
  simp [Act.put]
  refine wl (by kernel_rfl) fun kQ hkQ => ?_
  go_simp
  refine hkQ _ _ ?_
  clear hkQ kQ
  refine wpList_nil ?_
  go_upto_region 2 with fail
  refine wp_region_lit ?_
  refine wl (by kernel_rfl) fun kQ hkQ => ?_
  go_simp
  refine hkQ _ _ ?_
  clear hkQ kQ
  refine wl (by kernel_rfl) fun kQ hkQ => ?_
  go_simp
  refine hkQ _ _ ?_
  clear hkQ kQ
  refine wl_mdel (by kernel_rfl) (.tmp 14) (.tmp 15) rfl rfl rfl hS (NoU.cons rfl (NoU.cons rfl hn)) hw hz ?_
  clear hS
  intro w4 hS
  simp [Act.put]
  refine wpList_nil ?_
  go_upto_region 3 with fail
  refine wp_region_lit ?_
  refine wl_load (by kernel_rfl) 32 (.tmp 6) rfl 0 rfl 0 rfl (msC ((lkV ms z).i) ((lkV ms z).f) ((lkV ms z).t) ((lkV ms z).s.v)) (At.self _) Try.underlying32 rfl (sz_D _ _ _ _) hS ?_
  simp [Act.put]
  refine wl (by kernel_rfl) fun kQ hkQ => ?_
  go_simp
  refine hkQ _ _ ?_
  clear hkQ kQ
  refine wl_store (by kernel_rfl) 32 (.tmp 4) (.tmp 16) rfl 1 rfl 0 rfl (msC ((lkV ms z).i) ((lkV ms z).f) ((lkV ms z).t) ((lkV ms z).s.v)) (msC ((lkV ms z).i) ((lkV ms z).f) ((lkV ms z).t) ((lkV ms z).s.v)) (pt_D 0 0 0 (.slice none 0 0) ((lkV ms z).i) ((lkV ms z).f) ((lkV ms z).t) ((lkV ms z).s.v)) rfl (sz_D _ _ _ _) (one_D _ _ _ rfl) hS ?_
  clear hS
  intro w5 hS
  change Hs17 w0 ((g2, 32, (msC ((lkV ms z).i) ((lkV ms z).f) ((lkV ms z).t) ((lkV ms z).s.v))) :: (g1, 32, (msC ((lkV ms z).i) ((lkV ms z).f) ((lkV ms z).t) ((lkV ms z).s.v))) :: rows) (Bgm B mb (dlM ms z) (lkV ms z :: ex)) w5 at hS
  simp [Act.put]
  refine wl (by kernel_rfl) fun kQ hkQ => ?_
  go_simp
  refine hkQ _ _ ?_
  clear hkQ kQ
  refine wpList_nil ?_
  go_wp2_with fail
  refine bodyPost_ret (res_ct rfl hS 1 rfl rfl Try.underlying32 rfl (sz_D _ _ _ _) _ rfl) rfl ?_
  replace hS := hS.sub ((((List.Sublist.refl _)).cons _).cons _)
  exact ⟨rfl, hS⟩
end Go.Proofs.Ytaepmfkdnjembaa
