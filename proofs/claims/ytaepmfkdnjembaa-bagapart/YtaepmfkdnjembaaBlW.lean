import Derived.Test.YtaepmfkdnjembaaBkW
import Derived.Deep.DeepCutAuto
import Derived.Deep.QuietTactic
import Derived.BigQuiet
set_option linter.unusedSimpArgs false
set_option linter.unusedVariables false
namespace Go.Proofs.Ytaepmfkdnjembaa
open Go.RowKit

set_option maxHeartbeats 4000000 in
set_option maxRecDepth 100000 in
theorem get_any (w0 : World) (rows : List Row) (B gb mb last : Nat) (ms ex : List Ms) (w : World) (hS : Hs17 w0 rows (BagW B gb mb ms ex last) w) (hn : NoB rows = true) (hw : w0.heap.size ≤ B) (z : Int) (hz : I64 z) :
    Calls Try.prog 15 #[.pointer (some ⟨gb, 0, none⟩), .int .i64 z] w fun e w' => ∃ s : Sx Int, e = .returned (.tuple #[aV (mC ⟨(lkV ms z).i, (lkV ms z).f, (lkV ms z).t, s⟩), .bool (lkB ms z)]) ∧ s.xs = (lkV ms z).s.xs ∧ Hs17 w0 rows (BagW B gb mb ms (⟨(lkV ms z).i, (lkV ms z).f, (lkV ms z).t, s⟩ :: ex) last) w' := by
  go_enter Try.func15, Try.ntmps15
  go_upto_region 0 with fail
  refine wp_region_lit ?_
  refine wl_alloc (by kernel_rfl) 32 rfl (msC 0 0 0 (.slice none 0 0)) Try.inD hS ?_
  clear hS
  intro g1 w1 hS
  simp [Act.put]
  refine wl (by kernel_rfl) fun kQ hkQ => ?_
  go_simp
  refine hkQ _ _ ?_
  clear hkQ kQ
  refine wpList_nil ?_
  go_upto_region 1 with fail
  refine wp_region_lit ?_
  refine wl (by kernel_rfl) fun kQ hkQ => ?_
  go_simp
  refine hkQ _ _ ?_
  clear hkQ kQ
  refine wl (by kernel_rfl) fun kQ hkQ => ?_
  go_simp
  refine (lying_any gb _ _ _ hS.K.st).mono ?_
  rintro e w2 ⟨rfl, hb1⟩
  replace hS := hS.later hb1
  refine hkQ _ _ ?_
  clear hkQ kQ hb1
  refine wl (by kernel_rfl) fun kQ hkQ => ?_
  go_simp
  refine hkQ _ _ ?_
  clear hkQ kQ
  refine wl_look (by kernel_rfl) (.tmp 10) (.tmp 11) rfl rfl rfl hS.K.g.mp hz ?_
  simp [Act.put]
  refine wl (by kernel_rfl) fun kQ hkQ => ?_
  go_simp
  refine hkQ _ _ ?_
  clear hkQ kQ
  refine wl (by kernel_rfl) fun kQ hkQ => ?_
  go_simp
  refine hkQ _ _ ?_
  clear hkQ kQ
  refine wl (by kernel_rfl) fun kQ hkQ => ?_
  go_simp
  refine hkQ _ _ ?_
  clear hkQ kQ
  refine wl_alloc (by kernel_rfl) 32 rfl (msC 0 0 0 (.slice none 0 0)) Try.inD hS ?_
  clear hS
  intro g3 w3 hS
  simp [Act.put]
  refine wl_store (by kernel_rfl) 32 (.tmp 6) (.tmp 13) rfl 0 rfl 0 rfl (msC ((lkV ms z).i) ((lkV ms z).f) ((lkV ms z).t) ((lkV ms z).s.v)) (msC ((lkV ms z).i) ((lkV ms z).f) ((lkV ms z).t) ((lkV ms z).s.v)) (pt_D 0 0 0 (.slice none 0 0) ((lkV ms z).i) ((lkV ms z).f) ((lkV ms z).t) ((lkV ms z).s.v)) rfl (sz_D _ _ _ _) (one_D _ _ _ rfl) hS ?_
  clear hS
  intro w4 hS
  change Hs17 w0 ((g3, 32, (msC ((lkV ms z).i) ((lkV ms z).f) ((lkV ms z).t) ((lkV ms z).s.v))) :: (g1, 32, (msC 0 0 0 (.slice none 0 0))) :: rows) (BagW B gb mb ms ex last) w4 at hS
  simp [Act.put]
  refine wl (by kernel_rfl) fun kQ hkQ => ?_
  go_simp
  refine hkQ _ _ ?_
  clear hkQ kQ
  refine wpList_nil ?_
  go_upto_region 2 with fail
  refine wp_region_lit ?_
  refine wl_load (by kernel_rfl) 32 (.tmp 6) rfl 0 rfl 0 rfl (msC ((lkV ms z).i) ((lkV ms z).f) ((lkV ms z).t) ((lkV ms z).s.v)) (At.self _) Try.underlying32 rfl (sz_D _ _ _ _) hS ?_
  simp [Act.put]
  refine wl (by kernel_rfl) fun kQ hkQ => ?_
  go_simp
  refine (apart_any _ _ _ (lkV ms z).s _ (hS.K.body z).1 (by have := (hS.K.body z).2.1; omega)).mono ?_
  rintro e w5 ⟨s, rfl, hx, hO, hb1⟩
  replace hS := hS.bag (NoB.cons rfl (NoB.cons rfl hn)) hw (T := fun _ => False) (Buts.of_below hb1) (fun _ h9 => h9.elim) (hS.K.more hb1 ⟨(lkV ms z).i, (lkV ms z).f, (lkV ms z).t, s⟩ hO)
  clear hO
  refine hkQ _ _ ?_
  clear hkQ kQ hb1
  refine wl (by kernel_rfl) fun kQ hkQ => ?_
  go_simp
  refine hkQ _ _ ?_
  clear hkQ kQ
  refine wl_store (by kernel_rfl) 32 (.tmp 4) (.tmp 16) rfl 1 rfl 0 rfl (msC ((lkV ms z).i) ((lkV ms z).f) ((lkV ms z).t) s.v) (msC ((lkV ms z).i) ((lkV ms z).f) ((lkV ms z).t) s.v) (pt_D 0 0 0 (.slice none 0 0) ((lkV ms z).i) ((lkV ms z).f) ((lkV ms z).t) s.v) rfl (sz_D _ _ _ _) (one_D _ _ _ rfl) hS ?_
  clear hS
  intro w6 hS
  change Hs17 w0 ((g3, 32, (msC ((lkV ms z).i) ((lkV ms z).f) ((lkV ms z).t) ((lkV ms z).s.v))) :: (g1, 32, (msC ((lkV ms z).i) ((lkV ms z).f) ((lkV ms z).t) s.v)) :: rows) (BagW B gb mb ms (⟨(lkV ms z).i, (lkV ms z).f, (lkV ms z).t, s⟩ :: ex) last) w6 at hS
  simp [Act.put]
  refine wl (by kernel_rfl) fun kQ hkQ => ?_
  go_simp
  refine hkQ _ _ ?_
  clear hkQ kQ
  refine wpList_nil ?_
  go_wp2_with fail
  refine bodyPost_ret (res_ct rfl hS 1 rfl rfl Try.underlying32 rfl (sz_D _ _ _ _) _ rfl) rfl ?_
  replace hS := hS.sub ((((List.Sublist.refl _)).cons _).cons _)
  exact ⟨s, rfl, hx, hS⟩
set_option maxHeartbeats 4000000 in
set_option maxRecDepth 100000 in
theorem take_any (w0 : World) (rows : List Row) (B gb mb last : Nat) (ms ex : List Ms) (w : World) (hS : Hs17 w0 rows (BagW B gb mb ms ex last) w) (hn : NoB rows = true) (hw : w0.heap.size ≤ B) (z : Int) (hz : I64 z) :
    Calls Try.prog 11 #[.pointer (some ⟨gb, 0, none⟩), .int .i64 z] w fun e w' => e = .returned (.tuple #[aV (mC (lkV ms z)), .int .i64 (if lkB ms z = true then 0 else 240)]) ∧ Hs17 w0 rows (BagW B gb mb (dlM ms z) (lkV ms z :: ex) last) w' := by
  have hK := hS.K
  have hlo := hK.lo
  have hle : (dlM ms z).length ≤ 4096 := Nat.le_trans (List.length_filter_le _ _) hK.le
  have hid : ∀ m ∈ dlM ms z, 1 ≤ m.i ∧ m.i ≤ last := fun m hm => hK.id m (List.mem_filter.1 hm).1
  have hbl : ∀ m ∈ dlM ms z, m.s.xs.length ≤ 1024 := fun m hm => hK.bl m (List.mem_filter.1 hm).1
  clear hK
  replace hS := hS.bopen hn hw
  replace hn := NoB.u hn
  go_enter Try.func11, Try.ntmps11
  go_upto_region 0 with fail
  refine wp_region_lit ?_
  refine wl_alloc (by kernel_rfl) 32 rfl (msC 0 0 0 (.slice none 0 0)) Try.inD hS ?_
  clear hS
  intro g1 w1 hS
  simp [Act.put]
  refine wl (by kernel_rfl) fun kQ hkQ => ?_
  go_simp
  refine hkQ _ _ ?_
  clear hkQ kQ
  refine wpList_nil ?_
  go_upto_region 1 with fail
  refine wp_region_lit ?_
  refine wl (by kernel_rfl) fun kQ hkQ => ?_
  go_simp
  refine hkQ _ _ ?_
  clear hkQ kQ
  refine wl (by kernel_rfl) fun kQ hkQ => ?_
  go_simp
  refine (lying_any gb _ _ _ (hS.get 1 rfl)).mono ?_
  rintro e w2 ⟨rfl, hb1⟩
  replace hS := hS.later hb1
  refine hkQ _ _ ?_
  clear hkQ kQ hb1
  refine wl (by kernel_rfl) fun kQ hkQ => ?_
  go_simp
  refine hkQ _ _ ?_
  clear hkQ kQ
  refine wl (by kernel_rfl) fun kQ hkQ => ?_
  go_simp
  refine (stake_any w0 _ B mb ms ex z _ hS (NoU.cons rfl (NoU.cons rfl hn)) hw hz).mono ?_
  clear hS
  rintro e w3 ⟨rfl, hS⟩
  refine hkQ _ _ ?_
  clear hkQ kQ
  refine wl (by kernel_rfl) fun kQ hkQ => ?_
  go_simp
  refine hkQ _ _ ?_
  clear hkQ kQ
  refine wl (by kernel_rfl) fun kQ hkQ => ?_
  go_simp
  refine hkQ _ _ ?_
  clear hkQ kQ
  refine wl (by kernel_rfl) fun kQ hkQ => ?_
  go_simp
  refine hkQ _ _ ?_
  clear hkQ kQ
  refine wl_alloc (by kernel_rfl) 32 rfl (msC 0 0 0 (.slice none 0 0)) Try.inD hS ?_
  clear hS
  intro g4 w4 hS
  simp [Act.put]
  refine wl_store (by kernel_rfl) 32 (.tmp 6) (.tmp 13) rfl 0 rfl 0 rfl (msC ((lkV ms z).i) ((lkV ms z).f) ((lkV ms z).t) ((lkV ms z).s.v)) (msC ((lkV ms z).i) ((lkV ms z).f) ((lkV ms z).t) ((lkV ms z).s.v)) (pt_D 0 0 0 (.slice none 0 0) ((lkV ms z).i) ((lkV ms z).f) ((lkV ms z).t) ((lkV ms z).s.v)) rfl (sz_D _ _ _ _) (one_D _ _ _ rfl) hS ?_
  clear hS
  intro w5 hS
  change Hs17 w0 ((g4, 32, (msC ((lkV ms z).i) ((lkV ms z).f) ((lkV ms z).t) ((lkV ms z).s.v))) :: (g1, 32, (msC 0 0 0 (.slice none 0 0))) :: (gb, 67, (gbC (last : Int) (.map (some mb)))) :: rows) (Bgm B mb (dlM ms z) (lkV ms z :: ex)) w5 at hS
  simp [Act.put]
  refine wl (by kernel_rfl) fun kQ hkQ => ?_
  go_simp
  refine hkQ _ _ ?_
  clear hkQ kQ
  refine wpList_nil ?_
  by_cases hq : lkB ms z = true
  · skip
    have HQ := hide hq
    go_upto_region 4 with fail
    clear hq
    refine wp_region_lit ?_
    refine wl_load (by kernel_rfl) 32 (.tmp 6) rfl 0 rfl 0 rfl (msC ((lkV ms z).i) ((lkV ms z).f) ((lkV ms z).t) ((lkV ms z).s.v)) (At.self _) Try.underlying32 rfl (sz_D _ _ _ _) hS ?_
    simp [Act.put]
    refine wl_store (by kernel_rfl) 32 (.tmp 4) (.tmp 18) rfl 1 rfl 0 rfl (msC ((lkV ms z).i) ((lkV ms z).f) ((lkV ms z).t) ((lkV ms z).s.v)) (msC ((lkV ms z).i) ((lkV ms z).f) ((lkV ms z).t) ((lkV ms z).s.v)) (pt_D 0 0 0 (.slice none 0 0) ((lkV ms z).i) ((lkV ms z).f) ((lkV ms z).t) ((lkV ms z).s.v)) rfl (sz_D _ _ _ _) (one_D _ _ _ rfl) hS ?_
    clear hS
    intro w6 hS
    change Hs17 w0 ((g4, 32, (msC ((lkV ms z).i) ((lkV ms z).f) ((lkV ms z).t) ((lkV ms z).s.v))) :: (g1, 32, (msC ((lkV ms z).i) ((lkV ms z).f) ((lkV ms z).t) ((lkV ms z).s.v))) :: (gb, 67, (gbC (last : Int) (.map (some mb)))) :: rows) (Bgm B mb (dlM ms z) (lkV ms z :: ex)) w6 at hS
    simp [Act.put]
    refine wl (by kernel_rfl) fun kQ hkQ => ?_
    go_simp
    refine hkQ _ _ ?_
    clear hkQ kQ
    refine wpList_nil ?_
    go_wp2_with fail
    refine bodyPost_ret (res_ct rfl hS 1 rfl rfl Try.underlying32 rfl (sz_D _ _ _ _) _ rfl) rfl ?_
    replace hS := hS.sub (((((List.Sublist.refl _)).cons_cons _).cons _).cons _)
    exact ⟨rfl, hS.bclose hlo hle hid hbl⟩
  · skip
    have hq' : lkB ms z = false := by simpa using hq
    have HQ := hide hq
    clear hq
    go_upto_region 3 with fail
    have HZ := hide (lkB_no hq')
    clear hq'
    refine wp_region_lit ?_
    refine wv (aV (msC 0 0 0 (.slice none 0 0))) (by kernel_rfl) (ex_build 32 #[] rfl (msC 0 0 0 (.slice none 0 0)) b_d0 rfl) ?_
    simp [Act.put]
    refine wl_store (by kernel_rfl) 32 (.tmp 4) (.tmp 17) rfl 1 rfl 0 rfl (msC 0 0 0 (.slice none 0 0)) (msC 0 0 0 (.slice none 0 0)) (pt_D 0 0 0 (.slice none 0 0) 0 0 0 (.slice none 0 0)) rfl (sz_D _ _ _ _) (one_D _ _ _ rfl) hS ?_
    clear hS
    intro w6 hS
    change Hs17 w0 ((g4, 32, (msC ((lkV ms z).i) ((lkV ms z).f) ((lkV ms z).t) ((lkV ms z).s.v))) :: (g1, 32, (msC 0 0 0 (.slice none 0 0))) :: (gb, 67, (gbC (last : Int) (.map (some mb)))) :: rows) (Bgm B mb (dlM ms z) (lkV ms z :: ex)) w6 at hS
    simp [Act.put]
    refine wl (by kernel_rfl) fun kQ hkQ => ?_
    go_simp
    refine hkQ _ _ ?_
    clear hkQ kQ
    refine wpList_nil ?_
    go_wp2_with fail
    refine bodyPost_ret (res_ct rfl hS 1 rfl rfl Try.underlying32 rfl (sz_D _ _ _ _) _ rfl) rfl ?_
    replace hS := hS.sub (((((List.Sublist.refl _)).cons_cons _).cons _).cons _)
    exact ⟨by rw [unhide HZ]; rfl, hS.bclose hlo hle hid hbl⟩
/-- bytes that are there wherever the caller's rows are as they are -/
def Rd24 (w0 : World) (rows : List Row) (B mb : Nat) (ms ex : List Ms) (y : Sx Int) : Prop := ∀ w', Hs17 w0 rows (Bgm B mb ms ex) w' → Su w' y
set_option maxHeartbeats 4000000 in
set_option maxRecDepth 100000 in
theorem put_any (w0 : World) (rows : List Row) (B gb mb last : Nat) (ms ex : List Ms) (w : World) (hS : Hs17 w0 rows (BagW B gb mb ms ex last) w) (hn : NoB rows = true) (hw : w0.heap.size ≤ B) (i f t : Int) (y : Sx Int) (hy : Rd24 w0 rows B mb ms ex y) (hl : last ≤ 1000000000) :
    Calls Try.prog 9 #[.pointer (some ⟨gb, 0, none⟩), aV (msC i f t y.v)] w fun e w' => ∃ ms', e = .returned (.tuple #[.int .i64 (putN last ms.length y.xs.length), .int .i64 (putE ms.length y.xs.length)]) ∧ ms'.map Ms.p = putP (ms.map Ms.p) last f t y.xs ∧ Hs17 w0 rows (BagW B gb mb ms' ex (putL last ms.length y.xs.length)) w' := by
  have hBsz := hS.K.size
  have hK := hS.K
  have hlo := hK.lo
  have hle := hK.le
  have hid := hK.id
  have hbl := hK.bl
  clear hK
  replace hS := hS.bopen hn hw
  replace hn := NoB.u hn
  have hyl := (hy _ (hS.sub ((List.Sublist.refl _).cons _))).len
  unfold putN putP putL
  rw [List.length_map]
  rcases putE_cases ms.length y.xs.length with ⟨h1, hE⟩ | ⟨h1, h2, hE⟩ | ⟨h1, h2, hE⟩
  · have hP : ¬ ((1 : Int) = 0) := by decide
    simp only [hE, if_neg hP]
    have hc : (1024 : Int) < (y.n : Int) := by omega
    clear hE hP h1 hyl hy
    go_enter Try.func9, Try.ntmps9
    go_upto_region 0 with fail
    refine wp_region_lit ?_
    refine wl_box (by kernel_rfl) 32 (.tmp 1) rfl (msC i f t y.v) rfl hS ?_
    clear hS
    intro g1 w1 hS
    simp [Act.put]
    refine wl (by kernel_rfl) fun kQ hkQ => ?_
    go_simp
    refine hkQ _ _ ?_
    clear hkQ kQ
    refine wl (by kernel_rfl) fun kQ hkQ => ?_
    go_simp
    refine hkQ _ _ ?_
    clear hkQ kQ
    refine wpList_nil ?_
    go_upto_region 1 with fail
    refine wp_region_lit ?_
    refine wl (by kernel_rfl) fun kQ hkQ => ?_
    go_simp
    refine hkQ _ _ ?_
    clear hkQ kQ
    refine wl_load1 (by kernel_rfl) 27 (.tmp 6) rfl 0 rfl 3 rfl (y.v) (at_D3 i f t y.v) Try.underlying27 rfl hS ?_
    simp [Act.put]
    refine wl (by kernel_rfl) fun kQ hkQ => ?_
    go_simp
    refine hkQ _ _ ?_
    clear hkQ kQ
    refine wl (by kernel_rfl) fun kQ hkQ => ?_
    go_simp
    refine hkQ _ _ ?_
    clear hkQ kQ
    refine wpList_nil ?_
    go_wp2_with fail
    replace hS := hS.sub ((((List.Sublist.refl _)).cons_cons _).cons _)
    refine bodyPost_ret (results_tmp2 rfl _ _ _) rfl ?_
    exact ⟨ms, rfl, rfl, hS.bclose hlo hle hid hbl⟩
  · have hP : ¬ ((241 : Int) = 0) := by decide
    simp only [hE, if_neg hP]
    have hc : ¬ (1024 : Int) < (y.n : Int) := by omega
    have hms : ((4096 - ms.length : Nat) : Int) = 0 := by omega
    clear hE hP h1 hyl hy h2
    go_enter Try.func9, Try.ntmps9
    go_upto_region 0 with fail
    refine wp_region_lit ?_
    refine wl_box (by kernel_rfl) 32 (.tmp 1) rfl (msC i f t y.v) rfl hS ?_
    clear hS
    intro g1 w1 hS
    simp [Act.put]
    refine wl (by kernel_rfl) fun kQ hkQ => ?_
    go_simp
    refine hkQ _ _ ?_
    clear hkQ kQ
    refine wl (by kernel_rfl) fun kQ hkQ => ?_
    go_simp
    refine hkQ _ _ ?_
    clear hkQ kQ
    refine wpList_nil ?_
    go_upto_region 1 with fail
    refine wp_region_lit ?_
    refine wl (by kernel_rfl) fun kQ hkQ => ?_
    go_simp
    refine hkQ _ _ ?_
    clear hkQ kQ
    refine wl_load1 (by kernel_rfl) 27 (.tmp 6) rfl 0 rfl 3 rfl (y.v) (at_D3 i f t y.v) Try.underlying27 rfl hS ?_
    simp [Act.put]
    refine wl (by kernel_rfl) fun kQ hkQ => ?_
    go_simp
    refine hkQ _ _ ?_
    clear hkQ kQ
    refine wl (by kernel_rfl) fun kQ hkQ => ?_
    go_simp
    refine hkQ _ _ ?_
    clear hkQ kQ
    refine wpList_nil ?_
    go_upto_region 3 with fail
    clear hc
    refine wp_region_lit ?_
    refine wl (by kernel_rfl) fun kQ hkQ => ?_
    go_simp
    refine hkQ _ _ ?_
    clear hkQ kQ
    refine wl (by kernel_rfl) fun kQ hkQ => ?_
    go_simp
    refine (room_any gb mb last ms _ (hS.get 1 rfl) hS.K.mp hle).mono ?_
    rintro e w2 ⟨rfl, hb1⟩
    replace hS := hS.later hb1
    refine hkQ _ _ ?_
    clear hkQ kQ hb1
    rw [hms]
    refine wl (by kernel_rfl) fun kQ hkQ => ?_
    go_simp
    refine hkQ _ _ ?_
    clear hkQ kQ
    refine wpList_nil ?_
    go_wp2_with fail
    replace hS := hS.sub ((((List.Sublist.refl _)).cons_cons _).cons _)
    refine bodyPost_ret (results_tmp2 rfl _ _ _) rfl ?_
    exact ⟨ms, rfl, rfl, hS.bclose hlo hle hid hbl⟩
  · simp only [hE, if_true]
    have hc : ¬ (1024 : Int) < (y.n : Int) := by omega
    have hr : ¬ ((4096 - ms.length : Nat) : Int) = 0 := by omega
    have hyn : y.n ≤ 1048576 := by omega
    have e1 : IntKind.i64.wrap ((last : Int) + 1) = ((last + 1 : Nat) : Int) := by rw [show (last : Int) + 1 = ((last + 1 : Nat) : Int) by omega]; exact wi_of24 (by omega) (by omega)
    have hI : I64 ((last + 1 : Nat) : Int) := by unfold I64; omega
    have hlo2 : ∀ x ∈ ms, x.i < ((last + 1 : Nat) : Int) := fun x hx => by have := (hid x hx).2; omega
    obtain ⟨r, hrr⟩ : ∃ r : Int, ((4096 - ms.length : Nat) : Int) = r := ⟨_, rfl⟩
    rw [hrr] at hr
    have HRR := hide hrr
    obtain ⟨nx, hnx⟩ : ∃ nx : Int, ((last + 1 : Nat) : Int) = nx := ⟨_, rfl⟩
    have HNX := hide hnx
    rw [hnx] at e1 hI hlo2
    have HI := hide hI
    have HLO2 := hide hlo2
    have HB := hide hbl
    have HID := hide hid
    have H2 := hide h2
    have H1 := hide h1
    have HYL := hide hyl
    have HLE := hide hle
    have HYN := hide hyn
    clear hE h1 hyl h2 hrr hnx hlo2 hbl hid hI hle hl hyn
    rw [show (((last + 1 : Nat) : Int)) = nx from unhide HNX]
    go_enter Try.func9, Try.ntmps9
    go_upto_region 0 with fail
    refine wp_region_lit ?_
    refine wl_box (by kernel_rfl) 32 (.tmp 1) rfl (msC i f t y.v) rfl hS ?_
    clear hS
    intro g1 w1 hS
    simp [Act.put]
    refine wl (by kernel_rfl) fun kQ hkQ => ?_
    go_simp
    refine hkQ _ _ ?_
    clear hkQ kQ
    refine wl (by kernel_rfl) fun kQ hkQ => ?_
    go_simp
    refine hkQ _ _ ?_
    clear hkQ kQ
    refine wpList_nil ?_
    go_upto_region 1 with fail
    refine wp_region_lit ?_
    refine wl (by kernel_rfl) fun kQ hkQ => ?_
    go_simp
    refine hkQ _ _ ?_
    clear hkQ kQ
    refine wl_load1 (by kernel_rfl) 27 (.tmp 6) rfl 0 rfl 3 rfl (y.v) (at_D3 i f t y.v) Try.underlying27 rfl hS ?_
    simp [Act.put]
    refine wl (by kernel_rfl) fun kQ hkQ => ?_
    go_simp
    refine hkQ _ _ ?_
    clear hkQ kQ
    refine wl (by kernel_rfl) fun kQ hkQ => ?_
    go_simp
    refine hkQ _ _ ?_
    clear hkQ kQ
    refine wpList_nil ?_
    go_upto_region 3 with fail
    clear hc
    refine wp_region_lit ?_
    refine wl (by kernel_rfl) fun kQ hkQ => ?_
    go_simp
    refine hkQ _ _ ?_
    clear hkQ kQ
    refine wl (by kernel_rfl) fun kQ hkQ => ?_
    go_simp
    refine (room_any gb mb last ms _ (hS.get 1 rfl) hS.K.mp (unhide HLE)).mono ?_
    rintro e w2 ⟨rfl, hb1⟩
    replace hS := hS.later hb1
    refine hkQ _ _ ?_
    clear hkQ kQ hb1
    rw [unhide HRR]
    refine wl (by kernel_rfl) fun kQ hkQ => ?_
    go_simp
    refine hkQ _ _ ?_
    clear hkQ kQ
    refine wpList_nil ?_
    go_upto_region 5 with fail
    clear hr
    refine wp_region_lit ?_
    refine wl (by kernel_rfl) fun kQ hkQ => ?_
    go_simp
    refine hkQ _ _ ?_
    clear hkQ kQ
    refine wl (by kernel_rfl) fun kQ hkQ => ?_
    go_simp
    refine hkQ _ _ ?_
    clear hkQ kQ
    refine wl (by kernel_rfl) fun kQ hkQ => ?_
    go_simp
    refine hkQ _ _ ?_
    clear hkQ kQ
    refine wl_load1 (by kernel_rfl) 3 (.tmp 15) rfl 1 rfl 0 rfl (.int .i64 (last : Int)) (at_G0 (last : Int) (.map (some mb))) Try.underlying3 rfl hS ?_
    simp [Act.put]
    refine wl (by kernel_rfl) fun kQ hkQ => ?_
    go_simp
    refine hkQ _ _ ?_
    clear hkQ kQ
    refine wl (by kernel_rfl) fun kQ hkQ => ?_
    go_simp
    refine hkQ _ _ ?_
    clear hkQ kQ
    refine wl (by kernel_rfl) fun kQ hkQ => ?_
    go_simp
    refine hkQ _ _ ?_
    clear hkQ kQ
    refine wl_store (by kernel_rfl) 3 (.tmp 19) (.tmp 17) rfl 1 rfl 0 rfl [.int .i64 nx] (gbC nx (.map (some mb))) (pt_G0 (last : Int) (.map (some mb)) nx) rfl Try.j1i (one_one rfl) hS ?_
    clear hS
    intro w3 hS
    change Hs17 w0 ((g1, 32, (msC i f t y.v)) :: (gb, 67, (gbC nx (.map (some mb)))) :: rows) (Bgm B mb ms ex) w3 at hS
    simp [Act.put]
    refine wpList_nil ?_
    clear e1
    go_upto_region 6 with fail
    refine wp_region_lit ?_
    refine wl_load (by kernel_rfl) 32 (.tmp 3) rfl 0 rfl 0 rfl (msC i f t y.v) (At.self _) Try.underlying32 rfl (sz_D _ _ _ _) hS ?_
    simp [Act.put]
    refine wl (by kernel_rfl) fun kQ hkQ => ?_
    go_simp
    refine (apart_any i f t y _ (hy _ (hS.sub (((List.Sublist.refl _).cons _).cons _))) (unhide HYN)).mono ?_
    rintro e w4 ⟨s, rfl, hx, hO, hb1⟩
    replace hS := hS.bgm (NoU.cons rfl (NoU.cons rfl hn)) hw (T := fun _ => False) (Buts.of_below hb1) (fun _ h9 => h9.elim) (hS.K.more (by have h8 := hS.bel.size; have h9 := (hS.get 1 rfl).lt; omega) hb1 ⟨nx, f, t, s⟩ hO)
    clear hO
    refine hkQ _ _ ?_
    clear hkQ kQ hb1
    refine wl_store (by kernel_rfl) 32 (.tmp 3) (.tmp 21) rfl 0 rfl 0 rfl (msC i f t s.v) (msC i f t s.v) (pt_D i f t y.v i f t s.v) rfl (sz_D _ _ _ _) (one_D _ _ _ rfl) hS ?_
    clear hS
    intro w5 hS
    change Hs17 w0 ((g1, 32, (msC i f t s.v)) :: (gb, 67, (gbC nx (.map (some mb)))) :: rows) (Bgm B mb ms (⟨nx, f, t, s⟩ :: ex)) w5 at hS
    simp [Act.put]
    refine wpList_nil ?_
    go_upto_region 7 with fail
    refine wp_region_lit ?_
    refine wl (by kernel_rfl) fun kQ hkQ => ?_
    go_simp
    refine hkQ _ _ ?_
    clear hkQ kQ
    refine wl (by kernel_rfl) fun kQ hkQ => ?_
    go_simp
    refine hkQ _ _ ?_
    clear hkQ kQ
    refine wl (by kernel_rfl) fun kQ hkQ => ?_
    go_simp
    refine hkQ _ _ ?_
    clear hkQ kQ
    refine wl_load1 (by kernel_rfl) 3 (.tmp 24) rfl 1 rfl 0 rfl (.int .i64 nx) (at_G0 nx (.map (some mb))) Try.underlying3 rfl hS ?_
    simp [Act.put]
    refine wl (by kernel_rfl) fun kQ hkQ => ?_
    go_simp
    refine hkQ _ _ ?_
    clear hkQ kQ
    refine wl_store (by kernel_rfl) 3 (.tmp 26) (.tmp 25) rfl 0 rfl 0 rfl [.int .i64 nx] (msC nx f t s.v) (pt_D0 i f t s.v nx) rfl Try.j1i (one_one rfl) hS ?_
    clear hS
    intro w6 hS
    change Hs17 w0 ((g1, 32, (msC nx f t s.v)) :: (gb, 67, (gbC nx (.map (some mb)))) :: rows) (Bgm B mb ms (⟨nx, f, t, s⟩ :: ex)) w6 at hS
    simp [Act.put]
    refine wpList_nil ?_
    go_upto_region 8 with fail
    refine wp_region_noPanic ?_
    replace hS := hS.drew
    refine wp_region_held_drew (S := Hs17 w0 ((g1, 32, (msC nx f t s.v)) :: (gb, 67, (gbC nx (.map (some mb)))) :: rows) (fun _ => True)) (by kernel_rfl) (hS.weak (fun _ _ => trivial)) (fun hHeld => ?_)
    generalize World.drew _ = w7 at hS hHeld ⊢
    refine wpAnyH_take (i := 0) (oi := _) (v := .pointer (some ⟨gb, 0, none⟩)) rfl (by kernel_rfl) (by kernel_rfl) (by kernel_rfl) (fun _ _ _ h => h) (Or.inl ⟨by rfl, fun w hSw => by go_simp⟩) hHeld ?_
    simp [Act.put]
    refine wpAnyH_take (i := 1) (oi := _) (v := .pointer (some ⟨gb, 0, none⟩)) rfl (by kernel_rfl) (by kernel_rfl) (by kernel_rfl) (fun _ _ _ h => h) (Or.inl ⟨by rfl, fun w hSw => by go_simp⟩) hHeld ?_
    simp [Act.put]
    refine wpAnyH_take (i := 2) (oi := _) (v := .pointer (some ⟨gb, 1, none⟩)) rfl (by kernel_rfl) (by kernel_rfl) (by kernel_rfl) (fun _ _ _ h => h) (Or.inl ⟨by rfl, fun w hSw => by go_simp⟩) hHeld ?_
    simp [Act.put]
    refine wpAnyH_take (i := 3) (oi := _) (v := (.map (some mb))) rfl (by kernel_rfl) (by kernel_rfl) (by kernel_rfl) (fun _ _ _ h => h) (yl_load1 (by kernel_rfl) 65 (.tmp 29) rfl 1 rfl 1 rfl ((.map (some mb))) (at_G1 nx (.map (some mb))) Try.underlying65 rfl) hHeld ?_
    simp [Act.put]
    refine wpAnyH_take (i := 4) (oi := _) (v := .pointer (some ⟨g1, 0, none⟩)) rfl (by kernel_rfl) (by kernel_rfl) (by kernel_rfl) (fun _ _ _ h => h) (Or.inl ⟨by rfl, fun w hSw => by go_simp⟩) hHeld ?_
    simp [Act.put]
    refine wpAnyH_take (i := 5) (oi := _) (v := .int .i64 nx) rfl (by kernel_rfl) (by kernel_rfl) (by kernel_rfl) (fun _ _ _ h => h) (yl_load1 (by kernel_rfl) 3 (.tmp 31) rfl 0 rfl 0 rfl (.int .i64 nx) (at_D0 nx f t s.v) Try.underlying3 rfl) hHeld ?_
    simp [Act.put]
    refine wpAnyH_take (i := 6) (oi := _) (v := aV (msC nx f t s.v)) rfl (by kernel_rfl) (by kernel_rfl) (by kernel_rfl) (fun _ _ _ h => h) (yl_load (by kernel_rfl) 32 (.tmp 3) rfl 0 rfl 0 rfl (msC nx f t s.v) (At.self _) Try.underlying32 rfl (sz_D _ _ _ _)) hHeld ?_
    simp [Act.put]
    refine wpAnyH_ready (rs := [7]) (by kernel_rfl) (by simp) ?_
    refine (AllReadyH.cons rfl (fun kQ hkQ => ?_) AllReadyH.nil)
    refine dw (by kernel_rfl) (op_mput (m := ⟨nx, f, t, s⟩) (.tmp 30) (.tmp 32) (.tmp 33) rfl rfl rfl rfl hS (NoU.cons rfl (NoU.cons rfl hn)) hw (unhide HI) (unhide HLO2) (unhide HLE) ?_)
    clear hS hHeld
    intro w8 hS
    refine hkQ.out _ _ (hS.weak (fun _ _ => trivial)) (fun hHeld => ?_)
    clear hkQ kQ
    simp [Act.put]
    refine wpAnyH_done (by kernel_rfl) ?_ _
    unfold NoPanic
    clear hHeld
    go_upto_region 9 with fail
    refine wp_region_lit ?_
    refine wl (by kernel_rfl) fun kQ hkQ => ?_
    go_simp
    refine hkQ _ _ ?_
    clear hkQ kQ
    refine wl_load1 (by kernel_rfl) 3 (.tmp 34) rfl 0 rfl 0 rfl (.int .i64 nx) (at_D0 nx f t s.v) Try.underlying3 rfl hS ?_
    simp [Act.put]
    refine wl (by kernel_rfl) fun kQ hkQ => ?_
    go_simp
    refine hkQ _ _ ?_
    clear hkQ kQ
    refine wl (by kernel_rfl) fun kQ hkQ => ?_
    go_simp
    refine hkQ _ _ ?_
    clear hkQ kQ
    refine wpList_nil ?_
    go_wp2_with fail
    replace hS := hS.sub ((((List.Sublist.refl _)).cons_cons _).cons _)
    have hid' : ∀ m ∈ ms ++ [(⟨nx, f, t, s⟩ : Ms)], 1 ≤ m.i ∧ m.i ≤ ((last + 1 : Nat) : Int) := fun m hm => by
      have e := unhide HNX
      rcases List.mem_append.1 hm with hm | hm
      · have := unhide HID m hm; omega
      · rw [List.mem_singleton] at hm; subst hm; show 1 ≤ nx ∧ nx ≤ _; omega
    have hbl' : ∀ m ∈ ms ++ [(⟨nx, f, t, s⟩ : Ms)], m.s.xs.length ≤ 1024 := fun m hm => by
      rcases List.mem_append.1 hm with hm | hm
      · exact unhide HB m hm
      · rw [List.mem_singleton] at hm; subst hm; show s.xs.length ≤ 1024; rw [hx]; exact unhide H1
    have hle' : (ms ++ [(⟨nx, f, t, s⟩ : Ms)]).length ≤ 4096 := by have := unhide H2; simp; omega
    rw [← unhide HNX] at hS hid' hbl' hle' ⊢
    refine bodyPost_ret (results_tmp2 rfl _ _ _) rfl ?_
    refine ⟨ms ++ [⟨_, f, t, s⟩], rfl, ?_, hS.bclose hlo hle' hid' hbl'⟩
    rw [List.map_append, ← hx]; rfl
end Go.Proofs.Ytaepmfkdnjembaa
