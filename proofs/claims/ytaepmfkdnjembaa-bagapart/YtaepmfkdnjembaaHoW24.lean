import Derived.Test.YtaepmfkdnjembaaHxM
import Derived.Deep.DeepCutAuto
import Derived.Deep.QuietTactic
import Derived.BigQuiet
set_option linter.unusedSimpArgs false
set_option linter.unusedVariables false
namespace Go.Proofs.Ytaepmfkdnjembaa
open Go.RowKit

set_option maxHeartbeats 4000000 in
set_option maxRecDepth 100000 in
theorem holds_any (w : World) :
    Calls Try.prog 7 #[] w fun e w' => e = .returned (.bool true) ∧ Below w.heap.size w w' := by
  have hS := Hs17.begin w (fun _ => True) (fun _ _ => trivial)
  go_enter Try.func7, Try.ntmps7
  go_upto_region 1 with fail
  refine wp_region_lit ?_
  refine wl (by kernel_rfl) fun kQ hkQ => ?_
  go_simp
  refine (new_any _).mono ?_
  rintro e w1 ⟨gb, mb, rfl, hG, hb1⟩
  replace hS := hS.bag0 hG hb1
  clear hG
  refine hkQ _ _ ?_
  clear hkQ kQ hb1
  refine wl (by kernel_rfl) fun kQ hkQ => ?_
  go_simp
  refine hkQ _ _ ?_
  clear hkQ kQ
  refine wpList_nil ?_
  go_upto_region 4 with fail
  refine wp_region_lit ?_
  refine wl (by kernel_rfl) fun kQ hkQ => ?_
  go_simp
  refine hkQ _ _ ?_
  clear hkQ kQ
  refine wl_bs1u (by kernel_rfl) (.const (.int .u8 5)) rfl 5 rfl hS ?_
  clear hS
  intro g2 w2 hS
  simp [Act.put]
  replace hS := Hs17.rowEx (rows := []) (rowG_one g2 5) hS 0 0 0
  refine wv (aV (msC 0 1 2 (.slice (some ⟨g2, 0, none⟩) 1 1))) (by kernel_rfl) (ex_build 32 #[(1, .const (.int .i64 (1))), (2, .const (.int .i64 (2))), (3, .tmp 11)] rfl (msC 0 1 2 (.slice (some ⟨g2, 0, none⟩) 1 1)) (b_d3 1 2 (some ⟨g2, 0, none⟩) 1 1) rfl) ?_
  simp [Act.put]
  refine wl (by kernel_rfl) fun kQ hkQ => ?_
  go_simp
  refine (put_any w [] _ gb mb 0 [] _ _ hS rfl (Nat.le_refl _) 0 1 2 ⟨some ⟨g2, 0, none⟩, 1, 1, [5]⟩ (rd_ex (m := ⟨0, 0, 0, ⟨some ⟨g2, 0, none⟩, 1, 1, [5]⟩⟩) (List.mem_singleton.2 rfl)) (by omega)).mono ?_
  clear hS
  rintro e w3 ⟨ms', rfl, hp, hS⟩
  refine hkQ _ _ ?_
  clear hkQ kQ
  have e9 : ms'.map Ms.p = [⟨1, 1, 2, [5]⟩] := hp
  clear hp
  obtain ⟨m, rfl⟩ : ∃ m, ms' = [m] := by
    cases ms' with
    | nil => simp at e9
    | cons a r => cases r with
      | nil => exact ⟨a, rfl⟩
      | cons b q => simp at e9
  obtain ⟨mi, mf, mt, s⟩ := m
  simp only [List.map_cons, List.map_nil, Ms.p, List.cons.injEq, Pm.mk.injEq, and_true] at e9
  obtain ⟨rfl, rfl, rfl, hxs⟩ := e9
  replace hS := hS.fewer (List.nil_sublist _)
  refine wl (by kernel_rfl) fun kQ hkQ => ?_
  go_simp
  refine hkQ _ _ ?_
  clear hkQ kQ
  refine wl (by kernel_rfl) fun kQ hkQ => ?_
  go_simp
  refine hkQ _ _ ?_
  clear hkQ kQ
  refine wl (by kernel_rfl) fun kQ hkQ => ?_
  go_simp
  refine hkQ _ _ ?_
  clear hkQ kQ
  refine wl (by kernel_rfl) fun kQ hkQ => ?_
  go_simp
  refine hkQ _ _ ?_
  clear hkQ kQ
  refine wl (by kernel_rfl) fun kQ hkQ => ?_
  go_simp
  refine hkQ _ _ ?_
  clear hkQ kQ
  refine wpList_nil ?_
  go_upto_region 5 with fail
  refine wp_region_lit ?_
  refine wl (by kernel_rfl) fun kQ hkQ => ?_
  go_simp
  refine hkQ _ _ ?_
  clear hkQ kQ
  refine wl (by kernel_rfl) fun kQ hkQ => ?_
  go_simp
  refine (get_any w [] _ gb mb _ [⟨1, 1, 2, s⟩] [] _ hS rfl (Nat.le_refl _) 1 (by unfold I64; omega)).mono ?_
  clear hS
  rintro e w4 ⟨s2, rfl, hx2, hS⟩
  refine hkQ _ _ ?_
  clear hkQ kQ
  have e9 : s2.xs = [5] := hx2.trans hxs
  clear hx2
  change Hs17 w [] (BagW w.heap.size gb mb [⟨1, 1, 2, s⟩] [⟨1, 1, 2, s2⟩] _) w4 at hS
  refine wl (by kernel_rfl) fun kQ hkQ => ?_
  go_simp
  refine hkQ _ _ ?_
  clear hkQ kQ
  refine wl (by kernel_rfl) fun kQ hkQ => ?_
  go_simp
  refine hkQ _ _ ?_
  clear hkQ kQ
  refine wl (by kernel_rfl) fun kQ hkQ => ?_
  go_simp
  refine hkQ _ _ ?_
  clear hkQ kQ
  refine wl_alloc (by kernel_rfl) 32 rfl (msC 0 0 0 (.slice none 0 0)) Try.inD hS ?_
  clear hS
  intro g5 w5 hS
  simp [Act.put]
  refine wl_store (by kernel_rfl) 32 (.tmp 4) (.tmp 19) rfl 0 rfl 0 rfl (msC 1 1 2 s2.v) (msC 1 1 2 s2.v) (pt_D 0 0 0 (.slice none 0 0) 1 1 2 s2.v) rfl (sz_D _ _ _ _) (one_D _ _ _ rfl) hS ?_
  clear hS
  intro w6 hS
  change Hs17 w [(g5, 32, (msC 1 1 2 s2.v))] (BagW w.heap.size gb mb ([⟨1, 1, 2, s⟩]) ([⟨1, 1, 2, s2⟩]) (putL 0 ([] : List Ms).length 1)) w6 at hS
  simp [Act.put]
  refine wl (by kernel_rfl) fun kQ hkQ => ?_
  go_simp
  refine hkQ _ _ ?_
  clear hkQ kQ
  refine wpList_nil ?_
  go_upto_region 6 with fail
  refine wp_region_lit ?_
  refine wl (by kernel_rfl) fun kQ hkQ => ?_
  go_simp
  refine hkQ _ _ ?_
  clear hkQ kQ
  refine wl (by kernel_rfl) fun kQ hkQ => ?_
  go_simp
  refine hkQ _ _ ?_
  clear hkQ kQ
  refine wl (by kernel_rfl) fun kQ hkQ => ?_
  go_simp
  refine hkQ _ _ ?_
  clear hkQ kQ
  refine wl (by kernel_rfl) fun kQ hkQ => ?_
  go_simp
  refine hkQ _ _ ?_
  clear hkQ kQ
  refine wl (by kernel_rfl) fun kQ hkQ => ?_
  go_simp
  refine hkQ _ _ ?_
  clear hkQ kQ
  refine wl (by kernel_rfl) fun kQ hkQ => ?_
  go_simp
  refine hkQ _ _ ?_
  clear hkQ kQ
  refine wl (by kernel_rfl) fun kQ hkQ => ?_
  go_simp
  refine hkQ _ _ ?_
  clear hkQ kQ
  refine wl (by kernel_rfl) fun kQ hkQ => ?_
  go_simp
  refine hkQ _ _ ?_
  clear hkQ kQ
  refine wl (by kernel_rfl) fun kQ hkQ => ?_
  go_simp
  refine hkQ _ _ ?_
  clear hkQ kQ
  refine wl (by kernel_rfl) fun kQ hkQ => ?_
  go_simp
  refine hkQ _ _ ?_
  clear hkQ kQ
  refine wl (by kernel_rfl) fun kQ hkQ => ?_
  go_simp
  refine hkQ _ _ ?_
  clear hkQ kQ
  refine wl_load1 (by kernel_rfl) 3 (.tmp 31) rfl 0 rfl 2 rfl (.int .i64 2) (at_D2 1 1 2 s2.v) Try.underlying3 rfl hS ?_
  simp [Act.put]
  refine wl (by kernel_rfl) fun kQ hkQ => ?_
  go_simp
  refine hkQ _ _ ?_
  clear hkQ kQ
  refine wl (by kernel_rfl) fun kQ hkQ => ?_
  go_simp
  refine hkQ _ _ ?_
  clear hkQ kQ
  refine wl (by kernel_rfl) fun kQ hkQ => ?_
  go_simp
  refine hkQ _ _ ?_
  clear hkQ kQ
  refine wl (by kernel_rfl) fun kQ hkQ => ?_
  go_simp
  refine hkQ _ _ ?_
  clear hkQ kQ
  refine wl_load1 (by kernel_rfl) 27 (.tmp 36) rfl 0 rfl 3 rfl (s2.v) (at_D3 1 1 2 s2.v) Try.underlying27 rfl hS ?_
  simp [Act.put]
  refine wl_bs1u (by kernel_rfl) (.const (.int .u8 5)) rfl 5 rfl hS ?_
  clear hS
  intro g7 w7 hS
  simp [Act.put]
  refine wl (by kernel_rfl) fun kQ hkQ => ?_
  go_simp
  refine (same_t (a := s2) (b := ⟨some ⟨g7, 0, none⟩, 1, 1, [5]⟩) (Ou.ok (hS.K.g.bd ⟨1, 1, 2, s2⟩ (by simp))) (sx_one (f := uC) hS) (by have := (Ou.ok (hS.K.g.bd ⟨1, 1, 2, s2⟩ (by simp))).len; rw [e9] at this; simp at this; omega) e9).mono ?_
  rintro e w8 ⟨rfl, hb1⟩
  replace hS := hS.later hb1
  refine hkQ _ _ ?_
  clear hkQ kQ hb1
  refine wl (by kernel_rfl) fun kQ hkQ => ?_
  go_simp
  refine hkQ _ _ ?_
  clear hkQ kQ
  refine wl (by kernel_rfl) fun kQ hkQ => ?_
  go_simp
  refine hkQ _ _ ?_
  clear hkQ kQ
  refine wl (by kernel_rfl) fun kQ hkQ => ?_
  go_simp
  refine hkQ _ _ ?_
  clear hkQ kQ
  refine wl (by kernel_rfl) fun kQ hkQ => ?_
  go_simp
  refine (len_any gb mb _ [⟨1, 1, 2, s⟩] _ hS.K.st hS.K.g.mp).mono ?_
  rintro e w9 ⟨rfl, hb1⟩
  replace hS := hS.later hb1
  refine hkQ _ _ ?_
  clear hkQ kQ hb1
  refine wl (by kernel_rfl) fun kQ hkQ => ?_
  go_simp
  refine hkQ _ _ ?_
  clear hkQ kQ
  refine wl (by kernel_rfl) fun kQ hkQ => ?_
  go_simp
  refine hkQ _ _ ?_
  clear hkQ kQ
  refine wl (by kernel_rfl) fun kQ hkQ => ?_
  go_simp
  refine hkQ _ _ ?_
  clear hkQ kQ
  refine wl (by kernel_rfl) fun kQ hkQ => ?_
  go_simp
  refine hkQ _ _ ?_
  clear hkQ kQ
  refine wl (by kernel_rfl) fun kQ hkQ => ?_
  go_simp
  refine (room_any gb mb _ [⟨1, 1, 2, s⟩] _ hS.K.st hS.K.g.mp hS.K.le).mono ?_
  rintro e w10 ⟨rfl, hb1⟩
  replace hS := hS.later hb1
  refine hkQ _ _ ?_
  clear hkQ kQ hb1
  refine wl (by kernel_rfl) fun kQ hkQ => ?_
  go_simp
  refine hkQ _ _ ?_
  clear hkQ kQ
  refine wl (by kernel_rfl) fun kQ hkQ => ?_
  go_simp
  refine hkQ _ _ ?_
  clear hkQ kQ
  refine wl (by kernel_rfl) fun kQ hkQ => ?_
  go_simp
  refine hkQ _ _ ?_
  clear hkQ kQ
  refine wpList_nil ?_
  go_wp2_with fail
  go_ret
  exact ⟨rfl, hS.bel⟩
end Go.Proofs.Ytaepmfkdnjembaa
