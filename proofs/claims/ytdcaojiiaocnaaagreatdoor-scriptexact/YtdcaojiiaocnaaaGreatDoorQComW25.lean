import Derived.Test.YtdcaojiiaocnaaaGreatDoorQComM25
import Derived.Deep.DeepCutAuto
import Derived.Deep.QuietTactic
import Derived.BigQuiet
set_option linter.unusedSimpArgs false
set_option linter.unusedVariables false
namespace Go.Proofs.YtdcaojiiaocnaaaGreatDoor
open Go.RowKit

set_option maxHeartbeats 4000000 in
set_option maxRecDepth 100000 in
theorem commands_any (w : World) : Calls Tryz.prog 47 #[] w fun e w' => ∃ g, e = .returned (.slice (some ⟨g, 0, none⟩) 21 21) ∧ CT w.heap.size g w' ∧ Below w.heap.size w w' := by
  have hS := Hs17.start0 w
  go_enter Tryz.func47, Tryz.ntmps47
  go_upto_region 0 with fail
  refine wp_region_lit ?_
  refine wl (by kernel_rfl) fun kQ hkQ => ?_
  go_simp
  refine hkQ _ _ ?_
  clear hkQ kQ
  refine wpList_nil ?_
  go_upto_region 1 with fail
  refine wp_region_lit ?_
  refine wl_bsF (by kernel_rfl) 68 73 3 _ rfl [.int .i64 0, .int .i64 2, .int .i64 3] rfl rfl Tryz.underlying68 Tryz.infoFl (by intro v hv; simp at hv; rcases hv with rfl | rfl | rfl <;> rfl) (Nat.le_of_ble_eq_true (by kernel_rfl)) (Nat.le_of_ble_eq_true (by kernel_rfl)) (([0, 2, 3] : List Int).flatMap iC) rfl hS ?_
  clear hS
  intro g1 w1 hS
  simp [Act.put]
  refine wv (aV (cdC (.string { data := #[98, 117, 121] }) 1 (.slice (some ⟨g1, 0, none⟩) 3 3))) (by kernel_rfl) (ex_build 70 #[(0, .const (.string { data := #[98, 117, 121] })), (1, .const (.int .i64 1)), (2, .tmp 1)] rfl (cdC (.string { data := #[98, 117, 121] }) 1 (.slice (some ⟨g1, 0, none⟩) 3 3)) (b_D _ _ _ _ _) rfl) ?_
  simp [Act.put]
  refine wl_bsF (by kernel_rfl) 68 73 3 _ rfl [.int .i64 0, .int .i64 2, .int .i64 1] rfl rfl Tryz.underlying68 Tryz.infoFl (by intro v hv; simp at hv; rcases hv with rfl | rfl | rfl <;> rfl) (Nat.le_of_ble_eq_true (by kernel_rfl)) (Nat.le_of_ble_eq_true (by kernel_rfl)) (([0, 2, 1] : List Int).flatMap iC) rfl hS ?_
  clear hS
  intro g2 w2 hS
  simp [Act.put]
  refine wv (aV (cdC (.string { data := #[114, 105, 100, 101] }) 2 (.slice (some ⟨g2, 0, none⟩) 3 3))) (by kernel_rfl) (ex_build 70 #[(0, .const (.string { data := #[114, 105, 100, 101] })), (1, .const (.int .i64 2)), (2, .tmp 3)] rfl (cdC (.string { data := #[114, 105, 100, 101] }) 2 (.slice (some ⟨g2, 0, none⟩) 3 3)) (b_D _ _ _ _ _) rfl) ?_
  simp [Act.put]
  refine wl_bsF (by kernel_rfl) 68 73 2 _ rfl [.int .i64 0, .int .i64 1] rfl rfl Tryz.underlying68 Tryz.infoFl (by intro v hv; simp at hv; rcases hv with rfl | rfl <;> rfl) (Nat.le_of_ble_eq_true (by kernel_rfl)) (Nat.le_of_ble_eq_true (by kernel_rfl)) (([0, 1] : List Int).flatMap iC) rfl hS ?_
  clear hS
  intro g3 w3 hS
  simp [Act.put]
  refine wv (aV (cdC (.string { data := #[103, 111, 115, 115, 105, 112] }) 3 (.slice (some ⟨g3, 0, none⟩) 2 2))) (by kernel_rfl) (ex_build 70 #[(0, .const (.string { data := #[103, 111, 115, 115, 105, 112] })), (1, .const (.int .i64 3)), (2, .tmp 5)] rfl (cdC (.string { data := #[103, 111, 115, 115, 105, 112] }) 3 (.slice (some ⟨g3, 0, none⟩) 2 2)) (b_D _ _ _ _ _) rfl) ?_
  simp [Act.put]
  refine wl_bsF (by kernel_rfl) 68 73 2 _ rfl [.int .i64 0, .int .i64 1] rfl rfl Tryz.underlying68 Tryz.infoFl (by intro v hv; simp at hv; rcases hv with rfl | rfl <;> rfl) (Nat.le_of_ble_eq_true (by kernel_rfl)) (Nat.le_of_ble_eq_true (by kernel_rfl)) (([0, 1] : List Int).flatMap iC) rfl hS ?_
  clear hS
  intro g4 w4 hS
  simp [Act.put]
  refine wv (aV (cdC (.string { data := #[115, 121, 110, 99] }) 4 (.slice (some ⟨g4, 0, none⟩) 2 2))) (by kernel_rfl) (ex_build 70 #[(0, .const (.string { data := #[115, 121, 110, 99] })), (1, .const (.int .i64 4)), (2, .tmp 7)] rfl (cdC (.string { data := #[115, 121, 110, 99] }) 4 (.slice (some ⟨g4, 0, none⟩) 2 2)) (b_D _ _ _ _ _) rfl) ?_
  simp [Act.put]
  refine wl_bsF (by kernel_rfl) 68 73 1 _ rfl [.int .i64 2] rfl rfl Tryz.underlying68 Tryz.infoFl (by intro v hv; simp at hv; subst hv; rfl) (Nat.le_of_ble_eq_true (by kernel_rfl)) (Nat.le_of_ble_eq_true (by kernel_rfl)) (([2] : List Int).flatMap iC) rfl hS ?_
  clear hS
  intro g5 w5 hS
  simp [Act.put]
  refine wv (aV (cdC (.string { data := #[102, 114, 101, 101, 122, 101] }) 5 (.slice (some ⟨g5, 0, none⟩) 1 1))) (by kernel_rfl) (ex_build 70 #[(0, .const (.string { data := #[102, 114, 101, 101, 122, 101] })), (1, .const (.int .i64 5)), (2, .tmp 9)] rfl (cdC (.string { data := #[102, 114, 101, 101, 122, 101] }) 5 (.slice (some ⟨g5, 0, none⟩) 1 1)) (b_D _ _ _ _ _) rfl) ?_
  simp [Act.put]
  refine wl_bsF (by kernel_rfl) 68 73 1 _ rfl [.int .i64 2] rfl rfl Tryz.underlying68 Tryz.infoFl (by intro v hv; simp at hv; subst hv; rfl) (Nat.le_of_ble_eq_true (by kernel_rfl)) (Nat.le_of_ble_eq_true (by kernel_rfl)) (([2] : List Int).flatMap iC) rfl hS ?_
  clear hS
  intro g6 w6 hS
  simp [Act.put]
  refine wv (aV (cdC (.string { data := #[112, 97, 121] }) 6 (.slice (some ⟨g6, 0, none⟩) 1 1))) (by kernel_rfl) (ex_build 70 #[(0, .const (.string { data := #[112, 97, 121] })), (1, .const (.int .i64 6)), (2, .tmp 11)] rfl (cdC (.string { data := #[112, 97, 121] }) 6 (.slice (some ⟨g6, 0, none⟩) 1 1)) (b_D _ _ _ _ _) rfl) ?_
  simp [Act.put]
  refine wl_bsF (by kernel_rfl) 68 73 1 _ rfl [.int .i64 2] rfl rfl Tryz.underlying68 Tryz.infoFl (by intro v hv; simp at hv; subst hv; rfl) (Nat.le_of_ble_eq_true (by kernel_rfl)) (Nat.le_of_ble_eq_true (by kernel_rfl)) (([2] : List Int).flatMap iC) rfl hS ?_
  clear hS
  intro g7 w7 hS
  simp [Act.put]
  refine wv (aV (cdC (.string { data := #[114, 101, 118, 111, 107, 101] }) 7 (.slice (some ⟨g7, 0, none⟩) 1 1))) (by kernel_rfl) (ex_build 70 #[(0, .const (.string { data := #[114, 101, 118, 111, 107, 101] })), (1, .const (.int .i64 7)), (2, .tmp 13)] rfl (cdC (.string { data := #[114, 101, 118, 111, 107, 101] }) 7 (.slice (some ⟨g7, 0, none⟩) 1 1)) (b_D _ _ _ _ _) rfl) ?_
  simp [Act.put]
  refine wl_bsF (by kernel_rfl) 68 73 1 _ rfl [.int .i64 2] rfl rfl Tryz.underlying68 Tryz.infoFl (by intro v hv; simp at hv; subst hv; rfl) (Nat.le_of_ble_eq_true (by kernel_rfl)) (Nat.le_of_ble_eq_true (by kernel_rfl)) (([2] : List Int).flatMap iC) rfl hS ?_
  clear hS
  intro g8 w8 hS
  simp [Act.put]
  refine wv (aV (cdC (.string { data := #[102, 108, 111, 111, 114] }) 8 (.slice (some ⟨g8, 0, none⟩) 1 1))) (by kernel_rfl) (ex_build 70 #[(0, .const (.string { data := #[102, 108, 111, 111, 114] })), (1, .const (.int .i64 8)), (2, .tmp 15)] rfl (cdC (.string { data := #[102, 108, 111, 111, 114] }) 8 (.slice (some ⟨g8, 0, none⟩) 1 1)) (b_D _ _ _ _ _) rfl) ?_
  simp [Act.put]
  refine wl_bsF (by kernel_rfl) 68 73 1 _ rfl [.int .i64 2] rfl rfl Tryz.underlying68 Tryz.infoFl (by intro v hv; simp at hv; subst hv; rfl) (Nat.le_of_ble_eq_true (by kernel_rfl)) (Nat.le_of_ble_eq_true (by kernel_rfl)) (([2] : List Int).flatMap iC) rfl hS ?_
  clear hS
  intro g9 w9 hS
  simp [Act.put]
  refine wv (aV (cdC (.string { data := #[100, 101, 108, 105, 118, 101, 114] }) 9 (.slice (some ⟨g9, 0, none⟩) 1 1))) (by kernel_rfl) (ex_build 70 #[(0, .const (.string { data := #[100, 101, 108, 105, 118, 101, 114] })), (1, .const (.int .i64 9)), (2, .tmp 17)] rfl (cdC (.string { data := #[100, 101, 108, 105, 118, 101, 114] }) 9 (.slice (some ⟨g9, 0, none⟩) 1 1)) (b_D _ _ _ _ _) rfl) ?_
  simp [Act.put]
  refine wl_bsF (by kernel_rfl) 68 73 1 _ rfl [.int .i64 2] rfl rfl Tryz.underlying68 Tryz.infoFl (by intro v hv; simp at hv; subst hv; rfl) (Nat.le_of_ble_eq_true (by kernel_rfl)) (Nat.le_of_ble_eq_true (by kernel_rfl)) (([2] : List Int).flatMap iC) rfl hS ?_
  clear hS
  intro g10 w10 hS
  simp [Act.put]
  refine wv (aV (cdC (.string { data := #[100, 114, 111, 112] }) 10 (.slice (some ⟨g10, 0, none⟩) 1 1))) (by kernel_rfl) (ex_build 70 #[(0, .const (.string { data := #[100, 114, 111, 112] })), (1, .const (.int .i64 10)), (2, .tmp 19)] rfl (cdC (.string { data := #[100, 114, 111, 112] }) 10 (.slice (some ⟨g10, 0, none⟩) 1 1)) (b_D _ _ _ _ _) rfl) ?_
  simp [Act.put]
  refine wl_bsF (by kernel_rfl) 68 73 1 _ rfl [.int .i64 2] rfl rfl Tryz.underlying68 Tryz.infoFl (by intro v hv; simp at hv; subst hv; rfl) (Nat.le_of_ble_eq_true (by kernel_rfl)) (Nat.le_of_ble_eq_true (by kernel_rfl)) (([2] : List Int).flatMap iC) rfl hS ?_
  clear hS
  intro g11 w11 hS
  simp [Act.put]
  refine wv (aV (cdC (.string { data := #[100, 111, 117, 98, 108, 101] }) 11 (.slice (some ⟨g11, 0, none⟩) 1 1))) (by kernel_rfl) (ex_build 70 #[(0, .const (.string { data := #[100, 111, 117, 98, 108, 101] })), (1, .const (.int .i64 11)), (2, .tmp 21)] rfl (cdC (.string { data := #[100, 111, 117, 98, 108, 101] }) 11 (.slice (some ⟨g11, 0, none⟩) 1 1)) (b_D _ _ _ _ _) rfl) ?_
  simp [Act.put]
  refine wl_bsF (by kernel_rfl) 68 73 2 _ rfl [.int .i64 0, .int .i64 4] rfl rfl Tryz.underlying68 Tryz.infoFl (by intro v hv; simp at hv; rcases hv with rfl | rfl <;> rfl) (Nat.le_of_ble_eq_true (by kernel_rfl)) (Nat.le_of_ble_eq_true (by kernel_rfl)) (([0, 4] : List Int).flatMap iC) rfl hS ?_
  clear hS
  intro g12 w12 hS
  simp [Act.put]
  refine wv (aV (cdC (.string { data := #[105, 110, 106, 101, 99, 116] }) 12 (.slice (some ⟨g12, 0, none⟩) 2 2))) (by kernel_rfl) (ex_build 70 #[(0, .const (.string { data := #[105, 110, 106, 101, 99, 116] })), (1, .const (.int .i64 12)), (2, .tmp 23)] rfl (cdC (.string { data := #[105, 110, 106, 101, 99, 116] }) 12 (.slice (some ⟨g12, 0, none⟩) 2 2)) (b_D _ _ _ _ _) rfl) ?_
  simp [Act.put]
  refine wl_bsF (by kernel_rfl) 68 73 3 _ rfl [.int .i64 0, .int .i64 2, .int .i64 1] rfl rfl Tryz.underlying68 Tryz.infoFl (by intro v hv; simp at hv; rcases hv with rfl | rfl | rfl <;> rfl) (Nat.le_of_ble_eq_true (by kernel_rfl)) (Nat.le_of_ble_eq_true (by kernel_rfl)) (([0, 2, 1] : List Int).flatMap iC) rfl hS ?_
  clear hS
  intro g13 w13 hS
  simp [Act.put]
  refine wv (aV (cdC (.string { data := #[99, 114, 97, 115, 104] }) 13 (.slice (some ⟨g13, 0, none⟩) 3 3))) (by kernel_rfl) (ex_build 70 #[(0, .const (.string { data := #[99, 114, 97, 115, 104] })), (1, .const (.int .i64 13)), (2, .tmp 25)] rfl (cdC (.string { data := #[99, 114, 97, 115, 104] }) 13 (.slice (some ⟨g13, 0, none⟩) 3 3)) (b_D _ _ _ _ _) rfl) ?_
  simp [Act.put]
  refine wl_bsF (by kernel_rfl) 68 73 1 _ rfl [.int .i64 0] rfl rfl Tryz.underlying68 Tryz.infoFl (by intro v hv; simp at hv; subst hv; rfl) (Nat.le_of_ble_eq_true (by kernel_rfl)) (Nat.le_of_ble_eq_true (by kernel_rfl)) (([0] : List Int).flatMap iC) rfl hS ?_
  clear hS
  intro g14 w14 hS
  simp [Act.put]
  refine wv (aV (cdC (.string { data := #[114, 101, 115, 116, 97, 114, 116] }) 14 (.slice (some ⟨g14, 0, none⟩) 1 1))) (by kernel_rfl) (ex_build 70 #[(0, .const (.string { data := #[114, 101, 115, 116, 97, 114, 116] })), (1, .const (.int .i64 14)), (2, .tmp 27)] rfl (cdC (.string { data := #[114, 101, 115, 116, 97, 114, 116] }) 14 (.slice (some ⟨g14, 0, none⟩) 1 1)) (b_D _ _ _ _ _) rfl) ?_
  simp [Act.put]
  refine wv (aV (cdC (.string { data := #[104, 101, 97, 100] }) 15 (.slice none 0 0))) (by kernel_rfl) (ex_build 70 #[(0, .const (.string { data := #[104, 101, 97, 100] })), (1, .const (.int .i64 15)), (2, .const (.slice none 0 0))] rfl (cdC (.string { data := #[104, 101, 97, 100] }) 15 (.slice none 0 0)) (b_D _ _ _ _ _) rfl) ?_
  simp [Act.put]
  refine wl_bsF (by kernel_rfl) 68 73 2 _ rfl [.int .i64 0, .int .i64 2] rfl rfl Tryz.underlying68 Tryz.infoFl (by intro v hv; simp at hv; rcases hv with rfl | rfl <;> rfl) (Nat.le_of_ble_eq_true (by kernel_rfl)) (Nat.le_of_ble_eq_true (by kernel_rfl)) (([0, 2] : List Int).flatMap iC) rfl hS ?_
  clear hS
  intro g15 w15 hS
  simp [Act.put]
  refine wv (aV (cdC (.string { data := #[114, 111, 119] }) 16 (.slice (some ⟨g15, 0, none⟩) 2 2))) (by kernel_rfl) (ex_build 70 #[(0, .const (.string { data := #[114, 111, 119] })), (1, .const (.int .i64 16)), (2, .tmp 30)] rfl (cdC (.string { data := #[114, 111, 119] }) 16 (.slice (some ⟨g15, 0, none⟩) 2 2)) (b_D _ _ _ _ _) rfl) ?_
  simp [Act.put]
  refine wl_bsF (by kernel_rfl) 68 73 1 _ rfl [.int .i64 2] rfl rfl Tryz.underlying68 Tryz.infoFl (by intro v hv; simp at hv; subst hv; rfl) (Nat.le_of_ble_eq_true (by kernel_rfl)) (Nat.le_of_ble_eq_true (by kernel_rfl)) (([2] : List Int).flatMap iC) rfl hS ?_
  clear hS
  intro g16 w16 hS
  simp [Act.put]
  refine wv (aV (cdC (.string { data := #[99, 97, 114, 110, 101, 116] }) 17 (.slice (some ⟨g16, 0, none⟩) 1 1))) (by kernel_rfl) (ex_build 70 #[(0, .const (.string { data := #[99, 97, 114, 110, 101, 116] })), (1, .const (.int .i64 17)), (2, .tmp 32)] rfl (cdC (.string { data := #[99, 97, 114, 110, 101, 116] }) 17 (.slice (some ⟨g16, 0, none⟩) 1 1)) (b_D _ _ _ _ _) rfl) ?_
  simp [Act.put]
  refine wl_bsF (by kernel_rfl) 68 73 2 _ rfl [.int .i64 0, .int .i64 2] rfl rfl Tryz.underlying68 Tryz.infoFl (by intro v hv; simp at hv; rcases hv with rfl | rfl <;> rfl) (Nat.le_of_ble_eq_true (by kernel_rfl)) (Nat.le_of_ble_eq_true (by kernel_rfl)) (([0, 2] : List Int).flatMap iC) rfl hS ?_
  clear hS
  intro g17 w17 hS
  simp [Act.put]
  refine wv (aV (cdC (.string { data := #[112, 117, 114, 115, 101] }) 18 (.slice (some ⟨g17, 0, none⟩) 2 2))) (by kernel_rfl) (ex_build 70 #[(0, .const (.string { data := #[112, 117, 114, 115, 101] })), (1, .const (.int .i64 18)), (2, .tmp 34)] rfl (cdC (.string { data := #[112, 117, 114, 115, 101] }) 18 (.slice (some ⟨g17, 0, none⟩) 2 2)) (b_D _ _ _ _ _) rfl) ?_
  simp [Act.put]
  refine wv (aV (cdC (.string { data := #[109, 111, 110, 101, 121] }) 19 (.slice none 0 0))) (by kernel_rfl) (ex_build 70 #[(0, .const (.string { data := #[109, 111, 110, 101, 121] })), (1, .const (.int .i64 19)), (2, .const (.slice none 0 0))] rfl (cdC (.string { data := #[109, 111, 110, 101, 121] }) 19 (.slice none 0 0)) (b_D _ _ _ _ _) rfl) ?_
  simp [Act.put]
  refine wv (aV (cdC (.string { data := #[98, 97, 103] }) 20 (.slice none 0 0))) (by kernel_rfl) (ex_build 70 #[(0, .const (.string { data := #[98, 97, 103] })), (1, .const (.int .i64 20)), (2, .const (.slice none 0 0))] rfl (cdC (.string { data := #[98, 97, 103] }) 20 (.slice none 0 0)) (b_D _ _ _ _ _) rfl) ?_
  simp [Act.put]
  refine wv (aV (cdC (.string { data := #[115, 116, 97, 116, 101] }) 21 (.slice none 0 0))) (by kernel_rfl) (ex_build 70 #[(0, .const (.string { data := #[115, 116, 97, 116, 101] })), (1, .const (.int .i64 21)), (2, .const (.slice none 0 0))] rfl (cdC (.string { data := #[115, 116, 97, 116, 101] }) 21 (.slice none 0 0)) (b_D _ _ _ _ _) rfl) ?_
  simp [Act.put]
  refine wl_bsF (by kernel_rfl) 108 70 21 _ rfl [aV (cdC (.string { data := #[98, 117, 121] }) 1 (.slice (some ⟨g1, 0, none⟩) 3 3)), aV (cdC (.string { data := #[114, 105, 100, 101] }) 2 (.slice (some ⟨g2, 0, none⟩) 3 3)), aV (cdC (.string { data := #[103, 111, 115, 115, 105, 112] }) 3 (.slice (some ⟨g3, 0, none⟩) 2 2)), aV (cdC (.string { data := #[115, 121, 110, 99] }) 4 (.slice (some ⟨g4, 0, none⟩) 2 2)), aV (cdC (.string { data := #[102, 114, 101, 101, 122, 101] }) 5 (.slice (some ⟨g5, 0, none⟩) 1 1)), aV (cdC (.string { data := #[112, 97, 121] }) 6 (.slice (some ⟨g6, 0, none⟩) 1 1)), aV (cdC (.string { data := #[114, 101, 118, 111, 107, 101] }) 7 (.slice (some ⟨g7, 0, none⟩) 1 1)), aV (cdC (.string { data := #[102, 108, 111, 111, 114] }) 8 (.slice (some ⟨g8, 0, none⟩) 1 1)), aV (cdC (.string { data := #[100, 101, 108, 105, 118, 101, 114] }) 9 (.slice (some ⟨g9, 0, none⟩) 1 1)), aV (cdC (.string { data := #[100, 114, 111, 112] }) 10 (.slice (some ⟨g10, 0, none⟩) 1 1)), aV (cdC (.string { data := #[100, 111, 117, 98, 108, 101] }) 11 (.slice (some ⟨g11, 0, none⟩) 1 1)), aV (cdC (.string { data := #[105, 110, 106, 101, 99, 116] }) 12 (.slice (some ⟨g12, 0, none⟩) 2 2)), aV (cdC (.string { data := #[99, 114, 97, 115, 104] }) 13 (.slice (some ⟨g13, 0, none⟩) 3 3)), aV (cdC (.string { data := #[114, 101, 115, 116, 97, 114, 116] }) 14 (.slice (some ⟨g14, 0, none⟩) 1 1)), aV (cdC (.string { data := #[104, 101, 97, 100] }) 15 (.slice none 0 0)), aV (cdC (.string { data := #[114, 111, 119] }) 16 (.slice (some ⟨g15, 0, none⟩) 2 2)), aV (cdC (.string { data := #[99, 97, 114, 110, 101, 116] }) 17 (.slice (some ⟨g16, 0, none⟩) 1 1)), aV (cdC (.string { data := #[112, 117, 114, 115, 101] }) 18 (.slice (some ⟨g17, 0, none⟩) 2 2)), aV (cdC (.string { data := #[109, 111, 110, 101, 121] }) 19 (.slice none 0 0)), aV (cdC (.string { data := #[98, 97, 103] }) 20 (.slice none 0 0)), aV (cdC (.string { data := #[115, 116, 97, 116, 101] }) 21 (.slice none 0 0))] rfl rfl Tryz.underlying108 Tryz.infoCd (by intro v hv; simp at hv; rcases hv with rfl | rfl | rfl | rfl | rfl | rfl | rfl | rfl | rfl | rfl | rfl | rfl | rfl | rfl | rfl | rfl | rfl | rfl | rfl | rfl | rfl <;> rfl) (Nat.le_of_ble_eq_true (by kernel_rfl)) (Nat.le_of_ble_eq_true (by kernel_rfl)) (([aV (cdC (.string { data := #[98, 117, 121] }) 1 (.slice (some ⟨g1, 0, none⟩) 3 3)), aV (cdC (.string { data := #[114, 105, 100, 101] }) 2 (.slice (some ⟨g2, 0, none⟩) 3 3)), aV (cdC (.string { data := #[103, 111, 115, 115, 105, 112] }) 3 (.slice (some ⟨g3, 0, none⟩) 2 2)), aV (cdC (.string { data := #[115, 121, 110, 99] }) 4 (.slice (some ⟨g4, 0, none⟩) 2 2)), aV (cdC (.string { data := #[102, 114, 101, 101, 122, 101] }) 5 (.slice (some ⟨g5, 0, none⟩) 1 1)), aV (cdC (.string { data := #[112, 97, 121] }) 6 (.slice (some ⟨g6, 0, none⟩) 1 1)), aV (cdC (.string { data := #[114, 101, 118, 111, 107, 101] }) 7 (.slice (some ⟨g7, 0, none⟩) 1 1)), aV (cdC (.string { data := #[102, 108, 111, 111, 114] }) 8 (.slice (some ⟨g8, 0, none⟩) 1 1)), aV (cdC (.string { data := #[100, 101, 108, 105, 118, 101, 114] }) 9 (.slice (some ⟨g9, 0, none⟩) 1 1)), aV (cdC (.string { data := #[100, 114, 111, 112] }) 10 (.slice (some ⟨g10, 0, none⟩) 1 1)), aV (cdC (.string { data := #[100, 111, 117, 98, 108, 101] }) 11 (.slice (some ⟨g11, 0, none⟩) 1 1)), aV (cdC (.string { data := #[105, 110, 106, 101, 99, 116] }) 12 (.slice (some ⟨g12, 0, none⟩) 2 2)), aV (cdC (.string { data := #[99, 114, 97, 115, 104] }) 13 (.slice (some ⟨g13, 0, none⟩) 3 3)), aV (cdC (.string { data := #[114, 101, 115, 116, 97, 114, 116] }) 14 (.slice (some ⟨g14, 0, none⟩) 1 1)), aV (cdC (.string { data := #[104, 101, 97, 100] }) 15 (.slice none 0 0)), aV (cdC (.string { data := #[114, 111, 119] }) 16 (.slice (some ⟨g15, 0, none⟩) 2 2)), aV (cdC (.string { data := #[99, 97, 114, 110, 101, 116] }) 17 (.slice (some ⟨g16, 0, none⟩) 1 1)), aV (cdC (.string { data := #[112, 117, 114, 115, 101] }) 18 (.slice (some ⟨g17, 0, none⟩) 2 2)), aV (cdC (.string { data := #[109, 111, 110, 101, 121] }) 19 (.slice none 0 0)), aV (cdC (.string { data := #[98, 97, 103] }) 20 (.slice none 0 0)), aV (cdC (.string { data := #[115, 116, 97, 116, 101] }) 21 (.slice none 0 0))] : List Value).flatMap cellsL) rfl hS ?_
  clear hS
  intro g18 w18 hS
  simp [Act.put]
  refine wl (by kernel_rfl) fun kQ hkQ => ?_
  go_simp
  refine hkQ _ _ ?_
  clear hkQ kQ
  refine wpList_nil ?_
  go_wp2_with fail
  go_ret
  refine ⟨g18, rfl, ⟨hS.old _ (List.mem_of_getElem? (i := 0) rfl), (hS.get 0 rfl).lt, all21 fun j hj => ?_⟩, hS.bel⟩
  have hA := hS.get 0 rfl
  match j, hj with
  | 0, _ => exact ⟨⟨some ⟨g1, 0, none⟩, 3, 3, [0, 2, 3]⟩, (at_dt (o := 0) (by kernel_rfl) (Nat.le_of_ble_eq_true (by kernel_rfl))).range hA, arr_ints (hS.get 17 rfl) rfl (by unfold maxLen; omega), (fun x hx => by cases hx; exact hS.old _ (List.mem_of_getElem? (i := 17) rfl)), by kernel_rfl⟩
  | 1, _ => exact ⟨⟨some ⟨g2, 0, none⟩, 3, 3, [0, 2, 1]⟩, (at_dt (o := 3) (by kernel_rfl) (Nat.le_of_ble_eq_true (by kernel_rfl))).range hA, arr_ints (hS.get 16 rfl) rfl (by unfold maxLen; omega), (fun x hx => by cases hx; exact hS.old _ (List.mem_of_getElem? (i := 16) rfl)), by kernel_rfl⟩
  | 2, _ => exact ⟨⟨some ⟨g3, 0, none⟩, 2, 2, [0, 1]⟩, (at_dt (o := 6) (by kernel_rfl) (Nat.le_of_ble_eq_true (by kernel_rfl))).range hA, arr_ints (hS.get 15 rfl) rfl (by unfold maxLen; omega), (fun x hx => by cases hx; exact hS.old _ (List.mem_of_getElem? (i := 15) rfl)), by kernel_rfl⟩
  | 3, _ => exact ⟨⟨some ⟨g4, 0, none⟩, 2, 2, [0, 1]⟩, (at_dt (o := 9) (by kernel_rfl) (Nat.le_of_ble_eq_true (by kernel_rfl))).range hA, arr_ints (hS.get 14 rfl) rfl (by unfold maxLen; omega), (fun x hx => by cases hx; exact hS.old _ (List.mem_of_getElem? (i := 14) rfl)), by kernel_rfl⟩
  | 4, _ => exact ⟨⟨some ⟨g5, 0, none⟩, 1, 1, [2]⟩, (at_dt (o := 12) (by kernel_rfl) (Nat.le_of_ble_eq_true (by kernel_rfl))).range hA, arr_ints (hS.get 13 rfl) rfl (by unfold maxLen; omega), (fun x hx => by cases hx; exact hS.old _ (List.mem_of_getElem? (i := 13) rfl)), by kernel_rfl⟩
  | 5, _ => exact ⟨⟨some ⟨g6, 0, none⟩, 1, 1, [2]⟩, (at_dt (o := 15) (by kernel_rfl) (Nat.le_of_ble_eq_true (by kernel_rfl))).range hA, arr_ints (hS.get 12 rfl) rfl (by unfold maxLen; omega), (fun x hx => by cases hx; exact hS.old _ (List.mem_of_getElem? (i := 12) rfl)), by kernel_rfl⟩
  | 6, _ => exact ⟨⟨some ⟨g7, 0, none⟩, 1, 1, [2]⟩, (at_dt (o := 18) (by kernel_rfl) (Nat.le_of_ble_eq_true (by kernel_rfl))).range hA, arr_ints (hS.get 11 rfl) rfl (by unfold maxLen; omega), (fun x hx => by cases hx; exact hS.old _ (List.mem_of_getElem? (i := 11) rfl)), by kernel_rfl⟩
  | 7, _ => exact ⟨⟨some ⟨g8, 0, none⟩, 1, 1, [2]⟩, (at_dt (o := 21) (by kernel_rfl) (Nat.le_of_ble_eq_true (by kernel_rfl))).range hA, arr_ints (hS.get 10 rfl) rfl (by unfold maxLen; omega), (fun x hx => by cases hx; exact hS.old _ (List.mem_of_getElem? (i := 10) rfl)), by kernel_rfl⟩
  | 8, _ => exact ⟨⟨some ⟨g9, 0, none⟩, 1, 1, [2]⟩, (at_dt (o := 24) (by kernel_rfl) (Nat.le_of_ble_eq_true (by kernel_rfl))).range hA, arr_ints (hS.get 9 rfl) rfl (by unfold maxLen; omega), (fun x hx => by cases hx; exact hS.old _ (List.mem_of_getElem? (i := 9) rfl)), by kernel_rfl⟩
  | 9, _ => exact ⟨⟨some ⟨g10, 0, none⟩, 1, 1, [2]⟩, (at_dt (o := 27) (by kernel_rfl) (Nat.le_of_ble_eq_true (by kernel_rfl))).range hA, arr_ints (hS.get 8 rfl) rfl (by unfold maxLen; omega), (fun x hx => by cases hx; exact hS.old _ (List.mem_of_getElem? (i := 8) rfl)), by kernel_rfl⟩
  | 10, _ => exact ⟨⟨some ⟨g11, 0, none⟩, 1, 1, [2]⟩, (at_dt (o := 30) (by kernel_rfl) (Nat.le_of_ble_eq_true (by kernel_rfl))).range hA, arr_ints (hS.get 7 rfl) rfl (by unfold maxLen; omega), (fun x hx => by cases hx; exact hS.old _ (List.mem_of_getElem? (i := 7) rfl)), by kernel_rfl⟩
  | 11, _ => exact ⟨⟨some ⟨g12, 0, none⟩, 2, 2, [0, 4]⟩, (at_dt (o := 33) (by kernel_rfl) (Nat.le_of_ble_eq_true (by kernel_rfl))).range hA, arr_ints (hS.get 6 rfl) rfl (by unfold maxLen; omega), (fun x hx => by cases hx; exact hS.old _ (List.mem_of_getElem? (i := 6) rfl)), by kernel_rfl⟩
  | 12, _ => exact ⟨⟨some ⟨g13, 0, none⟩, 3, 3, [0, 2, 1]⟩, (at_dt (o := 36) (by kernel_rfl) (Nat.le_of_ble_eq_true (by kernel_rfl))).range hA, arr_ints (hS.get 5 rfl) rfl (by unfold maxLen; omega), (fun x hx => by cases hx; exact hS.old _ (List.mem_of_getElem? (i := 5) rfl)), by kernel_rfl⟩
  | 13, _ => exact ⟨⟨some ⟨g14, 0, none⟩, 1, 1, [0]⟩, (at_dt (o := 39) (by kernel_rfl) (Nat.le_of_ble_eq_true (by kernel_rfl))).range hA, arr_ints (hS.get 4 rfl) rfl (by unfold maxLen; omega), (fun x hx => by cases hx; exact hS.old _ (List.mem_of_getElem? (i := 4) rfl)), by kernel_rfl⟩
  | 14, _ => exact ⟨⟨none, 0, 0, []⟩, (at_dt (o := 42) (by kernel_rfl) (Nat.le_of_ble_eq_true (by kernel_rfl))).range hA, Sx.Ok.nil _ 0, (fun x hx => by cases hx), by kernel_rfl⟩
  | 15, _ => exact ⟨⟨some ⟨g15, 0, none⟩, 2, 2, [0, 2]⟩, (at_dt (o := 45) (by kernel_rfl) (Nat.le_of_ble_eq_true (by kernel_rfl))).range hA, arr_ints (hS.get 3 rfl) rfl (by unfold maxLen; omega), (fun x hx => by cases hx; exact hS.old _ (List.mem_of_getElem? (i := 3) rfl)), by kernel_rfl⟩
  | 16, _ => exact ⟨⟨some ⟨g16, 0, none⟩, 1, 1, [2]⟩, (at_dt (o := 48) (by kernel_rfl) (Nat.le_of_ble_eq_true (by kernel_rfl))).range hA, arr_ints (hS.get 2 rfl) rfl (by unfold maxLen; omega), (fun x hx => by cases hx; exact hS.old _ (List.mem_of_getElem? (i := 2) rfl)), by kernel_rfl⟩
  | 17, _ => exact ⟨⟨some ⟨g17, 0, none⟩, 2, 2, [0, 2]⟩, (at_dt (o := 51) (by kernel_rfl) (Nat.le_of_ble_eq_true (by kernel_rfl))).range hA, arr_ints (hS.get 1 rfl) rfl (by unfold maxLen; omega), (fun x hx => by cases hx; exact hS.old _ (List.mem_of_getElem? (i := 1) rfl)), by kernel_rfl⟩
  | 18, _ => exact ⟨⟨none, 0, 0, []⟩, (at_dt (o := 54) (by kernel_rfl) (Nat.le_of_ble_eq_true (by kernel_rfl))).range hA, Sx.Ok.nil _ 0, (fun x hx => by cases hx), by kernel_rfl⟩
  | 19, _ => exact ⟨⟨none, 0, 0, []⟩, (at_dt (o := 57) (by kernel_rfl) (Nat.le_of_ble_eq_true (by kernel_rfl))).range hA, Sx.Ok.nil _ 0, (fun x hx => by cases hx), by kernel_rfl⟩
  | 20, _ => exact ⟨⟨none, 0, 0, []⟩, (at_dt (o := 60) (by kernel_rfl) (Nat.le_of_ble_eq_true (by kernel_rfl))).range hA, Sx.Ok.nil _ 0, (fun x hx => by cases hx), by kernel_rfl⟩
  | j + 21, hj => omega
end Go.Proofs.YtdcaojiiaocnaaaGreatDoor
