import Derived.Test.YtloeademloclmaaRfF
import Derived.Test.YtloeademloclmaaTolW
set_option linter.unusedVariables false
set_option linter.unusedSimpArgs false
namespace Go.Proofs.Ytloeademloclmaa
open Go.RowKit

def fs0 (n : Nat) : FlS := ⟨n, [], [], [], false, 0⟩
theorem one_isB : IsB [1] := by intro x hx; simp at hx; omega
set_option maxHeartbeats 4000000 in
set_option maxRecDepth 100000 in
theorem errOne_any (fa sa va : Option Addr) (fc sc vc n : Nat) (w : World) (h : RV w (.slice fa 0 fc) (.slice sa 0 sc) (.slice va 0 vc) (fs0 n) [] 0) :
    Calls Try.prog 28 #[.agg #[.int .i64 (n : Nat), .slice fa 0 fc, .slice sa 0 sc, .slice va 0 vc, .int .i64 0, .int .i64 0, .bool false]] w fun e w' => e = .returned (.int .i64 (if n < 1 then 122 else 0)) ∧ Below w.heap.size w w' := by
  obtain ⟨W, hW⟩ : ∃ W, w.alloc (.cells #[.int .i64 (n : Nat), .slice fa 0 fc, .slice sa 0 sc, .slice va 0 vc, .int .i64 0, .int .i64 0, .bool false] 53) = W := ⟨_, rfl⟩
  have A0 : Arr W w.heap.size 53 [.int .i64 (n : Nat), .slice fa 0 fc, .slice sa 0 sc, .slice va 0 vc, .int .i64 0, .int .i64 0, .bool false] := by rw [← hW]; exact Arr.new w _ _
  have B0 : Below w.heap.size w W := by rw [← hW]; exact below_one w _
  have c0 : W.cell? ⟨w.heap.size, 0, none⟩ = some (.int .i64 (n : Nat)) := (by simpa using A0.cell 0)
  have c1 : W.cell? ⟨w.heap.size, 1, none⟩ = some (.slice fa 0 fc) := (by simpa using A0.cell 1)
  have c2 : W.cell? ⟨w.heap.size, 2, none⟩ = some (.slice sa 0 sc) := (by simpa using A0.cell 2)
  have c3 : W.cell? ⟨w.heap.size, 3, none⟩ = some (.slice va 0 vc) := (by simpa using A0.cell 3)
  have c4 : W.cell? ⟨w.heap.size, 4, none⟩ = some (.int .i64 0) := (by simpa using A0.cell 4)
  have c5 : W.cell? ⟨w.heap.size, 5, none⟩ = some (.int .i64 0) := (by simpa using A0.cell 5)
  have c6 : W.cell? ⟨w.heap.size, 6, none⟩ = some (.bool false) := (by simpa using A0.cell 6)
  obtain ⟨W2, hW2⟩ : ∃ W2, W.alloc (.cells #[.int .u8 1] 5) = W2 := ⟨_, rfl⟩
  have B2 : Below W.heap.size W W2 := by rw [← hW2]; exact below_one W _
  have hd : Sl.Ok W2 ⟨some ⟨W.heap.size, 0, none⟩, 1, 1, [1]⟩ := by rw [← hW2]; exact lit_ok W [1] one_isB (by decide)
  have h2 := (h.later B0).later B2
  have BB := bel_then B0 B0.size B2
  have HBB := hide BB
  by_cases hn : n < 1
  · have hC : Calls Try.prog 41 #[.agg #[.int .i64 (n : Nat), .slice fa 0 fc, .slice sa 0 sc, .slice va 0 vc, .int .i64 0, .int .i64 0, .bool false], .int .i64 0, .slice (some ⟨W.heap.size, 0, none⟩) 1 1] W2 fun e w' => e = .returned (.tuple #[.agg #[.int .i64 (n : Nat), .slice fa 0 fc, .slice sa 0 sc, .slice va 0 vc, .int .i64 0, .int .i64 0, .bool false], .int .i64 122]) ∧ Below W2.heap.size W2 w' := rappend_full_0 fa sa va fc sc vc (fs0 n) [] 0 W2 h2 ⟨some ⟨W.heap.size, 0, none⟩, 1, 1, [1]⟩ hd rfl (by show n < 0 + 1; omega) (by show 1 ≤ 140737488351232; omega)
    rw [if_pos hn]
    clear h h2 hd A0 B0 B2 BB
    go_enter Try.func28, Try.ntmps28
    go_wp2_with (first
      | (go_at_call 41; refine hC.mono ?_; rintro e w3 ⟨rfl, b3⟩; clear hC))
    go_ret
    have e1 := bel_then (unhide HBB) (unhide HBB).size b3
    exact ⟨rfl, bel_then e1 (bel_sz e1 (Nat.le_refl _)) (below_one w3 _)⟩
  · have hC := rappend_ok_0 fa sa va fc sc vc (fs0 n) [] 0 W2 h2 ⟨some ⟨W.heap.size, 0, none⟩, 1, 1, [1]⟩ hd rfl (by show 0 + 1 ≤ n; omega) va 0 vc 0 1 false (fun w1 _ => rstruck_nil fa sa va fc sc vc (fs0 n) 0 w1 (by show (0 : Nat) ≤ _; omega))
    rw [if_neg hn]
    simp only [Sl.v] at hC
    clear h h2 hd A0 B0 B2 BB
    go_enter Try.func28, Try.ntmps28
    go_wp2_with (first
      | (go_at_call 41; refine hC.mono ?_; rintro e w3 ⟨na, nn, nc, rfl, -, -, b3⟩; clear hC; simp only [fs0]))
    go_ret
    have e1 := bel_then (unhide HBB) (unhide HBB).size b3
    exact ⟨rfl, bel_then e1 (bel_sz e1 (Nat.le_refl _)) (below_one w3 _)⟩
theorem fs0_of (z : Int) : fsLoad z [] [] = fs0 (szZ z) := by unfold fsLoad fs0; simp
theorem fs0_app (n : Nat) (hn : n ≤ 1048576) : ((fs0 n).append 0 [1]).2 = if n < 1 then 122 else 0 := by
  unfold FlS.append
  rw [if_neg (show ¬ ((fs0 n).ref 0 ≠ 0) from fun h => h rfl)]
  by_cases h : n < 1
  · rw [if_pos (show (fs0 n).size < _ by show n < 0 + 1; omega), if_pos h]
  · rw [if_neg (show ¬ (fs0 n).size < _ by show ¬ n < 0 + 1; omega), if_neg h]
    rfl
set_option maxHeartbeats 8000000 in
set_option maxRecDepth 100000 in
theorem new_law (z : Int) (w : World) : Calls Try.prog 8 #[.int .i64 z] w fun e w' => e = .returned (.bool true) ∧ Below w.heap.size w w' := by
  have hN := new_any z w
  obtain ⟨n, hn⟩ : ∃ n, n = szZ z := ⟨_, rfl⟩
  have hn1 : n ≤ 1048576 := by rw [hn]; exact szZ_le z
  rw [fs0_of, ← hn] at hN
  have HRN : Hid (∀ w, Calls Try.prog 26 #[.int .i64 z] w fun e w' => ∃ v, e = .returned v ∧ RPost (fs0 n) (fun _ => False) w v w') := hide (fun w => by have := rnew_any z w; rw [fs0_of, ← hn] at this; exact this)
  obtain ⟨ee, hee⟩ : ∃ ee : Int, ee = if n < 1 then 122 else 0 := ⟨_, rfl⟩
  have HEE := hide hee
  clear hn hee
  go_enter Try.func8, Try.ntmps8
  go_wp2_with (first
    | (go_at_call 9; refine hN.mono ?_; rintro e w1 ⟨p, S, rfl, f1, s1, b1⟩; clear hN; have F1 := hide f1; have HS := hide s1; have B1 := hide b1; have hRN := unhide HRN w1; clear f1 s1 b1)
    | (go_at_call 26; refine hRN.mono ?_; rintro e w2 ⟨v, rfl, fv, sv, av, ar, cnt, rfl, h1, h2, b2⟩; clear hRN; obtain ⟨fa, fc, hf⟩ := own_parts h1.f.1; subst hf; obtain ⟨sa, sc, hf⟩ := own_parts h1.g.1; subst hf; obtain ⟨va, vc, hf⟩ := own_parts h1.a; subst hf; have har : ar = [] := (by have := h1.q; cases ar with | nil => rfl | cons a t => simp [fs0, qOf] at this); subst har; have hcn : cnt = 0 := h1.cn rfl; subst hcn; have bW3 : Below w2.heap.size w2 (w2.alloc (.cells #[.int .i64 (n : Nat), .slice fa 0 fc, .slice sa 0 sc, .slice va 0 vc, .int .i64 0, .int .i64 0, .bool false] 53)) := (below_one w2 _); have A3 : Arr (w2.alloc (.cells #[.int .i64 (n : Nat), .slice fa 0 fc, .slice sa 0 sc, .slice va 0 vc, .int .i64 0, .int .i64 0, .bool false] 53)) w2.heap.size 53 [.int .i64 (n : Nat), .slice fa 0 fc, .slice sa 0 sc, .slice va 0 vc, .int .i64 0, .int .i64 0, .bool false] := (Arr.new w2 _ _); have HA3 := hide A3; have H3 : Hid (RV (w2.alloc (.cells #[.int .i64 (n : Nat), .slice fa 0 fc, .slice sa 0 sc, .slice va 0 vc, .int .i64 0, .int .i64 0, .bool false] 53)) (.slice fa 0 fc) (.slice sa 0 sc) (.slice va 0 vc) (fs0 n) [] 0) := hide (h1.later bW3); have F3 := hide (((unhide F1).later b2).later bW3); have B3 := hide (bel_then (bel_then (unhide B1) (unhide B1).size b2) (bel_sz (bel_then (unhide B1) (unhide B1).size b2) (Nat.le_refl _)) bW3); have HLT := hide (unhide F1).lt; have HZ12 := hide b2.size; have hR0 := roomX_any p S (fs0 n) 0 (w2.alloc (.cells #[.int .i64 (n : Nat), .slice fa 0 fc, .slice sa 0 sc, .slice va 0 vc, .int .i64 0, .int .i64 0, .bool false] 53)) (unhide F3); rw [show (fs0 n).room 0 = (n : Int) by simp [FlS.room, fs0, FlS.ref, FlS.bk], show (fs0 n).ref 0 = 0 from rfl] at hR0; simp only [rvL, fs0, List.length_nil]; have HRS : Hid (∀ k, RSet (.slice fa 0 fc) (.slice sa 0 sc) (.slice va 0 vc) k → w1.heap.size ≤ k) := hide (fun k hk => (h2 k hk).elim False.elim id); clear h1 h2 b2 bW3 A3)
    | (go_at_call 11; refine hR1.mono ?_; rintro e w9 ⟨rfl, k2, hk2⟩; subst w9; clear hR1)
    | (go_at_call 11; refine hR0.mono ?_; rintro e w9 ⟨rfl, k1, hk1⟩; subst w9; clear hR0; have hR1 := roomX_any p S (fs0 n) 1 ((w2.alloc (.cells #[.int .i64 (n : Nat), .slice fa 0 fc, .slice sa 0 sc, .slice va 0 vc, .int .i64 0, .int .i64 0, .bool false] 53)).drewN k1) ((unhide F3).drewN k1); rw [show (fs0 n).room 1 = (n : Int) by simp [FlS.room, fs0, FlS.ref, FlS.bk], show (fs0 n).ref 1 = 0 from rfl] at hR1))
  obtain ⟨W4, hW4⟩ : ∃ W4, W4 = (w2.alloc (.cells #[.int .i64 (n : Nat), .slice fa 0 fc, .slice sa 0 sc, .slice va 0 vc, .int .i64 0, .int .i64 0, .bool false] 53)).drewN (k1 + k2) := ⟨_, rfl⟩
  have bd : Below (w2.alloc (.cells #[.int .i64 (n : Nat), .slice fa 0 fc, .slice sa 0 sc, .slice va 0 vc, .int .i64 0, .int .i64 0, .bool false] 53)).heap.size (w2.alloc (.cells #[.int .i64 (n : Nat), .slice fa 0 fc, .slice sa 0 sc, .slice va 0 vc, .int .i64 0, .int .i64 0, .bool false] 53)) W4 := by rw [hW4]; exact below_drewN (Below.refl _ _) _
  have A4 := (unhide HA3).later bd
  have H4 := hide ((unhide H3).later bd)
  have F4 := hide ((unhide F3).later bd)
  have B4 := hide (bel_then (unhide B3) (bel_sz (unhide B3) (Nat.le_refl _)) bd)
  rw [← hW4]
  have bdd : Below W4.heap.size W4 W4.drew := below_drewN (Below.refl _ _) 1
  have A4d := A4.later bdd
  have c0 : W4.drew.cell? ⟨w2.heap.size, 0, none⟩ = some (.int .i64 (n : Nat)) := (by simpa using A4d.cell 0)
  have c1 : W4.drew.cell? ⟨w2.heap.size, 1, none⟩ = some (.slice fa 0 fc) := (by simpa using A4d.cell 1)
  have c2 : W4.drew.cell? ⟨w2.heap.size, 2, none⟩ = some (.slice sa 0 sc) := (by simpa using A4d.cell 2)
  have c3 : W4.drew.cell? ⟨w2.heap.size, 3, none⟩ = some (.slice va 0 vc) := (by simpa using A4d.cell 3)
  have c4 : W4.drew.cell? ⟨w2.heap.size, 4, none⟩ = some (.int .i64 0) := (by simpa using A4d.cell 4)
  have c5 : W4.drew.cell? ⟨w2.heap.size, 5, none⟩ = some (.int .i64 0) := (by simpa using A4d.cell 5)
  have c6 : W4.drew.cell? ⟨w2.heap.size, 6, none⟩ = some (.bool false) := (by simpa using A4d.cell 6)
  have HA4 := hide A4
  have HTo : Hid (Calls Try.prog 27 #[.pointer (some ⟨p, 0, none⟩), .agg #[.int .i64 (n : Nat), .slice fa 0 fc, .slice sa 0 sc, .slice va 0 vc, .int .i64 0, .int .i64 0, .bool false]] W4.drew fun e w' => e = .returned (.bool true) ∧ Below W4.drew.heap.size W4.drew w') := hide (told_any p S fa sa va fc sc vc (fs0 n) [] 0 W4.drew ((unhide H4).later bdd) ((unhide F4).later bdd))
  clear hW4 bd bdd A4 A4d HA3 H3 F3 B3
  go_region_held3 (fun w' => w'.cell? ⟨w2.heap.size, 0, none⟩ = some (.int .i64 (n : Nat)) ∧ w'.cell? ⟨w2.heap.size, 1, none⟩ = some (.slice fa 0 fc) ∧ w'.cell? ⟨w2.heap.size, 2, none⟩ = some (.slice sa 0 sc) ∧ w'.cell? ⟨w2.heap.size, 3, none⟩ = some (.slice va 0 vc) ∧ w'.cell? ⟨w2.heap.size, 4, none⟩ = some (.int .i64 0) ∧ w'.cell? ⟨w2.heap.size, 5, none⟩ = some (.int .i64 0) ∧ w'.cell? ⟨w2.heap.size, 6, none⟩ = some (.bool false)) (first | exact ⟨c0, c1, c2, c3, c4, c5, c6⟩ | exact ⟨d0, d1, d2, d3, d4, d5, d6⟩ | exact ⟨m0, m1, m2, m3, m4, m5, m6⟩ | exact ⟨f0, f1, f2, f3, f4, f5, f6⟩ | exact ⟨g0, g1, g2, g3, g4, g5, g6⟩ | go_keep)
    (first
      | (go_at_call 27; refine (unhide HTo).mono ?_; rintro e w5 ⟨rfl, b5'⟩; have b5 := below_undrewN (k := 1) b5'; have A5 := (unhide HA4).later b5; have d0 : w5.cell? ⟨w2.heap.size, 0, none⟩ = some (.int .i64 (n : Nat)) := (by simpa using A5.cell 0); have d1 : w5.cell? ⟨w2.heap.size, 1, none⟩ = some (.slice fa 0 fc) := (by simpa using A5.cell 1); have d2 : w5.cell? ⟨w2.heap.size, 2, none⟩ = some (.slice sa 0 sc) := (by simpa using A5.cell 2); have d3 : w5.cell? ⟨w2.heap.size, 3, none⟩ = some (.slice va 0 vc) := (by simpa using A5.cell 3); have d4 : w5.cell? ⟨w2.heap.size, 4, none⟩ = some (.int .i64 0) := (by simpa using A5.cell 4); have d5 : w5.cell? ⟨w2.heap.size, 5, none⟩ = some (.int .i64 0) := (by simpa using A5.cell 5); have d6 : w5.cell? ⟨w2.heap.size, 6, none⟩ = some (.bool false) := (by simpa using A5.cell 6); have HA5 := hide A5; have H5 := hide ((unhide H4).later b5); have F5 := hide ((unhide F4).later b5); have B5 := hide (bel_then (unhide B4) (bel_sz (unhide B4) (Nat.le_refl _)) b5); have b6 := below_one w5 (.cells #[.int .u8 1] 5); have A6 := A5.later b6; have m0 : (w5.alloc (.cells #[.int .u8 1] 5)).cell? ⟨w2.heap.size, 0, none⟩ = some (.int .i64 (n : Nat)) := (by simpa using A6.cell 0); have m1 : (w5.alloc (.cells #[.int .u8 1] 5)).cell? ⟨w2.heap.size, 1, none⟩ = some (.slice fa 0 fc) := (by simpa using A6.cell 1); have m2 : (w5.alloc (.cells #[.int .u8 1] 5)).cell? ⟨w2.heap.size, 2, none⟩ = some (.slice sa 0 sc) := (by simpa using A6.cell 2); have m3 : (w5.alloc (.cells #[.int .u8 1] 5)).cell? ⟨w2.heap.size, 3, none⟩ = some (.slice va 0 vc) := (by simpa using A6.cell 3); have m4 : (w5.alloc (.cells #[.int .u8 1] 5)).cell? ⟨w2.heap.size, 4, none⟩ = some (.int .i64 0) := (by simpa using A6.cell 4); have m5 : (w5.alloc (.cells #[.int .u8 1] 5)).cell? ⟨w2.heap.size, 5, none⟩ = some (.int .i64 0) := (by simpa using A6.cell 5); have m6 : (w5.alloc (.cells #[.int .u8 1] 5)).cell? ⟨w2.heap.size, 6, none⟩ = some (.bool false) := (by simpa using A6.cell 6); have HA6 := hide A6; have H6 := hide ((unhide H5).later b6); have F6 := hide ((unhide F5).later b6); have B6 := hide (bel_then (unhide B5) (bel_sz (unhide B5) (Nat.le_refl _)) b6); have HAp : Hid (Calls Try.prog 13 #[.pointer (some ⟨p, 0, none⟩), .int .i64 0, .slice (some ⟨w5.heap.size, 0, none⟩) 1 1] (w5.alloc (.cells #[.int .u8 1] 5)) fun e w' => e = .returned (.int .i64 ee) ∧ ∃ S', FSt p S ((fs0 n).append 0 [1]).1 (w5.alloc (.cells #[.int .u8 1] 5)) w' S') := hide (by have := append_any p S (fs0 n) 0 ⟨some ⟨w5.heap.size, 0, none⟩, 1, 1, [1]⟩ _ (unhide F6) (lit_ok w5 [1] one_isB (by decide)) (fun _ x hx e => by simp only [Option.some.injEq] at hx; subst hx; have := (unhide F5).lt _ e; simp at this) (by show (0 : Nat) ≤ _; omega); unfold APost at this; rw [fs0_app n hn1, ← unhide HEE] at this; exact this); clear b5 b5' b6 A5 A6)
      | (go_at_call 13; refine (unhide HAp).mono ?_; rintro e w7 ⟨rfl, S7, K7⟩; have A7 := K7.but.arr (unhide HA6) (fun e => by have := unhide HLT _ e; have := unhide HZ12; omega); have f0 : w7.cell? ⟨w2.heap.size, 0, none⟩ = some (.int .i64 (n : Nat)) := (by simpa using A7.cell 0); have f1 : w7.cell? ⟨w2.heap.size, 1, none⟩ = some (.slice fa 0 fc) := (by simpa using A7.cell 1); have f2 : w7.cell? ⟨w2.heap.size, 2, none⟩ = some (.slice sa 0 sc) := (by simpa using A7.cell 2); have f3 : w7.cell? ⟨w2.heap.size, 3, none⟩ = some (.slice va 0 vc) := (by simpa using A7.cell 3); have f4 : w7.cell? ⟨w2.heap.size, 4, none⟩ = some (.int .i64 0) := (by simpa using A7.cell 4); have f5 : w7.cell? ⟨w2.heap.size, 5, none⟩ = some (.int .i64 0) := (by simpa using A7.cell 5); have f6 : w7.cell? ⟨w2.heap.size, 6, none⟩ = some (.bool false) := (by simpa using A7.cell 6); have HA7 := hide A7; have H7 := hide ((unhide H6).keep K7.but (fun k hk e => by have := unhide HLT _ e; have := unhide HRS k hk; omega)); have B7 := hide (K7.bel (unhide B6) (bel_sz (unhide B6) (Nat.le_refl _)) (unhide HS)); have HEr := hide (errOne_any fa sa va fc sc vc n w7 (unhide H7)); rw [← unhide HEE] at HEr; clear K7 A7)
      | (go_at_call 28; refine (unhide HEr).mono ?_; rintro e w8 ⟨rfl, b8⟩; have A8 := (unhide HA7).later b8; have g0 : w8.cell? ⟨w2.heap.size, 0, none⟩ = some (.int .i64 (n : Nat)) := (by simpa using A8.cell 0); have g1 : w8.cell? ⟨w2.heap.size, 1, none⟩ = some (.slice fa 0 fc) := (by simpa using A8.cell 1); have g2 : w8.cell? ⟨w2.heap.size, 2, none⟩ = some (.slice sa 0 sc) := (by simpa using A8.cell 2); have g3 : w8.cell? ⟨w2.heap.size, 3, none⟩ = some (.slice va 0 vc) := (by simpa using A8.cell 3); have g4 : w8.cell? ⟨w2.heap.size, 4, none⟩ = some (.int .i64 0) := (by simpa using A8.cell 4); have g5 : w8.cell? ⟨w2.heap.size, 5, none⟩ = some (.int .i64 0) := (by simpa using A8.cell 5); have g6 : w8.cell? ⟨w2.heap.size, 6, none⟩ = some (.bool false) := (by simpa using A8.cell 6); have B8 := hide (bel_then (unhide B7) (bel_sz (unhide B7) (Nat.le_refl _)) b8); clear A8 b8))
  go_wp2
  go_ret
  exact ⟨by simp, unhide B8⟩
end Go.Proofs.Ytloeademloclmaa
