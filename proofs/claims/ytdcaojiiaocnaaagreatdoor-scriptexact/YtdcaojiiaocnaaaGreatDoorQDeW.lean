import Derived.Test.YtdcaojiiaocnaaaGreatDoorQBcM
import Derived.Deep.DeepCutAuto
import Derived.Deep.QuietTactic
import Derived.BigQuiet
set_option linter.unusedSimpArgs false
set_option linter.unusedVariables false
namespace Go.Proofs.YtdcaojiiaocnaaaGreatDoor
open Go.RowKit

def dgq (m : Int) : List Int := if m = 0 then [] else dgL m.natAbs
theorem dgq_step {m : Int} (h : m ≠ 0) : dgL m.natAbs = dgq (m.tdiv 10) ++ [48 + ((m.natAbs % 10 : Nat) : Int)] := by
  have e : (m.tdiv 10).natAbs = m.natAbs / 10 := by rw [Int.natAbs_tdiv]; rfl
  by_cases h1 : m.natAbs < 10
  · have : m.tdiv 10 = 0 := by omega
    rw [this, dgL_lt h1]
    unfold dgq
    rw [if_pos rfl, List.nil_append]; congr 2; omega
  · have : m.tdiv 10 ≠ 0 := by omega
    unfold dgq
    rw [if_neg this, e]
    exact dgL_ge h1
theorem tmod_abs (m : Int) : (m.tmod 10).natAbs = m.natAbs % 10 := by rw [Int.natAbs_tmod]; rfl
theorem dgL_len20 {n : Int} (h : I64 n) : (dgL n.natAbs).length ≤ 19 := by
  refine dg_len _ 19 (by omega) ?_
  unfold I64 at h
  have e : (10 : Nat) ^ 19 = 10000000000000000000 := by decide
  rw [e]; omega
theorem tdiv_pos10 {m : Int} (h : 0 ≤ m) : 0 ≤ m.tdiv 10 ∧ m.tdiv 10 ≤ m := by
  rw [Int.tdiv_eq_ediv_of_nonneg h]; omega
theorem tdiv_neg10 {m : Int} (h : m ≤ 0) : m ≤ m.tdiv 10 ∧ m.tdiv 10 ≤ 0 := by
  have h1 := tdiv_pos10 (m := -m) (by omega)
  rw [Int.neg_tdiv] at h1; omega
set_option maxHeartbeats 4000000 in
set_option maxRecDepth 100000 in
theorem refdec_any (n : Int) (w : World) (hn : I64 n) :
    Calls Tryz.prog 34 #[.int .i64 n] w fun e w' => e = .returned (.string (strOfNums (decL n))) ∧ Below w.heap.size w w' := by
  have hS := Hs17.begin w (fun _ => True) (fun _ _ => trivial)
  by_cases h0 : n = 0
  · subst h0
    go_enter Tryz.func34, Tryz.ntmps34
    go_wp2
    go_ret
    exact ⟨by kernel_rfl, hS.bel⟩
  obtain ⟨D, hD⟩ : ∃ D, dgL n.natAbs = D := ⟨_, rfl⟩
  have hDl : D.length ≤ 19 := by rw [← hD]; exact dgL_len20 hn
  have HD0 : Hid (dgq n ++ [] = D) := hide (by unfold dgq; rw [if_neg h0, hD, List.append_nil])
  have HD := hide hD
  have HDL := hide hDl
  have HN := hide hn
  have HN0 : Hid (I64 n ∧ (n < 0 → n ≤ 0) ∧ (0 ≤ n → 0 ≤ n)) := hide ⟨hn, fun h => by omega, fun h => by omega⟩
  clear hD hDl hn
  go_enter Tryz.func34, Tryz.ntmps34
  go_wp2_with fail
  go_loopw [3, 4] (fun vs vm wr => ∃ (m : Int) (t : List Int), vs = .string (strOfNums t) ∧ vm = .int .i64 m ∧ Hid (I64 m ∧ (n < 0 → m ≤ 0) ∧ (0 ≤ n → 0 ≤ m)) ∧ Hid (dgq m ++ t = D) ∧ Hs17 w [] (fun _ => True) wr) (fun _ vm _ => (intOf vm).natAbs)
  case atStart => exact ⟨n, [], rfl, rfl, HN0, HD0, hS⟩
  case round =>
    clear hS HN0 HD0
    obtain ⟨m, t, rfl, rfl, HM, HT, hS⟩ := hrel
    have htl : t.length ≤ 19 := by have h1 := congrArg List.length (unhide HT); rw [List.length_append] at h1; have := unhide HDL; omega
    by_cases hm : m = 0
    · skip
      subst hm
      have htD : t = D := by have h1 := unhide HT; unfold dgq at h1; rw [if_pos rfl, List.nil_append] at h1; exact h1
      by_cases hneg : n < 0
      · skip
        have hfin : Hid (strOfNums [45] ++ strOfNums t = strOfNums (decL n)) := hide (by
          rw [str_app]; unfold decL; rw [if_pos hneg, unhide HD, htD]; rfl)
        have hsz : (strOfNums t).size ≤ 1000 := by rw [str_sz]; omega
        obtain ⟨T, hT⟩ : ∃ T, strOfNums t = T := ⟨_, rfl⟩
        rw [hT] at hfin hsz ⊢
        obtain ⟨M, hM⟩ : ∃ M, strOfNums [45] = M := ⟨_, rfl⟩
        have hM' : ({ data := #[45] } : ByteArray) = M := by rw [← hM]; rfl
        have hMs : M.size = 1 := by rw [← hM]; rfl
        rw [hM] at hfin
        clear htD htl hT hM HT
        go_wp2
        go_ret
        exact ⟨by rw [unhide hfin]; rfl, hS.bel⟩
      · skip
        have hfin : Hid (strOfNums t = strOfNums (decL n)) := hide (by
          unfold decL; rw [if_neg hneg, unhide HD, htD])
        clear htD htl HT
        go_wp2
        go_ret
        exact ⟨by rw [unhide hfin]; rfl, hS.bel⟩
    · skip
      obtain ⟨d, hd⟩ : ∃ d, m.tmod 10 = d := ⟨_, rfl⟩
      obtain ⟨q, hq⟩ : ∃ q, m.tdiv 10 = q := ⟨_, rfl⟩
      obtain ⟨v, hv⟩ : ∃ v : Int, ((m.natAbs % 10 : Nat) : Int) = v := ⟨_, rfl⟩
      have hda := tmod_abs m
      rw [hd] at hda
      have hv9 : 0 ≤ v ∧ v ≤ 9 := by omega
      have hqa : q.natAbs < m.natAbs := by rw [← hq, Int.natAbs_tdiv]; show m.natAbs / 10 < m.natAbs; omega
      have HM' : Hid (I64 q ∧ (n < 0 → q ≤ 0) ∧ (0 ≤ n → 0 ≤ q)) := by
        obtain ⟨q1, q2, q3⟩ := unhide HM
        refine hide ⟨?_, fun h => ?_, fun h => ?_⟩
        · unfold I64 at q1 ⊢
          rw [← hq]
          rcases Int.le_total 0 m with h | h
          · have := tdiv_pos10 h; omega
          · have := tdiv_neg10 h; omega
        · have h1 := q2 h; rw [← hq]; exact (tdiv_neg10 h1).2
        · have h1 := q3 h; rw [← hq]; exact (tdiv_pos10 h1).1
      have HT' : Hid (dgq q ++ ((48 + v) :: t) = D) := hide (by
        have h1 := unhide HT
        unfold dgq at h1
        rw [if_neg hm, dgq_step hm, hq, hv, List.append_assoc] at h1
        exact h1)
      have HQA := hide hqa
      have e4 : IntKind.i64.wrap q = q := by have h9 := (unhide HM').1; unfold I64 at h9; exact wi_of24 h9.1 h9.2
      have HE4 := hide e4
      clear e4
      have hdv : (d < 0 → -d = v) ∧ (0 ≤ d → v = d) := ⟨fun h => by omega, fun h => by omega⟩
      have hS0 := hS
      have e2 : IntKind.i64.wrap (48 + v) = 48 + v := wi_of24 (by omega) (by omega)
      have e3 : IntKind.u8.wrap (48 + v) = 48 + v := u8_of25 (by omega) (by omega)
      have hsz : (strOfNums t).size ≤ 1000 := by rw [str_sz]; omega
      have hsz1 : (strOfNums [48 + v]).size = 1 := by rw [str_sz]; rfl
      have hszn : ¬ 9223372036854775807 < 1 + (strOfNums t).size := by omega
      have happ : strOfNums [48 + v] ++ strOfNums t = strOfNums ((48 + v) :: t) := str_app _ _
      have HAPP := hide happ
      have H10 : Hid (m.tmod 10 = d) := hide hd
      have hv0 := hv9.1
      have hv1 := hv9.2
      clear hS0 htl happ hv9 hqa HT hv
      by_cases hdn : d < 0
      · have e1 : IntKind.i64.wrap (-d) = v := by rw [hdv.1 hdn]; exact wi_of24 (by omega) (by omega)
        clear hda hdv
        go_upto_region 7 with fail
        refine wp_region_lit ?_
        refine wl (by kernel_rfl) fun kQ hkQ => ?_
        go_simp
        refine hkQ _ _ ?_
        clear hkQ kQ
        refine wl (by kernel_rfl) fun kQ hkQ => ?_
        go_simp
        refine hkQ _ _ ?_
        clear hkQ kQ
        refine wl (by kernel_rfl) fun kQ hkQ => ?_
        go_simp
        refine hkQ _ _ ?_
        clear hkQ kQ
        refine wpList_nil ?_
        clear H10
        go_upto_region 8 with fail
        refine wp_region_lit ?_
        refine wl (by kernel_rfl) fun kQ hkQ => ?_
        go_simp
        refine hkQ _ _ ?_
        clear hkQ kQ
        refine wl (by kernel_rfl) fun kQ hkQ => ?_
        go_simp
        refine hkQ _ _ ?_
        clear hkQ kQ
        refine wpList_nil ?_
        go_upto_region 9 with fail
        refine wp_region_lit ?_
        refine wl (by kernel_rfl) fun kQ hkQ => ?_
        go_simp
        refine hkQ _ _ ?_
        clear hkQ kQ
        refine wl (by kernel_rfl) fun kQ hkQ => ?_
        go_simp
        refine hkQ _ _ ?_
        clear hkQ kQ
        refine wl (by kernel_rfl) fun kQ hkQ => ?_
        go_simp
        refine hkQ _ _ ?_
        clear hkQ kQ
        refine wpList_nil ?_
        clear e1
        go_upto_region 10 with fail
        have happ := unhide HAPP
        refine wp_region_lit ?_
        refine wl (by kernel_rfl) fun kQ hkQ => ?_
        go_simp
        refine hkQ _ _ ?_
        clear hkQ kQ
        refine wl (by kernel_rfl) fun kQ hkQ => ?_
        go_simp
        refine hkQ _ _ ?_
        clear hkQ kQ
        refine wl (by kernel_rfl) fun kQ hkQ => ?_
        go_simp
        refine hkQ _ _ ?_
        clear hkQ kQ
        refine wl_bs1u (by kernel_rfl) (.tmp 21) rfl (48 + v) rfl hS ?_
        clear hS
        intro g61 w61 hS
        simp [Act.put]
        refine wv (.string (strOfNums [48 + v])) (by kernel_rfl) (ex_conv (.tmp 22) rfl ⟨some ⟨g61, 0, none⟩, 1, 1, [48 + v]⟩ rfl (sx_one hS)) ?_
        simp [Act.put]
        refine wl (by kernel_rfl) fun kQ hkQ => ?_
        go_simp
        refine hkQ _ _ ?_
        clear hkQ kQ
        refine wl (by kernel_rfl) fun kQ hkQ => ?_
        go_simp
        refine hkQ _ _ ?_
        clear hkQ kQ
        refine wl (by kernel_rfl) fun kQ hkQ => ?_
        go_simp
        refine hkQ _ _ ?_
        clear hkQ kQ
        refine wpList_nil ?_
        replace hS := hS.sub (List.nil_sublist _)
        go_upto_region 6 with fail
        clear happ e2 e3 hsz hsz1 hszn
        have e4 := unhide HE4
        refine wp_region_lit ?_
        refine wl (by kernel_rfl) fun kQ hkQ => ?_
        go_simp
        refine hkQ _ _ ?_
        clear hkQ kQ
        refine wl (by kernel_rfl) fun kQ hkQ => ?_
        go_simp
        refine hkQ _ _ ?_
        clear hkQ kQ
        refine wl (by kernel_rfl) fun kQ hkQ => ?_
        go_simp
        refine hkQ _ _ ?_
        clear hkQ kQ
        refine wpList_nil ?_
        go_wp2_with fail
        go_roundw
        case rel => first | exact ⟨q, (48 + v) :: t, rfl, rfl, HM', HT', hS⟩ | exact ⟨q, (48 + v) :: t, rfl, rfl, HM', HT'⟩ | exact ⟨_, _, _, _, _, _, _, _, _, _, _, _, _, _, _, _, _, _, _, _, ⟨q, (48 + v) :: t, rfl, rfl, HM', HT', hS⟩, by rw [show (n == 0) = false by simpa using h0]⟩
        case measure => simp [intOf]; exact unhide HQA
      · have e1 : v = d := hdv.2 (by omega)
        clear hda hdv
        go_upto_region 7 with fail
        refine wp_region_lit ?_
        refine wl (by kernel_rfl) fun kQ hkQ => ?_
        go_simp
        refine hkQ _ _ ?_
        clear hkQ kQ
        refine wl (by kernel_rfl) fun kQ hkQ => ?_
        go_simp
        refine hkQ _ _ ?_
        clear hkQ kQ
        refine wl (by kernel_rfl) fun kQ hkQ => ?_
        go_simp
        refine hkQ _ _ ?_
        clear hkQ kQ
        refine wpList_nil ?_
        clear H10
        go_upto_region 8 with fail
        refine wp_region_lit ?_
        refine wl (by kernel_rfl) fun kQ hkQ => ?_
        go_simp
        refine hkQ _ _ ?_
        clear hkQ kQ
        refine wl (by kernel_rfl) fun kQ hkQ => ?_
        go_simp
        refine hkQ _ _ ?_
        clear hkQ kQ
        refine wpList_nil ?_
        subst e1
        go_upto_region 10 with fail
        have happ := unhide HAPP
        refine wp_region_lit ?_
        refine wl (by kernel_rfl) fun kQ hkQ => ?_
        go_simp
        refine hkQ _ _ ?_
        clear hkQ kQ
        refine wl (by kernel_rfl) fun kQ hkQ => ?_
        go_simp
        refine hkQ _ _ ?_
        clear hkQ kQ
        refine wl (by kernel_rfl) fun kQ hkQ => ?_
        go_simp
        refine hkQ _ _ ?_
        clear hkQ kQ
        refine wl_bs1u (by kernel_rfl) (.tmp 21) rfl (48 + v) rfl hS ?_
        clear hS
        intro g91 w91 hS
        simp [Act.put]
        refine wv (.string (strOfNums [48 + v])) (by kernel_rfl) (ex_conv (.tmp 22) rfl ⟨some ⟨g91, 0, none⟩, 1, 1, [48 + v]⟩ rfl (sx_one hS)) ?_
        simp [Act.put]
        refine wl (by kernel_rfl) fun kQ hkQ => ?_
        go_simp
        refine hkQ _ _ ?_
        clear hkQ kQ
        refine wl (by kernel_rfl) fun kQ hkQ => ?_
        go_simp
        refine hkQ _ _ ?_
        clear hkQ kQ
        refine wl (by kernel_rfl) fun kQ hkQ => ?_
        go_simp
        refine hkQ _ _ ?_
        clear hkQ kQ
        refine wpList_nil ?_
        replace hS := hS.sub (List.nil_sublist _)
        go_upto_region 6 with fail
        clear happ e2 e3 hsz hsz1 hszn
        have e4 := unhide HE4
        refine wp_region_lit ?_
        refine wl (by kernel_rfl) fun kQ hkQ => ?_
        go_simp
        refine hkQ _ _ ?_
        clear hkQ kQ
        refine wl (by kernel_rfl) fun kQ hkQ => ?_
        go_simp
        refine hkQ _ _ ?_
        clear hkQ kQ
        refine wl (by kernel_rfl) fun kQ hkQ => ?_
        go_simp
        refine hkQ _ _ ?_
        clear hkQ kQ
        refine wpList_nil ?_
        go_wp2_with fail
        go_roundw
        case rel => first | exact ⟨q, (48 + v) :: t, rfl, rfl, HM', HT', hS⟩ | exact ⟨q, (48 + v) :: t, rfl, rfl, HM', HT'⟩ | exact ⟨_, _, _, _, _, _, _, _, _, _, _, _, _, _, _, _, _, _, _, _, ⟨q, (48 + v) :: t, rfl, rfl, HM', HT', hS⟩, by rw [show (n == 0) = false by simpa using h0]⟩
        case measure => simp [intOf]; exact unhide HQA
end Go.Proofs.YtdcaojiiaocnaaaGreatDoor
