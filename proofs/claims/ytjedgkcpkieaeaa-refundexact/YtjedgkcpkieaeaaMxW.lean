import Derived.Test.YtjedgkcpkieaeaaPuM
import Derived.Deep.DeepCutAuto
import Derived.Deep.QuietTactic
import Derived.BigQuiet
set_option linter.unusedSimpArgs false
set_option linter.unusedVariables false
namespace Go.Proofs.Ytjedgkcpkieaeaa
open Go.RowKit

/-! Acknowledgements in another order. -/
def mxF (xs : List Akn) (p : Int) : Option Akn := if 0 ≤ p then xs[(p % (xs.length : Int)).toNat]? else none
def mxP (xs : List Akn) (ps : List Int) : List Akn := ps.filterMap (mxF xs)
def mxR (xs : List Akn) (k : Nat) : List Akn := xs.reverse.take k
def mxL (xs : List Akn) (ps : List Int) : List Akn := mxP xs ps ++ xs.reverse
theorem mxP_succ (xs : List Akn) (ps : List Int) (k : Nat) (p : Int) (hp : ps[k]? = some p) : mxP xs (ps.take (k + 1)) = mxP xs (ps.take k) ++ (mxF xs p).toList := by
  rw [List.take_add_one, hp]
  simp only [mxP, List.filterMap_append, Option.toList]
  cases h : mxF xs p <;> simp [h]
theorem mxP_len (xs : List Akn) (ps : List Int) : (mxP xs ps).length ≤ ps.length := List.length_filterMap_le _ _
theorem mxR_succ {xs : List Akn} {k j n : Nat} {y : Akn} (hl : xs.length = n) (hk : k < n) (hj : j = n - 1 - k) (hy : xs[j]? = some y) : mxR xs (k + 1) = mxR xs k ++ [y] := by
  have : xs.reverse[k]? = some y := by rw [List.getElem?_reverse (by omega), hl, ← hj]; exact hy
  rw [mxR, List.take_add_one, this]; rfl
theorem mxR_len (xs : List Akn) (k : Nat) : (mxR xs k).length ≤ k := by rw [mxR, List.length_take]; omega
theorem Ok21.nil (w : World) (base : Nat) : Ok21 w base (.slice none 0 0) [] := own_nil w base _
theorem Ok21.old {w w' : World} {base : Nat} {v : Value} {l : List Akn} (h : Ok21 w base v l) (ho : Old w w') : Ok21 w' base v l := own_blk h (fun g hg => ho.block g (own_lt h hg).2)
set_option maxHeartbeats 2000000 in
set_option maxRecDepth 100000 in
theorem mixed_any (xa : Option Addr) (xn xc : Nat) (xs : List Akn) (pa : Option Addr) (pn pc : Nat) (ps : List Int) (w : World) (hx : Sk w ⟨xa, xn, xc, xs⟩) (hp : Si w ⟨pa, pn, pc, ps⟩) (hpr : ∀ p ∈ ps, -9223372036854775808 ≤ p ∧ p ≤ 9223372036854775807) (hxn : xn ≤ 1000000) (hpn : pn ≤ 1000000) :
    Calls Try.prog 19 #[.slice xa xn xc, .slice pa pn pc] w fun e w' => ∃ v, e = .returned v ∧ Ok21 w' w.heap.size v (mxL xs ps) ∧ Below w.heap.size w w' := by
  have hlx : xs.length = xn := hx.len
  have hlp : ps.length = pn := hp.len
  have HLX := hide hlx
  have HLP := hide hlp
  have HX := hide hx
  have HP := hide hp
  have HPR := hide hpr
  clear hx hp hpr hlx hlp
  go_enter Try.func19, Try.ntmps19
  go_wp2_with fail
  go_loopw [5, 6] (fun v vi wr => ∃ k : Nat, k ≤ pn ∧ vi = .int .i64 k ∧ Ok21 wr w.heap.size v (mxP xs (ps.take k)) ∧ Below w.heap.size w wr) (fun _ vi _ => pn - (intOf vi).toNat)
  case atStart => exact ⟨0, by omega, rfl, Ok21.nil w w.heap.size, Below.refl _ _⟩
  case round =>
    obtain ⟨k, hk, rfl, hO, hbl⟩ := hrel
    by_cases hlt : k < pn
    · have hkz : (k : Int) < (pn : Int) := by omega
      obtain ⟨pb, poff, hpa, hpb, hpc0⟩ := (unhide HP).at_ (k := k) hlt
      simp only at hpa hpc0
      subst hpa
      have hpk : ps[k]? = some (ps.getD k 0) := by simp [unhide HLP, hlt]
      obtain ⟨p, hpe⟩ : ∃ p, ps.getD k 0 = p := ⟨_, rfl⟩
      rw [hpe] at hpc0 hpk
      have hpin := unhide HPR p (List.mem_of_getElem? hpk)
      have HPK := hide hpk
      have HPIN := hide hpin
      have cp : wr.cell? ⟨pb, poff + k, none⟩ = some (.int .i64 p) := (hbl.cell (p := ⟨pb, poff + k, none⟩) hpb).trans hpc0
      have HB := hide hbl
      have HO := hide hO
      clear hpc0 hpe hpk hpin hbl hO
      by_cases hx0 : 0 < xn
      · have hxz : 0 < (xn : Int) := by omega
        by_cases hp0 : 0 ≤ p
        · obtain ⟨j, hj⟩ : ∃ j : Nat, p % (xn : Int) = (j : Int) := ⟨(p % (xn : Int)).toNat, by have := Int.emod_nonneg p (show (xn : Int) ≠ 0 by omega); omega⟩
          have hjl : j < xn := by have := Int.emod_lt_of_pos p hxz; omega
          obtain ⟨y, xb, xoff, hye, hxa, hxb, hxr0⟩ := (unhide HX).at_ (k := j) hjl
          simp only at hye hxa
          subst hxa
          have hxr : wr.rangeAt xb (xoff + j * 2) (kC y) := rangeAt_blk hxr0 ((unhide HB).block xb hxb)
          have hbs2 : xb < wr.heap.size := Nat.lt_of_lt_of_le hxb (unhide HB).size
          have HF : Hid (mxF xs p = some y) := hide (by unfold mxF; rw [if_pos hp0, unhide HLX, hj]; simpa using hye)
          have hS := Hs17.begin wr (fun w' => (w'.cell? ⟨pb, poff + k, none⟩ = some (.int .i64 p) ∧ w'.rangeAt xb (xoff + j * 2) (kC y)) ∧ Ok21 w' w.heap.size u5 (mxP xs (ps.take k))) (fun w' ho => ⟨⟨(World.cell?_of_block (w := wr) (w' := w') (a := ⟨pb, poff + k, none⟩) (ho.block pb (Nat.lt_of_lt_of_le hpb (unhide HB).size))).trans cp, rangeAt_old hxr hbs2 ho⟩, Ok21.old (unhide HO) ho⟩)
          have HXL : Hid ((mxP xs (ps.take k)).length ≤ k) := hide (Nat.le_trans (mxP_len _ _) (by rw [List.length_take]; omega))
          obtain ⟨Y, hY⟩ : ∃ Y, mxP xs (ps.take k) = Y := ⟨_, rfl⟩
          rw [hY] at hS HXL
          have HYE := hide hY
          have HJ := hide hj
          have HJL := hide hjl
          clear hye hxr0 hxr hY hj hjl HO
          go_upto_region 6 with fail
          refine wp_region_lit ?_
          refine wl (by kernel_rfl) fun kQ hkQ => ?_
          go_simp
          refine hkQ _ _ ?_
          clear hkQ kQ
          refine wl (by kernel_rfl) fun kQ hkQ => ?_
          go_simp
          refine hkQ _ _ ?_
          clear hkQ kQ
          refine wl (by kernel_rfl) fun kQ hkQ => ?_
          go_simp
          refine hkQ _ _ ?_
          clear hkQ kQ
          refine wl (by kernel_rfl) fun kQ hkQ => ?_
          go_simp
          refine hkQ _ _ ?_
          clear hkQ kQ
          refine wl (by kernel_rfl) fun kQ hkQ => ?_
          go_simp
          refine hkQ _ _ ?_
          clear hkQ kQ
          refine wl_loadC (by kernel_rfl) 3 (.tmp 28) rfl pb (poff + k) rfl (.int .i64 p) hS.K.1.1 Try.underlying3 rfl ?_
          simp [Act.put]
          refine wl (by kernel_rfl) fun kQ hkQ => ?_
          go_simp
          refine hkQ _ _ ?_
          clear hkQ kQ
          refine wl (by kernel_rfl) fun kQ hkQ => ?_
          go_simp
          refine hkQ _ _ ?_
          clear hkQ kQ
          have hxne : ¬ xn = 0 := by omega
          refine wl (by kernel_rfl) fun kQ hkQ => ?_
          go_simp
          refine hkQ _ _ ?_
          clear hkQ kQ
          rw [show p.tmod (xn : Int) = (j : Int) from (Int.tmod_eq_emod_of_nonneg hp0).trans (unhide HJ)]
          clear hxne
          have hjz : (j : Int) < (xn : Int) := by have := unhide HJL; omega
          refine wl (by kernel_rfl) fun kQ hkQ => ?_
          go_simp
          refine hkQ _ _ ?_
          clear hkQ kQ
          clear hjz
          refine wv (aV (kC y)) (by kernel_rfl) (ex_loadR 32 (.tmp 33) rfl xb (xoff + j * 2) rfl (kC y) hS.K.1.2 Try.underlying32 rfl (szK _)) ?_
          simp [Act.put]
          refine wl_bs1k (by kernel_rfl) (.tmp 34) rfl y rfl hS ?_
          clear hS
          intro g9 w9 hS
          simp [Act.put]
          refine wl_appk (by kernel_rfl) (.tmp 24) (.tmp 35) rfl rfl hS.K.2 ⟨some ⟨g9, 0, none⟩, 1, 1, [y]⟩ (sx_one hS) rfl (by have := unhide HXL; simp only; omega) (Nat.le_trans (unhide HB).size hS.bel.size) ?_
          intro v' w' hO' hg9 _
          have hbw : Below w.heap.size w w' := ((unhide HB).trans (hS.bel.mono (unhide HB).size)).trans (own_belG (row := none) hS.K.2 hg9 (Nat.le_refl _) (Nat.le_trans (unhide HB).size hS.bel.size))
          simp [Act.put]
          clear hS hg9
          refine wl (by kernel_rfl) fun kQ hkQ => ?_
          go_simp
          refine hkQ _ _ ?_
          clear hkQ kQ
          refine wpList_nil ?_
          clear cp
          go_wp2
          go_roundw
          case rel => exact ⟨k + 1, by omega, by go_num, by rw [mxP_succ xs ps k p (unhide HPK), unhide HF, unhide HYE]; exact hO', hbw⟩
          case measure => simp [intOf]; omega
        · have hp1 : ¬ 0 ≤ p := hp0
          have HF : Hid (mxF xs p = none) := hide (by unfold mxF; rw [if_neg hp1])
          go_wp2
          go_roundw
          case rel => exact ⟨k + 1, by omega, by go_num, by rw [mxP_succ xs ps k p (unhide HPK), unhide HF]; simpa using unhide HO, unhide HB⟩
          case measure => simp [intOf]; omega
      · obtain rfl : xn = 0 := by omega
        have HF : Hid (mxF xs p = none) := hide (by unfold mxF; split; rw [List.eq_nil_of_length_eq_zero (unhide HLX)]; rfl; rfl)
        go_wp2
        go_roundw
        case rel => exact ⟨k + 1, by omega, by go_num, by rw [mxP_succ xs ps k p (unhide HPK), unhide HF]; simpa using unhide HO, unhide HB⟩
        case measure => simp [intOf]; omega
    · have hkz : ¬ (k : Int) < (pn : Int) := by omega
      have hfull : ps.take k = ps := List.take_of_length_le (by rw [unhide HLP]; omega)
      rw [hfull] at hO
      have HXL : Hid ((mxP xs ps).length ≤ pn) := hide (Nat.le_trans (mxP_len _ _) (by rw [unhide HLP]; omega))
      obtain ⟨Y, hY⟩ : ∃ Y, mxP xs ps = Y := ⟨_, rfl⟩
      rw [hY] at hO HXL
      have HYE := hide hY
      have HB := hide hbl
      have HO := hide hO
      clear hY hfull hbl hO
      go_upto_region 7 with fail
      refine wp_region_lit ?_
      refine wl (by kernel_rfl) fun kQ hkQ => ?_
      go_simp
      refine hkQ _ _ ?_
      clear hkQ kQ
      refine wl (by kernel_rfl) fun kQ hkQ => ?_
      go_simp
      refine hkQ _ _ ?_
      clear hkQ kQ
      refine wl (by kernel_rfl) fun kQ hkQ => ?_
      go_simp
      refine hkQ _ _ ?_
      clear hkQ kQ
      rw [wrapS ((xn : Int) - 1) (by omega) (by omega)]
      refine wl (by kernel_rfl) fun kQ hkQ => ?_
      go_simp
      refine hkQ _ _ ?_
      clear hkQ kQ
      refine wpList_nil ?_
      go_wp2_with fail
      go_loopw [5, 7] (fun v vi wq => ∃ k : Nat, k ≤ xn ∧ vi = .int .i64 ((xn : Int) - 1 - k) ∧ Ok21 wq w.heap.size v (Y ++ mxR xs k) ∧ Below w.heap.size w wq) (fun _ vi _ => (intOf vi + 1).toNat)
      case atStart => exact ⟨0, by omega, by simp, by simpa [mxR] using unhide HO, unhide HB⟩
      case round =>
        clear HO HB
        obtain ⟨k, hk, rfl, hO, hbl⟩ := hrel
        by_cases hlt : k < xn
        · obtain ⟨j, hj⟩ : ∃ j : Nat, (xn : Int) - 1 - (k : Int) = (j : Int) := ⟨xn - 1 - k, by omega⟩
          have hjl : j < xn := by omega
          obtain ⟨y, xb, xoff, hye, hxa, hxb, hxr0⟩ := (unhide HX).at_ (k := j) hjl
          simp only at hye hxa
          subst hxa
          rw [hj]
          have h0j : 0 ≤ (j : Int) := by omega
          have hjz : (j : Int) < (xn : Int) := by omega
          have hxr : wr.rangeAt xb (xoff + j * 2) (kC y) := rangeAt_blk hxr0 (hbl.block xb hxb)
          have hbs2 : xb < wr.heap.size := Nat.lt_of_lt_of_le hxb hbl.size
          have hS := Hs17.begin wr (fun w' => w'.rangeAt xb (xoff + j * 2) (kC y) ∧ Ok21 w' w.heap.size u5 (Y ++ mxR xs k)) (fun w' ho => ⟨rangeAt_old hxr hbs2 ho, Ok21.old hO ho⟩)
          have HML : Hid ((Y ++ mxR xs k).length ≤ pn + k) := hide (by rw [List.length_append]; have h1 := unhide HXL; have h2 := mxR_len xs k; omega)
          have HSU := hide (mxR_succ (unhide HLX) hlt (show j = xn - 1 - k by omega) hye)
          obtain ⟨Z, hZ⟩ : ∃ Z, Y ++ mxR xs k = Z := ⟨_, rfl⟩
          rw [hZ] at hS HML
          have HZE := hide hZ
          have HB := hide hbl
          have HJ := hide hj
          clear hye hxr0 hxr hZ hj hjl hO hbl
          go_upto_region 10 with fail
          refine wp_region_lit ?_
          refine wl (by kernel_rfl) fun kQ hkQ => ?_
          go_simp
          refine hkQ _ _ ?_
          clear hkQ kQ
          refine wl (by kernel_rfl) fun kQ hkQ => ?_
          go_simp
          refine hkQ _ _ ?_
          clear hkQ kQ
          refine wl (by kernel_rfl) fun kQ hkQ => ?_
          go_simp
          refine hkQ _ _ ?_
          clear hkQ kQ
          refine wl (by kernel_rfl) fun kQ hkQ => ?_
          go_simp
          refine hkQ _ _ ?_
          clear hkQ kQ
          refine wv (aV (kC y)) (by kernel_rfl) (ex_loadR 32 (.tmp 47) rfl xb (xoff + j * 2) rfl (kC y) hS.K.1 Try.underlying32 rfl (szK _)) ?_
          simp [Act.put]
          refine wl_bs1k (by kernel_rfl) (.tmp 48) rfl y rfl hS ?_
          clear hS
          intro g9 w9 hS
          simp [Act.put]
          refine wl_appk (by kernel_rfl) (.tmp 44) (.tmp 49) rfl rfl hS.K.2 ⟨some ⟨g9, 0, none⟩, 1, 1, [y]⟩ (sx_one hS) rfl (by have := unhide HML; simp only; omega) (Nat.le_trans (unhide HB).size hS.bel.size) ?_
          intro v' w' hO' hg9 _
          have hbw : Below w.heap.size w w' := ((unhide HB).trans (hS.bel.mono (unhide HB).size)).trans (own_belG (row := none) hS.K.2 hg9 (Nat.le_refl _) (Nat.le_trans (unhide HB).size hS.bel.size))
          simp [Act.put]
          clear hS hg9
          refine wl (by kernel_rfl) fun kQ hkQ => ?_
          go_simp
          refine hkQ _ _ ?_
          clear hkQ kQ
          refine wpList_nil ?_
          go_wp2
          go_roundw
          case rel => exact ⟨k + 1, by omega, by congr 1; have := unhide HJ; omega, by rw [unhide HSU, ← List.append_assoc, unhide HZE]; exact hO', hbw⟩
          case measure => simp [intOf] <;> omega
        · obtain rfl : xn = k := by omega
          have e : (xn : Int) - 1 - (xn : Int) = -1 := by omega
          rw [e]
          have HO := hide hO
          clear hO e
          go_wp2_with fail
          go_ret
          refine ⟨_, rfl, ?_, hbl⟩
          have := unhide HO
          rw [mxR, List.take_of_length_le (by rw [List.length_reverse, unhide HLX]; exact Nat.le_refl _), ← unhide HYE] at this
          exact this
end Go.Proofs.Ytjedgkcpkieaeaa
