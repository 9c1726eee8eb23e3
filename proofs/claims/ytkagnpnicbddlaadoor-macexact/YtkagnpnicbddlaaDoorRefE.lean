import Derived.Test.YtkagnpnicbddlaaDoorRefM6
import Derived.Test.YtkagnpnicbddlaaDoorExpS
namespace Go.Proofs.YtkagnpnicbddlaaDoor
open Go.RowKit

theorem Sl.Ok.grown {w w' : World} {s : Sl} {row : Option Nat} (h : s.Ok w) (hg : w.grownBy w' row) (hne : 0 < s.l.length → ∀ x, s.a = some x → some x.block ≠ row) : s.Ok w' := by
  refine ⟨h.len, h.le, h.mx, h.nn, h.isB, fun hp => ?_⟩
  obtain ⟨b, off, ha, hlt, hc⟩ := h.lies hp
  have hn := hne hp _ ha
  exact ⟨b, off, ha, Nat.lt_of_lt_of_le hlt hg.size, fun i hi => (hg.cell_far ⟨b, off + i, none⟩ hlt hn).trans (hc i hi)⟩

set_option maxHeartbeats 2000000 in
set_option maxRecDepth 100000 in
theorem reflisted_any (K : List Int) (w : World) (hKl : K.length = 32) (hKB : IsB K) :
    Calls Tryd.prog 54 #[.agg (U8 K).toArray] w fun e w' => ∃ r : Sl, e = .returned r.v ∧ r.Ok w' ∧ r.l = K ∧ Below w.heap.size w w' := by
  obtain ⟨i0, hii, hz0, hz1, hz2⟩ := info_parts Tryd.infoB
  obtain ⟨W2, hW, hA2, hbw2, hsW⟩ := arr1 w 23 (U8 K)
  have HW := hide hW
  have HRL := hide hKl
  clear hW hsW hKl
  go_enter Tryd.func54, Tryd.ntmps54
  go_wp2_with (rw [show Obj.cells (U8 K).toArray 23 = Obj.cells (U8 K).toArray 23 (0, 0) from rfl, ← unhide HW])
  clear HW
  go_loopw [3, 4] (fun v i wr => ∃ j : Nat, j ≤ 32 ∧ i = .int .i64 j ∧ wr.ownsRow W2.heap.size 5 1 v j (U8 (K.take j)) ∧ Below W2.heap.size W2 wr) (fun _ i _ => 32 - (intOf i).toNat)
  case atStart => exact ⟨0, by omega, rfl, World.ownsRow_nil _ _ _ _, Below.refl _ _⟩
  case round =>
    obtain ⟨j, hj, rfl, hown, hbl⟩ := hrel
    by_cases hlt : j < 32
    · have hjz : (j : Int) < 32 := by omega
      have htk := take_snoc K j (by rw [unhide HRL]; exact hlt)
      have cl := (hA2.later hbl).cell8 j (by rw [unhide HRL]; exact hlt)
      generalize K.getD j 0 = x at htk cl
      have HTK := hide htk
      clear htk
      go_wp2_with (at_builtin; refine wpList_append_own _ rfl _ _ 24 rfl W2.heap.size 5 i0 (.int .u8 0) 1 1 Tryd.underlying24 hii hz0 hz1 hz2 rfl (by decide) _ j (U8 (K.take j)) rfl (hown.alloc _) ⟨wr.heap.size, 0, none⟩ 1 1 [.int .u8 x] rfl rfl (cell_one_new _ _ _) (one_byte _) (by unfold maxLen; omega) (by omega) (by have := hbl.size; simp; omega) ?_)
      intro v4 w4 hown4 hgrow4 _
      have hb4 := below_app hbl (Nat.le_refl _) hown hgrow4
      rw [U8_snoc2, ← unhide HTK] at hown4
      clear hgrow4 hown hbl
      go_wp2
      go_roundw
      case rel => exact ⟨j + 1, by omega, by go_num, hown4, hb4⟩
      case measure => simp [intOf]; omega
    · have hjn : j = 32 := by omega
      have hkz : ¬ ((j : Int) < 32) := by omega
      have hkd : decide ((j : Int) < 32) = false := by simpa using hkz
      rw [hjn, List.take_of_length_le (by rw [unhide HRL]; exact Nat.le_refl _)] at hown
      obtain ⟨r, rfl, okr, hrl, -, -⟩ := own_sl hown hKB
      clear hown hj hlt hjn
      go_wp2
      go_ret
      exact ⟨r, rfl, okr, hrl, hbw2.trans (hbl.mono hbw2.size)⟩

set_option maxHeartbeats 2000000 in
set_option maxRecDepth 100000 in
theorem refExpand_no (K : List Int) (info : Sl) (n : Int) (w : World) (hno : n < 0 ∨ 8160 < n) :
    Calls Tryd.prog 34 #[.agg (U8 K).toArray, info.v, .int .i64 n] w fun e w' => e = .returned (.tuple #[.slice none 0 0, .bool false]) ∧ Below w.heap.size w w' := by
  obtain ⟨W, hW, hA, hbW, hsW⟩ := arr1 w 23 (U8 K)
  have HW := hide hW
  clear hW hsW
  simp only [Sl.v]
  go_enter Tryd.func34, Tryd.ntmps34
  by_cases h1 : n < 0
  · have d1 : decide (n < 0) = true := by simpa using h1
    go_wp2_with (rw [show Obj.cells (U8 K).toArray 23 = Obj.cells (U8 K).toArray 23 (0, 0) from rfl, ← unhide HW])
    go_ret2
    exact ⟨rfl, hbW⟩
  · have d1 : decide (n < 0) = false := by simpa using h1
    have h2 : 8160 < n := by omega
    have d2 : decide (8160 < n) = true := by simpa using h2
    go_wp2_with (rw [show Obj.cells (U8 K).toArray 23 = Obj.cells (U8 K).toArray 23 (0, 0) from rfl, ← unhide HW])
    go_ret2
    exact ⟨rfl, hbW⟩

set_option maxHeartbeats 4000000 in
set_option maxRecDepth 100000 in
theorem refExpand_ok (K : List Int) (info : Sl) (n : Nat) (w : World) (hKl : K.length = 32) (hKB : IsB K) (hi : info.Ok w) (hin : info.n ≤ 300000) (hn : n ≤ 8160) :
    Calls Tryd.prog 34 #[.agg (U8 K).toArray, info.v, .int .i64 n] w fun e w' => ∃ r : Sl, e = .returned (.tuple #[r.v, .bool true]) ∧ r.Ok w' ∧ r.l = expZ K info.l n ∧ (∀ x, r.a = some x → w.heap.size ≤ x.block) ∧ Below w.heap.size w w' := by
  obtain ⟨i0, hii, hz0, hz1, hz2⟩ := info_parts Tryd.infoB
  obtain ⟨W, hW, hAK, hbW, hsW⟩ := arr1 w 23 (U8 K)
  have HW := hide hW
  have HKL := hide hKl
  clear hW hsW hKl
  have hzk : (Tryd.prog.info? 23).map (·.size) = some (U8 K).toArray.size := by rw [Tryd.szL32]; simp [unhide HKL]
  obtain ⟨ia, inn, ic, il⟩ := info
  have hil : il.length = inn := hi.len
  have HIL := hide hil
  have hiW := hi.later hbW
  clear hil
  simp only [Sl.v] at hin ⊢
  have nz : ¬ ((n : Int) < 0) := by omega
  have nz2 : ¬ ((8160 : Int) < (n : Int)) := by omega
  have nd2 : decide ((8160 : Int) < (n : Int)) = false := by simpa using nz2
  go_enter Tryd.func34, Tryd.ntmps34
  go_wp2_with (rw [show Obj.cells (U8 K).toArray 23 = Obj.cells (U8 K).toArray 23 (0, 0) from rfl, ← unhide HW])
  clear nz nz2 nd2 HW
  go_loopw [8, 9, 10] (fun ov lv cv wr => ∃ (i : Nat) (ls : Sl), wr.ownsRow W.heap.size 5 1 ov (32 * i) (U8 (chZt K il i)) ∧ lv = ls.v ∧ ls.l = tZ K il i ∧ ls.Ok wr ∧ cv = .int .i64 ((i + 1 : Nat) : Int) ∧ 32 * i < n + 32 ∧ Below W.heap.size W wr)
    (fun _ _ cv _ => 300 - (intOf cv).toNat)
  case atStart => exact ⟨0, ⟨none, 0, 0, []⟩, World.ownsRow_nil _ _ _ _, rfl, rfl, ⟨rfl, Nat.le_refl _, by simp, fun _ => ⟨rfl, rfl⟩, (fun x hx => by simp at hx), Lies.nil _ _⟩, rfl, by omega, Below.refl _ _⟩
  case round =>
    obtain ⟨i, ⟨la, ln, lc, ll⟩, hown, rfl, hll, okl, rfl, hi32, hbl⟩ := hrel
    obtain ⟨⟨oa, on, oc, ol⟩, rfl, oko, hol0, hon0, hnewo⟩ := own_sl hown (chZt_isB K il i)
    have hol : ol = chZt K il i := hol0
    have hon : on = 32 * i := hon0
    subst hol
    simp only [Sl.v] at hown ⊢
    by_cases hlt : 32 * i < n
    · have hlen : ll.length = ln := okl.len
      have hll' : ll = tZ K il i := hll
      have hl32 : ln ≤ 32 := by rw [← hlen, hll']; exact tZ_le _ _ _
      obtain ⟨c, hc⟩ : ∃ c, c = ((i + 1 : Nat) : Int) := ⟨_, rfl⟩
      have c0 : 0 ≤ c := by omega
      have c1 : c ≤ 255 := by omega
      obtain ⟨J, hJ⟩ : ∃ J, J = ll ++ (il ++ [c]) := ⟨_, rfl⟩
      obtain ⟨T, hT⟩ : ∃ T, T = chZt K il i := ⟨_, rfl⟩
      have hRT : mac6 K J = tZ K il (i + 1) := by rw [hJ, hc, hll']; rfl
      have HJB : Hid (IsB J) := by show IsB J; rw [hJ]; exact okl.isB.app (hi.isB.app (fun y hy => by simp at hy; subst hy; exact ⟨c0, c1⟩))
      have HJ := hide hJ
      have HRT := hide hRT
      have HC := hide hc
      have HTT := hide hT
      rw [← hT] at hown
      have hontn : (on : Int) < (n : Int) := by omega
      have HON := hide hon
      have HOL := hide okl
      have hir := hiW.later hbl
      have HIR := hide hir
      have hAKr := hAK.later hbl
      rw [← hc]
      clear hJ hRT hlen hll hll' okl hc hir hol0 hon0 oko hT hon hnewo
      have hlt2 : 32 * i < n := hlt
      have HLT := hide hlt2
      clear hlt hlt2
      go_wp2_with (first
        | (at_builtin
           refine wpList_append_sl rfl (.tmp 24) (.tmp 25) 24 rfl wr.heap.size 5 i0 (.int .u8 0) Tryd.underlying24 hii hz0 hz1 hz2 rfl (.slice none 0 0) 0 [] rfl (World.ownsRow_nil _ _ _ _) ⟨la, ln, lc, ll⟩ (unhide HOL) rfl (by show 0 + ln ≤ _; omega) (Nat.le_refl _) ?_
           intro v1 w2 own1 gr1
           have hb2 : Below wr.heap.size wr w2 := below_grown (Below.refl _ _) (Nat.le_refl _) (World.ownsRow_nil _ _ 5 _) (unhide gr1)
           have HIR2 := hide ((unhide HIR).later hb2)
           clear gr1)
        | (at_builtin
           refine wpList_append_sl rfl (.tmp 27) (.tmp 28) 24 rfl wr.heap.size 5 i0 (.int .u8 0) Tryd.underlying24 hii hz0 hz1 hz2 rfl v1 (0 + ln) ([] ++ U8 ll) rfl (unhide own1) ⟨ia, inn, ic, il⟩ (unhide HIR2) rfl (by show 0 + ln + inn ≤ _; omega) hb2.size ?_
           intro v2 w3 own2 gr2
           have hb3 : Below wr.heap.size wr w3 := below_grown hb2 (Nat.le_refl _) (unhide own1) (unhide gr2)
           have own2' := unhide own2
           clear gr2 own2 own1 hb2 HIR2)
        | (at_builtin
           refine wpList_append_own _ rfl _ _ 24 rfl wr.heap.size 5 i0 (.int .u8 0) 1 1 Tryd.underlying24 hii hz0 hz1 hz2 rfl (by decide) _ (0 + ln + inn) ([] ++ U8 ll ++ U8 il) rfl (own2'.alloc _) ⟨w3.heap.size, 0, none⟩ 1 1 [.int .u8 c] rfl rfl (cell_one_new _ _ _) (one_byte _) (by unfold maxLen; omega) (by omega) (by have := hb3.size; simp; omega) ?_
           intro v3 w4 own3 gr3 _
           have hb4 := below_app hb3 (Nat.le_refl _) own2' gr3
           have own4 : w4.ownsRow wr.heap.size 5 1 v3 (0 + ln + inn + 1) (U8 J) := by
             rw [unhide HJ]
             simpa [U8] using own3
           have HO4 := hide own4
           have HA4 := hAKr.later hb4
           clear gr3 own3 own2' hb3 own4)
        | refine wpList_load_row rfl 23 (.tmp 3) rfl w.heap.size rfl 23 _ (0, 0) _ HA4 Tryd.underlying23 rfl hzk ?_)
      obtain ⟨⟨ma, mn, mc, ml⟩, rfl, okm, hml0, hmn0, -⟩ := own_sl (unhide HO4) (unhide HJB)
      have hml : ml = J := hml0
      have hmn : mn ≤ 390000 := by have h : mn = 0 + ln + inn + 1 := hmn0; omega
      subst hml
      refine (reflisted_any K w4 (unhide HKL) hKB).mono ?_
      rintro e w5 ⟨⟨ka, kn, kc, kl⟩, rfl, okk, hkl0, hb5⟩
      have hkl : kl = K := hkl0
      subst hkl
      have hkn : kn = 32 := by have h : kl.length = kn := okk.len; rw [← h]; exact unhide HKL
      subst hkn
      have hb45 : Below wr.heap.size wr w5 := hb4.trans (hb5.mono hb4.size)
      have okm5 := okm.later hb5
      have own5 := own_later hown hb45
      have hbW5 : Below W.heap.size W w5 := hbl.trans (hb45.mono hbl.size)
      clear okm hb5 hb4 HO4 hml0 hmn0 hkl0 hown HA4 hAKr hb45
      simp only [Sl.v]
      go_wp2_with fail
      refine (refkeyed32_any ⟨ka, 32, kc, kl⟩ ⟨ma, mn, mc, ml⟩ w5 okk okm5 (by show 32 ≤ _; omega) hmn).mono ?_
      rintro e w6 ⟨⟨ra, rn, rc, rl⟩, rfl, okr, hrl0, hnew, hb6⟩
      have hrl : rl = tZ kl il (i + 1) := hrl0.trans (unhide HRT)
      have hrn : rn = 32 := by have h : rl.length = rn := okr.len; rw [← h, hrl]; exact tZ_length _ _ _
      have own6 := own_later own5 hb6
      have hap : ∀ x, ra = some x → some x.block ≠ (Value.slice oa on oc).ownBlock := fun x hx he => by
        have h1 := hnew x hx
        have h2 := (own5.lt _ he.symm).2
        omega
      have HAP := hide hap
      clear hap hnew
      have hbW6 : Below W.heap.size W w6 := hbW5.trans (hb6.mono hbW5.size)
      subst hrn
      have HRL := hide hrl
      clear hrl hrl0 own5 hb6 hbW5 okm5 okk
      simp only [Sl.v]
      go_wp2_with (at_builtin; refine wpList_append_sl rfl (.tmp 39) (.tmp 40) 24 rfl W.heap.size 5 i0 (.int .u8 0) Tryd.underlying24 hii hz0 hz1 hz2 rfl _ (32 * i) (U8 T) rfl own6 ⟨ra, 32, rc, rl⟩ okr rfl (by show 32 * i + 32 ≤ _; have := unhide HLT; omega) hbW6.size ?_; intro v7 w7 hown7 hgrow7)
      have hb7 := below_grown hbW6 (Nat.le_refl _) own6 (unhide hgrow7)
      have h7 := unhide hown7
      rw [← U8_append] at h7
      have okr7 : Sl.Ok w7 ⟨ra, 32, rc, rl⟩ := okr.grown (unhide hgrow7) (fun _ x hx => unhide HAP x hx)
      clear hown7 hgrow7 own6 hbW6 okr
      go_wp2
      go_roundw
      case rel =>
        have hLT := unhide HLT
        refine ⟨i + 1, ⟨ra, 32, rc, rl⟩, ?_, rfl, unhide HRL, okr7, ?_, by omega, hb7⟩
        · rw [show 32 * (i + 1) = 32 * i + 32 from by omega, chZt, ← unhide HTT, ← unhide HRL]; exact h7
        · rw [unhide HC]; go_num
      case measure => have hLT := unhide HLT; have := unhide HC; simp [intOf]; omega
    · have hge : n ≤ on := by omega
      have hx : ¬ ((on : Int) < (n : Int)) := by omega
      have hxd : decide ((on : Int) < (n : Int)) = false := by simpa using hx
      have hle : on ≤ oc := oko.le
      have hnc : (n : Int) ≤ (oc : Int) := by omega
      have hbwr : Below w.heap.size w wr := hbW.trans (hbl.mono hbW.size)
      have hE : (chZt K il i).take n = expZ K il n := by
        unfold expZ
        have : (n + 31) / 32 = i := by omega
        rw [this]
      cases oa with
      | none =>
        obtain ⟨h0, h1⟩ := oko.nn rfl
        have h0' : on = 0 := h0
        have h1' : oc = 0 := h1
        have hn0 : n = 0 := by omega
        subst hn0
        subst h0'
        subst h1'
        clear hxd hx okl hll hon hon0
        go_wp2
        go_ret2
        exact ⟨⟨none, 0, 0, []⟩, rfl, ⟨rfl, Nat.le_refl _, by simp, fun _ => ⟨rfl, rfl⟩, (fun x hx => by simp at hx), Lies.nil _ _⟩, by rw [← hE]; rfl, (fun x hx => by cases hx), hbwr⟩
      | some ad =>
        have okn := oko.cut n hge (by simp)
        clear okl hll hon hon0 hown
        go_wp2
        go_ret2
        exact ⟨⟨some ad, n, oc, (chZt K il i).take n⟩, rfl, okn, hE, fun x hx => Nat.le_trans hbW.size (hnewo x hx), hbwr⟩
end Go.Proofs.YtkagnpnicbddlaaDoor
