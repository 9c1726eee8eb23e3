import Derived.Test.YtppmgfkpfamabaaQGbmZ
import Derived.Deep.DeepCutAuto
import Derived.Deep.QuietTactic
import Derived.BigQuiet
import Derived.Test.YtppmgfkpfamabaaQGbjZ
set_option maxHeartbeats 4000000
set_option maxRecDepth 100000
set_option linter.unusedSimpArgs false
set_option linter.unusedVariables false
namespace Go.Proofs.Ytppmgfkpfamabaa
open Go.RowKit
def PB (ss : List Sl) (k : Nat) : Prop := ∃ s ∈ ss, 0 < s.n ∧ ∃ x, s.a = some x ∧ x.block = k
theorem apart_row {w0 w : World} {row : Row} {K : World → Prop} {z : Sx Sl} {ps ss : List Sl} {R : List Row} (hR : RowG slC 1 22 z ps R) (hS : Hs17 w0 (row :: R) K w) (hss : ss = ps) (h0 : ps ≠ []) :
  ∃ qb ac, z.a = some ⟨qb, 0, none⟩ ∧ Arr w qb 22 ac ∧ z.n = ss.length ∧ z.n ≤ z.c ∧ z.c ≤ maxLen ∧ w0.heap.size ≤ qb ∧ ∀ (k : Nat) (s : Sl), ss[k]? = some s → ac[k]? = some s.v := by
 subst hss
 obtain ⟨za, zn, zc, zx⟩ := z
 obtain ⟨hl, h⟩ := hR
 simp only at hl h ⊢
 rcases h with ⟨-, hn, -, -⟩ | ⟨g, sp, rfl, hle, hmx, hsz, rfl⟩
 ·exact absurd (List.eq_nil_of_length_eq_zero (by omega)) h0
 ·refine ⟨g, _, rfl, hS.arr (g, 22, ss.flatMap slC ++ sp) (by simp), hl.symm, hle, hmx, hS.old (g, 22, ss.flatMap slC ++ sp) (by simp), fun k s hk => ?_⟩
  have h1 := flat_at (f := slC) (sz := 1) (fun x _ => slC_len x) hk 0 _ rfl
  rw [Nat.mul_one, Nat.add_zero] at h1
  rw [List.getElem?_append_left (List.getElem?_eq_some_iff.1 h1).1]; exact h1
theorem pcs_empty {W : World} {ss : List Sl} {k : Nat} {s : Sl} (h : Pcs W ss k) (hs : ss[k]? = some s) (h0 : s.n = 0) : Pcs W ss (k + 1) := by
 intro k' s' hk'
 by_cases e : k' = k
 ·subst e
  rw [hs] at hk'
  cases hk'
  exact fun hp => by omega
 ·have := h k' s' hk'
  have e2 : (k' < k + 1) = (k' < k) := by apply propext; omega
  simp only [e2]
  exact this
theorem pcs_next {W W' : World} {ss : List Sl} {k b po : Nat} {s : Sl} {ys : List Value} (h : Pcs W ss k) (hA : AptJ ss) (hs : ss[k]? = some s) (hn : 0 < s.n) (ha : s.a = some ⟨b, po, none⟩) (hb : Buts (· = b) W W') (hAr : Arr W' b 5 ys) (hl : po + s.n ≤ ys.length) (hv : ∀ t, t < s.n → ys[po + t]? = some (.int .u8 ((k : Int) % 256))) : Pcs W' ss (k + 1) := by
 intro k' s' hk'
 by_cases e : k' = k
 ·subst e
  rw [hs] at hk'
  cases hk'
  rw [if_pos (by omega)]
  exact fun _ => ⟨b, po, ys, ha, hAr, hl, fun j hj z hz => by cases hz; exact hv j hj⟩
 ·have h1 := h k' s' hk'
  have e2 : (k' < k + 1) = (k' < k) := by apply propext; omega
  simp only [e2]
  intro hp
  obtain ⟨b', o', ys', e', hA', h2, h3⟩ := h1 hp
  refine ⟨b', o', ys', e', (hb.block b' hA'.lt (fun e9 => ?_)).trans hA', h2, h3⟩
  exact hA.ne hs hk' (fun e8 => e e8.symm) hn hp ha e' e9.symm
theorem set_upto {ys : List Value} {po t : Nat} {v : Value} (h : ∀ t', t' < t → ys[po + t']? = some v) (hl : po + t < ys.length) : ∀ t', t' < t + 1 → (ys.set (po + t) v)[po + t']? = some v := by
 intro t' ht
 rw [List.getElem?_set]
 by_cases e : t' = t
 ·subst e; rw [if_pos rfl, if_pos hl]
 ·rw [if_neg (by omega)]; exact h t' (by omega)
theorem slOk_zero {W W' : World} {s : Sl} (h : Sl.Ok W s) (h0 : s.n = 0) : Sl.Ok W' s := by
 have hl := h.len
 exact ⟨h.len, h.le, h.mx, h.nn, h.isB, fun hp => by omega⟩
theorem pk_ok {W : World} {s : Sl} {z : Int} (h : Pk W s (some z)) (hz : 0 ≤ z ∧ z ≤ 255) (hc : s.c = s.n) (h0 : s.n = 0 → Sl.Ok W s) (hm : s.n ≤ 1000000) : Sl.Ok W ⟨s.a, s.n, s.n, List.replicate s.n z⟩ := by
 by_cases hn : s.n = 0
 ·exact Pk.ok h hz hc (h0 hn)
 ·refine ⟨by simp, Nat.le_refl _, by unfold maxLen; simp only; omega, fun e => ?_, fun x hx => by have := List.eq_of_mem_replicate hx; omega, fun hp => ?_⟩
  ·obtain ⟨b, o, ys, e', -⟩ := h (by omega)
   simp only at e
   rw [e] at e'; cases e'
  ·obtain ⟨b, o, ys, e, hA, h1, h2⟩ := h (by omega)
   refine ⟨b, o, e, hA.lt, fun j hj => ?_⟩
   simp only [List.length_replicate] at hj
   have := h2 j hj z rfl
   rw [hA.cell, this]
   simp [List.getD, List.getElem?_replicate, hj]
theorem own_len {w : World} {B e n m : Nat} {v : Value} {xs : List Value} (h : w.ownsRow B e 1 v n xs) (hn : n = m) : w.ownsRow B e 1 v n xs := h
theorem rw_low {B B' n c : Nat} {a : Option Addr} {l : List Int} {w : World} (h : Rw B (.slice a l.length c) l w) (hn : l.length = n) (hb : B' ≤ B) : Rw B' (.slice a n c) l w := by
 subst hn; exact ⟨own_low h.1 hb, h.2⟩
theorem rw_len {B n c : Nat} {a : Option Addr} {l : List Int} {w : World} (h : Rw B (.slice a l.length c) l w) (hn : l.length = n) : Rw B (.slice a n c) l w := by
 subst hn; exact h
theorem rw_app {B : Nat} {v v' : Value} {l : List Int} {z : Int} {w w' : World} (h : Rw B v l w) (ho : w'.ownsRow B 5 1 v' (l ++ [z]).length ((l ++ [z]).flatMap u8C)) (hz : 0 ≤ z ∧ z ≤ 255) : Rw B v' (l ++ [z]) w' := by
 rw [flat_u8] at ho
 exact ⟨ho, h.2.append (fun x hx => by simp at hx; omega)⟩
theorem pb_of {ss : List Sl} {k b po k' : Nat} {s : Sl} (hs : ss[k]? = some s) (hn : 0 < s.n) (ha : s.a = some ⟨b, po, none⟩) (e : k' = b) : PB ss k' := ⟨s, List.mem_of_getElem? hs, hn, _, ha, e.symm⟩
theorem apart_any (ep cut : Int) (s0 : Sl) (ra : Option Addr) (rn rc : Nat) (xs : List Rx) (w : World) (hs0 : s0.Ok w) (hc0 : s0.c = s0.n) (hq : Sx.Ok slC 1 w ⟨ra, rn, rc, xs.map Rx.sl⟩) (hrn : rn ≤ 1000000)
  (hOK : ∀ s ∈ s0 :: xs.map Rx.sl, Sl.Ok w s) (hCN : ∀ s ∈ s0 :: xs.map Rx.sl, s.c = s.n ∧ s.n ≤ 262144) (hAP : AptJ (s0 :: xs.map Rx.sl)) (hP : Pcs w (s0 :: xs.map Rx.sl) 0) :
  Calls Try.prog 40 #[aV (rvC ep s0.v (.slice ra rn rc) cut)] w fun e w' => e = .returned (.bool true) ∧ Buts (PB (s0 :: xs.map Rx.sl)) w w' := by
 obtain ⟨sa, sn, sc, sl⟩ := s0
 simp only at hc0
 subst hc0
 simp only [Sl.v]
 have hrl : xs.length = rn := by have := hq.len; simpa using this
 have hBU : True := trivial
 have HP := hide hP
 have HOK := hide hOK
 have HAP := hide hAP
 have HCN := hide hCN
 have hS : Hs17 w [] (fun w9 => Sl.Ok w9 ⟨sa, sc, sc, sl⟩ ∧ Sx.Ok slC 1 w9 ⟨ra, rn, rc, xs.map Rx.sl⟩) w := Hs17.begin w _ (fun w' ho => ⟨slOk_old hs0 ho, hq.old ho⟩)
 clear hs0 hq hOK hCN hAP hP
 go_enter Try.func40, Try.ntmps40
 go_upto_region 0 with fail
 refine wp_region_lit ?_
 refine bxZ 79 (.tmp 0) rfl (rvC ep (.slice sa sc sc) (.slice ra rn rc) cut) rfl hS ?_
 clear hS
 intro g1 w1 hS
 refine snZ1 ?_
 go_upto_region 1 with fail
 refine raZ1 ?_
 have hR : RowG slC 1 22 (⟨none, 0, 0, []⟩ : Sx Sl) [] [] := ⟨rfl, .inl ⟨rfl, rfl, rfl, rfl⟩⟩
 go_upto_region 2 with fail
 refine rgZ2 ?_
 refine l1Z 22 (.tmp 13) rfl 0 rfl 1 rfl _ (at_v1 ep (.slice sa sc sc) (.slice ra rn rc) cut) Try.underlying22 rfl hS ?_
 refine wl_bs1s (by kernel_rfl) (.tmp 14) rfl ⟨sa, sc, sc, sl⟩ rfl hS ?_
 clear hS
 intro g2 w2 hS
 simp [Act.put]
 refine wl_apps (by kernel_rfl) (.tmp 12) (.tmp 15) rfl rfl (RowG.own (rows := [(g2, 22, (slC ⟨sa, sc, sc, sl⟩)), (g1, 79, (rvC ep (.slice sa sc sc) (.slice ra rn rc) cut))]) hR (fun x _ => slC_len x) hS) ⟨some ⟨g2, 0, none⟩, 1, 1, [⟨sa, sc, sc, sl⟩]⟩ (sx_one hS) rfl (by simp) hS.bel.size ?_
 intro v' w3 hO' hg' hov'
 obtain ⟨z', R3, rfl, hR', hS'⟩ := Hs17.regrow (rows := [(g2, 22, (slC ⟨sa, sc, sc, sl⟩)), (g1, 79, (rvC ep (.slice sa sc sc) (.slice ra rn rc) cut))]) (s := (⟨none, 0, 0, []⟩ : Sx Sl)) hS hR (fun x _ => slC_len x) hg' hO' hov'
 replace hS := hS'
 replace hR := hR'
 clear hS' hR' hO' hg' hov'
 obtain ⟨ya, yn, yc, yx⟩ := z'
 simp only [Sx.v]
 replace hS : Hs17 w ((g1, 79, (rvC ep (.slice sa sc sc) (.slice ra rn rc) cut)) :: R3) (fun w9 => (Sl.Ok w9 ⟨sa, sc, sc, sl⟩ ∧ Sx.Ok slC 1 w9 ⟨ra, rn, rc, xs.map Rx.sl⟩)) w3 := hS.sub ((List.Sublist.refl _).cons _)
 simp [Act.put]
 refine snZ1 ?_
 go_upto_region 3 with fail
 refine rgZ2 ?_
 refine l1Z 77 (.tmp 18) rfl 0 rfl 2 rfl _ (at_v2 ep (.slice sa sc sc) (.slice ra rn rc) cut) Try.underlying77 rfl hS ?_
 refine wl_apps (by kernel_rfl) (.tmp 17) (.tmp 19) rfl rfl (RowG.own (rows := [(g1, 79, (rvC ep (.slice sa sc sc) (.slice ra rn rc) cut))]) hR (fun x _ => slC_len x) hS) ⟨ra, rn, rc, xs.map Rx.sl⟩ hS.K.2 rfl (by show (1 + rn) * 24 ≤ 140737488355328; omega) hS.bel.size ?_
 intro v' w4 hO' hg' hov'
 obtain ⟨z', R4, rfl, hR', hS'⟩ := Hs17.regrow (rows := [(g1, 79, (rvC ep (.slice sa sc sc) (.slice ra rn rc) cut))]) (s := (⟨ya, yn, yc, yx⟩ : Sx Sl)) hS hR (fun x _ => slC_len x) hg' hO' hov'
 replace hS := hS'
 replace hR := hR'
 clear hS' hR' hO' hg' hov'
 obtain ⟨za, zn, zc, zx⟩ := z'
 simp only [Sx.v]
 change Hs17 w ((g1, 79, (rvC ep (.slice sa sc sc) (.slice ra rn rc) cut)) :: R4) _ w4 at hS
 simp [Act.put]
 refine snZ1 ?_
 obtain ⟨ss, hss⟩ : ∃ ss, ss = (⟨sa, sc, sc, sl⟩ : Sl) :: xs.map Rx.sl := ⟨_, rfl⟩
 obtain ⟨qb, ac, hza, hAQ, hzn, hzc, hlb, hqb, hac⟩ := apart_row (ss := ss) hR hS (by rw [hss]; rfl) (by simp)
 simp only at hza hzn hzc hlb
 have hB0 := hS.bel
 subst hza
 clear hR hS
 obtain ⟨m, hm⟩ : ∃ m, m = zn := ⟨_, rfl⟩
 subst hm
 have HBU := hide hBU
 have hP0 : Pcs w4 ss 0 := fun k s hk => (unhide HP k s (by rw [← hss]; exact hk)).later hB0
 have HOK1 : Hid (∀ s ∈ ss, Sl.Ok w4 s) := hide (fun s hs => (unhide HOK s (by rw [← hss]; exact hs)).later hB0)
 have HAP1 : Hid (AptJ ss) := hide (by rw [hss]; exact unhide HAP)
 have HCN1 : Hid (∀ s ∈ ss, s.c = s.n ∧ s.n ≤ 262144) := hide (fun s hs => unhide HCN s (by rw [← hss]; exact hs))
 have HAC := hide hac
 have HSS := hide hss
 have hml : m ≤ 1000001 := by rw [hzn, hss]; simp; omega
 have HZN := hide hzn
 have HB0 := hide hB0
 unfold maxLen at hlb
 clear HP HOK HAP HCN hB0 hac hss hBU hzn
 obtain ⟨wB, hwB⟩ : ∃ wB, wB = w4 := ⟨_, rfl⟩
 subst hwB
 go_wp2_with fail
 go_loopw [5] (fun i wr => ∃ k : Nat, k ≤ m ∧ i = .int .i64 (k : Int) ∧ Pcs wr ss k ∧ Arr wr qb 22 ac ∧ Buts (PB ss) wB wr) (fun i _ => m - (intOf i).toNat)
 case atStart => exact ⟨0, by omega, rfl, hP0, hAQ, Buts.refl _ _⟩
 case round =>
  clear hP0 hAQ
  obtain ⟨k, hk, rfl, hP, hAQ, hbu⟩ := hrel
  by_cases hlt : k < m
  ·have hlz : (k : Int) < (m : Int) := by omega
   obtain ⟨p, hp⟩ : ∃ p, ss[k]? = some p := ⟨_, List.getElem?_eq_getElem (by rw [← unhide HZN]; exact hlt)⟩
   have hac := unhide HAC k p hp
   have hcn := unhide HCN1 p (List.mem_of_getElem? hp)
   obtain ⟨pa, pn, pc, pl⟩ := p
   simp only at hcn
   obtain ⟨hcn, hpn⟩ := hcn
   obtain rfl : pn = pc := hcn.symm
   have hc0 : wr.cell? ⟨qb, k, none⟩ = some (.slice pa pn pn) := by rw [hAQ.cell]; exact hac
   by_cases h0 : pn = 0
   ·skip
    subst h0
    go_wp2_with fail
    go_loopw [6] (fun j wx => j = .int .i64 0 ∧ wx = wr) (fun _ _ => 0)
    case atStart => exact ⟨rfl, rfl⟩
    case round =>
     obtain ⟨rfl, rfl⟩ := hrel
     go_wp2
     go_roundw
     case rel => exact ⟨k + 1, by omega, by go_num, pcs_empty hP hp rfl, hAQ, hbu⟩
     case measure => simp [intOf]; omega
   ·have hpk := hP k _ hp (by show 0 < pn; omega)
    obtain ⟨b, po, ys, hpa, hAP, hyl, -⟩ := hpk
    simp only at hpa hyl
    subst hpa
    have hqne : qb ≠ b := fun e => by
     subst e
     have h1 := hAQ
     unfold Arr at h1 hAP
     rw [h1] at hAP
     simp at hAP
    obtain ⟨wk, hwk⟩ : ∃ wk, wk = wr := ⟨_, rfl⟩
    subst hwk
    have hS := Hs17.startRow hAP
    have hcx : ∀ wx : World, (∀ k', k' < wk.heap.size → k' ≠ b → wx.heap[k']? = wk.heap[k']?) → wx.cell? ⟨qb, k, none⟩ = some (.slice (some ⟨b, po, none⟩) pn pn) := fun wx h => by
     rw [World.cell?_of_block (w := wk) (w' := wx) (a := ⟨qb, k, none⟩) (h qb hAQ.lt hqne)]; exact hc0
    have HCX := hide hcx
    have HP := hide hP
    have HPp := hide hp
    have HBu := hide hbu
    have HAQ := hide hAQ
    have HYL := hide hyl
    clear hcx hP hp hbu hAQ hyl hac hAP
    go_wp2_with fail
    go_loopw [6] (fun j wx => ∃ (t : Nat) (ys' : List Value), t ≤ pn ∧ j = .int .i64 (t : Int) ∧ ys'.length = ys.length ∧ (∀ t', t' < t → ys'[po + t']? = some (.int .u8 ((k : Int) % 256))) ∧ Hs17 (wz wk) [(b, 5, ys')] (fun w' => wk.heap.size ≤ w'.heap.size ∧ ∀ k', k' < wk.heap.size → k' ≠ b → w'.heap[k']? = wk.heap[k']?) wx) (fun j _ => pn - (intOf j).toNat)
    case atStart => exact ⟨0, ys, by omega, rfl, rfl, (fun t' h => absurd h (Nat.not_lt_zero _)), hS⟩
    case round =>
     clear hS hc0
     obtain ⟨t, ys', ht, rfl, hyy, hyv, hS⟩ := hrel
     have hc1 := unhide HCX _ hS.K.2
     by_cases hlt2 : t < pn
     ·have hz2 : (t : Int) < (pn : Int) := by omega
      have htl : po + t < ys'.length := by rw [hyy]; have := unhide HYL; omega
      have HYV := hide hyv
      have HYY := hide hyy
      clear hyv hyy
      go_upto_region 11 with fail
      refine rgZ3 ?_
      refine wl_loadC14 (by kernel_rfl) 22 (.tmp 38) rfl qb k rfl (.slice (some ⟨b, po, none⟩) pn pn) hc1 Try.underlying22 rfl ?_
      simp [Act.put]
      refine stZ4 ?_
      refine wl_store (by kernel_rfl) 5 (.tmp 43) (.tmp 42) rfl 0 rfl (po + t) rfl [.int .u8 ((k : Int) % 256)] (ys'.set (po + t) (.int .u8 ((k : Int) % 256))) (pt_set htl _) rfl (by kernel_rfl) (one_one rfl) hS ?_
      clear hS hc1
      intro w9 hS
      change Hs17 _ [_] _ _ at hS
      simp [Act.put]
      refine wpList_nil ?_
      go_wp2_with fail
      go_roundw
      case rel => exact ⟨t + 1, _, by omega, by go_num, by rw [List.length_set]; exact unhide HYY, set_upto (unhide HYV) htl, hS⟩
      case measure => simp [intOf]; omega
     ·have hz2 : ¬ (t : Int) < (pn : Int) := by omega
      have htn : t = pn := by omega
      subst htn
      have hbx := hS.buts
      have hAx := hS.get 0 rfl
      clear hS
      go_wp2
      go_roundw
      case rel => exact ⟨k + 1, by omega, by go_num, pcs_next (unhide HP) (unhide HAP1) (unhide HPp) (by show 0 < t; omega) rfl hbx hAx (by rw [hyy]; exact unhide HYL) hyv, (hbx.block qb (unhide HAQ).lt hqne).trans (unhide HAQ), (unhide HBu).trans (hbx.mono (fun k' _ e => pb_of (unhide HPp) (by show 0 < t; omega) rfl e))⟩
      case measure => simp [intOf]; omega
  ·have hkm : m = k := by omega
   subst hkm
   have hAll : ∀ (i : Nat) (s : Sl), ss[i]? = some s → Pk wr s (some ((i : Int) % 256)) := fun i s hs => by
    have := hP i s hs
    rw [if_pos (by rw [unhide HZN]; exact (List.getElem?_eq_some_iff.1 hs).1)] at this
    exact this
   have HALL := hide hAll
   have HBu := hide hbu
   have HAQ := hide hAQ
   have HOKA : Hid (∀ s ∈ ss, s.n = 0 → Sl.Ok wr s) := hide (fun s hs h0 => by
    have := unhide HOK1 s hs
    exact slOk_zero this h0)
   clear hAll hbu hAQ hP hk
   obtain ⟨wA, hwA⟩ : ∃ wA, wA = wr := ⟨_, rfl⟩
   subst hwA
   go_wp2_with fail
   go_loopw [4, 7] (fun tot i wr => ∃ k T : Nat, k ≤ m ∧ i = .int .i64 (k : Int) ∧ tot = .int .i64 (T : Int) ∧ 64 * k ≤ T ∧ T ≤ 300000 * k ∧ Below wA.heap.size wA wr) (fun _ i _ => m - (intOf i).toNat)
   case atStart => exact ⟨0, 0, by omega, rfl, rfl, by omega, by omega, Below.refl _ _⟩
   case round =>
    obtain ⟨k, T, hk, rfl, rfl, hT1, hT2, hbl⟩ := hrel
    by_cases hlt2 : k < m
    ·have hlz2 : (k : Int) < (m : Int) := by omega
     obtain ⟨p, hp⟩ : ∃ p, ss[k]? = some p := ⟨_, List.getElem?_eq_getElem (by rw [← unhide HZN]; exact hlt2)⟩
     have hac := unhide HAC k p hp
     have hcn := unhide HCN1 p (List.mem_of_getElem? hp)
     have hpk := unhide HALL k p hp
     have hok0 := unhide HOKA p (List.mem_of_getElem? hp)
     obtain ⟨pa, pn, pc, pl⟩ := p
     simp only at hcn
     obtain ⟨hcn, hpn⟩ := hcn
     obtain rfl : pn = pc := hcn.symm
     have hc0 : wr.cell? ⟨qb, k, none⟩ = some (.slice pa pn pn) := (hbl.cell (p := ⟨qb, k, none⟩) (unhide HAQ).lt).trans (by rw [(unhide HAQ).cell]; exact hac)
     have hok : Sl.Ok wr ⟨pa, pn, pn, List.replicate pn ((k : Int) % 256)⟩ := (pk_ok hpk (by omega) rfl hok0 (by simp only; omega)).later hbl
     have HOKP := hide hok
     have HBL := hide hbl
     have hTb : T ≤ 400000000000 := by omega
     clear hok hac hpk hok0 hp hbl
     obtain ⟨wE, hwE⟩ : ∃ wE, wE = wr := ⟨_, rfl⟩
     subst hwE
     go_wp2_with fail
     go_loopw [8, 9] (fun lg j wx => ∃ (t : Nat) (v : Option Addr) (c : Nat), t ≤ 64 ∧ j = .int .i64 (t : Int) ∧ lg = .slice v (pn + t) c ∧ ((t = 0 ∧ pa = v ∧ pn = c) ∨ (∃ l : List Int, l.length = pn + t ∧ Rw wE.heap.size (.slice v (pn + t) c) l wx)) ∧ Below wE.heap.size wE wx) (fun _ j _ => 64 - (intOf j).toNat)
     case atStart => exact ⟨0, pa, pn, by omega, rfl, rfl, .inl ⟨rfl, rfl, rfl⟩, Below.refl _ _⟩
     case round =>
      clear hc0
      obtain ⟨t, v, c, ht, rfl, rfl, hcase, hbx⟩ := hrel
      by_cases hlt3 : t < 64
      ·have hz3 : (t : Int) < 64 := by omega
       rcases hcase with ⟨rfl, rfl, rfl⟩ | ⟨l, hll, hRw⟩
       ·have hokx := (unhide HOKP).later hbx
        have HOKX := hide hokx
        have HBX := hide hbx
        clear hokx hbx
        go_wp2_with (at_builtin; refine wl_appF (by kernel_rfl) (.tmp 58) (.tmp 62) rfl _ pn _ rfl ((unhide HOKX).later (below_alloc wr _)) wr.heap.size (((k : Int) + 128) % 256) (by omega) (lit_ok wr [((k : Int) + 128) % 256] (by intro x hx; simp at hx; omega) (by simp)) rfl (by omega) ?_; intro v' w' hR' hb'; obtain ⟨va, vc, rfl, -⟩ := hR'.nb'; have HR9 := hide hR'; have HB9 : Hid (Below wE.heap.size wE w') := hide (bel_then (bel_then (unhide HBX) (unhide HBX).size (below_alloc wr _)) (Nat.le_trans (unhide HBX).size (below_alloc wr _).size) hb'); have HS9 : Hid (wE.heap.size ≤ (wr.alloc (.cells #[.int .u8 (((k : Int) + 128) % 256)] 5)).heap.size) := hide (Nat.le_trans (unhide HBX).size (below_alloc wr _).size); clear hR' hb')
        go_roundw
        case rel => exact ⟨1, va, vc, by omega, by go_num, by simp only [Value.slice.injEq, true_and, and_true]; try simp, .inr ⟨_, by simp, rw_low (unhide HR9) (by simp) (unhide HS9)⟩, unhide HB9⟩
        case measure => simp [intOf]
       ·have HRW := hide hRw
        have HLL := hide hll
        have HBX := hide hbx
        clear hRw hll hbx
        go_wp2_with (at_builtin; refine wl_appB (by kernel_rfl) (.tmp 58) (.tmp 62) rfl (base := wE.heap.size) (v := .slice v (pn + t) c) (xs := l) rfl (by have h9 := ((unhide HRW).later (below_alloc wr (.cells #[.int .u8 (((k : Int) + 128) % 256)] 5))).flat; exact own_len h9 (unhide HLL)) ⟨some ⟨wr.heap.size, 0, none⟩, 1, 1, [((k : Int) + 128) % 256]⟩ (lit_ok wr [((k : Int) + 128) % 256] (by intro x hx; simp at hx; omega) (by simp)) rfl (by rw [unhide HLL]; simp; omega) (Nat.le_trans (unhide HBX).size (below_alloc wr _).size) ?_; intro v' w' hO' hg' hov'; have HR9 : Hid (Rw wE.heap.size v' (l ++ [((k : Int) + 128) % 256]) w') := hide (rw_app (unhide HRW) hO' (by omega)); have HB9 : Hid (Below wE.heap.size wE w') := hide (((unhide HRW).later (below_alloc wr (.cells #[.int .u8 (((k : Int) + 128) % 256)] 5))).bel (bel_then (unhide HBX) (unhide HBX).size (below_alloc wr _)) (Nat.le_refl _) hg'); clear hO' hg' hov'; obtain ⟨va, vc, rfl, -⟩ := (unhide HR9).nb')
        go_roundw
        case rel => exact ⟨t + 1, va, vc, by omega, by go_num, by have h9 := unhide HLL; simp only [Value.slice.injEq, true_and, and_true]; (try simp); omega, .inr ⟨_, by rw [List.length_append, unhide HLL]; rfl, rw_len (unhide HR9) (by rw [List.length_append, unhide HLL]; rfl)⟩, unhide HB9⟩
        case measure => simp [intOf]; omega
      ·have ht64 : t = 64 := by omega
       subst ht64
       have HB9 : Hid (Below wA.heap.size wA wr) := hide (bel_then (unhide HBL) (unhide HBL).size hbx)
       clear hcase hbx
       go_wp2_with fail
       go_roundw
       case rel => exact ⟨k + 1, T + (pn + 64), by omega, by go_num, by go_num, by omega, by omega, unhide HB9⟩
       case measure => simp [intOf]; omega
    ·have hkm2 : m = k := by omega
     subst hkm2
     have hT3 : (64 : Int) * (m : Int) ≤ (T : Int) := by omega
     have hBall := (unhide HBu)
     have HBC := hide hbl
     have hTb : T ≤ 400000000000 := by omega
     clear hbl hk hBall
     obtain ⟨wC, hwC⟩ : ∃ wC, wC = wr := ⟨_, rfl⟩
     subst hwC
     go_wp2_with fail
     go_loopw [10] (fun i wx => ∃ k : Nat, k ≤ m ∧ i = .int .i64 (k : Int) ∧ wx = wC) (fun i _ => m - (intOf i).toNat)
     case atStart => exact ⟨0, by omega, rfl, rfl⟩
     case round =>
      obtain ⟨k, hk, rfl, rfl⟩ := hrel
      by_cases hlt4 : k < m
      ·have hlz4 : (k : Int) < (m : Int) := by omega
       obtain ⟨p, hp⟩ : ∃ p, ss[k]? = some p := ⟨_, List.getElem?_eq_getElem (by rw [← unhide HZN]; exact hlt4)⟩
       have hac := unhide HAC k p hp
       have hcn := unhide HCN1 p (List.mem_of_getElem? hp)
       have hpk := (unhide HALL k p hp).later (unhide HBC)
       obtain ⟨pa, pn, pc, pl⟩ := p
       simp only at hcn
       obtain ⟨hcn, hpn⟩ := hcn
       obtain rfl : pn = pc := hcn.symm
       have hc0 : wr.cell? ⟨qb, k, none⟩ = some (.slice pa pn pn) := ((unhide HBC).cell (p := ⟨qb, k, none⟩) (unhide HAQ).lt).trans (by rw [(unhide HAQ).cell]; exact hac)
       have HPK := hide hpk
       clear hpk hac hp
       go_wp2_with fail
       go_loopw [11] (fun j wx => ∃ t : Nat, t ≤ pn ∧ j = .int .i64 (t : Int) ∧ wx = wr) (fun j _ => pn - (intOf j).toNat)
       case atStart => exact ⟨0, by omega, rfl, rfl⟩
       case round =>
        obtain ⟨t, ht, rfl, rfl⟩ := hrel
        by_cases hlt5 : t < pn
        ·have hz5 : (t : Int) < (pn : Int) := by omega
         obtain ⟨b, po, ys, hpa, hAP, hyl, hyv⟩ := unhide HPK (by show 0 < pn; omega)
         simp only at hpa
         subst hpa
         have hcy := hAP.cell (po + t)
         rw [hyv t hlt5 _ rfl] at hcy
         clear hAP hyv hyl
         go_wp2
         go_roundw
         case rel => exact ⟨t + 1, by omega, by go_num, by first | rfl | trivial⟩
         case measure => simp [intOf]; omega
        ·have hz5 : ¬ (t : Int) < (pn : Int) := by omega
         go_wp2
         go_roundw
         case rel => exact ⟨k + 1, by omega, by go_num, by first | rfl | trivial⟩
         case measure => simp [intOf]; omega
      ·have hkm3 : m = k := by omega
       subst hkm3
       have HFIN : Hid (Buts (PB ss) w wr) := hide (((Buts.of_below (S := PB ss) (unhide HB0)).trans (unhide HBu)).trans (Buts.of_below (unhide HBC)))
       go_wp2
       go_ret
       refine ⟨rfl, ?_⟩
       have := unhide HFIN
       rw [unhide HSS] at this
       exact this
theorem q_read0 {O : Nat → Prop} {s : FlS} {c : List Value} {w : World} (h : Rq O s c w) (bank : Int) (hr : s.ref bank = 0) :
    Calls Try.prog 32 #[aV c, .int .i64 bank] w fun e w' => ∃ v, e = .returned (.tuple #[v, .int .i64 0]) ∧ Rw w.heap.size v (s.bk bank) w' ∧ Below w.heap.size w w' := by
  have := q_read h bank
  have e : s.read bank = s.bk bank := by unfold FlS.read; rw [if_pos hr]
  rw [hr, e] at this
  exact this
theorem q_readE {O : Nat → Prop} {s : FlS} {c : List Value} {w : World} (h : Rq O s c w) (bank er : Int) (hr : s.ref bank = er) (h0 : er ≠ 0) :
    Calls Try.prog 32 #[aV c, .int .i64 bank] w fun e w' => ∃ v, e = .returned (.tuple #[v, .int .i64 er]) ∧ Rw w.heap.size v [] w' ∧ Below w.heap.size w w' := by
  have := q_read h bank
  have e : s.read bank = [] := by unfold FlS.read; rw [if_neg (by omega)]
  rw [hr, e] at this
  exact this
theorem q_room0 {O : Nat → Prop} {s : FlS} {c : List Value} {w : World} (h : Rq O s c w) (bank : Int) (hr : s.ref bank = 0) :
    Calls Try.prog 48 #[aV c, .int .i64 bank] w fun e w' => e = .returned (.tuple #[.int .i64 ((s.size : Int) - ((s.bk bank).length : Int)), .int .i64 0]) ∧ Below w.heap.size w w' := by
  have := q_room h bank
  have e : s.room bank = (s.size : Int) - ((s.bk bank).length : Int) := by unfold FlS.room; rw [if_pos hr]
  rw [hr, e] at this
  exact this
theorem QC.done {O : Nat → Prop} {r : FlS × Int} {w w' : World} {s : FlS} {c : List Value} {er : Int} (h : Rq (On O w) s c w') (hb : Below w.heap.size w w') (hs : r = (s, er)) : QC O r w (.returned (.tuple #[aV c, .int .i64 er])) w' := by
  subst hs; exact ⟨c, rfl, h, hb⟩
theorem Rq.on {O : Nat → Prop} {s : FlS} {c : List Value} {w w0 : World} (h : Rq O s c w) : Rq (On O w0) s c w := h.mono (fun _ h => .inl h)
theorem QC.split {O : Nat → Prop} {f : Nat} {args : Array Value} {r : FlS × Int} {w : World} (h : Calls Try.prog f args w (QC O r w)) {s : FlS} {er : Int} (hr : r = (s, er)) :
    Calls Try.prog f args w fun e w' => ∃ c, e = .returned (.tuple #[aV c, .int .i64 er]) ∧ Rq (On O w) s c w' ∧ Below w.heap.size w w' := by
  subst hr; exact h
end Go.Proofs.Ytppmgfkpfamabaa
