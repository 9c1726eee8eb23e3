import Derived.Test.YtonpikdpclpkiaaQKlN
import Derived.Deep.RegionHeld3
import Derived.Deep.Cut
set_option linter.unusedVariables false
namespace Go.Proofs.Ytonpikdpclpkiaa
open Go.RowKit

theorem new_emptyK (z : Int) : (fsLoad z [] []).l0 = [] ∧ (fsLoad z [] []).l1 = [] ∧ (fsLoad z [] []).q = [] ∧ (fsLoad z [] []).down = false ∧ (fsLoad z [] []).wr = 0 := by
  simp [fsLoad]
set_option maxHeartbeats 16000000 in
set_option maxRecDepth 100000 in
theorem keeps_law (z : Int) (a : Sl) (o : Ops) (w : World) (ha : a.Ok w) (han : a.n ≤ 140737488351232) (ho : o.Ok w) (hon : o.n ≤ 140737488351232) (hoo : ∀ q ∈ o.ss, q.d.n ≤ 140737488351232 ∧ q.s.n ≤ 140737488351232) :
    Calls Try.prog 5 #[.int .i64 z, a.v, o.v] w fun e w' => e = .returned (.bool true) ∧ Below w.heap.size w w' := by
  have hN := new_any z w
  obtain ⟨n1, n2, n3, n4, n5⟩ := new_emptyK z
  have hfm := formats n1 n2 n3 n4 ha.isB
  obtain ⟨s0, hs0⟩ : ∃ s, s = fsLoad z [] [] := ⟨_, rfl⟩
  rw [← hs0] at hN hfm n5
  have HA := hide ha
  have HO := hide ho
  have HOO := hide hoo
  have HW0 : Hid (s0.wr = 0) := hide n5
  obtain ⟨aa, an, ac, al⟩ := a
  obtain ⟨oa, on, oc, os⟩ := o
  simp only at han hon hfm
  simp only [Sl.v, Ops.v]
  clear ha ho hoo hs0 n1 n2 n3 n4 n5
  rcases hfm with ⟨-, he, hs⟩ | ⟨s1, e1, hi1, hq1, hw1, hz1⟩
  · obtain ⟨⟨s1, r1⟩, hx⟩ : ∃ x, x = s0.format al := ⟨_, rfl⟩
    rw [← hx] at he hs
    simp only at he hs
    subst hs
    have HX := hide hx
    have er1 : (r1 != 0) = true := by rw [bne_iff_ne]; exact he
    clear hx he
    as_aux_lemma =>
    go_enter Try.func5, Try.ntmps5
    go_wp2_with (first
      | (go_at_call 16; refine hN.mono ?_; rintro e w1 ⟨p, S, rfl, h1, h2, h3⟩; clear hN
         have hM := format_any p S s1 ⟨aa, an, ac, al⟩ w1 h1 ((unhide HA).later h3) han (by have := unhide HW0; omega)
         rw [← unhide HX] at hM
         simp only [Sl.v] at hM
         have HB1 := hide h3
         have HS := hide h2
         clear h1 h2 h3)
      | (go_at_call 17; refine hM.mono ?_; rintro e w2 ⟨rfl, S2, k2⟩; clear hM
         have hK := works_any w2
         have HB2 := hide (k2.belJ (unhide HB1) (unhide HB1).size (unhide HS))
         clear k2)
      | (go_at_call 12; refine hK.mono ?_; rintro e w4 ⟨rfl, b4⟩; clear hK; have HB4 := hide b4; clear b4))
    go_ret
    exact ⟨rfl, bel_then (unhide HB2) (unhide HB2).size (unhide HB4)⟩
  · have HF1 : Hid (s0.format al = (s1, 0) ∧ JI s1 ⟨0, 1, 0⟩ al [] ∧ s1.q = [] ∧ s1.wr ≤ 3) := hide ⟨e1, hi1, hq1, by have := unhide HW0; omega⟩
    clear e1 hi1 hq1 hw1 hz1
    go_enter Try.func5, Try.ntmps5
    go_wp2_with (first
      | (go_at_call 16; refine hN.mono ?_; rintro e w1 ⟨p, S, rfl, h1, h2, h3⟩; clear hN
         have hM := format_any p S s0 ⟨aa, an, ac, al⟩ w1 h1 ((unhide HA).later h3) han (by have := unhide HW0; omega)
         simp only [Sl.v] at hM
         rw [(unhide HF1).1] at hM
         have HB1 := hide h3
         have HS := hide h2
         clear h1 h2 h3)
      | (go_at_call 17; refine hM.mono ?_; rintro e w2 ⟨rfl, S2, k2⟩; clear hM
         have hO := jopen_quiet p S2 s1 ⟨0, 1, 0⟩ al [] w2 k2.fl (unhide HF1).2.1 (unhide HF1).2.2.1 (by have := (unhide HF1).2.2.2; omega)
         simp only [List.length_nil, Int.cast_ofNat_Int] at hO
         have HB2 := hide (k2.belJ (unhide HB1) (unhide HB1).size (unhide HS))
         have HS2 := hide (k2.aboveJ (unhide HB1).size (unhide HS))
         clear k2)
      | (go_at_call 11; refine hI.mono ?_; rintro e w4 ⟨rfl, b4⟩; clear hI
         have HST : Hid (KI w p jp w3.heap.size (w3.heap.size + 1) 0 0 w4) := hide (by
           obtain ⟨S, s, j, h, k, r⟩ := unhide HST0
           exact ⟨S, s, j, h, k.later b4, r⟩)
         clear b4 HST0)
      | (go_at_call 10; refine hO.mono ?_; rintro e w3 ⟨s3, S3, jp, sa, sn, sc, ra, rc, xs, sl, rfl, k3, hJ3, hjp, hjs, hR3, i3, q3, r3, z3⟩; clear hO
         have bx := below_alloc w3 (.cells #[.int .i64 1, .slice sa sn sc, .slice ra 0 rc, .int .i64 0] 33)
         have bx2 := bel_then bx bx.size (below_alloc (w3.alloc (.cells #[.int .i64 1, .slice sa sn sc, .slice ra 0 rc, .int .i64 0] 33)) (.cells #[.slice aa an ac, .slice none 0 0] 39))
         have b3 := k3.belJ (unhide HB2) (unhide HB2).size (unhide HS2)
         have hS3 := k3.aboveJ (unhide HB2).size (unhide HS2)
         have hjw : w.heap.size ≤ jp := Nat.le_trans (unhide HB2).size hjp
         have hjl := hJ3.lt
         have hfl := k3.fl.lt
         have okH : (⟨⟨aa, an, ac, al⟩, none, 0, []⟩ : Hd).Ok ((w3.alloc (.cells #[.int .i64 1, .slice sa sn sc, .slice ra 0 rc, .int .i64 0] 33)).alloc (.cells #[.slice aa an ac, .slice none 0 0] 39)) (Zk S3 jp (w3.heap.size + 1) w3.heap.size) := freshJ ((unhide HA).later (bel_then b3 b3.size bx2)) (fun h0 x hx hk => by
           have h9 := (unhide HA).blk h0 x hx
           have h8 := b3.size
           rcases hk with (hk | hk) | hk | hk
           · have := hS3 _ hk; omega
           · omega
           · omega
           · omega)
         have hI := is_hd 1 0 okH (by simp) (hR3.later bx2) rfl (by have h7 := (unhide HF1).2.1.sl; simp only; omega) (by simp)
         rw [decide_eq_true ⟨rfl, rfl⟩] at hI
         simp only [Sl.v, List.length_nil] at hI
         have AR : Arr ((w3.alloc (.cells #[.int .i64 1, .slice sa sn sc, .slice ra 0 rc, .int .i64 0] 33)).alloc (.cells #[.slice aa an ac, .slice none 0 0] 39)) w3.heap.size 33 [.int .i64 1, .slice sa sn sc, .slice ra 0 rc, .int .i64 0] := (Arr.new w3 _ _).alloc _
         have AH : Arr ((w3.alloc (.cells #[.int .i64 1, .slice sa sn sc, .slice ra 0 rc, .int .i64 0] 33)).alloc (.cells #[.slice aa an ac, .slice none 0 0] 39)) (w3.heap.size + 1) 39 [.slice aa an ac, .slice none 0 0] := by
           have := Arr.new (w3.alloc (.cells #[.int .i64 1, .slice sa sn sc, .slice ra 0 rc, .int .i64 0] 33)) 39 [.slice aa an ac, .slice none 0 0]
           simpa using this
         have x0 := AR.cell 0
         have x1 := AR.cell 1
         have x2 := AR.cell 2
         have x3 := AR.cell 3
         have y0 := AH.cell 0
         have y1 := AH.cell 1
         simp at x0 x1 x2 x3 y0 y1
         have HST0 : Hid (KI w p jp w3.heap.size (w3.heap.size + 1) 0 0 ((w3.alloc (.cells #[.int .i64 1, .slice sa sn sc, .slice ra 0 rc, .int .i64 0] 33)).alloc (.cells #[.slice aa an ac, .slice none 0 0] 39))) := hide ⟨S3, s3, ⟨0, 1, 0⟩, ⟨⟨aa, an, ac, al⟩, none, 0, []⟩, ⟨k3.fl.later bx2, (bx2.block jp hjl).trans hJ3, hjs, hjw, by omega, by omega, okH, AH, ⟨⟨_, _, _, _, _, _, _, _, AR⟩, fun h => by have := hfl _ h; omega, fun h => by have := hfl _ h; omega, by omega, bel_then b3 b3.size bx2, hS3, by have := b3.size; omega, b3.size, AH.lt⟩⟩, i3, by rw [q3]; simp, Nat.le_refl _, by simp, by have := (unhide HF1).2.2.2; rw [q3]; simp; omega⟩
         clear k3 hJ3 hjs hR3 i3 q3 r3 z3 bx bx2 b3 hjp hS3 hjw hjl hfl okH AR AH))
    obtain ⟨rb, hrb⟩ : ∃ b, b = w3.heap.size := ⟨_, rfl⟩
    obtain ⟨hb, hhb⟩ : ∃ b, b = rb + 1 := ⟨_, rfl⟩
    rw [← hrb, ← hhb] at HST ⊢
    clear x0 x1 x2 x3 y0 y1 hrb hhb
    go_loopw [9, 13, 14] (fun jv av iv wr => ∃ i ar jp : Nat, i ≤ on ∧ iv = .int .i64 i ∧ av = .int .i64 ar ∧ jv = .pointer (some ⟨jp, 0, none⟩) ∧ KI w p jp rb hb i ar wr) (fun _ _ iv _ => on - (intOf iv).toNat)
    case atStart => exact ⟨0, 0, jp, Nat.zero_le _, rfl, rfl, rfl, unhide HST⟩
    case round =>
      clear HST
      obtain ⟨i, ar, jp, hi, rfl, rfl, rfl, S, s, j, h, hS, hI, hq, har, hep, hwr⟩ := hrel
      obtain ⟨wo, rfl⟩ : ∃ wo : World, wo = wr := ⟨_, rfl⟩
      have HKS := hide hS
      have HJI := hide hI
      have HQ : Hid (s.q.length ≤ ar) := hide hq
      have HEP : Hid (j.ep ≤ 2 * i + 1) := hide hep
      have HWR : Hid (s.wr + 3 * s.q.length ≤ 10 * i + 20) := hide hwr
      by_cases hnlt : on ≤ i
      · have hii : decide ((i : Int) < (on : Int)) = false := decide_eq_false (by omega)
        have hR := reop_ok p S s ar h.sn.l h.recs (2 * i + 1) wo hS.fl (by omega) (by omega) (hI.fnd hep) (by omega) (.inl ⟨hI.up, hq⟩)
        obtain ⟨rn, hrn⟩ : ∃ rn, rn = h.recs.length := ⟨_, rfl⟩
        rw [← hrn] at hR
        have HRN : Hid (rn = h.recs.length ∧ rn ≤ 1048576 ∧ h.sn.l.length ≤ 262144) := hide ⟨hrn, by have := (hI.len hS.fl.ok).1; omega, by have := hI.sl; omega⟩
        clear hS hI hq hep hwr hrn
        as_aux_lemma =>
          go_upto_region 35 with (first
            | (go_at_call 9; refine hR.mono ?_; rintro e w4 ⟨s4, S4, j4, jp4, a4, m4, c4, ra4, rc4, cut4, ct4, xs4, l4, rfl, k4, hep4, hql4, hwr4⟩; clear hR
               obtain ⟨e5, a5, n5, c5, ra5, rn5, rc5, cut5, hA5⟩ := (unhide HKS).bx.rA
               have hA4 := k4.fst.but.arr hA5 (unhide HKS).bx.rS
               have x0 := hA4.cell 0
               have x1 := hA4.cell 1
               have x2 := hA4.cell 2
               have x3 := hA4.cell 3
               simp at x0 x1 x2 x3
               have f0 := hA4.frozen 0
               have f1 := hA4.frozen 1
               have f2 := hA4.frozen 2
               have f3 := hA4.frozen 3
               have HK4 := hide k4
               clear k4 hep4 hql4 hwr4 hA4 hA5))
          have hop := KS.opened (unhide HKS) (unhide HK4) (JS.ep j4 : Nat)
          rw [← (unhide HRN).1] at hop
          simp only [Sl.v] at hop
          have HCS : Hid (h.sn.l = ct4.s ∧ h.recs = ct4.rs) := hide ⟨(unhide HK4).cs.symm, (unhide HK4).crs.symm⟩
          obtain ⟨W5, hW5⟩ : ∃ W, W = (((w4.setCell ⟨rb, 0, none⟩ (.int .i64 (JS.ep j4 : Nat))).setCell ⟨rb, 1, none⟩ (.slice a4 m4 c4)).setCell ⟨rb, 2, none⟩ (.slice ra4 rn rc4)).setCell ⟨rb, 3, none⟩ (.int .i64 cut4) := ⟨_, rfl⟩
          rw [← hW5] at hop ⊢
          obtain ⟨kr, okh, hAh⟩ := hop
          have hI5 := is_hd (JS.ep j4 : Nat) cut4 okh (by have h1 := ((unhide HJI).len (unhide HKS).fl.ok).1; simp [Hd.recs] at h1; omega) kr.rec_ (by rw [← (unhide HCS).2]; exact (unhide HRN).1) (by rw [← (unhide HCS).1]; exact (unhide HRN).2.2) (unhide HRN).2.1
          rw [decide_eq_true (unhide HCS)] at hI5
          simp only [Sl.v] at hI5
          have x0 := kr.rA.cell 0
          have x1 := kr.rA.cell 1
          have x2 := kr.rA.cell 2
          have x3 := kr.rA.cell 3
          have y0 := hAh.cell 0
          have y1 := hAh.cell 1
          simp [Sl.v, Hd.cells] at x0 x1 x2 x3 y0 y1
          have HB5 := hide kr.t.bx.bel
          clear hW5 kr okh hAh f0 f1 f2 f3
          generalize h.ps.length = hpn at *
          go_wp2_with (first
            | (go_at_call 11; refine hI5.mono ?_; rintro e w6 ⟨rfl, b6⟩; clear hI5; have hK := works_any w6; have HB6 := hide b6; clear b6)
            | (go_at_call 12; refine hK.mono ?_; rintro e w7 ⟨rfl, b7⟩; clear hK; have HB7 := hide b7; clear b7))
          go_ret
          exact ⟨rfl, bel_then (bel_then (unhide HB5) (unhide HB5).size (unhide HB6)) (Nat.le_trans (unhide HB5).size (unhide HB6).size) (unhide HB7)⟩
      · have hlt : i < on := by omega
        have hlz : (i : Int) < (on : Int) := by omega
        have hok := (unhide HO).later hS.bx.bel
        have hle : on = os.length := (unhide HO).len.symm
        obtain ⟨q, hq9⟩ : ∃ q, os[i]? = some q := ⟨_, List.getElem?_eq_getElem (by omega)⟩
        have hmem : q ∈ os := List.mem_of_getElem? hq9
        obtain ⟨ob, off, hoa, -, y0, y1, y2, y3, y4⟩ := hok.at_ hq9
        obtain ⟨hdok, hsok⟩ := hok.all q hmem
        have hsn := ((unhide HOO) q hmem).2
        have HDold : Hid (0 < q.d.l.length → ∀ x, q.d.a = some x → x.block < w.heap.size) := hide (fun h0 x hx => ((unhide HO).all q hmem).1.blk h0 x hx)
        have HSold : Hid (0 < q.s.l.length → ∀ x, q.s.a = some x → x.block < w.heap.size) := hide (fun h0 x hx => ((unhide HO).all q hmem).2.blk h0 x hx)
        obtain ⟨kd, ⟨da, dn, dc, dl⟩, ⟨ca, cn, cc, cl⟩, ox, oy⟩ := q
        have hoa' : oa = some ⟨ob, off, none⟩ := hoa
        subst hoa'
        simp only at y0 y1 y2 y3 y4 hdok hsok hsn HDold HSold
        clear hok hle hq9 hmem hoa
        have b1 := below_alloc wo (.cells #[.int .i64 kd, .slice da dn dc, .slice ca cn cc, .int .i64 ox, .int .i64 oy] 29)
        have hS1 := hS.later b1
        by_cases hk7 : kd = 7
        · have hkt : (kd == 7) = true := by rw [beq_iff_eq]; exact hk7
          have hM := arm_any p S s ox oy (wo.alloc (.cells #[.int .i64 kd, .slice da dn dc, .slice ca cn cc, .int .i64 ox, .int .i64 oy] 29)) hS1.fl
          have HS1 := hide hS1
          have har1 : ar < 1000000000000000000 := by omega
          clear hS hI hq hep hwr hk7 hdok hsok hsn b1 hS1
          as_aux_lemma =>
            go_wp2_with (first
              | (go_at_call 8; refine hM.mono ?_; rintro e w4 ⟨rfl, S4, k4⟩; clear hM; have HK4 := hide k4; clear k4))
            go_roundw
            case rel =>
              have h1 := arm_qJ s ox oy
              have h2 := unhide HQ
              have h3 := unhide HEP
              have h4 := unhide HWR
              exact ⟨i + 1, ar + 1, jp, by omega, by go_num, by go_num, rfl, S4, _, j, h, (unhide HS1).flash (unhide HK4), (unhide HJI).armJ ox oy, by omega, by omega, by omega, by omega⟩
            case measure => simp [intOf]; omega
        · have hk7f : (kd == 7) = false := by rw [beq_eq_false_iff_ne]; exact hk7
          have hKp := kept_any p jp S s j h kd ox oy ⟨da, dn, dc, dl⟩ ⟨ca, cn, cc, cl⟩ (wo.alloc (.cells #[.int .i64 kd, .slice da dn dc, .slice ca cn cc, .int .i64 ox, .int .i64 oy] 29)) hS1.fl hS1.jn (by omega) hS1.jS hI (hdok.later b1) (fun h0 x hx hk => by have h9 := (unhide HDold) h0 x hx; rcases hk with hk | hk; have := hS.bx.SA _ hk; omega; have := hS.jA; omega) (hsok.later b1) hsn (fun h0 x hx hk => by have h9 := (unhide HSold) h0 x hx; rcases hk with hk | hk; have := hS.bx.SA _ hk; omega; have := hS.jA; omega) (by omega) (hS1.ok.sub (fun k h => .inl h))
          simp only [Hd.v, Sl.v] at hKp
          have HDS : Hid (Sepd (fun k => k = hb ∨ k = rb) ⟨da, dn, dc, dl⟩) := hide (fun h0 x hx hk => by have h9 := (unhide HDold) h0 x hx; have h8 := hS.bx.hbA; have h7 := hS.bx.rbA; rcases hk with hk | hk <;> omega)
          have HSS : Hid (Sepd (fun k => k = hb ∨ k = rb) ⟨ca, cn, cc, cl⟩) := hide (fun h0 x hx hk => by have h9 := (unhide HSold) h0 x hx; have h8 := hS.bx.hbA; have h7 := hS.bx.rbA; rcases hk with hk | hk <;> omega)
          have AO : Arr (wo.alloc (.cells #[.int .i64 kd, .slice da dn dc, .slice ca cn cc, .int .i64 ox, .int .i64 oy] 29)) wo.heap.size 29 [.int .i64 kd, .slice da dn dc, .slice ca cn cc, .int .i64 ox, .int .i64 oy] := Arr.new wo _ _
          have z0 := AO.cell 0
          have z1 := AO.cell 1
          have z2 := AO.cell 2
          have z3 := AO.cell 3
          have z4 := AO.cell 4
          have u0 := hS1.hA.cell 0
          have u1 := hS1.hA.cell 1
          simp [Sl.v, Hd.cells] at z0 z1 z2 z3 z4 u0 u1
          have HAO := hide AO
          have HSL : Hid (∀ k, S k → k < wo.heap.size) := hide hS.fl.lt
          have HJL : Hid (jp < wo.heap.size) := hide hS.jn.lt
          have HS1 := hide hS1
          have HK7 := hide hk7
          clear hS hI hq hep hwr hk7 hdok hsok hsn b1 hS1 AO
          go_upto_region 20 with (first
            | (go_at_call 24; refine hKp.mono ?_; rintro e w5 ⟨mv, S', hs, dn, s', o', rfl, kp, js, ko, kn, ksp, kl⟩; clear hKp kn
               have HKP := hide kp
               have HJT := hide js
               have HKO := hide ko
               have HSP := hide ksp
               have HKL := hide kl
               clear kp js ko ksp kl))
          obtain ⟨hT, hAh, hjS5⟩ := (unhide HS1).kept (unhide HKP) (unhide HJT) (unhide HSP) (unhide HDS) (unhide HSS)
          have A5 := (unhide HJT).but.arr (unhide HAO) (fun hk => hk.elim (fun h1 => Nat.lt_irrefl _ (unhide HSL _ h1)) (fun h1 => by have := unhide HJL; omega))
          have t0 := A5.cell 0
          simp at t0
          have hn1 : 0 < hs.length := by
            rcases unhide HKO with ⟨-, _, h0, tl, e, -⟩ | ⟨-, -, -, ⟨h0, hm, -⟩, -⟩
            · rw [e]; simp
            · exact List.length_pos_of_mem hm
          obtain ⟨mb, mc, hmv⟩ := row_addrJ hT.row hn1
          obtain ⟨n, hn⟩ : ∃ n, n = hs.length := ⟨_, rfl⟩
          rw [← hn] at hmv hn1
          subst hmv
          have hn0 : (0 : Int) < (n : Int) := by omega
          have HN := hide hn
          have HT := hide hT
          have HAH := hide hAh
          have HJ5 := hide hjS5
          have HWM : Hid (n ≤ 4) := hide (by rw [hn]; exact (unhide HKL).2)
          clear hT hAh hjS5 A5 z0 z1 z2 z3 z4 u0 u1 y0 y1 y2 y3 y4 hn
          rcases unhide HKO with ⟨rfl, j', h0, tl, hsE, hoE, hI', hep', hwr', hq'⟩ | ⟨rfl, -, hdn, ⟨h0, hm0, hF0⟩, hwr', hq'⟩
          · subst hoE
            have hm0 : h0 ∈ hs := by rw [hsE]; simp
            by_cases hk2 : kd = 2
            · have hk2f : (kd != 2) = false := by rw [bne_eq_false_iff_eq]; exact hk2
              have hF0 : Fnd s' h0.sn.l h0.recs (j.ep + 2) := hI'.fnd (by omega)
              have hqd : (s'.down = false ∧ s'.q.length ≤ ar) ∨ (s'.down = true ∧ s'.q.length + 1 ≤ ar) := .inl ⟨hI'.up, Nat.le_trans hq' (unhide HQ)⟩
              have hwq : s'.wr + 3 * s'.q.length ≤ 10 * i + 23 := by have := unhide HWR; omega
              clear hsE hI' hep' hwr' hq' hk2
              have ho5 := (unhide HT).fl.ok
              have hrl := (pick_ct ho5 hF0.e0).fl
              have hrn := flatR_len s'.pickC.rs
              rw [hF0.rs] at hrl hrn
              have hsl := (pick_ct ho5 hF0.e0).sl
              rw [hF0.sn] at hsl
              have hR := reop_ok p S' s' ar h0.sn.l h0.recs (j.ep + 2) w5 (unhide HT).fl (by omega) (by have h1 := unhide HQ; rcases hqd with h2 | h2 <;> omega) hF0 (by have := unhide HEP; omega) hqd
              obtain ⟨rn, hrn0⟩ : ∃ rn, rn = h0.recs.length := ⟨_, rfl⟩
              rw [← hrn0] at hR
              have HRN : Hid (rn = h0.recs.length ∧ rn ≤ 1048576 ∧ h0.sn.l.length ≤ 262144) := hide ⟨hrn0, by omega, by omega⟩
              have HM0 := hide hm0
              have HWQ : Hid (s'.wr + 3 * s'.q.length ≤ 10 * i + 23 ∧ s'.q.length ≤ ar) := hide ⟨hwq, by rcases hqd with h2 | h2 <;> omega⟩
              clear ho5 hrl hrn hsl hrn0 hF0 hqd hwq hm0
              as_aux_lemma =>
                go_wp2_with (first
                  | (go_at_call 9; refine hR.mono ?_; rintro e w4 ⟨s4, S4, j4, jp4, a4, m4, c4, ra4, rc4, cut4, ct4, xs4, l4, rfl, k4, hep4, hql4, hwr4⟩; clear hR
                     obtain ⟨e5, a5, n5, c5, ra5, rn5, rc5, cut5, hA5⟩ := (unhide HT).bx.rA
                     have hA4 := k4.fst.but.arr hA5 (unhide HT).bx.rS
                     have x0 := hA4.cell 0
                     have x1 := hA4.cell 1
                     have x2 := hA4.cell 2
                     have x3 := hA4.cell 3
                     simp at x0 x1 x2 x3
                     have f0 := hA4.frozen 0
                     have f1 := hA4.frozen 1
                     have f2 := hA4.frozen 2
                     have f3 := hA4.frozen 3
                     have HK4 := hide k4
                     have HE4 : Hid (j4.ep ≤ j.ep + 2 ∧ s4.q.length ≤ s'.q.length ∧ s4.wr + 3 * s4.q.length ≤ s'.wr + 3 * s'.q.length + 3) := hide ⟨hep4, hql4, hwr4⟩
                     clear k4 hep4 hql4 hwr4 hA4 hA5))
                have kr0 := (unhide HT).opened (unhide HK4) (JS.ep j4 : Nat)
                rw [← (unhide HRN).1] at kr0
                simp only [Sl.v] at kr0
                have hA0 := (but4 (g := rb) (W := w4) (.int .i64 (JS.ep j4 : Nat)) (.slice a4 m4 c4) (.slice ra4 rn rc4) (.int .i64 cut4)).arr ((unhide HK4).fst.but.arr (unhide HAH) (unhide HT).bx.hS) (fun e => (unhide HT).bx.hr e)
                have HKR0 := hide kr0
                have HA0 := hide hA0
                clear kr0 hA0 x0 x1 x2 x3 f0 f1 f2 f3
                go_loopw [18, 19] (fun fv kv wr => ∃ (k : Nat) (f : Bool) (x : Hd), k ≤ n ∧ kv = .int .i64 k ∧ fv = .bool f ∧ KR w p jp4 rb hb S4 s4 j4 hs (wo.alloc (.cells #[.int .i64 kd, .slice da dn dc, .slice ca cn cc, .int .i64 ox, .int .i64 oy] 29)).heap.size w5.heap.size (.slice (some ⟨mb, 0, none⟩) n mc) ⟨a4, m4, c4, l4⟩ ra4 rn rc4 (JS.ep j4 : Nat) cut4 ct4 xs4 wr ∧ Arr wr hb 39 x.cells ∧ Hid ((f = true → x ∈ hs ∧ x.sn.l = ct4.s ∧ x.recs = ct4.rs) ∧ (f = false → ∀ i y, i < k → hs[i]? = some y → ¬ (y.sn.l = ct4.s ∧ y.recs = ct4.rs)))) (fun _ kv _ => n - (intOf kv).toNat)
                case atStart => exact ⟨0, false, h, Nat.zero_le _, rfl, rfl, unhide HKR0, unhide HA0, hide ⟨fun h => by simp at h, fun _ i y hi => absurd hi (by omega)⟩⟩
                case round =>
                  clear HKR0 HA0
                  obtain ⟨k, f, x, hk, rfl, rfl, kr, hAx, HP⟩ := hrel
                  have HKR := hide kr
                  have HAX := hide hAx
                  have hkm : k ≤ 4 := by have := unhide HWM; omega
                  cases f
                  · by_cases hkn : k < n
                    · have hkz : (k : Int) < (n : Int) := by omega
                      obtain ⟨y, hy⟩ : ∃ y, hs[k]? = some y := ⟨_, List.getElem?_eq_getElem (by have := unhide HN; omega)⟩
                      have hym : y ∈ hs := List.mem_of_getElem? hy
                      obtain ⟨m0, m1⟩ := row2_at kr.t.row hy
                      have x0 := kr.rA.cell 0
                      have x1 := kr.rA.cell 1
                      have x2 := kr.rA.cell 2
                      have x3 := kr.rA.cell 3
                      simp [Sl.v] at m0 m1 x0 x1 x2 x3
                      have HY := hide hy
                      have HYM := hide hym
                      by_cases hM : y.sn.l = ct4.s ∧ y.recs = ct4.rs
                      · have HIs : Hid (∀ k, Calls Try.prog 11 #[.agg #[.slice y.sn.a y.sn.n y.sn.c, .slice y.ra y.ps.length y.rc], .agg #[.int .i64 (JS.ep j4 : Nat), .slice a4 m4 c4, .slice ra4 rn rc4, .int .i64 cut4]] (wr.drewN k) fun e w' => e = .returned (.bool true) ∧ Below wr.heap.size wr w') := hide (fun kk => by
                          have h1 := is_hd (JS.ep j4 : Nat) cut4 ((kr.t.ok y hym).later (below_drewN (Below.refl _ _) kk)) ((unhide HKL).1 y hym) (kr.rec_.later (below_drewN (Below.refl _ _) kk)) (by rw [(unhide HK4).crs]; exact (unhide HRN).1) (by rw [(unhide HK4).cs]; exact (unhide HRN).2.2) (unhide HRN).2.1
                          rw [decide_eq_true hM] at h1
                          exact h1.mono (fun e w' ⟨h2, h3⟩ => ⟨h2, below_undrewN h3⟩))
                        have HM := hide hM
                        clear kr hAx hy hym hM
                        go_wp2_with fail
                        go_region_held3 (fun w' => w'.cell? ⟨mb, k * 2, none⟩ = some (.slice y.sn.a y.sn.n y.sn.c) ∧ w'.cell? ⟨mb, k * 2 + 1, none⟩ = some (.slice y.ra y.ps.length y.rc) ∧ w'.cell? ⟨rb, 0, none⟩ = some (.int .i64 (JS.ep j4 : Nat)) ∧ w'.cell? ⟨rb, 1, none⟩ = some (.slice a4 m4 c4) ∧ w'.cell? ⟨rb, 2, none⟩ = some (.slice ra4 rn rc4) ∧ w'.cell? ⟨rb, 3, none⟩ = some (.int .i64 cut4)) (go_keep) (first
                          | (go_at_call 11; refine (unhide HIs 1).mono ?_; rintro e w7 ⟨rfl, b7⟩; have kr7 := (unhide HKR).later b7; have A7 := (unhide HAX).later b7; obtain ⟨m0, m1⟩ := row2_at kr7.t.row (unhide HY); have x0 := kr7.rA.cell 0; have x1 := kr7.rA.cell 1; have x2 := kr7.rA.cell 2; have x3 := kr7.rA.cell 3; have u0 := A7.cell 0; have u1 := A7.cell 1; have g0 := A7.frozen 0; have g1 := A7.frozen 1; simp [Sl.v, Hd.cells] at m0 m1 x0 x1 x2 x3 u0 u1; have HKR7 := hide kr7; have HA7 := hide A7; clear kr7 A7 b7))
                        go_wp2
                        go_roundw
                        case rel => exact ⟨k + 1, true, y, by omega, by go_num, rfl, (unhide HKR7).buts (two_buts hb _ _) (fun _ h => h), arr2J _ _ (unhide HA7), hide ⟨fun _ => ⟨unhide HYM, unhide HM⟩, fun h => by simp at h⟩⟩
                        case measure => simp [intOf]; omega
                      · have HIs : Hid (∀ k, Calls Try.prog 11 #[.agg #[.slice y.sn.a y.sn.n y.sn.c, .slice y.ra y.ps.length y.rc], .agg #[.int .i64 (JS.ep j4 : Nat), .slice a4 m4 c4, .slice ra4 rn rc4, .int .i64 cut4]] (wr.drewN k) fun e w' => e = .returned (.bool false) ∧ Below wr.heap.size wr w') := hide (fun kk => by
                          have h1 := is_hd (JS.ep j4 : Nat) cut4 ((kr.t.ok y hym).later (below_drewN (Below.refl _ _) kk)) ((unhide HKL).1 y hym) (kr.rec_.later (below_drewN (Below.refl _ _) kk)) (by rw [(unhide HK4).crs]; exact (unhide HRN).1) (by rw [(unhide HK4).cs]; exact (unhide HRN).2.2) (unhide HRN).2.1
                          rw [decide_eq_false hM] at h1
                          exact h1.mono (fun e w' ⟨h2, h3⟩ => ⟨h2, below_undrewN h3⟩))
                        have HM := hide hM
                        clear kr hAx hy hym hM
                        go_wp2_with fail
                        go_region_held3 (fun w' => w'.cell? ⟨mb, k * 2, none⟩ = some (.slice y.sn.a y.sn.n y.sn.c) ∧ w'.cell? ⟨mb, k * 2 + 1, none⟩ = some (.slice y.ra y.ps.length y.rc) ∧ w'.cell? ⟨rb, 0, none⟩ = some (.int .i64 (JS.ep j4 : Nat)) ∧ w'.cell? ⟨rb, 1, none⟩ = some (.slice a4 m4 c4) ∧ w'.cell? ⟨rb, 2, none⟩ = some (.slice ra4 rn rc4) ∧ w'.cell? ⟨rb, 3, none⟩ = some (.int .i64 cut4)) (go_keep) (first
                          | (go_at_call 11; refine (unhide HIs 1).mono ?_; rintro e w7 ⟨rfl, b7⟩; have kr7 := (unhide HKR).later b7; have A7 := (unhide HAX).later b7; obtain ⟨m0, m1⟩ := row2_at kr7.t.row (unhide HY); have x0 := kr7.rA.cell 0; have x1 := kr7.rA.cell 1; have x2 := kr7.rA.cell 2; have x3 := kr7.rA.cell 3; simp [Sl.v] at m0 m1 x0 x1 x2 x3; have HKR7 := hide kr7; have HA7 := hide A7; clear kr7 A7 b7))
                        go_wp2
                        go_roundw
                        case rel =>
                          refine ⟨k + 1, false, x, by omega, by go_num, rfl, unhide HKR7, unhide HA7, hide ⟨fun h => by simp at h, fun _ i' y' hi' hy' hm' => ?_⟩⟩
                          rcases Nat.lt_or_ge i' k with h1 | h1
                          · exact (unhide HP).2 (by simp) i' y' h1 hy' hm'
                          · have h2 : i' = k := by omega
                            subst h2
                            rw [unhide HY] at hy'
                            cases hy'
                            exact unhide HM hm'
                        case measure => simp [intOf]; omega
                    · exfalso
                      obtain ⟨i', hi'⟩ := List.mem_iff_getElem?.1 (unhide HM0)
                      have h1 := (List.getElem?_eq_some_iff.1 hi').1
                      exact (unhide HP).2 (by simp) i' h0 (by have := unhide HN; omega) hi' ⟨(unhide HK4).cs.symm, (unhide HK4).crs.symm⟩
                  · obtain ⟨xm, xs1, xs2⟩ := (unhide HP).1 (by simp)
                    have HKS4 := hide (kr.done hAx xm)
                    have HJI4 : Hid (JI s4 j4 x.sn.l x.recs) := hide (by rw [xs1, xs2, (unhide HK4).cs, (unhide HK4).crs]; exact (unhide HK4).ji)
                    clear kr hAx xm xs1 xs2
                    by_cases hkn : k < n
                    · have hkz : (k : Int) < (n : Int) := by omega
                      go_wp2_with fail
                      go_roundw
                      case rel =>
                        have h3 := unhide HEP
                        have h4 := unhide HE4
                        have h5 := unhide HWQ
                        exact ⟨i + 1, ar, jp4, by omega, by go_num, rfl, rfl, S4, s4, j4, x, unhide HKS4, unhide HJI4, by omega, by omega, by omega, by omega⟩
                      case measure => simp [intOf]; omega
                    · have hkz : decide ((k : Int) < (n : Int)) = false := decide_eq_false (by omega)
                      go_wp2_with fail
                      go_roundw
                      case rel =>
                        have h3 := unhide HEP
                        have h4 := unhide HE4
                        have h5 := unhide HWQ
                        exact ⟨i + 1, ar, jp4, by omega, by go_num, rfl, rfl, S4, s4, j4, x, unhide HKS4, unhide HJI4, by omega, by omega, by omega, by omega⟩
                      case measure => simp [intOf]; omega
            · have hk2f : (kd != 2) = true := by rw [bne_iff_ne]; exact hk2
              have hs0 : hs[0]? = some h0 := by rw [hsE]; rfl
              obtain ⟨m0, m1⟩ := row2_at (unhide HT).row hs0
              have u0 := (unhide HAH).cell 0
              have u1 := (unhide HAH).cell 1
              have g0 := (unhide HAH).frozen 0
              have g1 := (unhide HAH).frozen 1
              simp [Sl.v, Hd.cells] at m0 m1 u0 u1
              have HM0 := hide hm0
              have HI' := hide hI'
              have HB' : Hid (j'.ep ≤ j.ep + 1 ∧ s'.wr ≤ s.wr + 3 ∧ s'.q.length ≤ s.q.length) := hide ⟨hep', hwr', hq'⟩
              clear hsE hI' hep' hwr' hq' hk2 hs0 hm0
              as_aux_lemma =>
                go_wp2_with fail
                go_roundw
                case rel =>
                  have h2 := unhide HQ
                  have h3 := unhide HEP
                  have h4 := unhide HWR
                  have h5 := unhide HB'
                  exact ⟨i + 1, ar, jp, by omega, by go_num, rfl, rfl, S', s', j', h0, (unhide HT).next (unhide HAH) (unhide HM0) (unhide HJT).jn (unhide HJ5) (unhide HS1).jA (unhide HS1).hj (unhide HS1).rj, unhide HI', by omega, by omega, by omega, by omega⟩
                case measure => simp [intOf]; omega
          · have hqd : (s'.down = false ∧ s'.q.length ≤ ar) ∨ (s'.down = true ∧ s'.q.length + 1 ≤ ar) := .inr ⟨hdn, Nat.le_trans hq' (unhide HQ)⟩
            have hwq : s'.wr + 3 * s'.q.length ≤ 10 * i + 23 := by have := unhide HWR; omega
            clear hdn hwr' hq'
            have ho5 := (unhide HT).fl.ok
            have hrl := (pick_ct ho5 hF0.e0).fl
            have hrn := flatR_len s'.pickC.rs
            rw [hF0.rs] at hrl hrn
            have hsl := (pick_ct ho5 hF0.e0).sl
            rw [hF0.sn] at hsl
            have hR := reop_ok p S' s' ar h0.sn.l h0.recs (j.ep + 2) w5 (unhide HT).fl (by omega) (by have h1 := unhide HQ; rcases hqd with h2 | h2 <;> omega) hF0 (by have := unhide HEP; omega) hqd
            obtain ⟨rn, hrn0⟩ : ∃ rn, rn = h0.recs.length := ⟨_, rfl⟩
            rw [← hrn0] at hR
            have HRN : Hid (rn = h0.recs.length ∧ rn ≤ 1048576 ∧ h0.sn.l.length ≤ 262144) := hide ⟨hrn0, by omega, by omega⟩
            have HM0 := hide hm0
            have HWQ : Hid (s'.wr + 3 * s'.q.length ≤ 10 * i + 23 ∧ s'.q.length ≤ ar) := hide ⟨hwq, by rcases hqd with h2 | h2 <;> omega⟩
            clear ho5 hrl hrn hsl hrn0 hF0 hqd hwq hm0
            as_aux_lemma =>
              go_wp2_with (first
                | (go_at_call 9; refine hR.mono ?_; rintro e w4 ⟨s4, S4, j4, jp4, a4, m4, c4, ra4, rc4, cut4, ct4, xs4, l4, rfl, k4, hep4, hql4, hwr4⟩; clear hR
                   obtain ⟨e5, a5, n5, c5, ra5, rn5, rc5, cut5, hA5⟩ := (unhide HT).bx.rA
                   have hA4 := k4.fst.but.arr hA5 (unhide HT).bx.rS
                   have x0 := hA4.cell 0
                   have x1 := hA4.cell 1
                   have x2 := hA4.cell 2
                   have x3 := hA4.cell 3
                   simp at x0 x1 x2 x3
                   have f0 := hA4.frozen 0
                   have f1 := hA4.frozen 1
                   have f2 := hA4.frozen 2
                   have f3 := hA4.frozen 3
                   have HK4 := hide k4
                   have HE4 : Hid (j4.ep ≤ j.ep + 2 ∧ s4.q.length ≤ s'.q.length ∧ s4.wr + 3 * s4.q.length ≤ s'.wr + 3 * s'.q.length + 3) := hide ⟨hep4, hql4, hwr4⟩
                   clear k4 hep4 hql4 hwr4 hA4 hA5))
              have kr0 := (unhide HT).opened (unhide HK4) (JS.ep j4 : Nat)
              rw [← (unhide HRN).1] at kr0
              simp only [Sl.v] at kr0
              have hA0 := (but4 (g := rb) (W := w4) (.int .i64 (JS.ep j4 : Nat)) (.slice a4 m4 c4) (.slice ra4 rn rc4) (.int .i64 cut4)).arr ((unhide HK4).fst.but.arr (unhide HAH) (unhide HT).bx.hS) (fun e => (unhide HT).bx.hr e)
              have HKR0 := hide kr0
              have HA0 := hide hA0
              clear kr0 hA0 x0 x1 x2 x3 f0 f1 f2 f3
              go_loopw [18, 19] (fun fv kv wr => ∃ (k : Nat) (f : Bool) (x : Hd), k ≤ n ∧ kv = .int .i64 k ∧ fv = .bool f ∧ KR w p jp4 rb hb S4 s4 j4 hs (wo.alloc (.cells #[.int .i64 kd, .slice da dn dc, .slice ca cn cc, .int .i64 ox, .int .i64 oy] 29)).heap.size w5.heap.size (.slice (some ⟨mb, 0, none⟩) n mc) ⟨a4, m4, c4, l4⟩ ra4 rn rc4 (JS.ep j4 : Nat) cut4 ct4 xs4 wr ∧ Arr wr hb 39 x.cells ∧ Hid ((f = true → x ∈ hs ∧ x.sn.l = ct4.s ∧ x.recs = ct4.rs) ∧ (f = false → ∀ i y, i < k → hs[i]? = some y → ¬ (y.sn.l = ct4.s ∧ y.recs = ct4.rs)))) (fun _ kv _ => n - (intOf kv).toNat)
              case atStart => exact ⟨0, false, h, Nat.zero_le _, rfl, rfl, unhide HKR0, unhide HA0, hide ⟨fun h => by simp at h, fun _ i y hi => absurd hi (by omega)⟩⟩
              case round =>
                clear HKR0 HA0
                obtain ⟨k, f, x, hk, rfl, rfl, kr, hAx, HP⟩ := hrel
                have HKR := hide kr
                have HAX := hide hAx
                have hkm : k ≤ 4 := by have := unhide HWM; omega
                cases f
                · by_cases hkn : k < n
                  · have hkz : (k : Int) < (n : Int) := by omega
                    obtain ⟨y, hy⟩ : ∃ y, hs[k]? = some y := ⟨_, List.getElem?_eq_getElem (by have := unhide HN; omega)⟩
                    have hym : y ∈ hs := List.mem_of_getElem? hy
                    obtain ⟨m0, m1⟩ := row2_at kr.t.row hy
                    have x0 := kr.rA.cell 0
                    have x1 := kr.rA.cell 1
                    have x2 := kr.rA.cell 2
                    have x3 := kr.rA.cell 3
                    simp [Sl.v] at m0 m1 x0 x1 x2 x3
                    have HY := hide hy
                    have HYM := hide hym
                    by_cases hM : y.sn.l = ct4.s ∧ y.recs = ct4.rs
                    · have HIs : Hid (∀ k, Calls Try.prog 11 #[.agg #[.slice y.sn.a y.sn.n y.sn.c, .slice y.ra y.ps.length y.rc], .agg #[.int .i64 (JS.ep j4 : Nat), .slice a4 m4 c4, .slice ra4 rn rc4, .int .i64 cut4]] (wr.drewN k) fun e w' => e = .returned (.bool true) ∧ Below wr.heap.size wr w') := hide (fun kk => by
                        have h1 := is_hd (JS.ep j4 : Nat) cut4 ((kr.t.ok y hym).later (below_drewN (Below.refl _ _) kk)) ((unhide HKL).1 y hym) (kr.rec_.later (below_drewN (Below.refl _ _) kk)) (by rw [(unhide HK4).crs]; exact (unhide HRN).1) (by rw [(unhide HK4).cs]; exact (unhide HRN).2.2) (unhide HRN).2.1
                        rw [decide_eq_true hM] at h1
                        exact h1.mono (fun e w' ⟨h2, h3⟩ => ⟨h2, below_undrewN h3⟩))
                      have HM := hide hM
                      clear kr hAx hy hym hM
                      go_wp2_with fail
                      go_region_held3 (fun w' => w'.cell? ⟨mb, k * 2, none⟩ = some (.slice y.sn.a y.sn.n y.sn.c) ∧ w'.cell? ⟨mb, k * 2 + 1, none⟩ = some (.slice y.ra y.ps.length y.rc) ∧ w'.cell? ⟨rb, 0, none⟩ = some (.int .i64 (JS.ep j4 : Nat)) ∧ w'.cell? ⟨rb, 1, none⟩ = some (.slice a4 m4 c4) ∧ w'.cell? ⟨rb, 2, none⟩ = some (.slice ra4 rn rc4) ∧ w'.cell? ⟨rb, 3, none⟩ = some (.int .i64 cut4)) (go_keep) (first
                        | (go_at_call 11; refine (unhide HIs 1).mono ?_; rintro e w7 ⟨rfl, b7⟩; have kr7 := (unhide HKR).later b7; have A7 := (unhide HAX).later b7; obtain ⟨m0, m1⟩ := row2_at kr7.t.row (unhide HY); have x0 := kr7.rA.cell 0; have x1 := kr7.rA.cell 1; have x2 := kr7.rA.cell 2; have x3 := kr7.rA.cell 3; have u0 := A7.cell 0; have u1 := A7.cell 1; have g0 := A7.frozen 0; have g1 := A7.frozen 1; simp [Sl.v, Hd.cells] at m0 m1 x0 x1 x2 x3 u0 u1; have HKR7 := hide kr7; have HA7 := hide A7; clear kr7 A7 b7))
                      go_wp2
                      go_roundw
                      case rel => exact ⟨k + 1, true, y, by omega, by go_num, rfl, (unhide HKR7).buts (two_buts hb _ _) (fun _ h => h), arr2J _ _ (unhide HA7), hide ⟨fun _ => ⟨unhide HYM, unhide HM⟩, fun h => by simp at h⟩⟩
                      case measure => simp [intOf]; omega
                    · have HIs : Hid (∀ k, Calls Try.prog 11 #[.agg #[.slice y.sn.a y.sn.n y.sn.c, .slice y.ra y.ps.length y.rc], .agg #[.int .i64 (JS.ep j4 : Nat), .slice a4 m4 c4, .slice ra4 rn rc4, .int .i64 cut4]] (wr.drewN k) fun e w' => e = .returned (.bool false) ∧ Below wr.heap.size wr w') := hide (fun kk => by
                        have h1 := is_hd (JS.ep j4 : Nat) cut4 ((kr.t.ok y hym).later (below_drewN (Below.refl _ _) kk)) ((unhide HKL).1 y hym) (kr.rec_.later (below_drewN (Below.refl _ _) kk)) (by rw [(unhide HK4).crs]; exact (unhide HRN).1) (by rw [(unhide HK4).cs]; exact (unhide HRN).2.2) (unhide HRN).2.1
                        rw [decide_eq_false hM] at h1
                        exact h1.mono (fun e w' ⟨h2, h3⟩ => ⟨h2, below_undrewN h3⟩))
                      have HM := hide hM
                      clear kr hAx hy hym hM
                      go_wp2_with fail
                      go_region_held3 (fun w' => w'.cell? ⟨mb, k * 2, none⟩ = some (.slice y.sn.a y.sn.n y.sn.c) ∧ w'.cell? ⟨mb, k * 2 + 1, none⟩ = some (.slice y.ra y.ps.length y.rc) ∧ w'.cell? ⟨rb, 0, none⟩ = some (.int .i64 (JS.ep j4 : Nat)) ∧ w'.cell? ⟨rb, 1, none⟩ = some (.slice a4 m4 c4) ∧ w'.cell? ⟨rb, 2, none⟩ = some (.slice ra4 rn rc4) ∧ w'.cell? ⟨rb, 3, none⟩ = some (.int .i64 cut4)) (go_keep) (first
                        | (go_at_call 11; refine (unhide HIs 1).mono ?_; rintro e w7 ⟨rfl, b7⟩; have kr7 := (unhide HKR).later b7; have A7 := (unhide HAX).later b7; obtain ⟨m0, m1⟩ := row2_at kr7.t.row (unhide HY); have x0 := kr7.rA.cell 0; have x1 := kr7.rA.cell 1; have x2 := kr7.rA.cell 2; have x3 := kr7.rA.cell 3; simp [Sl.v] at m0 m1 x0 x1 x2 x3; have HKR7 := hide kr7; have HA7 := hide A7; clear kr7 A7 b7))
                      go_wp2
                      go_roundw
                      case rel =>
                        refine ⟨k + 1, false, x, by omega, by go_num, rfl, unhide HKR7, unhide HA7, hide ⟨fun h => by simp at h, fun _ i' y' hi' hy' hm' => ?_⟩⟩
                        rcases Nat.lt_or_ge i' k with h1 | h1
                        · exact (unhide HP).2 (by simp) i' y' h1 hy' hm'
                        · have h2 : i' = k := by omega
                          subst h2
                          rw [unhide HY] at hy'
                          cases hy'
                          exact unhide HM hm'
                      case measure => simp [intOf]; omega
                  · exfalso
                    obtain ⟨i', hi'⟩ := List.mem_iff_getElem?.1 (unhide HM0)
                    have h1 := (List.getElem?_eq_some_iff.1 hi').1
                    exact (unhide HP).2 (by simp) i' h0 (by have := unhide HN; omega) hi' ⟨(unhide HK4).cs.symm, (unhide HK4).crs.symm⟩
                · obtain ⟨xm, xs1, xs2⟩ := (unhide HP).1 (by simp)
                  have HKS4 := hide (kr.done hAx xm)
                  have HJI4 : Hid (JI s4 j4 x.sn.l x.recs) := hide (by rw [xs1, xs2, (unhide HK4).cs, (unhide HK4).crs]; exact (unhide HK4).ji)
                  clear kr hAx xm xs1 xs2
                  by_cases hkn : k < n
                  · have hkz : (k : Int) < (n : Int) := by omega
                    go_wp2_with fail
                    go_roundw
                    case rel =>
                      have h3 := unhide HEP
                      have h4 := unhide HE4
                      have h5 := unhide HWQ
                      exact ⟨i + 1, ar, jp4, by omega, by go_num, rfl, rfl, S4, s4, j4, x, unhide HKS4, unhide HJI4, by omega, by omega, by omega, by omega⟩
                    case measure => simp [intOf]; omega
                  · have hkz : decide ((k : Int) < (n : Int)) = false := decide_eq_false (by omega)
                    go_wp2_with fail
                    go_roundw
                    case rel =>
                      have h3 := unhide HEP
                      have h4 := unhide HE4
                      have h5 := unhide HWQ
                      exact ⟨i + 1, ar, jp4, by omega, by go_num, rfl, rfl, S4, s4, j4, x, unhide HKS4, unhide HJI4, by omega, by omega, by omega, by omega⟩
                    case measure => simp [intOf]; omega
end Go.Proofs.Ytonpikdpclpkiaa
