import Derived.Test.YtonpikdpclpkiaaWkJ
import Derived.Test.YtonpikdpclpkiaaOpJ
set_option linter.unusedVariables false
namespace Go.Proofs.Ytonpikdpclpkiaa
open Go.RowKit

theorem room_nat {s : FlS} {b : Int} (hu : s.down = false) (hb : b = 0 ∨ b = 1) : s.room b = (s.size : Int) - ((s.bk b).length : Nat) := by
  unfold FlS.room; rw [if_pos (ref_up hu hb)]
/-- between two rounds -/
def RfI (w : World) (p jp : Nat) (i : Nat) (wr : World) : Prop :=
  ∃ S s j sn rs, Fl wr p S s ∧ Jn wr jp p (some j) ∧ ¬ S jp ∧ JI s j sn rs ∧ s.q = [] ∧ s.wr ≤ 4 * i + 20 ∧ Below w.heap.size w wr ∧ (∀ k, S k → w.heap.size ≤ k)
theorem new_empty (z : Int) : (fsLoad z [] []).l0 = [] ∧ (fsLoad z [] []).l1 = [] ∧ (fsLoad z [] []).q = [] ∧ (fsLoad z [] []).down = false ∧ (fsLoad z [] []).wr = 0 := by
  simp [fsLoad]
theorem pick_empty {s : FlS} (h0 : s.l0 = []) (h1 : s.l1 = []) : s.pickC.e = 0 := by
  unfold FlS.pickC
  rw [h0, h1, look_mz rfl]
  simp [cts0]
set_option maxHeartbeats 16000000 in
set_option maxRecDepth 100000 in
theorem refuses_law (z : Int) (a : Sl) (o : Ops) (w : World) (ha : a.Ok w) (han : a.n ≤ 140737488351232) (ho : o.Ok w) (hon : o.n ≤ 140737488351232) (hoo : ∀ q ∈ o.ss, q.d.n ≤ 140737488351232 ∧ q.s.n ≤ 140737488351232) :
    Calls Try.prog 4 #[.int .i64 z, a.v, o.v] w fun e w' => e = .returned (.bool true) ∧ Below w.heap.size w w' := by
  have hN := new_any z w
  obtain ⟨n1, n2, n3, n4, n5⟩ := new_empty z
  have hfm := formats n1 n2 n3 n4 ha.isB
  have hpe := pick_empty n1 n2
  obtain ⟨s0, hs0⟩ : ∃ s, s = fsLoad z [] [] := ⟨_, rfl⟩
  rw [← hs0] at hN hfm hpe n4 n5
  have HA := hide ha
  have HO := hide ho
  have HOO := hide hoo
  have HW0 : Hid (s0.wr = 0 ∧ s0.down = false ∧ s0.pickC.e = 0) := hide ⟨n5, n4, hpe⟩
  obtain ⟨aa, an, ac, al⟩ := a
  obtain ⟨oa, on, oc, os⟩ := o
  simp only at han hon hfm
  simp only [Sl.v, Ops.v]
  clear ha ho hoo hs0 n1 n2 n3 n4 n5 hpe
  rcases hfm with ⟨-, he, hs⟩ | ⟨s1, e1, hi1, hq1, hw1, hz1⟩
  · obtain ⟨⟨s1, r1⟩, hx⟩ : ∃ x, x = s0.format al := ⟨_, rfl⟩
    rw [← hx] at he hs
    simp only at he hs
    subst hs
    have HX := hide hx
    have er1 : (r1 != 0) = true := by rw [bne_iff_ne]; exact he
    have er2 : (r1 == 0) = false := by rw [beq_eq_false_iff_ne]; exact he
    clear hx he
    go_enter Try.func4, Try.ntmps4
    go_wp2_with (first
      | (go_at_call 16; refine hN.mono ?_; rintro e w1 ⟨p, S, rfl, h1, h2, h3⟩; clear hN
         have hM := format_any p S s1 ⟨aa, an, ac, al⟩ w1 h1 ((unhide HA).later h3) han (by have := (unhide HW0).1; omega)
         rw [← unhide HX] at hM
         simp only [Sl.v] at hM
         have HB1 := hide h3
         have HS := hide h2
         clear h1 h2 h3)
      | (go_at_call 17; refine hM.mono ?_; rintro e w2 ⟨rfl, S2, k2⟩; clear hM
         have hO := jopen_blank p S2 s1 w2 k2.fl (unhide HW0).2.1 (unhide HW0).2.2
         have HB2 := hide (k2.belJ (unhide HB1) (unhide HB1).size (unhide HS))
         have HS2 := hide (k2.aboveJ (unhide HB1).size (unhide HS))
         clear k2)
      | (go_at_call 10; refine hO.mono ?_; rintro e w3 ⟨S3, k3, h3⟩; clear hO
         have hjo : s1.jopen = (s1, 140) := (by unfold FlS.jopen; rw [if_neg (by rw [(unhide HW0).2.1]; simp), if_pos (unhide HW0).2.2])
         rw [hjo] at h3
         obtain ⟨-, rfl⟩ := h3.resolve_right (fun h => by simp at h)
         simp only [rec0]
         have b3 := k3.belJ (unhide HB2) (unhide HB2).size (unhide HS2)
         have HB3 := hide (bel_then b3 b3.size (below_alloc w3 (.cells #[.int .i64 0, .slice none 0 0, .slice none 0 0, .int .i64 0] 33)))
         have hK := works_any (w3.alloc (.cells #[.int .i64 0, .slice none 0 0, .slice none 0 0, .int .i64 0] 33))
         clear k3 h3 hjo b3)
      | (go_at_call 12; refine hK.mono ?_; rintro e w4 ⟨rfl, b4⟩; clear hK; have HB4 := hide b4; clear b4))
    go_ret
    exact ⟨rfl, bel_then (unhide HB3) (unhide HB3).size (unhide HB4)⟩
  · have HF1 : Hid (s0.format al = (s1, 0) ∧ JI s1 ⟨0, 1, 0⟩ al [] ∧ s1.q = [] ∧ s1.wr ≤ 3) := hide ⟨e1, hi1, hq1, by have := (unhide HW0).1; omega⟩
    clear e1 hi1 hq1 hw1 hz1
    go_enter Try.func4, Try.ntmps4
    go_wp2_with (first
      | (go_at_call 16; refine hN.mono ?_; rintro e w1 ⟨p, S, rfl, h1, h2, h3⟩; clear hN
         have hM := format_any p S s0 ⟨aa, an, ac, al⟩ w1 h1 ((unhide HA).later h3) han (by have := (unhide HW0).1; omega)
         simp only [Sl.v] at hM
         rw [(unhide HF1).1] at hM
         have HB1 := hide h3
         have HS := hide h2
         clear h1 h2 h3)
      | (go_at_call 17; refine hM.mono ?_; rintro e w2 ⟨rfl, S2, k2⟩; clear hM
         have hO := jopen_quiet p S2 s1 ⟨0, 1, 0⟩ al [] w2 k2.fl (unhide HF1).2.1 (unhide HF1).2.2.1 (by have := (unhide HF1).2.2.2; omega)
         simp only [List.length_nil, Int.cast_ofNat_Int] at hO
         have HB2 := hide (k2.belJ (unhide HB1) (unhide HB1).size (unhide HS))
         have HS2 := hide (k2.aboveJ (unhide HB1).size (unhide HS))
         clear k2)
      | (go_at_call 10; refine hO.mono ?_; rintro e w3 ⟨s3, S3, jp, sa, sn, sc, ra, rc, xs, sl, rfl, k3, hJ3, hjp, hjs, hR3, i3, q3, r3, z3⟩; clear hO
         have bx := below_alloc w3 (.cells #[.int .i64 1, .slice sa sn sc, .slice ra 0 rc, .int .i64 0] 33)
         have b3 := k3.belJ (unhide HB2) (unhide HB2).size (unhide HS2)
         have HST : Hid (RfI w p jp 0 (w3.alloc (.cells #[.int .i64 1, .slice sa sn sc, .slice ra 0 rc, .int .i64 0] 33))) := hide ⟨S3, s3, ⟨0, 1, 0⟩, al, [], k3.fl.later bx, (bx.block jp hJ3.lt).trans hJ3, hjs, i3, q3, by have := (unhide HF1).2.2.2; omega, bel_then b3 b3.size bx, k3.aboveJ (unhide HB2).size (unhide HS2)⟩
         have HJA : Hid (w.heap.size ≤ jp) := hide (Nat.le_trans (unhide HB2).size hjp)
         clear k3 hJ3 hjs hR3 i3 q3 r3 z3 bx b3 hjp))
    go_loopw [12] (fun v wr => ∃ i : Nat, i ≤ on ∧ v = .int .i64 i ∧ RfI w p jp i wr) (fun v _ => on - (intOf v).toNat)
    case atStart => exact ⟨0, Nat.zero_le _, rfl, unhide HST⟩
    case round =>
      clear HST
      obtain ⟨i, hi, rfl, hR⟩ := hrel
      by_cases hnlt : on ≤ i
      · have hii : decide ((i : Int) < (on : Int)) = false := decide_eq_false (by omega)
        obtain ⟨S, s, j, sn0, rs, -, -, -, -, -, -, hB, -⟩ := hR
        have HBW := hide hB
        have hK := works_any wr
        clear hB
        go_wp2_with (go_at_call 12; refine hK.mono ?_; rintro e w4 ⟨rfl, b4⟩; clear hK; have HB4 := hide b4; clear b4)
        go_ret
        exact ⟨rfl, bel_then (unhide HBW) (unhide HBW).size (unhide HB4)⟩
      have hlt : i < on := by omega
      have hlz : (i : Int) < (on : Int) := by omega
      have hB' : Below w.heap.size w wr := by obtain ⟨S, s, j, sn0, rs, -, -, -, -, -, -, hB, -⟩ := hR; exact hB
      have hok := (unhide HO).later hB'
      have hle : on = os.length := (unhide HO).len.symm
      obtain ⟨q, hq9⟩ : ∃ q, os[i]? = some q := ⟨_, List.getElem?_eq_getElem (by omega)⟩
      have hmem : q ∈ os := List.mem_of_getElem? hq9
      obtain ⟨ob, off, hoa, -, y0, y1, y2, y3, y4⟩ := hok.at_ hq9
      obtain ⟨hdok, hsok⟩ := hok.all q hmem
      have hsn := ((unhide HOO) q hmem).2
      have HDold : Hid (0 < q.d.l.length → ∀ x, q.d.a = some x → x.block < w.heap.size) := hide (fun h0 x hx => ((unhide HO).all q hmem).1.blk h0 x hx)
      have HSold : Hid (0 < q.s.l.length → ∀ x, q.s.a = some x → x.block < w.heap.size) := hide (fun h0 x hx => ((unhide HO).all q hmem).2.blk h0 x hx)
      obtain ⟨kd, ⟨da, dn, dc, dl⟩, ⟨sa, sn', sc, sl⟩, ox, oy⟩ := q
      have hoa' : oa = some ⟨ob, off, none⟩ := hoa
      subst hoa'
      simp only at y0 y1 y2 y3 y4 hdok hsok hsn HDold HSold
      clear hok hle hq9 hmem hoa hB'
      obtain ⟨S, s, ⟨jb, je, jc⟩, sn0, rs, hF, hJ, hjS, hI, hq, hwr, hB, hSA⟩ := hR
      have HF0 := hide hF
      have HJ0 := hide hJ
      have HJS := hide hjS
      have HI := hide hI
      have HQ0 := hide hq
      have HBW := hide hB
      have HSA := hide hSA
      have HWR : Hid (s.wr + 10 < 3000000000000000000) := hide (by omega)
      have HWL : Hid (s.wr ≤ 4 * i + 20) := hide hwr
      have HE0 : Hid (JS.ep ⟨jb, je, jc⟩ ≤ 9223372036854775807) := hide hI.e2
      have hje : je ≤ 9223372036854775807 := hI.e2
      have hjc : jc ≤ 104858 := (hI.len hF.ok).2
      have hb01 : jb = 0 ∨ jb = 1 := hI.b01
      obtain ⟨M, hM⟩ : ∃ M, M = (s.bk jb).length := ⟨_, rfl⟩
      obtain ⟨Z, hZ⟩ : ∃ Z, Z = s.size := ⟨_, rfl⟩
      have hMZ : M ≤ Z := by rw [hM, hZ]; exact FlS.bk_le hF.ok hb01
      have hZ1 : Z ≤ 1048576 := by rw [hZ]; exact hF.ok.mx
      have HRM : Hid (s.room jb = (Z : Int) - (M : Int)) := hide (by rw [hM, hZ]; exact room_nat hI.up hb01)
      have hR1 := jroom_any jp p S s ⟨jb, je, jc⟩ (wr.alloc (.cells #[.int .i64 kd, .slice da dn dc, .slice sa sn' sc, .int .i64 ox, .int .i64 oy] 29)) (((below_alloc wr (.cells #[.int .i64 kd, .slice da dn dc, .slice sa sn' sc, .int .i64 ox, .int .i64 oy] 29)).block jp hJ.lt).trans hJ) (hF.later (below_alloc wr (.cells #[.int .i64 kd, .slice da dn dc, .slice sa sn' sc, .int .i64 ox, .int .i64 oy] 29)))
      simp only [unhide HRM] at hR1
      have HDok := hide hdok
      have HSok := hide hsok
      have HSN : Hid (sn' ≤ 140737488351232) := hide hsn
      have HDS : Hid (Sepd (fun k => S k ∨ k = jp) ⟨da, dn, dc, dl⟩) := hide (fun h0 x hx h => by have h9 := (unhide HDold) h0 x hx; rcases h with h | h; have := hSA _ h; omega; have := unhide HJA; omega)
      have HSS : Hid (Sepd (fun k => S k ∨ k = jp) ⟨sa, sn', sc, sl⟩) := hide (fun h0 x hx h => by have h9 := (unhide HSold) h0 x hx; rcases h with h | h; have := hSA _ h; omega; have := unhide HJA; omega)
      have hdl : dl.length = dn := hdok.len
      have hup := hI.up
      have happ := appends (r := dl) hI hdok.isB hF.ok
      have hcom := compacts (s2 := sl) (more := 0) hI hsok.isB hF.ok
      have hkee := keeps (r := dl) (s2 := sl) hI hdok.isB hsok.isB hF.ok
      simp only [hdl, ← hM, ← hZ] at happ hkee
      simp only at hcom
      obtain ⟨N, hN⟩ : ∃ N, N = dn + 10 := ⟨_, rfl⟩
      have HN := hide hN
      have hnoq : ∀ n : Nat, n + 1 ≤ s.q.length → False := fun n h => by rw [hq] at h; simp at h
      clear hF hJ hjS hI hB hSA hwr hdok hsok hsn hdl
      by_cases hk3 : kd = 3
      · have hkt : (kd == 3) = true := by rw [beq_iff_eq]; exact hk3
        clear hcom hkee hk3
        by_cases hfit : 262144 < dn
        · rcases happ with ⟨-, e⟩ | ⟨c, -⟩ | ⟨c, -⟩ | ⟨s4, -, -, -, -, h⟩
          · clear hM hZ hb01 hup hN hq hnoq
            as_aux_lemma =>
              have HX : Hid (s.jappend (some ⟨jb, je, jc⟩) dl = (s, some ⟨jb, je, jc⟩, 1)) := hide e
              have HRM4 := HRM
              have HE4 := HE0
              have HI4 := HI
              have HQ4 := HQ0
              have HWR4 : Hid (s.wr ≤ s.wr + 3) := hide (by omega)
              go_wp2_with (first | (go_at_call 18; refine (jroom_any jp p S4 s ⟨jb, je, jc⟩ w4 (unhide HJ4) (unhide HF4)).mono ?_; simp only [unhide HRM4]; rintro e w5 ⟨rfl, k5, rfl⟩) | (go_at_call 19; refine (jepoch_any jp p ⟨jb, je, jc⟩ (w4.drewN k5) (show Jn (w4.drewN k5) jp p (some ⟨jb, je, jc⟩ ) from unhide HJ4) (unhide HE4)).mono ?_; rintro e w5 ⟨rfl, hw5⟩; obtain rfl := hw5.symm) | (go_at_call 19; refine (jepoch_any jp p ⟨jb, je, jc⟩ w4 (unhide HJ4) (unhide HE4)).mono ?_; rintro e w5 ⟨rfl, hw5⟩; obtain rfl := hw5.symm) | (go_at_call 15; refine (jcount_any jp p ⟨jb, je, jc⟩ (w4.drewN k5) (show Jn (w4.drewN k5) jp p (some ⟨jb, je, jc⟩ ) from unhide HJ4)).mono ?_; rintro e w5 ⟨rfl, hw5⟩; obtain rfl := hw5.symm) | (go_at_call 15; refine (jcount_any jp p ⟨jb, je, jc⟩ w4 (unhide HJ4)).mono ?_; rintro e w5 ⟨rfl, hw5⟩; obtain rfl := hw5.symm) | (go_at_call 14; refine (writes_any p S4 s w4 (unhide HF4)).mono ?_; rintro e w5 ⟨rfl, hw5⟩; obtain rfl := hw5.symm) | (go_at_call 21; refine hOp.mono ?_; rintro e w4 ⟨rfl, S4, k4⟩; clear hOp; simp only at k4; have HF4 := hide k4.fl; have HJ4 : Hid (Jn w4 jp p (some ⟨jb, je, jc⟩)) := hide k4.jn; have HK4 := hide k4; have HNE4 := hide (k4.ne (unhide HJS) (unhide HJ3).lt); clear k4) | (go_at_call 20; refine (encode_no 82 da dn dc w2 hfit).mono ?_; rintro e w3 ⟨rfl, hw3⟩; have b3 : Below w2.heap.size w2 w3 := (by rw [hw3]; exact Below.refl _ _); clear hw3; have A3 := (unhide HA2).later b3; have y0 := A3.cell 0; have y1 := A3.cell 1; have y2 := A3.cell 2; simp at y0 y1 y2; have HB3 := hide (bel_then (unhide HB2) (unhide HB2).size b3); have HF3 := hide ((unhide HF2).later b3); have HJ3 : Hid (Jn w3 jp p (some ⟨jb, je, jc⟩)) := hide ((b3.block jp (unhide HJ2).lt).trans (unhide HJ2)); have hOp := jappend_any p jp S s (some ⟨jb, je, jc⟩) ⟨da, dn, dc, dl⟩ w3 (unhide HF3) (unhide HJ3) (unhide HJS) ((unhide HI).jok (unhide HF0).ok) ((unhide HDok).later (unhide HB3)) (by have := unhide HWR; omega); rw [unhide HX] at hOp; simp only [Sl.v] at hOp; clear b3 A3) | (go_at_call 18; refine hR1.mono ?_; rintro e w2 ⟨rfl, k2, h2⟩; clear hR1; have b2 : Below wr.heap.size wr w2 := (by rw [h2]; exact below_drewN (below_alloc wr (.cells #[.int .i64 kd, .slice da dn dc, .slice sa sn' sc, .int .i64 ox, .int .i64 oy] 29)) k2); have A2 : Arr w2 wr.heap.size 29 [.int .i64 kd, .slice da dn dc, .slice sa sn' sc, .int .i64 ox, .int .i64 oy] := (by rw [h2]; exact Arr.new wr _ [.int .i64 kd, .slice da dn dc, .slice sa sn' sc, .int .i64 ox, .int .i64 oy]); have x0 := A2.cell 0; have x1 := A2.cell 1; have x2 := A2.cell 2; simp at x0 x1 x2; have HA2 := hide A2; have HB2 := hide b2; have HF2 := hide ((unhide HF0).later b2); have HJ2 : Hid (Jn w2 jp p (some ⟨jb, je, jc⟩)) := hide ((b2.block jp (unhide HJ0).lt).trans (unhide HJ0)); clear h2 b2 A2) | (go_at_call 19; refine (jepoch_any jp p ⟨jb, je, jc⟩ w2 (unhide HJ2) (unhide HE0)).mono ?_; rintro e w5 ⟨rfl, hw5⟩; obtain rfl := hw5.symm) | (go_at_call 15; refine (jcount_any jp p ⟨jb, je, jc⟩ w2 (unhide HJ2)).mono ?_; rintro e w5 ⟨rfl, hw5⟩; obtain rfl := hw5.symm) | (go_at_call 14; refine (writes_any p S s w2 (unhide HF2)).mono ?_; rintro e w5 ⟨rfl, hw5⟩; obtain rfl := hw5.symm))
              go_roundw
              case rel =>
                have hbel := (unhide HK4).belJ (bel_then (unhide HBW) (unhide HBW).size (unhide HB3)) (Nat.le_trans (unhide HBW).size (unhide HB3).size) (unhide HSA) (unhide HJA)
                first | (exact ⟨i + 1, by omega, by go_num, S4, s, ⟨jb, je, jc⟩, sn0, rs, (unhide HF4), (unhide HJ4), (unhide HNE4), unhide HI4, unhide HQ4, by have h1 := unhide HWR4; have h2 := unhide HWL; omega, hbel, (unhide HK4).aboveJ (Nat.le_trans (unhide HBW).size (unhide HB3).size) (unhide HSA)⟩) | (exact ⟨i + 1, by omega, by go_num, S4, s, ⟨jb, je, jc⟩, sn0, rs, ((unhide HF4).drewN k5), (unhide HJ4), (unhide HNE4), unhide HI4, unhide HQ4, by have h1 := unhide HWR4; have h2 := unhide HWL; omega, below_drewN hbel k5, (unhide HK4).aboveJ (Nat.le_trans (unhide HBW).size (unhide HB3).size) (unhide HSA)⟩)
              case measure => simp [intOf]; omega
          · omega
          · omega
          · exact absurd h (fun h => hnoq _ h)
        · have hfit2 : dn ≤ 262144 := by omega
          rcases happ with ⟨c, -⟩ | ⟨-, c, e⟩ | ⟨-, c, s4, e, hi4, hl4, hz4, hw4, hq4⟩ | ⟨s4, -, -, -, -, h⟩
          · omega
          · have hc : (Z : Int) - (M : Int) < (N : Int) := by omega
            have hcd : decide ((Z : Int) - (M : Int) < (N : Int)) = true := decide_eq_true hc
            have hNb : N ≤ 262154 := by omega
            replace hfit := hfit2
            clear hM hZ hb01 hup hN hq hnoq c hfit2
            as_aux_lemma =>
              have HX : Hid (s.jappend (some ⟨jb, je, jc⟩) dl = (s, some ⟨jb, je, jc⟩, 122)) := hide e
              have HRM4 := HRM
              have HE4 := HE0
              have HI4 := HI
              have HQ4 := HQ0
              have HWR4 : Hid (s.wr ≤ s.wr + 3) := hide (by omega)
              go_wp2_with (first | (go_at_call 18; refine (jroom_any jp p S4 s ⟨jb, je, jc⟩ w4 (unhide HJ4) (unhide HF4)).mono ?_; simp only [unhide HRM4]; rintro e w5 ⟨rfl, k5, rfl⟩) | (go_at_call 19; refine (jepoch_any jp p ⟨jb, je, jc⟩ (w4.drewN k5) (show Jn (w4.drewN k5) jp p (some ⟨jb, je, jc⟩ ) from unhide HJ4) (unhide HE4)).mono ?_; rintro e w5 ⟨rfl, hw5⟩; obtain rfl := hw5.symm) | (go_at_call 19; refine (jepoch_any jp p ⟨jb, je, jc⟩ w4 (unhide HJ4) (unhide HE4)).mono ?_; rintro e w5 ⟨rfl, hw5⟩; obtain rfl := hw5.symm) | (go_at_call 15; refine (jcount_any jp p ⟨jb, je, jc⟩ (w4.drewN k5) (show Jn (w4.drewN k5) jp p (some ⟨jb, je, jc⟩ ) from unhide HJ4)).mono ?_; rintro e w5 ⟨rfl, hw5⟩; obtain rfl := hw5.symm) | (go_at_call 15; refine (jcount_any jp p ⟨jb, je, jc⟩ w4 (unhide HJ4)).mono ?_; rintro e w5 ⟨rfl, hw5⟩; obtain rfl := hw5.symm) | (go_at_call 14; refine (writes_any p S4 s w4 (unhide HF4)).mono ?_; rintro e w5 ⟨rfl, hw5⟩; obtain rfl := hw5.symm) | (go_at_call 21; refine hOp.mono ?_; rintro e w4 ⟨rfl, S4, k4⟩; clear hOp; simp only at k4; have HF4 := hide k4.fl; have HJ4 : Hid (Jn w4 jp p (some ⟨jb, je, jc⟩)) := hide k4.jn; have HK4 := hide k4; have HNE4 := hide (k4.ne (unhide HJS) (unhide HJ3).lt); clear k4) | (go_at_call 20; have hE := encode_ok 82 ⟨da, dn, dc, dl⟩ w2 ((unhide HDok).later (unhide HB2)) (by decide) hfit; simp only [Sl.v, ← unhide HN] at hE; refine hE.mono ?_; rintro e w3 ⟨g3, rfl, -, b3⟩; clear hE; have A3 := (unhide HA2).later b3; have y0 := A3.cell 0; have y1 := A3.cell 1; have y2 := A3.cell 2; simp at y0 y1 y2; have HB3 := hide (bel_then (unhide HB2) (unhide HB2).size b3); have HF3 := hide ((unhide HF2).later b3); have HJ3 : Hid (Jn w3 jp p (some ⟨jb, je, jc⟩)) := hide ((b3.block jp (unhide HJ2).lt).trans (unhide HJ2)); have hOp := jappend_any p jp S s (some ⟨jb, je, jc⟩) ⟨da, dn, dc, dl⟩ w3 (unhide HF3) (unhide HJ3) (unhide HJS) ((unhide HI).jok (unhide HF0).ok) ((unhide HDok).later (unhide HB3)) (by have := unhide HWR; omega); rw [unhide HX] at hOp; simp only [Sl.v] at hOp; clear b3 A3) | (go_at_call 18; refine hR1.mono ?_; rintro e w2 ⟨rfl, k2, h2⟩; clear hR1; have b2 : Below wr.heap.size wr w2 := (by rw [h2]; exact below_drewN (below_alloc wr (.cells #[.int .i64 kd, .slice da dn dc, .slice sa sn' sc, .int .i64 ox, .int .i64 oy] 29)) k2); have A2 : Arr w2 wr.heap.size 29 [.int .i64 kd, .slice da dn dc, .slice sa sn' sc, .int .i64 ox, .int .i64 oy] := (by rw [h2]; exact Arr.new wr _ [.int .i64 kd, .slice da dn dc, .slice sa sn' sc, .int .i64 ox, .int .i64 oy]); have x0 := A2.cell 0; have x1 := A2.cell 1; have x2 := A2.cell 2; simp at x0 x1 x2; have HA2 := hide A2; have HB2 := hide b2; have HF2 := hide ((unhide HF0).later b2); have HJ2 : Hid (Jn w2 jp p (some ⟨jb, je, jc⟩)) := hide ((b2.block jp (unhide HJ0).lt).trans (unhide HJ0)); clear h2 b2 A2) | (go_at_call 19; refine (jepoch_any jp p ⟨jb, je, jc⟩ w2 (unhide HJ2) (unhide HE0)).mono ?_; rintro e w5 ⟨rfl, hw5⟩; obtain rfl := hw5.symm) | (go_at_call 15; refine (jcount_any jp p ⟨jb, je, jc⟩ w2 (unhide HJ2)).mono ?_; rintro e w5 ⟨rfl, hw5⟩; obtain rfl := hw5.symm) | (go_at_call 14; refine (writes_any p S s w2 (unhide HF2)).mono ?_; rintro e w5 ⟨rfl, hw5⟩; obtain rfl := hw5.symm))
              go_roundw
              case rel =>
                have hbel := (unhide HK4).belJ (bel_then (unhide HBW) (unhide HBW).size (unhide HB3)) (Nat.le_trans (unhide HBW).size (unhide HB3).size) (unhide HSA) (unhide HJA)
                first | (exact ⟨i + 1, by omega, by go_num, S4, s, ⟨jb, je, jc⟩, sn0, rs, (unhide HF4), (unhide HJ4), (unhide HNE4), unhide HI4, unhide HQ4, by have h1 := unhide HWR4; have h2 := unhide HWL; omega, hbel, (unhide HK4).aboveJ (Nat.le_trans (unhide HBW).size (unhide HB3).size) (unhide HSA)⟩) | (exact ⟨i + 1, by omega, by go_num, S4, s, ⟨jb, je, jc⟩, sn0, rs, ((unhide HF4).drewN k5), (unhide HJ4), (unhide HNE4), unhide HI4, unhide HQ4, by have h1 := unhide HWR4; have h2 := unhide HWL; omega, below_drewN hbel k5, (unhide HK4).aboveJ (Nat.le_trans (unhide HBW).size (unhide HB3).size) (unhide HSA)⟩)
              case measure => simp [intOf]; omega
          · have hc : ¬ (Z : Int) - (M : Int) < (N : Int) := by omega
            have hcd : decide ((Z : Int) - (M : Int) < (N : Int)) = false := decide_eq_false hc
            have hNb : N ≤ 262154 := by omega
            have hNz : M + N ≤ Z := by omega
            replace hfit := hfit2
            as_aux_lemma =>
              have HX : Hid (s.jappend (some ⟨jb, je, jc⟩) dl = (s4, some ⟨jb, je, jc + 1⟩, 0)) := hide e
              have HRM4 : Hid (s4.room jb = (Z : Int) - (M : Int) - (N : Int)) := hide (by rw [room_nat hi4.up hb01, hl4, hz4]; omega)
              have HE4 : Hid (JS.ep ⟨jb, je, jc + 1⟩ ≤ 9223372036854775807) := hide (hi4.e2)
              have HI4 := hide hi4
              have HQ4 : Hid (s4.q = []) := hide (List.length_eq_zero_iff.1 (by have h := hq4; rw [unhide HQ0] at h; simpa using h))
              have HWR4 : Hid (s4.wr ≤ s.wr + 3) := hide (by have h := hw4; omega)
              clear hM hZ hb01 hup hN hq hnoq c hi4 hl4 hz4 hw4 hq4 hc hfit2
              go_wp2_with (first | (go_at_call 18; refine (jroom_any jp p S4 s4 ⟨jb, je, jc + 1⟩ w4 (unhide HJ4) (unhide HF4)).mono ?_; simp only [unhide HRM4]; rintro e w5 ⟨rfl, k5, rfl⟩) | (go_at_call 19; refine (jepoch_any jp p ⟨jb, je, jc + 1⟩ (w4.drewN k5) (show Jn (w4.drewN k5) jp p (some ⟨jb, je, jc + 1⟩ ) from unhide HJ4) (unhide HE4)).mono ?_; rintro e w5 ⟨rfl, hw5⟩; obtain rfl := hw5.symm) | (go_at_call 19; refine (jepoch_any jp p ⟨jb, je, jc + 1⟩ w4 (unhide HJ4) (unhide HE4)).mono ?_; rintro e w5 ⟨rfl, hw5⟩; obtain rfl := hw5.symm) | (go_at_call 15; refine (jcount_any jp p ⟨jb, je, jc + 1⟩ (w4.drewN k5) (show Jn (w4.drewN k5) jp p (some ⟨jb, je, jc + 1⟩ ) from unhide HJ4)).mono ?_; rintro e w5 ⟨rfl, hw5⟩; obtain rfl := hw5.symm) | (go_at_call 15; refine (jcount_any jp p ⟨jb, je, jc + 1⟩ w4 (unhide HJ4)).mono ?_; rintro e w5 ⟨rfl, hw5⟩; obtain rfl := hw5.symm) | (go_at_call 14; refine (writes_any p S4 s4 w4 (unhide HF4)).mono ?_; rintro e w5 ⟨rfl, hw5⟩; obtain rfl := hw5.symm) | (go_at_call 21; refine hOp.mono ?_; rintro e w4 ⟨rfl, S4, k4⟩; clear hOp; simp only at k4; have HF4 := hide k4.fl; have HJ4 : Hid (Jn w4 jp p (some ⟨jb, je, jc + 1⟩)) := hide k4.jn; have HK4 := hide k4; have HNE4 := hide (k4.ne (unhide HJS) (unhide HJ3).lt); clear k4) | (go_at_call 20; have hE := encode_ok 82 ⟨da, dn, dc, dl⟩ w2 ((unhide HDok).later (unhide HB2)) (by decide) hfit; simp only [Sl.v, ← unhide HN] at hE; refine hE.mono ?_; rintro e w3 ⟨g3, rfl, -, b3⟩; clear hE; have A3 := (unhide HA2).later b3; have y0 := A3.cell 0; have y1 := A3.cell 1; have y2 := A3.cell 2; simp at y0 y1 y2; have HB3 := hide (bel_then (unhide HB2) (unhide HB2).size b3); have HF3 := hide ((unhide HF2).later b3); have HJ3 : Hid (Jn w3 jp p (some ⟨jb, je, jc⟩)) := hide ((b3.block jp (unhide HJ2).lt).trans (unhide HJ2)); have hOp := jappend_any p jp S s (some ⟨jb, je, jc⟩) ⟨da, dn, dc, dl⟩ w3 (unhide HF3) (unhide HJ3) (unhide HJS) ((unhide HI).jok (unhide HF0).ok) ((unhide HDok).later (unhide HB3)) (by have := unhide HWR; omega); rw [unhide HX] at hOp; simp only [Sl.v] at hOp; clear b3 A3) | (go_at_call 18; refine hR1.mono ?_; rintro e w2 ⟨rfl, k2, h2⟩; clear hR1; have b2 : Below wr.heap.size wr w2 := (by rw [h2]; exact below_drewN (below_alloc wr (.cells #[.int .i64 kd, .slice da dn dc, .slice sa sn' sc, .int .i64 ox, .int .i64 oy] 29)) k2); have A2 : Arr w2 wr.heap.size 29 [.int .i64 kd, .slice da dn dc, .slice sa sn' sc, .int .i64 ox, .int .i64 oy] := (by rw [h2]; exact Arr.new wr _ [.int .i64 kd, .slice da dn dc, .slice sa sn' sc, .int .i64 ox, .int .i64 oy]); have x0 := A2.cell 0; have x1 := A2.cell 1; have x2 := A2.cell 2; simp at x0 x1 x2; have HA2 := hide A2; have HB2 := hide b2; have HF2 := hide ((unhide HF0).later b2); have HJ2 : Hid (Jn w2 jp p (some ⟨jb, je, jc⟩)) := hide ((b2.block jp (unhide HJ0).lt).trans (unhide HJ0)); clear h2 b2 A2) | (go_at_call 19; refine (jepoch_any jp p ⟨jb, je, jc⟩ w2 (unhide HJ2) (unhide HE0)).mono ?_; rintro e w5 ⟨rfl, hw5⟩; obtain rfl := hw5.symm) | (go_at_call 15; refine (jcount_any jp p ⟨jb, je, jc⟩ w2 (unhide HJ2)).mono ?_; rintro e w5 ⟨rfl, hw5⟩; obtain rfl := hw5.symm) | (go_at_call 14; refine (writes_any p S s w2 (unhide HF2)).mono ?_; rintro e w5 ⟨rfl, hw5⟩; obtain rfl := hw5.symm))
              go_roundw
              case rel =>
                have hbel := (unhide HK4).belJ (bel_then (unhide HBW) (unhide HBW).size (unhide HB3)) (Nat.le_trans (unhide HBW).size (unhide HB3).size) (unhide HSA) (unhide HJA)
                first | (exact ⟨i + 1, by omega, by go_num, S4, s4, ⟨jb, je, jc + 1⟩, sn0, (rs ++ [dl]), (unhide HF4), (unhide HJ4), (unhide HNE4), unhide HI4, unhide HQ4, by have h1 := unhide HWR4; have h2 := unhide HWL; omega, hbel, (unhide HK4).aboveJ (Nat.le_trans (unhide HBW).size (unhide HB3).size) (unhide HSA)⟩) | (exact ⟨i + 1, by omega, by go_num, S4, s4, ⟨jb, je, jc + 1⟩, sn0, (rs ++ [dl]), ((unhide HF4).drewN k5), (unhide HJ4), (unhide HNE4), unhide HI4, unhide HQ4, by have h1 := unhide HWR4; have h2 := unhide HWL; omega, below_drewN hbel k5, (unhide HK4).aboveJ (Nat.le_trans (unhide HBW).size (unhide HB3).size) (unhide HSA)⟩)
              case measure => simp [intOf]; omega
          · exact absurd h (fun h => hnoq _ h)
      have hk3' : (kd == 3) = false := by rw [beq_eq_false_iff_ne]; exact hk3
      by_cases hk4 : kd = 4
      · have hkt : (kd == 4) = true := by rw [beq_iff_eq]; exact hk4
        clear happ hkee hk3 hk4
        rcases hcom with ⟨err, e1, e2, e⟩ | ⟨-, hl2, s4, e, hi4, hl4, hz4, hw4, hq4⟩ | ⟨s4, -, -, -, -, h⟩
        · have er1 : (err != 0) = true := by rw [bne_iff_ne]; exact e1
          have er2 : (err == 0) = false := by rw [beq_eq_false_iff_ne]; exact e1
          by_cases hfit : 262144 < dn
          · clear hM hZ hb01 hup hN hq hnoq e1 e2
            as_aux_lemma =>
              have HX : Hid (s.jcompact (some ⟨jb, je, jc⟩) sl 0 = (s, some ⟨jb, je, jc⟩, err)) := hide e
              have HRM4 := HRM
              have HE4 := HE0
              have HI4 := HI
              have HQ4 := HQ0
              have HWR4 : Hid (s.wr ≤ s.wr + 3) := hide (by omega)
              go_wp2_with (first | (go_at_call 18; refine (jroom_any jp p S4 s ⟨jb, je, jc⟩ w4 (unhide HJ4) (unhide HF4)).mono ?_; simp only [unhide HRM4]; rintro e w5 ⟨rfl, k5, rfl⟩) | (go_at_call 19; refine (jepoch_any jp p ⟨jb, je, jc⟩ (w4.drewN k5) (show Jn (w4.drewN k5) jp p (some ⟨jb, je, jc⟩ ) from unhide HJ4) (unhide HE4)).mono ?_; rintro e w5 ⟨rfl, hw5⟩; obtain rfl := hw5.symm) | (go_at_call 19; refine (jepoch_any jp p ⟨jb, je, jc⟩ w4 (unhide HJ4) (unhide HE4)).mono ?_; rintro e w5 ⟨rfl, hw5⟩; obtain rfl := hw5.symm) | (go_at_call 15; refine (jcount_any jp p ⟨jb, je, jc⟩ (w4.drewN k5) (show Jn (w4.drewN k5) jp p (some ⟨jb, je, jc⟩ ) from unhide HJ4)).mono ?_; rintro e w5 ⟨rfl, hw5⟩; obtain rfl := hw5.symm) | (go_at_call 15; refine (jcount_any jp p ⟨jb, je, jc⟩ w4 (unhide HJ4)).mono ?_; rintro e w5 ⟨rfl, hw5⟩; obtain rfl := hw5.symm) | (go_at_call 14; refine (writes_any p S4 s w4 (unhide HF4)).mono ?_; rintro e w5 ⟨rfl, hw5⟩; obtain rfl := hw5.symm) | (go_at_call 22; refine hOp.mono ?_; rintro e w4 ⟨rfl, S4, k4⟩; clear hOp; simp only at k4; have HF4 := hide k4.fl; have HJ4 : Hid (Jn w4 jp p (some ⟨jb, je, jc⟩)) := hide k4.jn; have HK4 := hide k4; have HNE4 := hide (k4.ne (unhide HJS) (unhide HJ3).lt); clear k4) | (go_at_call 20; refine (encode_no 82 da dn dc w2 hfit).mono ?_; rintro e w3 ⟨rfl, hw3⟩; have b3 : Below w2.heap.size w2 w3 := (by rw [hw3]; exact Below.refl _ _); clear hw3; have A3 := (unhide HA2).later b3; have y0 := A3.cell 0; have y1 := A3.cell 1; have y2 := A3.cell 2; simp at y0 y1 y2; have HB3 := hide (bel_then (unhide HB2) (unhide HB2).size b3); have HF3 := hide ((unhide HF2).later b3); have HJ3 : Hid (Jn w3 jp p (some ⟨jb, je, jc⟩)) := hide ((b3.block jp (unhide HJ2).lt).trans (unhide HJ2)); have hOp := jCompact_any p jp S s (some ⟨jb, je, jc⟩) ⟨sa, sn', sc, sl⟩ w3 (unhide HF3) (unhide HJ3) (unhide HJS) ((unhide HI).jok (unhide HF0).ok) ((unhide HSok).later (unhide HB3)) (unhide HSN) (by have := unhide HWR; omega); rw [unhide HX] at hOp; simp only [Sl.v] at hOp; clear b3 A3) | (go_at_call 18; refine hR1.mono ?_; rintro e w2 ⟨rfl, k2, h2⟩; clear hR1; have b2 : Below wr.heap.size wr w2 := (by rw [h2]; exact below_drewN (below_alloc wr (.cells #[.int .i64 kd, .slice da dn dc, .slice sa sn' sc, .int .i64 ox, .int .i64 oy] 29)) k2); have A2 : Arr w2 wr.heap.size 29 [.int .i64 kd, .slice da dn dc, .slice sa sn' sc, .int .i64 ox, .int .i64 oy] := (by rw [h2]; exact Arr.new wr _ [.int .i64 kd, .slice da dn dc, .slice sa sn' sc, .int .i64 ox, .int .i64 oy]); have x0 := A2.cell 0; have x1 := A2.cell 1; have x2 := A2.cell 2; simp at x0 x1 x2; have HA2 := hide A2; have HB2 := hide b2; have HF2 := hide ((unhide HF0).later b2); have HJ2 : Hid (Jn w2 jp p (some ⟨jb, je, jc⟩)) := hide ((b2.block jp (unhide HJ0).lt).trans (unhide HJ0)); clear h2 b2 A2) | (go_at_call 19; refine (jepoch_any jp p ⟨jb, je, jc⟩ w2 (unhide HJ2) (unhide HE0)).mono ?_; rintro e w5 ⟨rfl, hw5⟩; obtain rfl := hw5.symm) | (go_at_call 15; refine (jcount_any jp p ⟨jb, je, jc⟩ w2 (unhide HJ2)).mono ?_; rintro e w5 ⟨rfl, hw5⟩; obtain rfl := hw5.symm) | (go_at_call 14; refine (writes_any p S s w2 (unhide HF2)).mono ?_; rintro e w5 ⟨rfl, hw5⟩; obtain rfl := hw5.symm))
              go_roundw
              case rel =>
                have hbel := (unhide HK4).belJ (bel_then (unhide HBW) (unhide HBW).size (unhide HB3)) (Nat.le_trans (unhide HBW).size (unhide HB3).size) (unhide HSA) (unhide HJA)
                first | (exact ⟨i + 1, by omega, by go_num, S4, s, ⟨jb, je, jc⟩, sn0, rs, (unhide HF4), (unhide HJ4), (unhide HNE4), unhide HI4, unhide HQ4, by have h1 := unhide HWR4; have h2 := unhide HWL; omega, hbel, (unhide HK4).aboveJ (Nat.le_trans (unhide HBW).size (unhide HB3).size) (unhide HSA)⟩) | (exact ⟨i + 1, by omega, by go_num, S4, s, ⟨jb, je, jc⟩, sn0, rs, ((unhide HF4).drewN k5), (unhide HJ4), (unhide HNE4), unhide HI4, unhide HQ4, by have h1 := unhide HWR4; have h2 := unhide HWL; omega, below_drewN hbel k5, (unhide HK4).aboveJ (Nat.le_trans (unhide HBW).size (unhide HB3).size) (unhide HSA)⟩)
              case measure => simp [intOf]; omega
          · replace hfit : dn ≤ 262144 := by omega
            clear hM hZ hb01 hup hN hq hnoq e1 e2
            as_aux_lemma =>
              have HX : Hid (s.jcompact (some ⟨jb, je, jc⟩) sl 0 = (s, some ⟨jb, je, jc⟩, err)) := hide e
              have HRM4 := HRM
              have HE4 := HE0
              have HI4 := HI
              have HQ4 := HQ0
              have HWR4 : Hid (s.wr ≤ s.wr + 3) := hide (by omega)
              go_wp2_with (first | (go_at_call 18; refine (jroom_any jp p S4 s ⟨jb, je, jc⟩ w4 (unhide HJ4) (unhide HF4)).mono ?_; simp only [unhide HRM4]; rintro e w5 ⟨rfl, k5, rfl⟩) | (go_at_call 19; refine (jepoch_any jp p ⟨jb, je, jc⟩ (w4.drewN k5) (show Jn (w4.drewN k5) jp p (some ⟨jb, je, jc⟩ ) from unhide HJ4) (unhide HE4)).mono ?_; rintro e w5 ⟨rfl, hw5⟩; obtain rfl := hw5.symm) | (go_at_call 19; refine (jepoch_any jp p ⟨jb, je, jc⟩ w4 (unhide HJ4) (unhide HE4)).mono ?_; rintro e w5 ⟨rfl, hw5⟩; obtain rfl := hw5.symm) | (go_at_call 15; refine (jcount_any jp p ⟨jb, je, jc⟩ (w4.drewN k5) (show Jn (w4.drewN k5) jp p (some ⟨jb, je, jc⟩ ) from unhide HJ4)).mono ?_; rintro e w5 ⟨rfl, hw5⟩; obtain rfl := hw5.symm) | (go_at_call 15; refine (jcount_any jp p ⟨jb, je, jc⟩ w4 (unhide HJ4)).mono ?_; rintro e w5 ⟨rfl, hw5⟩; obtain rfl := hw5.symm) | (go_at_call 14; refine (writes_any p S4 s w4 (unhide HF4)).mono ?_; rintro e w5 ⟨rfl, hw5⟩; obtain rfl := hw5.symm) | (go_at_call 22; refine hOp.mono ?_; rintro e w4 ⟨rfl, S4, k4⟩; clear hOp; simp only at k4; have HF4 := hide k4.fl; have HJ4 : Hid (Jn w4 jp p (some ⟨jb, je, jc⟩)) := hide k4.jn; have HK4 := hide k4; have HNE4 := hide (k4.ne (unhide HJS) (unhide HJ3).lt); clear k4) | (go_at_call 20; have hE := encode_ok 82 ⟨da, dn, dc, dl⟩ w2 ((unhide HDok).later (unhide HB2)) (by decide) hfit; simp only [Sl.v, ← unhide HN] at hE; refine hE.mono ?_; rintro e w3 ⟨g3, rfl, -, b3⟩; clear hE; have A3 := (unhide HA2).later b3; have y0 := A3.cell 0; have y1 := A3.cell 1; have y2 := A3.cell 2; simp at y0 y1 y2; have HB3 := hide (bel_then (unhide HB2) (unhide HB2).size b3); have HF3 := hide ((unhide HF2).later b3); have HJ3 : Hid (Jn w3 jp p (some ⟨jb, je, jc⟩)) := hide ((b3.block jp (unhide HJ2).lt).trans (unhide HJ2)); have hOp := jCompact_any p jp S s (some ⟨jb, je, jc⟩) ⟨sa, sn', sc, sl⟩ w3 (unhide HF3) (unhide HJ3) (unhide HJS) ((unhide HI).jok (unhide HF0).ok) ((unhide HSok).later (unhide HB3)) (unhide HSN) (by have := unhide HWR; omega); rw [unhide HX] at hOp; simp only [Sl.v] at hOp; clear b3 A3) | (go_at_call 18; refine hR1.mono ?_; rintro e w2 ⟨rfl, k2, h2⟩; clear hR1; have b2 : Below wr.heap.size wr w2 := (by rw [h2]; exact below_drewN (below_alloc wr (.cells #[.int .i64 kd, .slice da dn dc, .slice sa sn' sc, .int .i64 ox, .int .i64 oy] 29)) k2); have A2 : Arr w2 wr.heap.size 29 [.int .i64 kd, .slice da dn dc, .slice sa sn' sc, .int .i64 ox, .int .i64 oy] := (by rw [h2]; exact Arr.new wr _ [.int .i64 kd, .slice da dn dc, .slice sa sn' sc, .int .i64 ox, .int .i64 oy]); have x0 := A2.cell 0; have x1 := A2.cell 1; have x2 := A2.cell 2; simp at x0 x1 x2; have HA2 := hide A2; have HB2 := hide b2; have HF2 := hide ((unhide HF0).later b2); have HJ2 : Hid (Jn w2 jp p (some ⟨jb, je, jc⟩)) := hide ((b2.block jp (unhide HJ0).lt).trans (unhide HJ0)); clear h2 b2 A2) | (go_at_call 19; refine (jepoch_any jp p ⟨jb, je, jc⟩ w2 (unhide HJ2) (unhide HE0)).mono ?_; rintro e w5 ⟨rfl, hw5⟩; obtain rfl := hw5.symm) | (go_at_call 15; refine (jcount_any jp p ⟨jb, je, jc⟩ w2 (unhide HJ2)).mono ?_; rintro e w5 ⟨rfl, hw5⟩; obtain rfl := hw5.symm) | (go_at_call 14; refine (writes_any p S s w2 (unhide HF2)).mono ?_; rintro e w5 ⟨rfl, hw5⟩; obtain rfl := hw5.symm))
              go_roundw
              case rel =>
                have hbel := (unhide HK4).belJ (bel_then (unhide HBW) (unhide HBW).size (unhide HB3)) (Nat.le_trans (unhide HBW).size (unhide HB3).size) (unhide HSA) (unhide HJA)
                first | (exact ⟨i + 1, by omega, by go_num, S4, s, ⟨jb, je, jc⟩, sn0, rs, (unhide HF4), (unhide HJ4), (unhide HNE4), unhide HI4, unhide HQ4, by have h1 := unhide HWR4; have h2 := unhide HWL; omega, hbel, (unhide HK4).aboveJ (Nat.le_trans (unhide HBW).size (unhide HB3).size) (unhide HSA)⟩) | (exact ⟨i + 1, by omega, by go_num, S4, s, ⟨jb, je, jc⟩, sn0, rs, ((unhide HF4).drewN k5), (unhide HJ4), (unhide HNE4), unhide HI4, unhide HQ4, by have h1 := unhide HWR4; have h2 := unhide HWL; omega, below_drewN hbel k5, (unhide HK4).aboveJ (Nat.le_trans (unhide HBW).size (unhide HB3).size) (unhide HSA)⟩)
              case measure => simp [intOf]; omega
        · have hje2 : je < 9223372036854775807 := hl2
          have hb01' : 1 - jb = 0 ∨ 1 - jb = 1 := by omega
          by_cases hfit : 262144 < dn
          · as_aux_lemma =>
              have HX : Hid (s.jcompact (some ⟨jb, je, jc⟩) sl 0 = (s4, some ⟨1 - jb, je + 1, 0⟩, 0)) := hide e
              have HRM4 : Hid (s4.room (1 - jb) = s4.room (1 - jb)) := hide (rfl)
              have HE4 : Hid (JS.ep ⟨1 - jb, je + 1, 0⟩ ≤ 9223372036854775807) := hide (hi4.e2)
              have HI4 := hide hi4
              have HQ4 : Hid (s4.q = []) := hide (List.length_eq_zero_iff.1 (by have h := hq4; rw [unhide HQ0] at h; simpa using h))
              have HWR4 : Hid (s4.wr ≤ s.wr + 3) := hide (by have h := hw4; omega)
              clear hM hZ hb01 hup hN hq hnoq hi4 hl4 hz4 hw4 hq4 hl2 hb01'
              go_wp2_with (first | (go_at_call 18; refine (jroom_any jp p S4 s4 ⟨1 - jb, je + 1, 0⟩ w4 (unhide HJ4) (unhide HF4)).mono ?_; simp only [unhide HRM4]; rintro e w5 ⟨rfl, k5, rfl⟩) | (go_at_call 19; refine (jepoch_any jp p ⟨1 - jb, je + 1, 0⟩ (w4.drewN k5) (show Jn (w4.drewN k5) jp p (some ⟨1 - jb, je + 1, 0⟩ ) from unhide HJ4) (unhide HE4)).mono ?_; rintro e w5 ⟨rfl, hw5⟩; obtain rfl := hw5.symm) | (go_at_call 19; refine (jepoch_any jp p ⟨1 - jb, je + 1, 0⟩ w4 (unhide HJ4) (unhide HE4)).mono ?_; rintro e w5 ⟨rfl, hw5⟩; obtain rfl := hw5.symm) | (go_at_call 15; refine (jcount_any jp p ⟨1 - jb, je + 1, 0⟩ (w4.drewN k5) (show Jn (w4.drewN k5) jp p (some ⟨1 - jb, je + 1, 0⟩ ) from unhide HJ4)).mono ?_; rintro e w5 ⟨rfl, hw5⟩; obtain rfl := hw5.symm) | (go_at_call 15; refine (jcount_any jp p ⟨1 - jb, je + 1, 0⟩ w4 (unhide HJ4)).mono ?_; rintro e w5 ⟨rfl, hw5⟩; obtain rfl := hw5.symm) | (go_at_call 14; refine (writes_any p S4 s4 w4 (unhide HF4)).mono ?_; rintro e w5 ⟨rfl, hw5⟩; obtain rfl := hw5.symm) | (go_at_call 22; refine hOp.mono ?_; rintro e w4 ⟨rfl, S4, k4⟩; clear hOp; simp only at k4; have HF4 := hide k4.fl; have HJ4 : Hid (Jn w4 jp p (some ⟨1 - jb, je + 1, 0⟩)) := hide k4.jn; have HK4 := hide k4; have HNE4 := hide (k4.ne (unhide HJS) (unhide HJ3).lt); clear k4) | (go_at_call 20; refine (encode_no 82 da dn dc w2 hfit).mono ?_; rintro e w3 ⟨rfl, hw3⟩; have b3 : Below w2.heap.size w2 w3 := (by rw [hw3]; exact Below.refl _ _); clear hw3; have A3 := (unhide HA2).later b3; have y0 := A3.cell 0; have y1 := A3.cell 1; have y2 := A3.cell 2; simp at y0 y1 y2; have HB3 := hide (bel_then (unhide HB2) (unhide HB2).size b3); have HF3 := hide ((unhide HF2).later b3); have HJ3 : Hid (Jn w3 jp p (some ⟨jb, je, jc⟩)) := hide ((b3.block jp (unhide HJ2).lt).trans (unhide HJ2)); have hOp := jCompact_any p jp S s (some ⟨jb, je, jc⟩) ⟨sa, sn', sc, sl⟩ w3 (unhide HF3) (unhide HJ3) (unhide HJS) ((unhide HI).jok (unhide HF0).ok) ((unhide HSok).later (unhide HB3)) (unhide HSN) (by have := unhide HWR; omega); rw [unhide HX] at hOp; simp only [Sl.v] at hOp; clear b3 A3) | (go_at_call 18; refine hR1.mono ?_; rintro e w2 ⟨rfl, k2, h2⟩; clear hR1; have b2 : Below wr.heap.size wr w2 := (by rw [h2]; exact below_drewN (below_alloc wr (.cells #[.int .i64 kd, .slice da dn dc, .slice sa sn' sc, .int .i64 ox, .int .i64 oy] 29)) k2); have A2 : Arr w2 wr.heap.size 29 [.int .i64 kd, .slice da dn dc, .slice sa sn' sc, .int .i64 ox, .int .i64 oy] := (by rw [h2]; exact Arr.new wr _ [.int .i64 kd, .slice da dn dc, .slice sa sn' sc, .int .i64 ox, .int .i64 oy]); have x0 := A2.cell 0; have x1 := A2.cell 1; have x2 := A2.cell 2; simp at x0 x1 x2; have HA2 := hide A2; have HB2 := hide b2; have HF2 := hide ((unhide HF0).later b2); have HJ2 : Hid (Jn w2 jp p (some ⟨jb, je, jc⟩)) := hide ((b2.block jp (unhide HJ0).lt).trans (unhide HJ0)); clear h2 b2 A2) | (go_at_call 19; refine (jepoch_any jp p ⟨jb, je, jc⟩ w2 (unhide HJ2) (unhide HE0)).mono ?_; rintro e w5 ⟨rfl, hw5⟩; obtain rfl := hw5.symm) | (go_at_call 15; refine (jcount_any jp p ⟨jb, je, jc⟩ w2 (unhide HJ2)).mono ?_; rintro e w5 ⟨rfl, hw5⟩; obtain rfl := hw5.symm) | (go_at_call 14; refine (writes_any p S s w2 (unhide HF2)).mono ?_; rintro e w5 ⟨rfl, hw5⟩; obtain rfl := hw5.symm))
              go_roundw
              case rel =>
                have hbel := (unhide HK4).belJ (bel_then (unhide HBW) (unhide HBW).size (unhide HB3)) (Nat.le_trans (unhide HBW).size (unhide HB3).size) (unhide HSA) (unhide HJA)
                first | (exact ⟨i + 1, by omega, by go_num, S4, s4, ⟨1 - jb, je + 1, 0⟩, sl, [], (unhide HF4), (unhide HJ4), (unhide HNE4), unhide HI4, unhide HQ4, by have h1 := unhide HWR4; have h2 := unhide HWL; omega, hbel, (unhide HK4).aboveJ (Nat.le_trans (unhide HBW).size (unhide HB3).size) (unhide HSA)⟩) | (exact ⟨i + 1, by omega, by go_num, S4, s4, ⟨1 - jb, je + 1, 0⟩, sl, [], ((unhide HF4).drewN k5), (unhide HJ4), (unhide HNE4), unhide HI4, unhide HQ4, by have h1 := unhide HWR4; have h2 := unhide HWL; omega, below_drewN hbel k5, (unhide HK4).aboveJ (Nat.le_trans (unhide HBW).size (unhide HB3).size) (unhide HSA)⟩)
              case measure => simp [intOf]; omega
          · replace hfit : dn ≤ 262144 := by omega
            as_aux_lemma =>
              have HX : Hid (s.jcompact (some ⟨jb, je, jc⟩) sl 0 = (s4, some ⟨1 - jb, je + 1, 0⟩, 0)) := hide e
              have HRM4 : Hid (s4.room (1 - jb) = s4.room (1 - jb)) := hide (rfl)
              have HE4 : Hid (JS.ep ⟨1 - jb, je + 1, 0⟩ ≤ 9223372036854775807) := hide (hi4.e2)
              have HI4 := hide hi4
              have HQ4 : Hid (s4.q = []) := hide (List.length_eq_zero_iff.1 (by have h := hq4; rw [unhide HQ0] at h; simpa using h))
              have HWR4 : Hid (s4.wr ≤ s.wr + 3) := hide (by have h := hw4; omega)
              clear hM hZ hb01 hup hN hq hnoq hi4 hl4 hz4 hw4 hq4 hl2 hb01'
              go_wp2_with (first | (go_at_call 18; refine (jroom_any jp p S4 s4 ⟨1 - jb, je + 1, 0⟩ w4 (unhide HJ4) (unhide HF4)).mono ?_; simp only [unhide HRM4]; rintro e w5 ⟨rfl, k5, rfl⟩) | (go_at_call 19; refine (jepoch_any jp p ⟨1 - jb, je + 1, 0⟩ (w4.drewN k5) (show Jn (w4.drewN k5) jp p (some ⟨1 - jb, je + 1, 0⟩ ) from unhide HJ4) (unhide HE4)).mono ?_; rintro e w5 ⟨rfl, hw5⟩; obtain rfl := hw5.symm) | (go_at_call 19; refine (jepoch_any jp p ⟨1 - jb, je + 1, 0⟩ w4 (unhide HJ4) (unhide HE4)).mono ?_; rintro e w5 ⟨rfl, hw5⟩; obtain rfl := hw5.symm) | (go_at_call 15; refine (jcount_any jp p ⟨1 - jb, je + 1, 0⟩ (w4.drewN k5) (show Jn (w4.drewN k5) jp p (some ⟨1 - jb, je + 1, 0⟩ ) from unhide HJ4)).mono ?_; rintro e w5 ⟨rfl, hw5⟩; obtain rfl := hw5.symm) | (go_at_call 15; refine (jcount_any jp p ⟨1 - jb, je + 1, 0⟩ w4 (unhide HJ4)).mono ?_; rintro e w5 ⟨rfl, hw5⟩; obtain rfl := hw5.symm) | (go_at_call 14; refine (writes_any p S4 s4 w4 (unhide HF4)).mono ?_; rintro e w5 ⟨rfl, hw5⟩; obtain rfl := hw5.symm) | (go_at_call 22; refine hOp.mono ?_; rintro e w4 ⟨rfl, S4, k4⟩; clear hOp; simp only at k4; have HF4 := hide k4.fl; have HJ4 : Hid (Jn w4 jp p (some ⟨1 - jb, je + 1, 0⟩)) := hide k4.jn; have HK4 := hide k4; have HNE4 := hide (k4.ne (unhide HJS) (unhide HJ3).lt); clear k4) | (go_at_call 20; have hE := encode_ok 82 ⟨da, dn, dc, dl⟩ w2 ((unhide HDok).later (unhide HB2)) (by decide) hfit; simp only [Sl.v, ← unhide HN] at hE; refine hE.mono ?_; rintro e w3 ⟨g3, rfl, -, b3⟩; clear hE; have A3 := (unhide HA2).later b3; have y0 := A3.cell 0; have y1 := A3.cell 1; have y2 := A3.cell 2; simp at y0 y1 y2; have HB3 := hide (bel_then (unhide HB2) (unhide HB2).size b3); have HF3 := hide ((unhide HF2).later b3); have HJ3 : Hid (Jn w3 jp p (some ⟨jb, je, jc⟩)) := hide ((b3.block jp (unhide HJ2).lt).trans (unhide HJ2)); have hOp := jCompact_any p jp S s (some ⟨jb, je, jc⟩) ⟨sa, sn', sc, sl⟩ w3 (unhide HF3) (unhide HJ3) (unhide HJS) ((unhide HI).jok (unhide HF0).ok) ((unhide HSok).later (unhide HB3)) (unhide HSN) (by have := unhide HWR; omega); rw [unhide HX] at hOp; simp only [Sl.v] at hOp; clear b3 A3) | (go_at_call 18; refine hR1.mono ?_; rintro e w2 ⟨rfl, k2, h2⟩; clear hR1; have b2 : Below wr.heap.size wr w2 := (by rw [h2]; exact below_drewN (below_alloc wr (.cells #[.int .i64 kd, .slice da dn dc, .slice sa sn' sc, .int .i64 ox, .int .i64 oy] 29)) k2); have A2 : Arr w2 wr.heap.size 29 [.int .i64 kd, .slice da dn dc, .slice sa sn' sc, .int .i64 ox, .int .i64 oy] := (by rw [h2]; exact Arr.new wr _ [.int .i64 kd, .slice da dn dc, .slice sa sn' sc, .int .i64 ox, .int .i64 oy]); have x0 := A2.cell 0; have x1 := A2.cell 1; have x2 := A2.cell 2; simp at x0 x1 x2; have HA2 := hide A2; have HB2 := hide b2; have HF2 := hide ((unhide HF0).later b2); have HJ2 : Hid (Jn w2 jp p (some ⟨jb, je, jc⟩)) := hide ((b2.block jp (unhide HJ0).lt).trans (unhide HJ0)); clear h2 b2 A2) | (go_at_call 19; refine (jepoch_any jp p ⟨jb, je, jc⟩ w2 (unhide HJ2) (unhide HE0)).mono ?_; rintro e w5 ⟨rfl, hw5⟩; obtain rfl := hw5.symm) | (go_at_call 15; refine (jcount_any jp p ⟨jb, je, jc⟩ w2 (unhide HJ2)).mono ?_; rintro e w5 ⟨rfl, hw5⟩; obtain rfl := hw5.symm) | (go_at_call 14; refine (writes_any p S s w2 (unhide HF2)).mono ?_; rintro e w5 ⟨rfl, hw5⟩; obtain rfl := hw5.symm))
              go_roundw
              case rel =>
                have hbel := (unhide HK4).belJ (bel_then (unhide HBW) (unhide HBW).size (unhide HB3)) (Nat.le_trans (unhide HBW).size (unhide HB3).size) (unhide HSA) (unhide HJA)
                first | (exact ⟨i + 1, by omega, by go_num, S4, s4, ⟨1 - jb, je + 1, 0⟩, sl, [], (unhide HF4), (unhide HJ4), (unhide HNE4), unhide HI4, unhide HQ4, by have h1 := unhide HWR4; have h2 := unhide HWL; omega, hbel, (unhide HK4).aboveJ (Nat.le_trans (unhide HBW).size (unhide HB3).size) (unhide HSA)⟩) | (exact ⟨i + 1, by omega, by go_num, S4, s4, ⟨1 - jb, je + 1, 0⟩, sl, [], ((unhide HF4).drewN k5), (unhide HJ4), (unhide HNE4), unhide HI4, unhide HQ4, by have h1 := unhide HWR4; have h2 := unhide HWL; omega, below_drewN hbel k5, (unhide HK4).aboveJ (Nat.le_trans (unhide HBW).size (unhide HB3).size) (unhide HSA)⟩)
              case measure => simp [intOf]; omega
        · exact absurd h (fun h => hnoq _ h)
      have hk4' : (kd == 4) = false := by rw [beq_eq_false_iff_ne]; exact hk4
      by_cases hk5 : kd = 5
      · have hkt : (kd == 5) = true := by rw [beq_iff_eq]; exact hk5
        clear happ hcom hk3 hk4 hk5
        rcases hkee with ⟨err, e1, e2, e, hno⟩ | ⟨s4, e, hi4, hw4, hq4, hd1, hd2⟩ | ⟨s4, e, hi4, hw4, hq4, hno⟩ | ⟨s4, -, -, -, -, h⟩
        · have er1 : (err != 0) = true := by rw [bne_iff_ne]; exact e1
          have er2 : (err == 0) = false := by rw [beq_eq_false_iff_ne]; exact e1
          by_cases hfit : 262144 < dn
          · clear hM hZ hb01 hup hN hq hnoq e1 e2 hno
            as_aux_lemma =>
              have HX : Hid (s.jkeep (some ⟨jb, je, jc⟩) dl sl = (s, some ⟨jb, je, jc⟩, err)) := hide e
              have HRM4 := HRM
              have HE4 := HE0
              have HI4 := HI
              have HQ4 := HQ0
              have HWR4 : Hid (s.wr ≤ s.wr + 3) := hide (by omega)
              go_wp2_with (first | (go_at_call 18; refine (jroom_any jp p S4 s ⟨jb, je, jc⟩ w4 (unhide HJ4) (unhide HF4)).mono ?_; simp only [unhide HRM4]; rintro e w5 ⟨rfl, k5, rfl⟩) | (go_at_call 19; refine (jepoch_any jp p ⟨jb, je, jc⟩ (w4.drewN k5) (show Jn (w4.drewN k5) jp p (some ⟨jb, je, jc⟩ ) from unhide HJ4) (unhide HE4)).mono ?_; rintro e w5 ⟨rfl, hw5⟩; obtain rfl := hw5.symm) | (go_at_call 19; refine (jepoch_any jp p ⟨jb, je, jc⟩ w4 (unhide HJ4) (unhide HE4)).mono ?_; rintro e w5 ⟨rfl, hw5⟩; obtain rfl := hw5.symm) | (go_at_call 15; refine (jcount_any jp p ⟨jb, je, jc⟩ (w4.drewN k5) (show Jn (w4.drewN k5) jp p (some ⟨jb, je, jc⟩ ) from unhide HJ4)).mono ?_; rintro e w5 ⟨rfl, hw5⟩; obtain rfl := hw5.symm) | (go_at_call 15; refine (jcount_any jp p ⟨jb, je, jc⟩ w4 (unhide HJ4)).mono ?_; rintro e w5 ⟨rfl, hw5⟩; obtain rfl := hw5.symm) | (go_at_call 14; refine (writes_any p S4 s w4 (unhide HF4)).mono ?_; rintro e w5 ⟨rfl, hw5⟩; obtain rfl := hw5.symm) | (go_at_call 23; refine hOp.mono ?_; rintro e w4 ⟨rfl, S4, k4⟩; clear hOp; simp only at k4; have HF4 := hide k4.fl; have HJ4 : Hid (Jn w4 jp p (some ⟨jb, je, jc⟩)) := hide k4.jn; have HK4 := hide k4; have HNE4 := hide (k4.ne (unhide HJS) (unhide HJ3).lt); clear k4) | (go_at_call 20; refine (encode_no 82 da dn dc w2 hfit).mono ?_; rintro e w3 ⟨rfl, hw3⟩; have b3 : Below w2.heap.size w2 w3 := (by rw [hw3]; exact Below.refl _ _); clear hw3; have A3 := (unhide HA2).later b3; have y0 := A3.cell 0; have y1 := A3.cell 1; have y2 := A3.cell 2; simp at y0 y1 y2; have HB3 := hide (bel_then (unhide HB2) (unhide HB2).size b3); have HF3 := hide ((unhide HF2).later b3); have HJ3 : Hid (Jn w3 jp p (some ⟨jb, je, jc⟩)) := hide ((b3.block jp (unhide HJ2).lt).trans (unhide HJ2)); have hOp := jkeep_any p jp S s (some ⟨jb, je, jc⟩) ⟨da, dn, dc, dl⟩ ⟨sa, sn', sc, sl⟩ w3 (unhide HF3) (unhide HJ3) (unhide HJS) ((unhide HI).jok (unhide HF0).ok) (fun i hi => by simp only [Option.some.injEq] at hi; subst hi; have := ((unhide HI).len (unhide HF0).ok).2; simp only at this ⊢; omega) ((unhide HDok).later (unhide HB3)) ((unhide HSok).later (unhide HB3)) (unhide HSN) (unhide HDS) (unhide HSS) (by have := unhide HWR; omega); rw [unhide HX] at hOp; simp only [Sl.v] at hOp; clear b3 A3) | (go_at_call 18; refine hR1.mono ?_; rintro e w2 ⟨rfl, k2, h2⟩; clear hR1; have b2 : Below wr.heap.size wr w2 := (by rw [h2]; exact below_drewN (below_alloc wr (.cells #[.int .i64 kd, .slice da dn dc, .slice sa sn' sc, .int .i64 ox, .int .i64 oy] 29)) k2); have A2 : Arr w2 wr.heap.size 29 [.int .i64 kd, .slice da dn dc, .slice sa sn' sc, .int .i64 ox, .int .i64 oy] := (by rw [h2]; exact Arr.new wr _ [.int .i64 kd, .slice da dn dc, .slice sa sn' sc, .int .i64 ox, .int .i64 oy]); have x0 := A2.cell 0; have x1 := A2.cell 1; have x2 := A2.cell 2; simp at x0 x1 x2; have HA2 := hide A2; have HB2 := hide b2; have HF2 := hide ((unhide HF0).later b2); have HJ2 : Hid (Jn w2 jp p (some ⟨jb, je, jc⟩)) := hide ((b2.block jp (unhide HJ0).lt).trans (unhide HJ0)); clear h2 b2 A2) | (go_at_call 19; refine (jepoch_any jp p ⟨jb, je, jc⟩ w2 (unhide HJ2) (unhide HE0)).mono ?_; rintro e w5 ⟨rfl, hw5⟩; obtain rfl := hw5.symm) | (go_at_call 15; refine (jcount_any jp p ⟨jb, je, jc⟩ w2 (unhide HJ2)).mono ?_; rintro e w5 ⟨rfl, hw5⟩; obtain rfl := hw5.symm) | (go_at_call 14; refine (writes_any p S s w2 (unhide HF2)).mono ?_; rintro e w5 ⟨rfl, hw5⟩; obtain rfl := hw5.symm))
              go_roundw
              case rel =>
                have hbel := (unhide HK4).belJ (bel_then (unhide HBW) (unhide HBW).size (unhide HB3)) (Nat.le_trans (unhide HBW).size (unhide HB3).size) (unhide HSA) (unhide HJA)
                first | (exact ⟨i + 1, by omega, by go_num, S4, s, ⟨jb, je, jc⟩, sn0, rs, (unhide HF4), (unhide HJ4), (unhide HNE4), unhide HI4, unhide HQ4, by have h1 := unhide HWR4; have h2 := unhide HWL; omega, hbel, (unhide HK4).aboveJ (Nat.le_trans (unhide HBW).size (unhide HB3).size) (unhide HSA)⟩) | (exact ⟨i + 1, by omega, by go_num, S4, s, ⟨jb, je, jc⟩, sn0, rs, ((unhide HF4).drewN k5), (unhide HJ4), (unhide HNE4), unhide HI4, unhide HQ4, by have h1 := unhide HWR4; have h2 := unhide HWL; omega, below_drewN hbel k5, (unhide HK4).aboveJ (Nat.le_trans (unhide HBW).size (unhide HB3).size) (unhide HSA)⟩)
              case measure => simp [intOf]; omega
          · replace hfit : dn ≤ 262144 := by omega
            have hcd : decide ((N : Int) ≤ (Z : Int) - (M : Int)) = false := decide_eq_false (by omega)
            have hNb : N ≤ 262154 := by omega
            clear hM hZ hb01 hup hN hq hnoq e1 e2 hno
            as_aux_lemma =>
              have HX : Hid (s.jkeep (some ⟨jb, je, jc⟩) dl sl = (s, some ⟨jb, je, jc⟩, err)) := hide e
              have HRM4 := HRM
              have HE4 := HE0
              have HI4 := HI
              have HQ4 := HQ0
              have HWR4 : Hid (s.wr ≤ s.wr + 3) := hide (by omega)
              go_wp2_with (first | (go_at_call 18; refine (jroom_any jp p S4 s ⟨jb, je, jc⟩ w4 (unhide HJ4) (unhide HF4)).mono ?_; simp only [unhide HRM4]; rintro e w5 ⟨rfl, k5, rfl⟩) | (go_at_call 19; refine (jepoch_any jp p ⟨jb, je, jc⟩ (w4.drewN k5) (show Jn (w4.drewN k5) jp p (some ⟨jb, je, jc⟩ ) from unhide HJ4) (unhide HE4)).mono ?_; rintro e w5 ⟨rfl, hw5⟩; obtain rfl := hw5.symm) | (go_at_call 19; refine (jepoch_any jp p ⟨jb, je, jc⟩ w4 (unhide HJ4) (unhide HE4)).mono ?_; rintro e w5 ⟨rfl, hw5⟩; obtain rfl := hw5.symm) | (go_at_call 15; refine (jcount_any jp p ⟨jb, je, jc⟩ (w4.drewN k5) (show Jn (w4.drewN k5) jp p (some ⟨jb, je, jc⟩ ) from unhide HJ4)).mono ?_; rintro e w5 ⟨rfl, hw5⟩; obtain rfl := hw5.symm) | (go_at_call 15; refine (jcount_any jp p ⟨jb, je, jc⟩ w4 (unhide HJ4)).mono ?_; rintro e w5 ⟨rfl, hw5⟩; obtain rfl := hw5.symm) | (go_at_call 14; refine (writes_any p S4 s w4 (unhide HF4)).mono ?_; rintro e w5 ⟨rfl, hw5⟩; obtain rfl := hw5.symm) | (go_at_call 23; refine hOp.mono ?_; rintro e w4 ⟨rfl, S4, k4⟩; clear hOp; simp only at k4; have HF4 := hide k4.fl; have HJ4 : Hid (Jn w4 jp p (some ⟨jb, je, jc⟩)) := hide k4.jn; have HK4 := hide k4; have HNE4 := hide (k4.ne (unhide HJS) (unhide HJ3).lt); clear k4) | (go_at_call 20; have hE := encode_ok 82 ⟨da, dn, dc, dl⟩ w2 ((unhide HDok).later (unhide HB2)) (by decide) hfit; simp only [Sl.v, ← unhide HN] at hE; refine hE.mono ?_; rintro e w3 ⟨g3, rfl, -, b3⟩; clear hE; have A3 := (unhide HA2).later b3; have y0 := A3.cell 0; have y1 := A3.cell 1; have y2 := A3.cell 2; simp at y0 y1 y2; have HB3 := hide (bel_then (unhide HB2) (unhide HB2).size b3); have HF3 := hide ((unhide HF2).later b3); have HJ3 : Hid (Jn w3 jp p (some ⟨jb, je, jc⟩)) := hide ((b3.block jp (unhide HJ2).lt).trans (unhide HJ2)); have hOp := jkeep_any p jp S s (some ⟨jb, je, jc⟩) ⟨da, dn, dc, dl⟩ ⟨sa, sn', sc, sl⟩ w3 (unhide HF3) (unhide HJ3) (unhide HJS) ((unhide HI).jok (unhide HF0).ok) (fun i hi => by simp only [Option.some.injEq] at hi; subst hi; have := ((unhide HI).len (unhide HF0).ok).2; simp only at this ⊢; omega) ((unhide HDok).later (unhide HB3)) ((unhide HSok).later (unhide HB3)) (unhide HSN) (unhide HDS) (unhide HSS) (by have := unhide HWR; omega); rw [unhide HX] at hOp; simp only [Sl.v] at hOp; clear b3 A3) | (go_at_call 18; refine hR1.mono ?_; rintro e w2 ⟨rfl, k2, h2⟩; clear hR1; have b2 : Below wr.heap.size wr w2 := (by rw [h2]; exact below_drewN (below_alloc wr (.cells #[.int .i64 kd, .slice da dn dc, .slice sa sn' sc, .int .i64 ox, .int .i64 oy] 29)) k2); have A2 : Arr w2 wr.heap.size 29 [.int .i64 kd, .slice da dn dc, .slice sa sn' sc, .int .i64 ox, .int .i64 oy] := (by rw [h2]; exact Arr.new wr _ [.int .i64 kd, .slice da dn dc, .slice sa sn' sc, .int .i64 ox, .int .i64 oy]); have x0 := A2.cell 0; have x1 := A2.cell 1; have x2 := A2.cell 2; simp at x0 x1 x2; have HA2 := hide A2; have HB2 := hide b2; have HF2 := hide ((unhide HF0).later b2); have HJ2 : Hid (Jn w2 jp p (some ⟨jb, je, jc⟩)) := hide ((b2.block jp (unhide HJ0).lt).trans (unhide HJ0)); clear h2 b2 A2) | (go_at_call 19; refine (jepoch_any jp p ⟨jb, je, jc⟩ w2 (unhide HJ2) (unhide HE0)).mono ?_; rintro e w5 ⟨rfl, hw5⟩; obtain rfl := hw5.symm) | (go_at_call 15; refine (jcount_any jp p ⟨jb, je, jc⟩ w2 (unhide HJ2)).mono ?_; rintro e w5 ⟨rfl, hw5⟩; obtain rfl := hw5.symm) | (go_at_call 14; refine (writes_any p S s w2 (unhide HF2)).mono ?_; rintro e w5 ⟨rfl, hw5⟩; obtain rfl := hw5.symm))
              go_roundw
              case rel =>
                have hbel := (unhide HK4).belJ (bel_then (unhide HBW) (unhide HBW).size (unhide HB3)) (Nat.le_trans (unhide HBW).size (unhide HB3).size) (unhide HSA) (unhide HJA)
                first | (exact ⟨i + 1, by omega, by go_num, S4, s, ⟨jb, je, jc⟩, sn0, rs, (unhide HF4), (unhide HJ4), (unhide HNE4), unhide HI4, unhide HQ4, by have h1 := unhide HWR4; have h2 := unhide HWL; omega, hbel, (unhide HK4).aboveJ (Nat.le_trans (unhide HBW).size (unhide HB3).size) (unhide HSA)⟩) | (exact ⟨i + 1, by omega, by go_num, S4, s, ⟨jb, je, jc⟩, sn0, rs, ((unhide HF4).drewN k5), (unhide HJ4), (unhide HNE4), unhide HI4, unhide HQ4, by have h1 := unhide HWR4; have h2 := unhide HWL; omega, below_drewN hbel k5, (unhide HK4).aboveJ (Nat.le_trans (unhide HBW).size (unhide HB3).size) (unhide HSA)⟩)
              case measure => simp [intOf]; omega
        · have hfit : dn ≤ 262144 := hd1
          have hcd : decide ((N : Int) ≤ (Z : Int) - (M : Int)) = true := decide_eq_true (by omega)
          have hNb : N ≤ 262154 := by omega
          as_aux_lemma =>
            have HX : Hid (s.jkeep (some ⟨jb, je, jc⟩) dl sl = (s4, some ⟨jb, je, jc + 1⟩, 0)) := hide e
            have HRM4 : Hid (s4.room jb = s4.room jb) := hide (rfl)
            have HE4 : Hid (JS.ep ⟨jb, je, jc + 1⟩ ≤ 9223372036854775807) := hide (hi4.e2)
            have HI4 := hide hi4
            have HQ4 : Hid (s4.q = []) := hide (List.length_eq_zero_iff.1 (by have h := hq4; rw [unhide HQ0] at h; simpa using h))
            have HWR4 : Hid (s4.wr ≤ s.wr + 3) := hide (by have h := hw4; omega)
            clear hM hZ hb01 hup hN hq hnoq hi4 hw4 hq4 hd1 hd2
            go_wp2_with (first | (go_at_call 18; refine (jroom_any jp p S4 s4 ⟨jb, je, jc + 1⟩ w4 (unhide HJ4) (unhide HF4)).mono ?_; simp only [unhide HRM4]; rintro e w5 ⟨rfl, k5, rfl⟩) | (go_at_call 19; refine (jepoch_any jp p ⟨jb, je, jc + 1⟩ (w4.drewN k5) (show Jn (w4.drewN k5) jp p (some ⟨jb, je, jc + 1⟩ ) from unhide HJ4) (unhide HE4)).mono ?_; rintro e w5 ⟨rfl, hw5⟩; obtain rfl := hw5.symm) | (go_at_call 19; refine (jepoch_any jp p ⟨jb, je, jc + 1⟩ w4 (unhide HJ4) (unhide HE4)).mono ?_; rintro e w5 ⟨rfl, hw5⟩; obtain rfl := hw5.symm) | (go_at_call 15; refine (jcount_any jp p ⟨jb, je, jc + 1⟩ (w4.drewN k5) (show Jn (w4.drewN k5) jp p (some ⟨jb, je, jc + 1⟩ ) from unhide HJ4)).mono ?_; rintro e w5 ⟨rfl, hw5⟩; obtain rfl := hw5.symm) | (go_at_call 15; refine (jcount_any jp p ⟨jb, je, jc + 1⟩ w4 (unhide HJ4)).mono ?_; rintro e w5 ⟨rfl, hw5⟩; obtain rfl := hw5.symm) | (go_at_call 14; refine (writes_any p S4 s4 w4 (unhide HF4)).mono ?_; rintro e w5 ⟨rfl, hw5⟩; obtain rfl := hw5.symm) | (go_at_call 23; refine hOp.mono ?_; rintro e w4 ⟨rfl, S4, k4⟩; clear hOp; simp only at k4; have HF4 := hide k4.fl; have HJ4 : Hid (Jn w4 jp p (some ⟨jb, je, jc + 1⟩)) := hide k4.jn; have HK4 := hide k4; have HNE4 := hide (k4.ne (unhide HJS) (unhide HJ3).lt); clear k4) | (go_at_call 20; have hE := encode_ok 82 ⟨da, dn, dc, dl⟩ w2 ((unhide HDok).later (unhide HB2)) (by decide) hfit; simp only [Sl.v, ← unhide HN] at hE; refine hE.mono ?_; rintro e w3 ⟨g3, rfl, -, b3⟩; clear hE; have A3 := (unhide HA2).later b3; have y0 := A3.cell 0; have y1 := A3.cell 1; have y2 := A3.cell 2; simp at y0 y1 y2; have HB3 := hide (bel_then (unhide HB2) (unhide HB2).size b3); have HF3 := hide ((unhide HF2).later b3); have HJ3 : Hid (Jn w3 jp p (some ⟨jb, je, jc⟩)) := hide ((b3.block jp (unhide HJ2).lt).trans (unhide HJ2)); have hOp := jkeep_any p jp S s (some ⟨jb, je, jc⟩) ⟨da, dn, dc, dl⟩ ⟨sa, sn', sc, sl⟩ w3 (unhide HF3) (unhide HJ3) (unhide HJS) ((unhide HI).jok (unhide HF0).ok) (fun i hi => by simp only [Option.some.injEq] at hi; subst hi; have := ((unhide HI).len (unhide HF0).ok).2; simp only at this ⊢; omega) ((unhide HDok).later (unhide HB3)) ((unhide HSok).later (unhide HB3)) (unhide HSN) (unhide HDS) (unhide HSS) (by have := unhide HWR; omega); rw [unhide HX] at hOp; simp only [Sl.v] at hOp; clear b3 A3) | (go_at_call 18; refine hR1.mono ?_; rintro e w2 ⟨rfl, k2, h2⟩; clear hR1; have b2 : Below wr.heap.size wr w2 := (by rw [h2]; exact below_drewN (below_alloc wr (.cells #[.int .i64 kd, .slice da dn dc, .slice sa sn' sc, .int .i64 ox, .int .i64 oy] 29)) k2); have A2 : Arr w2 wr.heap.size 29 [.int .i64 kd, .slice da dn dc, .slice sa sn' sc, .int .i64 ox, .int .i64 oy] := (by rw [h2]; exact Arr.new wr _ [.int .i64 kd, .slice da dn dc, .slice sa sn' sc, .int .i64 ox, .int .i64 oy]); have x0 := A2.cell 0; have x1 := A2.cell 1; have x2 := A2.cell 2; simp at x0 x1 x2; have HA2 := hide A2; have HB2 := hide b2; have HF2 := hide ((unhide HF0).later b2); have HJ2 : Hid (Jn w2 jp p (some ⟨jb, je, jc⟩)) := hide ((b2.block jp (unhide HJ0).lt).trans (unhide HJ0)); clear h2 b2 A2) | (go_at_call 19; refine (jepoch_any jp p ⟨jb, je, jc⟩ w2 (unhide HJ2) (unhide HE0)).mono ?_; rintro e w5 ⟨rfl, hw5⟩; obtain rfl := hw5.symm) | (go_at_call 15; refine (jcount_any jp p ⟨jb, je, jc⟩ w2 (unhide HJ2)).mono ?_; rintro e w5 ⟨rfl, hw5⟩; obtain rfl := hw5.symm) | (go_at_call 14; refine (writes_any p S s w2 (unhide HF2)).mono ?_; rintro e w5 ⟨rfl, hw5⟩; obtain rfl := hw5.symm))
            go_roundw
            case rel =>
              have hbel := (unhide HK4).belJ (bel_then (unhide HBW) (unhide HBW).size (unhide HB3)) (Nat.le_trans (unhide HBW).size (unhide HB3).size) (unhide HSA) (unhide HJA)
              first | (exact ⟨i + 1, by omega, by go_num, S4, s4, ⟨jb, je, jc + 1⟩, sn0, (rs ++ [dl]), (unhide HF4), (unhide HJ4), (unhide HNE4), unhide HI4, unhide HQ4, by have h1 := unhide HWR4; have h2 := unhide HWL; omega, hbel, (unhide HK4).aboveJ (Nat.le_trans (unhide HBW).size (unhide HB3).size) (unhide HSA)⟩) | (exact ⟨i + 1, by omega, by go_num, S4, s4, ⟨jb, je, jc + 1⟩, sn0, (rs ++ [dl]), ((unhide HF4).drewN k5), (unhide HJ4), (unhide HNE4), unhide HI4, unhide HQ4, by have h1 := unhide HWR4; have h2 := unhide HWL; omega, below_drewN hbel k5, (unhide HK4).aboveJ (Nat.le_trans (unhide HBW).size (unhide HB3).size) (unhide HSA)⟩)
            case measure => simp [intOf]; omega
        · have hje2 : je < 9223372036854775807 := hi4.e2
          have hb01' : 1 - jb = 0 ∨ 1 - jb = 1 := by omega
          by_cases hfit : 262144 < dn
          · as_aux_lemma =>
              have HX : Hid (s.jkeep (some ⟨jb, je, jc⟩) dl sl = (s4, some ⟨1 - jb, je + 1, 1⟩, 0)) := hide e
              have HRM4 : Hid (s4.room (1 - jb) = s4.room (1 - jb)) := hide (rfl)
              have HE4 : Hid (JS.ep ⟨1 - jb, je + 1, 1⟩ ≤ 9223372036854775807) := hide (hi4.e2)
              have HI4 := hide hi4
              have HQ4 : Hid (s4.q = []) := hide (List.length_eq_zero_iff.1 (by have h := hq4; rw [unhide HQ0] at h; simpa using h))
              have HWR4 : Hid (s4.wr ≤ s.wr + 3) := hide (by have h := hw4; omega)
              clear hM hZ hb01 hup hN hq hnoq hi4 hw4 hq4 hb01' hno
              go_wp2_with (first | (go_at_call 18; refine (jroom_any jp p S4 s4 ⟨1 - jb, je + 1, 1⟩ w4 (unhide HJ4) (unhide HF4)).mono ?_; simp only [unhide HRM4]; rintro e w5 ⟨rfl, k5, rfl⟩) | (go_at_call 19; refine (jepoch_any jp p ⟨1 - jb, je + 1, 1⟩ (w4.drewN k5) (show Jn (w4.drewN k5) jp p (some ⟨1 - jb, je + 1, 1⟩ ) from unhide HJ4) (unhide HE4)).mono ?_; rintro e w5 ⟨rfl, hw5⟩; obtain rfl := hw5.symm) | (go_at_call 19; refine (jepoch_any jp p ⟨1 - jb, je + 1, 1⟩ w4 (unhide HJ4) (unhide HE4)).mono ?_; rintro e w5 ⟨rfl, hw5⟩; obtain rfl := hw5.symm) | (go_at_call 15; refine (jcount_any jp p ⟨1 - jb, je + 1, 1⟩ (w4.drewN k5) (show Jn (w4.drewN k5) jp p (some ⟨1 - jb, je + 1, 1⟩ ) from unhide HJ4)).mono ?_; rintro e w5 ⟨rfl, hw5⟩; obtain rfl := hw5.symm) | (go_at_call 15; refine (jcount_any jp p ⟨1 - jb, je + 1, 1⟩ w4 (unhide HJ4)).mono ?_; rintro e w5 ⟨rfl, hw5⟩; obtain rfl := hw5.symm) | (go_at_call 14; refine (writes_any p S4 s4 w4 (unhide HF4)).mono ?_; rintro e w5 ⟨rfl, hw5⟩; obtain rfl := hw5.symm) | (go_at_call 23; refine hOp.mono ?_; rintro e w4 ⟨rfl, S4, k4⟩; clear hOp; simp only at k4; have HF4 := hide k4.fl; have HJ4 : Hid (Jn w4 jp p (some ⟨1 - jb, je + 1, 1⟩)) := hide k4.jn; have HK4 := hide k4; have HNE4 := hide (k4.ne (unhide HJS) (unhide HJ3).lt); clear k4) | (go_at_call 20; refine (encode_no 82 da dn dc w2 hfit).mono ?_; rintro e w3 ⟨rfl, hw3⟩; have b3 : Below w2.heap.size w2 w3 := (by rw [hw3]; exact Below.refl _ _); clear hw3; have A3 := (unhide HA2).later b3; have y0 := A3.cell 0; have y1 := A3.cell 1; have y2 := A3.cell 2; simp at y0 y1 y2; have HB3 := hide (bel_then (unhide HB2) (unhide HB2).size b3); have HF3 := hide ((unhide HF2).later b3); have HJ3 : Hid (Jn w3 jp p (some ⟨jb, je, jc⟩)) := hide ((b3.block jp (unhide HJ2).lt).trans (unhide HJ2)); have hOp := jkeep_any p jp S s (some ⟨jb, je, jc⟩) ⟨da, dn, dc, dl⟩ ⟨sa, sn', sc, sl⟩ w3 (unhide HF3) (unhide HJ3) (unhide HJS) ((unhide HI).jok (unhide HF0).ok) (fun i hi => by simp only [Option.some.injEq] at hi; subst hi; have := ((unhide HI).len (unhide HF0).ok).2; simp only at this ⊢; omega) ((unhide HDok).later (unhide HB3)) ((unhide HSok).later (unhide HB3)) (unhide HSN) (unhide HDS) (unhide HSS) (by have := unhide HWR; omega); rw [unhide HX] at hOp; simp only [Sl.v] at hOp; clear b3 A3) | (go_at_call 18; refine hR1.mono ?_; rintro e w2 ⟨rfl, k2, h2⟩; clear hR1; have b2 : Below wr.heap.size wr w2 := (by rw [h2]; exact below_drewN (below_alloc wr (.cells #[.int .i64 kd, .slice da dn dc, .slice sa sn' sc, .int .i64 ox, .int .i64 oy] 29)) k2); have A2 : Arr w2 wr.heap.size 29 [.int .i64 kd, .slice da dn dc, .slice sa sn' sc, .int .i64 ox, .int .i64 oy] := (by rw [h2]; exact Arr.new wr _ [.int .i64 kd, .slice da dn dc, .slice sa sn' sc, .int .i64 ox, .int .i64 oy]); have x0 := A2.cell 0; have x1 := A2.cell 1; have x2 := A2.cell 2; simp at x0 x1 x2; have HA2 := hide A2; have HB2 := hide b2; have HF2 := hide ((unhide HF0).later b2); have HJ2 : Hid (Jn w2 jp p (some ⟨jb, je, jc⟩)) := hide ((b2.block jp (unhide HJ0).lt).trans (unhide HJ0)); clear h2 b2 A2) | (go_at_call 19; refine (jepoch_any jp p ⟨jb, je, jc⟩ w2 (unhide HJ2) (unhide HE0)).mono ?_; rintro e w5 ⟨rfl, hw5⟩; obtain rfl := hw5.symm) | (go_at_call 15; refine (jcount_any jp p ⟨jb, je, jc⟩ w2 (unhide HJ2)).mono ?_; rintro e w5 ⟨rfl, hw5⟩; obtain rfl := hw5.symm) | (go_at_call 14; refine (writes_any p S s w2 (unhide HF2)).mono ?_; rintro e w5 ⟨rfl, hw5⟩; obtain rfl := hw5.symm))
              go_roundw
              case rel =>
                have hbel := (unhide HK4).belJ (bel_then (unhide HBW) (unhide HBW).size (unhide HB3)) (Nat.le_trans (unhide HBW).size (unhide HB3).size) (unhide HSA) (unhide HJA)
                first | (exact ⟨i + 1, by omega, by go_num, S4, s4, ⟨1 - jb, je + 1, 1⟩, sl, [dl], (unhide HF4), (unhide HJ4), (unhide HNE4), unhide HI4, unhide HQ4, by have h1 := unhide HWR4; have h2 := unhide HWL; omega, hbel, (unhide HK4).aboveJ (Nat.le_trans (unhide HBW).size (unhide HB3).size) (unhide HSA)⟩) | (exact ⟨i + 1, by omega, by go_num, S4, s4, ⟨1 - jb, je + 1, 1⟩, sl, [dl], ((unhide HF4).drewN k5), (unhide HJ4), (unhide HNE4), unhide HI4, unhide HQ4, by have h1 := unhide HWR4; have h2 := unhide HWL; omega, below_drewN hbel k5, (unhide HK4).aboveJ (Nat.le_trans (unhide HBW).size (unhide HB3).size) (unhide HSA)⟩)
              case measure => simp [intOf]; omega
          · replace hfit : dn ≤ 262144 := by omega
            have hcd : decide ((N : Int) ≤ (Z : Int) - (M : Int)) = false := decide_eq_false (by omega)
            have hNb : N ≤ 262154 := by omega
            as_aux_lemma =>
              have HX : Hid (s.jkeep (some ⟨jb, je, jc⟩) dl sl = (s4, some ⟨1 - jb, je + 1, 1⟩, 0)) := hide e
              have HRM4 : Hid (s4.room (1 - jb) = s4.room (1 - jb)) := hide (rfl)
              have HE4 : Hid (JS.ep ⟨1 - jb, je + 1, 1⟩ ≤ 9223372036854775807) := hide (hi4.e2)
              have HI4 := hide hi4
              have HQ4 : Hid (s4.q = []) := hide (List.length_eq_zero_iff.1 (by have h := hq4; rw [unhide HQ0] at h; simpa using h))
              have HWR4 : Hid (s4.wr ≤ s.wr + 3) := hide (by have h := hw4; omega)
              clear hM hZ hb01 hup hN hq hnoq hi4 hw4 hq4 hb01' hno
              go_wp2_with (first | (go_at_call 18; refine (jroom_any jp p S4 s4 ⟨1 - jb, je + 1, 1⟩ w4 (unhide HJ4) (unhide HF4)).mono ?_; simp only [unhide HRM4]; rintro e w5 ⟨rfl, k5, rfl⟩) | (go_at_call 19; refine (jepoch_any jp p ⟨1 - jb, je + 1, 1⟩ (w4.drewN k5) (show Jn (w4.drewN k5) jp p (some ⟨1 - jb, je + 1, 1⟩ ) from unhide HJ4) (unhide HE4)).mono ?_; rintro e w5 ⟨rfl, hw5⟩; obtain rfl := hw5.symm) | (go_at_call 19; refine (jepoch_any jp p ⟨1 - jb, je + 1, 1⟩ w4 (unhide HJ4) (unhide HE4)).mono ?_; rintro e w5 ⟨rfl, hw5⟩; obtain rfl := hw5.symm) | (go_at_call 15; refine (jcount_any jp p ⟨1 - jb, je + 1, 1⟩ (w4.drewN k5) (show Jn (w4.drewN k5) jp p (some ⟨1 - jb, je + 1, 1⟩ ) from unhide HJ4)).mono ?_; rintro e w5 ⟨rfl, hw5⟩; obtain rfl := hw5.symm) | (go_at_call 15; refine (jcount_any jp p ⟨1 - jb, je + 1, 1⟩ w4 (unhide HJ4)).mono ?_; rintro e w5 ⟨rfl, hw5⟩; obtain rfl := hw5.symm) | (go_at_call 14; refine (writes_any p S4 s4 w4 (unhide HF4)).mono ?_; rintro e w5 ⟨rfl, hw5⟩; obtain rfl := hw5.symm) | (go_at_call 23; refine hOp.mono ?_; rintro e w4 ⟨rfl, S4, k4⟩; clear hOp; simp only at k4; have HF4 := hide k4.fl; have HJ4 : Hid (Jn w4 jp p (some ⟨1 - jb, je + 1, 1⟩)) := hide k4.jn; have HK4 := hide k4; have HNE4 := hide (k4.ne (unhide HJS) (unhide HJ3).lt); clear k4) | (go_at_call 20; have hE := encode_ok 82 ⟨da, dn, dc, dl⟩ w2 ((unhide HDok).later (unhide HB2)) (by decide) hfit; simp only [Sl.v, ← unhide HN] at hE; refine hE.mono ?_; rintro e w3 ⟨g3, rfl, -, b3⟩; clear hE; have A3 := (unhide HA2).later b3; have y0 := A3.cell 0; have y1 := A3.cell 1; have y2 := A3.cell 2; simp at y0 y1 y2; have HB3 := hide (bel_then (unhide HB2) (unhide HB2).size b3); have HF3 := hide ((unhide HF2).later b3); have HJ3 : Hid (Jn w3 jp p (some ⟨jb, je, jc⟩)) := hide ((b3.block jp (unhide HJ2).lt).trans (unhide HJ2)); have hOp := jkeep_any p jp S s (some ⟨jb, je, jc⟩) ⟨da, dn, dc, dl⟩ ⟨sa, sn', sc, sl⟩ w3 (unhide HF3) (unhide HJ3) (unhide HJS) ((unhide HI).jok (unhide HF0).ok) (fun i hi => by simp only [Option.some.injEq] at hi; subst hi; have := ((unhide HI).len (unhide HF0).ok).2; simp only at this ⊢; omega) ((unhide HDok).later (unhide HB3)) ((unhide HSok).later (unhide HB3)) (unhide HSN) (unhide HDS) (unhide HSS) (by have := unhide HWR; omega); rw [unhide HX] at hOp; simp only [Sl.v] at hOp; clear b3 A3) | (go_at_call 18; refine hR1.mono ?_; rintro e w2 ⟨rfl, k2, h2⟩; clear hR1; have b2 : Below wr.heap.size wr w2 := (by rw [h2]; exact below_drewN (below_alloc wr (.cells #[.int .i64 kd, .slice da dn dc, .slice sa sn' sc, .int .i64 ox, .int .i64 oy] 29)) k2); have A2 : Arr w2 wr.heap.size 29 [.int .i64 kd, .slice da dn dc, .slice sa sn' sc, .int .i64 ox, .int .i64 oy] := (by rw [h2]; exact Arr.new wr _ [.int .i64 kd, .slice da dn dc, .slice sa sn' sc, .int .i64 ox, .int .i64 oy]); have x0 := A2.cell 0; have x1 := A2.cell 1; have x2 := A2.cell 2; simp at x0 x1 x2; have HA2 := hide A2; have HB2 := hide b2; have HF2 := hide ((unhide HF0).later b2); have HJ2 : Hid (Jn w2 jp p (some ⟨jb, je, jc⟩)) := hide ((b2.block jp (unhide HJ0).lt).trans (unhide HJ0)); clear h2 b2 A2) | (go_at_call 19; refine (jepoch_any jp p ⟨jb, je, jc⟩ w2 (unhide HJ2) (unhide HE0)).mono ?_; rintro e w5 ⟨rfl, hw5⟩; obtain rfl := hw5.symm) | (go_at_call 15; refine (jcount_any jp p ⟨jb, je, jc⟩ w2 (unhide HJ2)).mono ?_; rintro e w5 ⟨rfl, hw5⟩; obtain rfl := hw5.symm) | (go_at_call 14; refine (writes_any p S s w2 (unhide HF2)).mono ?_; rintro e w5 ⟨rfl, hw5⟩; obtain rfl := hw5.symm))
              go_roundw
              case rel =>
                have hbel := (unhide HK4).belJ (bel_then (unhide HBW) (unhide HBW).size (unhide HB3)) (Nat.le_trans (unhide HBW).size (unhide HB3).size) (unhide HSA) (unhide HJA)
                first | (exact ⟨i + 1, by omega, by go_num, S4, s4, ⟨1 - jb, je + 1, 1⟩, sl, [dl], (unhide HF4), (unhide HJ4), (unhide HNE4), unhide HI4, unhide HQ4, by have h1 := unhide HWR4; have h2 := unhide HWL; omega, hbel, (unhide HK4).aboveJ (Nat.le_trans (unhide HBW).size (unhide HB3).size) (unhide HSA)⟩) | (exact ⟨i + 1, by omega, by go_num, S4, s4, ⟨1 - jb, je + 1, 1⟩, sl, [dl], ((unhide HF4).drewN k5), (unhide HJ4), (unhide HNE4), unhide HI4, unhide HQ4, by have h1 := unhide HWR4; have h2 := unhide HWL; omega, below_drewN hbel k5, (unhide HK4).aboveJ (Nat.le_trans (unhide HBW).size (unhide HB3).size) (unhide HSA)⟩)
              case measure => simp [intOf]; omega
        · exact absurd h (fun h => hnoq _ h)
      have hk5' : (kd == 5) = false := by rw [beq_eq_false_iff_ne]; exact hk5
      clear happ hcom hkee hk3 hk4 hk5 hM hZ hb01 hup hq hnoq
      by_cases hfit : 262144 < dn
      · clear hN
        as_aux_lemma =>
          go_wp2_with (first | (go_at_call 20; refine (encode_no 82 da dn dc w2 hfit).mono ?_; rintro e w3 ⟨rfl, hw3⟩; have b3 : Below w2.heap.size w2 w3 := (by rw [hw3]; exact Below.refl _ _); clear hw3; have A3 := (unhide HA2).later b3; have y0 := A3.cell 0; have y1 := A3.cell 1; have y2 := A3.cell 2; simp at y0 y1 y2; have HB3 := hide (bel_then (unhide HB2) (unhide HB2).size b3); have HF3 := hide ((unhide HF2).later b3); have HJ3 : Hid (Jn w3 jp p (some ⟨jb, je, jc⟩)) := hide ((b3.block jp (unhide HJ2).lt).trans (unhide HJ2)); skip; clear b3 A3) | (go_at_call 18; refine hR1.mono ?_; rintro e w2 ⟨rfl, k2, h2⟩; clear hR1; have b2 : Below wr.heap.size wr w2 := (by rw [h2]; exact below_drewN (below_alloc wr (.cells #[.int .i64 kd, .slice da dn dc, .slice sa sn' sc, .int .i64 ox, .int .i64 oy] 29)) k2); have A2 : Arr w2 wr.heap.size 29 [.int .i64 kd, .slice da dn dc, .slice sa sn' sc, .int .i64 ox, .int .i64 oy] := (by rw [h2]; exact Arr.new wr _ [.int .i64 kd, .slice da dn dc, .slice sa sn' sc, .int .i64 ox, .int .i64 oy]); have x0 := A2.cell 0; have x1 := A2.cell 1; have x2 := A2.cell 2; simp at x0 x1 x2; have HA2 := hide A2; have HB2 := hide b2; have HF2 := hide ((unhide HF0).later b2); have HJ2 : Hid (Jn w2 jp p (some ⟨jb, je, jc⟩)) := hide ((b2.block jp (unhide HJ0).lt).trans (unhide HJ0)); clear h2 b2 A2) | (go_at_call 19; refine (jepoch_any jp p ⟨jb, je, jc⟩ w2 (unhide HJ2) (unhide HE0)).mono ?_; rintro e w5 ⟨rfl, hw5⟩; obtain rfl := hw5.symm) | (go_at_call 15; refine (jcount_any jp p ⟨jb, je, jc⟩ w2 (unhide HJ2)).mono ?_; rintro e w5 ⟨rfl, hw5⟩; obtain rfl := hw5.symm) | (go_at_call 14; refine (writes_any p S s w2 (unhide HF2)).mono ?_; rintro e w5 ⟨rfl, hw5⟩; obtain rfl := hw5.symm))
          go_roundw
          case rel => exact ⟨i + 1, by omega, by go_num, S, s, ⟨jb, je, jc⟩, sn0, rs, unhide HF3, unhide HJ3, unhide HJS, unhide HI, unhide HQ0, by have h2 := unhide HWL; omega, bel_then (unhide HBW) (unhide HBW).size (unhide HB3), unhide HSA⟩
          case measure => simp [intOf]; omega
      · replace hfit : dn ≤ 262144 := by omega
        clear hN
        as_aux_lemma =>
          go_wp2_with (first | (go_at_call 20; have hE := encode_ok 82 ⟨da, dn, dc, dl⟩ w2 ((unhide HDok).later (unhide HB2)) (by decide) hfit; simp only [Sl.v, ← unhide HN] at hE; refine hE.mono ?_; rintro e w3 ⟨g3, rfl, -, b3⟩; clear hE; have A3 := (unhide HA2).later b3; have y0 := A3.cell 0; have y1 := A3.cell 1; have y2 := A3.cell 2; simp at y0 y1 y2; have HB3 := hide (bel_then (unhide HB2) (unhide HB2).size b3); have HF3 := hide ((unhide HF2).later b3); have HJ3 : Hid (Jn w3 jp p (some ⟨jb, je, jc⟩)) := hide ((b3.block jp (unhide HJ2).lt).trans (unhide HJ2)); skip; clear b3 A3) | (go_at_call 18; refine hR1.mono ?_; rintro e w2 ⟨rfl, k2, h2⟩; clear hR1; have b2 : Below wr.heap.size wr w2 := (by rw [h2]; exact below_drewN (below_alloc wr (.cells #[.int .i64 kd, .slice da dn dc, .slice sa sn' sc, .int .i64 ox, .int .i64 oy] 29)) k2); have A2 : Arr w2 wr.heap.size 29 [.int .i64 kd, .slice da dn dc, .slice sa sn' sc, .int .i64 ox, .int .i64 oy] := (by rw [h2]; exact Arr.new wr _ [.int .i64 kd, .slice da dn dc, .slice sa sn' sc, .int .i64 ox, .int .i64 oy]); have x0 := A2.cell 0; have x1 := A2.cell 1; have x2 := A2.cell 2; simp at x0 x1 x2; have HA2 := hide A2; have HB2 := hide b2; have HF2 := hide ((unhide HF0).later b2); have HJ2 : Hid (Jn w2 jp p (some ⟨jb, je, jc⟩)) := hide ((b2.block jp (unhide HJ0).lt).trans (unhide HJ0)); clear h2 b2 A2) | (go_at_call 19; refine (jepoch_any jp p ⟨jb, je, jc⟩ w2 (unhide HJ2) (unhide HE0)).mono ?_; rintro e w5 ⟨rfl, hw5⟩; obtain rfl := hw5.symm) | (go_at_call 15; refine (jcount_any jp p ⟨jb, je, jc⟩ w2 (unhide HJ2)).mono ?_; rintro e w5 ⟨rfl, hw5⟩; obtain rfl := hw5.symm) | (go_at_call 14; refine (writes_any p S s w2 (unhide HF2)).mono ?_; rintro e w5 ⟨rfl, hw5⟩; obtain rfl := hw5.symm))
          go_roundw
          case rel => exact ⟨i + 1, by omega, by go_num, S, s, ⟨jb, je, jc⟩, sn0, rs, unhide HF3, unhide HJ3, unhide HJS, unhide HI, unhide HQ0, by have h2 := unhide HWL; omega, bel_then (unhide HBW) (unhide HBW).size (unhide HB3), unhide HSA⟩
          case measure => simp [intOf]; omega
end Go.Proofs.Ytonpikdpclpkiaa
