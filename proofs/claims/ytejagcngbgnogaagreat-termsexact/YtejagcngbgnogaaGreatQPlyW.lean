import Derived.Test.YtejagcngbgnogaaGreatQShr
import Derived.Test.YtejagcngbgnogaaGreatQGbzZ
import Derived.Deep.MidRow
import Derived.Deep.Cut
set_option maxHeartbeats 16000000
set_option maxRecDepth 100000
set_option linter.unusedSimpArgs false
set_option linter.unusedVariables false
namespace Go.Proofs.YtejagcngbgnogaaGreat
open Go.RowKit
theorem bel_dr (w : World) : Below w.heap.size w w.drew := ⟨rfl, rfl, rfl, Nat.le_refl _, fun _ _ => rfl⟩
theorem PlS.put1 {w : World} {gS N0 m : Nat} {lv wv : Value} {w0 : World} {qb : Nat} {X : List Value} {bs : Sl} {wa wb wc : World} (h : PlS w gS N0 m lv wv w0 qb X bs none wa) (hb : Below wa.heap.size wa wb) (hc : Below wb.heap.size wb wc) (p q : Sl) (po : cI wb wa.heap.size p.v p.l) (pn : p.n = p.l.length) (qo : q.Ok wc) (hq : ∀ y, q.a = some y → wb.heap.size ≤ y.block) (he : p.l = q.l) (hn : p.l.length ≤ 100000) (hN : N0 + m ≤ 5799999999990) (wd : World) (hd : Below wc.heap.size wc wd) :
  Calls Tryz.prog 8 #[.pointer (some ⟨gS, 0, none⟩), p.v, q.v] wd fun e w' => e = .returned (.bool true) ∧ PlS w gS N0 (m + 1) lv wv w0 qb X bs none w' := by
 obtain ⟨N1, P1, Q1, lv1, wv1, h1, h2, hS, hP, -⟩ := h.sh
 have hac : Below wa.heap.size wa wc := hb.trans (hc.mono hb.size)
 have had : Below wa.heap.size wa wd := hac.trans (hd.mono hac.size)
 have hw : w.heap.size ≤ wa.heap.size := hS.bel.size
 have hpd : cI wd w.heap.size p.v p.l := ((po.later hc).later hd).mono hw
 have hPe : Pend w gS N1 P1 Q1 lv1 wv1 p q wd := Pend.new hS hpd pn (qo.later hd) (fun g hg => (po.1.lt g hg).1) (fun y hy => Nat.le_trans hb.size (hq y hy)) (fun g hg hl y hy e => by
  have := (po.1.lt g hg).2; have := hq y hy; simp only [Option.some.injEq] at e; omega)
 refine (put_any (hS.later had) p q hPe he (by omega) (by omega)).mono ?_
 rintro e w' ⟨rfl, lv2, wv2, hS2, -, hP2⟩
 exact ⟨rfl, (h.later had).puts h1 h2 (hS.later had) (hP.later had) (Nat.le_succ _) (Nat.le_refl _) hS2 hP2 (fun g hg => by simp at hg)⟩
theorem PlS.signs {w : World} {gS N0 m : Nat} {lv wv : Value} {w0 : World} {qb : Nat} {X : List Value} {bs : Sl} {gf : Nat} {wr : World} (h : PlS w gS N0 m lv wv w0 qb X bs (some gf) wr) (a b : Sl) (ha : a.Ok wr) (hb : b.Ok wr) (hl : a.l = b.l) (hm : b.n ≤ 1000000) (hN : N0 + m ≤ 5799999999980) {B M c : Nat} {l : List Int} (ho : cI wr B (.slice (some ⟨gf, 0, none⟩) M c) l) :
  Calls Tryz.prog 15 #[.pointer (some ⟨gS, 0, none⟩), a.v, b.v] wr fun e w' => e = .returned (.bool true) ∧ PlS w gS N0 (m + 3) lv wv w0 qb X bs (some gf) w' ∧ cI w' B (.slice (some ⟨gf, 0, none⟩) M c) l := by
 obtain ⟨N1, P1, Q1, lv1, wv1, h1, h2, hS, hP, hC⟩ := h.sh
 refine (signs_any hS a b ha hb hl hm (by omega)).mono ?_
 rintro e w' ⟨rfl, N2, P2, Q2, lv2, wv2, g1, g2, hS2, hP2, hC2⟩
 exact ⟨rfl, h.puts h1 h2 hS hP g1 g2 hS2 hP2 (fun g hg => hC2 g (by simp only [Option.some.injEq] at hg; subst hg; exact (ho.1.lt gf rfl).2) (hC g hg)), full_puts ho hS hP2⟩
def PutM (m : Nat) (w : World) (gS N : Nat) (lv wv : Value) (w0 : World) (e : Ending) (w' : World) : Prop := e = .returned (.bool true) ∧ ∃ N' P' Q' lv' wv', N ≤ N' ∧ N' ≤ N + m ∧ Shf w gS N' P' Q' lv' wv' w' ∧ PutS lv wv gS lv' wv' w0 w'
theorem PlS.fin {w : World} {gS N0 m : Nat} {lv wv : Value} {w0 : World} {qb : Nat} {X : List Value} {bs : Sl} {gf : Option Nat} {wr : World} (h : PlS w gS N0 m lv wv w0 qb X bs gf wr) (hm : m ≤ 8) : PutM 8 w gS N0 lv wv w0 (.returned (.bool true)) wr := by
 obtain ⟨N1, P1, Q1, lv1, wv1, h1, h2, hS, hP, -⟩ := h.sh
 exact ⟨rfl, N1, P1, Q1, lv1, wv1, h1, by omega, hS, hP⟩
theorem own_pre2 {w : World} {base g m c n : Nat} {l : List Int} (h : cI w base (.slice (some ⟨g, 0, none⟩) m c) l) (hm : l.length = m) (hn : n ≤ m) : Sl.Ok w ⟨some ⟨g, 0, none⟩, n, c, l.take n⟩ := by
 have h1 := h.1
 rw [hm] at h1
 exact own_pre h1 h.2 hn
theorem plays_any {w : World} {gS N : Nat} {P Q : Nat → Sl} {lv wv : Value} {w0 : World} (hS : Shf w gS N P Q lv wv w0) (y : Nat → Int) (bs : Sl) (hok : ∀ i, i < 329 → (bM i).ok (y i)) (hbs : bs.Ok w0) (hold : 0 < bs.l.length → ∀ x, bs.a = some x → x.block < w.heap.size) (hbn : bs.n ≤ 2048) (hN : N ≤ 5799999999900) :
  Calls Tryz.prog 4 #[.pointer (some ⟨gS, 0, none⟩), .agg (tmC y bs.v).toArray] w0 (PutM 8 w gS N lv wv w0) := by
 have b0 : Below w0.heap.size w0 (w0.alloc (.cells (tmC y bs.v).toArray 35)) := aJ w0 _
 have Pl0 : PlS w gS N 0 lv wv w0 w0.heap.size (tmC y bs.v) bs none (w0.alloc (.cells (tmC y bs.v).toArray 35)) := ⟨⟨N, P, Q, lv, wv, Nat.le_refl _, Nat.le_refl _, hS.later b0, (PutS.refl _ _ _ _).later b0, fun g hg => by simp at hg⟩, Arr.new w0 _ _, hbs.later b0, hold⟩
 have hcB : ∀ wr, Arr wr w0.heap.size 35 (tmC y bs.v) → wr.cell? ⟨w0.heap.size, 329, none⟩ = some (.slice bs.a bs.n bs.c) := fun wr h => by
  rw [h.cell]; unfold tmC; rw [List.getElem?_append_right (by rw [aC]; omega), aC]; rfl
 have hE := fun W => encA y bs.v W hok
 have hW := fun W => wanA y bs.v W hok
 have hSd := fun W => saiA y bs.v W hok
 have hMe := fun W => meaA y bs.v W hok
 have s1 := encP_short y
 have s2 := saidP_short y
 have hZ : (Tryz.prog.info? 35).map (·.size) = some (tmC y bs.v).length := by rw [fA]; exact Tryz.szTerm
 have hlen := hbs.len
 have HBL := aA hlen
 have HCB := aA hcB
 clear hok hbs hold hS b0 hcB hlen
 generalize encP y = R1 at *
 obtain ⟨L1, k1⟩ := R1
 generalize saidP y = L2 at *
 simp only at hE hW s1
 generalize tmC y bs.v = X at *
 have HP0 := aA Pl0
 clear Pl0
 go_enter Tryz.func4, Tryz.ntmps4
 go_upto_region 1 with fail
 generalize w0.alloc (.cells X.toArray 35) = W0 at *
 generalize hqb : w0.heap.size = qb at *
 clear hqb
 refine wp_region_lit ?_
 refine wpList_load_mid rfl 35 (.tmp 3) rfl qb 0 rfl X _ (Arr.range (unhide HP0).box) Tryz.underlying35 rfl hZ ?_
 simp only [Act.put]
 refine wpList_plain rfl fun K1 hK1 => ?_
 go_simp
 refine (hE W0).mono ?_
 rintro e w1 ⟨p1, rfl, hp1, hpn1, hpl1, hB1⟩
 have hv1 : p1.v = .slice p1.a p1.n p1.c := rfl
 rw [hv1]
 refine hK1 _ _ ?_
 clear hK1 K1 hE
 have HP1 := aA ((unhide HP0).later hB1)
 have HQ1 := aA (And.intro hp1 (And.intro hpn1 hpl1))
 have HB1 := aA hB1
 clear hp1 hpn1 hpl1 hB1 hv1
 go_upto_region 2 with fail
 refine wp_region_lit ?_
 refine wpList_load_mid rfl 35 (.tmp 3) rfl qb 0 rfl X _ (Arr.range (unhide HP1).box) Tryz.underlying35 rfl hZ ?_
 simp only [Act.put]
 refine wpList_plain rfl fun K1 hK1 => ?_
 go_simp
 refine (hW w1).mono ?_
 rintro e w2 ⟨q1, rfl, hq1, hql1, hqf1, hB2⟩
 have hv2 : q1.v = .slice q1.a q1.n q1.c := rfl
 rw [hv2]
 refine hK1 _ _ ?_
 clear hK1 K1 hW
 have HP2 := aA ((unhide HP1).later hB2)
 have hC1 := (unhide HP0).put1 (unhide HB1) hB2 p1 q1 (unhide HQ1).1 (unhide HQ1).2.1 hq1 hqf1 ((unhide HQ1).2.2.trans hql1.symm) (by rw [(unhide HQ1).2.2]; exact s1) (by omega) w2.drew (bel_dr _)
 have hv1 : p1.v = .slice p1.a p1.n p1.c := rfl
 rw [hv1, hv2] at hC1
 clear hv1 hv2 HQ1 hq1 hql1 hqf1 HB1 hB2 HP0 HP1
 generalize p1.a = pa at *
 generalize p1.n = pn at *
 generalize p1.c = pc at *
 generalize q1.a = qa at *
 generalize q1.n = qn at *
 generalize q1.c = qc at *
 go_upto_region 3 with fail
 refine wp_region_noPanic ?_
 refine wp_region_held_drew (S := fun w' => w'.rangeAt qb 0 X) (by kernel_rfl) (Arr.range (unhide HP2).box) (fun hHeld => ?_)
 refine tkS 0 (.int .i64 k1) rfl hHeld ?_
 refine tkS 1 (.int .i64 k1) rfl hHeld ?_
 refine tkS 2 (.bool false) rfl hHeld ?_
 refine tkS 3 (.bool false) rfl hHeld ?_
 refine tkS 4 (.pointer (some ⟨gS, 0, none⟩)) rfl hHeld ?_
 refine tkS 5 (.slice pa pn pc) rfl hHeld ?_
 refine tkS 6 (.slice qa qn qc) rfl hHeld ?_
 refine rdY 7 rfl fun K hK => ?_
 go_simp
 refine hC1.mono ?_
 rintro e w3 ⟨rfl, hP3⟩
 refine hK.out _ _ (Arr.range hP3.box) (fun hHeld => ?_)
 have HP3 := aA hP3
 clear hK K hC1 hP3 HP2
 refine tkS 8 (.bool false) rfl hHeld ?_
 refine tkS 9 (.bool false) rfl hHeld ?_
 refine tkS 10 (.bool false) rfl hHeld ?_
 refine tkS 11 (.pointer (some ⟨gS, 0, none⟩)) rfl hHeld ?_
 refine tkY 12 _ rfl (yieldsIf_load_mid (by rfl) _ _ rfl _ _ rfl _ _ (fun _ h => h) Tryz.underlying35 rfl hZ) hHeld ?_
 refine tkY 14 _ rfl (yieldsIf_load_mid (by rfl) _ _ rfl _ _ rfl _ _ (fun _ h => h) Tryz.underlying35 rfl hZ) hHeld ?_
 refine rdY 13 rfl fun K hK => ?_
 go_simp
 refine (hSd w3).mono ?_
 rintro e w4 ⟨p2, rfl, hp2, hpn2, hpl2, hB4⟩
 have hv1 : p2.v = .slice p2.a p2.n p2.c := rfl
 rw [hv1]
 have HP4 := aA ((unhide HP3).later hB4)
 have HQ2 := aA (And.intro hp2 (And.intro hpn2 hpl2))
 have HB4 := aA hB4
 clear hp2 hpn2 hpl2 hB4 hv1
 refine hK.out _ _ (Arr.range (unhide HP4).box) (fun hHeld => ?_)
 clear hK K hSd
 refine rdY 15 rfl fun K hK => ?_
 go_simp
 refine (hMe w4).mono ?_
 rintro e w5 ⟨q2, rfl, hq2, hql2, hqf2, hB5⟩
 have hv2 : q2.v = .slice q2.a q2.n q2.c := rfl
 rw [hv2]
 have HP5 := aA ((unhide HP4).later hB5)
 refine hK.out _ _ (Arr.range (unhide HP5).box) (fun hHeld => ?_)
 clear hK K hMe
 have hC2 := (unhide HP3).put1 (unhide HB4) hB5 p2 q2 (unhide HQ2).1 (unhide HQ2).2.1 hq2 hqf2 ((unhide HQ2).2.2.trans hql2.symm) (by rw [(unhide HQ2).2.2]; exact s2) (by omega) w5 (Below.refl _ _)
 have hv1 : p2.v = .slice p2.a p2.n p2.c := rfl
 rw [hv1, hv2] at hC2
 clear hv1 hv2 HQ2 hq2 hql2 hqf2 HB4 hB5 HP3 HP4 HP5
 refine rdY 16 rfl fun K hK => ?_
 go_simp
 refine hC2.mono ?_
 rintro e w6 ⟨rfl, hP6⟩
 refine hK.out _ _ (Arr.range hP6.box) (fun hHeld => ?_)
 have HP6 := aA hP6
 clear hK K hC2 hP6
 refine tkS 17 (.bool false) rfl hHeld ?_
 refine tkS 18 (.bool false) rfl hHeld ?_
 refine wpAnyH_done (by kernel_rfl) ?_ _
 unfold NoPanic
 clear hHeld s1 s2
 have cB6 := unhide HCB _ (unhide HP6).box
 have hRm := roomy_any bs w6 (unhide HP6).byt (by omega)
 have hbv : bs.v = .slice bs.a bs.n bs.c := rfl
 rw [hbv] at hRm
 go_wp2_with fail
 refine hRm.mono ?_
 rintro e w7 ⟨gf, cf, rfl, hof, hB7⟩
 have hLf : (bs.l ++ gN).length = bs.n + 300 := by rw [List.length_append, marksR_length, unhide HBL]
 have hOf : cI w7 w6.heap.size (.slice (some ⟨gf, 0, none⟩) (bs.n + 300) cf) (bs.l ++ gN) := ⟨by rw [hLf]; exact hof, (unhide HP6).byt.isB.append sX⟩
 have HP7 := aA ((unhide HP6).mark hB7 gf (hof.lt gf rfl).1)
 have hGE := (unhide HP6).size
 have cB7 := unhide HCB _ (unhide HP7).box
 have hcf : bs.n + 300 ≤ cf := by
  rcases hof.2 with ⟨h1, -⟩ | ⟨g', cap, cur, h1, -, -, h4, -⟩
  ·simp at h1
  ·simp at h1; omega
 have hmine := own_pre2 hOf hLf (show bs.n ≤ bs.n + 300 by omega)
 have hml : (bs.l ++ gN).take bs.n = bs.l := List.take_left' (unhide HBL)
 rw [hml] at hmine
 have HOF := aA hOf
 have HLF := aA hLf
 clear hRm hof hB7 cB6 HP6 hOf hLf hml
 have hDm := lT ⟨some ⟨gf, 0, none⟩, bs.n, cf, bs.l⟩ w7 hmine
 have hDr := fun W (h : Below w7.heap.size w7 W) => jH bs W ((unhide HP7).byt.later h)
 simp only [Sl.v] at hDm hDr
 generalize domL bs.l = DD at *
 obtain ⟨d1, d2⟩ := DD
 simp only at hDm hDr
 have HMI := aA hmine
 have hnz : (bs.n : Int) ≤ (cf : Int) := by omega
 clear hmine
 go_wp2_with fail
 refine hDm.mono ?_
 rintro e w8 ⟨rfl, hB8⟩
 have hDr8 := hDr w8 hB8
 have HP8 := aA ((unhide HP7).later hB8)
 have cB8 := unhide HCB _ (unhide HP8).box
 have HOF8 := aA ((unhide HOF).later hB8)
 have HMI8 := aA ((unhide HMI).later hB8)
 clear hDm hDr hB8 cB7 HP7 HOF HMI
 go_wp2_with fail
 refine hDr8.mono ?_
 rintro e w9 ⟨rfl, hB9⟩
 have HP9 := aA ((unhide HP8).later hB9)
 have HOF9 := aA ((unhide HOF8).later hB9)
 clear hDr8 hB9 cB8 HP8 HOF8 HMI8
 go_wp2_with fail
 generalize hBB : w6.heap.size = B6 at *
 clear hBB
 have HGE := aA hGE
 clear hGE
 go_loopw [15] (fun i wr => ∃ j : Nat, 1 ≤ j ∧ j ≤ 11 ∧ i = .int .i64 j ∧ Hid (PlS w gS N (0 + 1 + 1) lv wv w0 qb X bs (some gf) wr ∧ cI wr B6 (.slice (some ⟨gf, 0, none⟩) (bs.n + 300) cf) (bs.l ++ gN))) (fun i _ => 11 - (intOf i).toNat)
 case atStart => exact ⟨1, by omega, by omega, rfl, aA ⟨unhide HP9, unhide HOF9⟩⟩
 case round =>
  clear HP9 HOF9
  obtain ⟨j, hj1, hj2, rfl, HH⟩ := hrel
  have cB := unhide HCB _ (unhide HH).1.box
  have hmine := own_pre2 (unhide HH).2 (unhide HLF) (show bs.n ≤ bs.n + 300 by omega)
  have hml : (bs.l ++ gN).take bs.n = bs.l := List.take_left' (unhide HBL)
  rw [hml] at hmine
  by_cases hlt : j ≤ 10
  ·have hjz : (j : Int) ≤ 10 := by omega
   have hC := reads_any (j : Int) (by omega) (by omega) ⟨some ⟨gf, 0, none⟩, bs.n, cf, bs.l⟩ bs wr hmine (unhide HH).1.byt rfl (by omega)
   simp only [Sl.v] at hC
   clear hmine hml
   go_wp2_with fail
   refine hC.mono ?_
   rintro e wa ⟨rfl, hBa⟩
   have HA := aA (And.intro ((unhide HH).1.later hBa) ((unhide HH).2.later hBa))
   clear hC hBa HH cB
   go_wp2
   go_roundw
   case rel => exact ⟨j + 1, by omega, by omega, by go_num, HA⟩
   case measure => simp [intOf]; omega
  ·have hjz : ¬ ((j : Int) ≤ 10) := by omega
   have hjd : decide ((j : Int) ≤ 10) = false := by simpa using hjz
   have hC := (unhide HH).1.signs ⟨some ⟨gf, 0, none⟩, bs.n, cf, bs.l⟩ bs hmine (unhide HH).1.byt rfl (by omega) (by omega) (unhide HH).2
   simp only [Sl.v] at hC
   clear hmine hml
   generalize (j : Int) = ij at *
   go_wp2_with fail
   refine hC.mono ?_
   rintro e wa ⟨rfl, hPa, hOa⟩
   have cBa := unhide HCB _ hPa.box
   have hRm := roomy_any bs wa hPa.byt (by omega)
   have hbv : bs.v = .slice bs.a bs.n bs.c := rfl
   rw [hbv] at hRm
   have HPA := aA hPa
   have HOA := aA hOa
   clear hC hPa hOa HH cB
   go_wp2_with fail
   refine hRm.mono ?_
   rintro e wb ⟨gb, cb, rfl, hob, hBb⟩
   have hOb : cI wb wa.heap.size (.slice (some ⟨gb, 0, none⟩) (bs.n + 300) cb) (bs.l ++ gN) := ⟨by rw [unhide HLF]; exact hob, (unhide HPA).byt.isB.append sX⟩
   have okf := kE (s := ⟨some ⟨gf, 0, none⟩, bs.n + 300, cf, bs.l ++ gN⟩) ((unhide HOA).later hBb) (unhide HLF).symm
   have okb := kE (s := ⟨some ⟨gb, 0, none⟩, bs.n + 300, cb, bs.l ++ gN⟩) hOb (unhide HLF).symm
   have hsm := nV ⟨some ⟨gf, 0, none⟩, bs.n + 300, cf, bs.l ++ gN⟩ ⟨some ⟨gb, 0, none⟩, bs.n + 300, cb, bs.l ++ gN⟩ wb okf okb (by show bs.n + 300 ≤ _; omega)
   rw [decide_eq_true rfl] at hsm
   simp only [Sl.v] at hsm
   have HPB := aA ((unhide HPA).later hBb)
   have HOB := aA ((unhide HOA).later hBb)
   clear hRm hob hBb hOb okf okb HPA HOA cBa
   go_wp2_with fail
   refine hsm.mono ?_
   rintro e wc ⟨rfl, kk, hwc⟩
   have hbc : Below wb.heap.size wb wc := by rw [hwc]; exact cN (Below.refl _ _) kk
   have HPC := aA ((unhide HPB).later hbc)
   have HOC := aA ((unhide HOB).later hbc)
   clear hsm hbc hwc HPB HOB
   go_upto_if 99 with fail
   go_cut [] (fun wx => ∃ L : List Int, Hid (PlS w gS N (0 + 1 + 1 + 3) lv wv w0 qb X bs (some gf) wx ∧ cI wx B6 (.slice (some ⟨gf, 0, none⟩) (bs.n + 300) cf) L ∧ L.length = bs.n + 300))
   case first =>
    by_cases h9 : 9 < bs.n
    ·have h9z : (9 : Int) < (bs.n : Int) := by omega
     have hO := unhide HOC
     have hO1 := hO.1
     rw [unhide HLF] at hO1
     have hT := turn_any gf 9 (bs.n - 9) (bs.n + 300) cf (cf - 9) B6 (bs.l ++ gN) wc hO1 hO.2 (by omega) (by omega) (by omega)
     go_wp2_with fail
     refine hT.mono ?_
     rintro e wd ⟨rfl, L', ho', hB', hbt⟩
     have hL' : L'.length = bs.n + 300 := by have := ho'.1; simpa using this
     have hod : cI wd B6 (.slice (some ⟨gf, 0, none⟩) (bs.n + 300) cf) L' := ⟨by rw [hL']; exact ho', hB'⟩
     have HD : Hid (PlS w gS N (0 + 1 + 1 + 3) lv wv w0 qb X bs (some gf) wd ∧ cI wd B6 (.slice (some ⟨gf, 0, none⟩) (bs.n + 300) cf) L' ∧ L'.length = bs.n + 300) := aA ⟨(unhide HPC).turn hO hbt (unhide HGE).1 (unhide HGE).2, hod, hL'⟩
     clear hT ho' hB' hbt hL' hod hO hO1
     go_wp2_with fail
     go_meet
     case rel => exact ⟨L', HD⟩
    ·have h9z : ¬ ((9 : Int) < (bs.n : Int)) := by omega
     have h9d : decide ((9 : Int) < (bs.n : Int)) = false := by simpa using h9z
     go_wp2_with fail
     go_meet
     case rel => exact ⟨_, aA ⟨unhide HPC, unhide HOC, unhide HLF⟩⟩
   case rest =>
    obtain ⟨L, HX⟩ := hcut
    clear HPC HOC
    go_wp2_with fail
    go_loopw [16] (fun i wr => ∃ j : Nat, 1 ≤ j ∧ j ≤ 11 ∧ i = .int .i64 j ∧ Hid (PlS w gS N (0 + 1 + 1 + 3) lv wv w0 qb X bs (some gf) wr ∧ cI wr B6 (.slice (some ⟨gf, 0, none⟩) (bs.n + 300) cf) L ∧ L.length = bs.n + 300)) (fun i _ => 11 - (intOf i).toNat)
    case atStart => exact ⟨1, by omega, by omega, rfl, HX⟩
    case round =>
     clear HX
     obtain ⟨j, hj1, hj2, rfl, HH⟩ := hrel
     have hmine := own_pre2 (unhide HH).2.1 (unhide HH).2.2 (show bs.n ≤ bs.n + 300 by omega)
     by_cases hlt : j ≤ 10
     ·have hjz : (j : Int) ≤ 10 := by omega
      have hC := reads_any (j : Int) (by omega) (by omega) ⟨some ⟨gf, 0, none⟩, bs.n, cf, L.take bs.n⟩ ⟨some ⟨gf, 0, none⟩, bs.n, cf, L.take bs.n⟩ wr hmine hmine rfl (by show bs.n ≤ _; omega)
      simp only [Sl.v] at hC
      clear hmine
      go_wp2_with fail
      refine hC.mono ?_
      rintro e wa ⟨rfl, hBa⟩
      have HA := aA (And.intro ((unhide HH).1.later hBa) (And.intro ((unhide HH).2.1.later hBa) (unhide HH).2.2))
      clear hC hBa HH
      go_wp2
      go_roundw
      case rel => exact ⟨j + 1, by omega, by omega, by go_num, HA⟩
      case measure => simp [intOf]; omega
     ·have hjz : ¬ ((j : Int) ≤ 10) := by omega
      have hjd : decide ((j : Int) ≤ 10) = false := by simpa using hjz
      have hC := (unhide HH).1.signs ⟨some ⟨gf, 0, none⟩, bs.n, cf, L.take bs.n⟩ ⟨some ⟨gf, 0, none⟩, bs.n, cf, L.take bs.n⟩ hmine hmine rfl (by show bs.n ≤ _; omega) (by omega) (unhide HH).2.1
      simp only [Sl.v] at hC
      clear hmine
      generalize (j : Int) = ij at *
      go_wp2_with fail
      refine hC.mono ?_
      rintro e wa ⟨rfl, hPa, -⟩
      have HE := aA (hPa.fin (by omega))
      clear hC hPa HH
      go_wp2
      go_ret
      exact unhide HE
end Go.Proofs.YtejagcngbgnogaaGreat
