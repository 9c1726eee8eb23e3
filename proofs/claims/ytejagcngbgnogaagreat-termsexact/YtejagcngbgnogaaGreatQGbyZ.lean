import Derived.Test.YtejagcngbgnogaaGreatQShr
import Derived.Test.YtejagcngbgnogaaGreatQGbxZ
import Derived.Test.YtejagcngbgnogaaGreatQGaoZ
import Derived.Test.YtejagcngbgnogaaGreatQMrkW
import Derived.Deep.MidRow
import Derived.Deep.Cut
set_option maxHeartbeats 8000000
set_option maxRecDepth 100000
set_option linter.unusedSimpArgs false
set_option linter.unusedVariables false
namespace Go.Proofs.YtejagcngbgnogaaGreat
open Go.RowKit
theorem mV {w : World} {base e sz n : Nat} {v : Value} {xs : List Value} (h : w.ownsRow base e sz v n xs) : ∃ a c, v = .slice a n c ∧ (0 < n → ∃ g, a = some ⟨g, 0, none⟩) := by
 rcases h.2 with ⟨rfl, rfl⟩ | ⟨g, cap, cur, rfl, -⟩
 ·exact ⟨none, 0, rfl, fun h => by omega⟩
 ·exact ⟨_, cap, rfl, fun _ => ⟨g, rfl⟩⟩
theorem sQ {w : World} {base g n c : Nat} {E : List (List Int × List Int)} (h : w.ownsRow base 30 64 (.slice (some ⟨g, 0, none⟩) n c) n (E.flatMap fun p => U8 p.2)) (h64 : ∀ p ∈ E, p.2.length = 64) (hn : E.length = n) (j : Nat) (p : List Int × List Int) (hj : E[j]? = some p) : w.rangeAt g (j * 64) (U8 p.2) := by
 have hlen : ∀ (l : List (List Int × List Int)), (∀ q ∈ l, q.2.length = 64) → (l.flatMap fun p => U8 p.2).length = l.length * 64 := by
  intro l
  induction l with
  | nil => intro _; rfl
  | cons a t ih => intro hq; rw [List.flatMap_cons, List.length_append, ih (fun q h => hq q (by simp [h])), U8_length, hq a (by simp), List.length_cons]; omega
 have hjl : j < E.length := (List.getElem?_eq_some_iff.1 hj).1
 have hp64 := h64 p (List.mem_of_getElem? hj)
 have hsplit : (E.flatMap fun p => U8 p.2) = ((E.take j).flatMap fun p => U8 p.2) ++ (U8 p.2 ++ ((E.drop (j + 1)).flatMap fun p => U8 p.2)) := by
  have hp : E[j] = p := (List.getElem?_eq_some_iff.1 hj).2
  conv => lhs; rw [← List.take_append_drop j E, List.flatMap_append, List.drop_eq_getElem_cons hjl, List.flatMap_cons, hp]
 have ht : ((E.take j).flatMap fun p => U8 p.2).length = j * 64 := by
  rw [hlen _ (fun q hq => h64 q (List.mem_of_mem_take hq)), List.length_take, Nat.min_eq_left (by omega)]
 intro i v hi
 have hil : i < 64 := by have := (List.getElem?_eq_some_iff.1 hi).1; rw [U8_length, hp64] at this; exact this
 rcases h.2 with ⟨h1, -⟩ | ⟨g', cap, cur, h1, -, h3, h4, -, h5, h6⟩
 ·simp at h1
 ·simp at h1
  obtain ⟨rfl, -⟩ := h1
  have e : cur.toList[j * 64 + i]? = some v := by
   have hb : j * 64 + i < n * 64 := by omega
   have h7 : (cur.toList.take (n * 64))[j * 64 + i]? = cur.toList[j * 64 + i]? := by rw [List.getElem?_take, if_pos hb]
   rw [← h7, h6, hsplit, List.getElem?_append_right (by omega), ht, Nat.add_sub_cancel_left, List.getElem?_append_left (by rw [U8_length, hp64]; exact hil)]
   exact hi
  rw [Array.getElem?_toList] at e
  simp [World.cell?, h3, e]
theorem eqU8_any (G : List Int) (hG : G.length = 64) (W : World) : (Op.equalIn 10000 30 (.agg (U8 G).toArray) (.agg (U8 G).toArray)).run Tryz.prog W = .ok true W := by
 rw [show U8 G = G.map (Value.int .u8) from rfl, show (10000 : Nat) = 9998 + 1 + 1 from rfl, run_eqB 9998 Tryz.underlying30 Tryz.underlying5 Tryz.sz1e _ _ hG hG]
 simp
def PutN (m : Nat) (w : World) (gS N : Nat) (P Q : Nat → Sl) (lv wv : Value) (w0 : World) (e : Ending) (w' : World) : Prop := e = .returned (.bool true) ∧ ∃ N' P' Q' lv' wv', N ≤ N' ∧ N' ≤ N + m ∧ Shf w gS N' P' Q' lv' wv' w' ∧ PutS lv wv gS lv' wv' w0 w' ∧ ∀ g, g < w0.heap.size → Clr g N P Q → Clr g N' P' Q'
theorem signs_any {w : World} {gS N : Nat} {P Q : Nat → Sl} {lv wv : Value} {w0 : World} (hS : Shf w gS N P Q lv wv w0) (a b : Sl) (ha : a.Ok w0) (hb : b.Ok w0) (hl : a.l = b.l) (hm : b.n ≤ 1000000) (hN : N ≤ 5799999999990) :
  Calls Tryz.prog 15 #[.pointer (some ⟨gS, 0, none⟩), a.v, b.v] w0 (PutN 3 w gS N P Q lv wv w0) := by
 have hP := pSaid_any a w0 ha
 rw [hl] at hP
 have hR := fun W (h : Below w0.heap.size w0 W) => rSaid_any b W (hb.later h) hm
 have h3 := sgd_len b.l
 have hsh := sgd_short b.l
 generalize sgd b.l = RR at *
 obtain ⟨E, k⟩ := RR
 simp only at hP hR h3 hsh
 have hav : a.v = .slice a.a a.n a.c := rfl
 have hbv : b.v = .slice b.a b.n b.c := rfl
 rw [hav] at hP ⊢
 rw [hbv] at hR ⊢
 have HS := aA hS
 have HSH := aA hsh
 clear ha hb hl hav hbv hS hsh
 go_enter Tryz.func15, Tryz.ntmps15
 go_wp2_with fail
 refine hP.mono ?_
 rintro e w1 ⟨V1, V2, vs, rfl, hSa, hB1⟩
 have hR1 := hR w1 hB1
 have HSA := aA hSa
 have HB1 := aA hB1
 obtain ⟨a1, c1, hv1, hf1⟩ := mV hSa.l1
 obtain ⟨a2, c2, hv2, hf2⟩ := mV hSa.l2
 subst hv1 hv2
 clear hP hR hSa hB1
 go_wp2_with fail
 refine hR1.mono ?_
 rintro e w2 ⟨U1, U2, ss, rfl, hRs, hB2⟩
 obtain ⟨a3, c3, hv3, hf3⟩ := mV hRs.l1
 obtain ⟨a4, c4, hv4, hf4⟩ := mV hRs.l2
 subst hv3 hv4
 clear hR1
 obtain ⟨p, q, hPr, hpl⟩ := prs2_of (unhide HSA) hRs hB2
 have hEl : ∀ i, i < E.length → E[i]? = some (E.getD i ([], [])) := fun i hi => by rw [List.getD_eq_getElem?_getD, List.getElem?_eq_getElem hi]; rfl
 have hsz : ∀ i, i < E.length → (p i).n ≤ 100000 := fun i hi => by rw [hPr.pn i hi, hpl i hi]; exact unhide HSH _ (List.mem_of_getElem? (hEl i hi))
 have h64 : ∀ x ∈ E, x.2.length = 64 := fun x hx => by
  obtain ⟨i, hi, rfl⟩ := List.getElem_of_mem hx
  obtain ⟨v, -, -, h, -⟩ := (unhide HSA).each i _ (List.getElem?_eq_getElem hi)
  exact h
 have rg2 : ∀ g, a2 = some ⟨g, 0, none⟩ → ∀ j x, E[j]? = some x → w2.rangeAt g (j * 64) (U8 x.2) := fun g hg j x hx => by
  have h := eK (unhide HSA).l2 hB2
  rw [hg] at h
  exact sQ h h64 rfl j x hx
 have rg4 : ∀ g, a4 = some ⟨g, 0, none⟩ → ∀ j x, E[j]? = some x → w2.rangeAt g (j * 64) (U8 x.2) := fun g hg j x hx => by
  have h := hRs.l2
  rw [hg] at h
  exact sQ h h64 rfl j x hx
 have hI := SgI.start (unhide HS) hPr (unhide HB1) hB2 (eK (unhide HSA).l1 hB2) (gI hRs.l1 (unhide HB1).size)
 have hV1 : ∀ g, (Value.slice a1 E.length c1).ownBlock = some g → g < w2.heap.size := fun g hg => ((eK (unhide HSA).l1 hB2).lt g hg).2
 have hU1 : ∀ g, (Value.slice a3 E.length c3).ownBlock = some g → g < w2.heap.size := fun g hg => (hRs.l1.lt g hg).2
 have hlv : ∀ g, lv.ownBlock = some g → g < w0.heap.size := fun g hg => ((unhide HS).lrow.lt g hg).2
 have hwv : ∀ g, wv.ownBlock = some g → g < w0.heap.size := fun g hg => ((unhide HS).wrow.lt g hg).2
 have hgs : gS < w0.heap.size := (unhide HS).s.lt
 have hb01 := (unhide HB1).size
 have hb02 := (unhide HB1).trans (hB2.mono (unhide HB1).size)
 have HFIN : Hid (∀ wr, SgI w gS N P Q E.length lv wv (.slice a1 E.length c1) (.slice a3 E.length c3) vs (ss.map (·.v)) p q w0.heap.size w2 E.length wr → ∃ N' P' Q' lv' wv', N ≤ N' ∧ N' ≤ N + 3 ∧ Shf w gS N' P' Q' lv' wv' wr ∧ PutS lv wv gS lv' wv' w0 wr ∧ ∀ g, g < w0.heap.size → Clr g N P Q → Clr g N' P' Q') := aA (fun wr h => by
  obtain ⟨P', Q', lv', wv', h1, -, h4, h5⟩ := h.ex
  exact ⟨N + E.length, P', Q', lv', wv', by omega, by omega, h1, PutS.before hb02 h4, h5⟩)
 have HPUT := aA (fun j (hj : j < E.length) wr (h : SgI w gS N P Q E.length lv wv (.slice a1 E.length c1) (.slice a3 E.length c3) vs (ss.map (·.v)) p q w0.heap.size w2 j wr) => h.put hj hPr hsz (by omega) hb01 hV1 hU1 hlv hwv hgs)
 have HI := aA hI
 have HPR := aA hPr
 have HR2 := aA rg2
 have HR4 := aA rg4
 have HEL := aA hEl
 have H64 := aA h64
 have HSZ := aA hsz
 clear hRs HSA HB1 HS HSH hI hPr hpl hV1 hU1 hlv hwv hgs hb01 hb02 rg2 rg4 hB2 hEl h64 hsz
 generalize hn : E.length = n at *
 generalize ss.map (·.v) = us at *
 have hw2 : ∃ W2, W2 = w2 := ⟨_, rfl⟩
 obtain ⟨W2, hW2⟩ := hw2
 have HW2 := aA hW2
 clear hW2
 go_wp2_with fail
 go_loopw [13] (fun i wr => ∃ j : Nat, j ≤ n ∧ i = .int .i64 j ∧ Hid (Below w2.heap.size w2 wr)) (fun i _ => n - (intOf i).toNat)
 case atStart => exact ⟨0, by omega, rfl, aA (Below.refl _ _)⟩
 case round =>
  obtain ⟨j, hj, rfl, HBW⟩ := hrel
  by_cases hlt : j < n
  ·obtain ⟨g1, rfl⟩ := hf1 (by omega)
   obtain ⟨g2, rfl⟩ := hf2 (by omega)
   obtain ⟨g3, rfl⟩ := hf3 (by omega)
   obtain ⟨g4, rfl⟩ := hf4 (by omega)
   have hjz : (j : Int) < (n : Int) := by omega
   have hjE := unhide HEL j hlt
   have hG64 := unhide H64 _ (List.mem_of_getElem? hjE)
   have r2 := unhide HR2 g2 rfl j _ hjE
   have r4 := unhide HR4 g4 rfl j _ hjE
   have hIw := (unhide HI).later (unhide HBW)
   have k1 := (hIw.r1.cellAt j (by omega)).trans ((unhide HPR).vs j hlt)
   have k3 := (hIw.r2.cellAt j (by omega)).trans ((unhide HPR).us j hlt)
   have keep : ∀ (W : World) (g o : Nat) (l : List Value), w2.rangeAt g o l → Below w2.heap.size w2 W → W.rangeAt g o l := fun W g o l h hb i v hi => by
    have := h i v hi
    exact (World.cell?_of_block (hb.block g (World.block_lt_of_cell? w2 _ this))).trans this
   have r2' := keep wr _ _ _ r2 (unhide HBW)
   have r4' := keep wr _ _ _ r4 (unhide HBW)
   have okp := kE ((unhide HPR).po j hlt) ((unhide HPR).pn j hlt) |>.later (unhide HBW)
   have okq := ((unhide HPR).qo j hlt).later (unhide HBW)
   have hsm := nV (p j) (q j) wr.drew (okp.later ⟨rfl, rfl, rfl, Nat.le_refl _, fun _ _ => rfl⟩) (okq.later ⟨rfl, rfl, rfl, Nat.le_refl _, fun _ _ => rfl⟩) (by have := unhide HSZ j hlt; omega)
   rw [decide_eq_true ((unhide HPR).eq j hlt)] at hsm
   have hq := eqU8_any _ hG64
   have hZg : (Tryz.prog.info? 30).map (·.size) = some (U8 (E.getD j ([], [])).2).length := by rw [U8_length, hG64]; exact Tryz.szKSig
   generalize (E.getD j ([], [])).2 = G at *
   have hpv : (p j).v = .slice (p j).a (p j).n (p j).c := rfl
   have hqv : (q j).v = .slice (q j).a (q j).n (q j).c := rfl
   rw [hpv] at k1 hsm
   rw [hqv] at k3 hsm
   clear hIw r2 r4 keep okp okq hpv hqv hG64 hjE
   generalize (p j).a = pa at *
   generalize (p j).n = pn at *
   generalize (p j).c = pc at *
   generalize (q j).a = qa at *
   generalize (q j).n = qn at *
   generalize (q j).c = qc at *
   go_upto_region 8 with fail
   refine wp_region_noPanic ?_
   refine wp_region_held_drew (S := fun w' => w'.rangeAt g2 (j * 64) (U8 G) ∧ w'.rangeAt g4 (j * 64) (U8 G) ∧ w'.cell? ⟨g1, j, none⟩ = some (.slice pa pn pc) ∧ w'.cell? ⟨g3, j, none⟩ = some (.slice qa qn qc)) (by kernel_rfl) ⟨r2', r4', k1, k3⟩ (fun hHeld => ?_)
   refine tkS 0 (.slice (some ⟨g2, 0, none⟩) n c2) rfl hHeld ?_
   refine tkS 1 (.int .i64 (j : Int)) rfl hHeld ?_
   refine tkS 2 (.pointer (some ⟨g2, j * 64, none⟩)) rfl hHeld ?_
   refine tkY 3 _ rfl (yieldsIf_load_mid (by rfl) _ _ rfl _ _ rfl _ _ (fun _ h => h.1) Tryz.underlying30 rfl hZg) hHeld ?_
   refine tkS 4 (.slice (some ⟨g4, 0, none⟩) n c4) rfl hHeld ?_
   refine tkS 5 (.int .i64 (j : Int)) rfl hHeld ?_
   refine tkS 6 (.pointer (some ⟨g4, j * 64, none⟩)) rfl hHeld ?_
   refine tkY 7 _ rfl (yieldsIf_load_mid (by rfl) _ _ rfl _ _ rfl _ _ (fun _ h => h.2.1) Tryz.underlying30 rfl hZg) hHeld ?_
   refine tkS 8 (.bool false) rfl hHeld ?_
   refine tkS 9 (.bool false) rfl hHeld ?_
   refine tkS 10 (.slice (some ⟨g1, 0, none⟩) n c1) rfl hHeld ?_
   refine tkS 11 (.int .i64 (j : Int)) rfl hHeld ?_
   refine tkS 12 (.pointer (some ⟨g1, j, none⟩)) rfl hHeld ?_
   refine tkY 13 (.slice pa pn pc) rfl (Or.inl ⟨by rfl, fun w hSw => by have hx := hSw.2.2.1; go_simp⟩) hHeld ?_
   refine tkS 14 (.slice (some ⟨g3, 0, none⟩) n c3) rfl hHeld ?_
   refine tkS 15 (.int .i64 (j : Int)) rfl hHeld ?_
   refine tkS 16 (.pointer (some ⟨g3, j, none⟩)) rfl hHeld ?_
   refine tkY 17 (.slice qa qn qc) rfl (Or.inl ⟨by rfl, fun w hSw => by have hx := hSw.2.2.2; go_simp⟩) hHeld ?_
   refine rdY 18 rfl fun K hK => ?_
   go_simp
   refine hsm.mono ?_
   rintro e w5 ⟨rfl, kk, hw5⟩
   have hb5 : Below wr.heap.size wr w5 := by rw [hw5]; exact ⟨rfl, rfl, rfl, Nat.le_refl _, fun _ _ => rfl⟩
   have hkp : ∀ (x : Addr) (v : Value), wr.cell? x = some v → w5.cell? x = some v := fun x v h => (World.cell?_of_block (hb5.block x.block (World.block_lt_of_cell? wr _ h))).trans h
   refine hK.out _ _ ⟨fun i v hi => hkp _ _ (r2' i v hi), fun i v hi => hkp _ _ (r4' i v hi), hkp _ _ k1, hkp _ _ k3⟩ (fun hHeld => ?_)
   clear hK K hsm hkp r2' r4' k1 k3
   have HB5 := aA ((unhide HBW).trans (hb5.mono (unhide HBW).size))
   clear hb5 hw5 HBW
   refine tkS 19 (.bool false) rfl hHeld ?_
   refine tkS 20 (.bool false) rfl hHeld ?_
   refine wpAnyH_done (by kernel_rfl) ?_ _
   unfold NoPanic
   clear hHeld
   go_wp2
   go_roundw
   case rel => exact ⟨j + 1, by omega, by go_num, HB5⟩
   case measure => simp [intOf]; omega
  ·have hjn : ¬ ((j : Int) < (n : Int)) := by omega
   have hjd : decide ((j : Int) < (n : Int)) = false := by simpa using hjn
   have hI0 := (unhide HI).later (unhide HBW)
   have HI0 := aA hI0
   clear hI0 hj hlt HI HBW HR2 HR4 HEL H64
   generalize (j : Int) = ij at *
   go_wp2_with fail
   clear hjn hjd
   go_loopw [14] (fun i wr => ∃ j : Nat, j ≤ n ∧ i = .int .i64 j ∧ Hid (SgI w gS N P Q n lv wv (.slice a1 n c1) (.slice a3 n c3) vs us p q w0.heap.size w2 j wr)) (fun i _ => n - (intOf i).toNat)
   case atStart => exact ⟨0, by omega, rfl, HI0⟩
   case round =>
    clear HI0
    obtain ⟨j, hj, rfl, HI⟩ := hrel
    by_cases hlt : j < n
    ·obtain ⟨g1, rfl⟩ := hf1 (by omega)
     obtain ⟨g3, rfl⟩ := hf3 (by omega)
     have hjz : (j : Int) < (n : Int) := by omega
     have k1 := ((unhide HI).r1.cellAt j (by omega)).trans ((unhide HPR).vs j hlt)
     have k3 := ((unhide HI).r2.cellAt j (by omega)).trans ((unhide HPR).us j hlt)
     have HK : Hid (∀ W, SgI w gS N P Q n lv wv (.slice (some ⟨g1, 0, none⟩) n c1) (.slice (some ⟨g3, 0, none⟩) n c3) vs us p q w0.heap.size w2 (j + 1) W → W.cell? ⟨g1, j, none⟩ = some (p j).v ∧ W.cell? ⟨g3, j, none⟩ = some (q j).v) := aA (fun W h => ⟨(h.r1.cellAt j (by omega)).trans ((unhide HPR).vs j hlt), (h.r2.cellAt j (by omega)).trans ((unhide HPR).us j hlt)⟩)
     have hC := unhide HPUT j hlt wr.drew ((unhide HI).later ⟨rfl, rfl, rfl, Nat.le_refl _, fun _ _ => rfl⟩)
     have hpv : (p j).v = .slice (p j).a (p j).n (p j).c := rfl
     have hqv : (q j).v = .slice (q j).a (q j).n (q j).c := rfl
     rw [hpv] at k1 hC HK
     rw [hqv] at k3 hC HK
     clear hpv hqv
     go_upto_region 13 with fail
     refine wp_region_noPanic ?_
     refine wp_region_held_drew (S := fun w' => w'.cell? ⟨g1, j, none⟩ = some (.slice (p j).a (p j).n (p j).c) ∧ w'.cell? ⟨g3, j, none⟩ = some (.slice (q j).a (q j).n (q j).c)) (by kernel_rfl) ⟨k1, k3⟩ (fun hHeld => ?_)
     clear k1 k3
     refine tkS 0 (.pointer (some ⟨gS, 0, none⟩)) rfl hHeld ?_
     refine tkS 1 (.slice (some ⟨g1, 0, none⟩) n c1) rfl hHeld ?_
     refine tkS 2 (.int .i64 (j : Int)) rfl hHeld ?_
     refine tkS 3 (.pointer (some ⟨g1, j, none⟩)) rfl hHeld ?_
     refine tkY 4 (.slice (p j).a (p j).n (p j).c) rfl (Or.inl ⟨by rfl, fun w hSw => by have hx := hSw.1; go_simp⟩) hHeld ?_
     refine tkS 5 (.slice (some ⟨g3, 0, none⟩) n c3) rfl hHeld ?_
     refine tkS 6 (.int .i64 (j : Int)) rfl hHeld ?_
     refine tkS 7 (.pointer (some ⟨g3, j, none⟩)) rfl hHeld ?_
     refine tkY 8 (.slice (q j).a (q j).n (q j).c) rfl (Or.inl ⟨by rfl, fun w hSw => by have hx := hSw.2; go_simp⟩) hHeld ?_
     refine rdY 9 rfl fun K hK => ?_
     go_simp
     refine hC.mono ?_
     rintro e w5 ⟨rfl, hI5⟩
     refine hK.out _ _ (unhide HK _ hI5) (fun hHeld => ?_)
     have HI5 := aA hI5
     clear hK K hC hI5 HI HK
     refine tkS 10 (.bool false) rfl hHeld ?_
     refine wpAnyH_done (by kernel_rfl) ?_ _
     unfold NoPanic
     clear hHeld
     go_wp2
     go_roundw
     case rel => exact ⟨j + 1, by omega, by go_num, HI5⟩
     case measure => simp [intOf]; omega
    ·have hjn : ¬ ((j : Int) < (n : Int)) := by omega
     have hjd : decide ((j : Int) < (n : Int)) = false := by simpa using hjn
     obtain rfl : j = n := by omega
     have HE := aA (unhide HFIN wr (unhide HI))
     clear HI
     go_wp2
     go_ret
     exact ⟨rfl, unhide HE⟩
theorem mU {s : Nat → Kd} {N o : Nat} (ho : o + 99 ≤ N) (hs : ∀ i, i < 99 → s (o + i) = aD i) : PartEq Tryz.prog 9999 s N 32 o 99 := by
  intro x y w hx hy
  have e : ∀ x : Nat → Int, (cl (fun i => s (o + i)) 99 (sft o x)) = cl aD 99 (sft o x) := fun x => by
    unfold cl
    apply List.map_congr_left
    intro i hi
    show (s (o + i)).v _ = _
    rw [hs i (List.mem_range.1 hi)]
  have h1 := nX (s := s) (N := N) Tryz.underlying32 rfl Tryz.szKCert ho x w
  have h2 := nX (s := s) (N := N) Tryz.underlying32 rfl Tryz.szKCert ho y w
  rw [e] at h1 h2
  refine ⟨_, _, h1, h2, ?_⟩
  exact fJ (N := 99) (d := 9998) (ms := [1, 1, 1, 32, 64]) Tryz.underlying32 (by kernel_rfl)
    ⟨by decide, rfl, dU (d := 9997) Tryz.underlying3 (by decide) rfl, by decide, rfl, dU (d := 9997) Tryz.underlying3 (by decide) rfl, by decide, rfl, dU (d := 9997) Tryz.underlying2 (by decide) rfl,
     by decide, rfl, cX (d := 9996) Tryz.underlying28 Tryz.underlying5 Tryz.sz1e Tryz.szKHash (by decide) (fun i hi => by unfold aD; rw [if_neg (by omega)]),
     by decide, rfl, cX (d := 9996) Tryz.underlying30 Tryz.underlying5 Tryz.sz1e Tryz.szKSig (by decide) (fun i hi => by unfold aD; rw [if_neg (by omega)]), trivial⟩ rfl _ _ w
    (fun i hi => by have := hx (o + i) (by omega); rw [hs i hi] at this; exact this) (fun i hi => by have := hy (o + i) (by omega); rw [hs i hi] at this; exact this)
theorem ag_self (n : Nat) (x : Nat → Int) : ag n x x = true := by unfold ag; simp
theorem eqTicket_any (x y : Nat → Int) (w : World) (hx : ∀ i, i < 132 → (aS i).ok (x i)) (hy : ∀ i, i < 132 → (aS i).ok (y i)) : (Op.equalIn 10000 57 (.agg (cl aS 132 x).toArray) (.agg (cl aS 132 y).toArray)).run Tryz.prog w = .ok (ag 132 x y) w :=
 fJ (d := 9999) (ms := [99, 1, 32]) Tryz.underlying57 (by kernel_rfl)
  ⟨by decide, rfl, mU (by decide) (fun i hi => by unfold aS; rw [if_pos (by omega), Nat.zero_add]), by decide, rfl, dU (d := 9998) Tryz.underlying3 (by decide) rfl, by decide, rfl, cX (d := 9997) Tryz.underlying28 Tryz.underlying5 Tryz.sz1e Tryz.szKHash (by decide) (fun i hi => by unfold aS; (repeat (first | rw [if_pos (by omega)] | rw [if_neg (by omega)]))), trivial⟩ rfl x y w hx hy
theorem eqEntry_any (x y : Nat → Int) (w : World) (hx : ∀ i, i < 262 → (aI i).ok (x i)) (hy : ∀ i, i < 262 → (aI i).ok (y i)) : (Op.equalIn 10000 61 (.agg (cl aI 262 x).toArray) (.agg (cl aI 262 y).toArray)).run Tryz.prog w = .ok (ag 262 x y) w :=
 fJ (d := 9999) (ms := [99, 1, 32, 1, 64, 1, 64]) Tryz.underlying61 (by kernel_rfl)
  ⟨by decide, rfl, mU (by decide) (fun i hi => by unfold aI; rw [if_pos (by omega), Nat.zero_add]), by decide, rfl, dU (d := 9998) Tryz.underlying3 (by decide) rfl, by decide, rfl, cX (d := 9997) Tryz.underlying28 Tryz.underlying5 Tryz.sz1e Tryz.szKHash (by decide) (fun i hi => by unfold aI; (repeat (first | rw [if_pos (by omega)] | rw [if_neg (by omega)]))), by decide, rfl, part_bool (d := 9998) Tryz.underlying4 (by decide) rfl, by decide, rfl, cX (d := 9997) Tryz.underlying30 Tryz.underlying5 Tryz.sz1e Tryz.szKSig (by decide) (fun i hi => by unfold aI; (repeat (first | rw [if_pos (by omega)] | rw [if_neg (by omega)]))), by decide, rfl, part_bool (d := 9998) Tryz.underlying4 (by decide) rfl, by decide, rfl, cX (d := 9997) Tryz.underlying30 Tryz.underlying5 Tryz.sz1e Tryz.szKSig (by decide) (fun i hi => by unfold aI; (repeat (first | rw [if_pos (by omega)] | rw [if_neg (by omega)]))), trivial⟩ rfl x y w hx hy
theorem eqFreeze_any (x y : Nat → Int) (w : World) (hx : ∀ i, i < 163 → (aR i).ok (x i)) (hy : ∀ i, i < 163 → (aR i).ok (y i)) : (Op.equalIn 10000 65 (.agg (cl aR 163 x).toArray) (.agg (cl aR 163 y).toArray)).run Tryz.prog w = .ok (ag 163 x y) w :=
 fJ (d := 9999) (ms := [99, 64]) Tryz.underlying65 (by kernel_rfl)
  ⟨by decide, rfl, mU (by decide) (fun i hi => by unfold aR; rw [if_pos (by omega), Nat.zero_add]), by decide, rfl, cX (d := 9997) Tryz.underlying30 Tryz.underlying5 Tryz.sz1e Tryz.szKSig (by decide) (fun i hi => by unfold aR; (repeat (first | rw [if_pos (by omega)] | rw [if_neg (by omega)]))), trivial⟩ rfl x y w hx hy
theorem eqAck_any (x y : Nat → Int) (w : World) (hx : ∀ i, i < 99 → (bI i).ok (x i)) (hy : ∀ i, i < 99 → (bI i).ok (y i)) : (Op.equalIn 10000 69 (.agg (cl bI 99 x).toArray) (.agg (cl bI 99 y).toArray)).run Tryz.prog w = .ok (ag 99 x y) w :=
 fJ (d := 9999) (ms := [1, 1, 1, 32, 64]) Tryz.underlying69 (by kernel_rfl)
  ⟨by decide, rfl, dU (d := 9998) Tryz.underlying3 (by decide) rfl, by decide, rfl, dU (d := 9998) Tryz.underlying3 (by decide) rfl, by decide, rfl, dU (d := 9998) Tryz.underlying3 (by decide) rfl, by decide, rfl, cX (d := 9997) Tryz.underlying28 Tryz.underlying5 Tryz.sz1e Tryz.szKHash (by decide) (fun i hi => by unfold bI; (repeat (first | rw [if_pos (by omega)] | rw [if_neg (by omega)]))), by decide, rfl, cX (d := 9997) Tryz.underlying30 Tryz.underlying5 Tryz.sz1e Tryz.szKSig (by decide) (fun i hi => by unfold bI; (repeat (first | rw [if_pos (by omega)] | rw [if_neg (by omega)]))), trivial⟩ rfl x y w hx hy
theorem rS (x y : Nat → Int) (w : World) (hx : ∀ i, i < 163 → (aG i).ok (x i)) (hy : ∀ i, i < 163 → (aG i).ok (y i)) : (Op.equalIn 10000 72 (.agg (cl aG 163 x).toArray) (.agg (cl aG 163 y).toArray)).run Tryz.prog w = .ok (ag 163 x y) w :=
 fJ (d := 9999) (ms := [99, 64]) Tryz.underlying72 (by kernel_rfl)
  ⟨by decide, rfl, mU (by decide) (fun i hi => by unfold aG; rw [if_pos (by omega), Nat.zero_add]), by decide, rfl, cX (d := 9997) Tryz.underlying30 Tryz.underlying5 Tryz.sz1e Tryz.szKSig (by decide) (fun i hi => by unfold aG; (repeat (first | rw [if_pos (by omega)] | rw [if_neg (by omega)]))), trivial⟩ rfl x y w hx hy
theorem eqFloor_any (x y : Nat → Int) (w : World) (hx : ∀ i, i < 65 → (aU i).ok (x i)) (hy : ∀ i, i < 65 → (aU i).ok (y i)) : (Op.equalIn 10000 76 (.agg (cl aU 65 x).toArray) (.agg (cl aU 65 y).toArray)).run Tryz.prog w = .ok (ag 65 x y) w :=
 fJ (d := 9999) (ms := [1, 64]) Tryz.underlying76 (by kernel_rfl)
  ⟨by decide, rfl, dU (d := 9998) Tryz.underlying3 (by decide) rfl, by decide, rfl, cX (d := 9997) Tryz.underlying30 Tryz.underlying5 Tryz.sz1e Tryz.szKSig (by decide) (fun i hi => by unfold aU; (repeat (first | rw [if_pos (by omega)] | rw [if_neg (by omega)]))), trivial⟩ rfl x y w hx hy
theorem eqReceipt_any (x y : Nat → Int) (w : World) (hx : ∀ i, i < 67 → (aK i).ok (x i)) (hy : ∀ i, i < 67 → (aK i).ok (y i)) : (Op.equalIn 10000 80 (.agg (cl aK 67 x).toArray) (.agg (cl aK 67 y).toArray)).run Tryz.prog w = .ok (ag 67 x y) w :=
 fJ (d := 9999) (ms := [1, 1, 1, 64]) Tryz.underlying80 (by kernel_rfl)
  ⟨by decide, rfl, dU (d := 9998) Tryz.underlying3 (by decide) rfl, by decide, rfl, dU (d := 9998) Tryz.underlying3 (by decide) rfl, by decide, rfl, dU (d := 9998) Tryz.underlying2 (by decide) rfl, by decide, rfl, cX (d := 9997) Tryz.underlying30 Tryz.underlying5 Tryz.sz1e Tryz.szKSig (by decide) (fun i hi => by unfold aK; (repeat (first | rw [if_pos (by omega)] | rw [if_neg (by omega)]))), trivial⟩ rfl x y w hx hy
theorem eqOrder_any (x y : Nat → Int) (w : World) (hx : ∀ i, i < 34 → (bD i).ok (x i)) (hy : ∀ i, i < 34 → (bD i).ok (y i)) : (Op.equalIn 10000 84 (.agg (cl bD 34 x).toArray) (.agg (cl bD 34 y).toArray)).run Tryz.prog w = .ok (ag 34 x y) w :=
 fJ (d := 9999) (ms := [1, 1, 32]) Tryz.underlying84 (by kernel_rfl)
  ⟨by decide, rfl, dU (d := 9998) Tryz.underlying3 (by decide) rfl, by decide, rfl, dU (d := 9998) Tryz.underlying2 (by decide) rfl, by decide, rfl, cX (d := 9997) Tryz.underlying28 Tryz.underlying5 Tryz.sz1e Tryz.szKHash (by decide) (fun i hi => by unfold bD; (repeat (first | rw [if_pos (by omega)] | rw [if_neg (by omega)]))), trivial⟩ rfl x y w hx hy
theorem eqHead_any (x y : Nat → Int) (w : World) (hx : ∀ i, i < 97 → (bE i).ok (x i)) (hy : ∀ i, i < 97 → (bE i).ok (y i)) : (Op.equalIn 10000 88 (.agg (cl bE 97 x).toArray) (.agg (cl bE 97 y).toArray)).run Tryz.prog w = .ok (ag 97 x y) w :=
 fJ (d := 9999) (ms := [1, 32, 64]) Tryz.underlying88 (by kernel_rfl)
  ⟨by decide, rfl, dU (d := 9998) Tryz.underlying3 (by decide) rfl, by decide, rfl, cX (d := 9997) Tryz.underlying28 Tryz.underlying5 Tryz.sz1e Tryz.szKHash (by decide) (fun i hi => by unfold bE; (repeat (first | rw [if_pos (by omega)] | rw [if_neg (by omega)]))), by decide, rfl, cX (d := 9997) Tryz.underlying30 Tryz.underlying5 Tryz.sz1e Tryz.szKSig (by decide) (fun i hi => by unfold bE; (repeat (first | rw [if_pos (by omega)] | rw [if_neg (by omega)]))), trivial⟩ rfl x y w hx hy
end Go.Proofs.YtejagcngbgnogaaGreat
