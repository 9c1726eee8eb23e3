import Derived.Test.YtejagcngbgnogaaGreatQShr
import Derived.Test.YtejagcngbgnogaaGreatQGbnZ
import Derived.Test.YtejagcngbgnogaaGreatQGbgZ
import Derived.Test.YtejagcngbgnogaaGreatQGbhZ
import Derived.Test.YtejagcngbgnogaaGreatQGamZ
import Derived.Test.YtejagcngbgnogaaGreatQAccX
import Derived.Test.YtejagcngbgnogaaGreatQGalZ
import Derived.Test.YtejagcngbgnogaaGreatQGaqZ
set_option maxHeartbeats 4000000
set_option maxRecDepth 100000
set_option linter.unusedSimpArgs false
set_option linter.unusedVariables false
namespace Go.Proofs.YtejagcngbgnogaaGreat
open Go.RowKit
structure PutS (lv wv : Value) (gS : Nat) (lv' wv' : Value) (w w' : World) : Prop where
 but : But3 lv.ownBlock wv.ownBlock gS w w'
 l : lv'.ownBlock = lv.ownBlock ∨ ∃ k, lv'.ownBlock = some k ∧ w.heap.size ≤ k
 r : wv'.ownBlock = wv.ownBlock ∨ ∃ k, wv'.ownBlock = some k ∧ w.heap.size ≤ k
theorem PutS.refl (lv wv : Value) (gS : Nat) (w : World) : PutS lv wv gS lv wv w w := ⟨⟨rfl, rfl, rfl, Nat.le_refl _, fun _ _ _ _ _ => rfl⟩, .inl rfl, .inl rfl⟩
theorem PutS.trans {lv wv lv1 wv1 lv2 wv2 : Value} {gS : Nat} {a b c : World} (h : PutS lv wv gS lv1 wv1 a b) (k : PutS lv1 wv1 gS lv2 wv2 b c) : PutS lv wv gS lv2 wv2 a c := by
 refine ⟨⟨k.but.os.trans h.but.os, k.but.tape.trans h.but.tape, k.but.output.trans h.but.output, Nat.le_trans h.but.size k.but.size, fun i hi h1 h2 h3 => ?_⟩, ?_, ?_⟩
 ·refine (k.but.block i (Nat.lt_of_lt_of_le hi h.but.size) (fun e => ?_) (fun e => ?_) h3).trans (h.but.block i hi h1 h2 h3)
  ·rcases h.l with h4 | ⟨k4, h4, h5⟩
   ·exact h1 (e.trans h4)
   ·rw [h4] at e; simp only [Option.some.injEq] at e; omega
  ·rcases h.r with h4 | ⟨k4, h4, h5⟩
   ·exact h2 (e.trans h4)
   ·rw [h4] at e; simp only [Option.some.injEq] at e; omega
 ·rcases k.l with h4 | ⟨k4, h4, h5⟩
  ·rw [h4]; exact h.l
  ·exact .inr ⟨k4, h4, Nat.le_trans h.but.size h5⟩
 ·rcases k.r with h4 | ⟨k4, h4, h5⟩
  ·rw [h4]; exact h.r
  ·exact .inr ⟨k4, h4, Nat.le_trans h.but.size h5⟩
theorem PutS.later {lv wv lv' wv' : Value} {gS : Nat} {a b c : World} (h : PutS lv wv gS lv' wv' a b) (hb : Below b.heap.size b c) : PutS lv wv gS lv' wv' a c :=
 h.trans ⟨⟨hb.os, hb.tape, hb.output, hb.size, fun k hk _ _ _ => hb.block k hk⟩, .inl rfl, .inl rfl⟩
theorem PutS.before {lv wv lv' wv' : Value} {gS : Nat} {a b c : World} (hb : Below a.heap.size a b) (h : PutS lv wv gS lv' wv' b c) : PutS lv wv gS lv' wv' a c :=
 (PutS.trans (⟨⟨hb.os, hb.tape, hb.output, hb.size, fun k hk _ _ _ => hb.block k hk⟩, .inl rfl, .inl rfl⟩ : PutS lv wv gS lv wv a b) h)
theorem kE {w : World} {base : Nat} {s : Sl} (h : cI w base s.v s.l) (hn : s.n = s.l.length) : s.Ok w := by
 obtain ⟨t, ht, hok, hl, hm, -⟩ := iH h.1 h.2
 have : s = t := by
  obtain ⟨sa, sn, sc, sl⟩ := s
  obtain ⟨ta, tn, tc, tl⟩ := t
  simp only [Sl.v, Value.slice.injEq] at ht
  simp only at hl
  obtain ⟨rfl, rfl, rfl⟩ := ht
  subst hl
  rfl
 rw [this]; exact hok
theorem put_any {w : World} {gS N : Nat} {P Q : Nat → Sl} {lv wv : Value} {wr : World} (h : Shf w gS N P Q lv wv wr) (p q : Sl) (hpe : Pend w gS N P Q lv wv p q wr) (he : p.l = q.l) (hn : p.n ≤ 100000) (hN : N ≤ 5800000000000) :
    Calls Tryz.prog 8 #[.pointer (some ⟨gS, 0, none⟩), p.v, q.v] wr fun e w' => e = .returned (.bool true) ∧
      (∃ lv' wv', Shf w gS (N + 1) (fun i => if i = N then p else P i) (fun i => if i = N then q else Q i) lv' wv' w' ∧ (∀ p' q', Pend w gS N P Q lv wv p' q' wr → (∀ g, p'.v.ownBlock = some g → p.v.ownBlock ≠ some g) → (∀ g, p.v.ownBlock = some g → q'.Off (some g)) → (∀ g, p'.v.ownBlock = some g → q.Off (some g)) → Pend w gS (N + 1) (fun i => if i = N then p else P i) (fun i => if i = N then q else Q i) lv' wv' p' q' w') ∧ PutS lv wv gS lv' wv' wr w') := by
  obtain ⟨i0, hii, hz0, hz1, hz2⟩ := info_parts Tryz.infoZ
  have cl : wr.cell? ⟨gS, 0, none⟩ = some lv := by rw [h.s.cell]; rfl
  have cw : wr.cell? ⟨gS, 1, none⟩ = some wv := by rw [h.s.cell]; rfl
  have fz0 := h.s.frozen 0
  have fz1 := h.s.frozen 1
  have hlr := h.lrow
  have hwr := h.wrow
  have hsz := h.bel.size
  have HS := aA h.s
  have HAP := aA h.apt
  have HH := aA h
  have HPE := aA hpe
  clear h hpe
  obtain ⟨pa, pn, pc, pl⟩ := p
  obtain ⟨qa, qn, qc, ql⟩ := q
  simp only [Sl.v]
  go_enter Tryz.func8, Tryz.ntmps8
  have hgl : some gS ≠ lv.ownBlock := cF hlr (unhide HS) (by decide)
  have hgw : some gS ≠ wv.ownBlock := cF hwr (unhide HS) (by decide)
  have hlt : gS < wr.heap.size := (unhide HS).lt
  go_wp2_with (first
    | (at_builtin
       refine eG rfl (.tmp 11) (.tmp 13) 24 rfl w.heap.size 33 i0 (.slice none 0 0) 1 24 Tryz.underlying24 hii hz0 hz1 hz2 rfl (by decide) lv N (gB P N) rfl (hlr.alloc _) ⟨wr.heap.size, 0, none⟩ 1 1 [.slice pa pn pc] rfl rfl (fX (Arr.new _ 33 _)) (by intro u hu; simp at hu; subst hu; rfl) (by unfold maxLen; omega) (by omega) (by simp; omega) ?_
       intro lv1 w1 hl1 hg1 ha1
       obtain ⟨g1, c1, rfl, -, -⟩ := (unhide hl1).form (by omega)
       have hA1 : Arr w1 gS 26 [lv, wv] := ((unhide hg1).block gS (by simp; omega) hgl).trans ((unhide HS).alloc _)
       have k1 : w1.cell? ⟨gS, 0, none⟩ = some lv := by rw [hA1.cell]; rfl
       have f1 := hA1.frozen 0
       obtain ⟨W2, hW2⟩ : ∃ W2, W2 = w1.setCell ⟨gS, 0, none⟩ (.slice (some ⟨g1, 0, none⟩) (N + 1) c1) := ⟨_, rfl⟩
       have hA2 : Arr W2 gS 26 [.slice (some ⟨g1, 0, none⟩) (N + 1) c1, wv] := by rw [hW2]; exact hA1.set 0 _
       have hw2 : W2.ownsRow w.heap.size 33 1 wv N (gB Q N) := by
         rw [hW2]; exact ownsRow_setCell_other ((hwr.alloc _).kept (unhide hg1) (unhide HAP).symm) (Ne.symm hgw) _
       have hl2 : W2.ownsRow w.heap.size 33 1 (.slice (some ⟨g1, 0, none⟩) (N + 1) c1) (N + 1) (gB P N ++ [.slice pa pn pc]) := by
         rw [hW2]; exact ownsRow_setCell_other (unhide hl1) (fun e => cF (unhide hl1) hA1 (by decide) e.symm) _
       have k2 : W2.cell? ⟨gS, 1, none⟩ = some wv := by rw [hA2.cell]; rfl
       have f2 := hA2.frozen 1
       have hs2 : wr.heap.size ≤ W2.heap.size := by rw [hW2]; have := (unhide hg1).size; simp at this ⊢; omega
       have HB2 : Hid (But3 lv.ownBlock wv.ownBlock gS wr W2) := by
         show But3 _ _ _ _ _
         refine ⟨by rw [hW2]; exact (unhide hg1).os, by rw [hW2]; exact (unhide hg1).tape, by rw [hW2]; exact (unhide hg1).output, hs2, fun k hk h1 _ h3 => ?_⟩
         rw [hW2, heap_setCell_other w1 ⟨gS, 0, none⟩ k _ h3, (unhide hg1).block k (by simp; omega) h1]
         exact Below.heap_alloc wr _ k hk
       have HA1 : Hid (Apt (.slice (some ⟨g1, 0, none⟩) (N + 1) c1) wv) := Apt.grown (unhide HAP) (hwr.alloc _) (unhide ha1)
       have HLB : Hid ((Value.slice (some ⟨g1, 0, none⟩) (N + 1) c1).ownBlock = lv.ownBlock ∨ ∃ k, (Value.slice (some ⟨g1, 0, none⟩) (N + 1) c1).ownBlock = some k ∧ wr.heap.size ≤ k) := by
         rcases unhide ha1 with e | e
         · exact Or.inl e
         · exact Or.inr ⟨_, e, by simp⟩
       have HW2 := aA hW2
       have HA2 := aA hA2
       have HL2 := aA hl2
       clear hl1 hg1 ha1 hA1 hA2 hW2 hl2)
    | rw [← unhide HW2]
    | (at_builtin
       refine eG rfl (.tmp 21) (.tmp 23) 24 rfl w.heap.size 33 i0 (.slice none 0 0) 1 24 Tryz.underlying24 hii hz0 hz1 hz2 rfl (by decide) wv N (gB Q N) rfl (hw2.alloc _) ⟨W2.heap.size, 0, none⟩ 1 1 [.slice qa qn qc] rfl rfl (fX (Arr.new _ 33 _)) (by intro u hu; simp at hu; subst hu; rfl) (by unfold maxLen; omega) (by omega) (by simp; omega) ?_
       intro wv1 w3 hl3 hg3 ha3
       obtain ⟨g3, c3, rfl, -, -⟩ := (unhide hl3).form (by omega)
       have hA3 : Arr w3 gS 26 [.slice (some ⟨g1, 0, none⟩) (N + 1) c1, wv] := ((unhide hg3).block gS (by simp; omega) hgw).trans ((unhide HA2).alloc _)
       have k3 : w3.cell? ⟨gS, 1, none⟩ = some wv := by rw [hA3.cell]; rfl
       have f3 := hA3.frozen 1
       obtain ⟨W4, hW4⟩ : ∃ W4, W4 = w3.setCell ⟨gS, 1, none⟩ (.slice (some ⟨g3, 0, none⟩) (N + 1) c3) := ⟨_, rfl⟩
       have HA4 : Hid (Arr W4 gS 26 [.slice (some ⟨g1, 0, none⟩) (N + 1) c1, .slice (some ⟨g3, 0, none⟩) (N + 1) c3]) := by show Arr _ _ _ _; rw [hW4]; exact hA3.set 1 _
       have HL4 : Hid (W4.ownsRow w.heap.size 33 1 (.slice (some ⟨g1, 0, none⟩) (N + 1) c1) (N + 1) (gB P N ++ [.slice pa pn pc])) := by
         show World.ownsRow _ _ _ _ _ _ _
         rw [hW4]; exact ownsRow_setCell_other (((unhide HL2).alloc _).kept (unhide hg3) (unhide HA1)) (fun e => cF (((unhide HL2).alloc _).kept (unhide hg3) (unhide HA1)) hA3 (by decide) e.symm) _
       have HV4 : Hid (W4.ownsRow w.heap.size 33 1 (.slice (some ⟨g3, 0, none⟩) (N + 1) c3) (N + 1) (gB Q N ++ [.slice qa qn qc])) := by
         show World.ownsRow _ _ _ _ _ _ _
         rw [hW4]; exact ownsRow_setCell_other (unhide hl3) (fun e => cF (unhide hl3) hA3 (by decide) e.symm) _
       have HB4 : Hid (But3 lv.ownBlock wv.ownBlock gS wr W4) := by
         have hb2 := unhide HB2
         show But3 _ _ _ _ _
         refine ⟨by rw [hW4]; exact (unhide hg3).os.trans hb2.os, by rw [hW4]; exact (unhide hg3).tape.trans hb2.tape, by rw [hW4]; exact (unhide hg3).output.trans hb2.output, ?_, fun k hk h1 h2 h3 => ?_⟩
         · rw [hW4]; have := (unhide hg3).size; simp at this ⊢; omega
         · rw [hW4, heap_setCell_other w3 ⟨gS, 1, none⟩ k _ h3, (unhide hg3).block k (by simp; omega) h2, Below.heap_alloc W2 _ k (by omega)]
           exact hb2.block k hk h1 h2 h3
       have HAP4 : Hid (Apt (.slice (some ⟨g1, 0, none⟩) (N + 1) c1) (.slice (some ⟨g3, 0, none⟩) (N + 1) c3)) := (Apt.grown (unhide HA1).symm ((unhide HL2).alloc _) (unhide ha3)).symm
       have HWB : Hid ((Value.slice (some ⟨g3, 0, none⟩) (N + 1) c3).ownBlock = wv.ownBlock ∨ ∃ k, (Value.slice (some ⟨g3, 0, none⟩) (N + 1) c3).ownBlock = some k ∧ wr.heap.size ≤ k) := by
         rcases unhide ha3 with e | e
         · exact Or.inl e
         · exact Or.inr ⟨_, e, by simp; omega⟩
       have HW4 := aA hW4
       clear hl3 hg3 ha3 hA3 hW4 hw2 HL2 HA2 HB2 HW2)
    | rw [← unhide HW4])
  obtain ⟨hS4, hP4⟩ := Shf.put (unhide HH) (unhide HPE) he hn (unhide HB4) (unhide HA4) (unhide HL4) (unhide HV4) (unhide HAP4) (unhide HLB) (unhide HWB)
  have okp : Sl.Ok W4 ⟨pa, pn, pc, pl⟩ := by
    have := hS4.p N (by omega)
    simp only [if_true] at this
    exact kE this (unhide HPE).pn
  have okq := hS4.q N (by omega)
  simp only [if_true] at okq
  have hsm := nV ⟨pa, pn, pc, pl⟩ ⟨qa, qn, qc, ql⟩ W4 okp okq (by show pn ≤ _; have h : pn ≤ 100000 := hn; omega)
  rw [decide_eq_true he] at hsm
  refine hsm.mono ?_
  rintro e w5 ⟨rfl, kk, rfl⟩
  go_wp2
  go_ret
  have hB := unhide HB4
  exact ⟨rfl, ⟨_, _, hS4.later (cN (Below.refl _ _) kk), fun p' q' h0 h1 h2 h3 => (hP4 p' q' h0 h1 h2 h3).later (cN (Below.refl _ _) kk), ⟨⟨hB.os, hB.tape, hB.output, hB.size, hB.block⟩, unhide HLB, unhide HWB⟩⟩⟩
def QNo (k : Int) (w : World) (e : Ending) (w' : World) : Prop := e = .returned (.tuple #[.slice none 0 0, .int .i64 k]) ∧ Below w.heap.size w w'
set_option maxHeartbeats 2000000
def SNo (k : Int) (w : World) (e : Ending) (w' : World) : Prop := e = .returned (.tuple #[.slice none 0 0, .slice none 0 0, .int .i64 k]) ∧ Below w.heap.size w w'
theorem said_far (b : Sl) (w : World) (hb : b.Ok w) (k : Int) (hk : k ≠ 0) (hd : (domL b.l).2 = k) : Calls Tryz.prog 83 #[b.v] w (SNo k w) := by
 have hDm := lT b w hb
 rw [hd] at hDm
 generalize (domL b.l).1 = d at *
 clear hd hb
 have hbv : b.v = .slice b.a b.n b.c := rfl
 rw [hbv] at hDm ⊢
 clear hbv
 go_enter Tryz.func83, Tryz.ntmps83
 go_wp2_with fail
 refine hDm.mono ?_
 rintro e w1 ⟨rfl, hB1⟩
 have HB := aA hB1
 clear hB1 hDm
 go_wp2
 go_ret3
 exact ⟨rfl, unhide HB⟩
theorem said_no (b : Sl) (w : World) (hb : b.Ok w) (d k : Int) (hk : k ≠ 0) (hd : domL b.l = (d, 0)) (hQ : ∀ W, Below w.heap.size w W → Calls Tryz.prog 151 #[.int .i64 d, b.v] W (QNo k W)) : Calls Tryz.prog 83 #[b.v] w (SNo k w) := by
 have hDm := lT b w hb
 rw [hd] at hDm
 simp only at hDm
 clear hd hb
 have hbv : b.v = .slice b.a b.n b.c := rfl
 rw [hbv] at hDm hQ ⊢
 clear hbv
 go_enter Tryz.func83, Tryz.ntmps83
 go_wp2_with fail
 refine hDm.mono ?_
 rintro e w1 ⟨rfl, hB1⟩
 have hC := hQ w1 hB1
 clear hDm hQ
 go_wp2_with fail
 refine hC.mono ?_
 rintro e w2 ⟨rfl, hB2⟩
 have HB := aA (hB1.trans (hB2.mono hB1.size))
 clear hB1 hB2 hC
 go_wp2
 go_ret3
 exact ⟨rfl, unhide HB⟩
section
theorem rs12 {G : Prop} (h : G := by
 have hfk : aY.take 3 = aY := rfl
 rw [hfk] at hG
 have c2 : w2.cell? ⟨w.heap.size, 2, none⟩ = some (.slice (some ⟨g, 0, none⟩) 3 3) := hSt2.a0.cell 2
 have ST2 := aA hSt2
 have HK2 := aA hK2
 have HNS := aA hnS
 have HSL := aA (hsl.trans (unhide HL1))
 have HP : Hid (w.heap.size + 3 < p) := aA (by omega)
 clear hR hRd hsl hpw hsx hB2 hSt2 hlt hK2 hnS hTr hfk ST c0 HL1
 go_wp2_with fail
 refine hG.mono ?_
 rintro e w3 ⟨rfl, t, fl, x, hR3⟩
 have hSt3 := (unhide ST2).got hR3.but (unhide HP) hR3.trm.arr
 have hK3 : Kept S w0 w3 := (unhide HK2).buts hR3.but (fun i hi hs => by
  rcases hs with rfl | rfl
  ·exact unhide HNS _ (by have := unhide HP; omega) hi
  ·exact unhide HNS _ (by omega) hi)
 have hDn := fS p t fl w3 hR3.rdr
 have hF := oL (n := 3) (c := 3) (unhide HT) (by rw [unhide HN]; decide) (Nat.le_refl _) (by decide) w3 (w.heap.size + 3) 57 aS 132 x 0 hK3 hR3.trm ⟨by omega, fun j hj => by rw [Nat.zero_add]⟩
 have hfk : aY.take 3 = aY := rfl
 exact sh2) : G := h
open Go.Proofs.YtejagcngbgnogaaGreat renaming nq3 → z2a, aS → z2b, nq132 → z2c, nq57 → z2d, aY → z2f, iO → z2dQ, nq57 → z8a, iO → z8aQ, aY → z24a, nq57 → z24b, iO → z24bQ, aY → z113a, dN → z133a, nq162 → z133b, nq57 → z133c, nq3 → z133d, aY → z133h, aS → z133i, nq132 → z133j, getAll_Ticket → z133k, iO → z133cQ, nqe3 → z133dQ, fV → z133jQ, rs12 → z133rr
open Go.Proofs.YtejagcngbgnogaaGreat.Tryz renaming szTTicket → z2e, szTTicket → z133e
open Go.Proofs.Tryz renaming underlying57 → z2g, underlying57 → z8b, underlying57 → z24c, func137 → z133f, ntmps137 → z133g
theorem lL {S : Nat → Prop} {w0 : World} {tyF : TypeId} {g : Nat} {vs : List FV} (hTab : Tab S w0 aS 132 aY tyF g vs) (w : World) (dom sgn : Int) (b : Sl) (hbo : b.Ok w) (hb : Kept S w0 w) :
  Calls Tryz.prog 137 #[.agg #[.int .i64 dom, .int .i64 sgn, .slice (some ⟨g, 0, none⟩) 3 3], b.v] w (bU dom (aB aY) aS 132 b.l w) := kP
theorem rs37 {G : Prop} (h : G := by
 refine (iW W).mono ?_
 rintro e w1 ⟨g, vs, rfl, hTab, hB1⟩
 have hfl : aY.length = 3 := rfl
 exact sh14) : G := h
open Go.Proofs.YtejagcngbgnogaaGreat renaming nq57 → z14a, dN → z137a, nq57 → z137b, aS → z137c, nq132 → z137d, aY → z137e, nq256 → z137f, lL → z137g, nq2 → z137h, nq0 → z137i, fV → z137dQ, lG → z137fQ, nqe2 → z137hQ, nqe0 → z137iQ, rs37 → z137rr
open Go.Proofs.YtejagcngbgnogaaGreat.Tryz renaming szTTicket → z14b
open Go.Proofs.Tryz renaming underlying57 → z14c, func65 → z137j, ntmps65 → z137k
theorem mI (b : Sl) (w : World) (hbo : b.Ok w) :
  Calls Tryz.prog 65 #[b.v] w (bU 2 (aB aY) aS 132 b.l w) := kO
end
end Go.Proofs.YtejagcngbgnogaaGreat

set_option maxHeartbeats 2000000
set_option maxRecDepth 100000
set_option linter.unusedSimpArgs false
namespace Go.Proofs.YtejagcngbgnogaaGreat
open Go.RowKit
section
theorem rs13 {G : Prop} (h : G := by
 have hfk : aT.take 5 = aT := rfl
 rw [hfk] at hG
 have c2 : w2.cell? ⟨w.heap.size, 2, none⟩ = some (.slice (some ⟨g, 0, none⟩) 5 5) := hSt2.a0.cell 2
 have ST2 := aA hSt2
 have HK2 := aA hK2
 have HNS := aA hnS
 have HSL := aA (hsl.trans (unhide HL1))
 have HP : Hid (w.heap.size + 3 < p) := aA (by omega)
 clear hR hRd hsl hpw hsx hB2 hSt2 hlt hK2 hnS hTr hfk ST c0 HL1
 go_wp2_with fail
 refine hG.mono ?_
 rintro e w3 ⟨rfl, t, fl, x, hR3⟩
 have hSt3 := (unhide ST2).got hR3.but (unhide HP) hR3.trm.arr
 have hK3 : Kept S w0 w3 := (unhide HK2).buts hR3.but (fun i hi hs => by
  rcases hs with rfl | rfl
  ·exact unhide HNS _ (by have := unhide HP; omega) hi
  ·exact unhide HNS _ (by omega) hi)
 have hDn := fS p t fl w3 hR3.rdr
 have hF := pR (n := 5) (c := 5) (unhide HT) (by rw [unhide HN]; decide) (Nat.le_refl _) (by decide) w3 (w.heap.size + 3) 61 aI 262 x 0 hK3 hR3.trm ⟨by omega, fun j hj => by rw [Nat.zero_add]⟩
 have hfk : aT.take 5 = aT := rfl
 exact sh2) : G := h
open Go.Proofs.YtejagcngbgnogaaGreat renaming nq5 → z2a, aI → z2b, nq262 → z2c, nq61 → z2d, aT → z2f, jA → z2dQ, nq61 → z8a, jA → z8aQ, aT → z24a, nq61 → z24b, jA → z24bQ, aT → z113a, dZ → z133a, nq166 → z133b, nq61 → z133c, nq5 → z133d, aT → z133h, aI → z133i, nq262 → z133j, getAll_Entry → z133k, jA → z133cQ, nqe5 → z133dQ, gM → z133jQ, rs13 → z133rr
open Go.Proofs.YtejagcngbgnogaaGreat.Tryz renaming szTEntry → z2e, szTEntry → z133e
open Go.Proofs.Tryz renaming underlying61 → z2g, underlying61 → z8b, underlying61 → z24c, func140 → z133f, ntmps140 → z133g
theorem mH {S : Nat → Prop} {w0 : World} {tyF : TypeId} {g : Nat} {vs : List FV} (hTab : Tab S w0 aI 262 aT tyF g vs) (w : World) (dom sgn : Int) (b : Sl) (hbo : b.Ok w) (hb : Kept S w0 w) :
  Calls Tryz.prog 140 #[.agg #[.int .i64 dom, .int .i64 sgn, .slice (some ⟨g, 0, none⟩) 5 5], b.v] w (bU dom (aB aT) aI 262 b.l w) := kP
theorem rs38 {G : Prop} (h : G := by
 refine (jM W).mono ?_
 rintro e w1 ⟨g, vs, rfl, hTab, hB1⟩
 have hfl : aT.length = 5 := rfl
 exact sh14) : G := h
open Go.Proofs.YtejagcngbgnogaaGreat renaming nq61 → z14a, dZ → z137a, nq61 → z137b, aI → z137c, nq262 → z137d, aT → z137e, nq270 → z137f, mH → z137g, nq3 → z137h, nq0 → z137i, gM → z137dQ, lF → z137fQ, nqe3 → z137hQ, nqe0 → z137iQ, rs38 → z137rr
open Go.Proofs.YtejagcngbgnogaaGreat.Tryz renaming szTEntry → z14b
open Go.Proofs.Tryz renaming underlying61 → z14c, func67 → z137j, ntmps67 → z137k
theorem mY (b : Sl) (w : World) (hbo : b.Ok w) :
  Calls Tryz.prog 67 #[b.v] w (bU 3 (aB aT) aI 262 b.l w) := kO
end
end Go.Proofs.YtejagcngbgnogaaGreat

set_option maxHeartbeats 2000000
set_option maxRecDepth 100000
set_option linter.unusedSimpArgs false
namespace Go.Proofs.YtejagcngbgnogaaGreat
open Go.RowKit
section
theorem rs14 {G : Prop} (h : G := by
 have hfk : aM.take 2 = aM := rfl
 rw [hfk] at hG
 have c2 : w2.cell? ⟨w.heap.size, 2, none⟩ = some (.slice (some ⟨g, 0, none⟩) 2 2) := hSt2.a0.cell 2
 have ST2 := aA hSt2
 have HK2 := aA hK2
 have HNS := aA hnS
 have HSL := aA (hsl.trans (unhide HL1))
 have HP : Hid (w.heap.size + 3 < p) := aA (by omega)
 clear hR hRd hsl hpw hsx hB2 hSt2 hlt hK2 hnS hTr hfk ST c0 HL1
 go_wp2_with fail
 refine hG.mono ?_
 rintro e w3 ⟨rfl, t, fl, x, hR3⟩
 have hSt3 := (unhide ST2).got hR3.but (unhide HP) hR3.trm.arr
 have hK3 : Kept S w0 w3 := (unhide HK2).buts hR3.but (fun i hi hs => by
  rcases hs with rfl | rfl
  ·exact unhide HNS _ (by have := unhide HP; omega) hi
  ·exact unhide HNS _ (by omega) hi)
 have hDn := fS p t fl w3 hR3.rdr
 have hF := oM (n := 2) (c := 2) (unhide HT) (by rw [unhide HN]; decide) (Nat.le_refl _) (by decide) w3 (w.heap.size + 3) 65 aR 163 x 0 hK3 hR3.trm ⟨by omega, fun j hj => by rw [Nat.zero_add]⟩
 have hfk : aM.take 2 = aM := rfl
 exact sh2) : G := h
open Go.Proofs.YtejagcngbgnogaaGreat renaming nq2 → z2a, aR → z2b, nq163 → z2c, nq65 → z2d, aM → z2f, dP → z2dQ, nq65 → z8a, dP → z8aQ, aM → z24a, nq65 → z24b, dP → z24bQ, aM → z113a, dA → z133a, nq170 → z133b, nq65 → z133c, nq2 → z133d, aM → z133h, aR → z133i, nq163 → z133j, getAll_Freeze → z133k, dP → z133cQ, nqe2 → z133dQ, dK → z133jQ, rs14 → z133rr
open Go.Proofs.YtejagcngbgnogaaGreat.Tryz renaming szTFreeze → z2e, szTFreeze → z133e
open Go.Proofs.Tryz renaming underlying65 → z2g, underlying65 → z8b, underlying65 → z24c, func143 → z133f, ntmps143 → z133g
theorem lM {S : Nat → Prop} {w0 : World} {tyF : TypeId} {g : Nat} {vs : List FV} (hTab : Tab S w0 aR 163 aM tyF g vs) (w : World) (dom sgn : Int) (b : Sl) (hbo : b.Ok w) (hb : Kept S w0 w) :
  Calls Tryz.prog 143 #[.agg #[.int .i64 dom, .int .i64 sgn, .slice (some ⟨g, 0, none⟩) 2 2], b.v] w (bU dom (aB aM) aR 163 b.l w) := kP
theorem rs39 {G : Prop} (h : G := by
 refine (hY W).mono ?_
 rintro e w1 ⟨g, vs, rfl, hTab, hB1⟩
 have hfl : aM.length = 2 := rfl
 exact sh14) : G := h
open Go.Proofs.YtejagcngbgnogaaGreat renaming nq65 → z14a, dA → z137a, nq65 → z137b, aR → z137c, nq163 → z137d, aM → z137e, nq289 → z137f, lM → z137g, nq4 → z137h, nq1 → z137i, dK → z137dQ, lE → z137fQ, nqe4 → z137hQ, fQ → z137iQ, rs39 → z137rr
open Go.Proofs.YtejagcngbgnogaaGreat.Tryz renaming szTFreeze → z14b
open Go.Proofs.Tryz renaming underlying65 → z14c, func69 → z137j, ntmps69 → z137k
theorem mJ (b : Sl) (w : World) (hbo : b.Ok w) :
  Calls Tryz.prog 69 #[b.v] w (bU 4 (aB aM) aR 163 b.l w) := kO
end
end Go.Proofs.YtejagcngbgnogaaGreat

set_option maxHeartbeats 2000000
set_option maxRecDepth 100000
set_option linter.unusedSimpArgs false
namespace Go.Proofs.YtejagcngbgnogaaGreat
open Go.RowKit
section
theorem rs15 {G : Prop} (h : G := by
 have hfk : aZ.take 5 = aZ := rfl
 rw [hfk] at hG
 have c2 : w2.cell? ⟨w.heap.size, 2, none⟩ = some (.slice (some ⟨g, 0, none⟩) 5 5) := hSt2.a0.cell 2
 have ST2 := aA hSt2
 have HK2 := aA hK2
 have HNS := aA hnS
 have HSL := aA (hsl.trans (unhide HL1))
 have HP : Hid (w.heap.size + 3 < p) := aA (by omega)
 clear hR hRd hsl hpw hsx hB2 hSt2 hlt hK2 hnS hTr hfk ST c0 HL1
 go_wp2_with fail
 refine hG.mono ?_
 rintro e w3 ⟨rfl, t, fl, x, hR3⟩
 have hSt3 := (unhide ST2).got hR3.but (unhide HP) hR3.trm.arr
 have hK3 : Kept S w0 w3 := (unhide HK2).buts hR3.but (fun i hi hs => by
  rcases hs with rfl | rfl
  ·exact unhide HNS _ (by have := unhide HP; omega) hi
  ·exact unhide HNS _ (by omega) hi)
 have hDn := fS p t fl w3 hR3.rdr
 have hF := tH (n := 5) (c := 5) (unhide HT) (by rw [unhide HN]; decide) (Nat.le_refl _) (by decide) w3 (w.heap.size + 3) 69 bI 99 x 0 hK3 hR3.trm ⟨by omega, fun j hj => by rw [Nat.zero_add]⟩
 have hfk : aZ.take 5 = aZ := rfl
 exact sh2) : G := h
open Go.Proofs.YtejagcngbgnogaaGreat renaming nq5 → z2a, bI → z2b, nq99 → z2c, nq69 → z2d, aZ → z2f, gL → z2dQ, nq69 → z8a, gL → z8aQ, aZ → z24a, nq69 → z24b, gL → z24bQ, aZ → z113a, eT → z133a, nq174 → z133b, nq69 → z133c, nq5 → z133d, aZ → z133h, bI → z133i, nq99 → z133j, getAll_Ack → z133k, gL → z133cQ, nqe5 → z133dQ, dI → z133jQ, rs15 → z133rr
open Go.Proofs.YtejagcngbgnogaaGreat.Tryz renaming szTAck → z2e, szTAck → z133e
open Go.Proofs.Tryz renaming underlying69 → z2g, underlying69 → z8b, underlying69 → z24c, func144 → z133f, ntmps144 → z133g
theorem oG {S : Nat → Prop} {w0 : World} {tyF : TypeId} {g : Nat} {vs : List FV} (hTab : Tab S w0 bI 99 aZ tyF g vs) (w : World) (dom sgn : Int) (b : Sl) (hbo : b.Ok w) (hb : Kept S w0 w) :
  Calls Tryz.prog 144 #[.agg #[.int .i64 dom, .int .i64 sgn, .slice (some ⟨g, 0, none⟩) 5 5], b.v] w (bU dom (aB aZ) bI 99 b.l w) := kP
theorem rs40 {G : Prop} (h : G := by
 refine (jJ W).mono ?_
 rintro e w1 ⟨g, vs, rfl, hTab, hB1⟩
 have hfl : aZ.length = 5 := rfl
 exact sh14) : G := h
open Go.Proofs.YtejagcngbgnogaaGreat renaming nq69 → z14a, eT → z137a, nq69 → z137b, bI → z137c, nq99 → z137d, aZ → z137e, nq300 → z137f, oG → z137g, nq5 → z137h, nq4 → z137i, dI → z137dQ, jY → z137fQ, nqe5 → z137hQ, nqe4 → z137iQ, rs40 → z137rr
open Go.Proofs.YtejagcngbgnogaaGreat.Tryz renaming szTAck → z14b
open Go.Proofs.Tryz renaming underlying69 → z14c, func71 → z137j, ntmps71 → z137k
theorem oJ (b : Sl) (w : World) (hbo : b.Ok w) :
  Calls Tryz.prog 71 #[b.v] w (bU 5 (aB aZ) bI 99 b.l w) := kO
end
end Go.Proofs.YtejagcngbgnogaaGreat
