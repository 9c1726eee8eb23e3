import Derived.Test.YtipmgnigejpfjaaShPX
namespace Go.Proofs.Ytipmgnigejpfjaa
open Go.RowKit

theorem slv_one (v : Value) (h : v.oneCell' = true) : ∀ u ∈ [v], u.oneCell' = true := by intro u hu; simp at hu; subst hu; exact h

set_option maxHeartbeats 4000000 in
set_option maxRecDepth 100000 in
theorem put_anyE {w : World} {gS N : Nat} {P Q : Nat → Sl} {lv wv : Value} {w0 wr : World} (h0 : Shf w gS N P Q lv wv w0) (hb0 : Below w0.heap.size w0 wr) (p q : Sl)
    (hp : Ans w.heap.size p wr) (hq : q.Ok wr) (he : p.l = q.l) (hn : p.n ≤ 100000) (hpF : ∀ x, p.a = some x → w0.heap.size ≤ x.block) (hqF : 0 < q.l.length → ∀ x, q.a = some x → w0.heap.size ≤ x.block ∨ x.block < w.heap.size)
    (hpq : 0 < p.l.length → ∀ y, p.a = some y → q.Off (some y.block)) (hN : N ≤ 4000000000000) :
    Calls Try.prog 34 #[.pointer (some ⟨gS, 0, none⟩), p.v, q.v] wr fun e w' => e = .returned (.bool true) ∧
      (∃ lv' wv', Shf w gS (N + 1) (fun i => if i = N then p else P i) (fun i => if i = N then q else Q i) lv' wv' w') ∧ But3 lv.ownBlock wv.ownBlock gS wr w' := by
  have h := h0.later hb0
  have H0 := hide h0
  have HB0 := hide hb0
  obtain ⟨i0, hii, hz0, hz1, hz2⟩ := info_parts Try.infoS
  have cl : wr.cell? ⟨gS, 0, none⟩ = some lv := by rw [h.s.cell]; rfl
  have cw : wr.cell? ⟨gS, 1, none⟩ = some wv := by rw [h.s.cell]; rfl
  have fz0 := h.s.frozen 0
  have fz1 := h.s.frozen 1
  have hlr := h.lrow
  have hwr := h.wrow
  have hsz := h.bel.size
  have HS := hide h.s
  have HAP := hide h.apt
  have HP := hide hp
  have HQ := hide hq
  clear h h0 hb0
  obtain ⟨pa, pn, pc, pl⟩ := p
  obtain ⟨qa, qn, qc, ql⟩ := q
  simp only [Sl.v]
  go_enter Try.func34, Try.ntmps34
  have hgl : some gS ≠ lv.ownBlock := own_ne_arr hlr (unhide HS) (by decide)
  have hgw : some gS ≠ wv.ownBlock := own_ne_arr hwr (unhide HS) (by decide)
  have hlt : gS < wr.heap.size := (unhide HS).lt
  go_wp2_with (first
    | (at_builtin
       refine wpList_append_own_at rfl (.tmp 11) (.tmp 13) 24 rfl w.heap.size 28 i0 (.slice none 0 0) 1 24 Try.underlying24 hii hz0 hz1 hz2 rfl (by decide) lv N (vsOf P N) rfl (hlr.alloc _) ⟨wr.heap.size, 0, none⟩ 1 1 [.slice pa pn pc] rfl rfl (cell_one_new _ _ _) (slv_one _ rfl) (by unfold maxLen; omega) (by omega) (by simp; omega) ?_
       intro lv1 w1 hl1 hg1 ha1
       obtain ⟨g1, c1, rfl, -, -⟩ := (unhide hl1).form (by omega)
       have hA1 : Arr w1 gS 26 [lv, wv] := ((unhide hg1).block gS (by simp; omega) hgl).trans ((unhide HS).alloc _)
       have k1 : w1.cell? ⟨gS, 0, none⟩ = some lv := by rw [hA1.cell]; rfl
       have f1 := hA1.frozen 0
       obtain ⟨W2, hW2⟩ : ∃ W2, W2 = w1.setCell ⟨gS, 0, none⟩ (.slice (some ⟨g1, 0, none⟩) (N + 1) c1) := ⟨_, rfl⟩
       have hA2 : Arr W2 gS 26 [.slice (some ⟨g1, 0, none⟩) (N + 1) c1, wv] := by rw [hW2]; exact hA1.set 0 _
       have hw2 : W2.ownsRow w.heap.size 28 1 wv N (vsOf Q N) := by
         rw [hW2]; exact ownsRow_setCell_other ((hwr.alloc _).kept (unhide hg1) (unhide HAP).symm) (Ne.symm hgw) _
       have hl2 : W2.ownsRow w.heap.size 28 1 (.slice (some ⟨g1, 0, none⟩) (N + 1) c1) (N + 1) (vsOf P N ++ [.slice pa pn pc]) := by
         rw [hW2]; exact ownsRow_setCell_other (unhide hl1) (fun e => own_ne_arr (unhide hl1) hA1 (by decide) e.symm) _
       have k2 : W2.cell? ⟨gS, 1, none⟩ = some wv := by rw [hA2.cell]; rfl
       have f2 := hA2.frozen 1
       have hs2 : wr.heap.size ≤ W2.heap.size := by rw [hW2]; have := (unhide hg1).size; simp at this ⊢; omega
       have HB2 : Hid (But3 lv.ownBlock wv.ownBlock gS wr W2) := by
         show But3 _ _ _ _ _
         refine ⟨by rw [hW2]; exact (unhide hg1).os, by rw [hW2]; exact (unhide hg1).tape, by rw [hW2]; exact (unhide hg1).output, hs2, fun k hk h1 _ h3 => ?_⟩
         rw [hW2, heap_setCell_other w1 ⟨gS, 0, none⟩ k _ h3, (unhide hg1).block k (by simp; omega) h1]
         exact Below.heap_alloc wr _ k hk
       have HA1 : Hid (Apt (.slice (some ⟨g1, 0, none⟩) (N + 1) c1) wv) := Apt.grown (unhide HAP) (hwr.alloc _) (unhide ha1)
       have HLB : Hid ((Value.slice (some ⟨g1, 0, none⟩) (N + 1) c1).ownBlock = lv.ownBlock ∨ ∃ k, (Value.slice (some ⟨g1, 0, none⟩) (N + 1) c1).ownBlock = some k ∧ wr.heap.size ≤ k) := by
         rcases unhide ha1 with e | e
         · exact Or.inl e
         · exact Or.inr ⟨_, e, by simp⟩
       have HW2 := hide hW2
       have HA2 := hide hA2
       have HL2 := hide hl2
       clear hl1 hg1 ha1 hA1 hA2 hW2 hl2)
    | rw [← unhide HW2]
    | (at_builtin
       refine wpList_append_own_at rfl (.tmp 21) (.tmp 23) 24 rfl w.heap.size 28 i0 (.slice none 0 0) 1 24 Try.underlying24 hii hz0 hz1 hz2 rfl (by decide) wv N (vsOf Q N) rfl (hw2.alloc _) ⟨W2.heap.size, 0, none⟩ 1 1 [.slice qa qn qc] rfl rfl (cell_one_new _ _ _) (slv_one _ rfl) (by unfold maxLen; omega) (by omega) (by simp; omega) ?_
       intro wv1 w3 hl3 hg3 ha3
       obtain ⟨g3, c3, rfl, -, -⟩ := (unhide hl3).form (by omega)
       have hA3 : Arr w3 gS 26 [.slice (some ⟨g1, 0, none⟩) (N + 1) c1, wv] := ((unhide hg3).block gS (by simp; omega) hgw).trans ((unhide HA2).alloc _)
       have k3 : w3.cell? ⟨gS, 1, none⟩ = some wv := by rw [hA3.cell]; rfl
       have f3 := hA3.frozen 1
       obtain ⟨W4, hW4⟩ : ∃ W4, W4 = w3.setCell ⟨gS, 1, none⟩ (.slice (some ⟨g3, 0, none⟩) (N + 1) c3) := ⟨_, rfl⟩
       have HA4 : Hid (Arr W4 gS 26 [.slice (some ⟨g1, 0, none⟩) (N + 1) c1, .slice (some ⟨g3, 0, none⟩) (N + 1) c3]) := by show Arr _ _ _ _; rw [hW4]; exact hA3.set 1 _
       have HL4 : Hid (W4.ownsRow w.heap.size 28 1 (.slice (some ⟨g1, 0, none⟩) (N + 1) c1) (N + 1) (vsOf P N ++ [.slice pa pn pc])) := by
         show World.ownsRow _ _ _ _ _ _ _
         rw [hW4]; exact ownsRow_setCell_other (((unhide HL2).alloc _).kept (unhide hg3) (unhide HA1)) (fun e => own_ne_arr (((unhide HL2).alloc _).kept (unhide hg3) (unhide HA1)) hA3 (by decide) e.symm) _
       have HV4 : Hid (W4.ownsRow w.heap.size 28 1 (.slice (some ⟨g3, 0, none⟩) (N + 1) c3) (N + 1) (vsOf Q N ++ [.slice qa qn qc])) := by
         show World.ownsRow _ _ _ _ _ _ _
         rw [hW4]; exact ownsRow_setCell_other (unhide hl3) (fun e => own_ne_arr (unhide hl3) hA3 (by decide) e.symm) _
       have HB4 : Hid (But3 lv.ownBlock wv.ownBlock gS wr W4) := by
         have hb2 := unhide HB2
         show But3 _ _ _ _ _
         refine ⟨by rw [hW4]; exact (unhide hg3).os.trans hb2.os, by rw [hW4]; exact (unhide hg3).tape.trans hb2.tape, by rw [hW4]; exact (unhide hg3).output.trans hb2.output, ?_, fun k hk h1 h2 h3 => ?_⟩
         · rw [hW4]; have := (unhide hg3).size; simp at this ⊢; omega
         · rw [hW4, heap_setCell_other w3 ⟨gS, 1, none⟩ k _ h3, (unhide hg3).block k (by simp; omega) h2, Below.heap_alloc W2 _ k (by omega)]
           exact hb2.block k hk h1 h2 h3
       have HAP4 : Hid (Apt (.slice (some ⟨g1, 0, none⟩) (N + 1) c1) (.slice (some ⟨g3, 0, none⟩) (N + 1) c3)) := (Apt.grown (unhide HA1).symm ((unhide HL2).alloc _) (unhide ha3)).symm
       have HWB : Hid ((Value.slice (some ⟨g3, 0, none⟩) (N + 1) c3).ownBlock = wv.ownBlock ∨ ∃ k, (Value.slice (some ⟨g3, 0, none⟩) (N + 1) c3).ownBlock = some k ∧ wr.heap.size ≤ k) := by
         rcases unhide ha3 with e | e
         · exact Or.inl e
         · exact Or.inr ⟨_, e, by simp; omega⟩
       have HW4 := hide hW4
       clear hl3 hg3 ha3 hA3 hW4 hw2 HL2 HA2 HB2 HW2)
    | rw [← unhide HW4])
  have hS4 := Shf.put (unhide H0) (unhide HB0) ⟨pa, pn, pc, pl⟩ ⟨qa, qn, qc, ql⟩ (unhide HP) (unhide HQ) he hn hpF hqF hpq (unhide HB4) (unhide HA4) (unhide HL4) (unhide HV4) (unhide HAP4) (unhide HLB) (unhide HWB)
  have okp := (hS4.p N (by omega)).ok
  have okq := hS4.q N (by omega)
  simp only [if_true] at okp okq
  refine (same_any ⟨pa, pn, pc, pl⟩ ⟨qa, qn, qc, ql⟩ W4 okp okq he (by show pn ≤ _; have h : pn ≤ 100000 := hn; omega)).mono ?_
  rintro e w5 ⟨rfl, kk, rfl⟩
  go_wp2
  go_ret
  have hB := unhide HB4
  exact ⟨rfl, ⟨_, _, hS4.later (below_drewN (Below.refl _ _) kk)⟩, ⟨hB.os, hB.tape, hB.output, hB.size, hB.block⟩⟩
theorem put_any {w : World} {gS N : Nat} {P Q : Nat → Sl} {lv wv : Value} {w0 wr : World} (h0 : Shf w gS N P Q lv wv w0) (hb0 : Below w0.heap.size w0 wr) (p q : Sl)
    (hp : Ans w.heap.size p wr) (hq : q.Ok wr) (he : p.l = q.l) (hn : p.n ≤ 100000) (hpF : ∀ x, p.a = some x → w0.heap.size ≤ x.block) (hqF : ∀ x, q.a = some x → w0.heap.size ≤ x.block ∨ x.block < w.heap.size)
    (hpq : 0 < p.l.length → ∀ y, p.a = some y → q.Off (some y.block)) (hN : N ≤ 4000000000000) :
    Calls Try.prog 34 #[.pointer (some ⟨gS, 0, none⟩), p.v, q.v] wr fun e w' => e = .returned (.bool true) ∧
      (∃ lv' wv', Shf w gS (N + 1) (fun i => if i = N then p else P i) (fun i => if i = N then q else Q i) lv' wv' w') ∧ But3 lv.ownBlock wv.ownBlock gS wr w' :=
  put_anyE h0 hb0 p q hp hq he hn hpF (fun _ => hqF) hpq hN
end Go.Proofs.Ytipmgnigejpfjaa
