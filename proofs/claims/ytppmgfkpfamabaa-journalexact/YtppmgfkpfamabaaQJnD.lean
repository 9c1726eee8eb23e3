import Derived.Test.YtppmgfkpfamabaaQJnC
import Derived.Deep.RegionHeld3
set_option maxHeartbeats 2000000
set_option maxRecDepth 100000
set_option linter.unusedVariables false
namespace Go.Proofs.Ytppmgfkpfamabaa
open Go.RowKit
def FlS.jappend (s : FlS) (o : Option JS) (r : List Int) : FlS × Option JS × Int :=
  match o with
  | none => (s, none, 121)
  | some j =>
    if 262144 < r.length then (s, some j, 1) else if s.size < (s.bk j.bank).length + (r.length + 10) then (s, some j, 122)
    else if (s.append j.bank (encL 82 r)).2 ≠ 0 then ((s.append j.bank (encL 82 r)).1, none, (s.append j.bank (encL 82 r)).2)
    else ((s.append j.bank (encL 82 r)).1, some ⟨j.bank, j.ep, j.cnt + 1⟩, 0)
def FlS.jcompact (s : FlS) (o : Option JS) (sn : List Int) (more : Nat) : FlS × Option JS × Int :=
  match o with
  | none => (s, none, 121)
  | some j =>
    if 262144 < sn.length + 12 then (s, some j, 1) else if j.ep = 9223372036854775807 then (s, some j, 3) else if s.size < sn.length + 22 + more then (s, some j, 122)
    else if (s.refill (1 - j.bank) (hdr (j.ep + 1) 0 sn)).2 ≠ 0 then ((s.refill (1 - j.bank) (hdr (j.ep + 1) 0 sn)).1, none, (s.refill (1 - j.bank) (hdr (j.ep + 1) 0 sn)).2)
    else ((s.refill (1 - j.bank) (hdr (j.ep + 1) 0 sn)).1, some ⟨1 - j.bank, j.ep + 1, 0⟩, 0)
def FlS.jkeep (s : FlS) (o : Option JS) (r sn : List Int) : FlS × Option JS × Int :=
  if (s.jappend o r).2.2 ≠ 122 then s.jappend o r
  else if (s.jcompact o sn (r.length + 10)).2.2 ≠ 0 then s.jcompact o sn (r.length + 10)
  else (s.jcompact o sn (r.length + 10)).1.jappend (s.jcompact o sn (r.length + 10)).2.1 r
def JOk (s : FlS) (o : Option JS) : Prop := ∀ j, o = some j → s.down = false ∧ (j.bank = 0 ∨ j.bank = 1) ∧ j.cnt ≤ 1000000000 ∧ j.ep ≤ 9223372036854775807
structure JSt (p jp : Nat) (S : Nat → Prop) (s' : FlS) (o' : Option JS) (w w' : World) (S' : Nat → Prop) : Prop where
  fl : Fl w' p S' s'
  jn : Jn w' jp p o'
  but : Buts (fun k => S k ∨ k = jp) w w'
  at_ : ∀ k, S' k → S k ∨ w.heap.size ≤ k
def JPost (p jp : Nat) (S : Nat → Prop) (r : FlS × Option JS × Int) (w : World) (e : Ending) (w' : World) : Prop :=
  e = .returned (.int .i64 r.2.2) ∧ ∃ S', JSt p jp S r.1 r.2.1 w w' S'
theorem Jn.lt {w : World} {jp p : Nat} {o : Option JS} (h : Jn w jp p o) : jp < w.heap.size := Arr.lt h
theorem JSt.below {p jp : Nat} {S : Nat → Prop} {s : FlS} {o : Option JS} {w w' : World} (hf : Fl w p S s) (hj : Jn w jp p o) (hb : Below w.heap.size w w') : JSt p jp S s o w w' S :=
  ⟨hf.later hb, (hb.block jp hj.lt).trans hj, Buts.of_below hb, fun _ h => .inl h⟩
theorem JSt.of {p jp : Nat} {S S' : Nat → Prop} {s' : FlS} {o' : Option JS} {w w1 w2 : World} (hf : FSt p S s' w w1 S') (hj' : Jn w2 jp p o') (hb : Buts (· = jp) w1 w2) (hjS : ¬ S jp) (hjl : jp < w.heap.size) : JSt p jp S s' o' w w2 S' :=
  ⟨hf.fl.keep hb (fun k hk e => by
      rcases hf.at_ k hk with h | h
      · exact hjS (e ▸ h)
      · have : k = jp := e
        omega), hj', (hf.but.mono fun _ _ h => .inl h).trans (hb.mono fun _ _ h => .inr h), hf.at_⟩
theorem JSt.trans {p jp : Nat} {S S1 S2 : Nat → Prop} {s1 s2 : FlS} {o1 o2 : Option JS} {w w1 w2 : World} (h : JSt p jp S s1 o1 w w1 S1) (k : JSt p jp S1 s2 o2 w1 w2 S2) : JSt p jp S s2 o2 w w2 S2 :=
  ⟨k.fl, k.jn, h.but.trans' k.but (fun i hi hs => by
      rcases hs with hs | hs
      · rcases h.at_ i hs with h1 | h1
        · exact .inl h1
        · omega
      · exact .inr hs), fun i hi => by
      rcases k.at_ i hi with h1 | h1
      · exact h.at_ i h1
      · exact .inr (Nat.le_trans h.but.size h1)⟩
theorem JSt.ne {p jp : Nat} {S S' : Nat → Prop} {s' : FlS} {o' : Option JS} {w w' : World} (h : JSt p jp S s' o' w w' S') (hjS : ¬ S jp) (hjl : jp < w.heap.size) : ¬ S' jp := fun hs => by
  rcases h.at_ jp hs with h1 | h1
  · exact hjS h1
  · omega
theorem JSt.sep {p jp : Nat} {S S' : Nat → Prop} {s' : FlS} {o' : Option JS} {w w' : World} {d : Sl} (h : JSt p jp S s' o' w w' S') (hd : d.Ok w) (hS : Sepd (fun k => S k ∨ k = jp) d) : Sepd (fun k => S' k ∨ k = jp) d := fun h0 x hx hs => by
  rcases hs with hs | hs
  · rcases h.at_ _ hs with h1 | h1
    · exact hS h0 x hx (.inl h1)
    · have := hd.blk h0 x hx; omega
  · exact hS h0 x hx (.inr hs)
theorem ref_up {s : FlS} {b : Int} (hu : s.down = false) (hb : b = 0 ∨ b = 1) : s.ref b = 0 := by
  unfold FlS.ref
  rw [if_neg (by omega), hu]; rfl
theorem Sl.Ok.drewN' {w : World} {s : Sl} (h : s.Ok w) (k : Nat) : s.Ok (w.drewN k) := h.later (below_drewN (Below.refl _ _) k)
theorem jappend_any (p jp : Nat) (S : Nat → Prop) (s : FlS) (o : Option JS) (d : Sl) (w : World) (hf : Fl w p S s) (hj : Jn w jp p o) (hjS : ¬ S jp) (ho : JOk s o) (hd : d.Ok w) (hw : s.wr < 4000000000000000000) :
    Calls Try.prog 41 #[.pointer (some ⟨jp, 0, none⟩), d.v] w (JPost p jp S (s.jappend o d.l) w) := by
  obtain ⟨da, dn, dc, dl⟩ := d
  simp only [Sl.v]
  have hdl : dl.length = dn := hd.len
  cases o with
  | none =>
    have hD := dead_yes jp p w hj
    have HJ := hide (JSt.below hf hj (Below.refl _ _))
    have HP : Hid (s.jappend none dl = (s, none, 121)) := hide rfl
    rw [unhide HP]
    clear hf hj hjS ho hd hdl HP
    go_enter Try.func41, Try.ntmps41
    go_wp2_with (go_at_call 47; refine hD.mono ?_; rintro e w1 ⟨rfl, rfl⟩; clear hD)
    go_ret
    exact ⟨rfl, S, unhide HJ⟩
  | some j =>
    obtain ⟨hup, hbk, hct, hep⟩ := ho j rfl
    have hD := dead_no jp p j w hj
    by_cases hlong : 262144 < dn
    · have HP : Hid (s.jappend (some j) dl = (s, some j, 1)) := hide (by unfold FlS.jappend; simp only; rw [hdl, if_pos hlong])
      rw [unhide HP]
      have hE := encode_no 82 da dn dc w hlong
      have HJ := hide (JSt.below hf hj (Below.refl _ _))
      clear hf hj hjS ho hd hdl HP hup hbk hct hep
      go_enter Try.func41, Try.ntmps41
      go_wp2_with (first | (go_at_call 49; refine hE.mono ?_; rintro e w2 ⟨rfl, rfl⟩; clear hE) | (go_at_call 47; refine hD.mono ?_; rintro e w1 ⟨rfl, rfl⟩; clear hD))
      go_ret
      exact ⟨rfl, S, unhide HJ⟩
    · have hE := encode_ok 82 ⟨da, dn, dc, dl⟩ w hd (by decide) (by simp only; omega)
      simp only [Sl.v] at hE
      have hroom : s.room j.bank = s.size - (s.bk j.bank).length := by unfold FlS.room; rw [if_pos (ref_up hup hbk)]
      obtain ⟨m, hm⟩ : ∃ m, m = (s.bk j.bank).length := ⟨_, rfl⟩
      obtain ⟨z, hz⟩ : ∃ z, z = s.size := ⟨_, rfl⟩
      rw [← hm, ← hz] at hroom
      have hz1 : z ≤ 1048576 := by rw [hz]; exact hf.ok.mx
      have HROOM := hide hroom
      have HEL : Hid (IsB (encL 82 dl)) := hide (encL_isB (by decide) hd.isB)
      by_cases hfull : z < m + (dn + 10)
      · have HP : Hid (s.jappend (some j) dl = (s, some j, 122)) := hide (by unfold FlS.jappend; simp only; rw [hdl, if_neg hlong, ← hm, ← hz, if_pos hfull])
        rw [unhide HP]
        have HF := hide hf
        have HJn := hide hj
        have hc : ((z : Int) - (m : Int)) < ((dn + 10 : Nat) : Int) := by omega
        clear hf hj hjS ho hd hdl HP hup hbk hct hep hm hz hroom
        go_enter Try.func41, Try.ntmps41
        go_wp2_with (first | (go_at_call 23; refine hR.mono ?_; rintro e w3 ⟨rfl, k3, h3⟩; clear hR; have H3 := hide h3; clear h3) | (go_at_call 49; refine hE.mono ?_; rintro e w2 ⟨g, rfl, o2, b2⟩; clear hE; have hR := jroom_any jp p S s j w2 ((b2.block jp (unhide HJn).lt).trans (unhide HJn)) ((unhide HF).later b2); rw [unhide HROOM] at hR; have HB2 := hide b2; clear o2 b2) | (go_at_call 47; refine hD.mono ?_; rintro e w1 ⟨rfl, rfl⟩; clear hD))
        go_ret
        exact ⟨rfl, S, JSt.below (unhide HF) (unhide HJn) (by rw [unhide H3]; exact below_drewN (unhide HB2) k3)⟩
      · obtain ⟨r, hr⟩ : ∃ r, r = s.append j.bank (encL 82 dl) := ⟨_, rfl⟩
        have HRR := hide hr
        have c0 : w.cell? ⟨jp, 0, none⟩ = some (dev p) := by simpa [jv] using Arr.cell hj 0
        have c1 : w.cell? ⟨jp, 1, none⟩ = some (.int .i64 j.bank) := by simpa [jv] using Arr.cell hj 1
        have HF := hide hf
        have HJn := hide hj
        have HJS := hide hjS
        have hmA := Try.mApp
        have hc : ¬ ((z : Int) - (m : Int)) < ((dn + 10 : Nat) : Int) := by omega
        have HW := hide hw
        by_cases h0 : r.2 = 0
        · have HP : Hid (s.jappend (some j) dl = (r.1, some ⟨j.bank, j.ep, j.cnt + 1⟩, 0)) := hide (by unfold FlS.jappend; simp only; rw [hdl, if_neg hlong, ← hm, ← hz, if_neg hfull, ← hr, if_neg (fun h => h h0)])
          rw [unhide HP]
          obtain ⟨s1, r2⟩ := r
          obtain ⟨jb, je, jc⟩ := j
          simp only at h0 hct HROOM HRR c0 c1 HJn hD ⊢
          subst h0
          unfold dev at c0
          clear hf hj hjS ho hd hdl HP hup hbk hep hm hz hroom c0 c1 hr hw
          go_enter Try.func41, Try.ntmps41
          go_wp2_with (first | (go_at_call 23; refine hR.mono ?_; rintro e w3 ⟨rfl, k3, h3⟩; clear hR
                                have B3 : Below w1.heap.size w1 w3 := (by rw [h3]; exact below_drewN (unhide HB2) k3)
                                have J3 : Jn w3 jp p (some ⟨jb, je, jc⟩) := ((B3.block jp (unhide HJn).lt).trans (unhide HJn))
                                have O3 := own_later (unhide HO2) (show Below w2.heap.size w2 w3 by rw [h3]; exact below_drewN (Below.refl _ _) k3)
                                have HO3 := hide O3
                                have HJ3 := hide J3
                                have HB3 := hide B3
                                clear h3 B3 J3 O3) | (go_at_call 49; refine hE.mono ?_; rintro e w2 ⟨g, rfl, o2, b2⟩; clear hE; have hR := jroom_any jp p S s ⟨jb, je, jc⟩ w2 ((b2.block jp (unhide HJn).lt).trans (unhide HJn)) ((unhide HF).later b2); simp only at hR; rw [unhide HROOM] at hR; have HB2 := hide b2; have HO2 := hide o2; clear o2 b2) | (go_at_call 47; refine hD.mono ?_; rintro e w1 ⟨rfl, rfl⟩; clear hD))
          have HA : Hid (∀ k, Calls Try.prog 105 #[.pointer (some ⟨p, 0, none⟩), .int .i64 jb, .slice (some ⟨g, 0, none⟩) (dn + 10) (dn + 10)] (w3.drewN k) fun e w' => e = .returned (.int .i64 0) ∧ ∃ S', FSt p S s1 w3 w' S') := hide (fun k => by
            have ok3 := Sl.Ok.of_own (unhide HO3) (unhide HEL)
            have hg : w1.heap.size ≤ g := ((unhide HO3).lt g rfl).1
            have h := append_any p S s jb _ (w3.drewN k) (((unhide HF).later (unhide HB3)).drewN k) (ok3.drewN' k) (fun h0 x hx hs => by
              have h1 := (unhide HF).lt _ hs
              simp only [Option.some.injEq] at hx
              subst hx
              simp only at h1
              omega) (by have := unhide HW; omega)
            simp only [Sl.v] at h
            rw [← unhide HRR] at h
            exact h.mono (fun e w' ⟨h1, S', h2⟩ => ⟨h1, S', h2.later (below_drewN (Below.refl _ _) k)⟩))
          have c0 : w3.cell? ⟨jp, 0, none⟩ = some (.iface 24 (.pointer (some ⟨p, 0, none⟩))) := by simpa [jv, dev] using Arr.cell (unhide HJ3) 0
          have c1 : w3.cell? ⟨jp, 1, none⟩ = some (.int .i64 jb) := by simpa [jv] using Arr.cell (unhide HJ3) 1
          go_region_held3 (fun w' => w'.cell? ⟨jp, 0, none⟩ = some (.iface 24 (.pointer (some ⟨p, 0, none⟩))) ∧ w'.cell? ⟨jp, 1, none⟩ = some (.int .i64 jb)) (go_keep) (first | (go_at_call 105; refine (unhide HA 1).mono ?_; rintro e w4 ⟨rfl, S4, k4⟩; have J4 : Jn w4 jp p (some ⟨jb, je, jc⟩) := (k4.but.arr (unhide HJ3) (unhide HJS)); have HK4 := hide k4; have HJ4 := hide J4; have c0 : w4.cell? ⟨jp, 0, none⟩ = some (.iface 24 (.pointer (some ⟨p, 0, none⟩))) := (by simpa [jv, dev] using Arr.cell J4 0); have c1 : w4.cell? ⟨jp, 1, none⟩ = some (.int .i64 jb) := (by simpa [jv] using Arr.cell J4 1); clear k4 J4))
          have c3 : w4.cell? ⟨jp, 3, none⟩ = some (.int .i64 jc) := by simpa [jv] using Arr.cell (unhide HJ4) 3
          have f3 := Arr.frozen (unhide HJ4) 3
          clear c0 c1
          go_wp2
          go_ret
          refine ⟨rfl, S4, JSt.of ((unhide HK4).later (unhide HB3)) (w1 := w4) ?_ ((Buts.refl (· = jp) w4).setCell (g := jp) rfl 3 _) (unhide HJS) (unhide HJn).lt⟩
          have A := Arr.set (unhide HJ4) 3 (.int .i64 (jc + 1))
          simpa [Jn, jv] using A
        · have HP : Hid (s.jappend (some j) dl = (r.1, none, r.2)) := hide (by unfold FlS.jappend; simp only; rw [hdl, if_neg hlong, ← hm, ← hz, if_neg hfull, ← hr, if_pos h0])
          rw [unhide HP]
          obtain ⟨s1, r2⟩ := r
          obtain ⟨jb, je, jc⟩ := j
          simp only at h0 hct HROOM HRR c0 c1 HJn hD ⊢
          have hr2 : (r2 == 0) = false := by rw [beq_eq_false_iff_ne]; exact h0
          have hr3 : (r2 != 0) = true := by rw [bne_iff_ne]; exact h0
          unfold dev at c0
          clear hf hj hjS ho hd hdl HP hup hbk hep hm hz hroom c0 c1 hr hw
          go_enter Try.func41, Try.ntmps41
          go_wp2_with (first | (go_at_call 23; refine hR.mono ?_; rintro e w3 ⟨rfl, k3, h3⟩; clear hR
                                have B3 : Below w1.heap.size w1 w3 := (by rw [h3]; exact below_drewN (unhide HB2) k3)
                                have J3 : Jn w3 jp p (some ⟨jb, je, jc⟩) := ((B3.block jp (unhide HJn).lt).trans (unhide HJn))
                                have O3 := own_later (unhide HO2) (show Below w2.heap.size w2 w3 by rw [h3]; exact below_drewN (Below.refl _ _) k3)
                                have HO3 := hide O3
                                have HJ3 := hide J3
                                have HB3 := hide B3
                                clear h3 B3 J3 O3) | (go_at_call 49; refine hE.mono ?_; rintro e w2 ⟨g, rfl, o2, b2⟩; clear hE; have hR := jroom_any jp p S s ⟨jb, je, jc⟩ w2 ((b2.block jp (unhide HJn).lt).trans (unhide HJn)) ((unhide HF).later b2); simp only at hR; rw [unhide HROOM] at hR; have HB2 := hide b2; have HO2 := hide o2; clear o2 b2) | (go_at_call 47; refine hD.mono ?_; rintro e w1 ⟨rfl, rfl⟩; clear hD))
          have HA : Hid (∀ k, Calls Try.prog 105 #[.pointer (some ⟨p, 0, none⟩), .int .i64 jb, .slice (some ⟨g, 0, none⟩) (dn + 10) (dn + 10)] (w3.drewN k) fun e w' => e = .returned (.int .i64 r2) ∧ ∃ S', FSt p S s1 w3 w' S') := hide (fun k => by
            have ok3 := Sl.Ok.of_own (unhide HO3) (unhide HEL)
            have hg : w1.heap.size ≤ g := ((unhide HO3).lt g rfl).1
            have h := append_any p S s jb _ (w3.drewN k) (((unhide HF).later (unhide HB3)).drewN k) (ok3.drewN' k) (fun h0 x hx hs => by
              have h1 := (unhide HF).lt _ hs
              simp only [Option.some.injEq] at hx
              subst hx
              simp only at h1
              omega) (by have := unhide HW; omega)
            simp only [Sl.v] at h
            rw [← unhide HRR] at h
            exact h.mono (fun e w' ⟨h1, S', h2⟩ => ⟨h1, S', h2.later (below_drewN (Below.refl _ _) k)⟩))
          have c0 : w3.cell? ⟨jp, 0, none⟩ = some (.iface 24 (.pointer (some ⟨p, 0, none⟩))) := by simpa [jv, dev] using Arr.cell (unhide HJ3) 0
          have c1 : w3.cell? ⟨jp, 1, none⟩ = some (.int .i64 jb) := by simpa [jv] using Arr.cell (unhide HJ3) 1
          go_region_held3 (fun w' => w'.cell? ⟨jp, 0, none⟩ = some (.iface 24 (.pointer (some ⟨p, 0, none⟩))) ∧ w'.cell? ⟨jp, 1, none⟩ = some (.int .i64 jb)) (go_keep) (first | (go_at_call 105; refine (unhide HA 1).mono ?_; rintro e w4 ⟨rfl, S4, k4⟩; have J4 : Jn w4 jp p (some ⟨jb, je, jc⟩) := (k4.but.arr (unhide HJ3) (unhide HJS)); have HK4 := hide k4; have HJ4 := hide J4; have c0 : w4.cell? ⟨jp, 0, none⟩ = some (.iface 24 (.pointer (some ⟨p, 0, none⟩))) := (by simpa [jv, dev] using Arr.cell J4 0); have c1 : w4.cell? ⟨jp, 1, none⟩ = some (.int .i64 jb) := (by simpa [jv] using Arr.cell J4 1); clear k4 J4))
          have hDie := die_any jp p _ r2 w4 (unhide HJ4)
          clear c0 c1
          go_wp2_with (go_at_call 65; refine hDie.mono ?_; rintro e w5 ⟨rfl, J5, B5⟩; clear hDie)
          go_ret
          exact ⟨rfl, S4, JSt.of ((unhide HK4).later (unhide HB3)) J5 B5 (unhide HJS) (unhide HJn).lt⟩
end Go.Proofs.Ytppmgfkpfamabaa
