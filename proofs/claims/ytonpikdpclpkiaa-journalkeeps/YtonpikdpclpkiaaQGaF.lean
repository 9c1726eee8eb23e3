import Derived.Test.YtonpikdpclpkiaaQWkJ
import Derived.BigRegion
set_option linter.unusedVariables false
namespace Go.Proofs.Ytonpikdpclpkiaa
open Go.RowKit

theorem RecS.to {B B' : Nat} {Z Z' : Nat → Prop} {c : Cts} {W : World} {sn : Sl} {rv : Value} {xs : List Rx} (h : RecS B Z c W sn rv xs) (hB : B' ≤ B) (hZ : ∀ k, B ≤ k → k < W.heap.size → Z' k → Z k) : RecS B' Z' c W sn rv xs := by
  refine ⟨h.sok, h.sl, h.rr.to hB, h.rl, fun x hx => Nat.le_trans hB (h.snew x hx), fun h0 => ?_, fun h0 x hx hz => ?_, fun k hk hz => ?_, fun x hx k hk hz => ?_⟩
  · obtain ⟨a, cc, pl, o, e⟩ := h.own h0
    exact ⟨a, cc, pl, own_to' o (Nat.le_refl _) hB, e⟩
  · have hn : 0 < sn.l.length := by rw [h.sok.len]; exact h0
    exact h.sz h0 x hx (hZ _ (h.snew x hx) (h.sok.blk hn x hx) hz)
  · have := h.rr.row.lt k hk
    exact h.rz k hk (hZ k this.1 this.2 hz)
  · have := (h.rr.own x hx).1.lt k hk
    exact h.xz x hx k hk (hZ k this.1 this.2 hz)
/-- behind writes to blocks apart -/
theorem RecS.keep {B : Nat} {Z T : Nat → Prop} {c : Cts} {W W' : World} {sn : Sl} {rv : Value} {xs : List Rx} (h : RecS B Z c W sn rv xs) (hb : Buts T W W') (hT : ∀ k, B ≤ k → T k → Z k) : RecS B Z c W' sn rv xs := by
  refine ⟨hb.ok h.sok (fun h0 y hy ht => h.sz (by rw [← h.sok.len]; exact h0) y hy (hT _ (h.snew y hy) ht)), h.sl, ⟨hb.own h.rr.row (fun g hg ht => h.rz g hg (hT g (h.rr.row.lt g hg).1 ht)), fun x hx => ⟨hb.own (h.rr.own x hx).1 (fun g hg ht => h.xz x hx g hg (hT g ((h.rr.own x hx).1.lt g hg).1 ht)), (h.rr.own x hx).2⟩, h.rr.pw⟩, h.rl, h.snew, fun h0 => ?_, h.sz, h.rz, h.xz⟩
  obtain ⟨a, cc, pl, o, e, k⟩ := h.own h0
  refine ⟨a, cc, pl, hb.own o (fun g hg ht => ?_), e, k⟩
  have e1 : a = g := by simpa [Value.ownBlock] using hg
  subst e1
  exact h.sz h0 _ e (hT a (o.lt a hg).1 ht)
theorem RecS.later {B : Nat} {Z : Nat → Prop} {c : Cts} {W W' : World} {sn : Sl} {rv : Value} {xs : List Rx} (h : RecS B Z c W sn rv xs) (hb : Below W.heap.size W W') : RecS B Z c W' sn rv xs :=
  h.keep (T := fun _ => False) (Buts.of_below hb) (fun _ _ h => absurd h (by simp))
/-- what Open has answered, and left; nothing of it lies in G -/
def OQ (p : Nat) (S G : Nat → Prop) (t : FlS) (w : World) (jo : Option Addr) (ep : Int) (a : Option Addr) (n c : Nat) (ra : Option Addr) (rn rc : Nat) (cut r : Int) (w' : World) : Prop :=
  ∃ S', FSt p S t.jopen.1 w w' S' ∧ (∀ k, S' k → ¬ G k) ∧ r = t.jopen.2 ∧
    ((r ≠ 0 ∧ jo = none ∧ ep = 0 ∧ a = none ∧ n = 0 ∧ c = 0 ∧ ra = none ∧ rn = 0 ∧ rc = 0 ∧ cut = 0) ∨
     (r = 0 ∧ ∃ jp xs l, jo = some ⟨jp, 0, none⟩ ∧ ep = (t.openJ.ep : Int) ∧ cut = (t.pickC.t.length : Int) ∧ Jn w' jp p (some t.openJ) ∧ w.heap.size ≤ jp ∧ ¬ S' jp ∧ ¬ G jp ∧ RecS w.heap.size (fun k => S' k ∨ G k ∨ k = jp) t.pickC w' ⟨a, n, c, l⟩ (.slice ra rn rc) xs ∧ rn = t.pickC.rs.length))
theorem OQ.later {p : Nat} {S G : Nat → Prop} {t : FlS} {w : World} {jo : Option Addr} {ep : Int} {a : Option Addr} {n c : Nat} {ra : Option Addr} {rn rc : Nat} {cut r : Int} {w' w2 : World} (h : OQ p S G t w jo ep a n c ra rn rc cut r w') (hb : Below w'.heap.size w' w2) : OQ p S G t w jo ep a n c ra rn rc cut r w2 := by
  obtain ⟨S', h1, h2, h3, h4⟩ := h
  refine ⟨S', h1.then hb, h2, h3, h4.imp id ?_⟩
  rintro ⟨h5, jp, xs, l, e1, e2, e3, hJ, h6, h7, h8, hR, h9⟩
  exact ⟨h5, jp, xs, l, e1, e2, e3, (hb.block jp hJ.lt).trans hJ, h6, h7, h8, hR.later hb, h9⟩
theorem OQ.cell {p g : Nat} {S G : Nat → Prop} {t : FlS} {w : World} {jo : Option Addr} {ep : Int} {a : Option Addr} {n c : Nat} {ra : Option Addr} {rn rc : Nat} {cut r : Int} {w' w2 : World} (h : OQ p S G t w jo ep a n c ra rn rc cut r w') (hb : Buts (· = g) w' w2) (hg : G g) (hw : w.heap.size ≤ g) : OQ p S G t w jo ep a n c ra rn rc cut r w2 := by
  obtain ⟨S', h1, h2, h3, h4⟩ := h
  refine ⟨S', h1.cell hb hw (fun hs => h2 g hs hg), h2, h3, h4.imp id ?_⟩
  rintro ⟨h5, jp, xs, l, e1, e2, e3, hJ, h6, h7, h8, hR, h9⟩
  exact ⟨h5, jp, xs, l, e1, e2, e3, hb.arr hJ (fun e => h8 (by have : jp = g := e; rw [this]; exact hg)), h6, h7, h8, hR.keep hb (fun k _ e => .inr (.inl (by have : k = g := e; rw [this]; exact hg))), h9⟩
/-- Open's answer in one form -/
theorem jopen_q (p : Nat) (S : Nat → Prop) (s : FlS) (w : World) (hf : Fl w p S s) (hw : s.wr + 3 < 4000000000000000000) :
    Calls Try.prog 10 #[.pointer (some ⟨p, 0, none⟩)] w fun e w' => ∃ jo ep a n c ra rn rc cut r, e = .returned (.tuple #[.pointer jo, .agg #[.int .i64 ep, .slice a n c, .slice ra rn rc, .int .i64 cut], .int .i64 r]) ∧
      (∀ G : Nat → Prop, (∀ k, G k → ¬ S k) → (∀ k, G k → k < w.heap.size ∨ w'.heap.size ≤ k) → OQ p S G s w jo ep a n c ra rn rc cut r w') ∧ w.heap.size ≤ w'.heap.size := by
  refine (jopen_any p S s w hf hw).mono ?_
  rintro e w' ⟨S', hF, h⟩
  have hS' : ∀ G : Nat → Prop, (∀ k, G k → ¬ S k) → (∀ k, G k → k < w.heap.size ∨ w'.heap.size ≤ k) → ∀ k, S' k → ¬ G k := fun G hG hg k hk hgk => by
    have h1 := hF.fl.lt k hk
    rcases hF.at_ k hk with h2 | h2
    · exact hG k hgk h2
    · rcases hg k hgk with h3 | h3 <;> omega
  rcases h with ⟨h0, rfl⟩ | ⟨h0, jp, sn, rv, xs, rfl, hJ, hjp, hjs, hR⟩
  · exact ⟨none, 0, none, 0, 0, none, 0, 0, 0, s.jopen.2, rfl, fun G hG hg => ⟨S', hF, hS' G hG hg, rfl, .inl ⟨h0, rfl, rfl, rfl, rfl, rfl, rfl, rfl, rfl, rfl⟩⟩, hF.but.size⟩
  · obtain ⟨ra, rc, hrv⟩ := own_parts hR.rr.row
    have hxl := congrArg List.length hR.rl
    rw [List.length_map] at hxl
    rw [hxl] at hrv
    subst hrv
    obtain ⟨a, n, c, l⟩ := sn
    refine ⟨some ⟨jp, 0, none⟩, (s.openJ.ep : Int), a, n, c, ra, s.pickC.rs.length, rc, (s.pickC.t.length : Int), 0, rfl, fun G hG hg => ⟨S', hF, hS' G hG hg, h0.symm, .inr ⟨rfl, jp, xs, l, rfl, rfl, rfl, hJ, hjp, hjs, fun hgj => ?_, ?_, rfl⟩⟩, hF.but.size⟩
    · have := hJ.lt
      rcases hg jp hgj with h3 | h3 <;> omega
    · have key : ∀ {e n : Nat} {v : Value} {ys : List Value}, e ≠ 87 → w'.ownsRow w.heap.size e 1 v n ys → ∀ k, v.ownBlock = some k → ¬ G k ∧ k ≠ jp := by
        intro e n v ys he ho k hk
        have h1 := ho.lt k hk
        refine ⟨fun hgk => ?_, fun ej => ?_⟩
        · rcases hg k hgk with h3 | h3 <;> omega
        · exact own_typ14 ho (show w'.heap[k]? = _ by rw [ej]; exact hJ) (fun e' => he e'.symm) hk
      refine ⟨hR.sok, hR.sl, hR.rr, hR.rl, hR.snew, hR.own, fun h0 x hx hz => ?_, fun k hk hz => ?_, fun x hx k hk hz => ?_⟩
      · obtain ⟨a', cc, pl, o, e, -⟩ := hR.own h0
        have hb : x.block = a' := by rw [e] at hx; simp only [Option.some.injEq] at hx; rw [← hx]
        have hk := key (by decide) o a' rfl
        rcases hz with hz | hz | hz
        · exact hR.sz h0 x hx hz
        · rw [hb] at hz; exact hk.1 hz
        · rw [hb] at hz; exact hk.2 hz
      · have h1 := key (by decide) hR.rr.row k hk
        rcases hz with hz | hz | hz
        · exact hR.rz k hk hz
        · exact h1.1 hz
        · exact h1.2 hz
      · have h1 := key (by decide) (hR.rr.own x hx).1 k hk
        rcases hz with hz | hz | hz
        · exact hR.xz x hx k hk hz
        · exact h1.1 hz
        · exact h1.2 hz
/-- the state ahead of the last Open, of so many that may follow a crash -/
def reoS : Nat → FlS → FlS
  | 0, s => s
  | n + 1, s => if s.jopen.2 = 121 then reoS n s.jopen.1.restart.1 else s
end Go.Proofs.Ytonpikdpclpkiaa

set_option linter.unusedVariables false
namespace Go.Proofs.Ytonpikdpclpkiaa
open Go.RowKit

theorem OQ.lift {p : Nat} {S S2 G : Nat → Prop} {t s2 : FlS} {w w2 : World} {jo : Option Addr} {ep : Int} {a : Option Addr} {n c : Nat} {ra : Option Addr} {rn rc : Nat} {cut r : Int} {w' : World} (h : OQ p S2 G t w2 jo ep a n c ra rn rc cut r w') (hf : FSt p S s2 w w2 S2) : OQ p S G t w jo ep a n c ra rn rc cut r w' := by
  obtain ⟨S', h1, h2, h3, h4⟩ := h
  refine ⟨S', hf.trans h1, h2, h3, h4.imp id ?_⟩
  rintro ⟨h5, jp, xs, l, e1, e2, e3, hJ, h6, h7, h8, hR, h9⟩
  exact ⟨h5, jp, xs, l, e1, e2, e3, hJ, Nat.le_trans hf.but.size h6, h7, h8, hR.to hf.but.size (fun k _ _ h => h), h9⟩
theorem OQ.free {p : Nat} {S G : Nat → Prop} {t : FlS} {w : World} {jo : Option Addr} {ep : Int} {a : Option Addr} {n c : Nat} {ra : Option Addr} {rn rc : Nat} {cut r : Int} {w' : World} (h : OQ p S G t w jo ep a n c ra rn rc cut r w') : OQ p S (fun _ => False) t w jo ep a n c ra rn rc cut r w' := by
  obtain ⟨S', h1, h2, h3, h4⟩ := h
  refine ⟨S', h1, fun _ _ h => h, h3, h4.imp id ?_⟩
  rintro ⟨h5, jp, xs, l, e1, e2, e3, hJ, h6, h7, h8, hR, h9⟩
  exact ⟨h5, jp, xs, l, e1, e2, e3, hJ, h6, h7, fun h => h, hR.to (Nat.le_refl _) (fun k _ _ h => by rcases h with h | h | h; exact .inl h; exact absurd h (fun h => h); exact .inr (.inr h)), h9⟩
theorem tidy_wr (s : FlS) (b : Int) (c : Cts) : (s.tidy b c).1.wr ≤ s.wr + 3 := by
  unfold FlS.tidy
  split
  · have := s.empty_wr (1 - b); omega
  · split
    · simp
    · have h1 := s.refill_wr (1 - b) (hdr (c.e + 1) c.rs.length c.s ++ flatR c.rs)
      split
      · omega
      · have := (s.refill (1 - b) (hdr (c.e + 1) c.rs.length c.s ++ flatR c.rs)).1.erase_wr b
        omega
theorem jopen_wr (s : FlS) : s.jopen.1.wr ≤ s.wr + 3 := by
  unfold FlS.jopen
  split
  · simp
  · split
    · simp
    · exact tidy_wr _ _ _
theorem restart_wr (s : FlS) : s.restart.1.wr = s.wr := by unfold FlS.restart; split <;> rfl
theorem reoS_stop (n : Nat) (s : FlS) (h : s.jopen.2 ≠ 121) : reoS n s = s := by
  cases n with
  | zero => rfl
  | succ n => unfold reoS; rw [if_neg h]
theorem reoS_go (n : Nat) (s : FlS) (h : s.jopen.2 = 121) : reoS (n + 1) s = reoS n s.jopen.1.restart.1 := by
  rw [reoS, if_pos h]

set_option maxHeartbeats 4000000 in
set_option maxRecDepth 100000 in
theorem reopened_any (p : Nat) (S : Nat → Prop) (s : FlS) (tries : Nat) (w : World) (hf : Fl w p S s) (htr : tries ≤ 1000000000000000) (hw : s.wr + 3 * tries + 12 < 4000000000000000000) :
    Calls Try.prog 9 #[.pointer (some ⟨p, 0, none⟩), .int .i64 tries] w fun e w' => ∃ jo ep a n c ra rn rc cut r, e = .returned (.tuple #[.pointer jo, .agg #[.int .i64 ep, .slice a n c, .slice ra rn rc, .int .i64 cut], .int .i64 r]) ∧
      OQ p S (fun _ => False) (reoS (tries + 1) s) w jo ep a n c ra rn rc cut r w' := by
  obtain ⟨W0, hW0⟩ : ∃ W, W = w.alloc (.cells #[.int .i64 0, .slice none 0 0, .slice none 0 0, .int .i64 0] 33) := ⟨_, rfl⟩
  have B0 : Below w.heap.size w W0 := by rw [hW0]; exact below_alloc w _
  have A0 : Arr W0 w.heap.size 33 [.int .i64 0, .slice none 0 0, .slice none 0 0, .int .i64 0] := by rw [hW0]; exact Arr.new w _ [.int .i64 0, .slice none 0 0, .slice none 0 0, .int .i64 0]
  have HF := hide hf
  have HLT : Hid (∀ k, S k → k < w.heap.size) := hide hf.lt
  have hO := jopen_q p S s W0 (hf.later B0) (by omega)
  have HW0 := hide hW0
  have HB0 := hide B0
  have HA0 := hide A0
  clear hW0 B0 A0 hf
  go_enter Try.func9, Try.ntmps9
  go_wp2_with (go_at_call 10; rw [← unhide HW0]; refine hO.mono ?_; rintro e w1 ⟨jo0, ep0, a0, n0, c0, ra0, rn0, rc0, cut0, r0, rfl, hq, hsz⟩; clear hO; have HQ := hide hq; have HSZ := hide hsz; clear hq hsz)
  have hlt0 : w.heap.size < W0.heap.size := (unhide HA0).lt
  obtain ⟨bx, hbx⟩ : ∃ b, b = w1.heap.size := ⟨_, rfl⟩
  have hq1 := (unhide HQ) (fun k => k = w.heap.size ∨ k = bx) (fun k hk hs => by
    have h1 := (unhide HLT) k hs
    have h2 := unhide HSZ
    rcases hk with hk | hk <;> omega) (fun k hk => by rcases hk with hk | hk <;> omega)
  have bX := below_alloc w1 (.cells #[.int .i64 ep0, .slice a0 n0 c0, .slice ra0 rn0 rc0, .int .i64 cut0] 33)
  have hA1 : Arr w1 w.heap.size 33 [.int .i64 0, .slice none 0 0, .slice none 0 0, .int .i64 0] := by
    obtain ⟨S', hF, -⟩ := hq1
    exact hF.but.arr (unhide HA0) (fun hs => Nat.lt_irrefl _ ((unhide HLT) _ hs))
  have HST : Hid (OQ p S (fun k => k = w.heap.size ∨ k = bx) s w jo0 ep0 a0 n0 c0 ra0 rn0 rc0 cut0 r0 (w1.alloc (.cells #[.int .i64 ep0, .slice a0 n0 c0, .slice ra0 rn0 rc0, .int .i64 cut0] 33)) ∧ Arr (w1.alloc (.cells #[.int .i64 ep0, .slice a0 n0 c0, .slice ra0 rn0 rc0, .int .i64 cut0] 33)) bx 33 [.int .i64 ep0, .slice a0 n0 c0, .slice ra0 rn0 rc0, .int .i64 cut0] ∧ Arr (w1.alloc (.cells #[.int .i64 ep0, .slice a0 n0 c0, .slice ra0 rn0 rc0, .int .i64 cut0] 33)) w.heap.size 33 [.int .i64 0, .slice none 0 0, .slice none 0 0, .int .i64 0]) := hide ⟨(hq1.lift (FSt.refl (unhide HF) |>.then (unhide HB0))).later bX, by rw [hbx]; exact Arr.new w1 _ [.int .i64 ep0, .slice a0 n0 c0, .slice ra0 rn0 rc0, .int .i64 cut0], hA1.later bX⟩
  have HLB : Hid (w.heap.size < bx) := hide (by have := unhide HSZ; omega)
  rw [← hbx]
  clear hq1 bX hA1 HQ HSZ hlt0 hbx
  go_loopw [7, 9, 10] (fun jv ev nv wr => ∃ (k : Nat) (t : FlS) (jo : Option Addr) (ep : Int) (a : Option Addr) (n c : Nat) (ra : Option Addr) (rn rc : Nat) (cut r : Int), jv = .pointer jo ∧ ev = .int .i64 r ∧ nv = .int .i64 k ∧ k ≤ tries + 1 ∧ Hid (reoS (tries + 1) s = reoS (tries + 1 - k) t ∧ t.wr ≤ s.wr + 3 * k) ∧
      OQ p S (fun k => k = w.heap.size ∨ k = bx) t w jo ep a n c ra rn rc cut r wr ∧ Arr wr bx 33 [.int .i64 ep, .slice a n c, .slice ra rn rc, .int .i64 cut] ∧ Arr wr w.heap.size 33 [.int .i64 0, .slice none 0 0, .slice none 0 0, .int .i64 0])
    (fun _ _ nv _ => tries + 1 - (intOf nv).toNat)
  case atStart => exact ⟨0, s, jo0, ep0, a0, n0, c0, ra0, rn0, rc0, cut0, r0, rfl, rfl, rfl, Nat.zero_le _, hide ⟨rfl, Nat.le_refl _⟩, (unhide HST).1, (unhide HST).2.1, (unhide HST).2.2⟩
  case round =>
    clear HST
    obtain ⟨k, t, jo, ep, a, n, c, ra, rn, rc, cut, r, rfl, rfl, rfl, hk, HR, hQ, hA, hZ⟩ := hrel
    have x0 := hA.cell 0
    have x1 := hA.cell 1
    have x2 := hA.cell 2
    have x3 := hA.cell 3
    have y0 := hZ.cell 0
    have y1 := hZ.cell 1
    have y2 := hZ.cell 2
    have y3 := hZ.cell 3
    simp at x0 x1 x2 x3 y0 y1 y2 y3
    have HA := hide hA
    have HZ := hide hZ
    have HQ := hide hQ
    by_cases hgo : k ≤ tries ∧ r = 121
    · obtain ⟨hg1, hg2⟩ := hgo
      subst hg2
      obtain ⟨S', hF, hG, hr, -⟩ := hQ
      have hRs := restart_any p S' t.jopen.1 wr hF.fl
      have HHF := hide hF
      have HG := hide hG
      have HRR : Hid (t.jopen.2 = 121) := hide hr.symm
      obtain ⟨t', ht'⟩ : ∃ x, x = t.jopen.1.restart.1 := ⟨_, rfl⟩
      have HTW : Hid (t'.wr ≤ s.wr + 3 * (k + 1) ∧ reoS (tries + 1) s = reoS (tries + 1 - (k + 1)) t') := hide (by
        have h1 := jopen_wr t
        have h2 := restart_wr t.jopen.1
        have h3 := (unhide HR).2
        refine ⟨by rw [ht']; omega, ?_⟩
        rw [(unhide HR).1, show tries + 1 - k = (tries + 1 - (k + 1)) + 1 by omega, reoS_go _ _ hr.symm, ht'])
      have HT' := hide ht'
      have hkz : (k : Int) ≤ (tries : Int) := by omega
      generalize t.jopen.1.restart.2 = rz at hRs
      clear hA hZ hF hG hr ht' x0 x1 x2 x3 y0 y1 y2 y3
      go_wp2_with (first
        | (go_at_call 10; refine hO.mono ?_; rintro e w3 ⟨jo2, ep2, a2, n2, c2, ra2, rn2, rc2, cut2, r2, rfl, hq, hsz⟩; clear hO
           have hq3 := hq (fun k => k = w.heap.size ∨ k = bx) (unhide HG2) (fun k hk => .inl (by rcases hk with hk | hk; rw [hk]; exact (unhide HZ2).lt; rw [hk]; exact (unhide HA2).lt))
           have HQ3 := hide hq3
           obtain ⟨S3, hF3, -⟩ := hq3
           have A3 := hF3.but.arr (unhide HA2) (fun hs => unhide HG2 _ (.inr rfl) hs)
           have Z3 := hF3.but.arr (unhide HZ2) (fun hs => unhide HG2 _ (.inl rfl) hs)
           have x0 := A3.cell 0
           have x1 := A3.cell 1
           have x2 := A3.cell 2
           have x3 := A3.cell 3
           simp at x0 x1 x2 x3
           have f0 := A3.frozen 0
           have f1 := A3.frozen 1
           have f2 := A3.frozen 2
           have f3 := A3.frozen 3
           have HA3 := hide A3
           have HZ3 := hide Z3
           clear hq hsz hF3 A3 Z3)
        | (go_at_call 32; refine hRs.mono ?_; rintro e w2 ⟨rfl, S2, k2⟩; clear hRs
           rw [← unhide HT'] at k2
           have HG2 : Hid (∀ k, (k = w.heap.size ∨ k = bx) → ¬ S2 k) := hide (fun k hk hs => by
             rcases k2.at_ k hs with h1 | h1
             · exact unhide HG k h1 hk
             · have h2 := (unhide HA).lt
               have h3 := (unhide HZ).lt
               rcases hk with hk | hk <;> omega)
           have HA2 := hide (k2.but.arr (unhide HA) (fun hs => unhide HG _ hs (.inr rfl)))
           have HZ2 := hide (k2.but.arr (unhide HZ) (fun hs => unhide HG _ hs (.inl rfl)))
           have hO := jopen_q p S2 t' w2 k2.fl (by have := (unhide HTW).1; omega)
           have HK2 := hide k2
           clear k2))
      go_roundw
      case rel =>
        have hb := but4 (g := bx) (W := w3) (.int .i64 ep2) (.slice a2 n2 c2) (.slice ra2 rn2 rc2) (.int .i64 cut2)
        refine ⟨k + 1, t', jo2, ep2, a2, n2, c2, ra2, rn2, rc2, cut2, r2, rfl, rfl, by go_num, by omega, hide ⟨(unhide HTW).2, (unhide HTW).1⟩, ?_, ?_, ?_⟩
        · exact ((unhide HQ3).lift ((unhide HHF).trans (unhide HK2))).cell hb (.inr rfl) (Nat.le_of_lt (unhide HLB))
        · exact arr4 _ _ _ _ (unhide HA3)
        · exact hb.arr (unhide HZ3) (fun e => by have : w.heap.size = bx := e; have := unhide HLB; omega)
      case measure => simp [intOf]; omega
    · have HT : Hid (reoS (tries + 1) s = t) := hide (by
        rw [(unhide HR).1]
        by_cases h1 : k ≤ tries
        · refine reoS_stop _ _ (fun h => hgo ⟨h1, ?_⟩)
          obtain ⟨S', -, -, hr, -⟩ := hQ
          rw [hr]; exact h
        · rw [show tries + 1 - k = 0 by omega]; rfl)
      have f0 := hZ.frozen 0
      have f1 := hZ.frozen 1
      have f2 := hZ.frozen 2
      have f3 := hZ.frozen 3
      have hcd : ¬ (k : Int) ≤ (tries : Int) ∨ ((k : Int) ≤ (tries : Int) ∧ (r == 121) = false) := by
        by_cases h1 : k ≤ tries
        · right
          refine ⟨by omega, ?_⟩
          rw [beq_eq_false_iff_ne]
          exact fun h => hgo ⟨h1, h⟩
        · left; omega
      clear hA hZ hQ hgo
      rcases hcd with hcd | ⟨hcd, hr1⟩
      · go_wp2_with fail
        go_region
        go_wp2
        have hb := buts_drew (but4 (g := w.heap.size) (W := wr) (.int .i64 ep) (.slice a n c) (.slice ra rn rc) (.int .i64 cut))
        refine bodyPost_ret (results_tmp_row_tmp rfl _ _ w.heap.size 33 _ (0, 0) _ rfl (.pointer jo) rfl (.int .i64 r) rfl (arr4 (.int .i64 ep) (.slice a n c) (.slice ra rn rc) (.int .i64 cut) (unhide HZ)) Try.underlying33 rfl Try.szR) rfl ?_
        refine ⟨jo, ep, a, n, c, ra, rn, rc, cut, r, rfl, ?_⟩
        rw [unhide HT]
        exact ((unhide HQ).cell hb (.inl rfl) (Nat.le_refl _)).free
      · go_wp2_with fail
        go_region
        go_wp2
        have hb := buts_drew (but4 (g := w.heap.size) (W := wr) (.int .i64 ep) (.slice a n c) (.slice ra rn rc) (.int .i64 cut))
        refine bodyPost_ret (results_tmp_row_tmp rfl _ _ w.heap.size 33 _ (0, 0) _ rfl (.pointer jo) rfl (.int .i64 r) rfl (arr4 (.int .i64 ep) (.slice a n c) (.slice ra rn rc) (.int .i64 cut) (unhide HZ)) Try.underlying33 rfl Try.szR) rfl ?_
        refine ⟨jo, ep, a, n, c, ra, rn, rc, cut, r, rfl, ?_⟩
        rw [unhide HT]
        exact ((unhide HQ).cell hb (.inl rfl) (Nat.le_refl _)).free
end Go.Proofs.Ytonpikdpclpkiaa

set_option linter.unusedVariables false
namespace Go.Proofs.Ytonpikdpclpkiaa
open Go.RowKit

/-- behind an Open that is OK the other bank is empty -/
theorem open_other {s s' : FlS} (hu : s.down = false) (h0 : s.pickC.e ≠ 0) (e : s.jopen = (s', 0)) : s'.bk (1 - s.openJ.bank) = [] := by
  have hj : s.jopen = s.tidy s.pickB s.pickC := by unfold FlS.jopen; rw [if_neg (by rw [hu]; simp), if_neg h0]
  rw [hj] at e
  have hB := pickB_01 s
  have hB' : 1 - s.pickB = 0 ∨ 1 - s.pickB = 1 := by omega
  unfold FlS.openJ tidyJ
  unfold FlS.tidy at e
  by_cases ht : s.pickC.t.length = 0
  · rw [if_pos ht] at e ⊢
    rcases FlS.empty_spec hB' hu with ⟨s1, e1, hw⟩ | ⟨s1, l, e1, -, -⟩
    · rw [e1] at e
      simp only [Prod.mk.injEq, and_true] at e
      rw [← e]; exact hw.bk
    · rw [e1] at e; simp at e
  · rw [if_neg ht] at e ⊢
    by_cases hl : s.pickC.e = 9223372036854775807
    · rw [if_pos hl] at e; simp at e
    rw [if_neg hl] at e
    by_cases hr : (s.refill (1 - s.pickB) (hdr (s.pickC.e + 1) s.pickC.rs.length s.pickC.s ++ flatR s.pickC.rs)).2 ≠ 0
    · rw [if_pos hr] at e; rw [e] at hr; exact absurd rfl hr
    · rw [if_neg hr] at e
      have hup := FlS.refill_up (s := s) (b := 1 - s.pickB) (l := hdr (s.pickC.e + 1) s.pickC.rs.length s.pickC.s ++ flatR s.pickC.rs) (by omega)
      rcases FlS.erase_spec hB hup with ⟨s1, e1, hw⟩ | ⟨s1, l, e1, -, -⟩
      · rw [e1] at e
        simp only [Prod.mk.injEq, and_true] at e
        rw [← e]
        simp only
        rw [show 1 - (1 - s.pickB) = s.pickB by omega]
        exact hw.bk
      · rw [e1] at e; simp at e
theorem FlS.Ok.jopen {s : FlS} (h : s.Ok) : s.jopen.1.Ok := by
  unfold FlS.jopen
  split
  · exact h
  · split
    · exact h
    · rename_i h0
      have hB := pickB_01 s
      have hc := pick_ct h h0
      unfold FlS.tidy
      split
      · exact h.empty (by omega)
      · split
        · exact h
        · have hr := h.refill (b := 1 - s.pickB) (by omega) ((hdr_isB (e := s.pickC.e + 1) (n := s.pickC.rs.length) hc.ib).append hc.fb)
          split
          · exact hr
          · exact hr.erase hB
theorem FlS.Ok.restart {s : FlS} (h : s.Ok) : s.restart.1.Ok := by
  unfold FlS.restart
  split
  · exact ⟨h.b0, h.b1, h.z0, h.z1, h.mx, h.ql, h.qb⟩
  · exact h
theorem Fnd.restart {s : FlS} {sn : List Int} {rs : List (List Int)} {E : Nat} (h : Fnd s sn rs E) : Fnd s.restart.1 sn rs E := by
  refine h.of ?_
  unfold FlS.restart FlS.pickC
  split <;> rfl
theorem restart_up (s : FlS) : s.restart.1.down = false := by
  unfold FlS.restart
  split
  · rfl
  · rename_i h; simpa using h
theorem restart_q (s : FlS) : s.restart.1.q = s.q := by unfold FlS.restart; split <;> rfl
/-- opened again and again: what is found -/
theorem reo_found : ∀ (n : Nat) (s : FlS) (sn : List Int) (rs : List (List Int)) (E : Nat), Fnd s sn rs E → E ≤ 9223372036854775807 → s.Ok → s.down = false → s.q.length ≤ n →
    ∃ s', (reoS (n + 1) s).jopen = (s', 0) ∧ JI s' (reoS (n + 1) s).openJ sn rs ∧ (reoS (n + 1) s).openJ.ep ≤ E ∧ Fnd (reoS (n + 1) s) sn rs E ∧ (reoS (n + 1) s).down = false ∧ s'.q.length ≤ s.q.length ∧ s'.wr + 3 * s'.q.length ≤ s.wr + 3 * s.q.length + 3 ∧ s'.Ok
  | 0, s, sn, rs, E, hf, hE, ho, hu, hq => by
    rcases opens hf hE hu ho with ⟨s', e, hi, he, hw, hl, hz⟩ | ⟨s', e, -, -, -, hl, -⟩
    · have hr : reoS 1 s = s := reoS_stop 1 s (by rw [e]; simp)
      have hok := ho.jopen
      rw [e] at hok
      rw [hr]
      exact ⟨s', e, hi, he, hf, hu, hl, by omega, hok⟩
    · omega
  | n + 1, s, sn, rs, E, hf, hE, ho, hu, hq => by
    have hok := ho.jopen
    rcases opens hf hE hu ho with ⟨s', e, hi, he, hw, hl, hz⟩ | ⟨s', e, hf', hd, hw, hl, hz⟩
    · have hr : reoS (n + 1 + 1) s = s := reoS_stop _ s (by rw [e]; simp)
      rw [e] at hok
      rw [hr]
      exact ⟨s', e, hi, he, hf, hu, hl, by omega, hok⟩
    · have hr : reoS (n + 1 + 1) s = reoS (n + 1) s'.restart.1 := by rw [reoS_go (n + 1) s (by rw [e]), e]
      rw [e] at hok
      rw [hr]
      obtain ⟨s2, h1, h2, h3, h4, h5, h6, h7, h8⟩ := reo_found n s'.restart.1 sn rs E hf'.restart hE hok.restart (restart_up _) (by rw [restart_q]; omega)
      rw [restart_q] at h6 h7
      rw [restart_wr] at h7
      exact ⟨s2, h1, h2, h3, h4, h5, by omega, by omega, h8⟩
/-- the same, where the flash is down at first -/
theorem reo_down {n : Nat} {s : FlS} {sn : List Int} {rs : List (List Int)} {E : Nat} (hf : Fnd s sn rs E) (hE : E ≤ 9223372036854775807) (ho : s.Ok) (hd : s.down = true) (hq : s.q.length + 1 ≤ n) :
    ∃ s', (reoS (n + 1) s).jopen = (s', 0) ∧ JI s' (reoS (n + 1) s).openJ sn rs ∧ (reoS (n + 1) s).openJ.ep ≤ E ∧ Fnd (reoS (n + 1) s) sn rs E ∧ (reoS (n + 1) s).down = false ∧ s'.q.length ≤ s.q.length ∧ s'.wr + 3 * s'.q.length ≤ s.wr + 3 * s.q.length + 3 ∧ s'.Ok := by
  have hj : s.jopen = (s, 121) := by unfold FlS.jopen; rw [if_pos hd]
  obtain ⟨m, rfl⟩ : ∃ m, n = m + 1 := ⟨n - 1, by omega⟩
  have hr : reoS (m + 1 + 1) s = reoS (m + 1) s.restart.1 := by rw [reoS_go (m + 1) s (by rw [hj]), hj]
  rw [hr]
  obtain ⟨s2, h1, h2, h3, h4, h5, h6, h7, h8⟩ := reo_found m s.restart.1 sn rs E hf.restart hE ho.restart (restart_up _) (by rw [restart_q]; omega)
  rw [restart_q] at h6 h7
  rw [restart_wr] at h7
  exact ⟨s2, h1, h2, h3, h4, h5, h6, h7, h8⟩
/-- an Open behind an Open writes nothing -/
theorem open_again {s : FlS} {j : JS} {sn : List Int} {rs : List (List Int)} (h : JI s j sn rs) (h0 : s.bk (1 - j.bank) = []) : s.jopen = (s, 0) := by
  have hp := h.pick
  have h1 := h.e1
  unfold FlS.jopen
  rw [if_neg (by rw [h.up]; simp), if_neg (by rw [hp.2]; simp only; omega)]
  unfold FlS.tidy
  rw [hp.1, hp.2]
  simp only [List.length_nil, if_true]
  unfold FlS.empty
  rw [if_neg (fun hh => hh (ref_up h.up (by have := h.b01; omega))), if_pos (by rw [h0]; rfl)]
theorem JI.disarm {s : FlS} {j : JS} {sn : List Int} {rs : List (List Int)} (h : JI s j sn rs) : JI { s with q := [] } j sn rs := ⟨h.up, h.b01, h.by_, h.e1, h.e2, h.ct, h.ok, h.sl, h.sb, h.ot⟩
/-- crashes that are laid down ahead leave the banks -/
structure Armd (s s' : FlS) (n : Nat) : Prop where
  l0 : s'.l0 = s.l0
  l1 : s'.l1 = s.l1
  dn : s'.down = s.down
  wr : s'.wr = s.wr
  ql : s'.q.length ≤ n
theorem Armd.pick {s s' : FlS} {n : Nat} (h : Armd s s' n) : s'.pickB = s.pickB ∧ s'.pickC = s.pickC := by
  unfold FlS.pickB FlS.pickC
  rw [h.l0, h.l1]
  exact ⟨rfl, rfl⟩
theorem arm_armd {s s' : FlS} {n : Nat} (h : Armd s s' n) (a k : Int) : Armd s (s'.arm a k).1 (n + 1) := by
  have hq := h.ql
  unfold FlS.arm
  split
  · exact ⟨h.l0, h.l1, h.dn, h.wr, by simp only; omega⟩
  · split
    · exact ⟨h.l0, h.l1, h.dn, h.wr, by simp only; omega⟩
    · exact ⟨h.l0, h.l1, h.dn, h.wr, by simp only [List.length_append, List.length_cons, List.length_nil]; omega⟩
end Go.Proofs.Ytonpikdpclpkiaa

set_option linter.unusedVariables false
namespace Go.Proofs.Ytonpikdpclpkiaa
open Go.RowKit

/-- what an Open that is OK has answered and left -/
structure OKQ (p : Nat) (S : Nat → Prop) (sn : List Int) (rs : List (List Int)) (w w' : World) (s' : FlS) (S' : Nat → Prop) (j : JS) (jp : Nat) (cut : Int) (c : Cts) (sl : Sl) (ra : Option Addr) (rc : Nat) (xs : List Rx) : Prop where
  fst : FSt p S s' w w' S'
  ji : JI s' j sn rs
  jn : Jn w' jp p (some j)
  jge : w.heap.size ≤ jp
  jns : ¬ S' jp
  rec_ : RecS w.heap.size (fun k => S' k ∨ False ∨ k = jp) c w' sl (.slice ra rs.length rc) xs
  cs : c.s = sn
  crs : c.rs = rs
  oth : s'.bk (1 - j.bank) = []
  cut_ : cut = (c.t.length : Int)
theorem oq_ok {p : Nat} {S : Nat → Prop} {t : FlS} {w : World} {jo : Option Addr} {ep : Int} {a : Option Addr} {n c : Nat} {ra : Option Addr} {rn rc : Nat} {cut r : Int} {w' : World} {sn : List Int} {rs : List (List Int)} {s' : FlS}
    (h : OQ p S (fun _ => False) t w jo ep a n c ra rn rc cut r w') (e : t.jopen = (s', 0)) (hi : JI s' t.openJ sn rs) (hs : t.pickC.s = sn) (hr : t.pickC.rs = rs) (hu : t.down = false) (h0 : t.pickC.e ≠ 0) :
    r = 0 ∧ ep = (t.openJ.ep : Int) ∧ rn = rs.length ∧ ∃ jp S' xs l, jo = some ⟨jp, 0, none⟩ ∧ OKQ p S sn rs w w' s' S' t.openJ jp cut t.pickC ⟨a, n, c, l⟩ ra rc xs := by
  obtain ⟨S', hF, -, hr1, h4⟩ := h
  rw [e] at hF hr1
  simp only at hF hr1
  subst hr1
  obtain ⟨-, jp, xs, l, e1, e2, e3, hJ, h6, h7, -, hR, h9⟩ := h4.resolve_left (fun h => h.1 rfl)
  rw [hr] at h9
  subst h9
  exact ⟨rfl, e2, rfl, jp, S', xs, l, e1, ⟨hF, hi, hJ, h6, h7, hR, hs, hr, open_other hu h0 e, e3⟩⟩
theorem oq_no {p : Nat} {S : Nat → Prop} {t : FlS} {w : World} {jo : Option Addr} {ep : Int} {a : Option Addr} {n c : Nat} {ra : Option Addr} {rn rc : Nat} {cut r : Int} {w' : World} {s' : FlS} {er : Int}
    (h : OQ p S (fun _ => False) t w jo ep a n c ra rn rc cut r w') (e : t.jopen = (s', er)) (he : er ≠ 0) :
    r = er ∧ jo = none ∧ ep = 0 ∧ a = none ∧ n = 0 ∧ c = 0 ∧ ra = none ∧ rn = 0 ∧ rc = 0 ∧ cut = 0 ∧ ∃ S', FSt p S s' w w' S' := by
  obtain ⟨S', hF, -, hr1, h4⟩ := h
  rw [e] at hF hr1
  simp only at hF hr1
  subst hr1
  obtain ⟨-, h1, h2, h3, h4, h5, h6, h7, h8, h9⟩ := h4.resolve_right (fun h => he h.1)
  exact ⟨rfl, h1, h2, h3, h4, h5, h6, h7, h8, h9, S', hF⟩
/-- opened again and again: refused -/
theorem reop_no (p : Nat) (S : Nat → Prop) (s s' : FlS) (er : Int) (tries : Nat) (w : World) (hf : Fl w p S s) (htr : tries ≤ 1000000000000000) (hw : s.wr + 3 * tries + 12 < 4000000000000000000) (e : s.jopen = (s', er)) (he : er ≠ 0) (he2 : er ≠ 121) :
    Calls Try.prog 9 #[.pointer (some ⟨p, 0, none⟩), .int .i64 tries] w fun r w' => r = .returned (.tuple #[.pointer none, .agg #[.int .i64 0, .slice none 0 0, .slice none 0 0, .int .i64 0], .int .i64 er]) ∧ ∃ S', FSt p S s' w w' S' := by
  refine (reopened_any p S s tries w hf htr hw).mono ?_
  rintro r w' ⟨jo, ep, a, n, c, ra, rn, rc, cut, r', rfl, hQ⟩
  rw [reoS_stop _ s (by rw [e]; exact he2)] at hQ
  obtain ⟨rfl, rfl, rfl, rfl, rfl, rfl, rfl, rfl, rfl, rfl, h⟩ := oq_no hQ e he
  exact ⟨rfl, h⟩
/-- opened again and again: found -/
theorem reop_ok (p : Nat) (S : Nat → Prop) (s : FlS) (tries : Nat) (sn : List Int) (rs : List (List Int)) (E : Nat) (w : World) (hf : Fl w p S s) (htr : tries ≤ 1000000000000000) (hw : s.wr + 3 * tries + 12 < 4000000000000000000)
    (hF : Fnd s sn rs E) (hE : E ≤ 9223372036854775807) (hq : (s.down = false ∧ s.q.length ≤ tries) ∨ (s.down = true ∧ s.q.length + 1 ≤ tries)) :
    Calls Try.prog 9 #[.pointer (some ⟨p, 0, none⟩), .int .i64 tries] w fun r w' => ∃ s' S' j jp a n c ra rc cut ct xs l, r = .returned (.tuple #[.pointer (some ⟨jp, 0, none⟩), .agg #[.int .i64 (JS.ep j : Nat), .slice a n c, .slice ra rs.length rc, .int .i64 cut], .int .i64 0]) ∧
      OKQ p S sn rs w w' s' S' j jp cut ct ⟨a, n, c, l⟩ ra rc xs ∧ j.ep ≤ E ∧ s'.q.length ≤ s.q.length ∧ s'.wr + 3 * s'.q.length ≤ s.wr + 3 * s.q.length + 3 := by
  have hfo : ∃ s', (reoS (tries + 1) s).jopen = (s', 0) ∧ JI s' (reoS (tries + 1) s).openJ sn rs ∧ (reoS (tries + 1) s).openJ.ep ≤ E ∧ Fnd (reoS (tries + 1) s) sn rs E ∧ (reoS (tries + 1) s).down = false ∧ s'.q.length ≤ s.q.length ∧ s'.wr + 3 * s'.q.length ≤ s.wr + 3 * s.q.length + 3 ∧ s'.Ok := by
    rcases hq with ⟨h1, h2⟩ | ⟨h1, h2⟩
    · exact reo_found tries s sn rs E hF hE hf.ok h1 h2
    · exact reo_down hF hE hf.ok h1 h2
  obtain ⟨s', e, hi, hep, hfn, hu, hql, hwr, -⟩ := hfo
  refine (reopened_any p S s tries w hf htr hw).mono ?_
  rintro r w' ⟨jo, ep, a, n, c, ra, rn, rc, cut, r', rfl, hQ⟩
  obtain ⟨rfl, rfl, rfl, jp, S', xs, l, rfl, hK⟩ := oq_ok hQ e hi hfn.sn hfn.rs hu hfn.e0
  exact ⟨s', S', _, jp, a, n, c, ra, rc, cut, _, xs, l, rfl, hK, hep, hql, hwr⟩
/-- Open: refused -/
theorem op_no (p : Nat) (S : Nat → Prop) (s s' : FlS) (er : Int) (w : World) (hf : Fl w p S s) (hw : s.wr + 3 < 4000000000000000000) (e : s.jopen = (s', er)) (he : er ≠ 0) :
    Calls Try.prog 10 #[.pointer (some ⟨p, 0, none⟩)] w fun r w' => r = .returned (.tuple #[.pointer none, .agg #[.int .i64 0, .slice none 0 0, .slice none 0 0, .int .i64 0], .int .i64 er]) ∧ ∃ S', FSt p S s' w w' S' := by
  refine (jopen_q p S s w hf hw).mono ?_
  rintro r w' ⟨jo, ep, a, n, c, ra, rn, rc, cut, r', rfl, hQ, -⟩
  obtain ⟨rfl, rfl, rfl, rfl, rfl, rfl, rfl, rfl, rfl, rfl, h⟩ := oq_no (hQ (fun _ => False) (fun _ h => absurd h (fun h => h)) (fun _ h => absurd h (fun h => h))) e he
  exact ⟨rfl, h⟩
/-- Open: found, no crash on the way -/
theorem op_ok (p : Nat) (S : Nat → Prop) (s s' : FlS) (sn : List Int) (rs : List (List Int)) (w : World) (hf : Fl w p S s) (hw : s.wr + 3 < 4000000000000000000) (e : s.jopen = (s', 0)) (hi : JI s' s.openJ sn rs) (hs : s.pickC.s = sn) (hr : s.pickC.rs = rs) (hu : s.down = false) (h0 : s.pickC.e ≠ 0) :
    Calls Try.prog 10 #[.pointer (some ⟨p, 0, none⟩)] w fun r w' => ∃ S' jp a n c ra rc cut xs l, r = .returned (.tuple #[.pointer (some ⟨jp, 0, none⟩), .agg #[.int .i64 (s.openJ.ep : Nat), .slice a n c, .slice ra rs.length rc, .int .i64 cut], .int .i64 0]) ∧
      OKQ p S sn rs w w' s' S' s.openJ jp cut s.pickC ⟨a, n, c, l⟩ ra rc xs := by
  refine (jopen_q p S s w hf hw).mono ?_
  rintro r w' ⟨jo, ep, a, n, c, ra, rn, rc, cut, r', rfl, hQ, -⟩
  obtain ⟨rfl, rfl, rfl, jp, S', xs, l, rfl, hK⟩ := oq_ok (hQ (fun _ => False) (fun _ h => absurd h (fun h => h)) (fun _ h => absurd h (fun h => h))) e hi hs hr hu h0
  exact ⟨S', jp, a, n, c, ra, rc, cut, xs, l, rfl, hK⟩
end Go.Proofs.Ytonpikdpclpkiaa
