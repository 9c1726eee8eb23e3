import Derived.Test.YtppmgfkpfamabaaQJnJ
import Derived.Deep.RegionHeld3
set_option maxHeartbeats 4000000
set_option maxRecDepth 100000
set_option linter.unusedVariables false
namespace Go.Proofs.Ytppmgfkpfamabaa
open Go.RowKit
theorem Try.szR : (Try.prog.info? 79).map (·.size) = some 4 := by kernel_rfl
def FlS.jopen (s : FlS) : FlS × Int := if s.down then (s, 121) else if s.pickC.e = 0 then (s, 140) else s.tidy s.pickB s.pickC
def FlS.openJ (s : FlS) : JS := tidyJ s.pickB s.pickC
structure RecS (B : Nat) (Z : Nat → Prop) (c : Cts) (W : World) (sn : Sl) (rv : Value) (xs : List Rx) : Prop where
  sok : sn.Ok W
  sl : sn.l = c.s
  cn : sn.c = sn.n
  rr : RxR B W rv xs
  rl : xs.map Rx.p = c.rs
  snew : ∀ x, sn.a = some x → B ≤ x.block
  own : 0 < sn.n → ∃ a cc pl, W.ownsRow B 5 1 (.slice (some ⟨a, 0, none⟩) (sn.n + 12) cc) (sn.n + 12) (U8 pl) ∧ sn.a = some ⟨a, 12, none⟩ ∧ sn.c = sn.n ∧ ∀ x ∈ xs, x.o ≠ some a
  sz : 0 < sn.n → ∀ x, sn.a = some x → ¬ Z x.block
  rz : ∀ k, rv.ownBlock = some k → ¬ Z k
  xz : ∀ x ∈ xs, ∀ k, x.o = some k → ¬ Z k
def recV (e : Int) (sn rv : Value) (cut : Int) : List Value := [.int .i64 e, sn, rv, .int .i64 cut]
def rec0 : List Value := [.int .i64 0, .slice none 0 0, .slice none 0 0, .int .i64 0]
def OPost (p : Nat) (S : Nat → Prop) (s : FlS) (w : World) (e : Ending) (w' : World) : Prop :=
  ∃ S', FSt p S s.jopen.1 w w' S' ∧
    ((s.jopen.2 ≠ 0 ∧ e = .returned (.tuple #[.pointer none, .agg rec0.toArray, .int .i64 s.jopen.2])) ∨
     (s.jopen.2 = 0 ∧ ∃ jp sn rv xs, e = .returned (.tuple #[.pointer (some ⟨jp, 0, none⟩), .agg (recV s.openJ.ep sn.v rv s.pickC.t.length).toArray, .int .i64 0]) ∧ Jn w' jp p (some s.openJ) ∧ w.heap.size ≤ jp ∧ ¬ S' jp ∧ RecS w.heap.size S' s.pickC w' sn rv xs))
theorem pick_ct {s : FlS} (h : s.Ok) (h0 : s.pickC.e ≠ 0) : CtOk s.pickC := by
  have key : ∀ l : List Int, IsB l → l.length ≤ 1048576 → (look l).e ≠ 0 → CtOk (look l) := by
    intro l hb hl h0
    rcases look_cases l with ⟨hd, -⟩ | ⟨-, h⟩
    · obtain ⟨n, e1, k1, k2, k3, k4, k5, k6, k7, k8⟩ := hd
      have hlen := congrArg List.length e1
      rw [List.length_append, List.length_append, hdr_length] at hlen
      have := flatR_len (look l).rs
      exact ⟨k1, k2, k7, by omega, by omega, by omega, k8, flatR_isB k5⟩
    · rw [h] at h0; exact absurd rfl h0
  unfold FlS.pickC at h0 ⊢
  split
  · rename_i hc; rw [if_pos hc] at h0; exact key _ h.b1 (Nat.le_trans h.z1 h.mx) h0
  · rename_i hc; rw [if_neg hc] at h0; exact key _ h.b0 (Nat.le_trans h.z0 h.mx) h0
theorem pickB_01 (s : FlS) : s.pickB = 0 ∨ s.pickB = 1 := by
  unfold FlS.pickB; split
  · exact .inr rfl
  · exact .inl rfl
theorem own_typ14 {W : World} {base e sz n b : Nat} {v : Value} {xs : List Value} {cs : Array Value} {t : TypeId} {fr : Nat × Nat} (h : W.ownsRow base e sz v n xs) (hb : W.heap[b]? = some (.cells cs t fr)) (ht : t ≠ e) : v.ownBlock ≠ some b := by
  rcases h.2 with ⟨rfl, _⟩ | ⟨g, cap, cur, rfl, _, hgb, _⟩
  · simp [Value.ownBlock]
  · intro e'
    obtain rfl : g = b := by simpa [Value.ownBlock] using e'
    have := hb.symm.trans hgb
    simp at this
    exact ht this.2.1
theorem ConS.toRec {T Z : Nat → Prop} {B B' : Nat} {c : Cts} {W W' : World} {t : List Value} {sn fr : Sl} {rv : Value} {xs : List Rx} (h : ConS B c W t sn fr rv xs) (hb : Buts T W W') (hT : ∀ k, B ≤ k → T k → ∃ cs f, W.heap[k]? = some (.cells cs 99 f)) (hZ : ∀ k, Z k → k < B ∨ W.heap.size ≤ k) (hB : B' ≤ B) : RecS B' Z c W' sn rv xs := by
  have key : ∀ {e n : Nat} {v : Value} {ys : List Value}, e ≠ 99 → W.ownsRow B e 1 v n ys → ∀ k, v.ownBlock = some k → ¬ T k ∧ ¬ Z k := by
    intro e n v ys he ho k hk
    obtain ⟨h1, h2⟩ := ho.lt k hk
    refine ⟨fun ht => ?_, fun hz => ?_⟩
    · obtain ⟨cs, f, hc⟩ := hT k h1 ht
      exact own_typ14 ho hc (fun e' => he e'.symm) hk
    · rcases hZ k hz with h3 | h3 <;> omega
  have hkr : RxR B W' rv xs := ⟨hb.own h.rr.row (fun g hg => (key (by decide) h.rr.row g hg).1), fun x hx => ⟨hb.own (h.rr.own x hx).1 (fun g hg => (key (by decide) (h.rr.own x hx).1 g hg).1), (h.rr.own x hx).2⟩, h.rr.pw⟩
  have hsn : 0 < sn.n → ∀ x, sn.a = some x → ¬ T x.block ∧ ¬ Z x.block := by
    intro h0 x hx
    obtain ⟨a, cc, pl, o, e, -⟩ := h.own h0
    rw [e] at hx
    simp only [Option.some.injEq] at hx
    subst hx
    exact key (by decide) o a rfl
  refine ⟨hb.ok h.sok (fun h0 y hy => (hsn (by rw [← h.sok.len]; exact h0) y hy).1), h.sl, h.cn, hkr.to hB, h.rl, fun x hx => Nat.le_trans hB (h.snew x hx), fun h0 => ?_, fun h0 x hx => (hsn h0 x hx).2, fun k hk => (key (by decide) h.rr.row k hk).2, fun x hx k hk => (key (by decide) (h.rr.own x hx).1 k hk).2⟩
  obtain ⟨a, cc, pl, o, e⟩ := h.own h0
  exact ⟨a, cc, pl, own_to' (hb.own o (fun g hg => (key (by decide) o g hg).1)) (Nat.le_refl _) hB, e⟩
theorem arr4 {W : World} {g ty : Nat} {x0 x1 x2 x3 : Value} (y0 y1 y2 y3 : Value) (h : Arr W g ty [x0, x1, x2, x3]) : Arr ((((W.setCell ⟨g, 0, none⟩ y0).setCell ⟨g, 1, none⟩ y1).setCell ⟨g, 2, none⟩ y2).setCell ⟨g, 3, none⟩ y3) g ty [y0, y1, y2, y3] :=
  (((h.set 0 y0).set 1 y1).set 2 y2).set 3 y3
theorem bel4 {B g : Nat} {w W : World} (y0 y1 y2 y3 : Value) (hb : Below B w W) (hg : B ≤ g) : Below B w ((((W.setCell ⟨g, 0, none⟩ y0).setCell ⟨g, 1, none⟩ y1).setCell ⟨g, 2, none⟩ y2).setCell ⟨g, 3, none⟩ y3) :=
  (((hb.setCell hg y0).setCell hg y1).setCell hg y2).setCell hg y3
theorem but4 {g : Nat} {W : World} (y0 y1 y2 y3 : Value) : Buts (· = g) W ((((W.setCell ⟨g, 0, none⟩ y0).setCell ⟨g, 1, none⟩ y1).setCell ⟨g, 2, none⟩ y2).setCell ⟨g, 3, none⟩ y3) :=
  ((((Buts.refl (· = g) W).setCell (g := g) rfl 0 y0).setCell (g := g) rfl 1 y1).setCell (g := g) rfl 2 y2).setCell (g := g) rfl 3 y3
theorem FSt.cell {p g : Nat} {S S' : Nat → Prop} {s : FlS} {w W W' : World} (h : FSt p S s w W S') (hb : Buts (· = g) W W') (hg : w.heap.size ≤ g) (hs : ¬ S' g) : FSt p S s w W' S' :=
  ⟨h.fl.keep hb (fun k hk e => hs (by have : k = g := e; rw [← this]; exact hk)), h.but.trans' hb (fun k hk e => by have : k = g := e; omega), h.at_⟩
theorem jopen_down (p : Nat) (S : Nat → Prop) (s : FlS) (w : World) (hf : Fl w p S s) (hu : s.down = true) :
    Calls Try.prog 37 #[.pointer (some ⟨p, 0, none⟩)] w (OPost p S s w) := by
  have HJ : Hid (s.jopen = (s, 121)) := hide (by unfold FlS.jopen; rw [if_pos hu])
  obtain ⟨W0, hW0⟩ : ∃ W, W = w.alloc (.cells #[.int .i64 0, .slice none 0 0, .slice none 0 0, .int .i64 0] 79) := ⟨_, rfl⟩
  have B0 : Below w.heap.size w W0 := by rw [hW0]; exact below_alloc w _
  have A0 : Arr W0 w.heap.size 79 [.int .i64 0, .slice none 0 0, .slice none 0 0, .int .i64 0] := by rw [hW0]; exact Arr.new w _ [.int .i64 0, .slice none 0 0, .slice none 0 0, .int .i64 0]
  have hF := find_down p S s W0 (hf.later B0) hu
  unfold dev at hF
  have HW0 := hide hW0
  have HB0 := hide B0
  have HA0 := hide A0
  have HF := hide hf
  clear hW0 B0 A0 hf
  go_enter Try.func37, Try.ntmps37
  go_wp2_with (go_at_call 60; rw [← unhide HW0]; refine hF.mono ?_; rintro e w1 ⟨rfl, b1⟩; clear hF; simp only [z5]; have A2 := ((unhide HA0).later b1).later (below_alloc w1 (.cells #[.int .u64 0, .slice none 0 0, .slice none 0 0, .slice none 0 0, .int .i64 0] 119)); have HA2 := hide A2; have c0 := A2.cell 0; have c1 := A2.cell 1; have c2 := A2.cell 2; have c3 := A2.cell 3; have f0 := A2.frozen 0; have f1 := A2.frozen 1; have f2 := A2.frozen 2; have f3 := A2.frozen 3; simp at c0 c1 c2 c3; have HB1 := hide b1; clear b1 A2)
  refine bodyPost_ret (results_tmp_row_tmp rfl _ _ w.heap.size 79 _ (0, 0) _ rfl (.pointer none) rfl (.int .i64 121) rfl (arr4 (.int .i64 0) (.slice none 0 0) (.slice none 0 0) (.int .i64 0) (unhide HA2)) Try.underlying79 rfl Try.szR) rfl ?_
  have b2 := bel_then (bel_then (unhide HB0) (unhide HB0).size (unhide HB1)) (Nat.le_trans (unhide HB0).size (unhide HB1).size) (below_alloc w1 (.cells #[.int .u64 0, .slice none 0 0, .slice none 0 0, .slice none 0 0, .int .i64 0] 119))
  have b3 := bel4 (.int .i64 0) (.slice none 0 0) (.slice none 0 0) (.int .i64 0) b2 (Nat.le_refl w.heap.size)
  unfold OPost
  rw [unhide HJ]
  exact ⟨S, (FSt.refl (unhide HF)).then b3, .inl ⟨by simp, rfl⟩⟩
theorem jopen_blank (p : Nat) (S : Nat → Prop) (s : FlS) (w : World) (hf : Fl w p S s) (hu : s.down = false) (h0 : s.pickC.e = 0) :
    Calls Try.prog 37 #[.pointer (some ⟨p, 0, none⟩)] w (OPost p S s w) := by
  have HJ : Hid (s.jopen = (s, 140)) := hide (by unfold FlS.jopen; rw [if_neg (by rw [hu]; simp), if_pos h0])
  obtain ⟨W0, hW0⟩ : ∃ W, W = w.alloc (.cells #[.int .i64 0, .slice none 0 0, .slice none 0 0, .int .i64 0] 79) := ⟨_, rfl⟩
  have B0 : Below w.heap.size w W0 := by rw [hW0]; exact below_alloc w _
  have A0 : Arr W0 w.heap.size 79 [.int .i64 0, .slice none 0 0, .slice none 0 0, .int .i64 0] := by rw [hW0]; exact Arr.new w _ [.int .i64 0, .slice none 0 0, .slice none 0 0, .int .i64 0]
  have hF := find_up p S s W0 (hf.later B0) hu
  unfold dev at hF
  have HW0 := hide hW0
  have HB0 := hide B0
  have HA0 := hide A0
  have HF := hide hf
  clear hW0 B0 A0 hf
  go_enter Try.func37, Try.ntmps37
  go_wp2_with (go_at_call 60; rw [← unhide HW0]; refine hF.mono ?_; rintro e w1 ⟨b1, h⟩; obtain ⟨-, rfl⟩ := h.resolve_right (fun h => h.1 h0); clear hF; simp only [z5]; have A2 := ((unhide HA0).later b1).later (below_alloc w1 (.cells #[.int .u64 0, .slice none 0 0, .slice none 0 0, .slice none 0 0, .int .i64 0] 119)); have HA2 := hide A2; have c0 := A2.cell 0; have c1 := A2.cell 1; have c2 := A2.cell 2; have c3 := A2.cell 3; have f0 := A2.frozen 0; have f1 := A2.frozen 1; have f2 := A2.frozen 2; have f3 := A2.frozen 3; simp at c0 c1 c2 c3; have HB1 := hide b1; clear b1 A2)
  refine bodyPost_ret (results_tmp_row_tmp rfl _ _ w.heap.size 79 _ (0, 0) _ rfl (.pointer none) rfl (.int .i64 140) rfl (arr4 (.int .i64 0) (.slice none 0 0) (.slice none 0 0) (.int .i64 0) (unhide HA2)) Try.underlying79 rfl Try.szR) rfl ?_
  have b2 := bel_then (bel_then (unhide HB0) (unhide HB0).size (unhide HB1)) (Nat.le_trans (unhide HB0).size (unhide HB1).size) (below_alloc w1 (.cells #[.int .u64 0, .slice none 0 0, .slice none 0 0, .slice none 0 0, .int .i64 0] 119))
  have b3 := bel4 (.int .i64 0) (.slice none 0 0) (.slice none 0 0) (.int .i64 0) b2 (Nat.le_refl w.heap.size)
  unfold OPost
  rw [unhide HJ]
  exact ⟨S, (FSt.refl (unhide HF)).then b3, .inl ⟨by simp, rfl⟩⟩
theorem jopen_up (p : Nat) (S : Nat → Prop) (s : FlS) (w : World) (hf : Fl w p S s) (hu : s.down = false) (h0 : s.pickC.e ≠ 0) (hw : s.wr + 3 < 4000000000000000000) :
    Calls Try.prog 37 #[.pointer (some ⟨p, 0, none⟩)] w (OPost p S s w) := by
  have HJ : Hid (s.jopen = s.tidy s.pickB s.pickC) := hide (by unfold FlS.jopen; rw [if_neg (by rw [hu]; simp), if_neg h0])
  have HCO := hide (pick_ct hf.ok h0)
  obtain ⟨W0, hW0⟩ : ∃ W, W = w.alloc (.cells #[.int .i64 0, .slice none 0 0, .slice none 0 0, .int .i64 0] 79) := ⟨_, rfl⟩
  have B0 : Below w.heap.size w W0 := by rw [hW0]; exact below_alloc w _
  have A0 : Arr W0 w.heap.size 79 [.int .i64 0, .slice none 0 0, .slice none 0 0, .int .i64 0] := by rw [hW0]; exact Arr.new w _ [.int .i64 0, .slice none 0 0, .slice none 0 0, .int .i64 0]
  have hF := find_up p S s W0 (hf.later B0) hu
  unfold dev at hF
  have HW0 := hide hW0
  have HB0 := hide B0
  have HA0 := hide A0
  have HF := hide hf
  have HPB := hide (pickB_01 s)
  have H0 := hide h0
  obtain ⟨ce, hce⟩ : ∃ x, x = s.pickC.e := ⟨_, rfl⟩
  obtain ⟨q, hq⟩ : ∃ x, x = s.pickC.rs.length := ⟨_, rfl⟩
  obtain ⟨tl, htl⟩ : ∃ x, x = s.pickC.t.length := ⟨_, rfl⟩
  obtain ⟨⟨s2, r2⟩, hx⟩ : ∃ x, x = s.tidy s.pickB s.pickC := ⟨_, rfl⟩
  have HCE := hide hce
  have HQ := hide hq
  have HTL := hide htl
  have HX := hide hx
  have HEP : Hid ((tidyJ s.pickB s.pickC).ep ≤ 9223372036854775807 ∨ r2 ≠ 0) := hide (by
    by_cases h1 : s.pickC.t.length = 0
    · left; unfold tidyJ; rw [if_pos h1]; exact (unhide HCO).e2
    · by_cases h2 : s.pickC.e = 9223372036854775807
      · right; unfold FlS.tidy at hx; rw [if_neg h1, if_pos h2] at hx; simp only [Prod.mk.injEq] at hx; rw [hx.2]; decide
      · left; unfold tidyJ; rw [if_neg h1]; have := (unhide HCO).e2; simp only; omega)
  clear hW0 B0 A0 hf hu h0 hce hq htl hx
  by_cases h0 : r2 = 0
  · subst h0
    go_enter Try.func37, Try.ntmps37
    go_wp2_with (first | (go_at_call 61; refine hT.mono ?_; rintro e w2 ⟨rfl, S2, k2⟩; clear hT; have h1 := (unhide HB0).size; have h2 := (unhide HB1).size; have h3 := (unhide HJ1).lt; have h4 := unhide HJP; have h5 := (unhide HA0).lt; have HA3 := hide (k2.but.arr (unhide HA1) (fun h => by rcases h with h | h; exact Nat.lt_irrefl _ ((unhide HF).lt _ h); omega)); have HA5 := hide (k2.but.arr (unhide HAB) (fun h => by rcases h with h | h; have := (unhide HF).lt _ h; omega; omega)); have HK2 := hide k2; have HF2 : Hid (FSt p S s2 w w2 S2) := hide (by have hbel := bel_then (bel_then (unhide HB0) (unhide HB0).size (unhide HB1)) (Nat.le_trans (unhide HB0).size (unhide HB1).size) (unhide HBX); exact ⟨k2.fl, (Buts.of_below hbel).trans' k2.but (fun k hk h => by rcases h with h | h; exact h; omega), fun k hk => (k2.at_ k hk).imp id (fun h => Nat.le_trans hbel.size h)⟩); have HRS : Hid (¬ S2 w.heap.size) := hide (fun h => by rcases k2.at_ _ h with h6 | h6; exact Nat.lt_irrefl _ ((unhide HF).lt _ h6); have h7 := (unhide HBX).size; omega); clear k2 h1 h2 h3 h4 h5; have A2 := unhide HA3; have c0 := A2.cell 0; have c1 := A2.cell 1; have c2 := A2.cell 2; have c3 := A2.cell 3; have f0 := A2.frozen 0; have f1 := A2.frozen 1; have f2 := A2.frozen 2; have f3 := A2.frozen 3; simp at c0 c1 c2 c3; have A5 := unhide HA5; have d1 := A5.cell 1; have d2 := A5.cell 2; have d4 := A5.cell 4; simp at d1 d2 d4; clear A2 A5) | (go_at_call 60; rw [← unhide HW0]; refine hF.mono ?_; rintro e w1 ⟨b1, h⟩; clear hF; obtain ⟨-, jp, t, sn, fr, rv, xs, rfl, hC, hJ, hjp⟩ := h.resolve_left (fun h => unhide H0 h.1); obtain ⟨ra, rc, hrv⟩ := own_parts hC.rr.row; have hxl := congrArg List.length hC.rl; rw [List.length_map, ← unhide HQ] at hxl; rw [hxl] at hrv; have ht := hC.val; subst hrv; obtain ⟨sa, sn', sc, sl⟩ := sn; obtain ⟨fa, fn', fc, fl⟩ := fr; have bx := below_alloc w1 (.cells #[.int .u64 ce, .slice sa sn' sc, .slice ra q rc, .slice fa fn' fc, .int .i64 tl] 119); have hT := tidy_any p jp (W0.heap.size + 2) S s s.pickB s.pickC t _ _ _ xs (w1.alloc (.cells #[.int .u64 ce, .slice sa sn' sc, .slice ra q rc, .slice fa fn' fc, .int .i64 tl] 119)) ((((unhide HF).later (unhide HB0)).later b1).later bx) ((bx.block jp hJ.lt).trans hJ) (fun h => by have h1 := (unhide HF).lt _ h; have h2 := (unhide HB0).size; omega) (unhide HPB) (hC.later bx) (fun x hx h => by have h1 := (unhide HF).lt _ h; have h2 := (unhide HB0).size; have h3 := hC.fnew x hx; omega) (unhide HCO) hw; rw [← unhide HX] at hT; subst ht; simp only [ctV, Sl.v, ← unhide HCE, ← unhide HTL] at hT ⊢; have HA1 := hide (((unhide HA0).later b1).later bx); have HAB := hide (Arr.new w1 119 [.int .u64 ce, .slice sa sn' sc, .slice ra q rc, .slice fa fn' fc, .int .i64 tl]); have HC := hide (hC.later bx); have HJ1 := hide hJ; have HB1 := hide b1; have HBX := hide bx; have HJP := hide hjp; have HXL := hide hxl; clear hC hJ b1 bx hjp hxl))
    have HEP' : Hid ((tidyJ s.pickB s.pickC).ep ≤ 9223372036854775807) := hide ((unhide HEP).resolve_right (fun h => h rfl))
    have HJJ : Hid (Jn w2 jp p (some (tidyJ s.pickB s.pickC))) := hide (by have := (unhide HK2).jn; simpa using this)
    obtain ⟨ep, hep⟩ : ∃ ep, ep = (tidyJ s.pickB s.pickC).ep := ⟨_, rfl⟩
    have HE : Hid (∀ k, Calls Try.prog 24 #[.pointer (some ⟨jp, 0, none⟩)] (w2.drewN k) fun e w' => e = .returned (.int .i64 ep) ∧ w' = w2.drewN k) := hide (fun k => by
      have h := jepoch_any jp p _ (w2.drewN k) (show Jn (w2.drewN k) jp p (some (tidyJ s.pickB s.pickC)) from unhide HJJ) (unhide HEP')
      rw [← hep] at h
      exact h)
    have HEPP := hide hep
    clear hep
    have hne : w1.heap.size ≠ w.heap.size := by have h1 := (unhide HA0).lt; have h2 := (unhide HB1).size; omega
    have hne' : w.heap.size ≠ w1.heap.size := fun h => hne h.symm
    go_region_held3 (fun w' => w'.cell? ⟨w1.heap.size, 1, none⟩ = some (.slice sa sn' sc) ∧ w'.cell? ⟨w1.heap.size, 2, none⟩ = some (.slice ra q rc) ∧ w'.cell? ⟨w1.heap.size, 4, none⟩ = some (.int .i64 tl)) (go_keep) (first | (go_at_call 24; refine (unhide HE 1).mono ?_; rintro e w3 ⟨rfl, rfl⟩))
    go_wp2
    refine bodyPost_ret (results_tmp_row_tmp rfl _ _ w.heap.size 79 _ (0, 0) _ rfl (.pointer (some ⟨jp, 0, none⟩)) rfl (.int .i64 0) rfl (arr4 (.int .i64 ep) (.slice sa sn' sc) (.slice ra q rc) (.int .i64 tl) (show Arr (w2.drewN 1) w.heap.size 79 _ from unhide HA3)) Try.underlying79 rfl Try.szR) rfl ?_
    have hb := (Buts.of_below (S := (· = w.heap.size)) (below_drewN (Below.refl _ w2) 1)).trans (but4 (g := w.heap.size) (W := w2.drewN 1) (.int .i64 ep) (.slice sa sn' sc) (.slice ra q rc) (.int .i64 tl))
    have h1 := (unhide HB0).size
    have h2 := (unhide HB1).size
    have h3 := (unhide HJ1).lt
    have h4 := unhide HJP
    have h5 := (unhide HA0).lt
    have h6 := (unhide HBX).size
    unfold OPost
    rw [unhide HJ, ← unhide HX]
    refine ⟨S2, (unhide HF2).cell hb (Nat.le_refl _) (unhide HRS), .inr ⟨rfl, jp, ⟨sa, sn', sc, sl⟩, .slice ra q rc, xs, ?_, ?_, by omega, ?_, ?_⟩⟩
    · rw [show s.openJ.ep = ep from (unhide HEPP).symm, ← unhide HTL]; rfl
    · exact hb.arr (unhide HJJ) (fun e => by have : jp = w.heap.size := e; omega)
    · intro h
      rcases (unhide HK2).at_ jp h with h7 | h7
      · have := (unhide HF).lt _ h7; omega
      · omega
    · have hK := (unhide HK2)
      have hJb : (w1.alloc (.cells #[.int .u64 ce, .slice sa sn' sc, .slice ra q rc, .slice fa fn' fc, .int .i64 tl] 119)).heap[jp]? = some (.cells (jv p (some ⟨s.pickB, s.pickC.e, s.pickC.rs.length⟩)).toArray 99 (0, 0)) := ((unhide HBX).block jp h3).trans (unhide HJ1)
      have hR := (unhide HC).toRec (Z := S2) (B' := w.heap.size + 1) hK.but (fun k hk ht => by
        rcases ht with ht | ht
        · have := (unhide HF).lt _ ht; omega
        · rw [ht]; exact ⟨_, _, hJb⟩) (fun k hk => by
        rcases hK.at_ k hk with h7 | h7
        · have := (unhide HF).lt _ h7; left; omega
        · right; exact h7) (by omega)
      exact ⟨hb.ok hR.sok (fun _ y hy e => by have e' : y.block = w.heap.size := e; have := hR.snew y hy; omega), hR.sl, hR.cn, (hR.rr.keep hb (fun k hk e => by have : k = w.heap.size := e; omega)).to (Nat.le_succ _), hR.rl, fun x hx => Nat.le_trans (Nat.le_succ _) (hR.snew x hx), fun h0 => by
        obtain ⟨a, cc, pl, o, e⟩ := hR.own h0
        exact ⟨a, cc, pl, own_to' (hb.own o (fun g hg e => by have e' : g = w.heap.size := e; have := (o.lt g hg).1; omega)) (Nat.le_refl _) (Nat.le_succ _), e⟩, hR.sz, hR.rz, hR.xz⟩
  · have hr3 : (r2 != 0) = true := by rw [bne_iff_ne]; exact h0
    have hr4 : (r2 == 0) = false := by rw [beq_eq_false_iff_ne]; exact h0
    have H02 := hide h0
    clear h0
    go_enter Try.func37, Try.ntmps37
    go_wp2_with (first | (go_at_call 61; refine hT.mono ?_; rintro e w2 ⟨rfl, S2, k2⟩; clear hT; have h1 := (unhide HB0).size; have h2 := (unhide HB1).size; have h3 := (unhide HJ1).lt; have h4 := unhide HJP; have h5 := (unhide HA0).lt; have HA3 := hide (k2.but.arr (unhide HA1) (fun h => by rcases h with h | h; exact Nat.lt_irrefl _ ((unhide HF).lt _ h); omega)); have HA5 := hide (k2.but.arr (unhide HAB) (fun h => by rcases h with h | h; have := (unhide HF).lt _ h; omega; omega)); have HK2 := hide k2; have HF2 : Hid (FSt p S s2 w w2 S2) := hide (by have hbel := bel_then (bel_then (unhide HB0) (unhide HB0).size (unhide HB1)) (Nat.le_trans (unhide HB0).size (unhide HB1).size) (unhide HBX); exact ⟨k2.fl, (Buts.of_below hbel).trans' k2.but (fun k hk h => by rcases h with h | h; exact h; omega), fun k hk => (k2.at_ k hk).imp id (fun h => Nat.le_trans hbel.size h)⟩); have HRS : Hid (¬ S2 w.heap.size) := hide (fun h => by rcases k2.at_ _ h with h6 | h6; exact Nat.lt_irrefl _ ((unhide HF).lt _ h6); have h7 := (unhide HBX).size; omega); clear k2 h1 h2 h3 h4 h5; have A2 := unhide HA3; have c0 := A2.cell 0; have c1 := A2.cell 1; have c2 := A2.cell 2; have c3 := A2.cell 3; have f0 := A2.frozen 0; have f1 := A2.frozen 1; have f2 := A2.frozen 2; have f3 := A2.frozen 3; simp at c0 c1 c2 c3; have A5 := unhide HA5; have d1 := A5.cell 1; have d2 := A5.cell 2; have d4 := A5.cell 4; simp at d1 d2 d4; clear A2 A5) | (go_at_call 60; rw [← unhide HW0]; refine hF.mono ?_; rintro e w1 ⟨b1, h⟩; clear hF; obtain ⟨-, jp, t, sn, fr, rv, xs, rfl, hC, hJ, hjp⟩ := h.resolve_left (fun h => unhide H0 h.1); obtain ⟨ra, rc, hrv⟩ := own_parts hC.rr.row; have hxl := congrArg List.length hC.rl; rw [List.length_map, ← unhide HQ] at hxl; rw [hxl] at hrv; have ht := hC.val; subst hrv; obtain ⟨sa, sn', sc, sl⟩ := sn; obtain ⟨fa, fn', fc, fl⟩ := fr; have bx := below_alloc w1 (.cells #[.int .u64 ce, .slice sa sn' sc, .slice ra q rc, .slice fa fn' fc, .int .i64 tl] 119); have hT := tidy_any p jp (W0.heap.size + 2) S s s.pickB s.pickC t _ _ _ xs (w1.alloc (.cells #[.int .u64 ce, .slice sa sn' sc, .slice ra q rc, .slice fa fn' fc, .int .i64 tl] 119)) ((((unhide HF).later (unhide HB0)).later b1).later bx) ((bx.block jp hJ.lt).trans hJ) (fun h => by have h1 := (unhide HF).lt _ h; have h2 := (unhide HB0).size; omega) (unhide HPB) (hC.later bx) (fun x hx h => by have h1 := (unhide HF).lt _ h; have h2 := (unhide HB0).size; have h3 := hC.fnew x hx; omega) (unhide HCO) hw; rw [← unhide HX] at hT; subst ht; simp only [ctV, Sl.v, ← unhide HCE, ← unhide HTL] at hT ⊢; have HA1 := hide (((unhide HA0).later b1).later bx); have HAB := hide (Arr.new w1 119 [.int .u64 ce, .slice sa sn' sc, .slice ra q rc, .slice fa fn' fc, .int .i64 tl]); have HC := hide (hC.later bx); have HJ1 := hide hJ; have HB1 := hide b1; have HBX := hide bx; have HJP := hide hjp; have HXL := hide hxl; clear hC hJ b1 bx hjp hxl))
    refine bodyPost_ret (results_tmp_row_tmp rfl _ _ w.heap.size 79 _ (0, 0) _ rfl (.pointer none) rfl (.int .i64 r2) rfl (arr4 (.int .i64 0) (.slice none 0 0) (.slice none 0 0) (.int .i64 0) (unhide HA3)) Try.underlying79 rfl Try.szR) rfl ?_
    have hb := but4 (g := w.heap.size) (W := w2) (.int .i64 0) (.slice none 0 0) (.slice none 0 0) (.int .i64 0)
    unfold OPost
    rw [unhide HJ, ← unhide HX]
    exact ⟨S2, (unhide HF2).cell hb (Nat.le_refl _) (unhide HRS), .inl ⟨unhide H02, rfl⟩⟩
end Go.Proofs.Ytppmgfkpfamabaa
