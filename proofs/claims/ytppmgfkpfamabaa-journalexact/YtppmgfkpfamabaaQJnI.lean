import Derived.Test.YtppmgfkpfamabaaQJnH
import Derived.Test.YtppmgfkpfamabaaQJnC
set_option maxHeartbeats 4000000
set_option maxRecDepth 100000
set_option linter.unusedVariables false
namespace Go.Proofs.Ytppmgfkpfamabaa
open Go.RowKit
theorem results_tmp_cell_tmp {fn : Func} {p u u' : Tmp} {ty : TypeId} (h : fn.results = #[.tmp u, .cell p ty, .tmp u']) (tmps : Array Value) (P : Program) (w : World) :
    (results fn tmps).run P w =
      ((asAddr (tmps.getD p undef)).run P w).andThen fun a w₁ => ((loadVar ty a).run P w₁).andThen fun v w₂ => .ok (.tuple #[tmps.getD u undef, v, tmps.getD u' undef]) w₂ := by
  simp only [results, h]
  simp [Sem.run_bind, Result.andThen]
theorem results_tmp_row_tmp {P : Program} {fn : Func} {p u u' : Tmp} {ty : TypeId} (h : fn.results = #[.tmp u, .cell p ty, .tmp u']) (tmps : Array Value) (w : World) (g : Nat) (t : TypeId) (cs : Array Value) (fr : Nat × Nat) (d : TypeDesc)
    (hp : tmps.getD p undef = .pointer (some ⟨g, 0, none⟩)) (v : Value) (hv : tmps.getD u undef = v) (v' : Value) (hv' : tmps.getD u' undef = v') (hg : w.heap[g]? = some (.cells cs t fr))
    (hu : P.underlying ty = some d) (hd : (match d with | .struct _ | .array _ _ => true | _ => false) = true) (hi : (P.info? ty).map (·.size) = some cs.size) :
    (results fn tmps).run P w = .ok (.tuple #[v, .agg cs, v']) w := by
  rw [results_tmp_cell_tmp h, hp, hv, hv']
  simp [asAddr, run_loadVar_row w g t ty cs fr d hg hu hd hi]
structure ConS (B : Nat) (c : Cts) (W : World) (t : List Value) (sn fr : Sl) (rv : Value) (xs : List Rx) : Prop where
  val : t = ctV c.e sn.v rv fr.v c.t.length
  sok : sn.Ok W
  sl : sn.l = c.s
  cn : sn.c = sn.n
  rr : RxR B W rv xs
  rl : xs.map Rx.p = c.rs
  fok : fr.Ok W
  fl : fr.l = flatR c.rs
  snew : ∀ x, sn.a = some x → B ≤ x.block
  own : 0 < sn.n → ∃ a cc pl, W.ownsRow B 5 1 (.slice (some ⟨a, 0, none⟩) (sn.n + 12) cc) (sn.n + 12) (U8 pl) ∧ sn.a = some ⟨a, 12, none⟩ ∧ sn.c = sn.n ∧ ∀ x ∈ xs, x.o ≠ some a
  fnew : ∀ x, fr.a = some x → B ≤ x.block
theorem ConS.keep {S : Nat → Prop} {B : Nat} {c : Cts} {W W' : World} {t : List Value} {sn fr : Sl} {rv : Value} {xs : List Rx} (h : ConS B c W t sn fr rv xs) (hb : Buts S W W') (hS : ∀ k, B ≤ k → ¬ S k) : ConS B c W' t sn fr rv xs :=
  ⟨h.val, hb.ok h.sok (fun _ y hy => hS _ (h.snew y hy)), h.sl, h.cn, h.rr.keep hb hS, h.rl, hb.ok h.fok (fun _ y hy => hS _ (h.fnew y hy)), h.fl, h.snew, fun h0 => by
    obtain ⟨a, cc, pl, o, k⟩ := h.own h0
    exact ⟨a, cc, pl, hb.own o (fun g hg => hS g (o.lt g hg).1), k⟩, h.fnew⟩
theorem ConS.later {B : Nat} {c : Cts} {W W' : World} {t : List Value} {sn fr : Sl} {rv : Value} {xs : List Rx} (h : ConS B c W t sn fr rv xs) (hb : Below W.heap.size W W') : ConS B c W' t sn fr rv xs :=
  h.keep (S := fun _ => False) (Buts.of_below hb) (fun _ _ h => h)
theorem RdP.con {B B' : Nat} {d : Sl} {c : Cts} {W : World} {v : Value} {sn fr : Sl} {rv : Value} {xs : List Rx} (h : RdP B' d c W v sn fr rv xs) (hB : B ≤ B') (hd : ∀ x, d.a = some x → B ≤ x.block) :
    ConS B c W (ctV c.e sn.v rv fr.v c.t.length) sn fr rv xs :=
  ⟨rfl, h.sok, h.sl, h.cn, h.rr.to hB, h.rl, h.fok, h.fl, fun x hx => Nat.le_trans hB (h.snew x hx), fun h0 => by
    obtain ⟨a, cc, pl, o, k⟩ := h.own h0
    exact ⟨a, cc, pl, own_to' o (Nat.le_refl _) hB, k⟩, fun x hx => by
    obtain ⟨y, hy, e⟩ := h.fat x hx
    rw [← e]
    exact hd y hy⟩
def z5 : List Value := [.int .u64 0, .slice none 0 0, .slice none 0 0, .slice none 0 0, .int .i64 0]
theorem arr10a {W : World} {g ty : Nat} {x0 x1 x2 x3 x4 x5 x6 x7 x8 x9 : Value} (y0 y1 y2 y3 y4 : Value) (h : Arr W g ty [x0, x1, x2, x3, x4, x5, x6, x7, x8, x9]) : Arr (((((W.setCell ⟨g, 0, none⟩ y0).setCell ⟨g, 1, none⟩ y1).setCell ⟨g, 2, none⟩ y2).setCell ⟨g, 3, none⟩ y3).setCell ⟨g, 4, none⟩ y4) g ty [y0, y1, y2, y3, y4, x5, x6, x7, x8, x9] :=
  ((((h.set 0 y0).set 1 y1).set 2 y2).set 3 y3).set 4 y4
theorem arr10b {W : World} {g ty : Nat} {x0 x1 x2 x3 x4 x5 x6 x7 x8 x9 : Value} (y0 y1 y2 y3 y4 : Value) (h : Arr W g ty [x0, x1, x2, x3, x4, x5, x6, x7, x8, x9]) : Arr (((((W.setCell ⟨g, 5, none⟩ y0).setCell ⟨g, 6, none⟩ y1).setCell ⟨g, 7, none⟩ y2).setCell ⟨g, 8, none⟩ y3).setCell ⟨g, 9, none⟩ y4) g ty [x0, x1, x2, x3, x4, y0, y1, y2, y3, y4] :=
  ((((h.set 5 y0).set 6 y1).set 7 y2).set 8 y3).set 9 y4
theorem but10b {g : Nat} {W : World} (y0 y1 y2 y3 y4 : Value) : Buts (· = g) W (((((W.setCell ⟨g, 5, none⟩ y0).setCell ⟨g, 6, none⟩ y1).setCell ⟨g, 7, none⟩ y2).setCell ⟨g, 8, none⟩ y3).setCell ⟨g, 9, none⟩ y4) :=
  (((((Buts.refl (· = g) W).setCell (g := g) rfl 5 y0).setCell (g := g) rfl 6 y1).setCell (g := g) rfl 7 y2).setCell (g := g) rfl 8 y3).setCell (g := g) rfl 9 y4
theorem find_down (p : Nat) (S : Nat → Prop) (s : FlS) (w : World) (h : Fl w p S s) (hu : s.down = true) :
    Calls Try.prog 60 #[dev p] w fun e w' => e = .returned (.tuple #[.pointer none, .agg z5.toArray, .int .i64 121]) ∧ Below w.heap.size w w' := by
  have hr : s.ref 0 = 121 := by unfold FlS.ref; rw [if_neg (by omega), hu]; rfl
  obtain ⟨W0, hW0⟩ : ∃ W, W = (w.alloc (.cells #[.int .u64 0, .slice none 0 0, .slice none 0 0, .slice none 0 0, .int .i64 0] 119)).alloc (.cells #[.int .u64 0, .slice none 0 0, .slice none 0 0, .slice none 0 0, .int .i64 0, .int .u64 0, .slice none 0 0, .slice none 0 0, .slice none 0 0, .int .i64 0] 133) := ⟨_, rfl⟩
  have B0 : Below w.heap.size w W0 := by rw [hW0]; exact bel_then (below_alloc w _) (below_alloc w _).size (below_alloc _ _)
  have A0 : Arr W0 w.heap.size 119 [.int .u64 0, .slice none 0 0, .slice none 0 0, .slice none 0 0, .int .i64 0] := by rw [hW0]; exact (Arr.new w _ [.int .u64 0, .slice none 0 0, .slice none 0 0, .slice none 0 0, .int .i64 0]).later (below_alloc _ _)
  have hR := read_any p S s 0 W0 (h.later B0)
  have hm := Try.mRea
  rw [hr] at hR
  have HW0 := hide hW0
  have HA0 := hide A0
  have HB0 := hide B0
  clear h hr hu hW0 A0 B0
  unfold dev
  go_enter Try.func60, Try.ntmps60
  go_wp2
  rw [← unhide HW0]
  go_loopw [10] (fun i wr => i = .int .i64 0 ∧ wr = W0) (fun _ _ => 0)
  case atStart => exact ⟨rfl, rfl⟩
  case round =>
    obtain ⟨rfl, rfl⟩ := hrel
    go_wp2_with (go_at_call 108; refine hR.mono ?_; rintro e w1 ⟨v, rfl, h1, h2, h3⟩; clear hR; obtain ⟨va, vc, hv⟩ := own_parts h1.1; subst hv; have A2 := (unhide HA0).later h3; have HA2 := hide A2; have c0 := A2.cell 0; have c1 := A2.cell 1; have c2 := A2.cell 2; have c3 := A2.cell 3; have c4 := A2.cell 4; have f0 := A2.frozen 0; have f1 := A2.frozen 1; have f2 := A2.frozen 2; have f3 := A2.frozen 3; have f4 := A2.frozen 4; simp at c0 c1 c2 c3 c4; clear h1 h2 A2; have HB := hide h3; clear h3)
    refine bodyPost_ret (results_tmp_row_tmp rfl _ _ w.heap.size 119 _ (0, 0) _ rfl (.pointer none) rfl (.int .i64 121) rfl (arr5 (.int .u64 0) (.slice none 0 0) (.slice none 0 0) (.slice none 0 0) (.int .i64 0) (unhide HA2)) Try.underlying119 rfl Try.szC) rfl ?_
    exact ⟨rfl, bel5 _ _ _ _ _ (bel_then (unhide HB0) (unhide HB0).size (unhide HB)) (Nat.le_refl _)⟩
def FdI (w : World) (l0 l1 : List Int) (k : Nat) (wr : World) : Prop :=
  Arr wr w.heap.size 119 z5 ∧ Below w.heap.size w wr ∧
    ((k = 0 ∧ Arr wr (w.heap.size + 1) 133 (z5 ++ z5)) ∨
     (k = 1 ∧ ∃ sn0 fr0 rv0 xs0, ConS (w.heap.size + 2) (look l0) wr (ctV (look l0).e sn0.v rv0 fr0.v (look l0).t.length) sn0 fr0 rv0 xs0 ∧ Arr wr (w.heap.size + 1) 133 ((ctV (look l0).e sn0.v rv0 fr0.v (look l0).t.length) ++ z5)) ∨
     (k = 2 ∧ ∃ sn0 fr0 rv0 xs0 sn1 fr1 rv1 xs1, ConS (w.heap.size + 2) (look l0) wr (ctV (look l0).e sn0.v rv0 fr0.v (look l0).t.length) sn0 fr0 rv0 xs0 ∧ ConS (w.heap.size + 2) (look l1) wr (ctV (look l1).e sn1.v rv1 fr1.v (look l1).t.length) sn1 fr1 rv1 xs1 ∧ Arr wr (w.heap.size + 1) 133 ((ctV (look l0).e sn0.v rv0 fr0.v (look l0).t.length) ++ (ctV (look l1).e sn1.v rv1 fr1.v (look l1).t.length))))
theorem set5_size {W : World} {g : Nat} (y0 y1 y2 y3 y4 : Value) : (((((W.setCell ⟨g, 0, none⟩ y0).setCell ⟨g, 1, none⟩ y1).setCell ⟨g, 2, none⟩ y2).setCell ⟨g, 3, none⟩ y3).setCell ⟨g, 4, none⟩ y4).heap.size = W.heap.size := by simp
def FlS.pickB (s : FlS) : Int := if (look s.l0).e < (look s.l1).e then 1 else 0
def FlS.pickC (s : FlS) : Cts := if (look s.l0).e < (look s.l1).e then look s.l1 else look s.l0
theorem ref_up' {s : FlS} {b : Int} (hu : s.down = false) (hb : b = 0 ∨ b = 1) : s.ref b = 0 := by
  unfold FlS.ref
  rw [if_neg (by omega), hu]; rfl
theorem find_up (p : Nat) (S : Nat → Prop) (s : FlS) (w : World) (h : Fl w p S s) (hu : s.down = false) :
    Calls Try.prog 60 #[dev p] w fun e w' => Below w.heap.size w w' ∧
      (((s.pickC).e = 0 ∧ e = .returned (.tuple #[.pointer none, .agg z5.toArray, .int .i64 140])) ∨
       ((s.pickC).e ≠ 0 ∧ ∃ jp t sn fr rv xs, e = .returned (.tuple #[.pointer (some ⟨jp, 0, none⟩), .agg t.toArray, .int .i64 0]) ∧ ConS (w.heap.size + 2) s.pickC w' t sn fr rv xs ∧ Jn w' jp p (some ⟨s.pickB, s.pickC.e, s.pickC.rs.length⟩) ∧ w.heap.size ≤ jp)) := by
  have hr0 : s.ref 0 = 0 := ref_up' hu (.inl rfl)
  have hr1 : s.ref 1 = 0 := ref_up' hu (.inr rfl)
  have hrd0 : s.read 0 = s.l0 := by unfold FlS.read; rw [if_pos hr0]; rfl
  have hrd1 : s.read 1 = s.l1 := by unfold FlS.read; rw [if_pos hr1]; rfl
  obtain ⟨W0, hW0⟩ : ∃ W, W = (w.alloc (.cells #[.int .u64 0, .slice none 0 0, .slice none 0 0, .slice none 0 0, .int .i64 0] 119)).alloc (.cells #[.int .u64 0, .slice none 0 0, .slice none 0 0, .slice none 0 0, .int .i64 0, .int .u64 0, .slice none 0 0, .slice none 0 0, .slice none 0 0, .int .i64 0] 133) := ⟨_, rfl⟩
  have B0 : Below w.heap.size w W0 := by rw [hW0]; exact bel_then (below_alloc w _) (below_alloc w _).size (below_alloc _ _)
  have A0 : Arr W0 w.heap.size 119 [.int .u64 0, .slice none 0 0, .slice none 0 0, .slice none 0 0, .int .i64 0] := by rw [hW0]; exact (Arr.new w _ [.int .u64 0, .slice none 0 0, .slice none 0 0, .slice none 0 0, .int .i64 0]).later (below_alloc _ _)
  have A1 : Arr W0 (w.heap.size + 1) 133 (z5 ++ z5) := by
    have h1 := Arr.new (w.alloc (.cells #[.int .u64 0, .slice none 0 0, .slice none 0 0, .slice none 0 0, .int .i64 0] 119)) 133 (z5 ++ z5)
    rw [hW0]
    simpa [z5] using h1
  have hm := Try.mRea
  have HLEN : Hid (s.l0.length ≤ 1048576 ∧ s.l1.length ≤ 1048576) := hide ⟨Nat.le_trans h.ok.z0 h.ok.mx, Nat.le_trans h.ok.z1 h.ok.mx⟩
  have HR0 : Hid (s.ref 0 = 0 ∧ s.ref 1 = 0 ∧ s.read 0 = s.l0 ∧ s.read 1 = s.l1) := hide ⟨hr0, hr1, hrd0, hrd1⟩
  have HF := hide h
  have HW0 := hide hW0
  have HS0 : Hid (FdI w s.l0 s.l1 0 W0) := hide ⟨A0, B0, .inl ⟨rfl, A1⟩⟩
  clear h hr0 hr1 hrd0 hrd1 hW0 A0 A1 B0 hu
  unfold dev
  go_enter Try.func60, Try.ntmps60
  go_wp2
  rw [← unhide HW0]
  go_loopw [10] (fun i wr => ∃ k : Nat, i = .int .i64 k ∧ FdI w s.l0 s.l1 k wr) (fun i _ => 2 - (intOf i).toNat)
  case atStart => exact ⟨0, rfl, unhide HS0⟩
  case round =>
    clear HS0 HW0
    obtain ⟨k, rfl, A0, B0, hk⟩ := hrel
    have HA0 := hide A0
    have HB0 := hide B0
    have hsz : w.heap.size + 2 ≤ wr.heap.size := by
      rcases hk with ⟨-, h⟩ | ⟨-, _, _, _, _, -, h⟩ | ⟨-, _, _, _, _, _, _, _, _, -, -, h⟩ <;> (have := h.lt; omega)
    have HSZ := hide hsz
    clear A0 B0 hsz
    rcases hk with ⟨rfl, A10⟩ | ⟨rfl, sn0, fr0, rv0, xs0, C0, A10⟩ | ⟨rfl, sn0, fr0, rv0, xs0, sn1, fr1, rv1, xs1, C0, C1, A10⟩
    · have hR := read_any p S s 0 wr ((unhide HF).later (unhide HB0))
      rw [(unhide HR0).1, (unhide HR0).2.2.1] at hR
      have HA10 := hide A10
      clear A10
      go_wp2_with (first | (go_at_call 74; refine hJ.mono ?_; rintro e w2 ⟨v2, sn, fr, rv, xs, rfl, hP, b2⟩; clear hJ; obtain ⟨ra, rc, hrv⟩ := own_parts hP.rr.row; subst hrv; have hv2 := hP.val; subst hv2; obtain ⟨sa, sn', sc, sl⟩ := sn; obtain ⟨fa, fn', fc, fl⟩ := fr; obtain ⟨ce, hce⟩ : ∃ x, x = (look s.l0).e := ⟨_, rfl⟩; obtain ⟨ct, hct⟩ : ∃ x, x = (look s.l0).t.length := ⟨_, rfl⟩; rw [← hce, ← hct]; simp only [ctV, Sl.v]; have A2 := ((unhide HA10).later (unhide HB1)).later b2; have HA20 := hide A2; have c0 := A2.cell 0; have c1 := A2.cell 1; have c2 := A2.cell 2; have c3 := A2.cell 3; have c4 := A2.cell 4; have f0 := A2.frozen 0; have f1 := A2.frozen 1; have f2 := A2.frozen 2; have f3 := A2.frozen 3; have f4 := A2.frozen 4; simp [z5] at c0 c1 c2 c3 c4; have HP := hide hP; have HB2 := hide b2; have HCE := hide hce; have HCT := hide hct; clear hP b2 A2 hce hct) | (go_at_call 108; refine hR.mono ?_; rintro e w1 ⟨v, rfl, h1, h2, h3⟩; clear hR; obtain ⟨d, hdv, hdok, hdl, hdn, hdb⟩ := h1.sl; have hJ := jread_any d w1 hdok (by rw [hdn]; have := unhide HLEN; omega); rw [hdl] at hJ; obtain ⟨da, dn, dc, dl⟩ := d; simp only [Sl.v] at hdv; subst hdv; simp only [Sl.v] at hJ; have HB1 := hide h3; have HDB : Hid (∀ x, da = some x → wr.heap.size ≤ x.block) := hide (fun x hx => h2 _ (hdb x hx)); clear h1 h2 h3 hdok hdl hdn hdb))
      go_roundw
      case rel =>
        have b := bel_then (bel_then (unhide HB0) (unhide HB0).size (unhide HB1)) (Nat.le_trans (unhide HB0).size (unhide HB1).size) (unhide HB2)
        have hbut := but5 (g := w.heap.size + 1) (W := w2) (.int .u64 ce) (.slice sa sn' sc) (.slice ra xs.length rc) (.slice fa fn' fc) (.int .i64 ct)
        have hle : w.heap.size + 2 ≤ w1.heap.size := Nat.le_trans (unhide HSZ) (unhide HB1).size
        refine ⟨1, rfl, ?_, ?_, .inr (.inl ⟨rfl, ⟨sa, sn', sc, sl⟩, ⟨fa, fn', fc, fl⟩, .slice ra xs.length rc, xs, ?_, ?_⟩)⟩
        · exact hbut.arr (((unhide HA0).later (unhide HB1)).later (unhide HB2)) (fun e => by have : w.heap.size = w.heap.size + 1 := e; omega)
        · exact bel5 _ _ _ _ _ b (Nat.le_succ _)
        · exact ((unhide HP).con hle (fun x hx => Nat.le_trans (unhide HSZ) (unhide HDB x hx))).keep hbut (fun k hk e => by have : k = w.heap.size + 1 := e; omega)
        · rw [← unhide HCE, ← unhide HCT]
          exact arr10a (.int .u64 ce) (.slice sa sn' sc) (.slice ra xs.length rc) (.slice fa fn' fc) (.int .i64 ct) (unhide HA20)
      case measure => simp [intOf]
    · have hR := read_any p S s 1 wr ((unhide HF).later (unhide HB0))
      rw [(unhide HR0).2.1, (unhide HR0).2.2.2] at hR
      have HA10 := hide A10
      have HC0 := hide C0
      clear A10 C0
      go_wp2_with (first | (go_at_call 74; refine hJ.mono ?_; rintro e w2 ⟨v2, sn, fr, rv, xs, rfl, hP, b2⟩; clear hJ; obtain ⟨ra, rc, hrv⟩ := own_parts hP.rr.row; subst hrv; have hv2 := hP.val; subst hv2; obtain ⟨sa, sn', sc, sl⟩ := sn; obtain ⟨fa, fn', fc, fl⟩ := fr; obtain ⟨ce, hce⟩ : ∃ x, x = (look s.l1).e := ⟨_, rfl⟩; obtain ⟨ct, hct⟩ : ∃ x, x = (look s.l1).t.length := ⟨_, rfl⟩; rw [← hce, ← hct]; simp only [ctV, Sl.v]; have A2 := ((unhide HA10).later (unhide HB1)).later b2; have HA20 := hide A2; have c5 := A2.cell 5; have c6 := A2.cell 6; have c7 := A2.cell 7; have c8 := A2.cell 8; have c9 := A2.cell 9; have f5 := A2.frozen 5; have f6 := A2.frozen 6; have f7 := A2.frozen 7; have f8 := A2.frozen 8; have f9 := A2.frozen 9; simp [z5, ctV] at c5 c6 c7 c8 c9; have HP := hide hP; have HB2 := hide b2; have HCE := hide hce; have HCT := hide hct; clear hP b2 A2 hce hct) | (go_at_call 108; refine hR.mono ?_; rintro e w1 ⟨v, rfl, h1, h2, h3⟩; clear hR; obtain ⟨d, hdv, hdok, hdl, hdn, hdb⟩ := h1.sl; have hJ := jread_any d w1 hdok (by rw [hdn]; have := unhide HLEN; omega); rw [hdl] at hJ; obtain ⟨da, dn, dc, dl⟩ := d; simp only [Sl.v] at hdv; subst hdv; simp only [Sl.v] at hJ; have HB1 := hide h3; have HDB : Hid (∀ x, da = some x → wr.heap.size ≤ x.block) := hide (fun x hx => h2 _ (hdb x hx)); clear h1 h2 h3 hdok hdl hdn hdb))
      go_roundw
      case rel =>
        have b := bel_then (bel_then (unhide HB0) (unhide HB0).size (unhide HB1)) (Nat.le_trans (unhide HB0).size (unhide HB1).size) (unhide HB2)
        have hbut := but10b (g := w.heap.size + 1) (W := w2) (.int .u64 ce) (.slice sa sn' sc) (.slice ra xs.length rc) (.slice fa fn' fc) (.int .i64 ct)
        have hle : w.heap.size + 2 ≤ w1.heap.size := Nat.le_trans (unhide HSZ) (unhide HB1).size
        refine ⟨2, rfl, ?_, ?_, .inr (.inr ⟨rfl, sn0, fr0, rv0, xs0, ⟨sa, sn', sc, sl⟩, ⟨fa, fn', fc, fl⟩, .slice ra xs.length rc, xs, ?_, ?_, ?_⟩)⟩
        · exact hbut.arr (((unhide HA0).later (unhide HB1)).later (unhide HB2)) (fun e => by have : w.heap.size = w.heap.size + 1 := e; omega)
        · exact ((((b.setCell (Nat.le_succ _) _).setCell (Nat.le_succ _) _).setCell (Nat.le_succ _) _).setCell (Nat.le_succ _) _).setCell (Nat.le_succ _) _
        · exact (((unhide HC0).later (unhide HB1)).later (unhide HB2)).keep hbut (fun k hk e => by have : k = w.heap.size + 1 := e; omega)
        · exact ((unhide HP).con hle (fun x hx => Nat.le_trans (unhide HSZ) (unhide HDB x hx))).keep hbut (fun k hk e => by have : k = w.heap.size + 1 := e; omega)
        · rw [← unhide HCE, ← unhide HCT]
          exact arr10b (.int .u64 ce) (.slice sa sn' sc) (.slice ra xs.length rc) (.slice fa fn' fc) (.int .i64 ct) (unhide HA20)
      case measure => simp [intOf]
    · have HC0 := hide C0
      have HC1 := hide C1
      obtain ⟨r0a, r0c, hrv0⟩ := own_parts C0.rr.row
      obtain ⟨r1a, r1c, hrv1⟩ := own_parts C1.rr.row
      have hxl0 := congrArg List.length C0.rl
      have hxl1 := congrArg List.length C1.rl
      rw [List.length_map] at hxl0 hxl1
      have HX0 := hide hxl0
      have HX1 := hide hxl1
      rw [hxl0] at hrv0
      rw [hxl1] at hrv1
      subst hrv0 hrv1
      obtain ⟨e0, he0⟩ : ∃ x, x = (look s.l0).e := ⟨_, rfl⟩
      obtain ⟨e1, he1⟩ : ∃ x, x = (look s.l1).e := ⟨_, rfl⟩
      obtain ⟨q0, hq0⟩ : ∃ x, x = (look s.l0).rs.length := ⟨_, rfl⟩
      obtain ⟨q1, hq1⟩ : ∃ x, x = (look s.l1).rs.length := ⟨_, rfl⟩
      obtain ⟨t0, ht0⟩ : ∃ x, x = (look s.l0).t.length := ⟨_, rfl⟩
      obtain ⟨t1, ht1⟩ : ∃ x, x = (look s.l1).t.length := ⟨_, rfl⟩
      have hA : Arr wr (w.heap.size + 1) 133 [.int .u64 e0, sn0.v, .slice r0a q0 r0c, fr0.v, .int .i64 t0, .int .u64 e1, sn1.v, .slice r1a q1 r1c, fr1.v, .int .i64 t1] := by
        rw [he0, he1, hq0, hq1, ht0, ht1]; exact A10
      have c0 := hA.cell 0
      have c5 := hA.cell 5
      simp at c0 c5
      have HA := hide hA
      have HE0 := hide he0
      have HE1 := hide he1
      have HQ0 := hide hq0
      have HQ1 := hide hq1
      have HT0 := hide ht0
      have HT1 := hide ht1
      clear C0 C1 A10 hxl0 hxl1 he0 he1 hq0 hq1 ht0 ht1 hA
      by_cases hlt : e0 < e1
      · have hltz : (e0 : Int) < (e1 : Int) := by omega
        have HPB : Hid (s.pickB = 1) := hide (by unfold FlS.pickB; rw [← unhide HE0, ← unhide HE1, if_pos hlt])
        have HPC : Hid (s.pickC = look s.l1) := hide (by unfold FlS.pickC; rw [← unhide HE0, ← unhide HE1, if_pos hlt])
        have hz9 : e1 ≠ 0 := by omega
        · have hz2 : ((e1 : Int) == 0) = false := by rw [beq_eq_false_iff_ne]; omega
          have HZ9 := hide hz9
          clear hlt hz9
          go_wp2_with fail
          obtain ⟨s1a, s1n, s1c, s1l⟩ := sn1
          obtain ⟨f1a, f1n, f1c, f1l⟩ := fr1
          have A2 := unhide HA
          have c6 := A2.cell 6
          have c7 := A2.cell 7
          have c8 := A2.cell 8
          have c9 := A2.cell 9
          simp [Sl.v] at c6 c7 c8 c9
          have A3 := unhide HA0
          have d0 := A3.cell 0
          have d1 := A3.cell 1
          have d2 := A3.cell 2
          have d3 := A3.cell 3
          have d4 := A3.cell 4
          simp [z5] at d0 d1 d2 d3 d4
          have f0 := A3.frozen 0
          have f1 := A3.frozen 1
          have f2 := A3.frozen 2
          have f3 := A3.frozen 3
          have f4 := A3.frozen 4
          have hz1 : w.heap.size + 1 < wr.heap.size := A2.lt
          have hz0 : w.heap.size < wr.heap.size := A3.lt
          have B5 := below_alloc wr (.cells #[.iface 24 (.pointer (some ⟨p, 0, none⟩)), .int .i64 1, .int .u64 e1, .int .i64 q1] 99)
          have A5 := A2.later B5
          have A6 := A3.later B5
          have k5 := A5.cell 5
          have k6 := A5.cell 6
          have k7 := A5.cell 7
          have k8 := A5.cell 8
          have k9 := A5.cell 9
          simp [Sl.v] at k5 k6 k7 k8 k9
          have m0 := A6.cell 0
          have m1 := A6.cell 1
          have m2 := A6.cell 2
          have m3 := A6.cell 3
          have m4 := A6.cell 4
          simp [z5] at m0 m1 m2 m3 m4
          have n0 := A6.frozen 0
          have n1 := A6.frozen 1
          have n2 := A6.frozen 2
          have n3 := A6.frozen 3
          have n4 := A6.frozen 4
          clear A2 A3 A5 A6 B5
          go_region
          go_wp2
          have B5 := below_alloc (((((wr.setCell ⟨w.heap.size, 0, none⟩ (.int .u64 e1)).setCell ⟨w.heap.size, 1, none⟩ (.slice s1a s1n s1c)).setCell ⟨w.heap.size, 2, none⟩ (.slice r1a q1 r1c)).setCell ⟨w.heap.size, 3, none⟩ (.slice f1a f1n f1c)).setCell ⟨w.heap.size, 4, none⟩ (.int .i64 t1)) (.cells #[.iface 24 (.pointer (some ⟨p, 0, none⟩)), .int .i64 1, .int .u64 e1, .int .i64 q1] 99)
          refine bodyPost_ret (results_tmp_row_tmp rfl _ _ w.heap.size 119 _ (0, 0) _ rfl (.pointer (some ⟨wr.heap.size, 0, none⟩)) rfl (.int .i64 0) rfl ((arr5 (.int .u64 e1) (.slice s1a s1n s1c) (.slice r1a q1 r1c) (.slice f1a f1n f1c) (.int .i64 t1) (unhide HA0)).later (below_drew B5)) Try.underlying119 rfl Try.szC) rfl ?_
          have hbut5 := but5 (g := w.heap.size) (W := wr) (.int .u64 e1) (.slice s1a s1n s1c) (.slice r1a q1 r1c) (.slice f1a f1n f1c) (.int .i64 t1)
          have hbel5 := bel5 (g := w.heap.size) (.int .u64 e1) (.slice s1a s1n s1c) (.slice r1a q1 r1c) (.slice f1a f1n f1c) (.int .i64 t1) (unhide HB0) (Nat.le_refl _)
          have hX : (((((wr.setCell ⟨w.heap.size, 0, none⟩ (.int .u64 e1)).setCell ⟨w.heap.size, 1, none⟩ (.slice s1a s1n s1c)).setCell ⟨w.heap.size, 2, none⟩ (.slice r1a q1 r1c)).setCell ⟨w.heap.size, 3, none⟩ (.slice f1a f1n f1c)).setCell ⟨w.heap.size, 4, none⟩ (.int .i64 t1)).heap.size = wr.heap.size := set5_size _ _ _ _ _
          generalize (((((wr.setCell ⟨w.heap.size, 0, none⟩ (.int .u64 e1)).setCell ⟨w.heap.size, 1, none⟩ (.slice s1a s1n s1c)).setCell ⟨w.heap.size, 2, none⟩ (.slice r1a q1 r1c)).setCell ⟨w.heap.size, 3, none⟩ (.slice f1a f1n f1c)).setCell ⟨w.heap.size, 4, none⟩ (.int .i64 t1)) = X at *
          have hbut := buts_drew (hbut5.trans (Buts.of_below B5))
          have hbel := below_drew (bel_then hbel5 hbel5.size B5)
          have hJA : Arr (X.alloc (.cells #[.iface 24 (.pointer (some ⟨p, 0, none⟩)), .int .i64 1, .int .u64 e1, .int .i64 q1] 99)).drew wr.heap.size 99 [.iface 24 (.pointer (some ⟨p, 0, none⟩)), .int .i64 1, .int .u64 e1, .int .i64 q1] := by
            have h := Arr.new X 99 [.iface 24 (.pointer (some ⟨p, 0, none⟩)), .int .i64 1, .int .u64 e1, .int .i64 q1]
            rw [hX] at h
            exact h
          refine ⟨hbel, .inr ⟨by rw [unhide HPC, ← unhide HE1]; exact unhide HZ9, wr.heap.size, ctV e1 (.slice s1a s1n s1c) (.slice r1a q1 r1c) (.slice f1a f1n f1c) t1, ⟨s1a, s1n, s1c, s1l⟩, ⟨f1a, f1n, f1c, f1l⟩, .slice r1a q1 r1c, xs1, rfl, ?_, ?_, Nat.le_of_lt hz0⟩⟩
          · rw [unhide HPC]
            have h := (unhide HC1).keep hbut (fun k hk e => by have : k = w.heap.size := e; omega)
            rw [← unhide HE1, ← unhide HT1, ← unhide HQ1] at h
            exact h
          · rw [unhide HPB, unhide HPC, ← unhide HE1, ← unhide HQ1]
            exact hJA
      · have hltz : ¬ (e0 : Int) < (e1 : Int) := by omega
        have HPB : Hid (s.pickB = 0) := hide (by unfold FlS.pickB; rw [← unhide HE0, ← unhide HE1, if_neg hlt])
        have HPC : Hid (s.pickC = look s.l0) := hide (by unfold FlS.pickC; rw [← unhide HE0, ← unhide HE1, if_neg hlt])
        by_cases hz9 : e0 = 0
        · have HZ9 := hide hz9
          have A3 := unhide HA0
          have d0 := A3.cell 0
          have d1 := A3.cell 1
          have d2 := A3.cell 2
          have d3 := A3.cell 3
          have d4 := A3.cell 4
          simp [z5] at d0 d1 d2 d3 d4
          have f0 := A3.frozen 0
          have f1 := A3.frozen 1
          have f2 := A3.frozen 2
          have f3 := A3.frozen 3
          have f4 := A3.frozen 4
          have hz2 : ((e0 : Int) == 0) = true := by rw [beq_iff_eq]; omega
          clear hlt A3 hz9
          go_wp2
          refine bodyPost_ret (results_tmp_row_tmp rfl _ _ w.heap.size 119 _ (0, 0) _ rfl (.pointer none) rfl (.int .i64 140) rfl (arr5 (.int .u64 0) (.slice none 0 0) (.slice none 0 0) (.slice none 0 0) (.int .i64 0) (unhide HA0)) Try.underlying119 rfl Try.szC) rfl ?_
          exact ⟨bel5 _ _ _ _ _ (unhide HB0) (Nat.le_refl _), .inl ⟨by rw [unhide HPC, ← unhide HE0]; exact unhide HZ9, rfl⟩⟩
        · have hz2 : ((e0 : Int) == 0) = false := by rw [beq_eq_false_iff_ne]; omega
          have HZ9 := hide hz9
          clear hlt hz9
          go_wp2_with fail
          obtain ⟨s0a, s0n, s0c, s0l⟩ := sn0
          obtain ⟨f0a, f0n, f0c, f0l⟩ := fr0
          have A2 := unhide HA
          have c1 := A2.cell 1
          have c2 := A2.cell 2
          have c3 := A2.cell 3
          have c4 := A2.cell 4
          simp [Sl.v] at c1 c2 c3 c4
          have A3 := unhide HA0
          have d0 := A3.cell 0
          have d1 := A3.cell 1
          have d2 := A3.cell 2
          have d3 := A3.cell 3
          have d4 := A3.cell 4
          simp [z5] at d0 d1 d2 d3 d4
          have f0 := A3.frozen 0
          have f1 := A3.frozen 1
          have f2 := A3.frozen 2
          have f3 := A3.frozen 3
          have f4 := A3.frozen 4
          have hz1 : w.heap.size + 1 < wr.heap.size := A2.lt
          have hz0 : w.heap.size < wr.heap.size := A3.lt
          have B5 := below_alloc wr (.cells #[.iface 24 (.pointer (some ⟨p, 0, none⟩)), .int .i64 0, .int .u64 e0, .int .i64 q0] 99)
          have A5 := A2.later B5
          have A6 := A3.later B5
          have k0 := A5.cell 0
          have k1 := A5.cell 1
          have k2 := A5.cell 2
          have k3 := A5.cell 3
          have k4 := A5.cell 4
          simp [Sl.v] at k0 k1 k2 k3 k4
          have m0 := A6.cell 0
          have m1 := A6.cell 1
          have m2 := A6.cell 2
          have m3 := A6.cell 3
          have m4 := A6.cell 4
          simp [z5] at m0 m1 m2 m3 m4
          have n0 := A6.frozen 0
          have n1 := A6.frozen 1
          have n2 := A6.frozen 2
          have n3 := A6.frozen 3
          have n4 := A6.frozen 4
          clear A2 A3 A5 A6 B5
          go_region
          go_wp2
          have B5 := below_alloc (((((wr.setCell ⟨w.heap.size, 0, none⟩ (.int .u64 e0)).setCell ⟨w.heap.size, 1, none⟩ (.slice s0a s0n s0c)).setCell ⟨w.heap.size, 2, none⟩ (.slice r0a q0 r0c)).setCell ⟨w.heap.size, 3, none⟩ (.slice f0a f0n f0c)).setCell ⟨w.heap.size, 4, none⟩ (.int .i64 t0)) (.cells #[.iface 24 (.pointer (some ⟨p, 0, none⟩)), .int .i64 0, .int .u64 e0, .int .i64 q0] 99)
          refine bodyPost_ret (results_tmp_row_tmp rfl _ _ w.heap.size 119 _ (0, 0) _ rfl (.pointer (some ⟨wr.heap.size, 0, none⟩)) rfl (.int .i64 0) rfl ((arr5 (.int .u64 e0) (.slice s0a s0n s0c) (.slice r0a q0 r0c) (.slice f0a f0n f0c) (.int .i64 t0) (unhide HA0)).later (below_drew B5)) Try.underlying119 rfl Try.szC) rfl ?_
          have hbut5 := but5 (g := w.heap.size) (W := wr) (.int .u64 e0) (.slice s0a s0n s0c) (.slice r0a q0 r0c) (.slice f0a f0n f0c) (.int .i64 t0)
          have hbel5 := bel5 (g := w.heap.size) (.int .u64 e0) (.slice s0a s0n s0c) (.slice r0a q0 r0c) (.slice f0a f0n f0c) (.int .i64 t0) (unhide HB0) (Nat.le_refl _)
          have hX : (((((wr.setCell ⟨w.heap.size, 0, none⟩ (.int .u64 e0)).setCell ⟨w.heap.size, 1, none⟩ (.slice s0a s0n s0c)).setCell ⟨w.heap.size, 2, none⟩ (.slice r0a q0 r0c)).setCell ⟨w.heap.size, 3, none⟩ (.slice f0a f0n f0c)).setCell ⟨w.heap.size, 4, none⟩ (.int .i64 t0)).heap.size = wr.heap.size := set5_size _ _ _ _ _
          generalize (((((wr.setCell ⟨w.heap.size, 0, none⟩ (.int .u64 e0)).setCell ⟨w.heap.size, 1, none⟩ (.slice s0a s0n s0c)).setCell ⟨w.heap.size, 2, none⟩ (.slice r0a q0 r0c)).setCell ⟨w.heap.size, 3, none⟩ (.slice f0a f0n f0c)).setCell ⟨w.heap.size, 4, none⟩ (.int .i64 t0)) = X at *
          have hbut := buts_drew (hbut5.trans (Buts.of_below B5))
          have hbel := below_drew (bel_then hbel5 hbel5.size B5)
          have hJA : Arr (X.alloc (.cells #[.iface 24 (.pointer (some ⟨p, 0, none⟩)), .int .i64 0, .int .u64 e0, .int .i64 q0] 99)).drew wr.heap.size 99 [.iface 24 (.pointer (some ⟨p, 0, none⟩)), .int .i64 0, .int .u64 e0, .int .i64 q0] := by
            have h := Arr.new X 99 [.iface 24 (.pointer (some ⟨p, 0, none⟩)), .int .i64 0, .int .u64 e0, .int .i64 q0]
            rw [hX] at h
            exact h
          refine ⟨hbel, .inr ⟨by rw [unhide HPC, ← unhide HE0]; exact unhide HZ9, wr.heap.size, ctV e0 (.slice s0a s0n s0c) (.slice r0a q0 r0c) (.slice f0a f0n f0c) t0, ⟨s0a, s0n, s0c, s0l⟩, ⟨f0a, f0n, f0c, f0l⟩, .slice r0a q0 r0c, xs0, rfl, ?_, ?_, Nat.le_of_lt hz0⟩⟩
          · rw [unhide HPC]
            have h := (unhide HC0).keep hbut (fun k hk e => by have : k = w.heap.size := e; omega)
            rw [← unhide HE0, ← unhide HT0, ← unhide HQ0] at h
            exact h
          · rw [unhide HPB, unhide HPC, ← unhide HE0, ← unhide HQ0]
            exact hJA
end Go.Proofs.Ytppmgfkpfamabaa
