import Derived.Test.YtppmgfkpfamabaaQGcbZ
import Derived.Test.YtppmgfkpfamabaaQGbjZ
import Derived.Test.YtppmgfkpfamabaaQGbiZ
import Derived.Deep.DeepCutAuto
import Derived.Deep.QuietTactic
import Derived.BigQuiet
import Derived.Test.YtppmgfkpfamabaaQGafZ
import Derived.Deep.DeepHandedRow
set_option linter.unusedSimpArgs false
set_option linter.unusedVariables false
namespace Go.Proofs.Ytppmgfkpfamabaa
open Go.RowKit
theorem PSt.begin {w w1 w2 : World} {p : Nat} {S : Nat → Prop} {s : FlS} {c : List Value} (h : Fl w1 p S s) (hS : ∀ k, S k → w.heap.size ≤ k) (hb : Below w.heap.size w w1) (hq : Rq (fun k => w1.heap.size ≤ k) s c w2) (hb2 : Below w1.heap.size w1 w2) :
    ∃ O', PSt w.heap.size 100000000 w2 p S s O' c none false 0 0 0 false := by
  obtain ⟨O', hq', hO'⟩ := hq.tight
  have hs := hb.size
  refine ⟨O', h.later hb2, hq', hS, fun k hk => ?_, fun ho => by cases ho⟩
  obtain ⟨h1, h2, h3⟩ := hO' k hk
  exact ⟨Nat.le_trans hs h1, h2, fun hs => by have := h.lt k hs; omega, h3⟩
theorem sl_low {w : World} {d : Sl} (h : d.Ok w) : 0 < d.n → ∀ a, d.a = some a → a.block < w.heap.size := fun h0 a ha => by
  obtain ⟨b, off, e, hlt, -⟩ := h.lies (by rw [h.len]; exact h0)
  rw [ha] at e
  cases e
  exact hlt
theorem XY.begin {w : World} {q : Opj} (hd : q.d.Ok w) (hs : q.s.Ok w) (hdn : q.d.n ≤ 1048576) (hsn : q.s.n ≤ 1048576) : XY w.heap.size w w q.d q.s :=
  ⟨Nat.le_refl _, Nat.le_refl _, hd, hs, sl_low hd, sl_low hs, hdn, hsn⟩
theorem fsLoad_wr (z : Int) (a b : List Int) : (fsLoad z a b).wr = 0 := rfl
theorem LiesO.range {w : World} {a : Option Addr} {ss : List Opj} (h : LiesO w a ss) {i : Nat} {q : Opj} (hi : ss[i]? = some q) : ∃ b off, a = some ⟨b, off, none⟩ ∧ b < w.heap.size ∧ w.rangeAt b (off + i * 5) q.cells := by
  have hp : 0 < ss.length := by
    by_cases hl : i < ss.length
    · omega
    · rw [List.getElem?_eq_none (by omega)] at hi; simp at hi
  obtain ⟨b, off, ha, hlt, hc⟩ := h hp
  exact ⟨b, off, ha, hlt, fun j v hv => hc i q hi j v hv⟩
set_option maxHeartbeats 4000000
set_option maxRecDepth 100000
theorem b_pair14 (p : Nat) (u0 u1 u2 u3 u4 u5 u6 : Value) : Try.prog.built 34 [(0, .pointer (some ⟨p, 0, none⟩)), (3, aV [u0, u1, u2, u3, u4, u5, u6])] = some (prC (.pointer (some ⟨p, 0, none⟩)) (.pointer none) false [u0, u1, u2, u3, u4, u5, u6] (yC 0 0 0 false)).toArray := by kernel_rfl
theorem b_pair (p : Nat) {c : List Value} (h : c.length = 7) : Try.prog.built 34 [(0, .pointer (some ⟨p, 0, none⟩)), (3, aV c)] = some (prC (.pointer (some ⟨p, 0, none⟩)) (.pointer none) false c (yC 0 0 0 false)).toArray := by
 match c, h with
 | [u0, u1, u2, u3, u4, u5, u6], _ => exact b_pair14 p u0 u1 u2 u3 u4 u5 u6
theorem OwB.rw14 {B : Nat} {u : Value} {l : List Int} {w' : World} (h0 : OwB w' u l) (ha : ∀ k, u.ownBlock = some k → B ≤ k) : Rw B u l w' := by
 refine ⟨⟨h0.1.1, ?_⟩, h0.2⟩
 rcases h0.1.2 with hx | ⟨g, cap, cur, e1, e2, e3⟩
 ·exact .inl hx
 ·exact .inr ⟨g, cap, cur, e1, ha g (by rw [e1]; rfl), e3⟩
theorem FPost.nb {l0 l1 : List Int} {w w' : World} {e : Ending} (h : FPost l0 l1 w e w') : ∃ a1 c1 a2 c2, e = .returned (.tuple #[.slice a1 l0.length c1, .slice a2 l1.length c2]) ∧ Nb w.heap.size ⟨a1, l0.length, c1, l0⟩ w' ∧ Nb w.heap.size ⟨a2, l1.length, c2, l1⟩ w' ∧ Below w.heap.size w w' := by
 obtain ⟨u, v, rfl, h1, h2, h3, h4, -, h5⟩ := h
 obtain ⟨a1, c1, rfl, n1⟩ := (h1.rw14 h3).nb'
 obtain ⟨a2, c2, rfl, n2⟩ := (h2.rw14 h4).nb'
 exact ⟨a1, c1, a2, c2, rfl, n1, n2, h5⟩
theorem same14 (a b : Sl) (w : World) (ha : a.Ok w) (hb : b.Ok w) (hn : a.n ≤ 1099511627776) (he : a.l = b.l) :
  Calls Try.prog 10 #[a.v, b.v] w fun e w' => e = .returned (.bool true) ∧ Below w.heap.size w w' := by
 refine (sameJ_any a b w ha hb (.inl hn)).mono ?_
 rintro e w' ⟨rfl, k, rfl⟩
 exact ⟨by rw [he]; simp, below_drewN (Below.refl _ w) k⟩
theorem yl_loadR {ops : Array Oper} {o : Oper} {a : Act} {S : World → Prop} (hw : Region.wanted o (yielded ops a.tmps) = true) (t : TypeId) (x : Operand) (ho : o.op = .load t x) (g off : Nat) (hx : a.eval x = .pointer (some ⟨g, off, none⟩)) (p : List Value) (hr : ∀ w, S w → w.rangeAt g off p) {d : TypeDesc} (hu : Try.prog.underlying t = some d) (hd : d.isRow = true) (hz : (Try.prog.info? t).map (·.size) = some p.length) : YieldsIf Try.prog ops S o (aV p) a :=
 .inl ⟨hw, fun w hS => ex_loadR t x ho g off hx p (hr w hS) hu hd hz⟩
theorem XY.at_ {B : Nat} {w w' : World} {x y : Sl} (h : XY B w w x y) (hb : Below B w w') : XY B w' w' x y :=
 ⟨Nat.le_trans h.b hb.size, Nat.le_refl _, slOk_lowB h.xo h.xl hb.size (fun k hk => hb.block k hk), slOk_lowB h.yo h.yl hb.size (fun k hk => hb.block k hk), h.xl, h.yl, h.xn, h.yn⟩
theorem range_low {B b off : Nat} {w w' : World} {p : List Value} (h : w.rangeAt b off p) (hb : Below B w w') (hl : b < B) : w'.rangeAt b off p :=
 fun j v hv => (World.cell?_of_block (w := w) (a := ⟨b, off + j, none⟩) (hb.block b hl)).trans (h j v hv)
theorem Hs17.keepN2 {w0 w w' : World} {rows : List Row} {K : World → Prop} {s q : Sl} (hS : Hs17 w0 rows K w) (hb : Below w.heap.size w w') (h : Nb w.heap.size s w') (h' : Nb w.heap.size q w') :
  Hs17 w0 rows (fun w => K w ∧ Nb w0.heap.size s w ∧ Nb w0.heap.size q w) w' := by
 have one : ∀ {q : Sl}, Nb w.heap.size q w' → ∀ w'' : World, w'.heap.size ≤ w''.heap.size → (∀ k, k < w'.heap.size → (∀ p ∈ rows, p.1 ≠ k) → w''.heap[k]? = w'.heap[k]?) → Nb w0.heap.size q w'' := fun {q} h w'' h1 h2 => by
  refine (h.low hS.bel.size).blk h1 (fun x hx => ?_)
  refine h2 _ (h.lt x hx) (fun p hp e => ?_)
  have h3 := (hS.arr p hp).lt
  have h4 := h.new x hx
  omega
 exact (hS.later hb).also (fun w'' h1 h2 => ⟨one h w'' h1 h2, one h' w'' h1 h2⟩)
theorem exactJ_law (z : Int) (da ea : Option Addr) (dn dc en ec : Nat) (dl el : List Int) (pa : Option Addr) (pc : Nat) (ss : List Opj) (w : World) (hd : Sl.Ok w ⟨da, dn, dc, dl⟩) (he : Sl.Ok w ⟨ea, en, ec, el⟩) (hdn : dn ≤ 1048576) (hen : en ≤ 1048576) (hat : LiesO w pa ss) (hok : ∀ o ∈ ss, (o.d.Ok w ∧ o.s.Ok w) ∧ o.d.n ≤ 1048576 ∧ o.s.n ≤ 1048576) (hln : ss.length ≤ 1048576) :
  Calls Try.prog 3 #[.int .i64 z, .slice da dn dc, .slice ea en ec, .slice pa ss.length pc] w fun e w' => e = .returned (.bool true) ∧ Below w.heap.size w w' := by
 obtain ⟨B, hBe⟩ : ∃ B, B = w.heap.size := ⟨_, rfl⟩
 have hB : B ≤ w.heap.size := Nat.le_of_eq hBe
 have hX : XY B w w ⟨da, dn, dc, dl⟩ ⟨ea, en, ec, el⟩ := by rw [hBe]; exact XY.begin (q := ⟨0, ⟨da, dn, dc, dl⟩, ⟨ea, en, ec, el⟩, 0, 0⟩) hd he hdn hen
 obtain ⟨sn, hsn⟩ : ∃ sn, sn = ss.length := ⟨_, rfl⟩
 have HO : Hid (∀ k, k < sn → ∃ (kk : Int) (x y : Sl) (ox oy : Int) (b0 off : Nat), pa = some ⟨b0, off, none⟩ ∧ b0 < B ∧ w.rangeAt b0 (off + k * 5) (opC kk x.v y.v ox oy) ∧ XY B w w x y) := hide (fun k hk => by
  have hk2 : k < ss.length := by omega
  obtain ⟨b0, off, e1, hlt, hr⟩ := LiesO.range hat (List.getElem?_eq_getElem hk2)
  obtain ⟨⟨h1, h2⟩, h3, h4⟩ := hok _ (List.getElem_mem hk2)
  exact ⟨ss[k].kind, ss[k].d, ss[k].s, ss[k].x, ss[k].y, b0, off, e1, by omega, hr, by rw [hBe]; exact XY.begin h1 h2 h3 h4⟩)
 rw [← hsn]
 have hsm : sn ≤ 1048576 := by omega
 have HBE := hide hBe
 rw [← hBe]
 clear hsn hat hok hln hd he hdn hen hBe
 have hS : Hs17 (wcut B w) [] (SaU B w w) w := Hs17.cutU hB
 go_enter Try.func3, Try.ntmps3
 go_upto_region 0 with fail
 refine raZ1 ?_
 go_upto_region 1 with fail
 refine rgZ3 ?_
 refine caZ ?_
 intro kQ hkQ
 refine (load_any z ⟨da, dn, dc, dl⟩ ⟨ea, en, ec, el⟩ _ hX.xo hX.yo).mono ?_
 rintro e w1 ⟨p, S, rfl, hF, hSB, hb1⟩
 have h9 := hb1
 replace hX := hX.sam (Sam.of hb1)
 replace hS := hS.later hb1
 refine hkQ _ _ ?_
 clear hkQ kQ hb1
 have hb9 := h9
 clear h9
 refine stZ3 ?_
 refine caZ ?_
 intro kQ hkQ
 refine (q_load z ⟨da, dn, dc, dl⟩ ⟨ea, en, ec, el⟩ _ hX.xo hX.yo).mono ?_
 rintro e w2 ⟨c, rfl, hq, hb1⟩
 have hlc := hq.ln
 have hoc := hq.one
 obtain ⟨O, hP⟩ := PSt.begin hF hSB hb9 hq hb1
 rw [← unhide HBE] at hP
 replace hX := hX.sam (Sam.of hb1)
 replace hS := hS.later hb1
 replace hS := Hs17.goP hB hS (fun _ h => h.un) rfl (Buts.of_below (Below.refl _ _) (S := fun _ => False)) (fun _ hh => hh.elim) hP ⟨hX.b, hX.z⟩
 have hw0 : (fsLoad z dl el).wr ≤ 5 * 0 := Nat.le_of_eq (fsLoad_wr z dl el)
 clear hP hq hF hSB hb9 hX
 generalize fsLoad z dl el = s0 at hS hw0
 refine hkQ _ _ ?_
 clear hkQ kQ hb1
 refine vZ _ (ex_build 34 #[(0, .tmp 19), (3, .tmp 23)] rfl _ (b_pair p hlc) rfl) ?_
 refine alZ 34 rfl _ Try.jP hS ?_
 clear hS
 intro g3 w3 hS
 refine srZ 34 (.tmp 9) (.tmp 24) rfl 0 rfl 0 rfl _ _ (pt_p x0_len hlc (.pointer none) (.pointer none) false 0 0 0 false (.pointer (some ⟨p, 0, none⟩)) (.pointer none) false 0 0 0 false) rfl (szP _ _ _ hlc _ _ _ _) (one_p (by assumption) _ _ _ _ _ _ _) hS ?_
 clear hS
 intro w4 hS
 refine wpList_nil ?_
 go_upto_region 2 with fail
 refine rgZ1 ?_
 refine l1Z 24 (.tmp 25) rfl 0 rfl 0 rfl _ (at_p0 (.pointer (some ⟨p, 0, none⟩)) (.pointer none) false c (yC 0 0 0 false)) Try.underlying24 rfl hS ?_
 refine snZ1 ?_
 go_upto_region 4 with fail
 refine raZ1 ?_
 go_upto_region 5 with fail
 refine raZ1 ?_
 go_wp2_with fail
 go_loopw [10, 11, 12, 13, 14, 15] (fun vok vi _ _ _ _ wr => ∃ (k : Nat) (S : Nat → Prop) (s : FlS) (O : Nat → Prop) (c : List Value) (ja : Option Addr) (op : Bool) (b e n : Int) (d : Bool), vok = .bool true ∧ vi = .int .i64 k ∧ k ≤ sn ∧ s.wr ≤ 5 * k ∧ Hs17 (wcut B w) [(g3, 34, (prC (.pointer (some ⟨p, 0, none⟩)) (.pointer ja) op c (yC b e n d)))] (PZ B (100000000 + k) w p S s O c ja op b e n d) wr) (fun _ vi _ _ _ _ _ => sn - (intOf vi).toNat)
 case atStart => exact ⟨0, S, s0, O, c, none, false, 0, 0, 0, false, rfl, rfl, Nat.zero_le _, hw0, hS⟩
 case round =>
  clear hS hw0 hlc hoc
  obtain ⟨k, S, s, O, c, ja, op, b, e, n, d, rfl, rfl, hk, hwr, hS⟩ := hrel
  by_cases hlt : k < sn
  ·have hkz : (k : Int) < (sn : Int) := by omega
   have hlc := hS.K.1.rq.ln
   have hoc := hS.K.1.rq.one
   have hwk : s.wr + 6 ≤ 1000000000 := by omega
   obtain ⟨kk, ⟨xa, xn, xc, xl⟩, ⟨ya, yn, yc, yl⟩, ox, oy, b0, off, rfl, hb0, hrg, hX⟩ := unhide HO k hlt
   simp only [Sl.v] at hrg
   have HR : Hid (∀ w', Below B w w' → w'.rangeAt b0 (off + k * 5) (opC kk (.slice xa xn xc) (.slice ya yn yc) ox oy)) := hide (fun w' h => range_low hrg h hb0)
   have HX := hide hX
   have HK := hide hk
   have HL := hide hlt
   clear hrg hX hk hb0
   go_upto_region 8 with fail
   refine wp_region_noPanic ?_
   replace hS := hS.drew
   refine wp_region_held_drew (S := fun w' => Below B w w') (by kernel_rfl) (hS.belB hB hS.K.2.1.z) (fun hHeld => ?_)
   generalize World.drew _ = w30 at hS hHeld ⊢
   refine tkZ 1 ((.slice (some ⟨b0, off, none⟩) sn pc)) rfl (Or.inl ⟨by rfl, fun w hSw => by go_simp⟩) hHeld ?_
   refine tkZ 2 (.int .i64 (k : Int)) rfl (Or.inl ⟨by rfl, fun w hSw => by go_simp⟩) hHeld ?_
   refine tkZ 3 ((.pointer (some ⟨b0, off + k * 5, none⟩))) rfl (Or.inl ⟨by rfl, fun w hSw => by go_simp⟩) hHeld ?_
   refine tkZ 4 (aV (opC kk (.slice xa xn xc) (.slice ya yn yc) ox oy)) rfl (yl_loadR (by kernel_rfl) 38 (.tmp 38) rfl b0 (off + k * 5) rfl (opC kk (.slice xa xn xc) (.slice ya yn yc) ox oy) (fun w' h => unhide HR w' h) Try.underlying38 rfl (szO _ _ _ _ _)) hHeld ?_
   refine rd1 0 rfl fun kQ hkQ => ?_
   refine dw (by kernel_rfl) (op_val (aV (prC (.pointer (some ⟨p, 0, none⟩)) (.pointer ja) op c (yC b e n d))) (ex_load 34 (.tmp 9) rfl 0 rfl 0 rfl (prC (.pointer (some ⟨p, 0, none⟩)) (.pointer ja) op c (yC b e n d)) (At.self _) Try.underlying34 rfl (szP _ _ _ hlc _ _ _ _) hS) ?_)
   refine hkQ.out _ _ hHeld (fun hHeld => ?_)
   clear hkQ kQ
   simp [Act.put]
   refine rd1 5 rfl fun kQ hkQ => ?_
   go_simp
   refine (step_any B (100000000 + k) _ p S s O c ja op b e n d ⟨kk, ⟨xa, xn, xc, xl⟩, ⟨ya, yn, yc, yl⟩, ox, oy⟩ hS.K.2.1.b hS.K.1 ((unhide HX).at_ hHeld) (by omega) (by have := unhide HL; omega) hwk).mono ?_
   rintro e9 w31 ⟨S1, s1, O1, c1, ja1, op1, b1, e1, n1, d1, rfl, hP, hwr1, hb9, hu9⟩
   have hb1 := StP.buts hb9 hu9
   have hlc1 := hP.rq.ln
   have hoc1 := hP.rq.one
   replace hS := Hs17.goP hB hS (fun _ h => h.2.2) rfl hb1 (fun k hk => hk) hP (hS.K.2.1.buts hb1)
   clear hHeld hb1 hb9 hu9 hP
   refine hkQ.out _ _ (hS.belB hB hS.K.2.1.z) (fun hHeld => ?_)
   clear hkQ kQ
   try simp [Act.put]
   refine tkZ 6 (.tuple #[aV (prC (.pointer (some ⟨p, 0, none⟩)) (.pointer ja1) op1 c1 (yC b1 e1 n1 d1)), .bool true]) rfl (Or.inl ⟨by rfl, fun w hSw => by go_simp⟩) hHeld ?_
   refine tkZ 7 (aV (prC (.pointer (some ⟨p, 0, none⟩)) (.pointer ja1) op1 c1 (yC b1 e1 n1 d1))) rfl (Or.inl ⟨by rfl, fun w hSw => by go_simp⟩) hHeld ?_
   refine tkZ 8 (.bool true) rfl (Or.inl ⟨by rfl, fun w hSw => by go_simp⟩) hHeld ?_
   refine rd1 9 rfl fun kQ hkQ => ?_
   refine dw (by kernel_rfl) (op_store 34 (.tmp 9) (.tmp 41) rfl 0 rfl 0 rfl _ _ (pt_p hlc hlc1 (.pointer (some ⟨p, 0, none⟩)) (.pointer ja) op b e n d (.pointer (some ⟨p, 0, none⟩)) (.pointer ja1) op1 b1 e1 n1 d1) rfl (szP _ _ _ hlc1 _ _ _ _) (one_p (by assumption) _ _ _ _ _ _ _) hS ?_)
   clear hS hHeld
   intro w32 hS
   change Hs17 _ [_] _ _ at hS
   refine hkQ.out _ _ (hS.belB hB hS.K.2.1.z) (fun hHeld => ?_)
   clear hkQ kQ
   simp [Act.put]
   refine tkZ 10 (.bool true) rfl (Or.inl ⟨by rfl, fun w hSw => by go_simp⟩) hHeld ?_
   refine wpAnyH_done (by kernel_rfl) ?_ _
   unfold NoPanic
   clear hHeld
   clear hlc hoc
   go_upto_region 9 with fail
   refine rgZ3 ?_
   refine ldZ 34 (.tmp 9) rfl 0 rfl 0 rfl _ (At.self _) Try.underlying34 rfl (szP _ _ _ hlc1 _ _ _ _) hS ?_
   refine caZ ?_
   intro kQ hkQ
   refine (told_any B (100000000 + k + 1) _ p S1 s1 O1 c1 ja1 op1 b1 e1 n1 d1 hS.K.1).mono ?_
   rintro e w41 ⟨rfl, hb1⟩
   replace hS := hS.later hb1
   refine hkQ _ _ ?_
   clear hkQ kQ hb1
   refine snZ2 ?_
   go_upto_region 11 with fail
   refine rgZ1 ?_
   refine l1Z 24 (.tmp 51) rfl 0 rfl 0 rfl _ (at_p0 (.pointer (some ⟨p, 0, none⟩)) (.pointer ja1) op1 c1 (yC b1 e1 n1 d1)) Try.underlying24 rfl hS ?_
   refine caZ ?_
   intro kQ hkQ
   refine (files_any p S1 s1 _ hS.K.1.fl).mono ?_
   rintro e w42 hF9
   obtain ⟨a1, k1, a2, k2, rfl, hN1, hN2, hb1⟩ := FPost.nb hF9
   replace hS := hS.keepN2 hb1 hN1 hN2
   clear hN1 hN2 hF9
   refine hkQ _ _ ?_
   clear hkQ kQ hb1
   refine snZ5 ?_
   go_upto_region 12 with fail
   refine rgZ1 ?_
   refine ldZ 28 (.tmp 57) rfl 0 rfl 3 rfl _ (at_p3 (.pointer (some ⟨p, 0, none⟩)) (.pointer ja1) op1 c1 (yC b1 e1 n1 d1)) Try.underlying28 rfl (szX hlc1) hS ?_
   refine caZ ?_
   intro kQ hkQ
   refine (q_files hS.K.1.1.rq).mono ?_
   rintro e w43 hF9
   obtain ⟨a3, k3, a4, k4, rfl, hN1, hN2, hb1⟩ := FPost.nb hF9
   replace hS := hS.keepN2 hb1 hN1 hN2
   clear hN1 hN2 hF9
   refine hkQ _ _ ?_
   clear hkQ kQ hb1
   refine snZ5 ?_
   have HZ := hide (And.intro hS.K.1.1.1.rq.ok.z0 (And.intro hS.K.1.1.1.rq.ok.z1 hS.K.1.1.1.rq.ok.mx))
   go_upto_region 13 with fail
   refine rgZ2 ?_
   refine caZ ?_
   intro kQ hkQ
   refine (same14 ⟨a1, s1.l0.length, k1, s1.l0⟩ ⟨a3, s1.l0.length, k3, s1.l0⟩ _ hS.K.1.2.1.ok hS.K.2.1.ok (by have := unhide HZ; simp only; omega) rfl).mono ?_
   rintro e w44 ⟨rfl, hb1⟩
   replace hS := hS.later hb1
   refine hkQ _ _ ?_
   clear hkQ kQ hb1
   refine stZ4 ?_
   refine caZ ?_
   intro kQ hkQ
   refine (same14 ⟨a2, s1.l1.length, k2, s1.l1⟩ ⟨a4, s1.l1.length, k4, s1.l1⟩ _ hS.K.1.2.2.ok hS.K.2.2.ok (by have := unhide HZ; simp only; omega) rfl).mono ?_
   rintro e w45 ⟨rfl, hb1⟩
   replace hS := hS.later hb1
   refine hkQ _ _ ?_
   clear hkQ kQ hb1
   refine snZ2 ?_
   go_wp2
   go_roundw
   case rel => exact ⟨k + 1, S1, s1, O1, c1, ja1, op1, b1, e1, n1, d1, rfl, by go_num, by have := unhide HL; omega, by omega, hS.weak (fun w h => h.1.1)⟩
   case measure => have := unhide HL; simp [intOf]; omega
  ·have hkz : ¬ (k : Int) < (sn : Int) := by omega
   have hz := hS.K.2.1.z
   go_wp2_with fail
   go_ret
   exact ⟨rfl, hS.belB hB hz⟩
end Go.Proofs.Ytppmgfkpfamabaa

set_option maxRecDepth 100000
namespace Go.Proofs.Ytppmgfkpfamabaa.JournalExactU
open Go.ChangeShapes Go.WideShapes Go.ChangeAt Go.WideMaps Go.WideElems Go.RowKit
theorem laid_met (os : Go.Os) : laidMet Try.prog Rows.journalExactUptoRow.laid ((World.doorLaid Try.prog 4000 os).forCall (fun _ _ => 0) ⟨#[], #[.int .i64 0, .slice none 0 0, .slice none 0 0, .slice none 0 0], []⟩).memory :=
  laidMet_of_run' 8 (by kernel_rfl) (by kernel_rfl)
theorem reads (os : Go.Os) {H : Type} (enc : TypeId × Value → H) : ∃ places, DataW.whole enc Try.prog ((World.doorLaid Try.prog 4000 os).forCall (fun _ _ => 0) ⟨#[], #[.int .i64 0, .slice none 0 0, .slice none 0 0, .slice none 0 0], []⟩).memory Try.f3.params.toList Rows.journalExactSpec.vars false (#[.int .i64 0, .slice none 0 0, .slice none 0 0, .slice none 0 0] : Array Value).toList 8 = some ([.lit (.int .i64 0), .nil, .nil, .nil], [], places) :=
  ⟨[], by kernel_rfl⟩
theorem lifted (os : Go.Os) (started : os.Started) (H : Type) (enc : TypeId × Value → H) (F : Stop.Interp) :
    ReturnsInHanded {} Try.checked os 3 .any ((Rows.OpenSpec.upto Rows.journalExactSpec).preRow enc Try.prog Try.f3 Rows.journalExactUptoRow.domain false Rows.journalExactUptoRow.laid) (((Rows.OpenSpec.upto Rows.journalExactSpec).at F).post enc Try.prog Try.f3 false true false false) := by
  obtain ⟨places, hx⟩ := reads os enc
  refine returnsInHanded_of_row (C := Try.checked) (s := Rows.OpenSpec.upto Rows.journalExactSpec) own started (by kernel_rfl) Try.func3
    (witness_row_at (enc := enc) (C := Try.checked) false (World.doorLaid Try.prog 4000 os) #[.int .i64 0, .slice none 0 0, .slice none 0 0, .slice none 0 0] rfl (by kernel_rfl) (by kernel_rfl) (by kernel_rfl)
      (OpenSpec.preRow_of_cond 8 hx (by kernel_rfl) (fun k hk => by cases hk; kernel_rfl) (by kernel_rfl) (laid_met os))) ?_
  intro W base args ds gs before hval0 hW0 _ hcond _ _ _ _
  have hval : ∀ (j : Nat) t v, Try.f3.params[j]? = some t → args[j]? = some v → Value.okWide Try.prog W .any base t v := hval0
  have hW : DataW.Whole enc Try.prog Try.f3.params.toList Rows.journalExactSpec.vars false W args.toList ds gs before := hW0
  have hsm : Rows.uptoSmall H (ds ++ gs) = true := hcond _ rfl
  have hW' := hW
  obtain ⟨p, q, hA0, hV, rfl, hfz, hnd⟩ := hW
  have hA : DataW.TrodAll enc Try.prog W 0 (fun _ => true) true Try.f3.params.toList args.toList ds p := hA0
  rw [Try.params3] at hA hval
  obtain ⟨v0, vs0, d0, ds0, p0, q0, hargs, rfl, rfl, h0, r0⟩ := trodAll_cons hA
  obtain ⟨v1, vs1, d1, ds1, p1, q1, rfl, rfl, rfl, h1, r1⟩ := trodAll_cons r0
  obtain ⟨v2, vs2, d2, ds2, p2, q2, rfl, rfl, rfl, h2, r2⟩ := trodAll_cons r1
  obtain ⟨v3, vs3, d3, ds3, p3, q3, rfl, rfl, rfl, h3, r3⟩ := trodAll_cons r2
  obtain ⟨rfl, rfl, rfl⟩ := trodAll_nil r3
  obtain rfl : args = #[v0, v1, v2, v3] := by cases args; simp_all
  obtain ⟨rfl, rfl⟩ := trodVars_none hV
  have hbulk : Rows.uptoBulkAll (H := H) [d0, d1, d2, d3] ≤ 1048576 := of_decide_eq_true hsm
  obtain ⟨a0, rfl, rfl, rfl, w0⟩ := open_int Try.underlying3 (hval 0 3 v0 rfl rfl) h0
  simp only [Rows.uptoBulkAll] at hbulk
  have k1 := h1
  have lt1 : ∀ x ∈ p1, x.block < W.heap.size := by obtain ⟨m, hm⟩ := k1; exact DataW.trod_lt m _ _ _ hm
  have k2 := h2
  have lt2 : ∀ x ∈ p2, x.block < W.heap.size := by obtain ⟨m, hm⟩ := k2; exact DataW.trod_lt m _ _ _ hm
  have k3 := h3
  have lt3 : ∀ x ∈ p3, x.block < W.heap.size := by obtain ⟨m, hm⟩ := k3; exact DataW.trod_lt m _ _ _ hm
  obtain ⟨⟨da, dn, dc, dl⟩, rfl, okd, bd⟩ : ∃ s : Sl, v1 = s.v ∧ s.Ok W ∧ s.n ≤ Rows.uptoBulk d1 := by
    obtain ⟨m, hm⟩ := h1
    have hc : v1.cells.toList = [v1] := by
      obtain ⟨a, n, c, rfl⟩ := okWide_slice Try.underlying22 (hval 1 22 v1 rfl rfl)
      rfl
    rw [hc] at hm
    exact open_sl_b14 hm
  obtain ⟨⟨ea, en, ec, el⟩, rfl, oke, be⟩ : ∃ s : Sl, v2 = s.v ∧ s.Ok W ∧ s.n ≤ Rows.uptoBulk d2 := by
    obtain ⟨m, hm⟩ := h2
    have hc : v2.cells.toList = [v2] := by
      obtain ⟨a, n, c, rfl⟩ := okWide_slice Try.underlying22 (hval 2 22 v2 rfl rfl)
      rfl
    rw [hc] at hm
    exact open_sl_b14 hm
  obtain ⟨sa, sc, ss, rfl, hat, hok, hle⟩ : ∃ (a : Option Addr) (c : Nat) (ss : List Opj), v3 = .slice a ss.length c ∧ LiesO W a ss ∧ (∀ o ∈ ss, (o.d.Ok W ∧ o.s.Ok W) ∧ o.d.n ≤ Rows.uptoBulk d3 ∧ o.s.n ≤ Rows.uptoBulk d3) ∧ ss.length ≤ Rows.uptoBulk d3 := by
    obtain ⟨m, hm⟩ := h3
    have hc : v3.cells.toList = [v3] := by
      obtain ⟨a, n, c, rfl⟩ := okWide_slice Try.underlying23 (hval 3 23 v3 rfl rfl)
      rfl
    rw [hc] at hm
    exact open_ops14 hm
  simp only at bd be
  clear hA0 hval0
  refine (exactJ_law a0 da ea dn dc en ec dl el sa sc ss W okd oke (by omega) (by omega) hat (fun o ho => by obtain ⟨h1, h2, h3⟩ := hok o ho; exact ⟨h1, by omega, by omega⟩) (by omega)).mono fun e W' ⟨he, bel⟩ => ?_
  subst he
  exact ⟨_, rfl, _, _, _, [], _, [], hW', trodAll_mk1 (shut_bool Try.underlying4 _), (trodAll_cons_mk (shut_int Try.underlying3 w0) (trodAll_cons_mk (Below.trod laidOut (by kernel_rfl) (of_decide_eq_true (by kernel_rfl)) k1 bel lt1) (trodAll_cons_mk (Below.trod laidOut (by kernel_rfl) (of_decide_eq_true (by kernel_rfl)) k2 bel lt2) (trodAll_cons_mk (Below.trod laidOut (by kernel_rfl) (of_decide_eq_true (by kernel_rfl)) k3 bel lt3) trodAll_mk0)))), rfl, bel.frame _, fun h => by cases h⟩
theorem row : Rows.JournalExactUptoSaid :=
  OpenClaim.holds_of_cond 3 Try.f3 rfl rfl rfl rfl rfl rfl rfl ⟨rfl, rfl, rfl, rfl, rfl⟩ rfl rfl rfl rfl rfl (by kernel_rfl) Try.func3 (by kernel_rfl)
    (of_decide_eq_true (by kernel_rfl)) (by unfold Func.isWrapper; first | (rw [if_pos (by decide +kernel)]; kernel_rfl) | (rw [if_neg (by decide +kernel)]; exact ⟨rfl, rfl⟩))
    (fun os started H enc _ F => by rw [OpenClaim.pre_eq_preRow]; exact lifted os started H enc F)
end Go.Proofs.Ytppmgfkpfamabaa.JournalExactU
namespace Go.Proofs.Ytppmgfkpfamabaa
theorem journalExact_holds : Rows.JournalExactUptoSaid := JournalExactU.row
#print axioms journalExact_holds
end Go.Proofs.Ytppmgfkpfamabaa
