import Derived.Test.YtppmgfkpfamabaaQGbsZ
import Derived.Deep.DeepCutAuto
import Derived.Deep.QuietTactic
import Derived.BigQuiet
import Derived.Test.YtppmgfkpfamabaaQGbiZ
import Derived.Test.YtppmgfkpfamabaaQGbgZ
import Derived.Test.YtppmgfkpfamabaaQJnK
set_option maxHeartbeats 4000000
set_option maxRecDepth 100000
set_option linter.unusedSimpArgs false
set_option linter.unusedVariables false
namespace Go.Proofs.Ytppmgfkpfamabaa
open Go.RowKit
theorem qchosen_any (h1 h2 : Bool) (e1 e2 : Int) (v1 v2 v3 v4 : Value) (gg1 l1 gg2 l2 : Int) (r : Int) (w : World) (hr : (h1 = false ∨ (h2 = true ∧ e1 < e2)) ∧ r = 1 ∨ (h1 = true ∧ (h2 = false ∨ ¬ e1 < e2)) ∧ r = 0) :
    Calls Try.prog 63 #[aV (kkC h1 e1 v1 v2 gg1 l1), aV (kkC h2 e2 v3 v4 gg2 l2)] w fun e w' => e = .returned (.int .i64 r) ∧ Below w.heap.size w w' := by
  have hS := Hs17.start0 w
  cases h1 with
  | false =>
    have hr1 : r = 1 := by rcases hr with ⟨-, h⟩ | ⟨⟨h, -⟩, -⟩; exact h; cases h
    clear hr
    subst hr1
    go_enter Try.func63, Try.ntmps63
    go_upto_region 0 with fail
    refine wp_region_lit ?_
    refine bxZ 124 (.tmp 0) rfl (kkC false e1 v1 v2 gg1 l1) rfl hS ?_
    clear hS
    intro g1 w1 hS
    refine bxZ 124 (.tmp 1) rfl (kkC h2 e2 v3 v4 gg2 l2) rfl hS ?_
    clear hS
    intro g2 w2 hS
    refine snZ1 ?_
    have c10 : w2.cell? ⟨g1, 0, none⟩ = some (.bool false) := by have := (at_k0 false e1 v1 v2 gg1 l1).range (hS.get 1 rfl) 0 _ rfl; simpa using this
    have c11 : w2.cell? ⟨g1, 1, none⟩ = some (.int .i64 e1) := by have := (at_k1 false e1 v1 v2 gg1 l1).range (hS.get 1 rfl) 0 _ rfl; simpa using this
    have c20 : w2.cell? ⟨g2, 0, none⟩ = some (.bool h2) := by have := (at_k0 h2 e2 v3 v4 gg2 l2).range (hS.get 0 rfl) 0 _ rfl; simpa using this
    have c21 : w2.cell? ⟨g2, 1, none⟩ = some (.int .i64 e2) := by have := (at_k1 h2 e2 v3 v4 gg2 l2).range (hS.get 0 rfl) 0 _ rfl; simpa using this
    have HB := hide hS.bel
    clear hS
    go_wp2_with fail
    go_ret
    exact ⟨rfl, unhide HB⟩
  | true =>
    cases h2 with
    | false =>
      have hr1 : r = 0 := by rcases hr with ⟨h | ⟨h, -⟩, -⟩ | ⟨-, h⟩; cases h; cases h; exact h
      clear hr
      subst hr1
      go_enter Try.func63, Try.ntmps63
      go_upto_region 0 with fail
      refine wp_region_lit ?_
      refine bxZ 124 (.tmp 0) rfl (kkC true e1 v1 v2 gg1 l1) rfl hS ?_
      clear hS
      intro g1 w1 hS
      refine bxZ 124 (.tmp 1) rfl (kkC false e2 v3 v4 gg2 l2) rfl hS ?_
      clear hS
      intro g2 w2 hS
      refine snZ1 ?_
      have c10 : w2.cell? ⟨g1, 0, none⟩ = some (.bool true) := by have := (at_k0 true e1 v1 v2 gg1 l1).range (hS.get 1 rfl) 0 _ rfl; simpa using this
      have c11 : w2.cell? ⟨g1, 1, none⟩ = some (.int .i64 e1) := by have := (at_k1 true e1 v1 v2 gg1 l1).range (hS.get 1 rfl) 0 _ rfl; simpa using this
      have c20 : w2.cell? ⟨g2, 0, none⟩ = some (.bool false) := by have := (at_k0 false e2 v3 v4 gg2 l2).range (hS.get 0 rfl) 0 _ rfl; simpa using this
      have c21 : w2.cell? ⟨g2, 1, none⟩ = some (.int .i64 e2) := by have := (at_k1 false e2 v3 v4 gg2 l2).range (hS.get 0 rfl) 0 _ rfl; simpa using this
      have HB := hide hS.bel
      clear hS
      go_wp2_with fail
      go_ret
      exact ⟨rfl, unhide HB⟩
    | true =>
      by_cases hlt : e1 < e2
      · have hr1 : r = 1 := by rcases hr with ⟨-, h⟩ | ⟨⟨-, h | h⟩, -⟩; exact h; cases h; exact absurd hlt h
        clear hr
        subst hr1
        go_enter Try.func63, Try.ntmps63
        go_upto_region 0 with fail
        refine wp_region_lit ?_
        refine bxZ 124 (.tmp 0) rfl (kkC true e1 v1 v2 gg1 l1) rfl hS ?_
        clear hS
        intro g1 w1 hS
        refine bxZ 124 (.tmp 1) rfl (kkC true e2 v3 v4 gg2 l2) rfl hS ?_
        clear hS
        intro g2 w2 hS
        refine snZ1 ?_
        have c10 : w2.cell? ⟨g1, 0, none⟩ = some (.bool true) := by have := (at_k0 true e1 v1 v2 gg1 l1).range (hS.get 1 rfl) 0 _ rfl; simpa using this
        have c11 : w2.cell? ⟨g1, 1, none⟩ = some (.int .i64 e1) := by have := (at_k1 true e1 v1 v2 gg1 l1).range (hS.get 1 rfl) 0 _ rfl; simpa using this
        have c20 : w2.cell? ⟨g2, 0, none⟩ = some (.bool true) := by have := (at_k0 true e2 v3 v4 gg2 l2).range (hS.get 0 rfl) 0 _ rfl; simpa using this
        have c21 : w2.cell? ⟨g2, 1, none⟩ = some (.int .i64 e2) := by have := (at_k1 true e2 v3 v4 gg2 l2).range (hS.get 0 rfl) 0 _ rfl; simpa using this
        have HB := hide hS.bel
        clear hS
        go_wp2_with fail
        go_ret
        exact ⟨rfl, unhide HB⟩
      · have hr1 : r = 0 := by rcases hr with ⟨h | ⟨-, h⟩, -⟩ | ⟨-, h⟩; cases h; exact absurd h hlt; exact h
        clear hr
        subst hr1
        go_enter Try.func63, Try.ntmps63
        go_upto_region 0 with fail
        refine wp_region_lit ?_
        refine bxZ 124 (.tmp 0) rfl (kkC true e1 v1 v2 gg1 l1) rfl hS ?_
        clear hS
        intro g1 w1 hS
        refine bxZ 124 (.tmp 1) rfl (kkC true e2 v3 v4 gg2 l2) rfl hS ?_
        clear hS
        intro g2 w2 hS
        refine snZ1 ?_
        have c10 : w2.cell? ⟨g1, 0, none⟩ = some (.bool true) := by have := (at_k0 true e1 v1 v2 gg1 l1).range (hS.get 1 rfl) 0 _ rfl; simpa using this
        have c11 : w2.cell? ⟨g1, 1, none⟩ = some (.int .i64 e1) := by have := (at_k1 true e1 v1 v2 gg1 l1).range (hS.get 1 rfl) 0 _ rfl; simpa using this
        have c20 : w2.cell? ⟨g2, 0, none⟩ = some (.bool true) := by have := (at_k0 true e2 v3 v4 gg2 l2).range (hS.get 0 rfl) 0 _ rfl; simpa using this
        have c21 : w2.cell? ⟨g2, 1, none⟩ = some (.int .i64 e2) := by have := (at_k1 true e2 v3 v4 gg2 l2).range (hS.get 0 rfl) 0 _ rfl; simpa using this
        have HB := hide hS.bel
        clear hS
        go_wp2_with fail
        go_ret
        exact ⟨rfl, unhide HB⟩
theorem qlook_yes (d : Sl) (w : World) (hd : d.Ok w) (hdn : d.n ≤ 1048576) (E G LN : Nat) (S : List Int) (RS : List (List Int)) (h0 : E ≠ 0) (hE : E = (look d.l).e) (hG : G = d.l.length - (look d.l).t.length) (hL : LN = d.l.length) (hS : S = (look d.l).s) (hRS : RS = (look d.l).rs) :
    Calls Try.prog 62 #[d.v] w fun e w' => ∃ (sn : Sl) (q : Sx Sl), e = .returned (aV (kkC true (E : Int) (Sl.v sn) (Sx.v q) (G : Int) (LN : Int))) ∧ (Nb w.heap.size sn w' ∧ sn.l = S) ∧ (Nbs w.heap.size q w' ∧ q.xs.map Sl.l = RS) ∧ Below w.heap.size w w' := by
  refine (qlook_any d w hd hdn).mono ?_
  rintro e w' ⟨hd, ep, sn, q, g, h1, h2, h3, h4, h5, h6⟩
  have ht : hd = true := by rw [h5, ← hE]; simpa using h0
  obtain ⟨k1, k2, k3, k4⟩ := h6 ht
  subst hE hG hL hS hRS
  refine ⟨sn, q, ?_, ⟨h2, k2⟩, ⟨h3, k3⟩, h4⟩
  rw [h1, ht, k1, k4]
theorem qlook_no (d : Sl) (w : World) (hd : d.Ok w) (hdn : d.n ≤ 1048576) (h0 : (look d.l).e = 0) :
    Calls Try.prog 62 #[d.v] w fun e w' => ∃ (ep : Int) (sn : Sl) (q : Sx Sl) (g : Int), e = .returned (aV (kkC false ep (Sl.v sn) (Sx.v q) g d.l.length)) ∧ Below w.heap.size w w' := by
  refine (qlook_any d w hd hdn).mono ?_
  rintro e w' ⟨hd, ep, sn, q, g, h1, h2, h3, h4, h5, h6⟩
  have ht : hd = false := by rw [h5, h0]; rfl
  exact ⟨ep, sn, q, g, by rw [h1, ht], h4⟩
theorem qlook_gen (d : Sl) (w : World) (hd : d.Ok w) (hdn : d.n ≤ 1048576) :
    Calls Try.prog 62 #[d.v] w fun e w' => ∃ (h : Bool) (ep : Int) (sn : Sl) (q : Sx Sl) (g : Int), e = .returned (aV (kkC h ep (Sl.v sn) (Sx.v q) g d.l.length)) ∧ (h = true → ep = ((look d.l).e : Nat)) ∧ (h = decide ((look d.l).e ≠ 0)) ∧ Below w.heap.size w w' := by
  refine (qlook_any d w hd hdn).mono ?_
  rintro e w' ⟨hd, ep, sn, q, g, h1, h2, h3, h4, h5, h6⟩
  exact ⟨hd, ep, sn, q, g, h1, fun h => (h6 h).1, h5, h4⟩
def QO (O : Nat → Prop) (s : FlS) (w : World) (e : Ending) (w' : World) : Prop :=
  ∃ (c' : List Value) (b en n ep : Int) (sn : Sl) (q : Sx Sl) (cut : Int), e = .returned (.tuple #[aV c', aV (yC b en n false), aV (rvC ep (Sl.v sn) (Sx.v q) cut), .int .i64 s.jopen.2]) ∧ Rq (On O w) s.jopen.1 c' w' ∧ Nb w.heap.size sn w' ∧ Nbs w.heap.size q w' ∧ Below w.heap.size w w' ∧
    ((s.jopen.2 ≠ 0 ∧ ep = 0 ∧ cut = 0 ∧ sn.l = [] ∧ q.xs = []) ∨
     (s.jopen.2 = 0 ∧ b = s.openJ.bank ∧ en = s.openJ.ep ∧ n = s.openJ.cnt ∧ ep = s.openJ.ep ∧ cut = (s.pickC.t.length : Nat) ∧ sn.l = s.pickC.s ∧ q.xs.map Sl.l = s.pickC.rs))
theorem QO.err {O : Nat → Prop} {s s' : FlS} {w w' : World} {c : List Value} {er : Int} (h : s.jopen = (s', er)) (h0 : er ≠ 0) (hq : Rq (On O w) s' c w') (hb : Below w.heap.size w w') : QO O s w (.returned (.tuple #[aV c, aV (yC 0 0 0 false), aV (rvC 0 nil1 nil1 0), .int .i64 er])) w' :=
  ⟨c, 0, 0, 0, 0, ⟨none, 0, 0, []⟩, ⟨none, 0, 0, []⟩, 0, by rw [h]; rfl, by rw [h]; exact hq, Nb.nil _ _, Nbs.nil _ _, hb, .inl ⟨by rw [h]; exact h0, rfl, rfl, rfl, rfl⟩⟩
theorem QO.fine {O : Nat → Prop} {s s' : FlS} {w w' : World} {c : List Value} {b en n ep cut : Int} {sn : Sl} {q : Sx Sl} (h : s.jopen = (s', 0)) (hq : Rq (On O w) s' c w') (hb : Below w.heap.size w w') (hn : Nb w.heap.size sn w') (hns : Nbs w.heap.size q w')
    (h1 : b = s.openJ.bank) (h2 : en = s.openJ.ep) (h3 : n = s.openJ.cnt) (h4 : ep = s.openJ.ep) (h5 : cut = (s.pickC.t.length : Nat)) (h6 : sn.l = s.pickC.s) (h7 : q.xs.map Sl.l = s.pickC.rs) : QO O s w (.returned (.tuple #[aV c, aV (yC b en n false), aV (rvC ep sn.v q.v cut), .int .i64 0])) w' :=
  ⟨c, b, en, n, ep, sn, q, cut, by rw [h], by rw [h]; exact hq, hn, hns, hb, .inr ⟨by rw [h], h1, h2, h3, h4, h5, h6, h7⟩⟩
theorem by3 (b e n : Int) : Try.prog.built 32 [(0, .int .i64 b), (1, .int .i64 e), (2, .int .i64 n)] = some (yC b e n false).toArray := by kernel_rfl
theorem bv4 (e c : Int) (a1 a2 : Option Addr) (n1 c1 n2 c2 : Nat) : Try.prog.built 79 [(0, .int .i64 e), (1, .slice a1 n1 c1), (2, .slice a2 n2 c2), (3, .int .i64 c)] = some (rvC e (.slice a1 n1 c1) (.slice a2 n2 c2) c).toArray := by kernel_rfl
structure OpN (s : FlS) (b : Int) (C : Cts) : Prop where
  up : s.down = false
  b01 : b = 0 ∨ b = 1
  pb : s.pickB = b
  pc : s.pickC = C
  e0 : C.e ≠ 0
  ct : CtOk C
  ok : OkR C.rs
  jo : s.jopen = s.tidy b C
  oj : s.openJ = tidyJ b C
  lk : look (s.bk b) = C
  tl : C.t.length ≤ (s.bk b).length
theorem OpN.of {s : FlS} (ho : s.Ok) (hu : s.down = false) (h0 : s.pickC.e ≠ 0) : OpN s s.pickB s.pickC := by
  obtain ⟨m, hb, h1, h2, h3, h4, h5, h6, h7, h8⟩ := pick_hd h0
  refine ⟨hu, pickB_01 s, rfl, rfl, h0, pick_ct ho h0, h5, ?_, rfl, (pick_bk s).1.symm, ?_⟩
  · unfold FlS.jopen; rw [if_neg (by rw [hu]; simp), if_neg h0]
  · rw [hb]; simp only [List.length_append]; omega
theorem OpN.whole {s : FlS} {b : Int} {C : Cts} (h : OpN s b C) : True := trivial
theorem OpN.d0 {s : FlS} {b : Int} {C : Cts} (h : OpN s b C) (ht : C.t.length = 0) : s.jopen = s.empty (1 - b) ∧ s.openJ = ⟨b, C.e, C.rs.length⟩ := by
  rw [h.jo, h.oj]; unfold FlS.tidy tidyJ; rw [if_pos ht, if_pos ht]; exact ⟨rfl, rfl⟩
theorem OpN.d1 {s : FlS} {b : Int} {C : Cts} (h : OpN s b C) (ht : C.t.length ≠ 0) (he : C.e = 9223372036854775807) : s.jopen = (s, 3) := by
  rw [h.jo]; unfold FlS.tidy; rw [if_neg ht, if_pos he]
theorem OpN.d2 {s s1 s2 s3 : FlS} {b : Int} {C : Cts} {e1 e2 e3 : Int} {Wh : List Int} (h : OpN s b C) (ht : C.t.length ≠ 0) (he : C.e ≠ 9223372036854775807) (hW : Wh = hdr (C.e + 1) C.rs.length C.s ++ flatR C.rs) (h1 : s.empty (1 - b) = (s1, e1)) (h2 : s1.append (1 - b) Wh = (s2, e2)) (h3 : s2.empty b = (s3, e3)) :
    (e1 ≠ 0 → s.jopen = (s1, e1)) ∧ (e1 = 0 → e2 ≠ 0 → s.jopen = (s2, e2)) ∧ (e1 = 0 → e2 = 0 → s.jopen = (s3, e3)) ∧ s.openJ = ⟨1 - b, C.e + 1, C.rs.length⟩ := by
  have hj : s.jopen = if (s.refill (1 - b) Wh).2 ≠ 0 then s.refill (1 - b) Wh else (s.refill (1 - b) Wh).1.erase b := by
    rw [h.jo]; unfold FlS.tidy; rw [if_neg ht, if_neg he, ← hW]
  have hr1 : e1 ≠ 0 → s.refill (1 - b) Wh = (s1, e1) := fun k => by
    unfold FlS.refill; rw [h1]; exact if_pos k
  have hr2 : e1 = 0 → s.refill (1 - b) Wh = (s2, e2) := fun k => by
    unfold FlS.refill; rw [h1, if_neg (fun h => h k)]; exact h2
  refine ⟨fun k => ?_, fun k k' => ?_, fun k k' => ?_, ?_⟩
  · rw [hj, hr1 k, if_pos k]
  · rw [hj, hr2 k, if_pos k']
  · rw [hj, hr2 k, if_neg (fun h => h k')]
    show s2.erase b = (s3, e3)
    rw [← h3]
    subst k k'
    have hb1 : 1 - b = 0 ∨ 1 - b = 1 := by have := h.b01; omega
    have hup : s2.down = false ∧ s2.bk b = s.bk b := by
      rcases FlS.empty_spec hb1 h.up with ⟨t1, q1, p1⟩ | ⟨t1, l1, q1, p1, -⟩
      · rw [h1] at q1; cases q1
        have hr1 := ref_up p1.dn hb1
        have e11 : 1 - (1 - b) = b := by omega
        unfold FlS.append at h2
        rw [if_neg (fun h => h hr1)] at h2
        by_cases hz : s1.size < (s1.bk (1 - b)).length + Wh.length
        · rw [if_pos hz] at h2; cases h2
        · have hsp := FlS.append_spec (l := Wh) hb1 p1.dn (by omega)
          unfold FlS.append at hsp
          rw [if_neg (fun h => h hr1), if_neg hz] at hsp
          rw [if_neg hz] at h2
          rcases hsp with ⟨t2, q2, p2⟩ | ⟨t2, k2, q2, p2⟩
          · rw [h2] at q2; cases q2
            refine ⟨p2.dn, ?_⟩
            have h5 := p2.ot
            have h6 := p1.ot
            rw [e11] at h5 h6
            rw [h5, h6]
          · rw [h2] at q2; cases q2
      · rw [h1] at q1; cases q1
    unfold FlS.empty
    rw [if_neg (fun h9 => h9 (ref_up hup.1 h.b01)), if_neg (by rw [hup.2]; have := h.tl; omega)]
  · rw [h.oj]; unfold tidyJ; rw [if_neg ht]
theorem Hs17.keepLk {w0 w w' : World} {rows : List Row} {K : World → Prop} {s : Sl} {q : Sx Sl} (hS : Hs17 w0 rows K w) (hb : Below w.heap.size w w') (h : Nb w.heap.size s w') (hq : Nbs w.heap.size q w') :
  Hs17 w0 rows (fun w => K w ∧ (Nb w0.heap.size s w ∧ Nbs w0.heap.size q w)) w' := by
 have h1 := (hS.keepN14 hb h).K.2
 have hne : ∀ (w'' : World), (∀ k, k < w'.heap.size → (∀ p ∈ rows, p.1 ≠ k) → w''.heap[k]? = w'.heap[k]?) → ∀ x : Addr, w.heap.size ≤ x.block → x.block < w'.heap.size → w''.heap[x.block]? = w'.heap[x.block]? := fun w'' h2 x hx1 hx2 =>
  h2 _ hx2 (fun p hp e => by have h3 := (hS.arr p hp).lt; omega)
 refine (hS.later hb).also (fun w'' h1 h2 => ⟨(h.low hS.bel.size).blk h1 (fun x hx => hne w'' h2 x (h.new x hx) (h.lt x hx)), (hq.low hS.bel.size).blk h1 (fun x hx => hne w'' h2 x (hq.new x hx) (hq.lt x hx)) (fun s hs x hx => hne w'' h2 x ((hq.all s hs).new x hx) ((hq.all s hs).lt x hx))⟩)
theorem qopen_down (O : Nat → Prop) (s : FlS) (c : List Value) (w : World) (h : Rq O s c w) (hu : s.down = true) :
  Calls Try.prog 38 #[aV c] w (QO O s w) := by
 have hlc := h.ln
 have hoc := h.one
 have ho := h.ok
 have hS : Hs17 w [] (fun w9 => Rq O s c w9) w := Hs17.begin w _ (fun w' ho => h.old ho)
 have HJ : Hid (s.jopen = (s, 121)) := hide (by unfold FlS.jopen; rw [if_pos hu])
 have HR0 : Hid (∀ w1, Rq O s c w1 → Calls Try.prog 32 #[aV c, .int .i64 0] w1 fun e w' => ∃ v, e = .returned (.tuple #[v, .int .i64 121]) ∧ Rw w1.heap.size v [] w' ∧ Below w1.heap.size w1 w') := hide (fun w1 h1 => q_readE h1 0 121 (by unfold FlS.ref; rw [if_neg (by omega), if_pos hu]) (by decide))
 have HR1 : Hid (∀ w1, Rq O s c w1 → Calls Try.prog 32 #[aV c, .int .i64 1] w1 fun e w' => ∃ v, e = .returned (.tuple #[v, .int .i64 121]) ∧ Rw w1.heap.size v [] w' ∧ Below w1.heap.size w1 w') := hide (fun w1 h1 => q_readE h1 1 121 (by unfold FlS.ref; rw [if_neg (by omega), if_pos hu]) (by decide))
 clear h hu ho
 go_enter Try.func38, Try.ntmps38
 go_upto_region 0 with fail
 refine wp_region_lit ?_
 refine bxZ 28 (.tmp 0) rfl c rfl hS ?_
 clear hS
 intro g1 w1 hS
 refine alZ 28 rfl _ Try.jX hS ?_
 clear hS
 intro g2 w2 hS
 refine alZ 32 rfl _ Try.jY hS ?_
 clear hS
 intro g3 w3 hS
 refine alZ 79 rfl _ Try.jV hS ?_
 clear hS
 intro g4 w4 hS
 refine snZ1 ?_
 go_upto_region 1 with fail
 refine wp_region_lit ?_
 refine ldZ 28 (.tmp 1) rfl 3 rfl 0 rfl _ (At.self _) Try.underlying28 rfl (szX hlc) hS ?_
 refine caZ ?_
 intro kQ hkQ
 refine (unhide HR0 _ hS.K).mono ?_
 rintro e w5 ⟨v9, rfl, hR9, hb1⟩
 obtain ⟨ba, bc, rfl, hN9⟩ := hR9.nb'
 replace hS := hS.keepN14 hb1 hN9
 clear hR9 hN9
 refine hkQ _ _ ?_
 clear hkQ kQ hb1
 refine snZ5 ?_
 go_upto_region 2 with fail
 refine wp_region_lit ?_
 refine ldZ 28 (.tmp 1) rfl 3 rfl 0 rfl _ (At.self _) Try.underlying28 rfl (szX hlc) hS ?_
 refine caZ ?_
 intro kQ hkQ
 refine (unhide HR1 _ hS.K.1).mono ?_
 rintro e w6 ⟨v9, rfl, hR9, hb1⟩
 obtain ⟨da, dc, rfl, hN9⟩ := hR9.nb'
 replace hS := hS.keepN14 hb1 hN9
 clear hR9 hN9
 refine hkQ _ _ ?_
 clear hkQ kQ hb1
 refine snZ5 ?_
 go_upto_region 3 with fail
 refine raZ2 ?_
 go_upto_region 4 with fail
 refine wp_region_lit ?_
 refine ldZ 28 (.tmp 1) rfl 3 rfl 0 rfl _ (At.self _) Try.underlying28 rfl (szX hlc) hS ?_
 refine vZ _ (ex_build 32 #[] rfl _ Try.bY0 rfl) ?_
 refine vZ _ (ex_build 79 #[] rfl _ Try.bV0 rfl) ?_
 refine stZ1 ?_
 refine srZ 28 (.tmp 2) (.tmp 28) rfl 2 rfl 0 rfl _ _ (pt_x x0_len hlc) rfl (szX hlc) (by assumption) hS ?_
 clear hS
 intro w7 hS
 refine srZ 32 (.tmp 3) (.tmp 29) rfl 1 rfl 0 rfl _ _ (pt_y 0 0 0 false 0 0 0 false) rfl (szY _ _ _ _) (one_y _ _ _ _) hS ?_
 clear hS
 intro w8 hS
 refine srZ 79 (.tmp 4) (.tmp 30) rfl 0 rfl 0 rfl _ _ (pt_v 0 nil1 nil1 0 0 nil1 nil1 0) rfl (szV _ _ _ _) (one_rv _ _ _ _ _ _ _ _) hS ?_
 clear hS
 intro w9 hS
 refine snZ1 ?_
 go_wp2_with fail
 refine bodyPost_ret (res_ccct rfl hS 2 rfl rfl Try.underlying28 rfl (szX hlc) 1 rfl rfl Try.underlying32 rfl (szY _ _ _ _) 0 rfl rfl Try.underlying79 rfl (szV _ _ _ _) (.int .i64 121) rfl ) rfl ?_
 exact QO.err (unhide HJ) (by decide) hS.K.1.1.on hS.bel
theorem qopen_blank (O : Nat → Prop) (s : FlS) (c : List Value) (w : World) (h : Rq O s c w) (hu : s.down = false) (hz : s.pickC.e = 0) :
  Calls Try.prog 38 #[aV c] w (QO O s w) := by
 have hlc := h.ln
 have hoc := h.one
 have ho := h.ok
 have hS : Hs17 w [] (fun w9 => Rq O s c w9) w := Hs17.begin w _ (fun w' ho => h.old ho)
 obtain ⟨b0, hb0⟩ : ∃ b0, b0 = s.bk 0 := ⟨_, rfl⟩
 obtain ⟨b1, hb1⟩ : ∃ b1, b1 = s.bk 1 := ⟨_, rfl⟩
 have HR0 : Hid (∀ w1, Rq O s c w1 → Calls Try.prog 32 #[aV c, .int .i64 0] w1 fun e w' => ∃ v, e = .returned (.tuple #[v, .int .i64 0]) ∧ Rw w1.heap.size v b0 w' ∧ Below w1.heap.size w1 w') := hide (fun w1 h1 => by rw [hb0]; exact q_read0 h1 0 (ref_up hu (.inl rfl)))
 have HR1 : Hid (∀ w1, Rq O s c w1 → Calls Try.prog 32 #[aV c, .int .i64 1] w1 fun e w' => ∃ v, e = .returned (.tuple #[v, .int .i64 0]) ∧ Rw w1.heap.size v b1 w' ∧ Below w1.heap.size w1 w') := hide (fun w1 h1 => by rw [hb1]; exact q_read0 h1 1 (ref_up hu (.inr rfl)))
 have hl0 : b0.length ≤ 1048576 := by rw [hb0]; exact Nat.le_trans ho.z0 ho.mx
 have hl1 : b1.length ≤ 1048576 := by rw [hb1]; exact Nat.le_trans ho.z1 ho.mx
 have HJ : Hid (s.jopen = (s, 140)) := hide (by unfold FlS.jopen; rw [if_neg (by rw [hu]; simp), if_pos hz])
 have hzz : (look b0).e = 0 ∧ (look b1).e = 0 := by
  unfold FlS.pickC at hz
  rw [hb0, hb1]
  show (look s.l0).e = 0 ∧ (look s.l1).e = 0
  split at hz <;> omega
 have HN0 : Hid (∀ (a : Option Addr) (c : Nat) w1, Sl.Ok w1 ⟨a, b0.length, c, b0⟩ → Calls Try.prog 62 #[.slice a b0.length c] w1 fun e w' => ∃ (ep : Int) (sn : Sl) (q : Sx Sl) (g : Int), e = .returned (aV (kkC false ep (Sl.v sn) (Sx.v q) g b0.length)) ∧ Below w1.heap.size w1 w') := hide (fun a c w1 h1 => qlook_no ⟨a, b0.length, c, b0⟩ w1 h1 hl0 hzz.1)
 have HN1 : Hid (∀ (a : Option Addr) (c : Nat) w1, Sl.Ok w1 ⟨a, b1.length, c, b1⟩ → Calls Try.prog 62 #[.slice a b1.length c] w1 fun e w' => ∃ (ep : Int) (sn : Sl) (q : Sx Sl) (g : Int), e = .returned (aV (kkC false ep (Sl.v sn) (Sx.v q) g b1.length)) ∧ Below w1.heap.size w1 w') := hide (fun a c w1 h1 => qlook_no ⟨a, b1.length, c, b1⟩ w1 h1 hl1 hzz.2)
 clear h hu ho hb0 hb1 hl0 hl1 hzz hz
 go_enter Try.func38, Try.ntmps38
 go_upto_region 0 with fail
 refine wp_region_lit ?_
 refine bxZ 28 (.tmp 0) rfl c rfl hS ?_
 clear hS
 intro g1 w1 hS
 refine alZ 28 rfl _ Try.jX hS ?_
 clear hS
 intro g2 w2 hS
 refine alZ 32 rfl _ Try.jY hS ?_
 clear hS
 intro g3 w3 hS
 refine alZ 79 rfl _ Try.jV hS ?_
 clear hS
 intro g4 w4 hS
 refine snZ1 ?_
 go_upto_region 1 with fail
 refine wp_region_lit ?_
 refine ldZ 28 (.tmp 1) rfl 3 rfl 0 rfl _ (At.self _) Try.underlying28 rfl (szX hlc) hS ?_
 refine caZ ?_
 intro kQ hkQ
 refine (unhide HR0 _ hS.K).mono ?_
 rintro e w5 ⟨v9, rfl, hR9, hb1⟩
 obtain ⟨ba, bc, rfl, hN9⟩ := hR9.nb'
 replace hS := hS.keepN14 hb1 hN9
 clear hR9 hN9
 refine hkQ _ _ ?_
 clear hkQ kQ hb1
 refine snZ5 ?_
 go_upto_region 2 with fail
 refine wp_region_lit ?_
 refine ldZ 28 (.tmp 1) rfl 3 rfl 0 rfl _ (At.self _) Try.underlying28 rfl (szX hlc) hS ?_
 refine caZ ?_
 intro kQ hkQ
 refine (unhide HR1 _ hS.K.1).mono ?_
 rintro e w6 ⟨v9, rfl, hR9, hb1⟩
 obtain ⟨da, dc, rfl, hN9⟩ := hR9.nb'
 replace hS := hS.keepN14 hb1 hN9
 clear hR9 hN9
 refine hkQ _ _ ?_
 clear hkQ kQ hb1
 refine snZ5 ?_
 go_upto_region 3 with fail
 refine raZ2 ?_
 go_upto_region 5 with fail
 refine rgZ1 ?_
 refine caZ ?_
 intro kQ hkQ
 refine (unhide HN0 _ _ _ hS.K.1.2.ok).mono ?_
 rintro e w7 ⟨ep0, ⟨ta0, tn0, tc0, tl0⟩, ⟨ua0, un0, uc0, ux0⟩, gg0, rfl, hb1⟩
 replace hS := hS.later hb1
 refine hkQ _ _ ?_
 clear hkQ kQ hb1
 simp only [Sl.v, Sx.v]
 refine alZ 124 rfl _ Try.jK hS ?_
 clear hS
 intro g8 w8 hS
 refine srZ 124 (.tmp 10) (.tmp 33) rfl 0 rfl 0 rfl _ _ (pt_k false 0 nil1 nil1 0 0 false ep0 (.slice ta0 tn0 tc0) (.slice ua0 un0 uc0) gg0 (b0.length : Int)) rfl (szK _ _ _ _ _ _) (one_k _ _ _ _ _ _ _ _ _ _) hS ?_
 clear hS
 intro w9 hS
 refine wpList_nil ?_
 go_upto_region 6 with fail
 refine rgZ1 ?_
 refine caZ ?_
 intro kQ hkQ
 refine (unhide HN1 _ _ _ hS.K.2.ok).mono ?_
 rintro e w10 ⟨ep1, ⟨ta1, tn1, tc1, tl1⟩, ⟨ua1, un1, uc1, ux1⟩, gg1, rfl, hb1⟩
 replace hS := hS.later hb1
 refine hkQ _ _ ?_
 clear hkQ kQ hb1
 simp only [Sl.v, Sx.v]
 refine alZ 124 rfl _ Try.jK hS ?_
 clear hS
 intro g11 w11 hS
 refine srZ 124 (.tmp 11) (.tmp 35) rfl 0 rfl 0 rfl _ _ (pt_k false 0 nil1 nil1 0 0 false ep1 (.slice ta1 tn1 tc1) (.slice ua1 un1 uc1) gg1 (b1.length : Int)) rfl (szK _ _ _ _ _ _) (one_k _ _ _ _ _ _ _ _ _ _) hS ?_
 clear hS
 intro w12 hS
 refine wpList_nil ?_
 go_upto_region 7 with fail
 refine rgZ1 ?_
 refine l1Z 4 (.tmp 36) rfl 1 rfl 0 rfl _ (at_k0 false ep0 (.slice ta0 tn0 tc0) (.slice ua0 un0 uc0) gg0 (b0.length : Int)) Try.underlying4 rfl hS ?_
 refine stZ3 ?_
 refine l1Z 4 (.tmp 40) rfl 0 rfl 0 rfl _ (at_k0 false ep1 (.slice ta1 tn1 tc1) (.slice ua1 un1 uc1) gg1 (b1.length : Int)) Try.underlying4 rfl hS ?_
 refine snZ2 ?_
 go_upto_region 8 with fail
 refine wp_region_lit ?_
 refine ldZ 28 (.tmp 1) rfl 5 rfl 0 rfl _ (At.self _) Try.underlying28 rfl (szX hlc) hS ?_
 refine vZ _ (ex_build 32 #[] rfl _ Try.bY0 rfl) ?_
 refine vZ _ (ex_build 79 #[] rfl _ Try.bV0 rfl) ?_
 refine srZ 28 (.tmp 2) (.tmp 44) rfl 4 rfl 0 rfl _ _ (pt_x x0_len hlc) rfl (szX hlc) (by assumption) hS ?_
 clear hS
 intro w13 hS
 refine srZ 32 (.tmp 3) (.tmp 45) rfl 3 rfl 0 rfl _ _ (pt_y 0 0 0 false 0 0 0 false) rfl (szY _ _ _ _) (one_y _ _ _ _) hS ?_
 clear hS
 intro w14 hS
 refine srZ 79 (.tmp 4) (.tmp 46) rfl 2 rfl 0 rfl _ _ (pt_v 0 nil1 nil1 0 0 nil1 nil1 0) rfl (szV _ _ _ _) (one_rv _ _ _ _ _ _ _ _) hS ?_
 clear hS
 intro w15 hS
 refine snZ1 ?_
 go_wp2_with fail
 refine bodyPost_ret (res_ccct rfl hS 4 rfl rfl Try.underlying28 rfl (szX hlc) 3 rfl rfl Try.underlying32 rfl (szY _ _ _ _) 2 rfl rfl Try.underlying79 rfl (szV _ _ _ _) (.int .i64 140) rfl ) rfl ?_
 exact QO.err (unhide HJ) (by decide) hS.K.1.1.on hS.bel
end Go.Proofs.Ytppmgfkpfamabaa
