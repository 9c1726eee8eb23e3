import Derived.Test.YtaidncibndcbfaaDoorQPaoM
import Derived.Deep.DeepCutAuto
set_option linter.unusedVariables false
namespace Go.Proofs.YtaidncibndcbfaaDoor
open Go.RowKit

theorem range_ltB {w : World} {b i : Nat} {x : List Int} (h : w.rangeAt b i (U8 x)) (hx : Hs x) : b < w.heap.size := by
  obtain ⟨z, hz⟩ : ∃ z, (U8 x)[0]? = some z := ⟨_, List.getElem?_eq_getElem (by simp [hx.len])⟩
  exact cell_lt (h 0 z hz)
theorem ZP64 : (#[.int .u8 0, .int .u8 0, .int .u8 0, .int .u8 0, .int .u8 0, .int .u8 0, .int .u8 0, .int .u8 0, .int .u8 0, .int .u8 0, .int .u8 0, .int .u8 0, .int .u8 0, .int .u8 0, .int .u8 0, .int .u8 0, .int .u8 0, .int .u8 0, .int .u8 0, .int .u8 0, .int .u8 0, .int .u8 0, .int .u8 0, .int .u8 0, .int .u8 0, .int .u8 0, .int .u8 0, .int .u8 0, .int .u8 0, .int .u8 0, .int .u8 0, .int .u8 0, .int .u8 0, .int .u8 0, .int .u8 0, .int .u8 0, .int .u8 0, .int .u8 0, .int .u8 0, .int .u8 0, .int .u8 0, .int .u8 0, .int .u8 0, .int .u8 0, .int .u8 0, .int .u8 0, .int .u8 0, .int .u8 0, .int .u8 0, .int .u8 0, .int .u8 0, .int .u8 0, .int .u8 0, .int .u8 0, .int .u8 0, .int .u8 0, .int .u8 0, .int .u8 0, .int .u8 0, .int .u8 0, .int .u8 0, .int .u8 0, .int .u8 0, .int .u8 0] : Array Value) = (U8 zeroP).toArray := by rfl
def zsOf (l : List (List Int × List Int)) : List (List Int) := l.map fun p => p.1 ++ p.2
theorem msides_lo {j m : Nat} (h : 2 ≤ m) (hj : j < halfN m) : msides j m = false :: msides j (halfN m) := by rw [msides_eq, if_neg (by omega), if_pos hj]
theorem msides_hi {j m : Nat} (h : 2 ≤ m) (hj : ¬ j < halfN m) : msides j m = true :: msides (j - halfN m) (m - halfN m) := by rw [msides_eq, if_neg (by omega), if_neg hj]
theorem msides_one {j m : Nat} (h : m ≤ 1) : msides j m = [] := by rw [msides_eq, if_pos h]

theorem POwn.mono {w : World} {base base' : Nat} {v : Value} {zs : List (List Int)} (h : POwn w base v zs) (hb : base' ≤ base) : POwn w base' v zs := ⟨own_monoG h.own hb, h.len⟩
/-- the state of climbed's second loop -/
structure CS (w0 : World) (b14 PB gb : Nat) (ss : List Bool) (pv : Value) (zs : List (List Int)) (h : List Int) (w : World) : Prop where
  po : POwn w PB pv zs
  ar : Arr w b14 27 (U8 h)
  sb : ∀ t q, ss[t]? = some q → w.cell? ⟨gb, t, none⟩ = some (.bool q) ∧ gb < b14
  lt : b14 < PB ∧ w0.heap.size ≤ b14
  gl : 3 < w0.heap.size ∧ 0 < w0.heap.size
  ld : Ld w
  be : Below w0.heap.size w0 w
  bs : PB ≤ w.heap.size
theorem CS.later {w0 : World} {b14 PB gb : Nat} {ss : List Bool} {pv : Value} {zs : List (List Int)} {h : List Int} {w w' : World} (H : CS w0 b14 PB gb ss pv zs h w) (hb : Below w.heap.size w w') : CS w0 b14 PB gb ss pv zs h w' :=
  ⟨H.po.later hb, H.ar.later hb, fun t q hq => ⟨(hb.cell (p := ⟨gb, t, none⟩) (cell_lt (H.sb t q hq).1)).trans (H.sb t q hq).1, (H.sb t q hq).2⟩, H.lt, H.gl, H.ld.later hb, bnext H.be H.be.size hb, Nat.le_trans H.bs hb.size⟩
theorem CS.pushed {w0 : World} {b14 PB gb : Nat} {ss : List Bool} {pv nv : Value} {zs zs' : List (List Int)} {h : List Int} {w w' : World} (H : CS w0 b14 PB gb ss pv zs h w) (hP : POwn w' PB nv zs') (hg : w.grownBy w' pv.ownBlock) : CS w0 b14 PB gb ss nv zs' h w' := by
  have hb := own_belG (row := none) H.po.own hg (Nat.le_refl _) H.bs
  have h1 := H.lt
  have h2 := H.gl
  exact ⟨hP, H.ar.below hb h1.1, fun t q hq => ⟨(hb.cell (p := ⟨gb, t, none⟩) (show gb < PB by have := (H.sb t q hq).2; omega)).trans (H.sb t q hq).1, (H.sb t q hq).2⟩, h1, h2, ⟨H.ld.1.below hb (by omega), H.ld.2.below16 hb (by omega)⟩, H.be.trans (hb.mono (by omega)), Nat.le_trans H.bs hg.size⟩
theorem CS.stored {w0 : World} {b14 PB gb : Nat} {ss : List Bool} {pv : Value} {zs : List (List Int)} {h : List Int} {w : World} (H : CS w0 b14 PB gb ss pv zs h w) (h' : List Int) : CS w0 b14 PB gb ss pv zs h' (w.setRow b14 (U8 h').toArray) := by
  have h1 := H.lt
  have h2 := H.gl
  have hbt : But b14 w (w.setRow b14 (U8 h').toArray) := (But.refl b14 w).setRow _
  refine ⟨⟨⟨H.po.own.1, ?_⟩, H.po.len⟩, H.ar.setRow (U8 h'), fun t q hq => ⟨(hbt.cell (p := ⟨gb, t, none⟩) (cell_lt (H.sb t q hq).1) (show gb ≠ b14 by have := (H.sb t q hq).2; omega)).trans (H.sb t q hq).1, (H.sb t q hq).2⟩, h1, h2, ⟨H.ld.1.but hbt (by omega), H.ld.2.but hbt (by omega)⟩, below_setRow H.be h1.2 _, by simpa using H.bs⟩
  rcases H.po.own.2 with h3 | ⟨g, cap, cur, h4, h5, h6, h7⟩
  · exact .inl h3
  · have hgl : g < w.heap.size := (H.po.own.lt g (by rw [h4]; rfl)).2
    exact .inr ⟨g, cap, cur, h4, h5, (hbt.block g hgl (by omega)).trans h6, h7⟩
theorem Arr.grown {w w' : World} {g : Nat} {ty : TypeId} {l : List Value} {row : Option Nat} (h : Arr w g ty l) (hg : w.grownBy w' row) (hne : ∀ k, row = some k → k < g) : Arr w' g ty l :=
  (hg.block g h.lt (fun e => by have := hne g e.symm; omega)).trans h
theorem arr_left {w : World} {g : Nat} {ty : TypeId} {l r : List Int} (h : Arr w g ty (U8 (l ++ r))) : w.rangeAt g 0 (U8 l) := fun j v hv => by
  rw [Nat.zero_add, h.cell, U8_append, List.getElem?_append_left (List.getElem?_eq_some_iff.1 hv).1]; exact hv
theorem arr_right {w : World} {g : Nat} {ty : TypeId} {l r : List Int} (h : Arr w g ty (U8 (l ++ r))) (hl : l.length = 32) : w.rangeAt g 32 (U8 r) := fun j v hv => by
  rw [h.cell, U8_append, List.getElem?_append_right (by rw [U8_length, hl]; omega), U8_length, hl, Nat.add_sub_cancel_left]; exact hv
theorem wpList_pushP2 {ops : Array Oper} {rest : List Oper} {o : Oper} {a : Act} {w : World} {Q : Exit → Act → World → Prop} (hgd : o.guard = none) (s x : Operand)
    (ho : o.op = .call { callee := .builtin .append, args := #[s, x], argTypes := #[39, 39] }) (base : Nat) (v : Value) (zs : List (List Int)) (z : List Int) (g c : Nat) (hown : POwn w base v zs) (hz : z.length = 64) (hA : Arr w g 44 (U8 z)) (hs : a.eval s = v) (hx : a.eval x = .slice (some ⟨g, 0, none⟩) 1 c)
    (hn : zs.length ≤ 1000000) (hbase : base ≤ w.heap.size) (h : ∀ v' w', POwn w' base v' (zs ++ [z]) → w.grownBy w' v.ownBlock → wpList Tryd.prog ops Q rest (a.put o.dst v') w') :
    wpList Tryd.prog ops Q (o :: rest) a w := by
  obtain ⟨i, hi, hzz, hsz, hby⟩ := infoP
  refine wpList_appG hgd s x 39 ho base 44 i _ 64 64 Tryd.underlying39 hi hzz hsz hby (by simp [Value.cells, zeroP_len]) (by omega) v zs.length (flH zs) hs hown.own ⟨g, 0, none⟩ 1 c (U8 z) hx (by simp [hz]) (fun j u hu => by rw [addr_add, Nat.zero_add, hA.cell]; exact hu) (U8_one z) (by unfold maxLen; omega) (by omega) hbase (fun v' w' h1 h2 => h v' w' ⟨?_, fun y hy => ?_⟩ h2)
  · rw [flH_app, flH_one, List.length_append]; exact h1
  · rcases List.mem_append.1 hy with hy | hy
    · exact hown.len y hy
    · simp at hy; subst hy; exact hz

theorem lay_step (ss : List Bool) (x : List Int) (ls : List (List Int)) (N k : Nat) (hl : ss.length = N) (hls : ls.length = N) (hk : k < N) (q : Bool) (y h : List Int) (zs : List (List Int)) (hq : ss[N - 1 - k]? = some q) (hy : ls[k]? = some y)
    (hzs : zs = zsOf (mlay ndZ (ss.reverse.take k) x (ls.take k))) (hh : h = mends ndZ x (mlay ndZ (ss.reverse.take k) x (ls.take k))) :
    zs ++ [(mpair q h y).1 ++ (mpair q h y).2] = zsOf (mlay ndZ (ss.reverse.take (k + 1)) x (ls.take (k + 1))) ∧ ndZ (mpair q h y).1 (mpair q h y).2 = mends ndZ x (mlay ndZ (ss.reverse.take (k + 1)) x (ls.take (k + 1))) := by
  have e1 : ss.reverse.take (k + 1) = ss.reverse.take k ++ [q] := by
    rw [List.take_add_one, List.getElem?_reverse (by omega), hl, hq]; rfl
  have e2 : ls.take (k + 1) = ls.take k ++ [y] := by rw [List.take_add_one, hy]; rfl
  rw [e1, e2, mlay_snoc ndZ _ _ _ _ _ (by simp; omega), mends_snoc, ← hh]
  subst hzs
  simp [zsOf]
theorem sides_row {w : World} {B L bc : Nat} {ba : Option Addr} {ss : List Bool} (hO : w.ownsRow B 4 1 (.slice ba L bc) L (bL ss)) (hL : L = ss.length) : ∃ gb, ∀ t q, ss[t]? = some q → ba = some ⟨gb, 0, none⟩ ∧ w.cell? ⟨gb, t, none⟩ = some (.bool q) ∧ gb < w.heap.size ∧ L ≤ bc := by
  rcases hO.2 with ⟨h9, h8⟩ | ⟨g, cap, cur, h9, hb, hg, hle, hmx, hsz, ht⟩
  · exact ⟨0, fun t q hq => absurd (List.getElem?_eq_some_iff.1 hq).1 (by omega)⟩
  · injection h9 with e1 e2 e3
    have hlt : g < w.heap.size := by
      by_cases hlt : g < w.heap.size
      · exact hlt
      · rw [Array.getElem?_eq_none (by omega)] at hg; cases hg
    refine ⟨g, fun t q hq => ⟨e1, ?_, hlt, by omega⟩⟩
    have hc : (bL ss)[t]? = some (.bool q) := by simp [bL, hq]
    rw [← ht] at hc
    rw [cell_of_row w g t _ _ _ hg]
    rw [List.getElem?_take] at hc
    split at hc
    · simpa using hc
    · cases hc

set_option maxHeartbeats 8000000 in
set_option maxRecDepth 100000 in
theorem climbed_any (x : List Int) (i n : Nat) (s : Hl) (w : World) (hx : Hs x) (hs : s.Ok w) (hL : Ld w) (h1 : 1 ≤ n) (hn : n ≤ 65536) (hi : i < n) (hsn : s.n ≤ 200) :
    Calls Tryd.prog 19 #[hV x, .int .i64 i, .int .i64 n, s.v] w fun e w' => ∃ v, e = .returned (.tuple #[v, .bool (decide (s.ls.length = mplen i n))]) ∧ (s.ls.length = mplen i n → POwn w' w.heap.size v (zsOf (mlay ndZ (msides i n).reverse x s.ls))) ∧ Below w.heap.size w w' := by
  obtain ⟨W, hW, hH, hb⟩ := hold1 w x
  have HW := hide hW
  clear hW
  obtain ⟨B, hB⟩ : ∃ B, B = W.heap.size := ⟨_, rfl⟩
  have HBs : Hid (B ≤ W.heap.size ∧ w.heap.size < B) := hide ⟨by omega, by rw [hB]; exact (hH.at_ (g := w.heap.size) (l := x) (by simp)).lt⟩
  have hLW := hL.later hb
  have HGl := hide (show 3 < w.heap.size ∧ 0 < w.heap.size from hL.lt16)
  have HS := hide hs
  have HLEN := hide hs.len
  have HSN := hide hsn
  have HLE := hide hs.le
  have hst : Hid ([] ++ msides i n = msides i n ∧ 1 ≤ n ∧ n ≤ 65536 ∧ i < n ∧ W.ownsRow B 4 1 (.slice none 0 0) ([] : List Bool).length (bL []) ∧ Hold [(w.heap.size, x)] W ∧ Below w.heap.size w W ∧ Ld W ∧ B ≤ W.heap.size) := hide ⟨rfl, h1, hn, hi, ⟨rfl, .inl ⟨rfl, rfl⟩⟩, hH, hb, hLW, (unhide HBs).1⟩
  have HIN := hide (And.intro h1 (And.intro hn hi))
  clear hs hL hsn h1 hn hi hH hb hLW hB
  obtain ⟨s0, hs0⟩ : ∃ s0, s0 = s := ⟨_, rfl⟩
  rw [← hs0] at HS HLEN HSN HLE
  have HS0 := hide hs0
  rw [show s.ls = s0.ls by rw [hs0]]
  obtain ⟨a, N, c, ls⟩ := s
  have HN0 : Hid (s0.n = N) := hide (by rw [hs0])
  clear hs0
  simp only [Hl.v]
  unfold hV
  go_enter Tryd.func19, Tryd.ntmps19
  go_upto_region 1 with fail
  rw [show Value.agg (U8 x).toArray = hV x from rfl, ← unhide HW]
  go_wp2_with fail
  go_loopw [1, 10, 11] (fun iv sv nv wr => ∃ (j m : Nat) (ss : List Bool), iv = .int .i64 j ∧ nv = .int .i64 m ∧ Hid (ss ++ msides j m = msides i n ∧ 1 ≤ m ∧ m ≤ 65536 ∧ j < m ∧ wr.ownsRow B 4 1 sv ss.length (bL ss) ∧ Hold [(w.heap.size, x)] wr ∧ Below w.heap.size w wr ∧ Ld wr ∧ B ≤ wr.heap.size)) (fun _ _ nv _ => (intOf nv).toNat)
  case atStart => exact ⟨i, n, [], rfl, rfl, hst⟩
  case round =>
    clear hst
    obtain ⟨j, m, ss, rfl, rfl, HI⟩ := hrel
    obtain ⟨hms, hm1, hm2, hjm, hO, hH, hb, hL, hbs⟩ := unhide HI
    clear HI
    have hssl : ss.length ≤ 65536 := by
      have h9 := congrArg List.length hms
      simp only [List.length_append, msides_len] at h9
      have := mplen_le i n
      have := unhide HIN
      omega
    by_cases hgo : 1 < m
    · have g1 : (1 : Int) < (m : Int) := by omega
      have g2 : decide (1 < m) = true := decide_eq_true hgo
      have hsp := halfN_spec m (by omega)
      have hf := half_any m wr (by omega) hm2
      obtain ⟨k, hk⟩ : ∃ k, k = halfN m := ⟨_, rfl⟩
      rw [← hk] at hf hsp
      by_cases hjk : j < k
      · have g3 : decide ((k : Int) ≤ (j : Int)) = false := decide_eq_false (by omega)
        have g4 : decide (k ≤ j) = false := decide_eq_false (by omega)
        have HM : Hid ((ss ++ [false]) ++ msides j k = msides i n ∧ 1 ≤ k ∧ k ≤ 65536 ∧ j < k ∧ k < m) := hide ⟨by rw [← hms, msides_lo (j := j) (m := m) (by omega) (by rw [← hk]; exact hjk), ← hk]; simp, by omega, by omega, hjk, by omega⟩
        have HST := hide (And.intro hH (And.intro hb (And.intro hL hbs)))
        clear hms hm1 hm2 hjm hgo hsp hk hjk hH hb hL
        go_wp2_with (first
          | (go_at_call 16; refine hf.mono ?_; rintro e wa ⟨rfl, hwa⟩; obtain rfl := hwa.symm)
          | (refine wpList_pushB rfl (.tmp 22) (.tmp 26) rfl B _ ss false hO rfl rfl _ rfl (by omega) hbs ?_; intro v2 w2 hO2 hb2; have HO2 := hide hO2; have HB2 := hide hb2; clear hO2 hb2))
        go_roundw
        case rel =>
          obtain ⟨h1, h2, h3, h4⟩ := unhide HST
          obtain ⟨q1, q2, q3, q4, q5⟩ := unhide HM
          have hb2 := unhide HB2
          have hBw := unhide HBs
          refine ⟨j, k, ss ++ [false], rfl, rfl, hide ⟨q1, q2, q3, q4, unhide HO2, Hold.below h1 hb2 (by simp; omega), h2.trans (hb2.mono (by omega)), ?_, Nat.le_trans h4 hb2.size⟩⟩
          exact ⟨h3.1.below hb2 (by have := unhide HGl; omega), h3.2.below16 hb2 (by have := unhide HGl; omega)⟩
        case measure => have h9 := unhide HM; simp [intOf]; omega
      · have g3 : (k : Int) ≤ (j : Int) := by omega
        have g4 : decide (k ≤ j) = true := decide_eq_true (by omega)
        have w1 : IntKind.i64.wrap ((j : Int) - (k : Int)) = ((j - k : Nat) : Int) := by rw [IntKind.wrap_i64]; omega
        have w2 : IntKind.i64.wrap ((m : Int) - (k : Int)) = ((m - k : Nat) : Int) := by clear w1; rw [IntKind.wrap_i64]; omega
        obtain ⟨j2, hj2⟩ : ∃ j2, j2 = j - k := ⟨_, rfl⟩
        obtain ⟨m2, hm3⟩ : ∃ m2, m2 = m - k := ⟨_, rfl⟩
        have HM : Hid ((ss ++ [true]) ++ msides j2 m2 = msides i n ∧ 1 ≤ m2 ∧ m2 ≤ 65536 ∧ j2 < m2 ∧ m2 < m) := hide ⟨by rw [← hms, msides_hi (j := j) (m := m) (by omega) (by rw [← hk]; exact hjk), ← hk, hj2, hm3]; simp, by omega, by omega, by omega, by omega⟩
        rw [← hj2] at w1
        rw [← hm3] at w2
        have HST := hide (And.intro hH (And.intro hb (And.intro hL hbs)))
        clear hms hm1 hm2 hjm hgo hsp hk hjk hH hb hL hj2 hm3
        go_wp2_with (first
          | (go_at_call 16; refine hf.mono ?_; rintro e wa ⟨rfl, hwa⟩; obtain rfl := hwa.symm)
          | (refine wpList_pushB rfl (.tmp 22) (.tmp 26) rfl B _ ss true hO rfl rfl _ rfl (by omega) hbs ?_; intro v2 w2' hO2 hb2; have HO2 := hide hO2; have HB2 := hide hb2; clear hO2 hb2))
        go_roundw
        case rel =>
          obtain ⟨h1, h2, h3, h4⟩ := unhide HST
          obtain ⟨q1, q2, q3, q4, q5⟩ := unhide HM
          have hb2 := unhide HB2
          have hBw := unhide HBs
          refine ⟨j2, m2, ss ++ [true], rfl, rfl, hide ⟨q1, q2, q3, q4, unhide HO2, Hold.below h1 hb2 (by simp; omega), h2.trans (hb2.mono (by omega)), ?_, Nat.le_trans h4 hb2.size⟩⟩
          exact ⟨h3.1.below hb2 (by have := unhide HGl; omega), h3.2.below16 hb2 (by have := unhide HGl; omega)⟩
        case measure => have h9 := unhide HM; simp [intOf]; omega
    · have hm0 : m = 1 := by omega
      subst hm0
      rw [msides_one (Nat.le_refl _), List.append_nil] at hms
      have hsl : ss.length = mplen i n := by rw [hms, msides_len]
      obtain ⟨ba, bc, hbv⟩ : ∃ ba bc, u10 = .slice ba ss.length bc := by
        rcases hO.2 with ⟨h9, h8⟩ | ⟨g, cap, cur, h9, -⟩
        · exact ⟨none, 0, by rw [h9, h8]⟩
        · exact ⟨_, cap, h9⟩
      subst hbv
      obtain ⟨L, hLe⟩ : ∃ L, L = ss.length := ⟨_, rfl⟩
      rw [← hLe] at hO ⊢
      have HLE2 := hide hLe
      have HLN : Hid (s0.ls.length = N) := hide (by rw [unhide HLEN, unhide HN0])
      by_cases heq : L = N
      · have hd : decide (s0.ls.length = mplen i n) = true := decide_eq_true (by rw [unhide HLN, ← heq, hLe, hsl])
        have HD := hide hd
        have HEqn : Hid (ss = msides i n ∧ s0.ls.length = N ∧ L = ss.length ∧ L = N) := hide ⟨hms, unhide HLN, hLe, heq⟩
        have g3 : ((L : Int) != (N : Int)) = false := by simp; omega
        have g4 : decide (L = N) = true := decide_eq_true heq
        obtain ⟨gb, hgb⟩ := sides_row hO hLe
        have HGB := hide hgb
        clear hms hm1 hm2 hjm hgo hO hsl hLe heq hd hbs hssl hgb
        go_upto_region 14 with (first
          | refine wpList_load_hs hH (.tmp 4) rfl (by kernel_rfl) w.heap.size x (by simp) hx.len rfl ?_
          | (refine wpList_store_al rfl (.tmp 14) (.tmp 43) rfl hH x hx.len _ rfl rfl rfl rfl ?_; intro w2 hH2 hb2; have HWS := hide hb2.size; have hsz2 : wr.heap.size ≤ w2.heap.size := hb2.size))
        obtain ⟨b14, hb14⟩ : ∃ b14, b14 = wr.heap.size := ⟨_, rfl⟩
        obtain ⟨PB, hPB⟩ : ∃ PB, PB = w2.heap.size := ⟨_, rfl⟩
        have hC0 : CS w b14 PB gb ss (.slice none 0 0) [] x w2 := ⟨POwn.nil _ _, hH2.at_ (by rw [hb14]; simp), fun t q hq => ⟨(hb2.cell (p := ⟨gb, t, none⟩) (cell_lt ((unhide HGB) t q hq).2.1)).trans ((unhide HGB) t q hq).2.1, by rw [hb14]; exact ((unhide HGB) t q hq).2.2.1⟩, ⟨by rw [hPB]; have h9 : Arr w2 b14 27 (U8 x) := hH2.at_ (by rw [hb14]; simp); exact h9.lt, by rw [hb14]; exact hb.size⟩, unhide HGl, hL.later hb2, bnext hb hb.size hb2, by omega⟩
        have HC0 : Hid (0 ≤ N ∧ ([] = zsOf (mlay ndZ (ss.reverse.take 0) x (s0.ls.take 0)) ∧ x = mends ndZ x (mlay ndZ (ss.reverse.take 0) x (s0.ls.take 0))) ∧ Hs x ∧ CS w b14 PB gb ss (.slice none 0 0) [] x w2) := hide ⟨Nat.zero_le _, ⟨rfl, rfl⟩, hx, hC0⟩
        have HGB2 : Hid (∀ t q, ss[t]? = some q → ba = some ⟨gb, 0, none⟩ ∧ L ≤ bc) := hide fun t q hq => ⟨((unhide HGB) t q hq).1, ((unhide HGB) t q hq).2.2.2⟩
        rw [← hb14]
        clear hC0 hH hH2 hb hb2 hL HGB HWS hsz2 hPB hb14
        go_wp2_with fail
        go_loopw [13, 15] (fun pv kv wq => ∃ (k : Nat) (zs : List (List Int)) (h : List Int), kv = .int .i64 k ∧ Hid (k ≤ N ∧ (zs = zsOf (mlay ndZ (ss.reverse.take k) x (s0.ls.take k)) ∧ h = mends ndZ x (mlay ndZ (ss.reverse.take k) x (s0.ls.take k))) ∧ Hs h ∧ CS w b14 PB gb ss pv zs h wq)) (fun _ kv _ => N - (intOf kv).toNat)
        case atStart => exact ⟨0, [], x, rfl, HC0⟩
        case round =>
          clear HC0
          obtain ⟨k, zs, h, rfl, HI2⟩ := hrel
          obtain ⟨hkN, ⟨hzs, hh⟩, hhl, hS⟩ := unhide HI2
          clear HI2
          by_cases hk : k < N
          · have hsl := unhide HEqn
            have hNb := unhide HSN
            rw [unhide HN0] at hNb
            obtain ⟨y, hy⟩ : ∃ y, s0.ls[k]? = some y := ⟨_, List.getElem?_eq_getElem (by omega)⟩
            obtain ⟨b, off, hba, hblt, hr, hyl⟩ := (unhide HS).at_ hy
            have ea : a = some ⟨b, off, none⟩ := by rw [← hba, unhide HS0]
            subst ea
            have hY := rangeAt_later hr hS.be hblt
            obtain ⟨t, ht⟩ : ∃ t, t = N - 1 - k := ⟨_, rfl⟩
            obtain ⟨q, hq⟩ : ∃ q, ss[t]? = some q := ⟨_, List.getElem?_eq_getElem (by omega)⟩
            obtain ⟨hba2, hLbc⟩ := (unhide HGB2) t q hq
            subst hba2
            obtain ⟨k1, hk1⟩ : ∃ k1, k1 = k + 1 := ⟨_, rfl⟩
            have HK1 : Hid (k1 = k + 1 ∧ k1 ≤ N) := hide ⟨hk1, by omega⟩
            have HKL : Hid (zs.length ≤ 1000000 ∧ k < N ∧ k ≤ 200) := hide ⟨by rw [hzs]; simp only [zsOf, List.length_map]; rw [mlay_len ndZ _ _ _ (by simp; omega)]; simp; omega, hk, by omega⟩
            have hst := lay_step ss x s0.ls N k (by omega) hsl.2.1 hk q y h zs (by rw [← ht]; exact hq) hy hzs hh
            rw [← hk1] at hst
            have HQ := hide hq
            have HTL : Hid (t < L ∧ t < N) := hide ⟨by omega, by omega⟩
            have i1 : (k : Int) < (N : Int) := by omega
            have w1 : IntKind.i64.wrap ((L : Int) - 1) = ((L - 1 : Nat) : Int) := by rw [IntKind.wrap_i64]; omega
            have w2' : IntKind.i64.wrap (((L - 1 : Nat) : Int) - (k : Int)) = ((t : Nat) : Int) := by clear w1; rw [IntKind.wrap_i64]; omega
            have w3 : IntKind.i64.wrap ((k : Int) + 1) = (k1 : Int) := by clear w1 w2'; rw [IntKind.wrap_i64]; omega
            have i2 : t < L := by omega
            have hNc : N ≤ c := by have := unhide HLE; rw [unhide HN0, unhide HS0] at this; exact this
            clear hsl hNb hy hba hblt hr hzs hh hkN hq ht hk1
            have hz64 : zeroP.length = 64 := zeroP_len
            cases q
            · have HSN2 : Hid (zs ++ [h ++ y] = zsOf (mlay ndZ (ss.reverse.take k1) x (s0.ls.take k1)) ∧ ndZ h y = mends ndZ x (mlay ndZ (ss.reverse.take k1) x (s0.ls.take k1))) := hide hst
              clear hst
              go_upto_region 17 with fail
              refine wp_region_noPanic ?_
              replace hS := hS.later (drew_below _)
              refine wp_region_held_drew (S := fun w9 => w9.rangeAt b (off + k * 32) (U8 y) ∧ Arr w9 b14 27 (U8 h)) (by kernel_rfl) ⟨rangeAt_later hY (drew_below _) (range_ltB hY hyl), hS.ar⟩ (fun hHeld => ?_)
              generalize World.drew _ = v1 at hHeld hS ⊢
              refine wpAnyH_take (i := 0) (oi := _) (v := hV h) rfl (by kernel_rfl) (by kernel_rfl) (by kernel_rfl) (fun _ _ _ h => h) (yieldsIf_load_mid (by rfl) _ _ rfl _ _ rfl (U8 h) _ (fun _ h9 => arr_range h9.2) Tryd.underlying27 rfl (hz_of' hhl.len)) hHeld ?_
              simp [Act.put]
              refine wpAnyH_take (i := 1) (oi := _) (v := .slice (some ⟨b, off, none⟩) N c) rfl (by kernel_rfl) (by kernel_rfl) (by kernel_rfl) (fun _ _ _ h => h) (Or.inl ⟨by rfl, fun w hSw => by go_simp⟩) hHeld ?_
              simp [Act.put]
              refine wpAnyH_take (i := 2) (oi := _) (v := .int .i64 (k : Int)) rfl (by kernel_rfl) (by kernel_rfl) (by kernel_rfl) (fun _ _ _ h => h) (Or.inl ⟨by rfl, fun w hSw => by go_simp⟩) hHeld ?_
              simp [Act.put]
              refine wpAnyH_take (i := 3) (oi := _) (v := .pointer (some ⟨b, off + k * 32, none⟩)) rfl (by kernel_rfl) (by kernel_rfl) (by kernel_rfl) (fun _ _ _ h => h) (Or.inl ⟨by rfl, fun w hSw => by go_simp⟩) hHeld ?_
              simp [Act.put]
              refine wpAnyH_take (i := 4) (oi := _) (v := hV y) rfl (by kernel_rfl) (by kernel_rfl) (by kernel_rfl) (fun _ _ _ h => h) (yieldsIf_load_mid (by rfl) _ _ rfl _ _ rfl (U8 y) _ (fun _ h9 => h9.1) Tryd.underlying27 rfl (hz_of' hyl.len)) hHeld ?_
              simp [Act.put]
              refine wpAnyH_take (i := 5) (oi := _) (v := hV (h ++ y)) rfl (by kernel_rfl) (by kernel_rfl) (by kernel_rfl) (fun _ _ _ h => h) (yields_pair (by kernel_rfl) (.tmp 50) (.tmp 54) rfl h y hhl.len hyl.len rfl rfl) hHeld ?_
              simp [Act.put]
              refine wpAnyH_ready (rs := [6]) (by kernel_rfl) (by simp) ?_
              refine AllReadyH.cons rfl (fun K hKK => ?_) AllReadyH.nil
              go_simp
              rw [ZP64]
              obtain ⟨W7, hW7, hZ, hb7, -⟩ := arr1 v1 44 (U8 zeroP)
              rw [← hW7]
              clear hW7
              obtain ⟨g6, hg6⟩ : ∃ g6, g6 = v1.heap.size := ⟨_, rfl⟩
              have HG6 : Hid (g6 = v1.heap.size ∧ b < g6 ∧ b14 < g6) := hide ⟨hg6, by rw [hg6]; exact range_ltB hHeld.1 hyl, by rw [hg6]; exact hHeld.2.lt⟩
              rw [← hg6] at hZ ⊢
              refine hKK.out _ _ ⟨rangeAt_later hHeld.1 hb7 (range_ltB hHeld.1 hyl), hHeld.2.later hb7⟩ (fun hHeld => ?_)
              clear hKK K hg6
              refine wpAnyH_ready (rs := [7]) (by kernel_rfl) (by simp) ?_
              refine AllReadyH.cons rfl (fun K hKK => ?_) AllReadyH.nil
              refine step_store_row rfl 44 (.tmp 16) (.tmp 55) rfl g6 (U8 (h ++ y)).toArray rfl rfl 44 _ hZ (hzP (by simp [hhl.len, hyl.len])) (by simp [zeroP_len, hhl.len, hyl.len]) (all_one (U8_one _)) ?_
              simp only [Act.put]
              have hZ2 := hZ.setRow (U8 (h ++ y))
              have hbV : Below v1.heap.size v1 (W7.setRow g6 (U8 (h ++ y)).toArray) := below_setRow hb7 (by rw [(unhide HG6).1]; exact Nat.le_refl _) _
              refine hKK.out _ _ ⟨rangeAt_setRow hHeld.1 (by have := unhide HG6; omega) _, hHeld.2.setRow_ne _ (by have := unhide HG6; omega)⟩ (fun hHeld => ?_)
              clear hKK K hZ hb7
              generalize World.setRow _ _ _ = v2 at hHeld hZ2 hbV ⊢
              refine wpAnyH_done (by kernel_rfl) ?_ _
              unfold NoPanic
              have hown6 : ∀ g, u13.ownBlock = some g → g < g6 := fun g hg => by rw [(unhide HG6).1]; exact (hS.po.own.lt g hg).2
              replace hS := hS.later hbV
              have hsd := (hS.sb t _ (unhide HQ)).1
              clear hHeld hbV
              go_wp2_with (first
                | refine wpList_load_row rfl 44 (.tmp 16) rfl g6 rfl 44 _ (0, 0) _ hZ2 Tryd.underlying44 rfl (hzP (by simp [hhl.len, hyl.len])) ?_
                | (refine wpList_bsP rfl (.tmp 71) rfl (h ++ y) (by simp [hhl.len, hyl.len]) rfl ?_; intro wg hAg hbg; have hS2 := hS.later hbg; have hZ3 := hZ2.later hbg; clear hbg)
                | (refine wpList_pushP2 rfl (.tmp 70) (.tmp 72) rfl PB _ _ (h ++ y) _ 1 hS2.po (by simp [hhl.len, hyl.len]) hAg rfl rfl (by have := unhide HKL; omega) hS2.bs ?_; intro v5 w5 hP5 hg5; have hZ5 := Arr.grown hZ3 hg5 hown6; have hS5 := hS2.pushed hP5 hg5; clear hP5 hg5 hS2 hAg hZ3)
                | refine wpList_load_hm (.tmp 74) rfl (by kernel_rfl) g6 0 h hhl.len (arr_left hZ5) rfl ?_
                | refine wpList_load_hm (.tmp 76) rfl (by kernel_rfl) g6 32 y hyl.len (arr_right hZ5 hhl.len) rfl ?_
                | (go_at_call 17; refine (node_any h y _ hhl hyl hS5.ld).mono ?_; rintro e w6 ⟨rfl, hb6⟩; have hS6 := hS5.later hb6; clear hb6)
                | (refine wpList_store_row rfl 27 (.tmp 14) (.tmp 78) rfl b14 (U8 (ndZ h y)).toArray rfl rfl 27 _ hS6.ar (hz_of (ndZ_hs _ _).len) (ho_of hhl.len (ndZ_hs _ _).len) (all_one (U8_one _)) ?_; have HS7 := hide (hS6.stored (ndZ h y)); clear hS6 hS5))
              go_roundw
              case rel =>
                exact ⟨k1, _, ndZ h y, rfl, hide ⟨(unhide HK1).2, unhide HSN2, ndZ_hs _ _, unhide HS7⟩⟩
              case measure => have h9 := unhide HK1; have h8 := unhide HKL; simp [intOf]; omega

            · have HSN2 : Hid (zs ++ [y ++ h] = zsOf (mlay ndZ (ss.reverse.take k1) x (s0.ls.take k1)) ∧ ndZ y h = mends ndZ x (mlay ndZ (ss.reverse.take k1) x (s0.ls.take k1))) := hide hst
              clear hst
              go_upto_region 17 with fail
              refine wp_region_noPanic ?_
              replace hS := hS.later (drew_below _)
              refine wp_region_held_drew (S := fun w9 => w9.rangeAt b (off + k * 32) (U8 y) ∧ Arr w9 b14 27 (U8 h)) (by kernel_rfl) ⟨rangeAt_later hY (drew_below _) (range_ltB hY hyl), hS.ar⟩ (fun hHeld => ?_)
              generalize World.drew _ = v1 at hHeld hS ⊢
              refine wpAnyH_take (i := 0) (oi := _) (v := hV h) rfl (by kernel_rfl) (by kernel_rfl) (by kernel_rfl) (fun _ _ _ h => h) (yieldsIf_load_mid (by rfl) _ _ rfl _ _ rfl (U8 h) _ (fun _ h9 => arr_range h9.2) Tryd.underlying27 rfl (hz_of' hhl.len)) hHeld ?_
              simp [Act.put]
              refine wpAnyH_take (i := 1) (oi := _) (v := .slice (some ⟨b, off, none⟩) N c) rfl (by kernel_rfl) (by kernel_rfl) (by kernel_rfl) (fun _ _ _ h => h) (Or.inl ⟨by rfl, fun w hSw => by go_simp⟩) hHeld ?_
              simp [Act.put]
              refine wpAnyH_take (i := 2) (oi := _) (v := .int .i64 (k : Int)) rfl (by kernel_rfl) (by kernel_rfl) (by kernel_rfl) (fun _ _ _ h => h) (Or.inl ⟨by rfl, fun w hSw => by go_simp⟩) hHeld ?_
              simp [Act.put]
              refine wpAnyH_take (i := 3) (oi := _) (v := .pointer (some ⟨b, off + k * 32, none⟩)) rfl (by kernel_rfl) (by kernel_rfl) (by kernel_rfl) (fun _ _ _ h => h) (Or.inl ⟨by rfl, fun w hSw => by go_simp⟩) hHeld ?_
              simp [Act.put]
              refine wpAnyH_take (i := 4) (oi := _) (v := hV y) rfl (by kernel_rfl) (by kernel_rfl) (by kernel_rfl) (fun _ _ _ h => h) (yieldsIf_load_mid (by rfl) _ _ rfl _ _ rfl (U8 y) _ (fun _ h9 => h9.1) Tryd.underlying27 rfl (hz_of' hyl.len)) hHeld ?_
              simp [Act.put]
              refine wpAnyH_take (i := 5) (oi := _) (v := hV (h ++ y)) rfl (by kernel_rfl) (by kernel_rfl) (by kernel_rfl) (fun _ _ _ h => h) (yields_pair (by kernel_rfl) (.tmp 50) (.tmp 54) rfl h y hhl.len hyl.len rfl rfl) hHeld ?_
              simp [Act.put]
              refine wpAnyH_ready (rs := [6]) (by kernel_rfl) (by simp) ?_
              refine AllReadyH.cons rfl (fun K hKK => ?_) AllReadyH.nil
              go_simp
              rw [ZP64]
              obtain ⟨W7, hW7, hZ, hb7, -⟩ := arr1 v1 44 (U8 zeroP)
              rw [← hW7]
              clear hW7
              obtain ⟨g6, hg6⟩ : ∃ g6, g6 = v1.heap.size := ⟨_, rfl⟩
              have HG6 : Hid (g6 = v1.heap.size ∧ b < g6 ∧ b14 < g6) := hide ⟨hg6, by rw [hg6]; exact range_ltB hHeld.1 hyl, by rw [hg6]; exact hHeld.2.lt⟩
              rw [← hg6] at hZ ⊢
              refine hKK.out _ _ ⟨rangeAt_later hHeld.1 hb7 (range_ltB hHeld.1 hyl), hHeld.2.later hb7⟩ (fun hHeld => ?_)
              clear hKK K hg6
              refine wpAnyH_ready (rs := [7]) (by kernel_rfl) (by simp) ?_
              refine AllReadyH.cons rfl (fun K hKK => ?_) AllReadyH.nil
              refine step_store_row rfl 44 (.tmp 16) (.tmp 55) rfl g6 (U8 (h ++ y)).toArray rfl rfl 44 _ hZ (hzP (by simp [hhl.len, hyl.len])) (by simp [zeroP_len, hhl.len, hyl.len]) (all_one (U8_one _)) ?_
              simp only [Act.put]
              have hZ2 := hZ.setRow (U8 (h ++ y))
              have hbV : Below v1.heap.size v1 (W7.setRow g6 (U8 (h ++ y)).toArray) := below_setRow hb7 (by rw [(unhide HG6).1]; exact Nat.le_refl _) _
              refine hKK.out _ _ ⟨rangeAt_setRow hHeld.1 (by have := unhide HG6; omega) _, hHeld.2.setRow_ne _ (by have := unhide HG6; omega)⟩ (fun hHeld => ?_)
              clear hKK K hZ hb7
              generalize World.setRow _ _ _ = v2 at hHeld hZ2 hbV ⊢
              refine wpAnyH_done (by kernel_rfl) ?_ _
              unfold NoPanic
              have hsd0 := ((hS.later hbV).sb t _ (unhide HQ)).1
              go_upto_region 19 with fail
              clear hsd0
              refine wp_region_noPanic ?_
              replace hZ2 := hZ2.later (drew_below _)
              replace hbV := bnext hbV hbV.size (drew_below _)
              refine wp_region_held_drew (S := fun w9 => w9.rangeAt b (off + k * 32) (U8 y) ∧ Arr w9 b14 27 (U8 h)) (by kernel_rfl) ⟨rangeAt_later hHeld.1 (drew_below _) (range_ltB hHeld.1 hyl), hHeld.2.later (drew_below _)⟩ (fun hHeld => ?_)
              generalize World.drew _ = v3 at hHeld hZ2 hbV ⊢
              refine wpAnyH_take (i := 0) (oi := _) (v := .slice (some ⟨b, off, none⟩) N c) rfl (by kernel_rfl) (by kernel_rfl) (by kernel_rfl) (fun _ _ _ h => h) (Or.inl ⟨by rfl, fun w hSw => by go_simp⟩) hHeld ?_
              simp [Act.put]
              refine wpAnyH_take (i := 1) (oi := _) (v := .int .i64 (k : Int)) rfl (by kernel_rfl) (by kernel_rfl) (by kernel_rfl) (fun _ _ _ h => h) (Or.inl ⟨by rfl, fun w hSw => by go_simp⟩) hHeld ?_
              simp [Act.put]
              refine wpAnyH_take (i := 2) (oi := _) (v := .pointer (some ⟨b, off + k * 32, none⟩)) rfl (by kernel_rfl) (by kernel_rfl) (by kernel_rfl) (fun _ _ _ h => h) (Or.inl ⟨by rfl, fun w hSw => by go_simp⟩) hHeld ?_
              simp [Act.put]
              refine wpAnyH_take (i := 3) (oi := _) (v := hV y) rfl (by kernel_rfl) (by kernel_rfl) (by kernel_rfl) (fun _ _ _ h => h) (yieldsIf_load_mid (by rfl) _ _ rfl _ _ rfl (U8 y) _ (fun _ h9 => h9.1) Tryd.underlying27 rfl (hz_of' hyl.len)) hHeld ?_
              simp [Act.put]
              refine wpAnyH_take (i := 4) (oi := _) (v := hV h) rfl (by kernel_rfl) (by kernel_rfl) (by kernel_rfl) (fun _ _ _ h => h) (yieldsIf_load_mid (by rfl) _ _ rfl _ _ rfl (U8 h) _ (fun _ h9 => arr_range h9.2) Tryd.underlying27 rfl (hz_of' hhl.len)) hHeld ?_
              simp [Act.put]
              refine wpAnyH_take (i := 5) (oi := _) (v := hV (y ++ h)) rfl (by kernel_rfl) (by kernel_rfl) (by kernel_rfl) (fun _ _ _ h => h) (yields_pair (by kernel_rfl) (.tmp 67) (.tmp 68) rfl y h hyl.len hhl.len rfl rfl) hHeld ?_
              simp [Act.put]
              refine wpAnyH_ready (rs := [6]) (by kernel_rfl) (by simp) ?_
              refine AllReadyH.cons rfl (fun K hKK => ?_) AllReadyH.nil
              refine step_store_row rfl 44 (.tmp 16) (.tmp 69) rfl g6 (U8 (y ++ h)).toArray rfl rfl 44 _ hZ2 (hzP (by simp [hhl.len, hyl.len])) (by simp [hhl.len, hyl.len]) (all_one (U8_one _)) ?_
              simp only [Act.put]
              have hZ3 := hZ2.setRow (U8 (y ++ h))
              replace hbV := below_setRow hbV (show v1.heap.size ≤ g6 by rw [(unhide HG6).1]; exact Nat.le_refl _) (U8 (y ++ h)).toArray
              refine hKK.out _ _ ⟨rangeAt_setRow hHeld.1 (by have := unhide HG6; omega) _, hHeld.2.setRow_ne _ (by have := unhide HG6; omega)⟩ (fun hHeld => ?_)
              clear hKK K hZ2
              have hZ2 := hZ3
              clear hZ3
              generalize World.setRow _ _ _ = v4 at hHeld hZ2 hbV ⊢
              refine wpAnyH_done (by kernel_rfl) ?_ _
              unfold NoPanic
              have hown6 : ∀ g, u13.ownBlock = some g → g < g6 := fun g hg => by rw [(unhide HG6).1]; exact (hS.po.own.lt g hg).2
              replace hS := hS.later hbV
              have hsd := (hS.sb t _ (unhide HQ)).1
              clear hHeld hbV
              go_wp2_with (first
                | refine wpList_load_row rfl 44 (.tmp 16) rfl g6 rfl 44 _ (0, 0) _ hZ2 Tryd.underlying44 rfl (hzP (by simp [hhl.len, hyl.len])) ?_
                | (refine wpList_bsP rfl (.tmp 71) rfl (y ++ h) (by simp [hhl.len, hyl.len]) rfl ?_; intro wg hAg hbg; have hS2 := hS.later hbg; have hZ3 := hZ2.later hbg; clear hbg)
                | (refine wpList_pushP2 rfl (.tmp 70) (.tmp 72) rfl PB _ _ (y ++ h) _ 1 hS2.po (by simp [hhl.len, hyl.len]) hAg rfl rfl (by have := unhide HKL; omega) hS2.bs ?_; intro v5 w5 hP5 hg5; have hZ5 := Arr.grown hZ3 hg5 hown6; have hS5 := hS2.pushed hP5 hg5; clear hP5 hg5 hS2 hAg hZ3)
                | refine wpList_load_hm (.tmp 74) rfl (by kernel_rfl) g6 0 y hyl.len (arr_left hZ5) rfl ?_
                | refine wpList_load_hm (.tmp 76) rfl (by kernel_rfl) g6 32 h hhl.len (arr_right hZ5 hyl.len) rfl ?_
                | (go_at_call 17; refine (node_any y h _ hyl hhl hS5.ld).mono ?_; rintro e w6 ⟨rfl, hb6⟩; have hS6 := hS5.later hb6; clear hb6)
                | (refine wpList_store_row rfl 27 (.tmp 14) (.tmp 78) rfl b14 (U8 (ndZ y h)).toArray rfl rfl 27 _ hS6.ar (hz_of (ndZ_hs _ _).len) (ho_of hhl.len (ndZ_hs _ _).len) (all_one (U8_one _)) ?_; have HS7 := hide (hS6.stored (ndZ y h)); clear hS6 hS5))
              go_roundw
              case rel =>
                exact ⟨k1, _, ndZ y h, rfl, hide ⟨(unhide HK1).2, unhide HSN2, ndZ_hs _ _, unhide HS7⟩⟩
              case measure => have h9 := unhide HK1; have h8 := unhide HKL; simp [intOf]; omega

          · have hek : k = N := by omega
            have i1 : decide ((k : Int) < (N : Int)) = false := decide_eq_false (by omega)
            have i2 : decide (k < N) = false := decide_eq_false (by omega)
            have hsl := unhide HEqn
            have HP : Hid (POwn wr w.heap.size u13 (zsOf (mlay ndZ (msides i n).reverse x s0.ls))) := hide (by
              have h9 := hS.po.mono (Nat.le_of_lt (Nat.lt_of_le_of_lt hS.lt.2 hS.lt.1))
              rw [hzs, hek, List.take_of_length_le (by simp; omega), List.take_of_length_le (by omega), hsl.1] at h9
              exact h9)
            have HBE := hide hS.be
            clear hsl hzs hh hkN hek hS hk
            go_wp2
            refine bodyPost_ret (results_tmp2 rfl _ _ _) rfl ?_
            exact ⟨_, by rw [unhide HD]; rfl, fun _ => unhide HP, unhide HBE⟩
      · have hd : decide (s0.ls.length = mplen i n) = false := decide_eq_false (by rw [unhide HLN]; omega)
        have HNe : Hid (¬ s0.ls.length = mplen i n) := hide (of_decide_eq_false hd)
        have HD := hide hd
        have g3 : ((L : Int) != (N : Int)) = true := by simp; omega
        have g4 : decide (L = N) = false := decide_eq_false heq
        clear hms hm1 hm2 hjm hgo hO hH hL hsl hLe heq hd hbs hssl
        go_wp2
        refine bodyPost_ret (results_tmp2 rfl _ _ _) rfl ?_
        exact ⟨_, by rw [unhide HD]; rfl, fun h9 => absurd h9 (unhide HNe), hb⟩
end Go.Proofs.YtaidncibndcbfaaDoor
