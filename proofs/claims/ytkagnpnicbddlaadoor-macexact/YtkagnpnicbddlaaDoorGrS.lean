import Derived.Test.YtkagnpnicbddlaaDoorAppT
import Derived.Test.YtkagnpnicbddlaaDoorSameW
import Derived.Test.YtkagnpnicbddlaaDoorGrK
import Derived.Test.YtkagnpnicbddlaaDoorExpS
import Derived.Deep.QuietTactic
import Derived.BigQuiet
namespace Go.Proofs.YtkagnpnicbddlaaDoor
open Go.RowKit

theorem zeroCells_u8 (m : Nat) : Builtin.zeroCells (Value.int .u8 0).cells m = (U8 (List.replicate m 0)).toArray := by
  show Builtin.zeroCells #[Value.int .u8 0] m = _
  apply Array.ext'
  simp [Builtin.zeroCells, U8, Nat.mod_one, List.map_const']
/-- append of m bytes 0 to a list without spare room: new memory -/
theorem run_append_made {P : Program} (w : World) (t u ty e : TypeId) (i : TypeInfo) (ht : P.underlying t = some (.slice e)) (hu : P.underlying u = some (.int .i64)) (hi : P.info? e = some i) (hz : i.zero = some (.int .u8 0))
    (hsize : i.size = 1) (hby : i.bytes = 1) (s : Sl) (hs : s.Ok w) (m : Nat) (hm : 0 < m) (hmb : m ≤ 1000) (hfull : s.c = s.n) (hn : s.n ≤ 100000000) :
    ∃ cap W, (Builtin.append_ #[t, u] ty #[s.v, .int .i64 m]).run P w = .ok (.slice (some ⟨w.heap.size, 0, none⟩) (s.n + m) cap) W ∧ Sl.Ok W ⟨some ⟨w.heap.size, 0, none⟩, s.n + m, cap, s.l ++ List.replicate m 0⟩ ∧ Below w.heap.size w W ∧ w.heap.size < W.heap.size := by
  obtain ⟨a, n, c, l⟩ := s
  have hc : c = n := hfull
  subst hc
  have hl : l.length = c := hs.len
  have hn' : c ≤ 100000000 := hn
  have hr : ¬ (c + m ≤ c) := by omega
  have h63' : ¬ (9223372036854775807 < ((c : Int) + (m : Int))) := by omega
  have hfit : Builtin.nextslicecap (c + m) c * i.bytes ≤ 281474976710656 := by rw [hby]; exact growslice_fits (by omega) (by omega)
  have h48' : ¬ (281474976710656 < Builtin.nextslicecap (c + m) c * i.bytes) := by omega
  have hw : IntKind.i64.wrap (m : Int) = m := by rw [IntKind.wrap_i64]; omega
  have hm0 : ¬ ((m : Int) < 0) := by omega
  have hmx : max (m : Int) 0 = m := by omega
  have hmt : ((m : Int)).toNat = m := by omega
  have hm1 : ¬ (281474976710656 < (m : Int) * (i.bytes : Int)) := by rw [hby]; omega
  have hm2 : ¬ (m * i.size = 0) := by rw [hsize]; omega
  refine ⟨grownCap w (c + m) c e, w.drew.alloc (.cells ((U8 l).toArray ++ (U8 (List.replicate m 0)).toArray ++ Builtin.zeroCells (Value.int .u8 0).cells (grownCap w (c + m) c e - (c + m))) e), ?_, ?_, ⟨rfl, rfl, rfl, by simp, fun k hk => Below.heap_alloc w _ k hk⟩, by simp⟩
  · have hf : (Builtin.firstCells i.size c (.slice a c c)).run P w.drew = .ok (U8 l).toArray w.drew := by
      cases a with
      | none =>
        obtain ⟨h0, -⟩ := hs.nn rfl
        have h0' : c = 0 := h0
        subst h0'
        have : l = [] := List.eq_nil_of_length_eq_zero hl
        subst this
        simp [Builtin.firstCells, U8]
      | some b =>
        exact run_firstCells_some (P := P) w.drew i.size c b c c (U8 l) (by rw [hsize]; simp [hl]) (by simpa using hs.cells b rfl)
    simp only [Sl.v]
    simp [Builtin.append_, run_underlying ht, run_underlying hu, sizeOf, typeInfo, zeroValue, hi, hz, asInt, asIntOf, hw, hmx, hmt, hm0, hm1, hm2, hr, h63', h48', Question.forced, hf, newRow, grownCap, zeroCells_u8]
  · refine ⟨by simp [hl], grownCap_ge _ _ _ _, grownCap_le_maxLen _ _ _ _ (by unfold maxLen; omega), (fun h => by cases h), hs.isB.append (fun x hx => by have := List.eq_of_mem_replicate hx; subst this; omega), fun _ => ⟨w.heap.size, 0, rfl, by simp, fun k hk => ?_⟩⟩
    have hrow := heap_alloc_last w.drew (.cells ((U8 l).toArray ++ (U8 (List.replicate m 0)).toArray ++ Builtin.zeroCells (Value.int .u8 0).cells (grownCap w (c + m) c e - (c + m))) e)
    rw [Nat.zero_add, cell_of_row _ w.heap.size k _ _ _ hrow, ← U8_at (l ++ List.replicate m 0) k hk, U8_append]
    have hk3 : k < ((U8 l).toArray ++ (U8 (List.replicate m 0)).toArray).size := by simpa using hk
    rw [Array.getElem?_append_left hk3]
    simp
end Go.Proofs.YtkagnpnicbddlaaDoor

namespace Go.Proofs.YtkagnpnicbddlaaDoor
open Go.RowKit

def marks2 : List Int := List.replicate 200 90
theorem marks2_length : marks2.length = 200 := List.length_replicate
theorem marks2_isB : IsB marks2 := fun x hx => by have := List.eq_of_mem_replicate hx; omega

set_option maxHeartbeats 2000000 in
set_option maxRecDepth 100000 in
theorem roomy_any (d : Sl) (w : World) (hd : d.Ok w) (hdn : d.n ≤ 200000) :
    Calls Tryd.prog 30 #[d.v] w fun e w' => ∃ g c, e = .returned (.slice (some ⟨g, 0, none⟩) (d.n + 200) c) ∧ w'.ownsRow w.heap.size 5 1 (.slice (some ⟨g, 0, none⟩) (d.n + 200) c) (d.n + 200) (U8 (d.l ++ marks2)) ∧ Below w.heap.size w w' := by
  obtain ⟨i0, hii, hz0, hz1, hz2⟩ := info_parts Tryd.infoB
  obtain ⟨da, dn, dc, l⟩ := d
  have hdn' : dn ≤ 200000 := hdn
  clear hdn
  simp only [Sl.v]
  go_enter Tryd.func30, Tryd.ntmps30
  go_wp2_with (at_builtin; refine wpList_append_sl rfl (.tmp 5) (.tmp 6) 24 rfl w.heap.size 5 i0 (.int .u8 0) Tryd.underlying24 hii hz0 hz1 hz2 rfl (.slice none 0 0) 0 [] rfl (World.ownsRow_nil _ _ _ _) ⟨da, dn, dc, l⟩ hd rfl (by show 0 + dn ≤ _; omega) (Nat.le_refl _) ?_; intro v2 w2 hown2 hgrow2)
  have hb2 : Below w.heap.size w w2 := below_grown (Below.refl _ _) (Nat.le_refl _) (World.ownsRow_nil _ _ 5 _) (unhide hgrow2)
  have hown' : w2.ownsRow w.heap.size 5 1 v2 (dn + 0) (U8 (l ++ List.replicate 0 90)) := by
    have h := unhide hown2
    simpa [U8] using h
  clear hown2 hgrow2
  go_wp2_with fail
  go_loopw [3, 4] (fun v i wr => ∃ k : Nat, k ≤ 200 ∧ i = .int .i64 k ∧ wr.ownsRow w.heap.size 5 1 v (dn + k) (U8 (l ++ List.replicate k 90)) ∧ Below w.heap.size w wr) (fun _ i _ => 200 - (intOf i).toNat)
  case atStart => exact ⟨0, by omega, rfl, hown', hb2⟩
  case round =>
    clear hown' hb2
    obtain ⟨k, hk, rfl, hown, hbl⟩ := hrel
    by_cases hlt : k < 200
    · go_wp2_with (at_builtin; refine wpList_append_own _ rfl _ _ 24 rfl w.heap.size 5 i0 (.int .u8 0) 1 1 Tryd.underlying24 hii hz0 hz1 hz2 rfl (by decide) _ (dn + k) (U8 (l ++ List.replicate k 90)) rfl (hown.alloc _) ⟨wr.heap.size, 0, none⟩ 1 1 [.int .u8 90] rfl rfl (cell_one_new _ _ _) (one_byte _) (by unfold maxLen; omega) (by omega) (by have := hbl.size; simp; omega) ?_)
      intro v4 w4 hown4 hgrow4 _
      have hb4 := below_app hbl (Nat.le_refl _) hown hgrow4
      rw [U8_snoc2, List.append_assoc, ← List.replicate_succ'] at hown4
      clear hgrow4 hown hbl
      go_wp2
      go_roundw
      case rel => exact ⟨k + 1, by omega, by go_num, hown4, hb4⟩
      case measure => simp [intOf]; omega
    · have hk8 : k = 200 := by omega
      subst hk8
      obtain ⟨g, c, rfl, -, -⟩ := hown.form (by omega)
      go_wp2
      go_ret
      exact ⟨g, c, rfl, hown, hbl⟩

set_option maxHeartbeats 1000000 in
set_option maxRecDepth 100000 in
theorem still_any (f b : Sl) (w : World) (hf : f.Ok w) (hb : b.Ok w) (hl : f.l = b.l ++ marks2) (hbn : b.n ≤ 200000) :
    Calls Tryd.prog 37 #[f.v, b.v] w fun e w' => e = .returned (.bool true) ∧ Below w.heap.size w w' := by
  simp only [Sl.v]
  go_enter Tryd.func37, Tryd.ntmps37
  go_wp2_with fail
  refine (roomy_any b w hb hbn).mono ?_
  rintro e w1 ⟨g, c, rfl, hown, hb1⟩
  have hB : IsB (b.l ++ marks2) := IsB.app hb.isB marks2_isB
  have okr : Sl.Ok w1 ⟨some ⟨g, 0, none⟩, b.n + 200, c, b.l ++ marks2⟩ := Sl.Ok.of_own hown hB
  have okf := hf.later hb1
  clear hown hB
  go_wp2_with fail
  have hfn : f.n ≤ 1099511627776 := by have h1 := hf.len; rw [hl, List.length_append, hb.len, marks2_length] at h1; omega
  refine (same_any f ⟨some ⟨g, 0, none⟩, b.n + 200, c, b.l ++ marks2⟩ w1 okf okr hl hfn).mono ?_
  rintro e w2 ⟨rfl, k, rfl⟩
  go_wp2
  go_ret
  exact ⟨rfl, below_drewN hb1 k⟩

/-- the first j bytes of the first n turned -/
def turnTo (l : List Int) (j : Nat) : List Int := xorC 5 (l.take j) ++ l.drop j
theorem turnTo_zero (l : List Int) : turnTo l 0 = l := by simp [turnTo, xorC]
@[simp] theorem turnTo_length (l : List Int) (j : Nat) : (turnTo l j).length = l.length := by simp [turnTo]; omega
theorem turnTo_at (l : List Int) (j : Nat) (h : j < l.length) : (turnTo l j).getD j 0 = l.getD j 0 := by
  unfold turnTo
  have hx : (xorC 5 (l.take j)).length = j := by simp; omega
  rw [List.getD_eq_getElem?_getD, List.getElem?_append_right (by omega), hx, Nat.sub_self, List.getD_eq_getElem?_getD, List.getElem?_drop]
  simp
theorem turnTo_set (l : List Int) (j : Nat) (h : j < l.length) : (turnTo l j).set j (bits .xor .u8 (l.getD j 0) 5) = turnTo l (j + 1) := by
  unfold turnTo
  have hx : (xorC 5 (l.take j)).length = j := by simp; omega
  rw [List.set_append_right _ _ (by omega), hx, Nat.sub_self, List.take_succ_eq_append_getElem h, List.drop_eq_getElem_cons h, getD_lt l j h]
  simp only [xorC, List.map_append, List.map_cons, List.map_nil, List.append_assoc, List.set_cons_zero, List.cons_append, List.nil_append]

set_option maxHeartbeats 2000000 in
set_option maxRecDepth 100000 in
theorem turn_any (g n m c c' base : Nat) (L : List Int) (w : World) (hown : w.ownsRow base 5 1 (.slice (some ⟨g, 0, none⟩) m c) m (U8 L)) (hnm : n ≤ m) (hm : m ≤ 1000000) :
    Calls Tryd.prog 38 #[.slice (some ⟨g, 0, none⟩) n c'] w fun e w' => e = .returned (.tuple #[]) ∧ w'.ownsRow base 5 1 (.slice (some ⟨g, 0, none⟩) m c) m (U8 (turnTo L n)) ∧ But g w w' := by
  have hL : L.length = m := by have := hown.1; simpa using this
  have HL := hide hL
  clear hL
  go_enter Tryd.func38, Tryd.ntmps38
  go_wp2_with fail
  go_loopw [2] (fun i wr => ∃ j : Nat, j ≤ n ∧ i = .int .i64 j ∧ wr.ownsRow base 5 1 (.slice (some ⟨g, 0, none⟩) m c) m (U8 (turnTo L j)) ∧ But g w wr) (fun i _ => n - (intOf i).toNat)
  case atStart => exact ⟨0, by omega, rfl, by rw [turnTo_zero]; exact hown, But.refl _ _⟩
  case round =>
    clear hown
    obtain ⟨j, hj, rfl, hown, hbut⟩ := hrel
    by_cases hlt : j < n
    · have hjz : (j : Int) < (n : Int) := by omega
      have hjL : j < L.length := by rw [unhide HL]; omega
      have hfz := hown.frozenAt j
      have hcl := (hown.cellAt j (by omega)).trans (U8_at _ j (by simpa using hjL))
      rw [turnTo_at L j hjL] at hcl
      have hst := (hown.stored j (.int .u8 (bits .xor .u8 (L.getD j 0) 5))).1
      rw [U8_set, turnTo_set L j hjL] at hst
      have hbs := hbut.setCell j (.int .u8 (bits .xor .u8 (L.getD j 0) 5))
      generalize L.getD j 0 = x at hcl hst hbs
      have HST := hide hst
      have HBS := hide hbs
      clear hst hbs hown hbut
      go_wp2
      go_roundw
      case rel => exact ⟨j + 1, by omega, by go_num, unhide HST, unhide HBS⟩
      case measure => simp [intOf]; omega
    · have hjn : j = n := by omega
      subst hjn
      go_wp2
      go_end0
      exact ⟨rfl, hown, hbut⟩
end Go.Proofs.YtkagnpnicbddlaaDoor

namespace Go.Proofs.YtkagnpnicbddlaaDoor
open Go.RowKit

theorem Tryd.infoS : (Tryd.prog.info? 24).map (fun i => (i.zero, i.size, i.bytes)) = some (some (.slice none 0 0), 1, 24) := by kernel_rfl
/-- the slices of a list -/
def vsOf (P : Nat → Sl) (N : Nat) : List Value := (List.range N).map fun i => (P i).v
theorem vsOf_at (P : Nat → Sl) (N i : Nat) (h : i < N) : (vsOf P N)[i]? = some (P i).v := by simp [vsOf, h]
theorem vsOf_succ (P : Nat → Sl) (N : Nat) (s : Sl) : vsOf P N ++ [s.v] = vsOf (fun i => if i = N then s else P i) (N + 1) := by
  unfold vsOf
  rw [List.range_succ, List.map_append]
  congr 1
  · apply List.map_congr_left
    intro i hi
    have : i < N := List.mem_range.1 hi
    simp only [show i ≠ N by omega, if_false]
  · simp
@[simp] theorem vsOf_length (P : Nat → Sl) (N : Nat) : (vsOf P N).length = N := by simp [vsOf]
/-- a slice's bytes lie in none of that row's memory -/
def Sl.Off (s : Sl) (b : Option Nat) : Prop := 0 < s.l.length → ∀ x, s.a = some x → some x.block ≠ b
/-- an answer: a whole block of its own, or nothing -/
structure Ans (B : Nat) (s : Sl) (wr : World) : Prop where
  ok : s.Ok wr
  full : s.c = s.n
  row : 0 < s.l.length → ∃ g, s.a = some ⟨g, 0, none⟩ ∧ B ≤ g ∧ Arr wr g 5 (U8 s.l)
theorem Ans.later {B : Nat} {s : Sl} {wr w' : World} (h : Ans B s wr) (hb : Below wr.heap.size wr w') : Ans B s w' :=
  ⟨h.ok.later hb, h.full, fun hp => let ⟨g, h1, h2, h3⟩ := h.row hp; ⟨g, h1, h2, h3.later hb⟩⟩
/-- the shelf, with what was put on it -/
structure Shf (w : World) (gS N : Nat) (P Q : Nat → Sl) (lv wv : Value) (wr : World) : Prop where
  s : Arr wr gS 46 [lv, wv]
  ge : w.heap.size ≤ gS
  lrow : wr.ownsRow w.heap.size 24 1 lv N (vsOf P N)
  wrow : wr.ownsRow w.heap.size 24 1 wv N (vsOf Q N)
  apt : Apt lv wv
  p : ∀ i, i < N → Ans w.heap.size (P i) wr
  q : ∀ i, i < N → (Q i).Ok wr
  eq : ∀ i, i < N → (P i).l = (Q i).l
  sz : ∀ i, i < N → (P i).n ≤ 100000
  pp : ∀ i j, i < N → j < N → i ≠ j → 0 < (P j).l.length → ∀ y, (P j).a = some y → (P i).Off (some y.block)
  pq : ∀ i j, i < N → j < N → 0 < (P i).l.length → ∀ y, (P i).a = some y → (Q j).Off (some y.block)
  ql : ∀ i, i < N → (Q i).Off lv.ownBlock
  qw : ∀ i, i < N → (Q i).Off wv.ownBlock
  qs : ∀ i, i < N → (Q i).Off (some gS)
  bel : Below w.heap.size w wr
theorem Shf.later {w : World} {gS N : Nat} {P Q : Nat → Sl} {lv wv : Value} {wr w' : World} (h : Shf w gS N P Q lv wv wr) (hb : Below wr.heap.size wr w') : Shf w gS N P Q lv wv w' :=
  ⟨h.s.later hb, h.ge, own_later h.lrow hb, own_later h.wrow hb, h.apt, fun i hi => (h.p i hi).later hb, fun i hi => (h.q i hi).later hb, h.eq, h.sz, h.pp, h.pq, h.ql, h.qw, h.qs, h.bel.trans (hb.mono h.bel.size)⟩
/-- a row of slices lies in no block of another kind -/
theorem own_ne_arr {w : World} {base e n g : Nat} {ty : TypeId} {v : Value} {xs l : List Value} (h : w.ownsRow base e 1 v n xs) (ha : Arr w g ty l) (ht : ty ≠ e) : some g ≠ v.ownBlock := by
  intro e1
  rcases h.2 with ⟨rfl, -⟩ | ⟨g', cap, cur, rfl, -, hg, -⟩
  · simp [Value.ownBlock] at e1
  · simp only [Value.ownBlock, Option.some.injEq] at e1
    subst e1
    unfold Arr at ha
    rw [hg] at ha
    simp only [Option.some.injEq, Obj.cells.injEq] at ha
    exact ht ha.2.1.symm
end Go.Proofs.YtkagnpnicbddlaaDoor

namespace Go.Proofs.YtkagnpnicbddlaaDoor
open Go.RowKit

/-- all but three blocks are as they were -/
structure But3 (b1 b2 : Option Nat) (g : Nat) (w w' : World) : Prop where
  os : w'.os = w.os
  tape : w'.tape = w.tape
  output : w'.output = w.output
  size : w.heap.size ≤ w'.heap.size
  block : ∀ k, k < w.heap.size → some k ≠ b1 → some k ≠ b2 → k ≠ g → w'.heap[k]? = w.heap[k]?
theorem But3.ok {b1 b2 : Option Nat} {g : Nat} {w w' : World} (h : But3 b1 b2 g w w') {s : Sl} (hs : s.Ok w) (h1 : s.Off b1) (h2 : s.Off b2) (h3 : s.Off (some g)) : s.Ok w' := by
  refine ⟨hs.len, hs.le, hs.mx, hs.nn, hs.isB, fun hp => ?_⟩
  obtain ⟨b, off, ha, hlt, hc⟩ := hs.lies hp
  have e1 := h1 hp _ ha
  have e2 := h2 hp _ ha
  have e3 := h3 hp _ ha
  simp only [ne_eq, Option.some.injEq] at e3
  refine ⟨b, off, ha, Nat.lt_of_lt_of_le hlt h.size, fun i hi => ?_⟩
  rw [World.cell?_of_block (w := w) (a := ⟨b, off + i, none⟩) (h.block b hlt e1 e2 e3)]
  exact hc i hi
theorem But3.arr {b1 b2 : Option Nat} {g : Nat} {w w' : World} (h : But3 b1 b2 g w w') {k : Nat} {ty : TypeId} {l : List Value} (ha : Arr w k ty l) (h1 : some k ≠ b1) (h2 : some k ≠ b2) (h3 : k ≠ g) : Arr w' k ty l := (h.block k ha.lt h1 h2 h3).trans ha
theorem But3.below {b1 b2 : Option Nat} {g : Nat} {w w' : World} (h : But3 b1 b2 g w w') {B : Nat} (hB : B ≤ w.heap.size) (h1 : ∀ k, b1 = some k → B ≤ k) (h2 : ∀ k, b2 = some k → B ≤ k) (h3 : B ≤ g) : Below B w w' :=
  ⟨h.os, h.tape, h.output, h.size, fun k hk => h.block k (by omega) (fun e => by have := h1 k e.symm; omega) (fun e => by have := h2 k e.symm; omega) (by omega)⟩
theorem arr_ne_arr {w : World} {g g' : Nat} {ty ty' : TypeId} {l l' : List Value} (h : Arr w g ty l) (h' : Arr w g' ty' l') (ht : ty ≠ ty') : g ≠ g' := by
  intro e
  subst e
  unfold Arr at h h'
  rw [h] at h'
  simp only [Option.some.injEq, Obj.cells.injEq] at h'
  exact ht h'.2.1

/-- one more on the shelf -/
theorem Shf.put {w : World} {gS N : Nat} {P Q : Nat → Sl} {lv wv lv' wv' : Value} {w0 wr w5 : World} (h0 : Shf w gS N P Q lv wv w0) (hb0 : Below w0.heap.size w0 wr) (p q : Sl)
    (hp : Ans w.heap.size p wr) (hq : q.Ok wr) (he : p.l = q.l) (hn : p.n ≤ 100000) (hpF : ∀ x, p.a = some x → w0.heap.size ≤ x.block) (hqF : ∀ x, q.a = some x → w0.heap.size ≤ x.block)
    (hpq : 0 < p.l.length → ∀ y, p.a = some y → q.Off (some y.block))
    (hB : But3 lv.ownBlock wv.ownBlock gS wr w5) (hs : Arr w5 gS 46 [lv', wv'])
    (hl : w5.ownsRow w.heap.size 24 1 lv' (N + 1) (vsOf P N ++ [p.v])) (hw : w5.ownsRow w.heap.size 24 1 wv' (N + 1) (vsOf Q N ++ [q.v]))
    (hap : Apt lv' wv') (hlb : lv'.ownBlock = lv.ownBlock ∨ ∃ k, lv'.ownBlock = some k ∧ wr.heap.size ≤ k) (hwb : wv'.ownBlock = wv.ownBlock ∨ ∃ k, wv'.ownBlock = some k ∧ wr.heap.size ≤ k) :
    Shf w gS (N + 1) (fun i => if i = N then p else P i) (fun i => if i = N then q else Q i) lv' wv' w5 := by
  have h := h0.later hb0
  have ltl : ∀ k, lv.ownBlock = some k → k < w0.heap.size := fun k hk => (h0.lrow.lt k hk).2
  have ltw : ∀ k, wv.ownBlock = some k → k < w0.heap.size := fun k hk => (h0.wrow.lt k hk).2
  have lts : gS < w0.heap.size := h0.s.lt
  have fr : ∀ s : Sl, (∀ x, s.a = some x → w0.heap.size ≤ x.block) → s.Off lv.ownBlock ∧ s.Off wv.ownBlock ∧ s.Off (some gS) := fun s hF =>
    ⟨fun _ x hx e => by have := ltl _ e.symm; have := hF x hx; omega, fun _ x hx e => by have := ltw _ e.symm; have := hF x hx; omega, fun _ x hx e => by simp only [Option.some.injEq] at e; have := hF x hx; omega⟩
  have offl : ∀ s : Sl, s.Ok wr → s.Off lv.ownBlock → s.Off lv'.ownBlock := fun s hok ho => by
    rcases hlb with e | ⟨k, e, hk⟩
    · rw [e]; exact ho
    · rw [e]; intro hpos x hx e2; simp only [Option.some.injEq] at e2; have := hok.blk hpos x hx; omega
  have offw : ∀ s : Sl, s.Ok wr → s.Off wv.ownBlock → s.Off wv'.ownBlock := fun s hok ho => by
    rcases hwb with e | ⟨k, e, hk⟩
    · rw [e]; exact ho
    · rw [e]; intro hpos x hx e2; simp only [Option.some.injEq] at e2; have := hok.blk hpos x hx; omega
  have okP : ∀ s : Sl, Ans w.heap.size s wr → Ans w.heap.size s w5 := fun s hA => by
    have off : s.Off lv.ownBlock ∧ s.Off wv.ownBlock ∧ s.Off (some gS) := by
      refine ⟨fun hpos x hx e => ?_, fun hpos x hx e => ?_, fun hpos x hx e => ?_⟩ <;> obtain ⟨g, hg, -, ha⟩ := hA.row hpos <;> rw [hg] at hx <;> simp only [Option.some.injEq] at hx <;> subst hx
      · exact own_ne_arr h.lrow ha (by decide) e
      · exact own_ne_arr h.wrow ha (by decide) e
      · simp only [Option.some.injEq] at e
        exact arr_ne_arr ha h.s (by decide) e
    refine ⟨hB.ok hA.ok off.1 off.2.1 off.2.2, hA.full, fun hpos => ?_⟩
    obtain ⟨g, hg, hge, ha⟩ := hA.row hpos
    exact ⟨g, hg, hge, hB.arr ha (off.1 hpos _ hg) (off.2.1 hpos _ hg) (fun e => off.2.2 hpos _ hg (by rw [e]))⟩
  have frp := fr p hpF
  have frq := fr q hqF
  have oldP : ∀ i, i < N → 0 < (P i).l.length → ∀ x, (P i).a = some x → x.block < w0.heap.size := fun i hi hpos x hx => (h0.p i hi).ok.blk hpos x hx
  have oldQ : ∀ i, i < N → 0 < (Q i).l.length → ∀ x, (Q i).a = some x → x.block < w0.heap.size := fun i hi hpos x hx => (h0.q i hi).blk hpos x hx
  refine ⟨hs, h0.ge, by rw [← vsOf_succ]; exact hl, by rw [← vsOf_succ]; exact hw, hap, fun i hi => ?_, fun i hi => ?_, fun i hi => ?_, fun i hi => ?_, fun i j hi hj hij => ?_, fun i j hi hj => ?_, fun i hi => ?_, fun i hi => ?_, fun i hi => ?_, ?_⟩
  · by_cases e : i = N
    · simp only [e, if_true]; exact okP p hp
    · simp only [e, if_false]; exact okP _ (h.p i (by omega))
  · by_cases e : i = N
    · simp only [e, if_true]; exact hB.ok hq frq.1 frq.2.1 frq.2.2
    · simp only [e, if_false]; exact hB.ok (h.q i (by omega)) (h0.ql i (by omega)) (h0.qw i (by omega)) (h0.qs i (by omega))
  · by_cases e : i = N
    · simp only [e, if_true]; exact he
    · simp only [e, if_false]; exact h0.eq i (by omega)
  · by_cases e : i = N
    · simp only [e, if_true]; exact hn
    · simp only [e, if_false]; exact h0.sz i (by omega)
  · by_cases ej : j = N
    · have ei : i ≠ N := by omega
      simp only [ej, ei, if_true, if_false]
      intro hpos y hy hpos2 x hx e2
      simp only [Option.some.injEq] at e2
      have := oldP i (by omega) hpos2 x hx
      have := hpF y hy
      omega
    · by_cases ei : i = N
      · simp only [ei, ej, if_true, if_false]
        intro hpos y hy hpos2 x hx e2
        simp only [Option.some.injEq] at e2
        have := oldP j (by omega) hpos y hy
        have := hpF x hx
        omega
      · simp only [ei, ej, if_false]; exact h0.pp i j (by omega) (by omega) hij
  · by_cases ei : i = N
    · by_cases ej : j = N
      · simp only [ei, ej, if_true]; exact hpq
      · simp only [ei, ej, if_true, if_false]
        intro hpos y hy hpos2 x hx e2
        simp only [Option.some.injEq] at e2
        have := oldQ j (by omega) hpos2 x hx
        have := hpF y hy
        omega
    · by_cases ej : j = N
      · simp only [ei, ej, if_true, if_false]
        intro hpos y hy hpos2 x hx e2
        simp only [Option.some.injEq] at e2
        have := oldP i (by omega) hpos y hy
        have := hqF x hx
        omega
      · simp only [ei, ej, if_false]; exact h0.pq i j (by omega) (by omega)
  · by_cases e : i = N
    · simp only [e, if_true]; exact offl q hq frq.1
    · simp only [e, if_false]; exact offl _ (h.q i (by omega)) (h0.ql i (by omega))
  · by_cases e : i = N
    · simp only [e, if_true]; exact offw q hq frq.2.1
    · simp only [e, if_false]; exact offw _ (h.q i (by omega)) (h0.qw i (by omega))
  · by_cases e : i = N
    · simp only [e, if_true]; exact frq.2.2
    · simp only [e, if_false]; exact h0.qs i (by omega)
  · exact h.bel.trans (hB.below h.bel.size (fun k hk => (h0.lrow.lt k hk).1) (fun k hk => (h0.wrow.lt k hk).1) h0.ge)
end Go.Proofs.YtkagnpnicbddlaaDoor

namespace Go.Proofs.YtkagnpnicbddlaaDoor
open Go.RowKit

theorem slv_one (v : Value) (h : v.oneCell' = true) : ∀ u ∈ [v], u.oneCell' = true := by intro u hu; simp at hu; subst hu; exact h

set_option maxHeartbeats 4000000 in
set_option maxRecDepth 100000 in
theorem put_any {w : World} {gS N : Nat} {P Q : Nat → Sl} {lv wv : Value} {w0 wr : World} (h0 : Shf w gS N P Q lv wv w0) (hb0 : Below w0.heap.size w0 wr) (p q : Sl)
    (hp : Ans w.heap.size p wr) (hq : q.Ok wr) (he : p.l = q.l) (hn : p.n ≤ 100000) (hpF : ∀ x, p.a = some x → w0.heap.size ≤ x.block) (hqF : ∀ x, q.a = some x → w0.heap.size ≤ x.block)
    (hpq : 0 < p.l.length → ∀ y, p.a = some y → q.Off (some y.block)) (hN : N ≤ 4000000000000) :
    Calls Tryd.prog 35 #[.pointer (some ⟨gS, 0, none⟩), p.v, q.v] wr fun e w' => e = .returned (.bool true) ∧
      (∃ lv' wv', Shf w gS (N + 1) (fun i => if i = N then p else P i) (fun i => if i = N then q else Q i) lv' wv' w') ∧ But3 lv.ownBlock wv.ownBlock gS wr w' := by
  have h := h0.later hb0
  have H0 := hide h0
  have HB0 := hide hb0
  obtain ⟨i0, hii, hz0, hz1, hz2⟩ := info_parts Tryd.infoS
  have cl : wr.cell? ⟨gS, 0, none⟩ = some lv := by rw [h.s.cell]; rfl
  have cw : wr.cell? ⟨gS, 1, none⟩ = some wv := by rw [h.s.cell]; rfl
  have fz0 := h.s.frozen 0
  have fz1 := h.s.frozen 1
  have hlr := h.lrow
  have hwr := h.wrow
  have hsz := h.bel.size
  have HS := hide h.s
  have HAP := hide h.apt
  have HP := hide hp
  have HQ := hide hq
  clear h h0 hb0
  obtain ⟨pa, pn, pc, pl⟩ := p
  obtain ⟨qa, qn, qc, ql⟩ := q
  simp only [Sl.v]
  go_enter Tryd.func35, Tryd.ntmps35
  have hgl : some gS ≠ lv.ownBlock := own_ne_arr hlr (unhide HS) (by decide)
  have hgw : some gS ≠ wv.ownBlock := own_ne_arr hwr (unhide HS) (by decide)
  have hlt : gS < wr.heap.size := (unhide HS).lt
  go_wp2_with (first
    | (at_builtin
       refine wpList_append_own_at rfl (.tmp 11) (.tmp 13) 44 rfl w.heap.size 24 i0 (.slice none 0 0) 1 24 Tryd.underlying44 hii hz0 hz1 hz2 rfl (by decide) lv N (vsOf P N) rfl (hlr.alloc _) ⟨wr.heap.size, 0, none⟩ 1 1 [.slice pa pn pc] rfl rfl (cell_one_new _ _ _) (slv_one _ rfl) (by unfold maxLen; omega) (by omega) (by simp; omega) ?_
       intro lv1 w1 hl1 hg1 ha1
       obtain ⟨g1, c1, rfl, -, -⟩ := (unhide hl1).form (by omega)
       have hA1 : Arr w1 gS 46 [lv, wv] := ((unhide hg1).block gS (by simp; omega) hgl).trans ((unhide HS).alloc _)
       have k1 : w1.cell? ⟨gS, 0, none⟩ = some lv := by rw [hA1.cell]; rfl
       have f1 := hA1.frozen 0
       obtain ⟨W2, hW2⟩ : ∃ W2, W2 = w1.setCell ⟨gS, 0, none⟩ (.slice (some ⟨g1, 0, none⟩) (N + 1) c1) := ⟨_, rfl⟩
       have hA2 : Arr W2 gS 46 [.slice (some ⟨g1, 0, none⟩) (N + 1) c1, wv] := by rw [hW2]; exact hA1.set 0 _
       have hw2 : W2.ownsRow w.heap.size 24 1 wv N (vsOf Q N) := by
         rw [hW2]; exact ownsRow_setCell_other ((hwr.alloc _).kept (unhide hg1) (unhide HAP).symm) (Ne.symm hgw) _
       have hl2 : W2.ownsRow w.heap.size 24 1 (.slice (some ⟨g1, 0, none⟩) (N + 1) c1) (N + 1) (vsOf P N ++ [.slice pa pn pc]) := by
         rw [hW2]; exact ownsRow_setCell_other (unhide hl1) (fun e => own_ne_arr (unhide hl1) hA1 (by decide) e.symm) _
       have k2 : W2.cell? ⟨gS, 1, none⟩ = some wv := by rw [hA2.cell]; rfl
       have f2 := hA2.frozen 1
       have hs2 : wr.heap.size ≤ W2.heap.size := by rw [hW2]; have := (unhide hg1).size; simp at this ⊢; omega
       have HB2 : Hid (But3 lv.ownBlock wv.ownBlock gS wr W2) := by
         show But3 _ _ _ _ _
         refine ⟨by rw [hW2]; exact (unhide hg1).os, by rw [hW2]; exact (unhide hg1).tape, by rw [hW2]; exact (unhide hg1).output, hs2, fun k hk h1 _ h3 => ?_⟩
         rw [hW2, heap_setCell_other w1 ⟨gS, 0, none⟩ k _ h3, (unhide hg1).block k (by simp; omega) h1]
         exact Below.heap_alloc wr _ k hk
       have HA1 : Hid (Apt (.slice (some ⟨g1, 0, none⟩) (N + 1) c1) wv) := Apt.grown (unhide HAP) (hwr.alloc _) (unhide ha1)
       have HLB : Hid ((Value.slice (some ⟨g1, 0, none⟩) (N + 1) c1).ownBlock = lv.ownBlock ∨ ∃ k, (Value.slice (some ⟨g1, 0, none⟩) (N + 1) c1).ownBlock = some k ∧ wr.heap.size ≤ k) := by
         rcases unhide ha1 with e | e
         · exact Or.inl e
         · exact Or.inr ⟨_, e, by simp⟩
       have HW2 := hide hW2
       have HA2 := hide hA2
       have HL2 := hide hl2
       clear hl1 hg1 ha1 hA1 hA2 hW2 hl2)
    | rw [← unhide HW2]
    | (at_builtin
       refine wpList_append_own_at rfl (.tmp 21) (.tmp 23) 44 rfl w.heap.size 24 i0 (.slice none 0 0) 1 24 Tryd.underlying44 hii hz0 hz1 hz2 rfl (by decide) wv N (vsOf Q N) rfl (hw2.alloc _) ⟨W2.heap.size, 0, none⟩ 1 1 [.slice qa qn qc] rfl rfl (cell_one_new _ _ _) (slv_one _ rfl) (by unfold maxLen; omega) (by omega) (by simp; omega) ?_
       intro wv1 w3 hl3 hg3 ha3
       obtain ⟨g3, c3, rfl, -, -⟩ := (unhide hl3).form (by omega)
       have hA3 : Arr w3 gS 46 [.slice (some ⟨g1, 0, none⟩) (N + 1) c1, wv] := ((unhide hg3).block gS (by simp; omega) hgw).trans ((unhide HA2).alloc _)
       have k3 : w3.cell? ⟨gS, 1, none⟩ = some wv := by rw [hA3.cell]; rfl
       have f3 := hA3.frozen 1
       obtain ⟨W4, hW4⟩ : ∃ W4, W4 = w3.setCell ⟨gS, 1, none⟩ (.slice (some ⟨g3, 0, none⟩) (N + 1) c3) := ⟨_, rfl⟩
       have HA4 : Hid (Arr W4 gS 46 [.slice (some ⟨g1, 0, none⟩) (N + 1) c1, .slice (some ⟨g3, 0, none⟩) (N + 1) c3]) := by show Arr _ _ _ _; rw [hW4]; exact hA3.set 1 _
       have HL4 : Hid (W4.ownsRow w.heap.size 24 1 (.slice (some ⟨g1, 0, none⟩) (N + 1) c1) (N + 1) (vsOf P N ++ [.slice pa pn pc])) := by
         show World.ownsRow _ _ _ _ _ _ _
         rw [hW4]; exact ownsRow_setCell_other (((unhide HL2).alloc _).kept (unhide hg3) (unhide HA1)) (fun e => own_ne_arr (((unhide HL2).alloc _).kept (unhide hg3) (unhide HA1)) hA3 (by decide) e.symm) _
       have HV4 : Hid (W4.ownsRow w.heap.size 24 1 (.slice (some ⟨g3, 0, none⟩) (N + 1) c3) (N + 1) (vsOf Q N ++ [.slice qa qn qc])) := by
         show World.ownsRow _ _ _ _ _ _ _
         rw [hW4]; exact ownsRow_setCell_other (unhide hl3) (fun e => own_ne_arr (unhide hl3) hA3 (by decide) e.symm) _
       have HB4 : Hid (But3 lv.ownBlock wv.ownBlock gS wr W4) := by
         have hb2 := unhide HB2
         show But3 _ _ _ _ _
         refine ⟨by rw [hW4]; exact (unhide hg3).os.trans hb2.os, by rw [hW4]; exact (unhide hg3).tape.trans hb2.tape, by rw [hW4]; exact (unhide hg3).output.trans hb2.output, ?_, fun k hk h1 h2 h3 => ?_⟩
         · rw [hW4]; have := (unhide hg3).size; simp at this ⊢; omega
         · rw [hW4, heap_setCell_other w3 ⟨gS, 1, none⟩ k _ h3, (unhide hg3).block k (by simp; omega) h2, Below.heap_alloc W2 _ k (by omega)]
           exact hb2.block k hk h1 h2 h3
       have HAP4 : Hid (Apt (.slice (some ⟨g1, 0, none⟩) (N + 1) c1) (.slice (some ⟨g3, 0, none⟩) (N + 1) c3)) := (Apt.grown (unhide HA1).symm ((unhide HL2).alloc _) (unhide ha3)).symm
       have HWB : Hid ((Value.slice (some ⟨g3, 0, none⟩) (N + 1) c3).ownBlock = wv.ownBlock ∨ ∃ k, (Value.slice (some ⟨g3, 0, none⟩) (N + 1) c3).ownBlock = some k ∧ wr.heap.size ≤ k) := by
         rcases unhide ha3 with e | e
         · exact Or.inl e
         · exact Or.inr ⟨_, e, by simp; omega⟩
       have HW4 := hide hW4
       clear hl3 hg3 ha3 hA3 hW4 hw2 HL2 HA2 HB2 HW2)
    | rw [← unhide HW4])
  have hS4 := Shf.put (unhide H0) (unhide HB0) ⟨pa, pn, pc, pl⟩ ⟨qa, qn, qc, ql⟩ (unhide HP) (unhide HQ) he hn hpF hqF hpq (unhide HB4) (unhide HA4) (unhide HL4) (unhide HV4) (unhide HAP4) (unhide HLB) (unhide HWB)
  have okp := (hS4.p N (by omega)).ok
  have okq := hS4.q N (by omega)
  simp only [if_true] at okp okq
  refine (same_any ⟨pa, pn, pc, pl⟩ ⟨qa, qn, qc, ql⟩ W4 okp okq he (by show pn ≤ _; have h : pn ≤ 100000 := hn; omega)).mono ?_
  rintro e w5 ⟨rfl, kk, rfl⟩
  go_wp2
  go_ret
  have hB := unhide HB4
  exact ⟨rfl, ⟨_, _, hS4.later (below_drewN (Below.refl _ _) kk)⟩, ⟨hB.os, hB.tape, hB.output, hB.size, hB.block⟩⟩
end Go.Proofs.YtkagnpnicbddlaaDoor

namespace Go.Proofs.YtkagnpnicbddlaaDoor
open Go.RowKit

def mkB (i : Nat) : Int := (2 * (i : Int) + 1) % 256
theorem mkB_bd (i : Nat) : 0 ≤ mkB i ∧ mkB i ≤ 255 := by unfold mkB; omega
/-- the lists, each a block of its own, with what stands in them -/
structure Hd (w : World) (gS N : Nat) (P : Nat → Sl) (lv wv : Value) (C : Nat → List Int) (wr : World) : Prop where
  s : Arr wr gS 46 [lv, wv]
  ge : w.heap.size ≤ gS
  lrow : wr.ownsRow w.heap.size 24 1 lv N (vsOf P N)
  len : ∀ j, j < N → (C j).length = (P j).n
  isB : ∀ j, j < N → IsB (C j)
  full : ∀ j, j < N → (P j).c = (P j).n
  sz : ∀ j, j < N → (P j).n ≤ 100000
  nn : ∀ j, j < N → (P j).a = none → (P j).n = 0
  rows : ∀ j, j < N → 0 < (P j).n → ∃ g, (P j).a = some ⟨g, 0, none⟩ ∧ w.heap.size ≤ g ∧ Arr wr g 5 (U8 (C j))
  pp : ∀ i j, i < N → j < N → i ≠ j → 0 < (P i).n → 0 < (P j).n → ∀ x y, (P i).a = some x → (P j).a = some y → x.block ≠ y.block
  bel : Below w.heap.size w wr
theorem Hd.later {w : World} {gS N : Nat} {P : Nat → Sl} {lv wv : Value} {C : Nat → List Int} {wr w' : World} (h : Hd w gS N P lv wv C wr) (hb : Below wr.heap.size wr w') : Hd w gS N P lv wv C w' :=
  ⟨h.s.later hb, h.ge, own_later h.lrow hb, h.len, h.isB, h.full, h.sz, h.nn, fun j hj hp => let ⟨g, a, b, c⟩ := h.rows j hj hp; ⟨g, a, b, c.later hb⟩, h.pp, h.bel.trans (hb.mono h.bel.size)⟩
theorem Hd.congr {w : World} {gS N : Nat} {P : Nat → Sl} {lv wv : Value} {C C' : Nat → List Int} {wr : World} (h : Hd w gS N P lv wv C wr) (he : ∀ j, j < N → C j = C' j) : Hd w gS N P lv wv C' wr :=
  ⟨h.s, h.ge, h.lrow, fun j hj => by rw [← he j hj]; exact h.len j hj, fun j hj => by rw [← he j hj]; exact h.isB j hj, h.full, h.sz, h.nn, fun j hj hp => by rw [← he j hj]; exact h.rows j hj hp, h.pp, h.bel⟩
theorem Hd.of {w : World} {gS N : Nat} {P Q : Nat → Sl} {lv wv : Value} {wr : World} (h : Shf w gS N P Q lv wv wr) : Hd w gS N P lv wv (fun j => (P j).l) wr := by
  refine ⟨h.s, h.ge, h.lrow, fun j hj => (h.p j hj).ok.len, fun j hj => (h.p j hj).ok.isB, fun j hj => (h.p j hj).full, h.sz, fun j hj ha => ((h.p j hj).ok.nn ha).1, fun j hj hp => ?_, fun i j hi hj hij hpi hpj x y hx hy e => ?_, h.bel⟩
  · exact (h.p j hj).row (by rw [(h.p j hj).ok.len]; exact hp)
  · exact h.pp i j hi hj hij (by rw [(h.p j hj).ok.len]; exact hpj) y hy (by rw [(h.p i hi).ok.len]; exact hpi) x hx (by rw [e])
theorem Hd.okP {w : World} {gS N : Nat} {P : Nat → Sl} {lv wv : Value} {C : Nat → List Int} {wr : World} (h : Hd w gS N P lv wv C wr) (j : Nat) (hj : j < N) : Sl.Ok wr ⟨(P j).a, (P j).n, (P j).n, C j⟩ := by
  refine ⟨h.len j hj, Nat.le_refl _, by have := h.sz j hj; unfold maxLen; show (P j).n ≤ _; omega, fun ha => ⟨h.nn j hj ha, h.nn j hj ha⟩, h.isB j hj, fun hp => ?_⟩
  have hp' : 0 < (P j).n := by rw [← h.len j hj]; exact hp
  obtain ⟨g, ha, -, hA⟩ := h.rows j hj hp'
  obtain ⟨b, off, e, hlt, hc⟩ := hA.lies hp
  exact ⟨b, off, ha.trans e, hlt, hc⟩
theorem Hd.set {w : World} {gS N : Nat} {P : Nat → Sl} {lv wv : Value} {C : Nat → List Int} {wr : World} (h : Hd w gS N P lv wv C wr) (i : Nat) (hi : i < N) (g k : Nat) (hg : (P i).a = some ⟨g, 0, none⟩) (hn : 0 < (P i).n) (v : Int) (hv : 0 ≤ v ∧ v ≤ 255) :
    Hd w gS N P lv wv (fun j => if j = i then (C i).set k v else C j) (wr.setCell ⟨g, k, none⟩ (.int .u8 v)) := by
  obtain ⟨g', hg', hge, hA⟩ := h.rows i hi hn
  rw [hg] at hg'
  simp only [Option.some.injEq, Addr.mk.injEq, and_true] at hg'
  subst hg'
  have hgS : gS ≠ g := fun e => arr_ne_arr hA h.s (by decide) e.symm
  refine ⟨h.s.other _ hgS, h.ge, ownsRow_setCell_other h.lrow (fun e => own_ne_arr h.lrow hA (by decide) e.symm) _, fun j hj => ?_, fun j hj => ?_, h.full, h.sz, h.nn, fun j hj hp => ?_, h.pp, h.bel.setCell (by exact hge) _⟩
  · by_cases e : j = i
    · subst e; simp only [if_true, List.length_set]; exact h.len j hj
    · simp only [e, if_false]; exact h.len j hj
  · by_cases e : j = i
    · subst e; simp only [if_true]
      intro x hx
      rcases List.mem_or_eq_of_mem_set hx with hx | rfl
      · exact h.isB j hj x hx
      · exact hv
    · simp only [e, if_false]; exact h.isB j hj
  · by_cases e : j = i
    · subst e
      refine ⟨g, hg, hge, ?_⟩
      simp only [if_true]
      exact hA.set8 k v
    · obtain ⟨g2, h2, hge2, hA2⟩ := h.rows j hj hp
      refine ⟨g2, h2, hge2, ?_⟩
      simp only [e, if_false]
      exact hA2.other _ (by have := h.pp j i hj hi e hp hn _ _ h2 hg; exact this)
/-- list i written over up to k, those ahead of it whole -/
def overTo (P : Nat → Sl) (i k : Nat) (j : Nat) : List Int := if j < i then List.replicate (P j).n (mkB j) else if j = i then List.replicate k (mkB i) ++ (P i).l.drop k else (P j).l
theorem overTo_set {P : Nat → Sl} {i k : Nat} (hk : k < (P i).l.length) (j : Nat) : (if j = i then (overTo P i k i).set k (mkB i) else overTo P i k j) = overTo P i (k + 1) j := by
  by_cases e : j = i
  · subst e
    simp only [if_true, overTo, Nat.lt_irrefl, if_false]
    rw [List.set_append_right _ _ (by simp), List.length_replicate, Nat.sub_self, List.drop_eq_getElem_cons hk, List.set_cons_zero, List.replicate_succ', List.append_assoc]
    rfl
  · simp only [e, if_false, overTo]
theorem overTo_next {P : Nat → Sl} {i : Nat} (hl : (P i).l.length = (P i).n) (j : Nat) : overTo P i (P i).n j = overTo P (i + 1) 0 j := by
  unfold overTo
  by_cases h1 : j < i
  · simp only [h1, if_true, show j < i + 1 by omega]
  · by_cases h2 : j = i
    · subst h2
      simp only [Nat.lt_irrefl, if_false, if_true, show j < j + 1 by omega]
      rw [List.drop_eq_nil_of_le (by omega), List.append_nil]
    · simp only [h1, h2, if_false, show ¬ j < i + 1 by omega]
      by_cases h3 : j = i + 1
      · subst h3; simp
      · simp only [h3, if_false]
theorem overTo_zero (P : Nat → Sl) (j : Nat) : (P j).l = overTo P 0 0 j := by
  unfold overTo
  by_cases h : j = 0
  · subst h; simp
  · simp [h]
theorem Sl.Ok.grown' {w w' : World} {s : Sl} {row : Option Nat} (h : s.Ok w) (hg : w.grownBy w' row) (hne : s.Off row) : s.Ok w' := by
  refine ⟨h.len, h.le, h.mx, h.nn, h.isB, fun hp => ?_⟩
  obtain ⟨b, off, ha, hlt, hc⟩ := h.lies hp
  have hn := hne hp _ ha
  exact ⟨b, off, ha, Nat.lt_of_lt_of_le hlt hg.size, fun i hi => (hg.cell_far ⟨b, off + i, none⟩ hlt hn).trans (hc i hi)⟩
theorem Hd.grown {w : World} {gS N : Nat} {P : Nat → Sl} {lv wv lg : Value} {C : Nat → List Int} {wr w' : World} {n : Nat} {xs : List Value} (h : Hd w gS N P lv wv C wr) (hg : wr.grownBy w' lg.ownBlock) (hl : wr.ownsRow w.heap.size 24 1 lg n xs) (ha : Apt lv lg) : Hd w gS N P lv wv C w' := by
  refine ⟨(hg.block gS h.s.lt (own_ne_arr hl h.s (by decide))).trans h.s, h.ge, h.lrow.kept hg ha, h.len, h.isB, h.full, h.sz, h.nn, fun j hj hp => ?_, h.pp, h.bel.grown hg h.bel.size (fun k hk => (hl.lt k hk).1)⟩
  obtain ⟨g, e, hge, hA⟩ := h.rows j hj hp
  exact ⟨g, e, hge, (hg.block g hA.lt (own_ne_arr hl hA (by decide))).trans hA⟩
theorem Apt.nil (v : Value) : Apt v (.slice none 0 0) := by
  unfold Apt
  cases h : v.ownBlock with
  | none => exact .inl rfl
  | some k => right; simp [Value.ownBlock]
/-- append by its run -/
theorem wpList_append_run {P : Program} {w : World} {ops : Array Oper} {rest : List Oper} {o : Oper} {a : Act} {Q : Exit → Act → World → Prop} (hgd : o.guard = none) (s x : Operand) (t u : TypeId)
    (ho : o.op = .call { callee := .builtin .append, args := #[s, x], argTypes := #[t, u] }) (vs vx v' : Value) (w' : World) (hs : a.eval s = vs) (hx : a.eval x = vx)
    (hr : (Builtin.append_ #[t, u] o.type #[vs, vx]).run P w = .ok v' w') (h : wpList P ops Q rest (a.put o.dst v') w') : wpList P ops Q (o :: rest) a w := by
  refine wpList_plain hgd fun K hK => ?_
  unfold Oper.wp execOp
  simp only [ho, resolve, invoke, builtin, Sem.run_bind, Sem.run_pure, Result.andThen_ok, List.map_toArray, List.map_cons, List.map_nil, hs, hx, hr]
  exact hK _ _ h
/-- each list with its mark -/
def markd (P : Nat → Sl) (j : Nat) : List Int := List.replicate (P j).n (mkB j)
/-- the lists gone on with -/
structure Lg (w : World) (k : Nat) (P R : Nat → Sl) (lv lg : Value) (wr : World) : Prop where
  row : wr.ownsRow w.heap.size 24 1 lg k (vsOf R k)
  apt : Apt lv lg
  ok : ∀ x, x < k → (R x).Ok wr
  l : ∀ x, x < k → (R x).l = markd P x ++ List.replicate 70 0
  off : ∀ x, x < k → (R x).Off lg.ownBlock
theorem Lg.put {w : World} {gS N k : Nat} {P R : Nat → Sl} {lv wv lg lg' : Value} {wr W1 w3 : World} {ob : Obj} (h : Lg w k P R lv lg wr) (hb : Below wr.heap.size wr W1) (hd1 : Hd w gS N P lv wv (markd P) W1) (s : Sl) (hs : s.Ok W1) (hl : s.l = markd P k ++ List.replicate 70 0)
    (hnew : ∀ x, s.a = some x → wr.heap.size ≤ x.block) (hg : (W1.alloc ob).grownBy w3 lg.ownBlock) (hr : w3.ownsRow w.heap.size 24 1 lg' (k + 1) (vsOf R k ++ [s.v])) (ha : lg'.ownBlock = lg.ownBlock ∨ lg'.ownBlock = some (W1.alloc ob).heap.size) :
    Lg w (k + 1) P (fun x => if x = k then s else R x) lv lg' w3 ∧ Hd w gS N P lv wv (markd P) w3 := by
  have hrow1 := (own_later h.row hb).alloc ob
  have hba : Below W1.heap.size W1 (W1.alloc ob) := (Below.refl _ _).alloc (Nat.le_refl _) _
  have hd2 := hd1.later hba
  have ltl : ∀ y, lg.ownBlock = some y → y < wr.heap.size := fun y hy => (h.row.lt y hy).2
  have offs : s.Off lg.ownBlock := fun _ x hx e => by have := ltl _ e.symm; have := hnew x hx; omega
  have off' : ∀ u : Sl, u.Ok W1 → u.Off lg.ownBlock → u.Off lg'.ownBlock := fun u hu ho => by
    rcases ha with e | e
    · rw [e]; exact ho
    · rw [e]; intro hp x hx e2; simp only [Option.some.injEq] at e2; have := hu.blk hp x hx; simp at e2; omega
  refine ⟨⟨by rw [← vsOf_succ]; exact hr, (Apt.grown h.apt.symm hd2.lrow ha).symm, fun x hx => ?_, fun x hx => ?_, fun x hx => ?_⟩, hd2.grown hg hrow1 h.apt⟩
  · by_cases e : x = k
    · simp only [e, if_true]; exact (hs.later hba).grown' hg offs
    · simp only [e, if_false]; exact (((h.ok x (by omega)).later hb).later hba).grown' hg (h.off x (by omega))
  · by_cases e : x = k
    · subst e; simp only [if_true]; exact hl
    · simp only [e, if_false]; exact h.l x (by omega)
  · by_cases e : x = k
    · simp only [e, if_true]; exact off' s hs offs
    · simp only [e, if_false]; exact off' _ ((h.ok x (by omega)).later hb) (h.off x (by omega))
theorem overTo_end (P : Nat → Sl) (N j : Nat) (h : j < N) : overTo P N 0 j = markd P j := by unfold overTo markd; simp only [h, if_true]
end Go.Proofs.YtkagnpnicbddlaaDoor

namespace Go.Proofs.YtkagnpnicbddlaaDoor
open Go.RowKit

theorem own_form0 {w : World} {base e n : Nat} {v : Value} {xs : List Value} (h : w.ownsRow base e 1 v n xs) : ∃ a c, v = .slice a n c ∧ (0 < n → ∃ g, a = some ⟨g, 0, none⟩) := by
  rcases h.2 with ⟨rfl, rfl⟩ | ⟨g, cap, cur, rfl, -⟩
  · exact ⟨none, 0, rfl, fun h => by omega⟩
  · exact ⟨_, cap, rfl, fun _ => ⟨g, rfl⟩⟩
/-- what a look at a list reads -/
theorem row_at {w wr : World} {e N : Nat} {P : Nat → Sl} {g c : Nat} (h : wr.ownsRow w.heap.size e 1 (.slice (some ⟨g, 0, none⟩) N c) N (vsOf P N)) (i : Nat) (hi : i < N) : wr.cell? ⟨g, i, none⟩ = some (P i).v := by
  rw [h.cellAt i (by omega), vsOf_at P N i hi]

set_option maxHeartbeats 8000000 in
set_option maxRecDepth 100000 in
theorem held_any {w : World} {gS N : Nat} {P Q : Nat → Sl} {lv wv : Value} {w0 : World} (h0 : Shf w gS N P Q lv wv w0) (hN : N ≤ 4000000000000) :
    Calls Tryd.prog 19 #[.pointer (some ⟨gS, 0, none⟩)] w0 fun e w' => e = .returned (.bool true) ∧ Below w.heap.size w w' := by
  obtain ⟨la, lc, rfl, hla⟩ := own_form0 h0.lrow
  obtain ⟨wa, wc, rfl, hwa⟩ := own_form0 h0.wrow
  go_enter Tryd.func19, Tryd.ntmps19
  go_wp2_with fail
  go_loopw [3] (fun i wr => ∃ j : Nat, j ≤ N ∧ i = .int .i64 j ∧ Shf w gS N P Q (.slice la N lc) (.slice wa N wc) wr) (fun i _ => N - (intOf i).toNat)
  case atStart => exact ⟨0, by omega, rfl, h0⟩
  case round =>
    clear h0
    obtain ⟨j, hj, rfl, hS⟩ := hrel
    have cl : wr.cell? ⟨gS, 0, none⟩ = some (.slice la N lc) := by rw [hS.s.cell]; rfl
    have cw : wr.cell? ⟨gS, 1, none⟩ = some (.slice wa N wc) := by rw [hS.s.cell]; rfl
    by_cases hlt : j < N
    · obtain ⟨gl, rfl⟩ := hla (by omega)
      obtain ⟨gw, rfl⟩ := hwa (by omega)
      have hjz : (j : Int) < (N : Int) := by omega
      have okp := (hS.p j hlt).ok
      have okq := hS.q j hlt
      have he := hS.eq j hlt
      have hsz := hS.sz j hlt
      have c1 := row_at hS.lrow j hlt
      have c2 := row_at hS.wrow j hlt
      generalize hp : P j = p at okp c1 he hsz
      generalize hq : Q j = q at okq c2 he
      obtain ⟨pa, pn, pc, pl⟩ := p
      obtain ⟨qa, qn, qc, ql⟩ := q
      simp only [Sl.v] at c1 c2
      have HS := hide hS
      clear hp hq hS
      go_wp2_with fail
      go_region_held3 (fun w' => w'.cell? ⟨gS, 0, none⟩ = some (.slice (some ⟨gl, 0, none⟩) N lc) ∧ w'.cell? ⟨gS, 1, none⟩ = some (.slice (some ⟨gw, 0, none⟩) N wc) ∧ w'.cell? ⟨gl, j, none⟩ = some (.slice pa pn pc) ∧ w'.cell? ⟨gw, j, none⟩ = some (.slice qa qn qc))
        (first | go_keep | exact ⟨cl, cw, c1, c2⟩)
        (first
          | (go_at_call 11
             refine (same_any ⟨pa, pn, pc, pl⟩ ⟨qa, qn, qc, ql⟩ _ (Sl.Ok.later okp (below_drew _)) (Sl.Ok.later okq (below_drew _)) he (by show pn ≤ _; have h : pn ≤ 100000 := hsz; omega)).mono ?_
             rintro e w9 ⟨rfl, kk, rfl⟩))
      go_wp2
      go_roundw
      case rel => exact ⟨j + 1, by omega, by go_num, (unhide HS).later (below_drewN (Below.refl _ _) _)⟩
      case measure => simp [intOf]; omega
    · have hjN : j = N := by omega
      subst hjN
      have hH : Hd w gS j P (.slice la j lc) (.slice wa j wc) (overTo P 0 0) wr := (Hd.of hS).congr (fun x _ => overTo_zero P x)
      have hlen : ∀ x, x < j → (P x).l.length = (P x).n := fun x hx => (hS.p x hx).ok.len
      have HLEN := hide hlen
      have hxd : decide ((j : Int) < (j : Int)) = false := by simp
      clear hS hlen
      go_wp2_with fail
      clear cl cw hxd hlt hj
      go_loopw [4] (fun i wr => ∃ k : Nat, k ≤ j ∧ i = .int .i64 k ∧ Hd w gS j P (.slice la j lc) (.slice wa j wc) (overTo P k 0) wr) (fun i _ => j - (intOf i).toNat)
      case atStart => exact ⟨0, by omega, rfl, hH⟩
      case round =>
        clear hH
        obtain ⟨i, hi, rfl, hH⟩ := hrel
        have cl : wr.cell? ⟨gS, 0, none⟩ = some (.slice la j lc) := by rw [hH.s.cell]; rfl
        by_cases hlt : i < j
        · obtain ⟨gl, rfl⟩ := hla (by omega)
          have hiz : (i : Int) < (j : Int) := by omega
          go_wp2_with fail
          clear cl
          go_loopw [5] (fun kv wr => ∃ k : Nat, k ≤ (P i).n ∧ kv = .int .i64 k ∧ Hd w gS j P (.slice (some ⟨gl, 0, none⟩) j lc) (.slice wa j wc) (overTo P i k) wr) (fun kv _ => (P i).n - (intOf kv).toNat)
          case atStart => exact ⟨0, by omega, rfl, hH⟩
          case round =>
            clear hH
            obtain ⟨k, hk, rfl, hH⟩ := hrel
            have cl : wr.cell? ⟨gS, 0, none⟩ = some (.slice (some ⟨gl, 0, none⟩) j lc) := by rw [hH.s.cell]; rfl
            have c1 := row_at hH.lrow i hlt
            simp only [Sl.v] at c1
            by_cases hkn : k < (P i).n
            · obtain ⟨g, hg, -, hA⟩ := hH.rows i hlt (by omega)
              have hset := hH.set i hlt g k hg (by omega) (mkB i) (mkB_bd i)
              have hH2 := hset.congr (fun x _ => overTo_set (by rw [unhide HLEN i hlt]; exact hkn) x)
              have ck := hA.cell8 k (by rw [hH.len i hlt]; exact hkn)
              have fz := hA.frozen k
              have hfull := hH.full i hlt
              have hsz := hH.sz i hlt
              rw [hg, hfull] at c1
              have hkz : (k : Int) < ((P i).n : Int) := by omega
              have hmk : (2 * (i : Int) + 1) % 256 = mkB i := rfl
              generalize (overTo P i k i).getD k 0 = z at ck
              have HM := hide hmk
              have H2 := hide hH2
              clear hset hH2 hH hA hfull hmk hg
              generalize (P i).n = n at *
              go_wp2
              go_roundw
              case rel => exact ⟨k + 1, by omega, by go_num, unhide H2⟩
              case measure => simp [intOf]; omega
            · have hkn2 : k = (P i).n := by omega
              have hH2 := hH.congr (C' := overTo P (i + 1) 0) (fun x _ => by rw [hkn2]; exact overTo_next (unhide HLEN i hlt) x)
              have hkz : ¬ ((k : Int) < ((P i).n : Int)) := by omega
              have hkd : decide ((k : Int) < ((P i).n : Int)) = false := by simpa using hkz
              have H2 := hide hH2
              clear hH2 hH hk hkn hkn2
              go_wp2_with fail
              go_roundw
              case rel => exact ⟨i + 1, by omega, by go_num, unhide H2⟩
              case measure => simp [intOf]; omega
        · have hij : i = j := by omega
          have hH2 := hH.congr (C' := markd P) (fun x hx => by rw [hij]; exact overTo_end P j x hx)
          have hiz : ¬ ((i : Int) < (j : Int)) := by omega
          have hid : decide ((i : Int) < (j : Int)) = false := by simpa using hiz
          have H2 := hide hH2
          clear hH2 hH hi hij hlt
          obtain ⟨i1, hi1, hy0, hy1, hy2⟩ := info_parts Tryd.infoB
          obtain ⟨i2, hi2, hx0, hx1, hx2⟩ := info_parts Tryd.infoS
          go_wp2_with fail
          clear cl hiz hid
          generalize (i : Int) = ii
          go_loopw [6, 7] (fun lgv iv wr => ∃ k : Nat, k ≤ j ∧ iv = .int .i64 k ∧ ∃ R, Hd w gS j P (.slice la j lc) (.slice wa j wc) (markd P) wr ∧ Lg w k P R (.slice la j lc) lgv wr) (fun _ iv _ => j - (intOf iv).toNat)
          case atStart => exact ⟨0, by omega, rfl, P, unhide H2, ⟨World.ownsRow_nil _ _ _ _, Apt.nil _, fun x hx => by omega, fun x hx => by omega, fun x hx => by omega⟩⟩
          case round =>
            clear H2
            obtain ⟨k, hk, rfl, R, hH, hLg⟩ := hrel
            have cl : wr.cell? ⟨gS, 0, none⟩ = some (.slice la j lc) := by rw [hH.s.cell]; rfl
            by_cases hlt : k < j
            · obtain ⟨gl, rfl⟩ := hla (by omega)
              have hkz : (k : Int) < (j : Int) := by omega
              have c1 := row_at hH.lrow k hlt
              simp only [Sl.v] at c1
              rw [hH.full k hlt] at c1
              have okP := hH.okP k hlt
              have hsz := hH.sz k hlt
              obtain ⟨cap, W1, hrun, okR, hbR, hltR⟩ := run_append_made (P := Tryd.prog) wr 24 3 24 5 i1 Tryd.underlying24 Tryd.underlying3 hi1 hy0 hy1 hy2 ⟨(P k).a, (P k).n, (P k).n, markd P k⟩ okP 70 (by omega) (by omega) rfl (by show (P k).n ≤ _; omega)
              simp only [Sl.v] at hrun
              have hH1 := hH.later hbR
              have hlg1 := own_later hLg.row hbR
              have hsz1 : w.heap.size ≤ W1.heap.size := Nat.le_trans hH.bel.size hbR.size
              have HH1 := hide hH1
              have HLG := hide hLg
              have HBR := hide hbR
              have HOK := hide okR
              clear hH hLg hbR okR hH1 okP
              generalize hpa : (P k).a = pa at c1 hrun
              generalize hpn : (P k).n = pn at c1 hrun HOK hsz
              have HRUN := hide hrun
              clear hrun
              go_wp2_with (first
                | (at_builtin
                   refine wpList_append_run rfl (.tmp 87) _ 24 3 rfl _ _ _ _ rfl rfl (unhide HRUN) ?_)
                | (at_builtin
                   refine wpList_append_own_at rfl (.tmp 80) (.tmp 89) 44 rfl w.heap.size 24 i2 (.slice none 0 0) 1 24 Tryd.underlying44 hi2 hx0 hx1 hx2 rfl (by decide) _ k (vsOf R k) rfl (hlg1.alloc _) ⟨W1.heap.size, 0, none⟩ 1 1 [.slice (some ⟨wr.heap.size, 0, none⟩) (pn + 70) cap] rfl rfl (cell_one_new _ _ _) (by intro u hu; simp at hu; subst hu; rfl) (by unfold maxLen; omega) (by omega) (by simp; omega) ?_
                   intro lg1 w3 hl3 hg3 ha3))
              have hput := Lg.put (unhide HLG) (unhide HBR) (unhide HH1) ⟨some ⟨wr.heap.size, 0, none⟩, pn + 70, cap, markd P k ++ List.replicate 70 0⟩ (unhide HOK) rfl (by intro x hx; cases hx; exact Nat.le_refl _) (unhide hg3) (unhide hl3) (unhide ha3)
              exact ⟨⟨k + 1, by omega, by go_num, _, hput.2, hput.1⟩, by simp [intOf]; omega⟩
            · have hkj : k = j := by omega
              have hkz : ¬ ((k : Int) < (j : Int)) := by omega
              have hkd : decide ((k : Int) < (j : Int)) = false := by simpa using hkz
              rw [hkj] at hLg
              clear hk hlt hkj
              obtain ⟨ga, gc, hgv, hga⟩ := own_form0 hLg.row
              subst hgv
              go_wp2_with fail
              clear hkz hkd
              obtain ⟨W, hWr⟩ : ∃ W, W = wr := ⟨_, rfl⟩
              rw [← hWr] at hH hLg cl
              have HWR := hide hWr
              clear hWr
              generalize (k : Int) = kk
              go_loopw [8] (fun iv wv => ∃ i : Nat, i ≤ j ∧ iv = .int .i64 i ∧ wv = W) (fun iv _ => j - (intOf iv).toNat)
              case atStart => exact ⟨0, by omega, rfl, (unhide HWR).symm⟩
              case round =>
                clear HWR
                obtain ⟨i, hi, rfl, hwv⟩ := hrel
                rw [hwv]
                clear hwv
                by_cases hlt : i < j
                · obtain ⟨gl, rfl⟩ := hla (by omega)
                  obtain ⟨gg, rfl⟩ := hga (by omega)
                  have hiz : (i : Int) < (j : Int) := by omega
                  have c1 := row_at hH.lrow i hlt
                  have c2 := row_at hLg.row i hlt
                  have hsz := hH.sz i hlt
                  have okR := hLg.ok i hlt
                  have hRl := hLg.l i hlt
                  have okP := hH.okP i hlt
                  simp only [Sl.v] at c1 c2
                  rw [hH.full i hlt] at c1
                  have hRn : (R i).n = (P i).n + 70 := by rw [← okR.len, hRl]; simp [markd]
                  obtain ⟨rb, ro, hra, -, hrc⟩ := okR.lies (by rw [okR.len, hRn]; omega)
                  rw [hra, hRn] at c2
                  rw [hRl] at hrc
                  have hPc := okP.lies
                  simp only at hPc
                  generalize (R i).c = rc at c2
                  have hmk : (2 * (i : Int) + 1) % 256 = mkB i := rfl
                  have HMK := hide hmk
                  have hml : (markd P i).length = (P i).n := by simp [markd]
                  have hmg : ∀ x, x < (P i).n → (markd P i).getD x 0 = mkB i := fun x hx => by simp [markd, hx]
                  generalize hC : markd P i = C at hrc hPc hml hmg
                  generalize hpa : (P i).a = pa at c1 hPc
                  generalize (P i).n = pn at c1 c2 hsz hml hmg
                  have HML := hide hml
                  have HMG := hide hmg
                  have HRC := hide hrc
                  have HPC := hide hPc
                  clear okR okP hRl hRn hra hrc hPc hmk hml hmg hC hpa
                  have hbel := hH.bel
                  clear hH hLg
                  go_wp2_with fail
                  go_loopw [10] (fun kv wv => ∃ k : Nat, k ≤ pn ∧ kv = .int .i64 k ∧ wv = W) (fun kv _ => pn - (intOf kv).toNat)
                  case atStart => exact ⟨0, by omega, rfl, rfl⟩
                  case round =>
                    obtain ⟨k, hk, rfl, hwv⟩ := hrel
                    rw [hwv]
                    clear hwv
                    by_cases hkn : k < pn
                    · obtain ⟨pb, po, hpa, -, hpc⟩ := unhide HPC (by rw [unhide HML]; omega)
                      have ca : W.cell? ⟨pb, po + k, none⟩ = some (.int .u8 ((2 * (i : Int) + 1) % 256)) := by
                        rw [hpc k (by rw [unhide HML]; exact hkn), unhide HMG k hkn]; rfl
                      have cb : W.cell? ⟨rb, ro + k, none⟩ = some (.int .u8 ((2 * (i : Int) + 1) % 256)) := by
                        rw [unhide HRC k (by rw [List.length_append, unhide HML]; omega)]
                        have hg := unhide HMG k hkn
                        rw [List.getD_eq_getElem?_getD] at hg ⊢
                        rw [List.getElem?_append_left (by rw [unhide HML]; exact hkn), hg]; rfl
                      rw [hpa] at c1
                      have hkz : (k : Int) < (pn : Int) := by omega
                      have hkz2 : (k : Int) < ((pn + 70 : Nat) : Int) := by omega
                      clear hpc hpa
                      go_wp2
                      go_roundw
                      case rel => exact ⟨k + 1, by omega, by go_num, trivial⟩
                      case measure => simp [intOf]; omega
                    · have hkn2 : k = pn := by omega
                      have hkz : ¬ ((k : Int) < (pn : Int)) := by omega
                      have hkd : decide ((k : Int) < (pn : Int)) = false := by simpa using hkz
                      clear hk hkn hkn2
                      go_wp2_with fail
                      clear hkz hkd
                      generalize (k : Int) = k0
                      go_loopw [11] (fun kv wv => ∃ k : Nat, pn ≤ k ∧ k ≤ pn + 70 ∧ kv = .int .i64 k ∧ wv = W) (fun kv _ => pn + 70 - (intOf kv).toNat)
                      case atStart => exact ⟨pn, Nat.le_refl _, by omega, rfl, rfl⟩
                      case round =>
                        obtain ⟨k, hk1, hk2, rfl, hwv⟩ := hrel
                        rw [hwv]
                        clear hwv
                        by_cases hkn : k < pn + 70
                        · have cb : W.cell? ⟨rb, ro + k, none⟩ = some (.int .u8 0) := by
                            rw [unhide HRC k (by rw [List.length_append, unhide HML]; simp; omega)]
                            rw [List.getD_eq_getElem?_getD, List.getElem?_append_right (by rw [unhide HML]; exact hk1), unhide HML, List.getElem?_replicate, if_pos (by omega)]
                            rfl
                          have hkz2 : (k : Int) < ((pn + 70 : Nat) : Int) := by omega
                          go_wp2
                          go_roundw
                          case rel => exact ⟨k + 1, by omega, by omega, by go_num, trivial⟩
                          case measure => simp [intOf]; omega
                        · have hkz : ¬ ((k : Int) < ((pn + 70 : Nat) : Int)) := by omega
                          have hkz3 : ¬ ((k : Int) < (pn : Int) + 70) := by omega
                          have hkd : decide ((k : Int) < (pn : Int) + 70) = false := by simpa using hkz3
                          go_wp2_with fail
                          go_roundw
                          case rel => exact ⟨i + 1, by omega, by go_num, trivial⟩
                          case measure => simp [intOf]; omega
                · have hiz : ¬ ((i : Int) < (j : Int)) := by omega
                  have hid : decide ((i : Int) < (j : Int)) = false := by simpa using hiz
                  have hbel := hH.bel
                  clear hH hLg
                  go_wp2
                  go_ret
                  exact ⟨rfl, hbel⟩
end Go.Proofs.YtkagnpnicbddlaaDoor
