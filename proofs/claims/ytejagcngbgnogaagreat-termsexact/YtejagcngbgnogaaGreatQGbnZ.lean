import Derived.Test.YtejagcngbgnogaaGreatQShr
import Derived.Test.YtejagcngbgnogaaGreatQGaeZ
import Derived.Test.YtejagcngbgnogaaGreatQRwiW
import Derived.Test.YtejagcngbgnogaaGreatQGakZ
import Derived.Deep.QuietTactic
import Derived.BigQuiet
set_option linter.unusedSimpArgs false
set_option linter.unusedVariables false
namespace Go.Proofs.YtejagcngbgnogaaGreat
open Go.RowKit
theorem fT (m : Nat) : Builtin.zeroCells (Value.int .u8 0).cells m = (U8 (List.replicate m 0)).toArray := by
 show Builtin.zeroCells #[Value.int .u8 0] m = _
 apply Array.ext'
 simp [Builtin.zeroCells, U8, Nat.mod_one, List.map_const']
theorem zeros_isB (m : Nat) : IsB (List.replicate m 0) := fun x hx => by have := List.eq_of_mem_replicate hx; subst this; omega
theorem rA {P : Program} (w : World) (base : Nat) (t u ty e : TypeId) (i : TypeInfo) (ht : P.underlying t = some (.slice e)) (hu : P.underlying u = some (.int .i64)) (hi : P.info? e = some i) (hz : i.zero = some (.int .u8 0))
  (hsize : i.size = 1) (hby : i.bytes = 1) (v : Value) (l : List Int) (hown : w.ownsRow base e 1 v l.length (U8 l)) (m : Nat) (hm : 0 < m) (hmb : m ≤ 1000) (hn : l.length ≤ 100000000) (hbase : base ≤ w.heap.size) :
  ∃ a c W, (Builtin.append_ #[t, u] ty #[v, .int .i64 m]).run P w = .ok (.slice (some a) (l.length + m) c) W ∧ W.ownsRow base e 1 (.slice (some a) (l.length + m) c) (l.length + m) (U8 (l ++ List.replicate m 0)) ∧ w.grownBy W v.ownBlock ∧ W.ownsRow base e 1 v l.length (U8 l) ∧ (some a.block = v.ownBlock ∨ a.block = w.heap.size) := by
 have hw : IntKind.i64.wrap (m : Int) = m := by rw [IntKind.wrap_i64]; omega
 have hm0 : ¬ ((m : Int) < 0) := by omega
 have hmx : max (m : Int) 0 = m := by omega
 have hmt : ((m : Int)).toNat = m := by omega
 have hm1 : ¬ (281474976710656 < (m : Int) * (i.bytes : Int)) := by rw [hby]; omega
 have hm2 : ¬ (m * i.size = 0) := by rw [hsize]; omega
 rcases hown.2 with ⟨rfl, h0⟩ | ⟨g, cap, cur, rfl, hbg, hg, hnc, hcm, hcs, htake⟩
 ·have hl : l = [] := List.eq_nil_of_length_eq_zero h0
  subst hl
  have hr : ¬ (0 + m ≤ 0) := by omega
  have hr' : ¬ (m ≤ 0) := by omega
  have h63' : ¬ (9223372036854775807 < (m : Int)) := by omega
  have hfit : Builtin.nextslicecap (0 + m) 0 * i.bytes ≤ 281474976710656 := by rw [hby]; exact growslice_fits (by omega) (by omega)
  have h48' : ¬ (281474976710656 < Builtin.nextslicecap m 0 * i.bytes) := by rw [Nat.zero_add] at hfit; omega
  have hge : m ≤ grownCap w m 0 e := grownCap_ge w m 0 e
  have hle := grownCap_le_maxLen w m 0 e (by unfold maxLen; omega)
  refine ⟨⟨w.heap.size, 0, none⟩, grownCap w m 0 e, w.drew.alloc (.cells ((U8 (List.replicate m 0)).toArray ++ Builtin.zeroCells (Value.int .u8 0).cells (grownCap w m 0 e - m)) e), ?_, ⟨by simp, .inr ⟨w.heap.size, grownCap w m 0 e, _, rfl, hbase, heap_alloc_last w.drew _, by simpa using hge, hle, ?_, ?_⟩⟩, ⟨rfl, rfl, rfl, by simp, fun k hk _ => Below.heap_alloc w _ k hk⟩, ⟨rfl, .inl ⟨rfl, rfl⟩⟩, .inr rfl⟩
  ·simp only [Nat.zero_add, List.length_nil] at *
   simp [Builtin.append_, run_underlying ht, run_underlying hu, sizeOf, typeInfo, zeroValue, hi, hz, asInt, asIntOf, hw, hmx, hmt, hm0, hm1, hm2, hr', h63', h48', Question.forced, newRow, grownCap, fT, Builtin.firstCells]
   omega
  ·rw [fT]; simp; omega
  ·rw [fT]; simp; try exact List.take_left' (by simp)
 ·have hcs1 : cur.size = cap := by simpa using hcs
  by_cases hroom : l.length + m ≤ cap
  ·have hst := run_storeCells_at P g l.length e (U8 (List.replicate m 0)) 0 cur w hg (by simp; omega) (u8_oc _)
   simp only [Nat.add_zero] at hst
   have hst' := hst
   refine ⟨⟨g, 0, none⟩, cap, w.setRow g (cur.toList.take l.length ++ U8 (List.replicate m 0) ++ cur.toList.drop (l.length + (U8 (List.replicate m 0)).length)).toArray, ?_, ⟨by simp, .inr ⟨g, cap, _, rfl, hbg, setRow_heap w g cur _ e _ hg, hroom, hcm, ?_, ?_⟩⟩, ⟨rfl, rfl, rfl, by simp, fun k _ hk => setRow_other w g k _ (fun e => hk (by simp [Value.ownBlock, e]))⟩, ⟨hown.1, .inr ⟨g, cap, _, rfl, hbg, setRow_heap w g cur _ e _ hg, hnc, hcm, ?_, ?_⟩⟩, .inl rfl⟩
   ·simp [Builtin.append_, run_underlying ht, run_underlying hu, sizeOf, typeInfo, zeroValue, hi, hz, asInt, asIntOf, hw, hmx, hmt, hm0, hm1, hsize, show m ≠ 0 by omega, hroom, fT, Addr.add_lit, hst']
   ·simp; omega
   ·have ht2 : cur.toList.take l.length = U8 l := by simpa using htake
    rw [ht2, jS]; simp; rw [← List.append_assoc]; exact List.take_left' (by simp)
   ·simp; omega
   ·have ht2 : cur.toList.take l.length = U8 l := by simpa using htake
    rw [ht2]; simp
  ·have hr : ¬ (l.length + m ≤ cap) := hroom
   have h63' : ¬ (9223372036854775807 < ((l.length : Int) + (m : Int))) := by omega
   have hfit : Builtin.nextslicecap (l.length + m) cap * i.bytes ≤ 281474976710656 := by rw [hby]; exact growslice_fits (by omega) (by omega)
   have h48' : ¬ (281474976710656 < Builtin.nextslicecap (l.length + m) cap * i.bytes) := by omega
   have hge := grownCap_ge w (l.length + m) cap e
   have hle := grownCap_le_maxLen w (l.length + m) cap e (by unfold maxLen; omega)
   have hcell : ∀ j u, (U8 l)[j]? = some u → w.cell? ((⟨g, 0, none⟩ : Addr).add j) = some u := fun j u hj => by
    have hjl : j < l.length := by have := (List.getElem?_eq_some_iff.1 hj).1; simpa using this
    have := hown.cellAt j (by omega)
    have e2 : (⟨g, 0, none⟩ : Addr).add j = ⟨g, j, none⟩ := by rw [Addr.add_lit]; simp
    rw [e2, this, hj]
   have hf : (Builtin.firstCells i.size l.length (.slice (some ⟨g, 0, none⟩) l.length cap)).run P w.drew = .ok (U8 l).toArray w.drew := run_firstCells_some (P := P) w.drew i.size l.length ⟨g, 0, none⟩ l.length cap (U8 l) (by rw [hsize]; simp) hcell
   refine ⟨⟨w.heap.size, 0, none⟩, grownCap w (l.length + m) cap e, w.drew.alloc (.cells ((U8 l).toArray ++ (U8 (List.replicate m 0)).toArray ++ Builtin.zeroCells (Value.int .u8 0).cells (grownCap w (l.length + m) cap e - (l.length + m))) e), ?_, ⟨by simp, .inr ⟨w.heap.size, _, _, rfl, hbase, heap_alloc_last w.drew _, hge, hle, ?_, ?_⟩⟩, ⟨rfl, rfl, rfl, by simp, fun k hk _ => Below.heap_alloc w _ k hk⟩, ?_, .inr rfl⟩
   ·simp [Builtin.append_, run_underlying ht, run_underlying hu, sizeOf, typeInfo, zeroValue, hi, hz, asInt, asIntOf, hw, hmx, hmt, hm0, hm1, hm2, hr, h63', h48', Question.forced, hf, newRow, grownCap, fT]
   ·rw [fT]; simp; omega
   ·rw [fT, jS]; simp; rw [← List.append_assoc]; exact List.take_left' (by simp)
   ·have hlt : g < w.heap.size := by
     by_cases hh : g < w.heap.size
     ·exact hh
     ·rw [Array.getElem?_eq_none (by omega)] at hg; cases hg
    exact ⟨hown.1, .inr ⟨g, cap, cur, rfl, hbg, (Below.heap_alloc w.drew _ g hlt).trans hg, hnc, hcm, hcs, htake⟩⟩
set_option maxHeartbeats 2000000
set_option maxRecDepth 100000
theorem nV (a b : Sl) (w : World) (ha : a.Ok w) (hb : b.Ok w) (hn : a.n ≤ 1099511627776) :
  Calls Tryz.prog 16 #[a.v, b.v] w fun e w' => e = .returned (.bool (decide (a.l = b.l))) ∧ ∃ k, w' = w.drewN k := by
 obtain ⟨aa, an, ac, al⟩ := a
 obtain ⟨ba, bn, bc, bl⟩ := b
 have ha1 : al.length = an := ha.len
 have hb1 : bl.length = bn := hb.len
 have hn' : an ≤ 1099511627776 := hn
 have hbm : bn ≤ 9223372036854775807 := by have := hb.le; have := hb.mx; unfold maxLen at this; simp only at *; omega
 simp only [Sl.v]
 by_cases hlen : an = bn
 ·subst hlen
  have HA := aA ha
  have HB := aA hb
  have HL := aA ha1
  have HL2 := aA hb1
  clear ha hb ha1 hb1 hn
  generalize hD : decide (al = bl) = D
  have HD := aA hD
  clear hD
  go_enter Tryz.func16, Tryz.ntmps16
  go_wp2_with fail
  go_loopw [5] (fun i wr => ∃ k : Nat, k ≤ an ∧ i = .int .i64 k ∧ Hid (al.take k = bl.take k) ∧ ∃ m, wr = w.drewN m) (fun i _ => an - (intOf i).toNat)
  case atStart => exact ⟨0, by omega, rfl, aA rfl, 0, rfl⟩
  case round =>
   obtain ⟨k, hk, rfl, HT, m, hwr0⟩ := hrel
   have hwr := aA hwr0
   clear hwr0
   by_cases hlt : k < an
   ·obtain ⟨ab, ao, haa, -, hac⟩ := (unhide HA).lies (by show 0 < al.length; rw [unhide HL]; omega)
    obtain ⟨bb, bo, hba, -, hbc⟩ := (unhide HB).lies (by show 0 < bl.length; rw [unhide HL2]; omega)
    have haa' : aa = some ⟨ab, ao, none⟩ := haa
    have hba' : ba = some ⟨bb, bo, none⟩ := hba
    subst haa' hba'
    have ca : wr.cell? ⟨ab, ao + k, none⟩ = some (.int .u8 (al.getD k 0)) := by rw [unhide hwr]; exact hac k (by show k < al.length; rw [unhide HL]; omega)
    have cb : wr.cell? ⟨bb, bo + k, none⟩ = some (.int .u8 (bl.getD k 0)) := by rw [unhide hwr]; exact hbc k (by show k < bl.length; rw [unhide HL2]; omega)
    obtain ⟨x, hx⟩ : ∃ x, al.getD k 0 = x := ⟨_, rfl⟩
    obtain ⟨y, hy⟩ : ∃ y, bl.getD k 0 = y := ⟨_, rfl⟩
    rw [hx] at ca
    rw [hy] at cb
    have HX := aA hx
    have HY := aA hy
    have hkz : (k : Int) < (an : Int) := by omega
    clear haa hba hac hbc hx hy
    by_cases hxy : x = y
    ·subst hxy
     have HT' : Hid (al.take (k + 1) = bl.take (k + 1)) := aA (take_eq_succ (by rw [unhide HL]; omega) (by rw [unhide HL2]; omega) (unhide HT) ((unhide HX).trans (unhide HY).symm))
     go_wp2_with fail
     go_quiet (fail)
     go_wp2
     go_roundw
     case rel => exact ⟨k + 1, by omega, by go_num, HT', _, by rw [unhide hwr]; exact World.drewN_drewN _ _ _⟩
     case measure => simp [intOf]; omega
    ·have HF : Hid (D = false) := by
      rw [← unhide HD]
      refine aA (decide_eq_false (fun e => hxy ?_))
      rw [← unhide HX, ← unhide HY, e]
     go_wp2_with fail
     go_quiet (fail)
     go_wp2
     go_ret
     rw [unhide HF]
     exact ⟨rfl, _, by rw [unhide hwr]; exact World.drewN_drewN _ _ _⟩
   ·have hkd : decide ((k : Int) < (an : Int)) = false := by simp; omega
    have HF : Hid (D = true) := by
     rw [← unhide HD]
     refine aA (decide_eq_true ?_)
     have h := unhide HT
     rw [List.take_of_length_le (by rw [unhide HL]; omega), List.take_of_length_le (by rw [unhide HL2]; omega)] at h
     exact h
    go_wp2
    go_ret
    rw [unhide HF]
    exact ⟨rfl, m, unhide hwr⟩
 ·have HF : Hid (decide (al = bl) = false) := aA (decide_eq_false (fun e => hlen (by rw [← ha1, ← hb1, e])))
  rw [unhide HF]
  go_enter Tryz.func16, Tryz.ntmps16
  go_wp2
  go_ret
  exact ⟨rfl, 0, rfl⟩
theorem Tryz.infoZ : (Tryz.prog.info? 33).map (fun i => (i.zero, i.size, i.bytes)) = some (some (.slice none 0 0), 1, 24) := by kernel_rfl
def gB (P : Nat → Sl) (N : Nat) : List Value := (List.range N).map fun i => (P i).v
theorem vsOf_at (P : Nat → Sl) (N i : Nat) (h : i < N) : (gB P N)[i]? = some (P i).v := by simp [gB, h]
theorem oR (P : Nat → Sl) (N : Nat) (s : Sl) : gB P N ++ [s.v] = gB (fun i => if i = N then s else P i) (N + 1) := by
 unfold gB
 rw [List.range_succ, List.map_append]
 congr 1
 ·apply List.map_congr_left
  intro i hi
  have := List.mem_range.1 hi
  show (P i).v = (if i = N then s else P i).v
  rw [if_neg (by omega)]
 ·simp
@[simp] theorem vsOf_length (P : Nat → Sl) (N : Nat) : (gB P N).length = N := by simp [gB]
structure But3 (b1 b2 : Option Nat) (g : Nat) (w w' : World) : Prop where
 os : w'.os = w.os
 tape : w'.tape = w.tape
 output : w'.output = w.output
 size : w.heap.size ≤ w'.heap.size
 block : ∀ k, k < w.heap.size → some k ≠ b1 → some k ≠ b2 → k ≠ g → w'.heap[k]? = w.heap[k]?
theorem But3.ok {b1 b2 : Option Nat} {g : Nat} {w w' : World} (h : But3 b1 b2 g w w') {s : Sl} (hs : s.Ok w) (h1 : s.Off b1) (h2 : s.Off b2) (h3 : s.Off (some g)) : s.Ok w' := by
 refine ⟨hs.len, hs.le, hs.mx, hs.nn, hs.isB, fun hp => ?_⟩
 obtain ⟨b, off, ha, hlt, hc⟩ := hs.lies hp
 have e1 := h1 hp _ ha
 have e2 := h2 hp _ ha
 have e3 := h3 hp _ ha
 simp only [ne_eq, Option.some.injEq] at e3
 refine ⟨b, off, ha, Nat.lt_of_lt_of_le hlt h.size, fun i hi => ?_⟩
 rw [World.cell?_of_block (w := w) (a := ⟨b, off + i, none⟩) (h.block b hlt e1 e2 e3)]
 exact hc i hi
theorem own_blk {w w' : World} {base e sz n : Nat} {v : Value} {xs : List Value} (h : w.ownsRow base e sz v n xs) (hb : ∀ k, v.ownBlock = some k → w'.heap[k]? = w.heap[k]?) : w'.ownsRow base e sz v n xs := by
 refine ⟨h.1, ?_⟩
 rcases h.2 with h2 | ⟨k, cap, cur, h1, h2, h3, h4⟩
 ·exact .inl h2
 ·subst h1
  exact .inr ⟨k, cap, cur, rfl, h2, (hb k rfl).trans h3, h4⟩
theorem But3.own {b1 b2 : Option Nat} {g : Nat} {w w' : World} (h : But3 b1 b2 g w w') {base : Nat} {v : Value} {l : List Int} (ho : cI w base v l) (h1 : ∀ k, v.ownBlock = some k → some k ≠ b1) (h2 : ∀ k, v.ownBlock = some k → some k ≠ b2) (h3 : ∀ k, v.ownBlock = some k → k ≠ g) : cI w' base v l :=
 ⟨own_blk ho.1 (fun k hk => h.block k (ho.1.lt k hk).2 (h1 k hk) (h2 k hk) (h3 k hk)), ho.2⟩
structure Shf (w : World) (gS N : Nat) (P Q : Nat → Sl) (lv wv : Value) (wr : World) : Prop where
 s : Arr wr gS 26 [lv, wv]
 ge : w.heap.size ≤ gS
 lrow : wr.ownsRow w.heap.size 33 1 lv N (gB P N)
 wrow : wr.ownsRow w.heap.size 33 1 wv N (gB Q N)
 apt : Apt lv wv
 p : ∀ i, i < N → cI wr w.heap.size (P i).v (P i).l
 pn : ∀ i, i < N → (P i).n = (P i).l.length
 q : ∀ i, i < N → (Q i).Ok wr
 eq : ∀ i, i < N → (P i).l = (Q i).l
 sz : ∀ i, i < N → (P i).n ≤ 100000
 pp : ∀ i j, i < N → j < N → i ≠ j → ∀ g, (P i).v.ownBlock = some g → (P j).v.ownBlock ≠ some g
 pq : ∀ i j, i < N → j < N → ∀ g, (P i).v.ownBlock = some g → (Q j).Off (some g)
 ql : ∀ i, i < N → (Q i).Off lv.ownBlock
 qw : ∀ i, i < N → (Q i).Off wv.ownBlock
 qs : ∀ i, i < N → (Q i).Off (some gS)
 bel : Below w.heap.size w wr
theorem Shf.later {w : World} {gS N : Nat} {P Q : Nat → Sl} {lv wv : Value} {wr w' : World} (h : Shf w gS N P Q lv wv wr) (hb : Below wr.heap.size wr w') : Shf w gS N P Q lv wv w' :=
 ⟨h.s.later hb, h.ge, iB h.lrow hb, iB h.wrow hb, h.apt, fun i hi => (h.p i hi).later hb, h.pn, fun i hi => (h.q i hi).later hb, h.eq, h.sz, h.pp, h.pq, h.ql, h.qw, h.qs, h.bel.trans (hb.mono h.bel.size)⟩
structure Pend (w : World) (gS N : Nat) (P Q : Nat → Sl) (lv wv : Value) (p q : Sl) (wr : World) : Prop where
 po : cI wr w.heap.size p.v p.l
 pn : p.n = p.l.length
 qo : q.Ok wr
 pp : ∀ i, i < N → ∀ g, (P i).v.ownBlock = some g → p.v.ownBlock ≠ some g
 pq : ∀ i, i < N → ∀ g, p.v.ownBlock = some g → (Q i).Off (some g)
 qp : ∀ i, i < N → ∀ g, (P i).v.ownBlock = some g → q.Off (some g)
 ql : q.Off lv.ownBlock
 qw : q.Off wv.ownBlock
 qs : q.Off (some gS)
 me : ∀ g, p.v.ownBlock = some g → q.Off (some g)
theorem Pend.later {w : World} {gS N : Nat} {P Q : Nat → Sl} {lv wv : Value} {p q : Sl} {wr w' : World} (h : Pend w gS N P Q lv wv p q wr) (hb : Below wr.heap.size wr w') : Pend w gS N P Q lv wv p q w' :=
 ⟨h.po.later hb, h.pn, h.qo.later hb, h.pp, h.pq, h.qp, h.ql, h.qw, h.qs, h.me⟩
theorem Pend.new {w : World} {gS N : Nat} {P Q : Nat → Sl} {lv wv : Value} {p q : Sl} {w0 wr : World} (h : Shf w gS N P Q lv wv w0) (po : cI wr w.heap.size p.v p.l) (pn : p.n = p.l.length) (qo : q.Ok wr) (hp : ∀ g, p.v.ownBlock = some g → w0.heap.size ≤ g) (hq : ∀ y, q.a = some y → w0.heap.size ≤ y.block) (me : ∀ g, p.v.ownBlock = some g → q.Off (some g)) : Pend w gS N P Q lv wv p q wr := by
 refine ⟨po, pn, qo, fun i hi g hg e => ?_, fun i hi g hg hl y hy e => ?_, fun i hi g hg hl y hy e => ?_, fun hl y hy e => ?_, fun hl y hy e => ?_, fun hl y hy e => ?_, me⟩
 ·have := ((h.p i hi).1.lt g hg).2; have := hp g e; omega
 ·have := (h.q i hi).lt hl y hy; have := hp g hg; simp only [Option.some.injEq] at e; omega
 ·have := ((h.p i hi).1.lt g hg).2; have := hq y hy; simp only [Option.some.injEq] at e; omega
 ·have := (h.lrow.lt _ e.symm).2; have := hq y hy; omega
 ·have := (h.wrow.lt _ e.symm).2; have := hq y hy; omega
 ·have := h.s.lt; have := hq y hy; simp only [Option.some.injEq] at e; omega
theorem Shf.put {w : World} {gS N : Nat} {P Q : Nat → Sl} {lv wv lv' wv' : Value} {wr w5 : World} (h : Shf w gS N P Q lv wv wr) {p q : Sl} (hp : Pend w gS N P Q lv wv p q wr) (he : p.l = q.l) (hn : p.n ≤ 100000)
  (hB : But3 lv.ownBlock wv.ownBlock gS wr w5) (hs : Arr w5 gS 26 [lv', wv'])
  (hl : w5.ownsRow w.heap.size 33 1 lv' (N + 1) (gB P N ++ [p.v])) (hw : w5.ownsRow w.heap.size 33 1 wv' (N + 1) (gB Q N ++ [q.v]))
  (hap : Apt lv' wv') (hlb : lv'.ownBlock = lv.ownBlock ∨ ∃ k, lv'.ownBlock = some k ∧ wr.heap.size ≤ k) (hwb : wv'.ownBlock = wv.ownBlock ∨ ∃ k, wv'.ownBlock = some k ∧ wr.heap.size ≤ k) :
  Shf w gS (N + 1) (fun i => if i = N then p else P i) (fun i => if i = N then q else Q i) lv' wv' w5 ∧
  ∀ p' q', Pend w gS N P Q lv wv p' q' wr → (∀ g, p'.v.ownBlock = some g → p.v.ownBlock ≠ some g) → (∀ g, p.v.ownBlock = some g → q'.Off (some g)) → (∀ g, p'.v.ownBlock = some g → q.Off (some g)) → Pend w gS (N + 1) (fun i => if i = N then p else P i) (fun i => if i = N then q else Q i) lv' wv' p' q' w5 := by
 have offl : ∀ s : Sl, s.Ok wr → s.Off lv.ownBlock → s.Off lv'.ownBlock := fun s hok ho => by
  rcases hlb with e | ⟨k, e, hk⟩
  ·rw [e]; exact ho
  ·rw [e]; intro hpos x hx e2; simp only [Option.some.injEq] at e2; have := hok.lt hpos x hx; omega
 have offw : ∀ s : Sl, s.Ok wr → s.Off wv.ownBlock → s.Off wv'.ownBlock := fun s hok ho => by
  rcases hwb with e | ⟨k, e, hk⟩
  ·rw [e]; exact ho
  ·rw [e]; intro hpos x hx e2; simp only [Option.some.injEq] at e2; have := hok.lt hpos x hx; omega
 have okP : ∀ (v : Value) (l : List Int), cI wr w.heap.size v l → cI w5 w.heap.size v l := fun v l ho =>
  hB.own ho (fun k hk e => eJ ho.1 h.lrow (by decide) k hk e) (fun k hk e => eJ ho.1 h.wrow (by decide) k hk e) (fun k hk e => cF ho.1 h.s (by decide) (by rw [hk, e]))
 have hbl : Below w.heap.size w w5 := h.bel.trans ⟨hB.os, hB.tape, hB.output, hB.size, fun k hk => hB.block k (by have := h.bel.size; omega) (fun e => by have := (h.lrow.lt k e.symm).1; omega) (fun e => by have := (h.wrow.lt k e.symm).1; omega) (by have := h.ge; omega)⟩
 refine ⟨⟨hs, h.ge, by rw [← oR]; exact hl, by rw [← oR]; exact hw, hap, fun i hi => ?_, fun i hi => ?_, fun i hi => ?_, fun i hi => ?_, fun i hi => ?_, fun i j hi hj hij => ?_, fun i j hi hj => ?_, fun i hi => ?_, fun i hi => ?_, fun i hi => ?_, hbl⟩, fun p' q' hp' h1 h2 h3 => ?_⟩
 ·by_cases e : i = N
  ·simp only [e, if_true]; exact okP _ _ hp.po
  ·simp only [e, if_false]; exact okP _ _ (h.p i (by omega))
 ·by_cases e : i = N
  ·simp only [e, if_true]; exact hp.pn
  ·simp only [e, if_false]; exact h.pn i (by omega)
 ·by_cases e : i = N
  ·simp only [e, if_true]; exact hB.ok hp.qo hp.ql hp.qw hp.qs
  ·simp only [e, if_false]; exact hB.ok (h.q i (by omega)) (h.ql i (by omega)) (h.qw i (by omega)) (h.qs i (by omega))
 ·by_cases e : i = N
  ·simp only [e, if_true]; exact he
  ·simp only [e, if_false]; exact h.eq i (by omega)
 ·by_cases e : i = N
  ·simp only [e, if_true]; exact hn
  ·simp only [e, if_false]; exact h.sz i (by omega)
 ·by_cases ei : i = N
  ·have ej : j ≠ N := by omega
   simp only [ei, ej, if_true, if_false]
   intro g hg e2
   exact hp.pp j (by omega) g e2 hg
  ·by_cases ej : j = N
   ·simp only [ei, ej, if_true, if_false]; exact hp.pp i (by omega)
   ·simp only [ei, ej, if_false]; exact h.pp i j (by omega) (by omega) hij
 ·by_cases ei : i = N
  ·by_cases ej : j = N
   ·simp only [ei, ej, if_true]; exact hp.me
   ·simp only [ei, ej, if_true, if_false]; exact hp.pq j (by omega)
  ·by_cases ej : j = N
   ·simp only [ei, ej, if_true, if_false]; exact hp.qp i (by omega)
   ·simp only [ei, ej, if_false]; exact h.pq i j (by omega) (by omega)
 ·by_cases e : i = N
  ·simp only [e, if_true]; exact offl q hp.qo hp.ql
  ·simp only [e, if_false]; exact offl _ (h.q i (by omega)) (h.ql i (by omega))
 ·by_cases e : i = N
  ·simp only [e, if_true]; exact offw q hp.qo hp.qw
  ·simp only [e, if_false]; exact offw _ (h.q i (by omega)) (h.qw i (by omega))
 ·by_cases e : i = N
  ·simp only [e, if_true]; exact hp.qs
  ·simp only [e, if_false]; exact h.qs i (by omega)
 ·refine ⟨okP _ _ hp'.po, hp'.pn, hB.ok hp'.qo hp'.ql hp'.qw hp'.qs, fun i hi => ?_, fun i hi => ?_, fun i hi => ?_, offl _ hp'.qo hp'.ql, offw _ hp'.qo hp'.qw, hp'.qs, hp'.me⟩
  ·by_cases e : i = N
   ·simp only [e, if_true]; intro g hg e2; exact h1 g e2 hg
   ·simp only [e, if_false]; exact hp'.pp i (by omega)
  ·by_cases e : i = N
   ·simp only [e, if_true]; exact h3
   ·simp only [e, if_false]; exact hp'.pq i (by omega)
  ·by_cases e : i = N
   ·simp only [e, if_true]; exact h2
   ·simp only [e, if_false]; exact hp'.qp i (by omega)
end Go.Proofs.YtejagcngbgnogaaGreat
