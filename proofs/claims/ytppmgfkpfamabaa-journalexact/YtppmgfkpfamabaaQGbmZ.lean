import Derived.Test.YtppmgfkpfamabaaQGbjZ
import Derived.Test.YtppmgfkpfamabaaQLkW14
import Derived.Test.YtppmgfkpfamabaaQJnK
import Derived.Deep.RegionHeld3
set_option maxHeartbeats 4000000
set_option maxRecDepth 100000
set_option linter.unusedSimpArgs false
set_option linter.unusedVariables false
namespace Go.Proofs.Ytppmgfkpfamabaa
open Go.RowKit
def wz (w : World) : World := { w with heap := #[] }
theorem Hs17.startRow {w : World} {g : Nat} {t : TypeId} {c : List Value} (hA : Arr w g t c) : Hs17 (wz w) [(g, t, c)] (fun w' => w.heap.size ≤ w'.heap.size ∧ ∀ k, k < w.heap.size → k ≠ g → w'.heap[k]? = w.heap[k]?) w := by
 refine ⟨by simp, fun p hp => ?_, fun p hp => Nat.zero_le _, ⟨rfl, rfl, rfl, Nat.zero_le _, fun k hk => absurd hk (Nat.not_lt_zero _)⟩, fun w' h1 h2 => ⟨h1, fun k hk hne => h2 k hk (fun p hp => ?_)⟩⟩
 ·rw [List.mem_singleton.1 hp]; exact hA
 ·rw [List.mem_singleton.1 hp]; exact fun e => hne e.symm
theorem Hs17.buts {w wr : World} {g : Nat} {rows : List Row} (hS : Hs17 (wz w) rows (fun w' => w.heap.size ≤ w'.heap.size ∧ ∀ k, k < w.heap.size → k ≠ g → w'.heap[k]? = w.heap[k]?) wr) : Buts (· = g) w wr :=
 ⟨hS.bel.os, hS.bel.tape, hS.bel.output, hS.K.1, fun k hk hne => hS.K.2 k hk hne⟩
theorem pt_set {ys : List Value} {i : Nat} (hi : i < ys.length) (v : Value) : Pt ys i [v] (ys.set i v) :=
 ⟨ys.take i, [ys[i]], ys.drop (i + 1), by simp, by rw [List.set_eq_take_append_cons_drop, if_pos hi]; rfl, by rw [List.length_take]; omega, rfl⟩
theorem Mk.arr {B g n c : Nat} {l : List Int} {w : World} (h : Mk B g n c l w) : ∃ ys, Arr w g 5 ys ∧ n + 40 ≤ ys.length ∧ n + 40 ≤ c ∧ c ≤ maxLen ∧ (∀ i, n ≤ i → i < n + 40 → ys[i]? = some (.int .u8 195)) ∧ B ≤ g := by
 obtain ⟨⟨h0, h1⟩, hB, hl⟩ := h
 rcases h1 with ⟨h, -⟩ | ⟨g', cap, cur, h, h1, h2, h3, h4, h5, h6⟩
 ·cases h
 ·simp only [Value.slice.injEq, Option.some.injEq, Addr.mk.injEq, true_and, and_true] at h
  obtain ⟨rfl, rfl⟩ := h
  refine ⟨cur.toList, ?_, ?_, h3, h4, fun i hi hi2 => ?_, h1⟩
  ·unfold Arr; simpa using h2
  ·rw [Array.length_toList, h5]; omega
  ·have e : (cur.toList.take ((n + 40) * 1))[i]? = (U8 (l ++ mk40))[i]? := by rw [h6]
   rw [List.getElem?_take, if_pos (by omega)] at e
   rw [e]
   show ((l ++ mk40).map fun x => Value.int .u8 x)[i]? = _
   rw [List.getElem?_map, List.getElem?_append_right (by omega)]
   have : mk40[i - l.length]? = some 195 := by
    unfold mk40; rw [List.getElem?_replicate, if_pos (by omega)]
   rw [this]; rfl
theorem Mk.sl {B g n c : Nat} {l : List Int} {w : World} (h : Mk B g n c l w) : Sl.Ok w ⟨some ⟨g, 0, none⟩, n, c, l⟩ := by
 obtain ⟨ys, hA, h1, h2, h3, -, -⟩ := h.arr
 have hp := own_pre (n := n) h.1 (h.2.1.append mk40_isB) (by omega)
 have e : (l ++ mk40).take n = l := by rw [List.take_left' h.2.2]
 rw [e] at hp
 exact hp
theorem Mk.later {B g n c : Nat} {l : List Int} {w w' : World} (h : Mk B g n c l w) (hb : Below w.heap.size w w') : Mk B g n c l w' := ⟨own_laterG h.1 hb, h.2⟩
theorem left_any (B g c : Nat) (d : Sl) (w : World) (hM : Mk B g d.n c d.l w) (hd : d.Ok w) (hdn : d.n ≤ 1048576) :
  Calls Try.prog 16 #[.slice (some ⟨g, 0, none⟩) d.n c, d.v] w fun e w' => e = .returned (.bool true) ∧ Buts (· = g) w w' := by
 obtain ⟨da, dn, dc, l⟩ := d
 simp only at hM hdn
 simp only [Sl.v]
 have hsame := sameJ_any ⟨some ⟨g, 0, none⟩, dn, c, l⟩ ⟨da, dn, dc, l⟩ w hM.sl hd (.inl (by show dn ≤ _; omega))
 simp only [Sl.v, decide_true] at hsame
 obtain ⟨ys, hA, hyl, hcn, hcm, hy, -⟩ := hM.arr
 unfold maxLen at hcm
 have HSM := hide hsame
 have HA := hide hA
 have HY := hide hy
 clear hM hd hsame hA hy
 go_enter Try.func16, Try.ntmps16
 have hwd : IntKind.i64.wrap ((dn : Int) + 40) = (dn : Int) + 40 := by rw [IntKind.wrap_i64]; omega
 go_upto_region 1 with fail
 refine rgZ4 ?_
 refine vZ (.slice (some ⟨g, 0, none⟩) (dn + 40) c) (ex_upto14 (.tmp 9) (.tmp 12) rfl g dn c (dn + 40) (by omega) (by omega) rfl (by show (Value.int .i64 ((dn : Int) + 40)) = .int .i64 ((dn + 40 : Nat) : Int); simp)) ?_
 refine snZ1 ?_
 clear hwd
 go_wp2_with (go_at_call 10; refine (unhide HSM).mono ?_; rintro e w1 ⟨rfl, kd, hw1⟩; have B1 : Below w.heap.size w w1 := (by rw [hw1]; exact below_drewN (Below.refl _ _) kd); clear hw1)
 go_loopw [6, 7] (fun v i wr => ∃ j : Nat, j ≤ 40 ∧ v = .bool true ∧ i = .int .i64 ((dn + j : Nat) : Int) ∧ Below w.heap.size w wr) (fun _ i _ => dn + 40 - (intOf i).toNat)
 case atStart => exact ⟨0, by omega, rfl, by simp, B1⟩
 case round =>
  clear B1
  obtain ⟨j, hj, rfl, rfl, hbl⟩ := hrel
  have hA' := (unhide HA).later hbl
  by_cases hlt : j < 40
  ·have hc := hA'.cell (dn + j)
   rw [unhide HY (dn + j) (by omega) (by omega)] at hc
   have hz1 : dn + j < dn + 40 := by omega
   have hz2 : ((dn + j : Nat) : Int) < (dn : Int) + 40 := by omega
   clear hA'
   go_wp2
   go_roundw
   case rel => exact ⟨j + 1, by omega, rfl, by go_num, hbl⟩
   case measure => simp [intOf]; omega
  ·have hj40 : j = 40 := by omega
   subst hj40
   obtain ⟨z, hz⟩ : ∃ z : Int, z = ((dn + 40 : Nat) : Int) := ⟨_, rfl⟩
   rw [← hz]
   have hz3 : ¬ z < (dn : Int) + 40 := by omega
   clear hz
   have hS := Hs17.startRow hA'
   have hyl' : Hid (dn + 40 ≤ ys.length) := hide hyl
   have hb0 : Buts (fun k => k = g) w wr := Buts.of_below hbl
   clear hyl hbl hA'
   obtain ⟨wb, hwbe⟩ : ∃ wb, wb = wr := ⟨_, rfl⟩
   subst hwbe
   go_wp2_with fail
   go_loopw [8] (fun i wx => ∃ (j : Nat) (ys' : List Value), j ≤ dn + 40 ∧ i = .int .i64 (j : Int) ∧ ys'.length = ys.length ∧ Hs17 (wz wb) [(g, 5, ys')] (fun w' => wb.heap.size ≤ w'.heap.size ∧ ∀ k, k < wb.heap.size → k ≠ g → w'.heap[k]? = wb.heap[k]?) wx) (fun i _ => dn + 40 - (intOf i).toNat)
   case atStart => exact ⟨0, ys, by omega, rfl, rfl, hS⟩
   case round =>
    clear hS
    obtain ⟨j, ys', hj2, rfl, hyy, hS⟩ := hrel
    by_cases hlt2 : j < dn + 40
    ·have hz1 : (j : Int) < (dn : Int) + 40 := by omega
     have hjl : j < ys'.length := by rw [hyy]; have := unhide hyl'; omega
     go_upto_region 10 with fail
     refine rgZ3 ?_
     refine wl_store (by kernel_rfl) 5 (.tmp 41) (.const (.int .u8 60)) rfl 0 rfl j rfl [.int .u8 60] (ys'.set j (.int .u8 60)) (pt_set hjl _) rfl (by kernel_rfl) (one_one rfl) hS ?_
     intro w5 hS5
     change Hs17 (wz wb) [(g, 5, ys'.set j (.int .u8 60))] _ w5 at hS5
     clear hS
     simp [Act.put]
     refine wpList_nil ?_
     go_wp2_with fail
     go_roundw
     case rel => exact ⟨j + 1, _, by omega, by go_num, by rw [List.length_set]; exact hyy, hS5⟩
     case measure => simp [intOf]; omega
    ·have hz1 : ¬ (j : Int) < (dn : Int) + 40 := by omega
     have HB := hide (hb0.trans hS.buts)
     clear hS hb0
     go_wp2
     go_ret
     exact ⟨rfl, unhide HB⟩
def u8C (x : Int) : List Value := [.int .u8 x]
theorem u8C_len (x : Int) : (u8C x).length = 1 := rfl
theorem one_u8C (x : Int) : ∀ v ∈ u8C x, v.oneCell' = true := by intro v hv; simp [u8C] at hv; subst hv; rfl
theorem flat_u8 (l : List Int) : l.flatMap u8C = U8 l := by
  induction l with
  | nil => rfl
  | cons x t ih => rw [List.flatMap_cons, ih]; rfl
theorem Try.infoU8 : (Try.prog.info? 5).map (fun i => (i.zero, i.size, i.bytes)) = some (some (.int .u8 0), 1, 1) := by kernel_rfl
theorem Rw.flat {B : Nat} {v : Value} {l : List Int} {w : World} (h : Rw B v l w) : w.ownsRow B 5 1 v l.length (l.flatMap u8C) := by rw [flat_u8]; exact h.1
theorem Sl.sx {s : Sl} {w : World} (h : s.Ok w) : Sx.Ok u8C 1 w (⟨s.a, s.n, s.c, s.l⟩ : Sx Int) := by
  refine ⟨h.len, h.le, h.mx, h.nn, fun h0 => ?_⟩
  obtain ⟨b, off, e, hlt, hc⟩ := h.lies (by have := h.len; simp only at h0; omega)
  refine ⟨b, off, e, hlt, fun i x hi j v hv => ?_⟩
  have hil := (List.getElem?_eq_some_iff.1 hi).1
  simp only at hi hil
  have hj : j = 0 := by have := (List.getElem?_eq_some_iff.1 hv).1; simp [u8C] at this; omega
  subst hj
  simp [u8C] at hv
  subst hv
  have := hc i hil
  rw [Nat.mul_one, Nat.add_zero, this]
  rw [List.getD_eq_getElem?_getD, hi]; rfl
section
variable {ops : Array Oper} {o : Oper} {rest : List Oper} {a : Act} {w w0 : World} {Q : Exit → Act → World → Prop} {rows : List Row} {K : World → Prop}
theorem wl_appB (hw : Region.wanted o (yielded ops a.tmps) = true) (s x : Operand) (ho : o.op = .call { callee := .builtin .append, args := #[s, x], argTypes := #[22, 22] })
    {base : Nat} {v : Value} {xs : List Int} (hs : a.eval s = v) (hown : w.ownsRow base 5 1 v xs.length (xs.flatMap u8C)) (y : Sl) (hy : y.Ok w) (hx : a.eval x = y.v) (hb : xs.length + y.n ≤ 140737488355328) (hbase : base ≤ w.heap.size)
    (h : ∀ v' w', w'.ownsRow base 5 1 v' (xs ++ y.l).length ((xs ++ y.l).flatMap u8C) → w.grownBy w' v.ownBlock → (v'.ownBlock = v.ownBlock ∨ v'.ownBlock = some w.heap.size) → wpList Try.prog ops Q rest (a.put o.dst v') w') : wpList Try.prog ops Q (o :: rest) a w :=
  wl hw fun k hk => op_appendL s x 22 ho Try.underlying22 Try.infoU8 rfl (by omega) hs hown ⟨y.a, y.n, y.c, y.l⟩ (Sl.sx hy) (fun z _ => u8C_len z) (fun z _ => one_u8C z) hx (by simp only [Nat.mul_one]; exact hb) (by omega) hbase (fun v' w' h1 h2 h3 => hk _ _ (h v' w' h1 h2 h3))
theorem wl_loadC14 (hw : Region.wanted o (yielded ops a.tmps) = true) (t : TypeId) (x : Operand) (ho : o.op = .load t x) (b off : Nat) (hx : a.eval x = .pointer (some ⟨b, off, none⟩)) (v : Value) (hc : w.cell? ⟨b, off, none⟩ = some v) {d : TypeDesc} (hu : Try.prog.underlying t = some d) (hd : d.isRow = false)
    (h : wpList Try.prog ops Q rest (a.put o.dst v) w) : wpList Try.prog ops Q (o :: rest) a w := by
  have hA : (isAgg t).run Try.prog w = .ok false w := by
    unfold isAgg
    rw [Sem.run_bind, run_underlying hu w]
    cases d <;> simp_all [TypeDesc.isRow]
  have hl : (loadVar t ⟨b, off, none⟩).run Try.prog w = .ok v w := by
    simp [loadVar, Sem.run_bind, hA, run_load, hc]
  refine wv v hw ?_ h
  unfold execOp
  simp only [ho, hx, Instr.loadAt, Instr.sureAddr, Sem.run_bind, Sem.run_pure, Result.andThen_ok, hl]
end
theorem sx_cell {q : Sx Sl} {w : World} (h : q.Ok slC 1 w) {k : Nat} (hk : k < q.n) : ∃ b off s, q.a = some ⟨b, off, none⟩ ∧ q.xs[k]? = some s ∧ w.cell? ⟨b, off + k, none⟩ = some s.v := by
  have hl := h.len
  have hs : q.xs[k]? = some (q.xs[k]'(by omega)) := List.getElem?_eq_getElem (by omega)
  obtain ⟨b, off, e, -, hr⟩ := h.at_ hs
  have := hr 0 _ rfl
  rw [Nat.mul_one, Nat.add_zero] at this
  exact ⟨b, off, _, e, hs, this⟩
def SlsOk (w : World) (a : Option Addr) (ps : List Sl) : Prop := LiesV w a (ps.map Sl.v) ∧ ∀ s ∈ ps, s.Ok w
theorem SlsOk.later {w w' : World} {a : Option Addr} {ps : List Sl} (h : SlsOk w a ps) (hb : Below w.heap.size w w') : SlsOk w' a ps := ⟨h.1.later hb, fun s hs => (h.2 s hs).later hb⟩
theorem sameFound_any (e0 c0 : Int) (s1 s2 : Sl) (a1 a2 : Option Addr) (k1 k2 : Nat) (ps qs : List Sl) (w : World) (h1 : s1.Ok w) (h2 : s2.Ok w) (hp : SlsOk w a1 ps) (hq : SlsOk w a2 qs)
    (hs : s1.n ≤ 1099511627776 ∨ s2.n ≤ 1099511627776) (hpq : (∀ s ∈ ps, s.n ≤ 1099511627776) ∨ (∀ s ∈ qs, s.n ≤ 1099511627776)) (hpl : ps.length ≤ 1099511627776) (hql : qs.length ≤ 1099511627776) :
    Calls Try.prog 39 #[.agg #[.int .i64 e0, s1.v, .slice a1 ps.length k1, .int .i64 c0], .agg #[.int .i64 e0, s2.v, .slice a2 qs.length k2, .int .i64 c0]] w fun e w' => e = .returned (.bool (decide (s1.l = s2.l ∧ ps.map Sl.l = qs.map Sl.l))) ∧ Below w.heap.size w w' := by
  obtain ⟨W0, hW0⟩ : ∃ W, W = (w.alloc (.cells #[.int .i64 e0, s1.v, .slice a1 ps.length k1, .int .i64 c0] 79)).alloc (.cells #[.int .i64 e0, s2.v, .slice a2 qs.length k2, .int .i64 c0] 79) := ⟨_, rfl⟩
  have B0 : Below w.heap.size w W0 := by rw [hW0]; exact bel_then (below_alloc w _) (below_alloc w _).size (below_alloc _ _)
  have A1 : Arr W0 w.heap.size 79 [.int .i64 e0, s1.v, .slice a1 ps.length k1, .int .i64 c0] := by rw [hW0]; exact (Arr.new w _ [.int .i64 e0, s1.v, .slice a1 ps.length k1, .int .i64 c0]).later (below_alloc _ _)
  have A2 : Arr W0 (w.heap.size + 1) 79 [.int .i64 e0, s2.v, .slice a2 qs.length k2, .int .i64 c0] := by
    have h := Arr.new (w.alloc (.cells #[.int .i64 e0, s1.v, .slice a1 ps.length k1, .int .i64 c0] 79)) 79 [.int .i64 e0, s2.v, .slice a2 qs.length k2, .int .i64 c0]
    rw [hW0]
    simpa using h
  have hS := sameJ_any s1 s2 W0 (h1.later B0) (h2.later B0) hs
  obtain ⟨pn, hpn⟩ : ∃ n, n = ps.length := ⟨_, rfl⟩
  obtain ⟨qn, hqn⟩ : ∃ n, n = qs.length := ⟨_, rfl⟩
  rw [← hpn, ← hqn]
  rw [← hpn] at A1 hpl
  rw [← hqn] at A2 hql
  have hW0' : W0 = (w.alloc (.cells #[.int .i64 e0, s1.v, .slice a1 pn k1, .int .i64 c0] 79)).alloc (.cells #[.int .i64 e0, s2.v, .slice a2 qn k2, .int .i64 c0] 79) := by rw [hpn, hqn]; exact hW0
  have HPN := hide hpn
  have HQN := hide hqn
  have HW0 := hide hW0'
  have HB0 := hide B0
  have HA1 := hide A1
  have HA2 := hide A2
  have HP := hide (hp.later B0)
  have HQ := hide (hq.later B0)
  have HPQ := hide hpq
  obtain ⟨s1a, s1n, s1c, s1l⟩ := s1
  obtain ⟨s2a, s2n, s2c, s2l⟩ := s2
  simp only [Sl.v] at HW0 hS HA1 HA2 ⊢
  clear hW0 hW0' B0 A1 A2 hp hq h1 h2 hs hpq hpn hqn
  by_cases hsl : s1l = s2l
  · have HD1 : Hid (decide (s1l = s2l ∧ ps.map Sl.l = qs.map Sl.l) = decide (ps.map Sl.l = qs.map Sl.l)) := hide (by simp [hsl])
    rw [unhide HD1]
    rw [decide_eq_true hsl] at hS
    clear HD1 hsl
    by_cases hlen : pn = qn
    · subst hlen
      obtain ⟨D, hD⟩ : ∃ D, D = decide (ps.map Sl.l = qs.map Sl.l) := ⟨_, rfl⟩
      rw [← hD]
      have HD := hide hD
      clear hD
      go_enter Try.func39, Try.ntmps39
      go_wp2_with (go_at_call 10; rw [← unhide HW0]; refine hS.mono ?_; rintro e w1 ⟨rfl, k, h1⟩; clear hS; have B1 : Below W0.heap.size W0 w1 := (by rw [h1]; exact below_drewN (Below.refl _ _) k); have A1 := (unhide HA1).later B1; have A2 := (unhide HA2).later B1; have x2 := A1.cell 2; have y2 := A2.cell 2; simp at x2 y2; have HB1 := hide B1; clear h1 B1 A1 A2)
      clear x2 y2
      go_loopw [5] (fun i wr => ∃ k : Nat, k ≤ pn ∧ i = .int .i64 k ∧ Hid ((ps.map Sl.l).take k = (qs.map Sl.l).take k) ∧ Below W0.heap.size W0 wr) (fun i _ => pn - (intOf i).toNat)
      case atStart => exact ⟨0, Nat.zero_le _, rfl, hide rfl, unhide HB1⟩
      case round =>
        obtain ⟨k, hk, rfl, HT, hB⟩ := hrel
        have A1 := (unhide HA1).later hB
        have A2 := (unhide HA2).later hB
        have x2 := A1.cell 2
        have y2 := A2.cell 2
        simp at x2 y2
        by_cases hlt : k < pn
        · have hkp : k < ps.length := by rw [← unhide HPN]; exact hlt
          have hkq : k < qs.length := by rw [← unhide HQN]; exact hlt
          have HP' := (unhide HP).later hB
          have HQ' := (unhide HQ).later hB
          obtain ⟨b1, o1, ha1, -, hc1⟩ := HP'.1 (by rw [List.length_map]; omega)
          obtain ⟨b2, o2, ha2, -, hc2⟩ := HQ'.1 (by rw [List.length_map]; omega)
          have u1 := hc1 k (ps[k].v) (by simp [hkp])
          have u2 := hc2 k (qs[k].v) (by simp [hkq])
          have ok1 := HP'.2 ps[k] (List.getElem_mem hkp)
          have ok2 := HQ'.2 qs[k] (List.getElem_mem hkq)
          have hbd : ps[k].n ≤ 1099511627776 ∨ qs[k].n ≤ 1099511627776 := (unhide HPQ).imp (fun h => h _ (List.getElem_mem hkp)) (fun h => h _ (List.getElem_mem hkq))
          have HN : Hid ((ps.map Sl.l).take (k + 1) = (ps.map Sl.l).take k ++ [ps[k].l] ∧ (qs.map Sl.l).take (k + 1) = (qs.map Sl.l).take k ++ [qs[k].l]) := hide ⟨by rw [List.take_succ_eq_append_getElem (by rw [List.length_map]; exact hkp), List.getElem_map], by rw [List.take_succ_eq_append_getElem (by rw [List.length_map]; exact hkq), List.getElem_map]⟩
          have HGE : Hid (ps.map Sl.l = qs.map Sl.l → ps[k].l = qs[k].l) := hide (fun h => by
            have h1 : (ps.map Sl.l)[k]? = (qs.map Sl.l)[k]? := by rw [h]
            simpa [hkp, hkq] using h1)
          generalize ps[k] = sp at u1 ok1 hbd HN HGE
          generalize qs[k] = sq at u2 ok2 hbd HN HGE
          subst ha1 ha2
          have HS : Hid (∀ j, Calls Try.prog 10 #[sp.v, sq.v] (wr.drewN j) fun e w' => e = .returned (.bool (decide (sp.l = sq.l))) ∧ ∃ k, w' = wr.drewN k) := hide (fun j => (sameJ_any sp sq (wr.drewN j) (ok1.drewN' j) (ok2.drewN' j) hbd).mono (fun e w' ⟨h1, i, h2⟩ => ⟨h1, j + i, h2.trans (World.drewN_drewN _ _ _)⟩))
          obtain ⟨pa, pm, pc, pl⟩ := sp
          obtain ⟨qa, qm, qc, ql⟩ := sq
          simp only [Sl.v] at u1 u2 HS
          have hkz : (k : Int) < (pn : Int) := by omega
          have HBr := hide hB
          clear HP' HQ' hc1 hc2 ok1 ok2 hbd hkp hkq A1 A2 hB
          have hx : ∀ (W : World), W = wr → True := fun _ _ => trivial
          by_cases hpq : pl = ql
          · have HT' : Hid ((ps.map Sl.l).take (k + 1) = (qs.map Sl.l).take (k + 1)) := hide (by rw [(unhide HN).1, (unhide HN).2, unhide HT, hpq])
            rw [decide_eq_true hpq] at HS
            clear hpq hx
            go_wp2_with fail
            go_region_held3 (fun w' => w'.cell? ⟨w.heap.size, 2, none⟩ = some (.slice (some ⟨b1, o1, none⟩) pn k1) ∧ w'.cell? ⟨w.heap.size + 1, 2, none⟩ = some (.slice (some ⟨b2, o2, none⟩) pn k2) ∧ w'.cell? ⟨b1, o1 + k, none⟩ = some (.slice pa pm pc) ∧ w'.cell? ⟨b2, o2 + k, none⟩ = some (.slice qa qm qc)) (go_keep) (first | (go_at_call 10; refine (unhide HS 1).mono ?_; rintro e w3 ⟨rfl, j, rfl⟩))
            go_wp2
            go_roundw
            case rel => exact ⟨k + 1, by omega, by go_num, HT', below_drewN (unhide HBr) _⟩
            case measure => simp [intOf]; omega
          · have HF : Hid (D = false) := hide (by rw [unhide HD]; exact decide_eq_false (fun h => hpq (unhide HGE h)))
            rw [decide_eq_false hpq] at HS
            clear hpq hx
            go_wp2_with fail
            go_region_held3 (fun w' => w'.cell? ⟨w.heap.size, 2, none⟩ = some (.slice (some ⟨b1, o1, none⟩) pn k1) ∧ w'.cell? ⟨w.heap.size + 1, 2, none⟩ = some (.slice (some ⟨b2, o2, none⟩) pn k2) ∧ w'.cell? ⟨b1, o1 + k, none⟩ = some (.slice pa pm pc) ∧ w'.cell? ⟨b2, o2 + k, none⟩ = some (.slice qa qm qc)) (go_keep) (first | (go_at_call 10; refine (unhide HS 1).mono ?_; rintro e w3 ⟨rfl, j, rfl⟩))
            go_wp2
            go_ret
            rw [unhide HF]
            exact ⟨rfl, below_drewN (bel_then (unhide HB0) (unhide HB0).size (unhide HBr)) _⟩
        · have hkd : decide ((k : Int) < (pn : Int)) = false := by simp; omega
          have HF : Hid (D = true) := hide (by
            rw [unhide HD]
            refine decide_eq_true ?_
            have h := unhide HT
            rw [List.take_of_length_le (by rw [List.length_map, ← unhide HPN]; omega), List.take_of_length_le (by rw [List.length_map, ← unhide HQN]; omega)] at h
            exact h)
          have HBr := hide hB
          clear A1 A2 hB
          go_wp2
          go_ret
          rw [unhide HF]
          exact ⟨rfl, bel_then (unhide HB0) (unhide HB0).size (unhide HBr)⟩
    · have HD : Hid (decide (ps.map Sl.l = qs.map Sl.l) = false) := hide (decide_eq_false (fun h => hlen (by have h1 := congrArg List.length h; rw [List.length_map, List.length_map, ← unhide HPN, ← unhide HQN] at h1; exact h1)))
      rw [unhide HD]
      have hne : ((pn : Int) != (qn : Int)) = true := by rw [bne_iff_ne]; omega
      have hne2 : ((pn : Int) == (qn : Int)) = false := by rw [beq_eq_false_iff_ne]; omega
      clear hlen
      go_enter Try.func39, Try.ntmps39
      go_wp2_with (go_at_call 10; rw [← unhide HW0]; refine hS.mono ?_; rintro e w1 ⟨rfl, k, h1⟩; clear hS; have B1 : Below W0.heap.size W0 w1 := (by rw [h1]; exact below_drewN (Below.refl _ _) k); have A1 := (unhide HA1).later B1; have A2 := (unhide HA2).later B1; have x2 := A1.cell 2; have y2 := A2.cell 2; simp at x2 y2; have HB1 := hide B1; clear h1 B1 A1 A2)
      go_ret
      exact ⟨rfl, bel_then (unhide HB0) (unhide HB0).size (unhide HB1)⟩
  · have HD : Hid (decide (s1l = s2l ∧ ps.map Sl.l = qs.map Sl.l) = false) := hide (decide_eq_false (fun h => hsl h.1))
    rw [unhide HD]
    rw [decide_eq_false hsl] at hS
    clear hsl
    go_enter Try.func39, Try.ntmps39
    go_wp2_with (go_at_call 10; rw [← unhide HW0]; refine hS.mono ?_; rintro e w1 ⟨rfl, k, h1⟩; clear hS; have B1 : Below W0.heap.size W0 w1 := (by rw [h1]; exact below_drewN (Below.refl _ _) k); have A1 := (unhide HA1).later B1; have A2 := (unhide HA2).later B1; have x2 := A1.cell 2; have y2 := A2.cell 2; simp at x2 y2; have HB1 := hide B1; clear h1 B1 A1 A2)
    go_ret
    exact ⟨rfl, bel_then (unhide HB0) (unhide HB0).size (unhide HB1)⟩
def Rx.sl (x : Rx) : Sl := ⟨x.a, x.p.length, x.p.length, x.p⟩
theorem Rx.Own.ok {B : Nat} {W : World} {x : Rx} (h : x.Own B W) : x.sl.Ok W := by
  obtain ⟨ho, hb, hl⟩ := h
  rcases ho.2 with ⟨h1, h2⟩ | ⟨g, cap, cur, h1, -⟩
  · simp only [Value.slice.injEq] at h1
    obtain ⟨e1, e2, -⟩ := h1
    have : x.p = [] := List.length_eq_zero_iff.1 e2
    refine ⟨rfl, Nat.le_refl _, by simp only [Rx.sl]; unfold maxLen; omega, fun _ => by simp [Rx.sl, this], by simp only [Rx.sl]; exact hb, ?_⟩
    simp only [Rx.sl, this]
    exact Lies.nil _ _
  · simp only [Value.slice.injEq] at h1
    obtain ⟨e1, -, e3⟩ := h1
    rw [e1] at ho
    have h := Sl.Ok.of_own ho hb
    refine ⟨rfl, Nat.le_refl _, by simp only [Rx.sl]; unfold maxLen; omega, fun hn => by simp only [Rx.sl] at hn; rw [e1] at hn; simp at hn, hb, ?_⟩
    simp only [Rx.sl]
    rw [e1]
    exact h.lies
theorem rx_map (xs : List Rx) : (xs.map Rx.sl).map Sl.l = xs.map Rx.p := by rw [List.map_map]; rfl
section
variable {ops : Array Oper} {o : Oper} {rest : List Oper} {a : Act} {w : World} {Q : Exit → Act → World → Prop}
theorem wl_appF (hw : Region.wanted o (yielded ops a.tmps) = true) (s x : Operand) (ho : o.op = .call { callee := .builtin .append, args := #[s, x], argTypes := #[22, 22] })
    (a_ : Option Addr) (t : Nat) (l : List Int) (hs : a.eval s = .slice a_ t t) (hd : Sl.Ok w ⟨a_, t, t, l⟩) (g : Nat) (z : Int) (hz : 0 ≤ z ∧ z ≤ 255) (hy : Sl.Ok w ⟨some ⟨g, 0, none⟩, 1, 1, [z]⟩) (hx : a.eval x = .slice (some ⟨g, 0, none⟩) 1 1) (ht : t ≤ 1000000)
    (h : ∀ v' w', Rw w.heap.size v' (l ++ [z]) w' → Below w.heap.size w w' → wpList Try.prog ops Q rest (a.put o.dst v') w') : wpList Try.prog ops Q (o :: rest) a w := by
  have hl : l.length = t := hd.len
  have hB : IsB (l ++ [z]) := hd.isB.append (fun y hy => by simp at hy; omega)
  cases ha : a_ with
  | none =>
    have h0 := hd.nn ha
    simp only at h0
    obtain ⟨h0, -⟩ := h0
    subst h0
    have hl0 : l = [] := List.eq_nil_of_length_eq_zero hl
    subst hl0
    rw [ha] at hs
    refine wl_appB hw s x ho (base := w.heap.size) (v := .slice none 0 0) (xs := []) hs (World.ownsRow_nil _ _ _ _) ⟨some ⟨g, 0, none⟩, 1, 1, [z]⟩ hy hx (by simp) (Nat.le_refl _) ?_
    intro v' w' h1 h2 h3
    rw [flat_u8] at h1
    exact h v' w' ⟨h1, hB⟩ (own_belG (row := none) (World.ownsRow_nil w w.heap.size 5 1) h2 (Nat.le_refl _) (Nat.le_refl _))
  | some b =>
    rw [ha] at hs
    obtain ⟨i, hi, hiz, his, hib⟩ := info_parts Try.infoB
    have hcl := hd.cells b ha
    have hcy := hy.cells ⟨g, 0, none⟩ rfl
    have hr := run_append_grow (P := Try.prog) (w := w) 22 o.type 5 i (.int .u8 0) Try.underlying22 hi hiz b t t (U8 l) (by rw [his]; simp [hl]) hcl ⟨g, 0, none⟩ 1 1 (U8 [z]) (by rw [his]; rfl) hcy (by omega) (by omega) (by rw [hib]; exact growslice_fits (by omega) (by omega))
    refine wl hw fun k hk => ?_
    unfold Oper.wp execOp
    simp only [ho, resolve, invoke, builtin, Sem.run_bind, Sem.run_pure, Result.andThen_ok, List.map_toArray, List.map_cons, List.map_nil, hs, hx, hr]
    have hc1 := grownCap_ge w (t + 1) t 5
    have hc2 := grownCap_le_maxLen w (t + 1) t 5 (by unfold maxLen; omega)
    refine hk _ _ (h _ _ ⟨⟨by simp, .inr ⟨w.heap.size, _, _, by simp [hl], Nat.le_refl _, heap_alloc_last w.drew (.cells ((U8 l).toArray ++ (U8 [z]).toArray ++ Builtin.zeroCells (Value.cells (.int .u8 0)) (grownCap w (t + 1) t 5 - (t + 1))) 5), by simp [hl]; exact hc1, hc2, ?_, ?_⟩⟩, hB⟩ (show Below _ _ _ from ⟨rfl, rfl, rfl, by simp, fun k hk => Below.heap_alloc w _ k hk⟩))
    · rw [Array.size_append, Array.size_append, size_zeroCells]
      simp [Value.cells, hl]
      omega
    · have e := List.take_left' (l₁ := (U8 l) ++ [Value.int .u8 z]) (l₂ := (Builtin.zeroCells (Value.cells (.int .u8 0)) (grownCap w (t + 1) t 5 - (t + 1))).toList) (i := t + 1) (by simp [hl])
      simpa [U8, hl] using e
end
def Pk (W : World) (s : Sl) (v : Option Int) : Prop := 0 < s.n → ∃ b o ys, s.a = some ⟨b, o, none⟩ ∧ Arr W b 5 ys ∧ o + s.n ≤ ys.length ∧ ∀ j, j < s.n → ∀ z, v = some z → ys[o + j]? = some (.int .u8 z)
theorem Pk.keep {W W' : World} {s : Sl} {v : Option Int} (h : Pk W s v) (hb : 0 < s.n → ∀ x, s.a = some x → x.block < W.heap.size → W'.heap[x.block]? = W.heap[x.block]?) : Pk W' s v := fun h0 => by
  obtain ⟨b, o, ys, e, hA, h1, h2⟩ := h h0
  exact ⟨b, o, ys, e, (hb h0 _ e hA.lt).trans hA, h1, h2⟩
theorem Pk.later {W W' : World} {s : Sl} {v : Option Int} (h : Pk W s v) (hb : Below W.heap.size W W') : Pk W' s v := h.keep (fun _ x _ hx => hb.block _ hx)
def AptJ (ss : List Sl) : Prop := ss.Pairwise fun s t => 0 < s.n → 0 < t.n → ∀ x y, s.a = some x → t.a = some y → x.block ≠ y.block
theorem AptJ.ne {ss : List Sl} (h : AptJ ss) {i k : Nat} {s t : Sl} (hi : ss[i]? = some s) (hk : ss[k]? = some t) (hik : i ≠ k) (h1 : 0 < s.n) (h2 : 0 < t.n) {x y : Addr} (hx : s.a = some x) (hy : t.a = some y) : x.block ≠ y.block := by
  obtain ⟨il, ie⟩ := List.getElem?_eq_some_iff.1 hi
  obtain ⟨kl, ke⟩ := List.getElem?_eq_some_iff.1 hk
  have hp := List.pairwise_iff_getElem.1 h
  rcases Nat.lt_or_gt_of_ne hik with h3 | h3
  · have := hp i k il kl h3
    rw [ie, ke] at this
    exact this h1 h2 x y hx hy
  · have := hp k i kl il h3
    rw [ie, ke] at this
    exact (this h2 h1 y x hy hx).symm
def Pcs (W : World) (ss : List Sl) (i : Nat) : Prop := ∀ k s, ss[k]? = some s → Pk W s (if k < i then some ((k : Int) % 256) else none)
theorem Pk.ok {W : World} {s : Sl} {z : Int} (h : Pk W s (some z)) (hz : 0 ≤ z ∧ z ≤ 255) (hc : s.c = s.n) (h0 : Sl.Ok W s) : Sl.Ok W ⟨s.a, s.n, s.n, List.replicate s.n z⟩ := by
  have hm := h0.mx
  refine ⟨by simp, Nat.le_refl _, by rw [← hc]; exact hm, fun e => ?_, fun x hx => by have := List.eq_of_mem_replicate hx; omega, fun hp => ?_⟩
  · have := h0.nn e
    simp only
    omega
  · simp only [List.length_replicate] at hp
    obtain ⟨b, o, ys, e, hA, h1, h2⟩ := h hp
    refine ⟨b, o, e, hA.lt, fun j hj => ?_⟩
    simp only [List.length_replicate] at hj
    have := h2 j hj z rfl
    rw [hA.cell, this]
    simp [List.getD, List.getElem?_replicate, hj]
end Go.Proofs.Ytppmgfkpfamabaa
