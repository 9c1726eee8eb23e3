import Derived.Test.YtcdmomdajakocaaFlI
import Derived.Deep.QuietTactic
import Derived.BigQuiet
namespace Go.Proofs.Ytcdmomdajakocaa
open Go.RowKit

theorem take_eq_succ {a b : List Int} {k : Nat} (ha : k < a.length) (hb : k < b.length) (h : a.take k = b.take k) (e : a.getD k 0 = b.getD k 0) : a.take (k + 1) = b.take (k + 1) := by
  rw [take_succ_getD a k ha, take_succ_getD b k hb, h, e]

set_option maxHeartbeats 2000000 in
set_option maxRecDepth 100000 in
theorem same_any (a b : Sl) (w : World) (ha : a.Ok w) (hb : b.Ok w) (hn : a.n ≤ 1099511627776) :
    Calls Try.prog 12 #[a.v, b.v] w fun e w' => e = .returned (.bool (decide (a.l = b.l))) ∧ ∃ k, w' = w.drewN k := by
  obtain ⟨aa, an, ac, al⟩ := a
  obtain ⟨ba, bn, bc, bl⟩ := b
  have ha1 : al.length = an := ha.len
  have hb1 : bl.length = bn := hb.len
  have hn' : an ≤ 1099511627776 := hn
  have hbm : bn ≤ 9223372036854775807 := by have := hb.le; have := hb.mx; unfold maxLen at this; simp only at *; omega
  simp only [Sl.v]
  by_cases hlen : an = bn
  · subst hlen
    have HA := hide ha
    have HB := hide hb
    have HL := hide ha1
    have HL2 := hide hb1
    clear ha hb ha1 hb1 hn
    generalize hD : decide (al = bl) = D
    have HD := hide hD
    clear hD
    go_enter Try.func12, Try.ntmps12
    go_wp2_with fail
    go_loopw [5] (fun i wr => ∃ k : Nat, k ≤ an ∧ i = .int .i64 k ∧ Hid (al.take k = bl.take k) ∧ ∃ m, wr = w.drewN m) (fun i _ => an - (intOf i).toNat)
    case atStart => exact ⟨0, by omega, rfl, hide rfl, 0, rfl⟩
    case round =>
      obtain ⟨k, hk, rfl, HT, m, hwr0⟩ := hrel
      have hwr := hide hwr0
      clear hwr0
      by_cases hlt : k < an
      · obtain ⟨ab, ao, haa, -, hac⟩ := (unhide HA).lies (by show 0 < al.length; rw [unhide HL]; omega)
        obtain ⟨bb, bo, hba, -, hbc⟩ := (unhide HB).lies (by show 0 < bl.length; rw [unhide HL2]; omega)
        have haa' : aa = some ⟨ab, ao, none⟩ := haa
        have hba' : ba = some ⟨bb, bo, none⟩ := hba
        subst haa' hba'
        have ca : wr.cell? ⟨ab, ao + k, none⟩ = some (.int .u8 (al.getD k 0)) := by rw [unhide hwr]; exact hac k (by show k < al.length; rw [unhide HL]; omega)
        have cb : wr.cell? ⟨bb, bo + k, none⟩ = some (.int .u8 (bl.getD k 0)) := by rw [unhide hwr]; exact hbc k (by show k < bl.length; rw [unhide HL2]; omega)
        obtain ⟨x, hx⟩ : ∃ x, al.getD k 0 = x := ⟨_, rfl⟩
        obtain ⟨y, hy⟩ : ∃ y, bl.getD k 0 = y := ⟨_, rfl⟩
        rw [hx] at ca
        rw [hy] at cb
        have HX := hide hx
        have HY := hide hy
        have hkz : (k : Int) < (an : Int) := by omega
        clear haa hba hac hbc hx hy
        by_cases hxy : x = y
        · subst hxy
          have HT' : Hid (al.take (k + 1) = bl.take (k + 1)) := hide (take_eq_succ (by rw [unhide HL]; omega) (by rw [unhide HL2]; omega) (unhide HT) ((unhide HX).trans (unhide HY).symm))
          go_wp2_with fail
          go_quiet (fail)
          go_wp2
          go_roundw
          case rel => exact ⟨k + 1, by omega, by go_num, HT', _, by rw [unhide hwr]; exact World.drewN_drewN _ _ _⟩
          case measure => simp [intOf]; omega
        · have HF : Hid (D = false) := by
            rw [← unhide HD]
            refine hide (decide_eq_false (fun e => hxy ?_))
            rw [← unhide HX, ← unhide HY, e]
          go_wp2_with fail
          go_quiet (fail)
          go_wp2
          go_ret
          rw [unhide HF]
          exact ⟨rfl, _, by rw [unhide hwr]; exact World.drewN_drewN _ _ _⟩
      · have hkd : decide ((k : Int) < (an : Int)) = false := by simp; omega
        have HF : Hid (D = true) := by
          rw [← unhide HD]
          refine hide (decide_eq_true ?_)
          have h := unhide HT
          rw [List.take_of_length_le (by rw [unhide HL]; omega), List.take_of_length_le (by rw [unhide HL2]; omega)] at h
          exact h
        go_wp2
        go_ret
        rw [unhide HF]
        exact ⟨rfl, m, unhide hwr⟩
  · have HF : Hid (decide (al = bl) = false) := hide (decide_eq_false (fun e => hlen (by rw [← ha1, ← hb1, e])))
    rw [unhide HF]
    go_enter Try.func12, Try.ntmps12
    go_wp2
    go_ret
    exact ⟨rfl, 0, rfl⟩


theorem lit_ok (w : World) (l : List Int) (hB : IsB l) (hl : l.length ≤ 1048576) : Sl.Ok (w.alloc (.cells (U8 l).toArray 5)) ⟨some ⟨w.heap.size, 0, none⟩, l.length, l.length, l⟩ := by
  have hA : Arr (w.alloc (.cells (U8 l).toArray 5)) w.heap.size 5 (U8 l) := Arr.new w _ (U8 l)
  exact ⟨rfl, Nat.le_refl _, (by unfold maxLen; omega : l.length ≤ maxLen), (fun h => by cases h), hB, hA.lies⟩
theorem Fl.alloc {w : World} {p : Nat} {S : Nat → Prop} {s : FlS} (h : Fl w p S s) (o : Obj) : Fl (w.alloc o) p S s := h.later (below_one w o)
theorem fs9 : (fsLoad 9 [] []).append 1 [5, 6, 7] = (⟨9, [], [5, 6, 7], [], false, 1⟩, 0) := by rfl
theorem FSt.bel {B p : Nat} {S S' : Nat → Prop} {s : FlS} {w0 w w' : World} (h : FSt p S s w w' S') (hb : Below B w0 w) (hB : B ≤ w.heap.size) (hS : ∀ k, S k → B ≤ k) : Below B w0 w' := hb.trans (h.but.below hB hS)
theorem FSt.above {B p : Nat} {S S' : Nat → Prop} {s : FlS} {w w' : World} (h : FSt p S s w w' S') (hB : B ≤ w.heap.size) (hS : ∀ k, S k → B ≤ k) : ∀ k, S' k → B ≤ k := fun k hk => (h.at_ k hk).elim (hS k) (fun h1 => Nat.le_trans hB h1)
theorem bel_then {B : Nat} {w0 w w' : World} (h : Below B w0 w) (hB : B ≤ w.heap.size) (k : Below w.heap.size w w') : Below B w0 w' := h.trans (k.mono hB)
theorem bel_sz {B : Nat} {w0 w : World} (h : Below B w0 w) (hB : B ≤ w0.heap.size) : B ≤ w.heap.size := Nat.le_trans hB h.size
/-- append([]byte{}, d...): what the run does -/
theorem run_copyof (w0 : World) (ty : TypeId) (d : Sl) (hd : d.Ok w0) (hb : d.n ≤ 140737488355328) :
    ∃ v' w', (Builtin.append_ #[22, 22] ty #[.slice (some ⟨w0.heap.size, 0, none⟩) 0 0, .slice d.a d.n d.c]).run Try.prog (w0.alloc (.cells #[] 5)) = .ok v' w' ∧ OwB w' v' d.l ∧ (∀ k, v'.ownBlock = some k → w0.heap.size ≤ k) ∧ Below w0.heap.size w0 w' := by
  obtain ⟨i0, hi, hz0, hz1, hz2⟩ := info_parts Try.infoB
  have he : (w0.alloc (.cells #[] 5)).ownsRow 0 5 1 (.slice (some ⟨w0.heap.size, 0, none⟩) 0 0) 0 (U8 ([] : List Int)) := World.ownsRow_made w0 #[] 0 (Nat.zero_le _) (by unfold maxLen; omega) rfl
  have hb1 := below_one w0 (.cells #[] 5)
  obtain ⟨v', w', hr, r1, r2, r3⟩ := run_append_slat (P := Try.prog) (w0.alloc (.cells #[] 5)) _ ty 5 i0 (.int .u8 0) Try.underlying22 hi hz0 hz1 hz2 rfl _ 0 _ he d (hd.later hb1) (by omega)
  have hsz := hb1.size
  refine ⟨v', w', hr, ⟨?_, hd.isB⟩, fun k hk => ?_, ?_⟩
  · have e : U8 ([] : List Int) ++ U8 d.l = U8 d.l := by simp [U8]
    rw [e, Nat.zero_add, ← hd.len] at r1
    exact r1
  · rcases r3 with r3 | r3
    · rw [r3] at hk; simp [Value.ownBlock] at hk; omega
    · rw [r3] at hk; simp at hk; omega
  · exact ⟨r2.os.trans hb1.os, r2.tape.trans hb1.tape, r2.output.trans hb1.output, Nat.le_trans hsz r2.size, fun k hk => (r2.block k (Nat.lt_of_lt_of_le hk hsz) (fun e => by simp [Value.ownBlock] at e; omega)).trans (hb1.block k hk)⟩
theorem wpList_copyof {w0 : World} {ops : Array Oper} {rest : List Oper} {o : Oper} {a : Act} {Q : Exit → Act → World → Prop} (hgd : o.guard = none) (s x : Operand)
    (ho : o.op = .call { callee := .builtin .append, args := #[s, x], argTypes := #[22, 22] }) (hs : a.eval s = .slice (some ⟨w0.heap.size, 0, none⟩) 0 0)
    (d : Sl) (hd : d.Ok w0) (hx : a.eval x = .slice d.a d.n d.c) (hb : d.n ≤ 140737488355328)
    (h : ∀ v' w', Hid (OwB w' v' d.l) → Hid (∀ k, v'.ownBlock = some k → w0.heap.size ≤ k) → Hid (Below w0.heap.size w0 w') → wpList Try.prog ops Q rest (a.put o.dst v') w') : wpList Try.prog ops Q (o :: rest) a (w0.alloc (.cells #[] 5)) := by
  refine wpList_plain hgd fun K hK => ?_
  obtain ⟨v', w', hr, h1, h2, h3⟩ := run_copyof w0 o.type d hd hb
  unfold Oper.wp execOp
  simp only [ho, resolve, invoke, builtin, Sem.run_bind, Sem.run_pure, Result.andThen_ok, List.map_toArray, List.map_cons, List.map_nil, hs, hx, hr]
  exact hK _ _ (h v' w' h1 h2 h3)
end Go.Proofs.Ytcdmomdajakocaa
