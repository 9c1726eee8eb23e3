import Derived.Test.YtebaiaghbfbgmaaGsM
set_option linter.unusedSimpArgs false
set_option linter.unusedVariables false
namespace Go.Proofs.Ytebaiaghbfbgmaa
open Go.RowKit

theorem yl_loadR17 {P : Program} {ops : Array Oper} {S : World → Prop} {o : Oper} {a : Act} (hw : Region.wanted o (yielded ops a.tmps) = true) (t : TypeId) (x : Operand) (ho : o.op = .load t x) (g off : Nat) (hx : a.eval x = .pointer (some ⟨g, off, none⟩)) (p : List Value) (hr : ∀ w, S w → w.rangeAt g off p) {d : TypeDesc} (hu : P.underlying t = some d) (hd : d.isRow = true) (hz : (P.info? t).map (·.size) = some p.length) :
    YieldsIf P ops S o (aV p) a := .inl ⟨hw, fun w h => ex_loadR t x ho g off hx p (hr w h) hu hd hz⟩
/-- two rows alike? -/
def eqL : List Ent → List Ent → Bool
  | [], [] => true
  | x :: a, y :: b => eqEb x y && eqL a b
  | _, _ => false
theorem eqL_iff : ∀ {a b : List Ent}, eqL a b = true ↔ a = b
  | [], [] => by simp [eqL]
  | x :: a, y :: b => by rw [eqL, Bool.and_eq_true, eqEb_iff, eqL_iff]; simp
  | [], _ :: _ => by simp [eqL]
  | _ :: _, [] => by simp [eqL]
theorem eqL_f {a b : List Ent} (h : a ≠ b) : eqL a b = false := by rw [Bool.eq_false_iff]; exact fun q => h (eqL_iff.1 q)
theorem takeE_succ {a b : List Ent} {k : Nat} {x : Ent} (h : a.take k = b.take k) (ha : a[k]? = some x) (hb : b[k]? = some x) : a.take (k + 1) = b.take (k + 1) := by
  rw [List.take_add_one, List.take_add_one, h, ha, hb]
set_option maxHeartbeats 2000000 in
set_option maxRecDepth 100000 in
theorem equal_any (sa sb : Sx Ent) (w : World) (ha : Es w sa) (hb : Es w sb) (hbd : sa.n * 296 ≤ 140737488355328) :
    Calls Try.prog 26 #[sa.v, sb.v] w fun r w' => r = .returned (.bool (eqL sa.xs sb.xs)) ∧ Below w.heap.size w w' := by
  obtain ⟨aa, an, ac, ax⟩ := sa
  obtain ⟨ba, bn, bc, bx⟩ := sb
  have hal : ax.length = an := ha.ok.len
  have hbl : bx.length = bn := hb.ok.len
  have hsm : an ≤ 475464663362 := by simp only at hbd; omega
  have hbm : bn ≤ 9223372036854775807 := by have h1 := hb.ok.le; have h2 := hb.ok.mx; unfold maxLen at h2; simp only at h1 h2; omega
  obtain ⟨q, hq⟩ : ∃ q, eqL ax bx = q := ⟨_, rfl⟩
  simp only [Sx.v]
  rw [hq]
  have HQ := hide hq
  have HA := hide ha
  have HB := hide hb
  have HL := hide (And.intro hal hbl)
  clear ha hb hal hbl hbd hq
  by_cases hn : an = bn
  · subst hn
    go_enter Try.func26, Try.ntmps26
    go_wp2_with fail
    go_loopw [5, 13] (fun _ i wr => ∃ k : Nat, k ≤ an ∧ i = .int .i64 k ∧ Hid (ax.take k = bx.take k) ∧ Below w.heap.size w wr) (fun _ i _ => an - (intOf i).toNat)
    case atStart => exact ⟨0, by omega, rfl, hide rfl, Below.refl _ _⟩
    case round =>
      obtain ⟨k, hk, rfl, HT, hbl⟩ := hrel
      have HBl := hide hbl
      by_cases hlt : k < an
      · obtain ⟨x, ga, oa, hxa, hxo, hsa, -, -⟩ := ((unhide HA).later hbl).at_ (k := k) hlt
        obtain ⟨y, gb, ob, hyb, hyo, hsb, -, -⟩ := ((unhide HB).later hbl).at_ (k := k) hlt
        simp only at hxa hsa hyb hsb
        subst hsa hsb
        have hra : ∀ w', Below w.heap.size w w' → w'.rangeAt ga (oa + k * 262) (eC x) := fun w' hb' => by
          obtain ⟨x', g', o', e1, -, e3, -, e5⟩ := ((unhide HA).later hb').at_ (k := k) hlt
          simp only at e1 e3; rw [hxa] at e1; cases e1; cases e3; exact e5
        have hrb : ∀ w', Below w.heap.size w w' → w'.rangeAt gb (ob + k * 262) (eC y) := fun w' hb' => by
          obtain ⟨x', g', o', e1, -, e3, -, e5⟩ := ((unhide HB).later hb').at_ (k := k) hlt
          simp only at e1 e3; rw [hyb] at e1; cases e1; cases e3; exact e5
        have HXY := hide (And.intro hxa hyb)
        have hkz : (k : Int) < (an : Int) := by omega
        clear hxa hyb hbl
        by_cases hxy : x = y
        · subst hxy
          have HT2 := hide (takeE_succ (unhide HT) (unhide HXY).1 (unhide HXY).2)
          go_upto_region 6 with fail
          refine wp_region_noPanic ?_
          refine wp_region_held_drew (S := Below w.heap.size w) (by kernel_rfl) (unhide HBl).drew (fun hHeld => ?_)
          generalize World.drew wr = w1 at hHeld ⊢
          refine wpAnyH_take (i := 0) (oi := _) (v := .slice (some ⟨ga, oa, none⟩) an ac) rfl (by kernel_rfl) (by kernel_rfl) (by kernel_rfl) (fun _ _ _ h => h) (Or.inl ⟨by rfl, fun w hSw => by go_simp⟩) hHeld ?_
          simp [Act.put]
          refine wpAnyH_take (i := 1) (oi := _) (v := .int .i64 k) rfl (by kernel_rfl) (by kernel_rfl) (by kernel_rfl) (fun _ _ _ h => h) (Or.inl ⟨by rfl, fun w hSw => by go_simp⟩) hHeld ?_
          simp [Act.put]
          refine wpAnyH_take (i := 2) (oi := _) (v := .pointer (some ⟨ga, oa + k * 262, none⟩)) rfl (by kernel_rfl) (by kernel_rfl) (by kernel_rfl) (fun _ _ _ h => h) (Or.inl ⟨by rfl, fun w hSw => by go_simp⟩) hHeld ?_
          simp [Act.put]
          refine wpAnyH_take (i := 3) (oi := _) (v := aV (eC x)) rfl (by kernel_rfl) (by kernel_rfl) (by kernel_rfl) (fun _ _ _ h => h) (yl_loadR17 (by kernel_rfl) 37 (.tmp 18) rfl ga (oa + k * 262) rfl (eC x) hra Try.underlying37 rfl (szE hxo)) hHeld ?_
          simp [Act.put]
          refine wpAnyH_take (i := 4) (oi := _) (v := .slice (some ⟨gb, ob, none⟩) an bc) rfl (by kernel_rfl) (by kernel_rfl) (by kernel_rfl) (fun _ _ _ h => h) (Or.inl ⟨by rfl, fun w hSw => by go_simp⟩) hHeld ?_
          simp [Act.put]
          refine wpAnyH_take (i := 5) (oi := _) (v := .int .i64 k) rfl (by kernel_rfl) (by kernel_rfl) (by kernel_rfl) (fun _ _ _ h => h) (Or.inl ⟨by rfl, fun w hSw => by go_simp⟩) hHeld ?_
          simp [Act.put]
          refine wpAnyH_take (i := 6) (oi := _) (v := .pointer (some ⟨gb, ob + k * 262, none⟩)) rfl (by kernel_rfl) (by kernel_rfl) (by kernel_rfl) (fun _ _ _ h => h) (Or.inl ⟨by rfl, fun w hSw => by go_simp⟩) hHeld ?_
          simp [Act.put]
          refine wpAnyH_take (i := 7) (oi := _) (v := aV (eC x)) rfl (by kernel_rfl) (by kernel_rfl) (by kernel_rfl) (fun _ _ _ h => h) (yl_loadR17 (by kernel_rfl) 37 (.tmp 22) rfl gb (ob + k * 262) rfl (eC x) hrb Try.underlying37 rfl (szE hxo)) hHeld ?_
          simp [Act.put]
          refine wpAnyH_take (i := 8) (oi := _) (v := .bool (!true)) rfl (by kernel_rfl) (by kernel_rfl) (by kernel_rfl) (fun _ _ _ h => h) (yl_val (by kernel_rfl) _ (fun w => ex_neq 37 (.tmp 19) (.tmp 23) rfl (eC x) (eC x) rfl rfl true (eqE_t hxo hxo rfl _) Try.egE)) hHeld ?_
          simp [Act.put]
          refine wpAnyH_done (by kernel_rfl) ?_ _
          unfold NoPanic
          clear hra hrb
          go_wp2_with fail
          go_roundw
          case rel => exact ⟨k + 1, by omega, by go_num, HT2, hHeld⟩
          case measure => simp [intOf]; omega
        · have hqf : q = false := by
            rw [← unhide HQ]
            refine eqL_f (fun e => hxy ?_)
            have h1 := (unhide HXY).1
            rw [e, (unhide HXY).2] at h1
            cases h1; rfl
          have HX := hide hxy
          go_upto_region 6 with fail
          refine wp_region_noPanic ?_
          refine wp_region_held_drew (S := Below w.heap.size w) (by kernel_rfl) (unhide HBl).drew (fun hHeld => ?_)
          generalize World.drew wr = w1 at hHeld ⊢
          refine wpAnyH_take (i := 0) (oi := _) (v := .slice (some ⟨ga, oa, none⟩) an ac) rfl (by kernel_rfl) (by kernel_rfl) (by kernel_rfl) (fun _ _ _ h => h) (Or.inl ⟨by rfl, fun w hSw => by go_simp⟩) hHeld ?_
          simp [Act.put]
          refine wpAnyH_take (i := 1) (oi := _) (v := .int .i64 k) rfl (by kernel_rfl) (by kernel_rfl) (by kernel_rfl) (fun _ _ _ h => h) (Or.inl ⟨by rfl, fun w hSw => by go_simp⟩) hHeld ?_
          simp [Act.put]
          refine wpAnyH_take (i := 2) (oi := _) (v := .pointer (some ⟨ga, oa + k * 262, none⟩)) rfl (by kernel_rfl) (by kernel_rfl) (by kernel_rfl) (fun _ _ _ h => h) (Or.inl ⟨by rfl, fun w hSw => by go_simp⟩) hHeld ?_
          simp [Act.put]
          refine wpAnyH_take (i := 3) (oi := _) (v := aV (eC x)) rfl (by kernel_rfl) (by kernel_rfl) (by kernel_rfl) (fun _ _ _ h => h) (yl_loadR17 (by kernel_rfl) 37 (.tmp 18) rfl ga (oa + k * 262) rfl (eC x) hra Try.underlying37 rfl (szE hxo)) hHeld ?_
          simp [Act.put]
          refine wpAnyH_take (i := 4) (oi := _) (v := .slice (some ⟨gb, ob, none⟩) an bc) rfl (by kernel_rfl) (by kernel_rfl) (by kernel_rfl) (fun _ _ _ h => h) (Or.inl ⟨by rfl, fun w hSw => by go_simp⟩) hHeld ?_
          simp [Act.put]
          refine wpAnyH_take (i := 5) (oi := _) (v := .int .i64 k) rfl (by kernel_rfl) (by kernel_rfl) (by kernel_rfl) (fun _ _ _ h => h) (Or.inl ⟨by rfl, fun w hSw => by go_simp⟩) hHeld ?_
          simp [Act.put]
          refine wpAnyH_take (i := 6) (oi := _) (v := .pointer (some ⟨gb, ob + k * 262, none⟩)) rfl (by kernel_rfl) (by kernel_rfl) (by kernel_rfl) (fun _ _ _ h => h) (Or.inl ⟨by rfl, fun w hSw => by go_simp⟩) hHeld ?_
          simp [Act.put]
          refine wpAnyH_take (i := 7) (oi := _) (v := aV (eC y)) rfl (by kernel_rfl) (by kernel_rfl) (by kernel_rfl) (fun _ _ _ h => h) (yl_loadR17 (by kernel_rfl) 37 (.tmp 22) rfl gb (ob + k * 262) rfl (eC y) hrb Try.underlying37 rfl (szE hyo)) hHeld ?_
          simp [Act.put]
          refine wpAnyH_take (i := 8) (oi := _) (v := .bool (!false)) rfl (by kernel_rfl) (by kernel_rfl) (by kernel_rfl) (fun _ _ _ h => h) (yl_val (by kernel_rfl) _ (fun w => ex_neq 37 (.tmp 19) (.tmp 23) rfl (eC x) (eC y) rfl rfl false (eqE_f hxo hyo (unhide HX) _) Try.egE)) hHeld ?_
          simp [Act.put]
          refine wpAnyH_done (by kernel_rfl) ?_ _
          unfold NoPanic
          clear hra hrb
          go_wp2_with fail
          go_ret
          rw [hqf]
          exact ⟨rfl, hHeld⟩
      · have hkd : decide ((k : Int) < (an : Int)) = false := by simp; omega
        have hqt : q = true := by
          have h := unhide HT
          rw [List.take_of_length_le (by rw [(unhide HL).1]; omega), List.take_of_length_le (by rw [(unhide HL).2]; omega)] at h
          rw [← unhide HQ]; exact eqL_iff.2 h
        clear hbl
        go_wp2_with fail
        go_ret
        rw [hqt]
        exact ⟨rfl, unhide HBl⟩
  · have hqf : q = false := by
      rw [← unhide HQ]
      refine eqL_f (fun e => hn ?_)
      rw [← (unhide HL).1, ← (unhide HL).2, e]
    have d1 : decide ((an : Int) = (bn : Int)) = false := decide_eq_false (by omega)
    have d2 : decide (an = bn) = false := decide_eq_false hn
    have d3 : ((an : Int) == (bn : Int)) = false := by simp; omega
    go_enter Try.func26, Try.ntmps26
    go_wp2_with fail
    go_ret
    rw [hqf]
    exact ⟨rfl, Below.refl _ _⟩
end Go.Proofs.Ytebaiaghbfbgmaa
