import Derived.Test.YthpnfbgobpfdgaaGreatEqW
import Derived.Test.YthpnfbgobpfdgaaGreatSaiW
import Derived.Test.YthpnfbgobpfdgaaGreatSbW
namespace Go.Proofs.YthpnfbgobpfdgaaGreat
open Go.RowKit
set_option linter.unusedSimpArgs false

theorem wpList_yes {P : Program} {ops : Array Oper} {rest : List Oper} {o : Oper} {a : Act} {w : World} {Q : Exit → Act → World → Prop} (hw : Region.wanted o (yielded ops a.tmps) = true) (h : ∀ K : Act → World → Prop, (∀ a w, wpList P ops Q rest a w → K a w) → o.wp P a w K Q) : wpList P ops Q (o :: rest) a w :=
  wpList_step fun K hK => by rw [if_pos hw]; exact h K hK

/-- do two terms agree in what is signed? -/
def agB (y z : Nat → Int) : Bool :=
  if y 0 = 1 then ag 35 (sft 1 y) (sft 1 z) else if y 0 = 4 ∨ y 0 = 6 then ag 99 (sft 1 y) (sft 1 z) else if y 0 = 5 then ((y 1 == z 1) && (y 263 == z 263) && (y 100 == z 100) && ag 32 (sft 101 y) (sft 101 z))
  else if y 0 = 7 then (y 1 == z 1) else if y 0 = 8 then ((y 1 == z 1) && (y 100 == z 100) && (y 264 == z 264)) else ((y 100 == z 100) && ag 32 (sft 101 y) (sft 101 z))
theorem ag_sig (y z : Nat → Int) : ag 99 (sft 1 (updL y 36 (run z 36 64))) (sft 1 z) = ag 35 (sft 1 y) (sft 1 z) := by
  unfold ag
  rw [Bool.eq_iff_iff]
  simp only [decide_eq_true_eq]
  constructor
  · intro h i hi
    have := h i (by omega)
    unfold sft updL at this
    rw [if_neg (by omega)] at this
    exact this
  · intro h i hi
    by_cases h1 : i < 35
    · have := h i h1
      unfold sft updL
      rw [if_neg (by omega)]
      exact this
    · unfold sft updL
      rw [if_pos (by rw [run_length]; omega), run_getD _ _ _ _ (by omega)]
      congr 1; omega

set_option maxHeartbeats 4000000 in
set_option maxRecDepth 100000 in
theorem agree_any (y z : Nat → Int) (bv bz : Value) (w : World) (hy : ∀ i, i < 329 → (sTerm i).ok (y i)) (hz : ∀ i, i < 329 → (sTerm i).ok (z i)) (hk : Sayk (y 0)) :
    Calls Tryz.prog 7 #[.agg (tmC y bv).toArray, .agg (tmC z bz).toArray] w fun e w' => e = .returned (.bool (agB y z)) ∧ Below w.heap.size w w' := by
  have hB : Below w.heap.size w ((w.alloc (.cells (tmC y bv).toArray 30)).alloc (.cells (tmC z bz).toArray 30)) := below_more (below_one w _) _ (by simp)
  have hT : Tm w w.heap.size y bv (tmC z bz) ((w.alloc (.cells (tmC y bv).toArray 30)).alloc (.cells (tmC z bz).toArray 30)) := by
    refine ⟨(Arr.new w _ (tmC y bv)).alloc _, ?_, hB⟩
    have h := Arr.new (w.alloc (.cells (tmC y bv).toArray 30)) 30 (tmC z bz)
    have s1 : (w.alloc (.cells (tmC y bv).toArray 30)).heap.size = w.heap.size + 1 := by simp
    rw [s1] at h
    exact h
  go_enter Tryz.func7, Tryz.ntmps7
  go_upto_region 1 with fail
  generalize (w.alloc (.cells (tmC y bv).toArray 30)).alloc (.cells (tmC z bz).toArray 30) = W at *
  generalize (tmC y bv).toArray = X0
  generalize (tmC z bz).toArray = X1
  have sC : ∀ i, i < 99 → sTerm (1 + i) = sCert i := fun i hi => by unfold sTerm; rw [if_neg (by omega), if_pos (by omega)]; congr 1; omega
  have sH : ∀ i, i < 32 → sTerm (101 + i) = sB i := fun i hi => by unfold sTerm sB; (repeat (first | rw [if_pos (by omega)] | rw [if_neg (by omega)]))
  obtain ⟨c0, -⟩ := hT.num 0 (by decide) rfl
  have HT := hide hT
  have HB := hide hB
  have HY := hide hy
  have HZ := hide hz
  have HC := hide sC
  have HH := hide sH
  clear hy hz sC sH hB
  unfold Sayk at hk
  rcases hk with hk | hk | hk | hk | hk | hk | hk
  · have HL : Hid (agB y z = ag 35 (sft 1 y) (sft 1 z)) := by show _ = _; unfold agB; rw [if_pos hk]
    have r36 : W.rangeAt (w.heap.size + 1) 36 (cl sB 64 (sft 36 z)) := tm_range hT.res 36 64 sB (by decide) (fun i hi => by unfold sTerm sB sCert; (repeat (first | rw [if_pos (by omega)] | rw [if_neg (by omega)])))
    have R36 := hide r36
    have H64 : Hid ((cl sB 64 (sft 36 z)).toArray.size = 64) := by show _ = _; simp [cl_length]
    clear r36 hT
    go_upto_region 3 with fail
    refine wp_region_lit ?_
    refine wpList_plain rfl fun K1 hK1 => ?_
    go_simp
    refine hK1 _ _ ?_
    clear hK1 K1
    refine wpList_plain rfl fun K1 hK1 => ?_
    go_simp
    refine hK1 _ _ ?_
    clear hK1 K1
    refine wpList_plain rfl fun K1 hK1 => ?_
    refine wp_load_mid 25 (.tmp 10) rfl (w.heap.size + 1) 36 rfl (cl sB 64 (sft 36 z)) _ (unhide R36) Tryz.underlying25 rfl (by rw [cl_length]; exact Tryz.szKSig) ?_
    refine hK1 _ _ ?_
    clear hK1 K1
    simp only [Act.put]
    refine wpList_plain rfl fun K1 hK1 => ?_
    go_simp
    refine hK1 _ _ ?_
    clear hK1 K1
    refine wpList_plain rfl fun K1 hK1 => ?_
    go_simp
    refine hK1 _ _ ?_
    clear hK1 K1
    refine wpList_store_mid rfl 25 (.tmp 13) (.tmp 11) rfl w.heap.size 36 _ rfl rfl (by rw [unhide H64]; exact (unhide HT).there 36 64 (by decide)) (by rw [unhide H64]; exact Tryz.szKSig) (all_oneCell_toArray (cl_oc _ _ _)) ?_
    refine wpList_nil ?_
    have hT2 : Tm w w.heap.size (updL y 36 (run z 36 64)) bv (tmC z bz) (W.setCells w.heap.size 36 (cl sB 64 (sft 36 z)).toArray.toList) := by
      have e : (cl sB 64 (sft 36 z)).toArray.toList = U8 (run z 36 64) := by
        rw [List.toList_toArray, cl_b (s := sB) (fun _ _ => rfl)]
        unfold U8 run sft
        simp
      rw [e]
      exact (unhide HT).bytes (run z 36 64) 36 (by rw [run_length]; decide) (fun i hi => by rw [run_length] at hi; unfold sTerm sCert; (repeat (first | rw [if_pos (by omega)] | rw [if_neg (by omega)])))
    generalize W.setCells w.heap.size 36 (cl sB 64 (sft 36 z)).toArray.toList = W2 at *
    have ra : W2.rangeAt w.heap.size 1 (cl sCert 99 (sft 1 (updL y 36 (run z 36 64)))) := tm_range hT2.arr 1 99 sCert (by decide) (unhide HC)
    have rb : W2.rangeAt (w.heap.size + 1) 1 (cl sCert 99 (sft 1 z)) := tm_range hT2.res 1 99 sCert (by decide) (unhide HC)
    have okz := ok_Cert z (unhide HZ)
    have oky : ∀ i, i < 99 → (sCert i).ok (sft 1 (updL y 36 (run z 36 64)) i) := fun i hi => by
      by_cases h1 : i < 35
      · have := ok_Cert y (unhide HY) i hi
        unfold sft updL at *
        rw [if_neg (by omega)]
        exact this
      · have := okz i hi
        unfold sft updL at *
        rw [if_pos (by rw [run_length]; omega), run_getD _ _ _ _ (by omega), show 36 + (1 + i - 36) = 1 + i by omega]
        exact this
    have hq := fun W => eqCert_any _ _ W oky okz
    rw [ag_sig] at hq
    have Ra := hide ra
    have Rb := hide rb
    have hB2 := hT2.bel
    have HB2 := hide hB2
    clear ra rb okz oky hT2 hB2
    have hA : (cl sCert 99 (sft 1 (updL y 36 (run z 36 64)))).length = 99 := cl_length _ _ _
    have hBb : (cl sCert 99 (sft 1 z)).length = 99 := cl_length _ _ _
    have HA := hide hA
    have HBb := hide hBb
    clear hA hBb
    generalize cl sCert 99 (sft 1 (updL y 36 (run z 36 64))) = A at *
    generalize cl sCert 99 (sft 1 z) = B at *
    go_upto_region 4 with fail
    refine wp_region_lit ?_
    refine wpList_plain rfl fun K1 hK1 => ?_
    go_simp
    refine hK1 _ _ ?_
    clear hK1 K1
    refine wpList_plain rfl fun K1 hK1 => ?_
    refine wp_load_mid 27 (.tmp 14) rfl w.heap.size 1 rfl A _ (unhide Ra) Tryz.underlying27 rfl (by rw [(unhide HA)]; exact Tryz.szKCert) ?_
    refine hK1 _ _ ?_
    clear hK1 K1
    simp only [Act.put]
    refine wpList_plain rfl fun K1 hK1 => ?_
    go_simp
    refine hK1 _ _ ?_
    clear hK1 K1
    refine wpList_plain rfl fun K1 hK1 => ?_
    refine wp_load_mid 27 (.tmp 16) rfl (w.heap.size + 1) 1 rfl B _ (unhide Rb) Tryz.underlying27 rfl (by rw [(unhide HBb)]; exact Tryz.szKCert) ?_
    refine hK1 _ _ ?_
    clear hK1 K1
    simp only [Act.put]
    refine wpList_plain rfl fun K1 hK1 => ?_
    go_simp
    refine hK1 _ _ ?_
    clear hK1 K1
    refine wpList_plain rfl fun K1 hK1 => ?_
    go_simp
    refine hK1 _ _ ?_
    clear hK1 K1
    refine wpList_nil ?_
    go_wp2
    go_ret
    exact ⟨by rw [unhide HL]; rfl, unhide HB2⟩
  · have HL : Hid (agB y z = ag 99 (sft 1 y) (sft 1 z)) := by show _ = _; unfold agB; rw [if_neg (by omega), if_pos (by omega)]
    have ra : W.rangeAt w.heap.size 1 (cl sCert 99 (sft 1 y)) := tm_range hT.arr 1 99 sCert (by decide) (unhide HC)
    have rb : W.rangeAt (w.heap.size + 1) 1 (cl sCert 99 (sft 1 z)) := tm_range hT.res 1 99 sCert (by decide) (unhide HC)
    have hq := fun W => eqCert_any _ _ W (ok_Cert y (unhide HY)) (ok_Cert z (unhide HZ))
    have Ra := hide ra
    have Rb := hide rb
    have hA : (cl sCert 99 (sft 1 y)).length = 99 := cl_length _ _ _
    have hBb : (cl sCert 99 (sft 1 z)).length = 99 := cl_length _ _ _
    have HA := hide hA
    have HBb := hide hBb
    clear hA hBb ra rb hT
    generalize cl sCert 99 (sft 1 y) = A at *
    generalize cl sCert 99 (sft 1 z) = B at *
    go_upto_region 7 with fail
    refine wp_region_lit ?_
    refine wpList_plain rfl fun K1 hK1 => ?_
    go_simp
    refine hK1 _ _ ?_
    clear hK1 K1
    refine wpList_plain rfl fun K1 hK1 => ?_
    refine wp_load_mid 27 (.tmp 22) rfl w.heap.size 1 rfl A _ (unhide Ra) Tryz.underlying27 rfl (by rw [(unhide HA)]; exact Tryz.szKCert) ?_
    refine hK1 _ _ ?_
    clear hK1 K1
    simp only [Act.put]
    refine wpList_plain rfl fun K1 hK1 => ?_
    go_simp
    refine hK1 _ _ ?_
    clear hK1 K1
    refine wpList_plain rfl fun K1 hK1 => ?_
    refine wp_load_mid 27 (.tmp 24) rfl (w.heap.size + 1) 1 rfl B _ (unhide Rb) Tryz.underlying27 rfl (by rw [(unhide HBb)]; exact Tryz.szKCert) ?_
    refine hK1 _ _ ?_
    clear hK1 K1
    simp only [Act.put]
    refine wpList_plain rfl fun K1 hK1 => ?_
    go_simp
    refine hK1 _ _ ?_
    clear hK1 K1
    refine wpList_plain rfl fun K1 hK1 => ?_
    go_simp
    refine hK1 _ _ ?_
    clear hK1 K1
    refine wpList_nil ?_
    go_wp2
    go_ret
    exact ⟨by rw [unhide HL]; rfl, unhide HB⟩
  · have HL : Hid (agB y z = ((y 1 == z 1) && (y 263 == z 263) && (y 100 == z 100) && ag 32 (sft 101 y) (sft 101 z))) := by show _ = _; unfold agB; rw [if_neg (by omega), if_neg (by omega), if_pos hk]
    obtain ⟨c1, -⟩ := hT.num 1 (by decide) rfl
    have d1 : W.cell? ⟨w.heap.size + 1, 1, none⟩ = some (.int .i64 (z 1)) := tm_cell hT.res 1 (by decide)
    obtain ⟨c263, -⟩ := hT.num 263 (by decide) rfl
    have d263 : W.cell? ⟨w.heap.size + 1, 263, none⟩ = some (.int .i64 (z 263)) := tm_cell hT.res 263 (by decide)
    obtain ⟨c100, -⟩ := hT.num 100 (by decide) rfl
    have d100 : W.cell? ⟨w.heap.size + 1, 100, none⟩ = some (.int .i64 (z 100)) := tm_cell hT.res 100 (by decide)
    have ra : W.rangeAt w.heap.size 101 (cl sB 32 (sft 101 y)) := tm_range hT.arr 101 32 sB (by decide) (unhide HH)
    have rb : W.rangeAt (w.heap.size + 1) 101 (cl sB 32 (sft 101 z)) := tm_range hT.res 101 32 sB (by decide) (unhide HH)
    have hq := fun W => eqHash_any (sft 101 y) (sft 101 z) W
    have Ra := hide ra
    have Rb := hide rb
    have hA : (cl sB 32 (sft 101 y)).length = 32 := cl_length _ _ _
    have hBb : (cl sB 32 (sft 101 z)).length = 32 := cl_length _ _ _
    have HA := hide hA
    have HBb := hide hBb
    clear hA hBb ra rb hT
    generalize cl sB 32 (sft 101 y) = A at *
    generalize cl sB 32 (sft 101 z) = B at *
    generalize ag 32 (sft 101 y) (sft 101 z) = r at *
    by_cases e1 : y 1 = z 1
    · have b1 : (y 1 == z 1) = true := by simp [e1]
      by_cases e263 : y 263 = z 263
      · have b263 : (y 263 == z 263) = true := by simp [e263]
        by_cases e100 : y 100 = z 100
        · have b100 : (y 100 == z 100) = true := by simp [e100]
          go_upto_region 9 with fail
          refine wp_region_lit ?_
          refine wpList_plain rfl fun K1 hK1 => ?_
          go_simp
          refine hK1 _ _ ?_
          clear hK1 K1
          refine wpList_plain rfl fun K1 hK1 => ?_
          go_simp
          refine hK1 _ _ ?_
          clear hK1 K1
          refine wpList_plain rfl fun K1 hK1 => ?_
          go_simp
          refine hK1 _ _ ?_
          clear hK1 K1
          refine wpList_plain rfl fun K1 hK1 => ?_
          go_simp
          refine hK1 _ _ ?_
          clear hK1 K1
          refine wpList_plain rfl fun K1 hK1 => ?_
          go_simp
          refine hK1 _ _ ?_
          clear hK1 K1
          refine wpList_plain rfl fun K1 hK1 => ?_
          go_simp
          refine hK1 _ _ ?_
          clear hK1 K1
          refine wpList_plain rfl fun K1 hK1 => ?_
          go_simp
          refine hK1 _ _ ?_
          clear hK1 K1
          refine wpList_plain rfl fun K1 hK1 => ?_
          go_simp
          refine hK1 _ _ ?_
          clear hK1 K1
          refine wpList_yes (by rfl) fun K1 hK1 => ?_
          go_simp
          refine hK1 _ _ ?_
          clear hK1 K1
          refine wpList_yes (by rfl) fun K1 hK1 => ?_
          go_simp
          refine hK1 _ _ ?_
          clear hK1 K1
          refine wpList_yes (by rfl) fun K1 hK1 => ?_
          go_simp
          refine hK1 _ _ ?_
          clear hK1 K1
          refine wpList_yes (by rfl) fun K1 hK1 => ?_
          go_simp
          refine hK1 _ _ ?_
          clear hK1 K1
          refine wpList_yes (by rfl) fun K1 hK1 => ?_
          go_simp
          refine hK1 _ _ ?_
          clear hK1 K1
          refine wpList_plain rfl fun K1 hK1 => ?_
          go_simp
          refine hK1 _ _ ?_
          clear hK1 K1
          refine wpList_plain rfl fun K1 hK1 => ?_
          go_simp
          refine hK1 _ _ ?_
          clear hK1 K1
          refine wpList_yes (by rfl) fun K1 hK1 => ?_
          go_simp
          refine hK1 _ _ ?_
          clear hK1 K1
          refine wpList_yes (by rfl) fun K1 hK1 => ?_
          go_simp
          refine hK1 _ _ ?_
          clear hK1 K1
          refine wpList_yes (by rfl) fun K1 hK1 => ?_
          go_simp
          refine hK1 _ _ ?_
          clear hK1 K1
          refine wpList_yes (by rfl) fun K1 hK1 => ?_
          go_simp
          refine hK1 _ _ ?_
          clear hK1 K1
          refine wpList_yes (by rfl) fun K1 hK1 => ?_
          go_simp
          refine hK1 _ _ ?_
          clear hK1 K1
          refine wpList_plain rfl fun K1 hK1 => ?_
          go_simp
          refine hK1 _ _ ?_
          clear hK1 K1
          refine wpList_plain rfl fun K1 hK1 => ?_
          go_simp
          refine hK1 _ _ ?_
          clear hK1 K1
          refine wpList_yes (by rfl) fun K1 hK1 => ?_
          go_simp
          refine hK1 _ _ ?_
          clear hK1 K1
          refine wpList_yes (by rfl) fun K1 hK1 => ?_
          refine wp_load_mid 23 (.tmp 51) rfl w.heap.size 101 rfl A _ (unhide Ra) Tryz.underlying23 rfl (by rw [(unhide HA)]; exact Tryz.szKHash) ?_
          refine hK1 _ _ ?_
          clear hK1 K1
          simp only [Act.put]
          refine wpList_yes (by rfl) fun K1 hK1 => ?_
          go_simp
          refine hK1 _ _ ?_
          clear hK1 K1
          refine wpList_yes (by rfl) fun K1 hK1 => ?_
          refine wp_load_mid 23 (.tmp 53) rfl (w.heap.size + 1) 101 rfl B _ (unhide Rb) Tryz.underlying23 rfl (by rw [(unhide HBb)]; exact Tryz.szKHash) ?_
          refine hK1 _ _ ?_
          clear hK1 K1
          simp only [Act.put]
          refine wpList_yes (by rfl) fun K1 hK1 => ?_
          go_simp
          refine hK1 _ _ ?_
          clear hK1 K1
          refine wpList_plain rfl fun K1 hK1 => ?_
          go_simp
          refine hK1 _ _ ?_
          clear hK1 K1
          refine wpList_plain rfl fun K1 hK1 => ?_
          go_simp
          refine hK1 _ _ ?_
          clear hK1 K1
          refine wpList_nil ?_
          go_wp2
          go_ret
          exact ⟨by rw [unhide HL]; simp [*], unhide HB⟩
        · have b100 : (y 100 == z 100) = false := by simp [e100]
          go_wp2
          go_ret
          exact ⟨by rw [unhide HL]; simp [*], unhide HB⟩
      · have b263 : (y 263 == z 263) = false := by simp [e263]
        go_wp2
        go_ret
        exact ⟨by rw [unhide HL]; simp [*], unhide HB⟩
    · have b1 : (y 1 == z 1) = false := by simp [e1]
      go_wp2
      go_ret
      exact ⟨by rw [unhide HL]; simp [*], unhide HB⟩
  · have HL : Hid (agB y z = ag 99 (sft 1 y) (sft 1 z)) := by show _ = _; unfold agB; rw [if_neg (by omega), if_pos (by omega)]
    have ra : W.rangeAt w.heap.size 1 (cl sCert 99 (sft 1 y)) := tm_range hT.arr 1 99 sCert (by decide) (unhide HC)
    have rb : W.rangeAt (w.heap.size + 1) 1 (cl sCert 99 (sft 1 z)) := tm_range hT.res 1 99 sCert (by decide) (unhide HC)
    have hq := fun W => eqCert_any _ _ W (ok_Cert y (unhide HY)) (ok_Cert z (unhide HZ))
    have Ra := hide ra
    have Rb := hide rb
    have hA : (cl sCert 99 (sft 1 y)).length = 99 := cl_length _ _ _
    have hBb : (cl sCert 99 (sft 1 z)).length = 99 := cl_length _ _ _
    have HA := hide hA
    have HBb := hide hBb
    clear hA hBb ra rb hT
    generalize cl sCert 99 (sft 1 y) = A at *
    generalize cl sCert 99 (sft 1 z) = B at *
    go_upto_region 7 with fail
    refine wp_region_lit ?_
    refine wpList_plain rfl fun K1 hK1 => ?_
    go_simp
    refine hK1 _ _ ?_
    clear hK1 K1
    refine wpList_plain rfl fun K1 hK1 => ?_
    refine wp_load_mid 27 (.tmp 22) rfl w.heap.size 1 rfl A _ (unhide Ra) Tryz.underlying27 rfl (by rw [(unhide HA)]; exact Tryz.szKCert) ?_
    refine hK1 _ _ ?_
    clear hK1 K1
    simp only [Act.put]
    refine wpList_plain rfl fun K1 hK1 => ?_
    go_simp
    refine hK1 _ _ ?_
    clear hK1 K1
    refine wpList_plain rfl fun K1 hK1 => ?_
    refine wp_load_mid 27 (.tmp 24) rfl (w.heap.size + 1) 1 rfl B _ (unhide Rb) Tryz.underlying27 rfl (by rw [(unhide HBb)]; exact Tryz.szKCert) ?_
    refine hK1 _ _ ?_
    clear hK1 K1
    simp only [Act.put]
    refine wpList_plain rfl fun K1 hK1 => ?_
    go_simp
    refine hK1 _ _ ?_
    clear hK1 K1
    refine wpList_plain rfl fun K1 hK1 => ?_
    go_simp
    refine hK1 _ _ ?_
    clear hK1 K1
    refine wpList_nil ?_
    go_wp2
    go_ret
    exact ⟨by rw [unhide HL]; rfl, unhide HB⟩
  · have HL : Hid (agB y z = (y 1 == z 1)) := by show _ = _; unfold agB; rw [if_neg (by omega), if_neg (by omega), if_neg (by omega), if_pos hk]
    obtain ⟨c1, -⟩ := hT.num 1 (by decide) rfl
    have d1 : W.cell? ⟨w.heap.size + 1, 1, none⟩ = some (.int .i64 (z 1)) := tm_cell hT.res 1 (by decide)
    clear hT
    go_wp2
    go_ret
    exact ⟨by rw [unhide HL]; rfl, unhide HB⟩
  · have HL : Hid (agB y z = ((y 1 == z 1) && (y 100 == z 100) && (y 264 == z 264))) := by show _ = _; unfold agB; rw [if_neg (by omega), if_neg (by omega), if_neg (by omega), if_neg (by omega), if_pos hk]
    obtain ⟨c1, -⟩ := hT.num 1 (by decide) rfl
    have d1 : W.cell? ⟨w.heap.size + 1, 1, none⟩ = some (.int .i64 (z 1)) := tm_cell hT.res 1 (by decide)
    obtain ⟨c100, -⟩ := hT.num 100 (by decide) rfl
    have d100 : W.cell? ⟨w.heap.size + 1, 100, none⟩ = some (.int .i64 (z 100)) := tm_cell hT.res 100 (by decide)
    obtain ⟨c264, -⟩ := hT.num 264 (by decide) rfl
    have d264 : W.cell? ⟨w.heap.size + 1, 264, none⟩ = some (.int .i64 (z 264)) := tm_cell hT.res 264 (by decide)
    clear hT
    by_cases e1 : y 1 = z 1
    · have b1 : (y 1 == z 1) = true := by simp [e1]
      by_cases e100 : y 100 = z 100
      · have b100 : (y 100 == z 100) = true := by simp [e100]
        go_wp2
        go_ret
        exact ⟨by rw [unhide HL]; simp [*], unhide HB⟩
      · have b100 : (y 100 == z 100) = false := by simp [e100]
        go_wp2
        go_ret
        exact ⟨by rw [unhide HL]; simp [*], unhide HB⟩
    · have b1 : (y 1 == z 1) = false := by simp [e1]
      go_wp2
      go_ret
      exact ⟨by rw [unhide HL]; simp [*], unhide HB⟩
  · have HL : Hid (agB y z = ((y 100 == z 100) && ag 32 (sft 101 y) (sft 101 z))) := by show _ = _; unfold agB; rw [if_neg (by omega), if_neg (by omega), if_neg (by omega), if_neg (by omega), if_neg (by omega)]
    obtain ⟨c100, -⟩ := hT.num 100 (by decide) rfl
    have d100 : W.cell? ⟨w.heap.size + 1, 100, none⟩ = some (.int .i64 (z 100)) := tm_cell hT.res 100 (by decide)
    have ra : W.rangeAt w.heap.size 101 (cl sB 32 (sft 101 y)) := tm_range hT.arr 101 32 sB (by decide) (unhide HH)
    have rb : W.rangeAt (w.heap.size + 1) 101 (cl sB 32 (sft 101 z)) := tm_range hT.res 101 32 sB (by decide) (unhide HH)
    have hq := fun W => eqHash_any (sft 101 y) (sft 101 z) W
    have Ra := hide ra
    have Rb := hide rb
    have hA : (cl sB 32 (sft 101 y)).length = 32 := cl_length _ _ _
    have hBb : (cl sB 32 (sft 101 z)).length = 32 := cl_length _ _ _
    have HA := hide hA
    have HBb := hide hBb
    clear hA hBb ra rb hT
    generalize cl sB 32 (sft 101 y) = A at *
    generalize cl sB 32 (sft 101 z) = B at *
    generalize ag 32 (sft 101 y) (sft 101 z) = r at *
    by_cases e100 : y 100 = z 100
    · have b100 : (y 100 == z 100) = true := by simp [e100]
      go_upto_region 14 with fail
      refine wp_region_lit ?_
      refine wpList_plain rfl fun K1 hK1 => ?_
      go_simp
      refine hK1 _ _ ?_
      clear hK1 K1
      refine wpList_plain rfl fun K1 hK1 => ?_
      go_simp
      refine hK1 _ _ ?_
      clear hK1 K1
      refine wpList_plain rfl fun K1 hK1 => ?_
      go_simp
      refine hK1 _ _ ?_
      clear hK1 K1
      refine wpList_plain rfl fun K1 hK1 => ?_
      go_simp
      refine hK1 _ _ ?_
      clear hK1 K1
      refine wpList_plain rfl fun K1 hK1 => ?_
      go_simp
      refine hK1 _ _ ?_
      clear hK1 K1
      refine wpList_plain rfl fun K1 hK1 => ?_
      go_simp
      refine hK1 _ _ ?_
      clear hK1 K1
      refine wpList_yes (by rfl) fun K1 hK1 => ?_
      go_simp
      refine hK1 _ _ ?_
      clear hK1 K1
      refine wpList_yes (by rfl) fun K1 hK1 => ?_
      refine wp_load_mid 23 (.tmp 95) rfl w.heap.size 101 rfl A _ (unhide Ra) Tryz.underlying23 rfl (by rw [(unhide HA)]; exact Tryz.szKHash) ?_
      refine hK1 _ _ ?_
      clear hK1 K1
      simp only [Act.put]
      refine wpList_yes (by rfl) fun K1 hK1 => ?_
      go_simp
      refine hK1 _ _ ?_
      clear hK1 K1
      refine wpList_yes (by rfl) fun K1 hK1 => ?_
      refine wp_load_mid 23 (.tmp 97) rfl (w.heap.size + 1) 101 rfl B _ (unhide Rb) Tryz.underlying23 rfl (by rw [(unhide HBb)]; exact Tryz.szKHash) ?_
      refine hK1 _ _ ?_
      clear hK1 K1
      simp only [Act.put]
      refine wpList_yes (by rfl) fun K1 hK1 => ?_
      go_simp
      refine hK1 _ _ ?_
      clear hK1 K1
      refine wpList_plain rfl fun K1 hK1 => ?_
      go_simp
      refine hK1 _ _ ?_
      clear hK1 K1
      refine wpList_plain rfl fun K1 hK1 => ?_
      go_simp
      refine hK1 _ _ ?_
      clear hK1 K1
      refine wpList_nil ?_
      go_wp2
      go_ret
      exact ⟨by rw [unhide HL]; simp [*], unhide HB⟩
    · have b100 : (y 100 == z 100) = false := by simp [e100]
      go_wp2
      go_ret
      exact ⟨by rw [unhide HL]; simp [*], unhide HB⟩
end Go.Proofs.YthpnfbgobpfdgaaGreat
