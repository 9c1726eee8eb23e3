import Derived.Test.YtkkcjjjeckhbcaaDoorMarkW
namespace Go.Proofs.YtkkcjjjeckhbcaaDoor
open Go.RowKit

theorem own_far {w : World} {base e n g : Nat} {v : Value} {xs : List Value} (h : w.ownsRow base e 1 v n xs) (hg : g < base) (i : Nat) (u : Value) : (w.setCell ⟨g, i, none⟩ u).ownsRow base e 1 v n xs := by
  refine ⟨h.1, ?_⟩
  rcases h.2 with h2 | ⟨g', cap, cur, h1, h2, h3, h4⟩
  · exact .inl h2
  · exact .inr ⟨g', cap, cur, h1, h2, (heap_setCell_other w ⟨g, i, none⟩ g' u (by show g' ≠ g; omega)).trans h3, h4⟩
theorem own_below {w w' : World} {base e n g c B : Nat} {m : Nat} {xs : List Value} (h : w.ownsRow base e 1 (.slice (some ⟨g, 0, none⟩) m c) n xs) (hb : Below B w w') (hg : g < B) : w'.ownsRow base e 1 (.slice (some ⟨g, 0, none⟩) m c) n xs := by
  refine ⟨h.1, ?_⟩
  rcases h.2 with ⟨hv, -⟩ | ⟨g', cap, cur, h1, h2, h3, h4⟩
  · simp at hv
  · simp only [Value.slice.injEq, Option.some.injEq, Addr.mk.injEq] at h1
    obtain ⟨⟨rfl, -, -⟩, rfl, rfl⟩ := h1
    exact .inr ⟨g, c, cur, rfl, h2, (hb.block g hg).trans h3, h4⟩
/-- the bytes of l, the first j of them turned -/
def xorTo (l : List Int) (j : Nat) : List Int := (List.range l.length).map fun i => if i < j then bits .xor .u8 (l.getD i 0) (((i : Int) + 1) % 256) else l.getD i 0
@[simp] theorem xorTo_length (l : List Int) (j : Nat) : (xorTo l j).length = l.length := by simp [xorTo]
theorem xorTo_zero (l : List Int) : xorTo l 0 = l := by
  apply List.ext_getElem
  · simp
  · intro i h1 h2; simp [xorTo, h2]
theorem xorTo_at (l : List Int) (j : Nat) (h : j < l.length) : (xorTo l j).getD j 0 = l.getD j 0 := by
  simp [xorTo, h]
theorem xorTo_set (l : List Int) (j : Nat) : (xorTo l j).set j (bits .xor .u8 (l.getD j 0) (((j : Int) + 1) % 256)) = xorTo l (j + 1) := by
  apply List.ext_getElem
  · simp
  · intro i h1 h2
    simp only [xorTo, List.getElem_set, List.getElem_map, List.getElem_range]
    by_cases e : j = i
    · subst e; simp
    · simp only [e, if_false]
      by_cases h : i < j
      · simp [h, Nat.lt_succ_of_lt h]
      · rw [if_neg h, if_neg (by omega)]
theorem xorTo_take (l : List Int) (j : Nat) (h : j < l.length) : (xorTo l (j + 1)).take (j + 1) = (xorTo l j).take j ++ [bits .xor .u8 (l.getD j 0) (((j : Int) + 1) % 256)] := by
  rw [take_snoc _ _ (by simpa using h)]
  congr 1
  · apply List.ext_getElem
    · simp
    · intro i h1 h2
      simp at h1
      simp [xorTo, show i < j by omega, show i < j + 1 by omega]
  · simp [xorTo, h]
theorem bits_xor8_bd (x y : Int) : 0 ≤ bits .xor .u8 x y ∧ bits .xor .u8 x y ≤ 255 := by
  have h : bits .xor .u8 x y = IntKind.u8.wrap ((BitVec.ofInt 8 x ^^^ BitVec.ofInt 8 y).toNat : Int) := rfl
  rw [h, IntKind.wrap_u8]
  omega
theorem xorTo_isB (l : List Int) (j : Nat) (h : IsB l) : IsB (xorTo l j) := by
  intro x hx
  simp only [xorTo, List.mem_map] at hx
  obtain ⟨i, -, rfl⟩ := hx
  split
  · exact bits_xor8_bd _ _
  · exact h.at i
theorem eqHash_t2 (l : List Int) (h : l.length = 32) (w : World) : (Op.equalIn 10000 34 (.agg (U8 l).toArray) (.agg (U8 l).toArray)).run Tryd.prog w = .ok true w := eqHash_t l h w
theorem getD_app_l (l m : List Int) (j : Nat) (h : j < l.length) : (l ++ m).getD j 0 = l.getD j 0 := by
  simp only [List.getD_eq_getElem?_getD]; rw [List.getElem?_append_left h]

set_option maxHeartbeats 4000000 in
set_option maxRecDepth 100000 in
theorem sums_any (d : Sl) (w : World) (hd : d.Ok w) (hK : KLaid w) (hF : FLaid w) (hdc : d.c ≤ 140737488351232) :
    Calls Tryd.prog 7 #[d.v] w fun e w' => e = .returned (.bool true) ∧ Below w.heap.size w w' := by
  obtain ⟨i0, hi, hz0, hz1, hz2⟩ := info_parts Tryd.infoB
  obtain ⟨da, dn, dc, l⟩ := d
  have hdl : l.length = dn := hd.len
  have hdle : dn ≤ dc := hd.le
  have hdc' : dc ≤ 140737488351232 := hdc
  have hdn : dn ≤ 140737488355248 := by omega
  have hlB : IsB l := hd.isB
  have HDL := hide hdl
  have HD := hide hd
  clear hdl hdc
  go_enter Tryd.func7, Tryd.ntmps7
  go_wp2_with fail
  refine (marked_any ⟨da, dn, dc, l⟩ w hd hdn).mono ?_
  rintro e w1 ⟨g, c, rfl, hown1, hb1⟩
  have hgb := hown1.lt g rfl
  have hc80 : dn + 80 ≤ c ∧ c ≤ maxLen := by
    rcases hown1.2 with ⟨hv, -⟩ | ⟨g', cap, cur, hv, -, -, h3, h4, -⟩
    · simp at hv
    · simp only [Value.slice.injEq] at hv; obtain ⟨-, -, rfl⟩ := hv; exact ⟨h3, h4⟩
  have hg1 : w.heap.size ≤ g := hgb.1
  have hg2 : g < w1.heap.size := hgb.2
  have OWN1 := hide (show w1.ownsRow w.heap.size 5 1 (.slice (some ⟨g, 0, none⟩) (dn + 80) c) (dn + 80) (U8 (l ++ marks)) from hown1)
  have hcn : dn ≤ c := by omega
  have hcm : Hid (c ≤ maxLen) := hide hc80.2
  have hc8 : dn + 80 ≤ c := hc80.1
  clear hd hgb hown1 hc80
  obtain ⟨R, hRR⟩ : ∃ R, R = sumZ l := ⟨_, rfl⟩
  have E1 := eqHash_t R (by rw [hRR]; exact sumZ_length _)
  have HRR := hide hRR
  clear hRR
  go_wp2_with fail
  refine (sum_any l (some ⟨g, 0, none⟩) dn c w1 (hK.later hb1) (hF.later hb1) (unhide HDL) hlB (by have h := own_lies (k := dn) (unhide OWN1); rw [List.take_append_of_le_length (by rw [unhide HDL]; omega), List.take_of_length_le (by rw [unhide HDL]; omega)] at h; exact h) (by rintro - x hx; simp only [Option.some.injEq] at hx; subst hx; exact hg2) hcn (unhide hcm)).mono ?_
  rintro e w2 ⟨rfl, hb2⟩
  rw [← unhide HRR]
  have hB2 : Below w.heap.size w w2 := hb1.trans (hb2.mono hb1.size)
  have OWN2 := hide (own_below (unhide OWN1) hb2 hg2)
  have hg3 : g < w2.heap.size := Nat.lt_of_lt_of_le hg2 hb2.size
  clear OWN1 hb2 hb1 hg2
  go_wp2_with fail
  refine (refSum_any ⟨da, dn, dc, l⟩ w2 ((unhide HD).later hB2) hdn).mono ?_
  rintro e w3 ⟨rfl, hb3⟩
  simp only []
  rw [← unhide HRR]
  have hB3 : Below w.heap.size w w3 := hB2.trans (hb3.mono hB2.size)
  have OWN3 := hide (own_below (unhide OWN2) hb3 hg3)
  have hg4 : g < w3.heap.size := Nat.lt_of_lt_of_le hg3 hb3.size
  clear OWN2 hb3 hB2 hg3
  go_wp2_with fail
  refine (left_any g c w.heap.size ⟨da, dn, dc, l⟩ w3 ((unhide HD).later hB3) hdn (unhide OWN3)).mono ?_
  rintro e w4 ⟨rfl, q4, hw4⟩
  have hb4 : Below w3.heap.size w3 w4 := by rw [hw4]; exact below_drewN (Below.refl _ _) _
  have hB4 : Below w.heap.size w w4 := hB3.trans (hb4.mono hB3.size)
  have OWN4 := own_below (unhide OWN3) hb4 hg4
  have hg5 : g < w4.heap.size := Nat.lt_of_lt_of_le hg4 hb4.size
  clear OWN3 hb4 hB3 hw4 hg4 E1
  go_wp2_with fail
  simp only [Sl.v]
  go_loopw [4, 5] (fun v i wr => ∃ j : Nat, j ≤ dn ∧ i = .int .i64 j ∧ wr.ownsRow w.heap.size 5 1 (.slice (some ⟨g, 0, none⟩) (dn + 80) c) (dn + 80) (U8 (xorTo l j ++ marks)) ∧ wr.ownsRow w4.heap.size 5 1 v j (U8 ((xorTo l j).take j)) ∧ Below w.heap.size w wr ∧ w4.heap.size ≤ wr.heap.size) (fun _ i _ => dn - (intOf i).toNat)
  case atStart => exact ⟨0, by omega, rfl, by rw [xorTo_zero]; exact OWN4, World.ownsRow_nil _ _ _ _, hB4, Nat.le_refl _⟩
  case round =>
    clear OWN4 hB4
    obtain ⟨j, hj, rfl, hG, hO, hB, hsz⟩ := hrel
    by_cases hlt : j < dn
    · have hjl : j < l.length := by rw [unhide HDL]; exact hlt
      have cj : wr.cell? ⟨g, j, none⟩ = some (.int .u8 (l.getD j 0)) := by
        rw [(hG.cellAt j (by show j < (dn + 80) * 1; omega)).trans (U8_at _ j (by rw [List.length_append, xorTo_length]; omega)), getD_app_l _ _ _ (by rw [xorTo_length]; exact hjl), xorTo_at l j hjl]
      have fj := hG.frozenAt j
      have hset := hide (xorTo_set l j)
      have htak := hide (xorTo_take l j hjl)
      obtain ⟨hx0, hx1⟩ := hlB.at j
      generalize l.getD j 0 = x at cj hset htak hx0 hx1
      have hjz : (j : Int) < (dn : Int) := by omega
      have HG := hide hG
      have HO := hide hO
      have HB := hide hB
      obtain ⟨y, hy⟩ : ∃ y, y = bits .xor .u8 x (((j : Int) + 1) % 256) := ⟨_, rfl⟩
      rw [← hy] at hset htak
      have HY := hide hy
      have hdnc : (dn : Int) ≤ 140737488355248 := by omega
      have HSZ1 := hide (show (wr.setCell ⟨g, j, none⟩ (.int .u8 y)).heap.size = wr.heap.size by simp)
      clear hG hO hB hy
      go_wp2_with (at_builtin; rw [← unhide HY]; refine wpList_append_own _ rfl _ _ 29 rfl w4.heap.size 5 i0 (.int .u8 0) 1 1 Tryd.underlying29 hi hz0 hz1 hz2 rfl (by decide) _ j (U8 ((xorTo l j).take j)) rfl ((own_far (unhide HO) hg5 j (.int .u8 y)).alloc _) ⟨wr.heap.size, 0, none⟩ 1 1 [.int .u8 y] rfl rfl (by have h := cell_one_new (wr.setCell ⟨g, j, none⟩ (.int .u8 y)) (.int .u8 y) 5; rw [unhide HSZ1] at h; exact h) (one_byte _) (by unfold maxLen; omega) (by omega) (by simp; omega) ?_)
      intro v1 w6 hO6 hgr6 _
      have hg6 := hgr6
      have hBs : Below w4.heap.size (wr.setCell ⟨g, j, none⟩ (.int .u8 y)) w6 := below_app (Below.refl _ _) (by simp; omega) (own_far (unhide HO) hg5 j (.int .u8 y)) hgr6
      have hG6 : (wr.setCell ⟨g, j, none⟩ (.int .u8 y)).ownsRow w.heap.size 5 1 (.slice (some ⟨g, 0, none⟩) (dn + 80) c) (dn + 80) (U8 (xorTo l (j + 1) ++ marks)) := by
        have h := ((unhide HG).stored j (.int .u8 y)).1
        rw [U8_set, List.set_append_left _ _ (by rw [xorTo_length, unhide HDL]; exact hlt), unhide hset] at h
        exact h
      have hG7 := own_below hG6 hBs hg5
      have hB6 : Below w.heap.size w w6 := ((unhide HB).setCell (p := ⟨g, j, none⟩) hg1 (.int .u8 y)).trans (hBs.mono (by omega))
      have hs6 : w4.heap.size ≤ w6.heap.size := by have := hBs.size; simp at this; omega
      rw [U8_snoc2, ← unhide htak] at hO6
      clear hgr6 hg6 hBs hG6 HG HO HB cj fj
      go_wp2
      go_roundw
      case rel => exact ⟨j + 1, by omega, by go_num, hG7, hO6, hB6, hs6⟩
      case measure => simp [intOf]; omega
    · have hjn : j = dn := by omega
      subst hjn
      have hll : (xorTo l j).length = j := by rw [xorTo_length, unhide HDL]
      have hO' : wr.ownsRow w4.heap.size 5 1 u4 j (U8 (xorTo l j)) := by
        rw [List.take_of_length_le (by omega)] at hO; exact hO
      have hXB : IsB (xorTo l j) := xorTo_isB l j hlB
      obtain ⟨s4, hs4, ok4, hl4, hn4, -⟩ := own_sl hO' hXB
      obtain ⟨oa, on, oc, ol⟩ := s4
      have hl4' : ol = xorTo l j := hl4
      have hn4' : on = j := hn4
      subst hl4' hn4' hs4
      obtain ⟨R2, hRR⟩ : ∃ R, R = sumZ (xorTo l on) := ⟨_, rfl⟩
      have E1 := eqHash_t R2 (by rw [hRR]; exact sumZ_length _)
      have HR2 := hide hRR
      have OK4 := hide ok4
      have HGG := hide hG
      have HLL := hide hll
      have hgw : g < wr.heap.size := by omega
      have hjd : decide ((on : Int) < (on : Int)) = false := by simp
      clear hRR hO hO' hl4 hn4 ok4 hG hll hj hlt
      simp only [Sl.v]
      go_wp2_with fail
      refine (sum_any (xorTo l on) (some ⟨g, 0, none⟩) on c wr (hK.later hB) (hF.later hB) (unhide HLL) hXB (by have h := own_lies (k := on) (unhide HGG); rw [List.take_append_of_le_length (by rw [unhide HLL]; omega), List.take_of_length_le (by rw [unhide HLL]; omega)] at h; exact h) (by rintro - x hx; simp only [Option.some.injEq] at hx; subst hx; exact hgw) hcn (unhide hcm)).mono ?_
      rintro e x2 ⟨rfl, hx2⟩
      rw [← unhide HR2]
      have hB2 : Below w.heap.size w x2 := hB.trans (hx2.mono hB.size)
      have G2 := hide (own_below (unhide HGG) hx2 hgw)
      have K2 := hide ((unhide OK4).later hx2)
      have hg2 : g < x2.heap.size := Nat.lt_of_lt_of_le hgw hx2.size
      clear hB hx2
      go_wp2_with fail
      refine (refSum_any ⟨oa, on, oc, xorTo l on⟩ x2 (unhide K2) hdn).mono ?_
      rintro e x3 ⟨rfl, hx3⟩
      simp only []
      rw [← unhide HR2]
      have hB3 : Below w.heap.size w x3 := hB2.trans (hx3.mono hB2.size)
      have G3 := own_below (unhide G2) hx3 hg2
      have K3 := (unhide K2).later hx3
      clear hB2 hx3 G2 K2
      go_wp2_with fail
      refine (left_any g c w.heap.size ⟨oa, on, oc, xorTo l on⟩ x3 K3 hdn G3).mono ?_
      rintro e x4 ⟨rfl, q5, hx4⟩
      have hb5 : Below w.heap.size w x4 := by rw [hx4]; exact below_drewN hB3 _
      clear hx4
      go_wp2
      go_ret
      exact ⟨rfl, hb5⟩
end Go.Proofs.YtkkcjjjeckhbcaaDoor
