import Derived.Test.YtbjbfggbdolpcabDoorRoomW5
import Derived.Test.YtbjbfggbdolpcabDoorRefS5
import Derived.Test.YtbjbfggbdolpcabDoorSameW5
import Derived.Test.YtbjbfggbdolpcabDoorPieceW5
import Derived.RegionTactic
import Derived.BigRegion
import Derived.Deep.RegionWith
import Derived.Laws.Cover3
namespace Go.Proofs.YtbjbfggbdolpcabDoor.S5
open Go.RowKit

/-- all but two blocks is as it was -/
structure But2 (g h : Nat) (w w' : World) : Prop where
  os : w'.os = w.os
  tape : w'.tape = w.tape
  output : w'.output = w.output
  size : w.heap.size ≤ w'.heap.size
  block : ∀ k, k < w.heap.size → k ≠ g → k ≠ h → w'.heap[k]? = w.heap[k]?
theorem But2.refl (g h : Nat) (w : World) : But2 g h w w := ⟨rfl, rfl, rfl, Nat.le_refl _, fun _ _ _ _ => rfl⟩
theorem But2.trans {g h : Nat} {a b c : World} (x : But2 g h a b) (y : But2 g h b c) : But2 g h a c :=
  ⟨y.os.trans x.os, y.tape.trans x.tape, y.output.trans x.output, Nat.le_trans x.size y.size, fun i hi hg hh => (y.block i (Nat.lt_of_lt_of_le hi x.size) hg hh).trans (x.block i hi hg hh)⟩
theorem But2.of_below {g h : Nat} {w w' : World} (x : Below w.heap.size w w') : But2 g h w w' := ⟨x.os, x.tape, x.output, x.size, fun i hi _ _ => x.block i hi⟩
theorem But2.of_but {g h : Nat} {w w' : World} (x : But g w w') : But2 g h w w' := ⟨x.os, x.tape, x.output, x.size, fun i hi hg _ => x.block i hi hg⟩
theorem But2.of_but' {g h : Nat} {w w' : World} (x : But h w w') : But2 g h w w' := ⟨x.os, x.tape, x.output, x.size, fun i hi _ hh => x.block i hi hh⟩

theorem own_mono {w : World} {base base' e n : Nat} {v : Value} {xs : List Value} (h : w.ownsRow base e 1 v n xs) (hb : base' ≤ base) : w.ownsRow base' e 1 v n xs := by
  refine ⟨h.1, ?_⟩
  rcases h.2 with h2 | ⟨g, cap, cur, h1, h2, h3⟩
  · exact .inl h2
  · exact .inr ⟨g, cap, cur, h1, Nat.le_trans hb h2, h3⟩

set_option maxHeartbeats 2000000 in
set_option maxRecDepth 100000 in
theorem begun_any (w : World) (hF : FLaid w) :
    Calls Tryd.prog 16 #[] w fun e w' => e = .returned (.agg #[.pointer (some ⟨w.heap.size + 1, 0, none⟩), .slice none 0 0]) ∧ Dg w' (w.heap.size + 1) [] ∧ Below w.heap.size w w' := by
  go_enter Tryd.func16, Tryd.ntmps16
  go_wp2_with fail
  obtain ⟨W1, hW1, hR1, hb1, hs1⟩ := arr1 w 39 [.pointer none, .slice none 0 0]
  rw [show (#[Value.pointer none, .slice none 0 0] : Array Value) = [Value.pointer none, .slice none 0 0].toArray from rfl, ← hW1]
  clear hW1
  refine (new_any W1 (hF.later hb1)).mono ?_
  rintro e w2 ⟨rfl, hD2, hb2⟩
  have hR2 := hR1.later hb2
  have c0 : w2.cell? ⟨w.heap.size, 0, none⟩ = some (.pointer none) := hR2.cell 0
  have c1 : w2.cell? ⟨w.heap.size, 1, none⟩ = some (.slice none 0 0) := hR2.cell 1
  have f0 := hR2.frozen 0
  have f1 := hR2.frozen 1
  go_wp2_with fail
  have hRs := (hR2.set 0 (.pointer (some ⟨w.heap.size + 1, 0, none⟩))).set 1 (.slice none 0 0)
  have hgl : w.heap.size + 1 ≠ w.heap.size := by omega
  have eW : W1.heap.size = w.heap.size + 1 := hs1
  refine bodyPost_ret (results_cell_row rfl _ _ w.heap.size 39 _ (0, 0) _ rfl hRs Tryd.underlying39 rfl (by kernel_rfl)) rfl ?_
  have hD2' : Dg w2 (w.heap.size + 1) [] := by rw [← eW]; exact hD2
  have hbt : But w.heap.size w2 ((w2.setCell ⟨w.heap.size, 0, none⟩ (.pointer (some ⟨w.heap.size + 1, 0, none⟩))).setCell ⟨w.heap.size, 1, none⟩ (.slice none 0 0)) := ((But.refl _ _).setCell 0 _).setCell 1 _
  refine ⟨rfl, hD2'.but hbt hgl, ?_⟩
  have hb12 : Below w.heap.size w w2 := hb1.trans (hb2.mono hb1.size)
  exact hb12.trans (hbt.below hb12.size (Nat.le_refl _))

set_option maxHeartbeats 4000000 in
set_option maxRecDepth 100000 in
theorem took_any (gA k gd base : Nat) (M : List Int) (L : List Value) (sb : Sl) (d : Sl) (w : World) (hA : Arr w gA 39 L) (h0 : L[2 * k]? = some (.pointer (some ⟨gd, 0, none⟩))) (h1 : L[2 * k + 1]? = some sb.v)
    (hD : Dg w gd M) (hob : w.ownsRow base 5 1 sb.v sb.n (U8 M)) (hbase : base ≤ w.heap.size) (hd : d.Ok w) (hdn : d.n ≤ 200000) (hM : M.length ≤ 200000) (hK : KLaid w) (hgK : 2 ≠ gd) (hgA : gA ≠ gd) (hdb : 0 < d.l.length → ∀ x, d.a = some x → x.block ≠ gd) :
    Calls Tryd.prog 17 #[.pointer (some ⟨gA, 2 * k, none⟩), d.v] w fun e w' => e = .returned (.bool true) ∧ Dg w' gd (M ++ d.l) ∧ ∃ v', w'.ownsRow base 5 1 v' (M.length + d.n) (U8 (M ++ d.l)) ∧ Arr w' gA 39 (L.set (2 * k + 1) v') ∧ But2 gd gA w w' := by
  obtain ⟨i0, hi, hz0, hz1, hz2⟩ := info_parts Tryd.infoB
  have hzc : (Value.int .u8 0).cells.size = 1 := rfl
  obtain ⟨da, dn, dc, l⟩ := d
  have hdl : l.length = dn := hd.len
  have HDL := hide hdl
  have hdn' : dn ≤ 200000 := hdn
  clear hdl hdn
  simp only [Sl.v]
  go_enter Tryd.func17, Tryd.ntmps17
  go_wp2_with fail
  refine (roomy_any ⟨da, dn, dc, l⟩ w hd hdn').mono ?_
  rintro e w1 ⟨g, c, rfl, hown, hb1⟩
  have hgw : w.heap.size ≤ g := (hown.lt g rfl).1
  have hcg : dn + 64 ≤ c := by
    rcases hown.2 with ⟨h, -⟩ | ⟨g', cap', cur, h, -, -, hle, -⟩
    · simp at h
    · simp at h; obtain ⟨-, rfl⟩ := h; exact hle
  have okr : Sl.Ok w1 ⟨some ⟨g, 0, none⟩, dn + 64, c, l ++ marks⟩ := Sl.Ok.of_own hown (hd.isB.append marks_isB)
  have okm : Sl.Ok w1 ⟨some ⟨g, 0, none⟩, dn, c, l⟩ := by
    refine ⟨unhide HDL, by show dn ≤ c; omega, okr.mx, (fun h => by cases h), hd.isB, ?_⟩
    have h := lies_take okr.lies dn
    have e : (l ++ marks).take dn = l := by rw [List.take_append_of_le_length (by rw [unhide HDL]; omega), List.take_of_length_le (by rw [unhide HDL]; omega)]
    have h2 : Lies w1 (some ⟨g, 0, none⟩) ((l ++ marks).take dn) := h
    rwa [e] at h2
  have hA1 := hA.later hb1
  have hD1 := hD.later hb1
  have hc1 : (dn : Int) ≤ (c : Int) := by omega
  have cd : w1.cell? ⟨gA, 2 * k, none⟩ = some (.pointer (some ⟨gd, 0, none⟩)) := by rw [hA1.cell]; exact h0
  have hgAl := hA.lt
  have hgdl := hD.lt
  have hbK1 : Below w.heap.size w w1.drew := hb1.drew
  have hKon := hK
  have hbd : Below w1.heap.size w1 w1.drew := ⟨rfl, rfl, rfl, Nat.le_refl _, fun _ _ => rfl⟩
  have hD1d := hD1.later hbd
  have okmd := okm.later hbd
  have hb1w : Below w.heap.size w w1 := hb1
  clear hK
  go_wp2_with fail
  have HOB := hide hob
  have HD := hide hd
  have hsg : sb.v.ownBlock ≠ some g := fun e => by have := (hob.lt g e).2; omega
  have hMB : IsB M := by obtain ⟨_, _, _, _, _, h⟩ := hD; exact h
  have hMl := hM
  clear hM hob hd
  refine wp_region_held_drew (S := fun w' : World => w'.cell? ⟨gA, 2 * k, none⟩ = some (.pointer (some ⟨gd, 0, none⟩))) (by kernel_rfl) cd (fun hHeld => ?_)
  refine wpAnyH_take (i := 0) (oi := _) (v := .pointer (some ⟨gA, 2 * k, none⟩)) rfl (by kernel_rfl) (by kernel_rfl) (by kernel_rfl) (fun _ _ _ h => h) (Or.inl ⟨by rfl, fun w hSw => by go_simp⟩) hHeld ?_
  simp [Act.put]
  refine wpAnyH_take (i := 1) (oi := _) (v := .pointer (some ⟨gA, 2 * k, none⟩)) rfl (by kernel_rfl) (by kernel_rfl) (by kernel_rfl) (fun _ _ _ h => h) (Or.inl ⟨by rfl, fun w hSw => by go_simp⟩) hHeld ?_
  simp [Act.put]
  refine wpAnyH_take (i := 2) (oi := _) (v := .pointer (some ⟨gA, 2 * k, none⟩)) rfl (by kernel_rfl) (by kernel_rfl) (by kernel_rfl) (fun _ _ _ h => h) (Or.inl ⟨by rfl, fun w hSw => by go_simp⟩) hHeld ?_
  simp [Act.put]
  refine wpAnyH_take (i := 3) (oi := _) (v := .pointer (some ⟨gd, 0, none⟩)) rfl (by kernel_rfl) (by kernel_rfl) (by kernel_rfl) (fun _ _ _ h => h) (Or.inl ⟨by rfl, fun w hSw => by go_simp⟩) hHeld ?_
  simp [Act.put]
  refine wpAnyH_take (i := 4) (oi := _) (v := .slice (some ⟨g, 0, none⟩) (dn + 64) c) rfl (by kernel_rfl) (by kernel_rfl) (by kernel_rfl) (fun _ _ _ h => h) (Or.inl ⟨by rfl, fun w hSw => by go_simp⟩) hHeld ?_
  simp [Act.put]
  refine wpAnyH_take (i := 5) (oi := _) (v := .slice da dn dc) rfl (by kernel_rfl) (by kernel_rfl) (by kernel_rfl) (fun _ _ _ h => h) (Or.inl ⟨by rfl, fun w hSw => by go_simp⟩) hHeld ?_
  simp [Act.put]
  refine wpAnyH_take (i := 6) (oi := _) (v := .int .i64 dn) rfl (by kernel_rfl) (by kernel_rfl) (by kernel_rfl) (fun _ _ _ h => h) (Or.inl ⟨by rfl, fun w hSw => by go_simp⟩) hHeld ?_
  simp [Act.put]
  refine wpAnyH_take (i := 7) (oi := _) (v := .slice (some ⟨g, 0, none⟩) dn c) rfl (by kernel_rfl) (by kernel_rfl) (by kernel_rfl) (fun _ _ _ h => h) (Or.inl ⟨by rfl, fun w hSw => by go_simp⟩) hHeld ?_
  simp [Act.put]
  refine wpAnyH_ready (rs := [8]) (by kernel_rfl) (by simp) ?_
  refine AllReadyH.cons rfl (fun K hK => ?_) AllReadyH.nil
  go_simp
  refine (write_any gd M l (some ⟨g, 0, none⟩) dn c w1.drew hD1d (hKon.later hbK1) hgK (unhide HDL) okmd.isB okmd.lies (by intro _ x hx; simp only [Option.some.injEq] at hx; subst hx; show g ≠ gd; omega) okmd.le okmd.mx).mono ?_
  rintro e w2 ⟨rfl, hD2, hbt2⟩
  have hbt2 := hbt2.undrew
  have hA2 := hbt2.arr hA1 hgA
  refine hK.out _ _ (by rw [hA2.cell]; exact h0) (fun hHeld => ?_)
  clear hK K
  refine wpAnyH_done (by kernel_rfl) ?_ _
  go_wp2_with fail
  have hok1 := (unhide HD).later hb1w
  have hok2 : Sl.Ok w2 ⟨da, dn, dc, l⟩ := ⟨hok1.len, hok1.le, hok1.mx, hok1.nn, hok1.isB, hbt2.lies hok1.lies hdb⟩
  clear hok1
  have okr2 : Sl.Ok w2 ⟨some ⟨g, 0, none⟩, dn + 64, c, l ++ marks⟩ := ok_but okr hbt2 (fun x hx => by simp only [Option.some.injEq] at hx; subst hx; show g ≠ gd; omega)
  have own2 : w2.ownsRow w.heap.size 5 1 (.slice (some ⟨g, 0, none⟩) (dn + 64) c) (dn + 64) (U8 (l ++ marks)) := own_but hown hbt2 (by simp [Value.ownBlock]; omega)
  have hob2 : w2.ownsRow base 5 1 sb.v sb.n (U8 M) := own_but (own_later (unhide HOB) hb1w) hbt2 (own_ne_dg (own_later (unhide HOB) hb1w) hD1)
  have hB2 : But2 gd gA w w2 := (But2.of_below hb1w).trans (But2.of_but hbt2)
  clear hown okr okm okmd hD1 hD1d hbt2 hA1 hbd hbK1 hHeld cd hb1w HOB hA hD hb1
  refine (roomy_any ⟨da, dn, dc, l⟩ w2 hok2 hdn').mono ?_
  rintro e w3 ⟨g3, c3, rfl, hown3, hb3⟩
  have okr3 := okr2.later hb3
  have ok33 : Sl.Ok w3 ⟨some ⟨g3, 0, none⟩, dn + 64, c3, l ++ marks⟩ := Sl.Ok.of_own hown3 (hok2.isB.append marks_isB)
  have hle : dn + 64 ≤ 1099511627776 := by omega
  go_wp2_with fail
  refine (same_any ⟨some ⟨g, 0, none⟩, dn + 64, c, l ++ marks⟩ ⟨some ⟨g3, 0, none⟩, dn + 64, c3, l ++ marks⟩ w3 okr3 ok33 rfl hle).mono ?_
  rintro e w4 ⟨rfl, k4, hw4⟩
  have hb4 : Below w2.heap.size w2 w4 := by rw [hw4]; exact below_drewN hb3 k4
  have own4 := own_later own2 hb4
  have hob4 := own_later hob2 hb4
  have hok4 := hok2.later hb4
  have hA4 := hA2.later hb4
  have hD4 := hD2.later hb4
  have hB4 : But2 gd gA w w4 := hB2.trans (But2.of_below hb4)
  clear hw4 hb3 okr3 ok33 own2 hob2 hok2 hA2 hD2 hB2 hb4 okr2 hown3
  go_wp2_with fail
  go_loopw [7] (fun i wr => ∃ (j : Nat) (xs : List Value), j ≤ dn + 64 ∧ i = .int .i64 j ∧ xs.length = dn + 64 ∧ wr.ownsRow w.heap.size 5 1 (.slice (some ⟨g, 0, none⟩) (dn + 64) c) (dn + 64) xs ∧ But g w4 wr) (fun i _ => dn + 64 - (intOf i).toNat)
  case atStart => exact ⟨0, _, by omega, rfl, by simp [unhide HDL, marks_length], own4, But.refl _ _⟩
  case round =>
    clear own4
    obtain ⟨j, xs, hj, rfl, hxl, hown, hbt⟩ := hrel
    by_cases hlt : j < dn + 64
    · obtain ⟨x, hx⟩ : ∃ x, xs[j]? = some x := ⟨_, List.getElem?_eq_getElem (by omega)⟩
      have cx : wr.cell? ⟨g, j, none⟩ = some x := by rw [hown.cellAt j (by omega)]; exact hx
      have fx := hown.frozenAt j
      have hst := (hown.stored j (.int .u8 0)).1
      have hltz : (j : Int) < (dn : Int) + 64 := by omega
      have HX := hide hxl
      have HST := hide hst
      clear hxl hx hst hown
      go_wp2
      go_roundw
      case rel => exact ⟨j + 1, _, by omega, by go_num, by simp [unhide HX], unhide HST, hbt.setCell j _⟩
      case measure => simp [intOf]; omega
    · have hjd : decide ((j : Int) < (dn : Int) + 64) = false := by simp; omega
      have hA5 := hbt.arr hA4 (by omega)
      have hD5 := hD4.but hbt (by omega)
      have hob5 := own_but hob4 hbt hsg
      have hok5 : Sl.Ok wr ⟨da, dn, dc, l⟩ := ⟨hok4.len, hok4.le, hok4.mx, hok4.nn, hok4.isB, hbt.lies hok4.lies (fun hp x hx => by have := (unhide HD).blk hp x hx; omega)⟩
      have hB5 : But2 gd gA w wr := ⟨hbt.os.trans hB4.os, hbt.tape.trans hB4.tape, hbt.output.trans hB4.output, Nat.le_trans hB4.size hbt.size, fun i hi h1 h2 => (hbt.block i (Nat.lt_of_lt_of_le hi hB4.size) (by omega)).trans (hB4.block i hi h1 h2)⟩
      obtain ⟨ba, bn, bc, bl⟩ := sb
      have okb : Sl.Ok wr ⟨ba, bn, bc, M⟩ := by
        obtain ⟨s', hs', oks, hsl, -, -⟩ := own_sl hob5 hMB
        obtain ⟨xa, xn, xc, xl⟩ := s'
        have hsl' : xl = M := hsl
        simp only [Sl.v, Value.slice.injEq] at hs'
        obtain ⟨rfl, rfl, rfl⟩ := hs'
        rw [← hsl']; exact oks
      have hbl : M.length = bn := okb.len
      have cb : wr.cell? ⟨gA, 2 * k + 1, none⟩ = some (.slice ba bn bc) := by rw [hA5.cell]; exact h1
      have OKB := hide okb
      have HBL := hide hbl
      have hbn : bn ≤ 200000 := by omega
      clear okb hbl hob5 hob4 hok4 hA4 hD4 hB4 hown hxl
      have HOK5 := hide hok5
      have hgAw : gA < wr.heap.size := hA5.lt
      have hgdw : gd < wr.heap.size := hD5.lt
      clear hok5
      go_wp2_with (first
        | (at_builtin
           refine wpList_append_sl rfl (.tmp 33) (.tmp 37) 23 rfl wr.heap.size 5 i0 (.int .u8 0) Tryd.underlying23 hi hz0 hz1 hz2 hzc (.slice none 0 0) 0 [] rfl (World.ownsRow_nil _ _ _ _) ⟨ba, bn, bc, M⟩ (unhide OKB) rfl (by show 0 + bn ≤ _; omega) (Nat.le_refl _) ?_
           intro v1 w6 own1 gr1
           have hb6 : Below wr.heap.size wr w6 := below_grown (Below.refl _ _) (Nat.le_refl _) (World.ownsRow_nil _ _ 5 _) (unhide gr1)
           have HOK6 := hide ((unhide HOK5).later hb6)
           have hs6 := hb6.size
           have HB6 := hide hb6
           clear gr1 cb hb6)
        | (at_builtin
           refine wpList_append_sl rfl (.tmp 40) (.tmp 41) 23 rfl wr.heap.size 5 i0 (.int .u8 0) Tryd.underlying23 hi hz0 hz1 hz2 hzc v1 (0 + bn) ([] ++ U8 M) rfl (unhide own1) ⟨da, dn, dc, l⟩ (unhide HOK6) rfl (by show 0 + bn + dn ≤ _; omega) hs6 ?_
           intro v2 w7 own2 gr2
           have hb7 : Below wr.heap.size wr w7 := below_grown (unhide HB6) (Nat.le_refl _) (unhide own1) (unhide gr2)
           have hA7 := hA5.later hb7
           have cb7 : w7.cell? ⟨gA, 2 * k + 1, none⟩ = some (.slice ba bn bc) := by rw [hA7.cell]; exact h1
           have fb7 := hA7.frozen (2 * k + 1)
           have HB7 := hide hb7
           have ho7 := unhide own2
           rw [List.nil_append, ← U8_append] at ho7
           obtain ⟨s7, hv7, -, -, -, -⟩ := own_sl ho7 (hMB.append (unhide HD).isB)
           obtain ⟨xa, xn, xc, xl⟩ := s7
           simp only [Sl.v] at hv7
           subst hv7
           have HO7 := hide ho7
           clear gr2 hb7 own2 ho7))
      go_ret
      refine ⟨rfl, ?_, Value.slice xa xn xc, ?_, hA7.set (2 * k + 1) (Value.slice xa xn xc), ?_⟩
      · exact (hD5.later (unhide HB7)).but ((But.refl gA w7).setCell _ _) (Ne.symm hgA)
      · have e : M.length + dn = 0 + bn + dn := by rw [unhide HBL]; omega
        have ho := unhide HO7
        have hbw : base ≤ wr.heap.size := Nat.le_trans hbase hB5.size
        have ho2 := own_mono ho hbw
        have hne : (Value.slice xa xn xc).ownBlock ≠ some gA := by
          intro e
          have := (ho.lt gA e).1
          omega
        have ho3 := own_but ho2 ((But.refl gA w7).setCell (2 * k + 1) (.slice xa xn xc)) hne
        show World.ownsRow _ base 5 1 (.slice xa xn xc) (M.length + dn) (U8 (M ++ l))
        rw [e]
        exact ho3
      · exact hB5.trans ((But2.of_below (unhide HB7)).trans (But2.of_but' ((But.refl gA w7).setCell _ _)))
end Go.Proofs.YtbjbfggbdolpcabDoor.S5
