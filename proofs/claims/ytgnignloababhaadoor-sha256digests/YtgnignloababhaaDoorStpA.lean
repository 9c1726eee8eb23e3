import Derived.Test.YtgnignloababhaaDoorStpM
import Derived.Deep.Onto
import Derived.RegionTactic
import Derived.BigRegion
import Derived.Deep.RegionWith
namespace Go.Proofs.YtgnignloababhaaDoor
open Go.RowKit

set_option maxHeartbeats 4000000 in
set_option maxRecDepth 100000 in
theorem step_write {w : World} {n gA c : Nat} {G : Nat → Nat} {B : Nat → Sl} {L : List Value} {wo : World} (h : DG w n gA c G B L wo) (k : Nat) (hk : k < n) (hn4 : n ≤ 4) (o : OpR) (T : Nat) (hT : ∀ k, k < n → (B k).n ≤ T) (hT2 : T + o.d.n ≤ 2097152) (hK : KLaid w) (hF : FLaid w) (ho : o.d.Ok w) (hkd : o.kd = 1) :
    Calls Tryd.prog 5 #[.slice (some ⟨gA, 0, none⟩) n c, .int .i64 k, o.v] wo (StP w n (T + o.d.n)) := by
  obtain ⟨kd, ao, da, dn, dc, dl⟩ := o
  have hT2 : T + dn ≤ 2097152 := hT2
  obtain rfl : kd = 1 := hkd
  simp only [OpR.v, Sl.v]
  have cd := h.cd k hk
  have cb := h.cb k hk
  have hdg := h.dg k hk
  have hbk := h.ok k hk
  have hTk := hT k hk
  have hGk := h.gAne k hk
  obtain ⟨sb, hsb⟩ : ∃ sb, sb = B k := ⟨_, rfl⟩
  obtain ⟨gd, hgd⟩ : ∃ gd, gd = G k := ⟨_, rfl⟩
  rw [← hsb] at cb hdg hbk hTk
  rw [← hgd] at cd hdg hGk
  rw [Nat.mul_comm] at cb cd
  have HSB := hide hsb
  have HGD := hide hgd
  clear hsb hgd
  obtain ⟨ba, bn, bc, M⟩ := sb
  simp only [Sl.v] at cb
  have hdg : Dg wo gd M := hdg
  have hTk : bn ≤ T := hTk
  have hbl : M.length = bn := hbk.len
  have hkz : (k : Int) < (n : Int) := by omega
  obtain ⟨W1, hW1, hO1, hb1, hs1⟩ := arr1 wo 32 [.int .i64 1, .int .u8 ao, .slice da dn dc]
  have HW1 := hide hW1
  obtain ⟨W2, hW2, hP2, hb2, hs2⟩ := arr1 W1 27 [.pointer (some ⟨gd, 0, none⟩), .slice ba bn bc]
  have HW2 := hide hW2
  have hO2 := hO1.later hb2
  clear hW1 hW2
  have cd1 := (hb1.cell (p := ⟨gA, k * 2, none⟩) (cell_lt cd)).trans cd
  have cb1 := (hb1.cell (p := ⟨gA, k * 2 + 1, none⟩) (cell_lt cb)).trans cb
  have hb12 : Below wo.heap.size wo W2 := hb1.trans (hb2.mono hb1.size)
  have n0 : W1.cell? ⟨wo.heap.size, 0, none⟩ = some (.int .i64 1) := by rw [hO1.cell]; rfl
  have n2 : W1.cell? ⟨wo.heap.size, 2, none⟩ = some (.slice da dn dc) := by rw [hO1.cell]; rfl
  have o0 : W2.cell? ⟨wo.heap.size, 0, none⟩ = some (.int .i64 1) := by rw [hO2.cell]; rfl
  have o2 : W2.cell? ⟨wo.heap.size, 2, none⟩ = some (.slice da dn dc) := by rw [hO2.cell]; rfl
  have p0 : W2.cell? ⟨W1.heap.size, 0, none⟩ = some (.pointer (some ⟨gd, 0, none⟩)) := by rw [hP2.cell]; rfl
  have p1 : W2.cell? ⟨W1.heap.size, 1, none⟩ = some (.slice ba bn bc) := by rw [hP2.cell]; rfl
  have fp1 := hP2.frozen 1
  have h2 := h.later hb12
  have hdg2 := hdg.later hb12
  have hbk2 := hbk.later hb12
  have hdk2 := ho.later h2.bel
  have hK2 := hK.later h2.bel
  have hF2 := hF.later h2.bel
  have hzp : (Tryd.prog.info? 27).map (·.size) = some (#[Value.pointer (some ⟨gd, 0, none⟩), Value.slice ba bn bc] : Array Value).size := by kernel_rfl
  have hzq : (#[Value.pointer none, Value.slice none 0 0] : Array Value).size = (#[Value.pointer (some ⟨gd, 0, none⟩), Value.slice ba bn bc] : Array Value).size := rfl
  have h1p : (#[Value.pointer (some ⟨gd, 0, none⟩), Value.slice ba bn bc] : Array Value).all (·.oneCell') = true := by simp [Value.oneCell']
  have hwrs : wo.heap.size < W1.heap.size := by omega
  have hgAl : gA < wo.heap.size := h.geA.2
  have hgdl : gd < wo.heap.size := hdg.lt
  have fr0 := h.fz k hk (But2.of_below hb1) (k * 2)
  have fr1 := h.fz k hk (But2.of_below hb1) (k * 2 + 1)
  clear cd cb hdg hbk hO1
  go_enter Tryd.func5, Tryd.ntmps5
  go_wp2_with (first
    | rw [show Obj.cells #[Value.int IntKind.i64 1, Value.int IntKind.u8 ao, Value.slice da dn dc] 32 = Obj.cells ([Value.int IntKind.i64 1, Value.int IntKind.u8 ao, Value.slice da dn dc] : List Value).toArray 32 (0, 0) from rfl, ← unhide HW1]
    | (refine wpList_store_row rfl 27 (.tmp 8) (.tmp 16) rfl W1.heap.size _ rfl rfl 27 _ (heap_alloc_last W1 _) hzp hzq h1p ?_; rw [World.setRow_alloc_new, show Obj.cells #[Value.pointer (some ⟨gd, 0, none⟩), Value.slice ba bn bc] 27 = Obj.cells ([Value.pointer (some ⟨gd, 0, none⟩), Value.slice ba bn bc] : List Value).toArray 27 (0, 0) from rfl, ← unhide HW2]))
  rw [show Obj.cells #[Value.pointer (some ⟨gd, 0, none⟩), Value.slice ba bn bc] 27 = Obj.cells ([Value.pointer (some ⟨gd, 0, none⟩), Value.slice ba bn bc] : List Value).toArray 27 (0, 0) from rfl, ← unhide HW2]
  have hdn' : dn ≤ 2097152 := by omega
  refine (marked_any ⟨da, dn, dc, dl⟩ W2 hdk2 (by show dn ≤ _; omega)).mono ?_
  rintro e w3 ⟨g, cg, rfl, hown, hb3⟩
  have hgw : W2.heap.size ≤ g := (hown.lt g rfl).1
  have hdl : dl.length = dn := ho.len
  have hcg : dn + 80 ≤ cg := by
    rcases hown.2 with ⟨h, -⟩ | ⟨g', cap', cur, h, -, -, hle, -⟩
    · simp at h
    · simp at h; obtain ⟨-, rfl⟩ := h; exact hle
  have okr : Sl.Ok w3 ⟨some ⟨g, 0, none⟩, dn + 80, cg, dl ++ marks⟩ := Sl.Ok.of_own hown (ho.isB.append marks_isB)
  have okm : Sl.Ok w3 ⟨some ⟨g, 0, none⟩, dn, cg, dl⟩ := by
    refine ⟨hdl, by show dn ≤ cg; omega, okr.mx, (fun h => by cases h), ho.isB, ?_⟩
    have h := lies_take okr.lies dn
    have e : (dl ++ marks).take dn = dl := by rw [List.take_append_of_le_length (by omega), List.take_of_length_le (by omega)]
    have h2 : Lies w3 (some ⟨g, 0, none⟩) ((dl ++ marks).take dn) := h
    rwa [e] at h2
  have hdg3 := hdg2.later hb3
  have hP3 := hP2.later hb3
  have hO3 := hO2.later hb3
  rw [hs1] at hP3
  have q0 : w3.cell? ⟨wo.heap.size + 1, 0, none⟩ = some (.pointer (some ⟨gd, 0, none⟩)) := by rw [hP3.cell]; rfl
  have r2 : w3.cell? ⟨wo.heap.size, 2, none⟩ = some (.slice da dn dc) := by rw [hO3.cell]; rfl
  have hK3 := hK2.later hb3
  have HOWN := hide hown
  clear hown p0 p1 o0 o2 n0 n2 fr0 fr1 cd1 cb1
  go_wp2_with fail
  have hgK : 1 ≠ gd := by
    intro e
    have h1 := (hK.lt)
    have h3 := h.ge k hk
    rw [← unhide HGD] at h3
    omega
  refine (write_any gd M dl (some ⟨g, 0, none⟩) dn cg w3 hdg3 hK3 hgK hdl okm.isB okm.lies (by intro _ x hx; simp only [Option.some.injEq] at hx; subst hx; show g ≠ gd; omega) okm.le okm.mx).mono ?_
  rintro e w4 ⟨rfl, hD4, hbt4⟩
  have hge := h.ge k hk
  rw [← unhide HGD] at hge
  have hB34 : But2 gd gd wo w4 := ((But2.of_below hb12).trans (But2.of_below hb3)).trans (But2.of_but hbt4)
  have hbw4 : Below w.heap.size w w4 := (h2.bel.trans (hb3.mono h2.bel.size)).trans (hbt4.below (Nat.le_trans h2.bel.size hb3.size) hge)
  have hne : (Value.slice (some ⟨g, 0, none⟩) (dn + 80) cg).ownBlock ≠ some gd := by simp [Value.ownBlock]; omega
  have own4 := own_keep (unhide HOWN) (But2.of_but (h := gd) hbt4) hne hne
  have hok4 := ho.later hbw4
  have hO4 := hbt4.arr hO3 (by omega)
  have hP4 := hbt4.arr hP3 (by omega)
  have r2 : w4.cell? ⟨wo.heap.size, 2, none⟩ = some (.slice da dn dc) := by rw [hO4.cell]; rfl
  have hd0 : (0 : Int) ≤ (dn : Int) := by omega
  clear q0 hP3 hO3 okr okm
  go_wp2_with fail
  refine (left_any g cg W2.heap.size ⟨da, dn, dc, dl⟩ w4 hok4 (by show dn ≤ _; omega) own4).mono ?_
  rintro e w5 ⟨rfl, k5, hw5⟩
  have hb5 : Below w4.heap.size w4 w5 := by rw [hw5]; exact below_drewN (Below.refl _ _) k5
  have own5 := own_laterN own4 hb5
  have hO5 := hO4.later hb5
  have hP5 := hP4.later hb5
  have hD5 := hD4.later hb5
  have hB5 : But2 gd gd wo w5 := hB34.trans (But2.of_below hb5)
  have hbw5 : Below w.heap.size w w5 := hbw4.trans (hb5.mono hbw4.size)
  have hbo := h.own k hk
  rw [← unhide HSB] at hbo
  have hbo5 := own_keep hbo hB5 (own_ne_dg hbo (by rw [unhide HGD]; exact h.dg k hk) (by decide)) (own_ne_dg hbo (by rw [unhide HGD]; exact h.dg k hk) (by decide))
  have hgwr : wo.heap.size + 1 < g := by omega
  clear hw5 own4 hO4 hP4 r2
  go_wp2_with fail
  go_loopw [10] (fun i wq => ∃ (j : Nat) (xs : List Value), j ≤ dn ∧ i = .int .i64 j ∧ xs.length = dn + 80 ∧ wq.ownsRow W2.heap.size 5 1 (.slice (some ⟨g, 0, none⟩) (dn + 80) cg) (dn + 80) xs ∧ But g w5 wq) (fun i _ => dn - (intOf i).toNat)
  case atStart => exact ⟨0, _, by omega, rfl, by simp [hdl, marks_length], own5, But.refl _ _⟩
  case round =>
    clear own5
    obtain ⟨j, xs, hj, rfl, hxl, hownq, hbt⟩ := hrel
    by_cases hlt : j < dn
    · obtain ⟨x, hx⟩ : ∃ x, xs[j]? = some x := ⟨_, List.getElem?_eq_getElem (by omega)⟩
      have cx : wr.cell? ⟨g, j, none⟩ = some x := by rw [hownq.cellAt j (by omega)]; exact hx
      have fx := hownq.frozenAt j
      have hst := (hownq.stored j (.int .u8 119)).1
      have hltz : (j : Int) < (dn : Int) := by omega
      have HX := hide hxl
      have HST := hide hst
      clear hxl hx hst hownq
      go_wp2
      go_roundw
      case rel => exact ⟨j + 1, _, by omega, by go_num, by simp [unhide HX], unhide HST, hbt.setCell j _⟩
      case measure => simp [intOf]; omega
    · have hjd : decide ((j : Int) < (dn : Int)) = false := by simp; omega
      have hBq : But2 gd gd wo wr := hB5.new hbt (by omega)
      have hO6 := hbt.arr hO5 (by omega)
      have hP6 := hbt.arr hP5 (by omega)
      have hD6 := hD5.but hbt (by omega)
      have hnb : (Sl.mk ba bn bc M).v.ownBlock ≠ some g := fun e => by have := (hbo.lt _ e).2; omega
      have hbo6 := own_keep hbo5 (But2.of_but (h := g) hbt) hnb hnb
      have hMB := h.isB k hk
      rw [← unhide HSB] at hMB
      have hMB : IsB M := hMB
      have okb : Sl.Ok wr ⟨ba, bn, bc, M⟩ := by
        obtain ⟨s', hs', oks, hsl, -, -⟩ := own_sl hbo6 hMB
        obtain ⟨xa, xn, xc, xl⟩ := s'
        have hsl' : xl = M := hsl
        simp only [Sl.v, Value.slice.injEq] at hs'
        obtain ⟨e1, e2, e3⟩ := hs'
        subst e1 e2 e3 hsl'; exact oks
      have hbwq : Below w.heap.size w wr := hbw5.trans (hbt.below hbw5.size (by have := h.bel.size; omega))
      have hok6 := ho.later hbwq
      have q1 : wr.cell? ⟨wo.heap.size + 1, 1, none⟩ = some (.slice ba bn bc) := by rw [hP6.cell]; rfl
      have r2 : wr.cell? ⟨wo.heap.size, 2, none⟩ = some (.slice da dn dc) := by rw [hO6.cell]; rfl
      obtain ⟨i0, hi, hz0, hz1, hz2⟩ := info_parts Tryd.infoB
      have hzc : (Value.int .u8 0).cells.size = 1 := rfl
      have OKB := hide okb
      have HOK6 := hide hok6
      have hwq : wo.heap.size + 1 < wr.heap.size := hP6.lt
      have hbn : bn ≤ 2097152 := by omega
      have HGE : Hid (w.heap.size ≤ wr.heap.size) := hide hbwq.size
      clear okb hok6 hownq hxl hO5 hP5 hD5 hbo5 hB5 hbw5 hok4 hB34 hbw4
      go_wp2_with (first
        | (at_builtin
           refine wpList_append_sl rfl (.tmp 43) (.tmp 45) 25 rfl wr.heap.size 5 i0 (.int .u8 0) Tryd.underlying25 hi hz0 hz1 hz2 hzc (.slice none 0 0) 0 [] rfl (World.ownsRow_nil _ _ _ _) ⟨ba, bn, bc, M⟩ (unhide OKB) rfl (by show 0 + bn ≤ _; omega) (Nat.le_refl _) ?_
           intro v1 w6 own1 gr1
           have hb6 : Below wr.heap.size wr w6 := below_grown (Below.refl _ _) (Nat.le_refl _) (World.ownsRow_nil _ _ 5 _) (unhide gr1)
           have r26 : w6.cell? ⟨wo.heap.size, 2, none⟩ = some (.slice da dn dc) := by rw [(hO6.later hb6).cell]; rfl
           have HOK7 := hide ((unhide HOK6).later hb6)
           have hs6 := hb6.size
           have HB6 := hide hb6
           clear gr1 hb6)
        | (at_builtin
           refine wpList_append_sl rfl (.tmp 47) (.tmp 49) 25 rfl wr.heap.size 5 i0 (.int .u8 0) Tryd.underlying25 hi hz0 hz1 hz2 hzc v1 (0 + bn) ([] ++ U8 M) rfl (unhide own1) ⟨da, dn, dc, dl⟩ (unhide HOK7) rfl (by show 0 + bn + dn ≤ _; omega) hs6 ?_
           intro v2 w7 own2 gr2
           have hb7 : Below wr.heap.size wr w7 := below_grown (unhide HB6) (Nat.le_refl _) (unhide own1) (unhide gr2)
           have hP7 := hP6.later hb7
           have hD7 := hD6.later hb7
           have q07 : w7.cell? ⟨wo.heap.size + 1, 0, none⟩ = some (.pointer (some ⟨gd, 0, none⟩)) := by rw [hP7.cell]; rfl
           have q17 : w7.cell? ⟨wo.heap.size + 1, 1, none⟩ = some (.slice ba bn bc) := by rw [hP7.cell]; rfl
           have fq7 := hP7.frozen 1
           have hB7 : But2 gd gd wo w7 := hBq.trans (But2.of_below hb7)
           have hB7' : But2 (G k) (G k) wo w7 := by rw [← unhide HGD]; exact hB7
           obtain ⟨ra0, ra1⟩ := h.ce k hk hB7'
           have fr0 := h.fz k hk hB7' (k * 2)
           have fr1 := h.fz k hk hB7' (k * 2 + 1)
           rw [← unhide HSB] at ra1
           simp only [Sl.v] at ra1
           have ho7 := unhide own2
           rw [List.nil_append, ← U8_append] at ho7
           obtain ⟨s7, hv7, ok7, hl7, hn7, -⟩ := own_sl ho7 (hMB.append ho.isB)
           obtain ⟨xa, xn, xc, xl⟩ := s7
           simp only [Sl.v] at hv7
           subst hv7
           have hn7 : xn = 0 + bn + dn := hn7
           rw [Nat.zero_add] at hn7 ho7
           subst hn7
           have HO7 := hide ho7
           clear gr2 hb7 own2 ho7 ok7))
      go_ret2
      have hl7 : xl = M ++ dl := hl7
      have hbx : But (wo.heap.size + 1) w7 (w7.setCell ⟨wo.heap.size + 1, 1, none⟩ (.slice xa (bn + dn) xc)) := (But.refl _ _).setCell 1 _
      have hB8 : But2 (G k) (G k) wo (w7.setCell ⟨wo.heap.size + 1, 1, none⟩ (.slice xa (bn + dn) xc)) := hB7'.new hbx (by omega)
      have hD8 : Dg (w7.setCell ⟨wo.heap.size + 1, 1, none⟩ (.slice xa (bn + dn) xc)) (G k) xl := by rw [← unhide HGD, hl7]; exact hD7.but hbx (by omega)
      have ho8 : (w7.setCell ⟨wo.heap.size + 1, 1, none⟩ (.slice xa (bn + dn) xc)).ownsRow w.heap.size 5 1 (Sl.mk xa (bn + dn) xc xl).v (bn + dn) (U8 xl) := by
        have ho := unhide HO7
        have hx : (Value.slice xa (bn + dn) xc).ownBlock ≠ some (wo.heap.size + 1) := fun e => by have := (ho.lt _ e).1; omega
        rw [hl7]
        exact World.ownsRow.mono (own_keep ho (But2.of_but (h := wo.heap.size + 1) hbx) hx hx) (unhide HGE)
      have this := h.putC k hk ⟨xa, bn + dn, xc, xl⟩ hB8 hD8 ho8
      rw [← unhide HGD] at this
      simp only [Nat.zero_add]
      refine ⟨n, gA, c, _, _, _, rfl, Nat.le_refl _, hn4, this, fun j hj => ?_⟩
      show (if j = k then (⟨xa, bn + dn, xc, xl⟩ : Sl) else B j).n ≤ T + dn
      by_cases e : j = k
      · rw [if_pos e]; show bn + dn ≤ T + dn; omega
      · rw [if_neg e]; have := hT j hj; omega

end Go.Proofs.YtgnignloababhaaDoor
