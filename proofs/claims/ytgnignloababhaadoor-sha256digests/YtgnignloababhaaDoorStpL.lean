import Derived.Test.YtgnignloababhaaDoorStpM
import Derived.RegionTactic
import Derived.BigRegion
import Derived.Deep.RegionWith
namespace Go.Proofs.YtgnignloababhaaDoor
open Go.RowKit

set_option maxHeartbeats 4000000 in
set_option maxRecDepth 100000 in
theorem step_len {w : World} {n gA c : Nat} {G : Nat → Nat} {B : Nat → Sl} {L : List Value} {wr : World} (h : DG w n gA c G B L wr) (k : Nat) (hk : k < n) (hn4 : n ≤ 4) (o : OpR) (T : Nat) (hT : ∀ k, k < n → (B k).n ≤ T) (hT2 : T + o.d.n ≤ 2097152) (hK : KLaid w) (hF : FLaid w) (ho : o.d.Ok w) (hkd : o.kd = 3) :
    Calls Tryd.prog 5 #[.slice (some ⟨gA, 0, none⟩) n c, .int .i64 k, o.v] wr (StP w n (T + o.d.n)) := by
  obtain ⟨kd, ao, da, dn, dc, dl⟩ := o
  have hT2 : T + dn ≤ 2097152 := hT2
  obtain rfl : kd = 3 := hkd
  simp only [OpR.v, Sl.v]
  have cd := h.cd k hk
  have cb := h.cb k hk
  have hdg := h.dg k hk
  have hbk := h.ok k hk
  have hTk := hT k hk
  have hGk := h.gAne k hk
  obtain ⟨sb, hsb⟩ : ∃ sb, sb = B k := ⟨_, rfl⟩
  obtain ⟨gd, hgd⟩ : ∃ gd, gd = G k := ⟨_, rfl⟩
  rw [← hsb] at cb hdg hbk hTk
  rw [← hgd] at cd hdg hGk
  rw [Nat.mul_comm] at cb cd
  have HSB := hide hsb
  have HGD := hide hgd
  clear hsb hgd
  obtain ⟨ba, bn, bc, M⟩ := sb
  simp only [Sl.v] at cb
  have hdg : Dg wr gd M := hdg
  have hTk : bn ≤ T := hTk
  have hbl : M.length = bn := hbk.len
  have hkz : (k : Int) < (n : Int) := by omega
  obtain ⟨W1, hW1, hO1, hb1, hs1⟩ := arr1 wr 32 [.int .i64 3, .int .u8 ao, .slice da dn dc]
  have HW1 := hide hW1
  obtain ⟨W2, hW2, hP2, hb2, hs2⟩ := arr1 W1 27 [.pointer (some ⟨gd, 0, none⟩), .slice ba bn bc]
  have HW2 := hide hW2
  have hO2 := hO1.later hb2
  clear hW1 hW2
  have cd1 := (hb1.cell (p := ⟨gA, k * 2, none⟩) (cell_lt cd)).trans cd
  have cb1 := (hb1.cell (p := ⟨gA, k * 2 + 1, none⟩) (cell_lt cb)).trans cb
  have hb12 : Below wr.heap.size wr W2 := hb1.trans (hb2.mono hb1.size)
  have n0 : W1.cell? ⟨wr.heap.size, 0, none⟩ = some (.int .i64 3) := by rw [hO1.cell]; rfl
  have n2 : W1.cell? ⟨wr.heap.size, 2, none⟩ = some (.slice da dn dc) := by rw [hO1.cell]; rfl
  have o0 : W2.cell? ⟨wr.heap.size, 0, none⟩ = some (.int .i64 3) := by rw [hO2.cell]; rfl
  have o2 : W2.cell? ⟨wr.heap.size, 2, none⟩ = some (.slice da dn dc) := by rw [hO2.cell]; rfl
  have p0 : W2.cell? ⟨W1.heap.size, 0, none⟩ = some (.pointer (some ⟨gd, 0, none⟩)) := by rw [hP2.cell]; rfl
  have p1 : W2.cell? ⟨W1.heap.size, 1, none⟩ = some (.slice ba bn bc) := by rw [hP2.cell]; rfl
  have fp1 := hP2.frozen 1
  have h2 := h.later hb12
  have hdg2 := hdg.later hb12
  have hbk2 := hbk.later hb12
  have hdk2 := ho.later h2.bel
  have hK2 := hK.later h2.bel
  have hF2 := hF.later h2.bel
  have hzp : (Tryd.prog.info? 27).map (·.size) = some (#[Value.pointer (some ⟨gd, 0, none⟩), Value.slice ba bn bc] : Array Value).size := by kernel_rfl
  have hzq : (#[Value.pointer none, Value.slice none 0 0] : Array Value).size = (#[Value.pointer (some ⟨gd, 0, none⟩), Value.slice ba bn bc] : Array Value).size := rfl
  have h1p : (#[Value.pointer (some ⟨gd, 0, none⟩), Value.slice ba bn bc] : Array Value).all (·.oneCell') = true := by simp [Value.oneCell']
  have hwrs : wr.heap.size < W1.heap.size := by omega
  have hgAl : gA < wr.heap.size := h.geA.2
  have hgdl : gd < wr.heap.size := hdg.lt
  have fr0 := h.fz k hk (But2.of_below hb1) (k * 2)
  have fr1 := h.fz k hk (But2.of_below hb1) (k * 2 + 1)
  clear cd cb hdg hbk hO1
  go_enter Tryd.func5, Tryd.ntmps5
  go_wp2_with (first
    | rw [show Obj.cells #[Value.int IntKind.i64 3, Value.int IntKind.u8 ao, Value.slice da dn dc] 32 = Obj.cells ([Value.int IntKind.i64 3, Value.int IntKind.u8 ao, Value.slice da dn dc] : List Value).toArray 32 (0, 0) from rfl, ← unhide HW1]
    | (refine wpList_store_row rfl 27 (.tmp 8) (.tmp 16) rfl W1.heap.size _ rfl rfl 27 _ (heap_alloc_last W1 _) hzp hzq h1p ?_; rw [World.setRow_alloc_new, show Obj.cells #[Value.pointer (some ⟨gd, 0, none⟩), Value.slice ba bn bc] 27 = Obj.cells ([Value.pointer (some ⟨gd, 0, none⟩), Value.slice ba bn bc] : List Value).toArray 27 (0, 0) from rfl, ← unhide HW2]))
  rw [show Obj.cells #[Value.pointer (some ⟨gd, 0, none⟩), Value.slice ba bn bc] 27 = Obj.cells ([Value.pointer (some ⟨gd, 0, none⟩), Value.slice ba bn bc] : List Value).toArray 27 (0, 0) from rfl, ← unhide HW2]
  have hS : AkS wr gd (wr.heap.size + 1) M ⟨ba, bn, bc, M⟩ W2 := by
    rw [hs1] at p0 p1
    exact ⟨p0, p1, hdg2, hbk2, hK2, hb12⟩
  have HLEN := hide (show ((M.length : Int) % 18446744073709551616) = (bn : Int) by rw [hbl]; omega)
  have hwu := hide (show IntKind.u64.wrap (bn : Int) = (bn : Int) by rw [IntKind.wrap_u64]; omega)
  obtain ⟨R, hRR⟩ : ∃ R, R = sumZ M := ⟨_, rfl⟩
  have E1 := eqHs R (by rw [hRR]; exact sumZ_length M)
  have HRR := hide hRR
  have hbn2 : bn ≤ 2097152 := by omega
  clear hRR p0 p1 hdg2 hbk2 hK2 hF2 h2 hdk2 o0 o2 n0 n2 hO2 hP2 cd1 cb1 fr0 fr1 fp1
  refine wp_region_held_drew (S := AkS wr gd (wr.heap.size + 1) M ⟨ba, bn, bc, M⟩) (by kernel_rfl) hS.drew (fun hHeld => ?_)
  clear hS
  refine wpAnyH_take (i := 0) (oi := _) (v := .slice (some ⟨gA, 0, none⟩) n c) rfl (by kernel_rfl) (by kernel_rfl) (by kernel_rfl) (fun _ _ _ h => h) (Or.inl ⟨by rfl, fun w hSw => by go_simp⟩) hHeld ?_
  simp [Act.put]
  refine wpAnyH_take (i := 1) (oi := _) (v := .pointer (some ⟨wr.heap.size + 1, 0, none⟩)) rfl (by kernel_rfl) (by kernel_rfl) (by kernel_rfl) (fun _ _ _ h => h) (Or.inl ⟨by rfl, fun w hSw => by go_simp⟩) hHeld ?_
  simp [Act.put]
  refine wpAnyH_take (i := 2) (oi := _) (v := .pointer (some ⟨gd, 0, none⟩)) rfl (by kernel_rfl) (by kernel_rfl) (by kernel_rfl) (fun _ _ _ h => h) (Or.inl ⟨by rfl, fun w hSw => by have hc := hSw.c0; go_simp⟩) hHeld ?_
  simp [Act.put]
  refine wpAnyH_take (i := 4) (oi := _) (v := .pointer (some ⟨wr.heap.size + 1, 1, none⟩)) rfl (by kernel_rfl) (by kernel_rfl) (by kernel_rfl) (fun _ _ _ h => h) (Or.inl ⟨by rfl, fun w hSw => by go_simp⟩) hHeld ?_
  simp [Act.put]
  refine wpAnyH_take (i := 5) (oi := _) (v := .slice ba bn bc) rfl (by kernel_rfl) (by kernel_rfl) (by kernel_rfl) (fun _ _ _ h => h) (Or.inl ⟨by rfl, fun w hSw => by have hc := hSw.c1; simp only [Sl.v] at hc; go_simp⟩) hHeld ?_
  simp [Act.put]
  refine wpAnyH_take (i := 6) (oi := _) (v := .int .i64 bn) rfl (by kernel_rfl) (by kernel_rfl) (by kernel_rfl) (fun _ _ _ h => h) (Or.inl ⟨by rfl, fun w hSw => by go_simp⟩) hHeld ?_
  simp [Act.put]
  refine wpAnyH_take (i := 7) (oi := _) (v := .int .u64 bn) rfl (by kernel_rfl) (by kernel_rfl) (by kernel_rfl) (fun _ _ _ h => h) (Or.inl ⟨by rfl, fun w hSw => by have hq := unhide hwu; go_simp⟩) hHeld ?_
  simp [Act.put]
  refine wpAnyH_ready (rs := [3]) (by kernel_rfl) (by simp) ?_
  refine AllReadyH.cons rfl (fun K hK => ?_) AllReadyH.nil
  go_simp
  refine (len_any gd M _ hHeld.dg).mono ?_
  rintro e w3 ⟨rfl, rfl⟩
  rw [unhide HLEN]
  refine hK.out _ _ hHeld (fun hHeld => ?_)
  clear hK K
  refine wpAnyH_take (i := 8) (oi := _) (v := .bool true) rfl (by kernel_rfl) (by kernel_rfl) (by kernel_rfl) (fun _ _ _ h => h) (Or.inl ⟨by rfl, fun w hSw => by go_simp⟩) hHeld ?_
  simp [Act.put]
  refine wpAnyH_take (i := 9) (oi := _) (v := .slice (some ⟨gA, 0, none⟩) n c) rfl (by kernel_rfl) (by kernel_rfl) (by kernel_rfl) (fun _ _ _ h => h) (Or.inl ⟨by rfl, fun w hSw => by go_simp⟩) hHeld ?_
  simp [Act.put]
  refine wpAnyH_take (i := 10) (oi := _) (v := .bool true) rfl (by kernel_rfl) (by kernel_rfl) (by kernel_rfl) (fun _ _ _ h => h) (Or.inl ⟨by rfl, fun w hSw => by go_simp⟩) hHeld ?_
  simp [Act.put]
  refine wpAnyH_done (by kernel_rfl) ?_ _
  go_wp2
  go_ret2
  exact ⟨n, gA, c, _, _, _, rfl, Nat.le_refl _, hn4, h.later hHeld.bel, fun j hj => by have := hT j hj; omega⟩

end Go.Proofs.YtgnignloababhaaDoor
