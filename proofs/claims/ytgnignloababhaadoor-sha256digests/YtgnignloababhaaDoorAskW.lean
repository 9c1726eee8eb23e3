import Derived.Test.YtgnignloababhaaDoorDgsM
import Derived.RegionTactic
import Derived.BigRegion
import Derived.Deep.RegionWith
namespace Go.Proofs.YtgnignloababhaaDoor
open Go.RowKit

theorem Tryd.szHs : (Tryd.prog.info? 45).map (·.size) = some 32 := by kernel_rfl
theorem eqHs (l : List Int) (h : l.length = 32) (w : World) : (Op.equalIn 10000 45 (.agg (U8 l).toArray) (.agg (U8 l).toArray)).run Tryd.prog w = .ok true w := by
  have := run_equalIn_ints (P := Tryd.prog) (t := 45) (e := 5) (n := 32) (k := .u8) Tryd.underlying45 Tryd.underlying5 (by kernel_rfl) l l h h w
  simpa [U8] using this
/-- what stands while a pair is asked -/
structure AkS (w : World) (gd gb : Nat) (M : List Int) (s : Sl) (wr : World) : Prop where
  c0 : wr.cell? ⟨gb, 0, none⟩ = some (.pointer (some ⟨gd, 0, none⟩))
  c1 : wr.cell? ⟨gb, 1, none⟩ = some s.v
  dg : Dg wr gd M
  ok : s.Ok wr
  k : KLaid wr
  bel : Below w.heap.size w wr
theorem AkS.later {w : World} {gd gb : Nat} {M : List Int} {s : Sl} {wr w' : World} (h : AkS w gd gb M s wr) (hb : Below wr.heap.size wr w') : AkS w gd gb M s w' :=
  ⟨(hb.cell (p := ⟨gb, 0, none⟩) (cell_lt h.c0)).trans h.c0, (hb.cell (p := ⟨gb, 1, none⟩) (cell_lt h.c1)).trans h.c1, h.dg.later hb, h.ok.later hb, h.k.later hb, h.bel.trans (hb.mono h.bel.size)⟩
theorem AkS.drew {w : World} {gd gb : Nat} {M : List Int} {s : Sl} {wr : World} (h : AkS w gd gb M s wr) : AkS w gd gb M s wr.drew := h.later ⟨rfl, rfl, rfl, Nat.le_refl _, fun _ _ => rfl⟩
structure AkR (w : World) (gd gb gr : Nat) (M : List Int) (s : Sl) (R : List Int) (wr : World) : Prop where
  a : AkS w gd gb M s wr
  r : Arr wr gr 45 (U8 R)
theorem AkR.later {w : World} {gd gb gr : Nat} {M : List Int} {s : Sl} {R : List Int} {wr w' : World} (h : AkR w gd gb gr M s R wr) (hb : Below wr.heap.size wr w') : AkR w gd gb gr M s R w' := ⟨h.a.later hb, h.r.later hb⟩
theorem AkR.rR {w : World} {gd gb gr : Nat} {M : List Int} {s : Sl} {R : List Int} {wr : World} (h : AkR w gd gb gr M s R wr) : wr.rangeAt gr 0 (U8 R) := fun j v hv => by rw [h.r.cell, Nat.zero_add]; exact hv
theorem AkR.drew {w : World} {gd gb gr : Nat} {M : List Int} {s : Sl} {R : List Int} {wr : World} (h : AkR w gd gb gr M s R wr) : AkR w gd gb gr M s R wr.drew := h.later ⟨rfl, rfl, rfl, Nat.le_refl _, fun _ _ => rfl⟩

set_option maxHeartbeats 4000000 in
set_option maxRecDepth 100000 in
theorem asked_any (gd : Nat) (s : Sl) (w : World) (hD : Dg w gd s.l) (hok : s.Ok w) (hn : s.n ≤ 2097152) (hK : KLaid w) :
    Calls Tryd.prog 6 #[.agg #[.pointer (some ⟨gd, 0, none⟩), s.v]] w fun e w' => e = .returned (.bool true) ∧ Below w.heap.size w w' := by
  obtain ⟨ba, bn, bc, M⟩ := s
  have hD : Dg w gd M := hD
  have hbn : bn ≤ 2097152 := hn
  have hlen : M.length = bn := hok.len
  obtain ⟨W, hW, hBx, hbW, -⟩ := arr1 w 27 [.pointer (some ⟨gd, 0, none⟩), .slice ba bn bc]
  have HW := hide hW
  have hD1 := hD.later hbW
  have hK1 := hK.later hbW
  have b0 : W.cell? ⟨w.heap.size, 0, none⟩ = some (.pointer (some ⟨gd, 0, none⟩)) := by rw [hBx.cell]; rfl
  have b1 : W.cell? ⟨w.heap.size, 1, none⟩ = some (.slice ba bn bc) := by rw [hBx.cell]; rfl
  have hok1 := hok.later hbW
  clear hW hn hD hok hK
  simp only [Sl.v]
  go_enter Tryd.func6, Tryd.ntmps6
  go_wp2_with (rw [show Obj.cells #[Value.pointer (some ⟨gd, 0, none⟩), Value.slice ba bn bc] 27 = Obj.cells ([Value.pointer (some ⟨gd, 0, none⟩), Value.slice ba bn bc] : List Value).toArray 27 (0, 0) from rfl, ← unhide HW])
  refine (digSum_any gd M W hD1 hK1).mono ?_
  rintro e w1 ⟨rfl, hb1⟩
  obtain ⟨R, hRR⟩ : ∃ R, R = sumZ M := ⟨_, rfl⟩
  have hRl : R.length = 32 := by rw [hRR]; exact sumZ_length M
  rw [← hRR]
  have HRR := hide hRR
  have HRL := hide hRl
  clear hRR hRl
  have hzr : (Tryd.prog.info? 45).map (·.size) = some (U8 R).toArray.size := by rw [Tryd.szHs]; simp [unhide HRL]
  obtain ⟨W2, hW2, hH, hbH, -⟩ := arr1 w1 45 (U8 R)
  have HW2 := hide hW2
  clear hW2
  have hzo : (#[Value.int IntKind.u8 0, Value.int IntKind.u8 0, Value.int IntKind.u8 0, Value.int IntKind.u8 0, Value.int IntKind.u8 0, Value.int IntKind.u8 0, Value.int IntKind.u8 0, Value.int IntKind.u8 0, Value.int IntKind.u8 0, Value.int IntKind.u8 0, Value.int IntKind.u8 0, Value.int IntKind.u8 0, Value.int IntKind.u8 0, Value.int IntKind.u8 0, Value.int IntKind.u8 0, Value.int IntKind.u8 0, Value.int IntKind.u8 0, Value.int IntKind.u8 0, Value.int IntKind.u8 0, Value.int IntKind.u8 0, Value.int IntKind.u8 0, Value.int IntKind.u8 0, Value.int IntKind.u8 0, Value.int IntKind.u8 0, Value.int IntKind.u8 0, Value.int IntKind.u8 0, Value.int IntKind.u8 0, Value.int IntKind.u8 0, Value.int IntKind.u8 0, Value.int IntKind.u8 0, Value.int IntKind.u8 0, Value.int IntKind.u8 0] : Array Value).size = (U8 R).toArray.size := by simp [unhide HRL]
  have h1r : (U8 R).toArray.all (·.oneCell') = true := all_one (U8_one _)
  have hb2 : Below W.heap.size W W2 := hb1.trans (hbH.mono hb1.size)
  have hS : AkR w gd w.heap.size w1.heap.size M ⟨ba, bn, bc, M⟩ R W2 := ⟨(AkS.mk (s := ⟨ba, bn, bc, M⟩) b0 b1 hD1 hok1 hK1 hbW).later hb2, hH⟩
  have E1 := eqHs R (unhide HRL)
  have HLEN := hide (show ((M.length : Int) % 18446744073709551616) = (bn : Int) by rw [hlen]; omega)
  have hwu := hide (show IntKind.u64.wrap (bn : Int) = (bn : Int) by rw [IntKind.wrap_u64]; omega)
  clear b0 b1 hD1 hok1 hK1 hBx hb1 hb2 hbH hH
  go_wp2_with (refine wpList_store_row rfl 45 (.tmp 3) (.tmp 6) rfl w1.heap.size _ rfl rfl 45 _ (heap_alloc_last w1 _) hzr hzo h1r ?_; rw [World.setRow_alloc_new, ← unhide HW2])
  have hzr2 : (Tryd.prog.info? 45).map (·.size) = some (U8 R).length := by rw [Tryd.szHs]; simp [unhide HRL]
  refine wp_region_held_drew (S := AkR w gd w.heap.size w1.heap.size M ⟨ba, bn, bc, M⟩ R) (by kernel_rfl) hS.drew (fun hHeld => ?_)
  clear hS
  refine wpAnyH_take (i := 0) (oi := _) (v := _) rfl (by kernel_rfl) (by kernel_rfl) (by kernel_rfl) (fun _ _ _ h => h) (yieldsIf_load_mid (by rfl) _ _ rfl _ _ rfl _ _ (fun _ h => AkR.rR h) Tryd.underlying45 rfl hzr2) hHeld ?_
  simp [Act.put]
  refine wpAnyH_take (i := 1) (oi := _) (v := .pointer (some ⟨w.heap.size, 1, none⟩)) rfl (by kernel_rfl) (by kernel_rfl) (by kernel_rfl) (fun _ _ _ h => h) (Or.inl ⟨by rfl, fun w hSw => by go_simp⟩) hHeld ?_
  simp [Act.put]
  refine wpAnyH_take (i := 2) (oi := _) (v := .slice ba bn bc) rfl (by kernel_rfl) (by kernel_rfl) (by kernel_rfl) (fun _ _ _ h => h) (Or.inl ⟨by rfl, fun w hSw => by have hc := hSw.a.c1; simp only [Sl.v] at hc; go_simp⟩) hHeld ?_
  simp [Act.put]
  refine wpAnyH_ready (rs := [3]) (by kernel_rfl) (by simp) ?_
  refine AllReadyH.cons rfl (fun K hK => ?_) AllReadyH.nil
  go_simp
  refine (refSum_any ⟨ba, bn, bc, M⟩ _ hHeld.a.ok (by show bn ≤ _; omega)).mono ?_
  rintro e w2 ⟨rfl, hb2⟩
  rw [show (Sl.mk ba bn bc M).l = M from rfl, ← unhide HRR]
  refine hK.out _ _ (hHeld.later hb2) (fun hHeld => ?_)
  clear hK K
  refine wpAnyH_take (i := 4) (oi := _) (v := .bool true) rfl (by kernel_rfl) (by kernel_rfl) (by kernel_rfl) (fun _ _ _ h => h) (Or.inl ⟨by rfl, fun w hSw => by go_simp⟩) hHeld ?_
  simp [Act.put]
  refine wpAnyH_take (i := 5) (oi := _) (v := .bool true) rfl (by kernel_rfl) (by kernel_rfl) (by kernel_rfl) (fun _ _ _ h => h) (Or.inl ⟨by rfl, fun w hSw => by go_simp⟩) hHeld ?_
  simp [Act.put]
  refine wpAnyH_take (i := 6) (oi := _) (v := .pointer (some ⟨w.heap.size, 0, none⟩)) rfl (by kernel_rfl) (by kernel_rfl) (by kernel_rfl) (fun _ _ _ h => h) (Or.inl ⟨by rfl, fun w hSw => by go_simp⟩) hHeld ?_
  simp [Act.put]
  refine wpAnyH_take (i := 7) (oi := _) (v := .pointer (some ⟨gd, 0, none⟩)) rfl (by kernel_rfl) (by kernel_rfl) (by kernel_rfl) (fun _ _ _ h => h) (Or.inl ⟨by rfl, fun w hSw => by have hc := hSw.a.c0; go_simp⟩) hHeld ?_
  simp [Act.put]
  refine wpAnyH_take (i := 9) (oi := _) (v := .pointer (some ⟨w.heap.size, 1, none⟩)) rfl (by kernel_rfl) (by kernel_rfl) (by kernel_rfl) (fun _ _ _ h => h) (Or.inl ⟨by rfl, fun w hSw => by go_simp⟩) hHeld ?_
  simp [Act.put]
  refine wpAnyH_take (i := 10) (oi := _) (v := .slice ba bn bc) rfl (by kernel_rfl) (by kernel_rfl) (by kernel_rfl) (fun _ _ _ h => h) (Or.inl ⟨by rfl, fun w hSw => by have hc := hSw.a.c1; simp only [Sl.v] at hc; go_simp⟩) hHeld ?_
  simp [Act.put]
  refine wpAnyH_take (i := 11) (oi := _) (v := .int .i64 bn) rfl (by kernel_rfl) (by kernel_rfl) (by kernel_rfl) (fun _ _ _ h => h) (Or.inl ⟨by rfl, fun w hSw => by go_simp⟩) hHeld ?_
  simp [Act.put]
  refine wpAnyH_take (i := 12) (oi := _) (v := .int .u64 bn) rfl (by kernel_rfl) (by kernel_rfl) (by kernel_rfl) (fun _ _ _ h => h) (Or.inl ⟨by rfl, fun w hSw => by have hq := unhide hwu; go_simp⟩) hHeld ?_
  simp [Act.put]
  refine wpAnyH_ready (rs := [8]) (by kernel_rfl) (by simp) ?_
  refine AllReadyH.cons rfl (fun K hK => ?_) AllReadyH.nil
  go_simp
  refine (len_any gd M _ hHeld.a.dg).mono ?_
  rintro e w3 ⟨rfl, rfl⟩
  rw [unhide HLEN]
  refine hK.out _ _ hHeld (fun hHeld => ?_)
  clear hK K
  refine wpAnyH_take (i := 13) (oi := _) (v := .bool true) rfl (by kernel_rfl) (by kernel_rfl) (by kernel_rfl) (fun _ _ _ h => h) (Or.inl ⟨by rfl, fun w hSw => by go_simp⟩) hHeld ?_
  simp [Act.put]
  refine wpAnyH_take (i := 14) (oi := _) (v := .bool true) rfl (by kernel_rfl) (by kernel_rfl) (by kernel_rfl) (fun _ _ _ h => h) (Or.inl ⟨by rfl, fun w hSw => by go_simp⟩) hHeld ?_
  simp [Act.put]
  refine wpAnyH_take (i := 15) (oi := _) (v := .bool true) rfl (by kernel_rfl) (by kernel_rfl) (by kernel_rfl) (fun _ _ _ h => h) (Or.inl ⟨by rfl, fun w hSw => by go_simp⟩) hHeld ?_
  simp [Act.put]
  refine wpAnyH_done (by kernel_rfl) ?_ _
  go_wp2
  go_ret
  exact ⟨rfl, hHeld.a.bel⟩
end Go.Proofs.YtgnignloababhaaDoor
