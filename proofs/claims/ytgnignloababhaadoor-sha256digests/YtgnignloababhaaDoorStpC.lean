import Derived.Test.YtgnignloababhaaDoorStpM
import Derived.RegionTactic
import Derived.BigRegion
import Derived.Deep.RegionWith
namespace Go.Proofs.YtgnignloababhaaDoor
open Go.RowKit

set_option maxHeartbeats 4000000 in
set_option maxRecDepth 100000 in
theorem step_clone {w : World} {n gA c : Nat} {G : Nat → Nat} {B : Nat → Sl} {L : List Value} {wr : World} (h : DG w n gA c G B L wr) (k : Nat) (hk : k < n) (hn4 : n ≤ 4) (o : OpR) (T : Nat) (hT : ∀ k, k < n → (B k).n ≤ T) (hT2 : T + o.d.n ≤ 2097152) (hK : KLaid w) (hF : FLaid w) (ho : o.d.Ok w) (hkd : o.kd = 4) :
    Calls Tryd.prog 5 #[.slice (some ⟨gA, 0, none⟩) n c, .int .i64 k, o.v] wr (StP w n (T + o.d.n)) := by
  obtain ⟨kd, ao, da, dn, dc, dl⟩ := o
  have hT2 : T + dn ≤ 2097152 := hT2
  obtain rfl : kd = 4 := hkd
  simp only [OpR.v, Sl.v]
  have cd := h.cd k hk
  have cb := h.cb k hk
  have hdg := h.dg k hk
  have hbk := h.ok k hk
  have hTk := hT k hk
  have hGk := h.gAne k hk
  obtain ⟨sb, hsb⟩ : ∃ sb, sb = B k := ⟨_, rfl⟩
  obtain ⟨gd, hgd⟩ : ∃ gd, gd = G k := ⟨_, rfl⟩
  rw [← hsb] at cb hdg hbk hTk
  rw [← hgd] at cd hdg hGk
  rw [Nat.mul_comm] at cb cd
  have HSB := hide hsb
  have HGD := hide hgd
  clear hsb hgd
  obtain ⟨ba, bn, bc, M⟩ := sb
  simp only [Sl.v] at cb
  have hdg : Dg wr gd M := hdg
  have hTk : bn ≤ T := hTk
  have hbl : M.length = bn := hbk.len
  have hkz : (k : Int) < (n : Int) := by omega
  obtain ⟨W1, hW1, hO1, hb1, hs1⟩ := arr1 wr 32 [.int .i64 4, .int .u8 ao, .slice da dn dc]
  have HW1 := hide hW1
  obtain ⟨W2, hW2, hP2, hb2, hs2⟩ := arr1 W1 27 [.pointer (some ⟨gd, 0, none⟩), .slice ba bn bc]
  have HW2 := hide hW2
  have hO2 := hO1.later hb2
  clear hW1 hW2
  have cd1 := (hb1.cell (p := ⟨gA, k * 2, none⟩) (cell_lt cd)).trans cd
  have cb1 := (hb1.cell (p := ⟨gA, k * 2 + 1, none⟩) (cell_lt cb)).trans cb
  have hb12 : Below wr.heap.size wr W2 := hb1.trans (hb2.mono hb1.size)
  have n0 : W1.cell? ⟨wr.heap.size, 0, none⟩ = some (.int .i64 4) := by rw [hO1.cell]; rfl
  have n2 : W1.cell? ⟨wr.heap.size, 2, none⟩ = some (.slice da dn dc) := by rw [hO1.cell]; rfl
  have o0 : W2.cell? ⟨wr.heap.size, 0, none⟩ = some (.int .i64 4) := by rw [hO2.cell]; rfl
  have o2 : W2.cell? ⟨wr.heap.size, 2, none⟩ = some (.slice da dn dc) := by rw [hO2.cell]; rfl
  have p0 : W2.cell? ⟨W1.heap.size, 0, none⟩ = some (.pointer (some ⟨gd, 0, none⟩)) := by rw [hP2.cell]; rfl
  have p1 : W2.cell? ⟨W1.heap.size, 1, none⟩ = some (.slice ba bn bc) := by rw [hP2.cell]; rfl
  have fp1 := hP2.frozen 1
  have h2 := h.later hb12
  have hdg2 := hdg.later hb12
  have hbk2 := hbk.later hb12
  have hdk2 := ho.later h2.bel
  have hK2 := hK.later h2.bel
  have hF2 := hF.later h2.bel
  have hzp : (Tryd.prog.info? 27).map (·.size) = some (#[Value.pointer (some ⟨gd, 0, none⟩), Value.slice ba bn bc] : Array Value).size := by kernel_rfl
  have hzq : (#[Value.pointer none, Value.slice none 0 0] : Array Value).size = (#[Value.pointer (some ⟨gd, 0, none⟩), Value.slice ba bn bc] : Array Value).size := rfl
  have h1p : (#[Value.pointer (some ⟨gd, 0, none⟩), Value.slice ba bn bc] : Array Value).all (·.oneCell') = true := by simp [Value.oneCell']
  have hwrs : wr.heap.size < W1.heap.size := by omega
  have hgAl : gA < wr.heap.size := h.geA.2
  have hgdl : gd < wr.heap.size := hdg.lt
  have fr0 := h.fz k hk (But2.of_below hb1) (k * 2)
  have fr1 := h.fz k hk (But2.of_below hb1) (k * 2 + 1)
  clear cd cb hdg hbk hO1
  go_enter Tryd.func5, Tryd.ntmps5
  go_wp2_with (first
    | rw [show Obj.cells #[Value.int IntKind.i64 4, Value.int IntKind.u8 ao, Value.slice da dn dc] 32 = Obj.cells ([Value.int IntKind.i64 4, Value.int IntKind.u8 ao, Value.slice da dn dc] : List Value).toArray 32 (0, 0) from rfl, ← unhide HW1]
    | (refine wpList_store_row rfl 27 (.tmp 8) (.tmp 16) rfl W1.heap.size _ rfl rfl 27 _ (heap_alloc_last W1 _) hzp hzq h1p ?_; rw [World.setRow_alloc_new, show Obj.cells #[Value.pointer (some ⟨gd, 0, none⟩), Value.slice ba bn bc] 27 = Obj.cells ([Value.pointer (some ⟨gd, 0, none⟩), Value.slice ba bn bc] : List Value).toArray 27 (0, 0) from rfl, ← unhide HW2]))
  rw [show Obj.cells #[Value.pointer (some ⟨gd, 0, none⟩), Value.slice ba bn bc] 27 = Obj.cells ([Value.pointer (some ⟨gd, 0, none⟩), Value.slice ba bn bc] : List Value).toArray 27 (0, 0) from rfl, ← unhide HW2]
  refine (clone_any gd M W2 hdg2).mono ?_
  rintro e w3 ⟨rfl, hD3, hb3⟩
  have hP3 := hP2.later hb3
  rw [hs1] at hP3
  have q1 : w3.cell? ⟨wr.heap.size + 1, 1, none⟩ = some (.slice ba bn bc) := by rw [hP3.cell]; rfl
  have hb13 : Below wr.heap.size wr w3 := hb12.trans (hb3.mono hb12.size)
  have h3 := h.later hb13
  by_cases hn : n < 4
  · have hnz : (n : Int) < 4 := by omega
    have hrow := h3.row
    obtain ⟨i1, hi1, hy0, hy1, hy2⟩ := info_parts Tryd.infoPr
    have hyc : (Value.agg #[Value.pointer none, Value.slice none 0 0]).cells.size = 2 := rfl
    go_wp2_with (at_builtin; refine wpList_append_own _ rfl _ _ 28 rfl w.heap.size 27 i1 (.agg #[Value.pointer none, Value.slice none 0 0]) 2 32 Tryd.underlying28 hi1 hy0 hy1 hy2 hyc (by decide) _ n L rfl (hrow.alloc _) ⟨w3.heap.size, 0, none⟩ 1 1 [.pointer (some ⟨wr.heap.size + 1 + 1, 0, none⟩), .slice ba bn bc] rfl rfl (fun j u hj => ?_) (fun u hu => ?_) (by unfold maxLen; omega) (by omega) (by have := h3.bel.size; simp; omega) ?_)
    · have := (Arr.new w3 27 [.pointer (some ⟨wr.heap.size + 1 + 1, 0, none⟩), .slice ba bn bc]).cell j
      have hj2 := this.trans hj
      by_cases hj0 : j = 0
      · subst hj0; simpa [Addr.add] using hj2
      · simpa [Addr.add, hj0] using hj2
    · simp only [List.mem_cons, List.not_mem_nil, or_false] at hu
      rcases hu with rfl | rfl <;> simp [Value.oneCell']
    · intro v' w' hown' hgrow _
      obtain ⟨gA', c', rfl⟩ : ∃ gA' c', v' = .slice (some ⟨gA', 0, none⟩) (n + 1) c' := by
        rcases hown'.2 with ⟨-, h0⟩ | ⟨g, cap, cur, hv, -⟩
        · omega
        · exact ⟨g, cap, hv⟩
      have hb3a := hb3.alloc hb3.size (.cells #[Value.pointer (some ⟨wr.heap.size + 1 + 1, 0, none⟩), Value.slice ba bn bc] 27 (0, 0))
      have hBt : But gA W2 w' := ⟨hgrow.os.trans hb3a.os, hgrow.tape.trans hb3a.tape, hgrow.output.trans hb3a.output, Nat.le_trans hb3a.size hgrow.size, fun i hi hne => (hgrow.block i (Nat.lt_of_lt_of_le hi hb3a.size) (fun e => hne (Option.some.inj e))).trans (hb3a.block i hi)⟩
      have hg2 : But2 gA gA (w3.alloc (.cells #[Value.pointer (some ⟨wr.heap.size + 1 + 1, 0, none⟩), Value.slice ba bn bc] 27 (0, 0))) w' := ⟨hgrow.os, hgrow.tape, hgrow.output, hgrow.size, fun i hi hne _ => hgrow.block i hi (fun e => hne (Option.some.inj e))⟩
      have e2 : W2.heap.size = wr.heap.size + 1 + 1 := by omega
      have hDn := dg_keep (hD3.later ((Below.refl _ w3).alloc (Nat.le_refl _) _)) hg2 (by omega) (by omega)
      rw [e2] at hDn
      have hM := h2.more k hk gA' c' (wr.heap.size + 1 + 1) (by rw [← unhide HSB]; exact hown') (by rw [← unhide HSB]; exact hDn) (by omega) hBt
      clear hgrow hown' hb3a hBt hg2 hDn
      go_wp2_with fail
      go_ret2
      refine ⟨n + 1, gA', c', _, _, _, rfl, by omega, by omega, hM, fun j hj => ?_⟩
      show (if j = n then B k else B j).n ≤ T + dn
      by_cases e : j = n
      · rw [if_pos e]; have := hT k hk; omega
      · rw [if_neg e]; have := hT j (by omega); omega
  · have hnz : ¬ ((n : Int) < 4) := by omega
    have hnd : decide ((n : Int) < 4) = false := by simpa using hnz
    go_wp2_with fail
    go_ret2
    exact ⟨n, gA, c, _, _, _, rfl, Nat.le_refl _, hn4, h3, fun j hj => by have := hT j hj; omega⟩

end Go.Proofs.YtgnignloababhaaDoor
