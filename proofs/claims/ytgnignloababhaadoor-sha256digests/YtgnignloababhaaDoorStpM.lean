import Derived.Test.YtgnignloababhaaDoorAskW
import Derived.RegionTactic
import Derived.BigRegion
import Derived.Deep.RegionWith
namespace Go.Proofs.YtgnignloababhaaDoor
open Go.RowKit

/-- one call -/
structure OpR where
  kd : Int
  at_ : Int
  d : Sl
def OpR.v (o : OpR) : Value := .agg #[.int .i64 o.kd, .int .u8 o.at_, o.d.v]
/-- what a step leaves -/
def StP (w : World) (n T : Nat) (e : Ending) (w' : World) : Prop :=
  ∃ n' gA c G B L, e = .returned (.tuple #[.slice (some ⟨gA, 0, none⟩) n' c, .bool true]) ∧ n ≤ n' ∧ n' ≤ 4 ∧ DG w n' gA c G B L w' ∧ ∀ k, k < n' → (B k).n ≤ T

/-- the pair at k written back -/
theorem DG.putC {w : World} {n gA c : Nat} {G : Nat → Nat} {B : Nat → Sl} {L : List Value} {wr w3 : World} (h : DG w n gA c G B L wr) (k : Nat) (hk : k < n) (s' : Sl) (hB : But2 (G k) (G k) wr w3) (hD : Dg w3 (G k) s'.l) (ho : w3.ownsRow w.heap.size 5 1 s'.v s'.n (U8 s'.l)) :
    DG w n gA c G (fun i => if i = k then s' else B i) ((L.set (k * 2) (.pointer (some ⟨G k, 0, none⟩))).set (k * 2 + 1) s'.v) ((w3.setCell ⟨gA, k * 2, none⟩ (.pointer (some ⟨G k, 0, none⟩))).setCell ⟨gA, k * 2 + 1, none⟩ s'.v) := by
  have hrow3 := own_keep h.row hB (fun e => h.gAne k hk (Option.some.inj e).symm) (fun e => h.gAne k hk (Option.some.inj e).symm)
  have hL : L.length = n * 2 := h.row.1
  have hbt : But gA w3 ((w3.setCell ⟨gA, k * 2, none⟩ (.pointer (some ⟨G k, 0, none⟩))).setCell ⟨gA, k * 2 + 1, none⟩ s'.v) := ((But.refl gA w3).setCell _ _).setCell _ _
  have hb2 : But2 gA gA w3 ((w3.setCell ⟨gA, k * 2, none⟩ (.pointer (some ⟨G k, 0, none⟩))).setCell ⟨gA, k * 2 + 1, none⟩ s'.v) := But2.of_but hbt
  have r1 := (hrow3.stored (k * 2) (.pointer (some ⟨G k, 0, none⟩))).1
  have r2 := (r1.stored (k * 2 + 1) s'.v).1
  refine h.put k hk s' r2 ?_ ?_ (fun i h1 h2 => ?_) (hD.but hbt (h.gAne k hk)) ?_ ?_
  · rw [List.getElem?_set_ne (by omega), show 2 * k = k * 2 from by omega, List.getElem?_set_self (by omega)]
  · rw [show 2 * k + 1 = k * 2 + 1 from by omega, List.getElem?_set_self (by rw [List.length_set]; omega)]
  · rw [List.getElem?_set_ne (by omega), List.getElem?_set_ne (by omega)]
  · exact own_keep ho hb2 (own_ne_own hrow3 ho (by decide) rfl) (own_ne_own hrow3 ho (by decide) rfl)
  · exact ⟨hbt.os.trans hB.os, hbt.tape.trans hB.tape, hbt.output.trans hB.output, Nat.le_trans hB.size hbt.size, fun i hi h1 h2 => (hbt.block i (Nat.lt_of_lt_of_le hi hB.size) h2).trans (hB.block i hi h1 h1)⟩
theorem DG.fz {w : World} {n gA c : Nat} {G : Nat → Nat} {B : Nat → Sl} {L : List Value} {wr w3 : World} (h : DG w n gA c G B L wr) (k : Nat) (hk : k < n) (hB : But2 (G k) (G k) wr w3) (j : Nat) : w3.frozen? ⟨gA, j, none⟩ = false :=
  (own_keep h.row hB (fun e => h.gAne k hk (Option.some.inj e).symm) (fun e => h.gAne k hk (Option.some.inj e).symm)).frozenAt j
theorem DG.ce {w : World} {n gA c : Nat} {G : Nat → Nat} {B : Nat → Sl} {L : List Value} {wr w3 : World} (h : DG w n gA c G B L wr) (k : Nat) (hk : k < n) (hB : But2 (G k) (G k) wr w3) : w3.cell? ⟨gA, k * 2, none⟩ = some (.pointer (some ⟨G k, 0, none⟩)) ∧ w3.cell? ⟨gA, k * 2 + 1, none⟩ = some (B k).v := by
  have hrow3 := own_keep h.row hB (fun e => h.gAne k hk (Option.some.inj e).symm) (fun e => h.gAne k hk (Option.some.inj e).symm)
  rw [hrow3.cellAt (k * 2) (by omega), hrow3.cellAt (k * 2 + 1) (by omega), Nat.mul_comm k 2]
  exact ⟨h.d k hk, h.b k hk⟩

theorem Tryd.infoPr : (Tryd.prog.info? 27).map (fun i => (i.zero, i.size, i.bytes)) = some (some (.agg #[Value.pointer none, Value.slice none 0 0]), 2, 32) := by kernel_rfl
end Go.Proofs.YtgnignloababhaaDoor
