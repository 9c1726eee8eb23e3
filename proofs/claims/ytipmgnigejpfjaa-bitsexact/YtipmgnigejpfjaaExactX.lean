import Derived.Test.YtipmgnigejpfjaaPlayX
import Derived.Test.YtipmgnigejpfjaaHeldX
namespace Go.Proofs.Ytipmgnigejpfjaa
open Go.RowKit

/-- the script lies at a -/
def OpsAt (w : World) (a : Option Addr) (ops : List OpV) : Prop :=
  0 < ops.length → ∃ b off, a = some ⟨b, off, none⟩ ∧ b < w.heap.size ∧ ∀ i o, ops[i]? = some o → w.rangeAt b (off + i * 8) o.cells
theorem hex171 : strOfNums (hexL [171]) = ⟨#[97, 98]⟩ := by kernel_rfl

set_option maxHeartbeats 8000000 in
set_option maxRecDepth 100000 in
theorem exact_any (pa : Option Addr) (pc : Nat) (ps : List OpV) (w : World) (hat : OpsAt w pa ps) (hok : ∀ o ∈ ps, o.Ok w ∧ (o.pa = none → o.pc = 0)) (hlen : ps.length ≤ 1048576) :
    Calls Try.prog 3 #[.slice pa ps.length pc] w fun e w' => e = .returned (.bool true) ∧ Below w.heap.size w w' := by
  obtain ⟨M, hM⟩ : ∃ M, M = ps.length := ⟨_, rfl⟩
  have HM := hide hM
  have hM2 : M ≤ 1048576 := by omega
  rw [← hM]
  clear hM
  obtain ⟨W, hW, hS0, hbW, -⟩ := arr1 w 26 [.slice none 0 0, .slice none 0 0]
  have HW := hide hW
  clear hW
  have hSh : Shf w w.heap.size 0 (fun _ => ⟨none, 0, 0, []⟩) (fun _ => ⟨none, 0, 0, []⟩) (.slice none 0 0) (.slice none 0 0) W :=
    ⟨hS0, Nat.le_refl _, World.ownsRow_nil _ _ _ _, World.ownsRow_nil _ _ _ _, .inl rfl, fun i hi => by omega, fun i hi => by omega, fun i hi => by omega, fun i hi => by omega, fun i j hi => by omega, fun i j hi => by omega, fun i hi => by omega, fun i hi => by omega, fun i hi => by omega, hbW⟩
  obtain ⟨W2, hW2, hH, hbH, -⟩ := arr1 W 5 [.int .u8 171]
  have HW2 := hide hW2
  clear hW2
  have okH : Sl.Ok W2 ⟨some ⟨W.heap.size, 0, none⟩, 1, 1, [171]⟩ := Sl.Ok.of_own (l := [171]) (base := 0) (own_of_arr (B := 0) hH (Nat.zero_le _) (by simp)) (fun x hx => by simp at hx; subst hx; omega)
  have hSh1 := hSh.later hbH
  have hx := hex_any ⟨some ⟨W.heap.size, 0, none⟩, 1, 1, [171]⟩ W2 okH (by simp)
  simp only [hex171] at hx
  clear hSh hS0 hH okH
  go_enter Try.func3, Try.ntmps3
  go_wp2_with (first
    | rw [show Obj.cells #[Value.slice none 0 0, Value.slice none 0 0] 26 = Obj.cells ([Value.slice none 0 0, Value.slice none 0 0] : List Value).toArray 26 (0, 0) from rfl, ← unhide HW]
    | rw [show Obj.cells #[Value.int .u8 171] 5 = Obj.cells ([Value.int .u8 171] : List Value).toArray 5 (0, 0) from rfl, ← unhide HW2])
  refine hx.mono ?_
  rintro e w1 ⟨rfl, hb1⟩
  have hSh2 := hSh1.later hb1
  clear hSh1 hx
  go_wp2_with fail
  go_loopw [4] (fun i wr => ∃ (k N : Nat), k ≤ 2 * M ∧ N ≤ 4 * k ∧ i = .int .i64 k ∧ Put w w.heap.size N wr) (fun i _ => 2 * M - (intOf i).toNat)
  case atStart => exact ⟨0, 0, by omega, by omega, rfl, _, _, _, _, hSh2⟩
  case round =>
    clear hSh2
    obtain ⟨k, N, hk, hNk, rfl, P, Q, lv, wv, hS⟩ := hrel
    by_cases hlt : k < 2 * M
    · obtain ⟨i, hi⟩ : ∃ i, i = k % M := ⟨_, rfl⟩
      have him : i < M := by rw [hi]; exact Nat.mod_lt _ (by omega)
      have hit : (k : Int).tmod (M : Int) = (i : Int) := by rw [hi]; exact (Int.ofNat_tmod k M)
      have hie : (k : Int) % (M : Int) = (i : Int) := by rw [hi]; simp
      have hltz : (k : Int) < 2 * (M : Int) := by omega
      have hM0 : ¬ ((M : Int) = 0) := by omega
      have himz : (i : Int) < (M : Int) := by omega
      obtain ⟨o, ho⟩ : ∃ o, ps[i]? = some o := ⟨_, List.getElem?_eq_getElem (by rw [← unhide HM]; exact him)⟩
      have hoo := hok o (List.mem_of_getElem? ho)
      obtain ⟨ob, oo, hsa, hol, hoc⟩ := hat (by rw [← unhide HM]; omega)
      subst hsa
      have hr0 := hoc i o ho
      have hr : wr.rangeAt ob (oo + i * 8) o.cells := fun j v hv => (hS.bel.cell (p := ⟨ob, oo + i * 8 + j, none⟩) hol).trans (hr0 j v hv)
      have hcl := Try.opSz o
      clear hi
      go_wp2_with (refine wpList_load_mid rfl 33 (.tmp 23) rfl _ _ rfl _ _ hr Try.underlying33 rfl hcl ?_)
      refine (plays_any o wr hS hoo.1 hoo.2 (by omega)).mono ?_
      rintro e w3 ⟨rfl, N', hN', hp3⟩
      go_wp2_with fail
      refine ⟨⟨k + 1, N', by omega, by omega, by simp, hp3⟩, ?_⟩
      simp [intOf]
      omega
    · have hltz : ¬ ((k : Int) < 2 * (M : Int)) := by omega
      have hk2 : k = 2 * M := by omega
      go_wp2_with fail
      refine (held_any hS (by omega)).mono ?_
      rintro e w2 ⟨rfl, hb2⟩
      go_wp2_with fail
      go_ret
      exact ⟨rfl, hb2⟩
end Go.Proofs.Ytipmgnigejpfjaa
