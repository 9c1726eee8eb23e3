import Derived.Test.YtmaammjfbheciabDoorKxW
set_option linter.unusedVariables false
namespace Go.Proofs.YtmaammjfbheciabDoor
open Go.RowKit Go.Maps

/-- what the round's greatest says of the keys that were met -/
def Far (ks : List Nat) (left : Lit → Bool) (top m : Nat) : Prop := (∀ k ∈ ks, left (.int .i64 (k : Int)) = false → k ≤ m) ∧ m ≤ top
theorem far_end {ks : List Nat} {left : Lit → Bool} {top m : Nat} (h : Far ks left top m) (h0 : ∀ kl, left kl = false) (ht : top = 0 ∨ top ∈ ks) : m = top := by
  rcases ht with rfl | ht
  · have := h.2; omega
  · have := h.1 top ht (h0 _); have := h.2; omega
theorem far_step {ks : List Nat} {left : Lit → Bool} {top m j : Nat} (h : Far ks left top m) (hj : j ≤ top) : Far ks (fun z => left z && !z.sameKey (.int .i64 (j : Int))) top (max m j) := by
  have h2 := h.2
  refine ⟨fun k hk hl => ?_, by omega⟩
  simp only [Bool.and_eq_false_iff, Bool.not_eq_false'] at hl
  rcases hl with hl | hl
  · have := h.1 k hk hl; omega
  · have := (WideAt.sameKey_iff (kIs _)).1 hl
    simp only [Lit.int.injEq, true_and] at this
    omega
theorem any_mem {ks : List Nat} {x : Int} (h : ks.any (fun k => x == (k : Int)) = true) : ∃ k ∈ ks, x = (k : Int) := by
  obtain ⟨k, hk, e⟩ := List.any_eq_true.1 h
  exact ⟨k, hk, by simpa using e⟩

set_option maxHeartbeats 2000000 in
set_option maxRecDepth 100000 in
theorem farthest_any (p n t s b : Nat) (ks : List Nat) (f : Nat → List Int) (top : Nat) (w : World) (hp : Arr w p 41 (wkC n t s b)) (hm : KM w b ks f) (hle : ∀ k ∈ ks, k ≤ top) (htop : top = 0 ∨ top ∈ ks) (h4 : top ≤ 4096) :
    Calls Tryd.prog 25 #[.pointer (some ⟨p, 0, none⟩)] w fun e w' => e = .returned (.int .i64 top) ∧ Below w.heap.size w w' := by
  obtain ⟨D, hown, hhas, -, -⟩ := hm
  have c3 := hp.cell 3
  simp [wkC] at c3
  clear hp
  have HH := hide hhas
  have HE := hide hle
  have HT := hide htop
  clear hhas hle htop
  go_enter Tryd.func25, Tryd.ntmps25
  go_wp2_with (first
    | (at_range; refine wpList_range_own _ rfl _ 39 rfl 3 23 kLaw Tryd.underlying39 hElem b ks.length D rfl hown ?_; intro w0 hrg0 hg0 hs0)
    | go_in)
  go_frame
  go_loopw [3] (fun v wr => ∃ (left : Lit → Bool) (cnt m : Nat), v = .int .i64 m ∧ wr.ranges Tryd.prog 3 hElem b w.heap.size ks.length D left cnt ∧ Far ks left top m ∧ Below w.heap.size w wr) (fun _ wr => wr.rangeLeft b w.heap.size)
  case atStart =>
    refine ⟨_, _, 0, rfl, hrg0, ⟨fun k hk hl => ?_, Nat.zero_le _⟩, ⟨hg0.os, hg0.tape, hg0.output, hg0.size, fun i hi => hg0.block i hi (by simp)⟩⟩
    rw [unhide HH, any_key] at hl
    simp at hl; exact absurd hk hl
  case round =>
    clear hrg0 hg0 hs0
    obtain ⟨left, cnt, m, rfl, hrg, hfar, hb⟩ := hrel
    have hmt : m ≤ 4096 := by have := hfar.2; omega
    go_wp2_with (first
      | (at_next; refine wpList_next_ranges _ rfl _ rfl 3 kLaw hElem (Value.int .i64) Value.agg (fun key kl hkey => by obtain ⟨x, rfl, _⟩ := Maps.keyOf_int_inv Tryd.underlying3 hkey; exact ⟨x, rfl⟩) (fun v y hv => hElem_agg hv) b w.heap.size ks.length D left cnt rfl hrg ?_ ?_)
      | go_in)
    · intro hc0 hl0
      have HMM := hide (far_end hfar hl0 (unhide HT))
      go_wp2
      go_ret
      exact ⟨by rw [← unhide HMM]; rfl, hb⟩
    · intro x c kl yd yp w1 cnt1 hkey hlx hRv hat hrg1 hlt hg1 hs1 hen
      obtain ⟨x', ex, rfl, hwx⟩ := Maps.keyOf_int_inv Tryd.underlying3 hkey
      cases ex
      have hD := has_true_of_atKey hat
      rw [unhide HH] at hD
      obtain ⟨j, hj, rfl⟩ := any_mem hD
      have hjt := unhide HE j hj
      have hf1 := hide (far_step hfar hjt)
      have hb1 : Below w.heap.size w w1 := ⟨hg1.os.trans hb.os, hg1.tape.trans hb.tape, hg1.output.trans hb.output, Nat.le_trans hb.size hg1.size, fun i hi => (hg1.block i (Nat.lt_of_lt_of_le hi hb.size) (fun e => by have := Option.some.inj e; omega)).trans (hb.block i hi)⟩
      have HRG := hide hrg
      have HRG1 := hide hrg1
      have HLT := hide hlt
      clear hrg hfar hkey hlx hRv hat hrg1 hlt hg1 hs1 hwx hD hb
      go_wp2
      refine ⟨⟨_, _, max m j, ?_, unhide HRG1, unhide hf1, hb1⟩, ?_⟩
      · by_cases hmj : m < j
        · rw [if_pos hmj, Nat.max_eq_right (by omega)]
        · rw [if_neg hmj, Nat.max_eq_left (by omega)]
      · rw [(unhide HRG1).left_eq, (unhide HRG).left_eq]; exact unhide HLT
end Go.Proofs.YtmaammjfbheciabDoor
