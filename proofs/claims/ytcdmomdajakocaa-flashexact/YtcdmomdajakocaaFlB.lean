import Derived.Test.YtcdmomdajakocaaFlA
import Derived.Deep.QuietTactic
import Derived.BigQuiet
namespace Go.Proofs.Ytcdmomdajakocaa
open Go.RowKit

def szZ (z : Int) : Nat := (min (max z 0) 1048576).toNat
theorem szZ_le (z : Int) : szZ z ≤ 1048576 := by unfold szZ; omega
def fsLoad (z : Int) (a b : List Int) : FlS := ⟨szZ z, a.take (szZ z), b.take (szZ z), [], false, 0⟩
/-- a flash in new memory -/
def NPost (s : FlS) (w : World) (e : Ending) (w' : World) : Prop :=
  ∃ p S, e = .returned (.pointer (some ⟨p, 0, none⟩)) ∧ Fl w' p S s ∧ (∀ k, S k → w.heap.size ≤ k) ∧ Below w.heap.size w w'

theorem below_one (w : World) (o : Obj) : Below w.heap.size w (w.alloc o) := (Below.refl _ _).alloc (Nat.le_refl _) _
theorem load_box {w w2 w3 : World} {v0 v1 : Value} {l0 l1 : List Int} {n : Nat} (hn : n ≤ 1048576) (h0 : OwB w2 v0 l0) (a0 : ∀ k, v0.ownBlock = some k → w.heap.size ≤ k) (b2 : Below w.heap.size w w2) (h1 : OwB w3 v1 l1) (a1 : ∀ k, v1.ownBlock = some k → w2.heap.size ≤ k) (b3 : Below w2.heap.size w2 w3) (z0 : l0.length ≤ n) (z1 : l1.length ≤ n) (k : Nat) :
    NPost ⟨n, l0, l1, [], false, 0⟩ w (.returned (.pointer (some ⟨w3.heap.size, 0, none⟩))) ((w3.drewN k).alloc (.cells #[.int .i64 n, v0, v1, .slice none 0 0, .bool false, .int .i64 0] 44)) := by
  have hb : Below w3.heap.size w3 ((w3.drewN k).alloc (.cells #[.int .i64 n, v0, v1, .slice none 0 0, .bool false, .int .i64 0] 44)) := (below_drewN (Below.refl _ w3) k).alloc (Nat.le_refl _) _
  have h23 := b3.size
  have h12 := b2.size
  refine ⟨_, FSet w3.heap.size v0 v1 (.slice none 0 0), rfl, ⟨v0, v1, .slice none 0 0, ⟨Arr.new (w3.drewN k) _ [.int .i64 n, v0, v1, .slice none 0 0, .bool false, .int .i64 0], ((h0.later b3).later hb).1, (h1.later hb).1, World.ownsRow_nil _ _ _ _, ?_, ⟨h0.2, h1.2, z0, z1, hn, by simp, by simp⟩⟩, rfl⟩, ?_, ?_⟩
  · intro g hg hg'
    have := h0.lt g hg
    have := a1 g hg'
    omega
  · rintro g (rfl | hg | hg | hg)
    · omega
    · exact a0 g hg
    · have := a1 g hg; omega
    · simp [Value.ownBlock] at hg
  · exact (b2.trans (b3.mono (by omega))).trans (hb.mono (by omega))
set_option maxHeartbeats 1000000 in
set_option maxRecDepth 100000 in
theorem load_any (z : Int) (d1 d2 : Sl) (w : World) (h1 : d1.Ok w) (h2 : d2.Ok w) :
    Calls Try.prog 6 #[.int .i64 z, d1.v, d2.v] w (NPost (fsLoad z d1.l d2.l) w) := by
  obtain ⟨n, hn⟩ : ∃ n, n = szZ z := ⟨_, rfl⟩
  have hn1 : n ≤ 1048576 := by rw [hn]; exact szZ_le z
  have hB := beginning_any d1 n w h1 hn1
  have HL : Hid (fsLoad z d1.l d2.l = ⟨n, d1.l.take n, d2.l.take n, [], false, 0⟩) := hide (by unfold fsLoad; rw [hn])
  rw [unhide HL]
  have H2 := hide h2
  obtain ⟨T1, hT1⟩ : ∃ T, T = d1.l.take n := ⟨_, rfl⟩
  obtain ⟨T2, hT2⟩ : ∃ T, T = d2.l.take n := ⟨_, rfl⟩
  have hz1 : Hid (T1.length ≤ n) := hide (by rw [hT1, List.length_take]; omega)
  have hz2 : Hid (T2.length ≤ n) := hide (by rw [hT2, List.length_take]; omega)
  rw [← hT1, ← hT2]
  rw [← hT1] at hB
  have HT2 := hide hT2
  clear hT1 hT2 HL h2 h1
  have hm : (n : Int) = if 1048576 < z then 1048576 else if z < 0 then 0 else z := by
    rw [hn]; unfold szZ; split
    · omega
    · split <;> omega
  have key : ∀ M : Int, M = (if 1048576 < z then 1048576 else if z < 0 then 0 else z) → (n : Int) = M := fun M h => by rw [h]; exact hm
  clear hm
  by_cases c1 : 1048576 < z
  · have e : (n : Int) = 1048576 := key _ (by rw [if_pos c1])
    rw [e] at hB
    clear key hn
    go_enter Try.func6, Try.ntmps6
    go_wp2_with (first
      | (go_at_call 11; refine hC.mono ?_; rintro e1 w3 ⟨u1, rfl, o1, a1, b3⟩; obtain ⟨x1, y1, rfl⟩ := own_parts o1.1; clear hC)
      | (go_at_call 11; refine hB.mono ?_; rintro e1 w2 ⟨u0, rfl, o0, a0, b2⟩; have hC := beginning_any d2 n w2 ((unhide H2).later b2) hn1; rw [e, ← unhide HT2] at hC; obtain ⟨x0, y0, rfl⟩ := own_parts o0.1; clear hB))
    go_ret
    have R := load_box hn1 o0 a0 b2 o1 a1 b3 (unhide hz1) (unhide hz2) 0
    rw [e] at R
    exact R
  by_cases c2 : z < 0
  · have e : (n : Int) = 0 := key _ (by rw [if_neg c1, if_pos c2])
    rw [e] at hB
    clear key hn
    go_enter Try.func6, Try.ntmps6
    go_wp2_with (first
      | (go_at_call 11; refine hC.mono ?_; rintro e1 w3 ⟨u1, rfl, o1, a1, b3⟩; obtain ⟨x1, y1, rfl⟩ := own_parts o1.1; clear hC)
      | (go_at_call 11; refine hB.mono ?_; rintro e1 w2 ⟨u0, rfl, o0, a0, b2⟩; have hC := beginning_any d2 n w2 ((unhide H2).later b2) hn1; rw [e, ← unhide HT2] at hC; obtain ⟨x0, y0, rfl⟩ := own_parts o0.1; clear hB))
    go_ret
    have R := load_box hn1 o0 a0 b2 o1 a1 b3 (unhide hz1) (unhide hz2) 0
    rw [e] at R
    exact R
  · have e : (n : Int) = z := key _ (by rw [if_neg c1, if_neg c2])
    rw [e] at hB
    clear key hn
    go_enter Try.func6, Try.ntmps6
    go_wp2_with (first
      | (go_at_call 11; refine hC.mono ?_; rintro e1 w3 ⟨u1, rfl, o1, a1, b3⟩; obtain ⟨x1, y1, rfl⟩ := own_parts o1.1; clear hC)
      | (go_at_call 11; refine hB.mono ?_; rintro e1 w2 ⟨u0, rfl, o0, a0, b2⟩; have hC := beginning_any d2 n w2 ((unhide H2).later b2) hn1; rw [e, ← unhide HT2] at hC; obtain ⟨x0, y0, rfl⟩ := own_parts o0.1; clear hB))
    go_ret
    have R := load_box hn1 o0 a0 b2 o1 a1 b3 (unhide hz1) (unhide hz2) 0
    rw [e] at R
    exact R

theorem Fls.cs {w : World} {p : Nat} {v0 v1 qv : Value} {s : FlS} (h : Fls w p v0 v1 qv s) : w.cell? ⟨p, 0, none⟩ = some (.int .i64 s.size) ∧ w.cell? ⟨p, 1, none⟩ = some v0 ∧ w.cell? ⟨p, 2, none⟩ = some v1 ∧ w.cell? ⟨p, 3, none⟩ = some qv ∧ w.cell? ⟨p, 4, none⟩ = some (.bool s.down) ∧ w.cell? ⟨p, 5, none⟩ = some (.int .i64 s.wr) :=
  ⟨by simpa using h.arr.cell 0, by simpa using h.arr.cell 1, by simpa using h.arr.cell 2, by simpa using h.arr.cell 3, by simpa using h.arr.cell 4, by simpa using h.arr.cell 5⟩
set_option maxHeartbeats 1000000 in
set_option maxRecDepth 100000 in
theorem refuses_any (p : Nat) (S : Nat → Prop) (s : FlS) (bank : Int) (w : World) (h : Fl w p S s) :
    Calls Try.prog 34 #[.pointer (some ⟨p, 0, none⟩), .int .i64 bank] w fun e w' => e = .returned (.int .i64 (s.ref bank)) ∧ w' = w := by
  obtain ⟨v0, v1, qv, hf, rfl⟩ := h
  obtain ⟨-, -, -, -, c4, -⟩ := hf.cs
  clear hf
  obtain ⟨r, hr⟩ : ∃ r, r = s.ref bank := ⟨_, rfl⟩
  rw [← hr]
  have HR := hide hr
  clear hr
  obtain ⟨dn, hdn⟩ : ∃ d, d = s.down := ⟨_, rfl⟩
  rw [← hdn] at c4
  have HDN := hide hdn
  clear hdn
  by_cases b0 : bank < 0
  · go_enter Try.func34, Try.ntmps34
    go_wp2
    go_ret
    exact ⟨by rw [unhide HR]; unfold FlS.ref; rw [if_pos (.inl b0)]; rfl, rfl⟩
  by_cases b2 : 2 ≤ bank
  · go_enter Try.func34, Try.ntmps34
    go_wp2
    go_ret
    exact ⟨by rw [unhide HR]; unfold FlS.ref; rw [if_pos (.inr b2)]; rfl, rfl⟩
  cases dn
  · go_enter Try.func34, Try.ntmps34
    go_wp2
    go_ret
    exact ⟨by rw [unhide HR]; unfold FlS.ref; rw [if_neg (by omega), ← unhide HDN]; rfl, rfl⟩
  · go_enter Try.func34, Try.ntmps34
    go_wp2
    go_ret
    exact ⟨by rw [unhide HR]; unfold FlS.ref; rw [if_neg (by omega), ← unhide HDN]; rfl, rfl⟩
end Go.Proofs.Ytcdmomdajakocaa
