import Derived.Test.YtloeademloclmaaSamF
import Derived.Deep.RegionHeld3
set_option linter.unusedVariables false
namespace Go.Proofs.Ytloeademloclmaa
open Go.RowKit

/-! A step of the laws. -/
structure Stf where
  kind : Int
  bank : Int
  b : Sl
  x : Int
  y : Int
def Stf.cells (s : Stf) : List Value := [.int .i64 s.kind, .int .i64 s.bank, s.b.v, .int .i64 s.x, .int .i64 s.y]
def Stf.v (s : Stf) : Value := .agg #[.int .i64 s.kind, .int .i64 s.bank, s.b.v, .int .i64 s.x, .int .i64 s.y]
/-- what a step does -/
def FlS.step (s : FlS) (t : Stf) : FlS × Int :=
  if t.kind = 1 then s.append t.bank t.b.l else if t.kind = 2 then s.erase t.bank else if t.kind = 5 then s.arm t.x t.y
  else if t.kind = 6 then ({ s with q := [] }, 0) else if t.kind = 7 then s.restart else (s, 0)
theorem step_copyof {w0 : World} {ops : Array Oper} {o : Oper} {a : Act} {K : Act → World → Prop} {Q : Exit → Act → World → Prop} {E : Prop} (hgd : o.guard = none) (s x : Operand)
    (ho : o.op = .call { callee := .builtin .append, args := #[s, x], argTypes := #[29, 29] }) (hs : a.eval s = .slice (some ⟨w0.heap.size, 0, none⟩) 0 0)
    (d : Sl) (hd : d.Ok w0) (hx : a.eval x = .slice d.a d.n d.c) (hb : d.n ≤ 140737488355328)
    (h : ∀ v' w', Hid (OwB w' v' d.l) → Hid (∀ k, v'.ownBlock = some k → w0.heap.size ≤ k) → Hid (Below w0.heap.size w0 w') → K (a.put o.dst v') w') : if Region.wanted o (yielded ops a.tmps) = true then Oper.wp Try.prog o a (w0.alloc (.cells #[] 5)) K Q else E := by
  have hw : Region.wanted o (yielded ops a.tmps) = true := by simp [Region.wanted, hgd]
  rw [if_pos hw]
  obtain ⟨v', w', hr, h1, h2, h3⟩ := run_copyof w0 o.type d hd hb
  unfold Oper.wp
  simp [execOp, ho, resolve, invoke, builtin, hs, hx, hr, Result.andThen]
  exact h v' w' h1 h2 h3
set_option maxHeartbeats 2000000 in
set_option maxRecDepth 100000 in
theorem does_app (p : Nat) (S : Nat → Prop) (s : FlS) (bank x y : Int) (d : Sl) (w : World) (h : Fl w p S s) (hd : d.Ok w) (hn : d.n ≤ 140737488351232) (hw : s.wr ≤ 1000000000) :
    Calls Try.prog 23 #[.pointer (some ⟨p, 0, none⟩), .agg #[.int .i64 1, .int .i64 bank, d.v, .int .i64 x, .int .i64 y]] w (APost p S (s.append bank d.l) w) := by
  obtain ⟨W, hW⟩ : ∃ W, W = w.alloc (.cells #[.int .i64 1, .int .i64 bank, d.v, .int .i64 x, .int .i64 y] 47) := ⟨_, rfl⟩
  have A0 : Arr W w.heap.size 47 [.int .i64 1, .int .i64 bank, d.v, .int .i64 x, .int .i64 y] := by rw [hW]; exact Arr.new w _ _
  have B0 : Below w.heap.size w W := by rw [hW]; exact below_one w _
  have c0 : W.cell? ⟨w.heap.size, 0, none⟩ = some (.int .i64 1) := by simpa using A0.cell 0
  have c1 : W.cell? ⟨w.heap.size, 1, none⟩ = some (.int .i64 bank) := by simpa using A0.cell 1
  have c2 : W.cell? ⟨w.heap.size, 2, none⟩ = some (.slice d.a d.n d.c) := by have := A0.cell 2; simpa [Sl.v] using this
  have HF := hide (h.later B0)
  have HD := hide (hd.later B0)
  have HA0 := hide A0
  have HB0 := hide B0
  have hW' := hW.symm
  have hn1 := World.new_ne W ⟨w.heap.size, 1, none⟩ c1
  have hn2 := World.new_ne W ⟨w.heap.size, 2, none⟩ c2
  have HSep : Hid (∀ k, S k → k < w.heap.size) := hide h.lt
  clear h hd A0 B0 hW
  simp only [Sl.v] at *
  go_enter Try.func23, Try.ntmps23
  go_wp2_with fail
  go_region_held3 (fun w' => w'.cell? ⟨w.heap.size, 1, none⟩ = some (.int .i64 bank) ∧ w'.cell? ⟨w.heap.size, 2, none⟩ = some (.slice d.a d.n d.c)) (first | go_keep | (exact ⟨c1', c2'⟩) | (exact ⟨c1'', c2''⟩))
    (first
      | (refine step_copyof (w0 := W.drew) rfl (.tmp 12) (.tmp 14) rfl (by simp [Act.eval]) d (ok_drewN (unhide HD) 1) (by simp [Act.eval]) (by omega) ?_
         intro v3 w3 o3 a3 b3
         have b3' := below_undrewN (k := 1) (unhide b3)
         have A3 := (unhide HA0).later b3'
         have c1' : w3.cell? ⟨w.heap.size, 1, none⟩ = some (.int .i64 bank) := (by simpa using A3.cell 1)
         have c2' : w3.cell? ⟨w.heap.size, 2, none⟩ = some (.slice d.a d.n d.c) := (by simpa using A3.cell 2)
         obtain ⟨sc, hsc, sok, sl, sn, sa⟩ := (unhide o3).sl
         subst hsc
         have HAp : Hid (Calls Try.prog 13 #[.pointer (some ⟨p, 0, none⟩), .int .i64 bank, .slice sc.a sc.n sc.c] w3 (APost p S (s.append bank d.l) w3)) := hide (by
           have := append_any p S s bank sc w3 ((unhide HF).later b3') sok (fun hp x hx e => by have h5 := unhide a3 _ (sa x hx); have h6 := (unhide HF).lt _ e; have : W.drew.heap.size = W.heap.size := rfl; omega) hw
           rw [sl] at this
           exact this)
         have HA3 := hide A3
         have HB3 := hide b3'
         clear A3 b3')
      | (go_at_call 13
         refine (unhide HAp).mono ?_
         rintro e w4 ⟨rfl, S4, G4⟩
         have A4 := G4.but.arr (unhide HA3) (fun e => by have := unhide HSep _ e; omega)
         have c1'' : w4.cell? ⟨w.heap.size, 1, none⟩ = some (.int .i64 bank) := (by simpa using A4.cell 1)
         have c2'' : w4.cell? ⟨w.heap.size, 2, none⟩ = some (.slice d.a d.n d.c) := (by simpa using A4.cell 2)))
  go_wp2
  go_ret
  exact ⟨rfl, S4, FSt.later (unhide HB0) (FSt.later (unhide HB3) G4)⟩
set_option maxHeartbeats 2000000 in
set_option maxRecDepth 100000 in
theorem does_era (p : Nat) (S : Nat → Prop) (s : FlS) (bank x y : Int) (d : Sl) (w : World) (h : Fl w p S s) (hw : s.wr ≤ 1000000000) :
    Calls Try.prog 23 #[.pointer (some ⟨p, 0, none⟩), .agg #[.int .i64 2, .int .i64 bank, d.v, .int .i64 x, .int .i64 y]] w (APost p S (s.erase bank) w) := by
  obtain ⟨W, hW⟩ : ∃ W, W = w.alloc (.cells #[.int .i64 2, .int .i64 bank, d.v, .int .i64 x, .int .i64 y] 47) := ⟨_, rfl⟩
  have A0 : Arr W w.heap.size 47 [.int .i64 2, .int .i64 bank, d.v, .int .i64 x, .int .i64 y] := by rw [hW]; exact Arr.new w _ _
  have B0 : Below w.heap.size w W := by rw [hW]; exact below_one w _
  have c0 : W.cell? ⟨w.heap.size, 0, none⟩ = some (.int .i64 2) := by simpa using A0.cell 0
  have c1 : W.cell? ⟨w.heap.size, 1, none⟩ = some (.int .i64 bank) := by simpa using A0.cell 1
  have c3 : W.cell? ⟨w.heap.size, 3, none⟩ = some (.int .i64 x) := by simpa using A0.cell 3
  have c4 : W.cell? ⟨w.heap.size, 4, none⟩ = some (.int .i64 y) := by simpa using A0.cell 4
  have F0 := h.later B0
  have HF := hide F0
  have HB0 := hide B0
  have hW' := hW.symm
  have hC := erase_any p S s bank W F0 hw
  clear h A0 B0 hW F0
  simp only [Sl.v] at *
  go_enter Try.func23, Try.ntmps23
  go_wp2_with (go_at_call 21; refine hC.mono ?_; rintro e w4 ⟨rfl, S4, G4⟩)
  go_ret
  exact ⟨rfl, S4, FSt.later (unhide HB0) G4⟩
set_option maxHeartbeats 2000000 in
set_option maxRecDepth 100000 in
theorem does_arm (p : Nat) (S : Nat → Prop) (s : FlS) (bank x y : Int) (d : Sl) (w : World) (h : Fl w p S s) (hw : s.wr ≤ 1000000000) :
    Calls Try.prog 23 #[.pointer (some ⟨p, 0, none⟩), .agg #[.int .i64 5, .int .i64 bank, d.v, .int .i64 x, .int .i64 y]] w (APost p S (s.arm x y) w) := by
  obtain ⟨W, hW⟩ : ∃ W, W = w.alloc (.cells #[.int .i64 5, .int .i64 bank, d.v, .int .i64 x, .int .i64 y] 47) := ⟨_, rfl⟩
  have A0 : Arr W w.heap.size 47 [.int .i64 5, .int .i64 bank, d.v, .int .i64 x, .int .i64 y] := by rw [hW]; exact Arr.new w _ _
  have B0 : Below w.heap.size w W := by rw [hW]; exact below_one w _
  have c0 : W.cell? ⟨w.heap.size, 0, none⟩ = some (.int .i64 5) := by simpa using A0.cell 0
  have c1 : W.cell? ⟨w.heap.size, 1, none⟩ = some (.int .i64 bank) := by simpa using A0.cell 1
  have c3 : W.cell? ⟨w.heap.size, 3, none⟩ = some (.int .i64 x) := by simpa using A0.cell 3
  have c4 : W.cell? ⟨w.heap.size, 4, none⟩ = some (.int .i64 y) := by simpa using A0.cell 4
  have F0 := h.later B0
  have HF := hide F0
  have HB0 := hide B0
  have hW' := hW.symm
  have hC := arm_any p S s x y W F0
  clear h A0 B0 hW F0
  simp only [Sl.v] at *
  go_enter Try.func23, Try.ntmps23
  go_wp2_with (go_at_call 17; refine hC.mono ?_; rintro e w4 ⟨rfl, S4, G4⟩)
  go_ret
  exact ⟨rfl, S4, FSt.later (unhide HB0) G4⟩
set_option maxHeartbeats 2000000 in
set_option maxRecDepth 100000 in
theorem does_dis (p : Nat) (S : Nat → Prop) (s : FlS) (bank x y : Int) (d : Sl) (w : World) (h : Fl w p S s) (hw : s.wr ≤ 1000000000) :
    Calls Try.prog 23 #[.pointer (some ⟨p, 0, none⟩), .agg #[.int .i64 6, .int .i64 bank, d.v, .int .i64 x, .int .i64 y]] w (APost p S ({ s with q := [] }, 0) w) := by
  obtain ⟨W, hW⟩ : ∃ W, W = w.alloc (.cells #[.int .i64 6, .int .i64 bank, d.v, .int .i64 x, .int .i64 y] 47) := ⟨_, rfl⟩
  have A0 : Arr W w.heap.size 47 [.int .i64 6, .int .i64 bank, d.v, .int .i64 x, .int .i64 y] := by rw [hW]; exact Arr.new w _ _
  have B0 : Below w.heap.size w W := by rw [hW]; exact below_one w _
  have c0 : W.cell? ⟨w.heap.size, 0, none⟩ = some (.int .i64 6) := by simpa using A0.cell 0
  have c1 : W.cell? ⟨w.heap.size, 1, none⟩ = some (.int .i64 bank) := by simpa using A0.cell 1
  have c3 : W.cell? ⟨w.heap.size, 3, none⟩ = some (.int .i64 x) := by simpa using A0.cell 3
  have c4 : W.cell? ⟨w.heap.size, 4, none⟩ = some (.int .i64 y) := by simpa using A0.cell 4
  have F0 := h.later B0
  have HF := hide F0
  have HB0 := hide B0
  have hW' := hW.symm
  have hC := disarm_any p S s W F0
  clear h A0 B0 hW F0
  simp only [Sl.v] at *
  go_enter Try.func23, Try.ntmps23
  go_wp2_with (go_at_call 24; refine hC.mono ?_; rintro e w4 ⟨rfl, S4, G4⟩)
  go_ret
  exact ⟨rfl, S4, FSt.later (unhide HB0) G4⟩
set_option maxHeartbeats 2000000 in
set_option maxRecDepth 100000 in
theorem does_res (p : Nat) (S : Nat → Prop) (s : FlS) (bank x y : Int) (d : Sl) (w : World) (h : Fl w p S s) (hw : s.wr ≤ 1000000000) :
    Calls Try.prog 23 #[.pointer (some ⟨p, 0, none⟩), .agg #[.int .i64 7, .int .i64 bank, d.v, .int .i64 x, .int .i64 y]] w (APost p S s.restart w) := by
  obtain ⟨W, hW⟩ : ∃ W, W = w.alloc (.cells #[.int .i64 7, .int .i64 bank, d.v, .int .i64 x, .int .i64 y] 47) := ⟨_, rfl⟩
  have A0 : Arr W w.heap.size 47 [.int .i64 7, .int .i64 bank, d.v, .int .i64 x, .int .i64 y] := by rw [hW]; exact Arr.new w _ _
  have B0 : Below w.heap.size w W := by rw [hW]; exact below_one w _
  have c0 : W.cell? ⟨w.heap.size, 0, none⟩ = some (.int .i64 7) := by simpa using A0.cell 0
  have c1 : W.cell? ⟨w.heap.size, 1, none⟩ = some (.int .i64 bank) := by simpa using A0.cell 1
  have c3 : W.cell? ⟨w.heap.size, 3, none⟩ = some (.int .i64 x) := by simpa using A0.cell 3
  have c4 : W.cell? ⟨w.heap.size, 4, none⟩ = some (.int .i64 y) := by simpa using A0.cell 4
  have F0 := h.later B0
  have HF := hide F0
  have HB0 := hide B0
  have hW' := hW.symm
  have hC := restart_any p S s W F0
  clear h A0 B0 hW F0
  simp only [Sl.v] at *
  go_enter Try.func23, Try.ntmps23
  go_wp2_with (go_at_call 20; refine hC.mono ?_; rintro e w4 ⟨rfl, S4, G4⟩)
  go_ret
  exact ⟨rfl, S4, FSt.later (unhide HB0) G4⟩
set_option maxHeartbeats 2000000 in
set_option maxRecDepth 100000 in
theorem does_oth (p : Nat) (S : Nat → Prop) (s : FlS) (bank x y : Int) (kd : Int) (hk1 : kd ≠ 1) (hk2 : kd ≠ 2) (hk5 : kd ≠ 5) (hk6 : kd ≠ 6) (hk7 : kd ≠ 7) (d : Sl) (w : World) (h : Fl w p S s) (hw : s.wr ≤ 1000000000) :
    Calls Try.prog 23 #[.pointer (some ⟨p, 0, none⟩), .agg #[.int .i64 kd, .int .i64 bank, d.v, .int .i64 x, .int .i64 y]] w (APost p S (s, 0) w) := by
  obtain ⟨W, hW⟩ : ∃ W, W = w.alloc (.cells #[.int .i64 kd, .int .i64 bank, d.v, .int .i64 x, .int .i64 y] 47) := ⟨_, rfl⟩
  have A0 : Arr W w.heap.size 47 [.int .i64 kd, .int .i64 bank, d.v, .int .i64 x, .int .i64 y] := by rw [hW]; exact Arr.new w _ _
  have B0 : Below w.heap.size w W := by rw [hW]; exact below_one w _
  have c0 : W.cell? ⟨w.heap.size, 0, none⟩ = some (.int .i64 kd) := by simpa using A0.cell 0
  have c1 : W.cell? ⟨w.heap.size, 1, none⟩ = some (.int .i64 bank) := by simpa using A0.cell 1
  have c3 : W.cell? ⟨w.heap.size, 3, none⟩ = some (.int .i64 x) := by simpa using A0.cell 3
  have c4 : W.cell? ⟨w.heap.size, 4, none⟩ = some (.int .i64 y) := by simpa using A0.cell 4
  have F0 := h.later B0
  have HF := hide F0
  have HB0 := hide B0
  have hW' := hW.symm
  skip
  clear h A0 B0 hW F0
  simp only [Sl.v] at *
  go_enter Try.func23, Try.ntmps23
  go_wp2
  go_ret
  exact ⟨rfl, S, FSt.later (unhide HB0) (FSt.refl (unhide HF))⟩
theorem does_any (p : Nat) (S : Nat → Prop) (s : FlS) (t : Stf) (w : World) (h : Fl w p S s) (hd : t.b.Ok w) (hn : t.b.n ≤ 140737488351232) (hw : s.wr ≤ 1000000000) :
    Calls Try.prog 23 #[.pointer (some ⟨p, 0, none⟩), t.v] w (APost p S (s.step t) w) := by
  obtain ⟨kd, bank, d, x, y⟩ := t
  simp only [FlS.step, Stf.v]
  by_cases h1 : kd = 1
  · rw [if_pos h1]; subst h1; exact does_app p S s bank x y d w h hd hn hw
  rw [if_neg h1]
  by_cases h2 : kd = 2
  · rw [if_pos h2]; subst h2; exact does_era p S s bank x y d w h hw
  rw [if_neg h2]
  by_cases h5 : kd = 5
  · rw [if_pos h5]; subst h5; exact does_arm p S s bank x y d w h hw
  rw [if_neg h5]
  by_cases h6 : kd = 6
  · rw [if_pos h6]; subst h6; exact does_dis p S s bank x y d w h hw
  rw [if_neg h6]
  by_cases h7 : kd = 7
  · rw [if_pos h7]; subst h7; exact does_res p S s bank x y d w h hw
  rw [if_neg h7]
  exact does_oth p S s bank x y kd h1 h2 h5 h6 h7 d w h hw
end Go.Proofs.Ytloeademloclmaa
