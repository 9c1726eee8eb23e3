import Derived.Test.YthpnfbgobpfdgaaGreatGsA
namespace Go.Proofs.YthpnfbgobpfdgaaGreat
open Go.RowKit

/-! The face of all reading. -/

set_option maxHeartbeats 1000000 in
set_option maxRecDepth 100000 in
theorem read_u32 (p : Nat) (s : Sl) (f : Int) (w : World) (h : Rdr w p s f) :
    Calls Tryz.prog 174 #[.pointer (some ⟨p, 0, none⟩), .func (.func 175) #[] #[]] w (Fac (isI .u32) (.int .u32 0) p s f (pU32 s.l) w) := by
  have hmf : ∀ (fn : Fn) (first cap : Array Value) (w : World), (Instr.makeFunc fn first cap).run Tryz.prog w = .ok (.func fn first cap) w := fun _ _ _ _ => rfl
  have c0 : w.cell? ⟨p, 0, none⟩ = some s.v := by simpa using h.arr.cell 0
  have c1 : w.cell? ⟨p, 1, none⟩ = some (.int .i64 f) := by simpa using h.arr.cell 1
  have hlt := h.arr.lt
  have hsv : s.v = .slice s.a s.n s.c := rfl
  rw [hsv] at c0
  by_cases hf : f = 0
  · subst hf
    obtain ⟨W, hW, A1, A2, hb, hsz⟩ := arr2 w 177 224 [.pointer (some ⟨p, 0, none⟩)] [s.v]
    have hW' : (w.alloc (.cells #[.pointer (some ⟨p, 0, none⟩)] 177)).alloc (.cells #[.slice s.a s.n s.c] 224) = W := hW.symm
    have HW := hide hW'
    clear hW hW'
    have hI := fourBytes_any (w.heap.size + 1) s W (h.unr hb (by omega) A2)
    cases hP : pU32 s.l with
    | ok q =>
      obtain ⟨x, r⟩ := q
      rw [hP] at hI
      clear hP hsz hsv
      go_enter_defers Tryz.func174, Tryz.ntmps174
      go_wp2_with (
        go_at_call 175
        rw [unhide HW]
        refine hI.mono ?_
        rintro e w' ⟨hB, v, t, rfl, hV, hU, hr, hS⟩
        have cu := hU.cell'
        obtain ⟨cb, cp, fp, A1', Ap⟩ := h.after A1 hb hB)
      refine leaves_cons (f := 182) (args := #[.pointer (some ⟨w.heap.size, 0, none⟩)]) (by simp) (by simp [go_sem]) ?_
      refine (idle_w _ _).mono ?_
      rintro e u' w'' ⟨rfl, rfl, rfl⟩
      refine ⟨_, results_tmp rfl _ _ _, ?_⟩
      exact Fac.yes (lasts_I _) rfl h hb hB (by omega) hV hU hr hS
    | error c =>
      rw [hP] at hI
      clear hP hsz hsv
      go_enter_defers Tryz.func174, Tryz.ntmps174
      go_wp2_with (
        go_at_call 175
        rw [unhide HW]
        refine hI.mono ?_
        rintro e w' ⟨hB, he⟩
        simp only [gives] at he
        subst he
        obtain ⟨cb, cp, fp, A1', Ap⟩ := h.after A1 hb hB)
      refine leaves_cons (f := 182) (args := #[.pointer (some ⟨w.heap.size, 0, none⟩)]) (by simp) (by simp [go_sem]) ?_
      refine (catch_w w.heap.size p s.v 0 c _ w' A1' Ap []).mono ?_
      rintro e u' w'' ⟨rfl, rfl, hA, hB3⟩
      refine ⟨_, results_tmp rfl _ _ _, ?_⟩
      exact Fac.no rfl h hb hB (by omega) hA hB3
  · go_enter_defers Tryz.func174, Tryz.ntmps174
    go_wp2
    refine ⟨_, results_tmp rfl _ _ _, ?_⟩
    exact Fac.sticks hf ((Below.refl _ _).alloc (Nat.le_refl _) _) h

set_option maxHeartbeats 1000000 in
set_option maxRecDepth 100000 in
theorem read_u64 (p : Nat) (s : Sl) (f : Int) (w : World) (h : Rdr w p s f) :
    Calls Tryz.prog 155 #[.pointer (some ⟨p, 0, none⟩), .func (.func 156) #[] #[]] w (Fac (isI .u64) (.int .u64 0) p s f (pU64 s.l) w) := by
  have hmf : ∀ (fn : Fn) (first cap : Array Value) (w : World), (Instr.makeFunc fn first cap).run Tryz.prog w = .ok (.func fn first cap) w := fun _ _ _ _ => rfl
  have c0 : w.cell? ⟨p, 0, none⟩ = some s.v := by simpa using h.arr.cell 0
  have c1 : w.cell? ⟨p, 1, none⟩ = some (.int .i64 f) := by simpa using h.arr.cell 1
  have hlt := h.arr.lt
  have hsv : s.v = .slice s.a s.n s.c := rfl
  rw [hsv] at c0
  by_cases hf : f = 0
  · subst hf
    obtain ⟨W, hW, A1, A2, hb, hsz⟩ := arr2 w 177 224 [.pointer (some ⟨p, 0, none⟩)] [s.v]
    have hW' : (w.alloc (.cells #[.pointer (some ⟨p, 0, none⟩)] 177)).alloc (.cells #[.slice s.a s.n s.c] 224) = W := hW.symm
    have HW := hide hW'
    clear hW hW'
    have hI := eightBytes_any (w.heap.size + 1) s W (h.unr hb (by omega) A2)
    cases hP : pU64 s.l with
    | ok q =>
      obtain ⟨x, r⟩ := q
      rw [hP] at hI
      clear hP hsz hsv
      go_enter_defers Tryz.func155, Tryz.ntmps155
      go_wp2_with (
        go_at_call 156
        rw [unhide HW]
        refine hI.mono ?_
        rintro e w' ⟨hB, v, t, rfl, hV, hU, hr, hS⟩
        have cu := hU.cell'
        obtain ⟨cb, cp, fp, A1', Ap⟩ := h.after A1 hb hB)
      refine leaves_cons (f := 178) (args := #[.pointer (some ⟨w.heap.size, 0, none⟩)]) (by simp) (by simp [go_sem]) ?_
      refine (idle_q _ _).mono ?_
      rintro e u' w'' ⟨rfl, rfl, rfl⟩
      refine ⟨_, results_tmp rfl _ _ _, ?_⟩
      exact Fac.yes (lasts_I _) rfl h hb hB (by omega) hV hU hr hS
    | error c =>
      rw [hP] at hI
      clear hP hsz hsv
      go_enter_defers Tryz.func155, Tryz.ntmps155
      go_wp2_with (
        go_at_call 156
        rw [unhide HW]
        refine hI.mono ?_
        rintro e w' ⟨hB, he⟩
        simp only [gives] at he
        subst he
        obtain ⟨cb, cp, fp, A1', Ap⟩ := h.after A1 hb hB)
      refine leaves_cons (f := 178) (args := #[.pointer (some ⟨w.heap.size, 0, none⟩)]) (by simp) (by simp [go_sem]) ?_
      refine (catch_q w.heap.size p s.v 0 c _ w' A1' Ap []).mono ?_
      rintro e u' w'' ⟨rfl, rfl, hA, hB3⟩
      refine ⟨_, results_tmp rfl _ _ _, ?_⟩
      exact Fac.no rfl h hb hB (by omega) hA hB3
  · go_enter_defers Tryz.func155, Tryz.ntmps155
    go_wp2
    refine ⟨_, results_tmp rfl _ _ _, ?_⟩
    exact Fac.sticks hf ((Below.refl _ _).alloc (Nat.le_refl _) _) h

set_option maxHeartbeats 1000000 in
set_option maxRecDepth 100000 in
theorem read_fixed (p : Nat) (s : Sl) (f : Int) (w : World) (bx : Nat) (n : Int) (h : Rdr w p s f) (hbx : Arr w bx 3 [.int .i64 n]) (hm : s.n ≤ 1099511627776) :
    Calls Tryz.prog 157 #[.pointer (some ⟨p, 0, none⟩), .func (.func 158) #[] #[.pointer (some ⟨bx, 0, none⟩)]] w (Fac isL (.slice none 0 0) p s f (pFixed n s.l) w) := by
  have hmf : ∀ (fn : Fn) (first cap : Array Value) (w : World), (Instr.makeFunc fn first cap).run Tryz.prog w = .ok (.func fn first cap) w := fun _ _ _ _ => rfl
  have c0 : w.cell? ⟨p, 0, none⟩ = some s.v := by simpa using h.arr.cell 0
  have c1 : w.cell? ⟨p, 1, none⟩ = some (.int .i64 f) := by simpa using h.arr.cell 1
  have hlt := h.arr.lt
  have hsv : s.v = .slice s.a s.n s.c := rfl
  rw [hsv] at c0
  by_cases hf : f = 0
  · subst hf
    obtain ⟨W, hW, A1, A2, hb, hsz⟩ := arr2 w 177 224 [.pointer (some ⟨p, 0, none⟩)] [s.v]
    have hW' : (w.alloc (.cells #[.pointer (some ⟨p, 0, none⟩)] 177)).alloc (.cells #[.slice s.a s.n s.c] 224) = W := hW.symm
    have HW := hide hW'
    clear hW hW'
    have hI := fixed1_any (w.heap.size + 1) bx s n W (h.unr hb (by omega) A2) (hbx.later hb) hm
    cases hP : pFixed n s.l with
    | ok q =>
      obtain ⟨x, r⟩ := q
      rw [hP] at hI
      clear hP hsz hsv
      go_enter_defers Tryz.func157, Tryz.ntmps157
      go_wp2_with (
        go_at_call 158
        rw [unhide HW]
        refine hI.mono ?_
        rintro e w' ⟨hB, v, t, rfl, hV, hU, hr, hS⟩
        have cu := hU.cell'
        obtain ⟨cb, cp, fp, A1', Ap⟩ := h.after A1 hb hB)
      refine leaves_cons (f := 180) (args := #[.pointer (some ⟨w.heap.size, 0, none⟩)]) (by simp) (by simp [go_sem]) ?_
      refine (idle_by _ _).mono ?_
      rintro e u' w'' ⟨rfl, rfl, rfl⟩
      refine ⟨_, results_tmp rfl _ _ _, ?_⟩
      exact Fac.yes (lasts_L) rfl h hb hB (by omega) hV hU hr hS
    | error c =>
      rw [hP] at hI
      clear hP hsz hsv
      go_enter_defers Tryz.func157, Tryz.ntmps157
      go_wp2_with (
        go_at_call 158
        rw [unhide HW]
        refine hI.mono ?_
        rintro e w' ⟨hB, he⟩
        simp only [gives] at he
        subst he
        obtain ⟨cb, cp, fp, A1', Ap⟩ := h.after A1 hb hB)
      refine leaves_cons (f := 180) (args := #[.pointer (some ⟨w.heap.size, 0, none⟩)]) (by simp) (by simp [go_sem]) ?_
      refine (catch_by w.heap.size p s.v 0 c _ w' A1' Ap []).mono ?_
      rintro e u' w'' ⟨rfl, rfl, hA, hB3⟩
      refine ⟨_, results_tmp rfl _ _ _, ?_⟩
      exact Fac.no rfl h hb hB (by omega) hA hB3
  · go_enter_defers Tryz.func157, Tryz.ntmps157
    go_wp2
    refine ⟨_, results_tmp rfl _ _ _, ?_⟩
    exact Fac.sticks hf ((Below.refl _ _).alloc (Nat.le_refl _) _) h

end Go.Proofs.YthpnfbgobpfdgaaGreat
