import Derived.Test.YtfedajifefldmaaGreatOnGsA
namespace Go.Proofs.YtfedajifefldmaaGreat
open Go.RowKit

/-! The face of all reading. -/

set_option maxHeartbeats 1000000 in
set_option maxRecDepth 100000 in
theorem read_u32 (p : Nat) (s : Sl) (f : Int) (w : World) (h : Rdr w p s f) :
    Calls Tryz.prog 319 #[.pointer (some ⟨p, 0, none⟩), .func (.func 320) #[] #[]] w (Fac (isI .u32) (.int .u32 0) p s f (pU32 s.l) w) := by
  have hmf : ∀ (fn : Fn) (first cap : Array Value) (w : World), (Instr.makeFunc fn first cap).run Tryz.prog w = .ok (.func fn first cap) w := fun _ _ _ _ => rfl
  have c0 : w.cell? ⟨p, 0, none⟩ = some s.v := by simpa using h.arr.cell 0
  have c1 : w.cell? ⟨p, 1, none⟩ = some (.int .i64 f) := by simpa using h.arr.cell 1
  have hlt := h.arr.lt
  have hsv : s.v = .slice s.a s.n s.c := rfl
  rw [hsv] at c0
  by_cases hf : f = 0
  · subst hf
    obtain ⟨W, hW, A1, A2, hb, hsz⟩ := arr2 w 210 351 [.pointer (some ⟨p, 0, none⟩)] [s.v]
    have hW' : (w.alloc (.cells #[.pointer (some ⟨p, 0, none⟩)] 210)).alloc (.cells #[.slice s.a s.n s.c] 351) = W := hW.symm
    have HW := hide hW'
    clear hW hW'
    have hI := fourBytes_any (w.heap.size + 1) s W (h.unr hb (by omega) A2)
    cases hP : pU32 s.l with
    | ok q =>
      obtain ⟨x, r⟩ := q
      rw [hP] at hI
      clear hP hsz hsv
      go_enter_defers Tryz.func319, Tryz.ntmps319
      go_wp2_with (
        go_at_call 320
        rw [unhide HW]
        refine hI.mono ?_
        rintro e w' ⟨hB, v, t, rfl, hV, hU, hr, hS⟩
        have cu := hU.cell'
        obtain ⟨cb, cp, fp, A1', Ap⟩ := h.after A1 hb hB)
      refine leaves_cons (f := 341) (args := #[.pointer (some ⟨w.heap.size, 0, none⟩)]) (by simp) (by simp [go_sem]) ?_
      refine (idle_w _ _).mono ?_
      rintro e u' w'' ⟨rfl, rfl, rfl⟩
      refine ⟨_, results_tmp rfl _ _ _, ?_⟩
      exact Fac.yes (lasts_I _) rfl h hb hB (by omega) hV hU hr hS
    | error c =>
      rw [hP] at hI
      clear hP hsz hsv
      go_enter_defers Tryz.func319, Tryz.ntmps319
      go_wp2_with (
        go_at_call 320
        rw [unhide HW]
        refine hI.mono ?_
        rintro e w' ⟨hB, he⟩
        simp only [gives] at he
        subst he
        obtain ⟨cb, cp, fp, A1', Ap⟩ := h.after A1 hb hB)
      refine leaves_cons (f := 341) (args := #[.pointer (some ⟨w.heap.size, 0, none⟩)]) (by simp) (by simp [go_sem]) ?_
      refine (catch_w w.heap.size p s.v 0 c _ w' A1' Ap []).mono ?_
      rintro e u' w'' ⟨rfl, rfl, hA, hB3⟩
      refine ⟨_, results_tmp rfl _ _ _, ?_⟩
      exact Fac.no rfl h hb hB (by omega) hA hB3
  · go_enter_defers Tryz.func319, Tryz.ntmps319
    go_wp2
    refine ⟨_, results_tmp rfl _ _ _, ?_⟩
    exact Fac.sticks hf ((Below.refl _ _).alloc (Nat.le_refl _) _) h

set_option maxHeartbeats 1000000 in
set_option maxRecDepth 100000 in
theorem read_u64 (p : Nat) (s : Sl) (f : Int) (w : World) (h : Rdr w p s f) :
    Calls Tryz.prog 316 #[.pointer (some ⟨p, 0, none⟩), .func (.func 317) #[] #[]] w (Fac (isI .u64) (.int .u64 0) p s f (pU64 s.l) w) := by
  have hmf : ∀ (fn : Fn) (first cap : Array Value) (w : World), (Instr.makeFunc fn first cap).run Tryz.prog w = .ok (.func fn first cap) w := fun _ _ _ _ => rfl
  have c0 : w.cell? ⟨p, 0, none⟩ = some s.v := by simpa using h.arr.cell 0
  have c1 : w.cell? ⟨p, 1, none⟩ = some (.int .i64 f) := by simpa using h.arr.cell 1
  have hlt := h.arr.lt
  have hsv : s.v = .slice s.a s.n s.c := rfl
  rw [hsv] at c0
  by_cases hf : f = 0
  · subst hf
    obtain ⟨W, hW, A1, A2, hb, hsz⟩ := arr2 w 210 351 [.pointer (some ⟨p, 0, none⟩)] [s.v]
    have hW' : (w.alloc (.cells #[.pointer (some ⟨p, 0, none⟩)] 210)).alloc (.cells #[.slice s.a s.n s.c] 351) = W := hW.symm
    have HW := hide hW'
    clear hW hW'
    have hI := eightBytes_any (w.heap.size + 1) s W (h.unr hb (by omega) A2)
    cases hP : pU64 s.l with
    | ok q =>
      obtain ⟨x, r⟩ := q
      rw [hP] at hI
      clear hP hsz hsv
      go_enter_defers Tryz.func316, Tryz.ntmps316
      go_wp2_with (
        go_at_call 317
        rw [unhide HW]
        refine hI.mono ?_
        rintro e w' ⟨hB, v, t, rfl, hV, hU, hr, hS⟩
        have cu := hU.cell'
        obtain ⟨cb, cp, fp, A1', Ap⟩ := h.after A1 hb hB)
      refine leaves_cons (f := 338) (args := #[.pointer (some ⟨w.heap.size, 0, none⟩)]) (by simp) (by simp [go_sem]) ?_
      refine (idle_q _ _).mono ?_
      rintro e u' w'' ⟨rfl, rfl, rfl⟩
      refine ⟨_, results_tmp rfl _ _ _, ?_⟩
      exact Fac.yes (lasts_I _) rfl h hb hB (by omega) hV hU hr hS
    | error c =>
      rw [hP] at hI
      clear hP hsz hsv
      go_enter_defers Tryz.func316, Tryz.ntmps316
      go_wp2_with (
        go_at_call 317
        rw [unhide HW]
        refine hI.mono ?_
        rintro e w' ⟨hB, he⟩
        simp only [gives] at he
        subst he
        obtain ⟨cb, cp, fp, A1', Ap⟩ := h.after A1 hb hB)
      refine leaves_cons (f := 338) (args := #[.pointer (some ⟨w.heap.size, 0, none⟩)]) (by simp) (by simp [go_sem]) ?_
      refine (catch_q w.heap.size p s.v 0 c _ w' A1' Ap []).mono ?_
      rintro e u' w'' ⟨rfl, rfl, hA, hB3⟩
      refine ⟨_, results_tmp rfl _ _ _, ?_⟩
      exact Fac.no rfl h hb hB (by omega) hA hB3
  · go_enter_defers Tryz.func316, Tryz.ntmps316
    go_wp2
    refine ⟨_, results_tmp rfl _ _ _, ?_⟩
    exact Fac.sticks hf ((Below.refl _ _).alloc (Nat.le_refl _) _) h

set_option maxHeartbeats 1000000 in
set_option maxRecDepth 100000 in
theorem read_bool (p : Nat) (s : Sl) (f : Int) (w : World) (h : Rdr w p s f) :
    Calls Tryz.prog 321 #[.pointer (some ⟨p, 0, none⟩), .func (.func 322) #[] #[]] w (Fac isT (.bool false) p s f (pBool s.l) w) := by
  have hmf : ∀ (fn : Fn) (first cap : Array Value) (w : World), (Instr.makeFunc fn first cap).run Tryz.prog w = .ok (.func fn first cap) w := fun _ _ _ _ => rfl
  have c0 : w.cell? ⟨p, 0, none⟩ = some s.v := by simpa using h.arr.cell 0
  have c1 : w.cell? ⟨p, 1, none⟩ = some (.int .i64 f) := by simpa using h.arr.cell 1
  have hlt := h.arr.lt
  have hsv : s.v = .slice s.a s.n s.c := rfl
  rw [hsv] at c0
  by_cases hf : f = 0
  · subst hf
    obtain ⟨W, hW, A1, A2, hb, hsz⟩ := arr2 w 210 351 [.pointer (some ⟨p, 0, none⟩)] [s.v]
    have hW' : (w.alloc (.cells #[.pointer (some ⟨p, 0, none⟩)] 210)).alloc (.cells #[.slice s.a s.n s.c] 351) = W := hW.symm
    have HW := hide hW'
    clear hW hW'
    have hI := zeroOrOne_any (w.heap.size + 1) s W (h.unr hb (by omega) A2)
    cases hP : pBool s.l with
    | ok q =>
      obtain ⟨x, r⟩ := q
      rw [hP] at hI
      clear hP hsz hsv
      go_enter_defers Tryz.func321, Tryz.ntmps321
      go_wp2_with (
        go_at_call 322
        rw [unhide HW]
        refine hI.mono ?_
        rintro e w' ⟨hB, v, t, rfl, hV, hU, hr, hS⟩
        have cu := hU.cell'
        obtain ⟨cb, cp, fp, A1', Ap⟩ := h.after A1 hb hB)
      refine leaves_cons (f := 343) (args := #[.pointer (some ⟨w.heap.size, 0, none⟩)]) (by simp) (by simp [go_sem]) ?_
      refine (idle_t _ _).mono ?_
      rintro e u' w'' ⟨rfl, rfl, rfl⟩
      refine ⟨_, results_tmp rfl _ _ _, ?_⟩
      exact Fac.yes (lasts_T) rfl h hb hB (by omega) hV hU hr hS
    | error c =>
      rw [hP] at hI
      clear hP hsz hsv
      go_enter_defers Tryz.func321, Tryz.ntmps321
      go_wp2_with (
        go_at_call 322
        rw [unhide HW]
        refine hI.mono ?_
        rintro e w' ⟨hB, he⟩
        simp only [gives] at he
        subst he
        obtain ⟨cb, cp, fp, A1', Ap⟩ := h.after A1 hb hB)
      refine leaves_cons (f := 343) (args := #[.pointer (some ⟨w.heap.size, 0, none⟩)]) (by simp) (by simp [go_sem]) ?_
      refine (catch_t w.heap.size p s.v 0 c _ w' A1' Ap []).mono ?_
      rintro e u' w'' ⟨rfl, rfl, hA, hB3⟩
      refine ⟨_, results_tmp rfl _ _ _, ?_⟩
      exact Fac.no rfl h hb hB (by omega) hA hB3
  · go_enter_defers Tryz.func321, Tryz.ntmps321
    go_wp2
    refine ⟨_, results_tmp rfl _ _ _, ?_⟩
    exact Fac.sticks hf ((Below.refl _ _).alloc (Nat.le_refl _) _) h

set_option maxHeartbeats 1000000 in
set_option maxRecDepth 100000 in
theorem read_fixed (p : Nat) (s : Sl) (f : Int) (w : World) (bx : Nat) (n : Int) (h : Rdr w p s f) (hbx : Arr w bx 3 [.int .i64 n]) (hm : s.n ≤ 1099511627776) :
    Calls Tryz.prog 309 #[.pointer (some ⟨p, 0, none⟩), .func (.func 310) #[] #[.pointer (some ⟨bx, 0, none⟩)]] w (Fac isL (.slice none 0 0) p s f (pFixed n s.l) w) := by
  have hmf : ∀ (fn : Fn) (first cap : Array Value) (w : World), (Instr.makeFunc fn first cap).run Tryz.prog w = .ok (.func fn first cap) w := fun _ _ _ _ => rfl
  have c0 : w.cell? ⟨p, 0, none⟩ = some s.v := by simpa using h.arr.cell 0
  have c1 : w.cell? ⟨p, 1, none⟩ = some (.int .i64 f) := by simpa using h.arr.cell 1
  have hlt := h.arr.lt
  have hsv : s.v = .slice s.a s.n s.c := rfl
  rw [hsv] at c0
  by_cases hf : f = 0
  · subst hf
    obtain ⟨W, hW, A1, A2, hb, hsz⟩ := arr2 w 210 351 [.pointer (some ⟨p, 0, none⟩)] [s.v]
    have hW' : (w.alloc (.cells #[.pointer (some ⟨p, 0, none⟩)] 210)).alloc (.cells #[.slice s.a s.n s.c] 351) = W := hW.symm
    have HW := hide hW'
    clear hW hW'
    have hI := fixed1_any (w.heap.size + 1) bx s n W (h.unr hb (by omega) A2) (hbx.later hb) hm
    cases hP : pFixed n s.l with
    | ok q =>
      obtain ⟨x, r⟩ := q
      rw [hP] at hI
      clear hP hsz hsv
      go_enter_defers Tryz.func309, Tryz.ntmps309
      go_wp2_with (
        go_at_call 310
        rw [unhide HW]
        refine hI.mono ?_
        rintro e w' ⟨hB, v, t, rfl, hV, hU, hr, hS⟩
        have cu := hU.cell'
        obtain ⟨cb, cp, fp, A1', Ap⟩ := h.after A1 hb hB)
      refine leaves_cons (f := 335) (args := #[.pointer (some ⟨w.heap.size, 0, none⟩)]) (by simp) (by simp [go_sem]) ?_
      refine (idle_by _ _).mono ?_
      rintro e u' w'' ⟨rfl, rfl, rfl⟩
      refine ⟨_, results_tmp rfl _ _ _, ?_⟩
      exact Fac.yes (lasts_L) rfl h hb hB (by omega) hV hU hr hS
    | error c =>
      rw [hP] at hI
      clear hP hsz hsv
      go_enter_defers Tryz.func309, Tryz.ntmps309
      go_wp2_with (
        go_at_call 310
        rw [unhide HW]
        refine hI.mono ?_
        rintro e w' ⟨hB, he⟩
        simp only [gives] at he
        subst he
        obtain ⟨cb, cp, fp, A1', Ap⟩ := h.after A1 hb hB)
      refine leaves_cons (f := 335) (args := #[.pointer (some ⟨w.heap.size, 0, none⟩)]) (by simp) (by simp [go_sem]) ?_
      refine (catch_by w.heap.size p s.v 0 c _ w' A1' Ap []).mono ?_
      rintro e u' w'' ⟨rfl, rfl, hA, hB3⟩
      refine ⟨_, results_tmp rfl _ _ _, ?_⟩
      exact Fac.no rfl h hb hB (by omega) hA hB3
  · go_enter_defers Tryz.func309, Tryz.ntmps309
    go_wp2
    refine ⟨_, results_tmp rfl _ _ _, ?_⟩
    exact Fac.sticks hf ((Below.refl _ _).alloc (Nat.le_refl _) _) h

end Go.Proofs.YtfedajifefldmaaGreat
