import Derived.Test.YtiloacnjgaoceabCntW
import Derived.Test.YtiloacnjgaoceabPrsW
namespace Go.Proofs.Ytiloacnjgaoceab
open Go.RowKit

/-! The deferred function of each reading: it keeps the fault. -/

theorem idle_by (q : Addr) (w : World) :
    CallsD Try.prog 63 #[.pointer (some q)] .returning w fun e u' w' => e = .returned (.tuple #[]) ∧ u' = .returning ∧ w' = w := by
  refine callsD_of_wpS Try.func63 rfl fun c₀ cs hu => ?_
  apply wpS_seq
  apply wpS_region
  simp [wpOpsS, go_sem, recoverD, hu, Try.ntmps63, Exit.thenS]
  refine wpS_of_wp ?_
  have ht : ∀ x y : Value, #[x] ++ ((Array.replicate 9 undef).setIfInBounds 1 y).setIfInBounds 0 y = #[x, y, y, undef, undef, undef, undef, undef, undef, undef] := fun _ _ => rfl
  rw [ht]
  go_wp2
  cases c₀
  simp_all [bodyPostS, results, Try.results63]

theorem catch_by (b p : Nat) (v : Value) (f c : Int) (ty : TypeId) (w : World) (hb : Arr w b ty [.pointer (some ⟨p, 0, none⟩)]) (hp : Arr w p 65 [v, .int .i64 f]) (older : List PanicEntry) :
    CallsD Try.prog 63 #[.pointer (some ⟨b, 0, none⟩)] (.panicking ({ v := .iface 43 (.int .i64 c), recovered := false } :: older)) w fun e u' w' =>
      e = .returned (.tuple #[]) ∧ u' = .panicking ({ v := .iface 43 (.int .i64 c), recovered := true } :: older) ∧ Arr w' p 65 [v, .int .i64 c] ∧ But p w w' := by
  have cb : w.cell? ⟨b, 0, none⟩ = some (.pointer (some ⟨p, 0, none⟩)) := by simpa using hb.cell 0
  have fz := hp.frozen 1
  have cp : w.cell? ⟨p, 1, none⟩ = some (.int .i64 f) := by simpa using hp.cell 1
  refine callsD_of_wpS Try.func63 rfl fun c₀ cs hu => ?_
  apply wpS_seq
  apply wpS_region
  simp [wpOpsS, go_sem, recoverD, hu, Try.ntmps63, Exit.thenS]
  refine wpS_of_wp ?_
  have ht : ∀ x y : Value, #[x] ++ ((Array.replicate 9 undef).setIfInBounds 1 y).setIfInBounds 0 y = #[x, y, y, undef, undef, undef, undef, undef, undef, undef] := fun _ _ => rfl
  rw [ht]
  have hta : ∀ w : World, (Instr.typeAssert (.iface 43 (.int .i64 c)) 20 43 false).run Try.prog w = .ok (.int .i64 c) w := fun _ => by kernel_rfl
  go_wp2
  go_region
  refine ⟨rfl, _, rfl, .tuple #[], ?_, rfl, rfl, ?_, ?_⟩
  · simp [results, Try.results63]
  · exact (hp.set 1 (.int .i64 c)).drewN 1
  · exact ((But.refl p w).setCell 1 _).drew

theorem idle_q (q : Addr) (w : World) :
    CallsD Try.prog 86 #[.pointer (some q)] .returning w fun e u' w' => e = .returned (.tuple #[]) ∧ u' = .returning ∧ w' = w := by
  refine callsD_of_wpS Try.func86 rfl fun c₀ cs hu => ?_
  apply wpS_seq
  apply wpS_region
  simp [wpOpsS, go_sem, recoverD, hu, Try.ntmps86, Exit.thenS]
  refine wpS_of_wp ?_
  have ht : ∀ x y : Value, #[x] ++ ((Array.replicate 9 undef).setIfInBounds 1 y).setIfInBounds 0 y = #[x, y, y, undef, undef, undef, undef, undef, undef, undef] := fun _ _ => rfl
  rw [ht]
  go_wp2
  cases c₀
  simp_all [bodyPostS, results, Try.results86]

theorem catch_q (b p : Nat) (v : Value) (f c : Int) (ty : TypeId) (w : World) (hb : Arr w b ty [.pointer (some ⟨p, 0, none⟩)]) (hp : Arr w p 65 [v, .int .i64 f]) (older : List PanicEntry) :
    CallsD Try.prog 86 #[.pointer (some ⟨b, 0, none⟩)] (.panicking ({ v := .iface 43 (.int .i64 c), recovered := false } :: older)) w fun e u' w' =>
      e = .returned (.tuple #[]) ∧ u' = .panicking ({ v := .iface 43 (.int .i64 c), recovered := true } :: older) ∧ Arr w' p 65 [v, .int .i64 c] ∧ But p w w' := by
  have cb : w.cell? ⟨b, 0, none⟩ = some (.pointer (some ⟨p, 0, none⟩)) := by simpa using hb.cell 0
  have fz := hp.frozen 1
  have cp : w.cell? ⟨p, 1, none⟩ = some (.int .i64 f) := by simpa using hp.cell 1
  refine callsD_of_wpS Try.func86 rfl fun c₀ cs hu => ?_
  apply wpS_seq
  apply wpS_region
  simp [wpOpsS, go_sem, recoverD, hu, Try.ntmps86, Exit.thenS]
  refine wpS_of_wp ?_
  have ht : ∀ x y : Value, #[x] ++ ((Array.replicate 9 undef).setIfInBounds 1 y).setIfInBounds 0 y = #[x, y, y, undef, undef, undef, undef, undef, undef, undef] := fun _ _ => rfl
  rw [ht]
  have hta : ∀ w : World, (Instr.typeAssert (.iface 43 (.int .i64 c)) 20 43 false).run Try.prog w = .ok (.int .i64 c) w := fun _ => by kernel_rfl
  go_wp2
  go_region
  refine ⟨rfl, _, rfl, .tuple #[], ?_, rfl, rfl, ?_, ?_⟩
  · simp [results, Try.results86]
  · exact (hp.set 1 (.int .i64 c)).drewN 1
  · exact ((But.refl p w).setCell 1 _).drew

theorem idle_b (q : Addr) (w : World) :
    CallsD Try.prog 83 #[.pointer (some q)] .returning w fun e u' w' => e = .returned (.tuple #[]) ∧ u' = .returning ∧ w' = w := by
  refine callsD_of_wpS Try.func83 rfl fun c₀ cs hu => ?_
  apply wpS_seq
  apply wpS_region
  simp [wpOpsS, go_sem, recoverD, hu, Try.ntmps83, Exit.thenS]
  refine wpS_of_wp ?_
  have ht : ∀ x y : Value, #[x] ++ ((Array.replicate 9 undef).setIfInBounds 1 y).setIfInBounds 0 y = #[x, y, y, undef, undef, undef, undef, undef, undef, undef] := fun _ _ => rfl
  rw [ht]
  go_wp2
  cases c₀
  simp_all [bodyPostS, results, Try.results83]

theorem catch_b (b p : Nat) (v : Value) (f c : Int) (ty : TypeId) (w : World) (hb : Arr w b ty [.pointer (some ⟨p, 0, none⟩)]) (hp : Arr w p 65 [v, .int .i64 f]) (older : List PanicEntry) :
    CallsD Try.prog 83 #[.pointer (some ⟨b, 0, none⟩)] (.panicking ({ v := .iface 43 (.int .i64 c), recovered := false } :: older)) w fun e u' w' =>
      e = .returned (.tuple #[]) ∧ u' = .panicking ({ v := .iface 43 (.int .i64 c), recovered := true } :: older) ∧ Arr w' p 65 [v, .int .i64 c] ∧ But p w w' := by
  have cb : w.cell? ⟨b, 0, none⟩ = some (.pointer (some ⟨p, 0, none⟩)) := by simpa using hb.cell 0
  have fz := hp.frozen 1
  have cp : w.cell? ⟨p, 1, none⟩ = some (.int .i64 f) := by simpa using hp.cell 1
  refine callsD_of_wpS Try.func83 rfl fun c₀ cs hu => ?_
  apply wpS_seq
  apply wpS_region
  simp [wpOpsS, go_sem, recoverD, hu, Try.ntmps83, Exit.thenS]
  refine wpS_of_wp ?_
  have ht : ∀ x y : Value, #[x] ++ ((Array.replicate 9 undef).setIfInBounds 1 y).setIfInBounds 0 y = #[x, y, y, undef, undef, undef, undef, undef, undef, undef] := fun _ _ => rfl
  rw [ht]
  have hta : ∀ w : World, (Instr.typeAssert (.iface 43 (.int .i64 c)) 20 43 false).run Try.prog w = .ok (.int .i64 c) w := fun _ => by kernel_rfl
  go_wp2
  go_region
  refine ⟨rfl, _, rfl, .tuple #[], ?_, rfl, rfl, ?_, ?_⟩
  · simp [results, Try.results83]
  · exact (hp.set 1 (.int .i64 c)).drewN 1
  · exact ((But.refl p w).setCell 1 _).drew

theorem idle_w (q : Addr) (w : World) :
    CallsD Try.prog 84 #[.pointer (some q)] .returning w fun e u' w' => e = .returned (.tuple #[]) ∧ u' = .returning ∧ w' = w := by
  refine callsD_of_wpS Try.func84 rfl fun c₀ cs hu => ?_
  apply wpS_seq
  apply wpS_region
  simp [wpOpsS, go_sem, recoverD, hu, Try.ntmps84, Exit.thenS]
  refine wpS_of_wp ?_
  have ht : ∀ x y : Value, #[x] ++ ((Array.replicate 9 undef).setIfInBounds 1 y).setIfInBounds 0 y = #[x, y, y, undef, undef, undef, undef, undef, undef, undef] := fun _ _ => rfl
  rw [ht]
  go_wp2
  cases c₀
  simp_all [bodyPostS, results, Try.results84]

theorem catch_w (b p : Nat) (v : Value) (f c : Int) (ty : TypeId) (w : World) (hb : Arr w b ty [.pointer (some ⟨p, 0, none⟩)]) (hp : Arr w p 65 [v, .int .i64 f]) (older : List PanicEntry) :
    CallsD Try.prog 84 #[.pointer (some ⟨b, 0, none⟩)] (.panicking ({ v := .iface 43 (.int .i64 c), recovered := false } :: older)) w fun e u' w' =>
      e = .returned (.tuple #[]) ∧ u' = .panicking ({ v := .iface 43 (.int .i64 c), recovered := true } :: older) ∧ Arr w' p 65 [v, .int .i64 c] ∧ But p w w' := by
  have cb : w.cell? ⟨b, 0, none⟩ = some (.pointer (some ⟨p, 0, none⟩)) := by simpa using hb.cell 0
  have fz := hp.frozen 1
  have cp : w.cell? ⟨p, 1, none⟩ = some (.int .i64 f) := by simpa using hp.cell 1
  refine callsD_of_wpS Try.func84 rfl fun c₀ cs hu => ?_
  apply wpS_seq
  apply wpS_region
  simp [wpOpsS, go_sem, recoverD, hu, Try.ntmps84, Exit.thenS]
  refine wpS_of_wp ?_
  have ht : ∀ x y : Value, #[x] ++ ((Array.replicate 9 undef).setIfInBounds 1 y).setIfInBounds 0 y = #[x, y, y, undef, undef, undef, undef, undef, undef, undef] := fun _ _ => rfl
  rw [ht]
  have hta : ∀ w : World, (Instr.typeAssert (.iface 43 (.int .i64 c)) 20 43 false).run Try.prog w = .ok (.int .i64 c) w := fun _ => by kernel_rfl
  go_wp2
  go_region
  refine ⟨rfl, _, rfl, .tuple #[], ?_, rfl, rfl, ?_, ?_⟩
  · simp [results, Try.results84]
  · exact (hp.set 1 (.int .i64 c)).drewN 1
  · exact ((But.refl p w).setCell 1 _).drew

theorem idle_t (q : Addr) (w : World) :
    CallsD Try.prog 64 #[.pointer (some q)] .returning w fun e u' w' => e = .returned (.tuple #[]) ∧ u' = .returning ∧ w' = w := by
  refine callsD_of_wpS Try.func64 rfl fun c₀ cs hu => ?_
  apply wpS_seq
  apply wpS_region
  simp [wpOpsS, go_sem, recoverD, hu, Try.ntmps64, Exit.thenS]
  refine wpS_of_wp ?_
  have ht : ∀ x y : Value, #[x] ++ ((Array.replicate 9 undef).setIfInBounds 1 y).setIfInBounds 0 y = #[x, y, y, undef, undef, undef, undef, undef, undef, undef] := fun _ _ => rfl
  rw [ht]
  go_wp2
  cases c₀
  simp_all [bodyPostS, results, Try.results64]

theorem catch_t (b p : Nat) (v : Value) (f c : Int) (ty : TypeId) (w : World) (hb : Arr w b ty [.pointer (some ⟨p, 0, none⟩)]) (hp : Arr w p 65 [v, .int .i64 f]) (older : List PanicEntry) :
    CallsD Try.prog 64 #[.pointer (some ⟨b, 0, none⟩)] (.panicking ({ v := .iface 43 (.int .i64 c), recovered := false } :: older)) w fun e u' w' =>
      e = .returned (.tuple #[]) ∧ u' = .panicking ({ v := .iface 43 (.int .i64 c), recovered := true } :: older) ∧ Arr w' p 65 [v, .int .i64 c] ∧ But p w w' := by
  have cb : w.cell? ⟨b, 0, none⟩ = some (.pointer (some ⟨p, 0, none⟩)) := by simpa using hb.cell 0
  have fz := hp.frozen 1
  have cp : w.cell? ⟨p, 1, none⟩ = some (.int .i64 f) := by simpa using hp.cell 1
  refine callsD_of_wpS Try.func64 rfl fun c₀ cs hu => ?_
  apply wpS_seq
  apply wpS_region
  simp [wpOpsS, go_sem, recoverD, hu, Try.ntmps64, Exit.thenS]
  refine wpS_of_wp ?_
  have ht : ∀ x y : Value, #[x] ++ ((Array.replicate 9 undef).setIfInBounds 1 y).setIfInBounds 0 y = #[x, y, y, undef, undef, undef, undef, undef, undef, undef] := fun _ _ => rfl
  rw [ht]
  have hta : ∀ w : World, (Instr.typeAssert (.iface 43 (.int .i64 c)) 20 43 false).run Try.prog w = .ok (.int .i64 c) w := fun _ => by kernel_rfl
  go_wp2
  go_region
  refine ⟨rfl, _, rfl, .tuple #[], ?_, rfl, rfl, ?_, ?_⟩
  · simp [results, Try.results64]
  · exact (hp.set 1 (.int .i64 c)).drewN 1
  · exact ((But.refl p w).setCell 1 _).drew

theorem idle_i (q : Addr) (w : World) :
    CallsD Try.prog 88 #[.pointer (some q)] .returning w fun e u' w' => e = .returned (.tuple #[]) ∧ u' = .returning ∧ w' = w := by
  refine callsD_of_wpS Try.func88 rfl fun c₀ cs hu => ?_
  apply wpS_seq
  apply wpS_region
  simp [wpOpsS, go_sem, recoverD, hu, Try.ntmps88, Exit.thenS]
  refine wpS_of_wp ?_
  have ht : ∀ x y : Value, #[x] ++ ((Array.replicate 9 undef).setIfInBounds 1 y).setIfInBounds 0 y = #[x, y, y, undef, undef, undef, undef, undef, undef, undef] := fun _ _ => rfl
  rw [ht]
  go_wp2
  cases c₀
  simp_all [bodyPostS, results, Try.results88]

theorem catch_i (b p : Nat) (v : Value) (f c : Int) (ty : TypeId) (w : World) (hb : Arr w b ty [.pointer (some ⟨p, 0, none⟩)]) (hp : Arr w p 65 [v, .int .i64 f]) (older : List PanicEntry) :
    CallsD Try.prog 88 #[.pointer (some ⟨b, 0, none⟩)] (.panicking ({ v := .iface 43 (.int .i64 c), recovered := false } :: older)) w fun e u' w' =>
      e = .returned (.tuple #[]) ∧ u' = .panicking ({ v := .iface 43 (.int .i64 c), recovered := true } :: older) ∧ Arr w' p 65 [v, .int .i64 c] ∧ But p w w' := by
  have cb : w.cell? ⟨b, 0, none⟩ = some (.pointer (some ⟨p, 0, none⟩)) := by simpa using hb.cell 0
  have fz := hp.frozen 1
  have cp : w.cell? ⟨p, 1, none⟩ = some (.int .i64 f) := by simpa using hp.cell 1
  refine callsD_of_wpS Try.func88 rfl fun c₀ cs hu => ?_
  apply wpS_seq
  apply wpS_region
  simp [wpOpsS, go_sem, recoverD, hu, Try.ntmps88, Exit.thenS]
  refine wpS_of_wp ?_
  have ht : ∀ x y : Value, #[x] ++ ((Array.replicate 9 undef).setIfInBounds 1 y).setIfInBounds 0 y = #[x, y, y, undef, undef, undef, undef, undef, undef, undef] := fun _ _ => rfl
  rw [ht]
  have hta : ∀ w : World, (Instr.typeAssert (.iface 43 (.int .i64 c)) 20 43 false).run Try.prog w = .ok (.int .i64 c) w := fun _ => by kernel_rfl
  go_wp2
  go_region
  refine ⟨rfl, _, rfl, .tuple #[], ?_, rfl, rfl, ?_, ?_⟩
  · simp [results, Try.results88]
  · exact (hp.set 1 (.int .i64 c)).drewN 1
  · exact ((But.refl p w).setCell 1 _).drew
end Go.Proofs.Ytiloacnjgaoceab
