import Derived.Test.YtiloacnjgaoceaaCntW
import Derived.Test.YtiloacnjgaoceaaPrsW
namespace Go.Proofs.Ytiloacnjgaoceaa
open Go.RowKit

/-! The deferred function of each reading: it keeps the fault. -/

theorem idle_by (q : Addr) (w : World) :
    CallsD Try.prog 66 #[.pointer (some q)] .returning w fun e u' w' => e = .returned (.tuple #[]) ∧ u' = .returning ∧ w' = w := by
  refine callsD_of_wpS Try.func66 rfl fun c₀ cs hu => ?_
  apply wpS_seq
  apply wpS_region
  simp [wpOpsS, go_sem, recoverD, hu, Try.ntmps66, Exit.thenS]
  refine wpS_of_wp ?_
  have ht : ∀ x y : Value, #[x] ++ ((Array.replicate 9 undef).setIfInBounds 1 y).setIfInBounds 0 y = #[x, y, y, undef, undef, undef, undef, undef, undef, undef] := fun _ _ => rfl
  rw [ht]
  go_wp2
  cases c₀
  simp_all [bodyPostS, results, Try.results66]

theorem catch_by (b p : Nat) (v : Value) (f c : Int) (ty : TypeId) (w : World) (hb : Arr w b ty [.pointer (some ⟨p, 0, none⟩)]) (hp : Arr w p 73 [v, .int .i64 f]) (older : List PanicEntry) :
    CallsD Try.prog 66 #[.pointer (some ⟨b, 0, none⟩)] (.panicking ({ v := .iface 25 (.int .i64 c), recovered := false } :: older)) w fun e u' w' =>
      e = .returned (.tuple #[]) ∧ u' = .panicking ({ v := .iface 25 (.int .i64 c), recovered := true } :: older) ∧ Arr w' p 73 [v, .int .i64 c] ∧ But p w w' := by
  have cb : w.cell? ⟨b, 0, none⟩ = some (.pointer (some ⟨p, 0, none⟩)) := by simpa using hb.cell 0
  have fz := hp.frozen 1
  have cp : w.cell? ⟨p, 1, none⟩ = some (.int .i64 f) := by simpa using hp.cell 1
  refine callsD_of_wpS Try.func66 rfl fun c₀ cs hu => ?_
  apply wpS_seq
  apply wpS_region
  simp [wpOpsS, go_sem, recoverD, hu, Try.ntmps66, Exit.thenS]
  refine wpS_of_wp ?_
  have ht : ∀ x y : Value, #[x] ++ ((Array.replicate 9 undef).setIfInBounds 1 y).setIfInBounds 0 y = #[x, y, y, undef, undef, undef, undef, undef, undef, undef] := fun _ _ => rfl
  rw [ht]
  have hta : ∀ w : World, (Instr.typeAssert (.iface 25 (.int .i64 c)) 20 25 false).run Try.prog w = .ok (.int .i64 c) w := fun _ => by kernel_rfl
  go_wp2
  go_region
  refine ⟨rfl, _, rfl, .tuple #[], ?_, rfl, rfl, ?_, ?_⟩
  · simp [results, Try.results66]
  · exact (hp.set 1 (.int .i64 c)).drewN 1
  · exact ((But.refl p w).setCell 1 _).drew

theorem idle_q (q : Addr) (w : World) :
    CallsD Try.prog 75 #[.pointer (some q)] .returning w fun e u' w' => e = .returned (.tuple #[]) ∧ u' = .returning ∧ w' = w := by
  refine callsD_of_wpS Try.func75 rfl fun c₀ cs hu => ?_
  apply wpS_seq
  apply wpS_region
  simp [wpOpsS, go_sem, recoverD, hu, Try.ntmps75, Exit.thenS]
  refine wpS_of_wp ?_
  have ht : ∀ x y : Value, #[x] ++ ((Array.replicate 9 undef).setIfInBounds 1 y).setIfInBounds 0 y = #[x, y, y, undef, undef, undef, undef, undef, undef, undef] := fun _ _ => rfl
  rw [ht]
  go_wp2
  cases c₀
  simp_all [bodyPostS, results, Try.results75]

theorem catch_q (b p : Nat) (v : Value) (f c : Int) (ty : TypeId) (w : World) (hb : Arr w b ty [.pointer (some ⟨p, 0, none⟩)]) (hp : Arr w p 73 [v, .int .i64 f]) (older : List PanicEntry) :
    CallsD Try.prog 75 #[.pointer (some ⟨b, 0, none⟩)] (.panicking ({ v := .iface 25 (.int .i64 c), recovered := false } :: older)) w fun e u' w' =>
      e = .returned (.tuple #[]) ∧ u' = .panicking ({ v := .iface 25 (.int .i64 c), recovered := true } :: older) ∧ Arr w' p 73 [v, .int .i64 c] ∧ But p w w' := by
  have cb : w.cell? ⟨b, 0, none⟩ = some (.pointer (some ⟨p, 0, none⟩)) := by simpa using hb.cell 0
  have fz := hp.frozen 1
  have cp : w.cell? ⟨p, 1, none⟩ = some (.int .i64 f) := by simpa using hp.cell 1
  refine callsD_of_wpS Try.func75 rfl fun c₀ cs hu => ?_
  apply wpS_seq
  apply wpS_region
  simp [wpOpsS, go_sem, recoverD, hu, Try.ntmps75, Exit.thenS]
  refine wpS_of_wp ?_
  have ht : ∀ x y : Value, #[x] ++ ((Array.replicate 9 undef).setIfInBounds 1 y).setIfInBounds 0 y = #[x, y, y, undef, undef, undef, undef, undef, undef, undef] := fun _ _ => rfl
  rw [ht]
  have hta : ∀ w : World, (Instr.typeAssert (.iface 25 (.int .i64 c)) 20 25 false).run Try.prog w = .ok (.int .i64 c) w := fun _ => by kernel_rfl
  go_wp2
  go_region
  refine ⟨rfl, _, rfl, .tuple #[], ?_, rfl, rfl, ?_, ?_⟩
  · simp [results, Try.results75]
  · exact (hp.set 1 (.int .i64 c)).drewN 1
  · exact ((But.refl p w).setCell 1 _).drew

theorem idle_b (q : Addr) (w : World) :
    CallsD Try.prog 89 #[.pointer (some q)] .returning w fun e u' w' => e = .returned (.tuple #[]) ∧ u' = .returning ∧ w' = w := by
  refine callsD_of_wpS Try.func89 rfl fun c₀ cs hu => ?_
  apply wpS_seq
  apply wpS_region
  simp [wpOpsS, go_sem, recoverD, hu, Try.ntmps89, Exit.thenS]
  refine wpS_of_wp ?_
  have ht : ∀ x y : Value, #[x] ++ ((Array.replicate 9 undef).setIfInBounds 1 y).setIfInBounds 0 y = #[x, y, y, undef, undef, undef, undef, undef, undef, undef] := fun _ _ => rfl
  rw [ht]
  go_wp2
  cases c₀
  simp_all [bodyPostS, results, Try.results89]

theorem catch_b (b p : Nat) (v : Value) (f c : Int) (ty : TypeId) (w : World) (hb : Arr w b ty [.pointer (some ⟨p, 0, none⟩)]) (hp : Arr w p 73 [v, .int .i64 f]) (older : List PanicEntry) :
    CallsD Try.prog 89 #[.pointer (some ⟨b, 0, none⟩)] (.panicking ({ v := .iface 25 (.int .i64 c), recovered := false } :: older)) w fun e u' w' =>
      e = .returned (.tuple #[]) ∧ u' = .panicking ({ v := .iface 25 (.int .i64 c), recovered := true } :: older) ∧ Arr w' p 73 [v, .int .i64 c] ∧ But p w w' := by
  have cb : w.cell? ⟨b, 0, none⟩ = some (.pointer (some ⟨p, 0, none⟩)) := by simpa using hb.cell 0
  have fz := hp.frozen 1
  have cp : w.cell? ⟨p, 1, none⟩ = some (.int .i64 f) := by simpa using hp.cell 1
  refine callsD_of_wpS Try.func89 rfl fun c₀ cs hu => ?_
  apply wpS_seq
  apply wpS_region
  simp [wpOpsS, go_sem, recoverD, hu, Try.ntmps89, Exit.thenS]
  refine wpS_of_wp ?_
  have ht : ∀ x y : Value, #[x] ++ ((Array.replicate 9 undef).setIfInBounds 1 y).setIfInBounds 0 y = #[x, y, y, undef, undef, undef, undef, undef, undef, undef] := fun _ _ => rfl
  rw [ht]
  have hta : ∀ w : World, (Instr.typeAssert (.iface 25 (.int .i64 c)) 20 25 false).run Try.prog w = .ok (.int .i64 c) w := fun _ => by kernel_rfl
  go_wp2
  go_region
  refine ⟨rfl, _, rfl, .tuple #[], ?_, rfl, rfl, ?_, ?_⟩
  · simp [results, Try.results89]
  · exact (hp.set 1 (.int .i64 c)).drewN 1
  · exact ((But.refl p w).setCell 1 _).drew

theorem idle_w (q : Addr) (w : World) :
    CallsD Try.prog 90 #[.pointer (some q)] .returning w fun e u' w' => e = .returned (.tuple #[]) ∧ u' = .returning ∧ w' = w := by
  refine callsD_of_wpS Try.func90 rfl fun c₀ cs hu => ?_
  apply wpS_seq
  apply wpS_region
  simp [wpOpsS, go_sem, recoverD, hu, Try.ntmps90, Exit.thenS]
  refine wpS_of_wp ?_
  have ht : ∀ x y : Value, #[x] ++ ((Array.replicate 9 undef).setIfInBounds 1 y).setIfInBounds 0 y = #[x, y, y, undef, undef, undef, undef, undef, undef, undef] := fun _ _ => rfl
  rw [ht]
  go_wp2
  cases c₀
  simp_all [bodyPostS, results, Try.results90]

theorem catch_w (b p : Nat) (v : Value) (f c : Int) (ty : TypeId) (w : World) (hb : Arr w b ty [.pointer (some ⟨p, 0, none⟩)]) (hp : Arr w p 73 [v, .int .i64 f]) (older : List PanicEntry) :
    CallsD Try.prog 90 #[.pointer (some ⟨b, 0, none⟩)] (.panicking ({ v := .iface 25 (.int .i64 c), recovered := false } :: older)) w fun e u' w' =>
      e = .returned (.tuple #[]) ∧ u' = .panicking ({ v := .iface 25 (.int .i64 c), recovered := true } :: older) ∧ Arr w' p 73 [v, .int .i64 c] ∧ But p w w' := by
  have cb : w.cell? ⟨b, 0, none⟩ = some (.pointer (some ⟨p, 0, none⟩)) := by simpa using hb.cell 0
  have fz := hp.frozen 1
  have cp : w.cell? ⟨p, 1, none⟩ = some (.int .i64 f) := by simpa using hp.cell 1
  refine callsD_of_wpS Try.func90 rfl fun c₀ cs hu => ?_
  apply wpS_seq
  apply wpS_region
  simp [wpOpsS, go_sem, recoverD, hu, Try.ntmps90, Exit.thenS]
  refine wpS_of_wp ?_
  have ht : ∀ x y : Value, #[x] ++ ((Array.replicate 9 undef).setIfInBounds 1 y).setIfInBounds 0 y = #[x, y, y, undef, undef, undef, undef, undef, undef, undef] := fun _ _ => rfl
  rw [ht]
  have hta : ∀ w : World, (Instr.typeAssert (.iface 25 (.int .i64 c)) 20 25 false).run Try.prog w = .ok (.int .i64 c) w := fun _ => by kernel_rfl
  go_wp2
  go_region
  refine ⟨rfl, _, rfl, .tuple #[], ?_, rfl, rfl, ?_, ?_⟩
  · simp [results, Try.results90]
  · exact (hp.set 1 (.int .i64 c)).drewN 1
  · exact ((But.refl p w).setCell 1 _).drew

theorem idle_t (q : Addr) (w : World) :
    CallsD Try.prog 93 #[.pointer (some q)] .returning w fun e u' w' => e = .returned (.tuple #[]) ∧ u' = .returning ∧ w' = w := by
  refine callsD_of_wpS Try.func93 rfl fun c₀ cs hu => ?_
  apply wpS_seq
  apply wpS_region
  simp [wpOpsS, go_sem, recoverD, hu, Try.ntmps93, Exit.thenS]
  refine wpS_of_wp ?_
  have ht : ∀ x y : Value, #[x] ++ ((Array.replicate 9 undef).setIfInBounds 1 y).setIfInBounds 0 y = #[x, y, y, undef, undef, undef, undef, undef, undef, undef] := fun _ _ => rfl
  rw [ht]
  go_wp2
  cases c₀
  simp_all [bodyPostS, results, Try.results93]

theorem catch_t (b p : Nat) (v : Value) (f c : Int) (ty : TypeId) (w : World) (hb : Arr w b ty [.pointer (some ⟨p, 0, none⟩)]) (hp : Arr w p 73 [v, .int .i64 f]) (older : List PanicEntry) :
    CallsD Try.prog 93 #[.pointer (some ⟨b, 0, none⟩)] (.panicking ({ v := .iface 25 (.int .i64 c), recovered := false } :: older)) w fun e u' w' =>
      e = .returned (.tuple #[]) ∧ u' = .panicking ({ v := .iface 25 (.int .i64 c), recovered := true } :: older) ∧ Arr w' p 73 [v, .int .i64 c] ∧ But p w w' := by
  have cb : w.cell? ⟨b, 0, none⟩ = some (.pointer (some ⟨p, 0, none⟩)) := by simpa using hb.cell 0
  have fz := hp.frozen 1
  have cp : w.cell? ⟨p, 1, none⟩ = some (.int .i64 f) := by simpa using hp.cell 1
  refine callsD_of_wpS Try.func93 rfl fun c₀ cs hu => ?_
  apply wpS_seq
  apply wpS_region
  simp [wpOpsS, go_sem, recoverD, hu, Try.ntmps93, Exit.thenS]
  refine wpS_of_wp ?_
  have ht : ∀ x y : Value, #[x] ++ ((Array.replicate 9 undef).setIfInBounds 1 y).setIfInBounds 0 y = #[x, y, y, undef, undef, undef, undef, undef, undef, undef] := fun _ _ => rfl
  rw [ht]
  have hta : ∀ w : World, (Instr.typeAssert (.iface 25 (.int .i64 c)) 20 25 false).run Try.prog w = .ok (.int .i64 c) w := fun _ => by kernel_rfl
  go_wp2
  go_region
  refine ⟨rfl, _, rfl, .tuple #[], ?_, rfl, rfl, ?_, ?_⟩
  · simp [results, Try.results93]
  · exact (hp.set 1 (.int .i64 c)).drewN 1
  · exact ((But.refl p w).setCell 1 _).drew

theorem idle_i (q : Addr) (w : World) :
    CallsD Try.prog 94 #[.pointer (some q)] .returning w fun e u' w' => e = .returned (.tuple #[]) ∧ u' = .returning ∧ w' = w := by
  refine callsD_of_wpS Try.func94 rfl fun c₀ cs hu => ?_
  apply wpS_seq
  apply wpS_region
  simp [wpOpsS, go_sem, recoverD, hu, Try.ntmps94, Exit.thenS]
  refine wpS_of_wp ?_
  have ht : ∀ x y : Value, #[x] ++ ((Array.replicate 9 undef).setIfInBounds 1 y).setIfInBounds 0 y = #[x, y, y, undef, undef, undef, undef, undef, undef, undef] := fun _ _ => rfl
  rw [ht]
  go_wp2
  cases c₀
  simp_all [bodyPostS, results, Try.results94]

theorem catch_i (b p : Nat) (v : Value) (f c : Int) (ty : TypeId) (w : World) (hb : Arr w b ty [.pointer (some ⟨p, 0, none⟩)]) (hp : Arr w p 73 [v, .int .i64 f]) (older : List PanicEntry) :
    CallsD Try.prog 94 #[.pointer (some ⟨b, 0, none⟩)] (.panicking ({ v := .iface 25 (.int .i64 c), recovered := false } :: older)) w fun e u' w' =>
      e = .returned (.tuple #[]) ∧ u' = .panicking ({ v := .iface 25 (.int .i64 c), recovered := true } :: older) ∧ Arr w' p 73 [v, .int .i64 c] ∧ But p w w' := by
  have cb : w.cell? ⟨b, 0, none⟩ = some (.pointer (some ⟨p, 0, none⟩)) := by simpa using hb.cell 0
  have fz := hp.frozen 1
  have cp : w.cell? ⟨p, 1, none⟩ = some (.int .i64 f) := by simpa using hp.cell 1
  refine callsD_of_wpS Try.func94 rfl fun c₀ cs hu => ?_
  apply wpS_seq
  apply wpS_region
  simp [wpOpsS, go_sem, recoverD, hu, Try.ntmps94, Exit.thenS]
  refine wpS_of_wp ?_
  have ht : ∀ x y : Value, #[x] ++ ((Array.replicate 9 undef).setIfInBounds 1 y).setIfInBounds 0 y = #[x, y, y, undef, undef, undef, undef, undef, undef, undef] := fun _ _ => rfl
  rw [ht]
  have hta : ∀ w : World, (Instr.typeAssert (.iface 25 (.int .i64 c)) 20 25 false).run Try.prog w = .ok (.int .i64 c) w := fun _ => by kernel_rfl
  go_wp2
  go_region
  refine ⟨rfl, _, rfl, .tuple #[], ?_, rfl, rfl, ?_, ?_⟩
  · simp [results, Try.results94]
  · exact (hp.set 1 (.int .i64 c)).drewN 1
  · exact ((But.refl p w).setCell 1 _).drew
end Go.Proofs.Ytiloacnjgaoceaa
