import Derived.Test.YtcdmomdajakocaaFlB
import Derived.Deep.RegionHeld3
namespace Go.Proofs.Ytcdmomdajakocaa
open Go.RowKit

theorem ok_drewN {w : World} {d : Sl} (h : d.Ok w) (k : Nat) : d.Ok (w.drewN k) := h.later (below_drewN (Below.refl _ _) k)
theorem below_undrewN {w w' : World} {k : Nat} (h : Below (w.drewN k).heap.size (w.drewN k) w') : Below w.heap.size w w' := ⟨h.os, h.tape, h.output, h.size, h.block⟩
theorem BPost.undrewN {l : List Int} {w w' : World} {e : Ending} {k : Nat} (h : BPost l (w.drewN k) e w') : BPost l w e w' := by
  obtain ⟨v, h1, h2, h3, h4⟩ := h
  exact ⟨v, h1, h2, h3, below_undrewN h4⟩

set_option maxHeartbeats 1000000 in
set_option maxRecDepth 100000 in
theorem room_0 (p : Nat) (S : Nat → Prop) (s : FlS) (w : World) (h : Fl w p S s) :
    Calls Try.prog 35 #[.pointer (some ⟨p, 0, none⟩), .int .i64 0] w fun e w' => e = .returned (.int .i64 (s.size - s.l0.length)) ∧ ∃ k, w' = w.drewN k := by
  obtain ⟨v0, v1, qv, hf, rfl⟩ := h
  obtain ⟨a0, b0, rfl⟩ := own_parts hf.o0
  obtain ⟨c0, c1, -, -, -, -⟩ := hf.cs
  have z0 := hf.ok.z0
  have mx := hf.ok.mx
  have e0 : (s.size : Int) - s.l0.length ≤ 9223372036854775807 := by omega
  clear hf
  go_enter Try.func35, Try.ntmps35
  go_wp2_with fail
  go_quiet (fail)
  go_wp2
  go_ret
  exact ⟨rfl, _, rfl⟩
set_option maxHeartbeats 1000000 in
set_option maxRecDepth 100000 in
theorem told_0 (p : Nat) (S : Nat → Prop) (s : FlS) (w : World) (h : Fl w p S s) :
    Calls Try.prog 33 #[.pointer (some ⟨p, 0, none⟩), .int .i64 0] w (BPost s.l0 w) := by
  obtain ⟨v0, v1, qv, hf, rfl⟩ := h
  obtain ⟨d, hd, hdo, hdl, hdn, -⟩ := OwB.sl ⟨hf.o0, hf.ok.b0⟩
  subst hd
  obtain ⟨c0, c1, -, -, -, -⟩ := hf.cs
  have HB : Hid (∀ k, Calls Try.prog 11 #[.slice d.a d.n d.c, .int .i64 s.size] (w.drewN k) (BPost s.l0 w)) := hide (fun k => by
    have hB := beginning_any d s.size (w.drewN k) (ok_drewN hdo k) hf.ok.mx
    rw [hdl, List.take_of_length_le hf.ok.z0] at hB
    exact hB.mono (fun e w' h => h.undrewN))
  have HA := hide hf.arr
  clear hf hdo hdl hdn
  simp only [Sl.v] at *
  go_enter Try.func33, Try.ntmps33
  go_wp2_with fail
  go_region_held3 (fun w' => w'.cell? ⟨p, 0, none⟩ = some (.int .i64 s.size) ∧ w'.cell? ⟨p, 1, none⟩ = some (.slice d.a d.n d.c)) (go_keep) (first | (go_at_call 11; refine (unhide HB 1).mono ?_; rintro e w1 ⟨v, rfl, h1, h2, h3⟩; have A1 := (unhide HA).later h3; have c0' : w1.cell? ⟨p, 0, none⟩ = some (.int .i64 s.size) := (by simpa using A1.cell 0); have c1' : w1.cell? ⟨p, 1, none⟩ = some (.slice d.a d.n d.c) := (by simpa using A1.cell 1)))
  go_wp2
  go_ret
  exact ⟨v, rfl, h1, h2, h3⟩

set_option maxHeartbeats 1000000 in
set_option maxRecDepth 100000 in
theorem room_1 (p : Nat) (S : Nat → Prop) (s : FlS) (w : World) (h : Fl w p S s) :
    Calls Try.prog 35 #[.pointer (some ⟨p, 0, none⟩), .int .i64 1] w fun e w' => e = .returned (.int .i64 (s.size - s.l1.length)) ∧ ∃ k, w' = w.drewN k := by
  obtain ⟨v0, v1, qv, hf, rfl⟩ := h
  obtain ⟨a0, b0, rfl⟩ := own_parts hf.o1
  obtain ⟨c0, -, c1, -, -, -⟩ := hf.cs
  have z0 := hf.ok.z1
  have mx := hf.ok.mx
  have e0 : (s.size : Int) - s.l1.length ≤ 9223372036854775807 := by omega
  clear hf
  go_enter Try.func35, Try.ntmps35
  go_wp2_with fail
  go_quiet (fail)
  go_wp2
  go_ret
  exact ⟨rfl, _, rfl⟩
set_option maxHeartbeats 1000000 in
set_option maxRecDepth 100000 in
theorem told_1 (p : Nat) (S : Nat → Prop) (s : FlS) (w : World) (h : Fl w p S s) :
    Calls Try.prog 33 #[.pointer (some ⟨p, 0, none⟩), .int .i64 1] w (BPost s.l1 w) := by
  obtain ⟨v0, v1, qv, hf, rfl⟩ := h
  obtain ⟨d, hd, hdo, hdl, hdn, -⟩ := OwB.sl ⟨hf.o1, hf.ok.b1⟩
  subst hd
  obtain ⟨c0, -, c1, -, -, -⟩ := hf.cs
  have HB : Hid (∀ k, Calls Try.prog 11 #[.slice d.a d.n d.c, .int .i64 s.size] (w.drewN k) (BPost s.l1 w)) := hide (fun k => by
    have hB := beginning_any d s.size (w.drewN k) (ok_drewN hdo k) hf.ok.mx
    rw [hdl, List.take_of_length_le hf.ok.z1] at hB
    exact hB.mono (fun e w' h => h.undrewN))
  have HA := hide hf.arr
  clear hf hdo hdl hdn
  simp only [Sl.v] at *
  go_enter Try.func33, Try.ntmps33
  go_wp2_with fail
  go_region_held3 (fun w' => w'.cell? ⟨p, 0, none⟩ = some (.int .i64 s.size) ∧ w'.cell? ⟨p, 2, none⟩ = some (.slice d.a d.n d.c)) (go_keep) (first | (go_at_call 11; refine (unhide HB 1).mono ?_; rintro e w1 ⟨v, rfl, h1, h2, h3⟩; have A1 := (unhide HA).later h3; have c0' : w1.cell? ⟨p, 0, none⟩ = some (.int .i64 s.size) := (by simpa using A1.cell 0); have c1' : w1.cell? ⟨p, 2, none⟩ = some (.slice d.a d.n d.c) := (by simpa using A1.cell 2)))
  go_wp2
  go_ret
  exact ⟨v, rfl, h1, h2, h3⟩
end Go.Proofs.Ytcdmomdajakocaa
