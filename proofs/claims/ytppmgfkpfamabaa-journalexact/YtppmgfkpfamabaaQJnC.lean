import Derived.Test.YtppmgfkpfamabaaQGaxZ
import Derived.Deep.RegionHeld3
set_option maxHeartbeats 1000000
set_option maxRecDepth 100000
set_option linter.unusedVariables false
namespace Go.Proofs.Ytppmgfkpfamabaa
open Go.RowKit
structure JS where
  bank : Int
  ep : Nat
  cnt : Nat
def jv (p : Nat) : Option JS → List Value
  | none => [.nilIface, .int .i64 0, .int .u64 0, .int .i64 0]
  | some j => [dev p, .int .i64 j.bank, .int .u64 j.ep, .int .i64 j.cnt]
def Jn (w : World) (jp p : Nat) (o : Option JS) : Prop := Arr w jp 99 (jv p o)
theorem eq_dev (p : Nat) (w : World) : (binOp .eql 97 (dev p) .nilIface).run Try.prog w = .ok (.bool false) w := by kernel_rfl
theorem eq_nil (w : World) : (binOp .eql 97 .nilIface .nilIface).run Try.prog w = .ok (.bool true) w := by kernel_rfl
theorem dead_no (jp p : Nat) (j : JS) (w : World) (h : Jn w jp p (some j)) :
    Calls Try.prog 47 #[.pointer (some ⟨jp, 0, none⟩)] w fun e w' => e = .returned (.bool false) ∧ w' = w := by
  have c0 : w.cell? ⟨jp, 0, none⟩ = some (dev p) := by simpa [jv] using h.cell 0
  have he := eq_dev p
  clear h
  unfold dev at c0 he
  go_enter Try.func47, Try.ntmps47
  go_wp2
  go_ret
  exact ⟨rfl, rfl⟩
theorem dead_yes (jp p : Nat) (w : World) (h : Jn w jp p none) :
    Calls Try.prog 47 #[.pointer (some ⟨jp, 0, none⟩)] w fun e w' => e = .returned (.bool true) ∧ w' = w := by
  have c0 : w.cell? ⟨jp, 0, none⟩ = some .nilIface := by simpa [jv] using h.cell 0
  have he := eq_nil
  clear h
  go_enter Try.func47, Try.ntmps47
  go_wp2
  go_ret
  exact ⟨rfl, rfl⟩
theorem die_any (jp p : Nat) (o : Option JS) (r : Int) (w : World) (h : Jn w jp p o) :
    Calls Try.prog 65 #[.pointer (some ⟨jp, 0, none⟩), .int .i64 r] w fun e w' => e = .returned (.int .i64 r) ∧ Jn w' jp p none ∧ Buts (· = jp) w w' := by
  have hl : ∃ a b c d, jv p o = [a, b, c, d] := by cases o <;> exact ⟨_, _, _, _, rfl⟩
  obtain ⟨a, b, c, d, hl⟩ := hl
  unfold Jn at h
  rw [hl] at h
  clear hl
  have f0 := h.frozen 0
  have f1 := h.frozen 1
  have f2 := h.frozen 2
  have f3 := h.frozen 3
  have c0 : w.cell? ⟨jp, 0, none⟩ = some a := by simpa using h.cell 0
  have c1 : w.cell? ⟨jp, 1, none⟩ = some b := by simpa using h.cell 1
  have c2 : w.cell? ⟨jp, 2, none⟩ = some c := by simpa using h.cell 2
  have c3 : w.cell? ⟨jp, 3, none⟩ = some d := by simpa using h.cell 3
  have HH := hide h
  clear h
  go_enter Try.func65, Try.ntmps65
  go_wp2
  go_ret
  exact ⟨rfl, ((((unhide HH).set 0 _).set 1 _).set 2 _).set 3 _, ((((Buts.refl (· = jp) w).setCell (g := jp) rfl 0 _).setCell (g := jp) rfl 1 _).setCell (g := jp) rfl 2 _).setCell (g := jp) rfl 3 _⟩
theorem jepoch_any (jp p : Nat) (j : JS) (w : World) (h : Jn w jp p (some j)) (he : j.ep ≤ 9223372036854775807) :
    Calls Try.prog 24 #[.pointer (some ⟨jp, 0, none⟩)] w fun e w' => e = .returned (.int .i64 j.ep) ∧ w' = w := by
  have hD := dead_no jp p j w h
  have c2 : w.cell? ⟨jp, 2, none⟩ = some (.int .u64 j.ep) := by simpa [jv] using h.cell 2
  obtain ⟨jb, je, jc⟩ := j
  simp only at he c2 hD ⊢
  clear h
  go_enter Try.func24, Try.ntmps24
  go_wp2_with (go_at_call 47; refine hD.mono ?_; rintro e w1 ⟨rfl, rfl⟩; clear hD)
  go_ret
  exact ⟨rfl, rfl⟩
theorem jepoch_dead (jp p : Nat) (w : World) (h : Jn w jp p none) :
    Calls Try.prog 24 #[.pointer (some ⟨jp, 0, none⟩)] w fun e w' => e = .returned (.int .i64 0) ∧ w' = w := by
  have hD := dead_yes jp p w h
  clear h
  go_enter Try.func24, Try.ntmps24
  go_wp2_with (go_at_call 47; refine hD.mono ?_; rintro e w1 ⟨rfl, rfl⟩; clear hD)
  go_ret
  exact ⟨rfl, rfl⟩
theorem jcount_any (jp p : Nat) (j : JS) (w : World) (h : Jn w jp p (some j)) :
    Calls Try.prog 25 #[.pointer (some ⟨jp, 0, none⟩)] w fun e w' => e = .returned (.int .i64 j.cnt) ∧ w' = w := by
  have hD := dead_no jp p j w h
  have c3 : w.cell? ⟨jp, 3, none⟩ = some (.int .i64 j.cnt) := by simpa [jv] using h.cell 3
  obtain ⟨jb, je, jc⟩ := j
  simp only at c3 hD ⊢
  clear h
  go_enter Try.func25, Try.ntmps25
  go_wp2_with (go_at_call 47; refine hD.mono ?_; rintro e w1 ⟨rfl, rfl⟩; clear hD)
  go_ret
  exact ⟨rfl, rfl⟩
theorem jcount_dead (jp p : Nat) (w : World) (h : Jn w jp p none) :
    Calls Try.prog 25 #[.pointer (some ⟨jp, 0, none⟩)] w fun e w' => e = .returned (.int .i64 0) ∧ w' = w := by
  have hD := dead_yes jp p w h
  clear h
  go_enter Try.func25, Try.ntmps25
  go_wp2_with (go_at_call 47; refine hD.mono ?_; rintro e w1 ⟨rfl, rfl⟩; clear hD)
  go_ret
  exact ⟨rfl, rfl⟩
theorem jroom_dead (jp p : Nat) (w : World) (h : Jn w jp p none) :
    Calls Try.prog 23 #[.pointer (some ⟨jp, 0, none⟩)] w fun e w' => e = .returned (.int .i64 0) ∧ w' = w := by
  have hD := dead_yes jp p w h
  clear h
  go_enter Try.func23, Try.ntmps23
  go_wp2_with (go_at_call 47; refine hD.mono ?_; rintro e w1 ⟨rfl, rfl⟩; clear hD)
  go_ret
  exact ⟨rfl, rfl⟩
theorem jroom_any (jp p : Nat) (S : Nat → Prop) (s : FlS) (j : JS) (w : World) (h : Jn w jp p (some j)) (hf : Fl w p S s) :
    Calls Try.prog 23 #[.pointer (some ⟨jp, 0, none⟩)] w fun e w' => e = .returned (.int .i64 (s.room j.bank)) ∧ ∃ k, w' = w.drewN k := by
  have hD := dead_no jp p j w h
  have c0 : w.cell? ⟨jp, 0, none⟩ = some (dev p) := by simpa [jv] using h.cell 0
  have c1 : w.cell? ⟨jp, 1, none⟩ = some (.int .i64 j.bank) := by simpa [jv] using h.cell 1
  obtain ⟨jb, je, jc⟩ := j
  simp only at c1 hD ⊢
  unfold dev at c0
  have hm := Try.mRoo
  have HR : Hid (∀ k, Calls Try.prog 109 #[.pointer (some ⟨p, 0, none⟩), .int .i64 jb] (w.drewN k) fun e w' => e = .returned (.tuple #[.int .i64 (s.room jb), .int .i64 (s.ref jb)]) ∧ ∃ k, w' = w.drewN k) := hide (fun k => (roomX_any p S s jb (w.drewN k) (hf.drewN k)).mono (fun e w' ⟨h1, i, h2⟩ => ⟨h1, k + i, h2.trans (World.drewN_drewN _ _ _)⟩))
  clear h hf
  go_enter Try.func23, Try.ntmps23
  go_wp2_with (go_at_call 47; refine hD.mono ?_; rintro e w1 ⟨rfl, rfl⟩; clear hD)
  go_region_held3 (fun w' => w'.cell? ⟨jp, 0, none⟩ = some (.iface 24 (.pointer (some ⟨p, 0, none⟩))) ∧ w'.cell? ⟨jp, 1, none⟩ = some (.int .i64 jb)) (go_keep) (first | (go_at_call 109; refine (unhide HR 1).mono ?_; rintro e w2 ⟨rfl, k, rfl⟩))
  go_wp2
  go_ret
  exact ⟨rfl, k, rfl⟩
end Go.Proofs.Ytppmgfkpfamabaa
