import Derived.Test.YtfedajifefldmaaGreatBkGsE
set_option linter.unusedSimpArgs false
namespace Go.Proofs.YtfedajifefldmaaGreat
open Go.RowKit

theorem part_cert {s : Nat → Kd} {N o : Nat} (ho : o + 99 ≤ N) (hs : ∀ i, i < 99 → s (o + i) = sCert i) : PartEq Tryz.prog 9999 s N 39 o 99 := by
  intro x y w hx hy
  have e : ∀ x : Nat → Int, (cl (fun i => s (o + i)) 99 (sft o x)) = cl sCert 99 (sft o x) := fun x => by
    unfold cl
    apply List.map_congr_left
    intro i hi
    show (s (o + i)).v _ = _
    rw [hs i (List.mem_range.1 hi)]
  have h1 := part_row (s := s) (N := N) Tryz.underlying39 rfl Tryz.szKCert ho x w
  have h2 := part_row (s := s) (N := N) Tryz.underlying39 rfl Tryz.szKCert ho y w
  rw [e] at h1 h2
  refine ⟨_, _, h1, h2, ?_⟩
  exact eq_struct (N := 99) (d := 9998) (ms := [1, 1, 1, 32, 64]) Tryz.underlying39 (by kernel_rfl)
    ⟨by decide, rfl, part_int (d := 9997) Tryz.underlying3 (by decide) rfl, by decide, rfl, part_int (d := 9997) Tryz.underlying3 (by decide) rfl, by decide, rfl, part_int (d := 9997) Tryz.underlying2 (by decide) rfl,
     by decide, rfl, part_bytes (d := 9996) Tryz.underlying37 Tryz.underlying5 Tryz.sz1e Tryz.szKHash (by decide) (fun i hi => by unfold sCert; rw [if_neg (by omega)]),
     by decide, rfl, part_bytes (d := 9996) Tryz.underlying32 Tryz.underlying5 Tryz.sz1e Tryz.szKSig (by decide) (fun i hi => by unfold sCert; rw [if_neg (by omega)]), trivial⟩ rfl _ _ w
    (fun i hi => by have := hx (o + i) (by omega); rw [hs i hi] at this; exact this) (fun i hi => by have := hy (o + i) (by omega); rw [hs i hi] at this; exact this)
theorem ag_self (n : Nat) (x : Nat → Int) : ag n x x = true := by unfold ag; simp
theorem eqTicket_any (x y : Nat → Int) (w : World) (hx : ∀ i, i < 132 → (sTicket i).ok (x i)) (hy : ∀ i, i < 132 → (sTicket i).ok (y i)) : (Op.equalIn 10000 60 (.agg (cl sTicket 132 x).toArray) (.agg (cl sTicket 132 y).toArray)).run Tryz.prog w = .ok (ag 132 x y) w :=
  eq_struct (d := 9999) (ms := [99, 1, 32]) Tryz.underlying60 (by kernel_rfl)
    ⟨by decide, rfl, part_cert (by decide) (fun i hi => by unfold sTicket; rw [if_pos (by omega), Nat.zero_add]), by decide, rfl, part_int (d := 9998) Tryz.underlying3 (by decide) rfl, by decide, rfl, part_bytes (d := 9997) Tryz.underlying37 Tryz.underlying5 Tryz.sz1e Tryz.szKHash (by decide) (fun i hi => by unfold sTicket; (repeat (first | rw [if_pos (by omega)] | rw [if_neg (by omega)]))), trivial⟩ rfl x y w hx hy
theorem eqEntry_any (x y : Nat → Int) (w : World) (hx : ∀ i, i < 262 → (sEntry i).ok (x i)) (hy : ∀ i, i < 262 → (sEntry i).ok (y i)) : (Op.equalIn 10000 65 (.agg (cl sEntry 262 x).toArray) (.agg (cl sEntry 262 y).toArray)).run Tryz.prog w = .ok (ag 262 x y) w :=
  eq_struct (d := 9999) (ms := [99, 1, 32, 1, 64, 1, 64]) Tryz.underlying65 (by kernel_rfl)
    ⟨by decide, rfl, part_cert (by decide) (fun i hi => by unfold sEntry; rw [if_pos (by omega), Nat.zero_add]), by decide, rfl, part_int (d := 9998) Tryz.underlying3 (by decide) rfl, by decide, rfl, part_bytes (d := 9997) Tryz.underlying37 Tryz.underlying5 Tryz.sz1e Tryz.szKHash (by decide) (fun i hi => by unfold sEntry; (repeat (first | rw [if_pos (by omega)] | rw [if_neg (by omega)]))), by decide, rfl, part_bool (d := 9998) Tryz.underlying4 (by decide) rfl, by decide, rfl, part_bytes (d := 9997) Tryz.underlying32 Tryz.underlying5 Tryz.sz1e Tryz.szKSig (by decide) (fun i hi => by unfold sEntry; (repeat (first | rw [if_pos (by omega)] | rw [if_neg (by omega)]))), by decide, rfl, part_bool (d := 9998) Tryz.underlying4 (by decide) rfl, by decide, rfl, part_bytes (d := 9997) Tryz.underlying32 Tryz.underlying5 Tryz.sz1e Tryz.szKSig (by decide) (fun i hi => by unfold sEntry; (repeat (first | rw [if_pos (by omega)] | rw [if_neg (by omega)]))), trivial⟩ rfl x y w hx hy
theorem eqFreeze_any (x y : Nat → Int) (w : World) (hx : ∀ i, i < 163 → (sFreeze i).ok (x i)) (hy : ∀ i, i < 163 → (sFreeze i).ok (y i)) : (Op.equalIn 10000 70 (.agg (cl sFreeze 163 x).toArray) (.agg (cl sFreeze 163 y).toArray)).run Tryz.prog w = .ok (ag 163 x y) w :=
  eq_struct (d := 9999) (ms := [99, 64]) Tryz.underlying70 (by kernel_rfl)
    ⟨by decide, rfl, part_cert (by decide) (fun i hi => by unfold sFreeze; rw [if_pos (by omega), Nat.zero_add]), by decide, rfl, part_bytes (d := 9997) Tryz.underlying32 Tryz.underlying5 Tryz.sz1e Tryz.szKSig (by decide) (fun i hi => by unfold sFreeze; (repeat (first | rw [if_pos (by omega)] | rw [if_neg (by omega)]))), trivial⟩ rfl x y w hx hy
theorem eqAck_any (x y : Nat → Int) (w : World) (hx : ∀ i, i < 99 → (sAck i).ok (x i)) (hy : ∀ i, i < 99 → (sAck i).ok (y i)) : (Op.equalIn 10000 75 (.agg (cl sAck 99 x).toArray) (.agg (cl sAck 99 y).toArray)).run Tryz.prog w = .ok (ag 99 x y) w :=
  eq_struct (d := 9999) (ms := [1, 1, 1, 32, 64]) Tryz.underlying75 (by kernel_rfl)
    ⟨by decide, rfl, part_int (d := 9998) Tryz.underlying3 (by decide) rfl, by decide, rfl, part_int (d := 9998) Tryz.underlying3 (by decide) rfl, by decide, rfl, part_int (d := 9998) Tryz.underlying3 (by decide) rfl, by decide, rfl, part_bytes (d := 9997) Tryz.underlying37 Tryz.underlying5 Tryz.sz1e Tryz.szKHash (by decide) (fun i hi => by unfold sAck; (repeat (first | rw [if_pos (by omega)] | rw [if_neg (by omega)]))), by decide, rfl, part_bytes (d := 9997) Tryz.underlying32 Tryz.underlying5 Tryz.sz1e Tryz.szKSig (by decide) (fun i hi => by unfold sAck; (repeat (first | rw [if_pos (by omega)] | rw [if_neg (by omega)]))), trivial⟩ rfl x y w hx hy
theorem eqRevocation_any (x y : Nat → Int) (w : World) (hx : ∀ i, i < 163 → (sRevocation i).ok (x i)) (hy : ∀ i, i < 163 → (sRevocation i).ok (y i)) : (Op.equalIn 10000 79 (.agg (cl sRevocation 163 x).toArray) (.agg (cl sRevocation 163 y).toArray)).run Tryz.prog w = .ok (ag 163 x y) w :=
  eq_struct (d := 9999) (ms := [99, 64]) Tryz.underlying79 (by kernel_rfl)
    ⟨by decide, rfl, part_cert (by decide) (fun i hi => by unfold sRevocation; rw [if_pos (by omega), Nat.zero_add]), by decide, rfl, part_bytes (d := 9997) Tryz.underlying32 Tryz.underlying5 Tryz.sz1e Tryz.szKSig (by decide) (fun i hi => by unfold sRevocation; (repeat (first | rw [if_pos (by omega)] | rw [if_neg (by omega)]))), trivial⟩ rfl x y w hx hy
theorem eqFloor_any (x y : Nat → Int) (w : World) (hx : ∀ i, i < 65 → (sFloor i).ok (x i)) (hy : ∀ i, i < 65 → (sFloor i).ok (y i)) : (Op.equalIn 10000 34 (.agg (cl sFloor 65 x).toArray) (.agg (cl sFloor 65 y).toArray)).run Tryz.prog w = .ok (ag 65 x y) w :=
  eq_struct (d := 9999) (ms := [1, 64]) Tryz.underlying34 (by kernel_rfl)
    ⟨by decide, rfl, part_int (d := 9998) Tryz.underlying3 (by decide) rfl, by decide, rfl, part_bytes (d := 9997) Tryz.underlying32 Tryz.underlying5 Tryz.sz1e Tryz.szKSig (by decide) (fun i hi => by unfold sFloor; (repeat (first | rw [if_pos (by omega)] | rw [if_neg (by omega)]))), trivial⟩ rfl x y w hx hy
theorem eqReceipt_any (x y : Nat → Int) (w : World) (hx : ∀ i, i < 67 → (sReceipt i).ok (x i)) (hy : ∀ i, i < 67 → (sReceipt i).ok (y i)) : (Op.equalIn 10000 86 (.agg (cl sReceipt 67 x).toArray) (.agg (cl sReceipt 67 y).toArray)).run Tryz.prog w = .ok (ag 67 x y) w :=
  eq_struct (d := 9999) (ms := [1, 1, 1, 64]) Tryz.underlying86 (by kernel_rfl)
    ⟨by decide, rfl, part_int (d := 9998) Tryz.underlying3 (by decide) rfl, by decide, rfl, part_int (d := 9998) Tryz.underlying3 (by decide) rfl, by decide, rfl, part_int (d := 9998) Tryz.underlying2 (by decide) rfl, by decide, rfl, part_bytes (d := 9997) Tryz.underlying32 Tryz.underlying5 Tryz.sz1e Tryz.szKSig (by decide) (fun i hi => by unfold sReceipt; (repeat (first | rw [if_pos (by omega)] | rw [if_neg (by omega)]))), trivial⟩ rfl x y w hx hy
theorem eqOrder_any (x y : Nat → Int) (w : World) (hx : ∀ i, i < 34 → (sOrder i).ok (x i)) (hy : ∀ i, i < 34 → (sOrder i).ok (y i)) : (Op.equalIn 10000 91 (.agg (cl sOrder 34 x).toArray) (.agg (cl sOrder 34 y).toArray)).run Tryz.prog w = .ok (ag 34 x y) w :=
  eq_struct (d := 9999) (ms := [1, 1, 32]) Tryz.underlying91 (by kernel_rfl)
    ⟨by decide, rfl, part_int (d := 9998) Tryz.underlying3 (by decide) rfl, by decide, rfl, part_int (d := 9998) Tryz.underlying2 (by decide) rfl, by decide, rfl, part_bytes (d := 9997) Tryz.underlying37 Tryz.underlying5 Tryz.sz1e Tryz.szKHash (by decide) (fun i hi => by unfold sOrder; (repeat (first | rw [if_pos (by omega)] | rw [if_neg (by omega)]))), trivial⟩ rfl x y w hx hy
theorem eqHead_any (x y : Nat → Int) (w : World) (hx : ∀ i, i < 97 → (sHead i).ok (x i)) (hy : ∀ i, i < 97 → (sHead i).ok (y i)) : (Op.equalIn 10000 96 (.agg (cl sHead 97 x).toArray) (.agg (cl sHead 97 y).toArray)).run Tryz.prog w = .ok (ag 97 x y) w :=
  eq_struct (d := 9999) (ms := [1, 32, 64]) Tryz.underlying96 (by kernel_rfl)
    ⟨by decide, rfl, part_int (d := 9998) Tryz.underlying3 (by decide) rfl, by decide, rfl, part_bytes (d := 9997) Tryz.underlying37 Tryz.underlying5 Tryz.sz1e Tryz.szKHash (by decide) (fun i hi => by unfold sHead; (repeat (first | rw [if_pos (by omega)] | rw [if_neg (by omega)]))), by decide, rfl, part_bytes (d := 9997) Tryz.underlying32 Tryz.underlying5 Tryz.sz1e Tryz.szKSig (by decide) (fun i hi => by unfold sHead; (repeat (first | rw [if_pos (by omega)] | rw [if_neg (by omega)]))), trivial⟩ rfl x y w hx hy
end Go.Proofs.YtfedajifefldmaaGreat
