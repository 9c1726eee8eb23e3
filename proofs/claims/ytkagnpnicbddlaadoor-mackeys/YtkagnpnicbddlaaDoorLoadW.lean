import Derived.Test.YtkagnpnicbddlaaDoorProg
import Derived.Test.YtkagnpnicbddlaaDoorVal
import Derived.Test.YtkagnpnicbddlaaDoorRotW
namespace Go.Proofs.YtkagnpnicbddlaaDoor
open Go.RowKit

theorem val_int {k : IntKind} {a b : Int} (h : a = b) : Value.int k a = Value.int k b := by rw [h]

set_option maxHeartbeats 1000000 in
set_option maxRecDepth 100000 in
theorem piece_ok (b off len cap at_ n : Nat) (w : World) (h1 : at_ + n ≤ len) (h2 : len ≤ cap) (h3 : cap ≤ maxLen) (h0 : 0 < n) :
    Calls Tryd.prog 75 #[.slice (some ⟨b, off, none⟩) len cap, .int .i64 at_, .int .i64 n] w fun e w' => e = .returned (.tuple #[.slice (some ⟨b, off + at_, none⟩) n (cap - at_), .bool true]) ∧ w' = w := by
  unfold maxLen at h3
  have t1 : ¬ ((at_ : Int) < 0) := by omega
  have t1' : decide ((at_ : Int) < 0) = false := by simp
  have t2 : ¬ ((len : Int) - (n : Int) < (at_ : Int)) := by omega
  go_enter Tryd.func75, Tryd.ntmps75
  go_wp2
  go_ret2
  exact ⟨rfl, rfl⟩

set_option maxHeartbeats 1000000 in
set_option maxRecDepth 100000 in
theorem piece_no (a : Option Addr) (len cap : Nat) (at_ n : Int) (w : World) (h : at_ < 0 ∨ (len : Int) - n < at_) (h3 : len ≤ maxLen) (h0 : 0 ≤ n) (h4 : n ≤ 8) :
    Calls Tryd.prog 75 #[.slice a len cap, .int .i64 at_, .int .i64 n] w fun e w' => e = .returned (.tuple #[.slice none 0 0, .bool false]) ∧ w' = w := by
  unfold maxLen at h3
  by_cases t1 : at_ < 0
  · have t1' : decide (at_ < 0) = true := by simpa using t1
    clear h
    go_enter Tryd.func75, Tryd.ntmps75
    go_wp2
    go_ret2
    exact ⟨rfl, rfl⟩
  · have t1' : decide (at_ < 0) = false := by simpa using t1
    have t2 : (len : Int) - n < at_ := by omega
    clear h
    go_enter Tryd.func75, Tryd.ntmps75
    go_wp2
    go_ret2
    exact ⟨rfl, rfl⟩

theorem or_u64 : ∀ a b : Int, 0 ≤ a → a < 18446744073709551616 → 0 ≤ b → b < 18446744073709551616 → bits .or .u64 a b = ((a.toNat ||| b.toNat : Nat) : Int) := fun a b h1 h2 h3 h4 => u64_or a b h1 h2 h3 h4

set_option maxHeartbeats 1000000 in
set_option maxRecDepth 100000 in
theorem loadbe64_ok (b off len cap at_ : Nat) (l : List Int) (w : World) (hl : l.length = len) (hB : IsB l) (hlies : Lies w (some ⟨b, off, none⟩) l) (h1 : at_ + 8 ≤ len) (h2 : len ≤ cap) (h3 : cap ≤ maxLen) :
    Calls Tryd.prog 69 #[.slice (some ⟨b, off, none⟩) len cap, .int .i64 at_] w fun e w' => e = .returned (.tuple #[.int .u64 (leV ((l.drop at_).take 8).reverse), .bool true]) ∧ w' = w := by
  have hp : ((l.drop at_).take 8).length = 8 := by simp; omega
  have hpB : IsB ((l.drop at_).take 8) := (hB.drop _).take _
  have hpl : Lies w (some ⟨b, off + at_, none⟩) ((l.drop at_).take 8) := hlies.sub at_ 8 (by omega)
  have hpc : ∀ i, i < 8 → w.cell? ⟨b, off + at_ + i, none⟩ = some (.int .u8 (((l.drop at_).take 8).getD i 0)) := by
    obtain ⟨b', off', he, _, hc⟩ := hpl (by omega)
    simp at he; obtain ⟨rfl, rfl⟩ := he
    intro i hi; exact hc i (by omega)
  generalize (l.drop at_).take 8 = p at hp hpB hpc
  have HP : Hid (p.length = 8) := hp
  clear hpl hlies hB hl hp
  go_enter Tryd.func69, Tryd.ntmps69
  go_wp2_with (go_at_call 55; refine (size64_any _).mono ?_; rintro e w' ⟨rfl, rfl⟩)
  refine (piece_ok b off len cap at_ 8 _ h1 h2 h3 (by omega)).mono ?_
  rintro e w' ⟨rfl, rfl⟩
  go_wp2
  go_loop [8, 20] (fun x i => ∃ k : Nat, k ≤ 8 ∧ i = .int .i64 k ∧ x = .int .u64 (leV (p.take k).reverse)) (fun _ i => 8 - (intOf i).toNat)
  case atStart => exact ⟨0, by omega, rfl, by simp [leV]⟩
  case round =>
    obtain ⟨k, hk, rfl, rfl⟩ := hrel
    by_cases hlt : k < 8
    · have hc := hpc k hlt
      have hb := hpB.at k
      have hb0 := hb.1
      have hb1 := hb.2
      have hcode := be_code .u64 64 18446744073709551616 (by decide) or_u64 p k hpB (by rw [HP.out]; omega) (by rw [HP.out]; decide)
      clear hpc
      generalize p.getD k 0 = c at hc hb hb0 hb1 hcode
      have HC := hide hcode
      clear hcode hb
      go_wp2
      go_roundw
      case rel => exact ⟨k + 1, by omega, by go_num, val_int (by have := HC.out; rw [IntKind.wrap_u64]; exact this)⟩
      case measure => simp [intOf]; omega
    · go_wp2
      go_ret2
      have : k = 8 := by omega
      subst this
      rw [List.take_of_length_le (by rw [HP.out]; omega)]
      exact ⟨rfl, rfl⟩

set_option maxHeartbeats 1000000 in
set_option maxRecDepth 100000 in
theorem loadbe64_no (a : Option Addr) (len cap : Nat) (at_ : Int) (w : World) (h : at_ < 0 ∨ (len : Int) - 8 < at_) (h3 : len ≤ maxLen) :
    Calls Tryd.prog 69 #[.slice a len cap, .int .i64 at_] w fun e w' => e = .returned (.tuple #[.int .u64 0, .bool false]) ∧ w' = w := by
  have H := hide h
  clear h
  go_enter Tryd.func69, Tryd.ntmps69
  go_wp2_with (go_at_call 55; refine (size64_any _).mono ?_; rintro e w' ⟨rfl, rfl⟩)
  refine (piece_no a len cap at_ 8 _ (unhide H) h3 (by omega) (by omega)).mono ?_
  rintro e w' ⟨rfl, rfl⟩
  go_wp2
  refine wp_loop_rounds 1 ?_
  rw [rounds_succ]
  go_wp2
  go_ret2
  exact ⟨rfl, rfl⟩

theorem or_u32 : ∀ a b : Int, 0 ≤ a → a < 4294967296 → 0 ≤ b → b < 4294967296 → bits .or .u32 a b = ((a.toNat ||| b.toNat : Nat) : Int) := fun a b h1 h2 h3 h4 => u32_or a b h1 h2 h3 h4

set_option maxHeartbeats 1000000 in
set_option maxRecDepth 100000 in
theorem loadbe32_ok (b off len cap at_ : Nat) (l : List Int) (w : World) (hl : l.length = len) (hB : IsB l) (hlies : Lies w (some ⟨b, off, none⟩) l) (h1 : at_ + 4 ≤ len) (h2 : len ≤ cap) (h3 : cap ≤ maxLen) :
    Calls Tryd.prog 64 #[.slice (some ⟨b, off, none⟩) len cap, .int .i64 at_] w fun e w' => e = .returned (.tuple #[.int .u32 (leV ((l.drop at_).take 4).reverse), .bool true]) ∧ w' = w := by
  have hp : ((l.drop at_).take 4).length = 4 := by simp; omega
  have hpB : IsB ((l.drop at_).take 4) := (hB.drop _).take _
  have hpl : Lies w (some ⟨b, off + at_, none⟩) ((l.drop at_).take 4) := hlies.sub at_ 4 (by omega)
  have hpc : ∀ i, i < 4 → w.cell? ⟨b, off + at_ + i, none⟩ = some (.int .u8 (((l.drop at_).take 4).getD i 0)) := by
    obtain ⟨b', off', he, _, hc⟩ := hpl (by omega)
    simp at he; obtain ⟨rfl, rfl⟩ := he
    intro i hi; exact hc i (by omega)
  generalize (l.drop at_).take 4 = p at hp hpB hpc
  have HP : Hid (p.length = 4) := hp
  clear hpl hlies hB hl hp
  go_enter Tryd.func64, Tryd.ntmps64
  go_wp2_with (go_at_call 68; refine (size32_any _).mono ?_; rintro e w' ⟨rfl, rfl⟩)
  refine (piece_ok b off len cap at_ 4 _ h1 h2 h3 (by omega)).mono ?_
  rintro e w' ⟨rfl, rfl⟩
  go_wp2
  go_loop [8, 20] (fun x i => ∃ k : Nat, k ≤ 4 ∧ i = .int .i64 k ∧ x = .int .u32 (leV (p.take k).reverse)) (fun _ i => 4 - (intOf i).toNat)
  case atStart => exact ⟨0, by omega, rfl, by simp [leV]⟩
  case round =>
    obtain ⟨k, hk, rfl, rfl⟩ := hrel
    by_cases hlt : k < 4
    · have hc := hpc k hlt
      have hb := hpB.at k
      have hb0 := hb.1
      have hb1 := hb.2
      have hcode := be_code .u32 32 4294967296 (by decide) or_u32 p k hpB (by rw [HP.out]; omega) (by rw [HP.out]; decide)
      clear hpc
      generalize p.getD k 0 = c at hc hb hb0 hb1 hcode
      have HC := hide hcode
      clear hcode hb
      go_wp2
      go_roundw
      case rel => exact ⟨k + 1, by omega, by go_num, val_int (by have := HC.out; exact this)⟩
      case measure => simp [intOf]; omega
    · go_wp2
      go_ret2
      have : k = 4 := by omega
      subst this
      rw [List.take_of_length_le (by rw [HP.out]; omega)]
      exact ⟨rfl, rfl⟩

set_option maxHeartbeats 1000000 in
set_option maxRecDepth 100000 in
theorem loadbe32_no (a : Option Addr) (len cap : Nat) (at_ : Int) (w : World) (h : at_ < 0 ∨ (len : Int) - 4 < at_) (h3 : len ≤ maxLen) :
    Calls Tryd.prog 64 #[.slice a len cap, .int .i64 at_] w fun e w' => e = .returned (.tuple #[.int .u32 0, .bool false]) ∧ w' = w := by
  have H := hide h
  clear h
  go_enter Tryd.func64, Tryd.ntmps64
  go_wp2_with (go_at_call 68; refine (size32_any _).mono ?_; rintro e w' ⟨rfl, rfl⟩)
  refine (piece_no a len cap at_ 4 _ (unhide H) h3 (by omega) (by omega)).mono ?_
  rintro e w' ⟨rfl, rfl⟩
  go_wp2
  refine wp_loop_rounds 1 ?_
  rw [rounds_succ]
  go_wp2
  go_ret2
  exact ⟨rfl, rfl⟩

end Go.Proofs.YtkagnpnicbddlaaDoor
