import Derived.Test.YtipmgnigejpfjaaRefLoadX
namespace Go.Proofs.Ytipmgnigejpfjaa
open Go.RowKit

def ldOk (l : List Int) (at_ : Int) (N : Nat) : Bool := decide (0 ≤ at_ ∧ at_ + N ≤ l.length)
def ldBE (l : List Int) (at_ : Int) (N : Nat) : Int := if ldOk l at_ N = true then leV ((l.drop at_.toNat).take N).reverse else 0
def ldLE (l : List Int) (at_ : Int) (N : Nat) : Int := if ldOk l at_ N = true then leV ((l.drop at_.toNat).take N) else 0
theorem ldBE_bd (l : List Int) (at_ : Int) (N : Nat) (h : IsB l) : 0 ≤ ldBE l at_ N ∧ ldBE l at_ N < 2 ^ (8 * N) := by
  unfold ldBE; split
  · have h1 := leV_bd _ ((h.drop at_.toNat).take N).reverse
    have h2 := pow_mono8 (((l.drop at_.toNat).take N).reverse).length N (by simp; omega)
    omega
  · exact ⟨Int.le_refl _, Int.pow_pos (by decide)⟩
theorem ldLE_bd (l : List Int) (at_ : Int) (N : Nat) (h : IsB l) : 0 ≤ ldLE l at_ N ∧ ldLE l at_ N < 2 ^ (8 * N) := by
  unfold ldLE; split
  · have h1 := leV_bd _ ((h.drop at_.toNat).take N)
    have h2 := pow_mono8 ((l.drop at_.toNat).take N).length N (by simp; omega)
    omega
  · exact ⟨Int.le_refl _, Int.pow_pos (by decide)⟩

theorem loadbe32_u (s : Sl) (at_ : Int) (w : World) (hs : s.Ok w) :
    Calls Try.prog 24 #[s.v, .int .i64 at_] w fun e w' => e = .returned (.tuple #[.int .u32 (ldBE s.l at_ 4), .bool (ldOk s.l at_ 4)]) ∧ w' = w := by
  have hl := hs.len
  by_cases h : 0 ≤ at_ ∧ at_ + (4 : Nat) ≤ s.l.length
  · have ho : ldOk s.l at_ 4 = true := by unfold ldOk; simpa using h
    obtain ⟨n, rfl⟩ := Int.eq_ofNat_of_zero_le h.1
    obtain ⟨b, off, ha⟩ := hs.split (by omega)
    obtain ⟨a, len, c, l⟩ := s
    simp only at ha ho hl h; subst ha
    have := loadbe32_ok b off len c n l w hs.len hs.isB hs.lies (by omega) hs.le hs.mx
    simp only [ldBE, ho, if_true, Int.toNat_natCast]; exact this
  · have ho : ldOk s.l at_ 4 = false := by unfold ldOk; simpa using h
    have := loadbe32_no s.a s.n s.c at_ w (by omega) (Nat.le_trans hs.le hs.mx)
    simp only [ldBE, ho]; exact this

theorem refload_be_u32 (s : Sl) (at_ : Int) (w : World) (hs : s.Ok w) (hat : at_ ≤ 9223372036854775807) :
    Calls Try.prog 54 #[s.v, .int .i64 at_, .int .i64 4, .bool true] w fun e w' => e = .returned (.tuple #[.int .u64 (ldBE s.l at_ 4), .bool (ldOk s.l at_ 4)]) ∧ w' = w := by
  have hl := hs.len
  by_cases h : 0 ≤ at_ ∧ at_ + (4 : Nat) ≤ s.l.length
  · have ho : ldOk s.l at_ 4 = true := by unfold ldOk; simpa using h
    obtain ⟨n, rfl⟩ := Int.eq_ofNat_of_zero_le h.1
    have := refload_be s n 4 w hs (by omega) (by omega) (by omega)
    simp only [ldBE, ho, if_true, Int.toNat_natCast]; exact this
  · have ho : ldOk s.l at_ 4 = false := by unfold ldOk; simpa using h
    have := refload_no s.a s.n s.c at_ 4 true w (by omega) (Nat.le_trans hs.le hs.mx) (by omega) (by omega) hat
    simp only [ldBE, ho]; exact this

set_option maxHeartbeats 1000000 in
set_option maxRecDepth 100000 in
theorem refloadbe32_any (s : Sl) (at_ : Int) (w : World) (hs : s.Ok w) (hat : at_ ≤ 9223372036854775807) :
    Calls Try.prog 25 #[s.v, .int .i64 at_] w fun e w' => e = .returned (.tuple #[.int .u32 (ldBE s.l at_ 4), .bool (ldOk s.l at_ 4)]) ∧ w' = w := by
  have hbd := ldBE_bd s.l at_ 4 hs.isB
  have HB := hide hbd
  have HS := hide hs
  clear hbd hs
  go_enter Try.func25, Try.ntmps25
  go_wp2_with fail
  refine (refload_be_u32 s at_ w (unhide HS) hat).mono ?_
  rintro e w' ⟨rfl, rfl⟩
  have hb0 := (unhide HB).1
  have hb1 : ldBE s.l at_ 4 < 4294967296 := (unhide HB).2

  go_wp2
  go_ret2
  exact ⟨rfl, rfl⟩

theorem loadle32_u (s : Sl) (at_ : Int) (w : World) (hs : s.Ok w) :
    Calls Try.prog 26 #[s.v, .int .i64 at_] w fun e w' => e = .returned (.tuple #[.int .u32 (ldLE s.l at_ 4), .bool (ldOk s.l at_ 4)]) ∧ w' = w := by
  have hl := hs.len
  by_cases h : 0 ≤ at_ ∧ at_ + (4 : Nat) ≤ s.l.length
  · have ho : ldOk s.l at_ 4 = true := by unfold ldOk; simpa using h
    obtain ⟨n, rfl⟩ := Int.eq_ofNat_of_zero_le h.1
    obtain ⟨b, off, ha⟩ := hs.split (by omega)
    obtain ⟨a, len, c, l⟩ := s
    simp only at ha ho hl h; subst ha
    have := loadle32_ok b off len c n l w hs.len hs.isB hs.lies (by omega) hs.le hs.mx
    simp only [ldLE, ho, if_true, Int.toNat_natCast]; exact this
  · have ho : ldOk s.l at_ 4 = false := by unfold ldOk; simpa using h
    have := loadle32_no s.a s.n s.c at_ w (by omega) (Nat.le_trans hs.le hs.mx)
    simp only [ldLE, ho]; exact this

theorem refload_le_u32 (s : Sl) (at_ : Int) (w : World) (hs : s.Ok w) (hat : at_ ≤ 9223372036854775807) :
    Calls Try.prog 54 #[s.v, .int .i64 at_, .int .i64 4, .bool false] w fun e w' => e = .returned (.tuple #[.int .u64 (ldLE s.l at_ 4), .bool (ldOk s.l at_ 4)]) ∧ w' = w := by
  have hl := hs.len
  by_cases h : 0 ≤ at_ ∧ at_ + (4 : Nat) ≤ s.l.length
  · have ho : ldOk s.l at_ 4 = true := by unfold ldOk; simpa using h
    obtain ⟨n, rfl⟩ := Int.eq_ofNat_of_zero_le h.1
    have := refload_le s n 4 w hs (by omega) (by omega) (by omega)
    simp only [ldLE, ho, if_true, Int.toNat_natCast]; exact this
  · have ho : ldOk s.l at_ 4 = false := by unfold ldOk; simpa using h
    have := refload_no s.a s.n s.c at_ 4 false w (by omega) (Nat.le_trans hs.le hs.mx) (by omega) (by omega) hat
    simp only [ldLE, ho]; exact this

set_option maxHeartbeats 1000000 in
set_option maxRecDepth 100000 in
theorem refloadle32_any (s : Sl) (at_ : Int) (w : World) (hs : s.Ok w) (hat : at_ ≤ 9223372036854775807) :
    Calls Try.prog 27 #[s.v, .int .i64 at_] w fun e w' => e = .returned (.tuple #[.int .u32 (ldLE s.l at_ 4), .bool (ldOk s.l at_ 4)]) ∧ w' = w := by
  have hbd := ldLE_bd s.l at_ 4 hs.isB
  have HB := hide hbd
  have HS := hide hs
  clear hbd hs
  go_enter Try.func27, Try.ntmps27
  go_wp2_with fail
  refine (refload_le_u32 s at_ w (unhide HS) hat).mono ?_
  rintro e w' ⟨rfl, rfl⟩
  have hb0 := (unhide HB).1
  have hb1 : ldLE s.l at_ 4 < 4294967296 := (unhide HB).2

  go_wp2
  go_ret2
  exact ⟨rfl, rfl⟩

theorem loadbe64_u (s : Sl) (at_ : Int) (w : World) (hs : s.Ok w) :
    Calls Try.prog 28 #[s.v, .int .i64 at_] w fun e w' => e = .returned (.tuple #[.int .u64 (ldBE s.l at_ 8), .bool (ldOk s.l at_ 8)]) ∧ w' = w := by
  have hl := hs.len
  by_cases h : 0 ≤ at_ ∧ at_ + (8 : Nat) ≤ s.l.length
  · have ho : ldOk s.l at_ 8 = true := by unfold ldOk; simpa using h
    obtain ⟨n, rfl⟩ := Int.eq_ofNat_of_zero_le h.1
    obtain ⟨b, off, ha⟩ := hs.split (by omega)
    obtain ⟨a, len, c, l⟩ := s
    simp only at ha ho hl h; subst ha
    have := loadbe64_ok b off len c n l w hs.len hs.isB hs.lies (by omega) hs.le hs.mx
    simp only [ldBE, ho, if_true, Int.toNat_natCast]; exact this
  · have ho : ldOk s.l at_ 8 = false := by unfold ldOk; simpa using h
    have := loadbe64_no s.a s.n s.c at_ w (by omega) (Nat.le_trans hs.le hs.mx)
    simp only [ldBE, ho]; exact this

theorem refload_be_u64 (s : Sl) (at_ : Int) (w : World) (hs : s.Ok w) (hat : at_ ≤ 9223372036854775807) :
    Calls Try.prog 54 #[s.v, .int .i64 at_, .int .i64 8, .bool true] w fun e w' => e = .returned (.tuple #[.int .u64 (ldBE s.l at_ 8), .bool (ldOk s.l at_ 8)]) ∧ w' = w := by
  have hl := hs.len
  by_cases h : 0 ≤ at_ ∧ at_ + (8 : Nat) ≤ s.l.length
  · have ho : ldOk s.l at_ 8 = true := by unfold ldOk; simpa using h
    obtain ⟨n, rfl⟩ := Int.eq_ofNat_of_zero_le h.1
    have := refload_be s n 8 w hs (by omega) (by omega) (by omega)
    simp only [ldBE, ho, if_true, Int.toNat_natCast]; exact this
  · have ho : ldOk s.l at_ 8 = false := by unfold ldOk; simpa using h
    have := refload_no s.a s.n s.c at_ 8 true w (by omega) (Nat.le_trans hs.le hs.mx) (by omega) (by omega) hat
    simp only [ldBE, ho]; exact this

set_option maxHeartbeats 1000000 in
set_option maxRecDepth 100000 in
theorem refloadbe64_any (s : Sl) (at_ : Int) (w : World) (hs : s.Ok w) (hat : at_ ≤ 9223372036854775807) :
    Calls Try.prog 29 #[s.v, .int .i64 at_] w fun e w' => e = .returned (.tuple #[.int .u64 (ldBE s.l at_ 8), .bool (ldOk s.l at_ 8)]) ∧ w' = w := by
  have hbd := ldBE_bd s.l at_ 8 hs.isB
  have HB := hide hbd
  have HS := hide hs
  clear hbd hs
  go_enter Try.func29, Try.ntmps29
  go_wp2_with fail
  refine (refload_be_u64 s at_ w (unhide HS) hat).mono ?_
  rintro e w' ⟨rfl, rfl⟩

  go_wp2
  go_ret2
  exact ⟨rfl, rfl⟩

theorem loadle64_u (s : Sl) (at_ : Int) (w : World) (hs : s.Ok w) :
    Calls Try.prog 30 #[s.v, .int .i64 at_] w fun e w' => e = .returned (.tuple #[.int .u64 (ldLE s.l at_ 8), .bool (ldOk s.l at_ 8)]) ∧ w' = w := by
  have hl := hs.len
  by_cases h : 0 ≤ at_ ∧ at_ + (8 : Nat) ≤ s.l.length
  · have ho : ldOk s.l at_ 8 = true := by unfold ldOk; simpa using h
    obtain ⟨n, rfl⟩ := Int.eq_ofNat_of_zero_le h.1
    obtain ⟨b, off, ha⟩ := hs.split (by omega)
    obtain ⟨a, len, c, l⟩ := s
    simp only at ha ho hl h; subst ha
    have := loadle64_ok b off len c n l w hs.len hs.isB hs.lies (by omega) hs.le hs.mx
    simp only [ldLE, ho, if_true, Int.toNat_natCast]; exact this
  · have ho : ldOk s.l at_ 8 = false := by unfold ldOk; simpa using h
    have := loadle64_no s.a s.n s.c at_ w (by omega) (Nat.le_trans hs.le hs.mx)
    simp only [ldLE, ho]; exact this

theorem refload_le_u64 (s : Sl) (at_ : Int) (w : World) (hs : s.Ok w) (hat : at_ ≤ 9223372036854775807) :
    Calls Try.prog 54 #[s.v, .int .i64 at_, .int .i64 8, .bool false] w fun e w' => e = .returned (.tuple #[.int .u64 (ldLE s.l at_ 8), .bool (ldOk s.l at_ 8)]) ∧ w' = w := by
  have hl := hs.len
  by_cases h : 0 ≤ at_ ∧ at_ + (8 : Nat) ≤ s.l.length
  · have ho : ldOk s.l at_ 8 = true := by unfold ldOk; simpa using h
    obtain ⟨n, rfl⟩ := Int.eq_ofNat_of_zero_le h.1
    have := refload_le s n 8 w hs (by omega) (by omega) (by omega)
    simp only [ldLE, ho, if_true, Int.toNat_natCast]; exact this
  · have ho : ldOk s.l at_ 8 = false := by unfold ldOk; simpa using h
    have := refload_no s.a s.n s.c at_ 8 false w (by omega) (Nat.le_trans hs.le hs.mx) (by omega) (by omega) hat
    simp only [ldLE, ho]; exact this

set_option maxHeartbeats 1000000 in
set_option maxRecDepth 100000 in
theorem refloadle64_any (s : Sl) (at_ : Int) (w : World) (hs : s.Ok w) (hat : at_ ≤ 9223372036854775807) :
    Calls Try.prog 31 #[s.v, .int .i64 at_] w fun e w' => e = .returned (.tuple #[.int .u64 (ldLE s.l at_ 8), .bool (ldOk s.l at_ 8)]) ∧ w' = w := by
  have hbd := ldLE_bd s.l at_ 8 hs.isB
  have HB := hide hbd
  have HS := hide hs
  clear hbd hs
  go_enter Try.func31, Try.ntmps31
  go_wp2_with fail
  refine (refload_le_u64 s at_ w (unhide HS) hat).mono ?_
  rintro e w' ⟨rfl, rfl⟩

  go_wp2
  go_ret2
  exact ⟨rfl, rfl⟩
end Go.Proofs.Ytipmgnigejpfjaa
