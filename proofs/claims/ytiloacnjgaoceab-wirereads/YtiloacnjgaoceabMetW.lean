import Derived.Test.YtiloacnjgaoceabFacW
import Derived.Test.YtiloacnjgaoceabMetM
namespace Go.Proofs.Ytiloacnjgaoceab
open Go.RowKit

/-! The calls of a Reader. -/

set_option maxHeartbeats 1000000 in
set_option maxRecDepth 100000 in
theorem rByte_any (p : Nat) (s : Sl) (f : Int) (w : World) (h : Rdr w p s f) :
    Calls Try.prog 45 #[.pointer (some ⟨p, 0, none⟩)] w (Fac (isI .u8) (.int .u8 0) p s f (pByte s.l) w) := by
  go_enter Try.func45, Try.ntmps45
  go_wp2_with (go_at_call 66; refine (read_byte p s f w h).mono ?_; rintro e w' hF; obtain ⟨v, rfl⟩ := hF.ret)
  go_ret
  exact hF

set_option maxHeartbeats 1000000 in
set_option maxRecDepth 100000 in
theorem rU32_any (p : Nat) (s : Sl) (f : Int) (w : World) (h : Rdr w p s f) :
    Calls Try.prog 46 #[.pointer (some ⟨p, 0, none⟩)] w (Fac (isI .u32) (.int .u32 0) p s f (pU32 s.l) w) := by
  go_enter Try.func46, Try.ntmps46
  go_wp2_with (go_at_call 67; refine (read_u32 p s f w h).mono ?_; rintro e w' hF; obtain ⟨v, rfl⟩ := hF.ret)
  go_ret
  exact hF

set_option maxHeartbeats 1000000 in
set_option maxRecDepth 100000 in
theorem rU64_any (p : Nat) (s : Sl) (f : Int) (w : World) (h : Rdr w p s f) :
    Calls Try.prog 47 #[.pointer (some ⟨p, 0, none⟩)] w (Fac (isI .u64) (.int .u64 0) p s f (pU64 s.l) w) := by
  go_enter Try.func47, Try.ntmps47
  go_wp2_with (go_at_call 69; refine (read_u64 p s f w h).mono ?_; rintro e w' hF; obtain ⟨v, rfl⟩ := hF.ret)
  go_ret
  exact hF

set_option maxHeartbeats 1000000 in
set_option maxRecDepth 100000 in
theorem rUint_any (p : Nat) (s : Sl) (f : Int) (w : World) (h : Rdr w p s f) :
    Calls Try.prog 48 #[.pointer (some ⟨p, 0, none⟩)] w (Fac (isI .u64) (.int .u64 0) p s f (pUint s.l) w) := by
  go_enter Try.func48, Try.ntmps48
  go_wp2_with (go_at_call 69; refine (read_uint p s f w h).mono ?_; rintro e w' hF; obtain ⟨v, rfl⟩ := hF.ret)
  go_ret
  exact hF

set_option maxHeartbeats 1000000 in
set_option maxRecDepth 100000 in
theorem rBool_any (p : Nat) (s : Sl) (f : Int) (w : World) (h : Rdr w p s f) :
    Calls Try.prog 15 #[.pointer (some ⟨p, 0, none⟩)] w (Fac isT (.bool false) p s f (pBool s.l) w) := by
  go_enter Try.func15, Try.ntmps15
  go_wp2_with (go_at_call 43; refine (read_bool p s f w h).mono ?_; rintro e w' hF; obtain ⟨v, rfl⟩ := hF.ret)
  go_ret
  exact hF

set_option maxHeartbeats 1000000 in
set_option maxRecDepth 100000 in
theorem rFixed_any (p : Nat) (s : Sl) (f : Int) (n : Int) (w : World) (h : Rdr w p s f) (hm : s.n ≤ 1099511627776) :
    Calls Try.prog 13 #[.pointer (some ⟨p, 0, none⟩), .int .i64 n] w (Fac isL (.slice none 0 0) p s f (pFixed n s.l) w) := by
  have hmf : ∀ (fn : Fn) (first cap : Array Value) (w : World), (Instr.makeFunc fn first cap).run Try.prog w = .ok (.func fn first cap) w := fun _ _ _ _ => rfl
  have hb : Below w.heap.size w (w.alloc (.cells #[.int .i64 n] 3)) := (Below.refl _ _).alloc (Nat.le_refl _) _
  have hA : Arr (w.alloc (.cells #[.int .i64 n] 3)) w.heap.size 3 [.int .i64 n] := Arr.new w _ [.int .i64 n]
  go_enter Try.func13, Try.ntmps13
  go_wp2_with (go_at_call 40; refine (read_fixed p s f _ w.heap.size n (h.later hb) hA hm).mono ?_; rintro e w' hF; obtain ⟨v, rfl⟩ := hF.ret)
  go_ret
  exact hF.early lasts_L hb

set_option maxHeartbeats 1000000 in
set_option maxRecDepth 100000 in
theorem rBytes_any (p : Nat) (s : Sl) (f : Int) (n : Int) (w : World) (h : Rdr w p s f) (hmo : n ≤ 9223372036854775807) (hm : s.n ≤ 1099511627776) :
    Calls Try.prog 50 #[.pointer (some ⟨p, 0, none⟩), .int .i64 n] w (Fac isL (.slice none 0 0) p s f (pBytes n s.l) w) := by
  have hmf : ∀ (fn : Fn) (first cap : Array Value) (w : World), (Instr.makeFunc fn first cap).run Try.prog w = .ok (.func fn first cap) w := fun _ _ _ _ => rfl
  have hb : Below w.heap.size w (w.alloc (.cells #[.int .i64 n] 3)) := (Below.refl _ _).alloc (Nat.le_refl _) _
  have hA : Arr (w.alloc (.cells #[.int .i64 n] 3)) w.heap.size 3 [.int .i64 n] := Arr.new w _ [.int .i64 n]
  go_enter Try.func50, Try.ntmps50
  go_wp2_with (go_at_call 40; refine (read_bytes p s f _ w.heap.size n (h.later hb) hA hmo hm).mono ?_; rintro e w' hF; obtain ⟨v, rfl⟩ := hF.ret)
  go_ret
  exact hF.early lasts_L hb

set_option maxHeartbeats 1000000 in
set_option maxRecDepth 100000 in
theorem rLeft_any (p : Nat) (s : Sl) (f : Int) (w : World) (h : Rdr w p s f) :
    Calls Try.prog 14 #[.pointer (some ⟨p, 0, none⟩)] w fun e w' => e = .returned (.int .i64 s.l.length) ∧ w' = w := by
  have c0 : w.cell? ⟨p, 0, none⟩ = some (.slice s.a s.n s.c) := by simpa [Sl.v] using h.arr.cell 0
  rw [h.ok.len]
  go_enter Try.func14, Try.ntmps14
  go_wp2
  go_ret
  exact ⟨rfl, rfl⟩

/-- what Done of a Reader tells -/
def rEnd (l : List Int) (f : Int) : Int := if f = 0 ∧ 0 < l.length then 90 else f

set_option maxHeartbeats 1000000 in
set_option maxRecDepth 100000 in
theorem rDone_any (p : Nat) (s : Sl) (f : Int) (w : World) (h : Rdr w p s f) :
    Calls Try.prog 19 #[.pointer (some ⟨p, 0, none⟩)] w fun e w' => e = .returned (.int .i64 (rEnd s.l f)) ∧ w' = w := by
  have c1 : w.cell? ⟨p, 1, none⟩ = some (.int .i64 f) := by simpa using h.arr.cell 1
  have hL := rLeft_any p s f w h
  by_cases hf : f = 0
  · subst hf
    by_cases hl : 0 < s.l.length
    · have HE : Hid (rEnd s.l 0 = 90) := by unfold rEnd; rw [if_pos ⟨rfl, hl⟩]; exact hide rfl
      rw [unhide HE]
      generalize s.l.length = n at *
      go_enter Try.func19, Try.ntmps19
      go_wp2_with (go_at_call 14; refine hL.mono ?_; rintro e w' ⟨rfl, rfl⟩)
      go_ret
      exact ⟨rfl, rfl⟩
    · have HE : Hid (rEnd s.l 0 = 0) := by unfold rEnd; rw [if_neg (fun h => hl h.2)]; exact hide rfl
      rw [unhide HE]
      generalize s.l.length = n at *
      go_enter Try.func19, Try.ntmps19
      go_wp2_with (go_at_call 14; refine hL.mono ?_; rintro e w' ⟨rfl, rfl⟩)
      go_ret
      exact ⟨rfl, rfl⟩
  · have HE : Hid (rEnd s.l f = f) := by unfold rEnd; rw [if_neg (fun h => hf h.1)]; exact hide rfl
    rw [unhide HE]
    go_enter Try.func19, Try.ntmps19
    go_wp2
    go_ret
    exact ⟨rfl, rfl⟩

set_option maxHeartbeats 1000000 in
set_option maxRecDepth 100000 in
theorem newReader_any (b : Sl) (w : World) (hb : b.Ok w) (hm : b.n ≤ 1099511627776) :
    Calls Try.prog 8 #[b.v] w fun e w' => ∃ p s, e = .returned (.pointer (some ⟨p, 0, none⟩)) ∧ Rdr w' p s 0 ∧ s.l = b.l ∧ w.heap.size ≤ p ∧ (∀ x, s.a = some x → w.heap.size ≤ x.block) ∧ Below w.heap.size w w' := by
  have hJ := join_one b w hb hm
  obtain ⟨ba, bn, bc, bl⟩ := b
  simp only [Sl.v] at *
  go_enter Try.func8, Try.ntmps8
  go_wp2_with (go_at_call 28; refine hJ.mono ?_; rintro e w' ⟨v, rfl, hown, hbel⟩; obtain ⟨s, rfl, hok, hsl, hsn, hge⟩ := own_sl hown hb.isB; obtain ⟨sa, sn, sc, sl⟩ := s; simp only [Sl.v])
  go_ret
  subst hsn
  have hlt : ∀ x, sa = some x → x.block < w'.heap.size := fun x hx => by subst hx; exact (hown.lt x.block rfl).2
  have hb2 : Below w'.heap.size w' (w'.alloc (.cells #[.slice sa bl.length sc, .int .i64 0] 65)) := (Below.refl _ _).alloc (Nat.le_refl _) _
  refine ⟨w'.heap.size, rfl, ⟨sa, bl.length, sc, sl⟩, ⟨Arr.new w' _ [.slice sa bl.length sc, .int .i64 0], hok.later hb2, fun x hx => ⟨?_, Nat.lt_of_lt_of_le (hlt x hx) hb2.size⟩⟩, hsl, hbel.size, fun x hx => Nat.le_of_succ_le (hge x hx), hbel.trans (hb2.mono hbel.size)⟩
  have := hlt x hx
  omega
end Go.Proofs.Ytiloacnjgaoceab
