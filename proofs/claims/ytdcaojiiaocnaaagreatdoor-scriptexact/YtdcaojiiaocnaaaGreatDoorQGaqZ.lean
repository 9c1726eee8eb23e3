import Derived.Test.YtdcaojiiaocnaaaGreatDoorQNuP25
import Derived.Test.YtdcaojiiaocnaaaGreatDoorQGapZ
import Derived.Test.YtdcaojiiaocnaaaGreatDoorQGamZ
import Derived.Test.YtdcaojiiaocnaaaGreatDoorQGanZ
set_option linter.unusedSimpArgs false
set_option linter.unusedVariables false
namespace Go.Proofs.YtdcaojiiaocnaaaGreatDoor
open Go.RowKit

/-! The program's fields told. -/
def ansS : Option (List Int) → Value
  | some f => .tuple #[.string (strOfNums f), .bool true]
  | none => .tuple #[.string .empty, .bool false]
/-- as the program tells a field: no more bytes than a line has room for -/
def tellP (o : Opq) (l : Int) : Option (List Int) :=
  if l = 66 then (if o.b = [] then some [45] else if o.b.length ≤ 1100 then some (hexL o.b) else none)
  else if (getL o l).natAbs < nineQ then some (decL (getL o l)) else none
def tellN (v : Int) : Option (List Int) := if v.natAbs < nineQ then some (decL v) else none
def tellB (b : List Int) : Option (List Int) := if b = [] then some [45] else if b.length ≤ 1100 then some (hexL b) else none
theorem tn_any (v : Int) (w : World) (h : I64 v) (ht : P10 w) :
    Calls Tryz.prog 48 #[.int .i64 v] w fun e w' => e = .returned (ansS (tellN v)) ∧ Below w.heap.size w w' := by
  unfold tellN nineQ
  by_cases h1 : v ≤ -1000000000000000000
  · rw [if_neg (by omega)]
    go_enter Tryz.func48, Tryz.ntmps48
    go_wp2
    go_ret2
    exact ⟨rfl, Below.refl _ _⟩
  · by_cases h2 : 1000000000000000000 ≤ v
    · rw [if_neg (by omega)]
      go_enter Tryz.func48, Tryz.ntmps48
      go_wp2
      go_ret2
      exact ⟨rfl, Below.refl _ _⟩
    · rw [if_pos (by omega)]
      have h1' : -1000000000000000000 < v := by omega
      have h2' : v < 1000000000000000000 := by omega
      obtain ⟨T, hT⟩ : ∃ T, strOfNums (decL v) = T := ⟨_, rfl⟩
      have hc : ∀ u, P10 u → Calls Tryz.prog 32 #[.int .i64 v, .int .i64 10] u fun e w' => e = .returned (.string T) ∧ Below u.heap.size u w' := fun u hu => by rw [← hT]; exact fmt_any v u h hu
      go_enter Tryz.func48, Tryz.ntmps48
      go_wp2_with (go_at_call 32; refine (hc _ ht).mono ?_; rintro e w' ⟨rfl, hb⟩)
      go_ret2
      exact ⟨by simp [ansS, hT], hb⟩
theorem tb_any (s : Sx Int) (w : World) (hs : Su w s) (hb : IsB s.xs) :
    Calls Tryz.prog 49 #[s.v] w fun e w' => e = .returned (ansS (tellB s.xs)) ∧ Below w.heap.size w w' := by
  obtain ⟨a, n, c, l⟩ := s
  have hl : l.length = n := hs.len
  simp only [Sx.v]
  unfold tellB
  by_cases h1 : 1100 < n
  · have hz : (1100 : Int) < (n : Int) := by omega
    rw [if_neg (fun e => by rw [e] at hl; simp at hl; omega), if_neg (by omega)]
    go_enter Tryz.func49, Tryz.ntmps49
    go_wp2
    go_ret2
    exact ⟨rfl, Below.refl _ _⟩
  · have hz : ¬ (1100 : Int) < (n : Int) := by omega
    by_cases h0 : n = 0
    · have h0z : (n : Int) = 0 := by omega
      rw [if_pos (List.eq_nil_of_length_eq_zero (by omega))]
      go_enter Tryz.func49, Tryz.ntmps49
      go_wp2
      go_ret2
      exact ⟨rfl, Below.refl _ _⟩
    · have h0z : ¬ (n : Int) = 0 := by omega
      rw [if_neg (fun e => by rw [e] at hl; simp at hl; omega), if_pos (by omega)]
      have hx := hex_any ⟨a, n, c, l⟩ w (sl_of_su hs hb) (by show n ≤ _; omega)
      obtain ⟨T, hT⟩ : ∃ T, strOfNums (hexL l) = T := ⟨_, rfl⟩
      simp only [hT, Sl.v] at hx
      go_enter Tryz.func49, Tryz.ntmps49
      go_wp2_with (go_at_call 62; refine hx.mono ?_; rintro e w' ⟨rfl, hb9⟩)
      go_ret2
      exact ⟨by simp [ansS, hT], hb9⟩

/-! The program's readBytes. -/
set_option maxHeartbeats 4000000 in
set_option maxRecDepth 100000 in
theorem rb_any (s : ByteArray) (w : World) (hs : s.size ≤ 1048576) :
    Calls Tryz.prog 56 #[.string s] w (LsP s w) := by
  by_cases h1 : strL s = [45]
  · have hse : s = { data := #[45] } := by rw [← strOfNums_strL s, h1]; kernel_rfl
    have hb : Hid (bytesL (strL s) = some []) := hide (by rw [h1]; rfl)
    subst hse
    clear h1
    go_enter Tryz.func56, Tryz.ntmps56
    go_wp2
    go_ret2
    exact ⟨⟨none, 0, 0, []⟩, by rw [unhide hb]; rfl, by rw [unhide hb]; rfl, ou_nil25 _ _, Below.refl _ _⟩
  have hq : (s.toList == ([45] : List UInt8)) = false := by
    rw [beq_eq_false_iff_ne, ByteArray.toList_eq]
    intro h
    exact h1 (by unfold strL; rw [h]; rfl)
  by_cases h0 : s.size = 0
  · have hse : s = { data := #[] } := by
      have : strL s = [] := List.eq_nil_of_length_eq_zero (by rw [strL_length]; exact h0)
      exact (strOfNums_strL s).symm.trans ((congrArg strOfNums this).trans (by kernel_rfl))
    subst hse
    clear h1 hq h0
    go_enter Tryz.func56, Tryz.ntmps56
    go_wp2
    go_ret2
    exact ⟨⟨none, 0, 0, []⟩, rfl, rfl, ou_nil25 _ _, Below.refl _ _⟩
  have hne : strL s ≠ [] := fun h => h0 (by rw [← strL_length, h]; rfl)
  have hq0 : (s.toList == ([] : List UInt8)) = false := by
    rw [beq_eq_false_iff_ne, ByteArray.toList_eq]
    intro h
    exact hne (by unfold strL; rw [h]; rfl)
  by_cases hodd : s.size % 2 = 1
  · have hb : Hid (bytesL (strL s) = none) := hide (by
      unfold bytesL
      rw [if_neg h1, if_neg (fun h => by have := h.2.1; rw [strL_length] at this; omega)])
    clear h1
    go_enter Tryz.func56, Tryz.ntmps56
    go_wp2_with (go_at_call 74; refine (unhex_odd s _ (by unfold maxLen; omega) hodd).mono ?_; rintro e w9 ⟨rfl, h9⟩; rw [h9]; clear h9)
    go_ret2
    exact ⟨⟨none, 0, 0, []⟩, by rw [unhide hb]; rfl, by rw [unhide hb]; rfl, ou_nil25 _ _, Below.refl _ _⟩
  obtain ⟨n, hn⟩ : ∃ n, s.size = 2 * n := ⟨s.size / 2, by omega⟩
  by_cases hok : OkHex (strL s)
  · have hb : Hid (bytesL (strL s) = some (unhexL (strL s))) := hide (by unfold bytesL; rw [if_neg h1, if_pos ⟨hne, hok⟩])
    have HOK := hide hok
    have HU : Hid ((unhexL (strL s)).length = n) := hide (by rw [unhexL_length, strL_length, hn]; omega)
    clear h1 hne hodd hok
    go_enter Tryz.func56, Tryz.ntmps56
    go_wp2_with (go_at_call 74; refine (unhex_even s _ (by omega) n hn).mono ?_; rintro e w' ⟨hb1, ⟨-, rfl, hO⟩ | ⟨hno, -⟩⟩; rotate_left; exact absurd (unhide HOK) hno; skip)
    go_ret2
    rw [u8_flat] at hO
    have hO' : Ou w' w.heap.size (.slice (some ⟨w.heap.size, 0, none⟩) n n) (unhexL (strL s)) := by
      have := hO; rw [← unhide HU] at this ⊢; exact this
    obtain ⟨v, hv, hvx, -, -⟩ := own_sx hO' (fun x _ => uC_len x)
    exact ⟨v, by rw [unhide hb, ← hv]; rfl, by rw [unhide hb, hvx]; rfl, by rw [hvx, ← hv]; exact hO', hb1⟩
  have hb : Hid (bytesL (strL s) = none) := hide (by unfold bytesL; rw [if_neg h1, if_neg (fun h => hok h.2)])
  have HOK := hide hok
  clear h1 hne hodd hok
  go_enter Tryz.func56, Tryz.ntmps56
  go_wp2_with (go_at_call 74; refine (unhex_even s _ (by omega) n hn).mono ?_; rintro e w' ⟨hb1, ⟨hyes, -⟩ | ⟨-, rfl⟩⟩; exact absurd hyes (unhide HOK))
  go_ret2
  exact ⟨⟨none, 0, 0, []⟩, by rw [unhide hb]; rfl, by rw [unhide hb]; rfl, ou_nil25 _ _, hb1⟩
end Go.Proofs.YtdcaojiiaocnaaaGreatDoor
