import Derived.Test.YtipmgnigejpfjaaXorX
import Derived.Laws.BytesArg
namespace Go.Proofs.Ytipmgnigejpfjaa
open Go.RowKit

theorem conv_str {w : World} {s : Sl} (h : s.Ok w) : (convert 28 9 s.v).run Try.prog w = .ok (.string (strOfNums s.l)) w := by
  obtain ⟨a, n, c, l⟩ := s
  have hl := h.len
  simp only at hl
  cases a with
  | none =>
    obtain ⟨h1, h2⟩ := h.nn rfl
    simp only at h1 h2
    subst h1 h2
    have : l = [] := List.eq_nil_of_length_eq_zero hl
    subst this
    exact run_convert_bytes_nil w 28 5 Try.underlying28 Try.underlying5 0 0 9 Try.underlying9
  | some ad =>
    by_cases h0 : n = 0
    · subst h0
      have : l = [] := List.eq_nil_of_length_eq_zero hl
      subst this
      simp only [Sl.v]
      have hlc : (loadCells ad 0).run Try.prog w = .ok (([] : List Int).map (Value.int .u8)).toArray w := by
        have := run_loadCells_list (P := Try.prog) w ad [] (fun j v hj => by simp at hj)
        simpa using this
      rw [run_convert_bytes_string w 28 9 5 _ 0 c Try.underlying28 Try.underlying5 Try.underlying9, run_bytesToString w ad 0 c [] hlc]
      rfl
    · obtain ⟨b, off, hab, _, hc⟩ := h.lies (by simp only; omega)
      simp at hab; subst hab
      exact run_convert_bytes_arg w 28 5 Try.underlying28 Try.underlying5 b off n c l hl (fun i hi => hc i (by simp only; omega)) 9 Try.underlying9

theorem strOfNums_inj {a b : List Int} (ha : IsB a) (hb : IsB b) : strOfNums a = strOfNums b ↔ a = b := by
  constructor
  · intro h
    have h' : a.map (fun n => UInt8.ofNat n.toNat) = b.map (fun n => UInt8.ofNat n.toNat) := by
      rw [← strOfNums_data, ← strOfNums_data, h]
    have hl : a.length = b.length := by have := congrArg List.length h'; simpa using this
    apply List.ext_getElem hl
    intro i h1 h2
    have e : (a.map (fun n => UInt8.ofNat n.toNat))[i]'(by simpa using h1) = (b.map (fun n => UInt8.ofNat n.toNat))[i]'(by simpa using h2) := by simp only [h']
    simp only [List.getElem_map] at e
    have e2 := congrArg UInt8.toNat e
    have ba := ha _ (List.getElem_mem h1)
    have bb := hb _ (List.getElem_mem h2)
    simp only [UInt8.toNat_ofNat'] at e2
    omega
  · intro h; rw [h]

theorem bytes_ext {a b : ByteArray} (h : a.data.toList = b.data.toList) : a = b := by
  obtain ⟨⟨a⟩⟩ := a; obtain ⟨⟨b⟩⟩ := b; simp at h; rw [h]

set_option maxHeartbeats 1000000 in
set_option maxRecDepth 100000 in
theorem bytesEqual_any (s t : Sl) (w : World) (hs : s.Ok w) (ht : t.Ok w) :
    Calls Try.prog 57 #[s.v, t.v] w fun e w' => e = .returned (.bool (decide (s.l = t.l))) ∧ w' = w := by
  have h1 := conv_str hs
  have h2 := conv_str ht
  have hB := hs.isB
  have hB' := ht.isB
  obtain ⟨a, n, c, la⟩ := s
  obtain ⟨b, m, d, lb⟩ := t
  simp only [Sl.v] at h1 h2 hB hB' ⊢
  clear hs ht
  go_enter Try.func57, Try.ntmps57
  go_wp2
  go_ret
  refine ⟨ret_bool ?_, rfl⟩
  have := strOfNums_inj hB hB'
  rw [ByteArray.toList_eq, ByteArray.toList_eq, Bool.eq_iff_iff]
  simp only [beq_iff_eq, decide_eq_true_eq]
  rw [← this]
  exact ⟨fun h => bytes_ext h, fun h => by rw [h]⟩

set_option maxHeartbeats 1000000 in
set_option maxRecDepth 100000 in
theorem equal_any (s t : Sl) (w : World) (hs : s.Ok w) (ht : t.Ok w) :
    Calls Try.prog 43 #[s.v, t.v] w fun e w' => e = .returned (.bool (decide (s.l = t.l))) ∧ w' = w := by
  have HS := hide hs
  have HT := hide ht
  clear hs ht
  go_enter Try.func43, Try.ntmps43
  go_wp2_with fail
  refine (bytesEqual_any s t w (unhide HS) (unhide HT)).mono ?_
  rintro e w' ⟨rfl, rfl⟩
  go_wp2
  go_ret
  exact ⟨rfl, rfl⟩

/-- hex digits as numbers -/
def digV (c : Int) : Option Int := if 48 ≤ c ∧ c ≤ 57 then some (c - 48) else if 97 ≤ c ∧ c ≤ 102 then some (c - 87) else none

set_option maxHeartbeats 1000000 in
set_option maxRecDepth 100000 in
theorem digit_any (c : Int) (w : World) (h0 : 0 ≤ c) (h1 : c ≤ 255) :
    Calls Try.prog 58 #[.int .u8 c] w fun e w' => e = .returned (.tuple #[.int .u8 ((digV c).getD 0), .bool (digV c).isSome]) ∧ w' = w := by
  by_cases a1 : 48 ≤ c
  · by_cases a2 : c ≤ 57
    · have e : digV c = some (c - 48) := by unfold digV; rw [if_pos ⟨a1, a2⟩]
      rw [e]
      have b1 : decide (48 ≤ c) = true := by simpa using a1
      have b2 : decide (c ≤ 57) = true := by simpa using a2
      clear e
      go_enter Try.func58, Try.ntmps58
      go_wp2
      go_ret2
      exact ⟨rfl, rfl⟩
    · by_cases a3 : 97 ≤ c
      · by_cases a4 : c ≤ 102
        · have e : digV c = some (c - 87) := by unfold digV; rw [if_neg (by omega), if_pos ⟨a3, a4⟩]
          rw [e]
          have b1 : decide (48 ≤ c) = true := by simpa using a1
          have b2 : decide (c ≤ 57) = false := by simpa using a2
          have b3 : decide (97 ≤ c) = true := by simpa using a3
          have b4 : decide (c ≤ 102) = true := by simpa using a4
          have ee : c - 97 + 10 = c - 87 := by omega
          have HE := hide ee
          clear e ee
          go_enter Try.func58, Try.ntmps58
          go_wp2
          go_ret2
          exact ⟨by simp [unhide HE], rfl⟩
        · have e : digV c = none := by unfold digV; rw [if_neg (by omega), if_neg (by omega)]
          rw [e]
          have b1 : decide (48 ≤ c) = true := by simpa using a1
          have b2 : decide (c ≤ 57) = false := by simpa using a2
          have b3 : decide (97 ≤ c) = true := by simpa using a3
          have b4 : decide (c ≤ 102) = false := by simpa using a4
          clear e
          go_enter Try.func58, Try.ntmps58
          go_wp2
          go_ret2
          exact ⟨rfl, rfl⟩
      · have e : digV c = none := by unfold digV; rw [if_neg (by omega), if_neg (by omega)]
        rw [e]
        have b1 : decide (48 ≤ c) = true := by simpa using a1
        have b2 : decide (c ≤ 57) = false := by simpa using a2
        have b3 : decide (97 ≤ c) = false := by simpa using a3
        clear e
        go_enter Try.func58, Try.ntmps58
        go_wp2
        go_ret2
        exact ⟨rfl, rfl⟩
  · have e : digV c = none := by unfold digV; rw [if_neg (by omega), if_neg (by omega)]
    rw [e]
    have b1 : decide (48 ≤ c) = false := by simpa using a1
    have b3 : decide (97 ≤ c) = false := by simp; omega
    clear e
    go_enter Try.func58, Try.ntmps58
    go_wp2
    go_ret2
    exact ⟨rfl, rfl⟩
end Go.Proofs.Ytipmgnigejpfjaa
