import Derived.Test.YtibebhlblmdcgaaQGaC
import Derived.Deep.QuietTactic
import Derived.BigQuiet
set_option linter.unusedSimpArgs false
set_option linter.unusedVariables false
namespace Go.Proofs.Ytibebhlblmdcgaa
open Go.RowKit

theorem abv_refl : ∀ a : List Int, abv a a = false
  | [] => rfl
  | x :: a => by simp [abv, abv_refl a]
theorem abv_at : ∀ (k : Nat) (a b : List Int), k < a.length → k < b.length → a.take k = b.take k → a.getD k 0 ≠ b.getD k 0 → abv a b = decide (b.getD k 0 < a.getD k 0)
  | 0, x :: a, y :: b, _, _, _, h => by simp at h; simp [abv, h]
  | k + 1, x :: a, y :: b, h1, h2, h3, h => by
    simp at h1 h2 h3 h
    obtain ⟨rfl, h3⟩ := h3
    have := abv_at k a b h1 h2 h3 (by simpa using h)
    simpa [abv] using this
  | _, [], _, h, _, _, _ => by simp at h
  | _, _ :: _, [], _, h, _, _ => by simp at h
theorem take_succ_getD17 (l : List Int) (k : Nat) (h : k < l.length) : l.take (k + 1) = l.take k ++ [l.getD k 0] := by
  rw [List.take_add_one, List.getElem?_eq_getElem h]
  simp [List.getElem?_eq_getElem h]

set_option maxHeartbeats 2000000 in
set_option maxRecDepth 100000 in
theorem rabove_any {n : Nat} (a b : List Int) (g o g' o' c c' : Nat) (w : World) (ha : By n a) (hb : By n b) (hn : n ≤ 64) (hla : w.rangeAt g o (U8 a)) (hlb : w.rangeAt g' o' (U8 b)) :
    Calls Try.prog 24 #[.slice (some ⟨g, o, none⟩) n c, .slice (some ⟨g', o', none⟩) n c'] w fun e w' => e = .returned (.bool (abv a b)) ∧ Below w.heap.size w w' := by
  generalize hD : abv a b = D
  have HD := hide hD
  have HA := hide ha
  have HB := hide hb
  have HLA := hide hla
  have HLB := hide hlb
  clear hD ha hb hla hlb
  go_enter Try.func24, Try.ntmps24
  go_wp2_with fail
  go_loopw [5] (fun i wr => ∃ k : Nat, k ≤ n ∧ i = .int .i64 k ∧ Hid (a.take k = b.take k) ∧ ∃ m, wr = w.drewN m) (fun i _ => n - (intOf i).toNat)
  case atStart => exact ⟨0, by omega, rfl, hide rfl, 0, rfl⟩
  case round =>
    obtain ⟨k, hk, rfl, HT, m, hwr0⟩ := hrel
    have hwr := hide hwr0
    clear hwr0
    have hal : a.length = n := (unhide HA).len
    have hbl : b.length = n := (unhide HB).len
    by_cases hlt : k < n
    · have ca : wr.cell? ⟨g, o + k, none⟩ = some (.int .u8 (a.getD k 0)) := by rw [unhide hwr]; exact unhide HLA k _ (U8_at a k (by omega))
      have cb : wr.cell? ⟨g', o' + k, none⟩ = some (.int .u8 (b.getD k 0)) := by rw [unhide hwr]; exact unhide HLB k _ (U8_at b k (by omega))
      obtain ⟨x, hx⟩ : ∃ x, a.getD k 0 = x := ⟨_, rfl⟩
      obtain ⟨y, hy⟩ : ∃ y, b.getD k 0 = y := ⟨_, rfl⟩
      rw [hx] at ca
      rw [hy] at cb
      have HX := hide hx
      have HY := hide hy
      have hkz : (k : Int) < (n : Int) := by omega
      have HL := hide (And.intro hal hbl)
      clear hx hy hal hbl
      by_cases hxy : x = y
      · subst hxy
        have HT' : Hid (a.take (k + 1) = b.take (k + 1)) := hide (by
          rw [take_succ_getD17 a k (by rw [(unhide HL).1]; omega), take_succ_getD17 b k (by rw [(unhide HL).2]; omega), unhide HT, unhide HX, unhide HY])
        go_wp2_with fail
        go_quiet (fail)
        go_wp2
        go_roundw
        case rel => exact ⟨k + 1, by omega, by go_num, HT', _, by rw [unhide hwr]; exact World.drewN_drewN _ _ _⟩
        case measure => simp [intOf]; omega
      · have HF : Hid (D = decide (y < x)) := by
          rw [← unhide HD, ← unhide HX, ← unhide HY]
          exact hide (abv_at k a b (by rw [(unhide HL).1]; omega) (by rw [(unhide HL).2]; omega) (unhide HT) (by rw [unhide HX, unhide HY]; exact hxy))
        go_wp2_with fail
        go_quiet (fail)
        go_wp2
        go_quiet (fail)
        go_wp2
        go_ret
        rw [unhide HF]
        refine ⟨rfl, ?_⟩
        rw [unhide hwr]
        exact ⟨rfl, rfl, rfl, Nat.le_refl _, fun _ _ => rfl⟩
    · have hkd : decide ((k : Int) < (n : Int)) = false := by simp; omega
      have HF : Hid (D = false) := by
        have e : k = n := by omega
        subst e
        have h := unhide HT
        rw [List.take_of_length_le (by omega), List.take_of_length_le (by omega)] at h
        rw [← unhide HD, h]
        exact hide (abv_refl b)
      clear hal hbl
      go_wp2_with fail
      go_ret
      rw [unhide HF]
      refine ⟨rfl, ?_⟩
      rw [unhide hwr]
      exact ⟨rfl, rfl, rfl, Nat.le_refl _, fun _ _ => rfl⟩
end Go.Proofs.Ytibebhlblmdcgaa
