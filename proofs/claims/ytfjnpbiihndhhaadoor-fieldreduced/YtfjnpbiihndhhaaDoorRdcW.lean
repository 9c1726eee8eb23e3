import Derived.Test.YtfjnpbiihndhhaaDoorFldG
namespace Go.Proofs.YtfjnpbiihndhhaaDoor
open Go.RowKit

/-! Every answer is the reduced one. -/
theorem El_lim (a : Int) (i : Nat) : 0 ≤ (El a).getD i 0 ∧ (El a).getD i 0 < 2251799813685248 := by
  have hb : ∀ z ∈ El a, 0 ≤ z ∧ z < 2251799813685248 := by
    intro z hz
    simp only [El, lims, List.mem_cons, List.not_mem_nil, or_false] at hz
    rcases hz with rfl | rfl | rfl | rfl | rfl <;> omega
  rw [List.getD_eq_getElem?_getD]
  by_cases hi : i < (El a).length
  · rw [List.getElem?_eq_getElem hi]; exact hb _ (List.getElem_mem hi)
  · rw [List.getElem?_eq_none (by omega)]; decide
theorem El_top (a : Int) (h : ∀ i, 0 < i → i < 5 → (El a).getD i 0 = 2251799813685247) : (El a).getD 0 0 < 2251799813685229 := by
  have hv := val_El a
  have hb := El_bd a
  obtain ⟨x0, x1, x2, x3, x4, hl⟩ : ∃ x0 x1 x2 x3 x4, El a = [x0, x1, x2, x3, x4] := ⟨_, _, _, _, _, rfl⟩
  rw [hl] at h hv ⊢
  have h1 : x1 = 2251799813685247 := h 1 (by decide) (by decide)
  have h2 : x2 = 2251799813685247 := h 2 (by decide) (by decide)
  have h3 : x3 = 2251799813685247 := h 3 (by decide) (by decide)
  have h4 : x4 = 2251799813685247 := h 4 (by decide) (by decide)
  have hv2 : val5 x0 x1 x2 x3 x4 = a % PP := hv
  show x0 < 2251799813685229
  subst h1 h2 h3 h4
  unfold val5 at hv2
  unfold PP at *
  omega
set_option maxHeartbeats 1000000 in
set_option maxRecDepth 100000 in
theorem reducedL_any (a : Int) (w : World) :
    Calls Tryd.prog 15 #[.agg (U64 (El a)).toArray] w fun r w' => r = .returned (.bool true) ∧ Below w.heap.size w w' := by
  go_enter Tryd.func15, Tryd.ntmps15
  go_wp2_with fail
  go_loopw [3, 4] (fun v i wr => ∃ (k : Nat) (t : Bool), k ≤ 5 ∧ i = .int .i64 k ∧ v = .bool t ∧ (t = true → ∀ i, 0 < i → i < k → (El a).getD i 0 = 2251799813685247) ∧ Arr wr w.heap.size 24 (U64 (El a)) ∧ Below w.heap.size w wr) (fun _ i _ => 5 - (intOf i).toNat)
  case atStart => exact ⟨0, true, by omega, rfl, rfl, fun _ i h0 h1 => by omega, (new1 w _ _).2.1, (new1 w _ _).2.2⟩
  case round =>
    obtain ⟨k, t, hk, rfl, rfl, hT, hA, hb⟩ := hrel
    have HT := hide hT
    have HA := hide hA
    have HB := hide hb
    by_cases hlt : k < 5
    · have ck := hA.cell64 k (by rw [(Rep.El a).len]; exact hlt)
      have hl := El_lim a k
      generalize hx : (El a).getD k 0 = x at ck hl
      obtain ⟨hl0, hl1⟩ := hl
      have HX := hide hx
      clear hT hA hb hx
      by_cases hk0 : k = 0
      · subst hk0
        go_wp2_with fail
        go_roundw
        case rel => exact ⟨1, t, by omega, by go_num, rfl, fun _ i h0 h1 => by omega, unhide HA, unhide HB⟩
        case measure => simp [intOf]
      · have hkp : 0 < k := by omega
        by_cases hxm : x = 2251799813685247
        · subst hxm
          go_wp2_with fail
          go_roundw
          case rel =>
            refine ⟨k + 1, t, by omega, by go_num, rfl, fun ht i h0 h1 => ?_, unhide HA, unhide HB⟩
            by_cases hi : i < k
            · exact unhide HT ht i h0 hi
            · have : i = k := by omega
              subst this; exact unhide HX
          case measure => simp [intOf]; omega
        · go_wp2_with fail
          go_roundw
          case rel => exact ⟨k + 1, false, by omega, by go_num, rfl, fun ht => by simp at ht, unhide HA, unhide HB⟩
          case measure => simp [intOf]; omega
    · have : k = 5 := by omega
      subst this
      have c0 := hA.cell64 0 (by rw [(Rep.El a).len]; decide)
      clear hk hlt hT hA hb
      cases t
      · clear c0
        go_wp2_with fail
        go_ret
        exact ⟨rfl, unhide HB⟩
      · have h0 := El_top a (unhide HT rfl)
        generalize (El a).getD 0 0 = x at c0 h0
        go_wp2_with fail
        go_ret
        exact ⟨by simp, unhide HB⟩
end Go.Proofs.YtfjnpbiihndhhaaDoor
