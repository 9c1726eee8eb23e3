import Derived.Test.YtiloacnjgaoceabSteM
namespace Go.Proofs.Ytiloacnjgaoceab
open Go.RowKit

/-- how much the first steps hold -/
def sizZ (ss : List Stp) : Int := (ss.map fun q => (q.b.n : Int) + 10 * q.q.n).sum
theorem sizZ_nonneg (ss : List Stp) : 0 ≤ sizZ ss := by
  induction ss with
  | nil => simp [sizZ]
  | cons q r ih => simp only [sizZ, List.map_cons, List.sum_cons] at *; omega
theorem sizZ_snoc (ss : List Stp) (k : Nat) (q : Stp) (h : ss[k]? = some q) : sizZ (ss.take (k + 1)) = sizZ (ss.take k) + q.b.n + 10 * q.q.n := by
  have hk : k < ss.length := by
    by_cases hl : k < ss.length
    · exact hl
    · rw [List.getElem?_eq_none (by omega)] at h; simp at h
  rw [List.take_succ_eq_append_getElem hk]
  rw [List.getElem?_eq_getElem hk] at h; simp at h
  simp [sizZ, h]; omega
theorem sizZ_mem (ss : List Stp) (q : Stp) (h : q ∈ ss) : (q.b.n : Int) + 10 * q.q.n ≤ sizZ ss := by
  induction ss with
  | nil => simp at h
  | cons p r ih =>
    have h0 := sizZ_nonneg r
    rcases List.mem_cons.1 h with rfl | h
    · simp only [sizZ, List.map_cons, List.sum_cons] at *; omega
    · have := ih h; simp only [sizZ, List.map_cons, List.sum_cons] at *; omega

set_option maxHeartbeats 2000000 in
set_option maxRecDepth 100000 in
theorem size_any (s : Sps) (w : World) (hs : s.Ok w) (hr : ∀ q ∈ s.ss, q.b.n ≤ 140737488351232 ∧ q.q.n ≤ 140737488351232) :
    Calls Try.prog 6 #[s.v] w fun e w' => ∃ r : Int, e = .returned (.int .i64 r) ∧ 0 ≤ r ∧ r ≤ 2000000000000000 ∧ (r ≤ 100000 → r = sizZ s.ss) ∧ ∃ k, w' = w.drewN k := by
  have hsv : s.v = .slice s.a s.n s.c := rfl
  have hlen := hs.len
  have hle := hs.le
  have hmx := hs.mx
  unfold maxLen at hmx
  rw [hsv]
  go_enter Try.func6, Try.ntmps6
  go_wp2_with fail
  go_loopw [3, 4] (fun n i wr => ∃ k : Nat, k ≤ s.n ∧ i = .int .i64 k ∧ n = .int .i64 (sizZ (s.ss.take k)) ∧ Hid (sizZ (s.ss.take k) ≤ 100000) ∧ ∃ m, wr = w.drewN m) (fun _ i _ => s.n - (intOf i).toNat)
  case atStart => exact ⟨0, by omega, rfl, by simp [sizZ], hide (by simp [sizZ]), 0, rfl⟩
  case round =>
    obtain ⟨k, hk, rfl, rfl, HB, m, hwr0⟩ := hrel
    have hwr := hide hwr0
    clear hwr0
    by_cases hlt : k < s.n
    · obtain ⟨q, hq⟩ : ∃ q, s.ss[k]? = some q := ⟨_, List.getElem?_eq_getElem (by omega)⟩
      have hmem : q ∈ s.ss := List.mem_of_getElem? hq
      have hsk : s.Ok wr := by rw [unhide hwr]; exact ⟨hs.len, hs.le, hs.mx, hs.lies, fun q hq => ⟨(hs.all q hq).k0, (hs.all q hq).k1, (hs.all q hq).x0, (hs.all q hq).x1, ⟨(hs.all q hq).b.len, (hs.all q hq).b.le, (hs.all q hq).b.mx, (hs.all q hq).b.nn, (hs.all q hq).b.isB, (hs.all q hq).b.lies⟩, ⟨(hs.all q hq).q.len, (hs.all q hq).q.le, (hs.all q hq).q.mx, (hs.all q hq).q.nn, (hs.all q hq).q.isQ, (hs.all q hq).q.lies⟩, (hs.all q hq).n0, (hs.all q hq).n1, (hs.all q hq).m0, (hs.all q hq).m1⟩⟩
      obtain ⟨bk, off, ha, hbl, c0, c1, c2, c3, c4, c5⟩ := hsk.at_ hq
      have hb := hr q hmem
      have hsn := sizZ_snoc s.ss k q hq
      have hnn := sizZ_nonneg (s.ss.take k)
      have hBv := unhide HB
      have HS := hide hsn
      obtain ⟨kd, x, b, l, n, most⟩ := q
      simp only at c0 c1 c2 c3 c4 c5 hb
      obtain ⟨Z, hZ⟩ : ∃ Z, sizZ (s.ss.take k) = Z := ⟨_, rfl⟩
      rw [hZ] at hnn hBv ⊢
      have HZ := hide hZ
      obtain ⟨hb1, hb2⟩ := hb
      rw [ha]
      clear hsn hsk hZ c0 c1 c4 c5
      by_cases hov : Z + b.n + 10 * l.n ≤ 100000
      · go_wp2_with fail
        go_region
        go_wp2_with fail
        go_roundw
        case rel =>
          have h1 := unhide HS
          rw [unhide HZ] at h1
          refine ⟨k + 1, by omega, by go_num, by rw [h1], ?_, _, by rw [unhide hwr]; exact World.drewN_drewN _ _ 1⟩
          rw [h1]; exact hide hov
        case measure => simp [intOf]; omega
      · go_wp2_with fail
        go_region
        go_wp2_with fail
        go_ret
        exact ⟨_, rfl, by omega, by omega, fun h => by omega, _, by rw [unhide hwr]; exact World.drewN_drewN _ _ 1⟩
    · have : k = s.n := by omega
      subst this
      have HT : Hid (s.ss.take s.n = s.ss) := hide (List.take_of_length_le (by omega))
      go_wp2_with fail
      go_ret
      have hBv := unhide HB
      have hnn := sizZ_nonneg (s.ss.take s.n)
      exact ⟨_, rfl, hnn, by omega, fun _ => by rw [unhide HT], m, unhide hwr⟩
end Go.Proofs.Ytiloacnjgaoceab
