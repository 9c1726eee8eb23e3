import Derived.Test.YtmdpmkdofgligaaAppT
namespace Go.Proofs.Ytmdpmkdofgligaa
open Go.RowKit

theorem zeroCells_u8 (m : Nat) : Builtin.zeroCells (Value.int .u8 0).cells m = (U8 (List.replicate m 0)).toArray := by
  show Builtin.zeroCells #[Value.int .u8 0] m = _
  apply Array.ext'
  simp [Builtin.zeroCells, U8, Nat.mod_one, List.map_const']
/-- append of m bytes 0 to a list without spare room: new memory -/
theorem run_append_made {P : Program} (w : World) (t u ty e : TypeId) (i : TypeInfo) (ht : P.underlying t = some (.slice e)) (hu : P.underlying u = some (.int .i64)) (hi : P.info? e = some i) (hz : i.zero = some (.int .u8 0))
    (hsize : i.size = 1) (hby : i.bytes = 1) (s : Sl) (hs : s.Ok w) (m : Nat) (hm : 0 < m) (hmb : m ≤ 1000) (hfull : s.c = s.n) (hn : s.n ≤ 100000000) :
    ∃ cap W, (Builtin.append_ #[t, u] ty #[s.v, .int .i64 m]).run P w = .ok (.slice (some ⟨w.heap.size, 0, none⟩) (s.n + m) cap) W ∧ Sl.Ok W ⟨some ⟨w.heap.size, 0, none⟩, s.n + m, cap, s.l ++ List.replicate m 0⟩ ∧ Below w.heap.size w W ∧ w.heap.size < W.heap.size := by
  obtain ⟨a, n, c, l⟩ := s
  have hc : c = n := hfull
  subst hc
  have hl : l.length = c := hs.len
  have hn' : c ≤ 100000000 := hn
  have hr : ¬ (c + m ≤ c) := by omega
  have h63' : ¬ (9223372036854775807 < ((c : Int) + (m : Int))) := by omega
  have hfit : Builtin.nextslicecap (c + m) c * i.bytes ≤ 281474976710656 := by rw [hby]; exact growslice_fits (by omega) (by omega)
  have h48' : ¬ (281474976710656 < Builtin.nextslicecap (c + m) c * i.bytes) := by omega
  have hw : IntKind.i64.wrap (m : Int) = m := by rw [IntKind.wrap_i64]; omega
  have hm0 : ¬ ((m : Int) < 0) := by omega
  have hmx : max (m : Int) 0 = m := by omega
  have hmt : ((m : Int)).toNat = m := by omega
  have hm1 : ¬ (281474976710656 < (m : Int) * (i.bytes : Int)) := by rw [hby]; omega
  have hm2 : ¬ (m * i.size = 0) := by rw [hsize]; omega
  refine ⟨grownCap w (c + m) c e, w.drew.alloc (.cells ((U8 l).toArray ++ (U8 (List.replicate m 0)).toArray ++ Builtin.zeroCells (Value.int .u8 0).cells (grownCap w (c + m) c e - (c + m))) e), ?_, ?_, ⟨rfl, rfl, rfl, by simp, fun k hk => Below.heap_alloc w _ k hk⟩, by simp⟩
  · have hf : (Builtin.firstCells i.size c (.slice a c c)).run P w.drew = .ok (U8 l).toArray w.drew := by
      cases a with
      | none =>
        obtain ⟨h0, -⟩ := hs.nn rfl
        have h0' : c = 0 := h0
        subst h0'
        have : l = [] := List.eq_nil_of_length_eq_zero hl
        subst this
        simp [Builtin.firstCells, U8]
      | some b =>
        exact run_firstCells_some (P := P) w.drew i.size c b c c (U8 l) (by rw [hsize]; simp [hl]) (by simpa using hs.cells b rfl)
    simp only [Sl.v]
    simp [Builtin.append_, run_underlying ht, run_underlying hu, sizeOf, typeInfo, zeroValue, hi, hz, asInt, asIntOf, hw, hmx, hmt, hm0, hm1, hm2, hr, h63', h48', Question.forced, hf, newRow, grownCap, zeroCells_u8]
  · refine ⟨by simp [hl], grownCap_ge _ _ _ _, grownCap_le_maxLen _ _ _ _ (by unfold maxLen; omega), (fun h => by cases h), hs.isB.append (fun x hx => by have := List.eq_of_mem_replicate hx; subst this; omega), fun _ => ⟨w.heap.size, 0, rfl, by simp, fun k hk => ?_⟩⟩
    have hrow := heap_alloc_last w.drew (.cells ((U8 l).toArray ++ (U8 (List.replicate m 0)).toArray ++ Builtin.zeroCells (Value.int .u8 0).cells (grownCap w (c + m) c e - (c + m))) e)
    rw [Nat.zero_add, cell_of_row _ w.heap.size k _ _ _ hrow, ← U8_at (l ++ List.replicate m 0) k hk, U8_append]
    have hk3 : k < ((U8 l).toArray ++ (U8 (List.replicate m 0)).toArray).size := by simpa using hk
    rw [Array.getElem?_append_left hk3]
    simp
end Go.Proofs.Ytmdpmkdofgligaa
