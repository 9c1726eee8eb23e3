import Derived.Test.YtcdmomdajakocaaFlM
namespace Go.Proofs.Ytcdmomdajakocaa
open Go.RowKit

set_option maxHeartbeats 1000000 in
set_option maxRecDepth 100000 in
theorem beginning_any (d : Sl) (n : Nat) (w : World) (hd : d.Ok w) (hn : n ≤ 1048576) :
    Calls Try.prog 11 #[d.v, .int .i64 n] w (BPost (d.l.take n) w) := by
  obtain ⟨i0, hi, hz0, hz1, hz2⟩ := info_parts Try.infoB
  obtain ⟨da, dn, dc, dl⟩ := d
  have hlen : dl.length = dn := hd.len
  have hm : dn ≤ 9223372036854775807 := by have := hd.le; have := hd.mx; unfold maxLen at this; simp only at *; omega
  simp only [Sl.v]
  have HD := hide hd
  clear hd
  by_cases h : n < dn
  · have hbs : i0.bytes * n ≤ 281474976710656 := by rw [hz2]; omega
    have hmx : n ≤ maxLen := by unfold maxLen; omega
    obtain ⟨T, hT⟩ : ∃ T, T = dl.take n := ⟨_, rfl⟩
    rw [← hT]
    have HT := hide hT
    have HC : Hid (dl.take n = T) := hide (by rw [hT]; skip)
    clear hT
    obtain ⟨X, hX⟩ : ∃ X, X = U8 (dl.take n) := ⟨_, rfl⟩
    have hkl : (dl.take n).length = n := by rw [List.length_take]; omega
    have HKL := hide hkl
    have HMN : Hid (X.length = Nat.min dn n) := hide (by rw [hX, U8_length, hkl]; exact (Nat.min_eq_right (by omega)).symm)
    have HXl : Hid (X.length = n) := hide (by rw [hX, U8_length, hkl])
    have HX1 : Hid (∀ v ∈ X, v.oneCell' = true) := hide (by rw [hX]; exact U8_one _)
    have HX := hide hX
    clear hkl hX
    go_enter Try.func11, Try.ntmps11
    go_wp2_with (first
      | (at_make; refine wpList_make_full _ rfl _ _ 22 rfl 0 5 i0 (.int .u8 0) 1 Try.underlying22 hi hz0 hz1 .i64 .i64 n n n rfl rfl rfl rfl hbs hmx (Nat.zero_le _) ?_
         intro w1 hown hgrow
         have hb1 : Hid (Below w.heap.size w w1) := hide ((Below.refl _ _).grown hgrow (Nat.le_refl _) (fun _ h => by cases h))
         have hA1 : Hid (Arr w1 w.heap.size 5 (U8 (List.replicate n 0))) := hide (own_arr (by rw [made_U8] at hown; exact hown))
         have hsz1 : Hid (w.heap.size < w1.heap.size) := hide ((unhide hA1).lt)
         have hs1 : Hid (0 < X.length → ∃ ad, da = some ad ∧ ∀ j v, X[j]? = some v → w1.cell? (ad.add j) = some v) := hide (fun h => by
            have hd1 := (unhide HD).later (unhide hb1)
            obtain ⟨bk, off, e1, -, -⟩ := hd1.lies (by simp only; have := unhide HXl; omega)
            have e2 : da = some ⟨bk, off, none⟩ := e1
            exact ⟨_, e2, fun j v hv => hd1.cells _ e2 j v (by rw [unhide HX] at hv; simp only [U8] at hv ⊢; rw [List.map_take, List.getElem?_take] at hv; split at hv; exact hv; cases hv)⟩)
         clear hown hgrow)
      | (refine wpList_copy_but rfl (.tmp 11) (.tmp 12) 22 22 rfl 5 Try.underlying22 Try.sz1b _ _ _ _ _ _ rfl rfl w.heap.size 0 (U8 (List.replicate n 0)) 5 (unhide hA1) X (unhide HMN) (fun h => ⟨rfl, unhide hs1 h⟩) (by rw [U8_length, unhide HXl, List.length_replicate]; omega) (unhide HX1) ?_
         intro w2 hA2 hB2))
    go_ret
    have hb2 : Below w.heap.size w w2 := (unhide hb1).trans ((unhide hB2).below (Nat.le_of_lt (unhide hsz1)) (Nat.le_refl _))
    have e3 : splice (U8 (List.replicate n 0)) 0 X = U8 T := by
      rw [← unhide HC, unhide HX]; simp only [splice, List.take_zero, List.nil_append, Nat.zero_add, U8_length]; rw [unhide HKL, List.drop_of_length_le (by simp), List.append_nil]
    have hA3 := unhide hA2
    rw [e3] at hA3
    have hl3 : T.length = n := by rw [← unhide HC]; exact unhide HKL
    refine ⟨_, rfl, ⟨?_, fun x hx => (unhide HD).isB x (List.mem_of_mem_take (by rw [unhide HT] at hx; exact hx))⟩, fun g hg => by simp [Value.ownBlock] at hg; omega, hb2⟩
    show w2.ownsRow 0 5 1 (.slice (some ⟨w.heap.size, 0, none⟩) n n) T.length (U8 T)
    rw [hl3]
    exact ⟨by rw [U8_length, hl3, Nat.mul_one], .inr ⟨w.heap.size, n, _, rfl, Nat.zero_le _, hA3, Nat.le_refl _, hmx, by simp [U8_length, hl3], by rw [Nat.mul_one]; exact List.take_of_length_le (by simp [U8_length]; omega)⟩⟩
  · have hbs : i0.bytes * dn ≤ 281474976710656 := by rw [hz2]; omega
    have hmx : dn ≤ maxLen := by unfold maxLen; omega
    obtain ⟨T, hT⟩ : ∃ T, T = dl.take n := ⟨_, rfl⟩
    rw [← hT]
    have HT := hide hT
    have HC : Hid (dl.take dn = T) := hide (by rw [hT]; rw [List.take_of_length_le (by omega), List.take_of_length_le (by omega)])
    clear hT
    obtain ⟨X, hX⟩ : ∃ X, X = U8 (dl.take dn) := ⟨_, rfl⟩
    have hkl : (dl.take dn).length = dn := by rw [List.length_take]; omega
    have HKL := hide hkl
    have HMN : Hid (X.length = Nat.min dn dn) := hide (by rw [hX, U8_length, hkl]; exact (Nat.min_self _).symm)
    have HXl : Hid (X.length = dn) := hide (by rw [hX, U8_length, hkl])
    have HX1 : Hid (∀ v ∈ X, v.oneCell' = true) := hide (by rw [hX]; exact U8_one _)
    have HX := hide hX
    clear hkl hX
    go_enter Try.func11, Try.ntmps11
    go_wp2_with (first
      | (at_make; refine wpList_make_full _ rfl _ _ 22 rfl 0 5 i0 (.int .u8 0) 1 Try.underlying22 hi hz0 hz1 .i64 .i64 dn dn dn rfl rfl rfl rfl hbs hmx (Nat.zero_le _) ?_
         intro w1 hown hgrow
         have hb1 : Hid (Below w.heap.size w w1) := hide ((Below.refl _ _).grown hgrow (Nat.le_refl _) (fun _ h => by cases h))
         have hA1 : Hid (Arr w1 w.heap.size 5 (U8 (List.replicate dn 0))) := hide (own_arr (by rw [made_U8] at hown; exact hown))
         have hsz1 : Hid (w.heap.size < w1.heap.size) := hide ((unhide hA1).lt)
         have hs1 : Hid (0 < X.length → ∃ ad, da = some ad ∧ ∀ j v, X[j]? = some v → w1.cell? (ad.add j) = some v) := hide (fun h => by
            have hd1 := (unhide HD).later (unhide hb1)
            obtain ⟨bk, off, e1, -, -⟩ := hd1.lies (by simp only; have := unhide HXl; omega)
            have e2 : da = some ⟨bk, off, none⟩ := e1
            exact ⟨_, e2, fun j v hv => hd1.cells _ e2 j v (by rw [unhide HX] at hv; simp only [U8] at hv ⊢; rw [List.map_take, List.getElem?_take] at hv; split at hv; exact hv; cases hv)⟩)
         clear hown hgrow)
      | (refine wpList_copy_but rfl (.tmp 11) (.tmp 12) 22 22 rfl 5 Try.underlying22 Try.sz1b _ _ _ _ _ _ rfl rfl w.heap.size 0 (U8 (List.replicate dn 0)) 5 (unhide hA1) X (unhide HMN) (fun h => ⟨rfl, unhide hs1 h⟩) (by rw [U8_length, unhide HXl, List.length_replicate]; omega) (unhide HX1) ?_
         intro w2 hA2 hB2))
    go_ret
    have hb2 : Below w.heap.size w w2 := (unhide hb1).trans ((unhide hB2).below (Nat.le_of_lt (unhide hsz1)) (Nat.le_refl _))
    have e3 : splice (U8 (List.replicate dn 0)) 0 X = U8 T := by
      rw [← unhide HC, unhide HX]; simp only [splice, List.take_zero, List.nil_append, Nat.zero_add, U8_length]; rw [unhide HKL, List.drop_of_length_le (by simp), List.append_nil]
    have hA3 := unhide hA2
    rw [e3] at hA3
    have hl3 : T.length = dn := by rw [← unhide HC]; exact unhide HKL
    refine ⟨_, rfl, ⟨?_, fun x hx => (unhide HD).isB x (List.mem_of_mem_take (by rw [unhide HT] at hx; exact hx))⟩, fun g hg => by simp [Value.ownBlock] at hg; omega, hb2⟩
    show w2.ownsRow 0 5 1 (.slice (some ⟨w.heap.size, 0, none⟩) dn dn) T.length (U8 T)
    rw [hl3]
    exact ⟨by rw [U8_length, hl3, Nat.mul_one], .inr ⟨w.heap.size, dn, _, rfl, Nat.zero_le _, hA3, Nat.le_refl _, hmx, by simp [U8_length, hl3], by rw [Nat.mul_one]; exact List.take_of_length_le (by simp [U8_length]; omega)⟩⟩
end Go.Proofs.Ytcdmomdajakocaa
