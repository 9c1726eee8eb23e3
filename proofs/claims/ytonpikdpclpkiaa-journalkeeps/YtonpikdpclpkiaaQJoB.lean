import Derived.Test.YtonpikdpclpkiaaQEnM
set_option linter.unusedVariables false
namespace Go.Proofs.Ytonpikdpclpkiaa
open Go.RowKit

/-! bits.Join up to the greatest of lengths. -/
set_option maxHeartbeats 2000000 in
set_option maxRecDepth 100000 in
theorem join_big (pa : Option Addr) (pc : Nat) (ps : List Sl) (w : World) (hv : LiesV w pa (ps.map Sl.v)) (hok : ∀ s ∈ ps, s.Ok w)
    (hn : ps.length ≤ 1099511627776) (htot : (cat ps).length ≤ 140737488355328) :
    Calls Try.prog 41 #[.slice pa ps.length pc] w fun e w' => e = .returned (.slice (some ⟨w.heap.size, 0, none⟩) (cat ps).length (cat ps).length) ∧
      w'.ownsRow w.heap.size 5 1 (.slice (some ⟨w.heap.size, 0, none⟩) (cat ps).length (cat ps).length) (cat ps).length (U8 (cat ps)) ∧ Below w.heap.size w w' := by
  obtain ⟨i0, hi, hz0, hz1, hz2⟩ := info_parts Try.infoB
  obtain ⟨T, hT⟩ : ∃ T, T = (cat ps).length := ⟨_, rfl⟩
  have HT := hide hT
  have htot' : T ≤ 140737488355328 := by omega
  rw [← hT]
  have hbs : i0.bytes * T ≤ 281474976710656 := by rw [hz2]; omega
  have hmx : T ≤ maxLen := by unfold maxLen; omega
  clear hT htot
  go_enter Try.func41, Try.ntmps41
  go_wp2
  go_loop [3, 11] (fun t i => ∃ k : Nat, k ≤ ps.length ∧ i = .int .i64 k ∧ t = .int .i64 (cat (ps.take k)).length) (fun _ i => ps.length - (intOf i).toNat)
  case atStart => exact ⟨0, by omega, rfl, by simp [cat]⟩
  case round =>
    obtain ⟨k, hk, rfl, rfl⟩ := hrel
    have hle := cat_take_le ps k
    rw [← unhide HT] at hle
    by_cases hlt : k < ps.length
    · obtain ⟨s, hs⟩ : ∃ s, ps[k]? = some s := ⟨_, List.getElem?_eq_getElem hlt⟩
      have hmem : s ∈ ps := List.mem_of_getElem? hs
      have hso := hok s hmem
      obtain ⟨b, off, rfl, hbl, hc⟩ := hv (by simp; omega)
      have hck := hc k s.v (by simp [hs])
      have hlen := hso.len
      have hcs := cat_take_succ ps k s hs
      have hle2 := cat_take_le ps (k + 1)
      rw [← unhide HT, hcs, List.length_append] at hle2
      have HL := hide hlen
      have HC := hide hcs
      have hsn : (cat (ps.take k)).length + s.n ≤ 140737488355328 := by omega
      obtain ⟨sa, sn, sc, sl⟩ := s
      simp only [Sl.v] at hck hsn
      clear hc hs hmem hso hlen hcs hle2 hok hv
      generalize hq : (cat (ps.take k)).length = q at *
      have HQ := hide hq
      clear hq
      go_wp2
      go_round
      case rel => exact ⟨k + 1, by omega, by go_num, by rw [unhide HC, List.length_append, unhide HL, unhide HQ]; go_num⟩
      case measure => simp [intOf]; omega
    · have hkk : k = ps.length := by omega
      subst hkk
      rw [List.take_length, ← unhide HT]
      go_wp2_with (at_make; refine wpList_make_own _ rfl _ _ 22 rfl w.heap.size 5 i0 (.int .u8 0) 1 Try.underlying22 hi hz0 hz1 .i64 .i64 T T rfl rfl rfl hbs hmx (Nat.le_refl _) ?_)
      intro w1 hown hgrow
      have hb1 : Below w.heap.size w w1 := (Below.refl _ _).grown hgrow (Nat.le_refl _) (fun _ h => by cases h)
      clear hgrow
      go_wp2
      go_loopw [6, 24] (fun j i wr => ∃ k : Nat, k ≤ ps.length ∧ i = .int .i64 k ∧ j = .slice (some ⟨w.heap.size, 0, none⟩) (cat (ps.take k)).length T ∧
          wr.ownsRow w.heap.size 5 1 (.slice (some ⟨w.heap.size, 0, none⟩) (cat (ps.take k)).length T) (cat (ps.take k)).length (U8 (cat (ps.take k))) ∧ Below w.heap.size w wr)
        (fun _ i _ => ps.length - (intOf i).toNat)
      case atStart => exact ⟨0, by omega, rfl, by simp [cat], hown, hb1⟩
      case round =>
        obtain ⟨k, hk, rfl, rfl, hown, hbl⟩ := hrel
        by_cases hlt : k < ps.length
        · obtain ⟨s, hs⟩ : ∃ s, ps[k]? = some s := ⟨_, List.getElem?_eq_getElem hlt⟩
          have hmem : s ∈ ps := List.mem_of_getElem? hs
          have hso := (hok s hmem).later hbl
          obtain ⟨b, off, rfl, hbw, hc⟩ := hv.later hbl (by simp; omega)
          have hck := hc k s.v (by simp [hs])
          have hlen := hso.len
          have hcs := cat_take_succ ps k s hs
          have hle2 := cat_take_le ps (k + 1)
          rw [← unhide HT, hcs, List.length_append] at hle2
          have HC := hide hcs
          have HL := hide hlen
          have HSO := hide hso
          have HS := hide hs
          have hle3 : (cat (ps.take k)).length + s.n ≤ T := by omega
          obtain ⟨sa, sn, sc, sl⟩ := s
          simp only [Sl.v] at hck
          clear hc hs hmem hso hlen hcs hle2 hok hv
          go_wp2_with (at_builtin; refine wpList_append_fits_any _ rfl _ _ 22 rfl w.heap.size 5 i0 1 Try.underlying22 hi hz1 w.heap.size (cat (ps.take k)).length T (U8 (cat (ps.take k))) rfl hown sa sn sc (U8 sl) rfl (by have := unhide HL; simpa using this) (unhide HSO).nn (unhide HSO).cells (U8_one _) hle3 ?_)
          intro w2 hown2 hgrow2
          have hb2 : Below w.heap.size w w2 := hbl.grown hgrow2 hbl.size (fun _ h => by cases h; exact Nat.le_refl _)
          clear hgrow2 hown hck
          go_wp2
          go_roundw
          case rel =>
            have hl := unhide HL
            have hc := unhide HC
            have e1 : (cat (ps.take (k + 1))).length = (cat (ps.take k)).length + sn := by rw [hc, List.length_append]; omega
            have e2 : U8 (cat (ps.take (k + 1))) = U8 (cat (ps.take k)) ++ U8 sl := by rw [hc]; simp [U8]
            exact ⟨k + 1, by omega, by go_num, by rw [e1], by rw [e1, e2]; exact hown2, hb2⟩
          case measure => simp [intOf]; omega
        · have hkk : k = ps.length := by omega
          subst hkk
          rw [List.take_length, ← unhide HT] at hown
          go_wp2
          go_ret
          rw [List.take_length, ← unhide HT]
          exact ⟨rfl, hown, hbl⟩
theorem joinb_two (pa : Option Addr) (pc : Nat) (s t : Sl) (w : World) (J : List Int) (jn : Nat) (hs : s.Ok w) (ht : t.Ok w) (hJ : Hid (s.l ++ t.l = J)) (hj : Hid (J.length = jn)) (hv : LiesV w pa [s.v, t.v]) (hn : jn ≤ 140737488355328) :
    Calls Try.prog 41 #[.slice pa 2 pc] w fun e w' => e = .returned (.slice (some ⟨w.heap.size, 0, none⟩) jn jn) ∧
      w'.ownsRow w.heap.size 5 1 (.slice (some ⟨w.heap.size, 0, none⟩) jn jn) jn (U8 J) ∧ Below w.heap.size w w' := by
  have hc : cat [s, t] = J := by rw [← unhide hJ]; simp [cat]
  have h := join_big pa pc [s, t] w hv (by intro x hx; simp at hx; rcases hx with rfl | rfl <;> assumption) (by simp) (by rw [hc, unhide hj]; exact hn)
  rw [hc, unhide hj] at h
  exact h
theorem joinb_three (pa : Option Addr) (pc : Nat) (s t u : Sl) (w : World) (J : List Int) (jn : Nat) (hs : s.Ok w) (ht : t.Ok w) (hu : u.Ok w) (hJ : Hid (s.l ++ (t.l ++ u.l) = J)) (hj : Hid (J.length = jn)) (hv : LiesV w pa [s.v, t.v, u.v]) (hn : jn ≤ 140737488355328) :
    Calls Try.prog 41 #[.slice pa 3 pc] w fun e w' => e = .returned (.slice (some ⟨w.heap.size, 0, none⟩) jn jn) ∧
      w'.ownsRow w.heap.size 5 1 (.slice (some ⟨w.heap.size, 0, none⟩) jn jn) jn (U8 J) ∧ Below w.heap.size w w' := by
  have hc : cat [s, t, u] = J := by rw [← unhide hJ]; simp [cat]
  have h := join_big pa pc [s, t, u] w hv (by intro x hx; simp at hx; rcases hx with rfl | rfl | rfl <;> assumption) (by simp) (by rw [hc, unhide hj]; exact hn)
  rw [hc, unhide hj] at h
  exact h

end Go.Proofs.Ytonpikdpclpkiaa
