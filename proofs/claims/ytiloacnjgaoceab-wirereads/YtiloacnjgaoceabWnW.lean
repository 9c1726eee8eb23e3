import Derived.Test.YtiloacnjgaoceabSteM
namespace Go.Proofs.Ytiloacnjgaoceab
open Go.RowKit

set_option maxHeartbeats 2000000 in
set_option maxRecDepth 100000 in
theorem written_any (s : Sps) (w : World) (hs : s.Ok w) (hn : s.n ≤ 301) (hbn : ∀ q ∈ s.ss, q.b.n ≤ 100000 ∧ q.q.n ≤ 100000) :
    Calls Try.prog 26 #[s.v] w fun e w' => Below w.heap.size w w' ∧ ∃ v, e = .returned (.tuple #[v, .bool (decide ((wAll s.ss ([], 0)).2 = 0))]) ∧
      w'.ownsRow w.heap.size 5 1 v (wOut (wAll s.ss ([], 0)).1 (wAll s.ss ([], 0)).2).length (U8 (wOut (wAll s.ss ([], 0)).1 (wAll s.ss ([], 0)).2)) := by
  have hsv : s.v = .slice s.a s.n s.c := rfl
  have hlen := hs.len
  have hle := hs.le
  have hmx := hs.mx
  unfold maxLen at hmx
  rw [hsv]
  have hN := newWriter_any w
  go_enter Try.func26, Try.ntmps26
  go_wp2_with fail
  refine hN.mono ?_
  rintro e w1 ⟨rfl, hW1, hb1, hsz1⟩
  clear hN
  go_wp2_with fail
  go_loopw [5] (fun i wr => ∃ (k : Nat) (lv : Value), k ≤ s.n ∧ i = .int .i64 k ∧ Wtr wr w.heap.size w.heap.size lv (wAll (s.ss.take k) ([], 0)).1 (wAll (s.ss.take k) ([], 0)).2 ∧ Below w.heap.size w wr ∧ Hid ((wAll (s.ss.take k) ([], 0)).1.length ≤ 1100020 * k)) (fun i _ => s.n - (intOf i).toNat)
  case atStart => exact ⟨0, _, by omega, rfl, hW1, hb1, hide (by simp [wAll])⟩
  case round =>
    clear hW1 hb1 hsz1
    obtain ⟨k, lv, hk, rfl, hW, hb, HL⟩ := hrel
    by_cases hlt : k < s.n
    · obtain ⟨q, hq⟩ : ∃ q, s.ss[k]? = some q := ⟨_, List.getElem?_eq_getElem (by omega)⟩
      have hmem : q ∈ s.ss := List.mem_of_getElem? hq
      have hsk := hs.later hb
      obtain ⟨bk, off, ha, hbl, c0, c1, c2, c3, c4, c5⟩ := hsk.at_ hq
      have hsn := wAll_snoc s.ss k q hq ([], 0)
      have hsl := wStep_len q (hs.all q hmem) (hbn q hmem).1 (hbn q hmem).2 (wAll (s.ss.take k) ([], 0))
      have HW := lwrite_any w.heap.size w.heap.size lv (wAll (s.ss.take k) ([], 0)).1 (wAll (s.ss.take k) ([], 0)).2 q wr hW (Nat.le_refl _) (hsk.all q hmem) ((hs.all q hmem).low) (hbn q hmem).1 (hbn q hmem).2 (by have := unhide HL; omega) hb.size
      obtain ⟨kd, x, b, l, n, most⟩ := q
      simp only [Stp.v, Sl.v, Sq.v] at HW c0 c1 c2 c3 c4 c5
      rw [ha]
      have HS := hide hsn
      have HSL := hide hsl
      clear hsn hsl
      go_wp2_with fail
      refine HW.mono ?_
      rintro e w2 ⟨rfl, lv2, hW2⟩
      clear HW
      go_wp2_with fail
      go_roundw
      case rel =>
        refine ⟨k + 1, lv2, by omega, by go_num, ?_, hb.trans (hW2.but.below hb.size (fun i hi => hi.elim (fun e => by omega) (fun e => hW.ges _ e))), ?_⟩
        · rw [unhide HS]; exact hW2.wtr
        · rw [unhide HS]
          have h1 := unhide HSL
          have h2 := unhide HL
          exact hide (by omega)
      case measure => simp [intOf]; omega
    · have : k = s.n := by omega
      subst this
      have HT : Hid (s.ss.take s.n = s.ss) := hide (List.take_of_length_le (by omega))
      have hl := unhide HL
      rw [unhide HT] at hW hl
      have HD := wDone_any w.heap.size w.heap.size lv _ _ wr hW (by omega)
      obtain ⟨⟨l1, f1⟩, hst⟩ : ∃ st, wAll s.ss ([], 0) = st := ⟨_, rfl⟩
      rw [hst] at HD
      simp only at HD
      have HST := hide hst
      clear hst
      go_wp2_with fail
      refine HD.mono ?_
      rintro e w3 ⟨hb3, v, rfl, hown⟩
      clear HD
      go_wp2_with fail
      go_ret2
      rw [unhide HST]
      exact ⟨hb.trans (hb3.mono hb.size), v, rfl, own_mono hown hb.size⟩
end Go.Proofs.Ytiloacnjgaoceab
