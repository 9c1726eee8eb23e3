import Derived.Test.YtiloacnjgaoceabTelW
namespace Go.Proofs.Ytiloacnjgaoceab
open Go.RowKit

/-- the bound that holds -/
def fitM (most : Int) (bn qn : Nat) : Int := if (if most < (bn : Int) then (bn : Int) else most) < (qn : Int) then (qn : Int) else if most < (bn : Int) then (bn : Int) else most
def fit (q : Stp) : Stp := ⟨q.kind, q.x, q.b, q.q, q.b.n, fitM q.most q.b.n q.q.n⟩
theorem fit_snoc (ss : List Stp) (k : Nat) (q : Stp) (h : ss[k]? = some q) : (ss.take (k + 1)).map fit = (ss.take k).map fit ++ [fit q] := by
  have hk : k < ss.length := by
    by_cases hl : k < ss.length
    · exact hl
    · rw [List.getElem?_eq_none (by omega)] at h; simp at h
  rw [List.take_succ_eq_append_getElem hk]
  rw [List.getElem?_eq_getElem hk] at h; simp at h
  simp [h]

set_option maxHeartbeats 4000000 in
set_option maxRecDepth 100000 in
theorem fitting_any (s : Sps) (w : World) (hs : s.Ok w) (hn : s.n ≤ 300) :
    Calls Try.prog 9 #[s.v] w fun e w' => ∃ v, e = .returned v ∧ w'.ownsRow w.heap.size 34 6 v (s.ss.map fit).length (flat (s.ss.map fit)) ∧ Below w.heap.size w w' := by
  have hsv : s.v = .slice s.a s.n s.c := rfl
  have hlen := hs.len
  have hle := hs.le
  have hmx := hs.mx
  unfold maxLen at hmx
  obtain ⟨iS, hiS, hS0, hS1z, hS2⟩ := info_parts Try.infoStep
  rw [hsv]
  go_enter Try.func9, Try.ntmps9
  go_wp2_with fail
  go_loopw [3, 4, 5] (fun v i _p wr => ∃ k : Nat, k ≤ s.n ∧ i = .int .i64 k ∧ wr.ownsRow w.heap.size 34 6 v ((s.ss.take k).map fit).length (flat ((s.ss.take k).map fit)) ∧ Below w.heap.size w wr) (fun _ i _ _ => s.n - (intOf i).toNat)
  case atStart => exact ⟨0, by omega, rfl, ⟨rfl, .inl ⟨rfl, rfl⟩⟩, Below.refl _ _⟩
  case round =>
    obtain ⟨k, hk, rfl, hown, hbl⟩ := hrel
    have hfl : ((s.ss.take k).map fit).length ≤ k := by simp; omega
    obtain ⟨la, lc, rfl⟩ := own_parts hown
    by_cases hlt : k < s.n
    · obtain ⟨q, hq⟩ : ∃ q, s.ss[k]? = some q := ⟨_, List.getElem?_eq_getElem (by omega)⟩
      obtain ⟨bk, off, ha, hbk, c0, c1, c2, c3, c4, c5⟩ := (hs.later hbl).at_ hq
      have hsn := fit_snoc s.ss k q hq
      have hqb := (hs.all q (List.mem_of_getElem? hq)).b.mx
      have hqc := (hs.all q (List.mem_of_getElem? hq)).b.le
      have hlb := (hs.all q (List.mem_of_getElem? hq)).q.mx
      have hlc := (hs.all q (List.mem_of_getElem? hq)).q.le
      unfold maxLen at hqb hlb
      obtain ⟨acc, hacc⟩ : ∃ acc, (s.ss.take k).map fit = acc := ⟨_, rfl⟩
      rw [hacc] at hown hsn hfl ⊢
      rw [ha]
      obtain ⟨kd, x, b, l, n, most⟩ := q
      simp only at c0 c1 c2 c3 c4 c5 hqb hqc hlb hlc
      have hsz := hbl.size
      have HS0 : ∀ m, fitM most b.n l.n = m → (s.ss.take (k + 1)).map fit = acc ++ [⟨kd, x, b, l, b.n, m⟩] := fun m hm => by rw [hsn]; simp only [fit]; rw [hm]
      clear hsn hacc
      by_cases h1 : most < (b.n : Int)
      · by_cases h2 : (b.n : Int) < (l.n : Int)
        · have hsn := HS0 l.n (by unfold fitM; omega)
          have HS := hide hsn
          have hb1 := below_one wr (.cells #[.int .i64 kd, .int .u64 x, .slice b.a b.n b.c, .slice l.a l.n l.c, .int .i64 b.n, .int .i64 l.n] 34)
          have hb2 := below_one (wr.alloc (.cells #[.int .i64 kd, .int .u64 x, .slice b.a b.n b.c, .slice l.a l.n l.c, .int .i64 b.n, .int .i64 l.n] 34)) (.cells #[.int .i64 kd, .int .u64 x, .slice b.a b.n b.c, .slice l.a l.n l.c, .int .i64 b.n, .int .i64 l.n] 34)
          have hbb := hb1.trans (hb2.mono hb1.size)
          have hown2 := (Buts.of_below (S := fun _ => False) hbb).own hown (fun _ _ e => e)
          have hcel := cell_new6 (wr.alloc (.cells #[.int .i64 kd, .int .u64 x, .slice b.a b.n b.c, .slice l.a l.n l.c, .int .i64 b.n, .int .i64 l.n] 34)) 34 [.int .i64 kd, .int .u64 x, .slice b.a b.n b.c, .slice l.a l.n l.c, .int .i64 b.n, .int .i64 l.n] (wr.heap.size + 1) (by simp)
          have HX := hide (And.intro hown2 (And.intro hbb hcel))
          clear hsn hown2 hb1 hb2 hbb hcel HS0
          go_wp2_with (
            at_builtin
            refine wpList_append_own_at rfl _ _ 22 rfl w.heap.size 34 iS (.agg #[.int .i64 0, .int .u64 0, .slice none 0 0, .slice none 0 0, .int .i64 0, .int .i64 0]) 6 80 Try.underlying22 hiS hS0 hS1z hS2 rfl (by decide) (.slice la acc.length lc) acc.length (flat acc) rfl (unhide HX).1 ⟨wr.heap.size + 1, 0, none⟩ 1 1 [.int .i64 kd, .int .u64 x, .slice b.a b.n b.c, .slice l.a l.n l.c, .int .i64 b.n, .int .i64 l.n] rfl rfl (unhide HX).2.2 (cells_one ⟨kd, x, b, l, b.n, l.n⟩) (by unfold maxLen; omega) (by omega) (by have := (unhide HX).2.1.size; omega) ?_
            intro v5 w5 hown5 hgrow5 hat5
            obtain ⟨la5, lc5, rfl⟩ := own_parts (unhide hown5))
          go_roundw
          case rel =>
            have hX := unhide HX
            have h5 := unhide hown5
            refine ⟨k + 1, by omega, by go_num, ?_, (hbl.trans (hX.2.1.mono hsz)).grown (unhide hgrow5) (Nat.le_trans hsz hX.2.1.size) (fun g hg => (hown.lt g hg).1)⟩
            rw [unhide HS, flat_snoc, List.length_append]
            exact h5
          case measure => simp [intOf]; omega
        · have hsn := HS0 b.n (by unfold fitM; omega)
          have HS := hide hsn
          have hb1 := below_one wr (.cells #[.int .i64 kd, .int .u64 x, .slice b.a b.n b.c, .slice l.a l.n l.c, .int .i64 b.n, .int .i64 b.n] 34)
          have hb2 := below_one (wr.alloc (.cells #[.int .i64 kd, .int .u64 x, .slice b.a b.n b.c, .slice l.a l.n l.c, .int .i64 b.n, .int .i64 b.n] 34)) (.cells #[.int .i64 kd, .int .u64 x, .slice b.a b.n b.c, .slice l.a l.n l.c, .int .i64 b.n, .int .i64 b.n] 34)
          have hbb := hb1.trans (hb2.mono hb1.size)
          have hown2 := (Buts.of_below (S := fun _ => False) hbb).own hown (fun _ _ e => e)
          have hcel := cell_new6 (wr.alloc (.cells #[.int .i64 kd, .int .u64 x, .slice b.a b.n b.c, .slice l.a l.n l.c, .int .i64 b.n, .int .i64 b.n] 34)) 34 [.int .i64 kd, .int .u64 x, .slice b.a b.n b.c, .slice l.a l.n l.c, .int .i64 b.n, .int .i64 b.n] (wr.heap.size + 1) (by simp)
          have HX := hide (And.intro hown2 (And.intro hbb hcel))
          clear hsn hown2 hb1 hb2 hbb hcel HS0
          go_wp2_with (
            at_builtin
            refine wpList_append_own_at rfl _ _ 22 rfl w.heap.size 34 iS (.agg #[.int .i64 0, .int .u64 0, .slice none 0 0, .slice none 0 0, .int .i64 0, .int .i64 0]) 6 80 Try.underlying22 hiS hS0 hS1z hS2 rfl (by decide) (.slice la acc.length lc) acc.length (flat acc) rfl (unhide HX).1 ⟨wr.heap.size + 1, 0, none⟩ 1 1 [.int .i64 kd, .int .u64 x, .slice b.a b.n b.c, .slice l.a l.n l.c, .int .i64 b.n, .int .i64 b.n] rfl rfl (unhide HX).2.2 (cells_one ⟨kd, x, b, l, b.n, b.n⟩) (by unfold maxLen; omega) (by omega) (by have := (unhide HX).2.1.size; omega) ?_
            intro v5 w5 hown5 hgrow5 hat5
            obtain ⟨la5, lc5, rfl⟩ := own_parts (unhide hown5))
          go_roundw
          case rel =>
            have hX := unhide HX
            have h5 := unhide hown5
            refine ⟨k + 1, by omega, by go_num, ?_, (hbl.trans (hX.2.1.mono hsz)).grown (unhide hgrow5) (Nat.le_trans hsz hX.2.1.size) (fun g hg => (hown.lt g hg).1)⟩
            rw [unhide HS, flat_snoc, List.length_append]
            exact h5
          case measure => simp [intOf]; omega
      · by_cases h2 : most < (l.n : Int)
        · have hsn := HS0 l.n (by unfold fitM; omega)
          have HS := hide hsn
          have hb1 := below_one wr (.cells #[.int .i64 kd, .int .u64 x, .slice b.a b.n b.c, .slice l.a l.n l.c, .int .i64 b.n, .int .i64 l.n] 34)
          have hb2 := below_one (wr.alloc (.cells #[.int .i64 kd, .int .u64 x, .slice b.a b.n b.c, .slice l.a l.n l.c, .int .i64 b.n, .int .i64 l.n] 34)) (.cells #[.int .i64 kd, .int .u64 x, .slice b.a b.n b.c, .slice l.a l.n l.c, .int .i64 b.n, .int .i64 l.n] 34)
          have hbb := hb1.trans (hb2.mono hb1.size)
          have hown2 := (Buts.of_below (S := fun _ => False) hbb).own hown (fun _ _ e => e)
          have hcel := cell_new6 (wr.alloc (.cells #[.int .i64 kd, .int .u64 x, .slice b.a b.n b.c, .slice l.a l.n l.c, .int .i64 b.n, .int .i64 l.n] 34)) 34 [.int .i64 kd, .int .u64 x, .slice b.a b.n b.c, .slice l.a l.n l.c, .int .i64 b.n, .int .i64 l.n] (wr.heap.size + 1) (by simp)
          have HX := hide (And.intro hown2 (And.intro hbb hcel))
          clear hsn hown2 hb1 hb2 hbb hcel HS0
          go_wp2_with (
            at_builtin
            refine wpList_append_own_at rfl _ _ 22 rfl w.heap.size 34 iS (.agg #[.int .i64 0, .int .u64 0, .slice none 0 0, .slice none 0 0, .int .i64 0, .int .i64 0]) 6 80 Try.underlying22 hiS hS0 hS1z hS2 rfl (by decide) (.slice la acc.length lc) acc.length (flat acc) rfl (unhide HX).1 ⟨wr.heap.size + 1, 0, none⟩ 1 1 [.int .i64 kd, .int .u64 x, .slice b.a b.n b.c, .slice l.a l.n l.c, .int .i64 b.n, .int .i64 l.n] rfl rfl (unhide HX).2.2 (cells_one ⟨kd, x, b, l, b.n, l.n⟩) (by unfold maxLen; omega) (by omega) (by have := (unhide HX).2.1.size; omega) ?_
            intro v5 w5 hown5 hgrow5 hat5
            obtain ⟨la5, lc5, rfl⟩ := own_parts (unhide hown5))
          go_roundw
          case rel =>
            have hX := unhide HX
            have h5 := unhide hown5
            refine ⟨k + 1, by omega, by go_num, ?_, (hbl.trans (hX.2.1.mono hsz)).grown (unhide hgrow5) (Nat.le_trans hsz hX.2.1.size) (fun g hg => (hown.lt g hg).1)⟩
            rw [unhide HS, flat_snoc, List.length_append]
            exact h5
          case measure => simp [intOf]; omega
        · have hsn := HS0 most (by unfold fitM; omega)
          have HS := hide hsn
          have hb1 := below_one wr (.cells #[.int .i64 kd, .int .u64 x, .slice b.a b.n b.c, .slice l.a l.n l.c, .int .i64 b.n, .int .i64 most] 34)
          have hb2 := below_one (wr.alloc (.cells #[.int .i64 kd, .int .u64 x, .slice b.a b.n b.c, .slice l.a l.n l.c, .int .i64 b.n, .int .i64 most] 34)) (.cells #[.int .i64 kd, .int .u64 x, .slice b.a b.n b.c, .slice l.a l.n l.c, .int .i64 b.n, .int .i64 most] 34)
          have hbb := hb1.trans (hb2.mono hb1.size)
          have hown2 := (Buts.of_below (S := fun _ => False) hbb).own hown (fun _ _ e => e)
          have hcel := cell_new6 (wr.alloc (.cells #[.int .i64 kd, .int .u64 x, .slice b.a b.n b.c, .slice l.a l.n l.c, .int .i64 b.n, .int .i64 most] 34)) 34 [.int .i64 kd, .int .u64 x, .slice b.a b.n b.c, .slice l.a l.n l.c, .int .i64 b.n, .int .i64 most] (wr.heap.size + 1) (by simp)
          have HX := hide (And.intro hown2 (And.intro hbb hcel))
          clear hsn hown2 hb1 hb2 hbb hcel HS0
          go_wp2_with (
            at_builtin
            refine wpList_append_own_at rfl _ _ 22 rfl w.heap.size 34 iS (.agg #[.int .i64 0, .int .u64 0, .slice none 0 0, .slice none 0 0, .int .i64 0, .int .i64 0]) 6 80 Try.underlying22 hiS hS0 hS1z hS2 rfl (by decide) (.slice la acc.length lc) acc.length (flat acc) rfl (unhide HX).1 ⟨wr.heap.size + 1, 0, none⟩ 1 1 [.int .i64 kd, .int .u64 x, .slice b.a b.n b.c, .slice l.a l.n l.c, .int .i64 b.n, .int .i64 most] rfl rfl (unhide HX).2.2 (cells_one ⟨kd, x, b, l, b.n, most⟩) (by unfold maxLen; omega) (by omega) (by have := (unhide HX).2.1.size; omega) ?_
            intro v5 w5 hown5 hgrow5 hat5
            obtain ⟨la5, lc5, rfl⟩ := own_parts (unhide hown5))
          go_roundw
          case rel =>
            have hX := unhide HX
            have h5 := unhide hown5
            refine ⟨k + 1, by omega, by go_num, ?_, (hbl.trans (hX.2.1.mono hsz)).grown (unhide hgrow5) (Nat.le_trans hsz hX.2.1.size) (fun g hg => (hown.lt g hg).1)⟩
            rw [unhide HS, flat_snoc, List.length_append]
            exact h5
          case measure => simp [intOf]; omega
    · have : k = s.n := by omega
      subst this
      have HT : Hid (s.ss.take s.n = s.ss) := hide (List.take_of_length_le (by omega))
      rw [unhide HT] at hown ⊢
      go_wp2_with fail
      go_ret
      exact ⟨_, rfl, hown, hbl⟩
end Go.Proofs.Ytiloacnjgaoceab
