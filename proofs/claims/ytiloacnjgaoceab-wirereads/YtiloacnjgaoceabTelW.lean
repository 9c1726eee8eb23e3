import Derived.Test.YtiloacnjgaoceabOwsM
namespace Go.Proofs.Ytiloacnjgaoceab
open Go.RowKit

/-- a step that writes something -/
def tellB (q : Stp) : Bool := decide (1 ≤ q.kind) && decide (q.kind ≤ 8) && (decide (q.kind ≠ 6) || decide (0 < q.b.n))
def tells (ss : List Stp) : List Stp := ss.filter tellB
theorem tells_snoc (ss : List Stp) (k : Nat) (q : Stp) (h : ss[k]? = some q) : tells (ss.take (k + 1)) = tells (ss.take k) ++ if tellB q then [q] else [] := by
  have hk : k < ss.length := by
    by_cases hl : k < ss.length
    · exact hl
    · rw [List.getElem?_eq_none (by omega)] at h; simp at h
  rw [List.take_succ_eq_append_getElem hk]
  rw [List.getElem?_eq_getElem hk] at h; simp at h
  rw [tells, List.filter_append, h]
  unfold tells
  by_cases ht : tellB q = true
  · simp [ht]
  · simp [ht]
theorem stp_cells (kd x n most : Int) (b : Sl) (l : Sq) : (⟨kd, x, b, l, n, most⟩ : Stp).cells = [.int .i64 kd, .int .u64 x, .slice b.a b.n b.c, .slice l.a l.n l.c, .int .i64 n, .int .i64 most] := rfl
theorem cell_new6 (w : World) (ty : TypeId) (cs : List Value) (g : Nat) (hg : g = w.heap.size) : ∀ (j : Nat) (u : Value), cs[j]? = some u → (w.alloc (.cells cs.toArray ty)).cell? ((⟨g, 0, none⟩ : Addr).add j) = some u := by
  subst hg
  intro j u hu
  have hA : Arr (w.alloc (.cells cs.toArray ty)) w.heap.size ty cs := Arr.new w _ cs
  rw [addr_add, Nat.zero_add, hA.cell j]; exact hu

set_option maxHeartbeats 2000000 in
set_option maxRecDepth 100000 in
theorem telling_any (s : Sps) (w : World) (hs : s.Ok w) (hn : s.n ≤ 300) :
    Calls Try.prog 10 #[s.v] w fun e w' => ∃ v, e = .returned v ∧ w'.ownsRow w.heap.size 34 6 v (tells s.ss).length (flat (tells s.ss)) ∧ Below w.heap.size w w' := by
  have hsv : s.v = .slice s.a s.n s.c := rfl
  have hlen := hs.len
  have hle := hs.le
  have hmx := hs.mx
  unfold maxLen at hmx
  obtain ⟨iS, hiS, hS0, hS1z, hS2⟩ := info_parts Try.infoStep
  rw [hsv]
  go_enter Try.func10, Try.ntmps10
  go_wp2_with fail
  go_loopw [3, 4, 5] (fun v i _p wr => ∃ k : Nat, k ≤ s.n ∧ i = .int .i64 k ∧ wr.ownsRow w.heap.size 34 6 v (tells (s.ss.take k)).length (flat (tells (s.ss.take k))) ∧ Below w.heap.size w wr) (fun _ i _ _ => s.n - (intOf i).toNat)
  case atStart => exact ⟨0, by omega, rfl, ⟨rfl, .inl ⟨rfl, rfl⟩⟩, Below.refl _ _⟩
  case round =>
    obtain ⟨k, hk, rfl, hown, hbl⟩ := hrel
    have hfl : (tells (s.ss.take k)).length ≤ k := by have := List.length_filter_le tellB (s.ss.take k); simp only [List.length_take] at this; unfold tells; omega
    obtain ⟨la, lc, rfl⟩ := own_parts hown
    by_cases hlt : k < s.n
    · obtain ⟨q, hq⟩ : ∃ q, s.ss[k]? = some q := ⟨_, List.getElem?_eq_getElem (by omega)⟩
      obtain ⟨bk, off, ha, hbk, c0, c1, c2, c3, c4, c5⟩ := (hs.later hbl).at_ hq
      have hsn := tells_snoc s.ss k q hq
      have hqb := (hs.all q (List.mem_of_getElem? hq)).b.mx
      have hqc := (hs.all q (List.mem_of_getElem? hq)).b.le
      unfold maxLen at hqb
      obtain ⟨acc, hacc⟩ : ∃ acc, tells (s.ss.take k) = acc := ⟨_, rfl⟩
      rw [hacc] at hown hsn hfl ⊢
      rw [ha]
      by_cases ht : tellB q = true
      · rw [if_pos ht] at hsn
        have HS := hide hsn
        have ht' := ht
        simp only [tellB, Bool.and_eq_true, Bool.or_eq_true, decide_eq_true_eq] at ht'
        obtain ⟨kd, x, b, l, n, most⟩ := q
        simp only at c0 c1 c2 c3 c4 c5 ht' hqb hqc
        obtain ⟨⟨h1, h8⟩, h6⟩ := ht'
        have hb1 := below_one wr (.cells #[.int .i64 kd, .int .u64 x, .slice b.a b.n b.c, .slice l.a l.n l.c, .int .i64 n, .int .i64 most] 34)
        have hb2 := below_one (wr.alloc (.cells #[.int .i64 kd, .int .u64 x, .slice b.a b.n b.c, .slice l.a l.n l.c, .int .i64 n, .int .i64 most] 34)) (.cells #[.int .i64 kd, .int .u64 x, .slice b.a b.n b.c, .slice l.a l.n l.c, .int .i64 n, .int .i64 most] 34)
        have hbb := hb1.trans (hb2.mono hb1.size)
        have hown2 := (Buts.of_below (S := fun _ => False) hbb).own hown (fun _ _ e => e)
        have hsz := hbl.size
        have hcel := cell_new6 (wr.alloc (.cells #[.int .i64 kd, .int .u64 x, .slice b.a b.n b.c, .slice l.a l.n l.c, .int .i64 n, .int .i64 most] 34)) 34 [.int .i64 kd, .int .u64 x, .slice b.a b.n b.c, .slice l.a l.n l.c, .int .i64 n, .int .i64 most] (wr.heap.size + 1) (by simp)
        have HX := hide (And.intro hown2 (And.intro hbb hcel))
        clear hsn ht hown2 hb1 hb2 hbb hcel hacc
        have hx6 : (kd != 6) = true ∨ ((kd != 6) = false ∧ 0 < b.n) := by
          rcases h6 with h | h
          · left; simpa using h
          · by_cases hh : kd = 6
            · right; exact ⟨by simp [hh], h⟩
            · left; simpa using hh
        clear h6
        rcases hx6 with h6 | ⟨h6, h6'⟩
        · go_wp2_with (
            at_builtin
            refine wpList_append_own_at rfl _ _ 22 rfl w.heap.size 34 iS (.agg #[.int .i64 0, .int .u64 0, .slice none 0 0, .slice none 0 0, .int .i64 0, .int .i64 0]) 6 80 Try.underlying22 hiS hS0 hS1z hS2 rfl (by decide) (.slice la acc.length lc) acc.length (flat acc) rfl (unhide HX).1 ⟨wr.heap.size + 1, 0, none⟩ 1 1 [.int .i64 kd, .int .u64 x, .slice b.a b.n b.c, .slice l.a l.n l.c, .int .i64 n, .int .i64 most] rfl rfl (unhide HX).2.2 (cells_one ⟨kd, x, b, l, n, most⟩) (by unfold maxLen; omega) (by omega) (by have := (unhide HX).2.1.size; omega) ?_
            intro v5 w5 hown5 hgrow5 hat5
            obtain ⟨la5, lc5, rfl⟩ := own_parts (unhide hown5))
          go_roundw
          case rel =>
            have hX := unhide HX
            have h5 := unhide hown5
            refine ⟨k + 1, by omega, by go_num, ?_, (hbl.trans (hX.2.1.mono hsz)).grown (unhide hgrow5) (Nat.le_trans hsz hX.2.1.size) (fun g hg => (hown.lt g hg).1)⟩
            rw [unhide HS, flat_snoc, List.length_append]
            exact h5
          case measure => simp [intOf]; omega
        · go_wp2_with (
            at_builtin
            refine wpList_append_own_at rfl _ _ 22 rfl w.heap.size 34 iS (.agg #[.int .i64 0, .int .u64 0, .slice none 0 0, .slice none 0 0, .int .i64 0, .int .i64 0]) 6 80 Try.underlying22 hiS hS0 hS1z hS2 rfl (by decide) (.slice la acc.length lc) acc.length (flat acc) rfl (unhide HX).1 ⟨wr.heap.size + 1, 0, none⟩ 1 1 [.int .i64 kd, .int .u64 x, .slice b.a b.n b.c, .slice l.a l.n l.c, .int .i64 n, .int .i64 most] rfl rfl (unhide HX).2.2 (cells_one ⟨kd, x, b, l, n, most⟩) (by unfold maxLen; omega) (by omega) (by have := (unhide HX).2.1.size; omega) ?_
            intro v5 w5 hown5 hgrow5 hat5
            obtain ⟨la5, lc5, rfl⟩ := own_parts (unhide hown5))
          go_roundw
          case rel =>
            have hX := unhide HX
            have h5 := unhide hown5
            refine ⟨k + 1, by omega, by go_num, ?_, (hbl.trans (hX.2.1.mono hsz)).grown (unhide hgrow5) (Nat.le_trans hsz hX.2.1.size) (fun g hg => (hown.lt g hg).1)⟩
            rw [unhide HS, flat_snoc, List.length_append]
            exact h5
          case measure => simp [intOf]; omega
      · rw [if_neg ht, List.append_nil] at hsn
        have HS := hide hsn
        have ht' : q.kind < 1 ∨ 8 < q.kind ∨ (q.kind = 6 ∧ q.b.n = 0) := by
          by_cases h1 : q.kind < 1
          · exact .inl h1
          by_cases h8 : 8 < q.kind
          · exact .inr (.inl h8)
          right; right
          by_cases h6 : q.kind = 6
          · refine ⟨h6, ?_⟩
            by_cases h0 : q.b.n = 0
            · exact h0
            · exact absurd (by simp only [tellB, Bool.and_eq_true, Bool.or_eq_true, decide_eq_true_eq]; omega) ht
          · exact absurd (by simp only [tellB, Bool.and_eq_true, Bool.or_eq_true, decide_eq_true_eq]; omega) ht
        obtain ⟨kd, x, b, l, n, most⟩ := q
        simp only at c0 c1 c2 c3 c4 c5 ht' hqb hqc
        have hb1 := below_one wr (.cells #[.int .i64 kd, .int .u64 x, .slice b.a b.n b.c, .slice l.a l.n l.c, .int .i64 n, .int .i64 most] 34)
        have hown2 := (Buts.of_below (S := fun _ => False) hb1).own hown (fun _ _ e => e)
        have hbb := hbl.trans (hb1.mono hbl.size)
        have HX := hide (And.intro hown2 hbb)
        clear hsn ht hown2 hb1 hbb hacc
        rcases ht' with h1 | h1 | ⟨h1, h2⟩
        · go_wp2_with fail
          go_roundw
          case rel => exact ⟨k + 1, by omega, by go_num, by rw [unhide HS]; exact (unhide HX).1, (unhide HX).2⟩
          case measure => simp [intOf]; omega
        · go_wp2_with fail
          go_roundw
          case rel => exact ⟨k + 1, by omega, by go_num, by rw [unhide HS]; exact (unhide HX).1, (unhide HX).2⟩
          case measure => simp [intOf]; omega
        · subst h1
          rw [h2] at HX
          go_wp2_with fail
          go_roundw
          case rel => exact ⟨k + 1, by omega, by go_num, by rw [unhide HS]; exact (unhide HX).1, (unhide HX).2⟩
          case measure => simp [intOf]; omega
    · have : k = s.n := by omega
      subst this
      have HT : Hid (s.ss.take s.n = s.ss) := hide (List.take_of_length_le (by omega))
      rw [unhide HT] at hown ⊢
      go_wp2_with fail
      go_ret
      exact ⟨_, rfl, hown, hbl⟩
end Go.Proofs.Ytiloacnjgaoceab
