import Derived.Test.YtipmgnigejpfjaaExpX
import Derived.Test.YtipmgnigejpfjaaGrA
import Derived.Deep.QuietTactic
import Derived.BigQuiet
namespace Go.Proofs.Ytipmgnigejpfjaa
open Go.RowKit

/-- bytes, bit by bit -/
def xorL (a b : List Int) : List Int := (List.range a.length).map fun i => bits .xor .u8 (a.getD i 0) (b.getD i 0)
@[simp] theorem xorL_length (a b : List Int) : (xorL a b).length = a.length := by simp [xorL]

theorem ret_bool {a b : Bool} (h : a = b) : Ending.returned (.bool a) = .returned (.bool b) := by rw [h]

set_option maxHeartbeats 1000000 in
set_option maxRecDepth 100000 in
theorem xor_no (a b : Option Addr) (n m c d : Nat) (w : World) (h : n ≠ m) :
    Calls Try.prog 41 #[.slice a n c, .slice b m d] w fun e w' => e = .returned (.tuple #[.slice none 0 0, .bool false]) ∧ w' = w := by
  have hb : ((n : Int) != (m : Int)) = true := by rw [bne_iff_ne]; omega
  go_enter Try.func41, Try.ntmps41
  go_wp2
  go_ret2
  exact ⟨rfl, rfl⟩

set_option maxHeartbeats 2000000 in
set_option maxRecDepth 100000 in
theorem xor_ok (s t : Sl) (w : World) (hs : s.Ok w) (ht : t.Ok w) (hnm : s.n = t.n) (hn : s.n ≤ 1099511627776) :
    Calls Try.prog 41 #[s.v, t.v] w fun e w' => e = .returned (.tuple #[.slice (some ⟨w.heap.size, 0, none⟩) s.n s.n, .bool true]) ∧
      w'.ownsRow w.heap.size 5 1 (.slice (some ⟨w.heap.size, 0, none⟩) s.n s.n) s.n (U8 (xorL s.l t.l)) ∧ Below w.heap.size w w' := by
  obtain ⟨i0, hi, hz0, hz1, hz2⟩ := info_parts Try.infoB
  obtain ⟨a, n, c, la⟩ := s
  obtain ⟨b, m, d, lb⟩ := t
  simp only [Sl.v] at hnm hn ⊢
  subst hnm
  have hla := hs.len
  have hlb := ht.len
  simp only at hla hlb
  have HA := hide hla
  have HB := hide hlb
  have hbs : i0.bytes * n ≤ 281474976710656 := by rw [hz2]; omega
  have hmx : n ≤ maxLen := by unfold maxLen; omega
  have hne : ((n : Int) != (n : Int)) = false := by simp
  clear hla hlb
  go_enter Try.func41, Try.ntmps41
  go_wp2_with (at_make; refine wpList_make_full _ rfl _ _ 28 rfl w.heap.size 5 i0 (.int .u8 0) 1 Try.underlying28 hi hz0 hz1 .i64 .i64 n n n rfl rfl rfl rfl hbs hmx (Nat.le_refl _) ?_)
  intro w1 hown hgrow
  have hb1 : Below w.heap.size w w1 := (Below.refl _ _).grown hgrow (Nat.le_refl _) (fun _ h => by cases h)
  have hown0 : w1.ownsRow w.heap.size 5 1 (.slice (some ⟨w.heap.size, 0, none⟩) n n) n (U8 (fill n (fun i => bits .xor .u8 (la.getD i 0) (lb.getD i 0)) 0)) := by
    rw [fill_zero, ← made_U8, Nat.mul_one]; exact hown
  clear hown hgrow
  go_wp2
  go_loopw [18] (fun i wr => ∃ k : Nat, k ≤ n ∧ i = .int .i64 k ∧ wr.ownsRow w.heap.size 5 1 (.slice (some ⟨w.heap.size, 0, none⟩) n n) n (U8 (fill n (fun i => bits .xor .u8 (la.getD i 0) (lb.getD i 0)) k)) ∧ Below w.heap.size w wr)
    (fun i _ => n - (intOf i).toNat)
  case atStart => exact ⟨0, by omega, rfl, hown0, hb1⟩
  case round =>
    obtain ⟨k, hk, rfl, hown, hbl⟩ := hrel
    clear hown0 hb1
    by_cases hlt : k < n
    · have hfz := hown.frozenAt k
      have hcl := (hown.cellAt k (by omega)).trans (U8_at _ k (by simpa using hlt))
      obtain ⟨ab, ao, rfl, hab, hac⟩ := (hs.later hbl).lies (by simp only; rw [unhide HA]; omega)
      obtain ⟨bb, bo, rfl, hbb, hbc⟩ := (ht.later hbl).lies (by simp only; rw [unhide HB]; omega)
      have ca := hac k (by simp only; rw [unhide HA]; omega)
      have cb := hbc k (by simp only; rw [unhide HB]; omega)
      simp only at ca cb
      have hkn' : (k : Int) < (n : Int) := by omega
      have HS := hide hs
      have HT := hide ht
      clear hac hbc hs ht
      generalize hx : la.getD k 0 = x at ca
      generalize hy : lb.getD k 0 = y at cb
      have HX := hide hx
      have HY := hide hy
      generalize hz : (fill n (fun i => bits .xor .u8 (la.getD i 0) (lb.getD i 0)) k).getD k 0 = z at hcl
      clear hx hy hz
      go_wp2
      go_region
      go_wp2
      go_roundw
      case rel =>
        have hst := (hown.stored k (.int .u8 (bits .xor .u8 x y))).1
        rw [← unhide HX, ← unhide HY, U8_set, fill_set n (fun i => bits .xor .u8 (la.getD i 0) (lb.getD i 0)) k] at hst
        rw [← unhide HX, ← unhide HY]
        exact ⟨k + 1, by omega, by go_num, hst.drew, (hbl.setCell (Nat.le_refl _) _).drew⟩
      case measure => simp [intOf]; omega
    · go_wp2
      go_ret2
      have : k = n := by omega
      subst this
      rw [fill_all] at hown
      refine ⟨rfl, ?_, hbl⟩
      have e : xorL la lb = (List.range k).map fun i => bits .xor .u8 (la.getD i 0) (lb.getD i 0) := by unfold xorL; rw [unhide HA]
      rw [e]; exact hown

set_option maxHeartbeats 1000000 in
set_option maxRecDepth 100000 in
theorem same_no (a b : Option Addr) (n m c d : Nat) (w : World) (h : n ≠ m) :
    Calls Try.prog 14 #[.slice a n c, .slice b m d] w fun e w' => e = .returned (.bool false) ∧ ∃ k, w' = w.drewN k := by
  have hb : ((n : Int) != (m : Int)) = true := by rw [bne_iff_ne]; omega
  go_enter Try.func14, Try.ntmps14
  go_wp2
  go_ret
  exact ⟨rfl, 0, rfl⟩

theorem differ (l m : List Int) (h : l.length = m.length) (hne : l ≠ m) : ∃ i, i < l.length ∧ l.getD i 0 ≠ m.getD i 0 ∧ ∀ j, j < i → l.getD j 0 = m.getD j 0 := by
  induction l generalizing m with
  | nil => cases m <;> simp_all
  | cons x r ih =>
    cases m with
    | nil => simp at h
    | cons y q =>
      by_cases hxy : x = y
      · subst hxy
        obtain ⟨i, hi, h1, h2⟩ := ih q (by simpa using h) (fun e => hne (by rw [e]))
        refine ⟨i + 1, by simpa using hi, by simpa using h1, fun j hj => ?_⟩
        cases j with
        | zero => simp
        | succ j => simpa using h2 j (by omega)
      · exact ⟨0, by simp, by simpa using hxy, fun j hj => by omega⟩

set_option maxHeartbeats 1000000 in
set_option maxRecDepth 100000 in
theorem same_ok (s t : Sl) (w : World) (hs : s.Ok w) (ht : t.Ok w) (hnm : s.n = t.n) (hn : s.n ≤ 1099511627776) :
    Calls Try.prog 14 #[s.v, t.v] w fun e w' => e = .returned (.bool (decide (s.l = t.l))) ∧ ∃ k, w' = w.drewN k := by
  obtain ⟨a, n, c, la⟩ := s
  obtain ⟨b, m, d, lb⟩ := t
  simp only [Sl.v] at hnm hn ⊢
  subst hnm
  have hla := hs.len
  have hlb := ht.len
  simp only at hla hlb
  have HA := hide hla
  have HB := hide hlb
  clear hla hlb
  have hne : ((n : Int) != (n : Int)) = false := by simp
  go_enter Try.func14, Try.ntmps14
  go_wp2
  go_loopw [5] (fun i wr => ∃ k q : Nat, k ≤ n ∧ i = .int .i64 k ∧ wr = w.drewN q ∧ ∀ j, j < k → la.getD j 0 = lb.getD j 0) (fun i _ => n - (intOf i).toNat)
  case atStart => exact ⟨0, 0, by omega, rfl, rfl, by omega⟩
  case round =>
    obtain ⟨k, q, hk, rfl, rfl, heq⟩ := hrel
    have HE := hide heq
    clear heq
    by_cases hlt : k < n
    · obtain ⟨ab, ao, rfl, hab, hac⟩ := hs.lies (by simp only; rw [unhide HA]; omega)
      obtain ⟨bb, bo, rfl, hbb, hbc⟩ := ht.lies (by simp only; rw [unhide HB]; omega)
      have ca := hac k (by simp only; rw [unhide HA]; omega)
      have cb := hbc k (by simp only; rw [unhide HB]; omega)
      simp only at ca cb
      have hkn' : (k : Int) < (n : Int) := by omega
      have HS := hide hs
      have HT := hide ht
      clear hac hbc hs ht
      generalize hx : la.getD k 0 = x at ca
      generalize hy : lb.getD k 0 = y at cb
      have HX := hide hx
      have HY := hide hy
      clear hx hy
      obtain ⟨W, hW⟩ : ∃ W, W = w.drewN q := ⟨_, rfl⟩
      have ca' : W.cell? ⟨ab, ao + k, none⟩ = some (.int .u8 x) := by rw [hW]; exact ca
      have cb' : W.cell? ⟨bb, bo + k, none⟩ = some (.int .u8 y) := by rw [hW]; exact cb
      rw [← hW]
      have HW := hide hW
      clear hW ca cb
      by_cases hxy : x = y
      · have hb : (x != y) = false := by simp [hxy]
        have HXY := hide hxy
        clear hxy
        go_wp2
        go_quiet (fail)
        go_wp2
        go_roundw
        case rel =>
          refine ⟨k + 1, q + nq, by omega, by go_num, by rw [unhide HW, World.drewN_drewN], fun j hj => ?_⟩
          by_cases hjk : j = k
          · subst hjk; rw [unhide HX, unhide HY]; exact unhide HXY
          · exact unhide HE j (by omega)
        case measure => simp [intOf]; omega
      · have hb : (x != y) = true := by simp [hxy]
        have HXY := hide hxy
        clear hxy
        go_wp2
        go_quiet (fail)
        go_wp2
        go_ret
        refine ⟨ret_bool ?_, q + nq, by rw [unhide HW, World.drewN_drewN]⟩
        symm; rw [decide_eq_false_iff_not]
        intro e; apply unhide HXY; rw [← unhide HX, ← unhide HY, e]
    · go_wp2
      go_ret
      refine ⟨ret_bool ?_, q, rfl⟩
      symm; rw [decide_eq_true_iff]
      apply Classical.byContradiction
      intro hne
      obtain ⟨i, hi, h1, h2⟩ := differ la lb (by rw [unhide HA, unhide HB]) hne
      exact h1 (unhide HE i (by rw [unhide HA] at hi; omega))
end Go.Proofs.Ytipmgnigejpfjaa
