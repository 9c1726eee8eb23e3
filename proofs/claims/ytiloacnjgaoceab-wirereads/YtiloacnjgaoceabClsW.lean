import Derived.Test.YtiloacnjgaoceabCntW
import Derived.Test.YtiloacnjgaoceabMemX
namespace Go.Proofs.Ytiloacnjgaoceab
open Go.RowKit

theorem cat_one (s : Sl) : cat [s] = s.l := by simp [cat]

/-- what is joined is new -/
theorem join_one (s : Sl) (w : World) (hs : s.Ok w) (hm : s.n ≤ 1099511627776) :
    Calls Try.prog 28 #[.slice (some ⟨w.heap.size, 0, none⟩) 1 1] (w.alloc (.cells #[s.v] 23)) fun e w' => ∃ v, e = .returned v ∧ w'.ownsRow (w.heap.size + 1) 5 1 v s.l.length (U8 s.l) ∧ Below w.heap.size w w' := by
  have hb : Below w.heap.size w (w.alloc (.cells #[s.v] 23)) := (Below.refl _ _).alloc (Nat.le_refl _) _
  have hA : Arr (w.alloc (.cells #[s.v] 23)) w.heap.size 23 [s.v] := Arr.new w _ [s.v]
  have hsz : (w.alloc (.cells #[s.v] 23)).heap.size = w.heap.size + 1 := by simp
  refine (join_any (some ⟨w.heap.size, 0, none⟩) 1 [s] (w.alloc (.cells #[s.v] 23)) ?_ ?_ (by simp) (by rw [cat_one, hs.len]; exact hm)).mono ?_
  · intro _
    refine ⟨w.heap.size, 0, rfl, by omega, fun i v hi => ?_⟩
    rw [Nat.zero_add, hA.cell i]
    simpa using hi
  · intro t ht
    simp at ht; subst ht
    exact hs.later hb
  · rintro e w' ⟨rfl, hown, hbel⟩
    rw [cat_one, hsz] at hown
    exact ⟨_, by rw [cat_one, hsz], hown, hb.trans (hbel.mono (by omega))⟩

set_option maxHeartbeats 1000000 in
set_option maxRecDepth 100000 in
theorem fixed1_any (u bx : Nat) (s : Sl) (n : Int) (w : World) (h : Unr w u s) (hb : Arr w bx 3 [.int .i64 n]) (hm : s.n ≤ 1099511627776) :
    Calls Try.prog 41 #[.pointer (some ⟨u, 0, none⟩), .pointer (some ⟨bx, 0, none⟩)] w (Prs isL u s (pFixed n s.l) w) := by
  have cb : w.cell? ⟨bx, 0, none⟩ = some (.int .i64 n) := by simpa using hb.cell 0
  have hlen := h.ok.len
  by_cases hn : n < 0 ∨ (s.n : Int) < n
  · have HP : Hid (pFixed n s.l = .error 90) := by unfold pFixed; rw [if_pos (by rw [hlen]; exact hn)]; exact hide rfl
    have hT := take_no u s n w h hn
    clear hn
    go_enter Try.func41, Try.ntmps41
    go_wp2_with (go_at_call 42; refine hT.mono ?_; rintro e w' ⟨rfl, rfl⟩; unfold gives)
    exact ⟨rfl, Prs.no (unhide HP) (But.refl _ _)⟩
  · obtain ⟨k, rfl⟩ : ∃ k : Nat, n = k := ⟨n.toNat, by omega⟩
    have hk : k ≤ s.n := by omega
    have HP : Hid (pFixed k s.l = .ok (s.l.take k, s.l.drop k)) := by unfold pFixed; rw [if_neg (by rw [hlen]; exact hn)]; exact hide rfl
    have hT := take_ok u s k w h hk
    have hset := h.set hk
    have hpre := (Unr.but (w := w) (u := u) (s.cut k).v).ok (h.ok.pre hk) (Sl.off_same (s := s) (t := s.pre k) (fun x hx => ⟨x, hx, rfl⟩) (by simp only [Sl.pre, List.length_take]; omega) h.off)
    have hJ := join_one (s.pre k) (w.setCell ⟨u, 0, none⟩ (s.cut k).v) hpre (by simp only [Sl.pre]; omega)
    have hpv : (s.pre k).v = .slice s.a k s.c := rfl
    rw [hpv] at hT hJ
    have HL : Hid ((s.pre k).l = s.l.take k) := hide rfl
    clear hn
    go_enter Try.func41, Try.ntmps41
    go_wp2_with (first
      | (go_at_call 42; refine hT.mono ?_; rintro e w' ⟨rfl, rfl⟩)
      | (go_at_call 28; refine Calls.mono (by simpa using hJ) ?_; rintro e w' ⟨v, rfl, hown, hbel⟩))
    go_ret
    rw [unhide HL] at hown
    have hs0 : (w.setCell ⟨u, 0, none⟩ (s.cut k).v).heap.size = w.heap.size := by simp
    rw [← hs0] at hbel
    have hbut : But u w w' := ((Unr.but (w := w) (u := u) (s.cut k).v)).trans (But.of_below hbel)
    refine Prs.yes (unhide HP) hbut ?_ ⟨hset.arr.later hbel, hset.ok.later hbel, hset.off⟩ rfl (s.same_cut k)
    exact ⟨own_mono hown (by simp), h.ok.isB.take k⟩

set_option maxHeartbeats 1000000 in
set_option maxRecDepth 100000 in
theorem bytes1_any (u bx : Nat) (s : Sl) (most : Int) (w : World) (h : Unr w u s) (hb : Arr w bx 3 [.int .i64 most]) (hmo : most ≤ 9223372036854775807) (hm : s.n ≤ 1099511627776) :
    Calls Try.prog 72 #[.pointer (some ⟨u, 0, none⟩), .pointer (some ⟨bx, 0, none⟩)] w (Prs isL u s (pBytes most s.l) w) := by
  have cb : w.cell? ⟨bx, 0, none⟩ = some (.int .i64 most) := by simpa using hb.cell 0
  have hC := count_any u s most w h hmo
  cases hP : pCount most s.l with
  | error c =>
    have HP : Hid (pBytes most s.l = .error c) := by unfold pBytes; rw [hP]; exact hide rfl
    have HC := hide hP
    clear hP
    go_enter Try.func72, Try.ntmps72
    go_wp2_with (go_at_call 73; refine hC.mono ?_; rintro e w' ⟨hB, he⟩; rw [unhide HC] at he; simp only [gives] at he; subst he)
    exact ⟨rfl, Prs.no (unhide HP) hB⟩
  | ok q =>
    obtain ⟨k, r⟩ := q
    have HP : Hid (pBytes most s.l = .ok (r.take k, r.drop k)) := by unfold pBytes; rw [hP]; exact hide rfl
    have hkr : k ≤ r.length ∧ r.length ≤ s.l.length := by
      unfold pCount at hP
      cases hD : shoD s.l with
      | none => rw [hD] at hP; simp at hP
      | some z =>
        obtain ⟨y, r'⟩ := z
        rw [hD] at hP
        simp only at hP
        split at hP
        · simp at hP
        split at hP
        · simp at hP
        simp only [Except.ok.injEq, Prod.mk.injEq] at hP
        obtain ⟨rfl, rfl⟩ := hP
        have := (shoD_form h.ok.isB hD).1
        have h2 : s.l.length = (sho y ++ r').length := by rw [← this]
        rw [List.length_append] at h2
        omega
    have HC := hide hP
    clear hP
    go_enter Try.func72, Try.ntmps72
    go_wp2_with (first
      | (go_at_call 73; refine hC.mono ?_; rintro e w1 ⟨hB, he⟩; rw [unhide HC] at he; obtain ⟨v, t, rfl, hv, hU, hr, hs⟩ := he; simp only [isN] at hv; subst hv)
      | (have hk : k ≤ t.n := by (rw [← hU.ok.len, hr]; exact hkr.1)
         have hT := take_ok u t k w1 hU hk
         have hset := hU.set hk
         have hpre := (Unr.but (w := w1) (u := u) (t.cut k).v).ok (hU.ok.pre hk) (Sl.off_same (s := t) (t := t.pre k) (fun x hx => ⟨x, hx, rfl⟩) (by simp only [Sl.pre, List.length_take]; omega) hU.off)
         have htn : t.n ≤ s.n := by (rw [← hU.ok.len, hr, ← h.ok.len]; exact hkr.2)
         have hJ := join_one (t.pre k) (w1.setCell ⟨u, 0, none⟩ (t.cut k).v) hpre (by simp only [Sl.pre]; omega)
         have hpv : (t.pre k).v = .slice t.a k t.c := rfl
         rw [hpv] at hT hJ
         have HL : Hid ((t.pre k).l = t.l.take k) := hide rfl
         go_at_call 42; refine hT.mono ?_; rintro e w' ⟨rfl, rfl⟩)
      | (go_at_call 28; refine Calls.mono (by simpa using hJ) ?_; rintro e w' ⟨v, rfl, hown, hbel⟩))
    go_ret
    rw [unhide HL] at hown
    have hs0 : (w1.setCell ⟨u, 0, none⟩ (t.cut k).v).heap.size = w1.heap.size := by simp
    rw [← hs0] at hbel
    have hbut : But u w w' := hB.trans (((Unr.but (w := w1) (u := u) (t.cut k).v)).trans (But.of_below hbel))
    rw [hr] at hown
    refine Prs.yes (unhide HP) hbut ?_ ⟨hset.arr.later hbel, hset.ok.later hbel, hset.off⟩ (by simp only [Sl.cut]; rw [hr]) (hs.trans (t.same_cut k))
    refine ⟨own_mono hown (by have := hB.size; simp; omega), ?_⟩
    rw [← hr]; exact hU.ok.isB.take k

set_option maxHeartbeats 1000000 in
set_option maxRecDepth 100000 in
theorem list1_any (u bx : Nat) (s : Sl) (most : Int) (w : World) (h : Unr w u s) (hb : Arr w bx 3 [.int .i64 most]) (hmo : most ≤ 9223372036854775807) :
    Calls Try.prog 75 #[.pointer (some ⟨u, 0, none⟩), .pointer (some ⟨bx, 0, none⟩)] w (Prs isN u s (pCount most s.l) w) := by
  have cb : w.cell? ⟨bx, 0, none⟩ = some (.int .i64 most) := by simpa using hb.cell 0
  have hC := count_any u s most w h hmo
  cases hP : pCount most s.l with
  | error c =>
    rw [hP] at hC
    clear hP
    go_enter Try.func75, Try.ntmps75
    go_wp2_with (go_at_call 73; refine hC.mono ?_; rintro e w' ⟨hB, he⟩; simp only [gives] at he; subst he)
    exact ⟨rfl, Prs.no rfl hB⟩
  | ok q =>
    obtain ⟨k, r⟩ := q
    rw [hP] at hC
    clear hP
    go_enter Try.func75, Try.ntmps75
    go_wp2_with (go_at_call 73; refine hC.mono ?_; rintro e w' ⟨hB, he⟩; obtain ⟨v, t, rfl, hv, hU, hr, hs⟩ := he; simp only [isN] at hv; subst hv)
    go_ret
    exact Prs.yes rfl hB rfl hU hr hs
end Go.Proofs.Ytiloacnjgaoceab
