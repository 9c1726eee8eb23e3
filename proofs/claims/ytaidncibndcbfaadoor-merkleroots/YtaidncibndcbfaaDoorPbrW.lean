import Derived.Test.YtaidncibndcbfaaDoorPaW
set_option linter.unusedVariables false
namespace Go.Proofs.YtaidncibndcbfaaDoor
open Go.RowKit

set_option maxHeartbeats 4000000 in
set_option maxRecDepth 100000 in
theorem bridge_any : ∀ (n : Nat) (s : Hl) (m : Nat) (bl : Bool), s.n = n → 1 ≤ m → n ≤ 65536 → m ≤ n → ∀ w : World, s.Ok w → Ld w →
    Calls Tryd.prog 35 #[s.v, .int .i64 m, .bool bl] w fun e w' => ∃ v, e = .returned v ∧ HOwn w' w.heap.size v (bridZ m s.ls bl) ∧ Below w.heap.size w w' := by
  intro n
  induction n using Nat.strongRecOn with
  | ind n IH =>
    intro s m bl hsn h1 hn hi w hs hL
    by_cases hone : m = n
    · subst hone
      have hlen := hs.len
      rw [hsn] at hlen
      cases bl
      · have hr := rootOver_any s w hs hL (by omega)
        have hsh := mroot_hs s.ls hs.hs
        rw [← hlen, bridZ_part]
        rw [← hlen] at hsn
        clear hs IH hlen
        obtain ⟨a, n, c, ls⟩ := s
        simp only [Hl.v] at *
        subst hsn
        go_enter Tryd.func35, Tryd.ntmps35
        go_wp2_with (first
          | (go_at_call 30; refine hr.mono ?_; rintro e w3 ⟨rfl, hbz⟩; have hs3 := hbz.size)
          | (refine wpList_bs1 rfl (.tmp 15) rfl _ hsh rfl ?_; intro w4 hA4 hb4; replace hbz := hbz.trans (hb4.mono hbz.size); have hg4 := hA4.lt))
        go_ret
        exact ⟨_, rfl, HOwn.one hA4 hsh hs3, hbz⟩
      · rw [← hlen, bridZ_all]
        rw [← hlen] at hsn
        clear hs IH hlen
        obtain ⟨a, n, c, ls⟩ := s
        simp only [Hl.v] at *
        subst hsn
        go_enter Tryd.func35, Tryd.ntmps35
        go_wp2
        go_ret
        exact ⟨_, rfl, HOwn.nil _ _, Below.refl _ _⟩
    · have h2 : 2 ≤ s.n := by omega
      have hh := halfN_spec s.n h2
      have hfk := fork_any s w hs h2 (by omega)
      have hle := hs.le
      have hlen := hs.len
      obtain ⟨k, hk⟩ : ∃ k, k = halfN s.n := ⟨_, rfl⟩
      obtain ⟨L, hLe⟩ : ∃ L, L = s.cut 0 k k := ⟨_, rfl⟩
      obtain ⟨R, hRe⟩ : ∃ R, R = s.cut k s.n s.n := ⟨_, rfl⟩
      rw [← hk] at hfk hh
      have hLo : L.Ok w := by rw [hLe]; exact hs.cut (by omega) (by omega) (by omega) (by omega)
      have hRo : R.Ok w := by rw [hRe]; exact hs.cut (by omega) (by omega) (by omega) (by omega)
      have hLn : L.n = k := by rw [hLe]; simp [Hl.cut]
      have hRn : R.n = s.n - k := by rw [hRe]; simp [Hl.cut]
      have hLl : L.ls = s.ls.take k := by rw [hLe, cut_left hs]
      have hRl : R.ls = s.ls.drop k := by rw [hRe, cut_right hs]
      rw [← hLe, ← hRe] at hfk
      obtain ⟨y, hy⟩ : ∃ y, y = bridZ m s.ls bl := ⟨_, rfl⟩
      rw [← hy]
      have HI := hide (show L.n = k ∧ R.n + k = n ∧ 1 ≤ k ∧ k < n ∧ n ≤ 65536 ∧ 1 ≤ R.n by omega)
      have hkl : k = halfN s.ls.length := by rw [hk, hlen]
      by_cases hik : m ≤ k
      · have HY : Hid (y = bridZ m L.ls bl ++ [rootZ16 R.ls]) := hide (hy.trans (by rw [bridZ_lo (by omega) (by omega) (by rw [← hkl]; exact hik), ← hkl, ← hLl, ← hRl]))
        have HP : Hid ((bridZ m L.ls bl).length ≤ 65537) := hide (by have := (bridZ_le m L.ls bl); rw [hLo.len] at this; have := unhide HI; omega)
        have g1 : (m : Int) ≤ (k : Int) := by omega
        have HIk := hide hik
        have HX := hide (And.intro h1 (And.intro hi hone))
        have g3 : decide ((m : Int) = (n : Int)) = false := decide_eq_false (by omega)
        have g4 : decide (m = n) = false := decide_eq_false hone
        have g5 : ((m : Int) == (n : Int)) = false := by simp; omega
        clear hk hLe hRe hh hRn hLl hRl hlen hkl hy hs hle h2 hik h1 hi hone hn
        obtain ⟨a, n', c, ls⟩ := s
        simp only at hsn
        subst hsn
        have hLk : (L.n : Int) = (k : Int) := by omega
        simp only [Hl.v] at *
        clear hLn
        go_enter Tryd.func35, Tryd.ntmps35
        go_wp2_with (first
          | (go_at_call 44; refine hfk.mono ?_; rintro e w1 ⟨rfl, hb1⟩; have hbx := hb1; clear hb1)
          | (go_at_call 35; refine (IH L.n (by have := unhide HI; omega) L m bl rfl (by have := unhide HIk; have := unhide HX; omega) (by have := unhide HI; omega) (by have := unhide HI; have := unhide HIk; have := unhide HX; omega) w1 (hLo.later hbx) (hL.later hbx)).mono ?_; rintro e w2 ⟨v2, rfl, hO2, hb2⟩; have hbz := bnext hbx hbx.size hb2; replace hO2 := hO2.mono hbx.size; clear hb2)
          | (go_at_call 30; refine (rootOver_any R w2 (hRo.later hbz) (hL.later hbz) (by have := unhide HI; omega)).mono ?_; rintro e w3 ⟨rfl, hb3⟩; replace hO2 := hO2.later hb3; replace hbz := bnext hbz hbz.size hb3; clear hb3)
          | (refine wpList_bs1 rfl (.tmp 31) rfl _ (mroot_hs R.ls hRo.hs) rfl ?_; intro w4 hA4 hb4; replace hO2 := hO2.later hb4; replace hbz := bnext hbz hbz.size hb4; clear hb4)
          | (refine wpList_push1 rfl (.tmp 29) (.tmp 32) rfl w.heap.size _ _ _ w3.heap.size 1 hO2 (mroot_hs R.ls hRo.hs) hA4 rfl rfl (by have := unhide HP; omega) hbz.size ?_; intro v5 w5 hO5 hg5; have hb5 := hO2.bel hg5 (Nat.le_refl _) hbz.size; replace hbz := hbz.trans hb5; clear hA4 hO2 hb5 hg5))
        go_ret
        exact ⟨v5, rfl, by rw [unhide HY]; exact hO5, hbz⟩
      · have HY : Hid (y = bridZ (m - k) R.ls false ++ [rootZ16 L.ls]) := hide (hy.trans (by rw [bridZ_hi (by omega) (by omega) (by rw [← hkl]; exact hik), ← hkl, ← hLl, ← hRl]))
        have HP : Hid ((bridZ (m - k) R.ls false).length ≤ 65537) := hide (by have := (bridZ_le (m - k) R.ls false); rw [hRo.len] at this; have := unhide HI; omega)
        have g1 : decide ((m : Int) ≤ (k : Int)) = false := decide_eq_false (by omega)
        have g1' : decide (m ≤ k) = false := decide_eq_false hik
        have g2 : IntKind.i64.wrap ((m : Int) - (k : Int)) = ((m - k : Nat) : Int) := by rw [IntKind.wrap_i64]; have := unhide HI; omega
        have HIk := hide (show k < m by omega)
        have HX := hide (And.intro h1 (And.intro hi hone))
        have g3 : decide ((m : Int) = (n : Int)) = false := decide_eq_false (by omega)
        have g4 : decide (m = n) = false := decide_eq_false hone
        have g5 : ((m : Int) == (n : Int)) = false := by simp; omega
        clear hk hLe hRe hh hRn hLl hRl hlen hkl hy hs hle h2 hik h1 hi hone hn
        obtain ⟨a, n', c, ls⟩ := s
        simp only at hsn
        subst hsn
        have hLk : (L.n : Int) = (k : Int) := by omega
        simp only [Hl.v] at *
        clear hLn
        go_enter Tryd.func35, Tryd.ntmps35
        go_wp2_with (first
          | (go_at_call 44; refine hfk.mono ?_; rintro e w1 ⟨rfl, hb1⟩; have hbx := hb1; clear hb1)
          | (go_at_call 35; refine (IH R.n (by have := unhide HI; omega) R (m - k) false rfl (by have := unhide HIk; have := unhide HX; omega) (by have := unhide HI; omega) (by have := unhide HI; have := unhide HIk; have := unhide HX; omega) w1 (hRo.later hbx) (hL.later hbx)).mono ?_; rintro e w2 ⟨v2, rfl, hO2, hb2⟩; have hbz := bnext hbx hbx.size hb2; replace hO2 := hO2.mono hbx.size; clear hb2)
          | (go_at_call 30; refine (rootOver_any L w2 (hLo.later hbz) (hL.later hbz) (by have := unhide HI; omega)).mono ?_; rintro e w3 ⟨rfl, hb3⟩; replace hO2 := hO2.later hb3; replace hbz := bnext hbz hbz.size hb3; clear hb3)
          | (refine wpList_bs1 rfl (.tmp 41) rfl _ (mroot_hs L.ls hLo.hs) rfl ?_; intro w4 hA4 hb4; replace hO2 := hO2.later hb4; replace hbz := bnext hbz hbz.size hb4; clear hb4)
          | (refine wpList_push1 rfl (.tmp 39) (.tmp 42) rfl w.heap.size _ _ _ w3.heap.size 1 hO2 (mroot_hs L.ls hLo.hs) hA4 rfl rfl (by have := unhide HP; omega) hbz.size ?_; intro v5 w5 hO5 hg5; have hb5 := hO2.bel hg5 (Nat.le_refl _) hbz.size; replace hbz := hbz.trans hb5; clear hA4 hO2 hb5 hg5))
        go_ret
        exact ⟨v5, rfl, by rw [unhide HY]; exact hO5, hbz⟩
end Go.Proofs.YtaidncibndcbfaaDoor
