import Derived.Test.YteijlppmgkdieaaDoorQOhM
set_option linter.unusedVariables false
namespace Go.Proofs.YteijlppmgkdieaaDoor
open Go.RowKit

def pathZ (i : Nat) (l : List (List Int)) : List (List Int) := mpath ndZ nonZ i l
def bridZ (m : Nat) (l : List (List Int)) (whole : Bool) : List (List Int) := mbridge ndZ nonZ m l whole
theorem pathZ_small {i : Nat} {l : List (List Int)} (h : l.length ≤ 1) : pathZ i l = [] := by unfold pathZ; rw [mpath_eq, dif_pos h]
theorem pathZ_lo {i : Nat} {l : List (List Int)} (h : 2 ≤ l.length) (hi : i < halfN l.length) : pathZ i l = pathZ i (l.take (halfN l.length)) ++ [rootZ16 (l.drop (halfN l.length))] := by
  unfold pathZ rootZ16; rw [mpath_eq, dif_neg (by omega), if_pos hi]
theorem pathZ_hi {i : Nat} {l : List (List Int)} (h : 2 ≤ l.length) (hi : ¬ i < halfN l.length) : pathZ i l = pathZ (i - halfN l.length) (l.drop (halfN l.length)) ++ [rootZ16 (l.take (halfN l.length))] := by
  unfold pathZ rootZ16; rw [mpath_eq, dif_neg (by omega), if_neg hi]
theorem bridZ_all {l : List (List Int)} : bridZ l.length l true = [] := by unfold bridZ; rw [mbridge_eq, if_pos rfl]; rfl
theorem bridZ_part {l : List (List Int)} : bridZ l.length l false = [rootZ16 l] := by unfold bridZ rootZ16; rw [mbridge_eq, if_pos rfl]; rfl
theorem bridZ_lo {m : Nat} {l : List (List Int)} {b : Bool} (h : 2 ≤ l.length) (h0 : m ≠ l.length) (hm : m ≤ halfN l.length) : bridZ m l b = bridZ m (l.take (halfN l.length)) b ++ [rootZ16 (l.drop (halfN l.length))] := by
  unfold bridZ rootZ16; rw [mbridge_eq, if_neg h0, dif_neg (by omega), if_pos hm]
theorem bridZ_hi {m : Nat} {l : List (List Int)} {b : Bool} (h : 2 ≤ l.length) (h0 : m ≠ l.length) (hm : ¬ m ≤ halfN l.length) : bridZ m l b = bridZ (m - halfN l.length) (l.drop (halfN l.length)) false ++ [rootZ16 (l.take (halfN l.length))] := by
  unfold bridZ rootZ16; rw [mbridge_eq, if_neg h0, dif_neg (by omega), if_neg hm]
theorem mplen_le (i n : Nat) : mplen i n ≤ n := by
  induction n using Nat.strongRecOn generalizing i with
  | ind n ih =>
    rw [mplen_eq]
    by_cases h : n ≤ 1
    · rw [if_pos h]; omega
    · have hs := halfN_spec n (by omega)
      rw [if_neg h]
      split
      · have := ih (halfN n) (by omega) i; omega
      · have := ih (n - halfN n) (by omega) (i - halfN n); omega
theorem mblen_le (m n : Nat) (b : Bool) : mblen m n b ≤ n + 1 := by
  induction n using Nat.strongRecOn generalizing m b with
  | ind n ih =>
    rw [mblen_eq]
    by_cases h0 : m = n
    · rw [if_pos h0]; split <;> omega
    · rw [if_neg h0]
      by_cases h : n ≤ 1
      · rw [if_pos h]; omega
      · have hs := halfN_spec n (by omega)
        rw [if_neg h]
        split
        · have := ih (halfN n) (by omega) m b; omega
        · have := ih (n - halfN n) (by omega) (m - halfN n) false; omega
theorem pathZ_le (i : Nat) (l : List (List Int)) : (pathZ i l).length ≤ l.length := by unfold pathZ; rw [mpath_len _ _ _ _ _ rfl]; exact mplen_le _ _
theorem bridZ_le (m : Nat) (l : List (List Int)) (b : Bool) : (bridZ m l b).length ≤ l.length + 1 := by unfold bridZ; rw [mbridge_len _ _ _ _ _ _ rfl]; exact mblen_le _ _ _

set_option maxHeartbeats 4000000 in
set_option maxRecDepth 100000 in
theorem path_any : ∀ (n : Nat) (s : Hl) (i : Nat), s.n = n → 1 ≤ n → n ≤ 65536 → i < n → ∀ w : World, s.Ok w → Ld w →
    Calls Tryd.prog 52 #[s.v, .int .i64 i] w fun e w' => ∃ v, e = .returned v ∧ HOwn w' w.heap.size v (pathZ i s.ls) ∧ Below w.heap.size w w' := by
  intro n
  induction n using Nat.strongRecOn with
  | ind n IH =>
    intro s i hsn h1 hn hi w hs hL
    by_cases hone : n = 1
    · subst hone
      rw [pathZ_small (by rw [hs.len]; omega)]
      clear hs IH
      obtain ⟨a, n, c, ls⟩ := s
      simp only [Hl.v] at *
      subst hsn
      go_enter Tryd.func52, Tryd.ntmps52
      go_wp2
      go_ret
      exact ⟨_, rfl, HOwn.nil _ _, Below.refl _ _⟩
    · have h2 : 2 ≤ s.n := by omega
      have hh := halfN_spec s.n h2
      have hfk := fork_any s w hs h2 (by omega)
      have hle := hs.le
      have hlen := hs.len
      obtain ⟨k, hk⟩ : ∃ k, k = halfN s.n := ⟨_, rfl⟩
      obtain ⟨L, hLe⟩ : ∃ L, L = s.cut 0 k k := ⟨_, rfl⟩
      obtain ⟨R, hRe⟩ : ∃ R, R = s.cut k s.n s.n := ⟨_, rfl⟩
      rw [← hk] at hfk hh
      have hLo : L.Ok w := by rw [hLe]; exact hs.cut (by omega) (by omega) (by omega) (by omega)
      have hRo : R.Ok w := by rw [hRe]; exact hs.cut (by omega) (by omega) (by omega) (by omega)
      have hLn : L.n = k := by rw [hLe]; simp [Hl.cut]
      have hRn : R.n = s.n - k := by rw [hRe]; simp [Hl.cut]
      have hLl : L.ls = s.ls.take k := by rw [hLe, cut_left hs]
      have hRl : R.ls = s.ls.drop k := by rw [hRe, cut_right hs]
      rw [← hLe, ← hRe] at hfk
      obtain ⟨y, hy⟩ : ∃ y, y = pathZ i s.ls := ⟨_, rfl⟩
      rw [← hy]
      have HI := hide (show L.n = k ∧ R.n + k = n ∧ 1 ≤ k ∧ k < n ∧ n ≤ 65536 ∧ 1 ≤ R.n by omega)
      have hkl : k = halfN s.ls.length := by rw [hk, hlen]
      by_cases hik : i < k
      · have HY : Hid (y = pathZ i L.ls ++ [rootZ16 R.ls]) := hide (hy.trans (by rw [pathZ_lo (by omega) (by rw [← hkl]; exact hik), ← hkl, ← hLl, ← hRl]))
        have HP : Hid ((pathZ i L.ls).length ≤ 65537) := hide (by have := (pathZ_le i L.ls); rw [hLo.len] at this; have := unhide HI; omega)
        have g1 : (i : Int) < (k : Int) := by omega
        have HIk := hide hik
        have HX := hide (And.intro h1 (And.intro hi hone))
        have g3 : decide ((n : Int) = 1) = false := decide_eq_false (by omega)
        have g4 : decide (n = 1) = false := decide_eq_false hone
        have g5 : ((n : Int) == 1) = false := by simp; omega
        clear hk hLe hRe hh hRn hLl hRl hlen hkl hy hs hle h2 hik h1 hi hone hn
        obtain ⟨a, n', c, ls⟩ := s
        simp only at hsn
        subst hsn
        have hLk : (L.n : Int) = (k : Int) := by omega
        simp only [Hl.v] at *
        clear hLn
        go_enter Tryd.func52, Tryd.ntmps52
        go_wp2_with (first
          | (go_at_call 62; refine hfk.mono ?_; rintro e w1 ⟨rfl, hb1⟩; have hbx := hb1; clear hb1)
          | (go_at_call 52; refine (IH L.n (by have := unhide HI; omega) L i rfl (by have := unhide HI; omega) (by have := unhide HI; omega) (by have := unhide HI; have := unhide HIk; have := unhide HX; omega) w1 (hLo.later hbx) (hL.later hbx)).mono ?_; rintro e w2 ⟨v2, rfl, hO2, hb2⟩; have hbz := bnext hbx hbx.size hb2; replace hO2 := hO2.mono hbx.size; clear hb2)
          | (go_at_call 41; refine (rootOver_any R w2 (hRo.later hbz) (hL.later hbz) (by have := unhide HI; omega)).mono ?_; rintro e w3 ⟨rfl, hb3⟩; replace hO2 := hO2.later hb3; replace hbz := bnext hbz hbz.size hb3; clear hb3)
          | (refine wpList_bs1 rfl (.tmp 23) rfl _ (mroot_hs R.ls hRo.hs) rfl ?_; intro w4 hA4 hb4; replace hO2 := hO2.later hb4; replace hbz := bnext hbz hbz.size hb4; clear hb4)
          | (refine wpList_push1 rfl (.tmp 21) (.tmp 24) rfl w.heap.size _ _ _ w3.heap.size 1 hO2 (mroot_hs R.ls hRo.hs) hA4 rfl rfl (by have := unhide HP; omega) hbz.size ?_; intro v5 w5 hO5 hg5; have hb5 := hO2.bel hg5 (Nat.le_refl _) hbz.size; replace hbz := hbz.trans hb5; clear hA4 hO2 hb5 hg5))
        go_ret
        exact ⟨v5, rfl, by rw [unhide HY]; exact hO5, hbz⟩
      · have HY : Hid (y = pathZ (i - k) R.ls ++ [rootZ16 L.ls]) := hide (hy.trans (by rw [pathZ_hi (by omega) (by rw [← hkl]; exact hik), ← hkl, ← hLl, ← hRl]))
        have HP : Hid ((pathZ (i - k) R.ls).length ≤ 65537) := hide (by have := (pathZ_le (i - k) R.ls); rw [hRo.len] at this; have := unhide HI; omega)
        have g1 : decide ((i : Int) < (k : Int)) = false := decide_eq_false (by omega)
        have g1' : decide (i < k) = false := decide_eq_false hik
        have g2 : IntKind.i64.wrap ((i : Int) - (k : Int)) = ((i - k : Nat) : Int) := by rw [IntKind.wrap_i64]; have := unhide HI; omega
        have HIk := hide (show k ≤ i by omega)
        have HX := hide (And.intro h1 (And.intro hi hone))
        have g3 : decide ((n : Int) = 1) = false := decide_eq_false (by omega)
        have g4 : decide (n = 1) = false := decide_eq_false hone
        have g5 : ((n : Int) == 1) = false := by simp; omega
        clear hk hLe hRe hh hRn hLl hRl hlen hkl hy hs hle h2 hik h1 hi hone hn
        obtain ⟨a, n', c, ls⟩ := s
        simp only at hsn
        subst hsn
        have hLk : (L.n : Int) = (k : Int) := by omega
        simp only [Hl.v] at *
        clear hLn
        go_enter Tryd.func52, Tryd.ntmps52
        go_wp2_with (first
          | (go_at_call 62; refine hfk.mono ?_; rintro e w1 ⟨rfl, hb1⟩; have hbx := hb1; clear hb1)
          | (go_at_call 52; refine (IH R.n (by have := unhide HI; omega) R (i - k) rfl (by have := unhide HI; omega) (by have := unhide HI; omega) (by have := unhide HI; have := unhide HIk; have := unhide HX; omega) w1 (hRo.later hbx) (hL.later hbx)).mono ?_; rintro e w2 ⟨v2, rfl, hO2, hb2⟩; have hbz := bnext hbx hbx.size hb2; replace hO2 := hO2.mono hbx.size; clear hb2)
          | (go_at_call 41; refine (rootOver_any L w2 (hLo.later hbz) (hL.later hbz) (by have := unhide HI; omega)).mono ?_; rintro e w3 ⟨rfl, hb3⟩; replace hO2 := hO2.later hb3; replace hbz := bnext hbz hbz.size hb3; clear hb3)
          | (refine wpList_bs1 rfl (.tmp 33) rfl _ (mroot_hs L.ls hLo.hs) rfl ?_; intro w4 hA4 hb4; replace hO2 := hO2.later hb4; replace hbz := bnext hbz hbz.size hb4; clear hb4)
          | (refine wpList_push1 rfl (.tmp 31) (.tmp 34) rfl w.heap.size _ _ _ w3.heap.size 1 hO2 (mroot_hs L.ls hLo.hs) hA4 rfl rfl (by have := unhide HP; omega) hbz.size ?_; intro v5 w5 hO5 hg5; have hb5 := hO2.bel hg5 (Nat.le_refl _) hbz.size; replace hbz := hbz.trans hb5; clear hA4 hO2 hb5 hg5))
        go_ret
        exact ⟨v5, rfl, by rw [unhide HY]; exact hO5, hbz⟩
end Go.Proofs.YteijlppmgkdieaaDoor

set_option linter.unusedVariables false
namespace Go.Proofs.YteijlppmgkdieaaDoor
open Go.RowKit

set_option maxHeartbeats 4000000 in
set_option maxRecDepth 100000 in
theorem bridge_any : ∀ (n : Nat) (s : Hl) (m : Nat) (bl : Bool), s.n = n → 1 ≤ m → n ≤ 65536 → m ≤ n → ∀ w : World, s.Ok w → Ld w →
    Calls Tryd.prog 54 #[s.v, .int .i64 m, .bool bl] w fun e w' => ∃ v, e = .returned v ∧ HOwn w' w.heap.size v (bridZ m s.ls bl) ∧ Below w.heap.size w w' := by
  intro n
  induction n using Nat.strongRecOn with
  | ind n IH =>
    intro s m bl hsn h1 hn hi w hs hL
    by_cases hone : m = n
    · subst hone
      have hlen := hs.len
      rw [hsn] at hlen
      cases bl
      · have hr := rootOver_any s w hs hL (by omega)
        have hsh := mroot_hs s.ls hs.hs
        rw [← hlen, bridZ_part]
        rw [← hlen] at hsn
        clear hs IH hlen
        obtain ⟨a, n, c, ls⟩ := s
        simp only [Hl.v] at *
        subst hsn
        go_enter Tryd.func54, Tryd.ntmps54
        go_wp2_with (first
          | (go_at_call 41; refine hr.mono ?_; rintro e w3 ⟨rfl, hbz⟩; have hs3 := hbz.size)
          | (refine wpList_bs1 rfl (.tmp 15) rfl _ hsh rfl ?_; intro w4 hA4 hb4; replace hbz := hbz.trans (hb4.mono hbz.size); have hg4 := hA4.lt))
        go_ret
        exact ⟨_, rfl, HOwn.one hA4 hsh hs3, hbz⟩
      · rw [← hlen, bridZ_all]
        rw [← hlen] at hsn
        clear hs IH hlen
        obtain ⟨a, n, c, ls⟩ := s
        simp only [Hl.v] at *
        subst hsn
        go_enter Tryd.func54, Tryd.ntmps54
        go_wp2
        go_ret
        exact ⟨_, rfl, HOwn.nil _ _, Below.refl _ _⟩
    · have h2 : 2 ≤ s.n := by omega
      have hh := halfN_spec s.n h2
      have hfk := fork_any s w hs h2 (by omega)
      have hle := hs.le
      have hlen := hs.len
      obtain ⟨k, hk⟩ : ∃ k, k = halfN s.n := ⟨_, rfl⟩
      obtain ⟨L, hLe⟩ : ∃ L, L = s.cut 0 k k := ⟨_, rfl⟩
      obtain ⟨R, hRe⟩ : ∃ R, R = s.cut k s.n s.n := ⟨_, rfl⟩
      rw [← hk] at hfk hh
      have hLo : L.Ok w := by rw [hLe]; exact hs.cut (by omega) (by omega) (by omega) (by omega)
      have hRo : R.Ok w := by rw [hRe]; exact hs.cut (by omega) (by omega) (by omega) (by omega)
      have hLn : L.n = k := by rw [hLe]; simp [Hl.cut]
      have hRn : R.n = s.n - k := by rw [hRe]; simp [Hl.cut]
      have hLl : L.ls = s.ls.take k := by rw [hLe, cut_left hs]
      have hRl : R.ls = s.ls.drop k := by rw [hRe, cut_right hs]
      rw [← hLe, ← hRe] at hfk
      obtain ⟨y, hy⟩ : ∃ y, y = bridZ m s.ls bl := ⟨_, rfl⟩
      rw [← hy]
      have HI := hide (show L.n = k ∧ R.n + k = n ∧ 1 ≤ k ∧ k < n ∧ n ≤ 65536 ∧ 1 ≤ R.n by omega)
      have hkl : k = halfN s.ls.length := by rw [hk, hlen]
      by_cases hik : m ≤ k
      · have HY : Hid (y = bridZ m L.ls bl ++ [rootZ16 R.ls]) := hide (hy.trans (by rw [bridZ_lo (by omega) (by omega) (by rw [← hkl]; exact hik), ← hkl, ← hLl, ← hRl]))
        have HP : Hid ((bridZ m L.ls bl).length ≤ 65537) := hide (by have := (bridZ_le m L.ls bl); rw [hLo.len] at this; have := unhide HI; omega)
        have g1 : (m : Int) ≤ (k : Int) := by omega
        have HIk := hide hik
        have HX := hide (And.intro h1 (And.intro hi hone))
        have g3 : decide ((m : Int) = (n : Int)) = false := decide_eq_false (by omega)
        have g4 : decide (m = n) = false := decide_eq_false hone
        have g5 : ((m : Int) == (n : Int)) = false := by simp; omega
        clear hk hLe hRe hh hRn hLl hRl hlen hkl hy hs hle h2 hik h1 hi hone hn
        obtain ⟨a, n', c, ls⟩ := s
        simp only at hsn
        subst hsn
        have hLk : (L.n : Int) = (k : Int) := by omega
        simp only [Hl.v] at *
        clear hLn
        go_enter Tryd.func54, Tryd.ntmps54
        go_wp2_with (first
          | (go_at_call 62; refine hfk.mono ?_; rintro e w1 ⟨rfl, hb1⟩; have hbx := hb1; clear hb1)
          | (go_at_call 54; refine (IH L.n (by have := unhide HI; omega) L m bl rfl (by have := unhide HIk; have := unhide HX; omega) (by have := unhide HI; omega) (by have := unhide HI; have := unhide HIk; have := unhide HX; omega) w1 (hLo.later hbx) (hL.later hbx)).mono ?_; rintro e w2 ⟨v2, rfl, hO2, hb2⟩; have hbz := bnext hbx hbx.size hb2; replace hO2 := hO2.mono hbx.size; clear hb2)
          | (go_at_call 41; refine (rootOver_any R w2 (hRo.later hbz) (hL.later hbz) (by have := unhide HI; omega)).mono ?_; rintro e w3 ⟨rfl, hb3⟩; replace hO2 := hO2.later hb3; replace hbz := bnext hbz hbz.size hb3; clear hb3)
          | (refine wpList_bs1 rfl (.tmp 31) rfl _ (mroot_hs R.ls hRo.hs) rfl ?_; intro w4 hA4 hb4; replace hO2 := hO2.later hb4; replace hbz := bnext hbz hbz.size hb4; clear hb4)
          | (refine wpList_push1 rfl (.tmp 29) (.tmp 32) rfl w.heap.size _ _ _ w3.heap.size 1 hO2 (mroot_hs R.ls hRo.hs) hA4 rfl rfl (by have := unhide HP; omega) hbz.size ?_; intro v5 w5 hO5 hg5; have hb5 := hO2.bel hg5 (Nat.le_refl _) hbz.size; replace hbz := hbz.trans hb5; clear hA4 hO2 hb5 hg5))
        go_ret
        exact ⟨v5, rfl, by rw [unhide HY]; exact hO5, hbz⟩
      · have HY : Hid (y = bridZ (m - k) R.ls false ++ [rootZ16 L.ls]) := hide (hy.trans (by rw [bridZ_hi (by omega) (by omega) (by rw [← hkl]; exact hik), ← hkl, ← hLl, ← hRl]))
        have HP : Hid ((bridZ (m - k) R.ls false).length ≤ 65537) := hide (by have := (bridZ_le (m - k) R.ls false); rw [hRo.len] at this; have := unhide HI; omega)
        have g1 : decide ((m : Int) ≤ (k : Int)) = false := decide_eq_false (by omega)
        have g1' : decide (m ≤ k) = false := decide_eq_false hik
        have g2 : IntKind.i64.wrap ((m : Int) - (k : Int)) = ((m - k : Nat) : Int) := by rw [IntKind.wrap_i64]; have := unhide HI; omega
        have HIk := hide (show k < m by omega)
        have HX := hide (And.intro h1 (And.intro hi hone))
        have g3 : decide ((m : Int) = (n : Int)) = false := decide_eq_false (by omega)
        have g4 : decide (m = n) = false := decide_eq_false hone
        have g5 : ((m : Int) == (n : Int)) = false := by simp; omega
        clear hk hLe hRe hh hRn hLl hRl hlen hkl hy hs hle h2 hik h1 hi hone hn
        obtain ⟨a, n', c, ls⟩ := s
        simp only at hsn
        subst hsn
        have hLk : (L.n : Int) = (k : Int) := by omega
        simp only [Hl.v] at *
        clear hLn
        go_enter Tryd.func54, Tryd.ntmps54
        go_wp2_with (first
          | (go_at_call 62; refine hfk.mono ?_; rintro e w1 ⟨rfl, hb1⟩; have hbx := hb1; clear hb1)
          | (go_at_call 54; refine (IH R.n (by have := unhide HI; omega) R (m - k) false rfl (by have := unhide HIk; have := unhide HX; omega) (by have := unhide HI; omega) (by have := unhide HI; have := unhide HIk; have := unhide HX; omega) w1 (hRo.later hbx) (hL.later hbx)).mono ?_; rintro e w2 ⟨v2, rfl, hO2, hb2⟩; have hbz := bnext hbx hbx.size hb2; replace hO2 := hO2.mono hbx.size; clear hb2)
          | (go_at_call 41; refine (rootOver_any L w2 (hLo.later hbz) (hL.later hbz) (by have := unhide HI; omega)).mono ?_; rintro e w3 ⟨rfl, hb3⟩; replace hO2 := hO2.later hb3; replace hbz := bnext hbz hbz.size hb3; clear hb3)
          | (refine wpList_bs1 rfl (.tmp 41) rfl _ (mroot_hs L.ls hLo.hs) rfl ?_; intro w4 hA4 hb4; replace hO2 := hO2.later hb4; replace hbz := bnext hbz hbz.size hb4; clear hb4)
          | (refine wpList_push1 rfl (.tmp 39) (.tmp 42) rfl w.heap.size _ _ _ w3.heap.size 1 hO2 (mroot_hs L.ls hLo.hs) hA4 rfl rfl (by have := unhide HP; omega) hbz.size ?_; intro v5 w5 hO5 hg5; have hb5 := hO2.bel hg5 (Nat.le_refl _) hbz.size; replace hbz := hbz.trans hb5; clear hA4 hO2 hb5 hg5))
        go_ret
        exact ⟨v5, rfl, by rw [unhide HY]; exact hO5, hbz⟩
end Go.Proofs.YteijlppmgkdieaaDoor

set_option linter.unusedVariables false
namespace Go.Proofs.YteijlppmgkdieaaDoor
open Go.RowKit

set_option maxHeartbeats 4000000 in
set_option maxRecDepth 100000 in
theorem incl_ok (s : Hl) (i : Nat) (w : World) (hs : s.Ok w) (hL : Ld w) (hn : s.n ≤ 65536) (hi : i < s.n) :
    Calls Tryd.prog 28 #[s.v, .int .i64 i] w fun e w' => ∃ v, e = .returned (.tuple #[v, .bool true]) ∧ HOwn w' w.heap.size v (pathZ i s.ls) ∧ Below w.heap.size w w' := by
  have hT := inTree_any i s.n w
  rw [inT_iff.2 (by omega)] at hT
  have hP := path_any s.n s i rfl (by omega) hn hi w hs hL
  obtain ⟨y, hy⟩ : ∃ y, y = pathZ i s.ls := ⟨_, rfl⟩
  rw [← hy] at hP ⊢
  clear hy hs hL
  obtain ⟨a, n, c, ls⟩ := s
  simp only [Hl.v] at *
  clear hn hi
  go_enter Tryd.func28, Tryd.ntmps28
  go_wp2_with (first
    | (go_at_call 33; refine hT.mono ?_; rintro e w1 ⟨rfl, h1⟩; obtain rfl := h1.symm)
    | (go_at_call 52; refine hP.mono ?_; rintro e w2 ⟨v2, rfl, hO2, hb2⟩))
  refine bodyPost_ret (results_tmp2 rfl _ _ _) rfl ?_
  exact ⟨v2, rfl, hO2, hb2⟩
set_option maxHeartbeats 4000000 in
set_option maxRecDepth 100000 in
theorem incl_no (s : Hl) (i : Int) (w : World) (hi : inT i s.n = false) :
    Calls Tryd.prog 28 #[s.v, .int .i64 i] w fun e w' => e = .returned (.tuple #[.slice none 0 0, .bool false]) ∧ w' = w := by
  have hT := inTree_any i s.n w
  rw [hi] at hT
  obtain ⟨a, n, c, ls⟩ := s
  simp only [Hl.v] at *
  clear hi
  go_enter Tryd.func28, Tryd.ntmps28
  go_wp2_with (first
    | (go_at_call 33; refine hT.mono ?_; rintro e w1 ⟨rfl, h1⟩; obtain rfl := h1.symm))
  refine bodyPost_ret (results_tmp2 rfl _ _ _) rfl ?_
  exact ⟨rfl, rfl⟩
set_option maxHeartbeats 4000000 in
set_option maxRecDepth 100000 in
theorem cons_ok (s : Hl) (m : Nat) (w : World) (hs : s.Ok w) (hL : Ld w) (hn : s.n ≤ 65536) (h1 : 1 ≤ m) (hi : m ≤ s.n) :
    Calls Tryd.prog 30 #[s.v, .int .i64 m] w fun e w' => ∃ v, e = .returned (.tuple #[v, .bool true]) ∧ HOwn w' w.heap.size v (bridZ m s.ls true) ∧ Below w.heap.size w w' := by
  have hT := isBeginning_any m s.n w
  rw [isBg_iff.2 (by omega)] at hT
  have hP := bridge_any s.n s m true rfl h1 hn hi w hs hL
  obtain ⟨y, hy⟩ : ∃ y, y = bridZ m s.ls true := ⟨_, rfl⟩
  rw [← hy] at hP ⊢
  clear hy hs hL
  obtain ⟨a, n, c, ls⟩ := s
  simp only [Hl.v] at *
  have g1 : decide ((m : Int) = 0) = false := decide_eq_false (by omega)
  have g2 : decide (m = 0) = false := decide_eq_false (by omega)
  have g3 : ((m : Int) == 0) = false := by simp; omega
  clear hn hi h1
  go_enter Tryd.func30, Tryd.ntmps30
  go_wp2_with (first
    | (go_at_call 35; refine hT.mono ?_; rintro e w1 ⟨rfl, h1⟩; obtain rfl := h1.symm)
    | (go_at_call 54; refine hP.mono ?_; rintro e w2 ⟨v2, rfl, hO2, hb2⟩))
  refine bodyPost_ret (results_tmp2 rfl _ _ _) rfl ?_
  exact ⟨v2, rfl, hO2, hb2⟩
set_option maxHeartbeats 4000000 in
set_option maxRecDepth 100000 in
theorem cons_zero (s : Hl) (w : World) (hn : s.n ≤ 65536) :
    Calls Tryd.prog 30 #[s.v, .int .i64 0] w fun e w' => e = .returned (.tuple #[.slice none 0 0, .bool true]) ∧ w' = w := by
  have hT := isBeginning_any 0 s.n w
  rw [isBg_iff.2 (by omega)] at hT
  obtain ⟨a, n, c, ls⟩ := s
  simp only [Hl.v] at *
  clear hn
  go_enter Tryd.func30, Tryd.ntmps30
  go_wp2_with (first
    | (go_at_call 35; refine hT.mono ?_; rintro e w1 ⟨rfl, h1⟩; obtain rfl := h1.symm))
  refine bodyPost_ret (results_tmp2 rfl _ _ _) rfl ?_
  exact ⟨rfl, rfl⟩
set_option maxHeartbeats 4000000 in
set_option maxRecDepth 100000 in
theorem cons_no (s : Hl) (m : Int) (w : World) (hi : isBg m s.n = false) :
    Calls Tryd.prog 30 #[s.v, .int .i64 m] w fun e w' => e = .returned (.tuple #[.slice none 0 0, .bool false]) ∧ w' = w := by
  have hT := isBeginning_any m s.n w
  rw [hi] at hT
  obtain ⟨a, n, c, ls⟩ := s
  simp only [Hl.v] at *
  clear hi
  go_enter Tryd.func30, Tryd.ntmps30
  go_wp2_with (first
    | (go_at_call 35; refine hT.mono ?_; rintro e w1 ⟨rfl, h1⟩; obtain rfl := h1.symm))
  refine bodyPost_ret (results_tmp2 rfl _ _ _) rfl ?_
  exact ⟨rfl, rfl⟩
end Go.Proofs.YteijlppmgkdieaaDoor
