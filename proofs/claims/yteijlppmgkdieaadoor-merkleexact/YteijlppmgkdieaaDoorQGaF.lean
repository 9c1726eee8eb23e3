import Derived.Test.YteijlppmgkdieaaDoorQGaD
import Derived.Deep.DeepCutAuto
import Derived.Deep.QuietTactic
import Derived.BigQuiet
set_option linter.unusedSimpArgs false
set_option linter.unusedVariables false
namespace Go.Proofs.YteijlppmgkdieaaDoor
open Go.RowKit


set_option maxHeartbeats 4000000 in
set_option maxRecDepth 100000 in
theorem rpath_any : ∀ (n : Nat) (s : Hl) (i : Nat), s.n = n → n ≤ 65536 → i < n → ∀ w : World, s.Ok w →
    Calls Tryd.prog 53 #[s.v, .int .i64 i] w fun e w' => ∃ v, e = .returned v ∧ HOwn w' w.heap.size v (pathZ i s.ls) ∧ Below w.heap.size w w' := by
  intro n
  induction n using Nat.strongRecOn with
  | ind n IH =>
    intro s i hsn hn hi w hs
    by_cases hone : n ≤ 1
    · rw [pathZ_small (by rw [hs.len]; omega)]
      have g0 : (n : Int) ≤ 1 := by omega
      clear hs IH
      obtain ⟨a, n, c, ls⟩ := s
      simp only [Hl.v] at *
      subst hsn
      go_enter Tryd.func53, Tryd.ntmps53
      go_wp2
      go_ret
      exact ⟨_, rfl, HOwn.nil _ _, Below.refl _ _⟩
    · have h2 : 2 ≤ n := by omega
      have hh := halfN_spec n h2
      have hsp := fun w0 => rsplit_any n w0 h2 hn
      have hle := hs.le
      have hmx := hs.mx
      unfold maxLen at hmx
      have hlen := hs.len
      obtain ⟨k, hk⟩ : ∃ k, k = halfN n := ⟨_, rfl⟩
      rw [← hk] at hsp hh
      obtain ⟨L, hLe⟩ : ∃ L, L = s.cut 0 k s.c := ⟨_, rfl⟩
      obtain ⟨R, hRe⟩ : ∃ R, R = s.cut k s.n s.c := ⟨_, rfl⟩
      have hLo : L.Ok w := by rw [hLe]; exact hs.cut (by omega) (by omega) (by omega) (by omega)
      have hRo : R.Ok w := by rw [hRe]; exact hs.cut (by omega) (by omega) (by omega) (by omega)
      have hLn : L.n = k := by rw [hLe]; simp [Hl.cut]
      have hRn : R.n = n - k := by rw [hRe]; simp [Hl.cut, hsn]
      have hLl : L.ls = s.ls.take k := by rw [hLe, cut_left hs]
      have hRl : R.ls = s.ls.drop k := by rw [hRe, cut_right hs]
      have hkl : k = halfN s.ls.length := by rw [hk, hlen, hsn]
      obtain ⟨bb, off, ha, -, -⟩ := hs.lies (by omega)
      have hLv : L.v = .slice (some ⟨bb, off, none⟩) k s.c := by rw [hLe]; simp [Hl.v, Hl.cut, ha]
      have hRv : R.v = .slice (some ⟨bb, off + k * 32, none⟩) (n - k) (s.c - k) := by rw [hRe]; simp [Hl.v, Hl.cut, ha, hsn]
      obtain ⟨y, hy⟩ : ∃ y, y = pathZ i s.ls := ⟨_, rfl⟩
      rw [← hy]
      by_cases hik : i < k
      · have HY : Hid (y = pathZ i L.ls ++ [rootZ16 R.ls]) := hide (hy.trans (by rw [pathZ_lo (by omega) (by rw [← hkl]; exact hik), ← hkl, ← hLl, ← hRl]))
        have HP : Hid ((pathZ i L.ls).length ≤ 65537) := hide (by have := pathZ_le (i) L.ls; rw [hLo.len, hLn] at this; omega)
        have HYH : Hid (Hs (rootZ16 R.ls)) := hide (mroot_hs R.ls hRo.hs)
        have HIA : Hid (∀ w0, L.Ok w0 → Calls Tryd.prog 53 #[.slice (some ⟨bb, off, none⟩) k s.c, .int .i64 ((i : Nat) : Int)] w0 fun e w' => ∃ v, e = .returned v ∧ HOwn w' w0.heap.size v (pathZ i L.ls) ∧ Below w0.heap.size w0 w') := hide (fun w0 h9 => by
          have := IH (k) (by omega) L (i) hLn (by omega) (by omega) w0 h9
          rwa [hLv] at this)
        have HIB : Hid (∀ w0, R.Ok w0 → Calls Tryd.prog 39 #[.slice (some ⟨bb, off + k * 32, none⟩) (n - k) (s.c - k)] w0 fun e w' => e = .returned (hV (rootZ16 R.ls)) ∧ Below w0.heap.size w0 w') := hide (fun w0 h9 => by
          have := rroot_any R.n R rfl (by omega) w0 h9
          rwa [hRv] at this)
        have g0 : ((i : Nat) : Int) < (k : Int) := by omega
        have g1 : ¬ ((n : Int) ≤ 1) := by omega
        have g4 : (k : Int) ≤ (s.c : Int) := by omega
        have g5 : (k : Int) ≤ (n : Int) := by omega
        have g6 : (n : Int) ≤ (s.c : Int) := by omega
        have g7 : k < s.c := by omega
        have g8 : ¬ (s.c - k = 0) := by omega
        have g9 : ¬ (s.c = k) := by omega
        have g10 : k ≤ s.c := by omega
        have g11 : k ≤ n := by omega
        have g12 : n ≤ s.c := by omega
        clear hLe hRe hy hs IH hk hh hmx hle hlen hLl hRl hkl hLn hRn hLv hRv hik
        obtain ⟨a, n', c, ls⟩ := s
        simp only [Hl.v] at *
        subst hsn ha
        go_enter Tryd.func53, Tryd.ntmps53
        have hb2 := Below.refl w.heap.size w
        go_upto_region 5 with (go_at_call 60; refine (hsp _).mono ?_; rintro e w3 ⟨rfl, hw3⟩; obtain rfl := hw3.symm)
        clear hsp
        obtain ⟨n, hn'⟩ : ∃ n, n = n' := ⟨_, rfl⟩
        subst hn'
        refine wp_region_noPanic ?_
        have hb3 := bnext hb2 hb2.size (drew_below _)
        clear hb2
        refine wp_region_held_drew (S := fun w9 => Below w.heap.size w w9) (by kernel_rfl) hb3 (fun hHeld => ?_)
        generalize World.drew _ = v1 at hHeld hb3 ⊢
        clear hb3
        refine wpAnyH_take (i := 0) (oi := _) (v := .slice (some ⟨bb, off, none⟩) n c) rfl (by kernel_rfl) (by kernel_rfl) (by kernel_rfl) (fun _ _ _ h => h) (Or.inl ⟨by rfl, fun w hSw => by go_simp⟩) hHeld ?_
        simp [Act.put]
        refine wpAnyH_take (i := 1) (oi := _) (v := .int .i64 (k : Int)) rfl (by kernel_rfl) (by kernel_rfl) (by kernel_rfl) (fun _ _ _ h => h) (Or.inl ⟨by rfl, fun w hSw => by go_simp⟩) hHeld ?_
        simp [Act.put]
        refine wpAnyH_take (i := 2) (oi := _) (v := .slice (some ⟨bb, off, none⟩) k c) rfl (by kernel_rfl) (by kernel_rfl) (by kernel_rfl) (fun _ _ _ h => h) (Or.inl ⟨by rfl, fun w hSw => by go_simp⟩) hHeld ?_
        simp [Act.put]
        refine wpAnyH_take (i := 3) (oi := _) (v := .int .i64 ((i : Nat) : Int)) rfl (by kernel_rfl) (by kernel_rfl) (by kernel_rfl) (fun _ _ _ h => h) (Or.inl ⟨by rfl, fun w hSw => by go_simp⟩) hHeld ?_
        simp [Act.put]
        refine wpAnyH_take (i := 5) (oi := _) (v := .slice (some ⟨bb, off, none⟩) n c) rfl (by kernel_rfl) (by kernel_rfl) (by kernel_rfl) (fun _ _ _ h => h) (Or.inl ⟨by rfl, fun w hSw => by go_simp⟩) hHeld ?_
        simp [Act.put]
        refine wpAnyH_take (i := 6) (oi := _) (v := .int .i64 (k : Int)) rfl (by kernel_rfl) (by kernel_rfl) (by kernel_rfl) (fun _ _ _ h => h) (Or.inl ⟨by rfl, fun w hSw => by go_simp⟩) hHeld ?_
        simp [Act.put]
        refine wpAnyH_take (i := 7) (oi := _) (v := .slice (some ⟨bb, off + k * 32, none⟩) (n - k) (c - k)) rfl (by kernel_rfl) (by kernel_rfl) (by kernel_rfl) (fun _ _ _ h => h) (Or.inl ⟨by rfl, fun w hSw => by go_simp⟩) hHeld ?_
        simp [Act.put]
        refine wpAnyH_ready (rs := [4]) (by kernel_rfl) (by simp) ?_
        refine AllReadyH.cons rfl (fun K hKK => ?_) AllReadyH.nil
        go_simp
        refine ((unhide HIA) _ (hLo.later hHeld)).mono ?_
        rintro e w4 ⟨v4, rfl, hO4, hb1⟩
        replace hO4 := hO4.mono hHeld.size
        refine hKK.out _ _ (bnext hHeld hHeld.size hb1) (fun hHeld => ?_)
        clear hKK K hb1
        refine wpAnyH_ready (rs := [8]) (by kernel_rfl) (by simp) ?_
        refine AllReadyH.cons rfl (fun K hKK => ?_) AllReadyH.nil
        go_simp
        refine ((unhide HIB) _ (hRo.later hHeld)).mono ?_
        rintro e w5 ⟨rfl, hb1⟩
        replace hO4 := hO4.later hb1
        refine hKK.out _ _ (bnext hHeld hHeld.size hb1) (fun hHeld => ?_)
        clear hKK K hb1
        refine wpAnyH_ready (rs := [9]) (by kernel_rfl) (by simp) ?_
        refine AllReadyH.cons rfl (fun K hKK => ?_) AllReadyH.nil
        refine step_bs1 rfl (.tmp 23) rfl _ (unhide HYH) rfl ?_
        intro w6 hA6 hb1
        replace hO4 := hO4.later hb1
        simp only [Act.put]
        refine hKK.out _ _ (bnext hHeld hHeld.size hb1) (fun hHeld => ?_)
        clear hKK K hb1
        try simp [Act.put]
        refine wpAnyH_ready (rs := [10]) (by kernel_rfl) (by simp) ?_
        refine AllReadyH.cons rfl (fun K hKK => ?_) AllReadyH.nil
        refine step_push1 rfl (.tmp 19) (.tmp 24) rfl w.heap.size _ _ _ _ 1 hO4 (unhide HYH) hA6 rfl rfl (by have := unhide HP; omega) hHeld.size ?_
        intro v7 w7 hO7 hg7
        have hb7 := hHeld.trans (hO4.bel hg7 (Nat.le_refl _) hHeld.size)
        simp only [Act.put]
        refine hKK.out _ _ hb7 (fun hHeld => ?_)
        clear hKK K hA6 hO4 hg7 hb7
        try simp [Act.put]
        refine wpAnyH_take (i := 11) (oi := _) (v := v7) rfl (by kernel_rfl) (by kernel_rfl) (by kernel_rfl) (fun _ _ _ h => h) (Or.inl ⟨by rfl, fun w hSw => by go_simp⟩) hHeld ?_
        simp [Act.put]
        refine wpAnyH_done (by kernel_rfl) ?_ _
        unfold NoPanic
        go_wp2
        go_ret
        exact ⟨v7, rfl, by rw [unhide HY]; exact hO7, by assumption⟩
      · have HY : Hid (y = pathZ (i - k) R.ls ++ [rootZ16 L.ls]) := hide (hy.trans (by rw [pathZ_hi (by omega) (by rw [← hkl]; exact hik), ← hkl, ← hLl, ← hRl]))
        have HP : Hid ((pathZ (i - k) R.ls).length ≤ 65537) := hide (by have := pathZ_le (i - k) R.ls; rw [hRo.len, hRn] at this; omega)
        have HYH : Hid (Hs (rootZ16 L.ls)) := hide (mroot_hs L.ls hLo.hs)
        have HIA : Hid (∀ w0, R.Ok w0 → Calls Tryd.prog 53 #[.slice (some ⟨bb, off + k * 32, none⟩) (n - k) (s.c - k), .int .i64 ((i - k : Nat) : Int)] w0 fun e w' => ∃ v, e = .returned v ∧ HOwn w' w0.heap.size v (pathZ (i - k) R.ls) ∧ Below w0.heap.size w0 w') := hide (fun w0 h9 => by
          have := IH (n - k) (by omega) R (i - k) hRn (by omega) (by omega) w0 h9
          rwa [hRv] at this)
        have HIB : Hid (∀ w0, L.Ok w0 → Calls Tryd.prog 39 #[.slice (some ⟨bb, off, none⟩) k s.c] w0 fun e w' => e = .returned (hV (rootZ16 L.ls)) ∧ Below w0.heap.size w0 w') := hide (fun w0 h9 => by
          have := rroot_any L.n L rfl (by omega) w0 h9
          rwa [hLv] at this)
        have g0 : ¬ (((i : Nat) : Int) < (k : Int)) := by omega
        have g0' : IntKind.i64.wrap ((i : Int) - (k : Int)) = ((i - k : Nat) : Int) := by rw [IntKind.wrap_i64]; omega
        have g1 : ¬ ((n : Int) ≤ 1) := by omega
        have g4 : (k : Int) ≤ (s.c : Int) := by omega
        have g5 : (k : Int) ≤ (n : Int) := by omega
        have g6 : (n : Int) ≤ (s.c : Int) := by omega
        have g7 : k < s.c := by omega
        have g8 : ¬ (s.c - k = 0) := by omega
        have g9 : ¬ (s.c = k) := by omega
        have g10 : k ≤ s.c := by omega
        have g11 : k ≤ n := by omega
        have g12 : n ≤ s.c := by omega
        clear hLe hRe hy hs IH hk hh hmx hle hlen hLl hRl hkl hLn hRn hLv hRv hik
        obtain ⟨a, n', c, ls⟩ := s
        simp only [Hl.v] at *
        subst hsn ha
        go_enter Tryd.func53, Tryd.ntmps53
        have hb2 := Below.refl w.heap.size w
        go_upto_region 6 with (go_at_call 60; refine (hsp _).mono ?_; rintro e w3 ⟨rfl, hw3⟩; obtain rfl := hw3.symm)
        clear hsp
        obtain ⟨n, hn'⟩ : ∃ n, n = n' := ⟨_, rfl⟩
        subst hn'
        refine wp_region_noPanic ?_
        have hb3 := bnext hb2 hb2.size (drew_below _)
        clear hb2
        refine wp_region_held_drew (S := fun w9 => Below w.heap.size w w9) (by kernel_rfl) hb3 (fun hHeld => ?_)
        generalize World.drew _ = v1 at hHeld hb3 ⊢
        clear hb3
        refine wpAnyH_take (i := 0) (oi := _) (v := .slice (some ⟨bb, off, none⟩) n c) rfl (by kernel_rfl) (by kernel_rfl) (by kernel_rfl) (fun _ _ _ h => h) (Or.inl ⟨by rfl, fun w hSw => by go_simp⟩) hHeld ?_
        simp [Act.put]
        refine wpAnyH_take (i := 1) (oi := _) (v := .int .i64 (k : Int)) rfl (by kernel_rfl) (by kernel_rfl) (by kernel_rfl) (fun _ _ _ h => h) (Or.inl ⟨by rfl, fun w hSw => by go_simp⟩) hHeld ?_
        simp [Act.put]
        refine wpAnyH_take (i := 2) (oi := _) (v := .slice (some ⟨bb, off + k * 32, none⟩) (n - k) (c - k)) rfl (by kernel_rfl) (by kernel_rfl) (by kernel_rfl) (fun _ _ _ h => h) (Or.inl ⟨by rfl, fun w hSw => by go_simp⟩) hHeld ?_
        simp [Act.put]
        refine wpAnyH_take (i := 3) (oi := _) (v := .int .i64 ((i : Nat) : Int)) rfl (by kernel_rfl) (by kernel_rfl) (by kernel_rfl) (fun _ _ _ h => h) (Or.inl ⟨by rfl, fun w hSw => by go_simp⟩) hHeld ?_
        simp [Act.put]
        refine wpAnyH_take (i := 4) (oi := _) (v := .int .i64 (k : Int)) rfl (by kernel_rfl) (by kernel_rfl) (by kernel_rfl) (fun _ _ _ h => h) (Or.inl ⟨by rfl, fun w hSw => by go_simp⟩) hHeld ?_
        simp [Act.put]
        refine wpAnyH_take (i := 5) (oi := _) (v := .int .i64 (((i - k : Nat)) : Int)) rfl (by kernel_rfl) (by kernel_rfl) (by kernel_rfl) (fun _ _ _ h => h) (Or.inl ⟨by rfl, fun w hSw => by go_simp⟩) hHeld ?_
        simp [Act.put]
        refine wpAnyH_take (i := 7) (oi := _) (v := .slice (some ⟨bb, off, none⟩) n c) rfl (by kernel_rfl) (by kernel_rfl) (by kernel_rfl) (fun _ _ _ h => h) (Or.inl ⟨by rfl, fun w hSw => by go_simp⟩) hHeld ?_
        simp [Act.put]
        refine wpAnyH_take (i := 8) (oi := _) (v := .int .i64 (k : Int)) rfl (by kernel_rfl) (by kernel_rfl) (by kernel_rfl) (fun _ _ _ h => h) (Or.inl ⟨by rfl, fun w hSw => by go_simp⟩) hHeld ?_
        simp [Act.put]
        refine wpAnyH_take (i := 9) (oi := _) (v := .slice (some ⟨bb, off, none⟩) k c) rfl (by kernel_rfl) (by kernel_rfl) (by kernel_rfl) (fun _ _ _ h => h) (Or.inl ⟨by rfl, fun w hSw => by go_simp⟩) hHeld ?_
        simp [Act.put]
        refine wpAnyH_ready (rs := [6]) (by kernel_rfl) (by simp) ?_
        refine AllReadyH.cons rfl (fun K hKK => ?_) AllReadyH.nil
        go_simp
        refine ((unhide HIA) _ (hRo.later hHeld)).mono ?_
        rintro e w4 ⟨v4, rfl, hO4, hb1⟩
        replace hO4 := hO4.mono hHeld.size
        refine hKK.out _ _ (bnext hHeld hHeld.size hb1) (fun hHeld => ?_)
        clear hKK K hb1
        refine wpAnyH_ready (rs := [10]) (by kernel_rfl) (by simp) ?_
        refine AllReadyH.cons rfl (fun K hKK => ?_) AllReadyH.nil
        go_simp
        refine ((unhide HIB) _ (hLo.later hHeld)).mono ?_
        rintro e w5 ⟨rfl, hb1⟩
        replace hO4 := hO4.later hb1
        refine hKK.out _ _ (bnext hHeld hHeld.size hb1) (fun hHeld => ?_)
        clear hKK K hb1
        refine wpAnyH_ready (rs := [11]) (by kernel_rfl) (by simp) ?_
        refine AllReadyH.cons rfl (fun K hKK => ?_) AllReadyH.nil
        refine step_bs1 rfl (.tmp 36) rfl _ (unhide HYH) rfl ?_
        intro w6 hA6 hb1
        replace hO4 := hO4.later hb1
        simp only [Act.put]
        refine hKK.out _ _ (bnext hHeld hHeld.size hb1) (fun hHeld => ?_)
        clear hKK K hb1
        try simp [Act.put]
        refine wpAnyH_ready (rs := [12]) (by kernel_rfl) (by simp) ?_
        refine AllReadyH.cons rfl (fun K hKK => ?_) AllReadyH.nil
        refine step_push1 rfl (.tmp 32) (.tmp 37) rfl w.heap.size _ _ _ _ 1 hO4 (unhide HYH) hA6 rfl rfl (by have := unhide HP; omega) hHeld.size ?_
        intro v7 w7 hO7 hg7
        have hb7 := hHeld.trans (hO4.bel hg7 (Nat.le_refl _) hHeld.size)
        simp only [Act.put]
        refine hKK.out _ _ hb7 (fun hHeld => ?_)
        clear hKK K hA6 hO4 hg7 hb7
        try simp [Act.put]
        refine wpAnyH_take (i := 13) (oi := _) (v := v7) rfl (by kernel_rfl) (by kernel_rfl) (by kernel_rfl) (fun _ _ _ h => h) (Or.inl ⟨by rfl, fun w hSw => by go_simp⟩) hHeld ?_
        simp [Act.put]
        refine wpAnyH_done (by kernel_rfl) ?_ _
        unfold NoPanic
        go_wp2
        go_ret
        exact ⟨v7, rfl, by rw [unhide HY]; exact hO7, by assumption⟩

set_option maxHeartbeats 4000000 in
set_option maxRecDepth 100000 in
theorem rbridge_any : ∀ (n : Nat) (s : Hl) (m : Nat) (bl : Bool), s.n = n → 1 ≤ m → n ≤ 65536 → m ≤ n → ∀ w : World, s.Ok w →
    Calls Tryd.prog 55 #[.int .i64 m, s.v, .bool bl] w fun e w' => ∃ v, e = .returned v ∧ HOwn w' w.heap.size v (bridZ m s.ls bl) ∧ Below w.heap.size w w' := by
  intro n
  induction n using Nat.strongRecOn with
  | ind n IH =>
    intro s m bl hsn h1 hn hi w hs
    by_cases hone : m = n
    · subst hone
      have hlen := hs.len
      rw [hsn] at hlen
      cases bl
      · have hr := rroot_any s.n s rfl (by omega) w hs
        have hsh := mroot_hs s.ls hs.hs
        rw [← hlen, bridZ_part]
        rw [← hlen] at hsn
        clear hs IH hlen
        obtain ⟨a, n, c, ls⟩ := s
        simp only [Hl.v] at *
        subst hsn
        go_enter Tryd.func55, Tryd.ntmps55
        go_wp2_with (first
          | (go_at_call 39; refine hr.mono ?_; rintro e w3 ⟨rfl, hbz⟩; have hs3 := hbz.size)
          | (refine wpList_bs1 rfl (.tmp 14) rfl _ hsh rfl ?_; intro w4 hA4 hb4; replace hbz := hbz.trans (hb4.mono hbz.size); have hg4 := hA4.lt))
        go_ret
        exact ⟨_, rfl, HOwn.one hA4 hsh hs3, hbz⟩
      · rw [← hlen, bridZ_all]
        rw [← hlen] at hsn
        clear hs IH hlen
        obtain ⟨a, n, c, ls⟩ := s
        simp only [Hl.v] at *
        subst hsn
        go_enter Tryd.func55, Tryd.ntmps55
        go_wp2
        go_ret
        exact ⟨_, rfl, HOwn.nil _ _, Below.refl _ _⟩
    · have h2 : 2 ≤ n := by omega
      have hh := halfN_spec n h2
      have hsp := fun w0 => rsplit_any n w0 h2 hn
      have hle := hs.le
      have hmx := hs.mx
      unfold maxLen at hmx
      have hlen := hs.len
      obtain ⟨k, hk⟩ : ∃ k, k = halfN n := ⟨_, rfl⟩
      rw [← hk] at hsp hh
      obtain ⟨L, hLe⟩ : ∃ L, L = s.cut 0 k s.c := ⟨_, rfl⟩
      obtain ⟨R, hRe⟩ : ∃ R, R = s.cut k s.n s.c := ⟨_, rfl⟩
      have hLo : L.Ok w := by rw [hLe]; exact hs.cut (by omega) (by omega) (by omega) (by omega)
      have hRo : R.Ok w := by rw [hRe]; exact hs.cut (by omega) (by omega) (by omega) (by omega)
      have hLn : L.n = k := by rw [hLe]; simp [Hl.cut]
      have hRn : R.n = n - k := by rw [hRe]; simp [Hl.cut, hsn]
      have hLl : L.ls = s.ls.take k := by rw [hLe, cut_left hs]
      have hRl : R.ls = s.ls.drop k := by rw [hRe, cut_right hs]
      have hkl : k = halfN s.ls.length := by rw [hk, hlen, hsn]
      obtain ⟨bb, off, ha, -, -⟩ := hs.lies (by omega)
      have hLv : L.v = .slice (some ⟨bb, off, none⟩) k s.c := by rw [hLe]; simp [Hl.v, Hl.cut, ha]
      have hRv : R.v = .slice (some ⟨bb, off + k * 32, none⟩) (n - k) (s.c - k) := by rw [hRe]; simp [Hl.v, Hl.cut, ha, hsn]
      obtain ⟨y, hy⟩ : ∃ y, y = bridZ m s.ls bl := ⟨_, rfl⟩
      rw [← hy]
      by_cases hik : m ≤ k
      · have HY : Hid (y = bridZ m L.ls bl ++ [rootZ16 R.ls]) := hide (hy.trans (by rw [bridZ_lo (by omega) (by omega) (by rw [← hkl]; exact hik), ← hkl, ← hLl, ← hRl]))
        have HP : Hid ((bridZ m L.ls bl).length ≤ 65537) := hide (by have := bridZ_le (m) L.ls bl; rw [hLo.len, hLn] at this; omega)
        have HYH : Hid (Hs (rootZ16 R.ls)) := hide (mroot_hs R.ls hRo.hs)
        have HIA : Hid (∀ w0, L.Ok w0 → Calls Tryd.prog 55 #[.int .i64 ((m : Nat) : Int), .slice (some ⟨bb, off, none⟩) k s.c, .bool bl] w0 fun e w' => ∃ v, e = .returned v ∧ HOwn w' w0.heap.size v (bridZ m L.ls bl) ∧ Below w0.heap.size w0 w') := hide (fun w0 h9 => by
          have := IH (k) (by omega) L (m) bl hLn (by omega) (by omega) (by omega) w0 h9
          rwa [hLv] at this)
        have HIB : Hid (∀ w0, R.Ok w0 → Calls Tryd.prog 39 #[.slice (some ⟨bb, off + k * 32, none⟩) (n - k) (s.c - k)] w0 fun e w' => e = .returned (hV (rootZ16 R.ls)) ∧ Below w0.heap.size w0 w') := hide (fun w0 h9 => by
          have := rroot_any R.n R rfl (by omega) w0 h9
          rwa [hRv] at this)
        have g0 : ((m : Nat) : Int) ≤ (k : Int) := by omega
        have g1 : ((m : Int) == (n : Int)) = false := by simp; omega
        have g4 : (k : Int) ≤ (s.c : Int) := by omega
        have g5 : (k : Int) ≤ (n : Int) := by omega
        have g6 : (n : Int) ≤ (s.c : Int) := by omega
        have g7 : k < s.c := by omega
        have g8 : ¬ (s.c - k = 0) := by omega
        have g9 : ¬ (s.c = k) := by omega
        have g10 : k ≤ s.c := by omega
        have g11 : k ≤ n := by omega
        have g12 : n ≤ s.c := by omega
        clear hLe hRe hy hs IH hk hh hmx hle hlen hLl hRl hkl hLn hRn hLv hRv hik
        obtain ⟨a, n', c, ls⟩ := s
        simp only [Hl.v] at *
        subst hsn ha
        go_enter Tryd.func55, Tryd.ntmps55
        have hb2 := Below.refl w.heap.size w
        go_upto_region 7 with (go_at_call 60; refine (hsp _).mono ?_; rintro e w3 ⟨rfl, hw3⟩; obtain rfl := hw3.symm)
        clear hsp
        obtain ⟨n, hn'⟩ : ∃ n, n = n' := ⟨_, rfl⟩
        subst hn'
        refine wp_region_noPanic ?_
        have hb3 := bnext hb2 hb2.size (drew_below _)
        clear hb2
        refine wp_region_held_drew (S := fun w9 => Below w.heap.size w w9) (by kernel_rfl) hb3 (fun hHeld => ?_)
        generalize World.drew _ = v1 at hHeld hb3 ⊢
        clear hb3
        refine wpAnyH_take (i := 0) (oi := _) (v := .int .i64 ((m : Nat) : Int)) rfl (by kernel_rfl) (by kernel_rfl) (by kernel_rfl) (fun _ _ _ h => h) (Or.inl ⟨by rfl, fun w hSw => by go_simp⟩) hHeld ?_
        simp [Act.put]
        refine wpAnyH_take (i := 1) (oi := _) (v := .slice (some ⟨bb, off, none⟩) n c) rfl (by kernel_rfl) (by kernel_rfl) (by kernel_rfl) (fun _ _ _ h => h) (Or.inl ⟨by rfl, fun w hSw => by go_simp⟩) hHeld ?_
        simp [Act.put]
        refine wpAnyH_take (i := 2) (oi := _) (v := .int .i64 (k : Int)) rfl (by kernel_rfl) (by kernel_rfl) (by kernel_rfl) (fun _ _ _ h => h) (Or.inl ⟨by rfl, fun w hSw => by go_simp⟩) hHeld ?_
        simp [Act.put]
        refine wpAnyH_take (i := 3) (oi := _) (v := .slice (some ⟨bb, off, none⟩) k c) rfl (by kernel_rfl) (by kernel_rfl) (by kernel_rfl) (fun _ _ _ h => h) (Or.inl ⟨by rfl, fun w hSw => by go_simp⟩) hHeld ?_
        simp [Act.put]
        refine wpAnyH_take (i := 4) (oi := _) (v := .bool bl) rfl (by kernel_rfl) (by kernel_rfl) (by kernel_rfl) (fun _ _ _ h => h) (Or.inl ⟨by rfl, fun w hSw => by go_simp⟩) hHeld ?_
        simp [Act.put]
        refine wpAnyH_take (i := 6) (oi := _) (v := .slice (some ⟨bb, off, none⟩) n c) rfl (by kernel_rfl) (by kernel_rfl) (by kernel_rfl) (fun _ _ _ h => h) (Or.inl ⟨by rfl, fun w hSw => by go_simp⟩) hHeld ?_
        simp [Act.put]
        refine wpAnyH_take (i := 7) (oi := _) (v := .int .i64 (k : Int)) rfl (by kernel_rfl) (by kernel_rfl) (by kernel_rfl) (fun _ _ _ h => h) (Or.inl ⟨by rfl, fun w hSw => by go_simp⟩) hHeld ?_
        simp [Act.put]
        refine wpAnyH_take (i := 8) (oi := _) (v := .slice (some ⟨bb, off + k * 32, none⟩) (n - k) (c - k)) rfl (by kernel_rfl) (by kernel_rfl) (by kernel_rfl) (fun _ _ _ h => h) (Or.inl ⟨by rfl, fun w hSw => by go_simp⟩) hHeld ?_
        simp [Act.put]
        refine wpAnyH_ready (rs := [5]) (by kernel_rfl) (by simp) ?_
        refine AllReadyH.cons rfl (fun K hKK => ?_) AllReadyH.nil
        go_simp
        refine ((unhide HIA) _ (hLo.later hHeld)).mono ?_
        rintro e w4 ⟨v4, rfl, hO4, hb1⟩
        replace hO4 := hO4.mono hHeld.size
        refine hKK.out _ _ (bnext hHeld hHeld.size hb1) (fun hHeld => ?_)
        clear hKK K hb1
        refine wpAnyH_ready (rs := [9]) (by kernel_rfl) (by simp) ?_
        refine AllReadyH.cons rfl (fun K hKK => ?_) AllReadyH.nil
        go_simp
        refine ((unhide HIB) _ (hRo.later hHeld)).mono ?_
        rintro e w5 ⟨rfl, hb1⟩
        replace hO4 := hO4.later hb1
        refine hKK.out _ _ (bnext hHeld hHeld.size hb1) (fun hHeld => ?_)
        clear hKK K hb1
        refine wpAnyH_ready (rs := [10]) (by kernel_rfl) (by simp) ?_
        refine AllReadyH.cons rfl (fun K hKK => ?_) AllReadyH.nil
        refine step_bs1 rfl (.tmp 31) rfl _ (unhide HYH) rfl ?_
        intro w6 hA6 hb1
        replace hO4 := hO4.later hb1
        simp only [Act.put]
        refine hKK.out _ _ (bnext hHeld hHeld.size hb1) (fun hHeld => ?_)
        clear hKK K hb1
        try simp [Act.put]
        refine wpAnyH_ready (rs := [11]) (by kernel_rfl) (by simp) ?_
        refine AllReadyH.cons rfl (fun K hKK => ?_) AllReadyH.nil
        refine step_push1 rfl (.tmp 27) (.tmp 32) rfl w.heap.size _ _ _ _ 1 hO4 (unhide HYH) hA6 rfl rfl (by have := unhide HP; omega) hHeld.size ?_
        intro v7 w7 hO7 hg7
        have hb7 := hHeld.trans (hO4.bel hg7 (Nat.le_refl _) hHeld.size)
        simp only [Act.put]
        refine hKK.out _ _ hb7 (fun hHeld => ?_)
        clear hKK K hA6 hO4 hg7 hb7
        try simp [Act.put]
        refine wpAnyH_take (i := 12) (oi := _) (v := v7) rfl (by kernel_rfl) (by kernel_rfl) (by kernel_rfl) (fun _ _ _ h => h) (Or.inl ⟨by rfl, fun w hSw => by go_simp⟩) hHeld ?_
        simp [Act.put]
        refine wpAnyH_done (by kernel_rfl) ?_ _
        unfold NoPanic
        go_wp2
        go_ret
        exact ⟨v7, rfl, by rw [unhide HY]; exact hO7, by assumption⟩
      · have HY : Hid (y = bridZ (m - k) R.ls false ++ [rootZ16 L.ls]) := hide (hy.trans (by rw [bridZ_hi (by omega) (by omega) (by rw [← hkl]; exact hik), ← hkl, ← hLl, ← hRl]))
        have HP : Hid ((bridZ (m - k) R.ls false).length ≤ 65537) := hide (by have := bridZ_le (m - k) R.ls false; rw [hRo.len, hRn] at this; omega)
        have HYH : Hid (Hs (rootZ16 L.ls)) := hide (mroot_hs L.ls hLo.hs)
        have HIA : Hid (∀ w0, R.Ok w0 → Calls Tryd.prog 55 #[.int .i64 ((m - k : Nat) : Int), .slice (some ⟨bb, off + k * 32, none⟩) (n - k) (s.c - k), .bool false] w0 fun e w' => ∃ v, e = .returned v ∧ HOwn w' w0.heap.size v (bridZ (m - k) R.ls false) ∧ Below w0.heap.size w0 w') := hide (fun w0 h9 => by
          have := IH (n - k) (by omega) R (m - k) false hRn (by omega) (by omega) (by omega) w0 h9
          rwa [hRv] at this)
        have HIB : Hid (∀ w0, L.Ok w0 → Calls Tryd.prog 39 #[.slice (some ⟨bb, off, none⟩) k s.c] w0 fun e w' => e = .returned (hV (rootZ16 L.ls)) ∧ Below w0.heap.size w0 w') := hide (fun w0 h9 => by
          have := rroot_any L.n L rfl (by omega) w0 h9
          rwa [hLv] at this)
        have g0 : ¬ (((m : Nat) : Int) ≤ (k : Int)) := by omega
        have g0' : IntKind.i64.wrap ((m : Int) - (k : Int)) = ((m - k : Nat) : Int) := by rw [IntKind.wrap_i64]; omega
        have g1 : ((m : Int) == (n : Int)) = false := by simp; omega
        have g4 : (k : Int) ≤ (s.c : Int) := by omega
        have g5 : (k : Int) ≤ (n : Int) := by omega
        have g6 : (n : Int) ≤ (s.c : Int) := by omega
        have g7 : k < s.c := by omega
        have g8 : ¬ (s.c - k = 0) := by omega
        have g9 : ¬ (s.c = k) := by omega
        have g10 : k ≤ s.c := by omega
        have g11 : k ≤ n := by omega
        have g12 : n ≤ s.c := by omega
        clear hLe hRe hy hs IH hk hh hmx hle hlen hLl hRl hkl hLn hRn hLv hRv hik
        obtain ⟨a, n', c, ls⟩ := s
        simp only [Hl.v] at *
        subst hsn ha
        go_enter Tryd.func55, Tryd.ntmps55
        have hb2 := Below.refl w.heap.size w
        go_upto_region 8 with (go_at_call 60; refine (hsp _).mono ?_; rintro e w3 ⟨rfl, hw3⟩; obtain rfl := hw3.symm)
        clear hsp
        obtain ⟨n, hn'⟩ : ∃ n, n = n' := ⟨_, rfl⟩
        subst hn'
        refine wp_region_noPanic ?_
        have hb3 := bnext hb2 hb2.size (drew_below _)
        clear hb2
        refine wp_region_held_drew (S := fun w9 => Below w.heap.size w w9) (by kernel_rfl) hb3 (fun hHeld => ?_)
        generalize World.drew _ = v1 at hHeld hb3 ⊢
        clear hb3
        refine wpAnyH_take (i := 0) (oi := _) (v := .int .i64 ((m : Nat) : Int)) rfl (by kernel_rfl) (by kernel_rfl) (by kernel_rfl) (fun _ _ _ h => h) (Or.inl ⟨by rfl, fun w hSw => by go_simp⟩) hHeld ?_
        simp [Act.put]
        refine wpAnyH_take (i := 1) (oi := _) (v := .int .i64 (k : Int)) rfl (by kernel_rfl) (by kernel_rfl) (by kernel_rfl) (fun _ _ _ h => h) (Or.inl ⟨by rfl, fun w hSw => by go_simp⟩) hHeld ?_
        simp [Act.put]
        refine wpAnyH_take (i := 2) (oi := _) (v := .int .i64 (((m - k : Nat)) : Int)) rfl (by kernel_rfl) (by kernel_rfl) (by kernel_rfl) (fun _ _ _ h => h) (Or.inl ⟨by rfl, fun w hSw => by go_simp⟩) hHeld ?_
        simp [Act.put]
        refine wpAnyH_take (i := 3) (oi := _) (v := .slice (some ⟨bb, off, none⟩) n c) rfl (by kernel_rfl) (by kernel_rfl) (by kernel_rfl) (fun _ _ _ h => h) (Or.inl ⟨by rfl, fun w hSw => by go_simp⟩) hHeld ?_
        simp [Act.put]
        refine wpAnyH_take (i := 4) (oi := _) (v := .int .i64 (k : Int)) rfl (by kernel_rfl) (by kernel_rfl) (by kernel_rfl) (fun _ _ _ h => h) (Or.inl ⟨by rfl, fun w hSw => by go_simp⟩) hHeld ?_
        simp [Act.put]
        refine wpAnyH_take (i := 5) (oi := _) (v := .slice (some ⟨bb, off + k * 32, none⟩) (n - k) (c - k)) rfl (by kernel_rfl) (by kernel_rfl) (by kernel_rfl) (fun _ _ _ h => h) (Or.inl ⟨by rfl, fun w hSw => by go_simp⟩) hHeld ?_
        simp [Act.put]
        refine wpAnyH_take (i := 7) (oi := _) (v := .slice (some ⟨bb, off, none⟩) n c) rfl (by kernel_rfl) (by kernel_rfl) (by kernel_rfl) (fun _ _ _ h => h) (Or.inl ⟨by rfl, fun w hSw => by go_simp⟩) hHeld ?_
        simp [Act.put]
        refine wpAnyH_take (i := 8) (oi := _) (v := .int .i64 (k : Int)) rfl (by kernel_rfl) (by kernel_rfl) (by kernel_rfl) (fun _ _ _ h => h) (Or.inl ⟨by rfl, fun w hSw => by go_simp⟩) hHeld ?_
        simp [Act.put]
        refine wpAnyH_take (i := 9) (oi := _) (v := .slice (some ⟨bb, off, none⟩) k c) rfl (by kernel_rfl) (by kernel_rfl) (by kernel_rfl) (fun _ _ _ h => h) (Or.inl ⟨by rfl, fun w hSw => by go_simp⟩) hHeld ?_
        simp [Act.put]
        refine wpAnyH_ready (rs := [6]) (by kernel_rfl) (by simp) ?_
        refine AllReadyH.cons rfl (fun K hKK => ?_) AllReadyH.nil
        go_simp
        refine ((unhide HIA) _ (hRo.later hHeld)).mono ?_
        rintro e w4 ⟨v4, rfl, hO4, hb1⟩
        replace hO4 := hO4.mono hHeld.size
        refine hKK.out _ _ (bnext hHeld hHeld.size hb1) (fun hHeld => ?_)
        clear hKK K hb1
        refine wpAnyH_ready (rs := [10]) (by kernel_rfl) (by simp) ?_
        refine AllReadyH.cons rfl (fun K hKK => ?_) AllReadyH.nil
        go_simp
        refine ((unhide HIB) _ (hLo.later hHeld)).mono ?_
        rintro e w5 ⟨rfl, hb1⟩
        replace hO4 := hO4.later hb1
        refine hKK.out _ _ (bnext hHeld hHeld.size hb1) (fun hHeld => ?_)
        clear hKK K hb1
        refine wpAnyH_ready (rs := [11]) (by kernel_rfl) (by simp) ?_
        refine AllReadyH.cons rfl (fun K hKK => ?_) AllReadyH.nil
        refine step_bs1 rfl (.tmp 44) rfl _ (unhide HYH) rfl ?_
        intro w6 hA6 hb1
        replace hO4 := hO4.later hb1
        simp only [Act.put]
        refine hKK.out _ _ (bnext hHeld hHeld.size hb1) (fun hHeld => ?_)
        clear hKK K hb1
        try simp [Act.put]
        refine wpAnyH_ready (rs := [12]) (by kernel_rfl) (by simp) ?_
        refine AllReadyH.cons rfl (fun K hKK => ?_) AllReadyH.nil
        refine step_push1 rfl (.tmp 40) (.tmp 45) rfl w.heap.size _ _ _ _ 1 hO4 (unhide HYH) hA6 rfl rfl (by have := unhide HP; omega) hHeld.size ?_
        intro v7 w7 hO7 hg7
        have hb7 := hHeld.trans (hO4.bel hg7 (Nat.le_refl _) hHeld.size)
        simp only [Act.put]
        refine hKK.out _ _ hb7 (fun hHeld => ?_)
        clear hKK K hA6 hO4 hg7 hb7
        try simp [Act.put]
        refine wpAnyH_take (i := 13) (oi := _) (v := v7) rfl (by kernel_rfl) (by kernel_rfl) (by kernel_rfl) (fun _ _ _ h => h) (Or.inl ⟨by rfl, fun w hSw => by go_simp⟩) hHeld ?_
        simp [Act.put]
        refine wpAnyH_done (by kernel_rfl) ?_ _
        unfold NoPanic
        go_wp2
        go_ret
        exact ⟨v7, rfl, by rw [unhide HY]; exact hO7, by assumption⟩
end Go.Proofs.YteijlppmgkdieaaDoor

set_option linter.unusedSimpArgs false
set_option linter.unusedVariables false
namespace Go.Proofs.YteijlppmgkdieaaDoor
open Go.RowKit


set_option maxHeartbeats 4000000 in
set_option maxRecDepth 100000 in
theorem rincl_ok (s : Hl) (i : Nat) (w : World) (hs : s.Ok w) (hn : s.n ≤ 65536) (hi : i < s.n) :
    Calls Tryd.prog 29 #[s.v, .int .i64 i] w fun e w' => ∃ v, e = .returned (.tuple #[v, .bool true]) ∧ HOwn w' w.heap.size v (pathZ i s.ls) ∧ Below w.heap.size w w' := by
  have hP := rpath_any s.n s i rfl hn hi w hs
  clear hs
  obtain ⟨a, n, c, ls⟩ := s
  simp only [Hl.v] at *
  have g1 : ¬ ((65536 : Int) < (n : Int)) := by omega
  have g2 : ¬ ((i : Int) < 0) := by omega
  have g3 : ¬ ((n : Int) ≤ (i : Int)) := by omega
  have g4 : ¬ (n ≤ i) := by omega
  have g5 : ¬ (65536 < n) := by omega
  go_enter Tryd.func29, Tryd.ntmps29
  go_wp2_with (go_at_call 53; refine hP.mono ?_; rintro e w1 ⟨v, rfl, hO, hb⟩)
  go_ret2
  exact ⟨v, rfl, hO, hb⟩
theorem rincl_no (s : Hl) (i : Int) (w : World) (hi : inT i s.n = false) :
    Calls Tryd.prog 29 #[s.v, .int .i64 i] w fun e w' => e = .returned (.tuple #[.slice none 0 0, .bool false]) ∧ w' = w := by
  obtain ⟨a, n, c, ls⟩ := s
  simp only [Hl.v] at *
  unfold inT at hi
  by_cases h1 : (65536 : Int) < (n : Int)
  · have h5 : 65536 < n := by omega
    clear hi
    go_enter Tryd.func29, Tryd.ntmps29
    go_wp2
    go_ret2
    exact ⟨rfl, rfl⟩
  have h5 : ¬ 65536 < n := by omega
  by_cases h2 : i < 0
  · clear hi
    go_enter Tryd.func29, Tryd.ntmps29
    go_wp2
    go_ret2
    exact ⟨rfl, rfl⟩
  · have h3 : (n : Int) ≤ i := by simp at hi; omega
    clear hi
    go_enter Tryd.func29, Tryd.ntmps29
    go_wp2
    go_ret2
    exact ⟨rfl, rfl⟩
set_option maxHeartbeats 4000000 in
set_option maxRecDepth 100000 in
theorem rcons_ok (s : Hl) (m : Nat) (w : World) (hs : s.Ok w) (hn : s.n ≤ 65536) (h1 : 1 ≤ m) (hi : m ≤ s.n) :
    Calls Tryd.prog 31 #[s.v, .int .i64 m] w fun e w' => ∃ v, e = .returned (.tuple #[v, .bool true]) ∧ HOwn w' w.heap.size v (bridZ m s.ls true) ∧ Below w.heap.size w w' := by
  have hP := rbridge_any s.n s m true rfl h1 hn hi w hs
  clear hs
  obtain ⟨a, n, c, ls⟩ := s
  simp only [Hl.v] at *
  have g1 : ¬ ((65536 : Int) < (n : Int)) := by omega
  have g2 : ¬ ((m : Int) < 0) := by omega
  have g3 : ¬ ((n : Int) < (m : Int)) := by omega
  have g4 : ¬ (n < m) := by omega
  have g5 : ¬ (65536 < n) := by omega
  have g6 : ((m : Int) == 0) = false := by simp; omega
  have g7 : ¬ m = 0 := by omega
  go_enter Tryd.func31, Tryd.ntmps31
  go_wp2_with (go_at_call 55; refine hP.mono ?_; rintro e w1 ⟨v, rfl, hO, hb⟩)
  go_ret2
  exact ⟨v, rfl, hO, hb⟩
theorem rcons_zero (s : Hl) (w : World) (hn : s.n ≤ 65536) :
    Calls Tryd.prog 31 #[s.v, .int .i64 0] w fun e w' => e = .returned (.tuple #[.slice none 0 0, .bool true]) ∧ w' = w := by
  obtain ⟨a, n, c, ls⟩ := s
  simp only [Hl.v] at *
  have g1 : ¬ ((65536 : Int) < (n : Int)) := by omega
  have g3 : ¬ ((n : Int) < 0) := by omega
  have g5 : ¬ (65536 < n) := by omega
  go_enter Tryd.func31, Tryd.ntmps31
  go_wp2
  go_ret2
  exact ⟨rfl, rfl⟩
theorem rcons_no (s : Hl) (m : Int) (w : World) (hi : isBg m s.n = false) :
    Calls Tryd.prog 31 #[s.v, .int .i64 m] w fun e w' => e = .returned (.tuple #[.slice none 0 0, .bool false]) ∧ w' = w := by
  obtain ⟨a, n, c, ls⟩ := s
  simp only [Hl.v] at *
  unfold isBg at hi
  by_cases h1 : (65536 : Int) < (n : Int)
  · have h5 : 65536 < n := by omega
    clear hi
    go_enter Tryd.func31, Tryd.ntmps31
    go_wp2
    go_ret2
    exact ⟨rfl, rfl⟩
  have h5 : ¬ 65536 < n := by omega
  by_cases h2 : m < 0
  · clear hi
    go_enter Tryd.func31, Tryd.ntmps31
    go_wp2
    go_ret2
    exact ⟨rfl, rfl⟩
  · have h3 : (n : Int) < m := by simp at hi; omega
    clear hi
    go_enter Tryd.func31, Tryd.ntmps31
    go_wp2
    go_ret2
    exact ⟨rfl, rfl⟩
end Go.Proofs.YteijlppmgkdieaaDoor

set_option linter.unusedSimpArgs false
set_option linter.unusedVariables false
namespace Go.Proofs.YteijlppmgkdieaaDoor
open Go.RowKit

set_option maxHeartbeats 4000000 in
set_option maxRecDepth 100000 in
theorem rleaf_any (d : Sl) (w : World) (hd : d.Ok w) (hn : d.n ≤ 4096) :
    Calls Tryd.prog 12 #[d.v] w fun e w' => e = .returned (hV (lfZ d.l)) ∧ Below w.heap.size w w' := by
  obtain ⟨W, hW, hN, hbW, -⟩ := arr1 w 28 (U8 (List.replicate 32 0))
  have HW := hide hW
  obtain ⟨R, hRR⟩ : ∃ R, R = lfZ d.l := ⟨_, rfl⟩
  rw [← hRR]
  have hRl : R.length = 32 := by rw [hRR]; exact (Hs.sum _).len
  have hz := hz_of hRl
  have hzo := ho_of (A := List.replicate 32 0) (by simp) hRl
  have HR := hide hRR
  have hlt := hN.lt
  have hd1 := hd.later hbW
  have HIB : Hid (IsB ([0] ++ d.l)) := hide (fun x hx => by rcases List.mem_append.1 hx with hx | hx; (simp at hx; omega); exact hd.isB x hx)
  obtain ⟨a, n, c, l⟩ := d
  simp only [Sl.v] at *
  clear hRR hRl hW hd
  go_enter Tryd.func12, Tryd.ntmps12
  go_upto_region 1 with fail
  rw [Z32, ← unhide HW]
  have hO1 := own_lit1 W 0
  have hb1 : Below W.heap.size W (W.alloc (.cells #[.int .u8 0] 5)) := (Below.refl _ _).alloc (Nat.le_refl _) _
  have hN1 := hN.later hb1
  have hd2 := hd1.later hb1
  have hsz1 := hb1.size
  have HBl : Hid (w.heap.size < W.heap.size) := hide hlt
  have HNN := hide hn
  clear hd1 hn hlt
  go_wp2_with (first
    | (refine wpList_app8 rfl (.tmp 5) (.tmp 6) rfl W.heap.size _ 1 [0] rfl hO1 ⟨a, n, c, l⟩ hd2 rfl (by show 1 + n ≤ 140737488355328; have := unhide HNN; omega) hsz1 ?_; intro v2 w2 hO2 hb2; have hN2 := hN1.below hb2 (unhide HBl); have hbb2 := hbW.trans ((hb1.mono hbW.size).trans (hb2.mono hbW.size)); clear hb2 hN1 hO1)
    | (go_at_call 27; refine (rsumO W.heap.size _ v2 _ w2 hO2 (unhide HIB) (by show 1 + n ≤ 1000000; have := unhide HNN; omega)).mono ?_; rintro e w4 ⟨rfl, hb4⟩; rw [show sumZ ([0] ++ l) = R by rw [unhide HR]; rfl]; have hN4 := hN2.later hb4; have hbb4 := bnext hbb2 hbb2.size hb4; clear hb4 hN2; unfold hV)
    | (refine wpList_store_row rfl 28 (.tmp 2) (.tmp 9) rfl w.heap.size (U8 R).toArray rfl rfl 28 _ hN4 hz hzo (all_one (U8_one _)) ?_))
  refine bodyPost_ret (results_cell_row rfl _ _ w.heap.size 28 _ (0, 0) _ rfl (Arr.setRow hN4 (U8 R)) Tryd.underlying28 rfl hz) rfl ?_
  exact ⟨rfl, below_setRow hbb4 (Nat.le_refl _) _⟩
end Go.Proofs.YteijlppmgkdieaaDoor
