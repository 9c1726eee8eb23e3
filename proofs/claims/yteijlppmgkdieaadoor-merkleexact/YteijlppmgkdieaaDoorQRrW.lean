import Derived.Test.YteijlppmgkdieaaDoorQRtsW
set_option linter.unusedVariables false
namespace Go.Proofs.YteijlppmgkdieaaDoor
open Go.RowKit

theorem arr_sl {w : World} {g : Nat} {a : List Int} (hA : Arr w g 28 (U8 a)) (ha : Hs a) : Sl.Ok w ⟨some ⟨g, 0, none⟩, 32, 32, a⟩ :=
  ⟨ha.len, Nat.le_refl _, (by unfold maxLen; omega : 32 ≤ maxLen), (fun h => by cases h), ha.isB, hA.lies⟩
theorem rsumO (base n : Nat) (v : Value) (l : List Int) (w : World) (h : w.ownsRow base 5 1 v n (U8 l)) (hB : IsB l) (hn : n ≤ 1000000) : Calls Tryd.prog 27 #[v] w fun e w' => e = .returned (hV (sumZ l)) ∧ Below w.heap.size w w' := by
  obtain ⟨s, rfl, hok, hl, hsn, -⟩ := own_sl h hB
  have := refSum_any s w hok (by omega)
  rwa [hl] at this

set_option maxHeartbeats 4000000 in
set_option maxRecDepth 100000 in
theorem rnode_any (a b : List Int) (w : World) (ha : Hs a) (hb : Hs b) :
    Calls Tryd.prog 13 #[hV a, hV b] w fun e w' => e = .returned (hV (ndZ a b)) ∧ Below w.heap.size w w' := by
  obtain ⟨W, hW, hG, hR, hN, hbW, -⟩ := arr3 w 28 28 28 (U8 a) (U8 b) (U8 (List.replicate 32 0))
  have HW := hide hW
  have hlt : w.heap.size + 1 + 1 < W.heap.size := hN.lt
  obtain ⟨R, hRR⟩ : ∃ R, R = ndZ a b := ⟨_, rfl⟩
  rw [← hRR]
  have hRl : R.length = 32 := by rw [hRR]; exact (ndZ_hs a b).len
  have hz := hz_of hRl
  have hzo := ho_of (A := List.replicate 32 0) (by simp) hRl
  have HR := hide hRR
  have HIB := hide (isB_cat3 ha hb)
  clear hRR hRl hW
  unfold hV
  go_enter Tryd.func13, Tryd.ntmps13
  go_upto_region 1 with fail
  rw [Z32, ← unhide HW]
  have hO1 := own_lit1 W 1
  have hb1 : Below W.heap.size W (W.alloc (.cells #[.int .u8 1] 5)) := (Below.refl _ _).alloc (Nat.le_refl _) _
  have hG1 := hG.later hb1
  have hR1 := hR.later hb1
  have hN1 := hN.later hb1
  have hsz1 := hb1.size
  have HBl : Hid (w.heap.size + 1 + 1 < W.heap.size) := hide hlt
  go_wp2_with (first
    | (refine wpList_app8 rfl (.tmp 7) (.tmp 8) rfl W.heap.size _ 1 [1] rfl hO1 ⟨some ⟨w.heap.size, 0, none⟩, 32, 32, a⟩ (arr_sl hG1 ha) rfl (by show 1 + 32 ≤ 140737488355328; omega) hsz1 ?_; intro v2 w2 hO2 hb2; have hR2 := hR1.below hb2 (by have := unhide HBl; omega); have hN2 := hN1.below hb2 (unhide HBl); have hsz2 := Nat.le_trans hsz1 hb2.size; have hbb2 := hbW.trans ((hb1.mono hbW.size).trans (hb2.mono hbW.size)); clear hb2 hG1 hR1 hN1 hO1)
    | (refine wpList_app8 rfl (.tmp 10) (.tmp 11) rfl W.heap.size v2 (1 + 32) ([1] ++ a) rfl hO2 ⟨some ⟨w.heap.size + 1, 0, none⟩, 32, 32, b⟩ (arr_sl hR2 hb) rfl (by show 1 + 32 + 32 ≤ 140737488355328; omega) hsz2 ?_; intro v3 w3 hO3 hb3; have hN3 := hN2.below hb3 (unhide HBl); have hbb3 := hbb2.trans (hb3.mono hbW.size); clear hb3 hR2 hN2 hO2)
    | (go_at_call 27; refine (rsumO W.heap.size _ v3 _ w3 hO3 (unhide HIB) (by show 1 + 32 + 32 ≤ 1000000; omega)).mono ?_; rintro e w4 ⟨rfl, hb4⟩; rw [show sumZ ([1] ++ a ++ b) = R by rw [unhide HR]; unfold ndZ; simp]; have hN4 := hN3.later hb4; have hbb4 := bnext hbb3 hbb3.size hb4; clear hb4 hN3; unfold hV)
    | (refine wpList_store_row rfl 28 (.tmp 4) (.tmp 14) rfl (w.heap.size + 1 + 1) (U8 R).toArray rfl rfl 28 _ hN4 hz hzo (all_one (U8_one _)) ?_))
  refine bodyPost_ret (results_cell_row rfl _ _ (w.heap.size + 1 + 1) 28 _ (0, 0) _ rfl (Arr.setRow hN4 (U8 R)) Tryd.underlying28 rfl hz) rfl ?_
  exact ⟨rfl, below_setRow hbb4 (by omega) _⟩

set_option maxHeartbeats 1000000 in
set_option maxRecDepth 100000 in
theorem rsplit_any (n : Nat) (w : World) (h2 : 2 ≤ n) (hn : n ≤ 65536) : Calls Tryd.prog 60 #[.int .i64 n] w fun e w' => e = .returned (.int .i64 (halfN n)) ∧ w' = w := by
  go_enter Tryd.func60, Tryd.ntmps60
  go_wp2
  go_loopw [3] (fun kv wr => ∃ k : Nat, kv = .int .i64 k ∧ Pw k ∧ 1 ≤ k ∧ k < n ∧ wr = w) (fun kv _ => n - (intOf kv).toNat)
  case atStart => exact ⟨1, rfl, ⟨0, rfl⟩, Nat.le_refl _, by omega, rfl⟩
  case round =>
    obtain ⟨k, rfl, hp, h1, hk, rfl⟩ := hrel
    have w2 : IntKind.i64.wrap (2 * (k : Int)) = ((2 * k : Nat) : Int) := by rw [IntKind.wrap_i64]; omega
    by_cases hlt : 2 * k < n
    · have hlz : ((2 * k : Nat) : Int) < (n : Int) := by omega
      obtain ⟨q, hq⟩ : ∃ q, q = 2 * k := ⟨_, rfl⟩
      rw [← hq] at w2 hlz
      have H1 : Hid (Pw q ∧ 1 ≤ q ∧ q < n ∧ k < q) := hide (by
        obtain ⟨j, rfl⟩ := hp
        exact ⟨⟨j + 1, by rw [hq, Nat.pow_succ]; omega⟩, by omega, by omega, by omega⟩)
      clear hq hp h1 hk hlt
      go_wp2
      go_roundw
      case rel => exact ⟨q, rfl, (unhide H1).1, (unhide H1).2.1, (unhide H1).2.2.1, trivial⟩
      case measure => have h9 := unhide H1; simp [intOf]; omega
    · have hlz : decide (((2 * k : Nat) : Int) < (n : Int)) = false := decide_eq_false (by omega)
      obtain ⟨q, hq⟩ : ∃ q, q = 2 * k := ⟨_, rfl⟩
      rw [← hq] at w2 hlz
      have hlz2 : decide (q < n) = false := decide_eq_false (by omega)
      have HK : Hid (halfN n = k) := hide (by
        have b := halfN_spec n h2
        exact pw_one (n := n) (halfN_pw n) hp b.2.1 b.2.2 hk (by omega))
      clear hp h1 hk hlt hq
      go_wp2
      go_ret
      exact ⟨by rw [unhide HK]; rfl, rfl⟩

set_option maxHeartbeats 4000000 in
set_option maxRecDepth 100000 in
theorem rroot_any : ∀ (n : Nat) (s : Hl), s.n = n → n ≤ 65536 → ∀ w : World, s.Ok w →
    Calls Tryd.prog 39 #[s.v] w fun e w' => e = .returned (hV (rootZ16 s.ls)) ∧ Below w.heap.size w w' := by
  intro n
  induction n using Nat.strongRecOn with
  | ind n IH =>
    intro s hsn hn w hs
    obtain ⟨W, hW, hR, hb, -⟩ := arr1 w 28 (U8 (List.replicate 32 0))
    have HW := hide hW
    clear hW
    by_cases h0 : n = 0
    · subst h0
      have hl0 : s.ls = [] := List.length_eq_zero_iff.1 (by rw [hs.len, hsn])
      rw [hl0, rootZ16_nil]
      have hN : Calls Tryd.prog 27 #[.slice none 0 0] W fun e w' => e = .returned (.agg (U8 nonZ).toArray) ∧ Below W.heap.size W w' := refSum_any ⟨none, 0, 0, []⟩ W ⟨rfl, Nat.le_refl _, Nat.zero_le _, fun _ => ⟨rfl, rfl⟩, (fun x hx => by cases hx), Lies.nil _ _⟩ (Nat.zero_le _)
      have hzy := hz_of nonZ_hs.len
      have hzo := ho_of (A := List.replicate 32 0) (by simp) nonZ_hs.len
      clear hs IH hl0
      obtain ⟨a, n, c, ls⟩ := s
      simp only [Hl.v] at *
      subst hsn
      go_enter Tryd.func39, Tryd.ntmps39
      go_wp2_with (first
        | (rw [Z32, ← unhide HW]; go_at_call 27; refine hN.mono ?_; rintro e w1 ⟨rfl, hb1⟩; replace hR := hR.later hb1; replace hb := bnext hb hb.size hb1; clear hb1)
        | (refine wpList_store_row rfl 28 (.tmp 2) (.tmp 7) rfl w.heap.size (U8 nonZ).toArray rfl rfl 28 _ hR hzy hzo (all_one (U8_one _)) ?_))
      refine bodyPost_ret (results_cell_row rfl _ _ w.heap.size 28 _ (0, 0) _ rfl (Arr.setRow hR (U8 nonZ)) Tryd.underlying28 rfl hzy) rfl ?_
      exact ⟨rfl, below_setRow hb (Nat.le_refl _) _⟩
    have g01 : decide ((n : Int) = 0) = false := decide_eq_false (by omega)
    have g02 : decide (n = 0) = false := decide_eq_false h0
    have g03 : ((n : Int) == 0) = false := by simp; omega
    by_cases hone : n = 1
    · subst hone
      obtain ⟨x, hx⟩ : ∃ x, s.ls = [x] := by
        have := hs.len; rw [hsn] at this
        exact List.length_eq_one_iff.1 this
      obtain ⟨b, off, ha, hlt, hX, hxh⟩ := hs.at_ (i := 0) (l := x) (by rw [hx]; rfl)
      rw [hx, rootZ16_one]
      replace hX := rangeAt_later hX hb hlt
      obtain ⟨a, n, c, ls⟩ := s
      simp only [Hl.v] at *
      subst ha hsn
      have hzx := hz_of hxh.len
      have hzo := ho_of (A := List.replicate 32 0) (by simp) hxh.len
      clear hs hlt IH hx
      go_enter Tryd.func39, Tryd.ntmps39
      go_wp2_with (first
        | (rw [Z32, ← unhide HW]; refine wpList_load_mid rfl 28 (.tmp 12) rfl b _ rfl (U8 x) _ hX Tryd.underlying28 rfl (hz_of' hxh.len) ?_)
        | (refine wpList_store_row rfl 28 (.tmp 2) (.tmp 13) rfl w.heap.size (U8 x).toArray rfl rfl 28 _ hR hzx hzo (all_one (U8_one _)) ?_))
      refine bodyPost_ret (results_cell_row rfl _ _ w.heap.size 28 _ (0, 0) _ rfl (Arr.setRow hR (U8 x)) Tryd.underlying28 rfl hzx) rfl ?_
      exact ⟨rfl, below_setRow hb (Nat.le_refl _) _⟩
    · have h2 : 2 ≤ n := by omega
      have hh := halfN_spec n h2
      have hsp := fun w0 => rsplit_any n w0 h2 hn
      have hle := hs.le
      have hmx := hs.mx
      unfold maxLen at hmx
      obtain ⟨k, hk⟩ : ∃ k, k = halfN n := ⟨_, rfl⟩
      rw [← hk] at hsp hh
      obtain ⟨L, hLe⟩ : ∃ L, L = s.cut 0 k s.c := ⟨_, rfl⟩
      obtain ⟨R, hRe⟩ : ∃ R, R = s.cut k s.n s.c := ⟨_, rfl⟩
      have hLo : L.Ok w := by rw [hLe]; exact hs.cut (by omega) (by omega) (by omega) (by omega)
      have hRo : R.Ok w := by rw [hRe]; exact hs.cut (by omega) (by omega) (by omega) (by omega)
      obtain ⟨y, hy⟩ : ∃ y, y = rootZ16 s.ls := ⟨_, rfl⟩
      have hyl : Hs y := by rw [hy]; exact mroot_hs _ hs.hs
      have HY : Hid (y = ndZ (rootZ16 L.ls) (rootZ16 R.ls)) := hide (by
        rw [hy, rootZ16_big (by rw [hs.len]; omega), hLe, hRe, cut_left hs, cut_right hs, hs.len, hsn, hk])
      rw [← hy]
      have hzy := hz_of hyl.len
      have hzo := ho_of (A := List.replicate 32 0) (by simp) hyl.len
      obtain ⟨bb, off, ha, -, -⟩ := hs.lies (by omega)
      have HIL : Hid (∀ w0, L.Ok w0 → Calls Tryd.prog 39 #[.slice (some ⟨bb, off, none⟩) k s.c] w0 fun e w' => e = .returned (hV (rootZ16 L.ls)) ∧ Below w0.heap.size w0 w') := hide (fun w0 h9 => by
        have := IH k (by omega) L (by rw [hLe]; simp [Hl.cut]) (by omega) w0 h9
        rwa [show L.v = .slice (some ⟨bb, off, none⟩) k s.c by rw [hLe]; simp [Hl.v, Hl.cut, ha]] at this)
      have HIR : Hid (∀ w0, R.Ok w0 → Calls Tryd.prog 39 #[.slice (some ⟨bb, off + k * 32, none⟩) (n - k) (s.c - k)] w0 fun e w' => e = .returned (hV (rootZ16 R.ls)) ∧ Below w0.heap.size w0 w') := hide (fun w0 h9 => by
        have := IH (n - k) (by omega) R (by rw [hRe]; simp [Hl.cut, hsn]) (by omega) w0 h9
        rwa [show R.v = .slice (some ⟨bb, off + k * 32, none⟩) (n - k) (s.c - k) by rw [hRe]; simp [Hl.v, Hl.cut, ha, hsn]] at this)
      clear hLe hRe hy hs IH hk
      obtain ⟨a, n', c, ls⟩ := s
      simp only [Hl.v] at *
      subst hsn ha
      have g1 : decide ((n' : Int) = 1) = false := decide_eq_false (by omega)
      have g2 : decide (n' = 1) = false := decide_eq_false (by omega)
      have g3 : ((n' : Int) == 1) = false := by simp; omega
      have g4 : (k : Int) ≤ (c : Int) := by omega
      have g5 : (k : Int) ≤ (n' : Int) := by omega
      have g6 : (n' : Int) ≤ (c : Int) := by omega
      have g7 : k < c := by omega
      have g8 : ¬ (c - k = 0) := by omega
      have g9 : ¬ (c = k) := by omega
      go_enter Tryd.func39, Tryd.ntmps39
      go_upto_region 1 with fail
      rw [Z32, ← unhide HW]
      have hR2 := hR
      have hb2 := hb
      go_upto_region 6 with (go_at_call 60; refine (hsp _).mono ?_; rintro e w3 ⟨rfl, hw3⟩; obtain rfl := hw3.symm)
      clear hR hb hsp
      obtain ⟨n, hn'⟩ : ∃ n, n = n' := ⟨_, rfl⟩
      subst hn'
      refine wp_region_noPanic ?_
      have hR3 := hR2.later (drew_below _)
      have hb3 := bnext hb2 hb2.size (drew_below _)
      clear hR2 hb2
      refine wp_region_held_drew (S := fun w9 => Below w.heap.size w w9) (by kernel_rfl) hb3 (fun hHeld => ?_)
      generalize World.drew _ = v1 at hHeld hR3 hb3 ⊢
      refine wpAnyH_take (i := 0) (oi := _) (v := .slice (some ⟨bb, off, none⟩) n c) rfl (by kernel_rfl) (by kernel_rfl) (by kernel_rfl) (fun _ _ _ h => h) (Or.inl ⟨by rfl, fun w hSw => by go_simp⟩) hHeld ?_
      simp [Act.put]
      refine wpAnyH_take (i := 1) (oi := _) (v := .int .i64 (k : Int)) rfl (by kernel_rfl) (by kernel_rfl) (by kernel_rfl) (fun _ _ _ h => h) (Or.inl ⟨by rfl, fun w hSw => by go_simp⟩) hHeld ?_
      simp [Act.put]
      refine wpAnyH_take (i := 2) (oi := _) (v := .slice (some ⟨bb, off, none⟩) k c) rfl (by kernel_rfl) (by kernel_rfl) (by kernel_rfl) (fun _ _ _ h => h) (Or.inl ⟨by rfl, fun w hSw => by go_simp⟩) hHeld ?_
      simp [Act.put]
      refine wpAnyH_take (i := 4) (oi := _) (v := .slice (some ⟨bb, off, none⟩) n c) rfl (by kernel_rfl) (by kernel_rfl) (by kernel_rfl) (fun _ _ _ h => h) (Or.inl ⟨by rfl, fun w hSw => by go_simp⟩) hHeld ?_
      simp [Act.put]
      refine wpAnyH_take (i := 5) (oi := _) (v := .int .i64 (k : Int)) rfl (by kernel_rfl) (by kernel_rfl) (by kernel_rfl) (fun _ _ _ h => h) (Or.inl ⟨by rfl, fun w hSw => by go_simp⟩) hHeld ?_
      simp [Act.put]
      refine wpAnyH_take (i := 6) (oi := _) (v := .slice (some ⟨bb, off + k * 32, none⟩) (n - k) (c - k)) rfl (by kernel_rfl) (by kernel_rfl) (by kernel_rfl) (fun _ _ _ h => h) (Or.inl ⟨by rfl, fun w hSw => by go_simp⟩) hHeld ?_
      simp [Act.put]
      refine wpAnyH_ready (rs := [3]) (by kernel_rfl) (by simp) ?_
      refine AllReadyH.cons rfl (fun K hKK => ?_) AllReadyH.nil
      go_simp
      refine ((unhide HIL) _ (hLo.later hHeld)).mono ?_
      rintro e w4 ⟨rfl, hb1⟩
      have hR4 := hR3.later hb1
      refine hKK.out _ _ (bnext hHeld hHeld.size hb1) (fun hHeld => ?_)
      clear hKK K hb1 hR3
      refine wpAnyH_ready (rs := [7]) (by kernel_rfl) (by simp) ?_
      refine AllReadyH.cons rfl (fun K hKK => ?_) AllReadyH.nil
      go_simp
      refine ((unhide HIR) _ (hRo.later hHeld)).mono ?_
      rintro e w5 ⟨rfl, hb1⟩
      have hR5 := hR4.later hb1
      refine hKK.out _ _ (bnext hHeld hHeld.size hb1) (fun hHeld => ?_)
      clear hKK K hb1 hR4
      refine wpAnyH_ready (rs := [8]) (by kernel_rfl) (by simp) ?_
      refine AllReadyH.cons rfl (fun K hKK => ?_) AllReadyH.nil
      go_simp
      refine (rnode_any _ _ _ (mroot_hs L.ls hLo.hs) (mroot_hs R.ls hRo.hs)).mono ?_
      rintro e w6 ⟨rfl, hb1⟩
      have hR6 := hR5.later hb1
      refine hKK.out _ _ (bnext hHeld hHeld.size hb1) (fun hHeld => ?_)
      clear hKK K hb1 hR5
      refine wpAnyH_ready (rs := [9]) (by kernel_rfl) (by simp) ?_
      refine AllReadyH.cons rfl (fun K hKK => ?_) AllReadyH.nil
      rw [← unhide HY]
      refine step_store_row rfl 28 (.tmp 2) (.tmp 25) rfl w.heap.size (U8 y).toArray rfl rfl 28 _ hR6 hzy hzo (all_one (U8_one _)) ?_
      simp only [Act.put]
      refine hKK.out _ _ (below_setRow hHeld (Nat.le_refl _) _) (fun hHeld => ?_)
      clear hKK K
      refine wpAnyH_done (by kernel_rfl) ?_ _
      unfold NoPanic
      go_wp2
      refine bodyPost_ret (results_cell_row rfl _ _ w.heap.size 28 _ (0, 0) _ rfl (Arr.setRow hR6 (U8 y)) Tryd.underlying28 rfl hzy) rfl ?_
      exact ⟨rfl, by assumption⟩

set_option maxHeartbeats 4000000 in
set_option maxRecDepth 100000 in
theorem rRoot_ok (s : Hl) (w : World) (hs : s.Ok w) (hn : s.n ≤ 65536) :
    Calls Tryd.prog 22 #[s.v] w fun e w' => e = .returned (.tuple #[hV (rootZ16 s.ls), .bool true]) ∧ Below w.heap.size w w' := by
  obtain ⟨y, hy⟩ : ∃ y, y = rootZ16 s.ls := ⟨_, rfl⟩
  have hyl : Hs y := by rw [hy]; exact mroot_hs _ hs.hs
  have hzy := hz_of hyl.len
  have hzo := ho_of (A := List.replicate 32 0) (by simp) hyl.len
  obtain ⟨W, hW, hR, hb, -⟩ := arr1 w 28 (U8 (List.replicate 32 0))
  have HW := hide hW
  clear hW
  have hO := rroot_any s.n s rfl hn W (hs.later hb)
  rw [← hy] at hO ⊢
  clear hy hs
  obtain ⟨a, n, c, ls⟩ := s
  simp only [Hl.v] at *
  have g1 : decide ((65536 : Int) < (n : Int)) = false := decide_eq_false (by omega)
  have g2 : decide (65536 < n) = false := decide_eq_false (by omega)
  go_enter Tryd.func22, Tryd.ntmps22
  go_wp2_with (first
      | (rw [Z32, ← unhide HW]; go_at_call 39; refine hO.mono ?_; rintro e w1 ⟨rfl, hb1⟩; replace hR := hR.later hb1; replace hb := bnext hb hb.size hb1; clear hb1)
      | (refine wpList_store_row rfl 28 (.tmp 2) (.tmp 9) rfl w.heap.size (U8 y).toArray rfl rfl 28 _ hR hzy hzo (all_one (U8_one _)) ?_))
  refine bodyPost_ret (results_row_tmp rfl _ _ w.heap.size 28 _ (0, 0) _ rfl (.bool true) rfl (setRow_heap _ _ _ _ _ _ hR) Tryd.underlying28 rfl hzy) rfl ?_
  exact ⟨rfl, below_setRow hb (Nat.le_refl _) _⟩
end Go.Proofs.YteijlppmgkdieaaDoor
