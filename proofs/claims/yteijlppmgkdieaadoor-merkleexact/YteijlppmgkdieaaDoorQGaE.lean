import Derived.Test.YteijlppmgkdieaaDoorQGaD
import Derived.Deep.DeepCutAuto
import Derived.Deep.QuietTactic
import Derived.BigQuiet
set_option linter.unusedSimpArgs false
set_option linter.unusedVariables false
namespace Go.Proofs.YteijlppmgkdieaaDoor
open Go.RowKit

/-- what cross answers -/
def RxP (m n : Nat) (wh : Bool) (x : List Int) (p : List (List Int)) (u v : List Int) (q : Bool) : Prop := Hs u ∧ Hs v ∧ q = decide (p.length = mblen m n wh) ∧ (q = true → (u, v) = crossZ m n wh x p)
def RxE (m n : Nat) (wh : Bool) (x : List Int) (p : List (List Int)) (w : World) (e : Ending) (w' : World) : Prop := ∃ u v q, e = .returned (aV (enC u v q)) ∧ RxP m n wh x p u v q ∧ Below w.heap.size w w'
set_option maxHeartbeats 4000000 in
set_option maxRecDepth 100000 in
theorem rcross_any : ∀ (n m : Nat) (wh : Bool) (x : List Int) (s : Hl), 1 ≤ m → m ≤ n → n ≤ 65536 → Hs x → ∀ w : World, s.Ok w →
    Calls Tryd.prog 40 #[.int .i64 m, .int .i64 n, .bool wh, aV (U8 x), s.v] w fun e w' => RxE m n wh x s.ls w e w' := by
  intro n
  induction n using Nat.strongRecOn with
  | ind n IH =>
    intro m wh x s h1 hmn hn hx w hs
    have hle := hs.le
    have hmx := hs.mx
    unfold maxLen at hmx
    have hlen := hs.len
    have hS := Hs17.begin w (fun w' => s.Ok w') (fun w' ho => hs.old ho)
    by_cases hA : m = n ∧ wh = true
    · obtain ⟨rfl, rfl⟩ := hA
      have HR : Hid (RxP m m true x s.ls x x (decide (s.n = 0))) := hide ⟨hx, hx, by rw [mblen_all, hlen], fun _ => crossZ_all.symm⟩
      obtain ⟨a, sn, c, ls⟩ := s
      simp only [Hl.v] at *
      have hb0 : (((sn : Nat) : Int) == 0) = decide (sn = 0) := by rw [Bool.eq_iff_iff]; simp
      generalize decide (sn = 0) = q at HR hb0
      clear hlen hle hmx hs IH h1 hn hmn
      go_enter Tryd.func40, Tryd.ntmps40
      go_upto_region 0 with fail
      refine wp_region_lit ?_
      refine wl_box (by kernel_rfl) 28 (.tmp 3) rfl (U8 x) rfl hS ?_
      clear hS
      intro g1 w1 hS
      simp [Act.put]
      refine wl_alloc (by kernel_rfl) 69 rfl (enC z32 z32 false) Tryd.inN hS ?_
      clear hS
      intro g2 w2 hS
      simp [Act.put]
      refine wpList_nil ?_
      go_upto_region 2 with fail
      refine wp_region_lit ?_
      refine wl_load (by kernel_rfl) 28 (.tmp 8) rfl 1 rfl 0 rfl (U8 x) (At.self _) Tryd.underlying28 rfl (szH hx) hS ?_
      simp [Act.put]
      refine wl_load (by kernel_rfl) 28 (.tmp 8) rfl 1 rfl 0 rfl (U8 x) (At.self _) Tryd.underlying28 rfl (szH hx) hS ?_
      simp [Act.put]
      refine wl (by kernel_rfl) fun kQ hkQ => ?_
      go_simp
      refine hkQ _ _ ?_
      clear hkQ kQ
      refine wl (by kernel_rfl) fun kQ hkQ => ?_
      go_simp
      refine hkQ _ _ ?_
      clear hkQ kQ
      refine wl (by kernel_rfl) fun kQ hkQ => ?_
      go_simp
      refine hkQ _ _ ?_
      clear hkQ kQ
      refine wv (aV (enC x x q)) (by kernel_rfl) (ex_build 69 #[(0, .tmp 22), (1, .tmp 23), (2, .tmp 26)] rfl (enC x x q) (b_n3 hx hx q) rfl) ?_
      simp [Act.put]
      refine wl_store (by kernel_rfl) 69 (.tmp 10) (.tmp 27) rfl 0 rfl 0 rfl (enC x x q) (enC x x q) (pt_n z32_hs z32_hs hx hx false q) rfl (szN hx hx _) (one_n _ _ _) hS ?_
      clear hS
      intro w3 hS
      change Hs17 w [(g2, 69, (enC x x q)), (g1, 28, (U8 x))] (fun w' => Hl.Ok w' ⟨a, sn, c, ls⟩) w3 at hS
      simp [Act.put]
      refine wpList_nil ?_
      go_wp2_with fail
      refine bodyPost_ret (res_c rfl hS 0 rfl rfl Tryd.underlying69 rfl (szN hx hx _)) rfl ?_
      unfold RxE
      exact ⟨x, x, q, rfl, unhide HR, hS.bel⟩
    by_cases hz : s.n = 0
    · have HR : Hid (RxP m n wh x s.ls z32 z32 false) := hide ⟨z32_hs, z32_hs, by
        rw [hlen, hz]
        refine (decide_eq_false ?_).symm
        by_cases e : m = n
        · have : wh = false := by cases wh <;> simp_all
          rw [e, this, mblen_part]; omega
        · have := mblen_pos (m := m) (n := n) (wh := wh) (by omega) e; omega, fun h => by cases h⟩
      obtain ⟨a, sn, c, ls⟩ := s
      simp only [Hl.v] at *
      subst hz
      by_cases e : m = n
      · subst e
        obtain rfl : wh = false := by cases wh <;> simp_all
        clear hlen hle hmx hs IH h1 hn hmn hA
        go_enter Tryd.func40, Tryd.ntmps40
        go_upto_region 0 with fail
        refine wp_region_lit ?_
        refine wl_box (by kernel_rfl) 28 (.tmp 3) rfl (U8 x) rfl hS ?_
        clear hS
        intro g1 w1 hS
        simp [Act.put]
        refine wl_alloc (by kernel_rfl) 69 rfl (enC z32 z32 false) Tryd.inN hS ?_
        clear hS
        intro g2 w2 hS
        simp [Act.put]
        refine wpList_nil ?_
        go_upto_region 4 with fail
        refine wp_region_lit ?_
        refine wv (aV (enC z32 z32 false)) (by kernel_rfl) (ex_build 69 #[] rfl (enC z32 z32 false) b_n0 rfl) ?_
        simp [Act.put]
        refine wl_store (by kernel_rfl) 69 (.tmp 10) (.tmp 31) rfl 0 rfl 0 rfl (enC z32 z32 false) (enC z32 z32 false) (pt_n z32_hs z32_hs z32_hs z32_hs false false) rfl (szN z32_hs z32_hs _) (one_n _ _ _) hS ?_
        clear hS
        intro w3 hS
        change Hs17 w [(g2, 69, (enC z32 z32 false)), (g1, 28, (U8 x))] (fun w' => Hl.Ok w' ⟨a, 0, c, ls⟩) w3 at hS
        simp [Act.put]
        refine wpList_nil ?_
        go_wp2_with fail
        refine bodyPost_ret (res_c rfl hS 0 rfl rfl Tryd.underlying69 rfl (szN z32_hs z32_hs _)) rfl ?_
        unfold RxE
        exact ⟨z32, z32, false, rfl, unhide HR, hS.bel⟩
      · have gne : ((m : Int) == (n : Int)) = false := by simp; omega
        clear hlen hle hmx hs IH h1 hn hmn hA e
        go_enter Tryd.func40, Tryd.ntmps40
        go_upto_region 0 with fail
        refine wp_region_lit ?_
        refine wl_box (by kernel_rfl) 28 (.tmp 3) rfl (U8 x) rfl hS ?_
        clear hS
        intro g1 w1 hS
        simp [Act.put]
        refine wl_alloc (by kernel_rfl) 69 rfl (enC z32 z32 false) Tryd.inN hS ?_
        clear hS
        intro g2 w2 hS
        simp [Act.put]
        refine wpList_nil ?_
        go_upto_region 4 with fail
        refine wp_region_lit ?_
        refine wv (aV (enC z32 z32 false)) (by kernel_rfl) (ex_build 69 #[] rfl (enC z32 z32 false) b_n0 rfl) ?_
        simp [Act.put]
        refine wl_store (by kernel_rfl) 69 (.tmp 10) (.tmp 31) rfl 0 rfl 0 rfl (enC z32 z32 false) (enC z32 z32 false) (pt_n z32_hs z32_hs z32_hs z32_hs false false) rfl (szN z32_hs z32_hs _) (one_n _ _ _) hS ?_
        clear hS
        intro w3 hS
        change Hs17 w [(g2, 69, (enC z32 z32 false)), (g1, 28, (U8 x))] (fun w' => Hl.Ok w' ⟨a, 0, c, ls⟩) w3 at hS
        simp [Act.put]
        refine wpList_nil ?_
        go_wp2_with fail
        refine bodyPost_ret (res_c rfl hS 0 rfl rfl Tryd.underlying69 rfl (szN z32_hs z32_hs _)) rfl ?_
        unfold RxE
        exact ⟨z32, z32, false, rfl, unhide HR, hS.bel⟩
    by_cases e : m = n
    · subst e
      obtain rfl : wh = false := by cases wh <;> simp_all
      obtain ⟨b, hb⟩ : ∃ b, s.ls[0]? = some b := ⟨_, List.getElem?_eq_getElem (by omega)⟩
      have hbh : Hs b := hs.hs b (List.mem_of_getElem? hb)
      have HR : Hid (RxP m m false x s.ls b b (decide (s.n = 1))) := hide ⟨hbh, hbh, by rw [mblen_part, hlen], fun h => by
        have h1 : s.n = 1 := by simpa using h
        obtain ⟨y, hy⟩ := List.length_eq_one_iff.1 (hlen.trans h1)
        rw [hy] at hb ⊢
        simp at hb
        subst hb
        exact (crossZ_part (p := [])).symm⟩
      obtain ⟨bb, off, ha, hblt, -, -⟩ := hs.at_ hb
      have hrg9 : ∀ w', Hl.Ok w' s → w'.rangeAt bb off (U8 b) := fun w' h9 => by
        obtain ⟨b2, off2, ha2, -, h, -⟩ := h9.at_ hb
        rw [ha] at ha2
        simp only [Option.some.injEq, Addr.mk.injEq] at ha2
        obtain ⟨rfl, rfl, -⟩ := ha2
        simpa using h
      obtain ⟨a, sn, c, ls⟩ := s
      simp only [Hl.v] at *
      subst ha
      have g2 : ((sn : Int) == 0) = false := by simp; omega
      have g4 : 0 < sn := by omega
      have hb1q : (((sn : Nat) : Int) == 1) = decide (sn = 1) := by rw [Bool.eq_iff_iff]; simp; omega
      generalize decide (sn = 1) = q at HR hb1q
      clear hlen hle hmx hs IH h1 hn hmn hA hb hz hblt
      go_enter Tryd.func40, Tryd.ntmps40
      go_upto_region 0 with fail
      refine wp_region_lit ?_
      refine wl_box (by kernel_rfl) 28 (.tmp 3) rfl (U8 x) rfl hS ?_
      clear hS
      intro g1 w1 hS
      simp [Act.put]
      refine wl_alloc (by kernel_rfl) 69 rfl (enC z32 z32 false) Tryd.inN hS ?_
      clear hS
      intro g2 w2 hS
      simp [Act.put]
      refine wpList_nil ?_
      go_upto_region 6 with fail
      refine wp_region_noPanic ?_
      replace hS := hS.drew
      refine wp_region_held_drew (S := Hs17 w [(g1, 28, (U8 x))] (fun w' => Hl.Ok w' ⟨some ⟨bb, off, none⟩, sn, c, ls⟩)) (by kernel_rfl) (hS.sub (((List.Sublist.slnil).cons_cons _).cons _)) (fun hHeld => ?_)
      generalize World.drew _ = w3 at hS hHeld ⊢
      refine wpAnyH_take (i := 0) (oi := _) (v := (.slice (some ⟨bb, off, none⟩) sn c)) rfl (by kernel_rfl) (by kernel_rfl) (by kernel_rfl) (fun _ _ _ h => h) (Or.inl ⟨by rfl, fun w hSw => by go_simp⟩) hHeld ?_
      simp [Act.put]
      refine wpAnyH_take (i := 1) (oi := _) (v := .pointer (some ⟨bb, off, none⟩)) rfl (by kernel_rfl) (by kernel_rfl) (by kernel_rfl) (fun _ _ _ h => h) (Or.inl ⟨by rfl, fun w hSw => by go_simp⟩) hHeld ?_
      simp [Act.put]
      refine wpAnyH_take (i := 2) (oi := _) (v := aV (U8 b)) rfl (by kernel_rfl) (by kernel_rfl) (by kernel_rfl) (fun _ _ _ h => h) (yl_loadR (by kernel_rfl) 28 (.tmp 36) rfl bb off rfl (U8 b) (fun w9 h9 => hrg9 w9 h9.K) Tryd.underlying28 rfl (szH hbh)) hHeld ?_
      simp [Act.put]
      refine wpAnyH_take (i := 3) (oi := _) (v := (.slice (some ⟨bb, off, none⟩) sn c)) rfl (by kernel_rfl) (by kernel_rfl) (by kernel_rfl) (fun _ _ _ h => h) (Or.inl ⟨by rfl, fun w hSw => by go_simp⟩) hHeld ?_
      simp [Act.put]
      refine wpAnyH_take (i := 4) (oi := _) (v := .pointer (some ⟨bb, off, none⟩)) rfl (by kernel_rfl) (by kernel_rfl) (by kernel_rfl) (fun _ _ _ h => h) (Or.inl ⟨by rfl, fun w hSw => by go_simp⟩) hHeld ?_
      simp [Act.put]
      refine wpAnyH_take (i := 5) (oi := _) (v := aV (U8 b)) rfl (by kernel_rfl) (by kernel_rfl) (by kernel_rfl) (fun _ _ _ h => h) (yl_loadR (by kernel_rfl) 28 (.tmp 39) rfl bb off rfl (U8 b) (fun w9 h9 => hrg9 w9 h9.K) Tryd.underlying28 rfl (szH hbh)) hHeld ?_
      simp [Act.put]
      refine wpAnyH_take (i := 6) (oi := _) (v := (.slice (some ⟨bb, off, none⟩) sn c)) rfl (by kernel_rfl) (by kernel_rfl) (by kernel_rfl) (fun _ _ _ h => h) (Or.inl ⟨by rfl, fun w hSw => by go_simp⟩) hHeld ?_
      simp [Act.put]
      refine wpAnyH_take (i := 7) (oi := _) (v := .int .i64 (sn : Int)) rfl (by kernel_rfl) (by kernel_rfl) (by kernel_rfl) (fun _ _ _ h => h) (Or.inl ⟨by rfl, fun w hSw => by go_simp⟩) hHeld ?_
      simp [Act.put]
      refine wpAnyH_take (i := 8) (oi := _) (v := .bool q) rfl (by kernel_rfl) (by kernel_rfl) (by kernel_rfl) (fun _ _ _ h => h) (Or.inl ⟨by rfl, fun w hSw => by go_simp⟩) hHeld ?_
      simp [Act.put]
      refine wpAnyH_take (i := 9) (oi := _) (v := aV (enC b b q)) rfl (by kernel_rfl) (by kernel_rfl) (by kernel_rfl) (fun _ _ _ h => h) (yl_val (by kernel_rfl) _ (fun w => ex_build 69 #[(0, .tmp 37), (1, .tmp 40), (2, .tmp 43)] rfl (enC b b q) (b_n3 hbh hbh q) rfl)) hHeld ?_
      simp [Act.put]
      refine wpAnyH_ready (rs := [10]) (by kernel_rfl) (by simp) ?_
      refine (AllReadyH.cons rfl (fun kQ hkQ => ?_) AllReadyH.nil)
      refine dw (by kernel_rfl) (op_store 69 (.tmp 10) (.tmp 44) rfl 0 rfl 0 rfl (enC b b q) (enC b b q) (pt_n z32_hs z32_hs hbh hbh false q) rfl (szN hbh hbh _) (one_n _ _ _) hS ?_)
      clear hS hHeld
      intro w4 hS
      change Hs17 w [(g2, 69, (enC b b q)), (g1, 28, (U8 x))] (fun w' => Hl.Ok w' ⟨some ⟨bb, off, none⟩, sn, c, ls⟩) w4 at hS
      refine hkQ.out _ _ (hS.sub (((List.Sublist.slnil).cons_cons _).cons _)) (fun hHeld => ?_)
      clear hkQ kQ
      simp [Act.put]
      refine wpAnyH_done (by kernel_rfl) ?_ _
      unfold NoPanic
      clear hHeld
      go_wp2_with fail
      refine bodyPost_ret (res_c rfl hS 0 rfl rfl Tryd.underlying69 rfl (szN hbh hbh _)) rfl ?_
      unfold RxE
      exact ⟨b, b, q, rfl, unhide HR, hS.bel⟩
    have h2 : 2 ≤ n := by omega
    have hh := halfN_spec n h2
    have hsp := fun w0 => rsplit_any n w0 h2 hn
    obtain ⟨p, b, hpb⟩ : ∃ p b, s.ls = p ++ [b] := by
      rcases List.eq_nil_or_concat s.ls with h | ⟨p, b, h⟩
      · rw [h] at hlen; simp at hlen; omega
      · exact ⟨p, b, by rw [h]; simp⟩
    have hpl : p.length + 1 = s.n := by rw [← hlen, hpb]; simp
    have hbh : Hs b := hs.hs b (by rw [hpb]; simp)
    have hat : s.ls[s.n - 1]? = some b := by rw [hpb, List.getElem?_append_right (by omega), show s.n - 1 - p.length = 0 by omega]; rfl
    obtain ⟨bb, off, ha, hblt, hrg, -⟩ := hs.at_ hat
    obtain ⟨R, hRe⟩ : ∃ R, R = s.cut 0 (s.n - 1) s.c := ⟨_, rfl⟩
    have hRo : ∀ w', Hl.Ok w' s → R.Ok w' := fun w' h => by rw [hRe]; exact h.cut (by omega) (by omega) (by omega) (by omega)
    have hRl : R.ls = p := by rw [hRe, cut_left hs, hpb, List.take_left' (by omega)]
    have hRv : R.v = .slice (some ⟨bb, off, none⟩) (s.n - 1) s.c := by rw [hRe]; simp [Hl.v, Hl.cut, ha]
    obtain ⟨k, hk⟩ : ∃ k, k = halfN n := ⟨_, rfl⟩
    rw [← hk] at hsp hh
    rw [hpb]
    by_cases hik : m ≤ k
    · have hI : ∀ w', s.Ok w' → Calls Tryd.prog 40 #[.int .i64 ((m : Nat) : Int), .int .i64 ((k : Nat) : Int), .bool wh, aV (U8 x), .slice (some ⟨bb, off, none⟩) (s.n - 1) s.c] w' fun e w'' => RxE (m) (k) wh x p w' e w'' := fun w' hw' => by
        have := IH (k) (by omega) (m) wh x R (by omega) (by omega) (by omega) hx w' (hRo w' hw')
        rwa [hRv, hRl] at this
      have HU : Hid (∀ u v q, RxP (m) (k) wh x p u v q → RxP m n wh x (p ++ [b]) u (ndZ v b) q) := hide (fun u v q hq => by
        obtain ⟨q0, q1, q2, q3⟩ := hq
        refine ⟨q0, ndZ_hs _ _, ?_, fun e1 => ?_⟩
        · rw [q2, mblen_lo h2 e (by rw [← hk]; exact hik), ← hk]; simp
        · have e2 := q3 e1
          rw [crossZ_lo h2 e (by rw [← hk]; exact hik), ← hk, ← e2])
      have gne : ((m : Int) == (n : Int)) = false := by simp; omega
      have g2 : ((s.n : Int) == 0) = false := by simp; omega
      have g3 : IntKind.i64.wrap ((s.n : Int) - 1) = ((s.n - 1 : Nat) : Int) := by rw [IntKind.wrap_i64]; omega
      have g4 : s.n - 1 < s.n := by omega
      have g5 : s.n - 1 ≤ s.c := by omega
      have g8 : s.n ≤ s.c := by omega
      have g9 : s.n - 1 ≤ s.n := by omega
      have g6 : (m : Int) ≤ (k : Int) := by omega
      clear hRo hRv hRl hRe hpb hat hs hpl hlen hle hmx IH hk hh hik h1 hn hmn h2 hz hA e
      obtain ⟨a, sn, c, ls⟩ := s
      simp only [Hl.v] at *
      subst ha
      obtain ⟨mm, hm⟩ : ∃ m, m = sn - 1 := ⟨_, rfl⟩
      rw [← hm] at g3 g4 g5 g9 hI hrg
      clear hm
      go_enter Tryd.func40, Tryd.ntmps40
      go_upto_region 0 with fail
      refine wp_region_lit ?_
      refine wl_box (by kernel_rfl) 28 (.tmp 3) rfl (U8 x) rfl hS ?_
      clear hS
      intro g1 w1 hS
      simp [Act.put]
      refine wl_alloc (by kernel_rfl) 69 rfl (enC z32 z32 false) Tryd.inN hS ?_
      clear hS
      intro g2 w2 hS
      simp [Act.put]
      refine wpList_nil ?_
      go_upto_region 7 with fail
      refine wp_region_lit ?_
      refine wl (by kernel_rfl) fun kQ hkQ => ?_
      go_simp
      refine hkQ _ _ ?_
      clear hkQ kQ
      refine wl (by kernel_rfl) fun kQ hkQ => ?_
      go_simp
      refine (hsp _).mono ?_
      rintro e w3 ⟨rfl, hw1⟩
      obtain rfl := hw1.symm
      have hb1 := hw1
      refine hkQ _ _ ?_
      clear hkQ kQ hb1
      refine wl (by kernel_rfl) fun kQ hkQ => ?_
      go_simp
      refine hkQ _ _ ?_
      clear hkQ kQ
      refine wpList_nil ?_
      clear hsp
      have hrg2 := rangeAt_old hrg hblt (Old.of hS.bel)
      go_upto_region 8 with fail
      refine wp_region_lit ?_
      refine wl (by kernel_rfl) fun kQ hkQ => ?_
      go_simp
      refine hkQ _ _ ?_
      clear hkQ kQ
      refine wl (by kernel_rfl) fun kQ hkQ => ?_
      go_simp
      refine hkQ _ _ ?_
      clear hkQ kQ
      refine wl (by kernel_rfl) fun kQ hkQ => ?_
      go_simp
      refine hkQ _ _ ?_
      clear hkQ kQ
      refine wl (by kernel_rfl) fun kQ hkQ => ?_
      go_simp
      refine hkQ _ _ ?_
      clear hkQ kQ
      refine wl (by kernel_rfl) fun kQ hkQ => ?_
      go_simp
      refine hkQ _ _ ?_
      clear hkQ kQ
      refine wv (aV (U8 b)) (by kernel_rfl) (ex_loadR 28 (.tmp 51) rfl (bb) (off + mm * 32) rfl (U8 b) hrg2 Tryd.underlying28 rfl (szH hbh)) ?_
      simp [Act.put]
      refine wl_alloc (by kernel_rfl) 28 rfl (U8 z32) Tryd.inH hS ?_
      clear hS
      intro g4 w4 hS
      simp [Act.put]
      refine wl_store (by kernel_rfl) 28 (.tmp 12) (.tmp 52) rfl 0 rfl 0 rfl (U8 b) (U8 b) (pt_H z32_hs hbh) rfl (szH hbh) (U8_one _) hS ?_
      clear hS
      intro w5 hS
      change Hs17 w [(g4, 28, (U8 b)), (g2, 69, (enC z32 z32 false)), (g1, 28, (U8 x))] (fun w' => Hl.Ok w' ⟨some ⟨bb, off, none⟩, sn, c, ls⟩) w5 at hS
      simp [Act.put]
      refine wpList_nil ?_
      clear hrg2
      go_upto_region 9 with fail
      refine wp_region_lit ?_
      refine wl (by kernel_rfl) fun kQ hkQ => ?_
      go_simp
      refine hkQ _ _ ?_
      clear hkQ kQ
      refine wl (by kernel_rfl) fun kQ hkQ => ?_
      go_simp
      refine hkQ _ _ ?_
      clear hkQ kQ
      refine wl (by kernel_rfl) fun kQ hkQ => ?_
      go_simp
      refine hkQ _ _ ?_
      clear hkQ kQ
      refine wl (by kernel_rfl) fun kQ hkQ => ?_
      go_simp
      refine hkQ _ _ ?_
      clear hkQ kQ
      refine wl (by kernel_rfl) fun kQ hkQ => ?_
      go_simp
      refine hkQ _ _ ?_
      clear hkQ kQ
      refine wl (by kernel_rfl) fun kQ hkQ => ?_
      go_simp
      refine hkQ _ _ ?_
      clear hkQ kQ
      refine wpList_nil ?_
      go_upto_region 11 with fail
      refine wp_region_lit ?_
      refine wl (by kernel_rfl) fun kQ hkQ => ?_
      go_simp
      refine hkQ _ _ ?_
      clear hkQ kQ
      refine wl (by kernel_rfl) fun kQ hkQ => ?_
      go_simp
      refine hkQ _ _ ?_
      clear hkQ kQ
      refine wl (by kernel_rfl) fun kQ hkQ => ?_
      go_simp
      refine hkQ _ _ ?_
      clear hkQ kQ
      refine wl_load (by kernel_rfl) 28 (.tmp 8) rfl 2 rfl 0 rfl (U8 x) (At.self _) Tryd.underlying28 rfl (szH hx) hS ?_
      simp [Act.put]
      refine wl (by kernel_rfl) fun kQ hkQ => ?_
      go_simp
      refine hkQ _ _ ?_
      clear hkQ kQ
      refine wl (by kernel_rfl) fun kQ hkQ => ?_
      go_simp
      refine (hI _ hS.K).mono ?_
      rintro e w6 ⟨u, v, q, rfl, hq, hb1⟩
      replace hS := hS.later hb1
      refine hkQ _ _ ?_
      clear hkQ kQ hb1
      have hu1 := hq.1
      have hv1 := hq.2.1
      have HQ := hide hq
      clear hq
      refine wl_alloc (by kernel_rfl) 69 rfl (enC z32 z32 false) Tryd.inN hS ?_
      clear hS
      intro g7 w7 hS
      simp [Act.put]
      refine wl_store (by kernel_rfl) 69 (.tmp 14) (.tmp 66) rfl 0 rfl 0 rfl (enC u v q) (enC u v q) (pt_n z32_hs z32_hs hu1 hv1 false q) rfl (szN hu1 hv1 _) (one_n _ _ _) hS ?_
      clear hS
      intro w8 hS
      change Hs17 w [(g7, 69, (enC u v q)), (g4, 28, (U8 b)), (g2, 69, (enC z32 z32 false)), (g1, 28, (U8 x))] (fun w' => Hl.Ok w' ⟨some ⟨bb, off, none⟩, sn, c, ls⟩) w8 at hS
      simp [Act.put]
      refine wpList_nil ?_
      clear hI
      go_upto_region 12 with fail
      refine wp_region_lit ?_
      refine wl (by kernel_rfl) fun kQ hkQ => ?_
      go_simp
      refine hkQ _ _ ?_
      clear hkQ kQ
      refine wl_load (by kernel_rfl) 28 (.tmp 67) rfl 0 rfl 32 rfl (U8 v) (at_n1 hu1 v q) Tryd.underlying28 rfl (szH hv1) hS ?_
      simp [Act.put]
      refine wl_load (by kernel_rfl) 28 (.tmp 12) rfl 1 rfl 0 rfl (U8 b) (At.self _) Tryd.underlying28 rfl (szH hbh) hS ?_
      simp [Act.put]
      refine wl (by kernel_rfl) fun kQ hkQ => ?_
      go_simp
      refine (rnodeA v b _ hv1 hbh).mono ?_
      rintro e w9 ⟨rfl, hb1⟩
      replace hS := hS.later hb1
      refine hkQ _ _ ?_
      clear hkQ kQ hb1
      refine wl (by kernel_rfl) fun kQ hkQ => ?_
      go_simp
      refine hkQ _ _ ?_
      clear hkQ kQ
      refine wl_store (by kernel_rfl) 28 (.tmp 71) (.tmp 70) rfl 0 rfl 32 rfl (U8 (ndZ v b)) (enC u (ndZ v b) q) (pt_n1 hu1 hv1 (ndZ_hs v b) q) rfl (szH (ndZ_hs v b)) (U8_one _) hS ?_
      clear hS
      intro w10 hS
      change Hs17 w [(g7, 69, (enC u (ndZ v b) q)), (g4, 28, (U8 b)), (g2, 69, (enC z32 z32 false)), (g1, 28, (U8 x))] (fun w' => Hl.Ok w' ⟨some ⟨bb, off, none⟩, sn, c, ls⟩) w10 at hS
      simp [Act.put]
      refine wpList_nil ?_
      go_upto_region 13 with fail
      refine wp_region_lit ?_
      refine wl_load (by kernel_rfl) 69 (.tmp 14) rfl 0 rfl 0 rfl (enC u (ndZ v b) q) (At.self _) Tryd.underlying69 rfl (szN hu1 (ndZ_hs v b) _) hS ?_
      simp [Act.put]
      refine wl_store (by kernel_rfl) 69 (.tmp 10) (.tmp 72) rfl 2 rfl 0 rfl (enC u (ndZ v b) q) (enC u (ndZ v b) q) (pt_n z32_hs z32_hs hu1 (ndZ_hs v b) false q) rfl (szN hu1 (ndZ_hs v b) _) (one_n _ _ _) hS ?_
      clear hS
      intro w11 hS
      change Hs17 w [(g7, 69, (enC u (ndZ v b) q)), (g4, 28, (U8 b)), (g2, 69, (enC u (ndZ v b) q)), (g1, 28, (U8 x))] (fun w' => Hl.Ok w' ⟨some ⟨bb, off, none⟩, sn, c, ls⟩) w11 at hS
      simp [Act.put]
      refine wpList_nil ?_
      go_wp2_with fail
      refine bodyPost_ret (res_c rfl hS 2 rfl rfl Tryd.underlying69 rfl (szN hu1 (ndZ_hs v b) _)) rfl ?_
      unfold RxE
      exact ⟨u, ndZ v b, q, rfl, unhide HU u v q (unhide HQ), hS.bel⟩
    · have hI : ∀ w', s.Ok w' → Calls Tryd.prog 40 #[.int .i64 ((m - k : Nat) : Int), .int .i64 ((n - k : Nat) : Int), .bool false, aV (U8 x), .slice (some ⟨bb, off, none⟩) (s.n - 1) s.c] w' fun e w'' => RxE (m - k) (n - k) false x p w' e w'' := fun w' hw' => by
        have := IH (n - k) (by omega) (m - k) false x R (by omega) (by omega) (by omega) hx w' (hRo w' hw')
        rwa [hRv, hRl] at this
      have HU : Hid (∀ u v q, RxP (m - k) (n - k) false x p u v q → RxP m n wh x (p ++ [b]) (ndZ b u) (ndZ b v) q) := hide (fun u v q hq => by
        obtain ⟨q0, q1, q2, q3⟩ := hq
        refine ⟨ndZ_hs _ _, ndZ_hs _ _, ?_, fun e1 => ?_⟩
        · rw [q2, mblen_hi h2 e (by rw [← hk]; exact hik), ← hk]; simp
        · have e2 := q3 e1
          rw [crossZ_hi h2 e (by rw [← hk]; exact hik), ← hk, ← e2])
      have gne : ((m : Int) == (n : Int)) = false := by simp; omega
      have g2 : ((s.n : Int) == 0) = false := by simp; omega
      have g3 : IntKind.i64.wrap ((s.n : Int) - 1) = ((s.n - 1 : Nat) : Int) := by rw [IntKind.wrap_i64]; omega
      have g4 : s.n - 1 < s.n := by omega
      have g5 : s.n - 1 ≤ s.c := by omega
      have g8 : s.n ≤ s.c := by omega
      have g9 : s.n - 1 ≤ s.n := by omega
      have g6 : ¬ ((m : Int) ≤ (k : Int)) := by omega
      have g7 : IntKind.i64.wrap ((m : Int) - (k : Int)) = ((m - k : Nat) : Int) := by rw [IntKind.wrap_i64]; omega
      have g7' : IntKind.i64.wrap ((n : Int) - (k : Int)) = ((n - k : Nat) : Int) := by rw [IntKind.wrap_i64]; omega
      obtain ⟨i2, hi2⟩ : ∃ i2, i2 = m - k := ⟨_, rfl⟩
      obtain ⟨n2, hn2⟩ : ∃ n2, n2 = n - k := ⟨_, rfl⟩
      rw [← hi2] at g7 hI HU
      rw [← hn2] at g7' hI HU
      clear hi2 hn2
      clear hRo hRv hRl hRe hpb hat hs hpl hlen hle hmx IH hk hh hik h1 hn hmn h2 hz hA e
      obtain ⟨a, sn, c, ls⟩ := s
      simp only [Hl.v] at *
      subst ha
      obtain ⟨mm, hm⟩ : ∃ m, m = sn - 1 := ⟨_, rfl⟩
      rw [← hm] at g3 g4 g5 g9 hI hrg
      clear hm
      go_enter Tryd.func40, Tryd.ntmps40
      go_upto_region 0 with fail
      refine wp_region_lit ?_
      refine wl_box (by kernel_rfl) 28 (.tmp 3) rfl (U8 x) rfl hS ?_
      clear hS
      intro g1 w1 hS
      simp [Act.put]
      refine wl_alloc (by kernel_rfl) 69 rfl (enC z32 z32 false) Tryd.inN hS ?_
      clear hS
      intro g2 w2 hS
      simp [Act.put]
      refine wpList_nil ?_
      go_upto_region 7 with fail
      refine wp_region_lit ?_
      refine wl (by kernel_rfl) fun kQ hkQ => ?_
      go_simp
      refine hkQ _ _ ?_
      clear hkQ kQ
      refine wl (by kernel_rfl) fun kQ hkQ => ?_
      go_simp
      refine (hsp _).mono ?_
      rintro e w3 ⟨rfl, hw1⟩
      obtain rfl := hw1.symm
      have hb1 := hw1
      refine hkQ _ _ ?_
      clear hkQ kQ hb1
      refine wl (by kernel_rfl) fun kQ hkQ => ?_
      go_simp
      refine hkQ _ _ ?_
      clear hkQ kQ
      refine wpList_nil ?_
      clear hsp
      have hrg2 := rangeAt_old hrg hblt (Old.of hS.bel)
      go_upto_region 8 with fail
      refine wp_region_lit ?_
      refine wl (by kernel_rfl) fun kQ hkQ => ?_
      go_simp
      refine hkQ _ _ ?_
      clear hkQ kQ
      refine wl (by kernel_rfl) fun kQ hkQ => ?_
      go_simp
      refine hkQ _ _ ?_
      clear hkQ kQ
      refine wl (by kernel_rfl) fun kQ hkQ => ?_
      go_simp
      refine hkQ _ _ ?_
      clear hkQ kQ
      refine wl (by kernel_rfl) fun kQ hkQ => ?_
      go_simp
      refine hkQ _ _ ?_
      clear hkQ kQ
      refine wl (by kernel_rfl) fun kQ hkQ => ?_
      go_simp
      refine hkQ _ _ ?_
      clear hkQ kQ
      refine wv (aV (U8 b)) (by kernel_rfl) (ex_loadR 28 (.tmp 51) rfl (bb) (off + mm * 32) rfl (U8 b) hrg2 Tryd.underlying28 rfl (szH hbh)) ?_
      simp [Act.put]
      refine wl_alloc (by kernel_rfl) 28 rfl (U8 z32) Tryd.inH hS ?_
      clear hS
      intro g4 w4 hS
      simp [Act.put]
      refine wl_store (by kernel_rfl) 28 (.tmp 12) (.tmp 52) rfl 0 rfl 0 rfl (U8 b) (U8 b) (pt_H z32_hs hbh) rfl (szH hbh) (U8_one _) hS ?_
      clear hS
      intro w5 hS
      change Hs17 w [(g4, 28, (U8 b)), (g2, 69, (enC z32 z32 false)), (g1, 28, (U8 x))] (fun w' => Hl.Ok w' ⟨some ⟨bb, off, none⟩, sn, c, ls⟩) w5 at hS
      simp [Act.put]
      refine wpList_nil ?_
      clear hrg2
      go_upto_region 9 with fail
      refine wp_region_lit ?_
      refine wl (by kernel_rfl) fun kQ hkQ => ?_
      go_simp
      refine hkQ _ _ ?_
      clear hkQ kQ
      refine wl (by kernel_rfl) fun kQ hkQ => ?_
      go_simp
      refine hkQ _ _ ?_
      clear hkQ kQ
      refine wl (by kernel_rfl) fun kQ hkQ => ?_
      go_simp
      refine hkQ _ _ ?_
      clear hkQ kQ
      refine wl (by kernel_rfl) fun kQ hkQ => ?_
      go_simp
      refine hkQ _ _ ?_
      clear hkQ kQ
      refine wl (by kernel_rfl) fun kQ hkQ => ?_
      go_simp
      refine hkQ _ _ ?_
      clear hkQ kQ
      refine wl (by kernel_rfl) fun kQ hkQ => ?_
      go_simp
      refine hkQ _ _ ?_
      clear hkQ kQ
      refine wpList_nil ?_
      go_upto_region 14 with fail
      refine wp_region_lit ?_
      refine wl (by kernel_rfl) fun kQ hkQ => ?_
      go_simp
      refine hkQ _ _ ?_
      clear hkQ kQ
      refine wl (by kernel_rfl) fun kQ hkQ => ?_
      go_simp
      refine hkQ _ _ ?_
      clear hkQ kQ
      refine wl (by kernel_rfl) fun kQ hkQ => ?_
      go_simp
      refine hkQ _ _ ?_
      clear hkQ kQ
      refine wl (by kernel_rfl) fun kQ hkQ => ?_
      go_simp
      refine hkQ _ _ ?_
      clear hkQ kQ
      refine wl (by kernel_rfl) fun kQ hkQ => ?_
      go_simp
      refine hkQ _ _ ?_
      clear hkQ kQ
      refine wl (by kernel_rfl) fun kQ hkQ => ?_
      go_simp
      refine hkQ _ _ ?_
      clear hkQ kQ
      refine wl_load (by kernel_rfl) 28 (.tmp 8) rfl 2 rfl 0 rfl (U8 x) (At.self _) Tryd.underlying28 rfl (szH hx) hS ?_
      simp [Act.put]
      refine wl (by kernel_rfl) fun kQ hkQ => ?_
      go_simp
      refine hkQ _ _ ?_
      clear hkQ kQ
      refine wl (by kernel_rfl) fun kQ hkQ => ?_
      go_simp
      refine (hI _ hS.K).mono ?_
      rintro e w6 ⟨u, v, q, rfl, hq, hb1⟩
      replace hS := hS.later hb1
      refine hkQ _ _ ?_
      clear hkQ kQ hb1
      have hu1 := hq.1
      have hv1 := hq.2.1
      have HQ := hide hq
      clear hq
      refine wl_alloc (by kernel_rfl) 69 rfl (enC z32 z32 false) Tryd.inN hS ?_
      clear hS
      intro g7 w7 hS
      simp [Act.put]
      refine wl_store (by kernel_rfl) 69 (.tmp 15) (.tmp 81) rfl 0 rfl 0 rfl (enC u v q) (enC u v q) (pt_n z32_hs z32_hs hu1 hv1 false q) rfl (szN hu1 hv1 _) (one_n _ _ _) hS ?_
      clear hS
      intro w8 hS
      change Hs17 w [(g7, 69, (enC u v q)), (g4, 28, (U8 b)), (g2, 69, (enC z32 z32 false)), (g1, 28, (U8 x))] (fun w' => Hl.Ok w' ⟨some ⟨bb, off, none⟩, sn, c, ls⟩) w8 at hS
      simp [Act.put]
      refine wpList_nil ?_
      clear hI
      go_upto_region 15 with fail
      refine wp_region_lit ?_
      refine wl_load (by kernel_rfl) 28 (.tmp 12) rfl 1 rfl 0 rfl (U8 b) (At.self _) Tryd.underlying28 rfl (szH hbh) hS ?_
      simp [Act.put]
      refine wl (by kernel_rfl) fun kQ hkQ => ?_
      go_simp
      refine hkQ _ _ ?_
      clear hkQ kQ
      refine wl_load (by kernel_rfl) 28 (.tmp 83) rfl 0 rfl 0 rfl (U8 u) (at_n0 u v q) Tryd.underlying28 rfl (szH hu1) hS ?_
      simp [Act.put]
      refine wl (by kernel_rfl) fun kQ hkQ => ?_
      go_simp
      refine (rnodeA b u _ hbh hu1).mono ?_
      rintro e w9 ⟨rfl, hb1⟩
      replace hS := hS.later hb1
      refine hkQ _ _ ?_
      clear hkQ kQ hb1
      refine wl (by kernel_rfl) fun kQ hkQ => ?_
      go_simp
      refine hkQ _ _ ?_
      clear hkQ kQ
      refine wl_store (by kernel_rfl) 28 (.tmp 86) (.tmp 85) rfl 0 rfl 0 rfl (U8 (ndZ b u)) (enC (ndZ b u) v q) (pt_n0 hu1 (ndZ_hs b u) v q) rfl (szH (ndZ_hs b u)) (U8_one _) hS ?_
      clear hS
      intro w10 hS
      change Hs17 w [(g7, 69, (enC (ndZ b u) v q)), (g4, 28, (U8 b)), (g2, 69, (enC z32 z32 false)), (g1, 28, (U8 x))] (fun w' => Hl.Ok w' ⟨some ⟨bb, off, none⟩, sn, c, ls⟩) w10 at hS
      simp [Act.put]
      refine wpList_nil ?_
      go_upto_region 16 with fail
      refine wp_region_lit ?_
      refine wl_load (by kernel_rfl) 28 (.tmp 12) rfl 1 rfl 0 rfl (U8 b) (At.self _) Tryd.underlying28 rfl (szH hbh) hS ?_
      simp [Act.put]
      refine wl (by kernel_rfl) fun kQ hkQ => ?_
      go_simp
      refine hkQ _ _ ?_
      clear hkQ kQ
      refine wl_load (by kernel_rfl) 28 (.tmp 88) rfl 0 rfl 32 rfl (U8 v) (at_n1 (ndZ_hs b u) v q) Tryd.underlying28 rfl (szH hv1) hS ?_
      simp [Act.put]
      refine wl (by kernel_rfl) fun kQ hkQ => ?_
      go_simp
      refine (rnodeA b v _ hbh hv1).mono ?_
      rintro e w11 ⟨rfl, hb1⟩
      replace hS := hS.later hb1
      refine hkQ _ _ ?_
      clear hkQ kQ hb1
      refine wl (by kernel_rfl) fun kQ hkQ => ?_
      go_simp
      refine hkQ _ _ ?_
      clear hkQ kQ
      refine wl_store (by kernel_rfl) 28 (.tmp 91) (.tmp 90) rfl 0 rfl 32 rfl (U8 (ndZ b v)) (enC (ndZ b u) (ndZ b v) q) (pt_n1 (ndZ_hs b u) hv1 (ndZ_hs b v) q) rfl (szH (ndZ_hs b v)) (U8_one _) hS ?_
      clear hS
      intro w12 hS
      change Hs17 w [(g7, 69, (enC (ndZ b u) (ndZ b v) q)), (g4, 28, (U8 b)), (g2, 69, (enC z32 z32 false)), (g1, 28, (U8 x))] (fun w' => Hl.Ok w' ⟨some ⟨bb, off, none⟩, sn, c, ls⟩) w12 at hS
      simp [Act.put]
      refine wpList_nil ?_
      go_upto_region 17 with fail
      refine wp_region_lit ?_
      refine wl_load (by kernel_rfl) 69 (.tmp 15) rfl 0 rfl 0 rfl (enC (ndZ b u) (ndZ b v) q) (At.self _) Tryd.underlying69 rfl (szN (ndZ_hs b u) (ndZ_hs b v) _) hS ?_
      simp [Act.put]
      refine wl_store (by kernel_rfl) 69 (.tmp 10) (.tmp 92) rfl 2 rfl 0 rfl (enC (ndZ b u) (ndZ b v) q) (enC (ndZ b u) (ndZ b v) q) (pt_n z32_hs z32_hs (ndZ_hs b u) (ndZ_hs b v) false q) rfl (szN (ndZ_hs b u) (ndZ_hs b v) _) (one_n _ _ _) hS ?_
      clear hS
      intro w13 hS
      change Hs17 w [(g7, 69, (enC (ndZ b u) (ndZ b v) q)), (g4, 28, (U8 b)), (g2, 69, (enC (ndZ b u) (ndZ b v) q)), (g1, 28, (U8 x))] (fun w' => Hl.Ok w' ⟨some ⟨bb, off, none⟩, sn, c, ls⟩) w13 at hS
      simp [Act.put]
      refine wpList_nil ?_
      go_wp2_with fail
      refine bodyPost_ret (res_c rfl hS 2 rfl rfl Tryd.underlying69 rfl (szN (ndZ_hs b u) (ndZ_hs b v) _)) rfl ?_
      unfold RxE
      exact ⟨ndZ b u, ndZ b v, q, rfl, unhide HU u v q (unhide HQ), hS.bel⟩
end Go.Proofs.YteijlppmgkdieaaDoor

set_option linter.unusedSimpArgs false
set_option linter.unusedVariables false
namespace Go.Proofs.YteijlppmgkdieaaDoor
open Go.RowKit

set_option maxHeartbeats 4000000 in
set_option maxRecDepth 100000 in
theorem rcheckC_any (m n : Int) (x r : List Int) (s : Hl) (w : World) (hx : Hs x) (hr : Hs r) (hs : s.Ok w) :
    Calls Tryd.prog 19 #[.int .i64 m, .int .i64 n, aV (U8 x), aV (U8 r), s.v] w fun e w' => e = .returned (.bool (ckC m n x r s.ls)) ∧ Below w.heap.size w w' := by
  have hS := Hs17.begin w (fun w' => s.Ok w') (fun w' ho => hs.old ho)
  have hlen := hs.len
  cases hin : isBg m n
  · have HR : Hid (ckC m n x r s.ls = false) := hide (by unfold ckC; rw [hin]; rfl)
    rw [unhide HR]
    clear HR hs hlen
    obtain ⟨a, sn, c, ls⟩ := s
    simp only [Hl.v] at *
    unfold isBg at hin
    by_cases h1 : m < 0
    · clear hin
      go_enter Tryd.func19, Tryd.ntmps19
      go_upto_region 0 with fail
      refine wp_region_lit ?_
      refine wl_box (by kernel_rfl) 28 (.tmp 2) rfl (U8 x) rfl hS ?_
      clear hS
      intro g1 w1 hS
      simp [Act.put]
      refine wl_box (by kernel_rfl) 28 (.tmp 3) rfl (U8 r) rfl hS ?_
      clear hS
      intro g2 w2 hS
      simp [Act.put]
      refine wl (by kernel_rfl) fun kQ hkQ => ?_
      go_simp
      refine hkQ _ _ ?_
      clear hkQ kQ
      refine wpList_nil ?_
      go_wp2_with fail
      go_ret
      exact ⟨rfl, hS.bel⟩
    by_cases h2 : n < m
    · clear hin
      go_enter Tryd.func19, Tryd.ntmps19
      go_upto_region 0 with fail
      refine wp_region_lit ?_
      refine wl_box (by kernel_rfl) 28 (.tmp 2) rfl (U8 x) rfl hS ?_
      clear hS
      intro g1 w1 hS
      simp [Act.put]
      refine wl_box (by kernel_rfl) 28 (.tmp 3) rfl (U8 r) rfl hS ?_
      clear hS
      intro g2 w2 hS
      simp [Act.put]
      refine wl (by kernel_rfl) fun kQ hkQ => ?_
      go_simp
      refine hkQ _ _ ?_
      clear hkQ kQ
      refine wpList_nil ?_
      go_wp2_with fail
      go_ret
      exact ⟨rfl, hS.bel⟩
    have h3 : 65536 < n := by simp at hin; omega
    clear hin
    go_enter Tryd.func19, Tryd.ntmps19
    go_upto_region 0 with fail
    refine wp_region_lit ?_
    refine wl_box (by kernel_rfl) 28 (.tmp 2) rfl (U8 x) rfl hS ?_
    clear hS
    intro g1 w1 hS
    simp [Act.put]
    refine wl_box (by kernel_rfl) 28 (.tmp 3) rfl (U8 r) rfl hS ?_
    clear hS
    intro g2 w2 hS
    simp [Act.put]
    refine wl (by kernel_rfl) fun kQ hkQ => ?_
    go_simp
    refine hkQ _ _ ?_
    clear hkQ kQ
    refine wpList_nil ?_
    go_wp2_with fail
    go_ret
    exact ⟨rfl, hS.bel⟩
  · have hin2 := hin
    unfold isBg at hin2
    simp at hin2
    obtain ⟨⟨h1, h2⟩, h3⟩ := hin2
    have g1 : ¬ (m < 0) := by omega
    have g2 : ¬ (n < m) := by omega
    have g3 : ¬ ((65536 : Int) < n) := by omega
    by_cases h0 : m = 0
    · subst h0
      have hN : ∀ v, Calls Tryd.prog 39 #[.slice none 0 0] v fun e w' => e = .returned (aV (U8 nonZ)) ∧ Below v.heap.size v w' := fun v => by
        have := rrootA ⟨none, 0, 0, []⟩ v ⟨rfl, Nat.le_refl _, Nat.zero_le _, fun _ => ⟨rfl, rfl⟩, (fun l hl => by cases hl), fun h => absurd h (by simp)⟩ (Nat.zero_le _)
        rwa [rootZ16_nil] at this
      have hck : ckC 0 n x r s.ls = (decide (s.n = 0) && eqB x nonZ) := by unfold ckC; rw [hin, hlen]; rfl
      rw [hck]
      clear hck hin h1 h2 h3 hs hlen
      obtain ⟨a, sn, c, ls⟩ := s
      simp only [Hl.v] at *
      by_cases hz : sn = 0
      · subst hz
        obtain ⟨u, hu⟩ : ∃ u, eqB x nonZ = u := ⟨_, rfl⟩
        rw [hu]
        have HU := hide hu
        clear hu
        go_enter Tryd.func19, Tryd.ntmps19
        go_upto_region 0 with fail
        refine wp_region_lit ?_
        refine wl_box (by kernel_rfl) 28 (.tmp 2) rfl (U8 x) rfl hS ?_
        clear hS
        intro g1 w1 hS
        simp [Act.put]
        refine wl_box (by kernel_rfl) 28 (.tmp 3) rfl (U8 r) rfl hS ?_
        clear hS
        intro g2 w2 hS
        simp [Act.put]
        refine wl (by kernel_rfl) fun kQ hkQ => ?_
        go_simp
        refine hkQ _ _ ?_
        clear hkQ kQ
        refine wpList_nil ?_
        go_upto_region 4 with fail
        replace hS := hS.drew
        refine wp_region_held_drew (S := Hs17 w [(g2, 28, (U8 r)), (g1, 28, (U8 x))] (fun w' => Hl.Ok w' ⟨a, 0, c, ls⟩)) (by kernel_rfl) (hS.sub (((List.Sublist.slnil).cons_cons _).cons_cons _)) (fun hHeld => ?_)
        generalize World.drew _ = w3 at hS hHeld ⊢
        refine wpAnyH_take (i := 0) (oi := _) (v := (.slice a 0 c)) rfl (by kernel_rfl) (by kernel_rfl) (by kernel_rfl) (fun _ _ _ h => h) (Or.inl ⟨by rfl, fun w hSw => by go_simp⟩) hHeld ?_
        simp [Act.put]
        refine wpAnyH_take (i := 1) (oi := _) (v := .int .i64 0) rfl (by kernel_rfl) (by kernel_rfl) (by kernel_rfl) (fun _ _ _ h => h) (Or.inl ⟨by rfl, fun w hSw => by go_simp⟩) hHeld ?_
        simp [Act.put]
        refine wpAnyH_take (i := 2) (oi := _) (v := .bool true) rfl (by kernel_rfl) (by kernel_rfl) (by kernel_rfl) (fun _ _ _ h => h) (Or.inl ⟨by rfl, fun w hSw => by go_simp⟩) hHeld ?_
        simp [Act.put]
        refine wpAnyH_take (i := 3) (oi := _) (v := .bool true) rfl (by kernel_rfl) (by kernel_rfl) (by kernel_rfl) (fun _ _ _ h => h) (Or.inl ⟨by rfl, fun w hSw => by go_simp⟩) hHeld ?_
        simp [Act.put]
        refine wpAnyH_take (i := 4) (oi := _) (v := aV (U8 x)) rfl (by kernel_rfl) (by kernel_rfl) (by kernel_rfl) (fun _ _ _ h => h) (yl_load (by kernel_rfl) 28 (.tmp 7) rfl 1 rfl 0 rfl (U8 x) (At.self _) Tryd.underlying28 rfl (szH hx)) hHeld ?_
        simp [Act.put]
        refine wpAnyH_ready (rs := [5]) (by kernel_rfl) (by simp) ?_
        refine (AllReadyH.cons rfl (fun kQ hkQ => ?_) AllReadyH.nil)
        go_simp
        refine (hN _).mono ?_
        rintro e w4 ⟨rfl, hb1⟩
        replace hS := hS.later hb1
        clear hHeld hb1
        refine hkQ.out _ _ (hS.sub (((List.Sublist.slnil).cons_cons _).cons_cons _)) (fun hHeld => ?_)
        clear hkQ kQ
        try simp [Act.put]
        refine wpAnyH_take (i := 6) (oi := _) (v := .bool u) rfl (by kernel_rfl) (by kernel_rfl) (by kernel_rfl) (fun _ _ _ h => h) (yl_val (by kernel_rfl) _ (fun w => ex_eql 28 (.tmp 29) (.tmp 30) rfl (U8 x) (U8 nonZ) rfl rfl u (by rw [← unhide HU]; exact eqHr x nonZ hx nonZ_hs _) Tryd.egH)) hHeld ?_
        simp [Act.put]
        refine wpAnyH_take (i := 7) (oi := _) (v := .bool u) rfl (by kernel_rfl) (by kernel_rfl) (by kernel_rfl) (fun _ _ _ h => h) (Or.inl ⟨by rfl, fun w hSw => by go_simp⟩) hHeld ?_
        simp [Act.put]
        refine wpAnyH_take (i := 8) (oi := _) (v := .bool u) rfl (by kernel_rfl) (by kernel_rfl) (by kernel_rfl) (fun _ _ _ h => h) (Or.inl ⟨by rfl, fun w hSw => by go_simp⟩) hHeld ?_
        simp [Act.put]
        refine wpAnyH_done (by kernel_rfl) ?_ _
        clear hHeld
        go_wp2_with fail
        go_ret
        exact ⟨by simp, hS.bel⟩
      · have gz : ((sn : Int) == 0) = false := by simp; omega
        rw [decide_eq_false hz]
        go_enter Tryd.func19, Tryd.ntmps19
        go_upto_region 0 with fail
        refine wp_region_lit ?_
        refine wl_box (by kernel_rfl) 28 (.tmp 2) rfl (U8 x) rfl hS ?_
        clear hS
        intro g1 w1 hS
        simp [Act.put]
        refine wl_box (by kernel_rfl) 28 (.tmp 3) rfl (U8 r) rfl hS ?_
        clear hS
        intro g2 w2 hS
        simp [Act.put]
        refine wl (by kernel_rfl) fun kQ hkQ => ?_
        go_simp
        refine hkQ _ _ ?_
        clear hkQ kQ
        refine wpList_nil ?_
        go_upto_region 4 with fail
        replace hS := hS.drew
        refine wp_region_held_drew (S := Hs17 w [(g2, 28, (U8 r)), (g1, 28, (U8 x))] (fun w' => Hl.Ok w' ⟨a, sn, c, ls⟩)) (by kernel_rfl) (hS.sub (((List.Sublist.slnil).cons_cons _).cons_cons _)) (fun hHeld => ?_)
        generalize World.drew _ = w3 at hS hHeld ⊢
        refine wpAnyH_take (i := 0) (oi := _) (v := (.slice a sn c)) rfl (by kernel_rfl) (by kernel_rfl) (by kernel_rfl) (fun _ _ _ h => h) (Or.inl ⟨by rfl, fun w hSw => by go_simp⟩) hHeld ?_
        simp [Act.put]
        refine wpAnyH_take (i := 1) (oi := _) (v := .int .i64 (sn : Int)) rfl (by kernel_rfl) (by kernel_rfl) (by kernel_rfl) (fun _ _ _ h => h) (Or.inl ⟨by rfl, fun w hSw => by go_simp⟩) hHeld ?_
        simp [Act.put]
        refine wpAnyH_take (i := 2) (oi := _) (v := .bool false) rfl (by kernel_rfl) (by kernel_rfl) (by kernel_rfl) (fun _ _ _ h => h) (Or.inl ⟨by rfl, fun w hSw => by go_simp⟩) hHeld ?_
        simp [Act.put]
        refine wpAnyH_take (i := 3) (oi := _) (v := .bool false) rfl (by kernel_rfl) (by kernel_rfl) (by kernel_rfl) (fun _ _ _ h => h) (Or.inl ⟨by rfl, fun w hSw => by go_simp⟩) hHeld ?_
        simp [Act.put]
        refine wpAnyH_take (i := 4) (oi := _) (v := undef) rfl (by kernel_rfl) (by kernel_rfl) (by kernel_rfl) (fun _ _ _ h => h) (Or.inr ⟨by rfl, rfl⟩) hHeld ?_
        simp [Act.put]
        refine wpAnyH_ready (rs := [5]) (by kernel_rfl) (by simp) ?_
        refine (AllReadyH.cons rfl (fun kQ hkQ => ?_) AllReadyH.nil)
        go_simp
        refine hkQ.out _ _ hHeld (fun hHeld => ?_)
        clear hkQ kQ
        try simp [Act.put]
        refine wpAnyH_take (i := 6) (oi := _) (v := undef) rfl (by kernel_rfl) (by kernel_rfl) (by kernel_rfl) (fun _ _ _ h => h) (Or.inr ⟨by rfl, rfl⟩) hHeld ?_
        simp [Act.put]
        refine wpAnyH_take (i := 7) (oi := _) (v := .bool false) rfl (by kernel_rfl) (by kernel_rfl) (by kernel_rfl) (fun _ _ _ h => h) (Or.inl ⟨by rfl, fun w hSw => by go_simp⟩) hHeld ?_
        simp [Act.put]
        refine wpAnyH_take (i := 8) (oi := _) (v := .bool false) rfl (by kernel_rfl) (by kernel_rfl) (by kernel_rfl) (fun _ _ _ h => h) (Or.inl ⟨by rfl, fun w hSw => by go_simp⟩) hHeld ?_
        simp [Act.put]
        refine wpAnyH_done (by kernel_rfl) ?_ _
        clear hHeld
        go_wp2_with fail
        go_ret
        exact ⟨rfl, hS.bel⟩
    obtain ⟨k, rfl⟩ : ∃ k : Nat, m = k := ⟨m.toNat, by omega⟩
    obtain ⟨l, rfl⟩ : ∃ l : Nat, n = l := ⟨n.toNat, by omega⟩
    have hC := fun w' hw' => rcross_any l k true x s (by omega) (by omega) (by omega) hx w' hw'
    have HZ : Hid (∀ u v q, RxP k l true x s.ls u v q → (q && (eqB u x && eqB v r)) = ckC k l x r s.ls) := hide (fun u v q hq => by
      obtain ⟨q0, q1, q2, q3⟩ := hq
      unfold ckC
      rw [hin, if_neg h0]
      simp only [Bool.true_and, Int.toNat_natCast]
      cases q
      · rw [← q2]; rfl
      · rw [← q2, ← q3 rfl])
    have g0 : ((k : Int) == 0) = false := by simpa using h0
    generalize hck : ckC k l x r s.ls = z at HZ
    clear hck hin h1 h2 h3 hs hlen h0
    obtain ⟨a, sn, c, ls⟩ := s
    simp only [Hl.v] at *
    go_enter Tryd.func19, Tryd.ntmps19
    go_upto_region 0 with fail
    refine wp_region_lit ?_
    refine wl_box (by kernel_rfl) 28 (.tmp 2) rfl (U8 x) rfl hS ?_
    clear hS
    intro g1 w1 hS
    simp [Act.put]
    refine wl_box (by kernel_rfl) 28 (.tmp 3) rfl (U8 r) rfl hS ?_
    clear hS
    intro g2 w2 hS
    simp [Act.put]
    refine wl (by kernel_rfl) fun kQ hkQ => ?_
    go_simp
    refine hkQ _ _ ?_
    clear hkQ kQ
    refine wpList_nil ?_
    go_upto_region 5 with fail
    refine wp_region_lit ?_
    refine wl (by kernel_rfl) fun kQ hkQ => ?_
    go_simp
    refine hkQ _ _ ?_
    clear hkQ kQ
    refine wl (by kernel_rfl) fun kQ hkQ => ?_
    go_simp
    refine hkQ _ _ ?_
    clear hkQ kQ
    refine wl_load (by kernel_rfl) 28 (.tmp 7) rfl 1 rfl 0 rfl (U8 x) (At.self _) Tryd.underlying28 rfl (szH hx) hS ?_
    simp [Act.put]
    refine wl (by kernel_rfl) fun kQ hkQ => ?_
    go_simp
    refine hkQ _ _ ?_
    clear hkQ kQ
    refine wl (by kernel_rfl) fun kQ hkQ => ?_
    go_simp
    refine (hC _ hS.K).mono ?_
    rintro e w3 ⟨u, v, q, rfl, hq, hb1⟩
    replace hS := hS.later hb1
    refine hkQ _ _ ?_
    clear hkQ kQ hb1
    have hu1 := hq.1
    have hv1 := hq.2.1
    have HQ := hide hq
    clear hq
    refine wl_alloc (by kernel_rfl) 69 rfl (enC z32 z32 false) Tryd.inN hS ?_
    clear hS
    intro g4 w4 hS
    simp [Act.put]
    refine wl_store (by kernel_rfl) 69 (.tmp 11) (.tmp 37) rfl 0 rfl 0 rfl (enC u v q) (enC u v q) (pt_n z32_hs z32_hs hu1 hv1 false q) rfl (szN hu1 hv1 _) (one_n _ _ _) hS ?_
    clear hS
    intro w5 hS
    change Hs17 w [(g4, 69, (enC u v q)), (g2, 28, (U8 r)), (g1, 28, (U8 x))] (fun w' => Hl.Ok w' ⟨a, sn, c, ls⟩) w5 at hS
    simp [Act.put]
    refine wpList_nil ?_
    clear hC
    have HZZ := hide (unhide HZ u v q (unhide HQ))
    clear HZ HQ
    obtain ⟨y1, hy1⟩ : ∃ y, eqB u x = y := ⟨_, rfl⟩
    obtain ⟨y2, hy2⟩ : ∃ y, eqB v r = y := ⟨_, rfl⟩
    have HY1 := hide hy1
    have HY2 := hide hy2
    clear hy1 hy2
    cases q
    · skip
      go_upto_region 6 with fail
      refine wp_region_lit ?_
      refine wl (by kernel_rfl) fun kQ hkQ => ?_
      go_simp
      refine hkQ _ _ ?_
      clear hkQ kQ
      refine wl_load1 (by kernel_rfl) 4 (.tmp 38) rfl 0 rfl 64 rfl (.bool false) (at_n2 hu1 hv1 false) Tryd.underlying4 rfl hS ?_
      simp [Act.put]
      refine wl (by kernel_rfl) fun kQ hkQ => ?_
      go_simp
      refine hkQ _ _ ?_
      clear hkQ kQ
      refine wl_skip (by kernel_rfl) ?_
      simp [Act.put]
      refine wl_skip (by kernel_rfl) ?_
      simp [Act.put]
      refine wl_skip (by kernel_rfl) ?_
      simp [Act.put]
      refine wl_skip (by kernel_rfl) ?_
      simp [Act.put]
      refine wl (by kernel_rfl) fun kQ hkQ => ?_
      go_simp
      refine hkQ _ _ ?_
      clear hkQ kQ
      refine wl (by kernel_rfl) fun kQ hkQ => ?_
      go_simp
      refine hkQ _ _ ?_
      clear hkQ kQ
      refine wl_skip (by kernel_rfl) ?_
      simp [Act.put]
      refine wl_skip (by kernel_rfl) ?_
      simp [Act.put]
      refine wl_skip (by kernel_rfl) ?_
      simp [Act.put]
      refine wl_skip (by kernel_rfl) ?_
      simp [Act.put]
      refine wl (by kernel_rfl) fun kQ hkQ => ?_
      go_simp
      refine hkQ _ _ ?_
      clear hkQ kQ
      refine wl (by kernel_rfl) fun kQ hkQ => ?_
      go_simp
      refine hkQ _ _ ?_
      clear hkQ kQ
      refine wpList_nil ?_
      go_wp2_with fail
      go_ret
      exact ⟨by rw [← unhide HZZ]; rfl, hS.bel⟩
    cases y1
    · skip
      go_upto_region 6 with fail
      refine wp_region_lit ?_
      refine wl (by kernel_rfl) fun kQ hkQ => ?_
      go_simp
      refine hkQ _ _ ?_
      clear hkQ kQ
      refine wl_load1 (by kernel_rfl) 4 (.tmp 38) rfl 0 rfl 64 rfl (.bool true) (at_n2 hu1 hv1 true) Tryd.underlying4 rfl hS ?_
      simp [Act.put]
      refine wl (by kernel_rfl) fun kQ hkQ => ?_
      go_simp
      refine hkQ _ _ ?_
      clear hkQ kQ
      refine wl (by kernel_rfl) fun kQ hkQ => ?_
      go_simp
      refine hkQ _ _ ?_
      clear hkQ kQ
      refine wl_load (by kernel_rfl) 28 (.tmp 41) rfl 0 rfl 0 rfl (U8 u) (at_n0 u v true) Tryd.underlying28 rfl (szH hu1) hS ?_
      simp [Act.put]
      refine wl_load (by kernel_rfl) 28 (.tmp 7) rfl 2 rfl 0 rfl (U8 x) (At.self _) Tryd.underlying28 rfl (szH hx) hS ?_
      simp [Act.put]
      refine wv (.bool false) (by kernel_rfl) (ex_eql 28 (.tmp 42) (.tmp 43) rfl (U8 u) (U8 x) rfl rfl false (by rw [← unhide HY1]; exact eqHr u x hu1 hx _) Tryd.egH) ?_
      simp [Act.put]
      refine wl (by kernel_rfl) fun kQ hkQ => ?_
      go_simp
      refine hkQ _ _ ?_
      clear hkQ kQ
      refine wl (by kernel_rfl) fun kQ hkQ => ?_
      go_simp
      refine hkQ _ _ ?_
      clear hkQ kQ
      refine wl_skip (by kernel_rfl) ?_
      simp [Act.put]
      refine wl_skip (by kernel_rfl) ?_
      simp [Act.put]
      refine wl_skip (by kernel_rfl) ?_
      simp [Act.put]
      refine wl_skip (by kernel_rfl) ?_
      simp [Act.put]
      refine wl (by kernel_rfl) fun kQ hkQ => ?_
      go_simp
      refine hkQ _ _ ?_
      clear hkQ kQ
      refine wl (by kernel_rfl) fun kQ hkQ => ?_
      go_simp
      refine hkQ _ _ ?_
      clear hkQ kQ
      refine wpList_nil ?_
      go_wp2_with fail
      go_ret
      exact ⟨by rw [← unhide HZZ, unhide HY1]; rfl, hS.bel⟩
    · skip
      go_upto_region 6 with fail
      refine wp_region_lit ?_
      refine wl (by kernel_rfl) fun kQ hkQ => ?_
      go_simp
      refine hkQ _ _ ?_
      clear hkQ kQ
      refine wl_load1 (by kernel_rfl) 4 (.tmp 38) rfl 0 rfl 64 rfl (.bool true) (at_n2 hu1 hv1 true) Tryd.underlying4 rfl hS ?_
      simp [Act.put]
      refine wl (by kernel_rfl) fun kQ hkQ => ?_
      go_simp
      refine hkQ _ _ ?_
      clear hkQ kQ
      refine wl (by kernel_rfl) fun kQ hkQ => ?_
      go_simp
      refine hkQ _ _ ?_
      clear hkQ kQ
      refine wl_load (by kernel_rfl) 28 (.tmp 41) rfl 0 rfl 0 rfl (U8 u) (at_n0 u v true) Tryd.underlying28 rfl (szH hu1) hS ?_
      simp [Act.put]
      refine wl_load (by kernel_rfl) 28 (.tmp 7) rfl 2 rfl 0 rfl (U8 x) (At.self _) Tryd.underlying28 rfl (szH hx) hS ?_
      simp [Act.put]
      refine wv (.bool true) (by kernel_rfl) (ex_eql 28 (.tmp 42) (.tmp 43) rfl (U8 u) (U8 x) rfl rfl true (by rw [← unhide HY1]; exact eqHr u x hu1 hx _) Tryd.egH) ?_
      simp [Act.put]
      refine wl (by kernel_rfl) fun kQ hkQ => ?_
      go_simp
      refine hkQ _ _ ?_
      clear hkQ kQ
      refine wl (by kernel_rfl) fun kQ hkQ => ?_
      go_simp
      refine hkQ _ _ ?_
      clear hkQ kQ
      refine wl (by kernel_rfl) fun kQ hkQ => ?_
      go_simp
      refine hkQ _ _ ?_
      clear hkQ kQ
      refine wl_load (by kernel_rfl) 28 (.tmp 47) rfl 0 rfl 32 rfl (U8 v) (at_n1 hu1 v true) Tryd.underlying28 rfl (szH hv1) hS ?_
      simp [Act.put]
      refine wl_load (by kernel_rfl) 28 (.tmp 8) rfl 1 rfl 0 rfl (U8 r) (At.self _) Tryd.underlying28 rfl (szH hr) hS ?_
      simp [Act.put]
      refine wv (.bool y2) (by kernel_rfl) (ex_eql 28 (.tmp 48) (.tmp 49) rfl (U8 v) (U8 r) rfl rfl y2 (by rw [← unhide HY2]; exact eqHr v r hv1 hr _) Tryd.egH) ?_
      simp [Act.put]
      refine wl (by kernel_rfl) fun kQ hkQ => ?_
      go_simp
      refine hkQ _ _ ?_
      clear hkQ kQ
      refine wl (by kernel_rfl) fun kQ hkQ => ?_
      go_simp
      refine hkQ _ _ ?_
      clear hkQ kQ
      refine wpList_nil ?_
      go_wp2_with fail
      go_ret
      exact ⟨by rw [← unhide HZZ, unhide HY1, unhide HY2]; rfl, hS.bel⟩
end Go.Proofs.YteijlppmgkdieaaDoor

set_option linter.unusedSimpArgs false
set_option linter.unusedVariables false
namespace Go.Proofs.YteijlppmgkdieaaDoor
open Go.RowKit

/-- what climb answers: the hash, and whether the path has the right length -/
def RcP (i n : Nat) (x : List Int) (p : List (List Int)) (h : List Int) (q : Bool) : Prop := Hs h ∧ q = decide (p.length = mplen i n) ∧ (q = true → h = climbZ i n x p)
def RcE (i n : Nat) (x : List Int) (p : List (List Int)) (w : World) (e : Ending) (w' : World) : Prop := ∃ h q, e = .returned (.tuple #[aV (U8 h), .bool q]) ∧ RcP i n x p h q ∧ Below w.heap.size w w'
set_option maxHeartbeats 4000000 in
set_option maxRecDepth 100000 in
theorem rclimb_any : ∀ (n : Nat) (x : List Int) (i : Nat) (s : Hl), 1 ≤ n → n ≤ 65536 → i < n → Hs x → ∀ w : World, s.Ok w →
    Calls Tryd.prog 38 #[aV (U8 x), .int .i64 i, .int .i64 n, s.v] w fun e w' => RcE i n x s.ls w e w' := by
  intro n
  induction n using Nat.strongRecOn with
  | ind n IH =>
    intro x i s h1 hn hi hx w hs
    have hle := hs.le
    have hmx := hs.mx
    unfold maxLen at hmx
    have hlen := hs.len
    have hS := Hs17.begin w (fun w' => s.Ok w') (fun w' ho => hs.old ho)
    by_cases hone : n = 1
    · subst hone
      have hq : decide (s.ls.length = mplen i 1) = decide (s.n = 0) := by rw [mplen_one (Nat.le_refl _), hlen]
      have HR : Hid (RcP i 1 x s.ls x (decide (s.n = 0))) := hide ⟨hx, hq.symm, fun _ => (climbZ_one (Nat.le_refl _)).symm⟩
      obtain ⟨a, sn, c, ls⟩ := s
      simp only [Hl.v] at *
      have hb0 : (((sn : Nat) : Int) == 0) = decide (sn = 0) := by rw [Bool.eq_iff_iff]; simp
      generalize decide (sn = 0) = q at HR hb0
      clear hq hlen hle hmx hs IH h1 hn hi
      go_enter Tryd.func38, Tryd.ntmps38
      go_upto_region 0 with fail
      refine wp_region_lit ?_
      refine wl_box (by kernel_rfl) 28 (.tmp 0) rfl (U8 x) rfl hS ?_
      clear hS
      intro g1 w1 hS
      simp [Act.put]
      refine wl_alloc (by kernel_rfl) 28 rfl (U8 z32) Tryd.inH hS ?_
      clear hS
      intro g2 w2 hS
      simp [Act.put]
      refine wl (by kernel_rfl) fun kQ hkQ => ?_
      go_simp
      refine hkQ _ _ ?_
      clear hkQ kQ
      refine wpList_nil ?_
      go_upto_region 2 with fail
      refine wp_region_lit ?_
      refine wl_load (by kernel_rfl) 28 (.tmp 4) rfl 1 rfl 0 rfl (U8 x) (At.self _) Tryd.underlying28 rfl (szH hx) hS ?_
      simp [Act.put]
      refine wl (by kernel_rfl) fun kQ hkQ => ?_
      go_simp
      refine hkQ _ _ ?_
      clear hkQ kQ
      refine wl (by kernel_rfl) fun kQ hkQ => ?_
      go_simp
      refine hkQ _ _ ?_
      clear hkQ kQ
      refine wl (by kernel_rfl) fun kQ hkQ => ?_
      go_simp
      refine hkQ _ _ ?_
      clear hkQ kQ
      refine wl_store (by kernel_rfl) 28 (.tmp 8) (.tmp 19) rfl 0 rfl 0 rfl (U8 x) (U8 x) (pt_H z32_hs hx) rfl (szH hx) (U8_one _) hS ?_
      clear hS
      intro w3 hS
      change Hs17 w [(g2, 28, (U8 x)), (g1, 28, (U8 x))] (fun w' => Hl.Ok w' ⟨a, sn, c, ls⟩) w3 at hS
      simp [Act.put]
      refine wl (by kernel_rfl) fun kQ hkQ => ?_
      go_simp
      refine hkQ _ _ ?_
      clear hkQ kQ
      refine wpList_nil ?_
      go_wp2_with fail
      refine bodyPost_ret (res_ct rfl hS 0 rfl rfl Tryd.underlying28 rfl (szH hx) (.bool q) rfl) rfl ?_
      unfold RcE
      exact ⟨x, q, rfl, unhide HR, hS.bel⟩
    have g1 : ((n : Int) == 1) = false := by simp; omega
    have h2 : 2 ≤ n := by omega
    by_cases hz : s.n = 0
    · have HR : Hid (RcP i n x s.ls x false) := hide ⟨hx, by rw [hlen, hz]; exact (decide_eq_false (by have := mplen_pos (i := i) h2; omega)).symm, fun h => by cases h⟩
      obtain ⟨a, sn, c, ls⟩ := s
      simp only [Hl.v] at *
      subst hz
      clear hlen hle hmx hs IH h1 hn hi hone h2
      go_enter Tryd.func38, Tryd.ntmps38
      go_upto_region 0 with fail
      refine wp_region_lit ?_
      refine wl_box (by kernel_rfl) 28 (.tmp 0) rfl (U8 x) rfl hS ?_
      clear hS
      intro g1 w1 hS
      simp [Act.put]
      refine wl_alloc (by kernel_rfl) 28 rfl (U8 z32) Tryd.inH hS ?_
      clear hS
      intro g2 w2 hS
      simp [Act.put]
      refine wl (by kernel_rfl) fun kQ hkQ => ?_
      go_simp
      refine hkQ _ _ ?_
      clear hkQ kQ
      refine wpList_nil ?_
      go_upto_region 4 with fail
      refine wp_region_lit ?_
      refine wl_load (by kernel_rfl) 28 (.tmp 4) rfl 1 rfl 0 rfl (U8 x) (At.self _) Tryd.underlying28 rfl (szH hx) hS ?_
      simp [Act.put]
      refine wl_store (by kernel_rfl) 28 (.tmp 8) (.tmp 26) rfl 0 rfl 0 rfl (U8 x) (U8 x) (pt_H z32_hs hx) rfl (szH hx) (U8_one _) hS ?_
      clear hS
      intro w3 hS
      change Hs17 w [(g2, 28, (U8 x)), (g1, 28, (U8 x))] (fun w' => Hl.Ok w' ⟨a, 0, c, ls⟩) w3 at hS
      simp [Act.put]
      refine wl (by kernel_rfl) fun kQ hkQ => ?_
      go_simp
      refine hkQ _ _ ?_
      clear hkQ kQ
      refine wpList_nil ?_
      go_wp2_with fail
      refine bodyPost_ret (res_ct rfl hS 0 rfl rfl Tryd.underlying28 rfl (szH hx) (.bool false) rfl) rfl ?_
      unfold RcE
      exact ⟨x, false, rfl, unhide HR, hS.bel⟩
    have hh := halfN_spec n h2
    have hsp := fun w0 => rsplit_any n w0 h2 hn
    obtain ⟨p, b, hpb⟩ : ∃ p b, s.ls = p ++ [b] := by
      rcases List.eq_nil_or_concat s.ls with h | ⟨p, b, h⟩
      · rw [h] at hlen; simp at hlen; omega
      · exact ⟨p, b, by rw [h]; simp⟩
    have hpl : p.length + 1 = s.n := by rw [← hlen, hpb]; simp
    have hbh : Hs b := hs.hs b (by rw [hpb]; simp)
    have hat : s.ls[s.n - 1]? = some b := by rw [hpb, List.getElem?_append_right (by omega), show s.n - 1 - p.length = 0 by omega]; rfl
    obtain ⟨bb, off, ha, hblt, hrg, -⟩ := hs.at_ hat
    obtain ⟨R, hRe⟩ : ∃ R, R = s.cut 0 (s.n - 1) s.c := ⟨_, rfl⟩
    have hRo : ∀ w', Hl.Ok w' s → R.Ok w' := fun w' h => by rw [hRe]; exact h.cut (by omega) (by omega) (by omega) (by omega)
    have hRl : R.ls = p := by rw [hRe, cut_left hs, hpb, List.take_left' (by omega)]
    have hRv : R.v = .slice (some ⟨bb, off, none⟩) (s.n - 1) s.c := by rw [hRe]; simp [Hl.v, Hl.cut, ha]
    obtain ⟨k, hk⟩ : ∃ k, k = halfN n := ⟨_, rfl⟩
    rw [← hk] at hsp hh
    rw [hpb]
    by_cases hik : i < k
    · have hI : ∀ w', s.Ok w' → Calls Tryd.prog 38 #[aV (U8 x), .int .i64 ((i : Nat) : Int), .int .i64 ((k : Nat) : Int), .slice (some ⟨bb, off, none⟩) (s.n - 1) s.c] w' fun e w'' => RcE (i) (k) x p w' e w'' := fun w' hw' => by
        have := IH (k) (by omega) x (i) R (by omega) (by omega) (by omega) hx w' (hRo w' hw')
        rwa [hRv, hRl] at this
      have HU : Hid (∀ h q, RcP (i) (k) x p h q → RcP i n x (p ++ [b]) (ndZ h b) q) := hide (fun h q hq => by
        obtain ⟨q1, q2, q3⟩ := hq
        refine ⟨ndZ_hs _ _, ?_, fun e => ?_⟩
        · rw [q2, mplen_lo h2 (by rw [← hk]; exact hik), ← hk]; simp
        · rw [q3 e, climbZ_lo h2 (by rw [← hk]; exact hik), ← hk])
      have g2 : ((s.n : Int) == 0) = false := by simp; omega
      have g3 : IntKind.i64.wrap ((s.n : Int) - 1) = ((s.n - 1 : Nat) : Int) := by rw [IntKind.wrap_i64]; omega
      have g4 : s.n - 1 < s.n := by omega
      have g5 : s.n - 1 ≤ s.c := by omega
      have g8 : s.n ≤ s.c := by omega
      have g9 : s.n - 1 ≤ s.n := by omega
      have g6 : (i : Int) < (k : Int) := by omega
      clear hRo hRv hRl hRe hpb hat hs hpl hlen hle hmx IH hk hh hik hone h1 hn hi h2 hz
      obtain ⟨a, sn, c, ls⟩ := s
      simp only [Hl.v] at *
      subst ha
      obtain ⟨m, hm⟩ : ∃ m, m = sn - 1 := ⟨_, rfl⟩
      rw [← hm] at g3 g4 g5 g9 hI hrg
      clear hm
      have hrgl := hblt
      go_enter Tryd.func38, Tryd.ntmps38
      go_upto_region 0 with fail
      refine wp_region_lit ?_
      refine wl_box (by kernel_rfl) 28 (.tmp 0) rfl (U8 x) rfl hS ?_
      clear hS
      intro g1 w1 hS
      simp [Act.put]
      refine wl_alloc (by kernel_rfl) 28 rfl (U8 z32) Tryd.inH hS ?_
      clear hS
      intro g2 w2 hS
      simp [Act.put]
      refine wl (by kernel_rfl) fun kQ hkQ => ?_
      go_simp
      refine hkQ _ _ ?_
      clear hkQ kQ
      refine wpList_nil ?_
      go_upto_region 5 with fail
      refine wp_region_lit ?_
      refine wl (by kernel_rfl) fun kQ hkQ => ?_
      go_simp
      refine hkQ _ _ ?_
      clear hkQ kQ
      refine wl (by kernel_rfl) fun kQ hkQ => ?_
      go_simp
      refine (hsp _).mono ?_
      rintro e w3 ⟨rfl, hw1⟩
      obtain rfl := hw1.symm
      have hb1 := hw1
      refine hkQ _ _ ?_
      clear hkQ kQ hb1
      refine wl (by kernel_rfl) fun kQ hkQ => ?_
      go_simp
      refine hkQ _ _ ?_
      clear hkQ kQ
      refine wpList_nil ?_
      clear hsp
      have hrg2 := rangeAt_old hrg hrgl (Old.of hS.bel)
      go_upto_region 6 with fail
      refine wp_region_lit ?_
      refine wl (by kernel_rfl) fun kQ hkQ => ?_
      go_simp
      refine hkQ _ _ ?_
      clear hkQ kQ
      refine wl (by kernel_rfl) fun kQ hkQ => ?_
      go_simp
      refine hkQ _ _ ?_
      clear hkQ kQ
      refine wl (by kernel_rfl) fun kQ hkQ => ?_
      go_simp
      refine hkQ _ _ ?_
      clear hkQ kQ
      refine wl (by kernel_rfl) fun kQ hkQ => ?_
      go_simp
      refine hkQ _ _ ?_
      clear hkQ kQ
      refine wl (by kernel_rfl) fun kQ hkQ => ?_
      go_simp
      refine hkQ _ _ ?_
      clear hkQ kQ
      refine wv (aV (U8 b)) (by kernel_rfl) (ex_loadR 28 (.tmp 33) rfl (bb) (off + m * 32) rfl (U8 b) hrg2 Tryd.underlying28 rfl (szH hbh)) ?_
      simp [Act.put]
      refine wl_alloc (by kernel_rfl) 28 rfl (U8 z32) Tryd.inH hS ?_
      clear hS
      intro g4 w4 hS
      simp [Act.put]
      refine wl_store (by kernel_rfl) 28 (.tmp 11) (.tmp 34) rfl 0 rfl 0 rfl (U8 b) (U8 b) (pt_H z32_hs hbh) rfl (szH hbh) (U8_one _) hS ?_
      clear hS
      intro w5 hS
      change Hs17 w [(g4, 28, (U8 b)), (g2, 28, (U8 z32)), (g1, 28, (U8 x))] (fun w' => Hl.Ok w' ⟨some ⟨bb, off, none⟩, sn, c, ls⟩) w5 at hS
      simp [Act.put]
      refine wpList_nil ?_
      clear hrg2
      go_upto_region 7 with fail
      refine wp_region_lit ?_
      refine wl (by kernel_rfl) fun kQ hkQ => ?_
      go_simp
      refine hkQ _ _ ?_
      clear hkQ kQ
      refine wl (by kernel_rfl) fun kQ hkQ => ?_
      go_simp
      refine hkQ _ _ ?_
      clear hkQ kQ
      refine wl (by kernel_rfl) fun kQ hkQ => ?_
      go_simp
      refine hkQ _ _ ?_
      clear hkQ kQ
      refine wl (by kernel_rfl) fun kQ hkQ => ?_
      go_simp
      refine hkQ _ _ ?_
      clear hkQ kQ
      refine wl (by kernel_rfl) fun kQ hkQ => ?_
      go_simp
      refine hkQ _ _ ?_
      clear hkQ kQ
      refine wl (by kernel_rfl) fun kQ hkQ => ?_
      go_simp
      refine hkQ _ _ ?_
      clear hkQ kQ
      refine wpList_nil ?_
      go_upto_region 9 with fail
      refine wp_region_lit ?_
      refine wl_load (by kernel_rfl) 28 (.tmp 4) rfl 2 rfl 0 rfl (U8 x) (At.self _) Tryd.underlying28 rfl (szH hx) hS ?_
      simp [Act.put]
      refine wl (by kernel_rfl) fun kQ hkQ => ?_
      go_simp
      refine hkQ _ _ ?_
      clear hkQ kQ
      refine wl (by kernel_rfl) fun kQ hkQ => ?_
      go_simp
      refine hkQ _ _ ?_
      clear hkQ kQ
      refine wl (by kernel_rfl) fun kQ hkQ => ?_
      go_simp
      refine hkQ _ _ ?_
      clear hkQ kQ
      refine wl (by kernel_rfl) fun kQ hkQ => ?_
      go_simp
      refine (hI _ hS.K).mono ?_
      rintro e w6 ⟨h, q, rfl, hq, hb1⟩
      replace hS := hS.later hb1
      refine hkQ _ _ ?_
      clear hkQ kQ hb1
      have hh1 := hq.1
      have HQ := hide hq
      clear hq
      refine wl (by kernel_rfl) fun kQ hkQ => ?_
      go_simp
      refine hkQ _ _ ?_
      clear hkQ kQ
      refine wl (by kernel_rfl) fun kQ hkQ => ?_
      go_simp
      refine hkQ _ _ ?_
      clear hkQ kQ
      refine wl (by kernel_rfl) fun kQ hkQ => ?_
      go_simp
      refine hkQ _ _ ?_
      clear hkQ kQ
      refine wl_alloc (by kernel_rfl) 28 rfl (U8 z32) Tryd.inH hS ?_
      clear hS
      intro g7 w7 hS
      simp [Act.put]
      refine wl_store (by kernel_rfl) 28 (.tmp 13) (.tmp 49) rfl 0 rfl 0 rfl (U8 h) (U8 h) (pt_H z32_hs hh1) rfl (szH hh1) (U8_one _) hS ?_
      clear hS
      intro w8 hS
      change Hs17 w [(g7, 28, (U8 h)), (g4, 28, (U8 b)), (g2, 28, (U8 z32)), (g1, 28, (U8 x))] (fun w' => Hl.Ok w' ⟨some ⟨bb, off, none⟩, sn, c, ls⟩) w8 at hS
      simp [Act.put]
      refine wl (by kernel_rfl) fun kQ hkQ => ?_
      go_simp
      refine hkQ _ _ ?_
      clear hkQ kQ
      refine wpList_nil ?_
      clear hI
      go_upto_region 10 with fail
      refine wp_region_lit ?_
      refine wl_load (by kernel_rfl) 28 (.tmp 13) rfl 0 rfl 0 rfl (U8 h) (At.self _) Tryd.underlying28 rfl (szH hh1) hS ?_
      simp [Act.put]
      refine wl_load (by kernel_rfl) 28 (.tmp 11) rfl 1 rfl 0 rfl (U8 b) (At.self _) Tryd.underlying28 rfl (szH hbh) hS ?_
      simp [Act.put]
      refine wl (by kernel_rfl) fun kQ hkQ => ?_
      go_simp
      refine (rnodeA h b _ hh1 hbh).mono ?_
      rintro e w9 ⟨rfl, hb1⟩
      replace hS := hS.later hb1
      refine hkQ _ _ ?_
      clear hkQ kQ hb1
      refine wl (by kernel_rfl) fun kQ hkQ => ?_
      go_simp
      refine hkQ _ _ ?_
      clear hkQ kQ
      refine wl_store (by kernel_rfl) 28 (.tmp 8) (.tmp 53) rfl 2 rfl 0 rfl (U8 (ndZ h b)) (U8 (ndZ h b)) (pt_H z32_hs (ndZ_hs h b)) rfl (szH (ndZ_hs h b)) (U8_one _) hS ?_
      clear hS
      intro w10 hS
      change Hs17 w [(g7, 28, (U8 h)), (g4, 28, (U8 b)), (g2, 28, (U8 (ndZ h b))), (g1, 28, (U8 x))] (fun w' => Hl.Ok w' ⟨some ⟨bb, off, none⟩, sn, c, ls⟩) w10 at hS
      simp [Act.put]
      refine wl (by kernel_rfl) fun kQ hkQ => ?_
      go_simp
      refine hkQ _ _ ?_
      clear hkQ kQ
      refine wpList_nil ?_
      go_wp2_with fail
      refine bodyPost_ret (res_ct rfl hS 2 rfl rfl Tryd.underlying28 rfl (szH (ndZ_hs h b)) (.bool q) rfl) rfl ?_
      unfold RcE
      exact ⟨ndZ h b, q, rfl, unhide HU h q (unhide HQ), hS.bel⟩
    · have hI : ∀ w', s.Ok w' → Calls Tryd.prog 38 #[aV (U8 x), .int .i64 ((i - k : Nat) : Int), .int .i64 ((n - k : Nat) : Int), .slice (some ⟨bb, off, none⟩) (s.n - 1) s.c] w' fun e w'' => RcE (i - k) (n - k) x p w' e w'' := fun w' hw' => by
        have := IH (n - k) (by omega) x (i - k) R (by omega) (by omega) (by omega) hx w' (hRo w' hw')
        rwa [hRv, hRl] at this
      have HU : Hid (∀ h q, RcP (i - k) (n - k) x p h q → RcP i n x (p ++ [b]) (ndZ b h) q) := hide (fun h q hq => by
        obtain ⟨q1, q2, q3⟩ := hq
        refine ⟨ndZ_hs _ _, ?_, fun e => ?_⟩
        · rw [q2, mplen_hi h2 (by rw [← hk]; exact hik), ← hk]; simp
        · rw [q3 e, climbZ_hi h2 (by rw [← hk]; exact hik), ← hk])
      have g2 : ((s.n : Int) == 0) = false := by simp; omega
      have g3 : IntKind.i64.wrap ((s.n : Int) - 1) = ((s.n - 1 : Nat) : Int) := by rw [IntKind.wrap_i64]; omega
      have g4 : s.n - 1 < s.n := by omega
      have g5 : s.n - 1 ≤ s.c := by omega
      have g8 : s.n ≤ s.c := by omega
      have g9 : s.n - 1 ≤ s.n := by omega
      have g6 : ¬ ((i : Int) < (k : Int)) := by omega
      have g7 : IntKind.i64.wrap ((i : Int) - (k : Int)) = ((i - k : Nat) : Int) := by rw [IntKind.wrap_i64]; omega
      have g7' : IntKind.i64.wrap ((n : Int) - (k : Int)) = ((n - k : Nat) : Int) := by rw [IntKind.wrap_i64]; omega
      obtain ⟨i2, hi2⟩ : ∃ i2, i2 = i - k := ⟨_, rfl⟩
      obtain ⟨n2, hn2⟩ : ∃ n2, n2 = n - k := ⟨_, rfl⟩
      rw [← hi2] at g7 hI HU
      rw [← hn2] at g7' hI HU
      clear hi2 hn2
      clear hRo hRv hRl hRe hpb hat hs hpl hlen hle hmx IH hk hh hik hone h1 hn hi h2 hz
      obtain ⟨a, sn, c, ls⟩ := s
      simp only [Hl.v] at *
      subst ha
      obtain ⟨m, hm⟩ : ∃ m, m = sn - 1 := ⟨_, rfl⟩
      rw [← hm] at g3 g4 g5 g9 hI hrg
      clear hm
      have hrgl := hblt
      go_enter Tryd.func38, Tryd.ntmps38
      go_upto_region 0 with fail
      refine wp_region_lit ?_
      refine wl_box (by kernel_rfl) 28 (.tmp 0) rfl (U8 x) rfl hS ?_
      clear hS
      intro g1 w1 hS
      simp [Act.put]
      refine wl_alloc (by kernel_rfl) 28 rfl (U8 z32) Tryd.inH hS ?_
      clear hS
      intro g2 w2 hS
      simp [Act.put]
      refine wl (by kernel_rfl) fun kQ hkQ => ?_
      go_simp
      refine hkQ _ _ ?_
      clear hkQ kQ
      refine wpList_nil ?_
      go_upto_region 5 with fail
      refine wp_region_lit ?_
      refine wl (by kernel_rfl) fun kQ hkQ => ?_
      go_simp
      refine hkQ _ _ ?_
      clear hkQ kQ
      refine wl (by kernel_rfl) fun kQ hkQ => ?_
      go_simp
      refine (hsp _).mono ?_
      rintro e w3 ⟨rfl, hw1⟩
      obtain rfl := hw1.symm
      have hb1 := hw1
      refine hkQ _ _ ?_
      clear hkQ kQ hb1
      refine wl (by kernel_rfl) fun kQ hkQ => ?_
      go_simp
      refine hkQ _ _ ?_
      clear hkQ kQ
      refine wpList_nil ?_
      clear hsp
      have hrg2 := rangeAt_old hrg hrgl (Old.of hS.bel)
      go_upto_region 6 with fail
      refine wp_region_lit ?_
      refine wl (by kernel_rfl) fun kQ hkQ => ?_
      go_simp
      refine hkQ _ _ ?_
      clear hkQ kQ
      refine wl (by kernel_rfl) fun kQ hkQ => ?_
      go_simp
      refine hkQ _ _ ?_
      clear hkQ kQ
      refine wl (by kernel_rfl) fun kQ hkQ => ?_
      go_simp
      refine hkQ _ _ ?_
      clear hkQ kQ
      refine wl (by kernel_rfl) fun kQ hkQ => ?_
      go_simp
      refine hkQ _ _ ?_
      clear hkQ kQ
      refine wl (by kernel_rfl) fun kQ hkQ => ?_
      go_simp
      refine hkQ _ _ ?_
      clear hkQ kQ
      refine wv (aV (U8 b)) (by kernel_rfl) (ex_loadR 28 (.tmp 33) rfl (bb) (off + m * 32) rfl (U8 b) hrg2 Tryd.underlying28 rfl (szH hbh)) ?_
      simp [Act.put]
      refine wl_alloc (by kernel_rfl) 28 rfl (U8 z32) Tryd.inH hS ?_
      clear hS
      intro g4 w4 hS
      simp [Act.put]
      refine wl_store (by kernel_rfl) 28 (.tmp 11) (.tmp 34) rfl 0 rfl 0 rfl (U8 b) (U8 b) (pt_H z32_hs hbh) rfl (szH hbh) (U8_one _) hS ?_
      clear hS
      intro w5 hS
      change Hs17 w [(g4, 28, (U8 b)), (g2, 28, (U8 z32)), (g1, 28, (U8 x))] (fun w' => Hl.Ok w' ⟨some ⟨bb, off, none⟩, sn, c, ls⟩) w5 at hS
      simp [Act.put]
      refine wpList_nil ?_
      clear hrg2
      go_upto_region 7 with fail
      refine wp_region_lit ?_
      refine wl (by kernel_rfl) fun kQ hkQ => ?_
      go_simp
      refine hkQ _ _ ?_
      clear hkQ kQ
      refine wl (by kernel_rfl) fun kQ hkQ => ?_
      go_simp
      refine hkQ _ _ ?_
      clear hkQ kQ
      refine wl (by kernel_rfl) fun kQ hkQ => ?_
      go_simp
      refine hkQ _ _ ?_
      clear hkQ kQ
      refine wl (by kernel_rfl) fun kQ hkQ => ?_
      go_simp
      refine hkQ _ _ ?_
      clear hkQ kQ
      refine wl (by kernel_rfl) fun kQ hkQ => ?_
      go_simp
      refine hkQ _ _ ?_
      clear hkQ kQ
      refine wl (by kernel_rfl) fun kQ hkQ => ?_
      go_simp
      refine hkQ _ _ ?_
      clear hkQ kQ
      refine wpList_nil ?_
      go_upto_region 11 with fail
      refine wp_region_lit ?_
      refine wl_load (by kernel_rfl) 28 (.tmp 4) rfl 2 rfl 0 rfl (U8 x) (At.self _) Tryd.underlying28 rfl (szH hx) hS ?_
      simp [Act.put]
      refine wl (by kernel_rfl) fun kQ hkQ => ?_
      go_simp
      refine hkQ _ _ ?_
      clear hkQ kQ
      refine wl (by kernel_rfl) fun kQ hkQ => ?_
      go_simp
      refine hkQ _ _ ?_
      clear hkQ kQ
      refine wl (by kernel_rfl) fun kQ hkQ => ?_
      go_simp
      refine hkQ _ _ ?_
      clear hkQ kQ
      refine wl (by kernel_rfl) fun kQ hkQ => ?_
      go_simp
      refine hkQ _ _ ?_
      clear hkQ kQ
      refine wl (by kernel_rfl) fun kQ hkQ => ?_
      go_simp
      refine hkQ _ _ ?_
      clear hkQ kQ
      refine wl (by kernel_rfl) fun kQ hkQ => ?_
      go_simp
      refine hkQ _ _ ?_
      clear hkQ kQ
      refine wl (by kernel_rfl) fun kQ hkQ => ?_
      go_simp
      refine hkQ _ _ ?_
      clear hkQ kQ
      refine wl (by kernel_rfl) fun kQ hkQ => ?_
      go_simp
      refine (hI _ hS.K).mono ?_
      rintro e w6 ⟨h, q, rfl, hq, hb1⟩
      replace hS := hS.later hb1
      refine hkQ _ _ ?_
      clear hkQ kQ hb1
      have hh1 := hq.1
      have HQ := hide hq
      clear hq
      refine wl (by kernel_rfl) fun kQ hkQ => ?_
      go_simp
      refine hkQ _ _ ?_
      clear hkQ kQ
      refine wl (by kernel_rfl) fun kQ hkQ => ?_
      go_simp
      refine hkQ _ _ ?_
      clear hkQ kQ
      refine wl (by kernel_rfl) fun kQ hkQ => ?_
      go_simp
      refine hkQ _ _ ?_
      clear hkQ kQ
      refine wl_alloc (by kernel_rfl) 28 rfl (U8 z32) Tryd.inH hS ?_
      clear hS
      intro g7 w7 hS
      simp [Act.put]
      refine wl_store (by kernel_rfl) 28 (.tmp 15) (.tmp 65) rfl 0 rfl 0 rfl (U8 h) (U8 h) (pt_H z32_hs hh1) rfl (szH hh1) (U8_one _) hS ?_
      clear hS
      intro w8 hS
      change Hs17 w [(g7, 28, (U8 h)), (g4, 28, (U8 b)), (g2, 28, (U8 z32)), (g1, 28, (U8 x))] (fun w' => Hl.Ok w' ⟨some ⟨bb, off, none⟩, sn, c, ls⟩) w8 at hS
      simp [Act.put]
      refine wl (by kernel_rfl) fun kQ hkQ => ?_
      go_simp
      refine hkQ _ _ ?_
      clear hkQ kQ
      refine wpList_nil ?_
      clear hI
      go_upto_region 12 with fail
      refine wp_region_lit ?_
      refine wl_load (by kernel_rfl) 28 (.tmp 11) rfl 1 rfl 0 rfl (U8 b) (At.self _) Tryd.underlying28 rfl (szH hbh) hS ?_
      simp [Act.put]
      refine wl_load (by kernel_rfl) 28 (.tmp 15) rfl 0 rfl 0 rfl (U8 h) (At.self _) Tryd.underlying28 rfl (szH hh1) hS ?_
      simp [Act.put]
      refine wl (by kernel_rfl) fun kQ hkQ => ?_
      go_simp
      refine (rnodeA b h _ hbh hh1).mono ?_
      rintro e w9 ⟨rfl, hb1⟩
      replace hS := hS.later hb1
      refine hkQ _ _ ?_
      clear hkQ kQ hb1
      refine wl (by kernel_rfl) fun kQ hkQ => ?_
      go_simp
      refine hkQ _ _ ?_
      clear hkQ kQ
      refine wl_store (by kernel_rfl) 28 (.tmp 8) (.tmp 69) rfl 2 rfl 0 rfl (U8 (ndZ b h)) (U8 (ndZ b h)) (pt_H z32_hs (ndZ_hs b h)) rfl (szH (ndZ_hs b h)) (U8_one _) hS ?_
      clear hS
      intro w10 hS
      change Hs17 w [(g7, 28, (U8 h)), (g4, 28, (U8 b)), (g2, 28, (U8 (ndZ b h))), (g1, 28, (U8 x))] (fun w' => Hl.Ok w' ⟨some ⟨bb, off, none⟩, sn, c, ls⟩) w10 at hS
      simp [Act.put]
      refine wl (by kernel_rfl) fun kQ hkQ => ?_
      go_simp
      refine hkQ _ _ ?_
      clear hkQ kQ
      refine wpList_nil ?_
      go_wp2_with fail
      refine bodyPost_ret (res_ct rfl hS 2 rfl rfl Tryd.underlying28 rfl (szH (ndZ_hs b h)) (.bool q) rfl) rfl ?_
      unfold RcE
      exact ⟨ndZ b h, q, rfl, unhide HU h q (unhide HQ), hS.bel⟩
set_option maxHeartbeats 4000000 in
set_option maxRecDepth 100000 in
theorem rcheckI_any (x : List Int) (i n : Int) (s : Hl) (r : List Int) (w : World) (hx : Hs x) (hr : Hs r) (hs : s.Ok w) :
    Calls Tryd.prog 18 #[aV (U8 x), .int .i64 i, .int .i64 n, s.v, aV (U8 r)] w fun e w' => e = .returned (.bool (ckI x i n s.ls r)) ∧ Below w.heap.size w w' := by
  have hS := Hs17.begin w (fun w' => s.Ok w') (fun w' ho => hs.old ho)
  cases hin : inT i n
  · have HR : Hid (ckI x i n s.ls r = false) := hide (by unfold ckI; rw [hin]; rfl)
    rw [unhide HR]
    clear HR hs
    obtain ⟨a, sn, c, ls⟩ := s
    simp only [Hl.v] at *
    unfold inT at hin
    by_cases h1 : 65536 < n
    · clear hin
      go_enter Tryd.func18, Tryd.ntmps18
      go_upto_region 0 with fail
      refine wp_region_lit ?_
      refine wl_box (by kernel_rfl) 28 (.tmp 0) rfl (U8 x) rfl hS ?_
      clear hS
      intro g1 w1 hS
      simp [Act.put]
      refine wl_box (by kernel_rfl) 28 (.tmp 4) rfl (U8 r) rfl hS ?_
      clear hS
      intro g2 w2 hS
      simp [Act.put]
      refine wl (by kernel_rfl) fun kQ hkQ => ?_
      go_simp
      refine hkQ _ _ ?_
      clear hkQ kQ
      refine wpList_nil ?_
      go_wp2_with fail
      go_ret
      exact ⟨rfl, hS.bel⟩
    by_cases h2 : i < 0
    · clear hin
      go_enter Tryd.func18, Tryd.ntmps18
      go_upto_region 0 with fail
      refine wp_region_lit ?_
      refine wl_box (by kernel_rfl) 28 (.tmp 0) rfl (U8 x) rfl hS ?_
      clear hS
      intro g1 w1 hS
      simp [Act.put]
      refine wl_box (by kernel_rfl) 28 (.tmp 4) rfl (U8 r) rfl hS ?_
      clear hS
      intro g2 w2 hS
      simp [Act.put]
      refine wl (by kernel_rfl) fun kQ hkQ => ?_
      go_simp
      refine hkQ _ _ ?_
      clear hkQ kQ
      refine wpList_nil ?_
      go_wp2_with fail
      go_ret
      exact ⟨rfl, hS.bel⟩
    have h3 : n ≤ i := by simp at hin; omega
    clear hin
    go_enter Tryd.func18, Tryd.ntmps18
    go_upto_region 0 with fail
    refine wp_region_lit ?_
    refine wl_box (by kernel_rfl) 28 (.tmp 0) rfl (U8 x) rfl hS ?_
    clear hS
    intro g1 w1 hS
    simp [Act.put]
    refine wl_box (by kernel_rfl) 28 (.tmp 4) rfl (U8 r) rfl hS ?_
    clear hS
    intro g2 w2 hS
    simp [Act.put]
    refine wl (by kernel_rfl) fun kQ hkQ => ?_
    go_simp
    refine hkQ _ _ ?_
    clear hkQ kQ
    refine wpList_nil ?_
    go_wp2_with fail
    go_ret
    exact ⟨rfl, hS.bel⟩
  · have hin2 := hin
    unfold inT at hin2
    simp at hin2
    obtain ⟨⟨h1, h2⟩, h3⟩ := hin2
    obtain ⟨k, rfl⟩ : ∃ k : Nat, i = k := ⟨i.toNat, by omega⟩
    obtain ⟨m, rfl⟩ : ∃ m : Nat, n = m := ⟨n.toNat, by omega⟩
    have hC := fun w' hw' => rclimb_any m x k s (by omega) (by omega) (by omega) hx w' hw'
    have HZ : Hid (∀ h q, RcP k m x s.ls h q → (q && eqB h r) = ckI x k m s.ls r) := hide (fun h q hq => by
      obtain ⟨q1, q2, q3⟩ := hq
      unfold ckI
      rw [hin]
      simp only [Bool.true_and, Int.toNat_natCast]
      cases q
      · rw [← q2]; rfl
      · rw [← q2, q3 rfl])
    have g1 : ¬ ((65536 : Int) < (m : Int)) := by omega
    have g2 : ¬ ((k : Int) < 0) := by omega
    have g3 : ¬ ((m : Int) ≤ (k : Int)) := by omega
    generalize hck : ckI x k m s.ls r = z at HZ
    clear hck hin h1 h2 h3 hs
    obtain ⟨a, sn, c, ls⟩ := s
    simp only [Hl.v] at *
    go_enter Tryd.func18, Tryd.ntmps18
    go_upto_region 0 with fail
    refine wp_region_lit ?_
    refine wl_box (by kernel_rfl) 28 (.tmp 0) rfl (U8 x) rfl hS ?_
    clear hS
    intro g1 w1 hS
    simp [Act.put]
    refine wl_box (by kernel_rfl) 28 (.tmp 4) rfl (U8 r) rfl hS ?_
    clear hS
    intro g2 w2 hS
    simp [Act.put]
    refine wl (by kernel_rfl) fun kQ hkQ => ?_
    go_simp
    refine hkQ _ _ ?_
    clear hkQ kQ
    refine wpList_nil ?_
    go_upto_region 3 with fail
    refine wp_region_lit ?_
    refine wl_load (by kernel_rfl) 28 (.tmp 5) rfl 1 rfl 0 rfl (U8 x) (At.self _) Tryd.underlying28 rfl (szH hx) hS ?_
    simp [Act.put]
    refine wl (by kernel_rfl) fun kQ hkQ => ?_
    go_simp
    refine hkQ _ _ ?_
    clear hkQ kQ
    refine wl (by kernel_rfl) fun kQ hkQ => ?_
    go_simp
    refine hkQ _ _ ?_
    clear hkQ kQ
    refine wl (by kernel_rfl) fun kQ hkQ => ?_
    go_simp
    refine hkQ _ _ ?_
    clear hkQ kQ
    refine wl (by kernel_rfl) fun kQ hkQ => ?_
    go_simp
    refine (hC _ hS.K).mono ?_
    rintro e w3 ⟨h, q, rfl, hq, hb1⟩
    replace hS := hS.later hb1
    refine hkQ _ _ ?_
    clear hkQ kQ hb1
    have hh1 := hq.1
    have HQ := hide hq
    clear hq
    refine wl (by kernel_rfl) fun kQ hkQ => ?_
    go_simp
    refine hkQ _ _ ?_
    clear hkQ kQ
    refine wl (by kernel_rfl) fun kQ hkQ => ?_
    go_simp
    refine hkQ _ _ ?_
    clear hkQ kQ
    refine wl (by kernel_rfl) fun kQ hkQ => ?_
    go_simp
    refine hkQ _ _ ?_
    clear hkQ kQ
    refine wl_alloc (by kernel_rfl) 28 rfl (U8 z32) Tryd.inH hS ?_
    clear hS
    intro g4 w4 hS
    simp [Act.put]
    refine wl_store (by kernel_rfl) 28 (.tmp 11) (.tmp 30) rfl 0 rfl 0 rfl (U8 h) (U8 h) (pt_H z32_hs hh1) rfl (szH hh1) (U8_one _) hS ?_
    clear hS
    intro w5 hS
    change Hs17 w [(g4, 28, (U8 h)), (g2, 28, (U8 r)), (g1, 28, (U8 x))] (fun w' => Hl.Ok w' ⟨a, sn, c, ls⟩) w5 at hS
    simp [Act.put]
    refine wl (by kernel_rfl) fun kQ hkQ => ?_
    go_simp
    refine hkQ _ _ ?_
    clear hkQ kQ
    refine wpList_nil ?_
    clear hC
    have HZZ := hide (unhide HZ h q (unhide HQ))
    clear HZ HQ
    obtain ⟨u, hu⟩ : ∃ u, eqB h r = u := ⟨_, rfl⟩
    have HU := hide hu
    clear hu
    cases q
    · go_upto_region 4 with fail
      refine wp_region_lit ?_
      refine wl (by kernel_rfl) fun kQ hkQ => ?_
      go_simp
      refine hkQ _ _ ?_
      clear hkQ kQ
      refine wl (by kernel_rfl) fun kQ hkQ => ?_
      go_simp
      refine hkQ _ _ ?_
      clear hkQ kQ
      refine wl_skip (by kernel_rfl) ?_
      simp [Act.put]
      refine wl_skip (by kernel_rfl) ?_
      simp [Act.put]
      refine wl_skip (by kernel_rfl) ?_
      simp [Act.put]
      refine wl (by kernel_rfl) fun kQ hkQ => ?_
      go_simp
      refine hkQ _ _ ?_
      clear hkQ kQ
      refine wl (by kernel_rfl) fun kQ hkQ => ?_
      go_simp
      refine hkQ _ _ ?_
      clear hkQ kQ
      refine wpList_nil ?_
      go_wp2_with fail
      go_ret
      exact ⟨by rw [← unhide HZZ]; rfl, hS.bel⟩
    · go_upto_region 4 with fail
      refine wp_region_lit ?_
      refine wl (by kernel_rfl) fun kQ hkQ => ?_
      go_simp
      refine hkQ _ _ ?_
      clear hkQ kQ
      refine wl (by kernel_rfl) fun kQ hkQ => ?_
      go_simp
      refine hkQ _ _ ?_
      clear hkQ kQ
      refine wl_load (by kernel_rfl) 28 (.tmp 11) rfl 0 rfl 0 rfl (U8 h) (At.self _) Tryd.underlying28 rfl (szH hh1) hS ?_
      simp [Act.put]
      refine wl_load (by kernel_rfl) 28 (.tmp 9) rfl 1 rfl 0 rfl (U8 r) (At.self _) Tryd.underlying28 rfl (szH hr) hS ?_
      simp [Act.put]
      refine wv (.bool u) (by kernel_rfl) (ex_eql 28 (.tmp 34) (.tmp 35) rfl (U8 h) (U8 r) rfl rfl u (by rw [← unhide HU]; exact eqHr h r hh1 hr _) Tryd.egH) ?_
      simp [Act.put]
      refine wl (by kernel_rfl) fun kQ hkQ => ?_
      go_simp
      refine hkQ _ _ ?_
      clear hkQ kQ
      refine wl (by kernel_rfl) fun kQ hkQ => ?_
      go_simp
      refine hkQ _ _ ?_
      clear hkQ kQ
      refine wpList_nil ?_
      go_wp2_with fail
      go_ret
      exact ⟨by rw [← unhide HZZ, ← unhide HU]; rfl, hS.bel⟩
end Go.Proofs.YteijlppmgkdieaaDoor
