import Derived.Test.YteijlppmgkdieaaDoorQGaC
set_option linter.unusedVariables false
namespace Go.Proofs.YteijlppmgkdieaaDoor
open Go.RowKit

def climbZ (i n : Nat) (x : List Int) (p : List (List Int)) : List Int := mclimb ndZ nonZ i n x p
theorem climbZ_one {i n : Nat} {x : List Int} {p : List (List Int)} (h : n ≤ 1) : climbZ i n x p = x := by unfold climbZ; rw [mclimb_eq, if_pos h]
theorem climbZ_lo {i n : Nat} {x b : List Int} {p : List (List Int)} (h : 2 ≤ n) (hi : i < halfN n) : climbZ i n x (p ++ [b]) = ndZ (climbZ i (halfN n) x p) b := by
  unfold climbZ; rw [mclimb_eq, if_neg (by omega), if_pos hi, dropLast_snoc, getLastD_snoc]
theorem climbZ_hi {i n : Nat} {x b : List Int} {p : List (List Int)} (h : 2 ≤ n) (hi : ¬ i < halfN n) : climbZ i n x (p ++ [b]) = ndZ b (climbZ (i - halfN n) (n - halfN n) x p) := by
  unfold climbZ; rw [mclimb_eq, if_neg (by omega), if_neg hi, dropLast_snoc, getLastD_snoc]
theorem mplen_one {i n : Nat} (h : n ≤ 1) : mplen i n = 0 := by rw [mplen_eq, if_pos h]
theorem mplen_lo {i n : Nat} (h : 2 ≤ n) (hi : i < halfN n) : mplen i n = mplen i (halfN n) + 1 := by rw [mplen_eq, if_neg (by omega), if_pos hi]
theorem mplen_hi {i n : Nat} (h : 2 ≤ n) (hi : ¬ i < halfN n) : mplen i n = mplen (i - halfN n) (n - halfN n) + 1 := by rw [mplen_eq, if_neg (by omega), if_neg hi]
theorem mplen_pos {i n : Nat} (h : 2 ≤ n) : 1 ≤ mplen i n := by
  by_cases hi : i < halfN n
  · rw [mplen_lo h hi]; omega
  · rw [mplen_hi h hi]; omega
/-- what a walk up comes to: the hash, if the proof has the right length -/
def ClR (i n : Nat) (x : List Int) (p : List (List Int)) (h : List Int) : Prop := Hs h ∧ (p.length = mplen i n → h = climbZ i n x p)
theorem cut_init {s : Hl} {w : World} (h : s.Ok w) {p : List (List Int)} {b : List Int} (hl : s.ls = p ++ [b]) : (s.cut 0 (s.n - 1) (s.n - 1)).ls = p ∧ (s.cut 0 (s.n - 1) (s.n - 1)).Ok w := by
  have hn := h.len
  have hle := h.le
  refine ⟨?_, h.cut (by omega) (by omega) (Nat.le_refl _) (by omega)⟩
  simp only [Hl.cut, Nat.sub_zero, List.drop_zero, hl]
  rw [hl] at hn
  exact List.take_left' (by simp at hn; omega)

set_option maxHeartbeats 2000000 in
set_option maxRecDepth 100000 in
theorem climb_any : ∀ (n : Nat) (x : List Int) (i : Nat) (s : Hl), 1 ≤ n → n ≤ 65536 → i < n → Hs x → ∀ w : World, s.Ok w → Ld w →
    Calls Tryd.prog 34 #[hV x, .int .i64 i, .int .i64 n, s.v] w fun e w' => ∃ h, ClR i n x s.ls h ∧ e = .returned (.tuple #[hV h, .bool (decide (s.ls.length = mplen i n))]) ∧ Below w.heap.size w w' := by
  intro n
  induction n using Nat.strongRecOn with
  | ind n IH =>
    intro x i s h1 hn hi hx w hs hL
    obtain ⟨W, hW, hH, hb⟩ := hold2 w x zeroH
    have HW := hide hW
    have hlen := hs.len
    clear hW
    by_cases hone : n = 1
    · subst hone
      obtain ⟨q, hq1, hq2⟩ : ∃ q, decide (s.ls.length = mplen i 1) = q ∧ ((s.n : Int) == 0) = q := ⟨_, rfl, by rw [mplen_one (Nat.le_refl _), hlen]; by_cases h0 : s.n = 0 <;> simp [h0]⟩
      rw [hq1]
      have HR : Hid (ClR i 1 x s.ls x) := hide ⟨hx, fun _ => (climbZ_one (Nat.le_refl _)).symm⟩
      clear hs IH hL hq1 hlen
      obtain ⟨a, m, c, ls⟩ := s
      simp only [Hl.v] at *
      have hzx := hz_of hx.len
      unfold hV
      go_enter Tryd.func34, Tryd.ntmps34
      go_upto_region 1 with fail
      rw [Z32, show List.replicate 32 (0 : Int) = zeroH from rfl, ← unhide HW]
      rw [show Value.agg (U8 x).toArray = hV x from rfl]
      go_wp2_with (first
        | refine wpList_load_hs hH (.tmp 4) rfl (by kernel_rfl) w.heap.size x (by simp) hx.len rfl ?_
        | (refine wpList_store_at hH rfl (.tmp 8) (.tmp 19) rfl (w.heap.size + 1) zeroH x (by simp) zeroH_hs.len hx.len rfl rfl [] (by simp) ?_; intro w2 hH2 hw2; have HB2 := hide hw2; clear hw2))
      refine bodyPost_ret (results_row_tmp rfl _ _ (w.heap.size + 1) 28 _ (0, 0) _ rfl (.bool q) rfl (hH2.at_ (g := w.heap.size + 1) (l := x) (by simp)) Tryd.underlying28 rfl hzx) rfl ?_
      exact ⟨x, unhide HR, rfl, by rw [unhide HB2]; exact below_setRow hb (by omega) _⟩
    · have h2 : 2 ≤ n := by omega
      by_cases hp : s.n = 0
      · have hl0 : s.ls = [] := List.length_eq_zero_iff.1 (by omega)
        have hq1 : decide (s.ls.length = mplen i n) = false := decide_eq_false (by have := mplen_pos (i := i) h2; rw [hl0]; simp; omega)
        rw [hq1]
        have HR : Hid (ClR i n x s.ls zeroH) := hide ⟨zeroH_hs, fun h => by have := mplen_pos (i := i) h2; rw [hl0] at h; simp at h; omega⟩
        have hT := takeLast_no s W hp
        have hzz := hz_of zeroH_hs.len
        have g1 : decide ((n : Int) = 1) = false := decide_eq_false (by omega)
        have g2 : decide (n = 1) = false := decide_eq_false hone
        have g3 : ((n : Int) == 1) = false := by simp; omega
        clear hs IH hL hq1 hlen hl0
        obtain ⟨a, m, c, ls⟩ := s
        simp only at hp
        subst hp
        simp only [Hl.v] at *
        unfold hV
        go_enter Tryd.func34, Tryd.ntmps34
        go_upto_region 1 with fail
        rw [Z32, show List.replicate 32 (0 : Int) = zeroH from rfl, ← unhide HW]
        rw [show Value.agg (U8 x).toArray = hV x from rfl]
        go_wp2_with (first
          | (go_at_call 56; refine hT.mono ?_; rintro e w1 ⟨rfl, hb1⟩; replace hH := hH.later hb1; replace hb := bnext hb hb.size hb1; clear hb1; rw [show List.replicate 32 (0 : Int) = zeroH from rfl])
          | (refine wpList_store_al rfl (.tmp 11) (.tmp 27) rfl hH zeroH zeroH_hs.len _ rfl rfl rfl rfl ?_; intro w2 hH2 hb2; replace hH := hH2; replace hb := bnext hb hb.size hb2; clear hb2 hH2)
          | (refine wpList_build_to rfl 28 _ rfl (U8 (List.replicate 32 0)).toArray (by kernel_rfl) ?_; rw [show List.replicate 32 (0 : Int) = zeroH from rfl, show Value.agg (U8 zeroH).toArray = hV zeroH from rfl])
          | (refine wpList_store_at hH rfl (.tmp 8) (.tmp 31) rfl (w.heap.size + 1) zeroH zeroH (by simp) zeroH_hs.len zeroH_hs.len rfl rfl [] (by simp) ?_; intro w3 hH3 hw3; have HB3 := hide hw3; clear hw3))
        refine bodyPost_ret (results_row_tmp rfl _ _ (w.heap.size + 1) 28 _ (0, 0) _ rfl (.bool false) rfl (hH3.at_ (g := w.heap.size + 1) (l := zeroH) (by simp)) Tryd.underlying28 rfl hzz) rfl ?_
        exact ⟨zeroH, unhide HR, rfl, by rw [unhide HB3]; exact below_setRow hb (by omega) _⟩
      · obtain ⟨p, b, hpb⟩ : ∃ p b, s.ls = p ++ [b] := by
          have hne : s.ls ≠ [] := by intro h0; rw [h0] at hlen; simp at hlen; omega
          exact ⟨s.ls.dropLast, s.ls.getLast hne, (List.dropLast_concat_getLast hne).symm⟩
        have hbh : Hs b := hs.hs b (by rw [hpb]; simp)
        have hT := takeLast_ok s b p W (hs.later hb) hpb
        obtain ⟨hci, hco⟩ := cut_init (hs.later hb) hpb
        obtain ⟨R, hRe⟩ : ∃ R, R = s.cut 0 (s.n - 1) (s.n - 1) := ⟨_, rfl⟩
        rw [← hRe] at hci hco hT
        have hh := halfN_spec n h2
        have hls := fun w0 => leftSize_any n w0 h2 hn
        obtain ⟨k, hk⟩ : ∃ k, k = halfN n := ⟨_, rfl⟩
        rw [← hk] at hls hh
        have hIH1 : ∀ (hik : i < k) (w0 : World), R.Ok w0 → Ld w0 → _ := fun hik w0 => IH k (by omega) x i R (by omega) (by omega) hik hx w0
        have hIH2 : ∀ (hik : ¬ i < k) (w0 : World), R.Ok w0 → Ld w0 → _ := fun hik w0 => IH (n - k) (by omega) x (i - k) R (by omega) (by omega) (by omega) hx w0
        have hF1 : i < k → decide (s.ls.length = mplen i n) = decide (R.ls.length = mplen i k) ∧ ∀ h, ClR i k x R.ls h → ClR i n x s.ls (ndZ h b) := fun hik => by
          rw [hk] at hik ⊢
          rw [hpb, hci, mplen_lo h2 hik]
          refine ⟨by simp, fun h hc => ⟨ndZ_hs _ _, fun hl => ?_⟩⟩
          rw [mplen_lo h2 hik] at hl
          rw [climbZ_lo h2 hik, hc.2 (by simpa using hl)]
        have hF2 : ¬ i < k → decide (s.ls.length = mplen i n) = decide (R.ls.length = mplen (i - k) (n - k)) ∧ ∀ h, ClR (i - k) (n - k) x R.ls h → ClR i n x s.ls (ndZ b h) := fun hik => by
          rw [hk] at hik ⊢
          rw [hpb, hci, mplen_hi h2 hik]
          refine ⟨by simp, fun h hc => ⟨ndZ_hs _ _, fun hl => ?_⟩⟩
          rw [mplen_hi h2 hik] at hl
          rw [climbZ_hi h2 hik, hc.2 (by simpa using hl)]
        have g1 : decide ((n : Int) = 1) = false := decide_eq_false (by omega)
        have g2 : decide (n = 1) = false := decide_eq_false hone
        have g3 : ((n : Int) == 1) = false := by simp; omega
        have HL := hide hL
        have hLW := hL.later hb
        clear hs IH hL hlen hRe hpb hci hk
        by_cases hik : i < k
        · obtain ⟨hq, hF⟩ := hF1 hik
          rw [hq]
          have HF := hide hF
          have HC := hide (hIH1 hik)
          have g4 : (i : Int) < (k : Int) := by omega
          generalize decide (R.ls.length = mplen i k) = q at *
          clear hF1 hF2 hIH1 hIH2 hq hF hh h2 hone h1 hn hi hik
          obtain ⟨a, m, c, ls⟩ := s
          simp only [Hl.v] at *
          unfold hV
          go_enter Tryd.func34, Tryd.ntmps34
          go_upto_region 1 with fail
          rw [Z32, show List.replicate 32 (0 : Int) = zeroH from rfl, ← unhide HW]
          rw [show Value.agg (U8 x).toArray = hV x from rfl]
          go_wp2_with (first
            | (go_at_call 56; refine hT.mono ?_; rintro e w1 ⟨rfl, hb1⟩; replace hH := hH.later hb1; replace hco := hco.later hb1; replace hLW := hLW.later hb1; replace hb := bnext hb hb.size hb1; clear hb1)
            | (refine wpList_store_al rfl (.tmp 11) (.tmp 27) rfl hH b hbh.len _ rfl rfl rfl rfl ?_; intro w2 hH2 hb2; replace hH := hH2; replace hco := hco.later hb2; replace hLW := hLW.later hb2; replace hb := bnext hb hb.size hb2; clear hb2 hH2)
            | (go_at_call 57; refine (hls _).mono ?_; rintro e w3 ⟨rfl, hw3⟩; obtain rfl := hw3.symm)
            | refine wpList_load_hs hH (.tmp 4) rfl (by kernel_rfl) w.heap.size x (by simp) hx.len rfl ?_
            | (go_at_call 34; refine ((unhide HC) _ hco hLW).mono ?_; rintro e w4 ⟨h, hR4, rfl, hb4⟩; have hhl := hR4.1; have HR4 := hide hR4; clear hR4; replace hH := hH.later hb4; replace hLW := hLW.later hb4; replace hb := bnext hb hb.size hb4; clear hb4)
            | (refine wpList_store_al rfl (.tmp 14) (.tmp 43) rfl hH h hhl.len _ rfl rfl rfl rfl ?_; intro w5 hH2 hb2; replace hH := hH2; replace hLW := hLW.later hb2; replace hb := bnext hb hb.size hb2; clear hb2 hH2)
            | refine wpList_load_hs hH (.tmp 14) rfl (by kernel_rfl) w4.heap.size h (by simp) hhl.len rfl ?_
            | refine wpList_load_hs hH (.tmp 11) rfl (by kernel_rfl) w1.heap.size b (by simp) hbh.len rfl ?_
            | (go_at_call 4; refine (node_any h b _ hhl hbh hLW).mono ?_; rintro e w6 ⟨rfl, hb6⟩; replace hH := hH.later hb6; replace hb := bnext hb hb.size hb6; clear hb6)
            | (refine wpList_store_at hH rfl (.tmp 8) (.tmp 47) rfl (w.heap.size + 1) zeroH (ndZ h b) (by simp) zeroH_hs.len (ndZ_hs _ _).len rfl rfl [] (by simp) ?_; intro w7 hH3 hw3; have HB3 := hide hw3; clear hw3))
          refine bodyPost_ret (results_row_tmp rfl _ _ (w.heap.size + 1) 28 _ (0, 0) _ rfl (.bool q) rfl (hH3.at_ (g := w.heap.size + 1) (l := ndZ h b) (by simp)) Tryd.underlying28 rfl (hz_of (ndZ_hs _ _).len)) rfl ?_
          exact ⟨ndZ h b, (unhide HF) h (unhide HR4), rfl, by rw [unhide HB3]; exact below_setRow hb (by omega) _⟩
        · obtain ⟨hq, hF⟩ := hF2 hik
          rw [hq]
          have HF := hide hF
          have HC := hide (hIH2 hik)
          have g4 : decide ((i : Int) < (k : Int)) = false := decide_eq_false (by omega)
          have g5 : decide (i < k) = false := decide_eq_false hik
          have g6 : IntKind.i64.wrap ((i : Int) - (k : Int)) = ((i - k : Nat) : Int) := by rw [IntKind.wrap_i64]; omega
          have g7 : IntKind.i64.wrap ((n : Int) - (k : Int)) = ((n - k : Nat) : Int) := by clear g6; rw [IntKind.wrap_i64]; omega
          generalize decide (R.ls.length = mplen (i - k) (n - k)) = q at *
          clear hF1 hF2 hIH1 hIH2 hq hF hh h2 hone h1 hn hi hik
          obtain ⟨a, m, c, ls⟩ := s
          simp only [Hl.v] at *
          unfold hV
          go_enter Tryd.func34, Tryd.ntmps34
          go_upto_region 1 with fail
          rw [Z32, show List.replicate 32 (0 : Int) = zeroH from rfl, ← unhide HW]
          rw [show Value.agg (U8 x).toArray = hV x from rfl]
          go_wp2_with (first
            | (go_at_call 56; refine hT.mono ?_; rintro e w1 ⟨rfl, hb1⟩; replace hH := hH.later hb1; replace hco := hco.later hb1; replace hLW := hLW.later hb1; replace hb := bnext hb hb.size hb1; clear hb1)
            | (refine wpList_store_al rfl (.tmp 11) (.tmp 27) rfl hH b hbh.len _ rfl rfl rfl rfl ?_; intro w2 hH2 hb2; replace hH := hH2; replace hco := hco.later hb2; replace hLW := hLW.later hb2; replace hb := bnext hb hb.size hb2; clear hb2 hH2)
            | (go_at_call 57; refine (hls _).mono ?_; rintro e w3 ⟨rfl, hw3⟩; obtain rfl := hw3.symm)
            | refine wpList_load_hs hH (.tmp 4) rfl (by kernel_rfl) w.heap.size x (by simp) hx.len rfl ?_
            | (go_at_call 34; refine ((unhide HC) _ hco hLW).mono ?_; rintro e w4 ⟨h, hR4, rfl, hb4⟩; have hhl := hR4.1; have HR4 := hide hR4; clear hR4; replace hH := hH.later hb4; replace hLW := hLW.later hb4; replace hb := bnext hb hb.size hb4; clear hb4)
            | (refine wpList_store_al rfl (.tmp 16) (.tmp 59) rfl hH h hhl.len _ rfl rfl rfl rfl ?_; intro w5 hH2 hb2; replace hH := hH2; replace hLW := hLW.later hb2; replace hb := bnext hb hb.size hb2; clear hb2 hH2)
            | refine wpList_load_hs hH (.tmp 16) rfl (by kernel_rfl) w4.heap.size h (by simp) hhl.len rfl ?_
            | refine wpList_load_hs hH (.tmp 11) rfl (by kernel_rfl) w1.heap.size b (by simp) hbh.len rfl ?_
            | (go_at_call 4; refine (node_any b h _ hbh hhl hLW).mono ?_; rintro e w6 ⟨rfl, hb6⟩; replace hH := hH.later hb6; replace hb := bnext hb hb.size hb6; clear hb6)
            | (refine wpList_store_at hH rfl (.tmp 8) (.tmp 63) rfl (w.heap.size + 1) zeroH (ndZ b h) (by simp) zeroH_hs.len (ndZ_hs _ _).len rfl rfl [] (by simp) ?_; intro w7 hH3 hw3; have HB3 := hide hw3; clear hw3))
          refine bodyPost_ret (results_row_tmp rfl _ _ (w.heap.size + 1) 28 _ (0, 0) _ rfl (.bool q) rfl (hH3.at_ (g := w.heap.size + 1) (l := ndZ b h) (by simp)) Tryd.underlying28 rfl (hz_of (ndZ_hs _ _).len)) rfl ?_
          exact ⟨ndZ b h, (unhide HF) h (unhide HR4), rfl, by rw [unhide HB3]; exact below_setRow hb (by omega) _⟩
end Go.Proofs.YteijlppmgkdieaaDoor
