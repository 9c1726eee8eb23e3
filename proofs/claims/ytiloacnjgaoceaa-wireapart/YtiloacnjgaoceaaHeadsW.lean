import Derived.Test.YtiloacnjgaoceaaRHdW
namespace Go.Proofs.Ytiloacnjgaoceaa
open Go.RowKit

/-- an empty slice that is not nil -/
theorem own_empty (w : World) (base : Nat) (hb : base ≤ w.heap.size) : (w.alloc (.cells #[] 5)).ownsRow base 5 1 (.slice (some ⟨w.heap.size, 0, none⟩) 0 0) 0 [] :=
  ⟨rfl, .inr ⟨w.heap.size, 0, #[], rfl, hb, heap_alloc_last w _, Nat.le_refl _, Nat.zero_le _, rfl, rfl⟩⟩

set_option maxHeartbeats 2000000 in
set_option maxRecDepth 100000 in
theorem heads_law (d : Int) (b : Sl) (w : World) (hb : b.Ok w) :
    Calls Try.prog 4 #[.int .i64 d, b.v] w fun e w' => e = .returned (.bool true) ∧ Below w.heap.size w w' := by
  have hmx := hb.mx
  have hle := hb.le
  unfold maxLen at hmx
  have hbv : b.v = .slice b.a b.n b.c := rfl
  by_cases hn : 100000 < b.n
  · rw [hbv]
    go_enter Try.func4, Try.ntmps4
    go_wp2
    go_ret
    exact ⟨rfl, Below.refl _ _⟩
  · have hR := roomy_any b w hb (by omega)
    rw [hbv] at hR ⊢
    go_enter Try.func4, Try.ntmps4
    go_wp2_with fail
    refine hR.mono ?_
    rintro e w1 ⟨g, c, rfl, hown, hb1⟩
    have hBm : IsB (b.l ++ marks) := hb.isB.append marks_isB
    have hokr := Sl.Ok.of_own hown hBm
    have hc := hokr.le
    have hcm := hokr.mx
    unfold maxLen at hcm
    simp only at hc hcm
    have hpre := own_pre hown hBm (n := b.n) (by omega)
    rw [List.take_append_of_le_length (by rw [hb.len]; omega), List.take_of_length_le (by rw [hb.len]; omega)] at hpre
    have hb1' := hb.later hb1
    obtain ⟨⟨r0, r1, r2⟩, hr⟩ : ∃ q, rdH b.l = q := ⟨_, rfl⟩
    have H1 := readHead_any _ w1 hpre
    have H2 := refReadHead_any b w1 hb1'
    simp only [Sl.v] at H1 H2
    rw [hr] at H1 H2
    simp only at H1 H2
    go_wp2_with fail
    refine H1.mono ?_
    rintro e w2 ⟨rfl, rfl⟩
    clear H1
    go_wp2_with fail
    refine H2.mono ?_
    rintro e w3 ⟨rfl, rfl⟩
    clear H2
    have hR2 := roomy_any b w3 hb1' (by omega)
    rw [hbv] at hR2
    go_wp2_with fail
    refine hR2.mono ?_
    rintro e w4 ⟨g4, c4, rfl, hown4, hb4⟩
    have hok4 := Sl.Ok.of_own hown4 hBm
    have hS := same_any _ _ w4 (hokr.later hb4) hok4 (by simp only; omega)
    simp only [Sl.v, decide_true] at hS
    go_wp2_with fail
    refine hS.mono ?_
    rintro e w5 ⟨rfl, k5, rfl⟩
    clear hS hR2
    go_wp2_with fail
    refine (head_any d _).mono ?_
    rintro e w6 ⟨sh, rfl, hok6, hl6, hb6, -⟩
    go_wp2_with fail
    refine (refHead_any d _).mono ?_
    rintro e w7 ⟨sf, rfl, hok7, hl7, hb7⟩
    have hS := same_any sh sf w7 (hok6.later hb7) hok7 (by have := hok6.len; rw [hl6] at this; unfold hdL at this; split at this <;> simp at this <;> omega)
    rw [hl6, hl7, decide_eq_true rfl] at hS
    go_wp2_with fail
    refine hS.mono ?_
    rintro e w8 ⟨rfl, k8, rfl⟩
    clear hS
    have hbA : Below w.heap.size w (w7.drewN k8) := below_drewN (hb1.trans ((hb4.mono hb1.size).trans (((below_drewN (Below.refl _ w4) k5).mono (Nat.le_trans hb1.size hb4.size)).trans ((hb6.mono (Nat.le_trans hb1.size hb4.size)).trans (hb7.mono (Nat.le_trans hb1.size (Nat.le_trans hb4.size hb6.size))))))) k8
    have hownA : (w7.drewN k8).ownsRow w.heap.size 5 1 (.slice (some ⟨g, 0, none⟩) (b.n + 64) c) (b.n + 64) (U8 (b.l ++ marks)) := by
      have h1 := own_later hown hb4
      have h2 : (w4.drewN k5).ownsRow w.heap.size 5 1 (.slice (some ⟨g, 0, none⟩) (b.n + 64) c) (b.n + 64) (U8 (b.l ++ marks)) := h1
      have h3 := own_later (own_later h2 hb6) hb7
      exact h3
    generalize w7.drewN k8 = W at *
    clear hb1 hb4 hb6 hb7 hok4 hok6 hok7 hokr hpre hb1' hown hown4 hR
    by_cases h4 : b.n < 4
    · go_wp2_with fail
      go_ret
      exact ⟨rfl, hbA⟩
    · have hlen := hb.len
      have hc3 := (hownA.cellAt 3 (by omega)).trans (U8_at _ 3 (by rw [List.length_append]; omega))
      have hf3 := hownA.frozenAt 3
      have hx3 := hBm.at 3
      generalize (b.l ++ marks).getD 3 0 = x at hc3 hx3
      have hst := (hownA.stored 3 (.int .u8 (IntKind.u8.wrap (x + 1)))).1
      rw [U8_set] at hst
      have hB2 : IsB ((b.l ++ marks).set 3 (IntKind.u8.wrap (x + 1))) := by
        intro y hy
        rcases List.mem_or_eq_of_mem_set hy with h | h
        · exact hBm y h
        · subst h; rw [IntKind.wrap_u8']; omega
      have hbS : Below w.heap.size w (W.setCell ⟨g, 3, none⟩ (.int .u8 (IntKind.u8.wrap (x + 1)))) := hbA.setCell (hownA.lt g rfl).1 _
      have hpre := own_pre hst hB2 (n := b.n) (by omega)
      obtain ⟨l2, hl2⟩ : ∃ l2, ((b.l ++ marks).set 3 (IntKind.u8.wrap (x + 1))).take b.n = l2 := ⟨_, rfl⟩
      rw [hl2] at hpre
      clear hl2
      obtain ⟨⟨q0, q1, q2⟩, hq⟩ : ∃ q, rdH l2 = q := ⟨_, rfl⟩
      have H1 := readHead_any _ _ hpre
      simp only [Sl.v] at H1
      rw [hq] at H1
      simp only at H1
      have HP := hide (And.intro hst (And.intro hB2 (And.intro hbS hpre)))
      clear hst hB2 hbS hbA hownA hpre hlen
      go_wp2_with fail
      refine H1.mono ?_
      rintro e w2 ⟨rfl, rfl⟩
      obtain ⟨-, -, hbS, hpre⟩ := unhide HP
      clear HP H1
      generalize W.setCell ⟨g, 3, none⟩ (.int .u8 (IntKind.u8.wrap (x + 1))) = W2 at *
      obtain ⟨i0, hi, hz0, hz1, hz2⟩ := info_parts Try.infoB
      have hb2 := below_one W2 (.cells #[] 5)
      have hown0 := own_empty W2 w.heap.size (Nat.le_trans hbS.size (Nat.le_refl _))
      have hpre2 := hpre.later hb2
      go_wp2_with (at_builtin; refine wpList_append_sl rfl _ _ 22 rfl w.heap.size 5 i0 (.int .u8 0) Try.underlying22 hi hz0 hz1 hz2 rfl (.slice (some ⟨W2.heap.size, 0, none⟩) 0 0) 0 [] rfl hown0 ⟨some ⟨g, 0, none⟩, b.n, c, l2⟩ hpre2 rfl (by show 0 + b.n ≤ 140737488355328; omega) (Nat.le_trans hbS.size hb2.size) ?_; intro v3 w3' hown3 hgrow3)
      have hown3 := unhide hown3
      have hgrow3 := unhide hgrow3
      rw [List.nil_append] at hown3
      have hb3 : Below w.heap.size w w3' := below_grown (hbS.trans (hb2.mono hbS.size)) (Nat.le_refl _) hown0 hgrow3
      obtain ⟨s3, rfl, hok3, hsl3, -, -⟩ := own_sl hown3 hpre.isB
      have H2 := refReadHead_any s3 w3' hok3
      rw [hsl3, hq] at H2
      simp only at H2
      go_wp2_with fail
      refine H2.mono ?_
      rintro e w4' ⟨rfl, rfl⟩
      clear H2
      go_wp2_with fail
      go_ret
      exact ⟨rfl, hb3⟩
end Go.Proofs.Ytiloacnjgaoceaa
