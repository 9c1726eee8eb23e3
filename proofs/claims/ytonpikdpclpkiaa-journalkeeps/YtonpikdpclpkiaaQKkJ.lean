import Derived.Test.YtonpikdpclpkiaaQKiJ
set_option linter.unusedVariables false
set_option linter.unusedSimpArgs false
namespace Go.Proofs.Ytonpikdpclpkiaa
open Go.RowKit

/-- what a call on a Journal leaves: what it holds now stands first, or it went down, and what will be found is one of them -/
def KOut (s s' : FlS) (j : JS) (o' : Option JS) (hs : List Hd) (dn : Bool) : Prop :=
  (dn = false ∧ ∃ j' h0 tl, hs = h0 :: tl ∧ o' = some j' ∧ JI s' j' h0.sn.l h0.recs ∧ j'.ep ≤ j.ep + 1 ∧ s'.wr ≤ s.wr + 3 ∧ s'.q.length ≤ s.q.length) ∨
  (dn = true ∧ o' = none ∧ s'.down = true ∧ (∃ h0 ∈ hs, Fnd s' h0.sn.l h0.recs (j.ep + 2)) ∧ s'.wr ≤ s.wr + 3 ∧ s'.q.length + 1 ≤ s.q.length)
set_option maxHeartbeats 2000000 in
set_option maxRecDepth 100000 in
theorem kept_any (p jp : Nat) (S : Nat → Prop) (s : FlS) (j : JS) (h : Hd) (k x y : Int) (d c : Sl) (w : World) (hf : Fl w p S s) (hj : Jn w jp p (some j)) (he : j.ep + 1 ≤ 9223372036854775807) (hjS : ¬ S jp) (hI : JI s j h.sn.l h.recs) (hd : d.Ok w) (hdz : Sepd (fun k => S k ∨ k = jp) d) (hc : c.Ok w) (hcn : c.n ≤ 140737488351232) (hcz : Sepd (fun k => S k ∨ k = jp) c) (hw : s.wr + 4 < 4000000000000000000) (hh : h.Ok w (fun k => S k ∨ k = jp)) :
    Calls Try.prog 24 #[.pointer (some ⟨jp, 0, none⟩), h.v, .agg #[.int .i64 k, d.v, c.v, .int .i64 x, .int .i64 y]] w fun e w' => ∃ mv S' hs dn s' o', e = .returned (.tuple #[mv, .bool dn]) ∧ KpM w (fun k => S' k ∨ k = jp) mv hs w' ∧ JSt p jp S s' o' w w' S' ∧ KOut s s' j o' hs dn ∧ (k ≠ 3 → k ≠ 4 → k ≠ 5 → hs = [h] ∧ s' = s) ∧ (∀ X : Nat → Prop, (∀ k, X k → k < w.heap.size) → h.Sep X → Sepd X d → Sepd X c → ∀ h' ∈ hs, h'.Sep X) ∧ (∀ h' ∈ hs, h'.ps.length ≤ 200001) ∧ hs.length ≤ 4 := by
  have ho : s.Ok := by obtain ⟨v0, v1, qv, hF, -⟩ := hf; exact hF.ok
  obtain ⟨hl, hct⟩ := hI.len ho
  have hl2 : h.ps.length ≤ 200000 := by simp [Hd.recs] at hl; omega
  have hjo := hI.jok ho
  have he0 : j.ep ≤ 9223372036854775807 := by omega
  by_cases h3 : k = 3
  · subst h3
    rcases appends hI hd.isB ho with ⟨-, e⟩ | ⟨-, -, e⟩ | ⟨-, -, s', e, hi, -, -, hw', hq⟩ | ⟨s', e, hdn, hF, hw', hq⟩
    · refine (kept_append_no p jp S s s j _ h 1 x y d c w hf hj he0 hjS hjo hd hdz (by omega) hl2 hh e (by decide)).mono ?_
      rintro _ w' ⟨mv, S', g, c', rfl, kp, js, hg⟩
      exact ⟨mv, S', _, _, s, _, rfl, kp, js, .inl ⟨rfl, j, _, _, rfl, rfl, hI, by omega, by omega, Nat.le_refl _⟩, fun h => absurd rfl h, fun X hX a b cc h' hm => by simp only [List.mem_cons, List.not_mem_nil, or_false] at hm; rcases hm with rfl | rfl; exact a; exact a.more hX hg b, fun h' hm => by simp only [List.mem_cons, List.not_mem_nil, or_false] at hm; (repeat (rcases hm with rfl | hm; (first | (simp [Hd.more]; omega) | simp [Hd.more] | omega))), by simp⟩
    · refine (kept_append_no p jp S s s j _ h 122 x y d c w hf hj he0 hjS hjo hd hdz (by omega) hl2 hh e (by decide)).mono ?_
      rintro _ w' ⟨mv, S', g, c', rfl, kp, js, hg⟩
      exact ⟨mv, S', _, _, s, _, rfl, kp, js, .inl ⟨rfl, j, _, _, rfl, rfl, hI, by omega, by omega, Nat.le_refl _⟩, fun h => absurd rfl h, fun X hX a b cc h' hm => by simp only [List.mem_cons, List.not_mem_nil, or_false] at hm; rcases hm with rfl | rfl; exact a; exact a.more hX hg b, fun h' hm => by simp only [List.mem_cons, List.not_mem_nil, or_false] at hm; (repeat (rcases hm with rfl | hm; (first | (simp [Hd.more]; omega) | simp [Hd.more] | omega))), by simp⟩
    · refine (kept_append_ok p jp S s s' j _ h x y d c w hf hj he0 hjS hjo hd hdz (by omega) hl2 hh e).mono ?_
      rintro _ w' ⟨mv, S', g, c', rfl, kp, js, hg⟩
      exact ⟨mv, S', _, _, s', _, rfl, kp, js, .inl ⟨rfl, _, _, _, rfl, rfl, by rw [Hd.more_recs]; exact hi, by simp, by omega, hq⟩, fun h => absurd rfl h, fun X hX a b cc h' hm => by simp only [List.mem_cons, List.not_mem_nil, or_false] at hm; subst hm; exact a.more hX hg b, fun h' hm => by simp only [List.mem_cons, List.not_mem_nil, or_false] at hm; (repeat (rcases hm with rfl | hm; (first | (simp [Hd.more]; omega) | simp [Hd.more] | omega))), by simp⟩
    · refine (kept_append_no p jp S s s' j _ h 121 x y d c w hf hj he0 hjS hjo hd hdz (by omega) hl2 hh e (by decide)).mono ?_
      rintro _ w' ⟨mv, S', g, c', rfl, kp, js, hg⟩
      refine ⟨mv, S', _, _, s', _, rfl, kp, js, .inr ⟨rfl, rfl, hdn, ?_, by omega, hq⟩, fun h => absurd rfl h, fun X hX a b cc h' hm => by simp only [List.mem_cons, List.not_mem_nil, or_false] at hm; rcases hm with rfl | rfl; exact a; exact a.more hX hg b, fun h' hm => by simp only [List.mem_cons, List.not_mem_nil, or_false] at hm; (repeat (rcases hm with rfl | hm; (first | (simp [Hd.more]; omega) | simp [Hd.more] | omega))), by simp⟩
      rcases hF with hF | hF
      · exact ⟨h, by simp, hF.mono (by omega)⟩
      · exact ⟨h.more g c' d, by simp, by rw [Hd.more_recs]; exact hF.mono (by omega)⟩
  · by_cases h4 : k = 4
    · subst h4
      rcases compacts (more := 0) hI hc.isB ho with ⟨err, e1, e2, e⟩ | ⟨-, -, s', e, hi, -, -, hw', hq⟩ | ⟨s', e, hdn, hF, hw', hq⟩
      · refine (kept_compact_no p jp S s s j _ h err x y d c w hf hj he0 hjS hjo hc hcn hcz (by omega) hh e e1).mono ?_
        rintro _ w' ⟨mv, S', rfl, kp, js⟩
        exact ⟨mv, S', _, _, s, _, rfl, kp, js, .inl ⟨by simpa using e2, j, _, _, rfl, rfl, hI, by omega, by omega, Nat.le_refl _⟩, fun _ h => absurd rfl h, fun X hX a b cc h' hm => by simp only [List.mem_cons, List.not_mem_nil, or_false] at hm; rcases hm with rfl | rfl; exact a; exact Hd.sepF cc, fun h' hm => by simp only [List.mem_cons, List.not_mem_nil, or_false] at hm; (repeat (rcases hm with rfl | hm; (first | (simp [Hd.more]; omega) | simp [Hd.more] | omega))), by simp⟩
      · refine (kept_compact_ok p jp S s s' j _ h x y d c w hf hj he0 hjS hjo hc hcn hcz (by omega) hh e).mono ?_
        rintro _ w' ⟨mv, S', rfl, kp, js⟩
        exact ⟨mv, S', _, _, s', _, rfl, kp, js, .inl ⟨rfl, _, _, _, rfl, rfl, hi, by simp, by omega, hq⟩, fun _ h => absurd rfl h, fun X hX a b cc h' hm => by simp only [List.mem_cons, List.not_mem_nil, or_false] at hm; subst hm; exact Hd.sepF cc, fun h' hm => by simp only [List.mem_cons, List.not_mem_nil, or_false] at hm; (repeat (rcases hm with rfl | hm; (first | (simp [Hd.more]; omega) | simp [Hd.more] | omega))), by simp⟩
      · refine (kept_compact_no p jp S s s' j _ h 121 x y d c w hf hj he0 hjS hjo hc hcn hcz (by omega) hh e (by decide)).mono ?_
        rintro _ w' ⟨mv, S', rfl, kp, js⟩
        refine ⟨mv, S', _, _, s', _, rfl, kp, js, .inr ⟨rfl, rfl, hdn, ?_, by omega, hq⟩, fun _ h => absurd rfl h, fun X hX a b cc h' hm => by simp only [List.mem_cons, List.not_mem_nil, or_false] at hm; rcases hm with rfl | rfl; exact a; exact Hd.sepF cc, fun h' hm => by simp only [List.mem_cons, List.not_mem_nil, or_false] at hm; (repeat (rcases hm with rfl | hm; (first | (simp [Hd.more]; omega) | simp [Hd.more] | omega))), by simp⟩
        rcases hF with hF | hF
        · exact ⟨h, by simp, hF.mono (by omega)⟩
        · exact ⟨⟨c, none, 0, []⟩, by simp, hF.mono (by omega)⟩
    · by_cases h5 : k = 5
      · subst h5
        rcases keeps hI hd.isB hc.isB ho with ⟨err, e1, e2, e, -⟩ | ⟨s', e, hi, hw', hq, -⟩ | ⟨s', e, hi, hw', hq, -⟩ | ⟨s', e, hdn, hF, hw', hq⟩
        · refine (kept_keep_no p jp S s s j _ h err x y d c w hf hj he0 hjS hjo hd hdz hc hcn hcz (by omega) hw hl2 hh e e1).mono ?_
          rintro _ w' ⟨mv, S', g1, c1, g2, c2, rfl, kp, js, hg, hg2⟩
          exact ⟨mv, S', _, _, s, _, rfl, kp, js, .inl ⟨by simpa using e2, j, _, _, rfl, rfl, hI, by omega, by omega, Nat.le_refl _⟩, fun _ _ h => absurd rfl h, fun X hX a b cc h' hm => by simp only [List.mem_cons, List.not_mem_nil, or_false] at hm; rcases hm with rfl | rfl | rfl | rfl; exact a; exact a.more hX hg b; exact Hd.sepF cc; exact (Hd.sepF cc).more hX hg2 b, fun h' hm => by simp only [List.mem_cons, List.not_mem_nil, or_false] at hm; (repeat (rcases hm with rfl | hm; (first | (simp [Hd.more]; omega) | simp [Hd.more] | omega))), by simp⟩
        · refine (kept_keep_same p jp S s s' j _ h x y d c w hf hj he0 hjS hjo hd hdz hc hcn hcz (by omega) hw hl2 hh e he0 rfl).mono ?_
          rintro _ w' ⟨mv, S', g, c', rfl, kp, js, hg⟩
          exact ⟨mv, S', _, _, s', _, rfl, kp, js, .inl ⟨rfl, _, _, _, rfl, rfl, by rw [Hd.more_recs]; exact hi, by simp, by omega, hq⟩, fun _ _ h => absurd rfl h, fun X hX a b cc h' hm => by simp only [List.mem_cons, List.not_mem_nil, or_false] at hm; subst hm; exact a.more hX hg b, fun h' hm => by simp only [List.mem_cons, List.not_mem_nil, or_false] at hm; (repeat (rcases hm with rfl | hm; (first | (simp [Hd.more]; omega) | simp [Hd.more] | omega))), by simp⟩
        · refine (kept_keep_new p jp S s s' j _ h x y d c w hf hj he0 hjS hjo hd hdz hc hcn hcz (by omega) hw hl2 hh e he (by simp)).mono ?_
          rintro _ w' ⟨mv, S', g, c', rfl, kp, js, hg⟩
          exact ⟨mv, S', _, _, s', _, rfl, kp, js, .inl ⟨rfl, _, _, _, rfl, rfl, by rw [Hd.more_recs]; exact hi, by simp, by omega, hq⟩, fun _ _ h => absurd rfl h, fun X hX a b cc h' hm => by simp only [List.mem_cons, List.not_mem_nil, or_false] at hm; subst hm; exact (Hd.sepF cc).more hX hg b, fun h' hm => by simp only [List.mem_cons, List.not_mem_nil, or_false] at hm; (repeat (rcases hm with rfl | hm; (first | (simp [Hd.more]; omega) | simp [Hd.more] | omega))), by simp⟩
        · refine (kept_keep_no p jp S s s' j _ h 121 x y d c w hf hj he0 hjS hjo hd hdz hc hcn hcz (by omega) hw hl2 hh e (by decide)).mono ?_
          rintro _ w' ⟨mv, S', g1, c1, g2, c2, rfl, kp, js, hg, hg2⟩
          refine ⟨mv, S', _, _, s', _, rfl, kp, js, .inr ⟨rfl, rfl, hdn, ?_, by omega, hq⟩, fun _ _ h => absurd rfl h, fun X hX a b cc h' hm => by simp only [List.mem_cons, List.not_mem_nil, or_false] at hm; rcases hm with rfl | rfl | rfl | rfl; exact a; exact a.more hX hg b; exact Hd.sepF cc; exact (Hd.sepF cc).more hX hg2 b, fun h' hm => by simp only [List.mem_cons, List.not_mem_nil, or_false] at hm; (repeat (rcases hm with rfl | hm; (first | (simp [Hd.more]; omega) | simp [Hd.more] | omega))), by simp⟩
          rcases hF with hF | hF | hF | hF
          · exact ⟨h, by simp, hF⟩
          · exact ⟨h.more g1 c1 d, by simp, by rw [Hd.more_recs]; exact hF⟩
          · exact ⟨⟨c, none, 0, []⟩, by simp, hF⟩
          · exact ⟨(⟨c, none, 0, []⟩ : Hd).more g2 c2 d, by simp, by rw [Hd.more_recs]; exact hF⟩
      · refine (kept_else p jp S s j h k x y d c w hf hj he0 hjS hh h3 h4 h5).mono ?_
        rintro _ w' ⟨mv, rfl, kp, hb⟩
        exact ⟨mv, S, _, _, s, _, rfl, kp, JSt.below hf hj hb, .inl ⟨rfl, j, _, _, rfl, rfl, hI, by omega, by omega, Nat.le_refl _⟩, fun _ _ _ => ⟨rfl, rfl⟩, fun X hX a b cc h' hm => by simp only [List.mem_cons, List.not_mem_nil, or_false] at hm; subst hm; exact a, fun h' hm => by simp only [List.mem_cons, List.not_mem_nil, or_false] at hm; (repeat (rcases hm with rfl | hm; (first | (simp [Hd.more]; omega) | simp [Hd.more] | omega))), by simp⟩
end Go.Proofs.Ytonpikdpclpkiaa
