import Derived.Test.YtaepmfkdnjembaaBlW
import Derived.Deep.DeepCutAuto
import Derived.Deep.QuietTactic
import Derived.BigQuiet
set_option linter.unusedSimpArgs false
set_option linter.unusedVariables false
namespace Go.Proofs.Ytaepmfkdnjembaa
open Go.RowKit

theorem perm_end (x : Ms) (L ex : List Ms) : (x :: (L ++ ex)).Perm (L ++ [x] ++ ex) := by
  rw [List.append_assoc]
  exact (List.perm_middle (l₁ := L) (a := x) (l₂ := ex)).symm
/-- a row of one's own, read as a slice -/
theorem RowG.sx24 {α : Type} {f : α → List Value} {sz : Nat} {e : TypeId} {w0 w : World} {rows R : List Row} {K : World → Prop} {s : Sx α} {l : List α} (h : RowG f sz e s l R) (hf : ∀ x ∈ l, (f x).length = sz) (hR : ∀ p ∈ R, p ∈ rows) (hS : Hs17 w0 rows K w) : Sx.Ok f sz w ⟨s.a, s.n, s.c, l⟩ := by
  obtain ⟨sa, sn, sc, sx⟩ := s
  obtain ⟨hl, h⟩ := h
  simp only at hl h ⊢
  rcases h with ⟨rfl, rfl, rfl, rfl⟩ | ⟨g, sp, rfl, hle, hmx, hsz, rfl⟩
  · exact ⟨hl, Nat.le_refl _, Nat.zero_le _, fun _ => ⟨rfl, rfl⟩, fun h => absurd h (by simp)⟩
  · have hA := hS.arr (g, e, l.flatMap f ++ sp) (hR _ (by simp))
    refine ⟨hl, hle, hmx, (fun h => by cases h), fun _ => ⟨g, 0, rfl, hA.lt, fun i x hi j v hv => ?_⟩⟩
    have hc := flat_at hf hi j v hv
    rw [Nat.zero_add, hA.cell]
    rw [List.getElem?_append_left (by have := (List.getElem?_eq_some_iff.1 hc).1; exact this)]
    exact hc
set_option maxHeartbeats 4000000 in
set_option maxRecDepth 100000 in
theorem double_any (w0 : World) (rows : List Row) (B gb mb last : Nat) (ms ex : List Ms) (w : World) (hS : Hs17 w0 rows (BagW B gb mb ms ex last) w) (hn : NoB rows = true) (hw : w0.heap.size ≤ B) (z : Int) (hz : I64 z) (hl : last ≤ 1000000000) :
    Calls Try.prog 14 #[.pointer (some ⟨gb, 0, none⟩), .int .i64 z] w fun e w' => ∃ ms', e = .returned (.tuple #[.int .i64 (dbN (ms.map Ms.p) last z), .int .i64 (dbE (ms.map Ms.p) z)]) ∧ ms'.map Ms.p = dbP (ms.map Ms.p) last z ∧ Hs17 w0 rows (BagW B gb mb ms' ex (dbL (ms.map Ms.p) last z)) w' := by
  by_cases hq : lkB ms z = true
  · have HE : dbE (ms.map Ms.p) z = putE ms.length (lkV ms z).s.xs.length ∧ dbE (ms.map Ms.p) z = putE (ms.map Ms.p).length (lkV ms z).s.xs.length := by
      have hb := (hS.K.body z).2.2
      have e1 : dbE (ms.map Ms.p) z = putE (ms.map Ms.p).length 0 := by unfold dbE; rw [lkB_p, if_pos hq]
      rw [List.length_map] at e1
      exact ⟨by rw [e1, putE_body hb], by rw [e1, List.length_map, putE_body hb]⟩
    obtain ⟨hE, hE2⟩ := HE
    have hN : dbN (ms.map Ms.p) last z = putN last ms.length (lkV ms z).s.xs.length := by unfold dbN putN; rw [hE]
    have hL : dbL (ms.map Ms.p) last z = putL last ms.length (lkV ms z).s.xs.length := by unfold dbL putL; rw [hE]
    have hP : dbP (ms.map Ms.p) last z = putP (ms.map Ms.p) last (lkV ms z).f (lkV ms z).t (lkV ms z).s.xs := by unfold dbP putP; rw [hE2, lkV_p]; rfl
    rw [hN, hE, hL, hP]
    have hm := (lkB_yes hq).1
    have HM := hide hm
    clear hE hE2 hN hL hP hm
    go_enter Try.func14, Try.ntmps14
    go_upto_region 1 with fail
    refine wp_region_lit ?_
    refine wl (by kernel_rfl) fun kQ hkQ => ?_
    go_simp
    refine hkQ _ _ ?_
    clear hkQ kQ
    refine wl (by kernel_rfl) fun kQ hkQ => ?_
    go_simp
    refine (lying_any gb _ _ _ hS.K.st).mono ?_
    rintro e w1 ⟨rfl, hb1⟩
    replace hS := hS.later hb1
    refine hkQ _ _ ?_
    clear hkQ kQ hb1
    refine wl (by kernel_rfl) fun kQ hkQ => ?_
    go_simp
    refine hkQ _ _ ?_
    clear hkQ kQ
    refine wl_look (by kernel_rfl) (.tmp 10) (.tmp 11) rfl rfl rfl hS.K.g.mp hz ?_
    simp [Act.put]
    refine wl (by kernel_rfl) fun kQ hkQ => ?_
    go_simp
    refine hkQ _ _ ?_
    clear hkQ kQ
    refine wl (by kernel_rfl) fun kQ hkQ => ?_
    go_simp
    refine hkQ _ _ ?_
    clear hkQ kQ
    refine wl (by kernel_rfl) fun kQ hkQ => ?_
    go_simp
    refine hkQ _ _ ?_
    clear hkQ kQ
    refine wl_alloc (by kernel_rfl) 32 rfl (msC 0 0 0 (.slice none 0 0)) Try.inD hS ?_
    clear hS
    intro g2 w2 hS
    simp [Act.put]
    refine wl_store (by kernel_rfl) 32 (.tmp 6) (.tmp 13) rfl 0 rfl 0 rfl (msC ((lkV ms z).i) ((lkV ms z).f) ((lkV ms z).t) ((lkV ms z).s.v)) (msC ((lkV ms z).i) ((lkV ms z).f) ((lkV ms z).t) ((lkV ms z).s.v)) (pt_D 0 0 0 (.slice none 0 0) ((lkV ms z).i) ((lkV ms z).f) ((lkV ms z).t) ((lkV ms z).s.v)) rfl (sz_D _ _ _ _) (one_D _ _ _ rfl) hS ?_
    clear hS
    intro w3 hS
    change Hs17 w0 ((g2, 32, (msC ((lkV ms z).i) ((lkV ms z).f) ((lkV ms z).t) ((lkV ms z).s.v))) :: rows) (BagW B gb mb ms ex last) w3 at hS
    simp [Act.put]
    refine wl (by kernel_rfl) fun kQ hkQ => ?_
    go_simp
    refine hkQ _ _ ?_
    clear hkQ kQ
    refine wpList_nil ?_
    go_upto_region 4 with fail
    clear hq
    refine wp_region_lit ?_
    refine wl (by kernel_rfl) fun kQ hkQ => ?_
    go_simp
    refine hkQ _ _ ?_
    clear hkQ kQ
    refine wl_load (by kernel_rfl) 32 (.tmp 6) rfl 0 rfl 0 rfl (msC ((lkV ms z).i) ((lkV ms z).f) ((lkV ms z).t) ((lkV ms z).s.v)) (At.self _) Try.underlying32 rfl (sz_D _ _ _ _) hS ?_
    simp [Act.put]
    refine wl (by kernel_rfl) fun kQ hkQ => ?_
    go_simp
    refine (put_any w0 _ B gb mb last ms ex _ hS (NoB.cons rfl hn) hw _ _ _ (lkV ms z).s (fun w' h => Ou.ok (h.K.bd _ (List.mem_append.2 (.inl (unhide HM))))) hl).mono ?_
    clear hS
    rintro e w4 ⟨ms', rfl, hp, hS⟩
    refine hkQ _ _ ?_
    clear hkQ kQ
    refine wl (by kernel_rfl) fun kQ hkQ => ?_
    go_simp
    refine hkQ _ _ ?_
    clear hkQ kQ
    refine wl (by kernel_rfl) fun kQ hkQ => ?_
    go_simp
    refine hkQ _ _ ?_
    clear hkQ kQ
    refine wl (by kernel_rfl) fun kQ hkQ => ?_
    go_simp
    refine hkQ _ _ ?_
    clear hkQ kQ
    refine wl (by kernel_rfl) fun kQ hkQ => ?_
    go_simp
    refine hkQ _ _ ?_
    clear hkQ kQ
    refine wpList_nil ?_
    go_wp2_with fail
    replace hS := hS.sub (((List.Sublist.refl _)).cons _)
    refine bodyPost_ret (results_tmp2 rfl _ _ _) rfl ?_
    exact ⟨ms', rfl, hp, hS⟩
  · have hq' : lkB ms z = false := by simpa using hq
    have hE : dbE (ms.map Ms.p) z = 240 := by unfold dbE; rw [lkB_p, if_neg hq]
    have h9 : ¬ ((240 : Int) = 0) := by decide
    have hN : dbN (ms.map Ms.p) last z = 0 := by unfold dbN; rw [hE, if_neg h9]
    have hL : dbL (ms.map Ms.p) last z = last := by unfold dbL; rw [hE, if_neg h9]
    have hP : dbP (ms.map Ms.p) last z = ms.map Ms.p := by unfold dbP; rw [hE, if_neg h9]
    rw [hN, hE, hL, hP]
    clear hE h9 hN hL hP hq
    go_enter Try.func14, Try.ntmps14
    go_upto_region 1 with fail
    refine wp_region_lit ?_
    refine wl (by kernel_rfl) fun kQ hkQ => ?_
    go_simp
    refine hkQ _ _ ?_
    clear hkQ kQ
    refine wl (by kernel_rfl) fun kQ hkQ => ?_
    go_simp
    refine (lying_any gb _ _ _ hS.K.st).mono ?_
    rintro e w1 ⟨rfl, hb1⟩
    replace hS := hS.later hb1
    refine hkQ _ _ ?_
    clear hkQ kQ hb1
    refine wl (by kernel_rfl) fun kQ hkQ => ?_
    go_simp
    refine hkQ _ _ ?_
    clear hkQ kQ
    refine wl_look (by kernel_rfl) (.tmp 10) (.tmp 11) rfl rfl rfl hS.K.g.mp hz ?_
    simp [Act.put]
    refine wl (by kernel_rfl) fun kQ hkQ => ?_
    go_simp
    refine hkQ _ _ ?_
    clear hkQ kQ
    refine wl (by kernel_rfl) fun kQ hkQ => ?_
    go_simp
    refine hkQ _ _ ?_
    clear hkQ kQ
    refine wl (by kernel_rfl) fun kQ hkQ => ?_
    go_simp
    refine hkQ _ _ ?_
    clear hkQ kQ
    refine wl_alloc (by kernel_rfl) 32 rfl (msC 0 0 0 (.slice none 0 0)) Try.inD hS ?_
    clear hS
    intro g2 w2 hS
    simp [Act.put]
    refine wl_store (by kernel_rfl) 32 (.tmp 6) (.tmp 13) rfl 0 rfl 0 rfl (msC ((lkV ms z).i) ((lkV ms z).f) ((lkV ms z).t) ((lkV ms z).s.v)) (msC ((lkV ms z).i) ((lkV ms z).f) ((lkV ms z).t) ((lkV ms z).s.v)) (pt_D 0 0 0 (.slice none 0 0) ((lkV ms z).i) ((lkV ms z).f) ((lkV ms z).t) ((lkV ms z).s.v)) rfl (sz_D _ _ _ _) (one_D _ _ _ rfl) hS ?_
    clear hS
    intro w3 hS
    change Hs17 w0 ((g2, 32, (msC ((lkV ms z).i) ((lkV ms z).f) ((lkV ms z).t) ((lkV ms z).s.v))) :: rows) (BagW B gb mb ms ex last) w3 at hS
    simp [Act.put]
    refine wl (by kernel_rfl) fun kQ hkQ => ?_
    go_simp
    refine hkQ _ _ ?_
    clear hkQ kQ
    refine wpList_nil ?_
    go_wp2_with fail
    replace hS := hS.sub (((List.Sublist.refl _)).cons _)
    refine bodyPost_ret (results_tmp2 rfl _ _ _) rfl ?_
    exact ⟨ms, rfl, rfl, hS⟩
end Go.Proofs.Ytaepmfkdnjembaa
