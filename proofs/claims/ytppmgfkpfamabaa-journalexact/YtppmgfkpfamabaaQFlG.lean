import Derived.Test.YtppmgfkpfamabaaQGadZ
set_option maxHeartbeats 2000000
set_option maxRecDepth 100000
namespace Go.Proofs.Ytppmgfkpfamabaa
open Go.RowKit
theorem tearL_len (l : List Int) (k : Nat) (h : k ≤ l.length) : (tearL l k).length = l.length := by simp [tearL]; omega
theorem tearL_zero (l : List Int) : tearL l 0 = l := by simp [tearL]
theorem tearL_set (l : List Int) (k : Nat) (h : k < l.length) : (tearL l k).set k 255 = tearL l (k + 1) := by
  unfold tearL
  rw [List.set_append_right _ _ (by simp), List.length_replicate, Nat.sub_self, List.drop_eq_getElem_cons h, List.set_cons_zero, List.replicate_succ', List.append_assoc]
  rfl
theorem Fls.put0 {w : World} {p g n cap : Nat} {v1 qv : Value} {s : FlS} (h : Fls w p (.slice (some ⟨g, 0, none⟩) n cap) v1 qv s) (hn : n = s.l0.length) (k : Nat) : Fls (w.setCell ⟨g, k, none⟩ (.int .u8 255)) p (.slice (some ⟨g, 0, none⟩) n cap) v1 qv { s with l0 := s.l0.set k 255 } := by
  have bb : Buts (· = g) w (w.setCell ⟨g, k, none⟩ (.int .u8 255)) := Buts.of_but ((But.refl g w).setCell k _)
  have hs := h.o0
  rw [← hn] at hs
  refine ⟨bb.arr h.arr (fun e => h.n0 (by rw [e]; rfl)), ?_, bb.own h.o1 (fun x hx e => h.ne x (by rw [e]; rfl) hx), bb.own h.oq (fun x hx e => h.q0 x hx (by rw [e]; rfl)), h.ne, ?_⟩
  · have := (hs.stored k (.int .u8 255)).1
    simp only [List.length_set]
    rw [← hn]
    rw [show (U8 s.l0).set k (.int .u8 255) = U8 (s.l0.set k 255) by simp [U8, List.map_set]] at this
    exact this
  · have hb : IsB (s.l0.set k 255) := by
      intro x hx
      rcases List.mem_or_eq_of_mem_set hx with hx | rfl
      · exact h.ok.b0 x hx
      · omega
    exact ⟨hb, h.ok.b1, by simpa using h.ok.z0, h.ok.z1, h.ok.mx, h.ok.ql, h.ok.qb⟩
theorem Fls.nil0 {w : World} {p : Nat} {v0 v1 qv : Value} {s : FlS} (h : Fls w p v0 v1 qv s) : FSt p (FSet p v0 v1 qv) { s with l0 := [] } w (w.setCell ⟨p, 1, none⟩ (.slice none 0 0)) (FSet p (.slice none 0 0) v1 qv) := by
  have bb : Buts (· = p) w (w.setCell ⟨p, 1, none⟩ (.slice none 0 0)) := Buts.of_but ((But.refl p w).setCell _ _)
  refine ⟨⟨_, _, _, ⟨h.arr.set 1 (.slice none 0 0), World.ownsRow_nil _ _ _ _, bb.own h.o1 (fun x hx e => h.n1 (by rw [hx, e])), bb.own h.oq (fun x hx e => h.nq (by rw [hx, e])), ?_, ?_⟩, rfl⟩, bb.mono (fun k _ e => .inl e), ?_⟩
  · intro k hk hk'
    simp [Value.ownBlock] at hk hk'
  · exact ⟨fun x hx => by simp at hx, h.ok.b1, by simp, h.ok.z1, h.ok.mx, h.ok.ql, h.ok.qb⟩
  · rintro k (hk | hk | hk | hk)
    · exact .inl (.inl hk)
    · simp [Value.ownBlock] at hk
    · exact .inl (.inr (.inr (.inl hk)))
    · exact .inl (.inr (.inr (.inr hk)))
theorem tear_0 (p : Nat) (S : Nat → Prop) (s : FlS) (K : Nat) (w : World) (h : Fl w p S s) (hK : K ≤ 1048576) :
    Calls Try.prog 114 #[.pointer (some ⟨p, 0, none⟩), .int .i64 0, .int .i64 K] w fun e w' => e = .returned (.tuple #[]) ∧ ∃ S', FSt p S { s with l0 := if s.l0.length ≤ K then [] else tearL s.l0 K } w w' S' := by
  obtain ⟨v0, v1, qv, hf, rfl⟩ := h
  obtain ⟨n, hn⟩ : ∃ n, n = s.l0.length := ⟨_, rfl⟩
  by_cases hc : n ≤ K
  · have HE : Hid ((if s.l0.length ≤ K then [] else tearL s.l0 K) = []) := hide (by rw [← hn, if_pos hc])
    rw [unhide HE]
    have HR := hide hf.nil0
    obtain ⟨a0, b0, rfl⟩ := own_parts hf.o0
    rw [← hn] at hf HR ⊢
    have c1 : w.cell? ⟨p, 1, none⟩ = some (.slice a0 n b0) := by simpa using hf.arr.cell 1
    have f1 := hf.arr.frozen 1
    have hcz : (n : Int) ≤ (K : Int) := by omega
    clear hf hn
    go_enter Try.func114, Try.ntmps114
    go_wp2
    refine bodyPost_ret (results_none rfl _ _ _) rfl ?_
    exact ⟨rfl, _, unhide HR⟩
  · have HE : Hid ((if s.l0.length ≤ K then [] else tearL s.l0 K) = tearL s.l0 K) := hide (by rw [← hn, if_neg hc])
    rw [unhide HE]
    obtain ⟨g, cap, hv⟩ := own_some hf.o0 (by omega)
    rw [← hn] at hv
    subst hv
    have hz := hf.ok.z0
    have hmx := hf.ok.mx
    have hn1 : n ≤ 1048576 := by omega
    have c1 : w.cell? ⟨p, 1, none⟩ = some (.slice (some ⟨g, 0, none⟩) n cap) := by simpa using hf.arr.cell 1
    have hcz : ¬ (n : Int) ≤ (K : Int) := by omega
    have HF := hide hf
    have HN := hide hn
    have hgp : g ≠ p := fun e => hf.n0 (by rw [e]; rfl)
    clear hf hn hz hmx
    go_enter Try.func114, Try.ntmps114
    go_wp2_with fail
    go_loopw [6, 22] (fun v i wr => ∃ k : Nat, k ≤ K ∧ i = .int .i64 k ∧ Hid (Fls wr p (.slice (some ⟨g, 0, none⟩) n cap) v1 qv { s with l0 := tearL s.l0 k }) ∧ Hid (Buts (· = g) w wr)) (fun v i _ => K - (intOf i).toNat)
    case atStart => exact ⟨0, by omega, rfl, hide (by rw [tearL_zero]; exact unhide HF), hide (Buts.refl _ _)⟩
    case round =>
      obtain ⟨k, hk, rfl, HI, HB⟩ := hrel
      by_cases hlt : k < K
      · have hI := unhide HI
        have hkn : k < n := by omega
        have hkz : (k : Int) < (K : Int) := by omega
        have hkz2 : (k : Int) < (n : Int) := by omega
        have c1' : wr.cell? ⟨p, 1, none⟩ = some (.slice (some ⟨g, 0, none⟩) n cap) := by simpa using hI.arr.cell 1
        have hl : (tearL s.l0 k).length = n := by rw [tearL_len _ _ (by rw [← unhide HN]; omega), ← unhide HN]
        have hst := hI.put0 hl.symm k
        have ho := hI.o0
        simp only at ho hst
        rw [hl] at ho
        have c2 : wr.cell? ⟨g, k, none⟩ = some (.int .u8 ((tearL s.l0 k).getD k 0)) := by rw [ho.cellAt k (by omega), U8_at _ _ (by rw [hl]; exact hkn)]
        obtain ⟨x, hx⟩ : ∃ x, (tearL s.l0 k).getD k 0 = x := ⟨_, rfl⟩
        rw [hx] at c2
        have f2 := ho.frozenAt k
        rw [tearL_set _ _ (by rw [← unhide HN]; exact hkn)] at hst
        have HST := hide hst
        clear hst ho hI hx hl
        go_wp2
        go_roundw
        case rel => exact ⟨k + 1, by omega, by go_num, HST, hide ((unhide HB).trans (Buts.of_but ((But.refl g wr).setCell k _)))⟩
        case measure => simp [intOf]; omega
      · obtain rfl : k = K := by omega
        have hkd : decide ((k : Int) < (k : Int)) = false := by simp
        go_wp2
        go_end0
        exact ⟨rfl, _, ⟨_, _, _, unhide HI, rfl⟩, (unhide HB).mono (fun x _ e => by subst e; exact .inr (.inl rfl)), fun _ h => .inl h⟩
theorem Fls.put1 {w : World} {p g n cap : Nat} {v0 qv : Value} {s : FlS} (h : Fls w p v0 (.slice (some ⟨g, 0, none⟩) n cap) qv s) (hn : n = s.l1.length) (k : Nat) : Fls (w.setCell ⟨g, k, none⟩ (.int .u8 255)) p v0 (.slice (some ⟨g, 0, none⟩) n cap) qv { s with l1 := s.l1.set k 255 } := by
  have bb : Buts (· = g) w (w.setCell ⟨g, k, none⟩ (.int .u8 255)) := Buts.of_but ((But.refl g w).setCell k _)
  have hs := h.o1
  rw [← hn] at hs
  refine ⟨bb.arr h.arr (fun e => h.n1 (by rw [e]; rfl)), bb.own h.o0 (fun x hx e => h.ne x hx (by rw [e]; rfl)), ?_, bb.own h.oq (fun x hx e => h.q1 x hx (by rw [e]; rfl)), h.ne, ?_⟩
  · have := (hs.stored k (.int .u8 255)).1
    simp only [List.length_set]
    rw [← hn]
    rw [show (U8 s.l1).set k (.int .u8 255) = U8 (s.l1.set k 255) by simp [U8, List.map_set]] at this
    exact this
  · have hb : IsB (s.l1.set k 255) := by
      intro x hx
      rcases List.mem_or_eq_of_mem_set hx with hx | rfl
      · exact h.ok.b1 x hx
      · omega
    exact ⟨h.ok.b0, hb, h.ok.z0, by simpa using h.ok.z1, h.ok.mx, h.ok.ql, h.ok.qb⟩
theorem Fls.nil1 {w : World} {p : Nat} {v0 v1 qv : Value} {s : FlS} (h : Fls w p v0 v1 qv s) : FSt p (FSet p v0 v1 qv) { s with l1 := [] } w (w.setCell ⟨p, 2, none⟩ (.slice none 0 0)) (FSet p v0 (.slice none 0 0) qv) := by
  have bb : Buts (· = p) w (w.setCell ⟨p, 2, none⟩ (.slice none 0 0)) := Buts.of_but ((But.refl p w).setCell _ _)
  refine ⟨⟨_, _, _, ⟨h.arr.set 2 (.slice none 0 0), bb.own h.o0 (fun x hx e => h.n0 (by rw [hx, e])), World.ownsRow_nil _ _ _ _, bb.own h.oq (fun x hx e => h.nq (by rw [hx, e])), ?_, ?_⟩, rfl⟩, bb.mono (fun k _ e => .inl e), ?_⟩
  · intro k hk hk'
    simp [Value.ownBlock] at hk hk'
  · exact ⟨h.ok.b0, fun x hx => by simp at hx, h.ok.z0, by simp, h.ok.mx, h.ok.ql, h.ok.qb⟩
  · rintro k (hk | hk | hk | hk)
    · exact .inl (.inl hk)
    · exact .inl (.inr (.inl hk))
    · simp [Value.ownBlock] at hk
    · exact .inl (.inr (.inr (.inr hk)))
theorem tear_1 (p : Nat) (S : Nat → Prop) (s : FlS) (K : Nat) (w : World) (h : Fl w p S s) (hK : K ≤ 1048576) :
    Calls Try.prog 114 #[.pointer (some ⟨p, 0, none⟩), .int .i64 1, .int .i64 K] w fun e w' => e = .returned (.tuple #[]) ∧ ∃ S', FSt p S { s with l1 := if s.l1.length ≤ K then [] else tearL s.l1 K } w w' S' := by
  obtain ⟨v0, v1, qv, hf, rfl⟩ := h
  obtain ⟨n, hn⟩ : ∃ n, n = s.l1.length := ⟨_, rfl⟩
  by_cases hc : n ≤ K
  · have HE : Hid ((if s.l1.length ≤ K then [] else tearL s.l1 K) = []) := hide (by rw [← hn, if_pos hc])
    rw [unhide HE]
    have HR := hide hf.nil1
    obtain ⟨a0, b0, rfl⟩ := own_parts hf.o1
    rw [← hn] at hf HR ⊢
    have c1 : w.cell? ⟨p, 2, none⟩ = some (.slice a0 n b0) := by simpa using hf.arr.cell 2
    have f1 := hf.arr.frozen 2
    have hcz : (n : Int) ≤ (K : Int) := by omega
    clear hf hn
    go_enter Try.func114, Try.ntmps114
    go_wp2
    refine bodyPost_ret (results_none rfl _ _ _) rfl ?_
    exact ⟨rfl, _, unhide HR⟩
  · have HE : Hid ((if s.l1.length ≤ K then [] else tearL s.l1 K) = tearL s.l1 K) := hide (by rw [← hn, if_neg hc])
    rw [unhide HE]
    obtain ⟨g, cap, hv⟩ := own_some hf.o1 (by omega)
    rw [← hn] at hv
    subst hv
    have hz := hf.ok.z1
    have hmx := hf.ok.mx
    have hn1 : n ≤ 1048576 := by omega
    have c1 : w.cell? ⟨p, 2, none⟩ = some (.slice (some ⟨g, 0, none⟩) n cap) := by simpa using hf.arr.cell 2
    have hcz : ¬ (n : Int) ≤ (K : Int) := by omega
    have HF := hide hf
    have HN := hide hn
    have hgp : g ≠ p := fun e => hf.n1 (by rw [e]; rfl)
    clear hf hn hz hmx
    go_enter Try.func114, Try.ntmps114
    go_wp2_with fail
    go_loopw [6, 22] (fun v i wr => ∃ k : Nat, k ≤ K ∧ i = .int .i64 k ∧ Hid (Fls wr p v0 (.slice (some ⟨g, 0, none⟩) n cap) qv { s with l1 := tearL s.l1 k }) ∧ Hid (Buts (· = g) w wr)) (fun v i _ => K - (intOf i).toNat)
    case atStart => exact ⟨0, by omega, rfl, hide (by rw [tearL_zero]; exact unhide HF), hide (Buts.refl _ _)⟩
    case round =>
      obtain ⟨k, hk, rfl, HI, HB⟩ := hrel
      by_cases hlt : k < K
      · have hI := unhide HI
        have hkn : k < n := by omega
        have hkz : (k : Int) < (K : Int) := by omega
        have hkz2 : (k : Int) < (n : Int) := by omega
        have c1' : wr.cell? ⟨p, 2, none⟩ = some (.slice (some ⟨g, 0, none⟩) n cap) := by simpa using hI.arr.cell 2
        have hl : (tearL s.l1 k).length = n := by rw [tearL_len _ _ (by rw [← unhide HN]; omega), ← unhide HN]
        have hst := hI.put1 hl.symm k
        have ho := hI.o1
        simp only at ho hst
        rw [hl] at ho
        have c2 : wr.cell? ⟨g, k, none⟩ = some (.int .u8 ((tearL s.l1 k).getD k 0)) := by rw [ho.cellAt k (by omega), U8_at _ _ (by rw [hl]; exact hkn)]
        obtain ⟨x, hx⟩ : ∃ x, (tearL s.l1 k).getD k 0 = x := ⟨_, rfl⟩
        rw [hx] at c2
        have f2 := ho.frozenAt k
        rw [tearL_set _ _ (by rw [← unhide HN]; exact hkn)] at hst
        have HST := hide hst
        clear hst ho hI hx hl
        go_wp2
        go_roundw
        case rel => exact ⟨k + 1, by omega, by go_num, HST, hide ((unhide HB).trans (Buts.of_but ((But.refl g wr).setCell k _)))⟩
        case measure => simp [intOf]; omega
      · obtain rfl : k = K := by omega
        have hkd : decide ((k : Int) < (k : Int)) = false := by simp
        go_wp2
        go_end0
        exact ⟨rfl, _, ⟨_, _, _, unhide HI, rfl⟩, (unhide HB).mono (fun x _ e => by subst e; exact .inr (.inr (.inl rfl))), fun _ h => .inl h⟩
end Go.Proofs.Ytppmgfkpfamabaa
