import Derived.Test.YtppmgfkpfamabaaQGadZ
set_option maxHeartbeats 2000000
set_option maxRecDepth 100000
namespace Go.Proofs.Ytppmgfkpfamabaa
open Go.RowKit
theorem tearL_len (l : List Int) (k : Nat) (h : k ≤ l.length) : (tearL l k).length = l.length := by simp [tearL]; omega
theorem tearL_zero (l : List Int) : tearL l 0 = l := by simp [tearL]
theorem tearL_set (l : List Int) (k : Nat) (h : k < l.length) : (tearL l k).set k 255 = tearL l (k + 1) := by
  unfold tearL
  rw [List.set_append_right _ _ (by simp), List.length_replicate, Nat.sub_self, List.drop_eq_getElem_cons h, List.set_cons_zero, List.replicate_succ', List.append_assoc]
  rfl
theorem Fls.put0 {w : World} {p g n cap : Nat} {v1 qv : Value} {s : FlS} (h : Fls w p (.slice (some ⟨g, 0, none⟩) n cap) v1 qv s) (hn : n = s.l0.length) (k : Nat) : Fls (w.setCell ⟨g, k, none⟩ (.int .u8 255)) p (.slice (some ⟨g, 0, none⟩) n cap) v1 qv { s with l0 := s.l0.set k 255 } := by
  have bb : Buts (· = g) w (w.setCell ⟨g, k, none⟩ (.int .u8 255)) := Buts.of_but ((But.refl g w).setCell k _)
  have hs := h.o0
  rw [← hn] at hs
  refine ⟨bb.arr h.arr (fun e => h.n0 (by rw [e]; rfl)), ?_, bb.own h.o1 (fun x hx e => h.ne x (by rw [e]; rfl) hx), bb.own h.oq (fun x hx e => h.q0 x hx (by rw [e]; rfl)), h.ne, ?_⟩
  · have := (hs.stored k (.int .u8 255)).1
    simp only [List.length_set]
    rw [← hn]
    rw [show (U8 s.l0).set k (.int .u8 255) = U8 (s.l0.set k 255) by simp [U8, List.map_set]] at this
    exact this
  · have hb : IsB (s.l0.set k 255) := by
      intro x hx
      rcases List.mem_or_eq_of_mem_set hx with hx | rfl
      · exact h.ok.b0 x hx
      · omega
    exact ⟨hb, h.ok.b1, by simpa using h.ok.z0, h.ok.z1, h.ok.mx, h.ok.ql, h.ok.qb⟩
theorem Fls.nil0 {w : World} {p : Nat} {v0 v1 qv : Value} {s : FlS} (h : Fls w p v0 v1 qv s) : FSt p (FSet p v0 v1 qv) { s with l0 := [] } w (w.setCell ⟨p, 1, none⟩ (.slice none 0 0)) (FSet p (.slice none 0 0) v1 qv) := by
  have bb : Buts (· = p) w (w.setCell ⟨p, 1, none⟩ (.slice none 0 0)) := Buts.of_but ((But.refl p w).setCell _ _)
  refine ⟨⟨_, _, _, ⟨h.arr.set 1 (.slice none 0 0), World.ownsRow_nil _ _ _ _, bb.own h.o1 (fun x hx e => h.n1 (by rw [hx, e])), bb.own h.oq (fun x hx e => h.nq (by rw [hx, e])), ?_, ?_⟩, rfl⟩, bb.mono (fun k _ e => .inl e), ?_⟩
  · intro k hk hk'
    simp [Value.ownBlock] at hk hk'
  · exact ⟨fun x hx => by simp at hx, h.ok.b1, by simp, h.ok.z1, h.ok.mx, h.ok.ql, h.ok.qb⟩
  · rintro k (hk | hk | hk | hk)
    · exact .inl (.inl hk)
    · simp [Value.ownBlock] at hk
    · exact .inl (.inr (.inr (.inl hk)))
    · exact .inl (.inr (.inr (.inr hk)))
theorem tear_0 (p : Nat) (S : Nat → Prop) (s : FlS) (K : Nat) (w : World) (h : Fl w p S s) (hK : K ≤ 1048576) :
    Calls Try.prog 114 #[.pointer (some ⟨p, 0, none⟩), .int .i64 0, .int .i64 K] w fun e w' => e = .returned (.tuple #[]) ∧ ∃ S', FSt p S { s with l0 := if s.l0.length ≤ K then [] else tearL s.l0 K } w w' S' := by
  obtain ⟨v0, v1, qv, hf, rfl⟩ := h
  obtain ⟨n, hn⟩ : ∃ n, n = s.l0.length := ⟨_, rfl⟩
  by_cases hc : n ≤ K
  · have HE : Hid ((if s.l0.length ≤ K then [] else tearL s.l0 K) = []) := hide (by rw [← hn, if_pos hc])
    rw [unhide HE]
    have HR := hide hf.nil0
    obtain ⟨a0, b0, rfl⟩ := own_parts hf.o0
    rw [← hn] at hf HR ⊢
    have c1 : w.cell? ⟨p, 1, none⟩ = some (.slice a0 n b0) := by simpa using hf.arr.cell 1
    have f1 := hf.arr.frozen 1
    have hcz : (n : Int) ≤ (K : Int) := by omega
    clear hf hn
    go_enter Try.func114, Try.ntmps114
    go_wp2
    refine bodyPost_ret (results_none rfl _ _ _) rfl ?_
    exact ⟨rfl, _, unhide HR⟩
  · have HE : Hid ((if s.l0.length ≤ K then [] else tearL s.l0 K) = tearL s.l0 K) := hide (by rw [← hn, if_neg hc])
    rw [unhide HE]
    obtain ⟨g, cap, hv⟩ := own_some hf.o0 (by omega)
    rw [← hn] at hv
    subst hv
    have hz := hf.ok.z0
    have hmx := hf.ok.mx
    have hn1 : n ≤ 1048576 := by omega
    have c1 : w.cell? ⟨p, 1, none⟩ = some (.slice (some ⟨g, 0, none⟩) n cap) := by simpa using hf.arr.cell 1
    have hcz : ¬ (n : Int) ≤ (K : Int) := by omega
    have HF := hide hf
    have HN := hide hn
    have hgp : g ≠ p := fun e => hf.n0 (by rw [e]; rfl)
    clear hf hn hz hmx
    go_enter Try.func114, Try.ntmps114
    go_wp2_with fail
    go_loopw [6, 22] (fun v i wr => ∃ k : Nat, k ≤ K ∧ i = .int .i64 k ∧ Hid (Fls wr p (.slice (some ⟨g, 0, none⟩) n cap) v1 qv { s with l0 := tearL s.l0 k }) ∧ Hid (Buts (· = g) w wr)) (fun v i _ => K - (intOf i).toNat)
    case atStart => exact ⟨0, by omega, rfl, hide (by rw [tearL_zero]; exact unhide HF), hide (Buts.refl _ _)⟩
    case round =>
      obtain ⟨k, hk, rfl, HI, HB⟩ := hrel
      by_cases hlt : k < K
      · have hI := unhide HI
        have hkn : k < n := by omega
        have hkz : (k : Int) < (K : Int) := by omega
        have hkz2 : (k : Int) < (n : Int) := by omega
        have c1' : wr.cell? ⟨p, 1, none⟩ = some (.slice (some ⟨g, 0, none⟩) n cap) := by simpa using hI.arr.cell 1
        have hl : (tearL s.l0 k).length = n := by rw [tearL_len _ _ (by rw [← unhide HN]; omega), ← unhide HN]
        have hst := hI.put0 hl.symm k
        have ho := hI.o0
        simp only at ho hst
        rw [hl] at ho
        have c2 : wr.cell? ⟨g, k, none⟩ = some (.int .u8 ((tearL s.l0 k).getD k 0)) := by rw [ho.cellAt k (by omega), U8_at _ _ (by rw [hl]; exact hkn)]
        obtain ⟨x, hx⟩ : ∃ x, (tearL s.l0 k).getD k 0 = x := ⟨_, rfl⟩
        rw [hx] at c2
        have f2 := ho.frozenAt k
        rw [tearL_set _ _ (by rw [← unhide HN]; exact hkn)] at hst
        have HST := hide hst
        clear hst ho hI hx hl
        go_wp2
        go_roundw
        case rel => exact ⟨k + 1, by omega, by go_num, HST, hide ((unhide HB).trans (Buts.of_but ((But.refl g wr).setCell k _)))⟩
        case measure => simp [intOf]; omega
      · obtain rfl : k = K := by omega
        have hkd : decide ((k : Int) < (k : Int)) = false := by simp
        go_wp2
        go_end0
        exact ⟨rfl, _, ⟨_, _, _, unhide HI, rfl⟩, (unhide HB).mono (fun x _ e => by subst e; exact .inr (.inl rfl)), fun _ h => .inl h⟩
theorem Fls.put1 {w : World} {p g n cap : Nat} {v0 qv : Value} {s : FlS} (h : Fls w p v0 (.slice (some ⟨g, 0, none⟩) n cap) qv s) (hn : n = s.l1.length) (k : Nat) : Fls (w.setCell ⟨g, k, none⟩ (.int .u8 255)) p v0 (.slice (some ⟨g, 0, none⟩) n cap) qv { s with l1 := s.l1.set k 255 } := by
  have bb : Buts (· = g) w (w.setCell ⟨g, k, none⟩ (.int .u8 255)) := Buts.of_but ((But.refl g w).setCell k _)
  have hs := h.o1
  rw [← hn] at hs
  refine ⟨bb.arr h.arr (fun e => h.n1 (by rw [e]; rfl)), bb.own h.o0 (fun x hx e => h.ne x hx (by rw [e]; rfl)), ?_, bb.own h.oq (fun x hx e => h.q1 x hx (by rw [e]; rfl)), h.ne, ?_⟩
  · have := (hs.stored k (.int .u8 255)).1
    simp only [List.length_set]
    rw [← hn]
    rw [show (U8 s.l1).set k (.int .u8 255) = U8 (s.l1.set k 255) by simp [U8, List.map_set]] at this
    exact this
  · have hb : IsB (s.l1.set k 255) := by
      intro x hx
      rcases List.mem_or_eq_of_mem_set hx with hx | rfl
      · exact h.ok.b1 x hx
      · omega
    exact ⟨h.ok.b0, hb, h.ok.z0, by simpa using h.ok.z1, h.ok.mx, h.ok.ql, h.ok.qb⟩
theorem Fls.nil1 {w : World} {p : Nat} {v0 v1 qv : Value} {s : FlS} (h : Fls w p v0 v1 qv s) : FSt p (FSet p v0 v1 qv) { s with l1 := [] } w (w.setCell ⟨p, 2, none⟩ (.slice none 0 0)) (FSet p v0 (.slice none 0 0) qv) := by
  have bb : Buts (· = p) w (w.setCell ⟨p, 2, none⟩ (.slice none 0 0)) := Buts.of_but ((But.refl p w).setCell _ _)
  refine ⟨⟨_, _, _, ⟨h.arr.set 2 (.slice none 0 0), bb.own h.o0 (fun x hx e => h.n0 (by rw [hx, e])), World.ownsRow_nil _ _ _ _, bb.own h.oq (fun x hx e => h.nq (by rw [hx, e])), ?_, ?_⟩, rfl⟩, bb.mono (fun k _ e => .inl e), ?_⟩
  · intro k hk hk'
    simp [Value.ownBlock] at hk hk'
  · exact ⟨h.ok.b0, fun x hx => by simp at hx, h.ok.z0, by simp, h.ok.mx, h.ok.ql, h.ok.qb⟩
  · rintro k (hk | hk | hk | hk)
    · exact .inl (.inl hk)
    · exact .inl (.inr (.inl hk))
    · simp [Value.ownBlock] at hk
    · exact .inl (.inr (.inr (.inr hk)))
theorem tear_1 (p : Nat) (S : Nat → Prop) (s : FlS) (K : Nat) (w : World) (h : Fl w p S s) (hK : K ≤ 1048576) :
    Calls Try.prog 114 #[.pointer (some ⟨p, 0, none⟩), .int .i64 1, .int .i64 K] w fun e w' => e = .returned (.tuple #[]) ∧ ∃ S', FSt p S { s with l1 := if s.l1.length ≤ K then [] else tearL s.l1 K } w w' S' := by
  obtain ⟨v0, v1, qv, hf, rfl⟩ := h
  obtain ⟨n, hn⟩ : ∃ n, n = s.l1.length := ⟨_, rfl⟩
  by_cases hc : n ≤ K
  · have HE : Hid ((if s.l1.length ≤ K then [] else tearL s.l1 K) = []) := hide (by rw [← hn, if_pos hc])
    rw [unhide HE]
    have HR := hide hf.nil1
    obtain ⟨a0, b0, rfl⟩ := own_parts hf.o1
    rw [← hn] at hf HR ⊢
    have c1 : w.cell? ⟨p, 2, none⟩ = some (.slice a0 n b0) := by simpa using hf.arr.cell 2
    have f1 := hf.arr.frozen 2
    have hcz : (n : Int) ≤ (K : Int) := by omega
    clear hf hn
    go_enter Try.func114, Try.ntmps114
    go_wp2
    refine bodyPost_ret (results_none rfl _ _ _) rfl ?_
    exact ⟨rfl, _, unhide HR⟩
  · have HE : Hid ((if s.l1.length ≤ K then [] else tearL s.l1 K) = tearL s.l1 K) := hide (by rw [← hn, if_neg hc])
    rw [unhide HE]
    obtain ⟨g, cap, hv⟩ := own_some hf.o1 (by omega)
    rw [← hn] at hv
    subst hv
    have hz := hf.ok.z1
    have hmx := hf.ok.mx
    have hn1 : n ≤ 1048576 := by omega
    have c1 : w.cell? ⟨p, 2, none⟩ = some (.slice (some ⟨g, 0, none⟩) n cap) := by simpa using hf.arr.cell 2
    have hcz : ¬ (n : Int) ≤ (K : Int) := by omega
    have HF := hide hf
    have HN := hide hn
    have hgp : g ≠ p := fun e => hf.n1 (by rw [e]; rfl)
    clear hf hn hz hmx
    go_enter Try.func114, Try.ntmps114
    go_wp2_with fail
    go_loopw [6, 22] (fun v i wr => ∃ k : Nat, k ≤ K ∧ i = .int .i64 k ∧ Hid (Fls wr p v0 (.slice (some ⟨g, 0, none⟩) n cap) qv { s with l1 := tearL s.l1 k }) ∧ Hid (Buts (· = g) w wr)) (fun v i _ => K - (intOf i).toNat)
    case atStart => exact ⟨0, by omega, rfl, hide (by rw [tearL_zero]; exact unhide HF), hide (Buts.refl _ _)⟩
    case round =>
      obtain ⟨k, hk, rfl, HI, HB⟩ := hrel
      by_cases hlt : k < K
      · have hI := unhide HI
        have hkn : k < n := by omega
        have hkz : (k : Int) < (K : Int) := by omega
        have hkz2 : (k : Int) < (n : Int) := by omega
        have c1' : wr.cell? ⟨p, 2, none⟩ = some (.slice (some ⟨g, 0, none⟩) n cap) := by simpa using hI.arr.cell 2
        have hl : (tearL s.l1 k).length = n := by rw [tearL_len _ _ (by rw [← unhide HN]; omega), ← unhide HN]
        have hst := hI.put1 hl.symm k
        have ho := hI.o1
        simp only at ho hst
        rw [hl] at ho
        have c2 : wr.cell? ⟨g, k, none⟩ = some (.int .u8 ((tearL s.l1 k).getD k 0)) := by rw [ho.cellAt k (by omega), U8_at _ _ (by rw [hl]; exact hkn)]
        obtain ⟨x, hx⟩ : ∃ x, (tearL s.l1 k).getD k 0 = x := ⟨_, rfl⟩
        rw [hx] at c2
        have f2 := ho.frozenAt k
        rw [tearL_set _ _ (by rw [← unhide HN]; exact hkn)] at hst
        have HST := hide hst
        clear hst ho hI hx hl
        go_wp2
        go_roundw
        case rel => exact ⟨k + 1, by omega, by go_num, HST, hide ((unhide HB).trans (Buts.of_but ((But.refl g wr).setCell k _)))⟩
        case measure => simp [intOf]; omega
      · obtain rfl : k = K := by omega
        have hkd : decide ((k : Int) < (k : Int)) = false := by simp
        go_wp2
        go_end0
        exact ⟨rfl, _, ⟨_, _, _, unhide HI, rfl⟩, (unhide HB).mono (fun x _ e => by subst e; exact .inr (.inr (.inl rfl))), fun _ h => .inl h⟩
theorem Fl.drewN {w : World} {p : Nat} {S : Nat → Prop} {s : FlS} (h : Fl w p S s) (k : Nat) : Fl (w.drewN k) p S s := h.later (below_drewN (Below.refl _ _) k)
theorem FSt.undrewN {p : Nat} {S S' : Nat → Prop} {s : FlS} {w w' : World} {k : Nat} (h : FSt p S s (w.drewN k) w' S') : FSt p S s w w' S' := FSt.later (below_drewN (Below.refl _ _) k) h
theorem Sl.Ok.cut {w : World} {a : Option Addr} {n c : Nat} {l : List Int} (h : Sl.Ok w ⟨a, n, c, l⟩) (k : Nat) (hk : k ≤ n) : Sl.Ok w ⟨a, k, c, l.take k⟩ := by
  have h1 : l.length = n := h.len
  have h2 : n ≤ c := h.le
  refine ⟨by simp only [List.length_take]; omega, by simp only; omega, h.mx, fun e => ?_, fun x hx => h.isB x (List.mem_of_mem_take hx), lies_take h.lies k⟩
  obtain ⟨h3, h4⟩ := h.nn e
  simp only at h3 h4
  exact ⟨by simp only; omega, h4⟩
def Sepd (S : Nat → Prop) (d : Sl) : Prop := 0 < d.l.length → ∀ x, d.a = some x → ¬ S x.block
theorem read_no (p : Nat) (S : Nat → Prop) (s : FlS) (bank : Int) (w : World) (h : Fl w p S s) (hr : s.ref bank ≠ 0) :
    Calls Try.prog 108 #[.pointer (some ⟨p, 0, none⟩), .int .i64 bank] w fun e w' => e = .returned (.tuple #[.slice none 0 0, .int .i64 (s.ref bank)]) ∧ w' = w := by
  have hR := refuses_any p S s bank w h
  obtain ⟨r, er⟩ : ∃ r, r = s.ref bank := ⟨_, rfl⟩
  rw [← er] at hR hr ⊢
  have hr1 : (r != 0) = true := by simpa using hr
  clear er h
  go_enter Try.func108, Try.ntmps108
  go_wp2_with (go_at_call 110; refine hR.mono ?_; rintro e w1 ⟨rfl, rfl⟩)
  go_ret2
  exact ⟨rfl, rfl⟩
theorem roomX_no (p : Nat) (S : Nat → Prop) (s : FlS) (bank : Int) (w : World) (h : Fl w p S s) (hr : s.ref bank ≠ 0) :
    Calls Try.prog 109 #[.pointer (some ⟨p, 0, none⟩), .int .i64 bank] w fun e w' => e = .returned (.tuple #[.int .i64 0, .int .i64 (s.ref bank)]) ∧ w' = w := by
  have hR := refuses_any p S s bank w h
  obtain ⟨r, er⟩ : ∃ r, r = s.ref bank := ⟨_, rfl⟩
  rw [← er] at hR hr ⊢
  have hr1 : (r != 0) = true := by simpa using hr
  clear er h
  go_enter Try.func109, Try.ntmps109
  go_wp2_with (go_at_call 110; refine hR.mono ?_; rintro e w1 ⟨rfl, rfl⟩)
  go_ret2
  exact ⟨rfl, rfl⟩
theorem append_no (p : Nat) (S : Nat → Prop) (s : FlS) (bank : Int) (d : Sl) (w : World) (h : Fl w p S s) (hr : s.ref bank ≠ 0) :
    Calls Try.prog 105 #[.pointer (some ⟨p, 0, none⟩), .int .i64 bank, d.v] w (APost p S (s.append bank d.l) w) := by
  have hR := refuses_any p S s bank w h
  have HP : Hid (s.append bank d.l = (s, s.ref bank)) := hide (by unfold FlS.append; rw [if_pos hr])
  rw [unhide HP]
  obtain ⟨r, er⟩ : ∃ r, r = s.ref bank := ⟨_, rfl⟩
  rw [← er] at hR hr ⊢
  have hr1 : (r != 0) = true := by simpa using hr
  have HF := hide h
  clear er h HP
  go_enter Try.func105, Try.ntmps105
  go_wp2_with (go_at_call 110; refine hR.mono ?_; rintro e w1 ⟨rfl, rfl⟩)
  go_ret
  exact ⟨rfl, S, FSt.refl (unhide HF)⟩
theorem erase_no (p : Nat) (S : Nat → Prop) (s : FlS) (bank : Int) (w : World) (h : Fl w p S s) (hr : s.ref bank ≠ 0) :
    Calls Try.prog 107 #[.pointer (some ⟨p, 0, none⟩), .int .i64 bank] w (APost p S (s.erase bank) w) := by
  have hR := refuses_any p S s bank w h
  have HP : Hid (s.erase bank = (s, s.ref bank)) := hide (by unfold FlS.erase; rw [if_pos hr])
  rw [unhide HP]
  obtain ⟨r, er⟩ : ∃ r, r = s.ref bank := ⟨_, rfl⟩
  rw [← er] at hR hr ⊢
  have hr1 : (r != 0) = true := by simpa using hr
  have HF := hide h
  clear er h HP
  go_enter Try.func107, Try.ntmps107
  go_wp2_with (go_at_call 110; refine hR.mono ?_; rintro e w1 ⟨rfl, rfl⟩)
  go_ret
  exact ⟨rfl, S, FSt.refl (unhide HF)⟩
theorem read_0 (p : Nat) (S : Nat → Prop) (s : FlS) (w : World) (h : Fl w p S s) (hr : s.ref 0 = 0) :
    Calls Try.prog 108 #[.pointer (some ⟨p, 0, none⟩), .int .i64 0] w fun e w' => ∃ v, e = .returned (.tuple #[v, .int .i64 0]) ∧ OwB w' v s.l0 ∧ (∀ k, v.ownBlock = some k → w.heap.size ≤ k) ∧ Below w.heap.size w w' := by
  have hR := refuses_any p S s 0 w h
  rw [hr] at hR
  have hT := told_0 p S s w h
  clear h hr
  go_enter Try.func108, Try.ntmps108
  go_wp2_with (first | (go_at_call 110; refine hR.mono ?_; rintro e w1 ⟨rfl, rfl⟩) | (go_at_call 27; refine hT.mono ?_; rintro e w1 ⟨v, rfl, h1, h2, h3⟩))
  go_ret2
  exact ⟨v, rfl, h1, h2, h3⟩
theorem roomX_0 (p : Nat) (S : Nat → Prop) (s : FlS) (w : World) (h : Fl w p S s) (hr : s.ref 0 = 0) :
    Calls Try.prog 109 #[.pointer (some ⟨p, 0, none⟩), .int .i64 0] w fun e w' => e = .returned (.tuple #[.int .i64 (s.size - s.l0.length), .int .i64 0]) ∧ ∃ k, w' = w.drewN k := by
  have hR := refuses_any p S s 0 w h
  rw [hr] at hR
  have hT := room_0 p S s w h
  clear h hr
  go_enter Try.func109, Try.ntmps109
  go_wp2_with (first | (go_at_call 110; refine hR.mono ?_; rintro e w1 ⟨rfl, rfl⟩) | (go_at_call 111; refine hT.mono ?_; rintro e w1 ⟨rfl, k, rfl⟩))
  go_ret2
  exact ⟨rfl, k, rfl⟩
theorem erase_0 (p : Nat) (S : Nat → Prop) (s : FlS) (w : World) (h : Fl w p S s) (hr : s.ref 0 = 0) (hw : s.wr ≤ 4000000000000000000) :
    Calls Try.prog 107 #[.pointer (some ⟨p, 0, none⟩), .int .i64 0] w (APost p S (s.erase 0) w) := by
  have hR := refuses_any p S s 0 w h
  have hk := cntQ_keep s.q h.ok.qb
  have hW := write_any p S s w h hw
  have HP : Hid (s.erase 0 = if s.write.2.2 then ({ s.write.1 with l0 := if s.write.1.l0.length ≤ s.write.2.1.toNat then [] else tearL s.write.1.l0 s.write.2.1.toNat }, 121) else ({ s.write.1 with l0 := [] }, 0)) := hide (by
    unfold FlS.erase; rw [if_neg (by rw [hr]; simp)]; rfl)
  rw [unhide HP]
  rw [hr] at hR
  have hk2 : 0 ≤ s.write.2.1 ∧ s.write.2.1 ≤ 1048576 := hk
  obtain ⟨⟨s1, kp, cut⟩, es⟩ : ∃ r, r = s.write := ⟨_, rfl⟩
  rw [← es] at hW hk2 ⊢
  simp only at hk2 ⊢
  obtain ⟨K, rfl⟩ : ∃ K : Nat, kp = (K : Int) := ⟨kp.toNat, by omega⟩
  simp only [Int.toNat_natCast] at *
  clear h hr HP es hk
  cases cut
  · go_enter Try.func107, Try.ntmps107
    go_wp2_with (first | (go_at_call 110; refine hR.mono ?_; rintro e w1 ⟨rfl, rfl⟩) | (go_at_call 112; refine hW.mono ?_; rintro e w1 ⟨rfl, S1, ⟨v0, v1, qv, hf1, hS1⟩, hbut, hat⟩; have HA := hide hf1.nil0; have c1 : w1.cell? ⟨p, 1, none⟩ = some v0 := (by simpa using hf1.arr.cell 1); have f1 := hf1.arr.frozen 1; have HB := hide hbut; have HAT := hide hat; have HS1 := hide hS1; have HF1 := hide hf1; clear hf1 hbut hat hS1))
    go_ret
    have hA := unhide HA
    rw [← unhide HS1] at hA
    exact ⟨rfl, _, FSt.trans (S1 := S1) ⟨⟨v0, v1, qv, unhide HF1, unhide HS1⟩, unhide HB, unhide HAT⟩ hA⟩
  · obtain ⟨T, eT⟩ : ∃ T, T = if s1.l0.length ≤ K then [] else tearL s1.l0 K := ⟨_, rfl⟩
    rw [← eT]
    have HT := hide eT
    clear eT
    go_enter Try.func107, Try.ntmps107
    go_wp2_with (first | (go_at_call 110; refine hR.mono ?_; rintro e w1 ⟨rfl, rfl⟩) | (go_at_call 112; refine hW.mono ?_; rintro e w1 ⟨rfl, S1, h1⟩; have hT := tear_0 p S1 s1 K w1 h1.fl (by omega); rw [← unhide HT] at hT) | (go_at_call 114; refine hT.mono ?_; rintro e w2 ⟨rfl, S2, h2⟩))
    go_ret
    exact ⟨rfl, S2, h1.trans h2⟩
theorem append_0 (p : Nat) (S : Nat → Prop) (s : FlS) (d : Sl) (w : World) (h : Fl w p S s) (hd : d.Ok w) (hS : Sepd S d) (hr : s.ref 0 = 0) (hw : s.wr ≤ 4000000000000000000) :
    Calls Try.prog 105 #[.pointer (some ⟨p, 0, none⟩), .int .i64 0, d.v] w (APost p S (s.append 0 d.l) w) := by
  have hR := refuses_any p S s 0 w h
  have hM := room_0 p S s w h
  have hk := cntQ_keep s.q h.ok.qb
  have hW : ∀ k, Calls Try.prog 112 #[.pointer (some ⟨p, 0, none⟩)] (w.drewN k) (WrPost p S s.write (w.drewN k)) := fun k => write_any p S s (w.drewN k) (h.drewN k) hw
  have HP : Hid (s.append 0 d.l = if s.size < s.l0.length + d.l.length then (s, 122) else if s.write.2.2 then ({ s.write.1 with l0 := s.write.1.l0 ++ d.l.take s.write.2.1.toNat }, 121) else ({ s.write.1 with l0 := s.write.1.l0 ++ d.l }, 0)) := hide (by
    unfold FlS.append; rw [if_neg (by rw [hr]; simp)]; rfl)
  rw [unhide HP]
  rw [hr] at hR
  have hk2 : 0 ≤ s.write.2.1 ∧ s.write.2.1 ≤ 1048576 := hk
  have hwl : s.write.1.l0 = s.l0 ∧ s.write.1.size = s.size := ⟨rfl, rfl⟩
  obtain ⟨⟨s1, kp, cut⟩, es⟩ : ∃ r, r = s.write := ⟨_, rfl⟩
  rw [← es] at hW hk2 hwl ⊢
  simp only at hk2 hwl ⊢
  obtain ⟨K, rfl⟩ : ∃ K : Nat, kp = (K : Int) := ⟨kp.toNat, by omega⟩
  simp only [Int.toNat_natCast] at *
  have z0 := h.ok.z0
  have mx := h.ok.mx
  have HF := hide h
  obtain ⟨da, dn, dc, dl⟩ := d
  have hlen : dl.length = dn := hd.len
  have hle : dn ≤ dc := hd.le
  have hdc : dc ≤ 9223372036854775807 := by have := hd.mx; unfold maxLen at this; exact this
  have HD := hide hd
  obtain ⟨n, hn⟩ : ∃ n, n = s.l0.length := ⟨_, rfl⟩
  obtain ⟨m, hm⟩ : ∃ m, m = s.size := ⟨_, rfl⟩
  have HN := hide hn
  have HM := hide hm
  rw [← hn] at z0 hM ⊢
  rw [← hm] at z0 mx hM ⊢
  have HWL := hide hwl
  have HSep := hide hS
  rw [hlen]
  simp only [Sl.v]
  have hkt : ∀ w1 : World, ∀ S1 : Nat → Prop, FSt p S s1 w1 w1 S1 → True := fun _ _ _ => trivial
  clear h hr HP es hk hd hn hm hwl hS hkt
  by_cases hfull : m < n + dn
  · rw [if_pos hfull]
    have hz : ((m : Int) - (n : Int) < (dn : Int)) := by omega
    go_enter Try.func105, Try.ntmps105
    go_wp2_with (first | (go_at_call 110; refine hR.mono ?_; rintro e w1 ⟨rfl, rfl⟩) | (go_at_call 111; refine hM.mono ?_; rintro e w1 ⟨rfl, k, rfl⟩))
    go_ret
    exact ⟨rfl, S, (FSt.refl ((unhide HF).drewN k)).undrewN⟩
  rw [if_neg hfull]
  have hz : ¬ ((m : Int) - (n : Int) < (dn : Int)) := by omega
  have hz2 : (dn : Int) ≤ (m : Int) - (n : Int) := by omega
  cases cut
  · go_enter Try.func105, Try.ntmps105
    go_wp2_with (first | (go_at_call 110; refine hR.mono ?_; rintro e w1 ⟨rfl, rfl⟩) | (go_at_call 111; refine hM.mono ?_; rintro e w1 ⟨rfl, k, rfl⟩) | (go_at_call 112; refine (hW k).mono ?_; rintro e w1 ⟨rfl, S1, h1⟩; have h1' := h1.undrewN; have hJ := join_0 p S1 s1 ⟨da, dn, dc, dl⟩ w1 h1.fl (h1'.but.ok (unhide HD) (unhide HSep)) (by rw [(unhide HWL).1, (unhide HWL).2, ← unhide HN, ← unhide HM]; simp only; omega); simp only [Sl.v] at hJ) | (go_at_call 113; refine hJ.mono ?_; rintro e w2 ⟨rfl, S2, h2⟩))
    go_ret
    exact ⟨rfl, S2, h1'.trans h2⟩
  · by_cases hkn : K ≤ dn
    · have hkz : ¬ ((dn : Int) < (K : Int)) := by omega
      have hkz2 : (K : Int) ≤ (dn : Int) := by omega
      go_enter Try.func105, Try.ntmps105
      go_wp2_with (first | (go_at_call 110; refine hR.mono ?_; rintro e w1 ⟨rfl, rfl⟩) | (go_at_call 111; refine hM.mono ?_; rintro e w1 ⟨rfl, k, rfl⟩) | (go_at_call 112; refine (hW k).mono ?_; rintro e w1 ⟨rfl, S1, h1⟩; have h1' := h1.undrewN; have hJ := join_0 p S1 s1 ⟨da, K, dc, dl.take K⟩ w1 h1.fl ((h1'.but.ok (unhide HD) (unhide HSep)).cut K (by omega)) (by rw [(unhide HWL).1, (unhide HWL).2, ← unhide HN, ← unhide HM]; simp only; omega); simp only [Sl.v] at hJ) | (go_at_call 113; refine hJ.mono ?_; rintro e w2 ⟨rfl, S2, h2⟩))
      go_ret
      exact ⟨rfl, S2, h1'.trans h2⟩
    · have hkz : (dn : Int) < (K : Int) := by omega
      have HTK : Hid (dl.take K = dl) := hide (List.take_of_length_le (by omega))
      rw [unhide HTK]
      go_enter Try.func105, Try.ntmps105
      go_wp2_with (first | (go_at_call 110; refine hR.mono ?_; rintro e w1 ⟨rfl, rfl⟩) | (go_at_call 111; refine hM.mono ?_; rintro e w1 ⟨rfl, k, rfl⟩) | (go_at_call 112; refine (hW k).mono ?_; rintro e w1 ⟨rfl, S1, h1⟩; have h1' := h1.undrewN; have hJ := join_0 p S1 s1 ⟨da, dn, dc, dl⟩ w1 h1.fl (h1'.but.ok (unhide HD) (unhide HSep)) (by rw [(unhide HWL).1, (unhide HWL).2, ← unhide HN, ← unhide HM]; simp only; omega); simp only [Sl.v] at hJ) | (go_at_call 113; refine hJ.mono ?_; rintro e w2 ⟨rfl, S2, h2⟩))
      go_ret
      exact ⟨rfl, S2, h1'.trans h2⟩
theorem read_1 (p : Nat) (S : Nat → Prop) (s : FlS) (w : World) (h : Fl w p S s) (hr : s.ref 1 = 0) :
    Calls Try.prog 108 #[.pointer (some ⟨p, 0, none⟩), .int .i64 1] w fun e w' => ∃ v, e = .returned (.tuple #[v, .int .i64 0]) ∧ OwB w' v s.l1 ∧ (∀ k, v.ownBlock = some k → w.heap.size ≤ k) ∧ Below w.heap.size w w' := by
  have hR := refuses_any p S s 1 w h
  rw [hr] at hR
  have hT := told_1 p S s w h
  clear h hr
  go_enter Try.func108, Try.ntmps108
  go_wp2_with (first | (go_at_call 110; refine hR.mono ?_; rintro e w1 ⟨rfl, rfl⟩) | (go_at_call 27; refine hT.mono ?_; rintro e w1 ⟨v, rfl, h1, h2, h3⟩))
  go_ret2
  exact ⟨v, rfl, h1, h2, h3⟩
theorem roomX_1 (p : Nat) (S : Nat → Prop) (s : FlS) (w : World) (h : Fl w p S s) (hr : s.ref 1 = 0) :
    Calls Try.prog 109 #[.pointer (some ⟨p, 0, none⟩), .int .i64 1] w fun e w' => e = .returned (.tuple #[.int .i64 (s.size - s.l1.length), .int .i64 0]) ∧ ∃ k, w' = w.drewN k := by
  have hR := refuses_any p S s 1 w h
  rw [hr] at hR
  have hT := room_1 p S s w h
  clear h hr
  go_enter Try.func109, Try.ntmps109
  go_wp2_with (first | (go_at_call 110; refine hR.mono ?_; rintro e w1 ⟨rfl, rfl⟩) | (go_at_call 111; refine hT.mono ?_; rintro e w1 ⟨rfl, k, rfl⟩))
  go_ret2
  exact ⟨rfl, k, rfl⟩
theorem erase_1 (p : Nat) (S : Nat → Prop) (s : FlS) (w : World) (h : Fl w p S s) (hr : s.ref 1 = 0) (hw : s.wr ≤ 4000000000000000000) :
    Calls Try.prog 107 #[.pointer (some ⟨p, 0, none⟩), .int .i64 1] w (APost p S (s.erase 1) w) := by
  have hR := refuses_any p S s 1 w h
  have hk := cntQ_keep s.q h.ok.qb
  have hW := write_any p S s w h hw
  have HP : Hid (s.erase 1 = if s.write.2.2 then ({ s.write.1 with l1 := if s.write.1.l1.length ≤ s.write.2.1.toNat then [] else tearL s.write.1.l1 s.write.2.1.toNat }, 121) else ({ s.write.1 with l1 := [] }, 0)) := hide (by
    unfold FlS.erase; rw [if_neg (by rw [hr]; simp)]; rfl)
  rw [unhide HP]
  rw [hr] at hR
  have hk2 : 0 ≤ s.write.2.1 ∧ s.write.2.1 ≤ 1048576 := hk
  obtain ⟨⟨s1, kp, cut⟩, es⟩ : ∃ r, r = s.write := ⟨_, rfl⟩
  rw [← es] at hW hk2 ⊢
  simp only at hk2 ⊢
  obtain ⟨K, rfl⟩ : ∃ K : Nat, kp = (K : Int) := ⟨kp.toNat, by omega⟩
  simp only [Int.toNat_natCast] at *
  clear h hr HP es hk
  cases cut
  · go_enter Try.func107, Try.ntmps107
    go_wp2_with (first | (go_at_call 110; refine hR.mono ?_; rintro e w1 ⟨rfl, rfl⟩) | (go_at_call 112; refine hW.mono ?_; rintro e w1 ⟨rfl, S1, ⟨v0, v1, qv, hf1, hS1⟩, hbut, hat⟩; have HA := hide hf1.nil1; have c1 : w1.cell? ⟨p, 2, none⟩ = some v1 := (by simpa using hf1.arr.cell 2); have f1 := hf1.arr.frozen 2; have HB := hide hbut; have HAT := hide hat; have HS1 := hide hS1; have HF1 := hide hf1; clear hf1 hbut hat hS1))
    go_ret
    have hA := unhide HA
    rw [← unhide HS1] at hA
    exact ⟨rfl, _, FSt.trans (S1 := S1) ⟨⟨v0, v1, qv, unhide HF1, unhide HS1⟩, unhide HB, unhide HAT⟩ hA⟩
  · obtain ⟨T, eT⟩ : ∃ T, T = if s1.l1.length ≤ K then [] else tearL s1.l1 K := ⟨_, rfl⟩
    rw [← eT]
    have HT := hide eT
    clear eT
    go_enter Try.func107, Try.ntmps107
    go_wp2_with (first | (go_at_call 110; refine hR.mono ?_; rintro e w1 ⟨rfl, rfl⟩) | (go_at_call 112; refine hW.mono ?_; rintro e w1 ⟨rfl, S1, h1⟩; have hT := tear_1 p S1 s1 K w1 h1.fl (by omega); rw [← unhide HT] at hT) | (go_at_call 114; refine hT.mono ?_; rintro e w2 ⟨rfl, S2, h2⟩))
    go_ret
    exact ⟨rfl, S2, h1.trans h2⟩
theorem append_1 (p : Nat) (S : Nat → Prop) (s : FlS) (d : Sl) (w : World) (h : Fl w p S s) (hd : d.Ok w) (hS : Sepd S d) (hr : s.ref 1 = 0) (hw : s.wr ≤ 4000000000000000000) :
    Calls Try.prog 105 #[.pointer (some ⟨p, 0, none⟩), .int .i64 1, d.v] w (APost p S (s.append 1 d.l) w) := by
  have hR := refuses_any p S s 1 w h
  have hM := room_1 p S s w h
  have hk := cntQ_keep s.q h.ok.qb
  have hW : ∀ k, Calls Try.prog 112 #[.pointer (some ⟨p, 0, none⟩)] (w.drewN k) (WrPost p S s.write (w.drewN k)) := fun k => write_any p S s (w.drewN k) (h.drewN k) hw
  have HP : Hid (s.append 1 d.l = if s.size < s.l1.length + d.l.length then (s, 122) else if s.write.2.2 then ({ s.write.1 with l1 := s.write.1.l1 ++ d.l.take s.write.2.1.toNat }, 121) else ({ s.write.1 with l1 := s.write.1.l1 ++ d.l }, 0)) := hide (by
    unfold FlS.append; rw [if_neg (by rw [hr]; simp)]; rfl)
  rw [unhide HP]
  rw [hr] at hR
  have hk2 : 0 ≤ s.write.2.1 ∧ s.write.2.1 ≤ 1048576 := hk
  have hwl : s.write.1.l1 = s.l1 ∧ s.write.1.size = s.size := ⟨rfl, rfl⟩
  obtain ⟨⟨s1, kp, cut⟩, es⟩ : ∃ r, r = s.write := ⟨_, rfl⟩
  rw [← es] at hW hk2 hwl ⊢
  simp only at hk2 hwl ⊢
  obtain ⟨K, rfl⟩ : ∃ K : Nat, kp = (K : Int) := ⟨kp.toNat, by omega⟩
  simp only [Int.toNat_natCast] at *
  have z0 := h.ok.z1
  have mx := h.ok.mx
  have HF := hide h
  obtain ⟨da, dn, dc, dl⟩ := d
  have hlen : dl.length = dn := hd.len
  have hle : dn ≤ dc := hd.le
  have hdc : dc ≤ 9223372036854775807 := by have := hd.mx; unfold maxLen at this; exact this
  have HD := hide hd
  obtain ⟨n, hn⟩ : ∃ n, n = s.l1.length := ⟨_, rfl⟩
  obtain ⟨m, hm⟩ : ∃ m, m = s.size := ⟨_, rfl⟩
  have HN := hide hn
  have HM := hide hm
  rw [← hn] at z0 hM ⊢
  rw [← hm] at z0 mx hM ⊢
  have HWL := hide hwl
  have HSep := hide hS
  rw [hlen]
  simp only [Sl.v]
  have hkt : ∀ w1 : World, ∀ S1 : Nat → Prop, FSt p S s1 w1 w1 S1 → True := fun _ _ _ => trivial
  clear h hr HP es hk hd hn hm hwl hS hkt
  by_cases hfull : m < n + dn
  · rw [if_pos hfull]
    have hz : ((m : Int) - (n : Int) < (dn : Int)) := by omega
    go_enter Try.func105, Try.ntmps105
    go_wp2_with (first | (go_at_call 110; refine hR.mono ?_; rintro e w1 ⟨rfl, rfl⟩) | (go_at_call 111; refine hM.mono ?_; rintro e w1 ⟨rfl, k, rfl⟩))
    go_ret
    exact ⟨rfl, S, (FSt.refl ((unhide HF).drewN k)).undrewN⟩
  rw [if_neg hfull]
  have hz : ¬ ((m : Int) - (n : Int) < (dn : Int)) := by omega
  have hz2 : (dn : Int) ≤ (m : Int) - (n : Int) := by omega
  cases cut
  · go_enter Try.func105, Try.ntmps105
    go_wp2_with (first | (go_at_call 110; refine hR.mono ?_; rintro e w1 ⟨rfl, rfl⟩) | (go_at_call 111; refine hM.mono ?_; rintro e w1 ⟨rfl, k, rfl⟩) | (go_at_call 112; refine (hW k).mono ?_; rintro e w1 ⟨rfl, S1, h1⟩; have h1' := h1.undrewN; have hJ := join_1 p S1 s1 ⟨da, dn, dc, dl⟩ w1 h1.fl (h1'.but.ok (unhide HD) (unhide HSep)) (by rw [(unhide HWL).1, (unhide HWL).2, ← unhide HN, ← unhide HM]; simp only; omega); simp only [Sl.v] at hJ) | (go_at_call 113; refine hJ.mono ?_; rintro e w2 ⟨rfl, S2, h2⟩))
    go_ret
    exact ⟨rfl, S2, h1'.trans h2⟩
  · by_cases hkn : K ≤ dn
    · have hkz : ¬ ((dn : Int) < (K : Int)) := by omega
      have hkz2 : (K : Int) ≤ (dn : Int) := by omega
      go_enter Try.func105, Try.ntmps105
      go_wp2_with (first | (go_at_call 110; refine hR.mono ?_; rintro e w1 ⟨rfl, rfl⟩) | (go_at_call 111; refine hM.mono ?_; rintro e w1 ⟨rfl, k, rfl⟩) | (go_at_call 112; refine (hW k).mono ?_; rintro e w1 ⟨rfl, S1, h1⟩; have h1' := h1.undrewN; have hJ := join_1 p S1 s1 ⟨da, K, dc, dl.take K⟩ w1 h1.fl ((h1'.but.ok (unhide HD) (unhide HSep)).cut K (by omega)) (by rw [(unhide HWL).1, (unhide HWL).2, ← unhide HN, ← unhide HM]; simp only; omega); simp only [Sl.v] at hJ) | (go_at_call 113; refine hJ.mono ?_; rintro e w2 ⟨rfl, S2, h2⟩))
      go_ret
      exact ⟨rfl, S2, h1'.trans h2⟩
    · have hkz : (dn : Int) < (K : Int) := by omega
      have HTK : Hid (dl.take K = dl) := hide (List.take_of_length_le (by omega))
      rw [unhide HTK]
      go_enter Try.func105, Try.ntmps105
      go_wp2_with (first | (go_at_call 110; refine hR.mono ?_; rintro e w1 ⟨rfl, rfl⟩) | (go_at_call 111; refine hM.mono ?_; rintro e w1 ⟨rfl, k, rfl⟩) | (go_at_call 112; refine (hW k).mono ?_; rintro e w1 ⟨rfl, S1, h1⟩; have h1' := h1.undrewN; have hJ := join_1 p S1 s1 ⟨da, dn, dc, dl⟩ w1 h1.fl (h1'.but.ok (unhide HD) (unhide HSep)) (by rw [(unhide HWL).1, (unhide HWL).2, ← unhide HN, ← unhide HM]; simp only; omega); simp only [Sl.v] at hJ) | (go_at_call 113; refine hJ.mono ?_; rintro e w2 ⟨rfl, S2, h2⟩))
      go_ret
      exact ⟨rfl, S2, h1'.trans h2⟩
end Go.Proofs.Ytppmgfkpfamabaa
