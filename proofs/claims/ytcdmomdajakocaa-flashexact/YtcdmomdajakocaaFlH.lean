import Derived.Test.YtcdmomdajakocaaFlG
namespace Go.Proofs.Ytcdmomdajakocaa
open Go.RowKit

theorem Fl.drewN {w : World} {p : Nat} {S : Nat → Prop} {s : FlS} (h : Fl w p S s) (k : Nat) : Fl (w.drewN k) p S s := h.later (below_drewN (Below.refl _ _) k)
theorem FSt.undrewN {p : Nat} {S S' : Nat → Prop} {s : FlS} {w w' : World} {k : Nat} (h : FSt p S s (w.drewN k) w' S') : FSt p S s w w' S' := FSt.later (below_drewN (Below.refl _ _) k) h
theorem Sl.Ok.cut {w : World} {a : Option Addr} {n c : Nat} {l : List Int} (h : Sl.Ok w ⟨a, n, c, l⟩) (k : Nat) (hk : k ≤ n) : Sl.Ok w ⟨a, k, c, l.take k⟩ := by
  have h1 : l.length = n := h.len
  have h2 : n ≤ c := h.le
  refine ⟨by simp only [List.length_take]; omega, by simp only; omega, h.mx, fun e => ?_, fun x hx => h.isB x (List.mem_of_mem_take hx), lies_take h.lies k⟩
  obtain ⟨h3, h4⟩ := h.nn e
  simp only at h3 h4
  exact ⟨by simp only; omega, h4⟩
def Sepd (S : Nat → Prop) (d : Sl) : Prop := 0 < d.l.length → ∀ x, d.a = some x → ¬ S x.block

set_option maxHeartbeats 2000000 in
set_option maxRecDepth 100000 in
theorem read_no (p : Nat) (S : Nat → Prop) (s : FlS) (bank : Int) (w : World) (h : Fl w p S s) (hr : s.ref bank ≠ 0) :
    Calls Try.prog 23 #[.pointer (some ⟨p, 0, none⟩), .int .i64 bank] w fun e w' => e = .returned (.tuple #[.slice none 0 0, .int .i64 (s.ref bank)]) ∧ w' = w := by
  have hR := refuses_any p S s bank w h
  obtain ⟨r, er⟩ : ∃ r, r = s.ref bank := ⟨_, rfl⟩
  rw [← er] at hR hr ⊢
  have hr1 : (r != 0) = true := by simpa using hr
  clear er h
  go_enter Try.func23, Try.ntmps23
  go_wp2_with (go_at_call 34; refine hR.mono ?_; rintro e w1 ⟨rfl, rfl⟩)
  go_ret2
  exact ⟨rfl, rfl⟩
set_option maxHeartbeats 2000000 in
set_option maxRecDepth 100000 in
theorem roomX_no (p : Nat) (S : Nat → Prop) (s : FlS) (bank : Int) (w : World) (h : Fl w p S s) (hr : s.ref bank ≠ 0) :
    Calls Try.prog 25 #[.pointer (some ⟨p, 0, none⟩), .int .i64 bank] w fun e w' => e = .returned (.tuple #[.int .i64 0, .int .i64 (s.ref bank)]) ∧ w' = w := by
  have hR := refuses_any p S s bank w h
  obtain ⟨r, er⟩ : ∃ r, r = s.ref bank := ⟨_, rfl⟩
  rw [← er] at hR hr ⊢
  have hr1 : (r != 0) = true := by simpa using hr
  clear er h
  go_enter Try.func25, Try.ntmps25
  go_wp2_with (go_at_call 34; refine hR.mono ?_; rintro e w1 ⟨rfl, rfl⟩)
  go_ret2
  exact ⟨rfl, rfl⟩
set_option maxHeartbeats 2000000 in
set_option maxRecDepth 100000 in
theorem append_no (p : Nat) (S : Nat → Prop) (s : FlS) (bank : Int) (d : Sl) (w : World) (h : Fl w p S s) (hr : s.ref bank ≠ 0) :
    Calls Try.prog 19 #[.pointer (some ⟨p, 0, none⟩), .int .i64 bank, d.v] w (APost p S (s.append bank d.l) w) := by
  have hR := refuses_any p S s bank w h
  have HP : Hid (s.append bank d.l = (s, s.ref bank)) := hide (by unfold FlS.append; rw [if_pos hr])
  rw [unhide HP]
  obtain ⟨r, er⟩ : ∃ r, r = s.ref bank := ⟨_, rfl⟩
  rw [← er] at hR hr ⊢
  have hr1 : (r != 0) = true := by simpa using hr
  have HF := hide h
  clear er h HP
  go_enter Try.func19, Try.ntmps19
  go_wp2_with (go_at_call 34; refine hR.mono ?_; rintro e w1 ⟨rfl, rfl⟩)
  go_ret
  exact ⟨rfl, S, FSt.refl (unhide HF)⟩
set_option maxHeartbeats 2000000 in
set_option maxRecDepth 100000 in
theorem erase_no (p : Nat) (S : Nat → Prop) (s : FlS) (bank : Int) (w : World) (h : Fl w p S s) (hr : s.ref bank ≠ 0) :
    Calls Try.prog 21 #[.pointer (some ⟨p, 0, none⟩), .int .i64 bank] w (APost p S (s.erase bank) w) := by
  have hR := refuses_any p S s bank w h
  have HP : Hid (s.erase bank = (s, s.ref bank)) := hide (by unfold FlS.erase; rw [if_pos hr])
  rw [unhide HP]
  obtain ⟨r, er⟩ : ∃ r, r = s.ref bank := ⟨_, rfl⟩
  rw [← er] at hR hr ⊢
  have hr1 : (r != 0) = true := by simpa using hr
  have HF := hide h
  clear er h HP
  go_enter Try.func21, Try.ntmps21
  go_wp2_with (go_at_call 34; refine hR.mono ?_; rintro e w1 ⟨rfl, rfl⟩)
  go_ret
  exact ⟨rfl, S, FSt.refl (unhide HF)⟩

set_option maxHeartbeats 2000000 in
set_option maxRecDepth 100000 in
theorem read_0 (p : Nat) (S : Nat → Prop) (s : FlS) (w : World) (h : Fl w p S s) (hr : s.ref 0 = 0) :
    Calls Try.prog 23 #[.pointer (some ⟨p, 0, none⟩), .int .i64 0] w fun e w' => ∃ v, e = .returned (.tuple #[v, .int .i64 0]) ∧ OwB w' v s.l0 ∧ (∀ k, v.ownBlock = some k → w.heap.size ≤ k) ∧ Below w.heap.size w w' := by
  have hR := refuses_any p S s 0 w h
  rw [hr] at hR
  have hT := told_0 p S s w h
  clear h hr
  go_enter Try.func23, Try.ntmps23
  go_wp2_with (first | (go_at_call 34; refine hR.mono ?_; rintro e w1 ⟨rfl, rfl⟩) | (go_at_call 33; refine hT.mono ?_; rintro e w1 ⟨v, rfl, h1, h2, h3⟩))
  go_ret2
  exact ⟨v, rfl, h1, h2, h3⟩
set_option maxHeartbeats 2000000 in
set_option maxRecDepth 100000 in
theorem roomX_0 (p : Nat) (S : Nat → Prop) (s : FlS) (w : World) (h : Fl w p S s) (hr : s.ref 0 = 0) :
    Calls Try.prog 25 #[.pointer (some ⟨p, 0, none⟩), .int .i64 0] w fun e w' => e = .returned (.tuple #[.int .i64 (s.size - s.l0.length), .int .i64 0]) ∧ ∃ k, w' = w.drewN k := by
  have hR := refuses_any p S s 0 w h
  rw [hr] at hR
  have hT := room_0 p S s w h
  clear h hr
  go_enter Try.func25, Try.ntmps25
  go_wp2_with (first | (go_at_call 34; refine hR.mono ?_; rintro e w1 ⟨rfl, rfl⟩) | (go_at_call 35; refine hT.mono ?_; rintro e w1 ⟨rfl, k, rfl⟩))
  go_ret2
  exact ⟨rfl, k, rfl⟩
set_option maxHeartbeats 2000000 in
set_option maxRecDepth 100000 in
theorem erase_0 (p : Nat) (S : Nat → Prop) (s : FlS) (w : World) (h : Fl w p S s) (hr : s.ref 0 = 0) (hw : s.wr ≤ 1000000000) :
    Calls Try.prog 21 #[.pointer (some ⟨p, 0, none⟩), .int .i64 0] w (APost p S (s.erase 0) w) := by
  have hR := refuses_any p S s 0 w h
  have hk := cntQ_keep s.q h.ok.qb
  have hW := write_any p S s w h hw
  have HP : Hid (s.erase 0 = if s.write.2.2 then ({ s.write.1 with l0 := if s.write.1.l0.length ≤ s.write.2.1.toNat then [] else tearL s.write.1.l0 s.write.2.1.toNat }, 121) else ({ s.write.1 with l0 := [] }, 0)) := hide (by
    unfold FlS.erase; rw [if_neg (by rw [hr]; simp)]; rfl)
  rw [unhide HP]
  rw [hr] at hR
  have hk2 : 0 ≤ s.write.2.1 ∧ s.write.2.1 ≤ 1048576 := hk
  obtain ⟨⟨s1, kp, cut⟩, es⟩ : ∃ r, r = s.write := ⟨_, rfl⟩
  rw [← es] at hW hk2 ⊢
  simp only at hk2 ⊢
  obtain ⟨K, rfl⟩ : ∃ K : Nat, kp = (K : Int) := ⟨kp.toNat, by omega⟩
  simp only [Int.toNat_natCast] at *
  clear h hr HP es hk
  cases cut
  · go_enter Try.func21, Try.ntmps21
    go_wp2_with (first | (go_at_call 34; refine hR.mono ?_; rintro e w1 ⟨rfl, rfl⟩) | (go_at_call 36; refine hW.mono ?_; rintro e w1 ⟨rfl, S1, ⟨v0, v1, qv, hf1, hS1⟩, hbut, hat⟩; have HA := hide hf1.nil0; have c1 : w1.cell? ⟨p, 1, none⟩ = some v0 := (by simpa using hf1.arr.cell 1); have f1 := hf1.arr.frozen 1; have HB := hide hbut; have HAT := hide hat; have HS1 := hide hS1; have HF1 := hide hf1; clear hf1 hbut hat hS1))
    go_ret
    have hA := unhide HA
    rw [← unhide HS1] at hA
    exact ⟨rfl, _, FSt.trans (S1 := S1) ⟨⟨v0, v1, qv, unhide HF1, unhide HS1⟩, unhide HB, unhide HAT⟩ hA⟩
  · obtain ⟨T, eT⟩ : ∃ T, T = if s1.l0.length ≤ K then [] else tearL s1.l0 K := ⟨_, rfl⟩
    rw [← eT]
    have HT := hide eT
    clear eT
    go_enter Try.func21, Try.ntmps21
    go_wp2_with (first | (go_at_call 34; refine hR.mono ?_; rintro e w1 ⟨rfl, rfl⟩) | (go_at_call 36; refine hW.mono ?_; rintro e w1 ⟨rfl, S1, h1⟩; have hT := tear_0 p S1 s1 K w1 h1.fl (by omega); rw [← unhide HT] at hT) | (go_at_call 42; refine hT.mono ?_; rintro e w2 ⟨rfl, S2, h2⟩))
    go_ret
    exact ⟨rfl, S2, h1.trans h2⟩
set_option maxHeartbeats 2000000 in
set_option maxRecDepth 100000 in
theorem append_0 (p : Nat) (S : Nat → Prop) (s : FlS) (d : Sl) (w : World) (h : Fl w p S s) (hd : d.Ok w) (hS : Sepd S d) (hr : s.ref 0 = 0) (hw : s.wr ≤ 1000000000) :
    Calls Try.prog 19 #[.pointer (some ⟨p, 0, none⟩), .int .i64 0, d.v] w (APost p S (s.append 0 d.l) w) := by
  have hR := refuses_any p S s 0 w h
  have hM := room_0 p S s w h
  have hk := cntQ_keep s.q h.ok.qb
  have hW : ∀ k, Calls Try.prog 36 #[.pointer (some ⟨p, 0, none⟩)] (w.drewN k) (WrPost p S s.write (w.drewN k)) := fun k => write_any p S s (w.drewN k) (h.drewN k) hw
  have HP : Hid (s.append 0 d.l = if s.size < s.l0.length + d.l.length then (s, 122) else if s.write.2.2 then ({ s.write.1 with l0 := s.write.1.l0 ++ d.l.take s.write.2.1.toNat }, 121) else ({ s.write.1 with l0 := s.write.1.l0 ++ d.l }, 0)) := hide (by
    unfold FlS.append; rw [if_neg (by rw [hr]; simp)]; rfl)
  rw [unhide HP]
  rw [hr] at hR
  have hk2 : 0 ≤ s.write.2.1 ∧ s.write.2.1 ≤ 1048576 := hk
  have hwl : s.write.1.l0 = s.l0 ∧ s.write.1.size = s.size := ⟨rfl, rfl⟩
  obtain ⟨⟨s1, kp, cut⟩, es⟩ : ∃ r, r = s.write := ⟨_, rfl⟩
  rw [← es] at hW hk2 hwl ⊢
  simp only at hk2 hwl ⊢
  obtain ⟨K, rfl⟩ : ∃ K : Nat, kp = (K : Int) := ⟨kp.toNat, by omega⟩
  simp only [Int.toNat_natCast] at *
  have z0 := h.ok.z0
  have mx := h.ok.mx
  have HF := hide h
  obtain ⟨da, dn, dc, dl⟩ := d
  have hlen : dl.length = dn := hd.len
  have hle : dn ≤ dc := hd.le
  have hdc : dc ≤ 9223372036854775807 := by have := hd.mx; unfold maxLen at this; exact this
  have HD := hide hd
  obtain ⟨n, hn⟩ : ∃ n, n = s.l0.length := ⟨_, rfl⟩
  obtain ⟨m, hm⟩ : ∃ m, m = s.size := ⟨_, rfl⟩
  have HN := hide hn
  have HM := hide hm
  rw [← hn] at z0 hM ⊢
  rw [← hm] at z0 mx hM ⊢
  have HWL := hide hwl
  have HSep := hide hS
  rw [hlen]
  simp only [Sl.v]
  have hkt : ∀ w1 : World, ∀ S1 : Nat → Prop, FSt p S s1 w1 w1 S1 → True := fun _ _ _ => trivial
  clear h hr HP es hk hd hn hm hwl hS hkt
  by_cases hfull : m < n + dn
  · rw [if_pos hfull]
    have hz : ((m : Int) - (n : Int) < (dn : Int)) := by omega
    go_enter Try.func19, Try.ntmps19
    go_wp2_with (first | (go_at_call 34; refine hR.mono ?_; rintro e w1 ⟨rfl, rfl⟩) | (go_at_call 35; refine hM.mono ?_; rintro e w1 ⟨rfl, k, rfl⟩))
    go_ret
    exact ⟨rfl, S, (FSt.refl ((unhide HF).drewN k)).undrewN⟩
  rw [if_neg hfull]
  have hz : ¬ ((m : Int) - (n : Int) < (dn : Int)) := by omega
  have hz2 : (dn : Int) ≤ (m : Int) - (n : Int) := by omega
  cases cut
  · go_enter Try.func19, Try.ntmps19
    go_wp2_with (first | (go_at_call 34; refine hR.mono ?_; rintro e w1 ⟨rfl, rfl⟩) | (go_at_call 35; refine hM.mono ?_; rintro e w1 ⟨rfl, k, rfl⟩) | (go_at_call 36; refine (hW k).mono ?_; rintro e w1 ⟨rfl, S1, h1⟩; have h1' := h1.undrewN; have hJ := join_0 p S1 s1 ⟨da, dn, dc, dl⟩ w1 h1.fl (h1'.but.ok (unhide HD) (unhide HSep)) (by rw [(unhide HWL).1, (unhide HWL).2, ← unhide HN, ← unhide HM]; simp only; omega); simp only [Sl.v] at hJ) | (go_at_call 37; refine hJ.mono ?_; rintro e w2 ⟨rfl, S2, h2⟩))
    go_ret
    exact ⟨rfl, S2, h1'.trans h2⟩
  · by_cases hkn : K ≤ dn
    · have hkz : ¬ ((dn : Int) < (K : Int)) := by omega
      have hkz2 : (K : Int) ≤ (dn : Int) := by omega
      go_enter Try.func19, Try.ntmps19
      go_wp2_with (first | (go_at_call 34; refine hR.mono ?_; rintro e w1 ⟨rfl, rfl⟩) | (go_at_call 35; refine hM.mono ?_; rintro e w1 ⟨rfl, k, rfl⟩) | (go_at_call 36; refine (hW k).mono ?_; rintro e w1 ⟨rfl, S1, h1⟩; have h1' := h1.undrewN; have hJ := join_0 p S1 s1 ⟨da, K, dc, dl.take K⟩ w1 h1.fl ((h1'.but.ok (unhide HD) (unhide HSep)).cut K (by omega)) (by rw [(unhide HWL).1, (unhide HWL).2, ← unhide HN, ← unhide HM]; simp only; omega); simp only [Sl.v] at hJ) | (go_at_call 37; refine hJ.mono ?_; rintro e w2 ⟨rfl, S2, h2⟩))
      go_ret
      exact ⟨rfl, S2, h1'.trans h2⟩
    · have hkz : (dn : Int) < (K : Int) := by omega
      have HTK : Hid (dl.take K = dl) := hide (List.take_of_length_le (by omega))
      rw [unhide HTK]
      go_enter Try.func19, Try.ntmps19
      go_wp2_with (first | (go_at_call 34; refine hR.mono ?_; rintro e w1 ⟨rfl, rfl⟩) | (go_at_call 35; refine hM.mono ?_; rintro e w1 ⟨rfl, k, rfl⟩) | (go_at_call 36; refine (hW k).mono ?_; rintro e w1 ⟨rfl, S1, h1⟩; have h1' := h1.undrewN; have hJ := join_0 p S1 s1 ⟨da, dn, dc, dl⟩ w1 h1.fl (h1'.but.ok (unhide HD) (unhide HSep)) (by rw [(unhide HWL).1, (unhide HWL).2, ← unhide HN, ← unhide HM]; simp only; omega); simp only [Sl.v] at hJ) | (go_at_call 37; refine hJ.mono ?_; rintro e w2 ⟨rfl, S2, h2⟩))
      go_ret
      exact ⟨rfl, S2, h1'.trans h2⟩

set_option maxHeartbeats 2000000 in
set_option maxRecDepth 100000 in
theorem read_1 (p : Nat) (S : Nat → Prop) (s : FlS) (w : World) (h : Fl w p S s) (hr : s.ref 1 = 0) :
    Calls Try.prog 23 #[.pointer (some ⟨p, 0, none⟩), .int .i64 1] w fun e w' => ∃ v, e = .returned (.tuple #[v, .int .i64 0]) ∧ OwB w' v s.l1 ∧ (∀ k, v.ownBlock = some k → w.heap.size ≤ k) ∧ Below w.heap.size w w' := by
  have hR := refuses_any p S s 1 w h
  rw [hr] at hR
  have hT := told_1 p S s w h
  clear h hr
  go_enter Try.func23, Try.ntmps23
  go_wp2_with (first | (go_at_call 34; refine hR.mono ?_; rintro e w1 ⟨rfl, rfl⟩) | (go_at_call 33; refine hT.mono ?_; rintro e w1 ⟨v, rfl, h1, h2, h3⟩))
  go_ret2
  exact ⟨v, rfl, h1, h2, h3⟩
set_option maxHeartbeats 2000000 in
set_option maxRecDepth 100000 in
theorem roomX_1 (p : Nat) (S : Nat → Prop) (s : FlS) (w : World) (h : Fl w p S s) (hr : s.ref 1 = 0) :
    Calls Try.prog 25 #[.pointer (some ⟨p, 0, none⟩), .int .i64 1] w fun e w' => e = .returned (.tuple #[.int .i64 (s.size - s.l1.length), .int .i64 0]) ∧ ∃ k, w' = w.drewN k := by
  have hR := refuses_any p S s 1 w h
  rw [hr] at hR
  have hT := room_1 p S s w h
  clear h hr
  go_enter Try.func25, Try.ntmps25
  go_wp2_with (first | (go_at_call 34; refine hR.mono ?_; rintro e w1 ⟨rfl, rfl⟩) | (go_at_call 35; refine hT.mono ?_; rintro e w1 ⟨rfl, k, rfl⟩))
  go_ret2
  exact ⟨rfl, k, rfl⟩
set_option maxHeartbeats 2000000 in
set_option maxRecDepth 100000 in
theorem erase_1 (p : Nat) (S : Nat → Prop) (s : FlS) (w : World) (h : Fl w p S s) (hr : s.ref 1 = 0) (hw : s.wr ≤ 1000000000) :
    Calls Try.prog 21 #[.pointer (some ⟨p, 0, none⟩), .int .i64 1] w (APost p S (s.erase 1) w) := by
  have hR := refuses_any p S s 1 w h
  have hk := cntQ_keep s.q h.ok.qb
  have hW := write_any p S s w h hw
  have HP : Hid (s.erase 1 = if s.write.2.2 then ({ s.write.1 with l1 := if s.write.1.l1.length ≤ s.write.2.1.toNat then [] else tearL s.write.1.l1 s.write.2.1.toNat }, 121) else ({ s.write.1 with l1 := [] }, 0)) := hide (by
    unfold FlS.erase; rw [if_neg (by rw [hr]; simp)]; rfl)
  rw [unhide HP]
  rw [hr] at hR
  have hk2 : 0 ≤ s.write.2.1 ∧ s.write.2.1 ≤ 1048576 := hk
  obtain ⟨⟨s1, kp, cut⟩, es⟩ : ∃ r, r = s.write := ⟨_, rfl⟩
  rw [← es] at hW hk2 ⊢
  simp only at hk2 ⊢
  obtain ⟨K, rfl⟩ : ∃ K : Nat, kp = (K : Int) := ⟨kp.toNat, by omega⟩
  simp only [Int.toNat_natCast] at *
  clear h hr HP es hk
  cases cut
  · go_enter Try.func21, Try.ntmps21
    go_wp2_with (first | (go_at_call 34; refine hR.mono ?_; rintro e w1 ⟨rfl, rfl⟩) | (go_at_call 36; refine hW.mono ?_; rintro e w1 ⟨rfl, S1, ⟨v0, v1, qv, hf1, hS1⟩, hbut, hat⟩; have HA := hide hf1.nil1; have c1 : w1.cell? ⟨p, 2, none⟩ = some v1 := (by simpa using hf1.arr.cell 2); have f1 := hf1.arr.frozen 2; have HB := hide hbut; have HAT := hide hat; have HS1 := hide hS1; have HF1 := hide hf1; clear hf1 hbut hat hS1))
    go_ret
    have hA := unhide HA
    rw [← unhide HS1] at hA
    exact ⟨rfl, _, FSt.trans (S1 := S1) ⟨⟨v0, v1, qv, unhide HF1, unhide HS1⟩, unhide HB, unhide HAT⟩ hA⟩
  · obtain ⟨T, eT⟩ : ∃ T, T = if s1.l1.length ≤ K then [] else tearL s1.l1 K := ⟨_, rfl⟩
    rw [← eT]
    have HT := hide eT
    clear eT
    go_enter Try.func21, Try.ntmps21
    go_wp2_with (first | (go_at_call 34; refine hR.mono ?_; rintro e w1 ⟨rfl, rfl⟩) | (go_at_call 36; refine hW.mono ?_; rintro e w1 ⟨rfl, S1, h1⟩; have hT := tear_1 p S1 s1 K w1 h1.fl (by omega); rw [← unhide HT] at hT) | (go_at_call 42; refine hT.mono ?_; rintro e w2 ⟨rfl, S2, h2⟩))
    go_ret
    exact ⟨rfl, S2, h1.trans h2⟩
set_option maxHeartbeats 2000000 in
set_option maxRecDepth 100000 in
theorem append_1 (p : Nat) (S : Nat → Prop) (s : FlS) (d : Sl) (w : World) (h : Fl w p S s) (hd : d.Ok w) (hS : Sepd S d) (hr : s.ref 1 = 0) (hw : s.wr ≤ 1000000000) :
    Calls Try.prog 19 #[.pointer (some ⟨p, 0, none⟩), .int .i64 1, d.v] w (APost p S (s.append 1 d.l) w) := by
  have hR := refuses_any p S s 1 w h
  have hM := room_1 p S s w h
  have hk := cntQ_keep s.q h.ok.qb
  have hW : ∀ k, Calls Try.prog 36 #[.pointer (some ⟨p, 0, none⟩)] (w.drewN k) (WrPost p S s.write (w.drewN k)) := fun k => write_any p S s (w.drewN k) (h.drewN k) hw
  have HP : Hid (s.append 1 d.l = if s.size < s.l1.length + d.l.length then (s, 122) else if s.write.2.2 then ({ s.write.1 with l1 := s.write.1.l1 ++ d.l.take s.write.2.1.toNat }, 121) else ({ s.write.1 with l1 := s.write.1.l1 ++ d.l }, 0)) := hide (by
    unfold FlS.append; rw [if_neg (by rw [hr]; simp)]; rfl)
  rw [unhide HP]
  rw [hr] at hR
  have hk2 : 0 ≤ s.write.2.1 ∧ s.write.2.1 ≤ 1048576 := hk
  have hwl : s.write.1.l1 = s.l1 ∧ s.write.1.size = s.size := ⟨rfl, rfl⟩
  obtain ⟨⟨s1, kp, cut⟩, es⟩ : ∃ r, r = s.write := ⟨_, rfl⟩
  rw [← es] at hW hk2 hwl ⊢
  simp only at hk2 hwl ⊢
  obtain ⟨K, rfl⟩ : ∃ K : Nat, kp = (K : Int) := ⟨kp.toNat, by omega⟩
  simp only [Int.toNat_natCast] at *
  have z0 := h.ok.z1
  have mx := h.ok.mx
  have HF := hide h
  obtain ⟨da, dn, dc, dl⟩ := d
  have hlen : dl.length = dn := hd.len
  have hle : dn ≤ dc := hd.le
  have hdc : dc ≤ 9223372036854775807 := by have := hd.mx; unfold maxLen at this; exact this
  have HD := hide hd
  obtain ⟨n, hn⟩ : ∃ n, n = s.l1.length := ⟨_, rfl⟩
  obtain ⟨m, hm⟩ : ∃ m, m = s.size := ⟨_, rfl⟩
  have HN := hide hn
  have HM := hide hm
  rw [← hn] at z0 hM ⊢
  rw [← hm] at z0 mx hM ⊢
  have HWL := hide hwl
  have HSep := hide hS
  rw [hlen]
  simp only [Sl.v]
  have hkt : ∀ w1 : World, ∀ S1 : Nat → Prop, FSt p S s1 w1 w1 S1 → True := fun _ _ _ => trivial
  clear h hr HP es hk hd hn hm hwl hS hkt
  by_cases hfull : m < n + dn
  · rw [if_pos hfull]
    have hz : ((m : Int) - (n : Int) < (dn : Int)) := by omega
    go_enter Try.func19, Try.ntmps19
    go_wp2_with (first | (go_at_call 34; refine hR.mono ?_; rintro e w1 ⟨rfl, rfl⟩) | (go_at_call 35; refine hM.mono ?_; rintro e w1 ⟨rfl, k, rfl⟩))
    go_ret
    exact ⟨rfl, S, (FSt.refl ((unhide HF).drewN k)).undrewN⟩
  rw [if_neg hfull]
  have hz : ¬ ((m : Int) - (n : Int) < (dn : Int)) := by omega
  have hz2 : (dn : Int) ≤ (m : Int) - (n : Int) := by omega
  cases cut
  · go_enter Try.func19, Try.ntmps19
    go_wp2_with (first | (go_at_call 34; refine hR.mono ?_; rintro e w1 ⟨rfl, rfl⟩) | (go_at_call 35; refine hM.mono ?_; rintro e w1 ⟨rfl, k, rfl⟩) | (go_at_call 36; refine (hW k).mono ?_; rintro e w1 ⟨rfl, S1, h1⟩; have h1' := h1.undrewN; have hJ := join_1 p S1 s1 ⟨da, dn, dc, dl⟩ w1 h1.fl (h1'.but.ok (unhide HD) (unhide HSep)) (by rw [(unhide HWL).1, (unhide HWL).2, ← unhide HN, ← unhide HM]; simp only; omega); simp only [Sl.v] at hJ) | (go_at_call 37; refine hJ.mono ?_; rintro e w2 ⟨rfl, S2, h2⟩))
    go_ret
    exact ⟨rfl, S2, h1'.trans h2⟩
  · by_cases hkn : K ≤ dn
    · have hkz : ¬ ((dn : Int) < (K : Int)) := by omega
      have hkz2 : (K : Int) ≤ (dn : Int) := by omega
      go_enter Try.func19, Try.ntmps19
      go_wp2_with (first | (go_at_call 34; refine hR.mono ?_; rintro e w1 ⟨rfl, rfl⟩) | (go_at_call 35; refine hM.mono ?_; rintro e w1 ⟨rfl, k, rfl⟩) | (go_at_call 36; refine (hW k).mono ?_; rintro e w1 ⟨rfl, S1, h1⟩; have h1' := h1.undrewN; have hJ := join_1 p S1 s1 ⟨da, K, dc, dl.take K⟩ w1 h1.fl ((h1'.but.ok (unhide HD) (unhide HSep)).cut K (by omega)) (by rw [(unhide HWL).1, (unhide HWL).2, ← unhide HN, ← unhide HM]; simp only; omega); simp only [Sl.v] at hJ) | (go_at_call 37; refine hJ.mono ?_; rintro e w2 ⟨rfl, S2, h2⟩))
      go_ret
      exact ⟨rfl, S2, h1'.trans h2⟩
    · have hkz : (dn : Int) < (K : Int) := by omega
      have HTK : Hid (dl.take K = dl) := hide (List.take_of_length_le (by omega))
      rw [unhide HTK]
      go_enter Try.func19, Try.ntmps19
      go_wp2_with (first | (go_at_call 34; refine hR.mono ?_; rintro e w1 ⟨rfl, rfl⟩) | (go_at_call 35; refine hM.mono ?_; rintro e w1 ⟨rfl, k, rfl⟩) | (go_at_call 36; refine (hW k).mono ?_; rintro e w1 ⟨rfl, S1, h1⟩; have h1' := h1.undrewN; have hJ := join_1 p S1 s1 ⟨da, dn, dc, dl⟩ w1 h1.fl (h1'.but.ok (unhide HD) (unhide HSep)) (by rw [(unhide HWL).1, (unhide HWL).2, ← unhide HN, ← unhide HM]; simp only; omega); simp only [Sl.v] at hJ) | (go_at_call 37; refine hJ.mono ?_; rintro e w2 ⟨rfl, S2, h2⟩))
      go_ret
      exact ⟨rfl, S2, h1'.trans h2⟩
end Go.Proofs.Ytcdmomdajakocaa
