import Derived.Test.YtppmgfkpfamabaaQFlG
set_option maxHeartbeats 2000000
set_option maxRecDepth 100000
namespace Go.Proofs.Ytppmgfkpfamabaa
open Go.RowKit
theorem Fl.drewN {w : World} {p : Nat} {S : Nat → Prop} {s : FlS} (h : Fl w p S s) (k : Nat) : Fl (w.drewN k) p S s := h.later (below_drewN (Below.refl _ _) k)
theorem FSt.undrewN {p : Nat} {S S' : Nat → Prop} {s : FlS} {w w' : World} {k : Nat} (h : FSt p S s (w.drewN k) w' S') : FSt p S s w w' S' := FSt.later (below_drewN (Below.refl _ _) k) h
theorem Sl.Ok.cut {w : World} {a : Option Addr} {n c : Nat} {l : List Int} (h : Sl.Ok w ⟨a, n, c, l⟩) (k : Nat) (hk : k ≤ n) : Sl.Ok w ⟨a, k, c, l.take k⟩ := by
  have h1 : l.length = n := h.len
  have h2 : n ≤ c := h.le
  refine ⟨by simp only [List.length_take]; omega, by simp only; omega, h.mx, fun e => ?_, fun x hx => h.isB x (List.mem_of_mem_take hx), lies_take h.lies k⟩
  obtain ⟨h3, h4⟩ := h.nn e
  simp only at h3 h4
  exact ⟨by simp only; omega, h4⟩
def Sepd (S : Nat → Prop) (d : Sl) : Prop := 0 < d.l.length → ∀ x, d.a = some x → ¬ S x.block
theorem read_no (p : Nat) (S : Nat → Prop) (s : FlS) (bank : Int) (w : World) (h : Fl w p S s) (hr : s.ref bank ≠ 0) :
    Calls Try.prog 108 #[.pointer (some ⟨p, 0, none⟩), .int .i64 bank] w fun e w' => e = .returned (.tuple #[.slice none 0 0, .int .i64 (s.ref bank)]) ∧ w' = w := by
  have hR := refuses_any p S s bank w h
  obtain ⟨r, er⟩ : ∃ r, r = s.ref bank := ⟨_, rfl⟩
  rw [← er] at hR hr ⊢
  have hr1 : (r != 0) = true := by simpa using hr
  clear er h
  go_enter Try.func108, Try.ntmps108
  go_wp2_with (go_at_call 110; refine hR.mono ?_; rintro e w1 ⟨rfl, rfl⟩)
  go_ret2
  exact ⟨rfl, rfl⟩
theorem roomX_no (p : Nat) (S : Nat → Prop) (s : FlS) (bank : Int) (w : World) (h : Fl w p S s) (hr : s.ref bank ≠ 0) :
    Calls Try.prog 109 #[.pointer (some ⟨p, 0, none⟩), .int .i64 bank] w fun e w' => e = .returned (.tuple #[.int .i64 0, .int .i64 (s.ref bank)]) ∧ w' = w := by
  have hR := refuses_any p S s bank w h
  obtain ⟨r, er⟩ : ∃ r, r = s.ref bank := ⟨_, rfl⟩
  rw [← er] at hR hr ⊢
  have hr1 : (r != 0) = true := by simpa using hr
  clear er h
  go_enter Try.func109, Try.ntmps109
  go_wp2_with (go_at_call 110; refine hR.mono ?_; rintro e w1 ⟨rfl, rfl⟩)
  go_ret2
  exact ⟨rfl, rfl⟩
theorem append_no (p : Nat) (S : Nat → Prop) (s : FlS) (bank : Int) (d : Sl) (w : World) (h : Fl w p S s) (hr : s.ref bank ≠ 0) :
    Calls Try.prog 105 #[.pointer (some ⟨p, 0, none⟩), .int .i64 bank, d.v] w (APost p S (s.append bank d.l) w) := by
  have hR := refuses_any p S s bank w h
  have HP : Hid (s.append bank d.l = (s, s.ref bank)) := hide (by unfold FlS.append; rw [if_pos hr])
  rw [unhide HP]
  obtain ⟨r, er⟩ : ∃ r, r = s.ref bank := ⟨_, rfl⟩
  rw [← er] at hR hr ⊢
  have hr1 : (r != 0) = true := by simpa using hr
  have HF := hide h
  clear er h HP
  go_enter Try.func105, Try.ntmps105
  go_wp2_with (go_at_call 110; refine hR.mono ?_; rintro e w1 ⟨rfl, rfl⟩)
  go_ret
  exact ⟨rfl, S, FSt.refl (unhide HF)⟩
theorem erase_no (p : Nat) (S : Nat → Prop) (s : FlS) (bank : Int) (w : World) (h : Fl w p S s) (hr : s.ref bank ≠ 0) :
    Calls Try.prog 107 #[.pointer (some ⟨p, 0, none⟩), .int .i64 bank] w (APost p S (s.erase bank) w) := by
  have hR := refuses_any p S s bank w h
  have HP : Hid (s.erase bank = (s, s.ref bank)) := hide (by unfold FlS.erase; rw [if_pos hr])
  rw [unhide HP]
  obtain ⟨r, er⟩ : ∃ r, r = s.ref bank := ⟨_, rfl⟩
  rw [← er] at hR hr ⊢
  have hr1 : (r != 0) = true := by simpa using hr
  have HF := hide h
  clear er h HP
  go_enter Try.func107, Try.ntmps107
  go_wp2_with (go_at_call 110; refine hR.mono ?_; rintro e w1 ⟨rfl, rfl⟩)
  go_ret
  exact ⟨rfl, S, FSt.refl (unhide HF)⟩
theorem read_0 (p : Nat) (S : Nat → Prop) (s : FlS) (w : World) (h : Fl w p S s) (hr : s.ref 0 = 0) :
    Calls Try.prog 108 #[.pointer (some ⟨p, 0, none⟩), .int .i64 0] w fun e w' => ∃ v, e = .returned (.tuple #[v, .int .i64 0]) ∧ OwB w' v s.l0 ∧ (∀ k, v.ownBlock = some k → w.heap.size ≤ k) ∧ Below w.heap.size w w' := by
  have hR := refuses_any p S s 0 w h
  rw [hr] at hR
  have hT := told_0 p S s w h
  clear h hr
  go_enter Try.func108, Try.ntmps108
  go_wp2_with (first | (go_at_call 110; refine hR.mono ?_; rintro e w1 ⟨rfl, rfl⟩) | (go_at_call 27; refine hT.mono ?_; rintro e w1 ⟨v, rfl, h1, h2, h3⟩))
  go_ret2
  exact ⟨v, rfl, h1, h2, h3⟩
theorem roomX_0 (p : Nat) (S : Nat → Prop) (s : FlS) (w : World) (h : Fl w p S s) (hr : s.ref 0 = 0) :
    Calls Try.prog 109 #[.pointer (some ⟨p, 0, none⟩), .int .i64 0] w fun e w' => e = .returned (.tuple #[.int .i64 (s.size - s.l0.length), .int .i64 0]) ∧ ∃ k, w' = w.drewN k := by
  have hR := refuses_any p S s 0 w h
  rw [hr] at hR
  have hT := room_0 p S s w h
  clear h hr
  go_enter Try.func109, Try.ntmps109
  go_wp2_with (first | (go_at_call 110; refine hR.mono ?_; rintro e w1 ⟨rfl, rfl⟩) | (go_at_call 111; refine hT.mono ?_; rintro e w1 ⟨rfl, k, rfl⟩))
  go_ret2
  exact ⟨rfl, k, rfl⟩
theorem erase_0 (p : Nat) (S : Nat → Prop) (s : FlS) (w : World) (h : Fl w p S s) (hr : s.ref 0 = 0) (hw : s.wr ≤ 4000000000000000000) :
    Calls Try.prog 107 #[.pointer (some ⟨p, 0, none⟩), .int .i64 0] w (APost p S (s.erase 0) w) := by
  have hR := refuses_any p S s 0 w h
  have hk := cntQ_keep s.q h.ok.qb
  have hW := write_any p S s w h hw
  have HP : Hid (s.erase 0 = if s.write.2.2 then ({ s.write.1 with l0 := if s.write.1.l0.length ≤ s.write.2.1.toNat then [] else tearL s.write.1.l0 s.write.2.1.toNat }, 121) else ({ s.write.1 with l0 := [] }, 0)) := hide (by
    unfold FlS.erase; rw [if_neg (by rw [hr]; simp)]; rfl)
  rw [unhide HP]
  rw [hr] at hR
  have hk2 : 0 ≤ s.write.2.1 ∧ s.write.2.1 ≤ 1048576 := hk
  obtain ⟨⟨s1, kp, cut⟩, es⟩ : ∃ r, r = s.write := ⟨_, rfl⟩
  rw [← es] at hW hk2 ⊢
  simp only at hk2 ⊢
  obtain ⟨K, rfl⟩ : ∃ K : Nat, kp = (K : Int) := ⟨kp.toNat, by omega⟩
  simp only [Int.toNat_natCast] at *
  clear h hr HP es hk
  cases cut
  · go_enter Try.func107, Try.ntmps107
    go_wp2_with (first | (go_at_call 110; refine hR.mono ?_; rintro e w1 ⟨rfl, rfl⟩) | (go_at_call 112; refine hW.mono ?_; rintro e w1 ⟨rfl, S1, ⟨v0, v1, qv, hf1, hS1⟩, hbut, hat⟩; have HA := hide hf1.nil0; have c1 : w1.cell? ⟨p, 1, none⟩ = some v0 := (by simpa using hf1.arr.cell 1); have f1 := hf1.arr.frozen 1; have HB := hide hbut; have HAT := hide hat; have HS1 := hide hS1; have HF1 := hide hf1; clear hf1 hbut hat hS1))
    go_ret
    have hA := unhide HA
    rw [← unhide HS1] at hA
    exact ⟨rfl, _, FSt.trans (S1 := S1) ⟨⟨v0, v1, qv, unhide HF1, unhide HS1⟩, unhide HB, unhide HAT⟩ hA⟩
  · obtain ⟨T, eT⟩ : ∃ T, T = if s1.l0.length ≤ K then [] else tearL s1.l0 K := ⟨_, rfl⟩
    rw [← eT]
    have HT := hide eT
    clear eT
    go_enter Try.func107, Try.ntmps107
    go_wp2_with (first | (go_at_call 110; refine hR.mono ?_; rintro e w1 ⟨rfl, rfl⟩) | (go_at_call 112; refine hW.mono ?_; rintro e w1 ⟨rfl, S1, h1⟩; have hT := tear_0 p S1 s1 K w1 h1.fl (by omega); rw [← unhide HT] at hT) | (go_at_call 114; refine hT.mono ?_; rintro e w2 ⟨rfl, S2, h2⟩))
    go_ret
    exact ⟨rfl, S2, h1.trans h2⟩
theorem append_0 (p : Nat) (S : Nat → Prop) (s : FlS) (d : Sl) (w : World) (h : Fl w p S s) (hd : d.Ok w) (hS : Sepd S d) (hr : s.ref 0 = 0) (hw : s.wr ≤ 4000000000000000000) :
    Calls Try.prog 105 #[.pointer (some ⟨p, 0, none⟩), .int .i64 0, d.v] w (APost p S (s.append 0 d.l) w) := by
  have hR := refuses_any p S s 0 w h
  have hM := room_0 p S s w h
  have hk := cntQ_keep s.q h.ok.qb
  have hW : ∀ k, Calls Try.prog 112 #[.pointer (some ⟨p, 0, none⟩)] (w.drewN k) (WrPost p S s.write (w.drewN k)) := fun k => write_any p S s (w.drewN k) (h.drewN k) hw
  have HP : Hid (s.append 0 d.l = if s.size < s.l0.length + d.l.length then (s, 122) else if s.write.2.2 then ({ s.write.1 with l0 := s.write.1.l0 ++ d.l.take s.write.2.1.toNat }, 121) else ({ s.write.1 with l0 := s.write.1.l0 ++ d.l }, 0)) := hide (by
    unfold FlS.append; rw [if_neg (by rw [hr]; simp)]; rfl)
  rw [unhide HP]
  rw [hr] at hR
  have hk2 : 0 ≤ s.write.2.1 ∧ s.write.2.1 ≤ 1048576 := hk
  have hwl : s.write.1.l0 = s.l0 ∧ s.write.1.size = s.size := ⟨rfl, rfl⟩
  obtain ⟨⟨s1, kp, cut⟩, es⟩ : ∃ r, r = s.write := ⟨_, rfl⟩
  rw [← es] at hW hk2 hwl ⊢
  simp only at hk2 hwl ⊢
  obtain ⟨K, rfl⟩ : ∃ K : Nat, kp = (K : Int) := ⟨kp.toNat, by omega⟩
  simp only [Int.toNat_natCast] at *
  have z0 := h.ok.z0
  have mx := h.ok.mx
  have HF := hide h
  obtain ⟨da, dn, dc, dl⟩ := d
  have hlen : dl.length = dn := hd.len
  have hle : dn ≤ dc := hd.le
  have hdc : dc ≤ 9223372036854775807 := by have := hd.mx; unfold maxLen at this; exact this
  have HD := hide hd
  obtain ⟨n, hn⟩ : ∃ n, n = s.l0.length := ⟨_, rfl⟩
  obtain ⟨m, hm⟩ : ∃ m, m = s.size := ⟨_, rfl⟩
  have HN := hide hn
  have HM := hide hm
  rw [← hn] at z0 hM ⊢
  rw [← hm] at z0 mx hM ⊢
  have HWL := hide hwl
  have HSep := hide hS
  rw [hlen]
  simp only [Sl.v]
  have hkt : ∀ w1 : World, ∀ S1 : Nat → Prop, FSt p S s1 w1 w1 S1 → True := fun _ _ _ => trivial
  clear h hr HP es hk hd hn hm hwl hS hkt
  by_cases hfull : m < n + dn
  · rw [if_pos hfull]
    have hz : ((m : Int) - (n : Int) < (dn : Int)) := by omega
    go_enter Try.func105, Try.ntmps105
    go_wp2_with (first | (go_at_call 110; refine hR.mono ?_; rintro e w1 ⟨rfl, rfl⟩) | (go_at_call 111; refine hM.mono ?_; rintro e w1 ⟨rfl, k, rfl⟩))
    go_ret
    exact ⟨rfl, S, (FSt.refl ((unhide HF).drewN k)).undrewN⟩
  rw [if_neg hfull]
  have hz : ¬ ((m : Int) - (n : Int) < (dn : Int)) := by omega
  have hz2 : (dn : Int) ≤ (m : Int) - (n : Int) := by omega
  cases cut
  · go_enter Try.func105, Try.ntmps105
    go_wp2_with (first | (go_at_call 110; refine hR.mono ?_; rintro e w1 ⟨rfl, rfl⟩) | (go_at_call 111; refine hM.mono ?_; rintro e w1 ⟨rfl, k, rfl⟩) | (go_at_call 112; refine (hW k).mono ?_; rintro e w1 ⟨rfl, S1, h1⟩; have h1' := h1.undrewN; have hJ := join_0 p S1 s1 ⟨da, dn, dc, dl⟩ w1 h1.fl (h1'.but.ok (unhide HD) (unhide HSep)) (by rw [(unhide HWL).1, (unhide HWL).2, ← unhide HN, ← unhide HM]; simp only; omega); simp only [Sl.v] at hJ) | (go_at_call 113; refine hJ.mono ?_; rintro e w2 ⟨rfl, S2, h2⟩))
    go_ret
    exact ⟨rfl, S2, h1'.trans h2⟩
  · by_cases hkn : K ≤ dn
    · have hkz : ¬ ((dn : Int) < (K : Int)) := by omega
      have hkz2 : (K : Int) ≤ (dn : Int) := by omega
      go_enter Try.func105, Try.ntmps105
      go_wp2_with (first | (go_at_call 110; refine hR.mono ?_; rintro e w1 ⟨rfl, rfl⟩) | (go_at_call 111; refine hM.mono ?_; rintro e w1 ⟨rfl, k, rfl⟩) | (go_at_call 112; refine (hW k).mono ?_; rintro e w1 ⟨rfl, S1, h1⟩; have h1' := h1.undrewN; have hJ := join_0 p S1 s1 ⟨da, K, dc, dl.take K⟩ w1 h1.fl ((h1'.but.ok (unhide HD) (unhide HSep)).cut K (by omega)) (by rw [(unhide HWL).1, (unhide HWL).2, ← unhide HN, ← unhide HM]; simp only; omega); simp only [Sl.v] at hJ) | (go_at_call 113; refine hJ.mono ?_; rintro e w2 ⟨rfl, S2, h2⟩))
      go_ret
      exact ⟨rfl, S2, h1'.trans h2⟩
    · have hkz : (dn : Int) < (K : Int) := by omega
      have HTK : Hid (dl.take K = dl) := hide (List.take_of_length_le (by omega))
      rw [unhide HTK]
      go_enter Try.func105, Try.ntmps105
      go_wp2_with (first | (go_at_call 110; refine hR.mono ?_; rintro e w1 ⟨rfl, rfl⟩) | (go_at_call 111; refine hM.mono ?_; rintro e w1 ⟨rfl, k, rfl⟩) | (go_at_call 112; refine (hW k).mono ?_; rintro e w1 ⟨rfl, S1, h1⟩; have h1' := h1.undrewN; have hJ := join_0 p S1 s1 ⟨da, dn, dc, dl⟩ w1 h1.fl (h1'.but.ok (unhide HD) (unhide HSep)) (by rw [(unhide HWL).1, (unhide HWL).2, ← unhide HN, ← unhide HM]; simp only; omega); simp only [Sl.v] at hJ) | (go_at_call 113; refine hJ.mono ?_; rintro e w2 ⟨rfl, S2, h2⟩))
      go_ret
      exact ⟨rfl, S2, h1'.trans h2⟩
theorem read_1 (p : Nat) (S : Nat → Prop) (s : FlS) (w : World) (h : Fl w p S s) (hr : s.ref 1 = 0) :
    Calls Try.prog 108 #[.pointer (some ⟨p, 0, none⟩), .int .i64 1] w fun e w' => ∃ v, e = .returned (.tuple #[v, .int .i64 0]) ∧ OwB w' v s.l1 ∧ (∀ k, v.ownBlock = some k → w.heap.size ≤ k) ∧ Below w.heap.size w w' := by
  have hR := refuses_any p S s 1 w h
  rw [hr] at hR
  have hT := told_1 p S s w h
  clear h hr
  go_enter Try.func108, Try.ntmps108
  go_wp2_with (first | (go_at_call 110; refine hR.mono ?_; rintro e w1 ⟨rfl, rfl⟩) | (go_at_call 27; refine hT.mono ?_; rintro e w1 ⟨v, rfl, h1, h2, h3⟩))
  go_ret2
  exact ⟨v, rfl, h1, h2, h3⟩
theorem roomX_1 (p : Nat) (S : Nat → Prop) (s : FlS) (w : World) (h : Fl w p S s) (hr : s.ref 1 = 0) :
    Calls Try.prog 109 #[.pointer (some ⟨p, 0, none⟩), .int .i64 1] w fun e w' => e = .returned (.tuple #[.int .i64 (s.size - s.l1.length), .int .i64 0]) ∧ ∃ k, w' = w.drewN k := by
  have hR := refuses_any p S s 1 w h
  rw [hr] at hR
  have hT := room_1 p S s w h
  clear h hr
  go_enter Try.func109, Try.ntmps109
  go_wp2_with (first | (go_at_call 110; refine hR.mono ?_; rintro e w1 ⟨rfl, rfl⟩) | (go_at_call 111; refine hT.mono ?_; rintro e w1 ⟨rfl, k, rfl⟩))
  go_ret2
  exact ⟨rfl, k, rfl⟩
theorem erase_1 (p : Nat) (S : Nat → Prop) (s : FlS) (w : World) (h : Fl w p S s) (hr : s.ref 1 = 0) (hw : s.wr ≤ 4000000000000000000) :
    Calls Try.prog 107 #[.pointer (some ⟨p, 0, none⟩), .int .i64 1] w (APost p S (s.erase 1) w) := by
  have hR := refuses_any p S s 1 w h
  have hk := cntQ_keep s.q h.ok.qb
  have hW := write_any p S s w h hw
  have HP : Hid (s.erase 1 = if s.write.2.2 then ({ s.write.1 with l1 := if s.write.1.l1.length ≤ s.write.2.1.toNat then [] else tearL s.write.1.l1 s.write.2.1.toNat }, 121) else ({ s.write.1 with l1 := [] }, 0)) := hide (by
    unfold FlS.erase; rw [if_neg (by rw [hr]; simp)]; rfl)
  rw [unhide HP]
  rw [hr] at hR
  have hk2 : 0 ≤ s.write.2.1 ∧ s.write.2.1 ≤ 1048576 := hk
  obtain ⟨⟨s1, kp, cut⟩, es⟩ : ∃ r, r = s.write := ⟨_, rfl⟩
  rw [← es] at hW hk2 ⊢
  simp only at hk2 ⊢
  obtain ⟨K, rfl⟩ : ∃ K : Nat, kp = (K : Int) := ⟨kp.toNat, by omega⟩
  simp only [Int.toNat_natCast] at *
  clear h hr HP es hk
  cases cut
  · go_enter Try.func107, Try.ntmps107
    go_wp2_with (first | (go_at_call 110; refine hR.mono ?_; rintro e w1 ⟨rfl, rfl⟩) | (go_at_call 112; refine hW.mono ?_; rintro e w1 ⟨rfl, S1, ⟨v0, v1, qv, hf1, hS1⟩, hbut, hat⟩; have HA := hide hf1.nil1; have c1 : w1.cell? ⟨p, 2, none⟩ = some v1 := (by simpa using hf1.arr.cell 2); have f1 := hf1.arr.frozen 2; have HB := hide hbut; have HAT := hide hat; have HS1 := hide hS1; have HF1 := hide hf1; clear hf1 hbut hat hS1))
    go_ret
    have hA := unhide HA
    rw [← unhide HS1] at hA
    exact ⟨rfl, _, FSt.trans (S1 := S1) ⟨⟨v0, v1, qv, unhide HF1, unhide HS1⟩, unhide HB, unhide HAT⟩ hA⟩
  · obtain ⟨T, eT⟩ : ∃ T, T = if s1.l1.length ≤ K then [] else tearL s1.l1 K := ⟨_, rfl⟩
    rw [← eT]
    have HT := hide eT
    clear eT
    go_enter Try.func107, Try.ntmps107
    go_wp2_with (first | (go_at_call 110; refine hR.mono ?_; rintro e w1 ⟨rfl, rfl⟩) | (go_at_call 112; refine hW.mono ?_; rintro e w1 ⟨rfl, S1, h1⟩; have hT := tear_1 p S1 s1 K w1 h1.fl (by omega); rw [← unhide HT] at hT) | (go_at_call 114; refine hT.mono ?_; rintro e w2 ⟨rfl, S2, h2⟩))
    go_ret
    exact ⟨rfl, S2, h1.trans h2⟩
theorem append_1 (p : Nat) (S : Nat → Prop) (s : FlS) (d : Sl) (w : World) (h : Fl w p S s) (hd : d.Ok w) (hS : Sepd S d) (hr : s.ref 1 = 0) (hw : s.wr ≤ 4000000000000000000) :
    Calls Try.prog 105 #[.pointer (some ⟨p, 0, none⟩), .int .i64 1, d.v] w (APost p S (s.append 1 d.l) w) := by
  have hR := refuses_any p S s 1 w h
  have hM := room_1 p S s w h
  have hk := cntQ_keep s.q h.ok.qb
  have hW : ∀ k, Calls Try.prog 112 #[.pointer (some ⟨p, 0, none⟩)] (w.drewN k) (WrPost p S s.write (w.drewN k)) := fun k => write_any p S s (w.drewN k) (h.drewN k) hw
  have HP : Hid (s.append 1 d.l = if s.size < s.l1.length + d.l.length then (s, 122) else if s.write.2.2 then ({ s.write.1 with l1 := s.write.1.l1 ++ d.l.take s.write.2.1.toNat }, 121) else ({ s.write.1 with l1 := s.write.1.l1 ++ d.l }, 0)) := hide (by
    unfold FlS.append; rw [if_neg (by rw [hr]; simp)]; rfl)
  rw [unhide HP]
  rw [hr] at hR
  have hk2 : 0 ≤ s.write.2.1 ∧ s.write.2.1 ≤ 1048576 := hk
  have hwl : s.write.1.l1 = s.l1 ∧ s.write.1.size = s.size := ⟨rfl, rfl⟩
  obtain ⟨⟨s1, kp, cut⟩, es⟩ : ∃ r, r = s.write := ⟨_, rfl⟩
  rw [← es] at hW hk2 hwl ⊢
  simp only at hk2 hwl ⊢
  obtain ⟨K, rfl⟩ : ∃ K : Nat, kp = (K : Int) := ⟨kp.toNat, by omega⟩
  simp only [Int.toNat_natCast] at *
  have z0 := h.ok.z1
  have mx := h.ok.mx
  have HF := hide h
  obtain ⟨da, dn, dc, dl⟩ := d
  have hlen : dl.length = dn := hd.len
  have hle : dn ≤ dc := hd.le
  have hdc : dc ≤ 9223372036854775807 := by have := hd.mx; unfold maxLen at this; exact this
  have HD := hide hd
  obtain ⟨n, hn⟩ : ∃ n, n = s.l1.length := ⟨_, rfl⟩
  obtain ⟨m, hm⟩ : ∃ m, m = s.size := ⟨_, rfl⟩
  have HN := hide hn
  have HM := hide hm
  rw [← hn] at z0 hM ⊢
  rw [← hm] at z0 mx hM ⊢
  have HWL := hide hwl
  have HSep := hide hS
  rw [hlen]
  simp only [Sl.v]
  have hkt : ∀ w1 : World, ∀ S1 : Nat → Prop, FSt p S s1 w1 w1 S1 → True := fun _ _ _ => trivial
  clear h hr HP es hk hd hn hm hwl hS hkt
  by_cases hfull : m < n + dn
  · rw [if_pos hfull]
    have hz : ((m : Int) - (n : Int) < (dn : Int)) := by omega
    go_enter Try.func105, Try.ntmps105
    go_wp2_with (first | (go_at_call 110; refine hR.mono ?_; rintro e w1 ⟨rfl, rfl⟩) | (go_at_call 111; refine hM.mono ?_; rintro e w1 ⟨rfl, k, rfl⟩))
    go_ret
    exact ⟨rfl, S, (FSt.refl ((unhide HF).drewN k)).undrewN⟩
  rw [if_neg hfull]
  have hz : ¬ ((m : Int) - (n : Int) < (dn : Int)) := by omega
  have hz2 : (dn : Int) ≤ (m : Int) - (n : Int) := by omega
  cases cut
  · go_enter Try.func105, Try.ntmps105
    go_wp2_with (first | (go_at_call 110; refine hR.mono ?_; rintro e w1 ⟨rfl, rfl⟩) | (go_at_call 111; refine hM.mono ?_; rintro e w1 ⟨rfl, k, rfl⟩) | (go_at_call 112; refine (hW k).mono ?_; rintro e w1 ⟨rfl, S1, h1⟩; have h1' := h1.undrewN; have hJ := join_1 p S1 s1 ⟨da, dn, dc, dl⟩ w1 h1.fl (h1'.but.ok (unhide HD) (unhide HSep)) (by rw [(unhide HWL).1, (unhide HWL).2, ← unhide HN, ← unhide HM]; simp only; omega); simp only [Sl.v] at hJ) | (go_at_call 113; refine hJ.mono ?_; rintro e w2 ⟨rfl, S2, h2⟩))
    go_ret
    exact ⟨rfl, S2, h1'.trans h2⟩
  · by_cases hkn : K ≤ dn
    · have hkz : ¬ ((dn : Int) < (K : Int)) := by omega
      have hkz2 : (K : Int) ≤ (dn : Int) := by omega
      go_enter Try.func105, Try.ntmps105
      go_wp2_with (first | (go_at_call 110; refine hR.mono ?_; rintro e w1 ⟨rfl, rfl⟩) | (go_at_call 111; refine hM.mono ?_; rintro e w1 ⟨rfl, k, rfl⟩) | (go_at_call 112; refine (hW k).mono ?_; rintro e w1 ⟨rfl, S1, h1⟩; have h1' := h1.undrewN; have hJ := join_1 p S1 s1 ⟨da, K, dc, dl.take K⟩ w1 h1.fl ((h1'.but.ok (unhide HD) (unhide HSep)).cut K (by omega)) (by rw [(unhide HWL).1, (unhide HWL).2, ← unhide HN, ← unhide HM]; simp only; omega); simp only [Sl.v] at hJ) | (go_at_call 113; refine hJ.mono ?_; rintro e w2 ⟨rfl, S2, h2⟩))
      go_ret
      exact ⟨rfl, S2, h1'.trans h2⟩
    · have hkz : (dn : Int) < (K : Int) := by omega
      have HTK : Hid (dl.take K = dl) := hide (List.take_of_length_le (by omega))
      rw [unhide HTK]
      go_enter Try.func105, Try.ntmps105
      go_wp2_with (first | (go_at_call 110; refine hR.mono ?_; rintro e w1 ⟨rfl, rfl⟩) | (go_at_call 111; refine hM.mono ?_; rintro e w1 ⟨rfl, k, rfl⟩) | (go_at_call 112; refine (hW k).mono ?_; rintro e w1 ⟨rfl, S1, h1⟩; have h1' := h1.undrewN; have hJ := join_1 p S1 s1 ⟨da, dn, dc, dl⟩ w1 h1.fl (h1'.but.ok (unhide HD) (unhide HSep)) (by rw [(unhide HWL).1, (unhide HWL).2, ← unhide HN, ← unhide HM]; simp only; omega); simp only [Sl.v] at hJ) | (go_at_call 113; refine hJ.mono ?_; rintro e w2 ⟨rfl, S2, h2⟩))
      go_ret
      exact ⟨rfl, S2, h1'.trans h2⟩
end Go.Proofs.Ytppmgfkpfamabaa

set_option maxHeartbeats 2000000
set_option maxRecDepth 100000
namespace Go.Proofs.Ytppmgfkpfamabaa
open Go.RowKit
theorem ref_zero {s : FlS} {bank : Int} (h : s.ref bank = 0) : (bank = 0 ∨ bank = 1) ∧ s.down = false := by
  unfold FlS.ref at h
  split at h
  · omega
  · split at h
    · omega
    · rename_i h1 h2
      exact ⟨by omega, by simpa using h2⟩
theorem append_any (p : Nat) (S : Nat → Prop) (s : FlS) (bank : Int) (d : Sl) (w : World) (h : Fl w p S s) (hd : d.Ok w) (hS : Sepd S d) (hw : s.wr ≤ 4000000000000000000) :
    Calls Try.prog 105 #[.pointer (some ⟨p, 0, none⟩), .int .i64 bank, d.v] w (APost p S (s.append bank d.l) w) := by
  by_cases hr : s.ref bank = 0
  · rcases (ref_zero hr).1 with rfl | rfl
    · exact append_0 p S s d w h hd hS hr hw
    · exact append_1 p S s d w h hd hS hr hw
  · exact append_no p S s bank d w h hr
theorem erase_any (p : Nat) (S : Nat → Prop) (s : FlS) (bank : Int) (w : World) (h : Fl w p S s) (hw : s.wr ≤ 4000000000000000000) :
    Calls Try.prog 107 #[.pointer (some ⟨p, 0, none⟩), .int .i64 bank] w (APost p S (s.erase bank) w) := by
  by_cases hr : s.ref bank = 0
  · rcases (ref_zero hr).1 with rfl | rfl
    · exact erase_0 p S s w h hr hw
    · exact erase_1 p S s w h hr hw
  · exact erase_no p S s bank w h hr
def FlS.read (s : FlS) (bank : Int) : List Int := if s.ref bank = 0 then s.bk bank else []
def FlS.room (s : FlS) (bank : Int) : Int := if s.ref bank = 0 then s.size - (s.bk bank).length else 0
theorem read_any (p : Nat) (S : Nat → Prop) (s : FlS) (bank : Int) (w : World) (h : Fl w p S s) :
    Calls Try.prog 108 #[.pointer (some ⟨p, 0, none⟩), .int .i64 bank] w fun e w' => ∃ v, e = .returned (.tuple #[v, .int .i64 (s.ref bank)]) ∧ OwB w' v (s.read bank) ∧ (∀ k, v.ownBlock = some k → w.heap.size ≤ k) ∧ Below w.heap.size w w' := by
  by_cases hr : s.ref bank = 0
  · rw [hr]
    unfold FlS.read
    rw [if_pos hr]
    rcases (ref_zero hr).1 with rfl | rfl
    · exact read_0 p S s w h hr
    · exact read_1 p S s w h hr
  · refine (read_no p S s bank w h hr).mono ?_
    rintro e w' ⟨rfl, rfl⟩
    unfold FlS.read
    rw [if_neg hr]
    exact ⟨_, rfl, OwB.nil _, fun k hk => by simp [Value.ownBlock] at hk, Below.refl _ _⟩
theorem roomX_any (p : Nat) (S : Nat → Prop) (s : FlS) (bank : Int) (w : World) (h : Fl w p S s) :
    Calls Try.prog 109 #[.pointer (some ⟨p, 0, none⟩), .int .i64 bank] w fun e w' => e = .returned (.tuple #[.int .i64 (s.room bank), .int .i64 (s.ref bank)]) ∧ ∃ k, w' = w.drewN k := by
  by_cases hr : s.ref bank = 0
  · rw [hr]
    unfold FlS.room
    rw [if_pos hr]
    rcases (ref_zero hr).1 with rfl | rfl
    · exact roomX_0 p S s w h hr
    · exact roomX_1 p S s w h hr
  · refine (roomX_no p S s bank w h hr).mono ?_
    rintro e w' ⟨rfl, rfl⟩
    unfold FlS.room
    rw [if_neg hr]
    exact ⟨rfl, 0, rfl⟩
theorem restart_any (p : Nat) (S : Nat → Prop) (s : FlS) (w : World) (h : Fl w p S s) :
    Calls Try.prog 20 #[.pointer (some ⟨p, 0, none⟩)] w (APost p S s.restart w) := by
  have HFl := hide h
  obtain ⟨v0, v1, qv, hf, rfl⟩ := h
  obtain ⟨-, -, -, -, c4, -⟩ := hf.cs
  have f4 := hf.arr.frozen 4
  have HF := hide hf
  clear hf
  cases hd : s.down with
  | false =>
    have HR : Hid (s.restart = (s, 123)) := hide (by unfold FlS.restart; rw [hd]; rfl)
    rw [unhide HR]
    rw [hd] at c4
    go_enter Try.func20, Try.ntmps20
    go_wp2
    go_ret
    exact ⟨rfl, _, FSt.refl (unhide HFl)⟩
  | true =>
    have HR : Hid (s.restart = ({ s with down := false }, 0)) := hide (by unfold FlS.restart; rw [hd]; rfl)
    rw [unhide HR]
    rw [hd] at c4
    go_enter Try.func20, Try.ntmps20
    go_wp2
    go_ret
    have hf := unhide HF
    have bb : Buts (· = p) w (w.setCell ⟨p, 4, none⟩ (.bool false)) := Buts.of_but ((But.refl p w).setCell _ _)
    exact ⟨rfl, _, ⟨v0, v1, qv, ⟨hf.arr.set 4 (.bool false), bb.own hf.o0 (fun x hx e => hf.n0 (by rw [hx, e])), bb.own hf.o1 (fun x hx e => hf.n1 (by rw [hx, e])), bb.own hf.oq (fun x hx e => hf.nq (by rw [hx, e])), hf.ne, ⟨hf.ok.b0, hf.ok.b1, hf.ok.z0, hf.ok.z1, hf.ok.mx, hf.ok.ql, hf.ok.qb⟩⟩, rfl⟩, bb.mono (fun k _ e => .inl e), fun _ h => .inl h⟩
def FPost (l0 l1 : List Int) (w : World) (e : Ending) (w' : World) : Prop :=
  ∃ u v, e = .returned (.tuple #[u, v]) ∧ OwB w' u l0 ∧ OwB w' v l1 ∧ (∀ k, u.ownBlock = some k → w.heap.size ≤ k) ∧ (∀ k, v.ownBlock = some k → w.heap.size ≤ k) ∧ (∀ k, u.ownBlock = some k → v.ownBlock ≠ some k) ∧ Below w.heap.size w w'
theorem files_any (p : Nat) (S : Nat → Prop) (s : FlS) (w : World) (h : Fl w p S s) :
    Calls Try.prog 8 #[.pointer (some ⟨p, 0, none⟩)] w (FPost s.l0 s.l1 w) := by
  have hT := told_0 p S s w h
  have HF := hide h
  clear h
  go_enter Try.func8, Try.ntmps8
  go_wp2_with (first | (go_at_call 27; refine hU.mono ?_; rintro e w2 ⟨v, rfl, j1, j2, j3⟩; clear hU) | (go_at_call 27; refine hT.mono ?_; rintro e w1 ⟨u, rfl, h1, h2, h3⟩; clear hT; have hU := told_1 p S s w1 ((unhide HF).later h3)))
  go_ret2
  have := h3.size
  refine ⟨u, v, rfl, h1.later j3, j1, h2, fun k hk => by have := j2 k hk; omega, fun k hk hk' => ?_, h3.trans (j3.mono (by omega))⟩
  have := h1.lt k hk
  have := j2 k hk'
  omega
theorem arm_any (p : Nat) (S : Nat → Prop) (s : FlS) (a k : Int) (w : World) (h : Fl w p S s) :
    Calls Try.prog 18 #[.pointer (some ⟨p, 0, none⟩), .int .i64 a, .int .i64 k] w (APost p S (s.arm a k) w) := by
  obtain ⟨i0, hi, hz0, hz1, hz2⟩ := info_parts Try.infoC
  by_cases hb : a < 1 ∨ 1000000 < a ∨ k < 0 ∨ 1048576 < k
  · have HP : Hid (s.arm a k = (s, 2)) := hide (by unfold FlS.arm; rw [if_pos hb])
    rw [unhide HP]
    have HF := hide h
    clear h HP
    go_enter Try.func18, Try.ntmps18
    go_wp2
    all_goals (go_ret; exact ⟨rfl, S, FSt.refl (unhide HF)⟩)
  · obtain ⟨v0, v1, qv, hf, rfl⟩ := h
    obtain ⟨aq, cq, rfl⟩ := own_parts hf.oq
    obtain ⟨n, hn⟩ : ∃ n, n = s.q.length := ⟨_, rfl⟩
    rw [← hn] at hf ⊢
    have c3 : w.cell? ⟨p, 3, none⟩ = some (.slice aq n cq) := by simpa using hf.arr.cell 3
    have g1 : ¬ a < 1 := by omega
    have g2 : ¬ 1000000 < a := by omega
    have g3 : ¬ k < 0 := by omega
    have g4 : ¬ 1048576 < k := by omega
    have g5 : n ≤ 64 := by rw [hn]; exact hf.ok.ql
    have HF := hide hf
    clear hf
    by_cases hl : 64 ≤ n
    · have HP : Hid (s.arm a k = (s, 1)) := hide (by unfold FlS.arm; rw [if_neg hb, ← hn, if_pos hl])
      rw [unhide HP]
      have hlz : (64 : Int) ≤ (n : Int) := by omega
      clear hn HP
      go_enter Try.func18, Try.ntmps18
      go_wp2
      go_ret
      exact ⟨rfl, _, FSt.refl ⟨v0, v1, _, unhide HF, rfl⟩⟩
    · have HP : Hid (s.arm a k = ({ s with q := s.q ++ [(a, k)] }, 0)) := hide (by unfold FlS.arm; rw [if_neg hb, ← hn, if_neg hl])
      rw [unhide HP]
      have hlz : ¬ (64 : Int) ≤ (n : Int) := by omega
      have HN := hide hn
      clear hn HP
      have hbel : Below w.heap.size w (w.alloc (.cells #[.int .i64 a, .int .i64 k] 87)) := below_one w _
      have HOQ : Hid ((w.alloc (.cells #[.int .i64 a, .int .i64 k] 87)).ownsRow 0 87 2 (.slice aq n cq) n (Cr s.q)) := hide (by
        have := own_laterG (unhide HF).oq hbel
        rw [← unhide HN] at this
        exact this)
      have HNW : Hid (∀ j u, [Value.int .i64 a, .int .i64 k][j]? = some u → (w.alloc (.cells #[.int .i64 a, .int .i64 k] 87)).cell? ((⟨w.heap.size, 0, none⟩ : Addr).add j) = some u) := hide (fun j u hu => by
        have A : Arr (w.alloc (.cells #[.int .i64 a, .int .i64 k] 87)) w.heap.size 87 [.int .i64 a, .int .i64 k] := Arr.new w _ _
        rw [addr_add, Nat.zero_add, A.cell j, hu])
      have HFL : Hid (Fls (w.alloc (.cells #[.int .i64 a, .int .i64 k] 87)) p v0 v1 (.slice aq n cq) s) := hide ((unhide HF).keep (Buts.of_below (S := fun _ => False) hbel) (fun _ _ h => h))
      have HBEL := hide hbel
      clear hbel
      go_enter Try.func18, Try.ntmps18
      go_wp2_with (at_builtin; refine wpList_append_own_at rfl _ _ 48 rfl 0 87 i0 (.agg #[.int .i64 0, .int .i64 0]) 2 16 Try.underlying48 hi hz0 hz1 hz2 rfl (by decide) (.slice aq n cq) n (Cr s.q) rfl (unhide HOQ) ⟨w.heap.size, 0, none⟩ 1 1 [.int .i64 a, .int .i64 k] rfl rfl (unhide HNW) (by intro u hu; simp at hu; rcases hu with rfl | rfl <;> rfl) (by unfold maxLen; omega) (by omega) (Nat.zero_le _) ?_; intro v' w1 hown' hgrow hat; obtain ⟨a1, b1, hv'⟩ := own_parts (unhide hown'); subst hv'; have hA1 : Arr w1 p 50 [.int .i64 s.size, v0, v1, .slice aq n cq, .bool s.down, .int .i64 s.wr] := ((unhide hgrow).block p (unhide HFL).arr.lt (fun e => (unhide HFL).nq e.symm)).trans (unhide HFL).arr; have f1 := hA1.frozen 3; have c1' : w1.cell? ⟨p, 3, none⟩ = some (.slice aq n cq) := (by simpa using hA1.cell 3); have HA1 := hide hA1; clear hA1)
      go_ret
      have hf := unhide HFL
      have ho := unhide hown'
      have hg := unhide hgrow
      have ha := unhide hat
      have A2 := (unhide HA1).set 3 (.slice a1 (n + 1) b1)
      have b1' : Buts (fun k => (Value.slice aq n cq).ownBlock = some k) (w.alloc (.cells #[.int .i64 a, .int .i64 k] 87)) w1 := ⟨hg.os, hg.tape, hg.output, hg.size, fun k hk hs => hg.block k hk (fun e => hs e.symm)⟩
      have b2 : Buts (· = p) w1 (w1.setCell ⟨p, 3, none⟩ (.slice a1 (n + 1) b1)) := Buts.of_but ((But.refl p w1).setCell 3 _)
      have hnp : (Value.slice a1 (n + 1) b1).ownBlock ≠ some p := own_arr_ne ho (unhide HA1) (by decide)
      have hsz := (unhide HBEL).size
      have hnew : ∀ k, (Value.slice a1 (n + 1) b1).ownBlock = some k → (Value.slice aq n cq).ownBlock = some k ∨ w.heap.size ≤ k := by
        intro k hk
        rcases ha with ha | ha
        · left; rw [← ha]; exact hk
        · right; rw [ha] at hk; simp at hk; omega
      refine ⟨rfl, FSet p v0 v1 (.slice a1 (n + 1) b1), ⟨_, _, _, ⟨A2, ?_, ?_, ?_, hf.ne, ⟨hf.ok.b0, hf.ok.b1, hf.ok.z0, hf.ok.z1, hf.ok.mx, ?_, ?_⟩⟩, rfl⟩, ?_, ?_⟩
      · exact b2.own (b1'.own hf.o0 (fun g hg e => hf.q0 g e hg)) (fun g hg e => hf.n0 (by rw [hg, e]))
      · exact b2.own (b1'.own hf.o1 (fun g hg e => hf.q1 g e hg)) (fun g hg e => hf.n1 (by rw [hg, e]))
      · have := b2.own ho (fun g hg e => hnp (by rw [hg, e]))
        simp only
        rw [List.length_append, ← unhide HN, Cr_app]
        exact this
      · simp only; rw [List.length_append, ← unhide HN]; simp; omega
      · intro x hx
        simp only [List.mem_append, List.mem_singleton] at hx
        rcases hx with hx | rfl
        · exact hf.ok.qb x hx
        · exact ⟨g1, g2, g3, g4⟩
      · exact (Buts.of_below (unhide HBEL)).trans ((b1'.mono (fun k _ e => .inr (.inr (.inr e)))).trans (b2.mono (fun k _ e => .inl e)))
      · rintro k (hk | hk | hk | hk)
        · exact .inl (.inl hk)
        · exact .inl (.inr (.inl hk))
        · exact .inl (.inr (.inr (.inl hk)))
        · exact (hnew k hk).imp (fun e => .inr (.inr (.inr e))) id
end Go.Proofs.Ytppmgfkpfamabaa
