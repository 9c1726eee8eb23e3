import Derived.Test.YtloeademloclmaaApM
set_option linter.unusedVariables false
set_option linter.unusedSimpArgs false
namespace Go.Proofs.Ytloeademloclmaa
open Go.RowKit

theorem OwB.ok {w : World} {x : Option Addr} {y : Nat} {l : List Int} (h : OwB w (.slice x l.length y) l) : Sl.Ok w ⟨x, l.length, y, l⟩ := by
  obtain ⟨s, h1, h2, h3, h4, -⟩ := h.sl
  obtain ⟨sa, sn, sc, sl⟩ := s
  simp only [Sl.v, Value.slice.injEq] at h1 h3 h4
  obtain ⟨e1, e2, e3⟩ := h1
  subst e1 e3 h3
  subst h4
  exact h2
theorem nil_ok (w : World) : Sl.Ok w ⟨none, 0, 0, []⟩ := ⟨rfl, Nat.le_refl _, by unfold maxLen; simp, fun _ => ⟨rfl, rfl⟩, fun x hx => by simp at hx, Lies.nil _ _⟩
theorem ap1 (a b : List Int) (ha : a.length ≤ 1048576) (hb : b.length ≤ 1048576) : (⟨1048576, a, [], [], false, 0⟩ : FlS).append 1 b = (⟨1048576, a, b, [], false, 1⟩, 0) := by
  unfold FlS.append
  rw [if_neg (by show ¬ ((0 : Int) ≠ 0); simp), if_neg (by simp [FlS.bk]; omega)]
  rfl
theorem ap0 (a : List Int) (ha : a.length ≤ 1048576) : (⟨1048576, [], [], [], false, 0⟩ : FlS).append 0 a = (⟨1048576, a, [], [], false, 1⟩, 0) := by
  unfold FlS.append
  rw [if_neg (by decide), if_neg (by simp [FlS.bk]; omega)]
  rfl
theorem ld (a b : List Int) (ha : a.length ≤ 1048576) (hb : b.length ≤ 1048576) : fsLoad 1048576 a b = ⟨1048576, a, b, [], false, 0⟩ := by
  have h : szZ 1048576 = 1048576 := rfl
  unfold fsLoad
  rw [h, List.take_of_length_le ha, List.take_of_length_le hb]
set_option maxHeartbeats 8000000 in
set_option maxRecDepth 100000 in
theorem apart_law (a b : Sl) (w : World) (ha : a.Ok w) (hb : b.Ok w) (hac : a.c ≤ 140737488351232) (hbc : b.c ≤ 140737488351232) :
    Calls Try.prog 4 #[a.v, b.v] w fun e w' => e = .returned (.bool true) ∧ Below w.heap.size w w' := by
  obtain ⟨i0, hi, hz0, hz1, hz2⟩ := info_parts Try.infoB
  obtain ⟨aa, an, ac, al⟩ := a
  obtain ⟨ba, bn, bc, bl⟩ := b
  have hal : al.length = an := ha.len
  have hbl : bl.length = bn := hb.len
  have hale : an ≤ ac := ha.le
  have hble : bn ≤ bc := hb.le
  simp only [Sl.v] at *
  by_cases hbig : 262144 < an + bn
  · have hbz : (262144 : Int) < (an : Int) + (bn : Int) := by omega
    have hbz2 : (an : Int) + (bn : Int) ≤ 9223372036854775807 := by omega
    clear hal hbl ha hb
    go_enter Try.func4, Try.ntmps4
    go_wp2
    go_ret
    exact ⟨rfl, Below.refl _ _⟩
  have hbz : ¬ (262144 : Int) < (an : Int) + (bn : Int) := by omega
  have hbz2 : (an : Int) + (bn : Int) ≤ 262144 := by omega
  have HAn : Hid (al.length = an) := hide hal
  have HBn : Hid (bl.length = bn) := hide hbl
  have HAs : Hid (al.length ≤ 1048576) := hide (by omega)
  have HBs : Hid (bl.length ≤ 1048576) := hide (by omega)
  have HA := hide ha
  have HB := hide hb
  have hao := ha
  clear hal hbl ha hb hao
  go_enter Try.func4, Try.ntmps4
  go_wp2_with (first
    | (at_builtin; refine wpList_copyof rfl _ _ rfl rfl ⟨ba, bn, bc, bl⟩ (unhide hb1) rfl (by simp only; omega) ?_; clear hb1; intro v2 w2 o2 a2 b2; obtain ⟨x2, y2, hv2⟩ := own_parts (unhide o2).1; subst hv2; have B2 := hide (bel_then (unhide B1) (bel_sz (unhide B1) (Nat.le_refl _)) (unhide b2)); have R2 := hide ((unhide R1).snoc (unhide b2) (unhide o2) (unhide a2)); have hL := load_any 1048576 ⟨x1, al.length, y1, al⟩ ⟨none, 0, 0, []⟩ w2 ((unhide O1).ok.later (unhide b2)) (nil_ok w2); simp only [Sl.v] at hL; rw [ld _ _ (unhide HAs) (by simp)] at hL; have O1' := hide ((unhide O1).later (unhide b2)))
    | (at_builtin; refine wpList_copyof rfl _ _ rfl rfl ⟨aa, an, ac, al⟩ (unhide HA) rfl (by simp only; omega) ?_; intro v1 w1 o1 a1 b1; obtain ⟨x1, y1, hv1⟩ := own_parts (unhide o1).1; subst hv1; have B1 := b1; have hb1 := hide ((unhide HB).later (unhide b1)); have R1 := hide ((Rs.nil w).snoc (unhide b1) (unhide o1) (unhide a1)); have O1 := o1)
    | (go_at_call 14; refine hL.mono ?_; rintro e w3 ⟨p, Sf, rfl, f3, sf3, b3⟩; clear hL; have B3 := hide (bel_then (unhide B2) (bel_sz (unhide B2) (Nat.le_refl _)) b3); have R3 := hide ((unhide R2).later b3); have F3 := hide f3; have HSf := hide sf3; have O13 := hide ((unhide O1').later b3); have O23 := hide ((unhide o2).later b3); have hN := new_any 1048576 w3; rw [ld _ _ (by simp) (by simp)] at hN; have Z23 := hide b3.size; clear f3 sf3 b3)
    | (go_at_call 9; refine hN.mono ?_; rintro e w4 ⟨g, Sg, rfl, g4, sg4, b4⟩; clear hN; have B4 := hide (bel_then (unhide B3) (bel_sz (unhide B3) (Nat.le_refl _)) b4); have R4 := hide ((unhide R3).later b4); have F4 := hide ((unhide F3).later b4); have G4 := hide g4; have HSg := hide sg4; have O14 := hide ((unhide O13).later b4); have O24 := hide ((unhide O23).later b4); have HSep : Hid (∀ k, Sf k → ¬ Sg k) := hide (fun k h5 h6 => by have h7 := (unhide F3).lt k h5; have h8 := sg4 k h6; omega); have hH := holds_any w4; clear g4 sg4 b4)
    | (go_at_call 10; refine hH.mono ?_; rintro e w5 ⟨rfl, b5⟩; clear hH; have B5 := hide (bel_then (unhide B4) (bel_sz (unhide B4) (Nat.le_refl _)) b5); have R5 := hide ((unhide R4).later b5); have F5 := hide ((unhide F4).later b5); have G5 := hide ((unhide G4).later b5); have O15 := hide ((unhide O14).later b5); have O25 := hide ((unhide O24).later b5); have far5 : Hid (Far [.slice x1 al.length y1, .slice x2 bl.length y2] (fun k => Sf k ∨ Sg k ∨ k < w.heap.size)) := hide (fun u hu k hk hx => by have h8 := (unhide R2).lt u (by simpa using hu) k hk; have h9 : w.heap.size ≤ k := (by simp only [List.mem_cons, List.not_mem_nil, or_false] at hu; rcases hu with rfl | rfl; exact unhide a1 k hk; have := unhide a2 k hk; have := (unhide b1).size; omega); rcases hx with hx | hx | hx; have := unhide HSf k hx; omega; have := unhide HSg k hx; have := unhide Z23; omega; omega); have hA1 := append_any p Sf _ 1 ⟨x2, bl.length, y2, bl⟩ w5 (unhide F5) (unhide O25).ok (fun hp x hx e => by exact unhide far5 (.slice x2 bl.length y2) (by simp) x.block (by simp only at hx; rw [hx]; rfl) (.inl e)) (by show (0 : Nat) ≤ 1000000000; omega); simp only [Sl.v] at hA1; rw [ap1 _ _ (unhide HAs) (unhide HBs)] at hA1)
    | (go_at_call 13; refine hA2.mono ?_; rintro e w7 ⟨rfl, S7, K7⟩; clear hA2; have B7 := hide (K7.bel (unhide B6) (bel_sz (unhide B6) (Nat.le_refl _)) (fun k hk => by have := unhide HSg k hk; have := (unhide B3).size; omega)); have F7 := hide ((unhide F6).keep K7.but (fun k h5 h6 => unhide Sep6 k h5 h6)); have G7 := hide K7.fl; have R7 := hide ((unhide R6).keep K7.but ((unhide far6).mono (fun k hk => .inr (.inl hk)))); have far7 : Hid (Far [.slice x1 al.length y1, .slice x2 bl.length y2] (fun k => S6 k ∨ S7 k ∨ k < w.heap.size)) := hide (fun u hu k hk hx => by rcases hx with hx | hx | hx; exact unhide far6 u hu k hk (.inl hx); rcases K7.at_ k hx with h7 | h7; exact unhide far6 u hu k hk (.inr (.inl h7)); have := (unhide R6).lt u (by simpa using hu) k hk; omega; exact unhide far6 u hu k hk (.inr (.inr hx))); have LT7 := hide (fun k (hk : S6 k ∨ S7 k ∨ k < w.heap.size) => show k < w7.heap.size from (by rcases hk with hk | hk | hk; exact (unhide F7).lt k hk; exact K7.fl.lt k hk; have := bel_sz (unhide B7) (Nat.le_refl _); omega)); have hD0 := read_any p S6 _ 0 w7 (unhide F7); rw [show (⟨1048576, al, bl, [], false, 1⟩ : FlS).read 0 = al from rfl, show (⟨1048576, al, bl, [], false, 1⟩ : FlS).ref 0 = 0 from rfl] at hD0; clear K7)
    | (go_at_call 13; refine hA1.mono ?_; rintro e w6 ⟨rfl, S6, K6⟩; clear hA1; have B6 := hide (K6.bel (unhide B5) (bel_sz (unhide B5) (Nat.le_refl _)) (fun k hk => by have := unhide HSf k hk; have := bel_sz (unhide B2) (Nat.le_refl _); omega)); have F6 := hide K6.fl; have G6 := hide ((unhide G5).keep K6.but (fun k h5 h6 => unhide HSep k h6 h5)); have R6 := hide ((unhide R5).keep K6.but ((unhide far5).mono (fun k hk => .inl hk))); have O16 := hide ((unhide O15).keep K6.but (fun k hk hx => unhide far5 (.slice x1 al.length y1) (by simp) k hk (.inl hx))); have Sep6 : Hid (∀ k, S6 k → ¬ Sg k) := hide (fun k h5 h6 => by rcases K6.at_ k h5 with h7 | h7; exact unhide HSep k h7 h6; have := (unhide G5).lt k h6; omega); have far6 : Hid (Far [.slice x1 al.length y1, .slice x2 bl.length y2] (fun k => S6 k ∨ Sg k ∨ k < w.heap.size)) := hide (fun u hu k hk hx => by rcases hx with hx | hx | hx; rcases K6.at_ k hx with h7 | h7; exact unhide far5 u hu k hk (.inl h7); have := (unhide R5).lt u (by simpa using hu) k hk; omega; exact unhide far5 u hu k hk (.inr (.inl hx)); exact unhide far5 u hu k hk (.inr (.inr hx))); have hA2 := append_any g Sg _ 0 ⟨x1, al.length, y1, al⟩ w6 (unhide G6) (unhide O16).ok (fun hp x hx e => by exact unhide far6 (.slice x1 al.length y1) (by simp) x.block (by simp only at hx; rw [hx]; rfl) (.inr (.inl e))) (by show (0 : Nat) ≤ 1000000000; omega); simp only [Sl.v] at hA2; rw [ap0 _ (unhide HAs)] at hA2; clear K6)
    | (go_at_call 12; refine hD0.mono ?_; rintro e w8 ⟨v3, rfl, o3, a3, b8⟩; clear hD0; obtain ⟨x3, y3, hv3⟩ := own_parts o3.1; subst hv3; have B8 := hide (bel_then (unhide B7) (bel_sz (unhide B7) (Nat.le_refl _)) b8); have F8 := hide ((unhide F7).later b8); have G8 := hide ((unhide G7).later b8); have R8 := hide ((unhide R7).snoc b8 o3 a3); have far8 := hide ((unhide far7).snoc (fun k hk hx => by have h8 := unhide LT7 k hx; have h9 := a3 k hk; omega)); have LT8 := hide (fun k hk => Nat.lt_of_lt_of_le (unhide LT7 k hk) b8.size); have hF1 : Calls Try.prog 15 #[.pointer (some ⟨p, 0, none⟩)] w8 (FPost al bl w8) := files_any p S6 _ w8 (unhide F8); clear o3 a3 b8)
    | (go_at_call 15; refine hF1.mono ?_; rintro e w9 ⟨v4, v5, rfl, o4, o5, a4, a5, auv4, b9⟩; clear hF1; obtain ⟨x4, y4, hv4⟩ := own_parts o4.1; subst hv4; obtain ⟨x5, y5, hv5⟩ := own_parts o5.1; subst hv5; have B9 := hide (bel_then (unhide B8) (bel_sz (unhide B8) (Nat.le_refl _)) b9); have F9 := hide ((unhide F8).later b9); have G9 := hide ((unhide G8).later b9); have R9 := hide (((unhide R8).snoc b9 o4 a4).snoc' o5 (fun u hu k hk hk' => by rcases List.mem_append.1 hu with hu | hu; have h8 := (unhide R8).lt u hu k hk; have h9 := a5 k hk'; omega; simp only [List.mem_singleton] at hu; subst hu; exact auv4 k hk hk')); have far9 := hide (((unhide far8).snoc (fun k hk hx => by have h8 := unhide LT8 k hx; have h9 := a4 k hk; omega)).snoc (fun k hk hx => by have h8 := unhide LT8 k hx; have h9 := a5 k hk; omega)); have LT9 := hide (fun k hk => Nat.lt_of_lt_of_le (unhide LT8 k hk) b9.size); have hD1 := read_any p S6 _ 1 w9 (unhide F9); rw [show (⟨1048576, al, bl, [], false, 1⟩ : FlS).read 1 = bl from rfl, show (⟨1048576, al, bl, [], false, 1⟩ : FlS).ref 1 = 0 from rfl] at hD1; clear o4 o5 a4 a5 auv4 b9)
    | (go_at_call 12; refine hD1.mono ?_; rintro e w10 ⟨v6, rfl, o6, a6, b10⟩; clear hD1; obtain ⟨x6, y6, hv6⟩ := own_parts o6.1; subst hv6; have B10 := hide (bel_then (unhide B9) (bel_sz (unhide B9) (Nat.le_refl _)) b10); have F10 := hide ((unhide F9).later b10); have G10 := hide ((unhide G9).later b10); have R10 := hide ((unhide R9).snoc b10 o6 a6); have far10 := hide ((unhide far9).snoc (fun k hk hx => by have h8 := unhide LT9 k hx; have h9 := a6 k hk; omega)); have LT10 := hide (fun k hk => Nat.lt_of_lt_of_le (unhide LT9 k hk) b10.size); have hD2 := read_any p S6 _ 0 w10 (unhide F10); rw [show (⟨1048576, al, bl, [], false, 1⟩ : FlS).read 0 = al from rfl, show (⟨1048576, al, bl, [], false, 1⟩ : FlS).ref 0 = 0 from rfl] at hD2; clear o6 a6 b10)
    | (go_at_call 12; refine hD2.mono ?_; rintro e w11 ⟨v7, rfl, o7, a7, b11⟩; clear hD2; obtain ⟨x7, y7, hv7⟩ := own_parts o7.1; subst hv7; have B11 := hide (bel_then (unhide B10) (bel_sz (unhide B10) (Nat.le_refl _)) b11); have F11 := hide ((unhide F10).later b11); have G11 := hide ((unhide G10).later b11); have R11 := hide ((unhide R10).snoc b11 o7 a7); have far11 := hide ((unhide far10).snoc (fun k hk hx => by have h8 := unhide LT10 k hx; have h9 := a7 k hk; omega)); have LT11 := hide (fun k hk => Nat.lt_of_lt_of_le (unhide LT10 k hk) b11.size); have hF2 : Calls Try.prog 15 #[.pointer (some ⟨p, 0, none⟩)] w11 (FPost al bl w11) := files_any p S6 _ w11 (unhide F11); clear o7 a7 b11)
    | (go_at_call 15; refine hF2.mono ?_; rintro e w12 ⟨v8, v9, rfl, o8, o9, a8, a9, auv8, b12⟩; clear hF2; obtain ⟨x8, y8, hv8⟩ := own_parts o8.1; subst hv8; obtain ⟨x9, y9, hv9⟩ := own_parts o9.1; subst hv9; have B12 := hide (bel_then (unhide B11) (bel_sz (unhide B11) (Nat.le_refl _)) b12); have F12 := hide ((unhide F11).later b12); have G12 := hide ((unhide G11).later b12); have R12 := hide (((unhide R11).snoc b12 o8 a8).snoc' o9 (fun u hu k hk hk' => by rcases List.mem_append.1 hu with hu | hu; have h8 := (unhide R11).lt u hu k hk; have h9 := a9 k hk'; omega; simp only [List.mem_singleton] at hu; subst hu; exact auv8 k hk hk')); have far12 := hide (((unhide far11).snoc (fun k hk hx => by have h8 := unhide LT11 k hx; have h9 := a8 k hk; omega)).snoc (fun k hk hx => by have h8 := unhide LT11 k hx; have h9 := a9 k hk; omega)); have LT12 := hide (fun k hk => Nat.lt_of_lt_of_le (unhide LT11 k hk) b12.size); have hD3 := read_any p S6 _ 1 w12 (unhide F12); rw [show (⟨1048576, al, bl, [], false, 1⟩ : FlS).read 1 = bl from rfl, show (⟨1048576, al, bl, [], false, 1⟩ : FlS).ref 1 = 0 from rfl] at hD3; clear o8 o9 a8 a9 auv8 b12)
    | (go_at_call 12; refine hD3.mono ?_; rintro e w13 ⟨v10, rfl, o10, a10, b13⟩; clear hD3; obtain ⟨x10, y10, hv10⟩ := own_parts o10.1; subst hv10; have B13 := hide (bel_then (unhide B12) (bel_sz (unhide B12) (Nat.le_refl _)) b13); have F13 := hide ((unhide F12).later b13); have G13 := hide ((unhide G12).later b13); have R13 := hide ((unhide R12).snoc b13 o10 a10); have far13 := hide ((unhide far12).snoc (fun k hk hx => by have h8 := unhide LT12 k hx; have h9 := a10 k hk; omega)); have LT13 := hide (fun k hk => Nat.lt_of_lt_of_le (unhide LT12 k hk) b13.size); have HK : Hid (∀ (k : Nat), (Calls Try.prog 16 #[.slice x3 al.length y3, .slice aa an ac] (w13.drewN k) fun e w' => e = .returned (.bool true) ∧ ∃ j, w' = (w13.drewN k).drewN j) ∧ (Calls Try.prog 16 #[.slice x4 al.length y4, .slice aa an ac] (w13.drewN k) fun e w' => e = .returned (.bool true) ∧ ∃ j, w' = (w13.drewN k).drewN j) ∧ (Calls Try.prog 16 #[.slice x5 bl.length y5, .slice ba bn bc] (w13.drewN k) fun e w' => e = .returned (.bool true) ∧ ∃ j, w' = (w13.drewN k).drewN j) ∧ (Calls Try.prog 16 #[.slice x6 bl.length y6, .slice ba bn bc] (w13.drewN k) fun e w' => e = .returned (.bool true) ∧ ∃ j, w' = (w13.drewN k).drewN j) ∧ (Calls Try.prog 16 #[.slice x7 al.length y7, .slice aa an ac] (w13.drewN k) fun e w' => e = .returned (.bool true) ∧ ∃ j, w' = (w13.drewN k).drewN j) ∧ (Calls Try.prog 16 #[.slice x8 al.length y8, .slice aa an ac] (w13.drewN k) fun e w' => e = .returned (.bool true) ∧ ∃ j, w' = (w13.drewN k).drewN j) ∧ (Calls Try.prog 16 #[.slice x9 bl.length y9, .slice ba bn bc] (w13.drewN k) fun e w' => e = .returned (.bool true) ∧ ∃ j, w' = (w13.drewN k).drewN j) ∧ (Calls Try.prog 16 #[.slice x10 bl.length y10, .slice ba bn bc] (w13.drewN k) fun e w' => e = .returned (.bool true) ∧ ∃ j, w' = (w13.drewN k).drewN j)) := hide (fun k => ⟨same_t ⟨x3, al.length, y3, al⟩ ⟨aa, an, ac, al⟩ _ (ok_drewN ((unhide R13).own 2 _ _ rfl rfl).ok k) (ok_drewN ((unhide HA).later (unhide B13)) k) (by simp only; have := unhide HAs; omega) rfl, same_t ⟨x4, al.length, y4, al⟩ ⟨aa, an, ac, al⟩ _ (ok_drewN ((unhide R13).own 3 _ _ rfl rfl).ok k) (ok_drewN ((unhide HA).later (unhide B13)) k) (by simp only; have := unhide HAs; omega) rfl, same_t ⟨x5, bl.length, y5, bl⟩ ⟨ba, bn, bc, bl⟩ _ (ok_drewN ((unhide R13).own 4 _ _ rfl rfl).ok k) (ok_drewN ((unhide HB).later (unhide B13)) k) (by simp only; have := unhide HBs; omega) rfl, same_t ⟨x6, bl.length, y6, bl⟩ ⟨ba, bn, bc, bl⟩ _ (ok_drewN ((unhide R13).own 5 _ _ rfl rfl).ok k) (ok_drewN ((unhide HB).later (unhide B13)) k) (by simp only; have := unhide HBs; omega) rfl, same_t ⟨x7, al.length, y7, al⟩ ⟨aa, an, ac, al⟩ _ (ok_drewN ((unhide R13).own 6 _ _ rfl rfl).ok k) (ok_drewN ((unhide HA).later (unhide B13)) k) (by simp only; have := unhide HAs; omega) rfl, same_t ⟨x8, al.length, y8, al⟩ ⟨aa, an, ac, al⟩ _ (ok_drewN ((unhide R13).own 7 _ _ rfl rfl).ok k) (ok_drewN ((unhide HA).later (unhide B13)) k) (by simp only; have := unhide HAs; omega) rfl, same_t ⟨x9, bl.length, y9, bl⟩ ⟨ba, bn, bc, bl⟩ _ (ok_drewN ((unhide R13).own 8 _ _ rfl rfl).ok k) (ok_drewN ((unhide HB).later (unhide B13)) k) (by simp only; have := unhide HBs; omega) rfl, same_t ⟨x10, bl.length, y10, bl⟩ ⟨ba, bn, bc, bl⟩ _ (ok_drewN ((unhide R13).own 9 _ _ rfl rfl).ok k) (ok_drewN ((unhide HB).later (unhide B13)) k) (by simp only; have := unhide HBs; omega) rfl⟩); have hS1 := (unhide HK 0).1; clear o10 a10 b13)
    | (go_at_call 16; refine hS1.mono ?_; rintro e w' ⟨rfl, k1, hk1⟩; subst w'; clear hS1; have hS2 := (unhide HK (k1)).2.1)
    | (go_at_call 16; refine hS2.mono ?_; rintro e w' ⟨rfl, k2, hk2⟩; subst w'; clear hS2; have hS3 := (unhide HK (k1 + k2)).2.2.1)
    | (go_at_call 16; refine hS3.mono ?_; rintro e w' ⟨rfl, k3, hk3⟩; subst w'; clear hS3; have hS4 := (unhide HK (k1 + k2 + k3)).2.2.2.1)
    | (go_at_call 16; refine hS4.mono ?_; rintro e w' ⟨rfl, k4, hk4⟩; subst w'; clear hS4; have hS5 := (unhide HK (k1 + k2 + k3 + k4)).2.2.2.2.1)
    | (go_at_call 16; refine hS5.mono ?_; rintro e w' ⟨rfl, k5, hk5⟩; subst w'; clear hS5; have hS6 := (unhide HK (k1 + k2 + k3 + k4 + k5)).2.2.2.2.2.1)
    | (go_at_call 16; refine hS6.mono ?_; rintro e w' ⟨rfl, k6, hk6⟩; subst w'; clear hS6; have hS7 := (unhide HK (k1 + k2 + k3 + k4 + k5 + k6)).2.2.2.2.2.2.1)
    | (go_at_call 16; refine hS7.mono ?_; rintro e w' ⟨rfl, k7, hk7⟩; subst w'; clear hS7; have hS8 := (unhide HK (k1 + k2 + k3 + k4 + k5 + k6 + k7)).2.2.2.2.2.2.2)
    | (go_at_call 16; refine hS8.mono ?_; rintro e w' ⟨rfl, k8, hk8⟩; subst w'; clear hS8; skip))
  obtain ⟨VS, hVS⟩ : ∃ VS : List Value, VS = [.slice x1 al.length y1, .slice x2 bl.length y2, .slice x3 al.length y3, .slice x4 al.length y4, .slice x5 bl.length y5, .slice x6 bl.length y6, .slice x7 al.length y7, .slice x8 al.length y8, .slice x9 bl.length y9, .slice x10 bl.length y10] := ⟨_, rfl⟩
  obtain ⟨W0, hW0⟩ : ∃ W0, W0 = (w13.drewN (k1 + k2 + k3 + k4 + k5 + k6 + k7 + k8)).alloc (.cells VS.toArray 29) := ⟨_, rfl⟩
  have hW0' : (w13.drewN (k1 + k2 + k3 + k4 + k5 + k6 + k7 + k8)).alloc (.cells #[.slice x1 al.length y1, .slice x2 bl.length y2, .slice x3 al.length y3, .slice x4 al.length y4, .slice x5 bl.length y5, .slice x6 bl.length y6, .slice x7 al.length y7, .slice x8 al.length y8, .slice x9 bl.length y9, .slice x10 bl.length y10] 29) = W0 := by rw [hW0, hVS]
  have bW : Below w13.heap.size w13 W0 := by rw [hW0]; exact (below_drewN (Below.refl _ w13) _).alloc (Nat.le_refl _) _
  have hI0 : Inv w W0 p g w13.heap.size S6 S7 ⟨1048576, al, bl, [], false, 1⟩ ⟨1048576, al, [], [], false, 1⟩ VS [al, bl, al, al, bl, bl, al, al, bl, bl] := by
    refine ⟨by rw [hVS]; exact (unhide R13).later bW, by rw [hVS]; rfl, by rw [hW0]; exact Arr.new (w13.drewN _) _ VS, (unhide F13).later bW, (unhide G13).later bW, by rw [hVS]; exact unhide far13, bel_then (unhide B13) (bel_sz (unhide B13) (Nat.le_refl _)) bW, ?_⟩
    intro l hl
    have h1 := unhide HAs
    have h2 := unhide HBs
    simp only [List.mem_cons, List.not_mem_nil, or_false] at hl
    rcases hl with rfl | rfl | rfl | rfl | rfl | rfl | rfl | rfl | rfl | rfl <;> assumption
  have HI0 := hide hI0
  rw [hW0']
  clear hI0 hW0' hW0 hVS bW HK
  go_loopw [22, 23] (fun i _ wr => ∃ (ii : Nat) (ls : List (List Int)), ii ≤ 10 ∧ i = .int .i64 ii ∧ Hid (Inv w wr p g w13.heap.size S6 S7 ⟨1048576, al, bl, [], false, 1⟩ ⟨1048576, al, [], [], false, 1⟩ VS ls) ∧ Hid (Don ii ls)) (fun i _ _ => 10 - (intOf i).toNat)
  case atStart => exact ⟨0, _, by omega, rfl, HI0, hide (fun j l h => by omega)⟩
  case round =>
    obtain ⟨ii, ls, hii, rfl, HI, HDn⟩ := hrel
    clear HI0
    by_cases hi10 : ii < 10
    · have hi10z : (ii : Int) < 10 := by omega
      obtain ⟨ra, l0, rc, hv, hl, ho, hc, hp, hs, hlc, hcm⟩ := (unhide HI).at_ hi10
      obtain ⟨n, hn⟩ : ∃ n, n = l0.length := ⟨_, rfl⟩
      rw [← hn] at hv ho hc hp hs hlc
      have HV := hide hv
      have hmod : ((ii : Int) + 1) % 256 = (ii : Int) + 1 := by omega
      have HL0 : Hid (ls[ii]? = some l0 ∧ l0.length = n) := hide ⟨hl, hn.symm⟩
      clear hv hl ho hn
      go_wp2_with fail
      go_loopw [23] (fun kk wr => ∃ (k : Nat) (ls : List (List Int)) (l : List Int), k ≤ n ∧ kk = .int .i64 k ∧ Hid (Inv w wr p g w13.heap.size S6 S7 ⟨1048576, al, bl, [], false, 1⟩ ⟨1048576, al, [], [], false, 1⟩ VS ls) ∧ Hid (Don ii ls) ∧ Hid (ls[ii]? = some l ∧ l.length = n ∧ l.take k = List.replicate k ((ii : Int) + 1))) (fun kk _ => n - (intOf kk).toNat)
      case atStart => exact ⟨0, ls, l0, by omega, rfl, HI, HDn, hide ⟨(unhide HL0).1, (unhide HL0).2, rfl⟩⟩
      case round =>
        obtain ⟨k, ls, l, hk, rfl, HI2, HD2, HL2⟩ := hrel
        clear HI HDn HL0 hc
        obtain ⟨hl1, hl2, hl3⟩ := unhide HL2
        have hcI : wr.cell? ⟨w13.heap.size, ii, none⟩ = some (.slice ra n rc) := by
          have := (unhide HI2).arr.cell ii
          rw [unhide HV] at this
          exact this
        by_cases hkn : k < n
        · have hkz : (k : Int) < (n : Int) := by omega
          obtain ⟨rb, hra⟩ := hp (by omega)
          subst hra
          have ho := (unhide HI2).rs.own ii _ l (unhide HV) hl1
          have ho1 := ho.1
          rw [hl2] at ho1
          have c2 : wr.cell? ⟨rb, k, none⟩ = some (.int .u8 (l.getD k 0)) := by rw [ho1.cellAt k (by omega), U8_at _ _ (by omega)]
          have f2 := ho1.frozenAt k
          obtain ⟨xo, hxo⟩ : ∃ xo, l.getD k 0 = xo := ⟨_, rfl⟩
          rw [hxo] at c2
          obtain ⟨hP1, hP2⟩ := (unhide HI2).rs.put (unhide HV) hl1 k ((ii : Int) + 1) (by omega)
          have HI3 : Hid (Inv w (wr.setCell ⟨rb, k, none⟩ (.int .u8 ((ii : Int) + 1))) p g w13.heap.size S6 S7 ⟨1048576, al, bl, [], false, 1⟩ ⟨1048576, al, [], [], false, 1⟩ VS (ls.set ii (l.set k ((ii : Int) + 1)))) := hide ((unhide HI2).keep (List.mem_of_getElem? (unhide HV)) (hP2.mono (fun x _ e => by subst e; rfl)) hP1 (fun m hm => by
            rcases List.mem_or_eq_of_mem_set hm with hm | rfl
            · exact (unhide HI2).sz m hm
            · rw [List.length_set]; exact (unhide HI2).sz l (List.mem_of_getElem? hl1)))
          have HD3 : Hid (Don ii (ls.set ii (l.set k ((ii : Int) + 1)))) := hide (fun j m hj hm => by
            rw [List.getElem?_set_ne (by omega)] at hm
            exact unhide HD2 j m hj hm)
          have HL3 : Hid ((ls.set ii (l.set k ((ii : Int) + 1)))[ii]? = some (l.set k ((ii : Int) + 1)) ∧ (l.set k ((ii : Int) + 1)).length = n ∧ (l.set k ((ii : Int) + 1)).take (k + 1) = List.replicate (k + 1) ((ii : Int) + 1)) := hide ⟨List.getElem?_set_self (List.getElem?_eq_some_iff.1 hl1).1, by simp [hl2], by
            rw [List.take_succ_eq_append_getElem (by simp; omega), List.take_set_of_le (Nat.le_refl _), hl3, List.getElem_set_self, List.replicate_succ']⟩
          clear hP1 hP2 ho ho1 hxo hl1 hl2 hl3 hp
          go_wp2
          go_roundw
          case rel => exact ⟨k + 1, _, _, by omega, by go_num, HI3, HD3, HL3⟩
          case measure => simp [intOf]; omega
        · have hkz : ¬ (k : Int) < (n : Int) := by omega
          have hkn2 : k = n := by omega
          have HD3 : Hid (Don (ii + 1) ls) := hide (fun j m hj hm => by
            by_cases hji : j < ii
            · exact unhide HD2 j m hji hm
            · have : j = ii := by omega
              subst this
              rw [hl1] at hm
              simp only [Option.some.injEq] at hm
              subst hm
              rw [hl2, ← hkn2, ← hl3, List.take_of_length_le (by omega)])
          clear hl1 hl2 hl3 hp
          go_wp2
          go_roundw
          case rel => exact ⟨ii + 1, ls, by omega, by go_num, HI2, HD3⟩
          case measure => simp [intOf]; omega
    · have hi10z : ¬ (ii : Int) < 10 := by omega
      obtain rfl : ii = 10 := by omega
      have HZA : Hid (Inv w wr p g w13.heap.size S6 S7 ⟨1048576, al, bl, [], false, 1⟩ ⟨1048576, al, [], [], false, 1⟩ VS ls) := HI
      obtain ⟨wA, hwA⟩ : ∃ wA, wA = wr := ⟨_, rfl⟩
      have HRL : Hid (∀ v ∈ VS, ∀ k, v.ownBlock = some k → k < wA.heap.size) := hide (by rw [hwA]; exact (unhide HI).rs.lt)
      rw [← hwA] at HZA
      have hbA : Below wA.heap.size wA wr := by rw [hwA]; exact Below.refl _ _
      clear HI hwA
      go_wp2_with fail
      go_loopw [24, 25] (fun v i wr => ∃ j : Nat, j ≤ 64 ∧ i = .int .i64 j ∧ wr.ownsRow wA.heap.size 5 1 v j (U8 (List.replicate j 100)) ∧ Below wA.heap.size wA wr) (fun _ i _ => 64 - (intOf i).toNat)
      case atStart => exact ⟨0, by omega, rfl, ⟨rfl, .inl ⟨rfl, rfl⟩⟩, hbA⟩
      case round =>
        clear hbA
        obtain ⟨j, hj, rfl, hown, hbl⟩ := hrel
        by_cases hlt : j < 64
        · have hjz : (j : Int) < 64 := by omega
          go_wp2_with (at_builtin; refine wpList_append_own _ rfl _ _ 29 rfl wA.heap.size 5 i0 (.int .u8 0) 1 1 Try.underlying29 hi hz0 hz1 hz2 rfl (by decide) _ j (U8 (List.replicate j 100)) rfl (hown.alloc _) ⟨_, 0, none⟩ 1 1 [.int .u8 100] rfl rfl (cell_new1 _ _ _) (one_byte _) (by unfold maxLen; omega) (by omega) (by have := hbl.size; simp; omega) ?_)
          intro v4 w4 hown4 hgrow4 _
          have hb4 := below_app hbl (Nat.le_refl _) hown hgrow4
          rw [U8_snoc2, ← List.replicate_succ'] at hown4
          clear hgrow4 hown hbl
          go_wp2
          go_roundw
          case rel => exact ⟨j + 1, by omega, by go_num, hown4, hb4⟩
          case measure => simp [intOf]; omega
        · have hjz : ¬ (j : Int) < 64 := by omega
          obtain rfl : j = 64 := by omega
          obtain ⟨tg, tc, hu24, -, -⟩ := hown.form (by omega)
          subst hu24
          have HI3 := hide ((unhide HZA).later hbl)
          have HTB : Hid (wA.heap.size ≤ tg) := hide (hown.lt tg rfl).1
          obtain ⟨T, hT⟩ : ∃ T : List Int, T = List.replicate 64 100 := ⟨_, rfl⟩
          have HTo : Hid (Sl.Ok wr ⟨some ⟨tg, 0, none⟩, 64, tc, T⟩) := hide (by rw [hT]; exact Sl.Ok.of_own hown (fun x hx => by have := List.eq_of_mem_replicate hx; omega))
          have HT64 : Hid (T.length = 64) := hide (by rw [hT]; rfl)
          clear hown hbl HZA hT
          go_wp2_with fail
          go_loopw [26, 27] (fun i _ wr => ∃ ii : Nat, ii ≤ 10 ∧ i = .int .i64 ii ∧ Hid (Inv w wr p g w13.heap.size S6 S7 ⟨1048576, al, bl, [], false, 1⟩ ⟨1048576, al, [], [], false, 1⟩ VS ls) ∧ Hid (Sl.Ok wr ⟨some ⟨tg, 0, none⟩, 64, tc, T⟩)) (fun i _ _ => 10 - (intOf i).toNat)
          case atStart => exact ⟨0, by omega, rfl, HI3, HTo⟩
          case round =>
            obtain ⟨ii, hii, rfl, HI, HTo'⟩ := hrel
            clear HI3 HTo
            by_cases hi10 : ii < 10
            · have hi10z' : (ii : Int) < 10 := by omega
              obtain ⟨ra, l0, rc, hv, hl, ho, hc, hp, hs, hlc, hcm⟩ := (unhide HI).at_ hi10
              have HV := hide hv
              have HLL := hide hl
              have HO := hide ho
              clear hv hl ho
              go_wp2_with (first
                | (at_builtin; refine wpList_append_kept rfl _ _ rfl (.slice ra l0.length rc) l0 rfl (unhide HO) tg 64 tc T rfl (unhide HTo') (by omega) ?_; intro v' wB oB bB kB; obtain ⟨xB, yB, hvB⟩ := own_parts (unhide oB).1; subst hvB; have HIB := hide ((unhide HI).keep (List.mem_of_getElem? (unhide HV)) (unhide bB) ((unhide HI).rs.kept (unhide HV) (unhide bB) (fun l h => by rw [unhide HLL] at h; simp only [Option.some.injEq] at h; subst h; exact unhide kB)) (unhide HI).sz); have hTB := hide ((unhide bB).ok (unhide HTo') (fun _ z9 hz9 e => by simp only [Option.some.injEq] at hz9; subst hz9; have := unhide HRL _ (List.mem_of_getElem? (unhide HV)) _ e; have := unhide HTB; simp only at *; omega)); have hcB : wB.cell? ⟨w13.heap.size, ii, none⟩ = some (.slice ra l0.length rc) := (by have := (unhide HIB).arr.cell ii; rw [unhide HV] at this; exact this); have hlT : Hid ((l0 ++ T).length = l0.length + 64) := hide (by rw [List.length_append, unhide HT64]); have hokB := (unhide oB).ok; have hleB : (l0 ++ T).length ≤ yB := hokB.le; have hmxB : yB ≤ 9223372036854775807 := (by have := hokB.mx; unfold maxLen at this; exact this); rw [unhide hlT] at hleB; have hfr := hokB.from' l0.length (by rw [unhide hlT]; omega); obtain ⟨yy, hyy⟩ : ∃ yy, (if yB = l0.length then xB else xB.map (·.add l0.length)) = yy := ⟨_, rfl⟩; rw [hyy, unhide hlT, show l0.length + 64 - l0.length = 64 by omega, List.drop_left] at hfr; have hS := same_t ⟨yy, 64, yB - l0.length, T⟩ ⟨some ⟨tg, 0, none⟩, 64, tc, T⟩ wB hfr (unhide hTB) (by simp only; omega) rfl; rw [unhide hlT]; clear hfr hokB)
                | (go_at_call 16; refine hS.mono ?_; rintro e w' ⟨rfl, kS, hkS⟩; subst w'; clear hS))
              go_roundw
              case rel => exact ⟨ii + 1, by omega, by go_num, hide ((unhide HIB).later (below_drewN (Below.refl _ _) kS)), hide (ok_drewN (unhide hTB) kS)⟩
              case measure => simp [intOf]; omega
            · have hi10z' : ¬ (ii : Int) < 10 := by omega
              obtain ⟨wC, hwC⟩ : ∃ wC, wC = wr := ⟨_, rfl⟩
              have HIC : Hid (Inv w wC p g w13.heap.size S6 S7 ⟨1048576, al, bl, [], false, 1⟩ ⟨1048576, al, [], [], false, 1⟩ VS ls) := hide (by rw [hwC]; exact unhide HI)
              have hwC' : wr = wC := hwC.symm
              clear HI HTo' hwC
              go_wp2_with fail
              go_loopw [28, 29] (fun i _ wr => ∃ ii : Nat, ii ≤ 10 ∧ i = .int .i64 ii ∧ wr = wC) (fun i _ _ => 10 - (intOf i).toNat)
              case atStart => exact ⟨0, by omega, rfl, by first | rfl | exact hwC'⟩
              case round =>
                clear hwC'
                obtain ⟨ii, hii, rfl, hwr⟩ := hrel
                subst wr
                by_cases hi10 : ii < 10
                · have hi10z'' : (ii : Int) < 10 := by omega
                  obtain ⟨ra, l0, rc, hv, hl, ho, hc, hp, hs, hlc, hcm⟩ := (unhide HIC).at_ hi10
                  have hmod : ((ii : Int) + 1) % 256 = (ii : Int) + 1 := by omega
                  have hd := unhide HDn ii l0 hi10 hl
                  have HDD := hide hd
                  have HOO := hide ho
                  obtain ⟨n, hn⟩ : ∃ n, n = l0.length := ⟨_, rfl⟩
                  have HNN := hide hn
                  rw [← hn] at hc hp hs hlc
                  clear hd ho hv hl hn
                  go_wp2_with fail
                  go_loopw [29] (fun kk wr => ∃ k : Nat, k ≤ n ∧ kk = .int .i64 k ∧ wr = wC) (fun kk _ => n - (intOf kk).toNat)
                  case atStart => exact ⟨0, by omega, rfl, rfl⟩
                  case round =>
                    obtain ⟨k, hk, rfl, hwr⟩ := hrel
                    subst wr
                    by_cases hkn : k < n
                    · have hkz : (k : Int) < (n : Int) := by omega
                      obtain ⟨rb, hra⟩ := hp (by omega)
                      subst hra
                      have ho1 := (unhide HOO).1
                      have c2 : wC.cell? ⟨rb, k, none⟩ = some (.int .u8 ((ii : Int) + 1)) := by
                        rw [ho1.cellAt k (by rw [← unhide HNN]; omega), U8_at _ _ (by rw [← unhide HNN]; omega), unhide HDD]
                        have h5 := unhide HNN
                        simp only [List.getD_eq_getElem?_getD, List.getElem?_replicate]
                        rw [if_pos (by omega)]
                        rfl
                      clear ho1 hp
                      go_wp2
                      go_roundw
                      case rel => exact ⟨k + 1, by omega, by go_num, by first | rfl | trivial⟩
                      case measure => simp [intOf]; omega
                    · have hkz : ¬ (k : Int) < (n : Int) := by omega
                      go_wp2
                      go_roundw
                      case rel => exact ⟨ii + 1, by omega, by go_num, by first | rfl | trivial⟩
                      case measure => simp [intOf]; omega
                · have hi10z'' : ¬ (ii : Int) < 10 := by omega
                  have hI := unhide HIC
                  have hFi : Calls Try.prog 15 #[.pointer (some ⟨p, 0, none⟩)] wC (FPost al bl wC) := files_any p S6 _ wC hI.ff
                  have HBel := hide hI.bel
                  have HGg := hide hI.fg
                  clear hI
                  go_wp2_with (first
                    | (go_at_call 15; refine hFi2.mono ?_; rintro e wE ⟨u2, v2, rfl, ou2, ov2, au2, av2, auv2, bE⟩; clear hFi2; have BE := hide (bel_then (unhide BD) (bel_sz (unhide BD) (Nat.le_refl _)) bE); obtain ⟨xe, ye, he⟩ := own_parts ou2.1; subst he; obtain ⟨xh, yh, hh⟩ := own_parts ov2.1; subst hh; have hS1 := same_t ⟨xc, al.length, yc, al⟩ ⟨aa, an, ac, al⟩ wE ((unhide OC).ok.later bE) ((unhide HA).later (unhide BE)) (by simp only; have := unhide HAs; omega) rfl; have HS2 : Hid (∀ k, Calls Try.prog 16 #[.slice xd bl.length yd, .slice ba bn bc] (wE.drewN k) fun e w' => e = .returned (.bool true) ∧ ∃ j, w' = (wE.drewN k).drewN j) := hide (fun k => same_t ⟨xd, bl.length, yd, bl⟩ ⟨ba, bn, bc, bl⟩ _ (ok_drewN ((unhide OD).ok.later bE) k) (ok_drewN ((unhide HB).later (unhide BE)) k) (by simp only; have := unhide HBs; omega) rfl); have HS3 : Hid (∀ k, Calls Try.prog 16 #[.slice xe al.length ye, .slice aa an ac] (wE.drewN k) fun e w' => e = .returned (.bool true) ∧ ∃ j, w' = (wE.drewN k).drewN j) := hide (fun k => same_t ⟨xe, al.length, ye, al⟩ ⟨aa, an, ac, al⟩ _ (ok_drewN ou2.ok k) (ok_drewN ((unhide HA).later (unhide BE)) k) (by simp only; have := unhide HAs; omega) rfl); clear ou2 ov2 au2 av2 auv2)
                    | (go_at_call 15; refine hFi.mono ?_; rintro e wD ⟨u1, v1, rfl, ou1, ov1, au1, av1, auv1, bD⟩; clear hFi; have BD := hide (bel_then (unhide HBel) (bel_sz (unhide HBel) (Nat.le_refl _)) bD); obtain ⟨xc, yc, he⟩ := own_parts ou1.1; subst he; obtain ⟨xd, yd, hh⟩ := own_parts ov1.1; subst hh; have OC := hide ou1; have OD := hide ov1; have hFi2 : Calls Try.prog 15 #[.pointer (some ⟨g, 0, none⟩)] wD (FPost al [] wD) := files_any g S7 _ wD ((unhide HGg).later bD); clear ou1 ov1 au1 av1 auv1)
                    | (go_at_call 16; refine hS1.mono ?_; rintro e w' ⟨rfl, q1, hq1⟩; subst w'; clear hS1; have hS2 := unhide HS2 q1)
                    | (go_at_call 16; refine hS2.mono ?_; rintro e w' ⟨rfl, q2, hq2⟩; subst w'; clear hS2; have hS3 := unhide HS3 (q1 + q2))
                    | (go_at_call 16; refine hS3.mono ?_; rintro e w' ⟨rfl, q3, hq3⟩; subst w'; clear hS3))
                  go_ret
                  exact ⟨by simp, below_drewN (unhide BE) _⟩
end Go.Proofs.Ytloeademloclmaa
