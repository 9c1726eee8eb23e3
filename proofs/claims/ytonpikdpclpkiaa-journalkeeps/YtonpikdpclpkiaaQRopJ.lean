import Derived.Test.YtonpikdpclpkiaaQGaF
import Derived.Test.YtonpikdpclpkiaaQOpJ
import Derived.Deep.RegionHeld3
set_option linter.unusedVariables false
namespace Go.Proofs.Ytonpikdpclpkiaa
open Go.RowKit

theorem load_facts (z : Int) (l1 l2 : List Int) : (fsLoad z l1 l2).q = [] ∧ (fsLoad z l1 l2).down = false ∧ (fsLoad z l1 l2).wr = 0 := by simp [fsLoad]
/-- refused, or found -/
theorem reads_cases (s : FlS) (hu : s.down = false) : (∃ er, er ≠ 0 ∧ er ≠ 121 ∧ ∀ s' n, Armd s s' n → s'.jopen = (s', er)) ∨ (∃ sn rs, Fnd s sn rs 9223372036854775807) := by
  by_cases h0 : s.pickC.e = 0
  · refine .inl ⟨140, by decide, by decide, fun s' n h => ?_⟩
    unfold FlS.jopen
    rw [if_neg (by rw [h.dn, hu]; simp), if_pos (by rw [h.pick.2]; exact h0)]
  · by_cases h1 : s.pickC.t.length ≠ 0 ∧ s.pickC.e = 9223372036854775807
    · refine .inl ⟨3, by decide, by decide, fun s' n h => ?_⟩
      unfold FlS.jopen
      rw [if_neg (by rw [h.dn, hu]; simp), if_neg (by rw [h.pick.2]; exact h0)]
      unfold FlS.tidy
      rw [h.pick.2, if_neg h1.1, if_pos h1.2]
    · obtain ⟨m, -, -, h2, -⟩ := pick_hd h0
      exact .inr ⟨s.pickC.s, s.pickC.rs, h0, rfl, rfl, fun _ => h2, fun ht => by omega⟩
/-- between two rounds -/
def RoI (w : World) (pf pg : Nat) (Sg : Nat → Prop) (s0 : FlS) (i : Nat) (wr : World) : Prop :=
  ∃ S s, Fl wr pf S s ∧ Armd s0 s i ∧ Fl wr pg Sg s0 ∧ (∀ k, S k → ¬ Sg k) ∧ Below w.heap.size w wr ∧ (∀ k, S k → w.heap.size ≤ k) ∧ (∀ k, Sg k → w.heap.size ≤ k)
theorem rx_len {B : Nat} {Z : Nat → Prop} {c : Cts} {W : World} {sn : Sl} {rv : Value} {xs : List Rx} (h : RecS B Z c W sn rv xs) : xs.length = c.rs.length := by
  have := congrArg List.length h.rl
  rwa [List.length_map] at this
theorem rx_small {B : Nat} {Z : Nat → Prop} {c : Cts} {W : World} {sn : Sl} {rv : Value} {xs : List Rx} (h : RecS B Z c W sn rv xs) : ∀ s ∈ xs.map Rx.sl, s.n ≤ 1099511627776 := by
  intro s hs
  obtain ⟨x, hx, rfl⟩ := List.mem_map.1 hs
  have := (h.rr.own x hx).2.2
  simp only [Rx.sl]
  omega
/-- is, of what was found twice -/
theorem is_rec {B1 B2 : Nat} {Z1 Z2 : Nat → Prop} {c1 c2 : Cts} {w : World} {s1 s2 : Sl} {ra1 ra2 : Option Addr} {rc1 rc2 n : Nat} {xs1 xs2 : List Rx} (ep cut : Int) (h1 : RecS B1 Z1 c1 w s1 (.slice ra1 n rc1) xs1) (h2 : RecS B2 Z2 c2 w s2 (.slice ra2 n rc2) xs2) (e1 : c1.s = c2.s) (e2 : c1.rs = c2.rs) (hn : n = c1.rs.length) (hs : c1.s.length ≤ 262144) (hl : n ≤ 1048576) :
    Calls Try.prog 11 #[.agg #[s1.v, .slice ra1 n rc1], .agg #[.int .i64 ep, s2.v, .slice ra2 n rc2, .int .i64 cut]] w fun e w' => e = .returned (.bool true) ∧ Below w.heap.size w w' := by
  have l1 := rx_len h1
  have l2 := rx_len h2
  have h := is_any ep cut s1 s2 ra1 ra2 rc1 rc2 (xs1.map Rx.sl) (xs2.map Rx.sl) w h1.sok h2.sok h1.rr.sls h2.rr.sls (.inl (by rw [← h1.sok.len, h1.sl]; omega)) (.inl (rx_small h1)) (by rw [List.length_map]; omega) (by rw [List.length_map]; rw [l2, ← e2]; omega)
  rw [decide_eq_true ⟨by rw [h1.sl, h2.sl, e1], by rw [rx_map, rx_map, h1.rl, h2.rl, e2]⟩] at h
  rw [List.length_map, List.length_map, l1, l2, ← e2, ← hn] at h
  exact h
set_option maxHeartbeats 8000000 in
set_option maxRecDepth 100000 in
theorem reopens_law (z : Int) (a b : Sl) (o : Ops) (w : World) (ha : a.Ok w) (hb : b.Ok w) (ho : o.Ok w) (hon : o.n ≤ 140737488351232) :
    Calls Try.prog 3 #[.int .i64 z, a.v, b.v, o.v] w fun e w' => e = .returned (.bool true) ∧ Below w.heap.size w w' := by
  have hL := load_any z a b w ha hb
  obtain ⟨n3, n4, n5⟩ := load_facts z a.l b.l
  obtain ⟨s0, hs0⟩ : ∃ s, s = fsLoad z a.l b.l := ⟨_, rfl⟩
  have hcs := reads_cases (fsLoad z a.l b.l) n4
  rw [← hs0] at hL n3 n4 n5 hcs
  have HA := hide ha
  have HB := hide hb
  have HO := hide ho
  have HW0 : Hid (s0.wr = 0 ∧ s0.down = false ∧ s0.q = []) := hide ⟨n5, n4, n3⟩
  have HS0 := hide hs0
  obtain ⟨aa, an, ac, al⟩ := a
  obtain ⟨ba, bn, bc, bl⟩ := b
  obtain ⟨oa, on, oc, os⟩ := o
  simp only at hon
  simp only [Sl.v, Ops.v] at hL ⊢
  clear ha hb ho hs0 n3 n4 n5
  rcases hcs with hA0 | hB0
  · as_aux_lemma =>
    go_enter Try.func3, Try.ntmps3
    go_wp2_with (first
      | (go_at_call 7; refine hL2.mono ?_; rintro e w2 ⟨pg, Sg, rfl, g1, g2, g3⟩; clear hL2
         have HST : Hid (RoI w pf pg Sg s0 0 w2) := hide ⟨S, s0, (unhide HF1).later g3, ⟨rfl, rfl, rfl, rfl, by rw [(unhide HW0).2.2]; exact Nat.le_refl _⟩, g1, fun k h1 h2 => by have h3 := (unhide HF1).lt k h1; have h4 := g2 k h2; omega, bel_then (unhide HB1) (unhide HB1).size g3, unhide HS1, fun k hk => Nat.le_trans (unhide HB1).size (g2 k hk)⟩
         clear g1 g2 g3)
      | (go_at_call 7; refine hL.mono ?_; rintro e w1 ⟨pf, S, rfl, h1, h2, h3⟩; clear hL
         have hL2 := load_any z ⟨aa, an, ac, al⟩ ⟨ba, bn, bc, bl⟩ w1 ((unhide HA).later h3) ((unhide HB).later h3)
         rw [← unhide HS0] at hL2
         simp only [Sl.v] at hL2
         have HF1 := hide h1
         have HS1 := hide h2
         have HB1 := hide h3
         clear h1 h2 h3))
    go_loopw [11] (fun v wr => ∃ i : Nat, i ≤ on ∧ v = .int .i64 i ∧ RoI w pf pg Sg s0 i wr) (fun v _ => on - (intOf v).toNat)
    case atStart => exact ⟨0, Nat.zero_le _, rfl, unhide HST⟩
    case round =>
      clear HST
      obtain ⟨i, hi, rfl, S1, s1, hF, hA, hG, hdis, hB, hS, hSg⟩ := hrel
      have HF := hide hF
      have HAr := hide hA
      have HG := hide hG
      have HDI := hide hdis
      have HBW := hide hB
      have HSS := hide hS
      have HSG := hide hSg
      by_cases hlt : i < on
      · have hlz : (i : Int) < (on : Int) := by omega
        have hok := (unhide HO).later hB
        have hle : on = os.length := (unhide HO).len.symm
        obtain ⟨q, hq9⟩ : ∃ q, os[i]? = some q := ⟨_, List.getElem?_eq_getElem (by omega)⟩
        obtain ⟨ob, off, hoa, -, y0, y1, y2, y3, y4⟩ := hok.at_ hq9
        obtain ⟨kd, qd, qs, ox, oy⟩ := q
        have hoa' : oa = some ⟨ob, off, none⟩ := hoa
        subst hoa'
        simp only at y3 y4
        have hM : Hid (∀ k, Calls Try.prog 8 #[.pointer (some ⟨pf, 0, none⟩), .int .i64 ox, .int .i64 oy] (wr.drewN k) fun e w' => e = .returned (.int .i64 (s1.arm ox oy).2) ∧ ∃ S', FSt pf S1 (s1.arm ox oy).1 wr w' S') := hide (fun k => (arm_any pf S1 s1 ox oy (wr.drewN k) (hF.drewN k)).mono (fun e w' ⟨h1, S', h2⟩ => ⟨h1, S', h2.later (below_drewN (Below.refl _ _) k)⟩))
        have HOK := hide hok
        have HQ9 := hide hq9
        clear hF hA hG hdis hB hS hSg hok hle hq9 hoa y0 y1 y2
        go_wp2_with fail
        go_region_held3 (fun w' => w'.cell? ⟨ob, off + i * 5 + 3, none⟩ = some (.int .i64 ox) ∧ w'.cell? ⟨ob, off + i * 5 + 4, none⟩ = some (.int .i64 oy)) (go_keep) (first | (go_at_call 8; refine (unhide hM 1).mono ?_; rintro e w3 ⟨rfl, S3, k3⟩; have B3 := k3.belJ (unhide HBW) (unhide HBW).size (unhide HSS); obtain ⟨b', f', ha', -, z0, z1, z2, y3, y4⟩ := ((unhide HO).later B3).at_ (unhide HQ9); simp only [Option.some.injEq, Addr.mk.injEq, and_true] at ha'; obtain ⟨rfl, rfl⟩ := ha'; simp only at y3 y4; have HK3 := hide k3; clear k3 B3 z0 z1 z2))
        go_wp2
        go_roundw
        case rel =>
          have k3 := unhide HK3
          refine ⟨i + 1, by omega, by go_num, S3, _, k3.fl, arm_armd (unhide HAr) ox oy, (unhide HG).keep k3.but (fun k h1 h2 => unhide HDI k h2 h1), fun k h1 h2 => ?_, k3.belJ (unhide HBW) (unhide HBW).size (unhide HSS), k3.aboveJ (unhide HBW).size (unhide HSS), unhide HSG⟩
          rcases k3.at_ k h1 with h3 | h3
          · exact unhide HDI k h3 h2
          · have := (unhide HG).lt k h2; omega
        case measure => simp [intOf]; omega
      · have hii : decide ((i : Int) < (on : Int)) = false := decide_eq_false (by omega)
        have hion : i = on := by omega
        subst hion
        obtain ⟨er, he1, he2, hj⟩ := hA0
        have hjf := hj s1 i hA
        have hjg := hj s0 0 ⟨rfl, rfl, rfl, rfl, by rw [(unhide HW0).2.2]; exact Nat.le_refl _⟩
        have hwA := hA.wr
        have hR := reop_no pf S1 s1 s1 er i wr hF (by omega) (by have := (unhide HW0).1; omega) hjf he1 he2
        have er1 : (er != 0) = true := by rw [bne_iff_ne]; exact he1
        have er2 : (er == 0) = false := by rw [beq_eq_false_iff_ne]; exact he1
        have HJG : Hid (s0.jopen = (s0, er) ∧ er ≠ 0) := hide ⟨hjg, he1⟩
        clear hF hA hG hdis hB hS hSg hjf hjg hj he1 he2 hwA
        go_wp2_with (first
          | (go_at_call 12; refine hK.mono ?_; rintro e w7 ⟨rfl, b7⟩; clear hK; have HB7 := hide b7; clear b7)
          | (go_at_call 11; refine hI.mono ?_; rintro e w6 ⟨rfl, b6⟩; clear hI; have hK := works_any w6; have HB6 := hide b6; clear b6)
          | (go_at_call 10; refine hO.mono ?_; rintro e w5 ⟨rfl, S5, k5⟩; clear hO
             have b5 := k5.belJ (unhide HB4) (unhide HB4).size (unhide HSG)
             have bx := below_alloc w5 (.cells #[.int .i64 0, .slice none 0 0, .slice none 0 0, .int .i64 0] 33)
             have A5 := (k5.but.arr (unhide HA4) (fun hs => Nat.lt_irrefl _ (unhide HN4 _ hs))).later bx
             have hI := is_any 0 0 ⟨none, 0, 0, []⟩ ⟨none, 0, 0, []⟩ none none 0 0 [] [] (w5.alloc (.cells #[.int .i64 0, .slice none 0 0, .slice none 0 0, .int .i64 0] 33)) (sl0_ok _) (sl0_ok _) ⟨fun h => absurd h (by simp), fun q hq => by simp at hq⟩ ⟨fun h => absurd h (by simp), fun q hq => by simp at hq⟩ (.inl (Nat.zero_le _)) (.inl (fun q hq => by simp at hq)) (Nat.zero_le _) (Nat.zero_le _)
             simp only [Sl.v, List.length_nil, List.map_nil, and_self, decide_true] at hI
             have x0 := A5.cell 0
             have x1 := A5.cell 1
             have x2 := A5.cell 2
             have x3 := A5.cell 3
             simp at x0 x1 x2 x3
             have HB5 := hide (bel_then b5 b5.size bx)
             clear k5 b5 bx A5)
          | (go_at_call 9; refine hR.mono ?_; rintro e w4 ⟨rfl, S4, k4⟩; clear hR
             have bx := below_alloc w4 (.cells #[.int .i64 0, .slice none 0 0, .slice none 0 0, .int .i64 0] 33)
             have hG4 := (unhide HG).keep k4.but (fun k h1 h2 => unhide HDI k h2 h1)
             have hO := op_no pg Sg s0 s0 er (w4.alloc (.cells #[.int .i64 0, .slice none 0 0, .slice none 0 0, .int .i64 0] 33)) (hG4.later bx) (by have := (unhide HW0).1; omega) (unhide HJG).1 (unhide HJG).2
             have b4 := k4.belJ (unhide HBW) (unhide HBW).size (unhide HSS)
             have HB4 := hide (bel_then b4 b4.size bx)
             have HA4 := hide (Arr.new w4 33 [.int .i64 0, .slice none 0 0, .slice none 0 0, .int .i64 0])
             have HN4 : Hid (∀ k, Sg k → k < w4.heap.size) := hide hG4.lt
             have HG4 := hide (hG4.later bx)
             clear k4 bx hG4 b4))
        go_ret
        exact ⟨rfl, bel_then (bel_then (unhide HB5) (unhide HB5).size (unhide HB6)) (Nat.le_trans (unhide HB5).size (unhide HB6).size) (unhide HB7)⟩
  · as_aux_lemma =>
    go_enter Try.func3, Try.ntmps3
    go_wp2_with (first
      | (go_at_call 7; refine hL2.mono ?_; rintro e w2 ⟨pg, Sg, rfl, g1, g2, g3⟩; clear hL2
         have HST : Hid (RoI w pf pg Sg s0 0 w2) := hide ⟨S, s0, (unhide HF1).later g3, ⟨rfl, rfl, rfl, rfl, by rw [(unhide HW0).2.2]; exact Nat.le_refl _⟩, g1, fun k h1 h2 => by have h3 := (unhide HF1).lt k h1; have h4 := g2 k h2; omega, bel_then (unhide HB1) (unhide HB1).size g3, unhide HS1, fun k hk => Nat.le_trans (unhide HB1).size (g2 k hk)⟩
         clear g1 g2 g3)
      | (go_at_call 7; refine hL.mono ?_; rintro e w1 ⟨pf, S, rfl, h1, h2, h3⟩; clear hL
         have hL2 := load_any z ⟨aa, an, ac, al⟩ ⟨ba, bn, bc, bl⟩ w1 ((unhide HA).later h3) ((unhide HB).later h3)
         rw [← unhide HS0] at hL2
         simp only [Sl.v] at hL2
         have HF1 := hide h1
         have HS1 := hide h2
         have HB1 := hide h3
         clear h1 h2 h3))
    go_loopw [11] (fun v wr => ∃ i : Nat, i ≤ on ∧ v = .int .i64 i ∧ RoI w pf pg Sg s0 i wr) (fun v _ => on - (intOf v).toNat)
    case atStart => exact ⟨0, Nat.zero_le _, rfl, unhide HST⟩
    case round =>
      clear HST
      obtain ⟨i, hi, rfl, S1, s1, hF, hA, hG, hdis, hB, hS, hSg⟩ := hrel
      have HF := hide hF
      have HAr := hide hA
      have HG := hide hG
      have HDI := hide hdis
      have HBW := hide hB
      have HSS := hide hS
      have HSG := hide hSg
      by_cases hlt : i < on
      · have hlz : (i : Int) < (on : Int) := by omega
        have hok := (unhide HO).later hB
        have hle : on = os.length := (unhide HO).len.symm
        obtain ⟨q, hq9⟩ : ∃ q, os[i]? = some q := ⟨_, List.getElem?_eq_getElem (by omega)⟩
        obtain ⟨ob, off, hoa, -, y0, y1, y2, y3, y4⟩ := hok.at_ hq9
        obtain ⟨kd, qd, qs, ox, oy⟩ := q
        have hoa' : oa = some ⟨ob, off, none⟩ := hoa
        subst hoa'
        simp only at y3 y4
        have hM : Hid (∀ k, Calls Try.prog 8 #[.pointer (some ⟨pf, 0, none⟩), .int .i64 ox, .int .i64 oy] (wr.drewN k) fun e w' => e = .returned (.int .i64 (s1.arm ox oy).2) ∧ ∃ S', FSt pf S1 (s1.arm ox oy).1 wr w' S') := hide (fun k => (arm_any pf S1 s1 ox oy (wr.drewN k) (hF.drewN k)).mono (fun e w' ⟨h1, S', h2⟩ => ⟨h1, S', h2.later (below_drewN (Below.refl _ _) k)⟩))
        have HOK := hide hok
        have HQ9 := hide hq9
        clear hF hA hG hdis hB hS hSg hok hle hq9 hoa y0 y1 y2
        go_wp2_with fail
        go_region_held3 (fun w' => w'.cell? ⟨ob, off + i * 5 + 3, none⟩ = some (.int .i64 ox) ∧ w'.cell? ⟨ob, off + i * 5 + 4, none⟩ = some (.int .i64 oy)) (go_keep) (first | (go_at_call 8; refine (unhide hM 1).mono ?_; rintro e w3 ⟨rfl, S3, k3⟩; have B3 := k3.belJ (unhide HBW) (unhide HBW).size (unhide HSS); obtain ⟨b', f', ha', -, z0, z1, z2, y3, y4⟩ := ((unhide HO).later B3).at_ (unhide HQ9); simp only [Option.some.injEq, Addr.mk.injEq, and_true] at ha'; obtain ⟨rfl, rfl⟩ := ha'; simp only at y3 y4; have HK3 := hide k3; clear k3 B3 z0 z1 z2))
        go_wp2
        go_roundw
        case rel =>
          have k3 := unhide HK3
          refine ⟨i + 1, by omega, by go_num, S3, _, k3.fl, arm_armd (unhide HAr) ox oy, (unhide HG).keep k3.but (fun k h1 h2 => unhide HDI k h2 h1), fun k h1 h2 => ?_, k3.belJ (unhide HBW) (unhide HBW).size (unhide HSS), k3.aboveJ (unhide HBW).size (unhide HSS), unhide HSG⟩
          rcases k3.at_ k h1 with h3 | h3
          · exact unhide HDI k h3 h2
          · have := (unhide HG).lt k h2; omega
        case measure => simp [intOf]; omega
      · have hii : decide ((i : Int) < (on : Int)) = false := decide_eq_false (by omega)
        have hion : i = on := by omega
        subst hion
        obtain ⟨sn, rs, hf0⟩ := hB0
        have hf1 : Fnd s1 sn rs 9223372036854775807 := hf0.of hA.pick.2
        have hwA := hA.wr
        have hR := reop_ok pf S1 s1 i sn rs 9223372036854775807 wr hF (by omega) (by have := (unhide HW0).1; omega) hf1 (Nat.le_refl _) (.inl ⟨by rw [hA.dn]; exact (unhide HW0).2.1, hA.ql⟩)
        have hg0 : ∃ s', s0.jopen = (s', 0) ∧ JI s' s0.openJ sn rs := by
          rcases opens hf0 (Nat.le_refl _) (unhide HW0).2.1 hG.ok with ⟨s', e, h1, -⟩ | ⟨s', -, -, -, -, h1, -⟩
          · exact ⟨s', e, h1⟩
          · rw [(unhide HW0).2.2] at h1; simp at h1
        obtain ⟨s0', hg1, hg2⟩ := hg0
        have hrl := (pick_ct hG.ok hf0.e0).fl
        have hrn := flatR_len s0.pickC.rs
        rw [hf0.rs] at hrl hrn
        have hsl := (pick_ct hG.ok hf0.e0).sl
        rw [hf0.sn] at hsl
        obtain ⟨rn, hrn0⟩ : ∃ rn, rn = rs.length := ⟨_, rfl⟩
        simp only [← hrn0] at hR
        have HRN : Hid (rn = rs.length ∧ rn ≤ 1048576 ∧ sn.length ≤ 262144) := hide ⟨hrn0, by omega, by omega⟩
        have HF0 := hide hf0
        have HG12 : Hid (s0.jopen = (s0', 0) ∧ JI s0' s0.openJ sn rs) := hide ⟨hg1, hg2⟩
        clear hF hA hG hdis hB hS hSg hf0 hf1 hwA hg1 hg2 hrl hrn hsl hrn0
        go_wp2_with (first
          | (go_at_call 14; refine hW9.mono ?_; rintro e w5 ⟨rfl, hw5⟩; obtain rfl := hw5.symm; clear hW9)
          | (go_at_call 14; refine hW.mono ?_; rintro e w5 ⟨rfl, hw5⟩; obtain rfl := hw5.symm; clear hW)
          | (go_at_call 10; refine hO3.mono ?_; rintro e w8 ⟨S8, jp3, a3, m3, c3, ra3, rc3, cut3, xs3, l3, rfl, k8⟩; clear hO3
             have hcut := k8.cut_
             rw [(unhide HJ7).pick.2] at hcut
             simp only [List.length_nil, Int.cast_ofNat_Int] at hcut
             subst hcut
             have bx := below_alloc w8 (.cells #[.int .i64 (JS.ep j1 : Nat), .slice a3 m3 c3, .slice ra3 rn rc3, .int .i64 0] 33)
             have hA8 := (k8.fst.but.arr (unhide HA7) (unhide HN7)).later bx
             have hR8 := ((unhide HR7).keep k8.fst.but (unhide HT7)).later bx
             have hrec8 := k8.rec_
             simp only [← (unhide HRN).1] at hrec8
             have HI3 : Hid (∀ k, Calls Try.prog 11 #[.agg #[.slice a3 m3 c3, .slice ra3 rn rc3], .agg #[.int .i64 (JS.ep j1 : Nat), .slice a1 m1 c1, .slice ra1 rn rc1, .int .i64 cut1]] ((w8.alloc (.cells #[.int .i64 (JS.ep j1 : Nat), .slice a3 m3 c3, .slice ra3 rn rc3, .int .i64 0] 33)).drewN k) fun e w' => e = .returned (.bool true) ∧ Below (w8.alloc (.cells #[.int .i64 (JS.ep j1 : Nat), .slice a3 m3 c3, .slice ra3 rn rc3, .int .i64 0] 33)).heap.size (w8.alloc (.cells #[.int .i64 (JS.ep j1 : Nat), .slice a3 m3 c3, .slice ra3 rn rc3, .int .i64 0] 33)) w') := hide (fun k => (is_rec (JS.ep j1 : Nat) cut1 ((hrec8.later bx).later (below_drewN (Below.refl _ _) k)) (hR8.later (below_drewN (Below.refl _ _) k)) (by rw [k8.cs, (unhide HK4).cs]) (by rw [k8.crs, (unhide HK4).crs]) (by rw [k8.crs]; exact (unhide HRN).1) (by rw [k8.cs]; exact (unhide HRN).2.2) (unhide HRN).2.1).mono (fun e w' ⟨h1, h2⟩ => ⟨h1, below_undrewN h2⟩))
             have HCT : Hid ((j1.cnt : Int) = (rn : Int)) := hide (by rw [(unhide HK4).ji.ct, (unhide HRN).1])
             have hW9 := writes_any pf S8 _ (w8.alloc (.cells #[.int .i64 (JS.ep j1 : Nat), .slice a3 m3 c3, .slice ra3 rn rc3, .int .i64 0] 33)) (k8.fst.fl.later bx)
             have hC9 : Jn (w8.alloc (.cells #[.int .i64 (JS.ep j1 : Nat), .slice a3 m3 c3, .slice ra3 rn rc3, .int .i64 0] 33)) jp3 pf (some j1) := (bx.block jp3 k8.jn.lt).trans k8.jn
             have x0 := hA8.cell 0
             have x1 := hA8.cell 1
             have x2 := hA8.cell 2
             have x3 := hA8.cell 3
             simp at x0 x1 x2 x3
             have hA9 := Arr.new w8 33 [.int .i64 (JS.ep j1 : Nat), .slice a3 m3 c3, .slice ra3 rn rc3, .int .i64 0]
             have v1 := hA9.cell 1
             have v2 := hA9.cell 2
             simp at v1 v2
             have b8 := k8.fst.belJ (unhide HB7) (unhide HB7).size (unhide HSS7)
             have HB9 := hide (bel_then b8 b8.size bx)
             have HC9 := hide hC9
             have HA8 := hide hA8
             have HA9 := hide hA9
             have HBW9 : Hid (Below w.heap.size w (w8.alloc (.cells #[.int .i64 (JS.ep j1 : Nat), .slice a3 m3 c3, .slice ra3 rn rc3, .int .i64 0] 33))) := HB9
             clear k8 bx hA8 hR8 hC9 b8 hA9 hrec8)
          | (go_at_call 13; refine hD.mono ?_; rintro e w7 ⟨rfl, S7, k7⟩; clear hD
             have hi7 := ((unhide HK4).ji.disarm)
             have hoj := hi7.openJ
             have hpk := hi7.pick.2
             have hag := open_again hi7 (unhide HK4).oth
             have hW := writes_any pf S7 _ w7 k7.fl
             have h1 := hi7.e1
             have hO3 := op_ok pf S7 _ _ sn rs w7 k7.fl (by have := unhide HWR4; simp only; omega) hag (by rw [hoj]; exact hi7) (by rw [hpk]) (by rw [hpk]) hi7.up (by rw [hpk]; simp only; omega)
             rw [hoj] at hO3
             simp only [← (unhide HRN).1] at hO3
             have HJ7 := hide hi7
             have HA7 := hide (k7.but.arr (unhide HA6) (fun hs => Nat.lt_irrefl _ ((unhide HL4) _ hs)))
             have HR7 := hide ((unhide HR6).keep k7.but (fun k _ h => .inl h))
             have HT7 : Hid (∀ k, wr.heap.size ≤ k → S7 k → (S4 k ∨ False ∨ k = jp1 ∨ w6.heap.size ≤ k)) := hide (fun k _ hs => (k7.at_ k hs).imp id (fun h => .inr (.inr h)))
             have HN7 : Hid (¬ S7 w4.heap.size) := hide (fun hs => by rcases k7.at_ _ hs with h | h; exact Nat.lt_irrefl _ ((unhide HL4) _ h); have := (unhide HA6).lt; omega)
             have HB7 := hide (k7.belJ (unhide HB6) (unhide HB6).size (unhide HSS4))
             have HSS7 := hide (k7.aboveJ (unhide HB6).size (unhide HSS4))
             clear k7 hi7 hoj hpk hag h1)
          | (go_at_call 11; refine hI.mono ?_; rintro e w6 ⟨rfl, b6⟩; clear hI
             have hD := disarm_any pf S4 s4 w6 ((unhide HFl5).later b6)
             have hA6 := (unhide HA5).later b6
             have y0 := hA6.cell 0
             simp at y0
             have HA6 := hide hA6
             have hR6 := (unhide HRec5).later b6
             have HR6 : Hid (RecS wr.heap.size (fun k => S4 k ∨ False ∨ k = jp1 ∨ w6.heap.size ≤ k) ct1 w6 ⟨a1, m1, c1, l1⟩ (.slice ra1 rn rc1) xs1) := hide (hR6.to (Nat.le_refl _) (fun k _ hk h => by rcases h with h | h | h | h; exact .inl h; exact .inr (.inl h); exact .inr (.inr h); omega))
             have HB6 := hide (bel_then (unhide HB5) (unhide HB5).size b6)
             clear b6 hA6 hR6)
          | (go_at_call 10; refine hO.mono ?_; rintro e w5 ⟨S5, jp2, a2, m2, c2, ra2, rc2, cut2, xs2, l2, rfl, k5⟩; clear hO
             have bx := below_alloc w5 (.cells #[.int .i64 (s0.openJ.ep : Nat), .slice a2 m2 c2, .slice ra2 rn rc2, .int .i64 cut2] 33)
             have hlt := (unhide HG).lt
             have hR5 := ((unhide HRec4).keep k5.fst.but (fun k hk hs => absurd (hlt k hs) (by omega))).later bx
             have hFl5 := ((unhide HFl4).keep k5.fst.but (fun k h1 h2 => by rcases (unhide HK4).fst.at_ k h1 with h3 | h3; exact unhide HDI k h3 h2; have := hlt k h2; omega)).later bx
             have hA5 := (k5.fst.but.arr (unhide HA4) (fun hs => by have := hlt _ hs; have h9 := (unhide HK4).fst.but.size; omega)).later bx
             have hrec5 := k5.rec_
             simp only [← (unhide HRN).1] at hrec5
             have hI := is_rec (JS.ep j1 : Nat) cut1 (hrec5.later bx) hR5 (by rw [k5.cs, (unhide HK4).cs]) (by rw [k5.crs, (unhide HK4).crs]) (by rw [k5.crs]; exact (unhide HRN).1) (by rw [k5.cs]; exact (unhide HRN).2.2) (unhide HRN).2.1
             simp only [Sl.v] at hI
             have x0 := hA5.cell 0
             have x1 := hA5.cell 1
             have x2 := hA5.cell 2
             have x3 := hA5.cell 3
             simp at x0 x1 x2 x3
             have b5 := k5.fst.belJ (unhide HB4) (unhide HB4).size (unhide HSG)
             have HB5 := hide (bel_then b5 b5.size bx)
             have HRec5 := hide hR5
             have HFl5 := hide hFl5
             have HA5 := hide hA5
             clear k5 bx hlt hR5 hFl5 hA5 b5 hrec5)
          | (go_at_call 9; refine hR.mono ?_; rintro e w4 ⟨s4, S4, j1, jp1, a1, m1, c1, ra1, rc1, cut1, ct1, xs1, l1, rfl, k4, hep, hql, hwr4⟩; clear hR
             have bx := below_alloc w4 (.cells #[.int .i64 (JS.ep j1 : Nat), .slice a1 m1 c1, .slice ra1 rn rc1, .int .i64 cut1] 33)
             have hG4 := (unhide HG).keep k4.fst.but (fun k h1 h2 => unhide HDI k h2 h1)
             have hO := op_ok pg Sg s0 s0' sn rs (w4.alloc (.cells #[.int .i64 (JS.ep j1 : Nat), .slice a1 m1 c1, .slice ra1 rn rc1, .int .i64 cut1] 33)) (hG4.later bx) (by have := (unhide HW0).1; omega) (unhide HG12).1 (unhide HG12).2 (unhide HF0).sn (unhide HF0).rs (unhide HW0).2.1 (unhide HF0).e0
             simp only [← (unhide HRN).1] at hO
             have HWR4 : Hid (s4.wr + 100 < 4000000000000000000) := hide (by have h1 := (unhide HW0).1; have h2 := (unhide HAr).wr; have h3 := (unhide HAr).ql; omega)
             have hrec := k4.rec_
             simp only [← (unhide HRN).1] at hrec
             have HRec4 := hide (hrec.later bx)
             have HFl4 := hide (k4.fst.fl.later bx)
             have HL4 : Hid (∀ k, S4 k → k < w4.heap.size) := hide k4.fst.fl.lt
             have HA4 := hide (Arr.new w4 33 [.int .i64 (JS.ep j1 : Nat), .slice a1 m1 c1, .slice ra1 rn rc1, .int .i64 cut1])
             have b4 := k4.fst.belJ (unhide HBW) (unhide HBW).size (unhide HSS)
             have HB4 := hide (bel_then b4 b4.size bx)
             have HSS4 := hide (k4.fst.aboveJ (unhide HBW).size (unhide HSS))
             have HK4 := hide k4
             clear k4 bx hG4 hep hql hwr4 hrec b4))
        obtain ⟨W9, hW9⟩ : ∃ W, W = w8.alloc (.cells #[.int .i64 (JS.ep j1 : Nat), .slice a3 m3 c3, .slice ra3 rn rc3, .int .i64 0] 33) := ⟨_, rfl⟩
        rw [← hW9] at HI3 HC9 HA8 HA9 HBW9 ⊢
        have x0 : W9.cell? ⟨w4.heap.size, 0, none⟩ = some (.int .i64 (JS.ep j1 : Nat)) := (unhide HA8).cell 0
        have x1 : W9.cell? ⟨w4.heap.size, 1, none⟩ = some (.slice a1 m1 c1) := (unhide HA8).cell 1
        have x2 : W9.cell? ⟨w4.heap.size, 2, none⟩ = some (.slice ra1 rn rc1) := (unhide HA8).cell 2
        have x3 : W9.cell? ⟨w4.heap.size, 3, none⟩ = some (.int .i64 cut1) := (unhide HA8).cell 3
        have v1 : W9.cell? ⟨w8.heap.size, 1, none⟩ = some (.slice a3 m3 c3) := (unhide HA9).cell 1
        have v2 : W9.cell? ⟨w8.heap.size, 2, none⟩ = some (.slice ra3 rn rc3) := (unhide HA9).cell 2
        have hct : ((j1.cnt : Int) == (rn : Int)) = true := by rw [beq_iff_eq]; exact unhide HCT
        clear hW9 HB9
        go_region_held3 (fun w' => w'.cell? ⟨w8.heap.size, 1, none⟩ = some (.slice a3 m3 c3) ∧ w'.cell? ⟨w8.heap.size, 2, none⟩ = some (.slice ra3 rn rc3) ∧ w'.cell? ⟨w4.heap.size, 0, none⟩ = some (.int .i64 (JS.ep j1 : Nat)) ∧ w'.cell? ⟨w4.heap.size, 1, none⟩ = some (.slice a1 m1 c1) ∧ w'.cell? ⟨w4.heap.size, 2, none⟩ = some (.slice ra1 rn rc1) ∧ w'.cell? ⟨w4.heap.size, 3, none⟩ = some (.int .i64 cut1)) (go_keep) (first
          | (go_at_call 11; refine (unhide HI3 1).mono ?_; rintro e w10 ⟨rfl, b10⟩; have A10 := (unhide HA8).later b10; have V10 := (unhide HA9).later b10; have x0 := A10.cell 0; have x1 := A10.cell 1; have x2 := A10.cell 2; have x3 := A10.cell 3; have v1 := V10.cell 1; have v2 := V10.cell 2; simp at x0 x1 x2 x3 v1 v2; have HC10 : Hid (Jn w10 jp3 pf (some j1)) := hide ((b10.block jp3 (unhide HC9).lt).trans (unhide HC9)); have HA10 := hide A10; have HV10 := hide V10; have HB10 := hide (bel_then (unhide HBW9) (unhide HBW9).size b10); clear b10 A10 V10)
          | (go_at_call 15; refine (jcount_any jp3 pf j1 w10 (unhide HC10)).mono ?_; rintro e w5 ⟨rfl, hw5⟩; obtain rfl := hw5.symm)
          | (go_at_call 12; refine (works_any w10).mono ?_; rintro e w11 ⟨rfl, b11⟩; have A11 := (unhide HA10).later b11; have V11 := (unhide HV10).later b11; have x0 := A11.cell 0; have x1 := A11.cell 1; have x2 := A11.cell 2; have x3 := A11.cell 3; have v1 := V11.cell 1; have v2 := V11.cell 2; simp at x0 x1 x2 x3 v1 v2; have HB11 := hide (bel_then (unhide HB10) (unhide HB10).size b11); clear b11 A11 V11))
        go_wp2
        go_ret
        exact ⟨rfl, unhide HB11⟩
end Go.Proofs.Ytonpikdpclpkiaa
