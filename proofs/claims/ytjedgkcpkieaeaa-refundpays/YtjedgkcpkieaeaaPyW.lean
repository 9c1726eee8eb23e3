import Derived.Test.YtjedgkcpkieaeaaPuN
import Derived.Deep.DeepCutAuto
import Derived.Deep.QuietTactic
import Derived.BigQuiet
set_option linter.unusedSimpArgs false
set_option linter.unusedVariables false
namespace Go.Proofs.Ytjedgkcpkieaeaa
open Go.RowKit

theorem Try.inS16 : (Try.prog.info? 30).map (fun i => (i.zero, i.size)) = some (some (aV ((List.replicate 16 false).flatMap bC)), 16) := by kernel_rfl
/-- what Rides answers -/
def rdV (q : Bool) (r t : Int) : Int := bif q then IntKind.i64.wrap (r - t) else 0
def rdE (q : Bool) : Int := bif q then 0 else 211
theorem rides_u (s r t : Int) (xa : Option Addr) (n xc : Nat) (l : List Bool) (w : World) (hq : Sb w ⟨xa, n, xc, l⟩) (hn : n ≤ 1048576) :
    Calls Try.prog 13 #[aV (rC ⟨s, r, .slice xa n xc, t⟩)] w fun e w' => e = .returned (.tuple #[.int .i64 (rdV (msF l n).isEmpty r t), .int .i64 (rdE (msF l n).isEmpty)]) ∧ Below w.heap.size w w' := by
  cases h : (msF l n).isEmpty with
  | true => exact rides_ok s r t xa n xc l w hq hn h
  | false => exact rides_no s r t xa n xc l w hq hn h
/-- sixteen marks, of which the first are told -/
def pad16 (l : List Bool) : List Bool := l ++ List.replicate (16 - l.length) false
theorem pad16_len {l : List Bool} (h : l.length ≤ 16) : (pad16 l).length = 16 := by simp [pad16]; omega
theorem pad16_zero {n : Nat} (h : n ≤ 16) : pad16 (List.replicate n false) = List.replicate 16 false := by
  simp only [pad16, List.length_replicate, List.replicate_append_replicate]
  congr 1; omega
theorem pad16_set {l : List Bool} {j : Nat} (hj : j < l.length) (q : Bool) : (pad16 l).set j q = pad16 (l.set j q) := by
  simp only [pad16, List.length_set]
  rw [List.set_append_left _ _ hj]
theorem pad16_at {l : List Bool} {j : Nat} (hj : j < l.length) : (pad16 l).getD j false = l.getD j false := by
  simp [pad16, List.getElem?_append_left hj]
theorem msF_mono (l : List Bool) {j n : Nat} (h : j ≤ n) : ∃ t, msF l n = msF l j ++ t := by
  induction n with
  | zero => obtain rfl : j = 0 := by omega
            exact ⟨[], by simp⟩
  | succ n ih =>
    by_cases e : j = n + 1
    · subst e; exact ⟨[], by simp⟩
    · obtain ⟨t, ht⟩ := ih (by omega)
      cases hq : l.getD n false with
      | true => exact ⟨t, by rw [msF_yes l n hq, ht]⟩
      | false => exact ⟨t ++ [(n : Int) + 1], by rw [msF_no l n hq, ht, List.append_assoc]⟩
theorem msF_at (l : List Bool) {j n : Nat} (h : j < n) (hq : l.getD j false = false) : (msF l n)[(msF l j).length]? = some ((j : Int) + 1) := by
  obtain ⟨t, ht⟩ := msF_mono l (show j + 1 ≤ n by omega)
  rw [ht, msF_no l j hq]
  simp
set_option maxHeartbeats 20000000 in
set_option maxRecDepth 100000 in
theorem pays21_law (r n0 : Int) (a : Sx Akn) (w : World) (ha : Sk w a) (han : a.n ≤ 140737488351232) :
    Calls Try.prog 3 #[.int .i64 r, .int .i64 n0, a.v] w fun e w' => e = .returned (.bool true) ∧ Below w.heap.size w w' := by
  obtain ⟨aa, an, ac, ax⟩ := a
  simp only [Sx.v] at *
  have HLA : Hid (ax.length = an) := hide ha.len
  have hS := Hs17.begin w (fun w => Sk w ⟨aa, an, ac, ax⟩) (fun w' ho => ha.old ho)
  clear ha
  by_cases hmany : 300 < (an : Int)
  · go_enter Try.func3, Try.ntmps3
    go_upto_region 1 with fail
    refine wp_region_lit ?_
    refine wl (by kernel_rfl) fun kQ hkQ => ?_
    go_simp
    refine hkQ _ _ ?_
    clear hkQ kQ
    refine wl (by kernel_rfl) fun kQ hkQ => ?_
    go_simp
    refine hkQ _ _ ?_
    clear hkQ kQ
    refine wl (by kernel_rfl) fun kQ hkQ => ?_
    go_simp
    refine hkQ _ _ ?_
    clear hkQ kQ
    refine wl (by kernel_rfl) fun kQ hkQ => ?_
    go_simp
    refine hkQ _ _ ?_
    clear hkQ kQ
    refine wl_skip (by kernel_rfl) ?_
    simp [Act.put]
    refine wl_skip (by kernel_rfl) ?_
    simp [Act.put]
    refine wl_skip (by kernel_rfl) ?_
    simp [Act.put]
    refine wl_skip (by kernel_rfl) ?_
    simp [Act.put]
    refine wl (by kernel_rfl) fun kQ hkQ => ?_
    go_simp
    refine hkQ _ _ ?_
    clear hkQ kQ
    refine wpList_nil ?_
    go_upto_region 2 with fail
    refine wp_region_lit ?_
    refine wl (by kernel_rfl) fun kQ hkQ => ?_
    go_simp
    refine hkQ _ _ ?_
    clear hkQ kQ
    refine wl (by kernel_rfl) fun kQ hkQ => ?_
    go_simp
    refine hkQ _ _ ?_
    clear hkQ kQ
    refine wl (by kernel_rfl) fun kQ hkQ => ?_
    go_simp
    refine hkQ _ _ ?_
    clear hkQ kQ
    refine wl (by kernel_rfl) fun kQ hkQ => ?_
    go_simp
    refine hkQ _ _ ?_
    clear hkQ kQ
    refine wl_skip (by kernel_rfl) ?_
    simp [Act.put]
    refine wl (by kernel_rfl) fun kQ hkQ => ?_
    go_simp
    refine hkQ _ _ ?_
    clear hkQ kQ
    refine wl (by kernel_rfl) fun kQ hkQ => ?_
    go_simp
    refine hkQ _ _ ?_
    clear hkQ kQ
    refine wpList_nil ?_
    go_wp2_with fail
    go_ret
    exact ⟨rfl, hS.bel⟩
  · by_cases hin : 1 ≤ r ∧ r ≤ 4096 ∧ 1 ≤ n0 ∧ n0 ≤ 16
    · obtain ⟨h1, h2, h3', h4'⟩ := hin
      obtain ⟨n, rfl⟩ : ∃ n : Nat, n0 = (n : Int) := ⟨n0.toNat, by omega⟩
      have h3 : 1 ≤ n := by omega
      have h4 : n ≤ 16 := by omega
      have hn : n ≤ 1048576 := by omega
      obtain ⟨N0, hN0⟩ : ∃ N, N = List.replicate n false := ⟨_, rfl⟩
      have HN0 := hide hN0
      have ha3 : an ≤ 300 := by omega
      clear hN0 h3' h4' han
      go_enter Try.func3, Try.ntmps3
      go_upto_region 1 with fail
      refine wp_region_lit ?_
      refine wl (by kernel_rfl) fun kQ hkQ => ?_
      go_simp
      refine hkQ _ _ ?_
      clear hkQ kQ
      refine wl (by kernel_rfl) fun kQ hkQ => ?_
      go_simp
      refine hkQ _ _ ?_
      clear hkQ kQ
      refine wl (by kernel_rfl) fun kQ hkQ => ?_
      go_simp
      refine hkQ _ _ ?_
      clear hkQ kQ
      refine wl (by kernel_rfl) fun kQ hkQ => ?_
      go_simp
      refine hkQ _ _ ?_
      clear hkQ kQ
      refine wl (by kernel_rfl) fun kQ hkQ => ?_
      go_simp
      refine hkQ _ _ ?_
      clear hkQ kQ
      refine wl (by kernel_rfl) fun kQ hkQ => ?_
      go_simp
      refine hkQ _ _ ?_
      clear hkQ kQ
      refine wl (by kernel_rfl) fun kQ hkQ => ?_
      go_simp
      refine (within_yes r n _ h1 h2 (by omega) (by omega)).mono ?_
      rintro e w1 ⟨rfl, hb1⟩
      replace hS := hS.later hb1
      refine hkQ _ _ ?_
      clear hkQ kQ hb1
      refine wl (by kernel_rfl) fun kQ hkQ => ?_
      go_simp
      refine hkQ _ _ ?_
      clear hkQ kQ
      refine wl (by kernel_rfl) fun kQ hkQ => ?_
      go_simp
      refine hkQ _ _ ?_
      clear hkQ kQ
      refine wpList_nil ?_
      go_upto_region 3 with fail
      clear hmany
      refine wp_region_lit ?_
      refine wl (by kernel_rfl) fun kQ hkQ => ?_
      go_simp
      refine hkQ _ _ ?_
      clear hkQ kQ
      refine wl (by kernel_rfl) fun kQ hkQ => ?_
      go_simp
      refine hkQ _ _ ?_
      clear hkQ kQ
      refine wl (by kernel_rfl) fun kQ hkQ => ?_
      go_simp
      refine (begin_ok 5 r n _ (by omega) h1 h2 h3 h4).mono ?_
      rintro e w2 ⟨u, rfl, hR9, hb1⟩
      rw [← unhide HN0] at hR9; obtain ⟨hl9, x0, rfl, hg9, hA9⟩ := hR9; replace hS := hS.keepS hb1 (sb_arr hA9 hl9 (by omega)) (fun x hx => by cases hx; exact hg9); clear hg9 hA9 hl9
      refine hkQ _ _ ?_
      clear hkQ kQ hb1
      refine wl (by kernel_rfl) fun kQ hkQ => ?_
      go_simp
      refine hkQ _ _ ?_
      clear hkQ kQ
      refine wl (by kernel_rfl) fun kQ hkQ => ?_
      go_simp
      refine hkQ _ _ ?_
      clear hkQ kQ
      refine wl (by kernel_rfl) fun kQ hkQ => ?_
      go_simp
      refine hkQ _ _ ?_
      clear hkQ kQ
      refine wl_alloc (by kernel_rfl) 27 rfl (rC (⟨0, 0, (.slice none 0 0), 0⟩ : Rfd)) Try.inR hS ?_
      clear hS
      intro g3 w3 hS
      simp [Act.put]
      refine wl_store (by kernel_rfl) 27 (.tmp 7) (.tmp 39) rfl 0 rfl 0 rfl (rC (⟨5, r, (.slice (some ⟨x0, 0, none⟩) n n), 0⟩ : Rfd)) (rC (⟨5, r, (.slice (some ⟨x0, 0, none⟩) n n), 0⟩ : Rfd)) (pt_r (⟨0, 0, (.slice none 0 0), 0⟩ : Rfd) (⟨5, r, (.slice (some ⟨x0, 0, none⟩) n n), 0⟩ : Rfd)) rfl (szR _) (one_r _ _ _ _ _ _) hS ?_
      clear hS
      intro w4 hS
      change Hs17 w [(g3, 27, (rC (⟨5, r, (.slice (some ⟨x0, 0, none⟩) n n), 0⟩ : Rfd)))] _ w4 at hS
      simp [Act.put]
      refine wl (by kernel_rfl) fun kQ hkQ => ?_
      go_simp
      refine hkQ _ _ ?_
      clear hkQ kQ
      refine wpList_nil ?_
      go_upto_region 4 with fail
      refine wp_region_lit ?_
      refine wl (by kernel_rfl) fun kQ hkQ => ?_
      go_simp
      refine hkQ _ _ ?_
      clear hkQ kQ
      refine wl (by kernel_rfl) fun kQ hkQ => ?_
      go_simp
      refine hkQ _ _ ?_
      clear hkQ kQ
      refine wl (by kernel_rfl) fun kQ hkQ => ?_
      go_simp
      refine hkQ _ _ ?_
      clear hkQ kQ
      refine wl (by kernel_rfl) fun kQ hkQ => ?_
      go_simp
      refine (counts_any _).mono ?_
      rintro e w5 ⟨rfl, hb1⟩
      replace hS := hS.later hb1
      refine hkQ _ _ ?_
      clear hkQ kQ hb1
      refine wl (by kernel_rfl) fun kQ hkQ => ?_
      go_simp
      refine hkQ _ _ ?_
      clear hkQ kQ
      refine wl (by kernel_rfl) fun kQ hkQ => ?_
      go_simp
      refine hkQ _ _ ?_
      clear hkQ kQ
      refine wpList_nil ?_
      go_upto_region 6 with fail
      refine wp_region_lit ?_
      refine wl_alloc (by kernel_rfl) 30 rfl ((List.replicate 16 false).flatMap bC) Try.inS16 hS ?_
      clear hS
      intro g6 w6 hS
      simp [Act.put]
      refine wpList_nil ?_
      go_wp2_with fail
      go_loopw [10, 11, 12, 13, 14, 15, 16, 17, 18, 19] (fun vt vi _ _ _ _ _ _ _ _ wr => ∃ (k : Nat) (a : Option Addr) (c : Nat), k ≤ an ∧ vi = .int .i64 k ∧ vt = .int .i64 (akA r n (N0, 0) (ax.take k)).2 ∧ Hs17 w [(g6, 30, ((pad16 (akA r n (N0, 0) (ax.take k)).1).flatMap bC)), (g3, 27, (rC (⟨5, r, (.slice a n c), (akA r n (N0, 0) (ax.take k)).2⟩ : Rfd)))] (fun w => (Sk w ⟨aa, an, ac, ax⟩ ∧ Sb w ⟨a, n, c, (akA r n (N0, 0) (ax.take k)).1⟩)) wr) (fun _ vi _ _ _ _ _ _ _ _ _ => an - (intOf vi).toNat)
      case atStart =>
        refine ⟨0, some ⟨x0, 0, none⟩, n, by omega, rfl, rfl, ?_⟩
        have e : pad16 (akA r n (N0, 0) (ax.take 0)).1 = List.replicate 16 false := by rw [show (akA r n (N0, 0) (ax.take 0)).1 = N0 from rfl, unhide HN0]; exact pad16_zero h4
        rw [e]
        exact hS
      case round =>
        clear hS
        obtain ⟨k, a, c, hk, rfl, rfl, hS⟩ := hrel
        by_cases hlt : k < an
        · have hkz : (k : Int) < (an : Int) := by omega
          obtain ⟨⟨xg, xi⟩, b, off, hxe, hya, hbs, -⟩ := hS.K.1.at_ (k := k) hlt
          simp only at hxe hya
          subst hya
          have HX := hide hxe
          have HCG : Hid (∀ w', Sk w' ⟨some ⟨b, off, none⟩, an, ac, ax⟩ → w'.cell? ⟨b, off + k * 2, none⟩ = some (.int .i64 xg) ∧ w'.cell? ⟨b, off + k * 2 + 1, none⟩ = some (.int .i64 xi)) := hide (fun w' h => by
            obtain ⟨x2, b2, o2, e2, ea, -, hr⟩ := h.at_ (k := k) hlt
            simp only at e2 ea
            cases ea
            rw [hxe] at e2; cases e2
            exact ⟨by simpa using hr 0 _ rfl, by simpa using hr 1 _ rfl⟩)
          have hll : (akA r n (N0, 0) (ax.take k)).1.length = n := by rw [akA_len, unhide HN0]; simp
          obtain ⟨LK, hLK⟩ : ∃ L, (akA r n (N0, 0) (ax.take k)).1 = L := ⟨_, rfl⟩
          obtain ⟨TK, hTK⟩ : ∃ T, (akA r n (N0, 0) (ax.take k)).2 = T := ⟨_, rfl⟩
          rw [hLK] at hS hll
          rw [hTK] at hS ⊢
          have HLL := hide hll
          have HE : Hid (akA r n (N0, 0) (ax.take k) = (LK, TK)) := hide (by rw [← hLK, ← hTK])
          clear hxe hLK hTK hll
          have cg := (unhide HCG wr hS.K.1).1
          have ci := (unhide HCG wr hS.K.1).2
          by_cases hok : xg < 1 ∨ (n : Int) < xg ∨ xi < 0 ∨ r < xi
          · skip
            go_upto_region 11 with fail
            go_cut [12] (fun v wx => v = .bool false ∧ Hs17 w [(g6, 30, ((pad16 LK).flatMap bC)), (g3, 27, (rC (⟨5, r, (.slice a n c), TK⟩ : Rfd)))] (fun w => (Sk w ⟨some ⟨b, off, none⟩, an, ac, ax⟩ ∧ Sb w ⟨a, n, c, LK⟩)) wx)
            case first =>
              have hok2 := hok
              by_cases q0 : xg < 1
              · have q0' : ¬ 1 ≤ xg := by omega
                clear hok hok2
                go_wp2_with fail
                go_meet
                exact ⟨rfl, hS⟩
              · have q0' : 1 ≤ xg := by omega
                by_cases q1 : (n : Int) < xg
                · have q1' : ¬ xg ≤ (n : Int) := by omega
                  clear hok hok2
                  go_wp2_with fail
                  go_meet
                  exact ⟨rfl, hS⟩
                · have q1' : xg ≤ (n : Int) := by omega
                  by_cases q2 : xi < 0
                  · have q2' : ¬ 0 ≤ xi := by omega
                    clear hok hok2
                    go_wp2_with fail
                    go_meet
                    exact ⟨rfl, hS⟩
                  · have q2' : 0 ≤ xi := by omega
                    have q3' : ¬ xi ≤ r := by omega
                    clear hok hok2
                    go_wp2_with fail
                    go_meet
                    exact ⟨rfl, hS⟩
            case rest =>
              obtain ⟨rfl, hS⟩ := hcut
              clear cg ci
              go_upto_region 12 with fail
              go_cut [13, 14] (fun v v' wx => ∃ (gy : Nat), v = .pointer (some ⟨gy, 0, none⟩) ∧ v' = .int .i64 210 ∧ Hs17 w ((gy, 27, (rC zRf)) :: [(g6, 30, ((pad16 LK).flatMap bC)), (g3, 27, (rC (⟨5, r, (.slice a n c), TK⟩ : Rfd)))]) (fun w => (Sk w ⟨some ⟨b, off, none⟩, an, ac, ax⟩ ∧ Sb w ⟨a, n, c, LK⟩)) wx)
              case first =>
                refine wp_region_noPanic ?_
                replace hS := hS.drew
                refine wp_region_held_drew (S := Hs17 w [(g6, 30, ((pad16 LK).flatMap bC)), (g3, 27, (rC (⟨5, r, (.slice a n c), TK⟩ : Rfd)))] (fun w => (Sk w ⟨some ⟨b, off, none⟩, an, ac, ax⟩ ∧ Sb w ⟨a, n, c, LK⟩))) (by kernel_rfl) (hS.sub (((List.Sublist.slnil).cons_cons _).cons_cons _)) (fun hHeld => ?_)
                generalize World.drew _ = w61 at hS hHeld ⊢
                refine wpAnyH_take (i := 0) (oi := _) (v := aV (rC (⟨5, r, (.slice a n c), TK⟩ : Rfd))) rfl (by kernel_rfl) (by kernel_rfl) (by kernel_rfl) (fun _ _ _ h => h) (yl_load (by kernel_rfl) 27 (.tmp 7) rfl 1 rfl 0 rfl (rC (⟨5, r, (.slice a n c), TK⟩ : Rfd)) (At.self _) Try.underlying27 rfl (szR _)) hHeld ?_
                simp [Act.put]
                refine wpAnyH_take (i := 1) (oi := _) (v := (.slice (some ⟨b, off, none⟩) an ac)) rfl (by kernel_rfl) (by kernel_rfl) (by kernel_rfl) (fun _ _ _ h => h) (Or.inl ⟨by rfl, fun w hSw => by go_simp⟩) hHeld ?_
                simp [Act.put]
                refine wpAnyH_take (i := 2) (oi := _) (v := .int .i64 (k : Int)) rfl (by kernel_rfl) (by kernel_rfl) (by kernel_rfl) (fun _ _ _ h => h) (Or.inl ⟨by rfl, fun w hSw => by go_simp⟩) hHeld ?_
                simp [Act.put]
                refine wpAnyH_take (i := 3) (oi := _) (v := (.pointer (some ⟨b, off + k * 2, none⟩))) rfl (by kernel_rfl) (by kernel_rfl) (by kernel_rfl) (fun _ _ _ h => h) (Or.inl ⟨by rfl, fun w hSw => by go_simp⟩) hHeld ?_
                simp [Act.put]
                refine wpAnyH_take (i := 4) (oi := _) (v := (.pointer (some ⟨b, off + k * 2, none⟩))) rfl (by kernel_rfl) (by kernel_rfl) (by kernel_rfl) (fun _ _ _ h => h) (Or.inl ⟨by rfl, fun w hSw => by go_simp⟩) hHeld ?_
                simp [Act.put]
                refine wpAnyH_take (i := 5) (oi := _) (v := .int .i64 xg) rfl (by kernel_rfl) (by kernel_rfl) (by kernel_rfl) (fun _ _ _ h => h) (yl_loadC (by kernel_rfl) 3 (.tmp 90) rfl (b) (off + k * 2) rfl (.int .i64 xg) (fun w hSw => (unhide HCG _ hSw.K.1).1) Try.underlying3 rfl) hHeld ?_
                simp [Act.put]
                refine wpAnyH_take (i := 6) (oi := _) (v := (.slice (some ⟨b, off, none⟩) an ac)) rfl (by kernel_rfl) (by kernel_rfl) (by kernel_rfl) (fun _ _ _ h => h) (Or.inl ⟨by rfl, fun w hSw => by go_simp⟩) hHeld ?_
                simp [Act.put]
                refine wpAnyH_take (i := 7) (oi := _) (v := .int .i64 (k : Int)) rfl (by kernel_rfl) (by kernel_rfl) (by kernel_rfl) (fun _ _ _ h => h) (Or.inl ⟨by rfl, fun w hSw => by go_simp⟩) hHeld ?_
                simp [Act.put]
                refine wpAnyH_take (i := 8) (oi := _) (v := (.pointer (some ⟨b, off + k * 2, none⟩))) rfl (by kernel_rfl) (by kernel_rfl) (by kernel_rfl) (fun _ _ _ h => h) (Or.inl ⟨by rfl, fun w hSw => by go_simp⟩) hHeld ?_
                simp [Act.put]
                refine wpAnyH_take (i := 9) (oi := _) (v := (.pointer (some ⟨b, off + k * 2 + 1, none⟩))) rfl (by kernel_rfl) (by kernel_rfl) (by kernel_rfl) (fun _ _ _ h => h) (Or.inl ⟨by rfl, fun w hSw => by go_simp⟩) hHeld ?_
                simp [Act.put]
                refine wpAnyH_take (i := 10) (oi := _) (v := .int .i64 xi) rfl (by kernel_rfl) (by kernel_rfl) (by kernel_rfl) (fun _ _ _ h => h) (yl_loadC (by kernel_rfl) 3 (.tmp 95) rfl (b) (off + k * 2 + 1) rfl (.int .i64 xi) (fun w hSw => (unhide HCG _ hSw.K.1).2) Try.underlying3 rfl) hHeld ?_
                simp [Act.put]
                refine wpAnyH_ready (rs := [11, 15]) (by kernel_rfl) (by simp) ?_
                refine (AllReadyH.cons rfl (fun kQ hkQ => ?_) (AllReadyH.cons rfl (fun kQ hkQ => ?_) AllReadyH.nil))
                · skip
                  go_simp
                  refine (ack_no 5 r TK a n c LK xg xi _ hS.K.2 hok).mono ?_
                  rintro e w62 ⟨rfl, hb1⟩
                  replace hS := hS.later hb1
                  clear hHeld hb1
                  refine hkQ.out _ _ (hS.sub (((List.Sublist.slnil).cons_cons _).cons_cons _)) (fun hHeld => ?_)
                  clear hkQ kQ
                  refine wpAnyH_take (i := 12) (oi := _) (v := .tuple #[aV (rC zRf), .int .i64 210]) rfl (by kernel_rfl) (by kernel_rfl) (by kernel_rfl) (fun _ _ _ h => h) (Or.inl ⟨by rfl, fun w hSw => by go_simp⟩) hHeld ?_
                  simp [Act.put]
                  refine wpAnyH_take (i := 13) (oi := _) (v := aV (rC zRf)) rfl (by kernel_rfl) (by kernel_rfl) (by kernel_rfl) (fun _ _ _ h => h) (Or.inl ⟨by rfl, fun w hSw => by go_simp⟩) hHeld ?_
                  simp [Act.put]
                  refine wpAnyH_take (i := 14) (oi := _) (v := .int .i64 210) rfl (by kernel_rfl) (by kernel_rfl) (by kernel_rfl) (fun _ _ _ h => h) (Or.inl ⟨by rfl, fun w hSw => by go_simp⟩) hHeld ?_
                  simp [Act.put]
                  refine wpAnyH_ready (rs := [15]) (by kernel_rfl) (by simp) ?_
                  refine (AllReadyH.cons rfl (fun kQ hkQ => ?_) AllReadyH.nil)
                  refine dw (by kernel_rfl) (op_alloc' 27 rfl (rC (⟨0, 0, (.slice none 0 0), 0⟩ : Rfd)) Try.inR hS ?_)
                  clear hS hHeld
                  intro g63 w63 hS
                  refine hkQ.out _ _ (hS.sub ((((List.Sublist.slnil).cons_cons _).cons_cons _).cons _)) (fun hHeld => ?_)
                  clear hkQ kQ
                  simp [Act.put]
                  refine wpAnyH_ready (rs := [16]) (by kernel_rfl) (by simp) ?_
                  refine (AllReadyH.cons rfl (fun kQ hkQ => ?_) AllReadyH.nil)
                  refine dw (by kernel_rfl) (op_store 27 (.tmp 13) (.tmp 98) rfl 0 rfl 0 rfl (rC zRf) (rC zRf) (pt_r (⟨0, 0, (.slice none 0 0), 0⟩ : Rfd) zRf) rfl (szR _) (one_r _ _ _ _ _ _) hS ?_)
                  clear hS hHeld
                  intro w64 hS
                  change Hs17 w [(g63, 27, (rC zRf)), (g6, 30, ((pad16 LK).flatMap bC)), (g3, 27, (rC (⟨5, r, (.slice a n c), TK⟩ : Rfd)))] (fun w => (Sk w ⟨some ⟨b, off, none⟩, an, ac, ax⟩ ∧ Sb w ⟨a, n, c, LK⟩)) w64 at hS
                  refine hkQ.out _ _ (hS.sub ((((List.Sublist.slnil).cons_cons _).cons_cons _).cons _)) (fun hHeld => ?_)
                  clear hkQ kQ
                  simp [Act.put]
                  refine wpAnyH_take (i := 17) (oi := _) (v := .int .i64 210) rfl (by kernel_rfl) (by kernel_rfl) (by kernel_rfl) (fun _ _ _ h => h) (Or.inl ⟨by rfl, fun w hSw => by go_simp⟩) hHeld ?_
                  simp [Act.put]
                  refine wpAnyH_done (by kernel_rfl) ?_ _
                  unfold NoPanic
                  clear hHeld
                  go_wp2
                  go_meet
                  case rel => exact ⟨_, rfl, rfl, hS⟩
                · skip
                  refine dw (by kernel_rfl) (op_alloc' 27 rfl (rC (⟨0, 0, (.slice none 0 0), 0⟩ : Rfd)) Try.inR hS ?_)
                  clear hS hHeld
                  intro g65 w65 hS
                  refine hkQ.out _ _ (hS.sub ((((List.Sublist.slnil).cons_cons _).cons_cons _).cons _)) (fun hHeld => ?_)
                  clear hkQ kQ
                  simp [Act.put]
                  refine wpAnyH_ready (rs := [11]) (by kernel_rfl) (by simp) ?_
                  refine (AllReadyH.cons rfl (fun kQ hkQ => ?_) AllReadyH.nil)
                  go_simp
                  refine (ack_no 5 r TK a n c LK xg xi _ hS.K.2 hok).mono ?_
                  rintro e w66 ⟨rfl, hb1⟩
                  replace hS := hS.later hb1
                  clear hHeld hb1
                  refine hkQ.out _ _ (hS.sub ((((List.Sublist.slnil).cons_cons _).cons_cons _).cons _)) (fun hHeld => ?_)
                  clear hkQ kQ
                  refine wpAnyH_take (i := 12) (oi := _) (v := .tuple #[aV (rC zRf), .int .i64 210]) rfl (by kernel_rfl) (by kernel_rfl) (by kernel_rfl) (fun _ _ _ h => h) (Or.inl ⟨by rfl, fun w hSw => by go_simp⟩) hHeld ?_
                  simp [Act.put]
                  refine wpAnyH_take (i := 13) (oi := _) (v := aV (rC zRf)) rfl (by kernel_rfl) (by kernel_rfl) (by kernel_rfl) (fun _ _ _ h => h) (Or.inl ⟨by rfl, fun w hSw => by go_simp⟩) hHeld ?_
                  simp [Act.put]
                  refine wpAnyH_take (i := 14) (oi := _) (v := .int .i64 210) rfl (by kernel_rfl) (by kernel_rfl) (by kernel_rfl) (fun _ _ _ h => h) (Or.inl ⟨by rfl, fun w hSw => by go_simp⟩) hHeld ?_
                  simp [Act.put]
                  refine wpAnyH_ready (rs := [16]) (by kernel_rfl) (by simp) ?_
                  refine (AllReadyH.cons rfl (fun kQ hkQ => ?_) AllReadyH.nil)
                  refine dw (by kernel_rfl) (op_store 27 (.tmp 13) (.tmp 98) rfl 0 rfl 0 rfl (rC zRf) (rC zRf) (pt_r (⟨0, 0, (.slice none 0 0), 0⟩ : Rfd) zRf) rfl (szR _) (one_r _ _ _ _ _ _) hS ?_)
                  clear hS hHeld
                  intro w67 hS
                  change Hs17 w [(g65, 27, (rC zRf)), (g6, 30, ((pad16 LK).flatMap bC)), (g3, 27, (rC (⟨5, r, (.slice a n c), TK⟩ : Rfd)))] (fun w => (Sk w ⟨some ⟨b, off, none⟩, an, ac, ax⟩ ∧ Sb w ⟨a, n, c, LK⟩)) w67 at hS
                  refine hkQ.out _ _ (hS.sub ((((List.Sublist.slnil).cons_cons _).cons_cons _).cons _)) (fun hHeld => ?_)
                  clear hkQ kQ
                  simp [Act.put]
                  refine wpAnyH_take (i := 17) (oi := _) (v := .int .i64 210) rfl (by kernel_rfl) (by kernel_rfl) (by kernel_rfl) (fun _ _ _ h => h) (Or.inl ⟨by rfl, fun w hSw => by go_simp⟩) hHeld ?_
                  simp [Act.put]
                  refine wpAnyH_done (by kernel_rfl) ?_ _
                  unfold NoPanic
                  clear hHeld
                  go_wp2
                  go_meet
                  case rel => exact ⟨_, rfl, rfl, hS⟩
              case rest =>
                obtain ⟨gy, rfl, rfl, hS⟩ := hcut
                have HL2 := HLL
                go_upto_region 20 with fail
                refine wp_region_lit ?_
                refine wl_load (by kernel_rfl) 27 (.tmp 7) rfl 2 rfl 0 rfl (rC (⟨5, r, (.slice a n c), TK⟩ : Rfd)) (At.self _) Try.underlying27 rfl (szR _) hS ?_
                simp [Act.put]
                refine wl (by kernel_rfl) fun kQ hkQ => ?_
                go_simp
                refine (rides_u 5 r TK a n c LK _ hS.K.2 hn).mono ?_
                rintro e w41 ⟨rfl, hb1⟩
                replace hS := hS.later hb1
                refine hkQ _ _ ?_
                clear hkQ kQ hb1
                refine wl (by kernel_rfl) fun kQ hkQ => ?_
                go_simp
                refine hkQ _ _ ?_
                clear hkQ kQ
                refine wl (by kernel_rfl) fun kQ hkQ => ?_
                go_simp
                refine hkQ _ _ ?_
                clear hkQ kQ
                refine wl (by kernel_rfl) fun kQ hkQ => ?_
                go_simp
                refine hkQ _ _ ?_
                clear hkQ kQ
                refine wl (by kernel_rfl) fun kQ hkQ => ?_
                go_simp
                refine hkQ _ _ ?_
                clear hkQ kQ
                refine wl (by kernel_rfl) fun kQ hkQ => ?_
                go_simp
                refine hkQ _ _ ?_
                clear hkQ kQ
                refine wpList_nil ?_
                go_upto_region 21 with fail
                refine wp_region_lit ?_
                refine wl_load (by kernel_rfl) 27 (.tmp 7) rfl 2 rfl 0 rfl (rC (⟨5, r, (.slice a n c), TK⟩ : Rfd)) (At.self _) Try.underlying27 rfl (szR _) hS ?_
                simp [Act.put]
                refine wl (by kernel_rfl) fun kQ hkQ => ?_
                go_simp
                refine (missing_any 5 r TK a n c LK _ hS.K.2 hn).mono ?_
                rintro e w42 ⟨v, rfl, hO9, hb1⟩
                obtain ⟨sm, rfl, hsx, hsk, hbk⟩ := hO9.si; obtain ⟨ma, mn, mc, mx⟩ := sm; simp only at hsx hbk; subst hsx
                have hmn : (msF LK n).length = mn := hsk.len
                have HMN := hide hmn
                have hml : mn ≤ n := by rw [← hmn]; exact msF_len _ _
                replace hS := hS.keepS hb1 hsk (fun x hx => (hbk x hx).1)
                clear hsk hbk hO9 hmn
                simp only [Sx.v]
                refine hkQ _ _ ?_
                clear hkQ kQ hb1
                refine wl (by kernel_rfl) fun kQ hkQ => ?_
                go_simp
                refine hkQ _ _ ?_
                clear hkQ kQ
                refine wpList_nil ?_
                go_wp2_with fail
                go_loopw [18, 19] (fun vk vg wr => ∃ jj : Nat, jj ≤ n ∧ vg = .int .i64 ((jj : Int) + 1) ∧ vk = .int .i64 ((msF LK jj).length : Nat) ∧ Hs17 w [(gy, 27, (rC zRf)), (g6, 30, ((pad16 LK).flatMap bC)), (g3, 27, (rC (⟨5, r, (.slice a n c), TK⟩ : Rfd)))] (fun w => ((Sk w ⟨some ⟨b, off, none⟩, an, ac, ax⟩ ∧ Sb w ⟨a, n, c, LK⟩) ∧ Si w ⟨ma, mn, mc, msF LK n⟩)) wr) (fun _ vg _ => n + 1 - (intOf vg).toNat)
                case atStart => exact ⟨0, by omega, rfl, rfl, hS⟩
                case round =>
                  clear hS
                  obtain ⟨jj, hjj, rfl, rfl, hS⟩ := hrel
                  by_cases hlt : jj < n
                  · have hjz : (jj : Int) + 1 ≤ (n : Int) := by omega
                    have hj16 : (jj : Int) < 16 := by omega
                    obtain ⟨q, hqe⟩ : ∃ q, LK.getD jj false = q := ⟨_, rfl⟩
                    have cs : wr.cell? ⟨g6, jj, none⟩ = some (.bool q) := by
                      have h := (at_b (l := pad16 LK) (k := jj) (q := q) (by rw [pad16_len (by rw [unhide HL2]; exact h4)]; omega) (by rw [pad16_at (by rw [unhide HL2]; exact hlt)]; exact hqe)).range (hS.get 1 rfl) 0 _ rfl
                      simpa using h
                    have hwj : IntKind.i64.wrap (jj : Int) = (jj : Int) := wrapN jj (by omega)
                    cases q with
                    | true =>
                     as_aux_lemma =>
                      have HK : Hid (msF LK (jj + 1) = msF LK jj) := hide (msF_yes _ _ hqe)
                      obtain ⟨M, hM⟩ : ∃ M : Nat, (msF LK jj).length = M := ⟨_, rfl⟩
                      rw [hM]
                      have HMM := hide hM
                      clear hqe hM
                      go_wp2
                      go_roundw
                      case rel => exact ⟨jj + 1, by omega, by first | rfl | (congr 1; omega), by rw [unhide HK, unhide HMM], hS⟩
                      case measure => simp [intOf]; omega
                    | false =>
                     as_aux_lemma =>
                      have HK : Hid (msF LK (jj + 1) = msF LK jj ++ [(jj : Int) + 1]) := hide (msF_no _ _ hqe)
                      have hat := msF_at LK hlt hqe
                      have hmlt : (msF LK jj).length < mn := by rw [← unhide HMN]; exact (List.getElem?_eq_some_iff.1 hat).1
                      obtain ⟨b2, o2, e2, -, hc2⟩ := hS.K.2.at_ (k := (msF LK jj).length) hmlt
                      simp only at e2 hc2
                      rw [show (msF LK n).getD (msF LK jj).length 0 = (jj : Int) + 1 by rw [List.getD_eq_getElem?_getD, hat]; rfl] at hc2
                      obtain ⟨M, hM⟩ : ∃ M : Nat, (msF LK jj).length = M := ⟨_, rfl⟩
                      rw [hM] at hc2 hmlt ⊢
                      have HMM := hide hM
                      have hMz : (M : Int) < (mn : Int) := by omega
                      subst e2
                      clear hqe hM hat
                      go_wp2
                      go_roundw
                      case rel => exact ⟨jj + 1, by omega, by first | rfl | (congr 1; omega), by rw [unhide HK, List.length_append, unhide HMM]; simp, hS⟩
                      case measure => simp [intOf]; omega
                  · obtain rfl : n = jj := by omega
                    have hjz : ¬ (n : Int) + 1 ≤ (n : Int) := by omega
                    rw [unhide HMN]
                    by_cases hm0 : mn = 0
                    · as_aux_lemma =>
                        subst hm0
                        have hemp : (msF LK n).isEmpty = true := by rw [List.isEmpty_iff_length_eq_zero]; exact unhide HMN
                        rw [hemp]
                        have HEM := hide hemp
                        clear hemp
                        rw [show rdV true r TK = IntKind.i64.wrap (r - TK) from rfl, show rdE true = 0 from rfl]
                        go_upto_region 30 with fail
                        refine wp_region_lit ?_
                        refine wl (by kernel_rfl) fun kQ hkQ => ?_
                        go_simp
                        refine hkQ _ _ ?_
                        clear hkQ kQ
                        refine wl (by kernel_rfl) fun kQ hkQ => ?_
                        go_simp
                        refine hkQ _ _ ?_
                        clear hkQ kQ
                        refine wl (by kernel_rfl) fun kQ hkQ => ?_
                        go_simp
                        refine hkQ _ _ ?_
                        clear hkQ kQ
                        refine wl (by kernel_rfl) fun kQ hkQ => ?_
                        go_simp
                        refine hkQ _ _ ?_
                        clear hkQ kQ
                        refine wl (by kernel_rfl) fun kQ hkQ => ?_
                        go_simp
                        refine hkQ _ _ ?_
                        clear hkQ kQ
                        refine wl_load (by kernel_rfl) 27 (.tmp 7) rfl 2 rfl 0 rfl (rC (⟨5, r, (.slice a n c), TK⟩ : Rfd)) (At.self _) Try.underlying27 rfl (szR _) hS ?_
                        simp [Act.put]
                        refine wl (by kernel_rfl) fun kQ hkQ => ?_
                        go_simp
                        refine (done_any 5 r TK a n c LK _ hS.K.1.2 hn).mono ?_
                        rintro e w93 ⟨rfl, hb1⟩
                        replace hS := hS.later hb1
                        refine hkQ _ _ ?_
                        clear hkQ kQ hb1
                        rw [unhide HEM]
                        refine wl (by kernel_rfl) fun kQ hkQ => ?_
                        go_simp
                        refine hkQ _ _ ?_
                        clear hkQ kQ
                        refine wl (by kernel_rfl) fun kQ hkQ => ?_
                        go_simp
                        refine hkQ _ _ ?_
                        clear hkQ kQ
                        refine wl (by kernel_rfl) fun kQ hkQ => ?_
                        go_simp
                        refine hkQ _ _ ?_
                        clear hkQ kQ
                        refine wl (by kernel_rfl) fun kQ hkQ => ?_
                        go_simp
                        refine hkQ _ _ ?_
                        clear hkQ kQ
                        refine wl (by kernel_rfl) fun kQ hkQ => ?_
                        go_simp
                        refine hkQ _ _ ?_
                        clear hkQ kQ
                        refine wl (by kernel_rfl) fun kQ hkQ => ?_
                        go_simp
                        refine hkQ _ _ ?_
                        clear hkQ kQ
                        refine wl_load1 (by kernel_rfl) 3 (.tmp 176) rfl 2 rfl 3 rfl (.int .i64 TK) (at_rt (⟨5, r, (.slice a n c), TK⟩ : Rfd)) Try.underlying3 rfl hS ?_
                        simp [Act.put]
                        refine wl (by kernel_rfl) fun kQ hkQ => ?_
                        go_simp
                        refine hkQ _ _ ?_
                        clear hkQ kQ
                        refine wl (by kernel_rfl) fun kQ hkQ => ?_
                        go_simp
                        refine hkQ _ _ ?_
                        clear hkQ kQ
                        refine wl (by kernel_rfl) fun kQ hkQ => ?_
                        go_simp
                        refine hkQ _ _ ?_
                        clear hkQ kQ
                        refine wpList_nil ?_
                        go_wp2
                        go_roundw
                        case rel => exact ⟨k + 1, a, c, by omega, by go_num, by rw [akA_succ r n (N0, 0) ax k _ (unhide HX), unhide HE, akF_no hok], by rw [akA_succ r n (N0, 0) ax k _ (unhide HX), unhide HE, akF_no hok]; exact (hS.sub ((((List.Sublist.slnil).cons_cons _).cons_cons _).cons _)).weak (fun w h => h.1)⟩
                        case measure => simp [intOf]; omega
                    · as_aux_lemma =>
                        have hemp : (msF LK n).isEmpty = false := by
                          cases he : (msF LK n).isEmpty with
                          | false => rfl
                          | true => exact absurd ((unhide HMN).symm.trans (List.isEmpty_iff_length_eq_zero.1 he)) hm0
                        rw [hemp]
                        have HEM := hide hemp
                        clear hemp
                        have hmz : ((mn : Int) == 0) = false := by simp; omega
                        have hmp : 0 < (mn : Int) := by omega
                        rw [show rdV false r TK = 0 from rfl, show rdE false = 211 from rfl]
                        go_upto_region 30 with fail
                        refine wp_region_lit ?_
                        refine wl (by kernel_rfl) fun kQ hkQ => ?_
                        go_simp
                        refine hkQ _ _ ?_
                        clear hkQ kQ
                        refine wl (by kernel_rfl) fun kQ hkQ => ?_
                        go_simp
                        refine hkQ _ _ ?_
                        clear hkQ kQ
                        refine wl (by kernel_rfl) fun kQ hkQ => ?_
                        go_simp
                        refine hkQ _ _ ?_
                        clear hkQ kQ
                        refine wl (by kernel_rfl) fun kQ hkQ => ?_
                        go_simp
                        refine hkQ _ _ ?_
                        clear hkQ kQ
                        refine wl (by kernel_rfl) fun kQ hkQ => ?_
                        go_simp
                        refine hkQ _ _ ?_
                        clear hkQ kQ
                        refine wl_load (by kernel_rfl) 27 (.tmp 7) rfl 2 rfl 0 rfl (rC (⟨5, r, (.slice a n c), TK⟩ : Rfd)) (At.self _) Try.underlying27 rfl (szR _) hS ?_
                        simp [Act.put]
                        refine wl (by kernel_rfl) fun kQ hkQ => ?_
                        go_simp
                        refine (done_any 5 r TK a n c LK _ hS.K.1.2 hn).mono ?_
                        rintro e w93 ⟨rfl, hb1⟩
                        replace hS := hS.later hb1
                        refine hkQ _ _ ?_
                        clear hkQ kQ hb1
                        rw [unhide HEM]
                        refine wl (by kernel_rfl) fun kQ hkQ => ?_
                        go_simp
                        refine hkQ _ _ ?_
                        clear hkQ kQ
                        refine wl (by kernel_rfl) fun kQ hkQ => ?_
                        go_simp
                        refine hkQ _ _ ?_
                        clear hkQ kQ
                        refine wl (by kernel_rfl) fun kQ hkQ => ?_
                        go_simp
                        refine hkQ _ _ ?_
                        clear hkQ kQ
                        refine wl (by kernel_rfl) fun kQ hkQ => ?_
                        go_simp
                        refine hkQ _ _ ?_
                        clear hkQ kQ
                        refine wl (by kernel_rfl) fun kQ hkQ => ?_
                        go_simp
                        refine hkQ _ _ ?_
                        clear hkQ kQ
                        refine wl (by kernel_rfl) fun kQ hkQ => ?_
                        go_simp
                        refine hkQ _ _ ?_
                        clear hkQ kQ
                        refine wl_load1 (by kernel_rfl) 3 (.tmp 176) rfl 2 rfl 3 rfl (.int .i64 TK) (at_rt (⟨5, r, (.slice a n c), TK⟩ : Rfd)) Try.underlying3 rfl hS ?_
                        simp [Act.put]
                        refine wl (by kernel_rfl) fun kQ hkQ => ?_
                        go_simp
                        refine hkQ _ _ ?_
                        clear hkQ kQ
                        refine wl (by kernel_rfl) fun kQ hkQ => ?_
                        go_simp
                        refine hkQ _ _ ?_
                        clear hkQ kQ
                        refine wl (by kernel_rfl) fun kQ hkQ => ?_
                        go_simp
                        refine hkQ _ _ ?_
                        clear hkQ kQ
                        refine wpList_nil ?_
                        go_wp2
                        go_roundw
                        case rel => exact ⟨k + 1, a, c, by omega, by go_num, by rw [akA_succ r n (N0, 0) ax k _ (unhide HX), unhide HE, akF_no hok], by rw [akA_succ r n (N0, 0) ax k _ (unhide HX), unhide HE, akF_no hok]; exact (hS.sub ((((List.Sublist.slnil).cons_cons _).cons_cons _).cons _)).weak (fun w h => h.1)⟩
                        case measure => simp [intOf]; omega
          · obtain ⟨j, rfl⟩ : ∃ j : Nat, xg = (j : Int) + 1 := ⟨(xg - 1).toNat, by omega⟩
            have hj : j < n := by omega
            have h0 : 0 ≤ xi := by omega
            have h1x : xi ≤ r := by omega
            have q0' : 1 ≤ (j : Int) + 1 := by omega
            have q1' : (j : Int) + 1 ≤ (n : Int) := by omega
            clear hok
            go_upto_region 11 with fail
            go_cut [12] (fun v wx => v = .bool true ∧ Hs17 w [(g6, 30, ((pad16 LK).flatMap bC)), (g3, 27, (rC (⟨5, r, (.slice a n c), TK⟩ : Rfd)))] (fun w => (Sk w ⟨some ⟨b, off, none⟩, an, ac, ax⟩ ∧ Sb w ⟨a, n, c, LK⟩)) wx)
            case first =>
              go_wp2_with fail
              go_meet
              exact ⟨rfl, hS⟩
            case rest =>
              obtain ⟨rfl, hS⟩ := hcut
              clear cg ci
              go_upto_region 12 with fail
              go_cut [13, 14] (fun v v' wx => ∃ (gy x9 : Nat), v = .pointer (some ⟨gy, 0, none⟩) ∧ v' = .int .i64 0 ∧ Hs17 w ((gy, 27, (rC (⟨5, r, (.slice (some ⟨x9, 0, none⟩) n n), (mxZ TK xi)⟩ : Rfd))) :: [(g6, 30, ((pad16 LK).flatMap bC)), (g3, 27, (rC (⟨5, r, (.slice a n c), TK⟩ : Rfd)))]) (fun w => ((Sk w ⟨some ⟨b, off, none⟩, an, ac, ax⟩ ∧ Sb w ⟨a, n, c, LK⟩) ∧ Sb w ⟨some ⟨x9, 0, none⟩, n, n, (LK.set j true)⟩)) wx)
              case first =>
                refine wp_region_noPanic ?_
                replace hS := hS.drew
                refine wp_region_held_drew (S := Hs17 w [(g6, 30, ((pad16 LK).flatMap bC)), (g3, 27, (rC (⟨5, r, (.slice a n c), TK⟩ : Rfd)))] (fun w => (Sk w ⟨some ⟨b, off, none⟩, an, ac, ax⟩ ∧ Sb w ⟨a, n, c, LK⟩))) (by kernel_rfl) (hS.sub (((List.Sublist.slnil).cons_cons _).cons_cons _)) (fun hHeld => ?_)
                generalize World.drew _ = w261 at hS hHeld ⊢
                refine wpAnyH_take (i := 0) (oi := _) (v := aV (rC (⟨5, r, (.slice a n c), TK⟩ : Rfd))) rfl (by kernel_rfl) (by kernel_rfl) (by kernel_rfl) (fun _ _ _ h => h) (yl_load (by kernel_rfl) 27 (.tmp 7) rfl 1 rfl 0 rfl (rC (⟨5, r, (.slice a n c), TK⟩ : Rfd)) (At.self _) Try.underlying27 rfl (szR _)) hHeld ?_
                simp [Act.put]
                refine wpAnyH_take (i := 1) (oi := _) (v := (.slice (some ⟨b, off, none⟩) an ac)) rfl (by kernel_rfl) (by kernel_rfl) (by kernel_rfl) (fun _ _ _ h => h) (Or.inl ⟨by rfl, fun w hSw => by go_simp⟩) hHeld ?_
                simp [Act.put]
                refine wpAnyH_take (i := 2) (oi := _) (v := .int .i64 (k : Int)) rfl (by kernel_rfl) (by kernel_rfl) (by kernel_rfl) (fun _ _ _ h => h) (Or.inl ⟨by rfl, fun w hSw => by go_simp⟩) hHeld ?_
                simp [Act.put]
                refine wpAnyH_take (i := 3) (oi := _) (v := (.pointer (some ⟨b, off + k * 2, none⟩))) rfl (by kernel_rfl) (by kernel_rfl) (by kernel_rfl) (fun _ _ _ h => h) (Or.inl ⟨by rfl, fun w hSw => by go_simp⟩) hHeld ?_
                simp [Act.put]
                refine wpAnyH_take (i := 4) (oi := _) (v := (.pointer (some ⟨b, off + k * 2, none⟩))) rfl (by kernel_rfl) (by kernel_rfl) (by kernel_rfl) (fun _ _ _ h => h) (Or.inl ⟨by rfl, fun w hSw => by go_simp⟩) hHeld ?_
                simp [Act.put]
                refine wpAnyH_take (i := 5) (oi := _) (v := .int .i64 ((j : Int) + 1)) rfl (by kernel_rfl) (by kernel_rfl) (by kernel_rfl) (fun _ _ _ h => h) (yl_loadC (by kernel_rfl) 3 (.tmp 90) rfl (b) (off + k * 2) rfl (.int .i64 ((j : Int) + 1)) (fun w hSw => (unhide HCG _ hSw.K.1).1) Try.underlying3 rfl) hHeld ?_
                simp [Act.put]
                refine wpAnyH_take (i := 6) (oi := _) (v := (.slice (some ⟨b, off, none⟩) an ac)) rfl (by kernel_rfl) (by kernel_rfl) (by kernel_rfl) (fun _ _ _ h => h) (Or.inl ⟨by rfl, fun w hSw => by go_simp⟩) hHeld ?_
                simp [Act.put]
                refine wpAnyH_take (i := 7) (oi := _) (v := .int .i64 (k : Int)) rfl (by kernel_rfl) (by kernel_rfl) (by kernel_rfl) (fun _ _ _ h => h) (Or.inl ⟨by rfl, fun w hSw => by go_simp⟩) hHeld ?_
                simp [Act.put]
                refine wpAnyH_take (i := 8) (oi := _) (v := (.pointer (some ⟨b, off + k * 2, none⟩))) rfl (by kernel_rfl) (by kernel_rfl) (by kernel_rfl) (fun _ _ _ h => h) (Or.inl ⟨by rfl, fun w hSw => by go_simp⟩) hHeld ?_
                simp [Act.put]
                refine wpAnyH_take (i := 9) (oi := _) (v := (.pointer (some ⟨b, off + k * 2 + 1, none⟩))) rfl (by kernel_rfl) (by kernel_rfl) (by kernel_rfl) (fun _ _ _ h => h) (Or.inl ⟨by rfl, fun w hSw => by go_simp⟩) hHeld ?_
                simp [Act.put]
                refine wpAnyH_take (i := 10) (oi := _) (v := .int .i64 xi) rfl (by kernel_rfl) (by kernel_rfl) (by kernel_rfl) (fun _ _ _ h => h) (yl_loadC (by kernel_rfl) 3 (.tmp 95) rfl (b) (off + k * 2 + 1) rfl (.int .i64 xi) (fun w hSw => (unhide HCG _ hSw.K.1).2) Try.underlying3 rfl) hHeld ?_
                simp [Act.put]
                refine wpAnyH_ready (rs := [11, 15]) (by kernel_rfl) (by simp) ?_
                refine (AllReadyH.cons rfl (fun kQ hkQ => ?_) (AllReadyH.cons rfl (fun kQ hkQ => ?_) AllReadyH.nil))
                · skip
                  go_simp
                  refine (ack_ok 5 r TK a n c LK j xi _ hS.K.2 hn hj h0 h1x).mono ?_
                  rintro e w262 ⟨u, rfl, hR9, hb1⟩
                  obtain ⟨hl9, x9, rfl, hg9, hA9⟩ := hR9; replace hS := hS.keepS hb1 (sb_arr hA9 hl9 (by omega)) (fun x hx => by cases hx; exact hg9); clear hg9 hA9 hl9
                  clear hHeld hb1
                  refine hkQ.out _ _ ((hS.sub (((List.Sublist.slnil).cons_cons _).cons_cons _)).weak (fun _ h => h.1)) (fun hHeld => ?_)
                  clear hkQ kQ
                  refine wpAnyH_take (i := 12) (oi := _) (v := .tuple #[aV (rC (⟨5, r, (.slice (some ⟨x9, 0, none⟩) n n), (mxZ TK xi)⟩ : Rfd)), .int .i64 0]) rfl (by kernel_rfl) (by kernel_rfl) (by kernel_rfl) (fun _ _ _ h => h) (Or.inl ⟨by rfl, fun w hSw => by go_simp⟩) hHeld ?_
                  simp [Act.put]
                  refine wpAnyH_take (i := 13) (oi := _) (v := aV (rC (⟨5, r, (.slice (some ⟨x9, 0, none⟩) n n), (mxZ TK xi)⟩ : Rfd))) rfl (by kernel_rfl) (by kernel_rfl) (by kernel_rfl) (fun _ _ _ h => h) (Or.inl ⟨by rfl, fun w hSw => by go_simp⟩) hHeld ?_
                  simp [Act.put]
                  refine wpAnyH_take (i := 14) (oi := _) (v := .int .i64 0) rfl (by kernel_rfl) (by kernel_rfl) (by kernel_rfl) (fun _ _ _ h => h) (Or.inl ⟨by rfl, fun w hSw => by go_simp⟩) hHeld ?_
                  simp [Act.put]
                  refine wpAnyH_ready (rs := [15]) (by kernel_rfl) (by simp) ?_
                  refine (AllReadyH.cons rfl (fun kQ hkQ => ?_) AllReadyH.nil)
                  refine dw (by kernel_rfl) (op_alloc' 27 rfl (rC (⟨0, 0, (.slice none 0 0), 0⟩ : Rfd)) Try.inR hS ?_)
                  clear hS hHeld
                  intro g263 w263 hS
                  refine hkQ.out _ _ ((hS.sub ((((List.Sublist.slnil).cons_cons _).cons_cons _).cons _)).weak (fun _ h => h.1)) (fun hHeld => ?_)
                  clear hkQ kQ
                  simp [Act.put]
                  refine wpAnyH_ready (rs := [16]) (by kernel_rfl) (by simp) ?_
                  refine (AllReadyH.cons rfl (fun kQ hkQ => ?_) AllReadyH.nil)
                  refine dw (by kernel_rfl) (op_store 27 (.tmp 13) (.tmp 98) rfl 0 rfl 0 rfl (rC (⟨5, r, (.slice (some ⟨x9, 0, none⟩) n n), (mxZ TK xi)⟩ : Rfd)) (rC (⟨5, r, (.slice (some ⟨x9, 0, none⟩) n n), (mxZ TK xi)⟩ : Rfd)) (pt_r (⟨0, 0, (.slice none 0 0), 0⟩ : Rfd) (⟨5, r, (.slice (some ⟨x9, 0, none⟩) n n), (mxZ TK xi)⟩ : Rfd)) rfl (szR _) (one_r _ _ _ _ _ _) hS ?_)
                  clear hS hHeld
                  intro w264 hS
                  change Hs17 w [(g263, 27, (rC (⟨5, r, (.slice (some ⟨x9, 0, none⟩) n n), (mxZ TK xi)⟩ : Rfd))), (g6, 30, ((pad16 LK).flatMap bC)), (g3, 27, (rC (⟨5, r, (.slice a n c), TK⟩ : Rfd)))] _ w264 at hS
                  refine hkQ.out _ _ ((hS.sub ((((List.Sublist.slnil).cons_cons _).cons_cons _).cons _)).weak (fun _ h => h.1)) (fun hHeld => ?_)
                  clear hkQ kQ
                  simp [Act.put]
                  refine wpAnyH_take (i := 17) (oi := _) (v := .int .i64 0) rfl (by kernel_rfl) (by kernel_rfl) (by kernel_rfl) (fun _ _ _ h => h) (Or.inl ⟨by rfl, fun w hSw => by go_simp⟩) hHeld ?_
                  simp [Act.put]
                  refine wpAnyH_done (by kernel_rfl) ?_ _
                  unfold NoPanic
                  clear hHeld
                  go_wp2
                  go_meet
                  case rel => exact ⟨_, x9, rfl, rfl, hS⟩
                · skip
                  refine dw (by kernel_rfl) (op_alloc' 27 rfl (rC (⟨0, 0, (.slice none 0 0), 0⟩ : Rfd)) Try.inR hS ?_)
                  clear hS hHeld
                  intro g265 w265 hS
                  refine hkQ.out _ _ (hS.sub ((((List.Sublist.slnil).cons_cons _).cons_cons _).cons _)) (fun hHeld => ?_)
                  clear hkQ kQ
                  simp [Act.put]
                  refine wpAnyH_ready (rs := [11]) (by kernel_rfl) (by simp) ?_
                  refine (AllReadyH.cons rfl (fun kQ hkQ => ?_) AllReadyH.nil)
                  go_simp
                  refine (ack_ok 5 r TK a n c LK j xi _ hS.K.2 hn hj h0 h1x).mono ?_
                  rintro e w266 ⟨u, rfl, hR9, hb1⟩
                  obtain ⟨hl9, x9, rfl, hg9, hA9⟩ := hR9; replace hS := hS.keepS hb1 (sb_arr hA9 hl9 (by omega)) (fun x hx => by cases hx; exact hg9); clear hg9 hA9 hl9
                  clear hHeld hb1
                  refine hkQ.out _ _ ((hS.sub ((((List.Sublist.slnil).cons_cons _).cons_cons _).cons _)).weak (fun _ h => h.1)) (fun hHeld => ?_)
                  clear hkQ kQ
                  refine wpAnyH_take (i := 12) (oi := _) (v := .tuple #[aV (rC (⟨5, r, (.slice (some ⟨x9, 0, none⟩) n n), (mxZ TK xi)⟩ : Rfd)), .int .i64 0]) rfl (by kernel_rfl) (by kernel_rfl) (by kernel_rfl) (fun _ _ _ h => h) (Or.inl ⟨by rfl, fun w hSw => by go_simp⟩) hHeld ?_
                  simp [Act.put]
                  refine wpAnyH_take (i := 13) (oi := _) (v := aV (rC (⟨5, r, (.slice (some ⟨x9, 0, none⟩) n n), (mxZ TK xi)⟩ : Rfd))) rfl (by kernel_rfl) (by kernel_rfl) (by kernel_rfl) (fun _ _ _ h => h) (Or.inl ⟨by rfl, fun w hSw => by go_simp⟩) hHeld ?_
                  simp [Act.put]
                  refine wpAnyH_take (i := 14) (oi := _) (v := .int .i64 0) rfl (by kernel_rfl) (by kernel_rfl) (by kernel_rfl) (fun _ _ _ h => h) (Or.inl ⟨by rfl, fun w hSw => by go_simp⟩) hHeld ?_
                  simp [Act.put]
                  refine wpAnyH_ready (rs := [16]) (by kernel_rfl) (by simp) ?_
                  refine (AllReadyH.cons rfl (fun kQ hkQ => ?_) AllReadyH.nil)
                  refine dw (by kernel_rfl) (op_store 27 (.tmp 13) (.tmp 98) rfl 0 rfl 0 rfl (rC (⟨5, r, (.slice (some ⟨x9, 0, none⟩) n n), (mxZ TK xi)⟩ : Rfd)) (rC (⟨5, r, (.slice (some ⟨x9, 0, none⟩) n n), (mxZ TK xi)⟩ : Rfd)) (pt_r (⟨0, 0, (.slice none 0 0), 0⟩ : Rfd) (⟨5, r, (.slice (some ⟨x9, 0, none⟩) n n), (mxZ TK xi)⟩ : Rfd)) rfl (szR _) (one_r _ _ _ _ _ _) hS ?_)
                  clear hS hHeld
                  intro w267 hS
                  change Hs17 w [(g265, 27, (rC (⟨5, r, (.slice (some ⟨x9, 0, none⟩) n n), (mxZ TK xi)⟩ : Rfd))), (g6, 30, ((pad16 LK).flatMap bC)), (g3, 27, (rC (⟨5, r, (.slice a n c), TK⟩ : Rfd)))] _ w267 at hS
                  refine hkQ.out _ _ ((hS.sub ((((List.Sublist.slnil).cons_cons _).cons_cons _).cons _)).weak (fun _ h => h.1)) (fun hHeld => ?_)
                  clear hkQ kQ
                  simp [Act.put]
                  refine wpAnyH_take (i := 17) (oi := _) (v := .int .i64 0) rfl (by kernel_rfl) (by kernel_rfl) (by kernel_rfl) (fun _ _ _ h => h) (Or.inl ⟨by rfl, fun w hSw => by go_simp⟩) hHeld ?_
                  simp [Act.put]
                  refine wpAnyH_done (by kernel_rfl) ?_ _
                  unfold NoPanic
                  clear hHeld
                  go_wp2
                  go_meet
                  case rel => exact ⟨_, x9, rfl, rfl, hS⟩
              case rest =>
                obtain ⟨gy, x9, rfl, rfl, hS⟩ := hcut
                go_upto_region 16 with fail
                refine wp_region_lit ?_
                refine wl_load (by kernel_rfl) 27 (.tmp 13) rfl 0 rfl 0 rfl (rC (⟨5, r, (.slice (some ⟨x9, 0, none⟩) n n), (mxZ TK xi)⟩ : Rfd)) (At.self _) Try.underlying27 rfl (szR _) hS ?_
                simp [Act.put]
                refine wl_store (by kernel_rfl) 27 (.tmp 7) (.tmp 113) rfl 2 rfl 0 rfl (rC (⟨5, r, (.slice (some ⟨x9, 0, none⟩) n n), (mxZ TK xi)⟩ : Rfd)) (rC (⟨5, r, (.slice (some ⟨x9, 0, none⟩) n n), (mxZ TK xi)⟩ : Rfd)) (pt_r (⟨5, r, (.slice a n c), TK⟩ : Rfd) (⟨5, r, (.slice (some ⟨x9, 0, none⟩) n n), (mxZ TK xi)⟩ : Rfd)) rfl (szR _) (one_r _ _ _ _ _ _) hS ?_
                clear hS
                intro w241 hS
                change Hs17 w [(gy, 27, (rC (⟨5, r, (.slice (some ⟨x9, 0, none⟩) n n), (mxZ TK xi)⟩ : Rfd))), (g6, 30, ((pad16 LK).flatMap bC)), (g3, 27, (rC (⟨5, r, (.slice (some ⟨x9, 0, none⟩) n n), (mxZ TK xi)⟩ : Rfd)))] _ w241 at hS
                simp [Act.put]
                refine wpList_nil ?_
                go_upto_region 17 with fail
                refine wp_region_lit ?_
                refine wl (by kernel_rfl) fun kQ hkQ => ?_
                go_simp
                refine hkQ _ _ ?_
                clear hkQ kQ
                refine wl (by kernel_rfl) fun kQ hkQ => ?_
                go_simp
                refine hkQ _ _ ?_
                clear hkQ kQ
                refine wl (by kernel_rfl) fun kQ hkQ => ?_
                go_simp
                refine hkQ _ _ ?_
                clear hkQ kQ
                refine wl (by kernel_rfl) fun kQ hkQ => ?_
                go_simp
                refine hkQ _ _ ?_
                clear hkQ kQ
                refine wl_loadC (by kernel_rfl) 3 (.tmp 117) rfl b (off + k * 2) rfl (.int .i64 ((j : Int) + 1)) (unhide HCG _ hS.K.1.1).1 Try.underlying3 rfl ?_
                simp [Act.put]
                refine wl (by kernel_rfl) fun kQ hkQ => ?_
                go_simp
                refine hkQ _ _ ?_
                clear hkQ kQ
                rw [wrapN j (by omega)]
                have hj16 : (j : Int) < 16 := by omega
                refine wl (by kernel_rfl) fun kQ hkQ => ?_
                go_simp
                refine hkQ _ _ ?_
                clear hkQ kQ
                clear hj16
                refine wl_store (by kernel_rfl) 4 (.tmp 120) (.const (.bool true)) rfl 1 rfl j rfl [.bool true] (((pad16 LK).set j true).flatMap bC) (pt_b (by rw [pad16_len (by rw [unhide HLL]; exact h4)]; omega) true) rfl Try.in1b (one_one rfl) hS ?_
                clear hS
                intro w242 hS
                rw [pad16_set (by rw [unhide HLL]; exact hj)] at hS
                change Hs17 w [(gy, 27, (rC (⟨5, r, (.slice (some ⟨x9, 0, none⟩) n n), (mxZ TK xi)⟩ : Rfd))), (g6, 30, ((pad16 (LK.set j true)).flatMap bC)), (g3, 27, (rC (⟨5, r, (.slice (some ⟨x9, 0, none⟩) n n), (mxZ TK xi)⟩ : Rfd)))] _ w242 at hS
                simp [Act.put]
                refine wpList_nil ?_
                have HL2 : Hid ((LK.set j true).length = n) := hide (by rw [List.length_set]; exact unhide HLL)
                go_upto_region 18 with fail
                refine wp_region_lit ?_
                refine wl (by kernel_rfl) fun kQ hkQ => ?_
                go_simp
                refine hkQ _ _ ?_
                clear hkQ kQ
                refine wl (by kernel_rfl) fun kQ hkQ => ?_
                go_simp
                refine hkQ _ _ ?_
                clear hkQ kQ
                refine wl (by kernel_rfl) fun kQ hkQ => ?_
                go_simp
                refine hkQ _ _ ?_
                clear hkQ kQ
                refine wl (by kernel_rfl) fun kQ hkQ => ?_
                go_simp
                refine hkQ _ _ ?_
                clear hkQ kQ
                refine wl_loadC (by kernel_rfl) 3 (.tmp 124) rfl b (off + k * 2 + 1) rfl (.int .i64 xi) (unhide HCG _ hS.K.1.1).2 Try.underlying3 rfl ?_
                simp [Act.put]
                refine wl (by kernel_rfl) fun kQ hkQ => ?_
                go_simp
                refine hkQ _ _ ?_
                clear hkQ kQ
                by_cases hgt : TK < xi
                · skip
                  as_aux_lemma =>
                    refine wl (by kernel_rfl) fun kQ hkQ => ?_
                    go_simp
                    refine hkQ _ _ ?_
                    clear hkQ kQ
                    refine wpList_nil ?_
                    go_upto_region 19 with fail
                    refine wp_region_lit ?_
                    refine wl (by kernel_rfl) fun kQ hkQ => ?_
                    go_simp
                    refine hkQ _ _ ?_
                    clear hkQ kQ
                    refine wl (by kernel_rfl) fun kQ hkQ => ?_
                    go_simp
                    refine hkQ _ _ ?_
                    clear hkQ kQ
                    refine wl (by kernel_rfl) fun kQ hkQ => ?_
                    go_simp
                    refine hkQ _ _ ?_
                    clear hkQ kQ
                    refine wl (by kernel_rfl) fun kQ hkQ => ?_
                    go_simp
                    refine hkQ _ _ ?_
                    clear hkQ kQ
                    refine wl_loadC (by kernel_rfl) 3 (.tmp 131) rfl b (off + k * 2 + 1) rfl (.int .i64 xi) (unhide HCG _ hS.K.1.1).2 Try.underlying3 rfl ?_
                    simp [Act.put]
                    refine wl (by kernel_rfl) fun kQ hkQ => ?_
                    go_simp
                    refine hkQ _ _ ?_
                    clear hkQ kQ
                    refine wpList_nil ?_
                    have hmx : mxZ TK xi = xi := if_pos hgt
                    have HMX := hide hmx
                    clear hmx hgt
                    rw [unhide HMX] at hS
                    go_upto_region 20 with fail
                    refine wp_region_lit ?_
                    refine wl_load (by kernel_rfl) 27 (.tmp 7) rfl 2 rfl 0 rfl (rC (⟨5, r, (.slice (some ⟨x9, 0, none⟩) n n), xi⟩ : Rfd)) (At.self _) Try.underlying27 rfl (szR _) hS ?_
                    simp [Act.put]
                    refine wl (by kernel_rfl) fun kQ hkQ => ?_
                    go_simp
                    refine (rides_u 5 r xi (some ⟨x9, 0, none⟩) n n (LK.set j true) _ hS.K.2 hn).mono ?_
                    rintro e w301 ⟨rfl, hb1⟩
                    replace hS := hS.later hb1
                    refine hkQ _ _ ?_
                    clear hkQ kQ hb1
                    refine wl (by kernel_rfl) fun kQ hkQ => ?_
                    go_simp
                    refine hkQ _ _ ?_
                    clear hkQ kQ
                    refine wl (by kernel_rfl) fun kQ hkQ => ?_
                    go_simp
                    refine hkQ _ _ ?_
                    clear hkQ kQ
                    refine wl (by kernel_rfl) fun kQ hkQ => ?_
                    go_simp
                    refine hkQ _ _ ?_
                    clear hkQ kQ
                    refine wl (by kernel_rfl) fun kQ hkQ => ?_
                    go_simp
                    refine hkQ _ _ ?_
                    clear hkQ kQ
                    refine wl (by kernel_rfl) fun kQ hkQ => ?_
                    go_simp
                    refine hkQ _ _ ?_
                    clear hkQ kQ
                    refine wpList_nil ?_
                    go_upto_region 21 with fail
                    refine wp_region_lit ?_
                    refine wl_load (by kernel_rfl) 27 (.tmp 7) rfl 2 rfl 0 rfl (rC (⟨5, r, (.slice (some ⟨x9, 0, none⟩) n n), xi⟩ : Rfd)) (At.self _) Try.underlying27 rfl (szR _) hS ?_
                    simp [Act.put]
                    refine wl (by kernel_rfl) fun kQ hkQ => ?_
                    go_simp
                    refine (missing_any 5 r xi (some ⟨x9, 0, none⟩) n n (LK.set j true) _ hS.K.2 hn).mono ?_
                    rintro e w302 ⟨v, rfl, hO9, hb1⟩
                    obtain ⟨sm, rfl, hsx, hsk, hbk⟩ := hO9.si; obtain ⟨ma, mn, mc, mx⟩ := sm; simp only at hsx hbk; subst hsx
                    have hmn : (msF (LK.set j true) n).length = mn := hsk.len
                    have HMN := hide hmn
                    have hml : mn ≤ n := by rw [← hmn]; exact msF_len _ _
                    replace hS := hS.keepS hb1 hsk (fun x hx => (hbk x hx).1)
                    clear hsk hbk hO9 hmn
                    simp only [Sx.v]
                    refine hkQ _ _ ?_
                    clear hkQ kQ hb1
                    refine wl (by kernel_rfl) fun kQ hkQ => ?_
                    go_simp
                    refine hkQ _ _ ?_
                    clear hkQ kQ
                    refine wpList_nil ?_
                    go_wp2_with fail
                    go_loopw [18, 19] (fun vk vg wr => ∃ jj : Nat, jj ≤ n ∧ vg = .int .i64 ((jj : Int) + 1) ∧ vk = .int .i64 ((msF (LK.set j true) jj).length : Nat) ∧ Hs17 w [(gy, 27, (rC (⟨5, r, (.slice (some ⟨x9, 0, none⟩) n n), xi⟩ : Rfd))), (g6, 30, ((pad16 (LK.set j true)).flatMap bC)), (g3, 27, (rC (⟨5, r, (.slice (some ⟨x9, 0, none⟩) n n), xi⟩ : Rfd)))] (fun w => (((Sk w ⟨some ⟨b, off, none⟩, an, ac, ax⟩ ∧ Sb w ⟨a, n, c, LK⟩) ∧ Sb w ⟨some ⟨x9, 0, none⟩, n, n, (LK.set j true)⟩) ∧ Si w ⟨ma, mn, mc, msF (LK.set j true) n⟩)) wr) (fun _ vg _ => n + 1 - (intOf vg).toNat)
                    case atStart => exact ⟨0, by omega, rfl, rfl, hS⟩
                    case round =>
                      clear hS
                      obtain ⟨jj, hjj, rfl, rfl, hS⟩ := hrel
                      by_cases hlt : jj < n
                      · have hjz : (jj : Int) + 1 ≤ (n : Int) := by omega
                        have hj16 : (jj : Int) < 16 := by omega
                        obtain ⟨q, hqe⟩ : ∃ q, (LK.set j true).getD jj false = q := ⟨_, rfl⟩
                        have cs : wr.cell? ⟨g6, jj, none⟩ = some (.bool q) := by
                          have h := (at_b (l := pad16 (LK.set j true)) (k := jj) (q := q) (by rw [pad16_len (by rw [unhide HL2]; exact h4)]; omega) (by rw [pad16_at (by rw [unhide HL2]; exact hlt)]; exact hqe)).range (hS.get 1 rfl) 0 _ rfl
                          simpa using h
                        have hwj : IntKind.i64.wrap (jj : Int) = (jj : Int) := wrapN jj (by omega)
                        cases q with
                        | true =>
                         as_aux_lemma =>
                          have HK : Hid (msF (LK.set j true) (jj + 1) = msF (LK.set j true) jj) := hide (msF_yes _ _ hqe)
                          obtain ⟨M, hM⟩ : ∃ M : Nat, (msF (LK.set j true) jj).length = M := ⟨_, rfl⟩
                          rw [hM]
                          have HMM := hide hM
                          clear hqe hM
                          go_wp2
                          go_roundw
                          case rel => exact ⟨jj + 1, by omega, by first | rfl | (congr 1; omega), by rw [unhide HK, unhide HMM], hS⟩
                          case measure => simp [intOf]; omega
                        | false =>
                         as_aux_lemma =>
                          have HK : Hid (msF (LK.set j true) (jj + 1) = msF (LK.set j true) jj ++ [(jj : Int) + 1]) := hide (msF_no _ _ hqe)
                          have hat := msF_at (LK.set j true) hlt hqe
                          have hmlt : (msF (LK.set j true) jj).length < mn := by rw [← unhide HMN]; exact (List.getElem?_eq_some_iff.1 hat).1
                          obtain ⟨b2, o2, e2, -, hc2⟩ := hS.K.2.at_ (k := (msF (LK.set j true) jj).length) hmlt
                          simp only at e2 hc2
                          rw [show (msF (LK.set j true) n).getD (msF (LK.set j true) jj).length 0 = (jj : Int) + 1 by rw [List.getD_eq_getElem?_getD, hat]; rfl] at hc2
                          obtain ⟨M, hM⟩ : ∃ M : Nat, (msF (LK.set j true) jj).length = M := ⟨_, rfl⟩
                          rw [hM] at hc2 hmlt ⊢
                          have HMM := hide hM
                          have hMz : (M : Int) < (mn : Int) := by omega
                          subst e2
                          clear hqe hM hat
                          go_wp2
                          go_roundw
                          case rel => exact ⟨jj + 1, by omega, by first | rfl | (congr 1; omega), by rw [unhide HK, List.length_append, unhide HMM]; simp, hS⟩
                          case measure => simp [intOf]; omega
                      · obtain rfl : n = jj := by omega
                        have hjz : ¬ (n : Int) + 1 ≤ (n : Int) := by omega
                        rw [unhide HMN]
                        by_cases hm0 : mn = 0
                        · as_aux_lemma =>
                            subst hm0
                            have hemp : (msF (LK.set j true) n).isEmpty = true := by rw [List.isEmpty_iff_length_eq_zero]; exact unhide HMN
                            rw [hemp]
                            have HEM := hide hemp
                            clear hemp
                            rw [show rdV true r xi = IntKind.i64.wrap (r - xi) from rfl, show rdE true = 0 from rfl]
                            go_upto_region 30 with fail
                            refine wp_region_lit ?_
                            refine wl (by kernel_rfl) fun kQ hkQ => ?_
                            go_simp
                            refine hkQ _ _ ?_
                            clear hkQ kQ
                            refine wl (by kernel_rfl) fun kQ hkQ => ?_
                            go_simp
                            refine hkQ _ _ ?_
                            clear hkQ kQ
                            refine wl (by kernel_rfl) fun kQ hkQ => ?_
                            go_simp
                            refine hkQ _ _ ?_
                            clear hkQ kQ
                            refine wl (by kernel_rfl) fun kQ hkQ => ?_
                            go_simp
                            refine hkQ _ _ ?_
                            clear hkQ kQ
                            refine wl (by kernel_rfl) fun kQ hkQ => ?_
                            go_simp
                            refine hkQ _ _ ?_
                            clear hkQ kQ
                            refine wl_load (by kernel_rfl) 27 (.tmp 7) rfl 2 rfl 0 rfl (rC (⟨5, r, (.slice (some ⟨x9, 0, none⟩) n n), xi⟩ : Rfd)) (At.self _) Try.underlying27 rfl (szR _) hS ?_
                            simp [Act.put]
                            refine wl (by kernel_rfl) fun kQ hkQ => ?_
                            go_simp
                            refine (done_any 5 r xi (some ⟨x9, 0, none⟩) n n (LK.set j true) _ hS.K.1.2 hn).mono ?_
                            rintro e w353 ⟨rfl, hb1⟩
                            replace hS := hS.later hb1
                            refine hkQ _ _ ?_
                            clear hkQ kQ hb1
                            rw [unhide HEM]
                            refine wl (by kernel_rfl) fun kQ hkQ => ?_
                            go_simp
                            refine hkQ _ _ ?_
                            clear hkQ kQ
                            refine wl (by kernel_rfl) fun kQ hkQ => ?_
                            go_simp
                            refine hkQ _ _ ?_
                            clear hkQ kQ
                            refine wl (by kernel_rfl) fun kQ hkQ => ?_
                            go_simp
                            refine hkQ _ _ ?_
                            clear hkQ kQ
                            refine wl (by kernel_rfl) fun kQ hkQ => ?_
                            go_simp
                            refine hkQ _ _ ?_
                            clear hkQ kQ
                            refine wl (by kernel_rfl) fun kQ hkQ => ?_
                            go_simp
                            refine hkQ _ _ ?_
                            clear hkQ kQ
                            refine wl (by kernel_rfl) fun kQ hkQ => ?_
                            go_simp
                            refine hkQ _ _ ?_
                            clear hkQ kQ
                            refine wl_load1 (by kernel_rfl) 3 (.tmp 176) rfl 2 rfl 3 rfl (.int .i64 xi) (at_rt (⟨5, r, (.slice (some ⟨x9, 0, none⟩) n n), xi⟩ : Rfd)) Try.underlying3 rfl hS ?_
                            simp [Act.put]
                            refine wl (by kernel_rfl) fun kQ hkQ => ?_
                            go_simp
                            refine hkQ _ _ ?_
                            clear hkQ kQ
                            refine wl (by kernel_rfl) fun kQ hkQ => ?_
                            go_simp
                            refine hkQ _ _ ?_
                            clear hkQ kQ
                            refine wl (by kernel_rfl) fun kQ hkQ => ?_
                            go_simp
                            refine hkQ _ _ ?_
                            clear hkQ kQ
                            refine wpList_nil ?_
                            go_wp2
                            go_roundw
                            case rel => exact ⟨k + 1, some ⟨x9, 0, none⟩, n, by omega, by go_num, by rw [akA_succ r n (N0, 0) ax k _ (unhide HX), unhide HE, akF_ok (x := ⟨(j : Int) + 1, xi⟩) rfl hj h0 h1x, unhide HMX], by rw [akA_succ r n (N0, 0) ax k _ (unhide HX), unhide HE, akF_ok (x := ⟨(j : Int) + 1, xi⟩) rfl hj h0 h1x, unhide HMX]; exact (hS.sub ((((List.Sublist.slnil).cons_cons _).cons_cons _).cons _)).weak (fun w h => ⟨h.1.1.1, h.1.2⟩)⟩
                            case measure => simp [intOf]; omega
                        · as_aux_lemma =>
                            have hemp : (msF (LK.set j true) n).isEmpty = false := by
                              cases he : (msF (LK.set j true) n).isEmpty with
                              | false => rfl
                              | true => exact absurd ((unhide HMN).symm.trans (List.isEmpty_iff_length_eq_zero.1 he)) hm0
                            rw [hemp]
                            have HEM := hide hemp
                            clear hemp
                            have hmz : ((mn : Int) == 0) = false := by simp; omega
                            have hmp : 0 < (mn : Int) := by omega
                            rw [show rdV false r xi = 0 from rfl, show rdE false = 211 from rfl]
                            go_upto_region 30 with fail
                            refine wp_region_lit ?_
                            refine wl (by kernel_rfl) fun kQ hkQ => ?_
                            go_simp
                            refine hkQ _ _ ?_
                            clear hkQ kQ
                            refine wl (by kernel_rfl) fun kQ hkQ => ?_
                            go_simp
                            refine hkQ _ _ ?_
                            clear hkQ kQ
                            refine wl (by kernel_rfl) fun kQ hkQ => ?_
                            go_simp
                            refine hkQ _ _ ?_
                            clear hkQ kQ
                            refine wl (by kernel_rfl) fun kQ hkQ => ?_
                            go_simp
                            refine hkQ _ _ ?_
                            clear hkQ kQ
                            refine wl (by kernel_rfl) fun kQ hkQ => ?_
                            go_simp
                            refine hkQ _ _ ?_
                            clear hkQ kQ
                            refine wl_load (by kernel_rfl) 27 (.tmp 7) rfl 2 rfl 0 rfl (rC (⟨5, r, (.slice (some ⟨x9, 0, none⟩) n n), xi⟩ : Rfd)) (At.self _) Try.underlying27 rfl (szR _) hS ?_
                            simp [Act.put]
                            refine wl (by kernel_rfl) fun kQ hkQ => ?_
                            go_simp
                            refine (done_any 5 r xi (some ⟨x9, 0, none⟩) n n (LK.set j true) _ hS.K.1.2 hn).mono ?_
                            rintro e w353 ⟨rfl, hb1⟩
                            replace hS := hS.later hb1
                            refine hkQ _ _ ?_
                            clear hkQ kQ hb1
                            rw [unhide HEM]
                            refine wl (by kernel_rfl) fun kQ hkQ => ?_
                            go_simp
                            refine hkQ _ _ ?_
                            clear hkQ kQ
                            refine wl (by kernel_rfl) fun kQ hkQ => ?_
                            go_simp
                            refine hkQ _ _ ?_
                            clear hkQ kQ
                            refine wl (by kernel_rfl) fun kQ hkQ => ?_
                            go_simp
                            refine hkQ _ _ ?_
                            clear hkQ kQ
                            refine wl (by kernel_rfl) fun kQ hkQ => ?_
                            go_simp
                            refine hkQ _ _ ?_
                            clear hkQ kQ
                            refine wl (by kernel_rfl) fun kQ hkQ => ?_
                            go_simp
                            refine hkQ _ _ ?_
                            clear hkQ kQ
                            refine wl (by kernel_rfl) fun kQ hkQ => ?_
                            go_simp
                            refine hkQ _ _ ?_
                            clear hkQ kQ
                            refine wl_load1 (by kernel_rfl) 3 (.tmp 176) rfl 2 rfl 3 rfl (.int .i64 xi) (at_rt (⟨5, r, (.slice (some ⟨x9, 0, none⟩) n n), xi⟩ : Rfd)) Try.underlying3 rfl hS ?_
                            simp [Act.put]
                            refine wl (by kernel_rfl) fun kQ hkQ => ?_
                            go_simp
                            refine hkQ _ _ ?_
                            clear hkQ kQ
                            refine wl (by kernel_rfl) fun kQ hkQ => ?_
                            go_simp
                            refine hkQ _ _ ?_
                            clear hkQ kQ
                            refine wl (by kernel_rfl) fun kQ hkQ => ?_
                            go_simp
                            refine hkQ _ _ ?_
                            clear hkQ kQ
                            refine wpList_nil ?_
                            go_wp2
                            go_roundw
                            case rel => exact ⟨k + 1, some ⟨x9, 0, none⟩, n, by omega, by go_num, by rw [akA_succ r n (N0, 0) ax k _ (unhide HX), unhide HE, akF_ok (x := ⟨(j : Int) + 1, xi⟩) rfl hj h0 h1x, unhide HMX], by rw [akA_succ r n (N0, 0) ax k _ (unhide HX), unhide HE, akF_ok (x := ⟨(j : Int) + 1, xi⟩) rfl hj h0 h1x, unhide HMX]; exact (hS.sub ((((List.Sublist.slnil).cons_cons _).cons_cons _).cons _)).weak (fun w h => ⟨h.1.1.1, h.1.2⟩)⟩
                            case measure => simp [intOf]; omega
                · skip
                  as_aux_lemma =>
                    refine wl (by kernel_rfl) fun kQ hkQ => ?_
                    go_simp
                    refine hkQ _ _ ?_
                    clear hkQ kQ
                    refine wpList_nil ?_
                    have hmx : mxZ TK xi = TK := if_neg hgt
                    have HMX := hide hmx
                    clear hmx hgt
                    rw [unhide HMX] at hS
                    go_upto_region 20 with fail
                    refine wp_region_lit ?_
                    refine wl_load (by kernel_rfl) 27 (.tmp 7) rfl 2 rfl 0 rfl (rC (⟨5, r, (.slice (some ⟨x9, 0, none⟩) n n), TK⟩ : Rfd)) (At.self _) Try.underlying27 rfl (szR _) hS ?_
                    simp [Act.put]
                    refine wl (by kernel_rfl) fun kQ hkQ => ?_
                    go_simp
                    refine (rides_u 5 r TK (some ⟨x9, 0, none⟩) n n (LK.set j true) _ hS.K.2 hn).mono ?_
                    rintro e w301 ⟨rfl, hb1⟩
                    replace hS := hS.later hb1
                    refine hkQ _ _ ?_
                    clear hkQ kQ hb1
                    refine wl (by kernel_rfl) fun kQ hkQ => ?_
                    go_simp
                    refine hkQ _ _ ?_
                    clear hkQ kQ
                    refine wl (by kernel_rfl) fun kQ hkQ => ?_
                    go_simp
                    refine hkQ _ _ ?_
                    clear hkQ kQ
                    refine wl (by kernel_rfl) fun kQ hkQ => ?_
                    go_simp
                    refine hkQ _ _ ?_
                    clear hkQ kQ
                    refine wl (by kernel_rfl) fun kQ hkQ => ?_
                    go_simp
                    refine hkQ _ _ ?_
                    clear hkQ kQ
                    refine wl (by kernel_rfl) fun kQ hkQ => ?_
                    go_simp
                    refine hkQ _ _ ?_
                    clear hkQ kQ
                    refine wpList_nil ?_
                    go_upto_region 21 with fail
                    refine wp_region_lit ?_
                    refine wl_load (by kernel_rfl) 27 (.tmp 7) rfl 2 rfl 0 rfl (rC (⟨5, r, (.slice (some ⟨x9, 0, none⟩) n n), TK⟩ : Rfd)) (At.self _) Try.underlying27 rfl (szR _) hS ?_
                    simp [Act.put]
                    refine wl (by kernel_rfl) fun kQ hkQ => ?_
                    go_simp
                    refine (missing_any 5 r TK (some ⟨x9, 0, none⟩) n n (LK.set j true) _ hS.K.2 hn).mono ?_
                    rintro e w302 ⟨v, rfl, hO9, hb1⟩
                    obtain ⟨sm, rfl, hsx, hsk, hbk⟩ := hO9.si; obtain ⟨ma, mn, mc, mx⟩ := sm; simp only at hsx hbk; subst hsx
                    have hmn : (msF (LK.set j true) n).length = mn := hsk.len
                    have HMN := hide hmn
                    have hml : mn ≤ n := by rw [← hmn]; exact msF_len _ _
                    replace hS := hS.keepS hb1 hsk (fun x hx => (hbk x hx).1)
                    clear hsk hbk hO9 hmn
                    simp only [Sx.v]
                    refine hkQ _ _ ?_
                    clear hkQ kQ hb1
                    refine wl (by kernel_rfl) fun kQ hkQ => ?_
                    go_simp
                    refine hkQ _ _ ?_
                    clear hkQ kQ
                    refine wpList_nil ?_
                    go_wp2_with fail
                    go_loopw [18, 19] (fun vk vg wr => ∃ jj : Nat, jj ≤ n ∧ vg = .int .i64 ((jj : Int) + 1) ∧ vk = .int .i64 ((msF (LK.set j true) jj).length : Nat) ∧ Hs17 w [(gy, 27, (rC (⟨5, r, (.slice (some ⟨x9, 0, none⟩) n n), TK⟩ : Rfd))), (g6, 30, ((pad16 (LK.set j true)).flatMap bC)), (g3, 27, (rC (⟨5, r, (.slice (some ⟨x9, 0, none⟩) n n), TK⟩ : Rfd)))] (fun w => (((Sk w ⟨some ⟨b, off, none⟩, an, ac, ax⟩ ∧ Sb w ⟨a, n, c, LK⟩) ∧ Sb w ⟨some ⟨x9, 0, none⟩, n, n, (LK.set j true)⟩) ∧ Si w ⟨ma, mn, mc, msF (LK.set j true) n⟩)) wr) (fun _ vg _ => n + 1 - (intOf vg).toNat)
                    case atStart => exact ⟨0, by omega, rfl, rfl, hS⟩
                    case round =>
                      clear hS
                      obtain ⟨jj, hjj, rfl, rfl, hS⟩ := hrel
                      by_cases hlt : jj < n
                      · have hjz : (jj : Int) + 1 ≤ (n : Int) := by omega
                        have hj16 : (jj : Int) < 16 := by omega
                        obtain ⟨q, hqe⟩ : ∃ q, (LK.set j true).getD jj false = q := ⟨_, rfl⟩
                        have cs : wr.cell? ⟨g6, jj, none⟩ = some (.bool q) := by
                          have h := (at_b (l := pad16 (LK.set j true)) (k := jj) (q := q) (by rw [pad16_len (by rw [unhide HL2]; exact h4)]; omega) (by rw [pad16_at (by rw [unhide HL2]; exact hlt)]; exact hqe)).range (hS.get 1 rfl) 0 _ rfl
                          simpa using h
                        have hwj : IntKind.i64.wrap (jj : Int) = (jj : Int) := wrapN jj (by omega)
                        cases q with
                        | true =>
                         as_aux_lemma =>
                          have HK : Hid (msF (LK.set j true) (jj + 1) = msF (LK.set j true) jj) := hide (msF_yes _ _ hqe)
                          obtain ⟨M, hM⟩ : ∃ M : Nat, (msF (LK.set j true) jj).length = M := ⟨_, rfl⟩
                          rw [hM]
                          have HMM := hide hM
                          clear hqe hM
                          go_wp2
                          go_roundw
                          case rel => exact ⟨jj + 1, by omega, by first | rfl | (congr 1; omega), by rw [unhide HK, unhide HMM], hS⟩
                          case measure => simp [intOf]; omega
                        | false =>
                         as_aux_lemma =>
                          have HK : Hid (msF (LK.set j true) (jj + 1) = msF (LK.set j true) jj ++ [(jj : Int) + 1]) := hide (msF_no _ _ hqe)
                          have hat := msF_at (LK.set j true) hlt hqe
                          have hmlt : (msF (LK.set j true) jj).length < mn := by rw [← unhide HMN]; exact (List.getElem?_eq_some_iff.1 hat).1
                          obtain ⟨b2, o2, e2, -, hc2⟩ := hS.K.2.at_ (k := (msF (LK.set j true) jj).length) hmlt
                          simp only at e2 hc2
                          rw [show (msF (LK.set j true) n).getD (msF (LK.set j true) jj).length 0 = (jj : Int) + 1 by rw [List.getD_eq_getElem?_getD, hat]; rfl] at hc2
                          obtain ⟨M, hM⟩ : ∃ M : Nat, (msF (LK.set j true) jj).length = M := ⟨_, rfl⟩
                          rw [hM] at hc2 hmlt ⊢
                          have HMM := hide hM
                          have hMz : (M : Int) < (mn : Int) := by omega
                          subst e2
                          clear hqe hM hat
                          go_wp2
                          go_roundw
                          case rel => exact ⟨jj + 1, by omega, by first | rfl | (congr 1; omega), by rw [unhide HK, List.length_append, unhide HMM]; simp, hS⟩
                          case measure => simp [intOf]; omega
                      · obtain rfl : n = jj := by omega
                        have hjz : ¬ (n : Int) + 1 ≤ (n : Int) := by omega
                        rw [unhide HMN]
                        by_cases hm0 : mn = 0
                        · as_aux_lemma =>
                            subst hm0
                            have hemp : (msF (LK.set j true) n).isEmpty = true := by rw [List.isEmpty_iff_length_eq_zero]; exact unhide HMN
                            rw [hemp]
                            have HEM := hide hemp
                            clear hemp
                            rw [show rdV true r TK = IntKind.i64.wrap (r - TK) from rfl, show rdE true = 0 from rfl]
                            go_upto_region 30 with fail
                            refine wp_region_lit ?_
                            refine wl (by kernel_rfl) fun kQ hkQ => ?_
                            go_simp
                            refine hkQ _ _ ?_
                            clear hkQ kQ
                            refine wl (by kernel_rfl) fun kQ hkQ => ?_
                            go_simp
                            refine hkQ _ _ ?_
                            clear hkQ kQ
                            refine wl (by kernel_rfl) fun kQ hkQ => ?_
                            go_simp
                            refine hkQ _ _ ?_
                            clear hkQ kQ
                            refine wl (by kernel_rfl) fun kQ hkQ => ?_
                            go_simp
                            refine hkQ _ _ ?_
                            clear hkQ kQ
                            refine wl (by kernel_rfl) fun kQ hkQ => ?_
                            go_simp
                            refine hkQ _ _ ?_
                            clear hkQ kQ
                            refine wl_load (by kernel_rfl) 27 (.tmp 7) rfl 2 rfl 0 rfl (rC (⟨5, r, (.slice (some ⟨x9, 0, none⟩) n n), TK⟩ : Rfd)) (At.self _) Try.underlying27 rfl (szR _) hS ?_
                            simp [Act.put]
                            refine wl (by kernel_rfl) fun kQ hkQ => ?_
                            go_simp
                            refine (done_any 5 r TK (some ⟨x9, 0, none⟩) n n (LK.set j true) _ hS.K.1.2 hn).mono ?_
                            rintro e w353 ⟨rfl, hb1⟩
                            replace hS := hS.later hb1
                            refine hkQ _ _ ?_
                            clear hkQ kQ hb1
                            rw [unhide HEM]
                            refine wl (by kernel_rfl) fun kQ hkQ => ?_
                            go_simp
                            refine hkQ _ _ ?_
                            clear hkQ kQ
                            refine wl (by kernel_rfl) fun kQ hkQ => ?_
                            go_simp
                            refine hkQ _ _ ?_
                            clear hkQ kQ
                            refine wl (by kernel_rfl) fun kQ hkQ => ?_
                            go_simp
                            refine hkQ _ _ ?_
                            clear hkQ kQ
                            refine wl (by kernel_rfl) fun kQ hkQ => ?_
                            go_simp
                            refine hkQ _ _ ?_
                            clear hkQ kQ
                            refine wl (by kernel_rfl) fun kQ hkQ => ?_
                            go_simp
                            refine hkQ _ _ ?_
                            clear hkQ kQ
                            refine wl (by kernel_rfl) fun kQ hkQ => ?_
                            go_simp
                            refine hkQ _ _ ?_
                            clear hkQ kQ
                            refine wl_load1 (by kernel_rfl) 3 (.tmp 176) rfl 2 rfl 3 rfl (.int .i64 TK) (at_rt (⟨5, r, (.slice (some ⟨x9, 0, none⟩) n n), TK⟩ : Rfd)) Try.underlying3 rfl hS ?_
                            simp [Act.put]
                            refine wl (by kernel_rfl) fun kQ hkQ => ?_
                            go_simp
                            refine hkQ _ _ ?_
                            clear hkQ kQ
                            refine wl (by kernel_rfl) fun kQ hkQ => ?_
                            go_simp
                            refine hkQ _ _ ?_
                            clear hkQ kQ
                            refine wl (by kernel_rfl) fun kQ hkQ => ?_
                            go_simp
                            refine hkQ _ _ ?_
                            clear hkQ kQ
                            refine wpList_nil ?_
                            go_wp2
                            go_roundw
                            case rel => exact ⟨k + 1, some ⟨x9, 0, none⟩, n, by omega, by go_num, by rw [akA_succ r n (N0, 0) ax k _ (unhide HX), unhide HE, akF_ok (x := ⟨(j : Int) + 1, xi⟩) rfl hj h0 h1x, unhide HMX], by rw [akA_succ r n (N0, 0) ax k _ (unhide HX), unhide HE, akF_ok (x := ⟨(j : Int) + 1, xi⟩) rfl hj h0 h1x, unhide HMX]; exact (hS.sub ((((List.Sublist.slnil).cons_cons _).cons_cons _).cons _)).weak (fun w h => ⟨h.1.1.1, h.1.2⟩)⟩
                            case measure => simp [intOf]; omega
                        · as_aux_lemma =>
                            have hemp : (msF (LK.set j true) n).isEmpty = false := by
                              cases he : (msF (LK.set j true) n).isEmpty with
                              | false => rfl
                              | true => exact absurd ((unhide HMN).symm.trans (List.isEmpty_iff_length_eq_zero.1 he)) hm0
                            rw [hemp]
                            have HEM := hide hemp
                            clear hemp
                            have hmz : ((mn : Int) == 0) = false := by simp; omega
                            have hmp : 0 < (mn : Int) := by omega
                            rw [show rdV false r TK = 0 from rfl, show rdE false = 211 from rfl]
                            go_upto_region 30 with fail
                            refine wp_region_lit ?_
                            refine wl (by kernel_rfl) fun kQ hkQ => ?_
                            go_simp
                            refine hkQ _ _ ?_
                            clear hkQ kQ
                            refine wl (by kernel_rfl) fun kQ hkQ => ?_
                            go_simp
                            refine hkQ _ _ ?_
                            clear hkQ kQ
                            refine wl (by kernel_rfl) fun kQ hkQ => ?_
                            go_simp
                            refine hkQ _ _ ?_
                            clear hkQ kQ
                            refine wl (by kernel_rfl) fun kQ hkQ => ?_
                            go_simp
                            refine hkQ _ _ ?_
                            clear hkQ kQ
                            refine wl (by kernel_rfl) fun kQ hkQ => ?_
                            go_simp
                            refine hkQ _ _ ?_
                            clear hkQ kQ
                            refine wl_load (by kernel_rfl) 27 (.tmp 7) rfl 2 rfl 0 rfl (rC (⟨5, r, (.slice (some ⟨x9, 0, none⟩) n n), TK⟩ : Rfd)) (At.self _) Try.underlying27 rfl (szR _) hS ?_
                            simp [Act.put]
                            refine wl (by kernel_rfl) fun kQ hkQ => ?_
                            go_simp
                            refine (done_any 5 r TK (some ⟨x9, 0, none⟩) n n (LK.set j true) _ hS.K.1.2 hn).mono ?_
                            rintro e w353 ⟨rfl, hb1⟩
                            replace hS := hS.later hb1
                            refine hkQ _ _ ?_
                            clear hkQ kQ hb1
                            rw [unhide HEM]
                            refine wl (by kernel_rfl) fun kQ hkQ => ?_
                            go_simp
                            refine hkQ _ _ ?_
                            clear hkQ kQ
                            refine wl (by kernel_rfl) fun kQ hkQ => ?_
                            go_simp
                            refine hkQ _ _ ?_
                            clear hkQ kQ
                            refine wl (by kernel_rfl) fun kQ hkQ => ?_
                            go_simp
                            refine hkQ _ _ ?_
                            clear hkQ kQ
                            refine wl (by kernel_rfl) fun kQ hkQ => ?_
                            go_simp
                            refine hkQ _ _ ?_
                            clear hkQ kQ
                            refine wl (by kernel_rfl) fun kQ hkQ => ?_
                            go_simp
                            refine hkQ _ _ ?_
                            clear hkQ kQ
                            refine wl (by kernel_rfl) fun kQ hkQ => ?_
                            go_simp
                            refine hkQ _ _ ?_
                            clear hkQ kQ
                            refine wl_load1 (by kernel_rfl) 3 (.tmp 176) rfl 2 rfl 3 rfl (.int .i64 TK) (at_rt (⟨5, r, (.slice (some ⟨x9, 0, none⟩) n n), TK⟩ : Rfd)) Try.underlying3 rfl hS ?_
                            simp [Act.put]
                            refine wl (by kernel_rfl) fun kQ hkQ => ?_
                            go_simp
                            refine hkQ _ _ ?_
                            clear hkQ kQ
                            refine wl (by kernel_rfl) fun kQ hkQ => ?_
                            go_simp
                            refine hkQ _ _ ?_
                            clear hkQ kQ
                            refine wl (by kernel_rfl) fun kQ hkQ => ?_
                            go_simp
                            refine hkQ _ _ ?_
                            clear hkQ kQ
                            refine wpList_nil ?_
                            go_wp2
                            go_roundw
                            case rel => exact ⟨k + 1, some ⟨x9, 0, none⟩, n, by omega, by go_num, by rw [akA_succ r n (N0, 0) ax k _ (unhide HX), unhide HE, akF_ok (x := ⟨(j : Int) + 1, xi⟩) rfl hj h0 h1x, unhide HMX], by rw [akA_succ r n (N0, 0) ax k _ (unhide HX), unhide HE, akF_ok (x := ⟨(j : Int) + 1, xi⟩) rfl hj h0 h1x, unhide HMX]; exact (hS.sub ((((List.Sublist.slnil).cons_cons _).cons_cons _).cons _)).weak (fun w h => ⟨h.1.1.1, h.1.2⟩)⟩
                            case measure => simp [intOf]; omega
        · have hkz : ¬ (k : Int) < (an : Int) := by omega
          go_wp2_with fail
          go_ret
          exact ⟨rfl, hS.bel⟩
    · skip
      go_enter Try.func3, Try.ntmps3
      go_upto_region 1 with fail
      refine wp_region_lit ?_
      refine wl (by kernel_rfl) fun kQ hkQ => ?_
      go_simp
      refine hkQ _ _ ?_
      clear hkQ kQ
      refine wl (by kernel_rfl) fun kQ hkQ => ?_
      go_simp
      refine hkQ _ _ ?_
      clear hkQ kQ
      refine wl (by kernel_rfl) fun kQ hkQ => ?_
      go_simp
      refine hkQ _ _ ?_
      clear hkQ kQ
      refine wl (by kernel_rfl) fun kQ hkQ => ?_
      go_simp
      refine hkQ _ _ ?_
      clear hkQ kQ
      refine wl (by kernel_rfl) fun kQ hkQ => ?_
      go_simp
      refine hkQ _ _ ?_
      clear hkQ kQ
      refine wl (by kernel_rfl) fun kQ hkQ => ?_
      go_simp
      refine hkQ _ _ ?_
      clear hkQ kQ
      refine wl (by kernel_rfl) fun kQ hkQ => ?_
      go_simp
      refine (within_no r n0 _ hin).mono ?_
      rintro e w1 ⟨rfl, hb1⟩
      replace hS := hS.later hb1
      refine hkQ _ _ ?_
      clear hkQ kQ hb1
      refine wl (by kernel_rfl) fun kQ hkQ => ?_
      go_simp
      refine hkQ _ _ ?_
      clear hkQ kQ
      refine wl (by kernel_rfl) fun kQ hkQ => ?_
      go_simp
      refine hkQ _ _ ?_
      clear hkQ kQ
      refine wpList_nil ?_
      go_upto_region 2 with fail
      refine wp_region_lit ?_
      refine wl (by kernel_rfl) fun kQ hkQ => ?_
      go_simp
      refine hkQ _ _ ?_
      clear hkQ kQ
      refine wl (by kernel_rfl) fun kQ hkQ => ?_
      go_simp
      refine hkQ _ _ ?_
      clear hkQ kQ
      refine wl (by kernel_rfl) fun kQ hkQ => ?_
      go_simp
      refine hkQ _ _ ?_
      clear hkQ kQ
      refine wl (by kernel_rfl) fun kQ hkQ => ?_
      go_simp
      refine hkQ _ _ ?_
      clear hkQ kQ
      refine wl (by kernel_rfl) fun kQ hkQ => ?_
      go_simp
      refine (counts_any _).mono ?_
      rintro e w2 ⟨rfl, hb1⟩
      replace hS := hS.later hb1
      refine hkQ _ _ ?_
      clear hkQ kQ hb1
      refine wl (by kernel_rfl) fun kQ hkQ => ?_
      go_simp
      refine hkQ _ _ ?_
      clear hkQ kQ
      refine wl (by kernel_rfl) fun kQ hkQ => ?_
      go_simp
      refine hkQ _ _ ?_
      clear hkQ kQ
      refine wpList_nil ?_
      go_wp2_with fail
      go_ret
      exact ⟨rfl, hS.bel⟩
end Go.Proofs.Ytjedgkcpkieaeaa
