import Derived.Test.YtjedgkcpkieaeaaLaW
import Derived.Deep.DeepCutAuto
import Derived.Deep.QuietTactic
import Derived.BigQuiet
set_option linter.unusedSimpArgs false
set_option linter.unusedVariables false
namespace Go.Proofs.Ytjedgkcpkieaeaa
open Go.RowKit

set_option maxHeartbeats 2000000 in
set_option maxRecDepth 100000 in
theorem joined_any (s r t t' : Int) (xa : Option Addr) (n xc : Nat) (l : List Bool) (ya : Option Addr) (yc : Nat) (m : List Bool) (w : World) (hx : Sb w ⟨xa, n, xc, l⟩) (hy : Sb w ⟨ya, n, yc, m⟩) (hn : n ≤ 1048576) :
    Calls Try.prog 17 #[aV (rC ⟨s, r, .slice xa n xc, t⟩), aV (rC ⟨s, r, .slice ya n yc, t'⟩)] w fun e w' => ∃ u, e = .returned (.tuple #[u, .bool true]) ∧ Rn w' w.heap.size s r n (orL l m) (mxZ t t') u ∧ Below w.heap.size w w' := by
  have hS := Hs17.begin w (fun w => Sb w ⟨xa, n, xc, l⟩ ∧ Sb w ⟨ya, n, yc, m⟩) (fun w' ho => ⟨hx.old ho, hy.old ho⟩)
  have HL : Hid (l.length = n) := hide hx.len
  clear hx hy
  go_enter Try.func17, Try.ntmps17
  go_upto_region 0 with fail
  refine wp_region_lit ?_
  refine wl_box (by kernel_rfl) 27 (.tmp 0) rfl (rC (⟨s, r, (.slice xa n xc), t⟩ : Rfd)) rfl hS ?_
  clear hS
  intro g1 w1 hS
  simp [Act.put]
  refine wl_box (by kernel_rfl) 27 (.tmp 1) rfl (rC (⟨s, r, (.slice ya n yc), t'⟩ : Rfd)) rfl hS ?_
  clear hS
  intro g2 w2 hS
  simp [Act.put]
  refine wl_alloc (by kernel_rfl) 27 rfl (rC (⟨0, 0, (.slice none 0 0), 0⟩ : Rfd)) Try.inR hS ?_
  clear hS
  intro g3 w3 hS
  simp [Act.put]
  refine wl (by kernel_rfl) fun kQ hkQ => ?_
  go_simp
  refine hkQ _ _ ?_
  clear hkQ kQ
  refine wpList_nil ?_
  go_upto_region 1 with fail
  refine wp_region_lit ?_
  refine wl_load (by kernel_rfl) 27 (.tmp 2) rfl 2 rfl 0 rfl (rC (⟨s, r, (.slice xa n xc), t⟩ : Rfd)) (At.self _) Try.underlying27 rfl (szR _) hS ?_
  simp [Act.put]
  refine wl_load (by kernel_rfl) 27 (.tmp 3) rfl 1 rfl 0 rfl (rC (⟨s, r, (.slice ya n yc), t'⟩ : Rfd)) (At.self _) Try.underlying27 rfl (szR _) hS ?_
  simp [Act.put]
  refine wl (by kernel_rfl) fun kQ hkQ => ?_
  go_simp
  refine (join_ok s r t t' xa n xc l ya yc m _ hS.K.1 hS.K.2 hn).mono ?_
  rintro e w4 ⟨u, rfl, ⟨hl9, g9, rfl, hg9, hA9⟩, hb1⟩
  replace hS := hS.newRow hb1 hg9 hA9
  refine hkQ _ _ ?_
  clear hkQ kQ hb1
  clear hg9 hA9 hl9
  refine wl (by kernel_rfl) fun kQ hkQ => ?_
  go_simp
  refine hkQ _ _ ?_
  clear hkQ kQ
  refine wl (by kernel_rfl) fun kQ hkQ => ?_
  go_simp
  refine hkQ _ _ ?_
  clear hkQ kQ
  refine wl (by kernel_rfl) fun kQ hkQ => ?_
  go_simp
  refine hkQ _ _ ?_
  clear hkQ kQ
  refine wl_alloc (by kernel_rfl) 27 rfl (rC (⟨0, 0, (.slice none 0 0), 0⟩ : Rfd)) Try.inR hS ?_
  clear hS
  intro g5 w5 hS
  simp [Act.put]
  refine wl_store (by kernel_rfl) 27 (.tmp 6) (.tmp 12) rfl 0 rfl 0 rfl (rC (⟨s, r, (.slice (some ⟨g9, 0, none⟩) n n), (mxZ t t')⟩ : Rfd)) (rC (⟨s, r, (.slice (some ⟨g9, 0, none⟩) n n), (mxZ t t')⟩ : Rfd)) (pt_r (⟨0, 0, (.slice none 0 0), 0⟩ : Rfd) (⟨s, r, (.slice (some ⟨g9, 0, none⟩) n n), (mxZ t t')⟩ : Rfd)) rfl (szR _) (one_r _ _ _ _ _ _) hS ?_
  clear hS
  intro w6 hS
  change Hs17 w [(g5, 27, (rC (⟨s, r, (.slice (some ⟨g9, 0, none⟩) n n), (mxZ t t')⟩ : Rfd))), (g9, 4, ((orL l m).flatMap bC)), (g3, 27, (rC (⟨0, 0, (.slice none 0 0), 0⟩ : Rfd))), (g2, 27, (rC (⟨s, r, (.slice ya n yc), t'⟩ : Rfd))), (g1, 27, (rC (⟨s, r, (.slice xa n xc), t⟩ : Rfd)))] (fun w => Sb w ⟨xa, n, xc, l⟩ ∧ Sb w ⟨ya, n, yc, m⟩) w6 at hS
  simp [Act.put]
  refine wl (by kernel_rfl) fun kQ hkQ => ?_
  go_simp
  refine hkQ _ _ ?_
  clear hkQ kQ
  refine wpList_nil ?_
  go_upto_region 2 with fail
  refine wp_region_lit ?_
  refine wl_load (by kernel_rfl) 27 (.tmp 6) rfl 0 rfl 0 rfl (rC (⟨s, r, (.slice (some ⟨g9, 0, none⟩) n n), (mxZ t t')⟩ : Rfd)) (At.self _) Try.underlying27 rfl (szR _) hS ?_
  simp [Act.put]
  refine wl (by kernel_rfl) fun kQ hkQ => ?_
  go_simp
  refine hkQ _ _ ?_
  clear hkQ kQ
  refine wl (by kernel_rfl) fun kQ hkQ => ?_
  go_simp
  refine hkQ _ _ ?_
  clear hkQ kQ
  refine wl_store (by kernel_rfl) 27 (.tmp 4) (.tmp 14) rfl 2 rfl 0 rfl (rC (⟨s, r, (.slice (some ⟨g9, 0, none⟩) n n), (mxZ t t')⟩ : Rfd)) (rC (⟨s, r, (.slice (some ⟨g9, 0, none⟩) n n), (mxZ t t')⟩ : Rfd)) (pt_r (⟨0, 0, (.slice none 0 0), 0⟩ : Rfd) (⟨s, r, (.slice (some ⟨g9, 0, none⟩) n n), (mxZ t t')⟩ : Rfd)) rfl (szR _) (one_r _ _ _ _ _ _) hS ?_
  clear hS
  intro w7 hS
  change Hs17 w [(g5, 27, (rC (⟨s, r, (.slice (some ⟨g9, 0, none⟩) n n), (mxZ t t')⟩ : Rfd))), (g9, 4, ((orL l m).flatMap bC)), (g3, 27, (rC (⟨s, r, (.slice (some ⟨g9, 0, none⟩) n n), (mxZ t t')⟩ : Rfd))), (g2, 27, (rC (⟨s, r, (.slice ya n yc), t'⟩ : Rfd))), (g1, 27, (rC (⟨s, r, (.slice xa n xc), t⟩ : Rfd)))] (fun w => Sb w ⟨xa, n, xc, l⟩ ∧ Sb w ⟨ya, n, yc, m⟩) w7 at hS
  simp [Act.put]
  refine wl (by kernel_rfl) fun kQ hkQ => ?_
  go_simp
  refine hkQ _ _ ?_
  clear hkQ kQ
  refine wpList_nil ?_
  go_wp2_with fail
  refine bodyPost_ret (res_ct rfl hS 2 rfl rfl Try.underlying27 rfl (szR _) _ rfl) rfl ?_
  exact ⟨_, rfl, ⟨by rw [orL, orK_len]; exact unhide HL, _, rfl, hS.old _ (List.mem_of_getElem? (i := 1) rfl), hS.get 1 rfl⟩, hS.bel⟩
set_option maxHeartbeats 2000000 in
set_option maxRecDepth 100000 in
theorem same_t (s r t : Int) (xa : Option Addr) (n xc : Nat) (l : List Bool) (ya : Option Addr) (yc : Nat) (w : World) (hx : Sb w ⟨xa, n, xc, l⟩) (hy : Sb w ⟨ya, n, yc, l⟩) (hn : n ≤ 1048576) :
    Calls Try.prog 18 #[aV (rC ⟨s, r, .slice xa n xc, t⟩), aV (rC ⟨s, r, .slice ya n yc, t⟩)] w fun e w' => e = .returned (.bool true) ∧ Below w.heap.size w w' := by
  have hS := Hs17.begin w (fun w => Sb w ⟨xa, n, xc, l⟩ ∧ Sb w ⟨ya, n, yc, l⟩) (fun w' ho => ⟨hx.old ho, hy.old ho⟩)
  clear hx hy
  go_enter Try.func18, Try.ntmps18
  go_upto_region 0 with fail
  refine wp_region_lit ?_
  refine wl_box (by kernel_rfl) 27 (.tmp 0) rfl (rC (⟨s, r, (.slice xa n xc), t⟩ : Rfd)) rfl hS ?_
  clear hS
  intro g1 w1 hS
  simp [Act.put]
  refine wl_box (by kernel_rfl) 27 (.tmp 1) rfl (rC (⟨s, r, (.slice ya n yc), t⟩ : Rfd)) rfl hS ?_
  clear hS
  intro g2 w2 hS
  simp [Act.put]
  refine wl (by kernel_rfl) fun kQ hkQ => ?_
  go_simp
  refine hkQ _ _ ?_
  clear hkQ kQ
  refine wpList_nil ?_
  have cx0 : w2.cell? ⟨g1, 0, none⟩ = some (.int .i64 s) := by have := (at_rs (⟨s, r, (.slice xa n xc), t⟩ : Rfd)).range (hS.get 1 rfl) 0 _ rfl; simpa using this
  have cx1 : w2.cell? ⟨g1, 1, none⟩ = some (.int .i64 r) := by have := (at_rr (⟨s, r, (.slice xa n xc), t⟩ : Rfd)).range (hS.get 1 rfl) 0 _ rfl; simpa using this
  have cx2 : w2.cell? ⟨g1, 2, none⟩ = some (.slice xa n xc) := by have := (at_rv (⟨s, r, (.slice xa n xc), t⟩ : Rfd)).range (hS.get 1 rfl) 0 _ rfl; simpa using this
  have cy0 : w2.cell? ⟨g2, 0, none⟩ = some (.int .i64 s) := by have := (at_rs (⟨s, r, (.slice ya n yc), t⟩ : Rfd)).range (hS.get 0 rfl) 0 _ rfl; simpa using this
  have cy1 : w2.cell? ⟨g2, 1, none⟩ = some (.int .i64 r) := by have := (at_rr (⟨s, r, (.slice ya n yc), t⟩ : Rfd)).range (hS.get 0 rfl) 0 _ rfl; simpa using this
  have cy2 : w2.cell? ⟨g2, 2, none⟩ = some (.slice ya n yc) := by have := (at_rv (⟨s, r, (.slice ya n yc), t⟩ : Rfd)).range (hS.get 0 rfl) 0 _ rfl; simpa using this
  have cx3 : w2.cell? ⟨g1, 3, none⟩ = some (.int .i64 t) := by have := (at_rt (⟨s, r, (.slice xa n xc), t⟩ : Rfd)).range (hS.get 1 rfl) 0 _ rfl; simpa using this
  have cy3 : w2.cell? ⟨g2, 3, none⟩ = some (.int .i64 t) := by have := (at_rt (⟨s, r, (.slice ya n yc), t⟩ : Rfd)).range (hS.get 0 rfl) 0 _ rfl; simpa using this
  go_upto_region 3 with fail
  clear cx0 cx1 cx2 cx3 cy0 cy1 cy2 cy3
  go_wp2_with fail
  go_loopw [5] (fun vi wr => ∃ k : Nat, k ≤ n ∧ vi = .int .i64 k ∧ Hs17 w [(g2, 27, (rC (⟨s, r, (.slice ya n yc), t⟩ : Rfd))), (g1, 27, (rC (⟨s, r, (.slice xa n xc), t⟩ : Rfd)))] (fun w => Sb w ⟨xa, n, xc, l⟩ ∧ Sb w ⟨ya, n, yc, l⟩) wr) (fun vi _ => n - (intOf vi).toNat)
  case atStart => exact ⟨0, by omega, rfl, hS⟩
  case round =>
    clear hS
    obtain ⟨k, hk, rfl, hS⟩ := hrel
    have c2 : wr.cell? ⟨g1, 2, none⟩ = some (.slice xa n xc) := by have := (at_rv (⟨s, r, (.slice xa n xc), t⟩ : Rfd)).range (hS.get 1 rfl) 0 _ rfl; simpa using this
    by_cases hlt : k < n
    · have hkz : (k : Int) < (n : Int) := by omega
      obtain ⟨b, off, hxa, hbs, -⟩ := hS.K.1.at_ (k := k) hlt
      obtain ⟨b', off', hya, hbs', -⟩ := hS.K.2.at_ (k := k) hlt
      simp only at hxa hya
      subst hxa hya
      obtain ⟨q, hqe⟩ : ∃ q, l.getD k false = q := ⟨_, rfl⟩
      have HQ := hide hqe
      clear hqe
      go_upto_region 6 with fail
      clear c2
      refine wp_region_noPanic ?_
      replace hS := hS.drew
      refine wp_region_held_drew (S := Hs17 w [(g2, 27, (rC (⟨s, r, (.slice (some ⟨b', off', none⟩) n yc), t⟩ : Rfd))), (g1, 27, (rC (⟨s, r, (.slice (some ⟨b, off, none⟩) n xc), t⟩ : Rfd)))] (fun w => Sb w ⟨some ⟨b, off, none⟩, n, xc, l⟩ ∧ Sb w ⟨some ⟨b', off', none⟩, n, yc, l⟩)) (by kernel_rfl) (hS.sub (((List.Sublist.slnil).cons_cons _).cons_cons _)) (fun hHeld => ?_)
      generalize World.drew _ = w41 at hS hHeld ⊢
      refine wpAnyH_take (i := 0) (oi := _) (v := .pointer (some ⟨g1, 2, none⟩)) rfl (by kernel_rfl) (by kernel_rfl) (by kernel_rfl) (fun _ _ _ h => h) (Or.inl ⟨by rfl, fun w hSw => by go_simp⟩) hHeld ?_
      simp [Act.put]
      refine wpAnyH_take (i := 1) (oi := _) (v := (.slice (some ⟨b, off, none⟩) n xc)) rfl (by kernel_rfl) (by kernel_rfl) (by kernel_rfl) (fun _ _ _ h => h) (yl_load1 (by kernel_rfl) 25 (.tmp 41) rfl 1 rfl 2 rfl ((.slice (some ⟨b, off, none⟩) n xc)) (at_rv (⟨s, r, (.slice (some ⟨b, off, none⟩) n xc), t⟩ : Rfd)) Try.underlying25 rfl) hHeld ?_
      simp [Act.put]
      refine wpAnyH_take (i := 2) (oi := _) (v := .int .i64 (k : Int)) rfl (by kernel_rfl) (by kernel_rfl) (by kernel_rfl) (fun _ _ _ h => h) (Or.inl ⟨by rfl, fun w hSw => by go_simp⟩) hHeld ?_
      simp [Act.put]
      refine wpAnyH_take (i := 3) (oi := _) (v := (.pointer (some ⟨b, off + k, none⟩))) rfl (by kernel_rfl) (by kernel_rfl) (by kernel_rfl) (fun _ _ _ h => h) (Or.inl ⟨by rfl, fun w hSw => by go_simp⟩) hHeld ?_
      simp [Act.put]
      refine wpAnyH_take (i := 4) (oi := _) (v := .bool q) rfl (by kernel_rfl) (by kernel_rfl) (by kernel_rfl) (fun _ _ _ h => h) (yl_loadC (by kernel_rfl) 4 (.tmp 44) rfl (b) (off + k) rfl (.bool q) (fun w hSw => by obtain ⟨b1, o1, e1, -, hc1⟩ := hSw.K.1.at_ (k := k) hlt; simp only at e1; cases e1; rw [unhide HQ] at hc1; exact hc1) Try.underlying4 rfl) hHeld ?_
      simp [Act.put]
      refine wpAnyH_take (i := 5) (oi := _) (v := .pointer (some ⟨g2, 2, none⟩)) rfl (by kernel_rfl) (by kernel_rfl) (by kernel_rfl) (fun _ _ _ h => h) (Or.inl ⟨by rfl, fun w hSw => by go_simp⟩) hHeld ?_
      simp [Act.put]
      refine wpAnyH_take (i := 6) (oi := _) (v := (.slice (some ⟨b', off', none⟩) n yc)) rfl (by kernel_rfl) (by kernel_rfl) (by kernel_rfl) (fun _ _ _ h => h) (yl_load1 (by kernel_rfl) 25 (.tmp 46) rfl 0 rfl 2 rfl ((.slice (some ⟨b', off', none⟩) n yc)) (at_rv (⟨s, r, (.slice (some ⟨b', off', none⟩) n yc), t⟩ : Rfd)) Try.underlying25 rfl) hHeld ?_
      simp [Act.put]
      refine wpAnyH_take (i := 7) (oi := _) (v := .int .i64 (k : Int)) rfl (by kernel_rfl) (by kernel_rfl) (by kernel_rfl) (fun _ _ _ h => h) (Or.inl ⟨by rfl, fun w hSw => by go_simp⟩) hHeld ?_
      simp [Act.put]
      refine wpAnyH_take (i := 8) (oi := _) (v := (.pointer (some ⟨b', off' + k, none⟩))) rfl (by kernel_rfl) (by kernel_rfl) (by kernel_rfl) (fun _ _ _ h => h) (Or.inl ⟨by rfl, fun w hSw => by go_simp⟩) hHeld ?_
      simp [Act.put]
      refine wpAnyH_take (i := 9) (oi := _) (v := .bool q) rfl (by kernel_rfl) (by kernel_rfl) (by kernel_rfl) (fun _ _ _ h => h) (yl_loadC (by kernel_rfl) 4 (.tmp 49) rfl (b') (off' + k) rfl (.bool q) (fun w hSw => by obtain ⟨b1, o1, e1, -, hc1⟩ := hSw.K.2.at_ (k := k) hlt; simp only at e1; cases e1; rw [unhide HQ] at hc1; exact hc1) Try.underlying4 rfl) hHeld ?_
      simp [Act.put]
      refine wpAnyH_take (i := 10) (oi := _) (v := .bool false) rfl (by kernel_rfl) (by kernel_rfl) (by kernel_rfl) (fun _ _ _ h => h) (Or.inl ⟨by rfl, fun w hSw => by go_simp⟩) hHeld ?_
      simp [Act.put]
      refine wpAnyH_done (by kernel_rfl) ?_ _
      unfold NoPanic
      clear hHeld
      go_wp2
      go_roundw
      case rel => exact ⟨k + 1, by omega, by go_num, hS⟩
      case measure => simp [intOf]; omega
    · have hkz : ¬ (k : Int) < (n : Int) := by omega
      go_wp2_with fail
      go_ret
      exact ⟨rfl, hS.bel⟩
/-- what acked answers: what was handed in, or something new -/
def Ak (B : Nat) (w : World) (s r : Int) (n : Nat) (u0 : Value) (l0 : List Bool) (t0 : Int) (l : List Bool) (t : Int) (u : Value) : Prop := (u = u0 ∧ l = l0 ∧ t = t0) ∨ Rn w B s r n l t u
theorem rV_inj {s r t s' r' t' : Int} {a a' : Option Addr} {n c n' c' : Nat} (h : aV (rC ⟨s, r, .slice a n c, t⟩) = aV (rC ⟨s', r', .slice a' n' c', t'⟩)) : s = s' ∧ r = r' ∧ a = a' ∧ n = n' ∧ c = c' ∧ t = t' := by
  simp [aV, rC] at h
  obtain ⟨h1, h2, ⟨h3, h4, h5⟩, h6⟩ := h
  exact ⟨h1, h2, h3, h4, h5, h6⟩
theorem Ak.sb {B : Nat} {w : World} {s r : Int} {n : Nat} {xa : Option Addr} {xc : Nat} {l0 : List Bool} {t0 : Int} {l : List Bool} {t : Int} {a : Option Addr} {c : Nat} (h : Ak B w s r n (aV (rC ⟨s, r, .slice xa n xc, t0⟩)) l0 t0 l t (aV (rC ⟨s, r, .slice a n c, t⟩))) (hs : Sb w ⟨xa, n, xc, l0⟩) (hn : n ≤ 1048576) : Sb w ⟨a, n, c, l⟩ := by
  rcases h with ⟨h1, rfl, rfl⟩ | ⟨hl, g, e, -, hA⟩
  · obtain ⟨-, -, rfl, -, rfl, -⟩ := rV_inj h1
    exact hs
  · obtain ⟨-, -, rfl, -, rfl, -⟩ := rV_inj e
    exact sb_arr hA hl hn
theorem Hs17.keepN {w0 w w' : World} {rows : List Row} {K : World → Prop} {s r t : Int} {n : Nat} {l : List Bool} {u : Value} (hS : Hs17 w0 rows K w) (hb : Below w.heap.size w w') (hR : Rn w' w.heap.size s r n l t u) : Hs17 w0 rows (fun w => K w ∧ Rn w w0.heap.size s r n l t u) w' := by
  obtain ⟨hl, g, e, hg, hA⟩ := hR
  refine (hS.later hb).also (fun w'' h1 h2 => ⟨hl, g, e, Nat.le_trans hS.bel.size hg, (h2 g hA.lt (fun p hp e => ?_)).trans hA⟩)
  have h3 := (hS.arr p hp).lt
  omega
/-- it is kept, whichever it is -/
theorem Hs17.keepA {w0 w w' : World} {rows : List Row} {K : World → Prop} {s r t t0 : Int} {n xc : Nat} {xa : Option Addr} {l l0 : List Bool} {u : Value} (hS : Hs17 w0 rows K w) (hb : Below w.heap.size w w') (hA : Ak w.heap.size w' s r n (aV (rC ⟨s, r, .slice xa n xc, t0⟩)) l0 t0 l t u) (hK : ∀ w, K w → Sb w ⟨xa, n, xc, l0⟩) (hn : n ≤ 1048576) :
    ∃ a c, u = aV (rC ⟨s, r, .slice a n c, t⟩) ∧ Hs17 w0 rows (fun w => K w ∧ Sb w ⟨a, n, c, l⟩) w' := by
  rcases hA with ⟨h1, h2, h3⟩ | hR
  · subst h1 h2 h3
    exact ⟨_, _, rfl, (hS.later hb).weak (fun w h => ⟨h, hK w h⟩)⟩
  · have h' := hS.keepN hb hR
    obtain ⟨hl, g, e, hg, hA⟩ := hR
    subst e
    refine ⟨_, _, rfl, h'.weak (fun w h => ⟨h.1, ?_⟩)⟩
    obtain ⟨-, g', e', -, hA'⟩ := h.2
    obtain ⟨-, -, e1, -, -, -⟩ := rV_inj e'
    cases e1
    exact sb_arr hA' hl hn
/-! What acknowledgements come to. -/
def akOk (r : Int) (n : Nat) (x : Akn) : Bool := decide (1 ≤ x.g) && decide (x.g ≤ (n : Int)) && decide (0 ≤ x.i) && decide (x.i ≤ r)
def akF (r : Int) (n : Nat) (p : List Bool × Int) (x : Akn) : List Bool × Int := if akOk r n x then (p.1.set (x.g.toNat - 1) true, mxZ p.2 x.i) else p
def akA (r : Int) (n : Nat) (p : List Bool × Int) (xs : List Akn) : List Bool × Int := xs.foldl (akF r n) p
theorem akA_succ (r : Int) (n : Nat) (p : List Bool × Int) (xs : List Akn) (k : Nat) (x : Akn) (hx : xs[k]? = some x) : akA r n p (xs.take (k + 1)) = akF r n (akA r n p (xs.take k)) x := by
  rw [List.take_add_one, hx]; simp [akA]
theorem akF_ok {r : Int} {n : Nat} {p : List Bool × Int} {x : Akn} {j : Nat} (hg : x.g = (j : Int) + 1) (hj : j < n) (h0 : 0 ≤ x.i) (h1 : x.i ≤ r) : akF r n p x = (p.1.set j true, mxZ p.2 x.i) := by
  have : akOk r n x = true := by unfold akOk; simp; omega
  unfold akF
  rw [if_pos this, hg]
  have e : ((j : Int) + 1).toNat - 1 = j := by omega
  rw [e]
theorem akF_no {r : Int} {n : Nat} {p : List Bool × Int} {x : Akn} (h : x.g < 1 ∨ (n : Int) < x.g ∨ x.i < 0 ∨ r < x.i) : akF r n p x = p := by
  have : akOk r n x = false := by unfold akOk; simp; omega
  unfold akF; rw [this]; rfl
set_option maxHeartbeats 2000000 in
set_option maxRecDepth 100000 in
theorem acked_any (s r t : Int) (xa : Option Addr) (n xc : Nat) (l : List Bool) (ya : Option Addr) (yn yc : Nat) (ys : List Akn) (w : World) (hx : Sb w ⟨xa, n, xc, l⟩) (hy : Sk w ⟨ya, yn, yc, ys⟩) (hn : n ≤ 1048576) (hyn : yn ≤ 1000000) :
    Calls Try.prog 16 #[(aV (rC ⟨s, r, .slice xa n xc, t⟩)), .slice ya yn yc] w fun e w' => ∃ u, e = .returned u ∧ Ak w.heap.size w' s r n (aV (rC ⟨s, r, .slice xa n xc, t⟩)) l t (akA r n (l, t) ys).1 (akA r n (l, t) ys).2 u ∧ Below w.heap.size w w' := by
  have HY : Hid (ys.length = yn) := hide hy.len
  have hS := Hs17.begin w (fun w' => (Sk w' ⟨ya, yn, yc, ys⟩ ∧ Sb w' ⟨xa, n, xc, l⟩) ∧ Ak w.heap.size w' s r n (aV (rC ⟨s, r, .slice xa n xc, t⟩)) l t l t (aV (rC ⟨s, r, .slice xa n xc, t⟩))) (fun w' ho => ⟨⟨hy.old ho, hx.old ho⟩, .inl ⟨rfl, rfl, rfl⟩⟩)
  clear hx hy
  go_enter Try.func16, Try.ntmps16
  go_upto_region 0 with fail
  refine wp_region_lit ?_
  refine wl_box (by kernel_rfl) 27 (.tmp 0) rfl (rC (⟨s, r, (.slice xa n xc), t⟩ : Rfd)) rfl hS ?_
  clear hS
  intro g1 w1 hS
  simp [Act.put]
  refine wl_alloc (by kernel_rfl) 27 rfl (rC (⟨0, 0, (.slice none 0 0), 0⟩ : Rfd)) Try.inR hS ?_
  clear hS
  intro g2 w2 hS
  simp [Act.put]
  refine wpList_nil ?_
  go_wp2_with fail
  go_loopw [5, 6, 7] (fun vi _ _ wr => ∃ (k : Nat) (a : Option Addr) (c : Nat), k ≤ yn ∧ vi = .int .i64 k ∧ Hs17 w [(g2, 27, (rC (⟨0, 0, (.slice none 0 0), 0⟩ : Rfd))), (g1, 27, (rC (⟨s, r, (.slice a n c), (akA r n (l, t) (ys.take k)).2⟩ : Rfd)))] (fun w' => (Sk w' ⟨ya, yn, yc, ys⟩ ∧ Sb w' ⟨xa, n, xc, l⟩) ∧ Ak w.heap.size w' s r n (aV (rC ⟨s, r, .slice xa n xc, t⟩)) l t (akA r n (l, t) (ys.take k)).1 (akA r n (l, t) (ys.take k)).2 (aV (rC ⟨s, r, .slice a n c, (akA r n (l, t) (ys.take k)).2⟩))) wr) (fun vi _ _ _ => yn - (intOf vi).toNat)
  case atStart => exact ⟨0, xa, xc, by omega, rfl, hS⟩
  case round =>
    clear hS
    obtain ⟨k, a, c, hk, rfl, hS⟩ := hrel
    by_cases hlt : k < yn
    · have hkz : (k : Int) < (yn : Int) := by omega
      obtain ⟨⟨xg, xi⟩, b, off, hxe, hya, hbs, -⟩ := hS.K.1.1.at_ (k := k) hlt
      simp only at hxe hya
      subst hya
      have HX := hide hxe
      have HCG : Hid (∀ w', Sk w' ⟨some ⟨b, off, none⟩, yn, yc, ys⟩ → w'.cell? ⟨b, off + k * 2, none⟩ = some (.int .i64 xg) ∧ w'.cell? ⟨b, off + k * 2 + 1, none⟩ = some (.int .i64 xi)) := hide (fun w' h => by
        obtain ⟨x2, b2, o2, e2, ea, -, hr⟩ := h.at_ (k := k) hlt
        simp only at e2 ea
        cases ea
        rw [hxe] at e2; cases e2
        exact ⟨by simpa using hr 0 _ rfl, by simpa using hr 1 _ rfl⟩)
      obtain ⟨LK, hLK⟩ : ∃ L, (akA r n (l, t) (ys.take k)).1 = L := ⟨_, rfl⟩
      obtain ⟨TK, hTK⟩ : ∃ T, (akA r n (l, t) (ys.take k)).2 = T := ⟨_, rfl⟩
      rw [hLK, hTK] at hS
      have HE : Hid (akA r n (l, t) (ys.take k) = (LK, TK)) := hide (by rw [← hLK, ← hTK])
      clear hxe hLK hTK
      by_cases hok : xg < 1 ∨ (n : Int) < xg ∨ xi < 0 ∨ r < xi
      · skip
        go_upto_region 4 with fail
        refine wp_region_noPanic ?_
        replace hS := hS.drew
        refine wp_region_held_drew (S := Hs17 w [(g2, 27, (rC (⟨0, 0, (.slice none 0 0), 0⟩ : Rfd))), (g1, 27, (rC (⟨s, r, (.slice a n c), TK⟩ : Rfd)))] (fun w' => (Sk w' ⟨some ⟨b, off, none⟩, yn, yc, ys⟩ ∧ Sb w' ⟨xa, n, xc, l⟩) ∧ Ak w.heap.size w' s r n (aV (rC ⟨s, r, .slice xa n xc, t⟩)) l t LK TK (aV (rC ⟨s, r, .slice a n c, TK⟩)))) (by kernel_rfl) (hS.sub (((List.Sublist.slnil).cons_cons _).cons_cons _)) (fun hHeld => ?_)
        generalize World.drew _ = w41 at hS hHeld ⊢
        refine wpAnyH_take (i := 0) (oi := _) (v := aV (rC (⟨s, r, (.slice a n c), TK⟩ : Rfd))) rfl (by kernel_rfl) (by kernel_rfl) (by kernel_rfl) (fun _ _ _ h => h) (yl_load (by kernel_rfl) 27 (.tmp 2) rfl 1 rfl 0 rfl (rC (⟨s, r, (.slice a n c), TK⟩ : Rfd)) (At.self _) Try.underlying27 rfl (szR _)) hHeld ?_
        simp [Act.put]
        refine wpAnyH_take (i := 1) (oi := _) (v := (.slice (some ⟨b, off, none⟩) yn yc)) rfl (by kernel_rfl) (by kernel_rfl) (by kernel_rfl) (fun _ _ _ h => h) (Or.inl ⟨by rfl, fun w hSw => by go_simp⟩) hHeld ?_
        simp [Act.put]
        refine wpAnyH_take (i := 2) (oi := _) (v := .int .i64 (k : Int)) rfl (by kernel_rfl) (by kernel_rfl) (by kernel_rfl) (fun _ _ _ h => h) (Or.inl ⟨by rfl, fun w hSw => by go_simp⟩) hHeld ?_
        simp [Act.put]
        refine wpAnyH_take (i := 3) (oi := _) (v := (.pointer (some ⟨b, off + k * 2, none⟩))) rfl (by kernel_rfl) (by kernel_rfl) (by kernel_rfl) (fun _ _ _ h => h) (Or.inl ⟨by rfl, fun w hSw => by go_simp⟩) hHeld ?_
        simp [Act.put]
        refine wpAnyH_take (i := 4) (oi := _) (v := (.pointer (some ⟨b, off + k * 2, none⟩))) rfl (by kernel_rfl) (by kernel_rfl) (by kernel_rfl) (fun _ _ _ h => h) (Or.inl ⟨by rfl, fun w hSw => by go_simp⟩) hHeld ?_
        simp [Act.put]
        refine wpAnyH_take (i := 5) (oi := _) (v := .int .i64 xg) rfl (by kernel_rfl) (by kernel_rfl) (by kernel_rfl) (fun _ _ _ h => h) (yl_loadC (by kernel_rfl) 3 (.tmp 19) rfl (b) (off + k * 2) rfl (.int .i64 xg) (fun w hSw => (unhide HCG _ hSw.K.1.1).1) Try.underlying3 rfl) hHeld ?_
        simp [Act.put]
        refine wpAnyH_take (i := 6) (oi := _) (v := (.slice (some ⟨b, off, none⟩) yn yc)) rfl (by kernel_rfl) (by kernel_rfl) (by kernel_rfl) (fun _ _ _ h => h) (Or.inl ⟨by rfl, fun w hSw => by go_simp⟩) hHeld ?_
        simp [Act.put]
        refine wpAnyH_take (i := 7) (oi := _) (v := .int .i64 (k : Int)) rfl (by kernel_rfl) (by kernel_rfl) (by kernel_rfl) (fun _ _ _ h => h) (Or.inl ⟨by rfl, fun w hSw => by go_simp⟩) hHeld ?_
        simp [Act.put]
        refine wpAnyH_take (i := 8) (oi := _) (v := (.pointer (some ⟨b, off + k * 2, none⟩))) rfl (by kernel_rfl) (by kernel_rfl) (by kernel_rfl) (fun _ _ _ h => h) (Or.inl ⟨by rfl, fun w hSw => by go_simp⟩) hHeld ?_
        simp [Act.put]
        refine wpAnyH_take (i := 9) (oi := _) (v := (.pointer (some ⟨b, off + k * 2 + 1, none⟩))) rfl (by kernel_rfl) (by kernel_rfl) (by kernel_rfl) (fun _ _ _ h => h) (Or.inl ⟨by rfl, fun w hSw => by go_simp⟩) hHeld ?_
        simp [Act.put]
        refine wpAnyH_take (i := 10) (oi := _) (v := .int .i64 xi) rfl (by kernel_rfl) (by kernel_rfl) (by kernel_rfl) (fun _ _ _ h => h) (yl_loadC (by kernel_rfl) 3 (.tmp 24) rfl (b) (off + k * 2 + 1) rfl (.int .i64 xi) (fun w hSw => (unhide HCG _ hSw.K.1.1).2) Try.underlying3 rfl) hHeld ?_
        simp [Act.put]
        refine wpAnyH_ready (rs := [11, 15]) (by kernel_rfl) (by simp) ?_
        refine (AllReadyH.cons rfl (fun kQ hkQ => ?_) (AllReadyH.cons rfl (fun kQ hkQ => ?_) AllReadyH.nil))
        · skip
          go_simp
          refine (ack_no s r TK a n c LK xg xi _ (hS.K.2.sb hS.K.1.2 hn) hok).mono ?_
          rintro e w42 ⟨rfl, hb1⟩
          replace hS := hS.later hb1
          clear hHeld hb1
          refine hkQ.out _ _ (hS.sub (((List.Sublist.slnil).cons_cons _).cons_cons _)) (fun hHeld => ?_)
          clear hkQ kQ
          refine wpAnyH_take (i := 12) (oi := _) (v := .tuple #[aV (rC zRf), .int .i64 210]) rfl (by kernel_rfl) (by kernel_rfl) (by kernel_rfl) (fun _ _ _ h => h) (Or.inl ⟨by rfl, fun w hSw => by go_simp⟩) hHeld ?_
          simp [Act.put]
          refine wpAnyH_take (i := 13) (oi := _) (v := aV (rC zRf)) rfl (by kernel_rfl) (by kernel_rfl) (by kernel_rfl) (fun _ _ _ h => h) (Or.inl ⟨by rfl, fun w hSw => by go_simp⟩) hHeld ?_
          simp [Act.put]
          refine wpAnyH_take (i := 14) (oi := _) (v := .int .i64 210) rfl (by kernel_rfl) (by kernel_rfl) (by kernel_rfl) (fun _ _ _ h => h) (Or.inl ⟨by rfl, fun w hSw => by go_simp⟩) hHeld ?_
          simp [Act.put]
          refine wpAnyH_ready (rs := [15]) (by kernel_rfl) (by simp) ?_
          refine (AllReadyH.cons rfl (fun kQ hkQ => ?_) AllReadyH.nil)
          refine dw (by kernel_rfl) (op_alloc' 27 rfl (rC (⟨0, 0, (.slice none 0 0), 0⟩ : Rfd)) Try.inR hS ?_)
          clear hS hHeld
          intro g43 w43 hS
          refine hkQ.out _ _ (hS.sub ((((List.Sublist.slnil).cons_cons _).cons_cons _).cons _)) (fun hHeld => ?_)
          clear hkQ kQ
          simp [Act.put]
          refine wpAnyH_ready (rs := [16]) (by kernel_rfl) (by simp) ?_
          refine (AllReadyH.cons rfl (fun kQ hkQ => ?_) AllReadyH.nil)
          refine dw (by kernel_rfl) (op_store 27 (.tmp 6) (.tmp 27) rfl 0 rfl 0 rfl (rC zRf) (rC zRf) (pt_r (⟨0, 0, (.slice none 0 0), 0⟩ : Rfd) zRf) rfl (szR _) (one_r _ _ _ _ _ _) hS ?_)
          clear hS hHeld
          intro w44 hS
          change Hs17 w [(g43, 27, (rC zRf)), (g2, 27, (rC (⟨0, 0, (.slice none 0 0), 0⟩ : Rfd))), (g1, 27, (rC (⟨s, r, (.slice a n c), TK⟩ : Rfd)))] (fun w' => (Sk w' ⟨some ⟨b, off, none⟩, yn, yc, ys⟩ ∧ Sb w' ⟨xa, n, xc, l⟩) ∧ Ak w.heap.size w' s r n (aV (rC ⟨s, r, .slice xa n xc, t⟩)) l t LK TK (aV (rC ⟨s, r, .slice a n c, TK⟩))) w44 at hS
          refine hkQ.out _ _ (hS.sub ((((List.Sublist.slnil).cons_cons _).cons_cons _).cons _)) (fun hHeld => ?_)
          clear hkQ kQ
          simp [Act.put]
          refine wpAnyH_take (i := 17) (oi := _) (v := .int .i64 210) rfl (by kernel_rfl) (by kernel_rfl) (by kernel_rfl) (fun _ _ _ h => h) (Or.inl ⟨by rfl, fun w hSw => by go_simp⟩) hHeld ?_
          simp [Act.put]
          refine wpAnyH_done (by kernel_rfl) ?_ _
          unfold NoPanic
          clear hHeld
          go_wp2
          go_roundw
          case rel => exact ⟨k + 1, a, c, by omega, by go_num, by rw [akA_succ r n (l, t) ys k _ (unhide HX), unhide HE, akF_no hok]; exact (hS.sub ((((List.Sublist.slnil).cons_cons _).cons_cons _).cons _)).weak (fun w h => h)⟩
          case measure => simp [intOf]; omega
        · skip
          refine dw (by kernel_rfl) (op_alloc' 27 rfl (rC (⟨0, 0, (.slice none 0 0), 0⟩ : Rfd)) Try.inR hS ?_)
          clear hS hHeld
          intro g45 w45 hS
          refine hkQ.out _ _ (hS.sub ((((List.Sublist.slnil).cons_cons _).cons_cons _).cons _)) (fun hHeld => ?_)
          clear hkQ kQ
          simp [Act.put]
          refine wpAnyH_ready (rs := [11]) (by kernel_rfl) (by simp) ?_
          refine (AllReadyH.cons rfl (fun kQ hkQ => ?_) AllReadyH.nil)
          go_simp
          refine (ack_no s r TK a n c LK xg xi _ (hS.K.2.sb hS.K.1.2 hn) hok).mono ?_
          rintro e w46 ⟨rfl, hb1⟩
          replace hS := hS.later hb1
          clear hHeld hb1
          refine hkQ.out _ _ (hS.sub ((((List.Sublist.slnil).cons_cons _).cons_cons _).cons _)) (fun hHeld => ?_)
          clear hkQ kQ
          refine wpAnyH_take (i := 12) (oi := _) (v := .tuple #[aV (rC zRf), .int .i64 210]) rfl (by kernel_rfl) (by kernel_rfl) (by kernel_rfl) (fun _ _ _ h => h) (Or.inl ⟨by rfl, fun w hSw => by go_simp⟩) hHeld ?_
          simp [Act.put]
          refine wpAnyH_take (i := 13) (oi := _) (v := aV (rC zRf)) rfl (by kernel_rfl) (by kernel_rfl) (by kernel_rfl) (fun _ _ _ h => h) (Or.inl ⟨by rfl, fun w hSw => by go_simp⟩) hHeld ?_
          simp [Act.put]
          refine wpAnyH_take (i := 14) (oi := _) (v := .int .i64 210) rfl (by kernel_rfl) (by kernel_rfl) (by kernel_rfl) (fun _ _ _ h => h) (Or.inl ⟨by rfl, fun w hSw => by go_simp⟩) hHeld ?_
          simp [Act.put]
          refine wpAnyH_ready (rs := [16]) (by kernel_rfl) (by simp) ?_
          refine (AllReadyH.cons rfl (fun kQ hkQ => ?_) AllReadyH.nil)
          refine dw (by kernel_rfl) (op_store 27 (.tmp 6) (.tmp 27) rfl 0 rfl 0 rfl (rC zRf) (rC zRf) (pt_r (⟨0, 0, (.slice none 0 0), 0⟩ : Rfd) zRf) rfl (szR _) (one_r _ _ _ _ _ _) hS ?_)
          clear hS hHeld
          intro w47 hS
          change Hs17 w [(g45, 27, (rC zRf)), (g2, 27, (rC (⟨0, 0, (.slice none 0 0), 0⟩ : Rfd))), (g1, 27, (rC (⟨s, r, (.slice a n c), TK⟩ : Rfd)))] (fun w' => (Sk w' ⟨some ⟨b, off, none⟩, yn, yc, ys⟩ ∧ Sb w' ⟨xa, n, xc, l⟩) ∧ Ak w.heap.size w' s r n (aV (rC ⟨s, r, .slice xa n xc, t⟩)) l t LK TK (aV (rC ⟨s, r, .slice a n c, TK⟩))) w47 at hS
          refine hkQ.out _ _ (hS.sub ((((List.Sublist.slnil).cons_cons _).cons_cons _).cons _)) (fun hHeld => ?_)
          clear hkQ kQ
          simp [Act.put]
          refine wpAnyH_take (i := 17) (oi := _) (v := .int .i64 210) rfl (by kernel_rfl) (by kernel_rfl) (by kernel_rfl) (fun _ _ _ h => h) (Or.inl ⟨by rfl, fun w hSw => by go_simp⟩) hHeld ?_
          simp [Act.put]
          refine wpAnyH_done (by kernel_rfl) ?_ _
          unfold NoPanic
          clear hHeld
          go_wp2
          go_roundw
          case rel => exact ⟨k + 1, a, c, by omega, by go_num, by rw [akA_succ r n (l, t) ys k _ (unhide HX), unhide HE, akF_no hok]; exact (hS.sub ((((List.Sublist.slnil).cons_cons _).cons_cons _).cons _)).weak (fun w h => h)⟩
          case measure => simp [intOf]; omega
      · obtain ⟨j, rfl⟩ : ∃ j : Nat, xg = (j : Int) + 1 := ⟨(xg - 1).toNat, by omega⟩
        have hj : j < n := by omega
        have h0 : 0 ≤ xi := by omega
        have h1 : xi ≤ r := by omega
        clear hok
        go_upto_region 4 with fail
        refine wp_region_noPanic ?_
        replace hS := hS.drew
        refine wp_region_held_drew (S := Hs17 w [(g2, 27, (rC (⟨0, 0, (.slice none 0 0), 0⟩ : Rfd))), (g1, 27, (rC (⟨s, r, (.slice a n c), TK⟩ : Rfd)))] (fun w' => (Sk w' ⟨some ⟨b, off, none⟩, yn, yc, ys⟩ ∧ Sb w' ⟨xa, n, xc, l⟩) ∧ Ak w.heap.size w' s r n (aV (rC ⟨s, r, .slice xa n xc, t⟩)) l t LK TK (aV (rC ⟨s, r, .slice a n c, TK⟩)))) (by kernel_rfl) (hS.sub (((List.Sublist.slnil).cons_cons _).cons_cons _)) (fun hHeld => ?_)
        generalize World.drew _ = w41 at hS hHeld ⊢
        refine wpAnyH_take (i := 0) (oi := _) (v := aV (rC (⟨s, r, (.slice a n c), TK⟩ : Rfd))) rfl (by kernel_rfl) (by kernel_rfl) (by kernel_rfl) (fun _ _ _ h => h) (yl_load (by kernel_rfl) 27 (.tmp 2) rfl 1 rfl 0 rfl (rC (⟨s, r, (.slice a n c), TK⟩ : Rfd)) (At.self _) Try.underlying27 rfl (szR _)) hHeld ?_
        simp [Act.put]
        refine wpAnyH_take (i := 1) (oi := _) (v := (.slice (some ⟨b, off, none⟩) yn yc)) rfl (by kernel_rfl) (by kernel_rfl) (by kernel_rfl) (fun _ _ _ h => h) (Or.inl ⟨by rfl, fun w hSw => by go_simp⟩) hHeld ?_
        simp [Act.put]
        refine wpAnyH_take (i := 2) (oi := _) (v := .int .i64 (k : Int)) rfl (by kernel_rfl) (by kernel_rfl) (by kernel_rfl) (fun _ _ _ h => h) (Or.inl ⟨by rfl, fun w hSw => by go_simp⟩) hHeld ?_
        simp [Act.put]
        refine wpAnyH_take (i := 3) (oi := _) (v := (.pointer (some ⟨b, off + k * 2, none⟩))) rfl (by kernel_rfl) (by kernel_rfl) (by kernel_rfl) (fun _ _ _ h => h) (Or.inl ⟨by rfl, fun w hSw => by go_simp⟩) hHeld ?_
        simp [Act.put]
        refine wpAnyH_take (i := 4) (oi := _) (v := (.pointer (some ⟨b, off + k * 2, none⟩))) rfl (by kernel_rfl) (by kernel_rfl) (by kernel_rfl) (fun _ _ _ h => h) (Or.inl ⟨by rfl, fun w hSw => by go_simp⟩) hHeld ?_
        simp [Act.put]
        refine wpAnyH_take (i := 5) (oi := _) (v := .int .i64 ((j : Int) + 1)) rfl (by kernel_rfl) (by kernel_rfl) (by kernel_rfl) (fun _ _ _ h => h) (yl_loadC (by kernel_rfl) 3 (.tmp 19) rfl (b) (off + k * 2) rfl (.int .i64 ((j : Int) + 1)) (fun w hSw => (unhide HCG _ hSw.K.1.1).1) Try.underlying3 rfl) hHeld ?_
        simp [Act.put]
        refine wpAnyH_take (i := 6) (oi := _) (v := (.slice (some ⟨b, off, none⟩) yn yc)) rfl (by kernel_rfl) (by kernel_rfl) (by kernel_rfl) (fun _ _ _ h => h) (Or.inl ⟨by rfl, fun w hSw => by go_simp⟩) hHeld ?_
        simp [Act.put]
        refine wpAnyH_take (i := 7) (oi := _) (v := .int .i64 (k : Int)) rfl (by kernel_rfl) (by kernel_rfl) (by kernel_rfl) (fun _ _ _ h => h) (Or.inl ⟨by rfl, fun w hSw => by go_simp⟩) hHeld ?_
        simp [Act.put]
        refine wpAnyH_take (i := 8) (oi := _) (v := (.pointer (some ⟨b, off + k * 2, none⟩))) rfl (by kernel_rfl) (by kernel_rfl) (by kernel_rfl) (fun _ _ _ h => h) (Or.inl ⟨by rfl, fun w hSw => by go_simp⟩) hHeld ?_
        simp [Act.put]
        refine wpAnyH_take (i := 9) (oi := _) (v := (.pointer (some ⟨b, off + k * 2 + 1, none⟩))) rfl (by kernel_rfl) (by kernel_rfl) (by kernel_rfl) (fun _ _ _ h => h) (Or.inl ⟨by rfl, fun w hSw => by go_simp⟩) hHeld ?_
        simp [Act.put]
        refine wpAnyH_take (i := 10) (oi := _) (v := .int .i64 xi) rfl (by kernel_rfl) (by kernel_rfl) (by kernel_rfl) (fun _ _ _ h => h) (yl_loadC (by kernel_rfl) 3 (.tmp 24) rfl (b) (off + k * 2 + 1) rfl (.int .i64 xi) (fun w hSw => (unhide HCG _ hSw.K.1.1).2) Try.underlying3 rfl) hHeld ?_
        simp [Act.put]
        refine wpAnyH_ready (rs := [11, 15]) (by kernel_rfl) (by simp) ?_
        refine (AllReadyH.cons rfl (fun kQ hkQ => ?_) (AllReadyH.cons rfl (fun kQ hkQ => ?_) AllReadyH.nil))
        · skip
          go_simp
          refine (ack_ok s r TK a n c LK j xi _ (hS.K.2.sb hS.K.1.2 hn) hn hj h0 h1).mono ?_
          rintro e w42 ⟨u, rfl, hR9, hb1⟩
          replace hS := hS.keepN hb1 hR9; obtain ⟨-, x9, rfl, -, -⟩ := hR9
          clear hHeld hb1
          refine hkQ.out _ _ ((hS.sub (((List.Sublist.slnil).cons_cons _).cons_cons _)).weak (fun _ h => h.1)) (fun hHeld => ?_)
          clear hkQ kQ
          refine wpAnyH_take (i := 12) (oi := _) (v := .tuple #[aV (rC (⟨s, r, (.slice (some ⟨x9, 0, none⟩) n n), (mxZ TK xi)⟩ : Rfd)), .int .i64 0]) rfl (by kernel_rfl) (by kernel_rfl) (by kernel_rfl) (fun _ _ _ h => h) (Or.inl ⟨by rfl, fun w hSw => by go_simp⟩) hHeld ?_
          simp [Act.put]
          refine wpAnyH_take (i := 13) (oi := _) (v := aV (rC (⟨s, r, (.slice (some ⟨x9, 0, none⟩) n n), (mxZ TK xi)⟩ : Rfd))) rfl (by kernel_rfl) (by kernel_rfl) (by kernel_rfl) (fun _ _ _ h => h) (Or.inl ⟨by rfl, fun w hSw => by go_simp⟩) hHeld ?_
          simp [Act.put]
          refine wpAnyH_take (i := 14) (oi := _) (v := .int .i64 0) rfl (by kernel_rfl) (by kernel_rfl) (by kernel_rfl) (fun _ _ _ h => h) (Or.inl ⟨by rfl, fun w hSw => by go_simp⟩) hHeld ?_
          simp [Act.put]
          refine wpAnyH_ready (rs := [15]) (by kernel_rfl) (by simp) ?_
          refine (AllReadyH.cons rfl (fun kQ hkQ => ?_) AllReadyH.nil)
          refine dw (by kernel_rfl) (op_alloc' 27 rfl (rC (⟨0, 0, (.slice none 0 0), 0⟩ : Rfd)) Try.inR hS ?_)
          clear hS hHeld
          intro g43 w43 hS
          refine hkQ.out _ _ ((hS.sub ((((List.Sublist.slnil).cons_cons _).cons_cons _).cons _)).weak (fun _ h => h.1)) (fun hHeld => ?_)
          clear hkQ kQ
          simp [Act.put]
          refine wpAnyH_ready (rs := [16]) (by kernel_rfl) (by simp) ?_
          refine (AllReadyH.cons rfl (fun kQ hkQ => ?_) AllReadyH.nil)
          refine dw (by kernel_rfl) (op_store 27 (.tmp 6) (.tmp 27) rfl 0 rfl 0 rfl (rC (⟨s, r, (.slice (some ⟨x9, 0, none⟩) n n), (mxZ TK xi)⟩ : Rfd)) (rC (⟨s, r, (.slice (some ⟨x9, 0, none⟩) n n), (mxZ TK xi)⟩ : Rfd)) (pt_r (⟨0, 0, (.slice none 0 0), 0⟩ : Rfd) (⟨s, r, (.slice (some ⟨x9, 0, none⟩) n n), (mxZ TK xi)⟩ : Rfd)) rfl (szR _) (one_r _ _ _ _ _ _) hS ?_)
          clear hS hHeld
          intro w44 hS
          change Hs17 w [(g43, 27, (rC (⟨s, r, (.slice (some ⟨x9, 0, none⟩) n n), (mxZ TK xi)⟩ : Rfd))), (g2, 27, (rC (⟨0, 0, (.slice none 0 0), 0⟩ : Rfd))), (g1, 27, (rC (⟨s, r, (.slice a n c), TK⟩ : Rfd)))] _ w44 at hS
          refine hkQ.out _ _ ((hS.sub ((((List.Sublist.slnil).cons_cons _).cons_cons _).cons _)).weak (fun _ h => h.1)) (fun hHeld => ?_)
          clear hkQ kQ
          simp [Act.put]
          refine wpAnyH_take (i := 17) (oi := _) (v := .int .i64 0) rfl (by kernel_rfl) (by kernel_rfl) (by kernel_rfl) (fun _ _ _ h => h) (Or.inl ⟨by rfl, fun w hSw => by go_simp⟩) hHeld ?_
          simp [Act.put]
          refine wpAnyH_done (by kernel_rfl) ?_ _
          unfold NoPanic
          clear hHeld
          go_upto_region 6 with fail
          refine wp_region_lit ?_
          refine wl_load (by kernel_rfl) 27 (.tmp 6) rfl 0 rfl 0 rfl (rC (⟨s, r, (.slice (some ⟨x9, 0, none⟩) n n), (mxZ TK xi)⟩ : Rfd)) (At.self _) Try.underlying27 rfl (szR _) hS ?_
          simp [Act.put]
          refine wl_store (by kernel_rfl) 27 (.tmp 2) (.tmp 31) rfl 2 rfl 0 rfl (rC (⟨s, r, (.slice (some ⟨x9, 0, none⟩) n n), (mxZ TK xi)⟩ : Rfd)) (rC (⟨s, r, (.slice (some ⟨x9, 0, none⟩) n n), (mxZ TK xi)⟩ : Rfd)) (pt_r (⟨s, r, (.slice a n c), TK⟩ : Rfd) (⟨s, r, (.slice (some ⟨x9, 0, none⟩) n n), (mxZ TK xi)⟩ : Rfd)) rfl (szR _) (one_r _ _ _ _ _ _) hS ?_
          clear hS
          intro w45 hS
          change Hs17 w [(g43, 27, (rC (⟨s, r, (.slice (some ⟨x9, 0, none⟩) n n), (mxZ TK xi)⟩ : Rfd))), (g2, 27, (rC (⟨0, 0, (.slice none 0 0), 0⟩ : Rfd))), (g1, 27, (rC (⟨s, r, (.slice (some ⟨x9, 0, none⟩) n n), (mxZ TK xi)⟩ : Rfd)))] _ w45 at hS
          simp [Act.put]
          refine wpList_nil ?_
          go_wp2
          go_roundw
          case rel => exact ⟨k + 1, some ⟨x9, 0, none⟩, n, by omega, by go_num, by rw [akA_succ r n (l, t) ys k _ (unhide HX), unhide HE, akF_ok (x := ⟨(j : Int) + 1, xi⟩) rfl hj h0 h1]; exact (hS.sub ((((List.Sublist.slnil).cons_cons _).cons_cons _).cons _)).weak (fun w h => ⟨h.1.1, .inr h.2⟩)⟩
          case measure => simp [intOf]; omega
        · skip
          refine dw (by kernel_rfl) (op_alloc' 27 rfl (rC (⟨0, 0, (.slice none 0 0), 0⟩ : Rfd)) Try.inR hS ?_)
          clear hS hHeld
          intro g46 w46 hS
          refine hkQ.out _ _ (hS.sub ((((List.Sublist.slnil).cons_cons _).cons_cons _).cons _)) (fun hHeld => ?_)
          clear hkQ kQ
          simp [Act.put]
          refine wpAnyH_ready (rs := [11]) (by kernel_rfl) (by simp) ?_
          refine (AllReadyH.cons rfl (fun kQ hkQ => ?_) AllReadyH.nil)
          go_simp
          refine (ack_ok s r TK a n c LK j xi _ (hS.K.2.sb hS.K.1.2 hn) hn hj h0 h1).mono ?_
          rintro e w47 ⟨u, rfl, hR9, hb1⟩
          replace hS := hS.keepN hb1 hR9; obtain ⟨-, x9, rfl, -, -⟩ := hR9
          clear hHeld hb1
          refine hkQ.out _ _ ((hS.sub ((((List.Sublist.slnil).cons_cons _).cons_cons _).cons _)).weak (fun _ h => h.1)) (fun hHeld => ?_)
          clear hkQ kQ
          refine wpAnyH_take (i := 12) (oi := _) (v := .tuple #[aV (rC (⟨s, r, (.slice (some ⟨x9, 0, none⟩) n n), (mxZ TK xi)⟩ : Rfd)), .int .i64 0]) rfl (by kernel_rfl) (by kernel_rfl) (by kernel_rfl) (fun _ _ _ h => h) (Or.inl ⟨by rfl, fun w hSw => by go_simp⟩) hHeld ?_
          simp [Act.put]
          refine wpAnyH_take (i := 13) (oi := _) (v := aV (rC (⟨s, r, (.slice (some ⟨x9, 0, none⟩) n n), (mxZ TK xi)⟩ : Rfd))) rfl (by kernel_rfl) (by kernel_rfl) (by kernel_rfl) (fun _ _ _ h => h) (Or.inl ⟨by rfl, fun w hSw => by go_simp⟩) hHeld ?_
          simp [Act.put]
          refine wpAnyH_take (i := 14) (oi := _) (v := .int .i64 0) rfl (by kernel_rfl) (by kernel_rfl) (by kernel_rfl) (fun _ _ _ h => h) (Or.inl ⟨by rfl, fun w hSw => by go_simp⟩) hHeld ?_
          simp [Act.put]
          refine wpAnyH_ready (rs := [16]) (by kernel_rfl) (by simp) ?_
          refine (AllReadyH.cons rfl (fun kQ hkQ => ?_) AllReadyH.nil)
          refine dw (by kernel_rfl) (op_store 27 (.tmp 6) (.tmp 27) rfl 0 rfl 0 rfl (rC (⟨s, r, (.slice (some ⟨x9, 0, none⟩) n n), (mxZ TK xi)⟩ : Rfd)) (rC (⟨s, r, (.slice (some ⟨x9, 0, none⟩) n n), (mxZ TK xi)⟩ : Rfd)) (pt_r (⟨0, 0, (.slice none 0 0), 0⟩ : Rfd) (⟨s, r, (.slice (some ⟨x9, 0, none⟩) n n), (mxZ TK xi)⟩ : Rfd)) rfl (szR _) (one_r _ _ _ _ _ _) hS ?_)
          clear hS hHeld
          intro w48 hS
          change Hs17 w [(g46, 27, (rC (⟨s, r, (.slice (some ⟨x9, 0, none⟩) n n), (mxZ TK xi)⟩ : Rfd))), (g2, 27, (rC (⟨0, 0, (.slice none 0 0), 0⟩ : Rfd))), (g1, 27, (rC (⟨s, r, (.slice a n c), TK⟩ : Rfd)))] _ w48 at hS
          refine hkQ.out _ _ ((hS.sub ((((List.Sublist.slnil).cons_cons _).cons_cons _).cons _)).weak (fun _ h => h.1)) (fun hHeld => ?_)
          clear hkQ kQ
          simp [Act.put]
          refine wpAnyH_take (i := 17) (oi := _) (v := .int .i64 0) rfl (by kernel_rfl) (by kernel_rfl) (by kernel_rfl) (fun _ _ _ h => h) (Or.inl ⟨by rfl, fun w hSw => by go_simp⟩) hHeld ?_
          simp [Act.put]
          refine wpAnyH_done (by kernel_rfl) ?_ _
          unfold NoPanic
          clear hHeld
          go_upto_region 6 with fail
          refine wp_region_lit ?_
          refine wl_load (by kernel_rfl) 27 (.tmp 6) rfl 0 rfl 0 rfl (rC (⟨s, r, (.slice (some ⟨x9, 0, none⟩) n n), (mxZ TK xi)⟩ : Rfd)) (At.self _) Try.underlying27 rfl (szR _) hS ?_
          simp [Act.put]
          refine wl_store (by kernel_rfl) 27 (.tmp 2) (.tmp 31) rfl 2 rfl 0 rfl (rC (⟨s, r, (.slice (some ⟨x9, 0, none⟩) n n), (mxZ TK xi)⟩ : Rfd)) (rC (⟨s, r, (.slice (some ⟨x9, 0, none⟩) n n), (mxZ TK xi)⟩ : Rfd)) (pt_r (⟨s, r, (.slice a n c), TK⟩ : Rfd) (⟨s, r, (.slice (some ⟨x9, 0, none⟩) n n), (mxZ TK xi)⟩ : Rfd)) rfl (szR _) (one_r _ _ _ _ _ _) hS ?_
          clear hS
          intro w49 hS
          change Hs17 w [(g46, 27, (rC (⟨s, r, (.slice (some ⟨x9, 0, none⟩) n n), (mxZ TK xi)⟩ : Rfd))), (g2, 27, (rC (⟨0, 0, (.slice none 0 0), 0⟩ : Rfd))), (g1, 27, (rC (⟨s, r, (.slice (some ⟨x9, 0, none⟩) n n), (mxZ TK xi)⟩ : Rfd)))] _ w49 at hS
          simp [Act.put]
          refine wpList_nil ?_
          go_wp2
          go_roundw
          case rel => exact ⟨k + 1, some ⟨x9, 0, none⟩, n, by omega, by go_num, by rw [akA_succ r n (l, t) ys k _ (unhide HX), unhide HE, akF_ok (x := ⟨(j : Int) + 1, xi⟩) rfl hj h0 h1]; exact (hS.sub ((((List.Sublist.slnil).cons_cons _).cons_cons _).cons _)).weak (fun w h => ⟨h.1.1, .inr h.2⟩)⟩
          case measure => simp [intOf]; omega
    · obtain rfl : yn = k := by omega
      have hkz : ¬ (yn : Int) < (yn : Int) := by omega
      have hfull : ys.take yn = ys := List.take_of_length_le (by rw [unhide HY]; exact Nat.le_refl _)
      rw [hfull] at hS
      clear hfull
      go_upto_region 7 with fail
      refine wp_region_lit ?_
      refine wl_load (by kernel_rfl) 27 (.tmp 2) rfl 1 rfl 0 rfl (rC (⟨s, r, (.slice a n c), (akA r n (l, t) ys).2⟩ : Rfd)) (At.self _) Try.underlying27 rfl (szR _) hS ?_
      simp [Act.put]
      refine wl_store (by kernel_rfl) 27 (.tmp 4) (.tmp 32) rfl 0 rfl 0 rfl (rC (⟨s, r, (.slice a n c), (akA r n (l, t) ys).2⟩ : Rfd)) (rC (⟨s, r, (.slice a n c), (akA r n (l, t) ys).2⟩ : Rfd)) (pt_r (⟨0, 0, (.slice none 0 0), 0⟩ : Rfd) (⟨s, r, (.slice a n c), (akA r n (l, t) ys).2⟩ : Rfd)) rfl (szR _) (one_r _ _ _ _ _ _) hS ?_
      clear hS
      intro w81 hS
      change Hs17 w [(g2, 27, (rC (⟨s, r, (.slice a n c), (akA r n (l, t) ys).2⟩ : Rfd))), (g1, 27, (rC (⟨s, r, (.slice a n c), (akA r n (l, t) ys).2⟩ : Rfd)))] _ w81 at hS
      simp [Act.put]
      refine wpList_nil ?_
      go_wp2_with fail
      refine bodyPost_ret (res_c rfl hS 0 rfl rfl Try.underlying27 rfl (szR _)) rfl ?_
      exact ⟨_, rfl, hS.K.2, hS.bel⟩
end Go.Proofs.Ytjedgkcpkieaeaa
