import Derived.Test.YtjedgkcpkieaeaaOtW
import Derived.Deep.DeepCutAuto
import Derived.Deep.QuietTactic
import Derived.BigQuiet
set_option linter.unusedSimpArgs false
set_option linter.unusedVariables false
namespace Go.Proofs.Ytjedgkcpkieaeaa
open Go.RowKit

/-- what stepped answers: the refund that was handed in, or another, which is new -/
def Stn (w : World) (B : Nat) (u0 : Value) (n0 : Nat) (l0 : List Bool) (e : Ending) : Prop := ∃ s r t a n c l, e = .returned (.tuple #[aV (rC ⟨s, r, .slice a n c, t⟩), .bool true]) ∧ ((aV (rC ⟨s, r, .slice a n c, t⟩) = u0 ∧ l = l0) ∨ (n ≤ 1048576 ∧ Sb w ⟨a, n, c, l⟩ ∧ ∀ x, a = some x → B ≤ x.block))
theorem Hs17.keepO {w0 w w' : World} {rows : List Row} {K : World → Prop} {s r t s0 r0 t0 : Int} {a xa : Option Addr} {n c n0 xc : Nat} {l l0 : List Bool} (hS : Hs17 w0 rows K w) (hb : Below w.heap.size w w') (h : (aV (rC ⟨s, r, .slice a n c, t⟩) = aV (rC ⟨s0, r0, .slice xa n0 xc, t0⟩) ∧ l = l0) ∨ (n ≤ 1048576 ∧ Sb w' ⟨a, n, c, l⟩ ∧ ∀ x, a = some x → w.heap.size ≤ x.block)) (hK : ∀ w, K w → Sb w ⟨xa, n0, xc, l0⟩) (hn0 : n0 ≤ 1048576) : n ≤ 1048576 ∧ Hs17 w0 rows (fun w => K w ∧ Sb w ⟨a, n, c, l⟩) w' := by
  rcases h with ⟨h1, rfl⟩ | ⟨h1, h2, h3⟩
  · obtain ⟨-, -, rfl, rfl, rfl, -⟩ := rV_inj h1
    exact ⟨hn0, (hS.later hb).weak (fun w h => ⟨h, hK w h⟩)⟩
  · exact ⟨h1, hS.keepS hb h2 h3⟩
set_option maxHeartbeats 8000000 in
set_option maxRecDepth 100000 in
theorem stepped_t (s r t : Int) (xa : Option Addr) (n xc : Nat) (l : List Bool) (sa sb : Int) (jn : Bool) (ss sr sg : Int) (oa : Option Addr) (on oc : Nat) (ox : List Akn) (w : World) (hq : Sb w ⟨xa, n, xc, l⟩) (ho : Sk w ⟨oa, on, oc, ox⟩) (hn : n ≤ 1048576) (hon : on ≤ 300) :
    Calls Try.prog 31 #[(aV (rC ⟨s, r, .slice xa n xc, t⟩)), aV (tC (⟨sa, sb, jn, ss, sr, sg, (.slice oa on oc)⟩ : Stp))] w fun e w' => Stn w' w.heap.size (aV (rC ⟨s, r, .slice xa n xc, t⟩)) n l e ∧ Below w.heap.size w w' := by
  have hS := Hs17.begin w (fun w => Sb w ⟨xa, n, xc, l⟩ ∧ Sk w ⟨oa, on, oc, ox⟩) (fun w' h => ⟨hq.old h, ho.old h⟩)
  clear hq ho
  cases jn with
  | false =>
    obtain ⟨A, hA⟩ : ∃ A, ackR s r n l t sa sb = A := ⟨_, rfl⟩
    have hnA : A.n ≤ 1048576 := by rw [← hA]; exact Nat.le_trans ackR_n hn
    have HAE : Hid (A.e = 0 ∨ A.e = 210) := hide (by rw [← hA]; exact ackR_e)
    have HA := hide hA
    clear hA
    go_enter Try.func31, Try.ntmps31
    go_upto_region 0 with fail
    refine wp_region_lit ?_
    refine wl_box (by kernel_rfl) 27 (.tmp 0) rfl (rC (⟨s, r, (.slice xa n xc), t⟩ : Rfd)) rfl hS ?_
    clear hS
    intro g1 w1 hS
    simp [Act.put]
    refine wl_box (by kernel_rfl) 61 (.tmp 1) rfl (tC (⟨sa, sb, false, ss, sr, sg, (.slice oa on oc)⟩ : Stp)) rfl hS ?_
    clear hS
    intro g2 w2 hS
    simp [Act.put]
    refine wl_alloc (by kernel_rfl) 27 rfl (rC (⟨0, 0, (.slice none 0 0), 0⟩ : Rfd)) Try.inR hS ?_
    clear hS
    intro g3 w3 hS
    simp [Act.put]
    refine wl (by kernel_rfl) fun kQ hkQ => ?_
    go_simp
    refine hkQ _ _ ?_
    clear hkQ kQ
    refine wpList_nil ?_
    go_upto_region 1 with fail
    refine wp_region_lit ?_
    refine wl_load (by kernel_rfl) 27 (.tmp 2) rfl 2 rfl 0 rfl (rC (⟨s, r, (.slice xa n xc), t⟩ : Rfd)) (At.self _) Try.underlying27 rfl (szR _) hS ?_
    simp [Act.put]
    refine wl (by kernel_rfl) fun kQ hkQ => ?_
    go_simp
    refine (handed_any s r t xa n xc l _ hS.K.1 hn).mono ?_
    rintro e w4 ⟨ga, gac, rfl, ⟨hg9, hlga, hcga, hmga, spga, hA9⟩, hb1⟩
    replace hS := hS.newRow hb1 hg9 hA9
    refine hkQ _ _ ?_
    clear hkQ kQ hb1
    clear hg9 hA9
    refine wl (by kernel_rfl) fun kQ hkQ => ?_
    go_simp
    refine hkQ _ _ ?_
    clear hkQ kQ
    refine wl (by kernel_rfl) fun kQ hkQ => ?_
    go_simp
    refine hkQ _ _ ?_
    clear hkQ kQ
    refine wl (by kernel_rfl) fun kQ hkQ => ?_
    go_simp
    refine hkQ _ _ ?_
    clear hkQ kQ
    refine wl_alloc (by kernel_rfl) 27 rfl (rC (⟨0, 0, (.slice none 0 0), 0⟩ : Rfd)) Try.inR hS ?_
    clear hS
    intro g5 w5 hS
    simp [Act.put]
    refine wl_store (by kernel_rfl) 27 (.tmp 6) (.tmp 25) rfl 0 rfl 0 rfl (rC (⟨s, r, (.slice (some ⟨ga, 0, none⟩) n gac), t⟩ : Rfd)) (rC (⟨s, r, (.slice (some ⟨ga, 0, none⟩) n gac), t⟩ : Rfd)) (pt_r (⟨0, 0, (.slice none 0 0), 0⟩ : Rfd) (⟨s, r, (.slice (some ⟨ga, 0, none⟩) n gac), t⟩ : Rfd)) rfl (szR _) (one_r _ _ _ _ _ _) hS ?_
    clear hS
    intro w6 hS
    change Hs17 w [(g5, 27, (rC (⟨s, r, (.slice (some ⟨ga, 0, none⟩) n gac), t⟩ : Rfd))), (ga, 4, ((l ++ mkL 64).flatMap bC ++ spga)), (g3, 27, (rC (⟨0, 0, (.slice none 0 0), 0⟩ : Rfd))), (g2, 61, (tC (⟨sa, sb, false, ss, sr, sg, (.slice oa on oc)⟩ : Stp))), (g1, 27, (rC (⟨s, r, (.slice xa n xc), t⟩ : Rfd)))] _ w6 at hS
    simp [Act.put]
    refine wl (by kernel_rfl) fun kQ hkQ => ?_
    go_simp
    refine hkQ _ _ ?_
    clear hkQ kQ
    refine wpList_nil ?_
    go_upto_region 2 with fail
    refine wp_region_lit ?_
    refine wl (by kernel_rfl) fun kQ hkQ => ?_
    go_simp
    refine hkQ _ _ ?_
    clear hkQ kQ
    refine wl_load1 (by kernel_rfl) 4 (.tmp 27) rfl 3 rfl 2 rfl (.bool false) (at_t2 (⟨sa, sb, false, ss, sr, sg, (.slice oa on oc)⟩ : Stp)) Try.underlying4 rfl hS ?_
    simp [Act.put]
    refine wl (by kernel_rfl) fun kQ hkQ => ?_
    go_simp
    refine hkQ _ _ ?_
    clear hkQ kQ
    refine wpList_nil ?_
    go_upto_region 3 with fail
    refine wp_region_lit ?_
    refine wl_load (by kernel_rfl) 27 (.tmp 6) rfl 0 rfl 0 rfl (rC (⟨s, r, (.slice (some ⟨ga, 0, none⟩) n gac), t⟩ : Rfd)) (At.self _) Try.underlying27 rfl (szR _) hS ?_
    simp [Act.put]
    refine wl (by kernel_rfl) fun kQ hkQ => ?_
    go_simp
    refine hkQ _ _ ?_
    clear hkQ kQ
    refine wl_load1 (by kernel_rfl) 3 (.tmp 32) rfl 3 rfl 0 rfl (.int .i64 sa) (at_t0 (⟨sa, sb, false, ss, sr, sg, (.slice oa on oc)⟩ : Stp)) Try.underlying3 rfl hS ?_
    simp [Act.put]
    refine wl (by kernel_rfl) fun kQ hkQ => ?_
    go_simp
    refine hkQ _ _ ?_
    clear hkQ kQ
    refine wl_load1 (by kernel_rfl) 3 (.tmp 34) rfl 3 rfl 1 rfl (.int .i64 sb) (at_t1 (⟨sa, sb, false, ss, sr, sg, (.slice oa on oc)⟩ : Stp)) Try.underlying3 rfl hS ?_
    simp [Act.put]
    refine wl (by kernel_rfl) fun kQ hkQ => ?_
    go_simp
    refine (ack_u s r t (some ⟨ga, 0, none⟩) n gac l sa sb _ (sb_pre (hS.get 1 rfl) hlga (by omega) hmga) hn).mono ?_
    rintro e w7 ⟨hU, hb1⟩
    rw [unhide HA] at hU; obtain ⟨pa, pc, rfl, hsb, hbk⟩ := hU; replace hS := hS.keepS hb1 hsb hbk; clear hsb hbk
    refine hkQ _ _ ?_
    clear hkQ kQ hb1
    refine wl (by kernel_rfl) fun kQ hkQ => ?_
    go_simp
    refine hkQ _ _ ?_
    clear hkQ kQ
    refine wl (by kernel_rfl) fun kQ hkQ => ?_
    go_simp
    refine hkQ _ _ ?_
    clear hkQ kQ
    refine wl (by kernel_rfl) fun kQ hkQ => ?_
    go_simp
    refine hkQ _ _ ?_
    clear hkQ kQ
    refine wl_alloc (by kernel_rfl) 27 rfl (rC (⟨0, 0, (.slice none 0 0), 0⟩ : Rfd)) Try.inR hS ?_
    clear hS
    intro g8 w8 hS
    simp [Act.put]
    refine wl_store (by kernel_rfl) 27 (.tmp 8) (.tmp 37) rfl 0 rfl 0 rfl (rC (⟨A.s, A.r, (.slice pa A.n pc), A.t⟩ : Rfd)) (rC (⟨A.s, A.r, (.slice pa A.n pc), A.t⟩ : Rfd)) (pt_r (⟨0, 0, (.slice none 0 0), 0⟩ : Rfd) (⟨A.s, A.r, (.slice pa A.n pc), A.t⟩ : Rfd)) rfl (szR _) (one_r _ _ _ _ _ _) hS ?_
    clear hS
    intro w9 hS
    change Hs17 w [(g8, 27, (rC (⟨A.s, A.r, (.slice pa A.n pc), A.t⟩ : Rfd))), (g5, 27, (rC (⟨s, r, (.slice (some ⟨ga, 0, none⟩) n gac), t⟩ : Rfd))), (ga, 4, ((l ++ mkL 64).flatMap bC ++ spga)), (g3, 27, (rC (⟨0, 0, (.slice none 0 0), 0⟩ : Rfd))), (g2, 61, (tC (⟨sa, sb, false, ss, sr, sg, (.slice oa on oc)⟩ : Stp))), (g1, 27, (rC (⟨s, r, (.slice xa n xc), t⟩ : Rfd)))] _ w9 at hS
    simp [Act.put]
    refine wl (by kernel_rfl) fun kQ hkQ => ?_
    go_simp
    refine hkQ _ _ ?_
    clear hkQ kQ
    refine wpList_nil ?_
    go_upto_region 4 with fail
    refine wp_region_lit ?_
    refine wl_load (by kernel_rfl) 27 (.tmp 2) rfl 5 rfl 0 rfl (rC (⟨s, r, (.slice xa n xc), t⟩ : Rfd)) (At.self _) Try.underlying27 rfl (szR _) hS ?_
    simp [Act.put]
    refine wl (by kernel_rfl) fun kQ hkQ => ?_
    go_simp
    refine hkQ _ _ ?_
    clear hkQ kQ
    refine wl_load1 (by kernel_rfl) 3 (.tmp 41) rfl 4 rfl 0 rfl (.int .i64 sa) (at_t0 (⟨sa, sb, false, ss, sr, sg, (.slice oa on oc)⟩ : Stp)) Try.underlying3 rfl hS ?_
    simp [Act.put]
    refine wl (by kernel_rfl) fun kQ hkQ => ?_
    go_simp
    refine hkQ _ _ ?_
    clear hkQ kQ
    refine wl_load1 (by kernel_rfl) 3 (.tmp 43) rfl 4 rfl 1 rfl (.int .i64 sb) (at_t1 (⟨sa, sb, false, ss, sr, sg, (.slice oa on oc)⟩ : Stp)) Try.underlying3 rfl hS ?_
    simp [Act.put]
    have hws := hS.bel.size
    refine wl (by kernel_rfl) fun kQ hkQ => ?_
    go_simp
    refine (rack_u s r t xa n xc l sa sb _ hS.K.1.1 hn).mono ?_
    rintro e w10 ⟨hU, hb1⟩
    rw [unhide HA] at hU; obtain ⟨qa, qc, rfl, hsb, hbk⟩ := hU
    have hbq : ∀ x, qa = some x → w.heap.size ≤ x.block := fun x hx => Nat.le_trans hws (hbk x hx)
    replace hS := hS.keepS hb1 hsb hbk
    clear hsb hbk hws
    refine hkQ _ _ ?_
    clear hkQ kQ hb1
    refine wl (by kernel_rfl) fun kQ hkQ => ?_
    go_simp
    refine hkQ _ _ ?_
    clear hkQ kQ
    refine wl (by kernel_rfl) fun kQ hkQ => ?_
    go_simp
    refine hkQ _ _ ?_
    clear hkQ kQ
    refine wl (by kernel_rfl) fun kQ hkQ => ?_
    go_simp
    refine hkQ _ _ ?_
    clear hkQ kQ
    refine wl_alloc (by kernel_rfl) 27 rfl (rC (⟨0, 0, (.slice none 0 0), 0⟩ : Rfd)) Try.inR hS ?_
    clear hS
    intro g11 w11 hS
    simp [Act.put]
    refine wl_store (by kernel_rfl) 27 (.tmp 10) (.tmp 46) rfl 0 rfl 0 rfl (rC (⟨A.s, A.r, (.slice qa A.n qc), A.t⟩ : Rfd)) (rC (⟨A.s, A.r, (.slice qa A.n qc), A.t⟩ : Rfd)) (pt_r (⟨0, 0, (.slice none 0 0), 0⟩ : Rfd) (⟨A.s, A.r, (.slice qa A.n qc), A.t⟩ : Rfd)) rfl (szR _) (one_r _ _ _ _ _ _) hS ?_
    clear hS
    intro w12 hS
    change Hs17 w [(g11, 27, (rC (⟨A.s, A.r, (.slice qa A.n qc), A.t⟩ : Rfd))), (g8, 27, (rC (⟨A.s, A.r, (.slice pa A.n pc), A.t⟩ : Rfd))), (g5, 27, (rC (⟨s, r, (.slice (some ⟨ga, 0, none⟩) n gac), t⟩ : Rfd))), (ga, 4, ((l ++ mkL 64).flatMap bC ++ spga)), (g3, 27, (rC (⟨0, 0, (.slice none 0 0), 0⟩ : Rfd))), (g2, 61, (tC (⟨sa, sb, false, ss, sr, sg, (.slice oa on oc)⟩ : Stp))), (g1, 27, (rC (⟨s, r, (.slice xa n xc), t⟩ : Rfd)))] _ w12 at hS
    simp [Act.put]
    refine wl (by kernel_rfl) fun kQ hkQ => ?_
    go_simp
    refine hkQ _ _ ?_
    clear hkQ kQ
    refine wpList_nil ?_
    go_upto_region 5 with fail
    refine wp_region_lit ?_
    refine wl (by kernel_rfl) fun kQ hkQ => ?_
    go_simp
    refine hkQ _ _ ?_
    clear hkQ kQ
    refine wl (by kernel_rfl) fun kQ hkQ => ?_
    go_simp
    refine hkQ _ _ ?_
    clear hkQ kQ
    refine wl (by kernel_rfl) fun kQ hkQ => ?_
    go_simp
    refine hkQ _ _ ?_
    clear hkQ kQ
    refine wl (by kernel_rfl) fun kQ hkQ => ?_
    go_simp
    refine hkQ _ _ ?_
    clear hkQ kQ
    refine wl_load (by kernel_rfl) 27 (.tmp 8) rfl 1 rfl 0 rfl (rC (⟨A.s, A.r, (.slice pa A.n pc), A.t⟩ : Rfd)) (At.self _) Try.underlying27 rfl (szR _) hS ?_
    simp [Act.put]
    refine wl_load (by kernel_rfl) 27 (.tmp 10) rfl 0 rfl 0 rfl (rC (⟨A.s, A.r, (.slice qa A.n qc), A.t⟩ : Rfd)) (At.self _) Try.underlying27 rfl (szR _) hS ?_
    simp [Act.put]
    refine wl (by kernel_rfl) fun kQ hkQ => ?_
    go_simp
    refine (same_t A.s A.r A.t pa A.n pc A.l qa qc _ hS.K.1.2 hS.K.2 hnA).mono ?_
    rintro e w13 ⟨rfl, hb1⟩
    replace hS := hS.later hb1
    refine hkQ _ _ ?_
    clear hkQ kQ hb1
    refine wl (by kernel_rfl) fun kQ hkQ => ?_
    go_simp
    refine hkQ _ _ ?_
    clear hkQ kQ
    refine wl (by kernel_rfl) fun kQ hkQ => ?_
    go_simp
    refine hkQ _ _ ?_
    clear hkQ kQ
    refine wl (by kernel_rfl) fun kQ hkQ => ?_
    go_simp
    refine hkQ _ _ ?_
    clear hkQ kQ
    refine wl_load (by kernel_rfl) 27 (.tmp 2) rfl 6 rfl 0 rfl (rC (⟨s, r, (.slice xa n xc), t⟩ : Rfd)) (At.self _) Try.underlying27 rfl (szR _) hS ?_
    simp [Act.put]
    replace hS := hS.swap (show List.Perm [(g11, 27, (rC (⟨A.s, A.r, (.slice qa A.n qc), A.t⟩ : Rfd))), (g8, 27, (rC (⟨A.s, A.r, (.slice pa A.n pc), A.t⟩ : Rfd))), (g5, 27, (rC (⟨s, r, (.slice (some ⟨ga, 0, none⟩) n gac), t⟩ : Rfd))), (ga, 4, ((l ++ mkL 64).flatMap bC ++ spga)), (g3, 27, (rC (⟨0, 0, (.slice none 0 0), 0⟩ : Rfd))), (g2, 61, (tC (⟨sa, sb, false, ss, sr, sg, (.slice oa on oc)⟩ : Stp))), (g1, 27, (rC (⟨s, r, (.slice xa n xc), t⟩ : Rfd)))] ([(ga, 4, ((l ++ mkL 64).flatMap bC ++ spga))] ++ [(g11, 27, (rC (⟨A.s, A.r, (.slice qa A.n qc), A.t⟩ : Rfd))), (g8, 27, (rC (⟨A.s, A.r, (.slice pa A.n pc), A.t⟩ : Rfd))), (g5, 27, (rC (⟨s, r, (.slice (some ⟨ga, 0, none⟩) n gac), t⟩ : Rfd))), (g3, 27, (rC (⟨0, 0, (.slice none 0 0), 0⟩ : Rfd))), (g2, 61, (tC (⟨sa, sb, false, ss, sr, sg, (.slice oa on oc)⟩ : Stp))), (g1, 27, (rC (⟨s, r, (.slice xa n xc), t⟩ : Rfd)))]) from List.perm_middle (l₁ := [(g11, 27, (rC (⟨A.s, A.r, (.slice qa A.n qc), A.t⟩ : Rfd))), (g8, 27, (rC (⟨A.s, A.r, (.slice pa A.n pc), A.t⟩ : Rfd))), (g5, 27, (rC (⟨s, r, (.slice (some ⟨ga, 0, none⟩) n gac), t⟩ : Rfd)))]) (l₂ := [(g3, 27, (rC (⟨0, 0, (.slice none 0 0), 0⟩ : Rfd))), (g2, 61, (tC (⟨sa, sb, false, ss, sr, sg, (.slice oa on oc)⟩ : Stp))), (g1, 27, (rC (⟨s, r, (.slice xa n xc), t⟩ : Rfd)))]) (a := (ga, 4, ((l ++ mkL 64).flatMap bC ++ spga))))
    refine wl (by kernel_rfl) fun kQ hkQ => ?_
    go_simp
    refine (whole_t w [(g11, 27, (rC (⟨A.s, A.r, (.slice qa A.n qc), A.t⟩ : Rfd))), (g8, 27, (rC (⟨A.s, A.r, (.slice pa A.n pc), A.t⟩ : Rfd))), (g5, 27, (rC (⟨s, r, (.slice (some ⟨ga, 0, none⟩) n gac), t⟩ : Rfd))), (g3, 27, (rC (⟨0, 0, (.slice none 0 0), 0⟩ : Rfd))), (g2, 61, (tC (⟨sa, sb, false, ss, sr, sg, (.slice oa on oc)⟩ : Stp))), (g1, 27, (rC (⟨s, r, (.slice xa n xc), t⟩ : Rfd)))] _ s r t xa n xc l ga (n + 64) gac spga _ hS (fun w' h => h.1.1.1) hlga rfl hn).mono ?_
    rintro e w14 ⟨rfl, hS9⟩
    replace hS := hS9; clear hS9; have hb1 := hS.bel
    refine hkQ _ _ ?_
    clear hkQ kQ hb1
    refine wl (by kernel_rfl) fun kQ hkQ => ?_
    go_simp
    refine hkQ _ _ ?_
    clear hkQ kQ
    refine wl (by kernel_rfl) fun kQ hkQ => ?_
    go_simp
    refine hkQ _ _ ?_
    clear hkQ kQ
    refine wpList_nil ?_
    rcases unhide HAE with hAe | hAe
    · rw [hAe]
      have HAe := hide hAe
      clear hAe
      go_upto_region 8 with fail
      obtain ⟨CA, hCA⟩ : ∃ C, ((l ++ mkL 64).map (!·)).flatMap bC ++ spga = C := ⟨_, rfl⟩
      rw [hCA] at hS
      clear hCA
      replace hS := hS.drew
      refine wp_region_held_drew (S := Hs17 w [(ga, 4, CA), (g11, 27, (rC (⟨A.s, A.r, (.slice qa A.n qc), A.t⟩ : Rfd))), (g8, 27, (rC (⟨A.s, A.r, (.slice pa A.n pc), A.t⟩ : Rfd))), (g5, 27, (rC (⟨s, r, (.slice (some ⟨ga, 0, none⟩) n gac), t⟩ : Rfd))), (g2, 61, (tC (⟨sa, sb, false, ss, sr, sg, (.slice oa on oc)⟩ : Stp))), (g1, 27, (rC (⟨s, r, (.slice xa n xc), t⟩ : Rfd)))] (fun w => (((Sb w ⟨xa, n, xc, l⟩ ∧ Sk w ⟨oa, on, oc, ox⟩) ∧ Sb w ⟨pa, A.n, pc, A.l⟩) ∧ Sb w ⟨qa, A.n, qc, A.l⟩))) (by kernel_rfl) (hS.sub ((((((((List.Sublist.slnil).cons_cons _).cons_cons _).cons _).cons_cons _).cons_cons _).cons_cons _).cons_cons _)) (fun hHeld => ?_)
      generalize World.drew _ = w55 at hS hHeld ⊢
      refine wpAnyH_take (i := 0) (oi := _) (v := aV (rC (⟨A.s, A.r, (.slice qa A.n qc), A.t⟩ : Rfd))) rfl (by kernel_rfl) (by kernel_rfl) (by kernel_rfl) (fun _ _ _ h => h) (yl_load (by kernel_rfl) 27 (.tmp 10) rfl 1 rfl 0 rfl (rC (⟨A.s, A.r, (.slice qa A.n qc), A.t⟩ : Rfd)) (At.self _) Try.underlying27 rfl (szR _)) hHeld ?_
      simp [Act.put]
      refine wpAnyH_take (i := 1) (oi := _) (v := .bool true) rfl (by kernel_rfl) (by kernel_rfl) (by kernel_rfl) (fun _ _ _ h => h) (Or.inl ⟨by rfl, fun w hSw => by go_simp⟩) hHeld ?_
      simp [Act.put]
      refine wpAnyH_take (i := 2) (oi := _) (v := .bool true) rfl (by kernel_rfl) (by kernel_rfl) (by kernel_rfl) (fun _ _ _ h => h) (Or.inl ⟨by rfl, fun w hSw => by go_simp⟩) hHeld ?_
      simp [Act.put]
      refine wpAnyH_take (i := 3) (oi := _) (v := aV (rC (⟨A.s, A.r, (.slice pa A.n pc), A.t⟩ : Rfd))) rfl (by kernel_rfl) (by kernel_rfl) (by kernel_rfl) (fun _ _ _ h => h) (yl_load (by kernel_rfl) 27 (.tmp 8) rfl 2 rfl 0 rfl (rC (⟨A.s, A.r, (.slice pa A.n pc), A.t⟩ : Rfd)) (At.self _) Try.underlying27 rfl (szR _)) hHeld ?_
      simp [Act.put]
      refine wpAnyH_take (i := 4) (oi := _) (v := aV (rC (⟨A.s, A.r, (.slice qa A.n qc), A.t⟩ : Rfd))) rfl (by kernel_rfl) (by kernel_rfl) (by kernel_rfl) (fun _ _ _ h => h) (yl_load (by kernel_rfl) 27 (.tmp 10) rfl 1 rfl 0 rfl (rC (⟨A.s, A.r, (.slice qa A.n qc), A.t⟩ : Rfd)) (At.self _) Try.underlying27 rfl (szR _)) hHeld ?_
      simp [Act.put]
      refine wpAnyH_ready (rs := [5]) (by kernel_rfl) (by simp) ?_
      refine (AllReadyH.cons rfl (fun kQ hkQ => ?_) AllReadyH.nil)
      go_simp
      refine (same_t A.s A.r A.t pa A.n pc A.l qa qc _ hS.K.1.2 hS.K.2 hnA).mono ?_
      rintro e w56 ⟨rfl, hb1⟩
      replace hS := hS.later hb1
      clear hHeld hb1
      refine hkQ.out _ _ (hS.sub ((((((((List.Sublist.slnil).cons_cons _).cons_cons _).cons _).cons_cons _).cons_cons _).cons_cons _).cons_cons _)) (fun hHeld => ?_)
      clear hkQ kQ
      refine wpAnyH_take (i := 6) (oi := _) (v := .bool true) rfl (by kernel_rfl) (by kernel_rfl) (by kernel_rfl) (fun _ _ _ h => h) (Or.inl ⟨by rfl, fun w hSw => by go_simp⟩) hHeld ?_
      simp [Act.put]
      refine wpAnyH_ready (rs := [7]) (by kernel_rfl) (by simp) ?_
      refine (AllReadyH.cons rfl (fun kQ hkQ => ?_) AllReadyH.nil)
      refine dw (by kernel_rfl) (op_store 27 (.tmp 4) (.tmp 65) rfl 4 rfl 0 rfl (rC (⟨A.s, A.r, (.slice qa A.n qc), A.t⟩ : Rfd)) (rC (⟨A.s, A.r, (.slice qa A.n qc), A.t⟩ : Rfd)) (pt_r (⟨0, 0, (.slice none 0 0), 0⟩ : Rfd) (⟨A.s, A.r, (.slice qa A.n qc), A.t⟩ : Rfd)) rfl (szR _) (one_r _ _ _ _ _ _) hS ?_)
      clear hS hHeld
      intro w57 hS
      change Hs17 w [(ga, 4, CA), (g11, 27, (rC (⟨A.s, A.r, (.slice qa A.n qc), A.t⟩ : Rfd))), (g8, 27, (rC (⟨A.s, A.r, (.slice pa A.n pc), A.t⟩ : Rfd))), (g5, 27, (rC (⟨s, r, (.slice (some ⟨ga, 0, none⟩) n gac), t⟩ : Rfd))), (g3, 27, (rC (⟨A.s, A.r, (.slice qa A.n qc), A.t⟩ : Rfd))), (g2, 61, (tC (⟨sa, sb, false, ss, sr, sg, (.slice oa on oc)⟩ : Stp))), (g1, 27, (rC (⟨s, r, (.slice xa n xc), t⟩ : Rfd)))] (fun w => (((Sb w ⟨xa, n, xc, l⟩ ∧ Sk w ⟨oa, on, oc, ox⟩) ∧ Sb w ⟨pa, A.n, pc, A.l⟩) ∧ Sb w ⟨qa, A.n, qc, A.l⟩)) w57 at hS
      refine hkQ.out _ _ (hS.sub ((((((((List.Sublist.slnil).cons_cons _).cons_cons _).cons _).cons_cons _).cons_cons _).cons_cons _).cons_cons _)) (fun hHeld => ?_)
      clear hkQ kQ
      simp [Act.put]
      refine wpAnyH_take (i := 8) (oi := _) (v := .bool true) rfl (by kernel_rfl) (by kernel_rfl) (by kernel_rfl) (fun _ _ _ h => h) (Or.inl ⟨by rfl, fun w hSw => by go_simp⟩) hHeld ?_
      simp [Act.put]
      refine wpAnyH_done (by kernel_rfl) ?_ _
      clear hHeld
      go_wp2_with fail
      refine bodyPost_ret (res_ct rfl hS 4 rfl rfl Try.underlying27 rfl (szR _) _ rfl) rfl ?_
      exact ⟨⟨A.s, A.r, A.t, qa, A.n, qc, A.l, rfl, .inr ⟨hnA, hS.K.2, hbq⟩⟩, hS.bel⟩
    · rw [hAe]
      have HAe := hide hAe
      clear hAe
      go_upto_region 7 with fail
      refine wp_region_lit ?_
      refine wl_load (by kernel_rfl) 27 (.tmp 2) rfl 6 rfl 0 rfl (rC (⟨s, r, (.slice xa n xc), t⟩ : Rfd)) (At.self _) Try.underlying27 rfl (szR _) hS ?_
      simp [Act.put]
      refine wl (by kernel_rfl) fun kQ hkQ => ?_
      go_simp
      refine hkQ _ _ ?_
      clear hkQ kQ
      refine wl_store (by kernel_rfl) 27 (.tmp 4) (.tmp 63) rfl 4 rfl 0 rfl (rC (⟨s, r, (.slice xa n xc), t⟩ : Rfd)) (rC (⟨s, r, (.slice xa n xc), t⟩ : Rfd)) (pt_r (⟨0, 0, (.slice none 0 0), 0⟩ : Rfd) (⟨s, r, (.slice xa n xc), t⟩ : Rfd)) rfl (szR _) (one_r _ _ _ _ _ _) hS ?_
      clear hS
      intro w55 hS
      change Hs17 w [(ga, 4, (((l ++ mkL 64).map (!·)).flatMap bC ++ spga)), (g11, 27, (rC (⟨A.s, A.r, (.slice qa A.n qc), A.t⟩ : Rfd))), (g8, 27, (rC (⟨A.s, A.r, (.slice pa A.n pc), A.t⟩ : Rfd))), (g5, 27, (rC (⟨s, r, (.slice (some ⟨ga, 0, none⟩) n gac), t⟩ : Rfd))), (g3, 27, (rC (⟨s, r, (.slice xa n xc), t⟩ : Rfd))), (g2, 61, (tC (⟨sa, sb, false, ss, sr, sg, (.slice oa on oc)⟩ : Stp))), (g1, 27, (rC (⟨s, r, (.slice xa n xc), t⟩ : Rfd)))] _ w55 at hS
      simp [Act.put]
      refine wl (by kernel_rfl) fun kQ hkQ => ?_
      go_simp
      refine hkQ _ _ ?_
      clear hkQ kQ
      refine wpList_nil ?_
      go_wp2_with fail
      refine bodyPost_ret (res_ct rfl hS 4 rfl rfl Try.underlying27 rfl (szR _) _ rfl) rfl ?_
      exact ⟨⟨s, r, t, xa, n, xc, l, rfl, .inl ⟨rfl, rfl⟩⟩, hS.bel⟩
  | true =>
    go_enter Try.func31, Try.ntmps31
    go_upto_region 0 with fail
    refine wp_region_lit ?_
    refine wl_box (by kernel_rfl) 27 (.tmp 0) rfl (rC (⟨s, r, (.slice xa n xc), t⟩ : Rfd)) rfl hS ?_
    clear hS
    intro g1 w1 hS
    simp [Act.put]
    refine wl_box (by kernel_rfl) 61 (.tmp 1) rfl (tC (⟨sa, sb, true, ss, sr, sg, (.slice oa on oc)⟩ : Stp)) rfl hS ?_
    clear hS
    intro g2 w2 hS
    simp [Act.put]
    refine wl_alloc (by kernel_rfl) 27 rfl (rC (⟨0, 0, (.slice none 0 0), 0⟩ : Rfd)) Try.inR hS ?_
    clear hS
    intro g3 w3 hS
    simp [Act.put]
    refine wl (by kernel_rfl) fun kQ hkQ => ?_
    go_simp
    refine hkQ _ _ ?_
    clear hkQ kQ
    refine wpList_nil ?_
    go_upto_region 1 with fail
    refine wp_region_lit ?_
    refine wl_load (by kernel_rfl) 27 (.tmp 2) rfl 2 rfl 0 rfl (rC (⟨s, r, (.slice xa n xc), t⟩ : Rfd)) (At.self _) Try.underlying27 rfl (szR _) hS ?_
    simp [Act.put]
    refine wl (by kernel_rfl) fun kQ hkQ => ?_
    go_simp
    refine (handed_any s r t xa n xc l _ hS.K.1 hn).mono ?_
    rintro e w4 ⟨ga, gac, rfl, ⟨hg9, hlga, hcga, hmga, spga, hA9⟩, hb1⟩
    replace hS := hS.newRow hb1 hg9 hA9
    refine hkQ _ _ ?_
    clear hkQ kQ hb1
    clear hg9 hA9
    refine wl (by kernel_rfl) fun kQ hkQ => ?_
    go_simp
    refine hkQ _ _ ?_
    clear hkQ kQ
    refine wl (by kernel_rfl) fun kQ hkQ => ?_
    go_simp
    refine hkQ _ _ ?_
    clear hkQ kQ
    refine wl (by kernel_rfl) fun kQ hkQ => ?_
    go_simp
    refine hkQ _ _ ?_
    clear hkQ kQ
    refine wl_alloc (by kernel_rfl) 27 rfl (rC (⟨0, 0, (.slice none 0 0), 0⟩ : Rfd)) Try.inR hS ?_
    clear hS
    intro g5 w5 hS
    simp [Act.put]
    refine wl_store (by kernel_rfl) 27 (.tmp 6) (.tmp 25) rfl 0 rfl 0 rfl (rC (⟨s, r, (.slice (some ⟨ga, 0, none⟩) n gac), t⟩ : Rfd)) (rC (⟨s, r, (.slice (some ⟨ga, 0, none⟩) n gac), t⟩ : Rfd)) (pt_r (⟨0, 0, (.slice none 0 0), 0⟩ : Rfd) (⟨s, r, (.slice (some ⟨ga, 0, none⟩) n gac), t⟩ : Rfd)) rfl (szR _) (one_r _ _ _ _ _ _) hS ?_
    clear hS
    intro w6 hS
    change Hs17 w [(g5, 27, (rC (⟨s, r, (.slice (some ⟨ga, 0, none⟩) n gac), t⟩ : Rfd))), (ga, 4, ((l ++ mkL 64).flatMap bC ++ spga)), (g3, 27, (rC (⟨0, 0, (.slice none 0 0), 0⟩ : Rfd))), (g2, 61, (tC (⟨sa, sb, true, ss, sr, sg, (.slice oa on oc)⟩ : Stp))), (g1, 27, (rC (⟨s, r, (.slice xa n xc), t⟩ : Rfd)))] _ w6 at hS
    simp [Act.put]
    refine wl (by kernel_rfl) fun kQ hkQ => ?_
    go_simp
    refine hkQ _ _ ?_
    clear hkQ kQ
    refine wpList_nil ?_
    go_upto_region 2 with fail
    refine wp_region_lit ?_
    refine wl (by kernel_rfl) fun kQ hkQ => ?_
    go_simp
    refine hkQ _ _ ?_
    clear hkQ kQ
    refine wl_load1 (by kernel_rfl) 4 (.tmp 27) rfl 3 rfl 2 rfl (.bool true) (at_t2 (⟨sa, sb, true, ss, sr, sg, (.slice oa on oc)⟩ : Stp)) Try.underlying4 rfl hS ?_
    simp [Act.put]
    refine wl (by kernel_rfl) fun kQ hkQ => ?_
    go_simp
    refine hkQ _ _ ?_
    clear hkQ kQ
    refine wpList_nil ?_
    go_upto_region 9 with fail
    refine wp_region_lit ?_
    refine wl_load (by kernel_rfl) 61 (.tmp 3) rfl 3 rfl 0 rfl (tC (⟨sa, sb, true, ss, sr, sg, (.slice oa on oc)⟩ : Stp)) (At.self _) Try.underlying61 rfl (szT _) hS ?_
    simp [Act.put]
    refine wl (by kernel_rfl) fun kQ hkQ => ?_
    go_simp
    refine (other_any sa sb true ss sr sg oa on oc ox _ hS.K.2 hon).mono ?_
    rintro e w7 ⟨⟨q, ys, yr, yt, ya, yn, yc, yl, hyn, rfl, hsb, hbk⟩, hb1⟩
    replace hS := hS.keepS hb1 hsb hbk
    clear hsb hbk
    refine hkQ _ _ ?_
    clear hkQ kQ hb1
    refine wl (by kernel_rfl) fun kQ hkQ => ?_
    go_simp
    refine hkQ _ _ ?_
    clear hkQ kQ
    refine wl (by kernel_rfl) fun kQ hkQ => ?_
    go_simp
    refine hkQ _ _ ?_
    clear hkQ kQ
    refine wl (by kernel_rfl) fun kQ hkQ => ?_
    go_simp
    refine hkQ _ _ ?_
    clear hkQ kQ
    refine wl_alloc (by kernel_rfl) 27 rfl (rC (⟨0, 0, (.slice none 0 0), 0⟩ : Rfd)) Try.inR hS ?_
    clear hS
    intro g8 w8 hS
    simp [Act.put]
    refine wl_store (by kernel_rfl) 27 (.tmp 13) (.tmp 75) rfl 0 rfl 0 rfl (rC (⟨ys, yr, (.slice ya yn yc), yt⟩ : Rfd)) (rC (⟨ys, yr, (.slice ya yn yc), yt⟩ : Rfd)) (pt_r (⟨0, 0, (.slice none 0 0), 0⟩ : Rfd) (⟨ys, yr, (.slice ya yn yc), yt⟩ : Rfd)) rfl (szR _) (one_r _ _ _ _ _ _) hS ?_
    clear hS
    intro w9 hS
    change Hs17 w [(g8, 27, (rC (⟨ys, yr, (.slice ya yn yc), yt⟩ : Rfd))), (g5, 27, (rC (⟨s, r, (.slice (some ⟨ga, 0, none⟩) n gac), t⟩ : Rfd))), (ga, 4, ((l ++ mkL 64).flatMap bC ++ spga)), (g3, 27, (rC (⟨0, 0, (.slice none 0 0), 0⟩ : Rfd))), (g2, 61, (tC (⟨sa, sb, true, ss, sr, sg, (.slice oa on oc)⟩ : Stp))), (g1, 27, (rC (⟨s, r, (.slice xa n xc), t⟩ : Rfd)))] _ w9 at hS
    simp [Act.put]
    refine wl (by kernel_rfl) fun kQ hkQ => ?_
    go_simp
    refine hkQ _ _ ?_
    clear hkQ kQ
    refine wpList_nil ?_
    cases q with
    | false =>
      go_upto_region 11 with fail
      refine wp_region_lit ?_
      refine wl_load (by kernel_rfl) 27 (.tmp 2) rfl 5 rfl 0 rfl (rC (⟨s, r, (.slice xa n xc), t⟩ : Rfd)) (At.self _) Try.underlying27 rfl (szR _) hS ?_
      simp [Act.put]
      refine wl_store (by kernel_rfl) 27 (.tmp 4) (.tmp 79) rfl 3 rfl 0 rfl (rC (⟨s, r, (.slice xa n xc), t⟩ : Rfd)) (rC (⟨s, r, (.slice xa n xc), t⟩ : Rfd)) (pt_r (⟨0, 0, (.slice none 0 0), 0⟩ : Rfd) (⟨s, r, (.slice xa n xc), t⟩ : Rfd)) rfl (szR _) (one_r _ _ _ _ _ _) hS ?_
      clear hS
      intro w50 hS
      change Hs17 w [(g8, 27, (rC (⟨ys, yr, (.slice ya yn yc), yt⟩ : Rfd))), (g5, 27, (rC (⟨s, r, (.slice (some ⟨ga, 0, none⟩) n gac), t⟩ : Rfd))), (ga, 4, ((l ++ mkL 64).flatMap bC ++ spga)), (g3, 27, (rC (⟨s, r, (.slice xa n xc), t⟩ : Rfd))), (g2, 61, (tC (⟨sa, sb, true, ss, sr, sg, (.slice oa on oc)⟩ : Stp))), (g1, 27, (rC (⟨s, r, (.slice xa n xc), t⟩ : Rfd)))] _ w50 at hS
      simp [Act.put]
      refine wl (by kernel_rfl) fun kQ hkQ => ?_
      go_simp
      refine hkQ _ _ ?_
      clear hkQ kQ
      refine wpList_nil ?_
      go_wp2_with fail
      refine bodyPost_ret (res_ct rfl hS 3 rfl rfl Try.underlying27 rfl (szR _) _ rfl) rfl ?_
      exact ⟨⟨s, r, t, xa, n, xc, l, rfl, .inl ⟨rfl, rfl⟩⟩, hS.bel⟩
    | true =>
      have hyn2 : yn ≤ 1048576 := by omega
      obtain ⟨J, hJ⟩ : ∃ J, joinR s r n l t ys yr yn yl yt = J := ⟨_, rfl⟩
      have hnJ : J.n ≤ 1048576 := by rw [← hJ]; exact Nat.le_trans joinR_n hn
      have HAE : Hid (J.e = 0 ∨ J.e = 210) := hide (by rw [← hJ]; exact joinR_e)
      have HJ := hide hJ
      clear hJ
      go_upto_region 12 with fail
      refine wp_region_lit ?_
      refine wl_load (by kernel_rfl) 27 (.tmp 13) rfl 0 rfl 0 rfl (rC (⟨ys, yr, (.slice ya yn yc), yt⟩ : Rfd)) (At.self _) Try.underlying27 rfl (szR _) hS ?_
      simp [Act.put]
      refine wl (by kernel_rfl) fun kQ hkQ => ?_
      go_simp
      refine (handed_any ys yr yt ya yn yc yl _ hS.K.2 hyn2).mono ?_
      rintro e w50 ⟨gb, gbc, rfl, ⟨hg9, hlgb, hcgb, hmgb, spgb, hA9⟩, hb1⟩
      replace hS := hS.newRow hb1 hg9 hA9
      refine hkQ _ _ ?_
      clear hkQ kQ hb1
      clear hg9 hA9
      refine wl (by kernel_rfl) fun kQ hkQ => ?_
      go_simp
      refine hkQ _ _ ?_
      clear hkQ kQ
      refine wl (by kernel_rfl) fun kQ hkQ => ?_
      go_simp
      refine hkQ _ _ ?_
      clear hkQ kQ
      refine wl (by kernel_rfl) fun kQ hkQ => ?_
      go_simp
      refine hkQ _ _ ?_
      clear hkQ kQ
      refine wl_alloc (by kernel_rfl) 27 rfl (rC (⟨0, 0, (.slice none 0 0), 0⟩ : Rfd)) Try.inR hS ?_
      clear hS
      intro g51 w51 hS
      simp [Act.put]
      refine wl_store (by kernel_rfl) 27 (.tmp 15) (.tmp 83) rfl 0 rfl 0 rfl (rC (⟨ys, yr, (.slice (some ⟨gb, 0, none⟩) yn gbc), yt⟩ : Rfd)) (rC (⟨ys, yr, (.slice (some ⟨gb, 0, none⟩) yn gbc), yt⟩ : Rfd)) (pt_r (⟨0, 0, (.slice none 0 0), 0⟩ : Rfd) (⟨ys, yr, (.slice (some ⟨gb, 0, none⟩) yn gbc), yt⟩ : Rfd)) rfl (szR _) (one_r _ _ _ _ _ _) hS ?_
      clear hS
      intro w52 hS
      change Hs17 w [(g51, 27, (rC (⟨ys, yr, (.slice (some ⟨gb, 0, none⟩) yn gbc), yt⟩ : Rfd))), (gb, 4, ((yl ++ mkL 64).flatMap bC ++ spgb)), (g8, 27, (rC (⟨ys, yr, (.slice ya yn yc), yt⟩ : Rfd))), (g5, 27, (rC (⟨s, r, (.slice (some ⟨ga, 0, none⟩) n gac), t⟩ : Rfd))), (ga, 4, ((l ++ mkL 64).flatMap bC ++ spga)), (g3, 27, (rC (⟨0, 0, (.slice none 0 0), 0⟩ : Rfd))), (g2, 61, (tC (⟨sa, sb, true, ss, sr, sg, (.slice oa on oc)⟩ : Stp))), (g1, 27, (rC (⟨s, r, (.slice xa n xc), t⟩ : Rfd)))] _ w52 at hS
      simp [Act.put]
      refine wl (by kernel_rfl) fun kQ hkQ => ?_
      go_simp
      refine hkQ _ _ ?_
      clear hkQ kQ
      refine wpList_nil ?_
      go_upto_region 13 with fail
      refine wp_region_lit ?_
      refine wl_load (by kernel_rfl) 27 (.tmp 6) rfl 3 rfl 0 rfl (rC (⟨s, r, (.slice (some ⟨ga, 0, none⟩) n gac), t⟩ : Rfd)) (At.self _) Try.underlying27 rfl (szR _) hS ?_
      simp [Act.put]
      refine wl_load (by kernel_rfl) 27 (.tmp 15) rfl 0 rfl 0 rfl (rC (⟨ys, yr, (.slice (some ⟨gb, 0, none⟩) yn gbc), yt⟩ : Rfd)) (At.self _) Try.underlying27 rfl (szR _) hS ?_
      simp [Act.put]
      refine wl (by kernel_rfl) fun kQ hkQ => ?_
      go_simp
      refine (join_u s r t ys yr yt (some ⟨ga, 0, none⟩) n gac l (some ⟨gb, 0, none⟩) yn gbc yl _ (sb_pre (hS.get 4 rfl) hlga (by omega) hmga) (sb_pre (hS.get 1 rfl) hlgb (by omega) hmgb) hn).mono ?_
      rintro e w53 ⟨hU, hb1⟩
      rw [unhide HJ] at hU; obtain ⟨ua, uc, rfl, hsb, hbk⟩ := hU; replace hS := hS.keepS hb1 hsb hbk; clear hsb hbk
      refine hkQ _ _ ?_
      clear hkQ kQ hb1
      refine wl (by kernel_rfl) fun kQ hkQ => ?_
      go_simp
      refine hkQ _ _ ?_
      clear hkQ kQ
      refine wl (by kernel_rfl) fun kQ hkQ => ?_
      go_simp
      refine hkQ _ _ ?_
      clear hkQ kQ
      refine wl (by kernel_rfl) fun kQ hkQ => ?_
      go_simp
      refine hkQ _ _ ?_
      clear hkQ kQ
      refine wl_alloc (by kernel_rfl) 27 rfl (rC (⟨0, 0, (.slice none 0 0), 0⟩ : Rfd)) Try.inR hS ?_
      clear hS
      intro g54 w54 hS
      simp [Act.put]
      refine wl_store (by kernel_rfl) 27 (.tmp 17) (.tmp 89) rfl 0 rfl 0 rfl (rC (⟨J.s, J.r, (.slice ua J.n uc), J.t⟩ : Rfd)) (rC (⟨J.s, J.r, (.slice ua J.n uc), J.t⟩ : Rfd)) (pt_r (⟨0, 0, (.slice none 0 0), 0⟩ : Rfd) (⟨J.s, J.r, (.slice ua J.n uc), J.t⟩ : Rfd)) rfl (szR _) (one_r _ _ _ _ _ _) hS ?_
      clear hS
      intro w55 hS
      change Hs17 w [(g54, 27, (rC (⟨J.s, J.r, (.slice ua J.n uc), J.t⟩ : Rfd))), (g51, 27, (rC (⟨ys, yr, (.slice (some ⟨gb, 0, none⟩) yn gbc), yt⟩ : Rfd))), (gb, 4, ((yl ++ mkL 64).flatMap bC ++ spgb)), (g8, 27, (rC (⟨ys, yr, (.slice ya yn yc), yt⟩ : Rfd))), (g5, 27, (rC (⟨s, r, (.slice (some ⟨ga, 0, none⟩) n gac), t⟩ : Rfd))), (ga, 4, ((l ++ mkL 64).flatMap bC ++ spga)), (g3, 27, (rC (⟨0, 0, (.slice none 0 0), 0⟩ : Rfd))), (g2, 61, (tC (⟨sa, sb, true, ss, sr, sg, (.slice oa on oc)⟩ : Stp))), (g1, 27, (rC (⟨s, r, (.slice xa n xc), t⟩ : Rfd)))] _ w55 at hS
      simp [Act.put]
      refine wl (by kernel_rfl) fun kQ hkQ => ?_
      go_simp
      refine hkQ _ _ ?_
      clear hkQ kQ
      refine wpList_nil ?_
      go_upto_region 14 with fail
      refine wp_region_lit ?_
      refine wl_load (by kernel_rfl) 27 (.tmp 2) rfl 8 rfl 0 rfl (rC (⟨s, r, (.slice xa n xc), t⟩ : Rfd)) (At.self _) Try.underlying27 rfl (szR _) hS ?_
      simp [Act.put]
      refine wl_load (by kernel_rfl) 27 (.tmp 13) rfl 3 rfl 0 rfl (rC (⟨ys, yr, (.slice ya yn yc), yt⟩ : Rfd)) (At.self _) Try.underlying27 rfl (szR _) hS ?_
      simp [Act.put]
      have hws := hS.bel.size
      refine wl (by kernel_rfl) fun kQ hkQ => ?_
      go_simp
      refine (rjoin_u s r t ys yr yt xa n xc l ya yn yc yl _ hS.K.1.1.1 hS.K.1.2 hn).mono ?_
      rintro e w56 ⟨hU, hb1⟩
      rw [unhide HJ] at hU; obtain ⟨va, vc, rfl, hsb, hbk⟩ := hU
      have hbv : ∀ x, va = some x → w.heap.size ≤ x.block := fun x hx => Nat.le_trans hws (hbk x hx)
      replace hS := hS.keepS hb1 hsb hbk
      clear hsb hbk hws
      refine hkQ _ _ ?_
      clear hkQ kQ hb1
      refine wl (by kernel_rfl) fun kQ hkQ => ?_
      go_simp
      refine hkQ _ _ ?_
      clear hkQ kQ
      refine wl (by kernel_rfl) fun kQ hkQ => ?_
      go_simp
      refine hkQ _ _ ?_
      clear hkQ kQ
      refine wl (by kernel_rfl) fun kQ hkQ => ?_
      go_simp
      refine hkQ _ _ ?_
      clear hkQ kQ
      refine wl_alloc (by kernel_rfl) 27 rfl (rC (⟨0, 0, (.slice none 0 0), 0⟩ : Rfd)) Try.inR hS ?_
      clear hS
      intro g57 w57 hS
      simp [Act.put]
      refine wl_store (by kernel_rfl) 27 (.tmp 19) (.tmp 95) rfl 0 rfl 0 rfl (rC (⟨J.s, J.r, (.slice va J.n vc), J.t⟩ : Rfd)) (rC (⟨J.s, J.r, (.slice va J.n vc), J.t⟩ : Rfd)) (pt_r (⟨0, 0, (.slice none 0 0), 0⟩ : Rfd) (⟨J.s, J.r, (.slice va J.n vc), J.t⟩ : Rfd)) rfl (szR _) (one_r _ _ _ _ _ _) hS ?_
      clear hS
      intro w58 hS
      change Hs17 w [(g57, 27, (rC (⟨J.s, J.r, (.slice va J.n vc), J.t⟩ : Rfd))), (g54, 27, (rC (⟨J.s, J.r, (.slice ua J.n uc), J.t⟩ : Rfd))), (g51, 27, (rC (⟨ys, yr, (.slice (some ⟨gb, 0, none⟩) yn gbc), yt⟩ : Rfd))), (gb, 4, ((yl ++ mkL 64).flatMap bC ++ spgb)), (g8, 27, (rC (⟨ys, yr, (.slice ya yn yc), yt⟩ : Rfd))), (g5, 27, (rC (⟨s, r, (.slice (some ⟨ga, 0, none⟩) n gac), t⟩ : Rfd))), (ga, 4, ((l ++ mkL 64).flatMap bC ++ spga)), (g3, 27, (rC (⟨0, 0, (.slice none 0 0), 0⟩ : Rfd))), (g2, 61, (tC (⟨sa, sb, true, ss, sr, sg, (.slice oa on oc)⟩ : Stp))), (g1, 27, (rC (⟨s, r, (.slice xa n xc), t⟩ : Rfd)))] _ w58 at hS
      simp [Act.put]
      refine wl (by kernel_rfl) fun kQ hkQ => ?_
      go_simp
      refine hkQ _ _ ?_
      clear hkQ kQ
      refine wpList_nil ?_
      go_upto_region 15 with fail
      refine wp_region_lit ?_
      refine wl (by kernel_rfl) fun kQ hkQ => ?_
      go_simp
      refine hkQ _ _ ?_
      clear hkQ kQ
      refine wl (by kernel_rfl) fun kQ hkQ => ?_
      go_simp
      refine hkQ _ _ ?_
      clear hkQ kQ
      refine wl (by kernel_rfl) fun kQ hkQ => ?_
      go_simp
      refine hkQ _ _ ?_
      clear hkQ kQ
      refine wl (by kernel_rfl) fun kQ hkQ => ?_
      go_simp
      refine hkQ _ _ ?_
      clear hkQ kQ
      refine wl_load (by kernel_rfl) 27 (.tmp 17) rfl 1 rfl 0 rfl (rC (⟨J.s, J.r, (.slice ua J.n uc), J.t⟩ : Rfd)) (At.self _) Try.underlying27 rfl (szR _) hS ?_
      simp [Act.put]
      refine wl_load (by kernel_rfl) 27 (.tmp 19) rfl 0 rfl 0 rfl (rC (⟨J.s, J.r, (.slice va J.n vc), J.t⟩ : Rfd)) (At.self _) Try.underlying27 rfl (szR _) hS ?_
      simp [Act.put]
      refine wl (by kernel_rfl) fun kQ hkQ => ?_
      go_simp
      refine (same_t J.s J.r J.t ua J.n uc J.l va vc _ hS.K.1.2 hS.K.2 hnJ).mono ?_
      rintro e w59 ⟨rfl, hb1⟩
      replace hS := hS.later hb1
      refine hkQ _ _ ?_
      clear hkQ kQ hb1
      refine wl (by kernel_rfl) fun kQ hkQ => ?_
      go_simp
      refine hkQ _ _ ?_
      clear hkQ kQ
      refine wl (by kernel_rfl) fun kQ hkQ => ?_
      go_simp
      refine hkQ _ _ ?_
      clear hkQ kQ
      refine wl (by kernel_rfl) fun kQ hkQ => ?_
      go_simp
      refine hkQ _ _ ?_
      clear hkQ kQ
      refine wl_load (by kernel_rfl) 27 (.tmp 2) rfl 9 rfl 0 rfl (rC (⟨s, r, (.slice xa n xc), t⟩ : Rfd)) (At.self _) Try.underlying27 rfl (szR _) hS ?_
      simp [Act.put]
      replace hS := hS.swap (show List.Perm [(g57, 27, (rC (⟨J.s, J.r, (.slice va J.n vc), J.t⟩ : Rfd))), (g54, 27, (rC (⟨J.s, J.r, (.slice ua J.n uc), J.t⟩ : Rfd))), (g51, 27, (rC (⟨ys, yr, (.slice (some ⟨gb, 0, none⟩) yn gbc), yt⟩ : Rfd))), (gb, 4, ((yl ++ mkL 64).flatMap bC ++ spgb)), (g8, 27, (rC (⟨ys, yr, (.slice ya yn yc), yt⟩ : Rfd))), (g5, 27, (rC (⟨s, r, (.slice (some ⟨ga, 0, none⟩) n gac), t⟩ : Rfd))), (ga, 4, ((l ++ mkL 64).flatMap bC ++ spga)), (g3, 27, (rC (⟨0, 0, (.slice none 0 0), 0⟩ : Rfd))), (g2, 61, (tC (⟨sa, sb, true, ss, sr, sg, (.slice oa on oc)⟩ : Stp))), (g1, 27, (rC (⟨s, r, (.slice xa n xc), t⟩ : Rfd)))] ([(ga, 4, ((l ++ mkL 64).flatMap bC ++ spga))] ++ [(g57, 27, (rC (⟨J.s, J.r, (.slice va J.n vc), J.t⟩ : Rfd))), (g54, 27, (rC (⟨J.s, J.r, (.slice ua J.n uc), J.t⟩ : Rfd))), (g51, 27, (rC (⟨ys, yr, (.slice (some ⟨gb, 0, none⟩) yn gbc), yt⟩ : Rfd))), (gb, 4, ((yl ++ mkL 64).flatMap bC ++ spgb)), (g8, 27, (rC (⟨ys, yr, (.slice ya yn yc), yt⟩ : Rfd))), (g5, 27, (rC (⟨s, r, (.slice (some ⟨ga, 0, none⟩) n gac), t⟩ : Rfd))), (g3, 27, (rC (⟨0, 0, (.slice none 0 0), 0⟩ : Rfd))), (g2, 61, (tC (⟨sa, sb, true, ss, sr, sg, (.slice oa on oc)⟩ : Stp))), (g1, 27, (rC (⟨s, r, (.slice xa n xc), t⟩ : Rfd)))]) from List.perm_middle (l₁ := [(g57, 27, (rC (⟨J.s, J.r, (.slice va J.n vc), J.t⟩ : Rfd))), (g54, 27, (rC (⟨J.s, J.r, (.slice ua J.n uc), J.t⟩ : Rfd))), (g51, 27, (rC (⟨ys, yr, (.slice (some ⟨gb, 0, none⟩) yn gbc), yt⟩ : Rfd))), (gb, 4, ((yl ++ mkL 64).flatMap bC ++ spgb)), (g8, 27, (rC (⟨ys, yr, (.slice ya yn yc), yt⟩ : Rfd))), (g5, 27, (rC (⟨s, r, (.slice (some ⟨ga, 0, none⟩) n gac), t⟩ : Rfd)))]) (l₂ := [(g3, 27, (rC (⟨0, 0, (.slice none 0 0), 0⟩ : Rfd))), (g2, 61, (tC (⟨sa, sb, true, ss, sr, sg, (.slice oa on oc)⟩ : Stp))), (g1, 27, (rC (⟨s, r, (.slice xa n xc), t⟩ : Rfd)))]) (a := (ga, 4, ((l ++ mkL 64).flatMap bC ++ spga))))
      refine wl (by kernel_rfl) fun kQ hkQ => ?_
      go_simp
      refine (whole_t w [(g57, 27, (rC (⟨J.s, J.r, (.slice va J.n vc), J.t⟩ : Rfd))), (g54, 27, (rC (⟨J.s, J.r, (.slice ua J.n uc), J.t⟩ : Rfd))), (g51, 27, (rC (⟨ys, yr, (.slice (some ⟨gb, 0, none⟩) yn gbc), yt⟩ : Rfd))), (gb, 4, ((yl ++ mkL 64).flatMap bC ++ spgb)), (g8, 27, (rC (⟨ys, yr, (.slice ya yn yc), yt⟩ : Rfd))), (g5, 27, (rC (⟨s, r, (.slice (some ⟨ga, 0, none⟩) n gac), t⟩ : Rfd))), (g3, 27, (rC (⟨0, 0, (.slice none 0 0), 0⟩ : Rfd))), (g2, 61, (tC (⟨sa, sb, true, ss, sr, sg, (.slice oa on oc)⟩ : Stp))), (g1, 27, (rC (⟨s, r, (.slice xa n xc), t⟩ : Rfd)))] _ s r t xa n xc l ga (n + 64) gac spga _ hS (fun w' h => h.1.1.1.1) hlga rfl hn).mono ?_
      rintro e w60 ⟨rfl, hS9⟩
      replace hS := hS9; clear hS9; have hb1 := hS.bel
      refine hkQ _ _ ?_
      clear hkQ kQ hb1
      refine wl (by kernel_rfl) fun kQ hkQ => ?_
      go_simp
      refine hkQ _ _ ?_
      clear hkQ kQ
      refine wl (by kernel_rfl) fun kQ hkQ => ?_
      go_simp
      refine hkQ _ _ ?_
      clear hkQ kQ
      refine wl (by kernel_rfl) fun kQ hkQ => ?_
      go_simp
      refine hkQ _ _ ?_
      clear hkQ kQ
      refine wl_load (by kernel_rfl) 27 (.tmp 13) rfl 5 rfl 0 rfl (rC (⟨ys, yr, (.slice ya yn yc), yt⟩ : Rfd)) (At.self _) Try.underlying27 rfl (szR _) hS ?_
      simp [Act.put]
      replace hS := hS.swap (show List.Perm [(ga, 4, (((l ++ mkL 64).map (!·)).flatMap bC ++ spga)), (g57, 27, (rC (⟨J.s, J.r, (.slice va J.n vc), J.t⟩ : Rfd))), (g54, 27, (rC (⟨J.s, J.r, (.slice ua J.n uc), J.t⟩ : Rfd))), (g51, 27, (rC (⟨ys, yr, (.slice (some ⟨gb, 0, none⟩) yn gbc), yt⟩ : Rfd))), (gb, 4, ((yl ++ mkL 64).flatMap bC ++ spgb)), (g8, 27, (rC (⟨ys, yr, (.slice ya yn yc), yt⟩ : Rfd))), (g5, 27, (rC (⟨s, r, (.slice (some ⟨ga, 0, none⟩) n gac), t⟩ : Rfd))), (g3, 27, (rC (⟨0, 0, (.slice none 0 0), 0⟩ : Rfd))), (g2, 61, (tC (⟨sa, sb, true, ss, sr, sg, (.slice oa on oc)⟩ : Stp))), (g1, 27, (rC (⟨s, r, (.slice xa n xc), t⟩ : Rfd)))] ([(gb, 4, ((yl ++ mkL 64).flatMap bC ++ spgb))] ++ [(ga, 4, (((l ++ mkL 64).map (!·)).flatMap bC ++ spga)), (g57, 27, (rC (⟨J.s, J.r, (.slice va J.n vc), J.t⟩ : Rfd))), (g54, 27, (rC (⟨J.s, J.r, (.slice ua J.n uc), J.t⟩ : Rfd))), (g51, 27, (rC (⟨ys, yr, (.slice (some ⟨gb, 0, none⟩) yn gbc), yt⟩ : Rfd))), (g8, 27, (rC (⟨ys, yr, (.slice ya yn yc), yt⟩ : Rfd))), (g5, 27, (rC (⟨s, r, (.slice (some ⟨ga, 0, none⟩) n gac), t⟩ : Rfd))), (g3, 27, (rC (⟨0, 0, (.slice none 0 0), 0⟩ : Rfd))), (g2, 61, (tC (⟨sa, sb, true, ss, sr, sg, (.slice oa on oc)⟩ : Stp))), (g1, 27, (rC (⟨s, r, (.slice xa n xc), t⟩ : Rfd)))]) from List.perm_middle (l₁ := [(ga, 4, (((l ++ mkL 64).map (!·)).flatMap bC ++ spga)), (g57, 27, (rC (⟨J.s, J.r, (.slice va J.n vc), J.t⟩ : Rfd))), (g54, 27, (rC (⟨J.s, J.r, (.slice ua J.n uc), J.t⟩ : Rfd))), (g51, 27, (rC (⟨ys, yr, (.slice (some ⟨gb, 0, none⟩) yn gbc), yt⟩ : Rfd)))]) (l₂ := [(g8, 27, (rC (⟨ys, yr, (.slice ya yn yc), yt⟩ : Rfd))), (g5, 27, (rC (⟨s, r, (.slice (some ⟨ga, 0, none⟩) n gac), t⟩ : Rfd))), (g3, 27, (rC (⟨0, 0, (.slice none 0 0), 0⟩ : Rfd))), (g2, 61, (tC (⟨sa, sb, true, ss, sr, sg, (.slice oa on oc)⟩ : Stp))), (g1, 27, (rC (⟨s, r, (.slice xa n xc), t⟩ : Rfd)))]) (a := (gb, 4, ((yl ++ mkL 64).flatMap bC ++ spgb))))
      refine wl (by kernel_rfl) fun kQ hkQ => ?_
      go_simp
      refine (whole_t w [(ga, 4, (((l ++ mkL 64).map (!·)).flatMap bC ++ spga)), (g57, 27, (rC (⟨J.s, J.r, (.slice va J.n vc), J.t⟩ : Rfd))), (g54, 27, (rC (⟨J.s, J.r, (.slice ua J.n uc), J.t⟩ : Rfd))), (g51, 27, (rC (⟨ys, yr, (.slice (some ⟨gb, 0, none⟩) yn gbc), yt⟩ : Rfd))), (g8, 27, (rC (⟨ys, yr, (.slice ya yn yc), yt⟩ : Rfd))), (g5, 27, (rC (⟨s, r, (.slice (some ⟨ga, 0, none⟩) n gac), t⟩ : Rfd))), (g3, 27, (rC (⟨0, 0, (.slice none 0 0), 0⟩ : Rfd))), (g2, 61, (tC (⟨sa, sb, true, ss, sr, sg, (.slice oa on oc)⟩ : Stp))), (g1, 27, (rC (⟨s, r, (.slice xa n xc), t⟩ : Rfd)))] _ ys yr yt ya yn yc yl gb (yn + 64) gbc spgb _ hS (fun w' h => h.1.1.2) hlgb rfl hyn2).mono ?_
      rintro e w61 ⟨rfl, hS9⟩
      replace hS := hS9; clear hS9; have hb1 := hS.bel
      refine hkQ _ _ ?_
      clear hkQ kQ hb1
      refine wl (by kernel_rfl) fun kQ hkQ => ?_
      go_simp
      refine hkQ _ _ ?_
      clear hkQ kQ
      refine wl (by kernel_rfl) fun kQ hkQ => ?_
      go_simp
      refine hkQ _ _ ?_
      clear hkQ kQ
      refine wl_load (by kernel_rfl) 27 (.tmp 17) rfl 3 rfl 0 rfl (rC (⟨J.s, J.r, (.slice ua J.n uc), J.t⟩ : Rfd)) (At.self _) Try.underlying27 rfl (szR _) hS ?_
      simp [Act.put]
      refine wl_load (by kernel_rfl) 27 (.tmp 19) rfl 2 rfl 0 rfl (rC (⟨J.s, J.r, (.slice va J.n vc), J.t⟩ : Rfd)) (At.self _) Try.underlying27 rfl (szR _) hS ?_
      simp [Act.put]
      refine wl (by kernel_rfl) fun kQ hkQ => ?_
      go_simp
      refine (same_t J.s J.r J.t ua J.n uc J.l va vc _ hS.K.1.2 hS.K.2 hnJ).mono ?_
      rintro e w62 ⟨rfl, hb1⟩
      replace hS := hS.later hb1
      refine hkQ _ _ ?_
      clear hkQ kQ hb1
      refine wl (by kernel_rfl) fun kQ hkQ => ?_
      go_simp
      refine hkQ _ _ ?_
      clear hkQ kQ
      refine wl (by kernel_rfl) fun kQ hkQ => ?_
      go_simp
      refine hkQ _ _ ?_
      clear hkQ kQ
      refine wpList_nil ?_
      rcases unhide HAE with hAe | hAe
      · rw [hAe]
        have HAe := hide hAe
        clear hAe
        go_upto_region 18 with fail
        refine wp_region_lit ?_
        refine wl_load (by kernel_rfl) 27 (.tmp 19) rfl 2 rfl 0 rfl (rC (⟨J.s, J.r, (.slice va J.n vc), J.t⟩ : Rfd)) (At.self _) Try.underlying27 rfl (szR _) hS ?_
        simp [Act.put]
        refine wl (by kernel_rfl) fun kQ hkQ => ?_
        go_simp
        refine hkQ _ _ ?_
        clear hkQ kQ
        refine wl_store (by kernel_rfl) 27 (.tmp 4) (.tmp 124) rfl 7 rfl 0 rfl (rC (⟨J.s, J.r, (.slice va J.n vc), J.t⟩ : Rfd)) (rC (⟨J.s, J.r, (.slice va J.n vc), J.t⟩ : Rfd)) (pt_r (⟨0, 0, (.slice none 0 0), 0⟩ : Rfd) (⟨J.s, J.r, (.slice va J.n vc), J.t⟩ : Rfd)) rfl (szR _) (one_r _ _ _ _ _ _) hS ?_
        clear hS
        intro w103 hS
        change Hs17 w [(gb, 4, (((yl ++ mkL 64).map (!·)).flatMap bC ++ spgb)), (ga, 4, (((l ++ mkL 64).map (!·)).flatMap bC ++ spga)), (g57, 27, (rC (⟨J.s, J.r, (.slice va J.n vc), J.t⟩ : Rfd))), (g54, 27, (rC (⟨J.s, J.r, (.slice ua J.n uc), J.t⟩ : Rfd))), (g51, 27, (rC (⟨ys, yr, (.slice (some ⟨gb, 0, none⟩) yn gbc), yt⟩ : Rfd))), (g8, 27, (rC (⟨ys, yr, (.slice ya yn yc), yt⟩ : Rfd))), (g5, 27, (rC (⟨s, r, (.slice (some ⟨ga, 0, none⟩) n gac), t⟩ : Rfd))), (g3, 27, (rC (⟨J.s, J.r, (.slice va J.n vc), J.t⟩ : Rfd))), (g2, 61, (tC (⟨sa, sb, true, ss, sr, sg, (.slice oa on oc)⟩ : Stp))), (g1, 27, (rC (⟨s, r, (.slice xa n xc), t⟩ : Rfd)))] _ w103 at hS
        simp [Act.put]
        refine wl (by kernel_rfl) fun kQ hkQ => ?_
        go_simp
        refine hkQ _ _ ?_
        clear hkQ kQ
        refine wpList_nil ?_
        go_wp2_with fail
        refine bodyPost_ret (res_ct rfl hS 7 rfl rfl Try.underlying27 rfl (szR _) _ rfl) rfl ?_
        exact ⟨⟨J.s, J.r, J.t, va, J.n, vc, J.l, rfl, .inr ⟨hnJ, hS.K.2, hbv⟩⟩, hS.bel⟩
      · rw [hAe]
        have HAe := hide hAe
        clear hAe
        go_upto_region 17 with fail
        refine wp_region_lit ?_
        refine wl_load (by kernel_rfl) 27 (.tmp 2) rfl 9 rfl 0 rfl (rC (⟨s, r, (.slice xa n xc), t⟩ : Rfd)) (At.self _) Try.underlying27 rfl (szR _) hS ?_
        simp [Act.put]
        refine wl (by kernel_rfl) fun kQ hkQ => ?_
        go_simp
        refine hkQ _ _ ?_
        clear hkQ kQ
        refine wl_store (by kernel_rfl) 27 (.tmp 4) (.tmp 122) rfl 7 rfl 0 rfl (rC (⟨s, r, (.slice xa n xc), t⟩ : Rfd)) (rC (⟨s, r, (.slice xa n xc), t⟩ : Rfd)) (pt_r (⟨0, 0, (.slice none 0 0), 0⟩ : Rfd) (⟨s, r, (.slice xa n xc), t⟩ : Rfd)) rfl (szR _) (one_r _ _ _ _ _ _) hS ?_
        clear hS
        intro w103 hS
        change Hs17 w [(gb, 4, (((yl ++ mkL 64).map (!·)).flatMap bC ++ spgb)), (ga, 4, (((l ++ mkL 64).map (!·)).flatMap bC ++ spga)), (g57, 27, (rC (⟨J.s, J.r, (.slice va J.n vc), J.t⟩ : Rfd))), (g54, 27, (rC (⟨J.s, J.r, (.slice ua J.n uc), J.t⟩ : Rfd))), (g51, 27, (rC (⟨ys, yr, (.slice (some ⟨gb, 0, none⟩) yn gbc), yt⟩ : Rfd))), (g8, 27, (rC (⟨ys, yr, (.slice ya yn yc), yt⟩ : Rfd))), (g5, 27, (rC (⟨s, r, (.slice (some ⟨ga, 0, none⟩) n gac), t⟩ : Rfd))), (g3, 27, (rC (⟨s, r, (.slice xa n xc), t⟩ : Rfd))), (g2, 61, (tC (⟨sa, sb, true, ss, sr, sg, (.slice oa on oc)⟩ : Stp))), (g1, 27, (rC (⟨s, r, (.slice xa n xc), t⟩ : Rfd)))] _ w103 at hS
        simp [Act.put]
        refine wl (by kernel_rfl) fun kQ hkQ => ?_
        go_simp
        refine hkQ _ _ ?_
        clear hkQ kQ
        refine wpList_nil ?_
        go_wp2_with fail
        refine bodyPost_ret (res_ct rfl hS 7 rfl rfl Try.underlying27 rfl (szR _) _ rfl) rfl ?_
        exact ⟨⟨s, r, t, xa, n, xc, l, rfl, .inl ⟨rfl, rfl⟩⟩, hS.bel⟩
end Go.Proofs.Ytjedgkcpkieaeaa
