import Derived.Test.YtjedgkcpkieaeaaAnW
import Derived.Deep.DeepCutAuto
import Derived.Deep.QuietTactic
import Derived.BigQuiet
set_option linter.unusedSimpArgs false
set_option linter.unusedVariables false
namespace Go.Proofs.Ytjedgkcpkieaeaa
open Go.RowKit

structure Stp where (a b : Int) (jn : Bool) (s r g : Int) (v : Value)
def tC (x : Stp) : List Value := [.int .i64 x.a, .int .i64 x.b, .bool x.jn, .int .i64 x.s, .int .i64 x.r, .int .i64 x.g, x.v]
theorem szT (x : Stp) : (Try.prog.info? 61).map (·.size) = some (tC x).length := by show _ = some 7; kernel_rfl
theorem Try.in1k : (Try.prog.info? 22).map (·.size) = some 1 := by kernel_rfl
theorem at_t0 (x : Stp) : At (tC x) 0 [.int .i64 x.a] := ⟨[], _, rfl, rfl⟩
theorem at_t1 (x : Stp) : At (tC x) 1 [.int .i64 x.b] := ⟨[.int .i64 x.a], _, rfl, rfl⟩
theorem at_t2 (x : Stp) : At (tC x) 2 [.bool x.jn] := ⟨[.int .i64 x.a, .int .i64 x.b], _, rfl, rfl⟩
theorem at_t3 (x : Stp) : At (tC x) 3 [.int .i64 x.s] := ⟨[.int .i64 x.a, .int .i64 x.b, .bool x.jn], _, rfl, rfl⟩
theorem at_t4 (x : Stp) : At (tC x) 4 [.int .i64 x.r] := ⟨[.int .i64 x.a, .int .i64 x.b, .bool x.jn, .int .i64 x.s], _, rfl, rfl⟩
theorem at_t5 (x : Stp) : At (tC x) 5 [.int .i64 x.g] := ⟨[.int .i64 x.a, .int .i64 x.b, .bool x.jn, .int .i64 x.s, .int .i64 x.r], _, rfl, rfl⟩
theorem at_t6 (x : Stp) : At (tC x) 6 [x.v] := ⟨[.int .i64 x.a, .int .i64 x.b, .bool x.jn, .int .i64 x.s, .int .i64 x.r, .int .i64 x.g], [], rfl, rfl⟩
/-- a refund that was answered: what it is does not matter -/
def Som (w : World) (B N : Nat) (q : Bool) (e : Ending) : Prop := ∃ s r t a n c l, n ≤ N ∧ e = .returned (.tuple #[aV (rC ⟨s, r, .slice a n c, t⟩), .bool q]) ∧ Sb w ⟨a, n, c, l⟩ ∧ ∀ x, a = some x → B ≤ x.block
def SomE (w : World) (B N : Nat) (e : Ending) : Prop := ∃ q, Som w B N q e
/-- the document's Begin, in one form -/
theorem rbegin_u (s r g : Int) (w : World) : Calls Try.prog 30 #[.int .i64 s, .int .i64 r, .int .i64 g] w fun e w' => SomE w' w.heap.size 16 e ∧ Below w.heap.size w w' := by
  by_cases h : s < 1 ∨ r < 1 ∨ 4096 < r ∨ g < 1 ∨ 16 < g
  · refine (rbegin_no s r g w h).mono ?_
    rintro e w' ⟨rfl, hb⟩
    exact ⟨⟨false, 0, 0, 0, none, 0, 0, [], Nat.zero_le _, rfl, sb_nil w', fun x hx => by cases hx⟩, hb⟩
  · obtain ⟨n, rfl⟩ : ∃ n : Nat, g = (n : Int) := ⟨g.toNat, by omega⟩
    refine (rbegin_ok s r n w (by omega) (by omega) (by omega) (by omega) (by omega)).mono ?_
    rintro e w' ⟨u, rfl, ⟨a, c, rfl, h1, h2⟩, hb⟩
    exact ⟨⟨true, s, r, 0, a, n, c, _, by omega, rfl, h1, h2⟩, hb⟩
set_option maxHeartbeats 2000000 in
set_option maxRecDepth 100000 in
theorem other_any (sa sb : Int) (jn : Bool) (ss sr sg : Int) (oa : Option Addr) (on oc : Nat) (ox : List Akn) (w : World) (ho : Sk w ⟨oa, on, oc, ox⟩) (hon : on ≤ 300) :
    Calls Try.prog 36 #[aV (tC (⟨sa, sb, jn, ss, sr, sg, (.slice oa on oc)⟩ : Stp))] w fun e w' => SomE w' w.heap.size 16 e ∧ Below w.heap.size w w' := by
  have hS := Hs17.begin w (fun w => Sk w ⟨oa, on, oc, ox⟩) (fun w' h => ho.old h)
  clear ho
  go_enter Try.func36, Try.ntmps36
  go_upto_region 0 with fail
  refine wp_region_lit ?_
  refine wl_box (by kernel_rfl) 61 (.tmp 0) rfl (tC (⟨sa, sb, jn, ss, sr, sg, (.slice oa on oc)⟩ : Stp)) rfl hS ?_
  clear hS
  intro g1 w1 hS
  simp [Act.put]
  refine wl_alloc (by kernel_rfl) 27 rfl (rC (⟨0, 0, (.slice none 0 0), 0⟩ : Rfd)) Try.inR hS ?_
  clear hS
  intro g2 w2 hS
  simp [Act.put]
  refine wl (by kernel_rfl) fun kQ hkQ => ?_
  go_simp
  refine hkQ _ _ ?_
  clear hkQ kQ
  refine wpList_nil ?_
  go_upto_region 1 with fail
  refine wp_region_lit ?_
  refine wl (by kernel_rfl) fun kQ hkQ => ?_
  go_simp
  refine hkQ _ _ ?_
  clear hkQ kQ
  refine wl_load1 (by kernel_rfl) 3 (.tmp 10) rfl 1 rfl 3 rfl (.int .i64 ss) (at_t3 (⟨sa, sb, jn, ss, sr, sg, (.slice oa on oc)⟩ : Stp)) Try.underlying3 rfl hS ?_
  simp [Act.put]
  refine wl (by kernel_rfl) fun kQ hkQ => ?_
  go_simp
  refine hkQ _ _ ?_
  clear hkQ kQ
  refine wl_load1 (by kernel_rfl) 3 (.tmp 12) rfl 1 rfl 4 rfl (.int .i64 sr) (at_t4 (⟨sa, sb, jn, ss, sr, sg, (.slice oa on oc)⟩ : Stp)) Try.underlying3 rfl hS ?_
  simp [Act.put]
  refine wl (by kernel_rfl) fun kQ hkQ => ?_
  go_simp
  refine hkQ _ _ ?_
  clear hkQ kQ
  refine wl_load1 (by kernel_rfl) 3 (.tmp 14) rfl 1 rfl 5 rfl (.int .i64 sg) (at_t5 (⟨sa, sb, jn, ss, sr, sg, (.slice oa on oc)⟩ : Stp)) Try.underlying3 rfl hS ?_
  simp [Act.put]
  have hws := hS.bel.size
  refine wl (by kernel_rfl) fun kQ hkQ => ?_
  go_simp
  refine (rbegin_u ss sr sg _).mono ?_
  rintro e w3 ⟨⟨q, ys, yr, yt, ya, yn, yc, yl, hyn, rfl, hsb, hbk⟩, hb1⟩
  have hyb : ∀ x, ya = some x → w.heap.size ≤ x.block := fun x hx => Nat.le_trans hws (hbk x hx)
  replace hS := hS.keepS hb1 hsb hbk
  clear hsb hbk hws
  refine hkQ _ _ ?_
  clear hkQ kQ hb1
  refine wl (by kernel_rfl) fun kQ hkQ => ?_
  go_simp
  refine hkQ _ _ ?_
  clear hkQ kQ
  refine wl (by kernel_rfl) fun kQ hkQ => ?_
  go_simp
  refine hkQ _ _ ?_
  clear hkQ kQ
  refine wl (by kernel_rfl) fun kQ hkQ => ?_
  go_simp
  refine hkQ _ _ ?_
  clear hkQ kQ
  refine wl_alloc (by kernel_rfl) 27 rfl (rC (⟨0, 0, (.slice none 0 0), 0⟩ : Rfd)) Try.inR hS ?_
  clear hS
  intro g4 w4 hS
  simp [Act.put]
  refine wl_store (by kernel_rfl) 27 (.tmp 4) (.tmp 17) rfl 0 rfl 0 rfl (rC (⟨ys, yr, (.slice ya yn yc), yt⟩ : Rfd)) (rC (⟨ys, yr, (.slice ya yn yc), yt⟩ : Rfd)) (pt_r (⟨0, 0, (.slice none 0 0), 0⟩ : Rfd) (⟨ys, yr, (.slice ya yn yc), yt⟩ : Rfd)) rfl (szR _) (one_r _ _ _ _ _ _) hS ?_
  clear hS
  intro w5 hS
  change Hs17 w [(g4, 27, (rC (⟨ys, yr, (.slice ya yn yc), yt⟩ : Rfd))), (g2, 27, (rC (⟨0, 0, (.slice none 0 0), 0⟩ : Rfd))), (g1, 61, (tC (⟨sa, sb, jn, ss, sr, sg, (.slice oa on oc)⟩ : Stp)))] _ w5 at hS
  simp [Act.put]
  refine wl (by kernel_rfl) fun kQ hkQ => ?_
  go_simp
  refine hkQ _ _ ?_
  clear hkQ kQ
  refine wpList_nil ?_
  go_wp2_with fail
  go_loopw [6, 7, 8] (fun vi _ _ wr => ∃ (k : Nat) (ys yr yt : Int) (ya : Option Addr) (yn yc : Nat) (yl : List Bool), k ≤ on ∧ yn ≤ 16 ∧ (∀ x, ya = some x → w.heap.size ≤ x.block) ∧ vi = .int .i64 k ∧ Hs17 w [(g4, 27, (rC (⟨ys, yr, (.slice ya yn yc), yt⟩ : Rfd))), (g2, 27, (rC (⟨0, 0, (.slice none 0 0), 0⟩ : Rfd))), (g1, 61, (tC (⟨sa, sb, jn, ss, sr, sg, (.slice oa on oc)⟩ : Stp)))] (fun w => (Sk w ⟨oa, on, oc, ox⟩ ∧ Sb w ⟨ya, yn, yc, yl⟩)) wr) (fun vi _ _ _ => on - (intOf vi).toNat)
  case atStart => exact ⟨0, ys, yr, yt, ya, yn, yc, yl, by omega, hyn, hyb, rfl, hS⟩
  case round =>
    clear hS hyn hyb
    obtain ⟨k, ys, yr, yt, ya, yn, yc, yl, hk, hyn, hyb, rfl, hS⟩ := hrel
    have c6 : wr.cell? ⟨g1, 6, none⟩ = some (.slice oa on oc) := by have := (at_t6 (⟨sa, sb, jn, ss, sr, sg, (.slice oa on oc)⟩ : Stp)).range (hS.get 2 rfl) 0 _ rfl; simpa using this
    cases q with
    | false =>
      by_cases hlt : k < on
      · have hkz : (k : Int) < (on : Int) := by omega
        go_upto_region 8 with fail
        clear c6
        refine wp_region_lit ?_
        refine wl_load (by kernel_rfl) 27 (.tmp 4) rfl 0 rfl 0 rfl (rC (⟨ys, yr, (.slice ya yn yc), yt⟩ : Rfd)) (At.self _) Try.underlying27 rfl (szR _) hS ?_
        simp [Act.put]
        refine wl (by kernel_rfl) fun kQ hkQ => ?_
        go_simp
        refine hkQ _ _ ?_
        clear hkQ kQ
        refine wl_store (by kernel_rfl) 27 (.tmp 2) (.tmp 49) rfl 1 rfl 0 rfl (rC (⟨ys, yr, (.slice ya yn yc), yt⟩ : Rfd)) (rC (⟨ys, yr, (.slice ya yn yc), yt⟩ : Rfd)) (pt_r (⟨0, 0, (.slice none 0 0), 0⟩ : Rfd) (⟨ys, yr, (.slice ya yn yc), yt⟩ : Rfd)) rfl (szR _) (one_r _ _ _ _ _ _) hS ?_
        clear hS
        intro w81 hS
        change Hs17 w [(g4, 27, (rC (⟨ys, yr, (.slice ya yn yc), yt⟩ : Rfd))), (g2, 27, (rC (⟨ys, yr, (.slice ya yn yc), yt⟩ : Rfd))), (g1, 61, (tC (⟨sa, sb, jn, ss, sr, sg, (.slice oa on oc)⟩ : Stp)))] _ w81 at hS
        simp [Act.put]
        refine wl (by kernel_rfl) fun kQ hkQ => ?_
        go_simp
        refine hkQ _ _ ?_
        clear hkQ kQ
        refine wpList_nil ?_
        go_wp2_with fail
        refine bodyPost_ret (res_ct rfl hS 1 rfl rfl Try.underlying27 rfl (szR _) _ rfl) rfl ?_
        exact ⟨⟨false, ys, yr, yt, ya, yn, yc, yl, hyn, rfl, hS.K.2, hyb⟩, hS.bel⟩
      · have hkz : ¬ (k : Int) < (on : Int) := by omega
        go_upto_region 8 with fail
        clear c6
        refine wp_region_lit ?_
        refine wl_load (by kernel_rfl) 27 (.tmp 4) rfl 0 rfl 0 rfl (rC (⟨ys, yr, (.slice ya yn yc), yt⟩ : Rfd)) (At.self _) Try.underlying27 rfl (szR _) hS ?_
        simp [Act.put]
        refine wl (by kernel_rfl) fun kQ hkQ => ?_
        go_simp
        refine hkQ _ _ ?_
        clear hkQ kQ
        refine wl_store (by kernel_rfl) 27 (.tmp 2) (.tmp 49) rfl 1 rfl 0 rfl (rC (⟨ys, yr, (.slice ya yn yc), yt⟩ : Rfd)) (rC (⟨ys, yr, (.slice ya yn yc), yt⟩ : Rfd)) (pt_r (⟨0, 0, (.slice none 0 0), 0⟩ : Rfd) (⟨ys, yr, (.slice ya yn yc), yt⟩ : Rfd)) rfl (szR _) (one_r _ _ _ _ _ _) hS ?_
        clear hS
        intro w81 hS
        change Hs17 w [(g4, 27, (rC (⟨ys, yr, (.slice ya yn yc), yt⟩ : Rfd))), (g2, 27, (rC (⟨ys, yr, (.slice ya yn yc), yt⟩ : Rfd))), (g1, 61, (tC (⟨sa, sb, jn, ss, sr, sg, (.slice oa on oc)⟩ : Stp)))] _ w81 at hS
        simp [Act.put]
        refine wl (by kernel_rfl) fun kQ hkQ => ?_
        go_simp
        refine hkQ _ _ ?_
        clear hkQ kQ
        refine wpList_nil ?_
        go_wp2_with fail
        refine bodyPost_ret (res_ct rfl hS 1 rfl rfl Try.underlying27 rfl (szR _) _ rfl) rfl ?_
        exact ⟨⟨false, ys, yr, yt, ya, yn, yc, yl, hyn, rfl, hS.K.2, hyb⟩, hS.bel⟩
    | true =>
      by_cases hlt : k < on
      · have hkz : (k : Int) < (on : Int) := by omega
        obtain ⟨⟨xg, xi⟩, b, off, hxe, hoa, hbs, -⟩ := hS.K.1.at_ (k := k) hlt
        simp only at hxe hoa
        subst hoa
        have HCG : Hid (∀ w', Sk w' ⟨some ⟨b, off, none⟩, on, oc, ox⟩ → w'.cell? ⟨b, off + k * 2, none⟩ = some (.int .i64 xg) ∧ w'.cell? ⟨b, off + k * 2 + 1, none⟩ = some (.int .i64 xi)) := hide (fun w' h => by
          obtain ⟨x2, b2, o2, e2, ea, -, hr⟩ := h.at_ (k := k) hlt
          simp only at e2 ea
          cases ea
          rw [hxe] at e2; cases e2
          exact ⟨by simpa using hr 0 _ rfl, by simpa using hr 1 _ rfl⟩)
        obtain ⟨A, hA⟩ : ∃ A, ackR ys yr yn yl yt xg xi = A := ⟨_, rfl⟩
        have hAn : A.n ≤ 16 := by rw [← hA]; exact Nat.le_trans ackR_n hyn
        have hyn2 : yn ≤ 1048576 := by omega
        have HA := hide hA
        have HAE : Hid (A.e = 0 ∨ A.e = 210) := hide (by rw [← hA]; exact ackR_e)
        clear hxe hA
        go_upto_region 5 with fail
        clear c6
        go_cut [7, 8] (fun v v' wx => ∃ (gz : Nat) (pa : Option Addr) (pc : Nat), v = .pointer (some ⟨gz, 0, none⟩) ∧ v' = .int .i64 A.e ∧ (∀ x, pa = some x → w.heap.size ≤ x.block) ∧ Hs17 w ((gz, 27, (rC (⟨A.s, A.r, (.slice pa A.n pc), A.t⟩ : Rfd))) :: [(g4, 27, (rC (⟨ys, yr, (.slice ya yn yc), yt⟩ : Rfd))), (g2, 27, (rC (⟨0, 0, (.slice none 0 0), 0⟩ : Rfd))), (g1, 61, (tC (⟨sa, sb, jn, ss, sr, sg, (.slice (some ⟨b, off, none⟩) on oc)⟩ : Stp)))]) (fun w => ((Sk w ⟨some ⟨b, off, none⟩, on, oc, ox⟩ ∧ Sb w ⟨ya, yn, yc, yl⟩) ∧ Sb w ⟨pa, A.n, pc, A.l⟩)) wx)
        case first =>
          refine wp_region_noPanic ?_
          replace hS := hS.drew
          refine wp_region_held_drew (S := Hs17 w [(g4, 27, (rC (⟨ys, yr, (.slice ya yn yc), yt⟩ : Rfd))), (g2, 27, (rC (⟨0, 0, (.slice none 0 0), 0⟩ : Rfd))), (g1, 61, (tC (⟨sa, sb, jn, ss, sr, sg, (.slice (some ⟨b, off, none⟩) on oc)⟩ : Stp)))] (fun w => (Sk w ⟨some ⟨b, off, none⟩, on, oc, ox⟩ ∧ Sb w ⟨ya, yn, yc, yl⟩))) (by kernel_rfl) (hS.sub ((((List.Sublist.slnil).cons_cons _).cons_cons _).cons_cons _)) (fun hHeld => ?_)
          generalize World.drew _ = w61 at hS hHeld ⊢
          refine wpAnyH_take (i := 0) (oi := _) (v := aV (rC (⟨ys, yr, (.slice ya yn yc), yt⟩ : Rfd))) rfl (by kernel_rfl) (by kernel_rfl) (by kernel_rfl) (fun _ _ _ h => h) (yl_load (by kernel_rfl) 27 (.tmp 4) rfl 0 rfl 0 rfl (rC (⟨ys, yr, (.slice ya yn yc), yt⟩ : Rfd)) (At.self _) Try.underlying27 rfl (szR _)) hHeld ?_
          simp [Act.put]
          refine wpAnyH_take (i := 1) (oi := _) (v := .pointer (some ⟨g1, 6, none⟩)) rfl (by kernel_rfl) (by kernel_rfl) (by kernel_rfl) (fun _ _ _ h => h) (Or.inl ⟨by rfl, fun w hSw => by go_simp⟩) hHeld ?_
          simp [Act.put]
          refine wpAnyH_take (i := 2) (oi := _) (v := (.slice (some ⟨b, off, none⟩) on oc)) rfl (by kernel_rfl) (by kernel_rfl) (by kernel_rfl) (fun _ _ _ h => h) (yl_load1 (by kernel_rfl) 22 (.tmp 31) rfl 2 rfl 6 rfl ((.slice (some ⟨b, off, none⟩) on oc)) (at_t6 (⟨sa, sb, jn, ss, sr, sg, (.slice (some ⟨b, off, none⟩) on oc)⟩ : Stp)) Try.underlying22 rfl) hHeld ?_
          simp [Act.put]
          refine wpAnyH_take (i := 3) (oi := _) (v := .int .i64 (k : Int)) rfl (by kernel_rfl) (by kernel_rfl) (by kernel_rfl) (fun _ _ _ h => h) (Or.inl ⟨by rfl, fun w hSw => by go_simp⟩) hHeld ?_
          simp [Act.put]
          refine wpAnyH_take (i := 4) (oi := _) (v := (.pointer (some ⟨b, off + k * 2, none⟩))) rfl (by kernel_rfl) (by kernel_rfl) (by kernel_rfl) (fun _ _ _ h => h) (Or.inl ⟨by rfl, fun w hSw => by go_simp⟩) hHeld ?_
          simp [Act.put]
          refine wpAnyH_take (i := 5) (oi := _) (v := (.pointer (some ⟨b, off + k * 2, none⟩))) rfl (by kernel_rfl) (by kernel_rfl) (by kernel_rfl) (fun _ _ _ h => h) (Or.inl ⟨by rfl, fun w hSw => by go_simp⟩) hHeld ?_
          simp [Act.put]
          refine wpAnyH_take (i := 6) (oi := _) (v := .int .i64 xg) rfl (by kernel_rfl) (by kernel_rfl) (by kernel_rfl) (fun _ _ _ h => h) (yl_loadC (by kernel_rfl) 3 (.tmp 35) rfl (b) (off + k * 2) rfl (.int .i64 xg) (fun w hSw => (unhide HCG _ hSw.K.1).1) Try.underlying3 rfl) hHeld ?_
          simp [Act.put]
          refine wpAnyH_take (i := 7) (oi := _) (v := .pointer (some ⟨g1, 6, none⟩)) rfl (by kernel_rfl) (by kernel_rfl) (by kernel_rfl) (fun _ _ _ h => h) (Or.inl ⟨by rfl, fun w hSw => by go_simp⟩) hHeld ?_
          simp [Act.put]
          refine wpAnyH_take (i := 8) (oi := _) (v := (.slice (some ⟨b, off, none⟩) on oc)) rfl (by kernel_rfl) (by kernel_rfl) (by kernel_rfl) (fun _ _ _ h => h) (yl_load1 (by kernel_rfl) 22 (.tmp 37) rfl 2 rfl 6 rfl ((.slice (some ⟨b, off, none⟩) on oc)) (at_t6 (⟨sa, sb, jn, ss, sr, sg, (.slice (some ⟨b, off, none⟩) on oc)⟩ : Stp)) Try.underlying22 rfl) hHeld ?_
          simp [Act.put]
          refine wpAnyH_take (i := 9) (oi := _) (v := .int .i64 (k : Int)) rfl (by kernel_rfl) (by kernel_rfl) (by kernel_rfl) (fun _ _ _ h => h) (Or.inl ⟨by rfl, fun w hSw => by go_simp⟩) hHeld ?_
          simp [Act.put]
          refine wpAnyH_take (i := 10) (oi := _) (v := (.pointer (some ⟨b, off + k * 2, none⟩))) rfl (by kernel_rfl) (by kernel_rfl) (by kernel_rfl) (fun _ _ _ h => h) (Or.inl ⟨by rfl, fun w hSw => by go_simp⟩) hHeld ?_
          simp [Act.put]
          refine wpAnyH_take (i := 11) (oi := _) (v := (.pointer (some ⟨b, off + k * 2 + 1, none⟩))) rfl (by kernel_rfl) (by kernel_rfl) (by kernel_rfl) (fun _ _ _ h => h) (Or.inl ⟨by rfl, fun w hSw => by go_simp⟩) hHeld ?_
          simp [Act.put]
          refine wpAnyH_take (i := 12) (oi := _) (v := .int .i64 xi) rfl (by kernel_rfl) (by kernel_rfl) (by kernel_rfl) (fun _ _ _ h => h) (yl_loadC (by kernel_rfl) 3 (.tmp 41) rfl (b) (off + k * 2 + 1) rfl (.int .i64 xi) (fun w hSw => (unhide HCG _ hSw.K.1).2) Try.underlying3 rfl) hHeld ?_
          simp [Act.put]
          refine wpAnyH_ready (rs := [13, 17]) (by kernel_rfl) (by simp) ?_
          refine (AllReadyH.cons rfl (fun kQ hkQ => ?_) (AllReadyH.cons rfl (fun kQ hkQ => ?_) AllReadyH.nil))
          · skip
            have hws := hS.bel.size
            go_simp
            refine (rack_u ys yr yt ya yn yc yl xg xi _ hS.K.2 hyn2).mono ?_
            rintro e w62 ⟨hU, hb1⟩
            rw [unhide HA] at hU; obtain ⟨pa, pc, rfl, hsb, hbk⟩ := hU
            have hpb : ∀ x, pa = some x → w.heap.size ≤ x.block := fun x hx => Nat.le_trans hws (hbk x hx)
            replace hS := hS.keepS hb1 hsb hbk
            clear hsb hbk hws
            clear hHeld hb1
            refine hkQ.out _ _ ((hS.sub ((((List.Sublist.slnil).cons_cons _).cons_cons _).cons_cons _)).weak (fun _ h => h.1)) (fun hHeld => ?_)
            clear hkQ kQ
            refine wpAnyH_take (i := 14) (oi := _) (v := .tuple #[aV (rC (⟨A.s, A.r, (.slice pa A.n pc), A.t⟩ : Rfd)), .int .i64 A.e]) rfl (by kernel_rfl) (by kernel_rfl) (by kernel_rfl) (fun _ _ _ h => h) (Or.inl ⟨by rfl, fun w hSw => by go_simp⟩) hHeld ?_
            simp [Act.put]
            refine wpAnyH_take (i := 15) (oi := _) (v := aV (rC (⟨A.s, A.r, (.slice pa A.n pc), A.t⟩ : Rfd))) rfl (by kernel_rfl) (by kernel_rfl) (by kernel_rfl) (fun _ _ _ h => h) (Or.inl ⟨by rfl, fun w hSw => by go_simp⟩) hHeld ?_
            simp [Act.put]
            refine wpAnyH_take (i := 16) (oi := _) (v := .int .i64 A.e) rfl (by kernel_rfl) (by kernel_rfl) (by kernel_rfl) (fun _ _ _ h => h) (Or.inl ⟨by rfl, fun w hSw => by go_simp⟩) hHeld ?_
            simp [Act.put]
            refine wpAnyH_ready (rs := [17]) (by kernel_rfl) (by simp) ?_
            refine (AllReadyH.cons rfl (fun kQ hkQ => ?_) AllReadyH.nil)
            refine dw (by kernel_rfl) (op_alloc' 27 rfl (rC (⟨0, 0, (.slice none 0 0), 0⟩ : Rfd)) Try.inR hS ?_)
            clear hS hHeld
            intro g63 w63 hS
            refine hkQ.out _ _ ((hS.sub (((((List.Sublist.slnil).cons_cons _).cons_cons _).cons_cons _).cons _)).weak (fun _ h => h.1)) (fun hHeld => ?_)
            clear hkQ kQ
            simp [Act.put]
            refine wpAnyH_ready (rs := [18]) (by kernel_rfl) (by simp) ?_
            refine (AllReadyH.cons rfl (fun kQ hkQ => ?_) AllReadyH.nil)
            refine dw (by kernel_rfl) (op_store 27 (.tmp 7) (.tmp 44) rfl 0 rfl 0 rfl (rC (⟨A.s, A.r, (.slice pa A.n pc), A.t⟩ : Rfd)) (rC (⟨A.s, A.r, (.slice pa A.n pc), A.t⟩ : Rfd)) (pt_r (⟨0, 0, (.slice none 0 0), 0⟩ : Rfd) (⟨A.s, A.r, (.slice pa A.n pc), A.t⟩ : Rfd)) rfl (szR _) (one_r _ _ _ _ _ _) hS ?_)
            clear hS hHeld
            intro w64 hS
            change Hs17 w [(g63, 27, (rC (⟨A.s, A.r, (.slice pa A.n pc), A.t⟩ : Rfd))), (g4, 27, (rC (⟨ys, yr, (.slice ya yn yc), yt⟩ : Rfd))), (g2, 27, (rC (⟨0, 0, (.slice none 0 0), 0⟩ : Rfd))), (g1, 61, (tC (⟨sa, sb, jn, ss, sr, sg, (.slice (some ⟨b, off, none⟩) on oc)⟩ : Stp)))] _ w64 at hS
            refine hkQ.out _ _ ((hS.sub (((((List.Sublist.slnil).cons_cons _).cons_cons _).cons_cons _).cons _)).weak (fun _ h => h.1)) (fun hHeld => ?_)
            clear hkQ kQ
            simp [Act.put]
            refine wpAnyH_take (i := 19) (oi := _) (v := .int .i64 A.e) rfl (by kernel_rfl) (by kernel_rfl) (by kernel_rfl) (fun _ _ _ h => h) (Or.inl ⟨by rfl, fun w hSw => by go_simp⟩) hHeld ?_
            simp [Act.put]
            refine wpAnyH_done (by kernel_rfl) ?_ _
            unfold NoPanic
            clear hHeld
            go_wp2
            go_meet
            case rel => exact ⟨_, pa, pc, rfl, rfl, hpb, hS⟩
          · skip
            refine dw (by kernel_rfl) (op_alloc' 27 rfl (rC (⟨0, 0, (.slice none 0 0), 0⟩ : Rfd)) Try.inR hS ?_)
            clear hS hHeld
            intro g65 w65 hS
            refine hkQ.out _ _ (hS.sub (((((List.Sublist.slnil).cons_cons _).cons_cons _).cons_cons _).cons _)) (fun hHeld => ?_)
            clear hkQ kQ
            simp [Act.put]
            refine wpAnyH_ready (rs := [13]) (by kernel_rfl) (by simp) ?_
            refine (AllReadyH.cons rfl (fun kQ hkQ => ?_) AllReadyH.nil)
            have hws := hS.bel.size
            go_simp
            refine (rack_u ys yr yt ya yn yc yl xg xi _ hS.K.2 hyn2).mono ?_
            rintro e w66 ⟨hU, hb1⟩
            rw [unhide HA] at hU; obtain ⟨pa, pc, rfl, hsb, hbk⟩ := hU
            have hpb : ∀ x, pa = some x → w.heap.size ≤ x.block := fun x hx => Nat.le_trans hws (hbk x hx)
            replace hS := hS.keepS hb1 hsb hbk
            clear hsb hbk hws
            clear hHeld hb1
            refine hkQ.out _ _ ((hS.sub (((((List.Sublist.slnil).cons_cons _).cons_cons _).cons_cons _).cons _)).weak (fun _ h => h.1)) (fun hHeld => ?_)
            clear hkQ kQ
            refine wpAnyH_take (i := 14) (oi := _) (v := .tuple #[aV (rC (⟨A.s, A.r, (.slice pa A.n pc), A.t⟩ : Rfd)), .int .i64 A.e]) rfl (by kernel_rfl) (by kernel_rfl) (by kernel_rfl) (fun _ _ _ h => h) (Or.inl ⟨by rfl, fun w hSw => by go_simp⟩) hHeld ?_
            simp [Act.put]
            refine wpAnyH_take (i := 15) (oi := _) (v := aV (rC (⟨A.s, A.r, (.slice pa A.n pc), A.t⟩ : Rfd))) rfl (by kernel_rfl) (by kernel_rfl) (by kernel_rfl) (fun _ _ _ h => h) (Or.inl ⟨by rfl, fun w hSw => by go_simp⟩) hHeld ?_
            simp [Act.put]
            refine wpAnyH_take (i := 16) (oi := _) (v := .int .i64 A.e) rfl (by kernel_rfl) (by kernel_rfl) (by kernel_rfl) (fun _ _ _ h => h) (Or.inl ⟨by rfl, fun w hSw => by go_simp⟩) hHeld ?_
            simp [Act.put]
            refine wpAnyH_ready (rs := [18]) (by kernel_rfl) (by simp) ?_
            refine (AllReadyH.cons rfl (fun kQ hkQ => ?_) AllReadyH.nil)
            refine dw (by kernel_rfl) (op_store 27 (.tmp 7) (.tmp 44) rfl 0 rfl 0 rfl (rC (⟨A.s, A.r, (.slice pa A.n pc), A.t⟩ : Rfd)) (rC (⟨A.s, A.r, (.slice pa A.n pc), A.t⟩ : Rfd)) (pt_r (⟨0, 0, (.slice none 0 0), 0⟩ : Rfd) (⟨A.s, A.r, (.slice pa A.n pc), A.t⟩ : Rfd)) rfl (szR _) (one_r _ _ _ _ _ _) hS ?_)
            clear hS hHeld
            intro w67 hS
            change Hs17 w [(g65, 27, (rC (⟨A.s, A.r, (.slice pa A.n pc), A.t⟩ : Rfd))), (g4, 27, (rC (⟨ys, yr, (.slice ya yn yc), yt⟩ : Rfd))), (g2, 27, (rC (⟨0, 0, (.slice none 0 0), 0⟩ : Rfd))), (g1, 61, (tC (⟨sa, sb, jn, ss, sr, sg, (.slice (some ⟨b, off, none⟩) on oc)⟩ : Stp)))] _ w67 at hS
            refine hkQ.out _ _ ((hS.sub (((((List.Sublist.slnil).cons_cons _).cons_cons _).cons_cons _).cons _)).weak (fun _ h => h.1)) (fun hHeld => ?_)
            clear hkQ kQ
            simp [Act.put]
            refine wpAnyH_take (i := 19) (oi := _) (v := .int .i64 A.e) rfl (by kernel_rfl) (by kernel_rfl) (by kernel_rfl) (fun _ _ _ h => h) (Or.inl ⟨by rfl, fun w hSw => by go_simp⟩) hHeld ?_
            simp [Act.put]
            refine wpAnyH_done (by kernel_rfl) ?_ _
            unfold NoPanic
            clear hHeld
            go_wp2
            go_meet
            case rel => exact ⟨_, pa, pc, rfl, rfl, hpb, hS⟩
        case rest =>
          obtain ⟨gz, pa, pc, rfl, rfl, hpb, hS⟩ := hcut
          rcases unhide HAE with hAe | hAe
          · rw [hAe]
            have HAe := hide hAe
            clear hAe
            go_upto_region 7 with fail
            refine wp_region_lit ?_
            refine wl_load (by kernel_rfl) 27 (.tmp 7) rfl 0 rfl 0 rfl (rC (⟨A.s, A.r, (.slice pa A.n pc), A.t⟩ : Rfd)) (At.self _) Try.underlying27 rfl (szR _) hS ?_
            simp [Act.put]
            refine wl_store (by kernel_rfl) 27 (.tmp 4) (.tmp 48) rfl 1 rfl 0 rfl (rC (⟨A.s, A.r, (.slice pa A.n pc), A.t⟩ : Rfd)) (rC (⟨A.s, A.r, (.slice pa A.n pc), A.t⟩ : Rfd)) (pt_r (⟨ys, yr, (.slice ya yn yc), yt⟩ : Rfd) (⟨A.s, A.r, (.slice pa A.n pc), A.t⟩ : Rfd)) rfl (szR _) (one_r _ _ _ _ _ _) hS ?_
            clear hS
            intro w101 hS
            change Hs17 w [(gz, 27, (rC (⟨A.s, A.r, (.slice pa A.n pc), A.t⟩ : Rfd))), (g4, 27, (rC (⟨A.s, A.r, (.slice pa A.n pc), A.t⟩ : Rfd))), (g2, 27, (rC (⟨0, 0, (.slice none 0 0), 0⟩ : Rfd))), (g1, 61, (tC (⟨sa, sb, jn, ss, sr, sg, (.slice (some ⟨b, off, none⟩) on oc)⟩ : Stp)))] _ w101 at hS
            simp [Act.put]
            refine wpList_nil ?_
            go_wp2
            go_roundw
            case rel => exact ⟨k + 1, A.s, A.r, A.t, pa, A.n, pc, A.l, by omega, hAn, hpb, by go_num, (hS.sub (((((List.Sublist.slnil).cons_cons _).cons_cons _).cons_cons _).cons _)).weak (fun w h => ⟨h.1.1, h.2⟩)⟩
            case measure => simp [intOf]; omega
          · rw [hAe]
            have HAe := hide hAe
            clear hAe
            go_wp2
            go_roundw
            case rel => exact ⟨k + 1, ys, yr, yt, ya, yn, yc, yl, by omega, hyn, hyb, by go_num, (hS.sub (((((List.Sublist.slnil).cons_cons _).cons_cons _).cons_cons _).cons _)).weak (fun w h => h.1)⟩
            case measure => simp [intOf]; omega
      · have hkz : ¬ (k : Int) < (on : Int) := by omega
        go_upto_region 8 with fail
        clear c6
        refine wp_region_lit ?_
        refine wl_load (by kernel_rfl) 27 (.tmp 4) rfl 0 rfl 0 rfl (rC (⟨ys, yr, (.slice ya yn yc), yt⟩ : Rfd)) (At.self _) Try.underlying27 rfl (szR _) hS ?_
        simp [Act.put]
        refine wl (by kernel_rfl) fun kQ hkQ => ?_
        go_simp
        refine hkQ _ _ ?_
        clear hkQ kQ
        refine wl_store (by kernel_rfl) 27 (.tmp 2) (.tmp 49) rfl 1 rfl 0 rfl (rC (⟨ys, yr, (.slice ya yn yc), yt⟩ : Rfd)) (rC (⟨ys, yr, (.slice ya yn yc), yt⟩ : Rfd)) (pt_r (⟨0, 0, (.slice none 0 0), 0⟩ : Rfd) (⟨ys, yr, (.slice ya yn yc), yt⟩ : Rfd)) rfl (szR _) (one_r _ _ _ _ _ _) hS ?_
        clear hS
        intro w81 hS
        change Hs17 w [(g4, 27, (rC (⟨ys, yr, (.slice ya yn yc), yt⟩ : Rfd))), (g2, 27, (rC (⟨ys, yr, (.slice ya yn yc), yt⟩ : Rfd))), (g1, 61, (tC (⟨sa, sb, jn, ss, sr, sg, (.slice oa on oc)⟩ : Stp)))] _ w81 at hS
        simp [Act.put]
        refine wl (by kernel_rfl) fun kQ hkQ => ?_
        go_simp
        refine hkQ _ _ ?_
        clear hkQ kQ
        refine wpList_nil ?_
        go_wp2_with fail
        refine bodyPost_ret (res_ct rfl hS 1 rfl rfl Try.underlying27 rfl (szR _) _ rfl) rfl ?_
        exact ⟨⟨true, ys, yr, yt, ya, yn, yc, yl, hyn, rfl, hS.K.2, hyb⟩, hS.bel⟩
end Go.Proofs.Ytjedgkcpkieaeaa
