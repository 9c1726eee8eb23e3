import Derived.Test.YtjedgkcpkieaeaaHdW
import Derived.Deep.DeepCutAuto
import Derived.Deep.QuietTactic
import Derived.BigQuiet
set_option linter.unusedSimpArgs false
set_option linter.unusedVariables false
namespace Go.Proofs.Ytjedgkcpkieaeaa
open Go.RowKit

theorem pt_bs {l : List Bool} {k : Nat} (hk : k < l.length) (q : Bool) (sp : List Value) : Pt (l.flatMap bC ++ sp) k [.bool q] ((l.set k q).flatMap bC ++ sp) := by
  have := pt_flat (f := bC) (sz := 1) (fun y _ => bC_len y) hk (x := q) rfl sp
  rw [Nat.mul_one] at this; exact this
theorem at_bs {l : List Bool} {k : Nat} {q : Bool} (hk : k < l.length) (hq : l.getD k false = q) (sp : List Value) : At (l.flatMap bC ++ sp) k [.bool q] := by
  have := (pt_bs hk q sp).at_
  have e : l.set k q = l := by
    subst hq
    apply List.ext_getElem
    · simp
    · intro i h1 h2
      rw [List.getElem_set]; split
      · rename_i e; subst e; simp [hk]
      · rfl
  rw [e] at this; exact this
/-- the first k turned -/
def flK (l : List Bool) (k : Nat) : List Bool := (l.take k).map (!·) ++ l.drop k
theorem flK_zero (l : List Bool) : flK l 0 = l := by simp [flK]
theorem flK_len (l : List Bool) (k : Nat) : (flK l k).length = l.length := by simp [flK]; omega
theorem flK_all (l : List Bool) : flK l l.length = l.map (!·) := by simp [flK]
theorem flK_at {l : List Bool} {k : Nat} (hk : k < l.length) : (flK l k).getD k false = l.getD k false := by
  simp only [flK, List.getD_eq_getElem?_getD]
  rw [List.getElem?_append_right (by simp; omega)]
  simp [Nat.min_eq_left (Nat.le_of_lt hk)]
theorem flK_set {l : List Bool} {k : Nat} (hk : k < l.length) {q : Bool} (hq : l.getD k false = q) : (flK l k).set k (!q) = flK l (k + 1) := by
  have hd : l.drop k = l[k] :: l.drop (k + 1) := List.drop_eq_getElem_cons hk
  have e : l[k] = q := by simpa [hk] using hq
  have hlen : ((l.take k).map (!·)).length = k := by simp; omega
  unfold flK
  rw [List.set_append_right _ _ (by omega), hlen, Nat.sub_self, hd, List.set_cons_zero, List.take_succ_eq_append_getElem hk, List.map_append, e]
  simp
set_option maxHeartbeats 2000000 in
set_option maxRecDepth 100000 in
theorem whole_t (w0 : World) (rows : List Row) (K : World → Prop) (s r t : Int) (xa : Option Addr) (n xc : Nat) (l : List Bool) (g N cap : Nat) (sp : List Value) (w : World) (hS : Hs17 w0 ((g, 4, (l ++ mkL 64).flatMap bC ++ sp) :: rows) K w) (hx : ∀ w', K w' → Sb w' ⟨xa, n, xc, l⟩) (hl : l.length = n) (hN : N = n + 64) (hn : n ≤ 1048576) :
    Calls Try.prog 26 #[.slice (some ⟨g, 0, none⟩) N cap, aV (rC ⟨s, r, .slice xa n xc, t⟩)] w fun e w' => e = .returned (.bool true) ∧ Hs17 w0 ((g, 4, ((l ++ mkL 64).map (!·)).flatMap bC ++ sp) :: rows) K w' := by
  obtain ⟨L, hL⟩ : ∃ L, l ++ mkL 64 = L := ⟨_, rfl⟩
  have hLl : L.length = N := by rw [← hL, List.length_append, mkL_len, hl, hN]
  rw [hL] at hS ⊢
  have HL := hide hL
  have HLL := hide hLl
  have HN := hide hN
  have hN2 : N ≤ 1048640 := by omega
  clear hL hLl hN hl
  go_enter Try.func26, Try.ntmps26
  go_upto_region 0 with fail
  refine wp_region_lit ?_
  refine wl_box (by kernel_rfl) 27 (.tmp 1) rfl (rC (⟨s, r, (.slice xa n xc), t⟩ : Rfd)) rfl hS ?_
  clear hS
  intro g1 w1 hS
  simp [Act.put]
  refine wl (by kernel_rfl) fun kQ hkQ => ?_
  go_simp
  refine hkQ _ _ ?_
  clear hkQ kQ
  refine wpList_nil ?_
  go_upto_region 1 with fail
  refine wp_region_lit ?_
  refine wl_load (by kernel_rfl) 27 (.tmp 3) rfl 0 rfl 0 rfl (rC (⟨s, r, (.slice xa n xc), t⟩ : Rfd)) (At.self _) Try.underlying27 rfl (szR _) hS ?_
  simp [Act.put]
  refine wl (by kernel_rfl) fun kQ hkQ => ?_
  go_simp
  refine (handed_any s r t xa n xc l _ (hx _ hS.K) hn).mono ?_
  rintro e w2 ⟨gm, capm, rfl, ⟨hg9, -, -, -, spm, hA9⟩, hb1⟩
  rw [unhide HL] at hA9; replace hS := hS.newRow hb1 hg9 hA9
  refine hkQ _ _ ?_
  clear hkQ kQ hb1
  rw [← unhide HN]
  clear hg9 hA9
  refine wl (by kernel_rfl) fun kQ hkQ => ?_
  go_simp
  refine hkQ _ _ ?_
  clear hkQ kQ
  refine wl (by kernel_rfl) fun kQ hkQ => ?_
  go_simp
  refine hkQ _ _ ?_
  clear hkQ kQ
  refine wl (by kernel_rfl) fun kQ hkQ => ?_
  go_simp
  refine hkQ _ _ ?_
  clear hkQ kQ
  refine wl_alloc (by kernel_rfl) 27 rfl (rC (⟨0, 0, (.slice none 0 0), 0⟩ : Rfd)) Try.inR hS ?_
  clear hS
  intro g3 w3 hS
  simp [Act.put]
  refine wl_store (by kernel_rfl) 27 (.tmp 5) (.tmp 13) rfl 0 rfl 0 rfl (rC (⟨s, r, (.slice (some ⟨gm, 0, none⟩) n capm), t⟩ : Rfd)) (rC (⟨s, r, (.slice (some ⟨gm, 0, none⟩) n capm), t⟩ : Rfd)) (pt_r (⟨0, 0, (.slice none 0 0), 0⟩ : Rfd) (⟨s, r, (.slice (some ⟨gm, 0, none⟩) n capm), t⟩ : Rfd)) rfl (szR _) (one_r _ _ _ _ _ _) hS ?_
  clear hS
  intro w4 hS
  change Hs17 w0 ((g3, 27, (rC (⟨s, r, (.slice (some ⟨gm, 0, none⟩) n capm), t⟩ : Rfd))) :: (gm, 4, (L.flatMap bC ++ spm)) :: (g1, 27, (rC (⟨s, r, (.slice xa n xc), t⟩ : Rfd))) :: (g, 4, (L.flatMap bC ++ sp)) :: rows) K w4 at hS
  simp [Act.put]
  refine wl (by kernel_rfl) fun kQ hkQ => ?_
  go_simp
  refine hkQ _ _ ?_
  clear hkQ kQ
  refine wpList_nil ?_
  go_upto_region 2 with fail
  refine wp_region_lit ?_
  refine wl (by kernel_rfl) fun kQ hkQ => ?_
  go_simp
  refine hkQ _ _ ?_
  clear hkQ kQ
  refine wl (by kernel_rfl) fun kQ hkQ => ?_
  go_simp
  refine hkQ _ _ ?_
  clear hkQ kQ
  refine wl (by kernel_rfl) fun kQ hkQ => ?_
  go_simp
  refine hkQ _ _ ?_
  clear hkQ kQ
  refine wl (by kernel_rfl) fun kQ hkQ => ?_
  go_simp
  refine hkQ _ _ ?_
  clear hkQ kQ
  refine wl (by kernel_rfl) fun kQ hkQ => ?_
  go_simp
  refine hkQ _ _ ?_
  clear hkQ kQ
  refine wl (by kernel_rfl) fun kQ hkQ => ?_
  go_simp
  refine hkQ _ _ ?_
  clear hkQ kQ
  refine wpList_nil ?_
  go_wp2_with fail
  go_loopw [7, 8] (fun vo vi wr => ∃ k : Nat, k ≤ N ∧ vo = .bool true ∧ vi = .int .i64 k ∧ Hs17 w0 ((g3, 27, (rC (⟨s, r, (.slice (some ⟨gm, 0, none⟩) n capm), t⟩ : Rfd))) :: (gm, 4, (L.flatMap bC ++ spm)) :: (g1, 27, (rC (⟨s, r, (.slice xa n xc), t⟩ : Rfd))) :: (g, 4, (L.flatMap bC ++ sp)) :: rows) K wr) (fun _ vi _ => N - (intOf vi).toNat)
  case atStart => exact ⟨0, by omega, by simp, rfl, hS⟩
  case round =>
    clear hS
    obtain ⟨k, hk, rfl, rfl, hS⟩ := hrel
    by_cases hlt : k < N
    · have hkz : (k : Int) < (N : Int) := by omega
      obtain ⟨q, hqe⟩ : ∃ q, L.getD k false = q := ⟨_, rfl⟩
      have HQ := hide hqe
      clear hqe
      go_upto_region 6 with fail
      refine wp_region_noPanic ?_
      replace hS := hS.drew
      refine wp_region_held_drew (S := Hs17 w0 [(g3, 27, (rC (⟨s, r, (.slice (some ⟨gm, 0, none⟩) n capm), t⟩ : Rfd))), (gm, 4, (L.flatMap bC ++ spm)), (g1, 27, (rC (⟨s, r, (.slice xa n xc), t⟩ : Rfd))), (g, 4, (L.flatMap bC ++ sp))] K) (by kernel_rfl) (hS.sub ((((((List.nil_sublist rows)).cons_cons _).cons_cons _).cons_cons _).cons_cons _)) (fun hHeld => ?_)
      generalize World.drew _ = w41 at hS hHeld ⊢
      refine wpAnyH_take (i := 0) (oi := _) (v := (.slice (some ⟨g, 0, none⟩) N cap)) rfl (by kernel_rfl) (by kernel_rfl) (by kernel_rfl) (fun _ _ _ h => h) (Or.inl ⟨by rfl, fun w hSw => by go_simp⟩) hHeld ?_
      simp [Act.put]
      refine wpAnyH_take (i := 1) (oi := _) (v := .int .i64 (k : Int)) rfl (by kernel_rfl) (by kernel_rfl) (by kernel_rfl) (fun _ _ _ h => h) (Or.inl ⟨by rfl, fun w hSw => by go_simp⟩) hHeld ?_
      simp [Act.put]
      refine wpAnyH_take (i := 2) (oi := _) (v := (.pointer (some ⟨g, k, none⟩))) rfl (by kernel_rfl) (by kernel_rfl) (by kernel_rfl) (fun _ _ _ h => h) (Or.inl ⟨by rfl, fun w hSw => by go_simp⟩) hHeld ?_
      simp [Act.put]
      refine wpAnyH_take (i := 3) (oi := _) (v := .bool q) rfl (by kernel_rfl) (by kernel_rfl) (by kernel_rfl) (fun _ _ _ h => h) (yl_load1 (by kernel_rfl) 4 (.tmp 31) rfl 3 rfl (k) rfl (.bool q) (at_bs (by rw [unhide HLL]; exact hlt) (unhide HQ) sp) Try.underlying4 rfl) hHeld ?_
      simp [Act.put]
      refine wpAnyH_take (i := 4) (oi := _) (v := (.slice (some ⟨gm, 0, none⟩) N capm)) rfl (by kernel_rfl) (by kernel_rfl) (by kernel_rfl) (fun _ _ _ h => h) (Or.inl ⟨by rfl, fun w hSw => by go_simp⟩) hHeld ?_
      simp [Act.put]
      refine wpAnyH_take (i := 5) (oi := _) (v := .int .i64 (k : Int)) rfl (by kernel_rfl) (by kernel_rfl) (by kernel_rfl) (fun _ _ _ h => h) (Or.inl ⟨by rfl, fun w hSw => by go_simp⟩) hHeld ?_
      simp [Act.put]
      refine wpAnyH_take (i := 6) (oi := _) (v := (.pointer (some ⟨gm, k, none⟩))) rfl (by kernel_rfl) (by kernel_rfl) (by kernel_rfl) (fun _ _ _ h => h) (Or.inl ⟨by rfl, fun w hSw => by go_simp⟩) hHeld ?_
      simp [Act.put]
      refine wpAnyH_take (i := 7) (oi := _) (v := .bool q) rfl (by kernel_rfl) (by kernel_rfl) (by kernel_rfl) (fun _ _ _ h => h) (yl_load1 (by kernel_rfl) 4 (.tmp 35) rfl 1 rfl (k) rfl (.bool q) (at_bs (by rw [unhide HLL]; exact hlt) (unhide HQ) spm) Try.underlying4 rfl) hHeld ?_
      simp [Act.put]
      refine wpAnyH_take (i := 8) (oi := _) (v := .bool true) rfl (by kernel_rfl) (by kernel_rfl) (by kernel_rfl) (fun _ _ _ h => h) (Or.inl ⟨by rfl, fun w hSw => by go_simp⟩) hHeld ?_
      simp [Act.put]
      refine wpAnyH_take (i := 9) (oi := _) (v := .bool true) rfl (by kernel_rfl) (by kernel_rfl) (by kernel_rfl) (fun _ _ _ h => h) (Or.inl ⟨by rfl, fun w hSw => by go_simp⟩) hHeld ?_
      simp [Act.put]
      refine wpAnyH_done (by kernel_rfl) ?_ _
      unfold NoPanic
      clear hHeld
      go_wp2
      go_roundw
      case rel => exact ⟨k + 1, by omega, rfl, by go_num, hS⟩
      case measure => simp [intOf]; omega
    · have hkz : ¬ (k : Int) < (N : Int) := by omega
      go_wp2_with fail
      go_loopw [9] (fun vi wr => ∃ k : Nat, k ≤ N ∧ vi = .int .i64 k ∧ Hs17 w0 ((g3, 27, (rC (⟨s, r, (.slice (some ⟨gm, 0, none⟩) n capm), t⟩ : Rfd))) :: (gm, 4, (L.flatMap bC ++ spm)) :: (g1, 27, (rC (⟨s, r, (.slice xa n xc), t⟩ : Rfd))) :: (g, 4, ((flK L k).flatMap bC ++ sp)) :: rows) K wr) (fun vi _ => N - (intOf vi).toNat)
      case atStart => exact ⟨0, by omega, rfl, by rw [flK_zero]; exact hS⟩
      case round =>
        clear hS
        obtain ⟨k, hk, rfl, hS⟩ := hrel
        by_cases hlt : k < N
        · have hkz : (k : Int) < (N : Int) := by omega
          obtain ⟨q, hqe⟩ : ∃ q, L.getD k false = q := ⟨_, rfl⟩
          have HQ := hide hqe
          clear hqe
          go_upto_region 10 with fail
          refine wp_region_lit ?_
          refine wl (by kernel_rfl) fun kQ hkQ => ?_
          go_simp
          refine hkQ _ _ ?_
          clear hkQ kQ
          refine wl (by kernel_rfl) fun kQ hkQ => ?_
          go_simp
          refine hkQ _ _ ?_
          clear hkQ kQ
          refine wl (by kernel_rfl) fun kQ hkQ => ?_
          go_simp
          refine hkQ _ _ ?_
          clear hkQ kQ
          refine wl (by kernel_rfl) fun kQ hkQ => ?_
          go_simp
          refine hkQ _ _ ?_
          clear hkQ kQ
          refine wl (by kernel_rfl) fun kQ hkQ => ?_
          go_simp
          refine hkQ _ _ ?_
          clear hkQ kQ
          refine wl_load1 (by kernel_rfl) 4 (.tmp 48) rfl 3 rfl k rfl (.bool q) (at_bs (by rw [flK_len, unhide HLL]; exact hlt) ((flK_at (by rw [unhide HLL]; exact hlt)).trans (unhide HQ)) sp) Try.underlying4 rfl hS ?_
          simp [Act.put]
          refine wl (by kernel_rfl) fun kQ hkQ => ?_
          go_simp
          refine hkQ _ _ ?_
          clear hkQ kQ
          refine wl (by kernel_rfl) fun kQ hkQ => ?_
          go_simp
          refine hkQ _ _ ?_
          clear hkQ kQ
          refine wl_store (by kernel_rfl) 4 (.tmp 51) (.tmp 50) rfl 3 rfl k rfl [.bool (!q)] (((flK L k).set k (!q)).flatMap bC ++ sp) (pt_bs (by rw [flK_len, unhide HLL]; exact hlt) (!q) sp) rfl Try.in1b (one_one rfl) hS ?_
          clear hS
          intro w81 hS
          rw [flK_set (by rw [unhide HLL]; exact hlt) (unhide HQ)] at hS
          simp [Act.put]
          refine wpList_nil ?_
          go_wp2
          go_roundw
          case rel => exact ⟨k + 1, by omega, by go_num, hS⟩
          case measure => simp [intOf]; omega
        · obtain rfl : N = k := by omega
          have hkz : ¬ (N : Int) < (N : Int) := by omega
          have e : flK L N = L.map (!·) := by rw [← unhide HLL]; exact flK_all L
          rw [e] at hS
          clear e
          go_wp2_with fail
          go_ret
          exact ⟨rfl, hS.sub ((((((List.Sublist.refl rows)).cons_cons _).cons _).cons _).cons _)⟩
end Go.Proofs.Ytjedgkcpkieaeaa
