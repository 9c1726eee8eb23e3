import Derived.Test.YteijlppmgkdieaaDoorQGaH
import Derived.Deep.DeepCutAuto
import Derived.Deep.QuietTactic
import Derived.BigQuiet
set_option linter.unusedSimpArgs false
set_option linter.unusedVariables false
namespace Go.Proofs.YteijlppmgkdieaaDoor
open Go.RowKit

theorem perm_p {α : Type} (s : α) (rest X RP RC : List α) : (((s :: (rest ++ X)) ++ RP) ++ RC).Perm (s :: ((RP ++ (RC ++ rest)) ++ X)) := by
  have e1 : ((s :: (rest ++ X)) ++ RP) ++ RC = s :: ((rest ++ X) ++ (RP ++ RC)) := by simp [List.append_assoc]
  have e2 : s :: ((RP ++ (RC ++ rest)) ++ X) = s :: ((RP ++ RC) ++ (rest ++ X)) := by simp [List.append_assoc]
  rw [e1, e2]
  exact List.Perm.cons _ List.perm_append_comm
/-- what proves leaves -/
def PrE (w0 : World) (gS N : Nat) (rest : List Row) (K : World → Prop) (e : Ending) (w' : World) : Prop :=
  e = .returned (.bool true) ∧ ∃ its L W RL RW, its.length = N ∧ ShS w0 gS its rest K L W RL RW w'
set_option maxHeartbeats 4000000 in
set_option maxRecDepth 100000 in
theorem provesH_any (w0 : World) (gS : Nat) (its : List It) (rest : List Row) (K : World → Prop) (L W : Sx (Sx (List Int))) (RL RW : List Row) (la : Option Addr) (ln lc : Nat) (oa : Option Addr) (oc : Nat) (ls : List (List Int)) (dv pv : Value) (i n : Int) (x y z : List Int) (hx : Hs x) (hy : Hs y) (hz : Hs z) (w : World) (hSh : ShS w0 gS its rest K L W RL RW w)
    (hLd : ∀ w', K w' → Ld w') (hl : ∀ (rows : List Row) (K' : World → Prop) (w' : World), (∀ r ∈ rest, r ∈ rows) → Hs17 w0 rows K' w' → Hl.Ok w' ⟨la, ln, lc, ls⟩) (ho : ∀ w', K w' → Hl.Ok w' ⟨oa, ln, oc, ls⟩) (hn : ln ≤ 200) (hN : its.length ≤ 3900000000000) :
    Calls Tryd.prog 15 #[.pointer (some ⟨gS, 0, none⟩), .slice la ln lc, aV (ocC dv (.slice oa ln oc) i n x y z pv)] w fun e w' => PrE w0 gS (its.length + 2) rest K e w' := by
  obtain ⟨hLt, hWt, hS, hok⟩ := hSh
  have HLt := hide hLt
  have HWt := hide hWt
  have HOK := hide hok
  have HN := hide hN
  obtain ⟨La, Ln, Lc, Lx⟩ := L
  obtain ⟨Wa, Wn, Wc, Wx⟩ := W
  simp only [Sx.v] at *
  have hlen : ls.length = ln := (ho _ hS.K.1).len
  have hhs : ∀ l ∈ ls, Hs l := (ho _ hS.K.1).hs
  have hrs : Hs (rootZ16 ls) := mroot_hs ls hhs
  have hR1 : ∀ (rows : List Row) (K' : World → Prop) (w' : World), (∀ r ∈ rest, r ∈ rows) → Hs17 w0 rows K' w' → Ld w' → Calls Tryd.prog 21 #[.slice la ln lc] w' fun e w'' => e = .returned (.tuple #[aV (U8 (rootZ16 ls)), .bool true]) ∧ Below w'.heap.size w' w'' := fun rows K' w' h1 h2 h3 => root_ok ⟨la, ln, lc, ls⟩ w' (hl rows K' w' h1 h2) h3 (by show ln ≤ 65536; omega)
  have hR2 : ∀ w', K w' → Calls Tryd.prog 22 #[.slice oa ln oc] w' fun e w'' => e = .returned (.tuple #[aV (U8 (rootZ16 ls)), .bool true]) ∧ Below w'.heap.size w' w'' := fun w' h => rRoot_ok ⟨oa, ln, oc, ls⟩ w' (ho w' h) (by show ln ≤ 65536; omega)
  have hI1 : ∀ (rows : List Row) (K' : World → Prop) (w' : World), (∀ r ∈ rest, r ∈ rows) → Hs17 w0 rows K' w' → Ld w' → Calls Tryd.prog 28 #[.slice la ln lc, .int .i64 i] w' fun e w'' => AnH (inT i ls.length) (incL i ls) w' e w'' := fun rows K' w' h1 h2 h3 => incl_u ⟨la, ln, lc, ls⟩ i w' (hl rows K' w' h1 h2) h3 (by show ln ≤ 65536; omega)
  have hI2 : ∀ w', K w' → Calls Tryd.prog 29 #[.slice oa ln oc, .int .i64 i] w' fun e w'' => AnH (inT i ls.length) (incL i ls) w' e w'' := fun w' h => rincl_u ⟨oa, ln, oc, ls⟩ i w' (ho w' h) (by show ln ≤ 65536; omega)
  have hC1 : ∀ (rows : List Row) (K' : World → Prop) (w' : World), (∀ r ∈ rest, r ∈ rows) → Hs17 w0 rows K' w' → Ld w' → Calls Tryd.prog 30 #[.slice la ln lc, .int .i64 i] w' fun e w'' => AnH (isBg i ls.length) (conL i ls) w' e w'' := fun rows K' w' h1 h2 h3 => cons_u ⟨la, ln, lc, ls⟩ i w' (hl rows K' w' h1 h2) h3 (by show ln ≤ 65536; omega)
  have hC2 : ∀ w', K w' → Calls Tryd.prog 31 #[.slice oa ln oc, .int .i64 i] w' fun e w'' => AnH (isBg i ls.length) (conL i ls) w' e w'' := fun w' h => rcons_u ⟨oa, ln, oc, ls⟩ i w' (ho w' h) (by show ln ≤ 65536; omega)
  have HZ : Hid ((incL i ls).length ≤ 100000 ∧ (conL i ls).length ≤ 100000) := hide (by have h1 := incL_le i ls; have h2 := conL_le i ls; omega)
  generalize rootZ16 ls = Y at hR1 hR2 hrs
  generalize incL i ls = PL at hI1 hI2 HZ
  generalize conL i ls = CL at hC1 hC2 HZ
  generalize inT i ls.length = B1 at hI1 hI2
  generalize isBg i ls.length = B2 at hC1 hC2
  clear hLt hWt hok hN hl ho hn hlen hhs
  go_enter Tryd.func15, Tryd.ntmps15
  go_upto_region 0 with fail
  refine wp_region_lit ?_
  refine wl_box (by kernel_rfl) 34 (.tmp 2) rfl (ocC dv (.slice oa ln oc) i n x y z pv) rfl hS ?_
  clear hS
  intro g1 w1 hS
  simp [Act.put]
  refine wl (by kernel_rfl) fun kQ hkQ => ?_
  go_simp
  refine hkQ _ _ ?_
  clear hkQ kQ
  refine wpList_nil ?_
  go_upto_region 1 with fail
  refine wp_region_lit ?_
  refine wl (by kernel_rfl) fun kQ hkQ => ?_
  go_simp
  refine hkQ _ _ ?_
  clear hkQ kQ
  refine wl (by kernel_rfl) fun kQ hkQ => ?_
  go_simp
  refine (hR1 _ _ _ (fun r hr => by simp [hr]) hS (hLd _ hS.K.1)).mono ?_
  rintro e w2 ⟨rfl, hb1⟩
  replace hS := hS.later hb1
  refine hkQ _ _ ?_
  clear hkQ kQ hb1
  refine wl (by kernel_rfl) fun kQ hkQ => ?_
  go_simp
  refine hkQ _ _ ?_
  clear hkQ kQ
  refine wl (by kernel_rfl) fun kQ hkQ => ?_
  go_simp
  refine hkQ _ _ ?_
  clear hkQ kQ
  refine wl (by kernel_rfl) fun kQ hkQ => ?_
  go_simp
  refine hkQ _ _ ?_
  clear hkQ kQ
  refine wl_alloc (by kernel_rfl) 28 rfl (U8 z32) Tryd.inH hS ?_
  clear hS
  intro g3 w3 hS
  simp [Act.put]
  refine wl_store (by kernel_rfl) 28 (.tmp 7) (.tmp 18) rfl 0 rfl 0 rfl (U8 Y) (U8 Y) (pt_H z32_hs hrs) rfl (szH hrs) (U8_one _) hS ?_
  clear hS
  intro w4 hS
  change Hs17 w0 ((g3, 28, (U8 Y)) :: (g1, 34, (ocC dv (.slice oa ln oc) i n x y z pv)) :: (gS, 26, shC (.slice La Ln Lc) (.slice Wa Wn Wc)) :: (rest ++ (itRs its ++ (RL ++ RW)))) _ w4 at hS
  simp [Act.put]
  refine wl (by kernel_rfl) fun kQ hkQ => ?_
  go_simp
  refine hkQ _ _ ?_
  clear hkQ kQ
  refine wpList_nil ?_
  clear hR1
  go_upto_region 2 with fail
  refine wp_region_lit ?_
  refine wl (by kernel_rfl) fun kQ hkQ => ?_
  go_simp
  refine hkQ _ _ ?_
  clear hkQ kQ
  refine wl_load1 (by kernel_rfl) 32 (.tmp 21) rfl 1 rfl 1 rfl ((.slice oa ln oc)) (oc_1 dv (.slice oa ln oc) i n x y z pv) Tryd.underlying32 rfl hS ?_
  simp [Act.put]
  refine wl (by kernel_rfl) fun kQ hkQ => ?_
  go_simp
  refine (hR2 _ hS.K.1).mono ?_
  rintro e w5 ⟨rfl, hb1⟩
  replace hS := hS.later hb1
  refine hkQ _ _ ?_
  clear hkQ kQ hb1
  refine wl (by kernel_rfl) fun kQ hkQ => ?_
  go_simp
  refine hkQ _ _ ?_
  clear hkQ kQ
  refine wl (by kernel_rfl) fun kQ hkQ => ?_
  go_simp
  refine hkQ _ _ ?_
  clear hkQ kQ
  refine wl (by kernel_rfl) fun kQ hkQ => ?_
  go_simp
  refine hkQ _ _ ?_
  clear hkQ kQ
  refine wl_alloc (by kernel_rfl) 28 rfl (U8 z32) Tryd.inH hS ?_
  clear hS
  intro g6 w6 hS
  simp [Act.put]
  refine wl_store (by kernel_rfl) 28 (.tmp 9) (.tmp 24) rfl 0 rfl 0 rfl (U8 Y) (U8 Y) (pt_H z32_hs hrs) rfl (szH hrs) (U8_one _) hS ?_
  clear hS
  intro w7 hS
  change Hs17 w0 ((g6, 28, (U8 Y)) :: (g3, 28, (U8 Y)) :: (g1, 34, (ocC dv (.slice oa ln oc) i n x y z pv)) :: (gS, 26, shC (.slice La Ln Lc) (.slice Wa Wn Wc)) :: (rest ++ (itRs its ++ (RL ++ RW)))) _ w7 at hS
  simp [Act.put]
  refine wl (by kernel_rfl) fun kQ hkQ => ?_
  go_simp
  refine hkQ _ _ ?_
  clear hkQ kQ
  refine wpList_nil ?_
  clear hR2
  go_upto_region 3 with fail
  refine wp_region_lit ?_
  refine wl_load (by kernel_rfl) 28 (.tmp 7) rfl 1 rfl 0 rfl (U8 Y) (At.self _) Tryd.underlying28 rfl (szH hrs) hS ?_
  simp [Act.put]
  refine wl_load (by kernel_rfl) 28 (.tmp 9) rfl 0 rfl 0 rfl (U8 Y) (At.self _) Tryd.underlying28 rfl (szH hrs) hS ?_
  simp [Act.put]
  refine wv (.bool (!true)) (by kernel_rfl) (ex_neq 28 (.tmp 26) (.tmp 27) rfl (U8 Y) (U8 Y) rfl rfl true (by rw [← eqB_self Y]; exact eqHr Y Y hrs hrs _) Tryd.egH) ?_
  simp [Act.put]
  refine wl (by kernel_rfl) fun kQ hkQ => ?_
  go_simp
  refine hkQ _ _ ?_
  clear hkQ kQ
  refine wl (by kernel_rfl) fun kQ hkQ => ?_
  go_simp
  refine hkQ _ _ ?_
  clear hkQ kQ
  refine wl (by kernel_rfl) fun kQ hkQ => ?_
  go_simp
  refine hkQ _ _ ?_
  clear hkQ kQ
  refine wl (by kernel_rfl) fun kQ hkQ => ?_
  go_simp
  refine hkQ _ _ ?_
  clear hkQ kQ
  refine wl (by kernel_rfl) fun kQ hkQ => ?_
  go_simp
  refine hkQ _ _ ?_
  clear hkQ kQ
  refine wpList_nil ?_
  go_upto_region 5 with fail
  refine wp_region_lit ?_
  refine wl (by kernel_rfl) fun kQ hkQ => ?_
  go_simp
  refine hkQ _ _ ?_
  clear hkQ kQ
  refine wl (by kernel_rfl) fun kQ hkQ => ?_
  go_simp
  refine hkQ _ _ ?_
  clear hkQ kQ
  refine wl_load1 (by kernel_rfl) 3 (.tmp 36) rfl 2 rfl 2 rfl (.int .i64 i) (oc_2 dv (.slice oa ln oc) i n x y z pv) Tryd.underlying3 rfl hS ?_
  simp [Act.put]
  refine wl (by kernel_rfl) fun kQ hkQ => ?_
  go_simp
  refine (hI1 _ _ _ (fun r hr => by simp [hr]) hS (hLd _ hS.K.1)).mono ?_
  rintro e w8 ⟨v5, rfl, hO5, hb1⟩
  have hRPh := hO5.hs
  obtain ⟨p5, RP, hpv, hRP, hS9⟩ := hS.ansR hb1 hO5
  obtain ⟨pa, pn, pc, px⟩ := p5
  simp only [Sx.v] at hpv
  subst hpv
  clear hS hO5
  have hS := hS9
  clear hS9
  refine hkQ _ _ ?_
  clear hkQ kQ hb1
  try simp [Act.put]
  refine wl (by kernel_rfl) fun kQ hkQ => ?_
  go_simp
  refine hkQ _ _ ?_
  clear hkQ kQ
  refine wl (by kernel_rfl) fun kQ hkQ => ?_
  go_simp
  refine hkQ _ _ ?_
  clear hkQ kQ
  refine wl (by kernel_rfl) fun kQ hkQ => ?_
  go_simp
  refine hkQ _ _ ?_
  clear hkQ kQ
  refine wl (by kernel_rfl) fun kQ hkQ => ?_
  go_simp
  refine hkQ _ _ ?_
  clear hkQ kQ
  refine wl (by kernel_rfl) fun kQ hkQ => ?_
  go_simp
  refine hkQ _ _ ?_
  clear hkQ kQ
  refine wpList_nil ?_
  clear hI1
  go_upto_region 6 with fail
  refine wp_region_lit ?_
  refine wl (by kernel_rfl) fun kQ hkQ => ?_
  go_simp
  refine hkQ _ _ ?_
  clear hkQ kQ
  refine wl_load1 (by kernel_rfl) 32 (.tmp 42) rfl 2 rfl 1 rfl ((.slice oa ln oc)) (oc_1 dv (.slice oa ln oc) i n x y z pv) Tryd.underlying32 rfl hS ?_
  simp [Act.put]
  refine wl (by kernel_rfl) fun kQ hkQ => ?_
  go_simp
  refine hkQ _ _ ?_
  clear hkQ kQ
  refine wl_load1 (by kernel_rfl) 3 (.tmp 44) rfl 2 rfl 2 rfl (.int .i64 i) (oc_2 dv (.slice oa ln oc) i n x y z pv) Tryd.underlying3 rfl hS ?_
  simp [Act.put]
  refine wl (by kernel_rfl) fun kQ hkQ => ?_
  go_simp
  refine (hI2 _ hS.K.1).mono ?_
  rintro e w9 ⟨v5, rfl, hO5, hb1⟩
  obtain ⟨p5, hpv, hpl, hS9⟩ := hS.ansK hb1 hO5
  obtain ⟨qa, qn, qc, qx⟩ := p5
  simp only [Hl.v] at hpv hpl
  subst hpv hpl
  clear hS hO5
  have hS := hS9
  clear hS9
  refine hkQ _ _ ?_
  clear hkQ kQ hb1
  try simp [Act.put]
  refine wl (by kernel_rfl) fun kQ hkQ => ?_
  go_simp
  refine hkQ _ _ ?_
  clear hkQ kQ
  refine wl (by kernel_rfl) fun kQ hkQ => ?_
  go_simp
  refine hkQ _ _ ?_
  clear hkQ kQ
  refine wl (by kernel_rfl) fun kQ hkQ => ?_
  go_simp
  refine hkQ _ _ ?_
  clear hkQ kQ
  refine wl (by kernel_rfl) fun kQ hkQ => ?_
  go_simp
  refine hkQ _ _ ?_
  clear hkQ kQ
  refine wl (by kernel_rfl) fun kQ hkQ => ?_
  go_simp
  refine hkQ _ _ ?_
  clear hkQ kQ
  refine wpList_nil ?_
  clear hI2
  go_upto_region 7 with fail
  refine wp_region_lit ?_
  refine wl (by kernel_rfl) fun kQ hkQ => ?_
  go_simp
  refine hkQ _ _ ?_
  clear hkQ kQ
  refine wl (by kernel_rfl) fun kQ hkQ => ?_
  go_simp
  refine hkQ _ _ ?_
  clear hkQ kQ
  refine wl (by kernel_rfl) fun kQ hkQ => ?_
  go_simp
  refine hkQ _ _ ?_
  clear hkQ kQ
  refine wl (by kernel_rfl) fun kQ hkQ => ?_
  go_simp
  refine hkQ _ _ ?_
  clear hkQ kQ
  refine wl (by kernel_rfl) fun kQ hkQ => ?_
  go_simp
  refine hkQ _ _ ?_
  clear hkQ kQ
  refine wl (by kernel_rfl) fun kQ hkQ => ?_
  go_simp
  refine hkQ _ _ ?_
  clear hkQ kQ
  refine wl (by kernel_rfl) fun kQ hkQ => ?_
  go_simp
  refine (sameH_t ⟨pa, pn, pc, qx⟩ ⟨qa, qn, qc, qx⟩ _ (sx_hl (hRP.sx (fun x hx => u8_32 (hRPh x hx)) (fun r hr => by simp [hr]) hS) hRPh) hS.K.2 rfl).mono ?_
  rintro e w10 ⟨rfl, hb1⟩
  replace hS := hS.later hb1
  refine hkQ _ _ ?_
  clear hkQ kQ hb1
  refine wl (by kernel_rfl) fun kQ hkQ => ?_
  go_simp
  refine hkQ _ _ ?_
  clear hkQ kQ
  refine wl (by kernel_rfl) fun kQ hkQ => ?_
  go_simp
  refine hkQ _ _ ?_
  clear hkQ kQ
  refine wpList_nil ?_
  go_upto_region 9 with fail
  refine wp_region_lit ?_
  refine wl (by kernel_rfl) fun kQ hkQ => ?_
  go_simp
  refine hkQ _ _ ?_
  clear hkQ kQ
  refine wl (by kernel_rfl) fun kQ hkQ => ?_
  go_simp
  refine hkQ _ _ ?_
  clear hkQ kQ
  refine wl_load1 (by kernel_rfl) 3 (.tmp 60) rfl 2 rfl 2 rfl (.int .i64 i) (oc_2 dv (.slice oa ln oc) i n x y z pv) Tryd.underlying3 rfl hS ?_
  simp [Act.put]
  refine wl (by kernel_rfl) fun kQ hkQ => ?_
  go_simp
  refine (hC1 _ _ _ (fun r hr => by simp [hr]) hS (hLd _ hS.K.1.1)).mono ?_
  rintro e w11 ⟨v5, rfl, hO5, hb1⟩
  have hRCh := hO5.hs
  obtain ⟨p5, RC, hpv, hRC, hS9⟩ := hS.ansR hb1 hO5
  obtain ⟨ca, cn, cc, cx⟩ := p5
  simp only [Sx.v] at hpv
  subst hpv
  clear hS hO5
  have hS := hS9
  clear hS9
  refine hkQ _ _ ?_
  clear hkQ kQ hb1
  try simp [Act.put]
  refine wl (by kernel_rfl) fun kQ hkQ => ?_
  go_simp
  refine hkQ _ _ ?_
  clear hkQ kQ
  refine wl (by kernel_rfl) fun kQ hkQ => ?_
  go_simp
  refine hkQ _ _ ?_
  clear hkQ kQ
  refine wl (by kernel_rfl) fun kQ hkQ => ?_
  go_simp
  refine hkQ _ _ ?_
  clear hkQ kQ
  refine wl (by kernel_rfl) fun kQ hkQ => ?_
  go_simp
  refine hkQ _ _ ?_
  clear hkQ kQ
  refine wl (by kernel_rfl) fun kQ hkQ => ?_
  go_simp
  refine hkQ _ _ ?_
  clear hkQ kQ
  refine wpList_nil ?_
  clear hC1
  go_upto_region 10 with fail
  refine wp_region_lit ?_
  refine wl (by kernel_rfl) fun kQ hkQ => ?_
  go_simp
  refine hkQ _ _ ?_
  clear hkQ kQ
  refine wl_load1 (by kernel_rfl) 32 (.tmp 66) rfl 2 rfl 1 rfl ((.slice oa ln oc)) (oc_1 dv (.slice oa ln oc) i n x y z pv) Tryd.underlying32 rfl hS ?_
  simp [Act.put]
  refine wl (by kernel_rfl) fun kQ hkQ => ?_
  go_simp
  refine hkQ _ _ ?_
  clear hkQ kQ
  refine wl_load1 (by kernel_rfl) 3 (.tmp 68) rfl 2 rfl 2 rfl (.int .i64 i) (oc_2 dv (.slice oa ln oc) i n x y z pv) Tryd.underlying3 rfl hS ?_
  simp [Act.put]
  refine wl (by kernel_rfl) fun kQ hkQ => ?_
  go_simp
  refine (hC2 _ hS.K.1.1).mono ?_
  rintro e w12 ⟨v5, rfl, hO5, hb1⟩
  obtain ⟨p5, hpv, hpl, hS9⟩ := hS.ansK hb1 hO5
  obtain ⟨da, dn, dc, dx⟩ := p5
  simp only [Hl.v] at hpv hpl
  subst hpv hpl
  clear hS hO5
  have hS := hS9
  clear hS9
  refine hkQ _ _ ?_
  clear hkQ kQ hb1
  try simp [Act.put]
  refine wl (by kernel_rfl) fun kQ hkQ => ?_
  go_simp
  refine hkQ _ _ ?_
  clear hkQ kQ
  refine wl (by kernel_rfl) fun kQ hkQ => ?_
  go_simp
  refine hkQ _ _ ?_
  clear hkQ kQ
  refine wl (by kernel_rfl) fun kQ hkQ => ?_
  go_simp
  refine hkQ _ _ ?_
  clear hkQ kQ
  refine wl (by kernel_rfl) fun kQ hkQ => ?_
  go_simp
  refine hkQ _ _ ?_
  clear hkQ kQ
  refine wl (by kernel_rfl) fun kQ hkQ => ?_
  go_simp
  refine hkQ _ _ ?_
  clear hkQ kQ
  refine wpList_nil ?_
  clear hC2
  go_upto_region 11 with fail
  refine wp_region_lit ?_
  refine wl (by kernel_rfl) fun kQ hkQ => ?_
  go_simp
  refine hkQ _ _ ?_
  clear hkQ kQ
  refine wl (by kernel_rfl) fun kQ hkQ => ?_
  go_simp
  refine hkQ _ _ ?_
  clear hkQ kQ
  refine wl (by kernel_rfl) fun kQ hkQ => ?_
  go_simp
  refine hkQ _ _ ?_
  clear hkQ kQ
  refine wl (by kernel_rfl) fun kQ hkQ => ?_
  go_simp
  refine hkQ _ _ ?_
  clear hkQ kQ
  refine wl (by kernel_rfl) fun kQ hkQ => ?_
  go_simp
  refine hkQ _ _ ?_
  clear hkQ kQ
  refine wl (by kernel_rfl) fun kQ hkQ => ?_
  go_simp
  refine hkQ _ _ ?_
  clear hkQ kQ
  refine wl (by kernel_rfl) fun kQ hkQ => ?_
  go_simp
  refine (sameH_t ⟨ca, cn, cc, dx⟩ ⟨da, dn, dc, dx⟩ _ (sx_hl (hRC.sx (fun x hx => u8_32 (hRCh x hx)) (fun r hr => by simp [hr]) hS) hRCh) hS.K.2 rfl).mono ?_
  rintro e w13 ⟨rfl, hb1⟩
  replace hS := hS.later hb1
  refine hkQ _ _ ?_
  clear hkQ kQ hb1
  refine wl (by kernel_rfl) fun kQ hkQ => ?_
  go_simp
  refine hkQ _ _ ?_
  clear hkQ kQ
  refine wl (by kernel_rfl) fun kQ hkQ => ?_
  go_simp
  refine hkQ _ _ ?_
  clear hkQ kQ
  refine wpList_nil ?_
  go_upto_region 13 with fail
  replace hS := hS.sub (((((List.Sublist.refl _)).cons _).cons _).cons _)
  have hSh2 : ShS w0 gS its (RP ++ (RC ++ rest)) K ⟨La, Ln, Lc, Lx⟩ ⟨Wa, Wn, Wc, Wx⟩ RL RW _ := ⟨unhide HLt, unhide HWt, (hS.swap (perm_p _ _ _ _ _)).weak (fun w h => h.1.1), unhide HOK⟩
  clear hS
  refine wp_region_lit ?_
  refine wl (by kernel_rfl) fun kQ hkQ => ?_
  go_simp
  refine hkQ _ _ ?_
  clear hkQ kQ
  refine wl (by kernel_rfl) fun kQ hkQ => ?_
  go_simp
  refine hkQ _ _ ?_
  clear hkQ kQ
  refine wl (by kernel_rfl) fun kQ hkQ => ?_
  go_simp
  refine (putH_any w0 gS its (RC ++ rest) RP K _ _ RL RW ⟨pa, pn, pc, px⟩ qx _ hSh2 hRP hRPh (unhide HZ).1 (by have := unhide HN; omega)).mono ?_
  rintro e w14 ⟨rfl, L2, W2, RL2, RW2, q2, hSh3⟩
  have hb1 := hSh3
  refine hkQ _ _ ?_
  clear hkQ kQ hb1
  clear hSh2
  refine wpList_nil ?_
  go_upto_region 14 with fail
  refine wp_region_lit ?_
  refine wl (by kernel_rfl) fun kQ hkQ => ?_
  go_simp
  refine hkQ _ _ ?_
  clear hkQ kQ
  refine wl (by kernel_rfl) fun kQ hkQ => ?_
  go_simp
  refine hkQ _ _ ?_
  clear hkQ kQ
  refine wl (by kernel_rfl) fun kQ hkQ => ?_
  go_simp
  refine (putH_any w0 gS _ rest RC K _ _ RL2 RW2 ⟨ca, cn, cc, cx⟩ dx _ hSh3 hRC hRCh (unhide HZ).2 (by have := unhide HN; simp; omega)).mono ?_
  rintro e w15 ⟨rfl, L4, W4, RL4, RW4, q4, hSh4⟩
  have hb1 := hSh4
  refine hkQ _ _ ?_
  clear hkQ kQ hb1
  clear hSh3
  refine wpList_nil ?_
  go_wp2_with fail
  go_ret
  refine ⟨rfl, _, L4, W4, RL4, RW4, ?_, hSh4⟩
  simp
end Go.Proofs.YteijlppmgkdieaaDoor
