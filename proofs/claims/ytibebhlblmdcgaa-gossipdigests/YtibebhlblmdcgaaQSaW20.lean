import Derived.Test.YtibebhlblmdcgaaQSmG
import Derived.Test.YtibebhlblmdcgaaQRsS
import Derived.Deep.QuietTactic
import Derived.BigQuiet
set_option linter.unusedSimpArgs false
set_option linter.unusedVariables false
namespace Go.Proofs.Ytibebhlblmdcgaa
open Go.RowKit

def ksY : List (List CK) := [[some .i64], [some .i64], [none], [none]]
theorem wtY (x : Smy) : Wt ksY.flatten (sC x) := ⟨⟨_, rfl⟩, ⟨_, rfl⟩, ⟨_, rfl⟩, ⟨_, rfl⟩, trivial⟩
theorem Try.fqY (d : Nat) : Feq Try.prog (d + 1 + 1) 39 ksY.flatten :=
  feq_struct Try.underlying39 (by kernel_rfl) (size_of Try.inY' rfl) ⟨by decide, rfl, feq_int Try.underlying3 Try.in1, by decide, rfl, feq_int Try.underlying3 Try.in1, by decide, rfl, feq_bool Try.underlying4 Try.in1b, by decide, rfl, feq_bool Try.underlying4 Try.in1b, trivial⟩
theorem eqY_t (x : Smy) (w : World) : (Op.equalIn 10000 39 (aV (sC x)) (aV (sC x))).run Try.prog w = .ok true w :=
  (Try.fqY 9998).row Try.underlying39 rfl (wtY x) (wtY x) (by simp) w
theorem Try.egY : Try.prog.eqGuardType Try.prog.depth 39 = false := by kernel_rfl
theorem takeX_succ {α : Type} {a b : List α} {k : Nat} : True := trivial
set_option maxHeartbeats 2000000 in
set_option maxRecDepth 100000 in
theorem sameE_t (sa sb : Sx Ent) (w : World) (ha : Es w sa) (hb : Es w sb) (hx : sa.xs = sb.xs) (hn : sa.n ≤ 475464663362) :
    Calls Try.prog 10 #[sa.v, sb.v] w fun r w' => r = .returned (.bool true) ∧ Below w.heap.size w w' := by
  obtain ⟨aa, an, ac, ax⟩ := sa
  obtain ⟨ba, bn, bc, bx⟩ := sb
  have hal : ax.length = an := ha.ok.len
  have hbl : bx.length = bn := hb.ok.len
  have hab : bn = an := by rw [← hal, ← hbl]; simp only at hx; rw [hx]
  subst hab
  simp only at hx
  obtain rfl := hx
  have hn' : bn ≤ 475464663362 := hn
  simp only [Sx.v]
  have e3 : ((bn : Int) != (bn : Int)) = false := by simp
  have HA := hide ha
  have HBB := hide hb
  clear ha hb hal hbl hn
  go_enter Try.func10, Try.ntmps10
  go_wp2_with fail
  go_loopw [5] (fun i wr => ∃ k : Nat, k ≤ bn ∧ i = .int .i64 k ∧ Below w.heap.size w wr) (fun i _ => bn - (intOf i).toNat)
  case atStart => exact ⟨0, by omega, rfl, Below.refl _ _⟩
  case round =>
    obtain ⟨k, hk, rfl, hbl⟩ := hrel
    by_cases hlt : k < bn
    · have hA := (unhide HA).later hbl
      have hB := (unhide HBB).later hbl
      obtain ⟨x, ga, oa, hxa, hxo, hsa, hga, hra⟩ := hA.at_ (k := k) hlt
      obtain ⟨y, gb, ob, hyb, hyo, hsb, hgb, hrb⟩ := hB.at_ (k := k) hlt
      simp only at hxa hsa hyb hsb
      subst hsa hsb
      rw [hxa] at hyb
      cases hyb
      have hkz : (k : Int) < (bn : Int) := by omega
      have HBL := hide hbl
      clear hA hB hxa hbl
      have hS := Hs17.begin wr (fun w' => w'.rangeAt ga (oa + k * 262) (eC x) ∧ w'.rangeAt gb (ob + k * 262) (eC x)) (fun w' ho => ⟨rangeAt_old hra hga ho, rangeAt_old hrb hgb ho⟩)
      clear hra hrb hga hgb
      go_upto_region 6 with fail
      refine wp_region_noPanic ?_
      replace hS := hS.drew
      refine wp_region_held_drew (S := Hs17 wr [] _) (by kernel_rfl) (hS.sub (List.Sublist.slnil)) (fun hHeld => ?_)
      generalize World.drew _ = w21 at hS hHeld ⊢
      refine wpAnyH_take (i := 0) (oi := _) (v := (.slice (some ⟨ga, oa, none⟩) bn ac)) rfl (by kernel_rfl) (by kernel_rfl) (by kernel_rfl) (fun _ _ _ h => h) (Or.inl ⟨by rfl, fun w hSw => by go_simp⟩) hHeld ?_
      simp [Act.put]
      refine wpAnyH_take (i := 1) (oi := _) (v := .int .i64 k) rfl (by kernel_rfl) (by kernel_rfl) (by kernel_rfl) (fun _ _ _ h => h) (Or.inl ⟨by rfl, fun w hSw => by go_simp⟩) hHeld ?_
      simp [Act.put]
      refine wpAnyH_take (i := 2) (oi := _) (v := .pointer (some ⟨ga, oa + k * 262, none⟩)) rfl (by kernel_rfl) (by kernel_rfl) (by kernel_rfl) (fun _ _ _ h => h) (Or.inl ⟨by rfl, fun w hSw => by go_simp⟩) hHeld ?_
      simp [Act.put]
      refine wpAnyH_take (i := 3) (oi := _) (v := aV (eC x)) rfl (by kernel_rfl) (by kernel_rfl) (by kernel_rfl) (fun _ _ _ h => h) (.inl ⟨by kernel_rfl, fun w' hw => ex_loadR 45 (.tmp 19) rfl ga (oa + k * 262) rfl (eC x) hw.K.1 Try.underlying45 rfl (szE hxo)⟩) hHeld ?_
      simp [Act.put]
      refine wpAnyH_take (i := 4) (oi := _) (v := (.slice (some ⟨gb, ob, none⟩) bn bc)) rfl (by kernel_rfl) (by kernel_rfl) (by kernel_rfl) (fun _ _ _ h => h) (Or.inl ⟨by rfl, fun w hSw => by go_simp⟩) hHeld ?_
      simp [Act.put]
      refine wpAnyH_take (i := 5) (oi := _) (v := .int .i64 k) rfl (by kernel_rfl) (by kernel_rfl) (by kernel_rfl) (fun _ _ _ h => h) (Or.inl ⟨by rfl, fun w hSw => by go_simp⟩) hHeld ?_
      simp [Act.put]
      refine wpAnyH_take (i := 6) (oi := _) (v := .pointer (some ⟨gb, ob + k * 262, none⟩)) rfl (by kernel_rfl) (by kernel_rfl) (by kernel_rfl) (fun _ _ _ h => h) (Or.inl ⟨by rfl, fun w hSw => by go_simp⟩) hHeld ?_
      simp [Act.put]
      refine wpAnyH_take (i := 7) (oi := _) (v := aV (eC x)) rfl (by kernel_rfl) (by kernel_rfl) (by kernel_rfl) (fun _ _ _ h => h) (.inl ⟨by kernel_rfl, fun w' hw => ex_loadR 45 (.tmp 23) rfl gb (ob + k * 262) rfl (eC x) hw.K.2 Try.underlying45 rfl (szE hxo)⟩) hHeld ?_
      simp [Act.put]
      refine wpAnyH_take (i := 8) (oi := _) (v := .bool (!true)) rfl (by kernel_rfl) (by kernel_rfl) (by kernel_rfl) (fun _ _ _ h => h) (yl_val (by kernel_rfl) _ (fun w => ex_neq 45 (.tmp 20) (.tmp 24) rfl (eC x) (eC x) rfl rfl true (eqE_t hxo hxo rfl _) Try.egE)) hHeld ?_
      simp [Act.put]
      refine wpAnyH_done (by kernel_rfl) ?_ _
      unfold NoPanic
      clear hHeld
      go_wp2_with fail
      go_roundw
      case rel => exact ⟨k + 1, by omega, by go_num, (unhide HBL).trans (hS.bel.mono (unhide HBL).size)⟩
      case measure => simp [intOf]; omega
    · have hkd : decide ((k : Int) < (bn : Int)) = false := by simp; omega
      go_wp2_with fail
      go_ret
      exact ⟨rfl, hbl⟩
set_option maxHeartbeats 2000000 in
set_option maxRecDepth 100000 in
theorem sameS_t (sa sb : Sx Smy) (w : World) (ha : Sy w sa) (hb : Sy w sb) (hx : sa.xs = sb.xs) (hn : sa.n ≤ 475464663362) :
    Calls Try.prog 8 #[sa.v, sb.v] w fun r w' => r = .returned (.bool true) ∧ Below w.heap.size w w' := by
  obtain ⟨aa, an, ac, ax⟩ := sa
  obtain ⟨ba, bn, bc, bx⟩ := sb
  have hal : ax.length = an := ha.len
  have hbl : bx.length = bn := hb.len
  have hab : bn = an := by rw [← hal, ← hbl]; simp only at hx; rw [hx]
  subst hab
  simp only at hx
  obtain rfl := hx
  have hn' : bn ≤ 475464663362 := hn
  simp only [Sx.v]
  have e3 : ((bn : Int) != (bn : Int)) = false := by simp
  have HA := hide ha
  have HBB := hide hb
  clear ha hb hal hbl hn
  go_enter Try.func8, Try.ntmps8
  go_wp2_with fail
  go_loopw [5] (fun i wr => ∃ k : Nat, k ≤ bn ∧ i = .int .i64 k ∧ Below w.heap.size w wr) (fun i _ => bn - (intOf i).toNat)
  case atStart => exact ⟨0, by omega, rfl, Below.refl _ _⟩
  case round =>
    obtain ⟨k, hk, rfl, hbl⟩ := hrel
    by_cases hlt : k < bn
    · have hA := (unhide HA).later hbl
      have hB := (unhide HBB).later hbl
      obtain ⟨x, ga, oa, hxa, hsa, hga, hra⟩ := Sy.at_ hA (k := k) hlt
      obtain ⟨y, gb, ob, hyb, hsb, hgb, hrb⟩ := Sy.at_ hB (k := k) hlt
      simp only at hxa hsa hyb hsb
      subst hsa hsb
      rw [hxa] at hyb
      cases hyb
      have hkz : (k : Int) < (bn : Int) := by omega
      have HBL := hide hbl
      clear hA hB hxa hbl
      have hS := Hs17.begin wr (fun w' => w'.rangeAt ga (oa + k * 4) (sC x) ∧ w'.rangeAt gb (ob + k * 4) (sC x)) (fun w' ho => ⟨rangeAt_old hra hga ho, rangeAt_old hrb hgb ho⟩)
      clear hra hrb hga hgb
      go_upto_region 6 with fail
      refine wp_region_noPanic ?_
      replace hS := hS.drew
      refine wp_region_held_drew (S := Hs17 wr [] _) (by kernel_rfl) (hS.sub (List.Sublist.slnil)) (fun hHeld => ?_)
      generalize World.drew _ = w21 at hS hHeld ⊢
      refine wpAnyH_take (i := 0) (oi := _) (v := (.slice (some ⟨ga, oa, none⟩) bn ac)) rfl (by kernel_rfl) (by kernel_rfl) (by kernel_rfl) (fun _ _ _ h => h) (Or.inl ⟨by rfl, fun w hSw => by go_simp⟩) hHeld ?_
      simp [Act.put]
      refine wpAnyH_take (i := 1) (oi := _) (v := .int .i64 k) rfl (by kernel_rfl) (by kernel_rfl) (by kernel_rfl) (fun _ _ _ h => h) (Or.inl ⟨by rfl, fun w hSw => by go_simp⟩) hHeld ?_
      simp [Act.put]
      refine wpAnyH_take (i := 2) (oi := _) (v := .pointer (some ⟨ga, oa + k * 4, none⟩)) rfl (by kernel_rfl) (by kernel_rfl) (by kernel_rfl) (fun _ _ _ h => h) (Or.inl ⟨by rfl, fun w hSw => by go_simp⟩) hHeld ?_
      simp [Act.put]
      refine wpAnyH_take (i := 3) (oi := _) (v := aV (sC x)) rfl (by kernel_rfl) (by kernel_rfl) (by kernel_rfl) (fun _ _ _ h => h) (.inl ⟨by kernel_rfl, fun w' hw => ex_loadR 39 (.tmp 19) rfl ga (oa + k * 4) rfl (sC x) hw.K.1 Try.underlying39 rfl (szY x)⟩) hHeld ?_
      simp [Act.put]
      refine wpAnyH_take (i := 4) (oi := _) (v := (.slice (some ⟨gb, ob, none⟩) bn bc)) rfl (by kernel_rfl) (by kernel_rfl) (by kernel_rfl) (fun _ _ _ h => h) (Or.inl ⟨by rfl, fun w hSw => by go_simp⟩) hHeld ?_
      simp [Act.put]
      refine wpAnyH_take (i := 5) (oi := _) (v := .int .i64 k) rfl (by kernel_rfl) (by kernel_rfl) (by kernel_rfl) (fun _ _ _ h => h) (Or.inl ⟨by rfl, fun w hSw => by go_simp⟩) hHeld ?_
      simp [Act.put]
      refine wpAnyH_take (i := 6) (oi := _) (v := .pointer (some ⟨gb, ob + k * 4, none⟩)) rfl (by kernel_rfl) (by kernel_rfl) (by kernel_rfl) (fun _ _ _ h => h) (Or.inl ⟨by rfl, fun w hSw => by go_simp⟩) hHeld ?_
      simp [Act.put]
      refine wpAnyH_take (i := 7) (oi := _) (v := aV (sC x)) rfl (by kernel_rfl) (by kernel_rfl) (by kernel_rfl) (fun _ _ _ h => h) (.inl ⟨by kernel_rfl, fun w' hw => ex_loadR 39 (.tmp 23) rfl gb (ob + k * 4) rfl (sC x) hw.K.2 Try.underlying39 rfl (szY x)⟩) hHeld ?_
      simp [Act.put]
      refine wpAnyH_take (i := 8) (oi := _) (v := .bool (!true)) rfl (by kernel_rfl) (by kernel_rfl) (by kernel_rfl) (fun _ _ _ h => h) (yl_val (by kernel_rfl) _ (fun w => ex_neq 39 (.tmp 20) (.tmp 24) rfl (sC x) (sC x) rfl rfl true (eqY_t x _) Try.egY)) hHeld ?_
      simp [Act.put]
      refine wpAnyH_done (by kernel_rfl) ?_ _
      unfold NoPanic
      clear hHeld
      go_wp2_with fail
      go_roundw
      case rel => exact ⟨k + 1, by omega, by go_num, (unhide HBL).trans (hS.bel.mono (unhide HBL).size)⟩
      case measure => simp [intOf]; omega
    · have hkd : decide ((k : Int) < (bn : Int)) = false := by simp; omega
      go_wp2_with fail
      go_ret
      exact ⟨rfl, hbl⟩
end Go.Proofs.Ytibebhlblmdcgaa
