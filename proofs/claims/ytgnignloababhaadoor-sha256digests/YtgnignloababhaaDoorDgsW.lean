import Derived.Test.YtgnignloababhaaDoorStpR
import Derived.Test.YtgnignloababhaaDoorStpO
import Derived.Test.YtgnignloababhaaDoorStpC
import Derived.Test.YtgnignloababhaaDoorStpL
import Derived.Test.YtgnignloababhaaDoorStpS
import Derived.Test.YtgnignloababhaaDoorStpA
namespace Go.Proofs.YtgnignloababhaaDoor
open Go.RowKit

theorem step_any {w : World} {n gA c : Nat} {G : Nat → Nat} {B : Nat → Sl} {L : List Value} {wr : World} (h : DG w n gA c G B L wr) (k : Nat) (hk : k < n) (hn4 : n ≤ 4) (o : OpR) (T : Nat) (hT : ∀ k, k < n → (B k).n ≤ T) (hT2 : T + o.d.n ≤ 2097152) (hK : KLaid w) (hF : FLaid w) (ho : o.d.Ok w) :
    Calls Tryd.prog 5 #[.slice (some ⟨gA, 0, none⟩) n c, .int .i64 k, o.v] wr (StP w n (T + o.d.n)) := by
  by_cases k1 : o.kd = 1
  · exact step_write h k hk hn4 o T hT hT2 hK hF ho k1
  by_cases k2 : o.kd = 2
  · exact step_sum h k hk hn4 o T hT hT2 hK hF ho k2
  by_cases k3 : o.kd = 3
  · exact step_len h k hk hn4 o T hT hT2 hK hF ho k3
  by_cases k4 : o.kd = 4
  · exact step_clone h k hk hn4 o T hT hT2 hK hF ho k4
  by_cases k5 : o.kd = 5
  · exact step_reset h k hk hn4 o T hT hT2 hK hF ho k5
  exact step_other h k hk hn4 o T hT hT2 hK hF ho ⟨k1, k2, k3, k4, k5⟩
/-- the script lies at a -/
def OpsAt (w : World) (a : Option Addr) (ops : List OpR) : Prop :=
  0 < ops.length → ∃ b off, a = some ⟨b, off, none⟩ ∧ b < w.heap.size ∧ ∀ i o, ops[i]? = some o → w.cell? ⟨b, off + i * 3, none⟩ = some (.int .i64 o.kd) ∧ w.cell? ⟨b, off + i * 3 + 1, none⟩ = some (.int .u8 o.at_) ∧ w.cell? ⟨b, off + i * 3 + 2, none⟩ = some o.d.v
structure OpR.Ok (w : World) (o : OpR) : Prop where
  at_ : 0 ≤ o.at_ ∧ o.at_ ≤ 255
  d : o.d.Ok w
def tot (ops : List OpR) : Nat := (ops.map (·.d.n)).sum
theorem tot_take (ops : List OpR) (j : Nat) (o : OpR) (h : ops[j]? = some o) : tot (ops.take (j + 1)) = tot (ops.take j) + o.d.n := by
  have := List.take_add_one (l := ops) (i := j)
  rw [this, h]; simp [tot]
theorem tot_le (ops : List OpR) (j : Nat) : tot (ops.take j) ≤ tot ops := by
  have h : tot ops = tot (ops.take j) + tot (ops.drop j) := by
    unfold tot; rw [← List.sum_append, ← List.map_append, List.take_append_drop]
  omega

set_option maxHeartbeats 4000000 in
set_option maxRecDepth 100000 in
theorem digs_any (sa : Option Addr) (sc : Nat) (ops : List OpR) (w : World) (hS : OpsAt w sa ops) (hO : ∀ o ∈ ops, o.Ok w) (hKL : KLaid w) (hF : FLaid w) (hn : ops.length ≤ 140737488351232) (htot : tot ops ≤ 2097152) :
    Calls Tryd.prog 3 #[.slice sa ops.length sc] w fun e w' => e = .returned (.bool true) ∧ Below w.heap.size w w' := by
  obtain ⟨M, hM⟩ : ∃ M, M = ops.length := ⟨_, rfl⟩
  have HM := hide hM
  have hn' : M ≤ 140737488351232 := by omega
  rw [← hM]
  clear hM hn
  go_enter Tryd.func3, Tryd.ntmps3
  go_wp2_with fail
  refine (new_any w hF).mono ?_
  rintro e w1 ⟨rfl, hD1, hb1⟩
  go_wp2_with fail
  generalize hG : World.alloc w1 _ = w2
  have I0 : DG w 1 w1.heap.size 1 (fun _ => w.heap.size) (fun _ => ⟨none, 0, 0, []⟩) [.pointer (some ⟨w.heap.size, 0, none⟩), .slice none 0 0] w2 := by
    subst hG
    refine ⟨?_, fun k hk => ?_, fun k hk => ?_, fun k hk => hD1.later ((Below.refl _ w1).alloc (Nat.le_refl _) _), fun k hk => World.ownsRow_nil _ _ _ _, fun i j hi hj hij => by omega, fun k hk => Nat.le_refl _, hb1.alloc hb1.size _⟩
    · exact ⟨rfl, .inr ⟨w1.heap.size, 1, _, rfl, hb1.size, heap_alloc_last w1 _, Nat.le_refl _, by unfold maxLen; omega, rfl, rfl⟩⟩
    · obtain rfl : k = 0 := by omega
      rfl
    · obtain rfl : k = 0 := by omega
      rfl
  clear hG hD1
  go_loopw [4, 5, 6] (fun v4 v5 v6 wr => ∃ (j n gA c : Nat) (G : Nat → Nat) (B : Nat → Sl) (L : List Value), v4 = .slice (some ⟨gA, 0, none⟩) n c ∧ v5 = .bool true ∧ v6 = .int .i64 j ∧ j ≤ M ∧ 1 ≤ n ∧ n ≤ 4 ∧ DG w n gA c G B L wr ∧ ∀ k, k < n → (B k).n ≤ tot (ops.take j)) (fun _ _ i _ => M - (intOf i).toNat)
  case atStart => exact ⟨0, 1, _, _, _, _, _, rfl, rfl, rfl, by omega, by omega, by omega, I0, fun k hk => Nat.zero_le _⟩
  case round =>
    clear I0
    obtain ⟨j, n, gA, c, G, B, L, rfl, rfl, rfl, hj, hn1, hn4, I, hT⟩ := hrel
    by_cases hlt : j < M
    · obtain ⟨o, ho⟩ : ∃ o, ops[j]? = some o := ⟨_, List.getElem?_eq_getElem (by rw [← unhide HM]; exact hlt)⟩
      have hoo := hO o (List.mem_of_getElem? ho)
      obtain ⟨ob, oo, hsa, hol, hoc⟩ := hS (by rw [← unhide HM]; omega)
      subst hsa
      obtain ⟨c0, c1, c2⟩ := hoc j o ho
      have htk := tot_take ops j o ho
      have htl := tot_le ops (j + 1)
      have hnm : (n : Int) ≠ 0 := by omega
      obtain ⟨kd, at_, d⟩ := o
      obtain ⟨ha0, ha1⟩ : 0 ≤ at_ ∧ at_ ≤ 255 := hoo.at_
      obtain ⟨kk, hkk⟩ : ∃ kk : Nat, at_ % (n : Int) = (kk : Int) := ⟨(at_ % (n : Int)).toNat, by have := Int.emod_nonneg at_ hnm; omega⟩
      have hkt : at_.tmod (n : Int) = (kk : Int) := by rw [Int.tmod_eq_emod_of_nonneg ha0]; exact hkk
      have hkl : kk < n := by have := Int.emod_lt_of_pos at_ (show (0 : Int) < (n : Int) by omega); omega
      have hok : d.Ok w := hoo.d
      obtain ⟨da, dn, dc, dl⟩ := d
      simp only [Sl.v] at c0 c1 c2
      have hltz : (j : Int) < (M : Int) := by omega
      have hnz : ¬ ((n : Int) = 0) := hnm
      have htk : tot (ops.take (j + 1)) = tot (ops.take j) + dn := htk
      have hwa := hide (show IntKind.i64.wrap at_ = at_ by rw [IntKind.wrap_i64]; omega)
      have hn0 : ¬ n = 0 := by omega
      have HO := hide hoo
      have HC := hide hoc
      have ID : DG w n gA c G B L wr.drew := I.later ⟨rfl, rfl, rfl, Nat.le_refl _, fun _ _ => rfl⟩
      clear hoo hoc
      go_wp2_with fail
      refine wp_region_held_drew (S := fun w' : World => Below w.heap.size w w') (by kernel_rfl) ID.bel (fun hHeld => ?_)
      refine wpAnyH_take (i := 0) (oi := _) (v := .slice (some ⟨gA, 0, none⟩) n c) rfl (by kernel_rfl) (by kernel_rfl) (by kernel_rfl) (fun _ _ _ h => h) (Or.inl ⟨by rfl, fun w hSw => by go_simp⟩) hHeld ?_
      simp [Act.put]
      refine wpAnyH_take (i := 1) (oi := _) (v := .slice (some ⟨ob, oo, none⟩) M sc) rfl (by kernel_rfl) (by kernel_rfl) (by kernel_rfl) (fun _ _ _ h => h) (Or.inl ⟨by rfl, fun w hSw => by go_simp⟩) hHeld ?_
      simp [Act.put]
      refine wpAnyH_take (i := 2) (oi := _) (v := .int .i64 j) rfl (by kernel_rfl) (by kernel_rfl) (by kernel_rfl) (fun _ _ _ h => h) (Or.inl ⟨by rfl, fun w hSw => by go_simp⟩) hHeld ?_
      simp [Act.put]
      refine wpAnyH_take (i := 3) (oi := _) (v := .pointer (some ⟨ob, oo + j * 3, none⟩)) rfl (by kernel_rfl) (by kernel_rfl) (by kernel_rfl) (fun _ _ _ h => h) (Or.inl ⟨by rfl, fun w hSw => by go_simp⟩) hHeld ?_
      simp [Act.put]
      refine wpAnyH_take (i := 4) (oi := _) (v := .pointer (some ⟨ob, oo + j * 3 + 1, none⟩)) rfl (by kernel_rfl) (by kernel_rfl) (by kernel_rfl) (fun _ _ _ h => h) (Or.inl ⟨by rfl, fun w hSw => by go_simp⟩) hHeld ?_
      simp [Act.put]
      refine wpAnyH_take (i := 5) (oi := _) (v := .int .u8 at_) rfl (by kernel_rfl) (by kernel_rfl) (by kernel_rfl) (fun _ _ _ h => h) (Or.inl ⟨by rfl, fun w hSw => by have hc := (hSw.cell (p := ⟨ob, oo + j * 3 + 1, none⟩) hol).trans c1; go_simp⟩) hHeld ?_
      simp [Act.put]
      refine wpAnyH_take (i := 6) (oi := _) (v := .int .i64 at_) rfl (by kernel_rfl) (by kernel_rfl) (by kernel_rfl) (fun _ _ _ h => h) (Or.inl ⟨by rfl, fun w hSw => by have hq := unhide hwa; go_simp⟩) hHeld ?_
      simp [Act.put]
      refine wpAnyH_take (i := 7) (oi := _) (v := .slice (some ⟨gA, 0, none⟩) n c) rfl (by kernel_rfl) (by kernel_rfl) (by kernel_rfl) (fun _ _ _ h => h) (Or.inl ⟨by rfl, fun w hSw => by go_simp⟩) hHeld ?_
      simp [Act.put]
      refine wpAnyH_take (i := 8) (oi := _) (v := .int .i64 n) rfl (by kernel_rfl) (by kernel_rfl) (by kernel_rfl) (fun _ _ _ h => h) (Or.inl ⟨by rfl, fun w hSw => by go_simp⟩) hHeld ?_
      simp [Act.put]
      refine wpAnyH_take (i := 9) (oi := _) (v := .int .i64 kk) rfl (by kernel_rfl) (by kernel_rfl) (by kernel_rfl) (fun _ _ _ h => h) (Or.inl ⟨by rfl, fun w hSw => by go_simp⟩) hHeld ?_
      simp [Act.put]
      refine wpAnyH_take (i := 10) (oi := _) (v := .slice (some ⟨ob, oo, none⟩) M sc) rfl (by kernel_rfl) (by kernel_rfl) (by kernel_rfl) (fun _ _ _ h => h) (Or.inl ⟨by rfl, fun w hSw => by go_simp⟩) hHeld ?_
      simp [Act.put]
      refine wpAnyH_take (i := 11) (oi := _) (v := .int .i64 j) rfl (by kernel_rfl) (by kernel_rfl) (by kernel_rfl) (fun _ _ _ h => h) (Or.inl ⟨by rfl, fun w hSw => by go_simp⟩) hHeld ?_
      simp [Act.put]
      refine wpAnyH_take (i := 12) (oi := _) (v := .pointer (some ⟨ob, oo + j * 3, none⟩)) rfl (by kernel_rfl) (by kernel_rfl) (by kernel_rfl) (fun _ _ _ h => h) (Or.inl ⟨by rfl, fun w hSw => by go_simp⟩) hHeld ?_
      simp [Act.put]
      refine wpAnyH_take (i := 13) (oi := _) (v := .agg #[.int .i64 kd, .int .u8 at_, .slice da dn dc]) rfl (by kernel_rfl) (by kernel_rfl) (by kernel_rfl) (fun _ _ _ h => h) (Or.inl ⟨by rfl, fun w hSw => by have hc0 := (hSw.cell (p := ⟨ob, oo + j * 3, none⟩) hol).trans c0; have hc1 := (hSw.cell (p := ⟨ob, oo + j * 3 + 1, none⟩) hol).trans c1; have hc2 := (hSw.cell (p := ⟨ob, oo + j * 3 + 2, none⟩) hol).trans c2; go_simp⟩) hHeld ?_
      simp [Act.put]
      refine wpAnyH_ready (rs := [14]) (by kernel_rfl) (by simp) ?_
      refine AllReadyH.cons rfl (fun K hK => ?_) AllReadyH.nil
      go_simp
      refine (step_any ID kk hkl hn4 ⟨kd, at_, ⟨da, dn, dc, dl⟩⟩ (tot (ops.take j)) hT (by show tot (ops.take j) + dn ≤ _; omega) hKL hF hok).mono ?_
      rintro e w3 ⟨n3, gA3, cc3, G3, B3, L3, rfl, hn13, hn43, I3, hT3⟩
      have hT3 : ∀ k, k < n3 → (B3 k).n ≤ tot (ops.take j) + dn := hT3
      refine hK.out _ _ I3.bel (fun hHeld => ?_)
      clear hK K
      refine wpAnyH_take (i := 15) (oi := _) (v := .tuple #[.slice (some ⟨gA3, 0, none⟩) n3 cc3, .bool true]) rfl (by kernel_rfl) (by kernel_rfl) (by kernel_rfl) (fun _ _ _ h => h) (Or.inl ⟨by rfl, fun w hSw => by go_simp⟩) hHeld ?_
      simp [Act.put]
      refine wpAnyH_take (i := 16) (oi := _) (v := .slice (some ⟨gA3, 0, none⟩) n3 cc3) rfl (by kernel_rfl) (by kernel_rfl) (by kernel_rfl) (fun _ _ _ h => h) (Or.inl ⟨by rfl, fun w hSw => by go_simp⟩) hHeld ?_
      simp [Act.put]
      refine wpAnyH_take (i := 17) (oi := _) (v := .bool true) rfl (by kernel_rfl) (by kernel_rfl) (by kernel_rfl) (fun _ _ _ h => h) (Or.inl ⟨by rfl, fun w hSw => by go_simp⟩) hHeld ?_
      simp [Act.put]
      refine wpAnyH_take (i := 18) (oi := _) (v := .slice (some ⟨gA3, 0, none⟩) n3 cc3) rfl (by kernel_rfl) (by kernel_rfl) (by kernel_rfl) (fun _ _ _ h => h) (Or.inl ⟨by rfl, fun w hSw => by go_simp⟩) hHeld ?_
      simp [Act.put]
      refine wpAnyH_take (i := 19) (oi := _) (v := .bool true) rfl (by kernel_rfl) (by kernel_rfl) (by kernel_rfl) (fun _ _ _ h => h) (Or.inl ⟨by rfl, fun w hSw => by go_simp⟩) hHeld ?_
      simp [Act.put]
      refine wpAnyH_done (by kernel_rfl) ?_ _
      clear hHeld
      go_wp2_with fail
      go_roundw
      case rel => exact ⟨j + 1, n3, gA3, cc3, G3, B3, L3, rfl, rfl, by go_num, by omega, by omega, hn43, I3, fun k hk => by rw [htk]; exact hT3 k hk⟩
      case measure => simp [intOf]; omega
    · have hltz : ¬ ((j : Int) < (M : Int)) := by omega
      have hld : decide ((j : Int) < (M : Int)) = false := by simpa using hltz
      have htl := tot_le ops j
      have hTT : ∀ k, k < n → (B k).n ≤ 2097152 := fun k hk => by have := hT k hk; omega
      clear hT
      go_wp2_with fail
      go_loopw [7] (fun vi wr => ∃ i : Nat, i ≤ n ∧ vi = .int .i64 i ∧ DG w n gA c G B L wr) (fun i _ => n - (intOf i).toNat)
      case atStart => exact ⟨0, by omega, rfl, I⟩
      case round =>
        clear I
        obtain ⟨i, hi, rfl, I⟩ := hrel
        by_cases hil : i < n
        · have cd := I.cd i hil
          have cb := I.cb i hil
          rw [Nat.mul_comm] at cd cb
          have hilz : (i : Int) < (n : Int) := by omega
          have hok := I.ok i hil
          have hdg := I.dg i hil
          have hTi := hTT i hil
          generalize B i = b at cb hok hdg hTi
          obtain ⟨ba, bn, bc, bl⟩ := b
          simp only [Sl.v] at cb
          go_wp2_with fail
          refine (asked_any (G i) ⟨ba, bn, bc, bl⟩ _ hdg hok hTi (hKL.later I.bel)).mono ?_
          rintro e w3 ⟨rfl, hb3⟩
          have I3 := I.later hb3
          clear I cd cb hok hdg
          go_wp2_with fail
          go_roundw
          case rel => exact ⟨i + 1, by omega, by go_num, I3⟩
          case measure => simp [intOf]; omega
        · have hilz : ¬ ((i : Int) < (n : Int)) := by omega
          have hid : decide ((i : Int) < (n : Int)) = false := by simpa using hilz
          go_wp2_with fail
          go_ret
          exact ⟨rfl, I.bel⟩
end Go.Proofs.YtgnignloababhaaDoor
