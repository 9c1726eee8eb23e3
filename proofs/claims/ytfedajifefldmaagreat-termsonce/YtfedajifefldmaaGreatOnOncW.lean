import Derived.Test.YtfedajifefldmaaGreatOnAgnA
import Derived.Test.YtfedajifefldmaaGreatOnAgnB
import Derived.Test.YtfedajifefldmaaGreatOnAgnC
import Derived.Test.YtfedajifefldmaaGreatOnSamX
import Derived.Test.YtfedajifefldmaaGreatOnGsM
set_option linter.unusedSimpArgs false
set_option linter.unusedVariables false
namespace Go.Proofs.YtfedajifefldmaaGreat
open Go.RowKit

/-! One form each. -/
theorem kin_len (k : Int) (y : Nat → Int) : ((fK k).enc y).length ≤ 300 ∧ 0 < ((fK k).enc y).length := by
  unfold fK
  repeat' split
  · obtain ⟨R, -, -, h⟩ := kin_Cert; exact h y
  · obtain ⟨R, -, -, h⟩ := kin_Ticket; exact h y
  · obtain ⟨R, -, -, h⟩ := kin_Entry; exact h y
  · obtain ⟨R, -, -, h⟩ := kin_Freeze; exact h y
  · obtain ⟨R, -, -, h⟩ := kin_Ack; exact h y
  · obtain ⟨R, -, -, h⟩ := kin_Revocation; exact h y
  · obtain ⟨R, -, -, h⟩ := kin_Floor; exact h y
  · obtain ⟨R, -, -, h⟩ := kin_Receipt; exact h y
  · obtain ⟨R, -, -, h⟩ := kin_Order; exact h y
  · obtain ⟨R, -, -, h⟩ := kin_Head; exact h y
theorem agL_le (d k : Int) (l : List Int) : (agL d (fK k) l).length ≤ 304 := by
  unfold agL tellL
  split
  · have := (kin_len k (decL d (fK k) l).1).1
    have := hdL_le d
    rw [List.length_append]; omega
  · simp
theorem again_any (k : Int) (h1 : 1 ≤ k) (h2 : k ≤ 10) (b : Sl) (w : World) (hb : b.Ok w) :
    Calls Tryz.prog 7 #[.int .i64 k, b.v] w (AGP k (fK k) b.l w) := by
  have hk : k = 1 ∨ k = 2 ∨ k = 3 ∨ k = 4 ∨ k = 5 ∨ k = 6 ∨ k = 7 ∨ k = 8 ∨ k = 9 ∨ k = 10 := by omega
  rcases hk with rfl | rfl | rfl | rfl | rfl | rfl | rfl | rfl | rfl | rfl
  · exact again_Cert b w hb
  · exact again_Ticket b w hb
  · exact again_Entry b w hb
  · exact again_Freeze b w hb
  · exact again_Ack b w hb
  · exact again_Revocation b w hb
  · exact again_Floor b w hb
  · exact again_Receipt b w hb
  · exact again_Order b w hb
  · exact again_Head b w hb
def x1 : Nat → Int := fun i => if i = 0 then 1 else 0
theorem built_floor : Tryz.prog.built 34 [(0, .int .i64 1)] = some (cl sFloor 65 x1).toArray := by kernel_rfl
theorem x1_ok : ∀ i, i < 65 → (sFloor i).ok (x1 i) := by
  intro i _
  unfold sFloor x1
  by_cases h : i = 0
  · subst h; simp [Kd.ok]
  · rw [if_neg (by omega), if_neg h]; simp [Kd.ok]
theorem floor_len : (tellL 7 (fsAll fFloor) x1).length = 72 := by decide +kernel

set_option maxHeartbeats 4000000 in
set_option maxRecDepth 100000 in
theorem once_law (b : Sl) (w : World) (hb : b.Ok w) :
    Calls Tryz.prog 3 #[b.v] w fun e w' => e = .returned (.bool true) ∧ Below w.heap.size w w' := by
  have hDm := domain_any b w hb
  have HO := hide hb
  have hAg := fun (k : Int) (h1 : 1 ≤ k) (h2 : k ≤ 10) W (h : Below w.heap.size w W) => again_any k h1 h2 b W (hb.later h)
  have HOn : Hid (∀ k : Int, 1 ≤ k → k ≤ 10 → (decL k (fK k) b.l).2 = 0 → agL k (fK k) b.l = b.l ∧ domL b.l = (k, 0)) := by
    intro k h1 h2 h
    obtain ⟨n, R, hG⟩ := kin_all k
    exact dec_once hG hb.isB h1 h2 h
  have HSm : Hid (∀ (k : Int) (W W1 : World) (a : Option Addr) (c : Nat), Below w.heap.size w W → Below W.heap.size W W1 → W1.ownsRow W.heap.size 5 1 (.slice a (agL k (fK k) b.l).length c) (agL k (fK k) b.l).length (U8 (agL k (fK k) b.l)) → IsB (agL k (fK k) b.l) → Calls Tryz.prog 8 #[.slice a (agL k (fK k) b.l).length c, b.v] W1 fun e w' => e = .returned (.bool (decide (agL k (fK k) b.l = b.l))) ∧ ∃ k, w' = W1.drewN k) := by
    intro k W W1 a c h h1 hown hB
    obtain ⟨s, hv, hok, hsl, hsn, -⟩ := own_sl hown hB
    have := same_any s b W1 hok ((hb.later h).later h1) (by rw [hsn]; have := agL_le k k b.l; omega)
    rw [hsl, ← hv] at this
    exact this
  have hEn := fun W => encodeFloor_any W x1 x1_ok
  have hfl := floor_len
  have HBF := hide built_floor
  have HFL := hide hfl
  generalize hcl : cl sFloor 65 x1 = CF at *
  clear hcl hfl
  have hbv : b.v = .slice b.a b.n b.c := rfl
  rw [hbv] at hDm hAg HSm ⊢
  generalize b.a = ba at *
  generalize b.n = bn at *
  generalize b.c = bc at *
  clear HO hb hbv
  generalize b.l = bl at *
  clear b
  go_enter Tryz.func3, Tryz.ntmps3
  go_wp2_with (go_at_call 6; refine hDm.mono ?_; rintro e w1 ⟨rfl, hB1⟩)
  generalize hdd : (domL bl).1 = dd at *
  generalize hde : (domL bl).2 = de at *
  have HDD := hide hdd
  have HDE := hide hde
  clear hdd hde hDm
  go_loopw [5] (fun s5 wr => ∃ (k : Nat), s5 = .int .i64 k ∧ 1 ≤ k ∧ k ≤ 11 ∧ Below w.heap.size w wr) (fun j _ => 11 - (intOf j).toNat)
  case atStart => exact ⟨1, rfl, by omega, by omega, hB1⟩
  case round =>
    obtain ⟨k, rfl, hk1, hk2, hB⟩ := hrel
    clear hB1
    by_cases hlt : k ≤ 10
    · have hC := hAg (k : Int) (by omega) (by omega) wr hB
      have HK := unhide HOn (k : Int) (by omega) (by omega)
      have HS := unhide HSm (k : Int) wr
      have HB := hide hB
      clear hAg HOn HSm hEn HBF HFL hB
      by_cases hz : (decL (k : Int) (fK k) bl).2 = 0
      · obtain ⟨e1, e2⟩ := HK hz
        have hdd : dd = k := by rw [← unhide HDD, e2]
        have hde : de = 0 := by rw [← unhide HDE, e2]
        subst hdd hde
        have hz2 : decide ((decL (k : Int) (fK k) bl).2 = 0) = true := decide_eq_true hz
        unfold AGP at hC
        rw [hz2] at hC
        have HE1 := hide e1
        clear hz2 hz e1 e2 HK HDD HDE
        go_wp2_with fail
        refine hC.mono ?_
        rintro e w2 ⟨av, cv, rfl, hown, hLB, hB2⟩
        have hSm := HS w2 av cv (unhide HB) hB2 hown hLB
        rw [decide_eq_true (unhide HE1)] at hSm
        have HB2 := hide ((unhide HB).trans (hB2.mono (unhide HB).size))
        clear hC HS hown hLB hB2 HB HE1
        generalize (agL (k : Int) (fK k) bl).length = m at *
        go_wp2_with (go_at_call 8; refine hSm.mono ?_; rintro e w3 ⟨rfl, n3, rfl⟩; clear hSm)
        go_roundw
        case rel => exact ⟨k + 1, by go_num, by omega, by omega, bel_drewN (unhide HB2) _⟩
        case measure => simp [intOf]; omega
      · have hz2 : decide ((decL (k : Int) (fK k) bl).2 = 0) = false := decide_eq_false hz
        unfold AGP at hC
        rw [hz2] at hC
        clear hz2 hz HK HDD HDE HS
        go_wp2_with fail
        refine hC.mono ?_
        rintro e w2 ⟨av, cv, rfl, hown, hLB, hB2⟩
        have HB2 := hide ((unhide HB).trans (hB2.mono (unhide HB).size))
        clear hC hown hLB hB2 HB
        generalize (agL (k : Int) (fK k) bl).length = m at *
        go_wp2
        go_roundw
        case rel => exact ⟨k + 1, by go_num, by omega, by omega, unhide HB2⟩
        case measure => simp [intOf]; omega
    · obtain rfl : k = 11 := by omega
      have HB := hide hB
      have hC := hEn wr
      unfold EPost at hC
      rw [unhide HFL] at hC
      have hne : tellL 7 (fsAll fFloor) x1 ≠ [] := fun h => by have := unhide HFL; rw [h] at this; simp at this
      rw [if_neg hne] at hC
      clear hAg HOn HSm hEn hB hne HDD HDE
      go_upto_region 8 with fail
      refine wp_region_lit ?_
      refine wpList_bd rfl 34 _ rfl _ (by have h := unhide HBF; simpa [Act.eval] using h) ?_
      simp only [Act.put]
      refine wpList_plain rfl fun K1 hK1 => ?_
      go_simp
      refine hC.mono ?_
      rintro e w2 ⟨av, cv, rfl, -, -, hB2⟩
      have HB2 := hide ((unhide HB).trans (hB2.mono (unhide HB).size))
      clear hC hB2 HB
      refine hK1 _ _ ?_
      clear hK1 K1
      go_wp2
      go_ret
      exact ⟨rfl, unhide HB2⟩
end Go.Proofs.YtfedajifefldmaaGreat
