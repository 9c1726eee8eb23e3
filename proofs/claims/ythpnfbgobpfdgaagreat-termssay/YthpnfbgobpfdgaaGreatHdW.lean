import Derived.Test.YthpnfbgobpfdgaaGreatGsB
import Derived.Lib.SlBytesConst
import Derived.Laws.BytesArg
import Derived.Lib.SmallJoins
namespace Go.Proofs.YthpnfbgobpfdgaaGreat
open Go.RowKit

/-! Heads. -/

def hdL (d : Int) : List Int := if 1 ≤ d ∧ d ≤ 255 then [70, 66, 1, d] else []
/-- what a head tells: the domain, the place behind it, the refusal -/
def rdH (l : List Int) : Int × Int × Int := if l.take 3 = [70, 66, 1] ∧ 0 < l.getD 3 0 then (l.getD 3 0, 4, 0) else (0, 0, 90)

set_option maxHeartbeats 1000000 in
set_option maxRecDepth 100000 in
theorem head_any (d : Int) (w : World) :
    Calls Tryz.prog 97 #[.int .i64 d] w fun e w' => ∃ s : Sl, e = .returned s.v ∧ s.Ok w' ∧ s.l = hdL d ∧ Below w.heap.size w w' ∧ (∀ x, s.a = some x → w.heap.size ≤ x.block) := by
  obtain ⟨i0, hi, hz0, hz1, hz2⟩ := info_parts Tryz.infoB
  have kc := fun (w : World) (C : Array Value) (n c : Nat) => Lib.run_convert_bytes_const (P := Tryz.prog) w 28 5 C n c Tryz.underlying28 Tryz.underlying5
  by_cases hd : 1 ≤ d ∧ d ≤ 255
  · have HL : Hid (hdL d = [70, 66, 1, d]) := by unfold hdL; rw [if_pos hd]; exact hide rfl
    obtain ⟨h1, h2⟩ := hd
    have hb1 : Below w.heap.size w (w.alloc (.cells #[.int .u8 70, .int .u8 66, .int .u8 1] 5 (3, 4))) := below_one _ _
    have hA := Arr.new (w.alloc (.cells #[.int .u8 70, .int .u8 66, .int .u8 1] 5 (3, 4))) 5 (U8 [d])
    have hb2 := below_one (w.alloc (.cells #[.int .u8 70, .int .u8 66, .int .u8 1] 5 (3, 4))) (.cells #[.int .u8 d] 5)
    have hs1 : (w.alloc (.cells #[.int .u8 70, .int .u8 66, .int .u8 1] 5 (3, 4))).heap.size = w.heap.size + 1 := by simp
    have hok := one_ok (w.alloc (.cells #[.int .u8 70, .int .u8 66, .int .u8 1] 5 (3, 4))) d (by omega) (by omega)
    rw [hs1] at hok
    have hcl : ∀ j u, (U8 [70, 66, 1])[j]? = some u → ((w.alloc (.cells #[.int .u8 70, .int .u8 66, .int .u8 1] 5 (3, 4))).alloc (.cells #[.int .u8 d] 5)).cell? ((⟨w.heap.size, 0, none⟩ : Addr).add j) = some u := by
      intro j u hu
      rw [addr_add, Nat.zero_add, hb2.cell (p := ⟨w.heap.size, j, none⟩) (by rw [hs1]; exact Nat.lt_succ_self _), World.cell?_alloc_mark]
      simpa [U8] using hu
    have hbb := hb1.trans (hb2.mono (by omega))
    clear hA hb1 hb2
    go_enter Tryz.func97, Tryz.ntmps97
    go_wp2_with (at_builtin; refine wpList_append_new rfl _ _ 28 rfl 5 i0 (.int .u8 0) Tryz.underlying28 hi hz0 hz1 hz2 ⟨w.heap.size, 0, none⟩ 3 3 rfl [70, 66, 1] rfl (by unfold IsB; decide) hcl ⟨some ⟨w.heap.size + 1, 0, none⟩, 1, 1, [d]⟩ hok rfl (by show 0 < 1; decide) (by show 3 < 3 + 1; decide) (by show 3 + 1 ≤ 140737488355328; decide) ?_; intro cap w' H1 H2 _)
    go_ret
    have hb3 := unhide H2
    have H1 := unhide H1
    have hs2 : ((w.alloc (.cells #[.int .u8 70, .int .u8 66, .int .u8 1] 5 (3, 4))).alloc (.cells #[.int .u8 d] 5)).heap.size = w.heap.size + 1 + 1 := by simp
    rw [hs2] at H1
    refine ⟨⟨some ⟨w.heap.size + 1 + 1, 0, none⟩, 4, cap, [70, 66, 1, d]⟩, rfl, H1, (unhide HL).symm, hbb.trans (hb3.mono hbb.size), fun x hx => ?_⟩
    simp only [Option.some.injEq] at hx
    subst hx
    show w.heap.size ≤ w.heap.size + 1 + 1
    omega
  · have HL : Hid (hdL d = []) := by unfold hdL; rw [if_neg hd]; exact hide rfl
    have hd' : d < 1 ∨ 255 < d := by omega
    have ok0 : ∀ w : World, Sl.Ok w ⟨none, 0, 0, []⟩ := fun w => ⟨rfl, Nat.le_refl _, Nat.zero_le _, fun _ => ⟨rfl, rfl⟩, fun x hx => by simp at hx, Lies.nil _ _⟩
    rcases hd' with hd' | hd'
    · go_enter Tryz.func97, Tryz.ntmps97
      go_wp2
      go_ret
      exact ⟨⟨none, 0, 0, []⟩, rfl, ok0 _, (unhide HL).symm, Below.refl _ _, fun _ h => by cases h⟩
    · go_enter Tryz.func97, Tryz.ntmps97
      go_wp2
      go_ret
      exact ⟨⟨none, 0, 0, []⟩, rfl, ok0 _, (unhide HL).symm, Below.refl _ _, fun _ h => by cases h⟩

theorem u8_is (a : Int) (k : Nat) (hk : k < 256) (h0 : 0 ≤ a) (h1 : a ≤ 255) : (UInt8.ofNat a.toNat == UInt8.ofNat k) = decide (a = k) := by
  rw [Bool.eq_iff_iff, beq_iff_eq, decide_eq_true_eq]
  constructor
  · intro h
    have h2 := congrArg UInt8.toNat h
    simp only [UInt8.toNat_ofNat'] at h2
    omega
  · rintro rfl; rfl
theorem str3 (a b c : Int) : (strOfNums [a, b, c]).toList = [UInt8.ofNat a.toNat, UInt8.ofNat b.toNat, UInt8.ofNat c.toNat] := by
  unfold strOfNums
  simp only [List.map_cons, List.map_nil]
  unfold ByteArray.toList
  rw [ByteArray.toList.loop, if_pos (by show (0 : Nat) < 3; decide), ByteArray.toList.loop, if_pos (by show (1 : Nat) < 3; decide), ByteArray.toList.loop, if_pos (by show (2 : Nat) < 3; decide), ByteArray.toList.loop, if_neg (by show ¬ (3 : Nat) < 3; decide)]
  rfl
theorem str3_is (l : List Int) (h : l.length = 3) (hB : IsB l) : ((strOfNums l).toList == [70, 66, 1]) = decide (l = [70, 66, 1]) := by
  match l, h with
  | [a, b, c], _ =>
    have ha := hB a (by simp)
    have hb := hB b (by simp)
    have hc := hB c (by simp)
    rw [str3]
    show (UInt8.ofNat a.toNat == UInt8.ofNat 70 && (UInt8.ofNat b.toNat == UInt8.ofNat 66 && (UInt8.ofNat c.toNat == UInt8.ofNat 1 && true))) = _
    rw [u8_is a 70 (by omega) ha.1 ha.2, u8_is b 66 (by omega) hb.1 hb.2, u8_is c 1 (by omega) hc.1 hc.2]
    simp

end Go.Proofs.YthpnfbgobpfdgaaGreat
