import Derived.Test.YtiloacnjgaoceaaWtrM
import Derived.Lib.SlBytesConst
import Derived.Laws.BytesArg
import Derived.Lib.SmallJoins
namespace Go.Proofs.Ytiloacnjgaoceaa
open Go.RowKit

/-! Heads. -/

def hdL (d : Int) : List Int := if 1 ≤ d ∧ d ≤ 255 then [70, 66, 1, d] else []
/-- what a head tells: the domain, the place behind it, the refusal -/
def rdH (l : List Int) : Int × Int × Int := if l.take 3 = [70, 66, 1] ∧ 0 < l.getD 3 0 then (l.getD 3 0, 4, 0) else (0, 0, 90)

set_option maxHeartbeats 1000000 in
set_option maxRecDepth 100000 in
theorem head_any (d : Int) (w : World) :
    Calls Try.prog 9 #[.int .i64 d] w fun e w' => ∃ s : Sl, e = .returned s.v ∧ s.Ok w' ∧ s.l = hdL d ∧ Below w.heap.size w w' ∧ (∀ x, s.a = some x → w.heap.size ≤ x.block) := by
  obtain ⟨i0, hi, hz0, hz1, hz2⟩ := info_parts Try.infoB
  have kc := fun (w : World) (C : Array Value) (n c : Nat) => Lib.run_convert_bytes_const (P := Try.prog) w 22 5 C n c Try.underlying22 Try.underlying5
  by_cases hd : 1 ≤ d ∧ d ≤ 255
  · have HL : Hid (hdL d = [70, 66, 1, d]) := by unfold hdL; rw [if_pos hd]; exact hide rfl
    obtain ⟨h1, h2⟩ := hd
    have hb1 : Below w.heap.size w (w.alloc (.cells #[.int .u8 70, .int .u8 66, .int .u8 1] 5 (3, 4))) := below_one _ _
    have hA := Arr.new (w.alloc (.cells #[.int .u8 70, .int .u8 66, .int .u8 1] 5 (3, 4))) 5 (U8 [d])
    have hb2 := below_one (w.alloc (.cells #[.int .u8 70, .int .u8 66, .int .u8 1] 5 (3, 4))) (.cells #[.int .u8 d] 5)
    have hs1 : (w.alloc (.cells #[.int .u8 70, .int .u8 66, .int .u8 1] 5 (3, 4))).heap.size = w.heap.size + 1 := by simp
    have hok := one_ok (w.alloc (.cells #[.int .u8 70, .int .u8 66, .int .u8 1] 5 (3, 4))) d (by omega) (by omega)
    rw [hs1] at hok
    have hcl : ∀ j u, (U8 [70, 66, 1])[j]? = some u → ((w.alloc (.cells #[.int .u8 70, .int .u8 66, .int .u8 1] 5 (3, 4))).alloc (.cells #[.int .u8 d] 5)).cell? ((⟨w.heap.size, 0, none⟩ : Addr).add j) = some u := by
      intro j u hu
      rw [addr_add, Nat.zero_add, hb2.cell (p := ⟨w.heap.size, j, none⟩) (by rw [hs1]; exact Nat.lt_succ_self _), World.cell?_alloc_mark]
      simpa [U8] using hu
    have hbb := hb1.trans (hb2.mono (by omega))
    clear hA hb1 hb2
    go_enter Try.func9, Try.ntmps9
    go_wp2_with (at_builtin; refine wpList_append_new rfl _ _ 22 rfl 5 i0 (.int .u8 0) Try.underlying22 hi hz0 hz1 hz2 ⟨w.heap.size, 0, none⟩ 3 3 rfl [70, 66, 1] rfl (by unfold IsB; decide) hcl ⟨some ⟨w.heap.size + 1, 0, none⟩, 1, 1, [d]⟩ hok rfl (by show 0 < 1; decide) (by show 3 < 3 + 1; decide) (by show 3 + 1 ≤ 140737488355328; decide) ?_; intro cap w' H1 H2 _)
    go_ret
    have hb3 := unhide H2
    have H1 := unhide H1
    have hs2 : ((w.alloc (.cells #[.int .u8 70, .int .u8 66, .int .u8 1] 5 (3, 4))).alloc (.cells #[.int .u8 d] 5)).heap.size = w.heap.size + 1 + 1 := by simp
    rw [hs2] at H1
    refine ⟨⟨some ⟨w.heap.size + 1 + 1, 0, none⟩, 4, cap, [70, 66, 1, d]⟩, rfl, H1, (unhide HL).symm, hbb.trans (hb3.mono hbb.size), fun x hx => ?_⟩
    simp only [Option.some.injEq] at hx
    subst hx
    show w.heap.size ≤ w.heap.size + 1 + 1
    omega
  · have HL : Hid (hdL d = []) := by unfold hdL; rw [if_neg hd]; exact hide rfl
    have hd' : d < 1 ∨ 255 < d := by omega
    have ok0 : ∀ w : World, Sl.Ok w ⟨none, 0, 0, []⟩ := fun w => ⟨rfl, Nat.le_refl _, Nat.zero_le _, fun _ => ⟨rfl, rfl⟩, fun x hx => by simp at hx, Lies.nil _ _⟩
    rcases hd' with hd' | hd'
    · go_enter Try.func9, Try.ntmps9
      go_wp2
      go_ret
      exact ⟨⟨none, 0, 0, []⟩, rfl, ok0 _, (unhide HL).symm, Below.refl _ _, fun _ h => by cases h⟩
    · go_enter Try.func9, Try.ntmps9
      go_wp2
      go_ret
      exact ⟨⟨none, 0, 0, []⟩, rfl, ok0 _, (unhide HL).symm, Below.refl _ _, fun _ h => by cases h⟩

theorem u8_is (a : Int) (k : Nat) (hk : k < 256) (h0 : 0 ≤ a) (h1 : a ≤ 255) : (UInt8.ofNat a.toNat == UInt8.ofNat k) = decide (a = k) := by
  rw [Bool.eq_iff_iff, beq_iff_eq, decide_eq_true_eq]
  constructor
  · intro h
    have h2 := congrArg UInt8.toNat h
    simp only [UInt8.toNat_ofNat'] at h2
    omega
  · rintro rfl; rfl
theorem str3 (a b c : Int) : (strOfNums [a, b, c]).toList = [UInt8.ofNat a.toNat, UInt8.ofNat b.toNat, UInt8.ofNat c.toNat] := by
  unfold strOfNums
  simp only [List.map_cons, List.map_nil]
  unfold ByteArray.toList
  rw [ByteArray.toList.loop, if_pos (by show (0 : Nat) < 3; decide), ByteArray.toList.loop, if_pos (by show (1 : Nat) < 3; decide), ByteArray.toList.loop, if_pos (by show (2 : Nat) < 3; decide), ByteArray.toList.loop, if_neg (by show ¬ (3 : Nat) < 3; decide)]
  rfl
theorem str3_is (l : List Int) (h : l.length = 3) (hB : IsB l) : ((strOfNums l).toList == [70, 66, 1]) = decide (l = [70, 66, 1]) := by
  match l, h with
  | [a, b, c], _ =>
    have ha := hB a (by simp)
    have hb := hB b (by simp)
    have hc := hB c (by simp)
    rw [str3]
    show (UInt8.ofNat a.toNat == UInt8.ofNat 70 && (UInt8.ofNat b.toNat == UInt8.ofNat 66 && (UInt8.ofNat c.toNat == UInt8.ofNat 1 && true))) = _
    rw [u8_is a 70 (by omega) ha.1 ha.2, u8_is b 66 (by omega) hb.1 hb.2, u8_is c 1 (by omega) hc.1 hc.2]
    simp

set_option maxHeartbeats 1000000 in
set_option maxRecDepth 100000 in
theorem readHead_any (s : Sl) (w : World) (hs : s.Ok w) :
    Calls Try.prog 11 #[s.v] w fun e w' => e = .returned (.tuple #[.int .i64 (rdH s.l).1, .int .i64 (rdH s.l).2.1, .int .i64 (rdH s.l).2.2]) ∧ w' = w := by
  have hmx := hs.mx
  have hle := hs.le
  have hlen := hs.len
  unfold maxLen at hmx
  have hsv : s.v = .slice s.a s.n s.c := rfl
  rw [hsv]
  by_cases h4 : s.n < 4
  · have HL : Hid (rdH s.l = (0, 0, 90)) := by
      unfold rdH; rw [if_neg]; exact hide rfl
      rintro ⟨-, h⟩
      rw [List.getD_eq_getElem?_getD, List.getElem?_eq_none (by omega)] at h
      simp at h
    rw [unhide HL]
    go_enter Try.func11, Try.ntmps11
    go_wp2
    go_ret3
    exact ⟨rfl, rfl⟩
  · obtain ⟨bk, off, ha, hbl, hc⟩ := hs.lies (by omega)
    have c3 := hc 3 (by omega)
    have b3 := hs.isB.at 3
    have kw := run_convert_bytes_arg (P := Try.prog) w 22 5 Try.underlying22 Try.underlying5 bk off 3 s.c (s.l.take 3) (by simp; omega) (fun i hi => by rw [hc i (by omega)]; simp [List.getD_eq_getElem?_getD, hi]) 9 Try.underlying9
    have hs3 := str3_is (s.l.take 3) (by simp; omega) (hs.isB.take 3)
    rw [ha]
    have HR : Hid (rdH s.l = if s.l.take 3 = [70, 66, 1] ∧ 0 < s.l.getD 3 0 then (s.l.getD 3 0, 4, 0) else (0, 0, 90)) := hide rfl
    generalize s.l.getD 3 0 = x at *
    generalize strOfNums (s.l.take 3) = S at *
    clear hc hs hlen
    by_cases h3 : s.l.take 3 = [70, 66, 1]
    · rw [decide_eq_true h3] at hs3
      by_cases hx : x = 0
      · have HL : Hid (rdH s.l = (0, 0, 90)) := by rw [unhide HR, if_neg (by omega)]; exact hide rfl
        rw [unhide HL]
        clear h3
        go_enter Try.func11, Try.ntmps11
        go_wp2
        go_ret3
        exact ⟨rfl, rfl⟩
      · have HL : Hid (rdH s.l = (x, 4, 0)) := by rw [unhide HR, if_pos ⟨h3, by omega⟩]; exact hide rfl
        rw [unhide HL]
        clear h3
        go_enter Try.func11, Try.ntmps11
        go_wp2
        go_ret3
        exact ⟨rfl, rfl⟩
    · rw [decide_eq_false h3] at hs3
      have HL : Hid (rdH s.l = (0, 0, 90)) := by rw [unhide HR, if_neg (fun h => h3 h.1)]; exact hide rfl
      rw [unhide HL]
      clear h3
      go_enter Try.func11, Try.ntmps11
      go_wp2
      go_ret3
      exact ⟨rfl, rfl⟩
end Go.Proofs.Ytiloacnjgaoceaa
