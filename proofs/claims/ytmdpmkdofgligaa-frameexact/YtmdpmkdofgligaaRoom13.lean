import Derived.Test.YtmdpmkdofgligaaAppT
import Derived.Test.YtmdpmkdofgligaaSaW
namespace Go.Proofs.Ytmdpmkdofgligaa
open Go.RowKit

theorem xor8_bd (x y : Int) : 0 ≤ bits .xor .u8 x y ∧ bits .xor .u8 x y ≤ 255 := by
  have : bits .xor .u8 x y = ((BitVec.ofInt 8 x ^^^ BitVec.ofInt 8 y).toNat : Int) := by
    show IntKind.u8.wrap ((BitVec.ofInt 8 x ^^^ BitVec.ofInt 8 y).toNat : Int) = _
    rw [IntKind.wrap_u8']; have := (BitVec.ofInt 8 x ^^^ BitVec.ofInt 8 y).isLt; omega
  rw [this]
  have := (BitVec.ofInt 8 x ^^^ BitVec.ofInt 8 y).isLt
  omega
def xorC (c : Int) (l : List Int) : List Int := l.map fun x => bits .xor .u8 x c
@[simp] theorem xorC_length (c : Int) (l : List Int) : (xorC c l).length = l.length := by simp [xorC]
theorem xorC_isB (c : Int) (l : List Int) : IsB (xorC c l) := by
  intro x hx
  simp only [xorC, List.mem_map] at hx
  obtain ⟨y, -, rfl⟩ := hx
  exact xor8_bd y c

theorem IsB.app {a b : List Int} (ha : IsB a) (hb : IsB b) : IsB (a ++ b) := by
  intro x hx; rcases List.mem_append.1 hx with h | h
  · exact ha x h
  · exact hb x h
def marks2 : List Int := List.replicate 70 90
theorem marks2_length : marks2.length = 70 := List.length_replicate
theorem marks2_isB : IsB marks2 := fun x hx => by have := List.eq_of_mem_replicate hx; omega

set_option maxHeartbeats 2000000 in
set_option maxRecDepth 100000 in
theorem roomy_any (d : Sl) (w : World) (hd : d.Ok w) (hdn : d.n ≤ 200000) :
    Calls Try.prog 7 #[d.v] w fun e w' => ∃ g c, e = .returned (.slice (some ⟨g, 0, none⟩) (d.n + 70) c) ∧ w'.ownsRow w.heap.size 5 1 (.slice (some ⟨g, 0, none⟩) (d.n + 70) c) (d.n + 70) (U8 (d.l ++ marks2)) ∧ Below w.heap.size w w' := by
  obtain ⟨i0, hii, hz0, hz1, hz2⟩ := info_parts Try.infoB
  obtain ⟨da, dn, dc, l⟩ := d
  have hdn' : dn ≤ 200000 := hdn
  clear hdn
  simp only [Sl.v]
  go_enter Try.func7, Try.ntmps7
  go_wp2_with (at_builtin; refine wpList_append_sl rfl (.tmp 5) (.tmp 6) 29 rfl w.heap.size 5 i0 (.int .u8 0) Try.underlying29 hii hz0 hz1 hz2 rfl (.slice none 0 0) 0 [] rfl (World.ownsRow_nil _ _ _ _) ⟨da, dn, dc, l⟩ hd rfl (by show 0 + dn ≤ _; omega) (Nat.le_refl _) ?_; intro v2 w2 hown2 hgrow2)
  have hb2 : Below w.heap.size w w2 := below_grown (Below.refl _ _) (Nat.le_refl _) (World.ownsRow_nil _ _ 5 _) (unhide hgrow2)
  have hown' : w2.ownsRow w.heap.size 5 1 v2 (dn + 0) (U8 (l ++ List.replicate 0 90)) := by
    have h := unhide hown2
    simpa [U8] using h
  clear hown2 hgrow2
  go_wp2_with fail
  go_loopw [3, 4] (fun v i wr => ∃ k : Nat, k ≤ 70 ∧ i = .int .i64 k ∧ wr.ownsRow w.heap.size 5 1 v (dn + k) (U8 (l ++ List.replicate k 90)) ∧ Below w.heap.size w wr) (fun _ i _ => 70 - (intOf i).toNat)
  case atStart => exact ⟨0, by omega, rfl, hown', hb2⟩
  case round =>
    clear hown' hb2
    obtain ⟨k, hk, rfl, hown, hbl⟩ := hrel
    by_cases hlt : k < 70
    · go_wp2_with (at_builtin; refine wpList_append_own _ rfl _ _ 29 rfl w.heap.size 5 i0 (.int .u8 0) 1 1 Try.underlying29 hii hz0 hz1 hz2 rfl (by decide) _ (dn + k) (U8 (l ++ List.replicate k 90)) rfl (hown.alloc _) ⟨wr.heap.size, 0, none⟩ 1 1 [.int .u8 90] rfl rfl (cell_one_new _ _ _) (one_byte _) (by unfold maxLen; omega) (by omega) (by have := hbl.size; simp; omega) ?_)
      intro v4 w4 hown4 hgrow4 _
      have hb4 := below_app hbl (Nat.le_refl _) hown hgrow4
      rw [U8_snoc2, List.append_assoc, ← List.replicate_succ'] at hown4
      clear hgrow4 hown hbl
      go_wp2
      go_roundw
      case rel => exact ⟨k + 1, by omega, by go_num, hown4, hb4⟩
      case measure => simp [intOf]; omega
    · have hk8 : k = 70 := by omega
      subst hk8
      obtain ⟨g, c, rfl, -, -⟩ := hown.form (by omega)
      go_wp2
      go_ret
      exact ⟨g, c, rfl, hown, hbl⟩

/-- the first j bytes of the first n turned -/
def turnTo (l : List Int) (j : Nat) : List Int := xorC 5 (l.take j) ++ l.drop j
theorem turnTo_zero (l : List Int) : turnTo l 0 = l := by simp [turnTo, xorC]
@[simp] theorem turnTo_length (l : List Int) (j : Nat) : (turnTo l j).length = l.length := by simp [turnTo]; omega
theorem turnTo_at (l : List Int) (j : Nat) (h : j < l.length) : (turnTo l j).getD j 0 = l.getD j 0 := by
  unfold turnTo
  have hx : (xorC 5 (l.take j)).length = j := by simp; omega
  rw [List.getD_eq_getElem?_getD, List.getElem?_append_right (by omega), hx, Nat.sub_self, List.getD_eq_getElem?_getD, List.getElem?_drop]
  simp
theorem turnTo_set (l : List Int) (j : Nat) (h : j < l.length) : (turnTo l j).set j (bits .xor .u8 (l.getD j 0) 5) = turnTo l (j + 1) := by
  unfold turnTo
  have hx : (xorC 5 (l.take j)).length = j := by simp; omega
  rw [List.set_append_right _ _ (by omega), hx, Nat.sub_self, List.take_succ_eq_append_getElem h, List.drop_eq_getElem_cons h, getD_lt l j h]
  simp only [xorC, List.map_append, List.map_cons, List.map_nil, List.append_assoc, List.set_cons_zero, List.cons_append, List.nil_append]

set_option maxHeartbeats 2000000 in
set_option maxRecDepth 100000 in
theorem turn_any (g n m c c' base : Nat) (L : List Int) (w : World) (hown : w.ownsRow base 5 1 (.slice (some ⟨g, 0, none⟩) m c) m (U8 L)) (hnm : n ≤ m) (hm : m ≤ 1000000) :
    Calls Try.prog 17 #[.slice (some ⟨g, 0, none⟩) n c'] w fun e w' => e = .returned (.tuple #[]) ∧ w'.ownsRow base 5 1 (.slice (some ⟨g, 0, none⟩) m c) m (U8 (turnTo L n)) ∧ But g w w' := by
  have hL : L.length = m := by have := hown.1; simpa using this
  have HL := hide hL
  clear hL
  go_enter Try.func17, Try.ntmps17
  go_wp2_with fail
  go_loopw [2] (fun i wr => ∃ j : Nat, j ≤ n ∧ i = .int .i64 j ∧ wr.ownsRow base 5 1 (.slice (some ⟨g, 0, none⟩) m c) m (U8 (turnTo L j)) ∧ But g w wr) (fun i _ => n - (intOf i).toNat)
  case atStart => exact ⟨0, by omega, rfl, by rw [turnTo_zero]; exact hown, But.refl _ _⟩
  case round =>
    clear hown
    obtain ⟨j, hj, rfl, hown, hbut⟩ := hrel
    by_cases hlt : j < n
    · have hjz : (j : Int) < (n : Int) := by omega
      have hjL : j < L.length := by rw [unhide HL]; omega
      have hfz := hown.frozenAt j
      have hcl := (hown.cellAt j (by omega)).trans (U8_at _ j (by simpa using hjL))
      rw [turnTo_at L j hjL] at hcl
      have hst := (hown.stored j (.int .u8 (bits .xor .u8 (L.getD j 0) 5))).1
      rw [U8_set, turnTo_set L j hjL] at hst
      have hbs := hbut.setCell j (.int .u8 (bits .xor .u8 (L.getD j 0) 5))
      generalize L.getD j 0 = x at hcl hst hbs
      have HST := hide hst
      have HBS := hide hbs
      clear hst hbs hown hbut
      go_wp2
      go_roundw
      case rel => exact ⟨j + 1, by omega, by go_num, unhide HST, unhide HBS⟩
      case measure => simp [intOf]; omega
    · have hjn : j = n := by omega
      subst hjn
      go_wp2
      go_end0
      exact ⟨rfl, hown, hbut⟩
end Go.Proofs.Ytmdpmkdofgligaa
