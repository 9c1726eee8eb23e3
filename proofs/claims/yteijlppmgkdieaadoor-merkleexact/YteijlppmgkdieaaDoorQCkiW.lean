import Derived.Test.YteijlppmgkdieaaDoorQClbW
set_option linter.unusedVariables false
namespace Go.Proofs.YteijlppmgkdieaaDoor
open Go.RowKit

def eqB (a b : List Int) : Bool := decide (a = b)
theorem eqB_iff {a b : List Int} : eqB a b = true ↔ a = b := by simp [eqB]
theorem eqB_self (a : List Int) : eqB a a = true := by simp [eqB]
/-- is the proof taken? -/
def ckI (x : List Int) (i n : Int) (p : List (List Int)) (r : List Int) : Bool := inT i n && (decide (p.length = mplen i.toNat n.toNat) && eqB (climbZ i.toNat n.toNat x p) r)

set_option maxHeartbeats 2000000 in
set_option maxRecDepth 100000 in
theorem checkI_any (x : List Int) (i n : Int) (s : Hl) (r : List Int) (w : World) (hx : Hs x) (hr : Hs r) (hs : s.Ok w) (hL : Ld w) :
    Calls Tryd.prog 16 #[hV x, .int .i64 i, .int .i64 n, s.v, hV r] w fun e w' => e = .returned (.bool (ckI x i n s.ls r)) ∧ Below w.heap.size w w' := by
  obtain ⟨W, hW, hH, hb⟩ := hold2 w x r
  have HW := hide hW
  clear hW
  have hT := inTree_any i n W
  unfold ckI
  cases hin : inT i n
  · rw [hin] at hT
    simp only [Bool.false_and]
    clear hs
    obtain ⟨a, m, c, ls⟩ := s
    simp only [Hl.v] at *
    unfold hV
    go_enter Tryd.func16, Tryd.ntmps16
    go_upto_region 1 with fail
    rw [← unhide HW]
    rw [show Value.agg (U8 x).toArray = hV x from rfl, show Value.agg (U8 r).toArray = hV r from rfl]
    go_wp2_with (first
      | (go_at_call 33; refine hT.mono ?_; rintro e w1 ⟨rfl, h1⟩; obtain rfl := h1.symm))
    go_ret
    exact ⟨rfl, hb⟩
  · rw [hin] at hT
    obtain ⟨h1, h2, h3⟩ := inT_iff.1 hin
    obtain ⟨i', rfl⟩ := Int.eq_ofNat_of_zero_le h2
    obtain ⟨n', rfl⟩ := Int.eq_ofNat_of_zero_le (show 0 ≤ n by omega)
    simp only [Int.toNat_natCast, Bool.true_and]
    have hC := climb_any n' x i' s (by omega) (by omega) (by omega) hx W (hs.later hb) (hL.later hb)
    obtain ⟨q, hq⟩ : ∃ q, q = decide (s.ls.length = mplen i' n') := ⟨_, rfl⟩
    rw [← hq] at hC ⊢
    have HQ := hide hq
    obtain ⟨y, hy⟩ : ∃ y, y = climbZ i' n' x s.ls := ⟨_, rfl⟩
    rw [← hy]
    have HYY := hide hy
    clear hs hL h1 h2 h3 hq hin hy
    cases q
    · simp only [Bool.false_and]
      obtain ⟨a, m, c, ls⟩ := s
      simp only [Hl.v] at *
      unfold hV
      go_enter Tryd.func16, Tryd.ntmps16
      go_upto_region 1 with fail
      rw [← unhide HW]
      rw [show Value.agg (U8 x).toArray = hV x from rfl, show Value.agg (U8 r).toArray = hV r from rfl]
      go_wp2_with (first
        | (go_at_call 33; refine hT.mono ?_; rintro e w1 ⟨rfl, h1⟩; obtain rfl := h1.symm)
        | refine wpList_load_hs hH (.tmp 5) rfl (by kernel_rfl) w.heap.size x (by simp) hx.len rfl ?_
        | (go_at_call 34; refine hC.mono ?_; rintro e w2 ⟨h, hR2, rfl, hb2⟩; have hhl := hR2.1; have HR2 := hide hR2; clear hR2; replace hH := hH.later hb2; replace hb := bnext hb hb.size hb2; clear hb2)
        | (refine wpList_store_al rfl (.tmp 11) (.tmp 23) rfl hH h hhl.len _ rfl rfl rfl rfl ?_; intro w3 hH2 hb2; replace hH := hH2; replace hb := bnext hb hb.size hb2; clear hb2 hH2))
      go_ret
      exact ⟨rfl, hb⟩
    · simp only [Bool.true_and]
      obtain ⟨a, m, c, ls⟩ := s
      simp only [Hl.v] at *
      unfold hV
      go_enter Tryd.func16, Tryd.ntmps16
      go_upto_region 1 with fail
      rw [← unhide HW]
      rw [show Value.agg (U8 x).toArray = hV x from rfl, show Value.agg (U8 r).toArray = hV r from rfl]
      go_wp2_with (first
        | (go_at_call 33; refine hT.mono ?_; rintro e w1 ⟨rfl, h1⟩; obtain rfl := h1.symm)
        | refine wpList_load_hs hH (.tmp 5) rfl (by kernel_rfl) w.heap.size x (by simp) hx.len rfl ?_
        | (go_at_call 34; refine hC.mono ?_; rintro e w2 ⟨h, hR2, rfl, hb2⟩; have hhl := hR2.1; have HR2 := hide hR2; clear hR2; replace hH := hH.later hb2; replace hb := bnext hb hb.size hb2; clear hb2)
        | (refine wpList_store_al rfl (.tmp 11) (.tmp 23) rfl hH h hhl.len _ rfl rfl rfl rfl ?_; intro w3 hH2 hb2; replace hH := hH2; replace hb := bnext hb hb.size hb2; clear hb2 hH2)
        | refine wpList_load_hs hH (.tmp 11) rfl (by kernel_rfl) w2.heap.size h (by simp) hhl.len rfl ?_
        | refine wpList_load_hs hH (.tmp 9) rfl (by kernel_rfl) (w.heap.size + 1) r (by simp) hr.len rfl ?_
        | refine wpList_eqH (by kernel_rfl) (.tmp 27) (.tmp 28) rfl h r hhl.len hr.len (eqB h r) rfl rfl rfl ?_)
      go_ret
      have he : h = y := by rw [unhide HYY]; exact (unhide HR2).2 (of_decide_eq_true (unhide HQ).symm)
      subst he
      exact ⟨rfl, hb⟩
end Go.Proofs.YteijlppmgkdieaaDoor
