import Derived.Test.YtmpbbookbmfbnaaDoorRfD
import Derived.Test.YtmpbbookbmfbnaaDoorKnoW
namespace Go.Proofs.YtmpbbookbmfbnaaDoor
open Go.RowKit

/-! The document's Canonical and Reduce. -/
theorem own_NS {w : World} {base : Nat} {v : Value} {l : List Int} (h : Own w base v l) (hl : 0 < l.length) : NS w v l := NS.of h hl
set_option maxHeartbeats 1000000 in
set_option maxRecDepth 100000 in
theorem rCanonical_any (a : List Int) (w : World) (hl : a.length = 32) (hd : Dg 256 a) :
    Calls Tryd.prog 24 #[.agg (U8 a).toArray] w fun r w' => r = .returned (.bool (decide (num 256 a < LL))) ∧ Below w.heap.size w w' := by
  obtain ⟨W, hW, hA, hb, -⟩ := arr1 w 23 (U8 a)
  have HW := hide hW
  have HL := hide hl
  have HD := hide hd
  clear hW hl hd
  go_enter Tryd.func24, Tryd.ntmps24
  go_wp2_with fail
  rw [← unhide HW]
  refine (rOf_any a w.heap.size 32 W (unhide HL) (by decide) (unhide HD) ⟨_, hA⟩).mono ?_
  rintro r w1 ⟨v, rfl, ho, hbel⟩
  have HV := hide (NS.of ho (by rw [unhide HL]; decide))
  replace hb := bnext hb hb.size hbel
  clear hA ho hbel HW
  go_wp2_with fail
  refine (rOrder_any _).mono ?_
  rintro r w2 ⟨vo, rfl, ho, hbel⟩
  have HO := hide (NS.of ho (by decide))
  replace hb := bnext hb hb.size hbel
  replace HV := hide ((unhide HV).later hbel)
  clear ho hbel
  go_wp2_with fail
  refine (rLess_any a ordB v vo _ (unhide HV) (unhide HO) (by rw [unhide HL]; decide) (by decide) (unhide HD) ordB_dg).mono ?_
  rintro r w3 ⟨rfl, rfl⟩
  rw [ordB_num]
  go_wp2_with fail
  go_ret
  exact ⟨rfl, hb⟩
theorem tell_mod (n : Int) : dg 256 32 (num 256 (dg 256 33 (n % LL))) = Sc n := by
  have := modL n
  rw [num_dg 256 (by decide), Int.emod_eq_of_lt this.1 (Int.lt_trans this.2 (by decide))]
  rfl
set_option maxHeartbeats 1000000 in
set_option maxRecDepth 100000 in
theorem rReduce_any (a : List Int) (w : World) (hl : a.length = 64) (hd : Dg 256 a) :
    Calls Tryd.prog 23 #[.agg (U8 a).toArray] w fun r w' => r = .returned (.agg (U8 (Sc (num 256 a))).toArray) ∧ Below w.heap.size w w' := by
  obtain ⟨W, hW, hA, hR, hb, -⟩ := arr2 w 40 23 (U8 a) (U8 (List.replicate 32 0))
  have HW := hide hW
  have HL := hide hl
  have HD := hide hd
  clear hW hl hd
  go_enter Tryd.func23, Tryd.ntmps23
  go_wp2_with fail
  generalize hG : World.alloc _ _ = G
  obtain rfl : G = W := by rw [← hG]; exact (unhide HW).symm
  clear hG
  refine (rOf_any a w.heap.size 64 G (unhide HL) (by decide) (unhide HD) ⟨_, hA⟩).mono ?_
  rintro r w1 ⟨v, rfl, ho, hbel⟩
  have HV := hide (NS.of ho (by rw [unhide HL]; decide))
  replace hb := bnext hb hb.size hbel
  replace hR := hR.later hbel
  clear hA ho hbel HW
  go_wp2_with fail
  refine (rMod_any a v 64 _ (unhide HV) (unhide HD) (unhide HL) (by decide)).mono ?_
  rintro r w2 ⟨z, rfl, ho, hbel⟩
  have HZ := hide (NS.own ho (dg_len _ _ _) (by decide))
  replace hb := bnext hb hb.size hbel
  replace hR := hR.later hbel
  clear ho hbel
  go_wp2_with fail
  refine (rTell_any (dg 256 33 (num 256 a % LL)) z _ (unhide HZ) (Dg_dg _ (by decide) _ _)).mono ?_
  rintro r w3 ⟨rfl, hbel⟩
  rw [tell_mod]
  replace hb := bnext hb hb.size hbel
  replace hR := hR.later hbel
  clear hbel
  have hz := szS (Sc_len (num 256 a))
  go_wp2_with (refine wpList_store_row rfl 23 (.tmp 2) (.tmp 6) rfl _ _ rfl rfl 23 _ hR hz (sz_eq8 (by rw [Sc_len]; rfl)) (all_one (U8_one _)) ?_)
  refine bodyPost_ret (results_cell_row rfl _ _ _ 23 _ (0, 0) _ rfl (setRow_heap _ _ _ _ _ _ hR) Tryd.underlying23 rfl hz) rfl ?_
  exact ⟨rfl, below_setRow hb (by omega) _⟩
end Go.Proofs.YtmpbbookbmfbnaaDoor
