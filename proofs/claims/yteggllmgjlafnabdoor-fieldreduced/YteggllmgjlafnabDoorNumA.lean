import Derived.Test.YteggllmgjlafnabDoorFldC
import Derived.Test.YteggllmgjlafnabDoorDgN
namespace Go.Proofs.YteggllmgjlafnabDoor
open Go.RowKit

/-! The document's numbers: what is too much in a digit brought to the next one. -/
theorem Tryd.sz10 : (Tryd.prog.info? 42).map (·.size) = some 10 := by kernel_rfl
theorem szN {l : List Int} (h : l.length = 10) : (Tryd.prog.info? 42).map (·.size) = some (U64 l).toArray.size := by rw [Tryd.sz10]; simp [h]
theorem sz_eq {l m : List Int} (hl : l.length = 10) (hm : m.length = 10) : (U64 l).toArray.size = (U64 m).toArray.size := by simp [hl, hm]
theorem newS (w : World) (z c : Array Value) (t : TypeId) : ((w.alloc (.cells z t)).setRow w.heap.size c).heap[w.heap.size]? = some (.cells c t (0, 0)) ∧ Below w.heap.size w ((w.alloc (.cells z t)).setRow w.heap.size c) :=
  ⟨setRow_heap _ _ _ _ _ _ (new1 w z t).2.1, below_setRow (new1 w z t).2.2 (Nat.le_refl _) _⟩
structure CarI (l L : List Int) (w : World) (k : Nat) (wr : World) : Prop where
  ha : Arr wr w.heap.size 42 (U64 L)
  hr : Arr wr (w.heap.size + 1) 42 (U64 (List.replicate 10 0))
  hb : Below w.heap.size w wr
  hc : Cr B26 274877906944 l L k
set_option maxHeartbeats 1000000 in
set_option maxRecDepth 100000 in
theorem refCarried_any (l : List Int) (w : World) (hl : l.length = 10) (hd : ∀ i, 0 ≤ l.getD i 0 ∧ l.getD i 0 ≤ 4611686018427387904) :
    Calls Tryd.prog 52 #[.agg (U64 l).toArray] w fun r w' => r = .returned (.agg (U64 (crd (num B26 l))).toArray) ∧ Below w.heap.size w w' := by
  have HL := hide hl
  have HD := hide hd
  clear hl hd
  go_enter Tryd.func52, Tryd.ntmps52
  go_wp2_with fail
  go_loopw [3] (fun i wr => ∃ (k : Nat) (L : List Int), k ≤ 9 ∧ i = .int .i64 k ∧ CarI l L w k wr) (fun i _ => 9 - (intOf i).toNat)
  case atStart =>
    obtain ⟨h4, h5, hb, -⟩ := after2 (Below.refl _ _ : Below ((w.alloc (.cells (U64 l).toArray 42)).alloc (.cells (U64 (List.replicate 10 0)).toArray 42)).heap.size _ _)
    exact ⟨0, l, by omega, rfl, h4, h5, hb, Cr.start (by decide) (by rw [unhide HL]; decide)⟩
  case round =>
    obtain ⟨k, L, hk, rfl, I⟩ := hrel
    by_cases hlt : k < 9
    · have hLl : L.length = 10 := by rw [I.hc.len (by rw [unhide HL]; omega), unhide HL]
      have f0 := I.ha.frozen k
      have c0 := I.ha.cell64 k (by omega)
      have f1 := I.ha.frozen (k + 1)
      have c1 := I.ha.cell64 (k + 1) (by omega)
      have w1 : IntKind.i64.wrap ((k : Int) + 1) = ((k + 1 : Nat) : Int) := by rw [IntKind.wrap_i64]; omega
      have d1 : ((k + 1 : Nat) : Int) < 10 := by omega
      have p1 : (0 : Int) ≤ ((k + 1 : Nat) : Int) := by omega
      have HI := hide I
      clear I
      generalize hx0 : L.getD k 0 = x0 at c0
      generalize hx1 : L.getD (k + 1) 0 = x1 at c1
      have H0 := hide hx0
      have H1 := hide hx1
      clear hx0 hx1
      go_wp2_with fail
      go_region
      have hb0 := (unhide HI).hc.bd (unhide HD)
      rw [unhide H0] at hb0
      have hn1 := (unhide HI).hc.next (by rw [unhide HL]; omega)
      rw [unhide H1] at hn1
      have hb1 := unhide HD (k + 1)
      rw [← hn1] at hb1
      have e1 : IntKind.u64.wrap (x1 + x0 / 67108864) = x1 + x0 / 67108864 := by rw [IntKind.wrap_u64]; omega
      have e2 : bits .and .u64 x0 67108863 = x0 % 67108864 := and26 x0 ⟨by omega, by omega⟩
      rw [e1]
      have q2 : x0 / 67108864 ≤ 274877906944 := by omega
      have HB := hide hb0
      have HQ := hide q2
      clear hb0 hb1 hn1 q2 e1
      go_wp2_with fail
      go_roundw
      case rel =>
        have I := unhide HI
        have h3 := I.hc.step B26_pos (by rw [unhide HL]; omega) (by rw [unhide H0]; exact unhide HQ) (by rw [unhide H0]; exact (unhide HB).1)
        rw [unhide H0, unhide H1] at h3
        refine ⟨k + 1, _, by omega, by go_num, ?_, ?_, ?_, h3⟩
        · exact ((I.ha.set64 (k + 1) _).drewN 1).set64 k _
        · exact ((I.hr.other _ (by show w.heap.size + 1 ≠ w.heap.size; omega)).drewN 1).other _ (by show w.heap.size + 1 ≠ w.heap.size; omega)
        · exact (below_drewN (I.hb.setCell (by show w.heap.size ≤ w.heap.size; omega) _) 1).setCell (by show w.heap.size ≤ w.heap.size; omega) _
      case measure => simp [intOf]; omega
    · have : k = 9 := by omega
      subst this
      clear hk hlt
      have hE : L = crd (num B26 l) := I.hc.last B26_pos (by rw [unhide HL])
      subst hE
      have ha := I.ha
      have hr := I.hr
      have hb := I.hb
      have hz := szN (crd_len (num B26 l))
      have HM := hide (crd_len (num B26 l))
      clear I
      go_wp2_with (first
        | refine wpList_load_row rfl 42 (.tmp 1) rfl _ rfl 42 _ (0, 0) _ ha Tryd.underlying42 rfl hz ?_
        | refine wpList_store_row rfl 42 (.tmp 2) (.tmp 26) rfl _ _ rfl rfl 42 _ hr hz (sz_eq (List.length_replicate ..) (unhide HM)) (all_one (U64_one _)) ?_)
      refine bodyPost_ret (results_cell_row rfl _ _ _ 42 _ (0, 0) _ rfl (setRow_heap _ _ _ _ _ _ hr) Tryd.underlying42 rfl hz) rfl ?_
      exact ⟨rfl, below_setRow hb (by omega) _⟩
end Go.Proofs.YteggllmgjlafnabDoor
