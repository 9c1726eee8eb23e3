import Derived.Test.YtkagnpnicbddlaaDoorShaM5
import Derived.Test.YtkagnpnicbddlaaDoorLoadW
namespace Go.Proofs.YtkagnpnicbddlaaDoor.S5
open Go.RowKit

theorem zero80 : (Tryd.prog.info? 84).map (fun i => (i.zero, i.size)) = some (some (.agg (U64 (List.replicate 80 0)).toArray), 80) := by kernel_rfl
/-- the zero of the array under a name, for the walk -/
theorem zero80_named : ∃ Z : List Value, Z = U64 (List.replicate 80 0) ∧ ∀ w, (zeroValue 84).run Tryd.prog w = .ok (.agg Z.toArray) w := ⟨_, rfl, (zero_of_info zero80).1⟩

theorem cell_set_off (w : World) (b : Nat) (v : Value) {i j : Nat} (h : i ≠ j) : (w.setCell ⟨b, j, none⟩ v).cell? ⟨b, i, none⟩ = w.cell? ⟨b, i, none⟩ := by
  apply World.cell?_setCell_other
  intro e
  exact h (congrArg Addr.off e).symm

theorem Tryd.sz80w : (Tryd.prog.info? 84).map (·.size) = some 80 := by kernel_rfl

structure SchedI (B : List Int) (w : World) (k : Nat) (wr : World) : Prop where
  blk : Arr wr w.heap.size 75 (U8 B)
  res : Arr wr (w.heap.size + 1) 84 (U64 (List.replicate 80 0))
  arr : Arr wr (w.heap.size + 1 + 1) 84 (U64 (schedA B k))
  bel : Below w.heap.size w wr

set_option maxHeartbeats 1000000 in
set_option maxRecDepth 100000 in
theorem schedule_any (B : List Int) (w : World) (hl : B.length = 128) (hB : IsB B) :
    Calls Tryd.prog 60 #[.agg (U8 B).toArray] w fun e w' => e = .returned (.agg (U64 (sched B 80)).toArray) ∧ Below w.heap.size w w' := by
  have HL := hide hl
  clear hl
  go_enter Tryd.func60, Tryd.ntmps60
  obtain ⟨Z, hZ, hzv⟩ := zero80_named
  have HZ := hide hZ
  clear hZ
  go_wp2_with fail
  rw [unhide HZ]
  clear HZ hzv
  go_loopw [6] (fun i wr => ∃ k : Nat, k ≤ 16 ∧ i = .int .i64 k ∧ SchedI B w k wr) (fun i _ => 16 - (intOf i).toNat)
  case atStart =>
    refine ⟨0, by omega, rfl, ?_⟩
    have hs : (((w.alloc (Obj.cells (U8 B).toArray 75)).alloc (Obj.cells (U64 (List.replicate 80 0)).toArray 84))).heap.size = w.heap.size + 1 + 1 := by simp
    have hs1 : (w.alloc (Obj.cells (U8 B).toArray 75)).heap.size = w.heap.size + 1 := by simp
    refine ⟨((Arr.new _ _ _).alloc _).alloc _, ?_, ?_, ((Below.refl _ _).alloc (Nat.le_refl _) _ |>.alloc (by rw [hs1]; omega) _).alloc (by rw [hs]; omega) _⟩
    · have := (Arr.new (w.alloc (Obj.cells (U8 B).toArray 75)) 84 (U64 (List.replicate 80 0))).alloc (Obj.cells (U64 (List.replicate 80 0)).toArray 84)
      rw [hs1] at this; exact this
    · have := Arr.new ((w.alloc (Obj.cells (U8 B).toArray 75)).alloc (Obj.cells (U64 (List.replicate 80 0)).toArray 84)) 84 (U64 (List.replicate 80 0))
      rw [hs] at this; rw [schedA_zero]; exact this
  case round =>
    obtain ⟨k, hk, rfl, I⟩ := hrel
    by_cases hlt : k < 16
    · have hfz := I.arr.frozen k
      have hcl := I.arr.cell64 k (by rw [schedA_length _ _ (by omega)]; omega)
      go_wp2_with fail
      have e4 : (8 * (k : Int)) = ((8 * k : Nat) : Int) := by omega
      rw [e4]
      clear e4
      refine (loadbe64_ok w.heap.size 0 128 128 (8 * k) B wr (unhide HL) hB I.blk.lies (by omega) (by omega) (by decide)).mono ?_
      rintro e w' ⟨rfl, rfl⟩
      have hx : leV ((B.drop (8 * k)).take 8).reverse = wordAt B k := rfl
      rw [hx]
      generalize hX : wordAt B k = X
      have HX := hide hX
      clear hX hx
      go_wp2
      go_roundw
      case rel =>
        refine ⟨k + 1, by omega, by go_num, I.blk.other _ (by show w.heap.size ≠ w.heap.size + 1 + 1; omega), I.res.other _ (by show w.heap.size + 1 ≠ w.heap.size + 1 + 1; omega), ?_, I.bel.setCell (by show w.heap.size ≤ w.heap.size + 1 + 1; omega) _⟩
        have := I.arr.set64 k X
        rwa [schedA_set B k (by omega) X (by rw [if_pos hlt]; exact (unhide HX).symm)] at this
      case measure => simp [intOf]; omega
    · have I16 : SchedI B w 16 wr := by
        have e : k = 16 := by omega
        rw [← e]; exact I
      clear I
      go_wp2_with fail
      clear hk hlt
      generalize (k : Int) = k0
      generalize decide (k0 < 16) = b0
      go_loopw [5] (fun i wr => ∃ k : Nat, 16 ≤ k ∧ k ≤ 80 ∧ i = .int .i64 k ∧ SchedI B w k wr) (fun i _ => 80 - (intOf i).toNat)
      case atStart => exact ⟨16, by omega, by omega, rfl, I16⟩
      case round =>
        clear I16
        obtain ⟨k, hk0, hk, rfl, I⟩ := hrel
        by_cases hlt : k < 80
        · have hfz := I.arr.frozen k
          have hL := schedA_length B k (by omega)
          have hcl := I.arr.cell64 k (by omega)
          have g2 := schedA_at B k (k - 2) (by omega)
          have g7 := schedA_at B k (k - 7) (by omega)
          have g15 := schedA_at B k (k - 15) (by omega)
          have g16 := schedA_at B k (k - 16) (by omega)
          have c2 := I.arr.cell64 (k - 2) (by omega)
          have c7 := I.arr.cell64 (k - 7) (by omega)
          have c15 := I.arr.cell64 (k - 15) (by omega)
          have c16 := I.arr.cell64 (k - 16) (by omega)
          have hW := sched_isW B k hB
          have b2 := hW.at (k - 2)
          have b15 := hW.at (k - 15)
          rw [g2] at c2
          rw [g7] at c7
          rw [g15] at c15
          rw [g16] at c16
          have HX : Hid (ad (ad (ad (s1Z ((sched B k).getD (k - 2) 0)) ((sched B k).getD (k - 7) 0)) (s0Z ((sched B k).getD (k - 15) 0))) ((sched B k).getD (k - 16) 0) = nextW (sched B k)) := by
            show _ = _; unfold nextW; rw [sched_length]
          generalize (sched B k).getD (k - 2) 0 = x2 at c2 b2 HX
          generalize (sched B k).getD (k - 7) 0 = x7 at c7 HX
          generalize (sched B k).getD (k - 15) 0 = x15 at c15 b15 HX
          generalize (sched B k).getD (k - 16) 0 = x16 at c16 HX
          generalize (schedA B k).getD k 0 = xk at hcl
          obtain ⟨m2, hm2, hn2⟩ : ∃ m, k - 2 = m ∧ (k : Int) - 2 = (m : Int) := ⟨k - 2, rfl, by omega⟩
          obtain ⟨m7, hm7, hn7⟩ : ∃ m, k - 7 = m ∧ (k : Int) - 7 = (m : Int) := ⟨k - 7, rfl, by omega⟩
          obtain ⟨m15, hm15, hn15⟩ : ∃ m, k - 15 = m ∧ (k : Int) - 15 = (m : Int) := ⟨k - 15, rfl, by omega⟩
          obtain ⟨m16, hm16, hn16⟩ : ∃ m, k - 16 = m ∧ (k : Int) - 16 = (m : Int) := ⟨k - 16, rfl, by omega⟩
          rw [hm2] at c2
          rw [hm7] at c7
          rw [hm15] at c15
          rw [hm16] at c16
          have d2 : (m2 : Int) < 80 := by omega
          have p2 : (0 : Int) ≤ (m2 : Int) := by omega
          have w2 : IntKind.i64.wrap ((k : Int) - 2) = (m2 : Int) := by rw [IntKind.wrap_i64]; omega
          have d7 : (m7 : Int) < 80 := by omega
          have p7 : (0 : Int) ≤ (m7 : Int) := by omega
          have w7 : IntKind.i64.wrap ((k : Int) - 7) = (m7 : Int) := by rw [IntKind.wrap_i64]; omega
          have d15 : (m15 : Int) < 80 := by omega
          have p15 : (0 : Int) ≤ (m15 : Int) := by omega
          have w15 : IntKind.i64.wrap ((k : Int) - 15) = (m15 : Int) := by rw [IntKind.wrap_i64]; omega
          have d16 : (m16 : Int) < 80 := by omega
          have p16 : (0 : Int) ≤ (m16 : Int) := by omega
          have w16 : IntKind.i64.wrap ((k : Int) - 16) = (m16 : Int) := by rw [IntKind.wrap_i64]; omega
          have ne2 : m2 ≠ k := by omega
          have ne7 : m7 ≠ k := by omega
          have ne15 : m15 ≠ k := by omega
          have ne16 : m16 ≠ k := by omega
          obtain ⟨b20, b21⟩ := b2
          obtain ⟨b150, b151⟩ := b15
          have B21 := hide b21
          have B151 := hide b151
          clear b21 b151
          clear hn2 hn7 hn15 hn16 hm2 hm7 hm15 hm16 g2 g7 g15 g16 hW hL
          have hI := hide I
          clear I
          go_wp2_with fail
          generalize hb : w.heap.size + 1 + 1 = b at *
          go_region_held3 (fun w' => w'.cell? ⟨b, m2, none⟩ = some (.int .u64 x2) ∧ w'.cell? ⟨b, m7, none⟩ = some (.int .u64 x7) ∧ w'.cell? ⟨b, m15, none⟩ = some (.int .u64 x15) ∧ w'.cell? ⟨b, m16, none⟩ = some (.int .u64 x16)) (first | go_keep | exact ⟨(cell_set_off _ _ _ ne2).trans (by go_keep), (cell_set_off _ _ _ ne7).trans (by go_keep), (cell_set_off _ _ _ ne15).trans (by go_keep), (cell_set_off _ _ _ ne16).trans (by go_keep)⟩)
            (first
              | (go_at_call 70; refine (smallSigma1_any x2 _ b20 (unhide B21)).mono ?_; rintro e w' ⟨rfl, kk, rfl⟩)
              | (go_at_call 71; refine (smallSigma0_any x15 _ b150 (unhide B151)).mono ?_; rintro e w' ⟨rfl, kk, rfl⟩))
          subst hb
          generalize hv : IntKind.u64.wrap (IntKind.u64.wrap (IntKind.u64.wrap (s1Z x2 + x7) + s0Z x15) + x16) = X
          have HV := hide hv
          clear hv
          go_wp2
          go_roundw
          case rel =>
            have I := unhide hI
            have hX : X = nextW (sched B k) := by
              rw [← unhide HX, ← unhide HV]
              simp only [IntKind.wrap_u64, ad]
            refine ⟨k + 1, by omega, by omega, by go_num, I.blk.drewN _ |>.other _ (by show w.heap.size ≠ w.heap.size + 1 + 1; omega), I.res.drewN _ |>.other _ (by show w.heap.size + 1 ≠ w.heap.size + 1 + 1; omega), ?_, (below_drewN I.bel _).setCell (by show w.heap.size ≤ w.heap.size + 1 + 1; omega) _⟩
            rw [← schedA_set B k (by omega) X (by rw [if_neg (by omega)]; exact hX)]
            exact (I.arr.drewN _).set64 k X
          case measure => simp [intOf]; omega
        · have : k = 80 := by omega
          subst this
          clear hk hlt
          have ha := I.arr
          rw [schedA_all] at ha
          have hLn : (sched B 80).length = 80 := sched_length B 80
          obtain ⟨L, hL⟩ : ∃ L, L = sched B 80 := ⟨_, rfl⟩
          rw [← hL] at ha hLn
          have HLL := hide hL
          have HLN := hide hLn
          clear hL hLn
          have hz : (Tryd.prog.info? 84).map (·.size) = some (U64 L).toArray.size := by rw [Tryd.sz80w]; simp [unhide HLN]
          have hbel := I.bel
          have hres := I.res
          clear I
          go_wp2_with (first
            | refine wpList_load_row rfl 84 (.tmp 3) rfl (w.heap.size + 1 + 1) rfl 84 _ (0, 0) _ ha Tryd.underlying84 rfl hz ?_
            | refine wpList_store_row rfl 84 (.tmp 2) (.tmp 46) rfl (w.heap.size + 1) _ rfl rfl 84 _ hres hz (by simp [unhide HLN]) (all_one (U64_one _)) ?_)
          refine bodyPost_ret (results_cell_row rfl _ _ (w.heap.size + 1) 84 _ (0, 0) _ rfl (Arr.setRow hres (U64 L)) Tryd.underlying84 rfl hz) rfl ?_
          rw [← unhide HLL]
          exact ⟨rfl, below_setRow hbel (by omega) _⟩
end Go.Proofs.YtkagnpnicbddlaaDoor.S5
