import Derived.Test.YtmpbbookbmfbnabDoorSclM
namespace Go.Proofs.YtmpbbookbmfbnabDoor
open Go.RowKit

/-! Numbers in words, by the program: bytes read and told. -/
theorem blk_lt {w : World} {g : Nat} {o : Obj} (h : w.heap[g]? = some o) : g < w.heap.size := by
  by_cases hb : g < w.heap.size
  · exact hb
  · rw [Array.getElem?_eq_none (by omega)] at h; simp at h
theorem keep {w w' : World} {g : Nat} {o : Obj} (h : w.heap[g]? = some o) (hb : Below w.heap.size w w') : w'.heap[g]? = some o := (hb.block g (blk_lt h)).trans h
theorem bnext {B : Nat} {a w w' : World} (h : Below B a w) (hB : B ≤ w.heap.size) (k : Below w.heap.size w w') : Below B a w' := h.trans (k.mono hB)
theorem new1 (w : World) (c : Array Value) (t : TypeId) : (w.alloc (.cells c t)).heap.size = w.heap.size + 1 ∧ (w.alloc (.cells c t)).heap[w.heap.size]? = some (.cells c t (0, 0)) ∧ Below w.heap.size w (w.alloc (.cells c t)) :=
  ⟨by simp, heap_alloc_last w _, (Below.refl _ _).alloc (Nat.le_refl _) _⟩
theorem after1 {w w' : World} {c : Array Value} {t : TypeId} (h : Below (w.alloc (.cells c t)).heap.size (w.alloc (.cells c t)) w') :
    w'.heap[w.heap.size]? = some (.cells c t (0, 0)) ∧ Below w.heap.size w w' ∧ w.heap.size < w'.heap.size := by
  obtain ⟨hs, h1, hb⟩ := new1 w c t
  have := h.size
  exact ⟨keep h1 h, bnext hb (by omega) h, by omega⟩
theorem after2 {w w' : World} {c d : Array Value} {t u : TypeId} (h : Below ((w.alloc (.cells c t)).alloc (.cells d u)).heap.size ((w.alloc (.cells c t)).alloc (.cells d u)) w') :
    w'.heap[w.heap.size]? = some (.cells c t (0, 0)) ∧ w'.heap[w.heap.size + 1]? = some (.cells d u (0, 0)) ∧ Below w.heap.size w w' ∧ w.heap.size + 1 < w'.heap.size := by
  obtain ⟨hs, h1, hb⟩ := new1 w c t
  obtain ⟨hs2, h2, hb2⟩ := new1 (w.alloc (.cells c t)) d u
  have := h.size
  rw [hs] at h2
  exact ⟨keep (keep h1 hb2) h, keep h2 h, bnext (bnext hb (by omega) hb2) (by omega) h, by omega⟩
theorem after3 {w w' : World} {c d e : Array Value} {t u v : TypeId} (h : Below (((w.alloc (.cells c t)).alloc (.cells d u)).alloc (.cells e v)).heap.size (((w.alloc (.cells c t)).alloc (.cells d u)).alloc (.cells e v)) w') :
    w'.heap[w.heap.size]? = some (.cells c t (0, 0)) ∧ w'.heap[w.heap.size + 1]? = some (.cells d u (0, 0)) ∧ w'.heap[w.heap.size + 1 + 1]? = some (.cells e v (0, 0)) ∧ Below w.heap.size w w' ∧ w.heap.size + 2 < w'.heap.size := by
  obtain ⟨hs, h1, hb⟩ := new1 w c t
  obtain ⟨hs2, h2, hb2⟩ := new1 (w.alloc (.cells c t)) d u
  obtain ⟨hs3, h3, hb3⟩ := new1 ((w.alloc (.cells c t)).alloc (.cells d u)) e v
  have := h.size
  rw [hs2, hs] at h3
  rw [hs] at h2
  exact ⟨keep (keep (keep h1 hb2) hb3) h, keep (keep h2 hb3) h, keep h3 h, bnext (bnext (bnext hb (by omega) hb2) (by omega) hb3) (by omega) h, by omega⟩
theorem nw3_0 (w : World) (c d e : Array Value) (t u v : TypeId) : (((w.alloc (.cells c t)).alloc (.cells d u)).alloc (.cells e v)).heap[w.heap.size]? = some (.cells c t (0, 0)) := (after3 (Below.refl _ _)).1
theorem nw3_1 (w : World) (c d e : Array Value) (t u v : TypeId) : (((w.alloc (.cells c t)).alloc (.cells d u)).alloc (.cells e v)).heap[w.heap.size + 1]? = some (.cells d u (0, 0)) := (after3 (Below.refl _ _)).2.1
theorem nw3_2 (w : World) (c d e : Array Value) (t u v : TypeId) : (((w.alloc (.cells c t)).alloc (.cells d u)).alloc (.cells e v)).heap[w.heap.size + 1 + 1]? = some (.cells e v (0, 0)) := (after3 (Below.refl _ _)).2.2.1
theorem nw2_0 (w : World) (c d : Array Value) (t u : TypeId) : ((w.alloc (.cells c t)).alloc (.cells d u)).heap[w.heap.size]? = some (.cells c t (0, 0)) := (after2 (Below.refl _ _)).1
theorem nw2_1 (w : World) (c d : Array Value) (t u : TypeId) : ((w.alloc (.cells c t)).alloc (.cells d u)).heap[w.heap.size + 1]? = some (.cells d u (0, 0)) := (after2 (Below.refl _ _)).2.1
theorem newS (w : World) (z c : Array Value) (t : TypeId) : ((w.alloc (.cells z t)).setRow w.heap.size c).heap[w.heap.size]? = some (.cells c t (0, 0)) ∧ Below w.heap.size w ((w.alloc (.cells z t)).setRow w.heap.size c) :=
  ⟨setRow_heap _ _ _ _ _ _ (new1 w z t).2.1, below_setRow (new1 w z t).2.2 (Nat.le_refl _) _⟩
theorem szS {l : List Int} (h : l.length = 32) : (Tryd.prog.info? 23).map (·.size) = some (U8 l).toArray.size := by
  have : (Tryd.prog.info? 23).map (·.size) = some 32 := by kernel_rfl
  rw [this]; simp [h]
theorem szW {l : List Int} (h : l.length = 64) : (Tryd.prog.info? 33).map (·.size) = some (U8 l).toArray.size := by
  have : (Tryd.prog.info? 33).map (·.size) = some 64 := by kernel_rfl
  rw [this]; simp [h]
theorem sz8 {l : List Int} (h : l.length = 8) : (Tryd.prog.info? 46).map (·.size) = some (U32 l).toArray.size := by
  have : (Tryd.prog.info? 46).map (·.size) = some 8 := by kernel_rfl
  rw [this]; simp [h]
theorem sz9 {l : List Int} (h : l.length = 9) : (Tryd.prog.info? 51).map (·.size) = some (U32 l).toArray.size := by
  have : (Tryd.prog.info? 51).map (·.size) = some 9 := by kernel_rfl
  rw [this]; simp [h]
theorem sz16 {l : List Int} (h : l.length = 16) : (Tryd.prog.info? 48).map (·.size) = some (U32 l).toArray.size := by
  have : (Tryd.prog.info? 48).map (·.size) = some 16 := by kernel_rfl
  rw [this]; simp [h]
theorem sz_eq32 {l m : List Int} (h : l.length = m.length) : (U32 l).toArray.size = (U32 m).toArray.size := by simp [h]
theorem sz_eq8 {l m : List Int} (h : l.length = m.length) : (U8 l).toArray.size = (U8 m).toArray.size := by simp [h]
theorem IsB.of {b : List Int} (h : Dg 256 b) : IsB b := fun x hx => by have := h x hx; omega
theorem Tryd.sz1u : (Tryd.prog.info? 5).map (·.size) = some 1 := by kernel_rfl
theorem bytes_is (b : List Int) {K : Nat} (hl : b.length = K) (hB : Dg 256 b) : b = dg 256 K (num 256 b) := by
  have := dg_num 256 (by decide) b hB
  rw [hl] at this; exact this.symm

structure WrdI (b : List Int) (n : Int) (w : World) (k : Nat) (wr : World) : Prop where
  ha : Arr wr w.heap.size 23 (U8 b)
  hr : Arr wr (w.heap.size + 1) 46 (U32 (List.replicate 8 0))
  hn : Arr wr (w.heap.size + 1 + 1) 46 (U32 (dg B32 k n ++ List.replicate (8 - k) 0))
  hb : Below w.heap.size w wr
set_option maxHeartbeats 1000000 in
set_option maxRecDepth 100000 in
theorem words_any (b : List Int) (w : World) (hl : b.length = 32) (hB : Dg 256 b) :
    Calls Tryd.prog 33 #[.agg (U8 b).toArray] w fun r w' => r = .returned (.agg (U32 (dg B32 8 (num 256 b))).toArray) ∧ Below w.heap.size w w' := by
  obtain ⟨n, hn⟩ : ∃ n, n = num 256 b := ⟨_, rfl⟩
  have hbn : b = dg 256 32 n := by rw [hn]; exact bytes_is b hl hB
  rw [← hn]
  have HL := hide hl
  have HB := hide (IsB.of hB)
  have HN := hide hbn
  clear hl hB hn hbn
  go_enter Tryd.func33, Tryd.ntmps33
  go_wp2_with fail
  go_loopw [5] (fun i wr => ∃ (k : Nat), k ≤ 8 ∧ i = .int .i64 k ∧ WrdI b n w k wr) (fun i _ => 8 - (intOf i).toNat)
  case atStart =>
    obtain ⟨h4, h5, h6, hb, -⟩ := after3 (Below.refl _ _ : Below (((w.alloc (.cells (U8 b).toArray 23)).alloc (.cells (U32 (List.replicate 8 0)).toArray 46)).alloc (.cells (U32 (List.replicate 8 0)).toArray 46)).heap.size _ _)
    exact ⟨0, by omega, rfl, h4, h5, h6, hb⟩
  case round =>
    obtain ⟨k, hk, rfl, I⟩ := hrel
    by_cases hlt : k < 8
    · have f2 := I.hn.frozen k
      have c2 := I.hn.cell32 k (by simp [dg_len]; omega)
      have q2 : IntKind.i64.wrap (4 * (k : Int)) = ((4 * k : Nat) : Int) := by rw [IntKind.wrap_i64]; omega
      have hlies : Lies wr (some ⟨w.heap.size, 0, none⟩) b := I.ha.lies
      have hw : leV ((b.drop (4 * k)).take 4) = n / B32 ^ k % B32 := by rw [unhide HN]; exact word_at 32 k n (by omega)
      have HI := hide I
      have HLI := hide hlies
      have HW := hide hw
      clear I hlies hw
      go_wp2_with fail
      refine (loadle32_ok w.heap.size 0 32 32 (4 * k) b _ (unhide HL) (unhide HB) (unhide HLI) (by omega) (by omega) (by decide)).mono ?_
      rintro r w1 ⟨rfl, rfl⟩
      rw [unhide HW]
      go_wp2_with fail
      go_roundw
      case rel =>
        have I := unhide HI
        have h3 := I.hn.set32 k (n / B32 ^ k % B32)
        rw [dg_put B32 B32_pos 8 k n hlt] at h3
        exact ⟨k + 1, by omega, by go_num, I.ha.other _ (by show w.heap.size ≠ w.heap.size + 1 + 1; omega), I.hr.other _ (by show w.heap.size + 1 ≠ w.heap.size + 1 + 1; omega), h3, I.hb.setCell (by show w.heap.size ≤ w.heap.size + 1 + 1; omega) _⟩
      case measure => simp [intOf]; omega
    · have : k = 8 := by omega
      subst this
      clear hk hlt
      have hn := I.hn
      rw [dg_all] at hn
      have hr := I.hr
      have hb := I.hb
      have hz := sz8 (dg_len B32 8 n)
      clear I
      go_wp2_with (first
        | refine wpList_load_row rfl 46 (.tmp 3) rfl _ rfl 46 _ (0, 0) _ hn Tryd.underlying46 rfl hz ?_
        | refine wpList_store_row rfl 46 (.tmp 2) (.tmp 18) rfl _ _ rfl rfl 46 _ hr hz (sz_eq32 (by rw [dg_len]; rfl)) (all_one (U32_one _)) ?_)
      refine bodyPost_ret (results_cell_row rfl _ _ _ 46 _ (0, 0) _ rfl (setRow_heap _ _ _ _ _ _ hr) Tryd.underlying46 rfl hz) rfl ?_
      exact ⟨rfl, below_setRow hb (by omega) _⟩

theorem run_index8w (b : List Int) (j : Nat) (w : World) (y : Int) (hj : j < 8) (hy : (U32 b)[j]? = some (.int .u32 y)) : (Instr.index 46 (.agg (U32 b).toArray) (.int .i64 j)).run Tryd.prog w = .ok (.int .u32 y) w := by
  simp [Instr.index, asIntOf, run_underlying Tryd.underlying46, part, hy, hj]
structure TldI (n : Int) (w : World) (k : Nat) (wr : World) : Prop where
  hr : Arr wr (w.heap.size + 1) 23 (U8 (List.replicate 32 0))
  hn : Arr wr (w.heap.size + 1 + 1) 23 (U8 (dg 256 (4 * k) n ++ List.replicate (32 - 4 * k) 0))
  hb : Below w.heap.size w wr
theorem le4_src (x : Int) (g : Nat) (w : World) (h : Arr w g 5 (U8 (leB 4 x))) : ∀ j v, (U8 (leB 4 x))[j]? = some v → w.cell? ((⟨g, 0, none⟩ : Addr).add j) = some v := by
  intro j v hv
  rw [addr_add, Nat.zero_add, h.cell]; exact hv
set_option maxHeartbeats 1000000 in
set_option maxRecDepth 100000 in
theorem told_any (n : Int) (w : World) :
    Calls Tryd.prog 30 #[.agg (U32 (dg B32 8 n)).toArray] w fun r w' => r = .returned (.agg (U8 (dg 256 32 n)).toArray) ∧ Below w.heap.size w w' := by
  obtain ⟨x, hx⟩ : ∃ x, x = dg B32 8 n := ⟨_, rfl⟩
  have hxl : x.length = 8 := by rw [hx, dg_len]
  rw [← hx]
  have HL := hide hxl
  have HX := hide hx
  clear hxl hx
  go_enter Tryd.func30, Tryd.ntmps30
  go_wp2_with (refine wpList_load_row rfl 46 (.tmp 1) rfl _ rfl 46 _ (0, 0) _ (nw3_0 w _ _ _ _ _ _) Tryd.underlying46 rfl (sz8 (unhide HL)) ?_)
  go_loopw [7] (fun i wr => ∃ (k : Nat), k ≤ 8 ∧ i = .int .i64 k ∧ TldI n w k wr) (fun i _ => 8 - (intOf i).toNat)
  case atStart =>
    obtain ⟨-, h5, h6, hb, -⟩ := after3 (Below.refl _ _ : Below (((w.alloc (.cells (U32 x).toArray 46)).alloc (.cells (U8 (List.replicate 32 0)).toArray 23)).alloc (.cells (U8 (List.replicate 32 0)).toArray 23)).heap.size _ _)
    exact ⟨0, by omega, rfl, h5, h6, hb⟩
  case round =>
    obtain ⟨j, hj, rfl, I⟩ := hrel
    by_cases hlt : j < 8
    · have hidx : (U32 x)[j]? = some (.int .u32 (n / B32 ^ j % B32)) := by
        rw [U32_at x j (by rw [unhide HL]; exact hlt), unhide HX, dg_at B32 B32_pos 8 j n hlt]
      have bx0 : 0 ≤ n / B32 ^ j % B32 := Int.emod_nonneg _ (by decide)
      have hstep := hide (told_step n j hlt)
      have hix := fun w' => run_index8w x j w' _ hlt hidx
      clear hidx
      generalize n / B32 ^ j % B32 = y at bx0 hstep hix
      have hS := I.hn
      have hlen : (dg 256 (4 * j) n ++ List.replicate (32 - 4 * j) 0).length = 32 := by simp [dg_len]; omega
      have HR := hide I.hr
      have hbl := I.hb
      have hlw : w.heap.size + 1 + 1 < wr.heap.size := I.hn.lt
      generalize dg 256 (4 * j) n ++ List.replicate (32 - 4 * j) 0 = cur at hS hlen hstep
      have HCL := hide hlen
      have HLW := hide hlw
      have q2 : IntKind.i64.wrap (4 * (j : Int)) = ((4 * j : Nat) : Int) := by rw [IntKind.wrap_i64]; omega
      have q3 : ((4 * j : Nat) : Int) ≤ 32 := by omega
      have q4 : ¬ 4 * j = 32 := by omega
      have q5 : ¬ 32 = 4 * j := by omega
      have q7 : (0 : Int) ≤ ((4 * j : Nat) : Int) := by omega
      obtain ⟨m, hm⟩ : ∃ m, 4 * j = m := ⟨_, rfl⟩
      rw [hm] at q2 q3 q4 q5 q7 hstep
      have q6 : m + 4 ≤ 32 := by omega
      have HM := hide hm
      clear hm I hlw hlen
      go_wp2_with fail
      clear hix
      go_region_held3 (fun _ => True) (trivial)
        (first
          | (go_at_call 44
             refine (storele32_any y _ bx0).mono ?_
             rintro e w6 ⟨rfl, hown6, hb6⟩
             have hS6 := hide (Arr.later (w := wr.drew) hS hb6)
             have HR6 := hide (Arr.later (w := wr.drew) (unhide HR) hb6)
             have hB6 := hide (hbl.trans ((show Below wr.heap.size wr w6 from ⟨hb6.os, hb6.tape, hb6.output, hb6.size, hb6.block⟩).mono hbl.size))
             have hs6 := hide (le4_src y wr.heap.size w6 (own_arr hown6))
             clear hown6 hb6)
          | (refine step_copy_splice rfl (.tmp 13) (.tmp 15) 42 42 rfl 5 Tryd.underlying42 Tryd.sz1u _ _ _ _ _ _ rfl rfl (w.heap.size + 1 + 1) m (U8 cur) 23 (unhide hS6) (U8 (leB 4 y)) (by rw [U8_length, leB_length]; exact (Nat.min_eq_left (by omega)).symm) (fun _ => ⟨rfl, _, rfl, unhide hs6⟩) (by rw [U8_length, U8_length, leB_length, unhide HCL]; omega) (U8_one _) (w.heap.size + 1 + 1) w6 (Below.refl _ _) (Nat.le_refl _) ?_
             intro w7 hg7 hb7))
      go_wp2
      go_roundw
      case rel =>
        have hg := unhide hg7
        rw [unhide hstep] at hg
        exact ⟨j + 1, by omega, by go_num, (unhide HR6).below hb7 (by omega), hg, (unhide hB6).trans (hb7.mono (by omega))⟩
      case measure => simp [intOf]; omega
    · have : j = 8 := by omega
      subst this
      clear hj hlt
      have hn := I.hn
      rw [show 4 * 8 = 32 by rfl, dg_all] at hn
      have hr := I.hr
      have hb := I.hb
      have hz := szS (dg_len 256 32 n)
      clear I
      go_wp2_with (first
        | refine wpList_load_row rfl 23 (.tmp 3) rfl _ rfl 23 _ (0, 0) _ hn Tryd.underlying23 rfl hz ?_
        | refine wpList_store_row rfl 23 (.tmp 2) (.tmp 18) rfl _ _ rfl rfl 23 _ hr hz (sz_eq8 (by rw [dg_len]; rfl)) (all_one (U8_one _)) ?_)
      refine bodyPost_ret (results_cell_row rfl _ _ _ 23 _ (0, 0) _ rfl (setRow_heap _ _ _ _ _ _ hr) Tryd.underlying23 rfl hz) rfl ?_
      exact ⟨rfl, below_setRow hb (by omega) _⟩
end Go.Proofs.YtmpbbookbmfbnabDoor
