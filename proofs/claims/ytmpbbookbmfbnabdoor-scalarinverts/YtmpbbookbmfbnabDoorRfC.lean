import Derived.Test.YtmpbbookbmfbnabDoorRfB
import Derived.BigQuiet
namespace Go.Proofs.YtmpbbookbmfbnabDoor
open Go.RowKit

/-! The document's numbers: taken away, told; the order; a bit. -/
def ordB : List Int := [237, 211, 245, 92, 26, 99, 18, 88, 214, 156, 247, 162, 222, 249, 222, 20, 0, 0, 0, 0, 0, 0, 0, 0, 0, 0, 0, 0, 0, 0, 0, 16]
theorem ordB_num : num 256 ordB = LL := by decide
theorem ordB_dg : Dg 256 ordB := by unfold Dg ordB; decide
theorem own_new (w : World) (l : List Int) (h : l.length ≤ maxLen) : Own (w.alloc (.cells (I64 l).toArray 3 (0, 0))) w.heap.size (.slice (some ⟨w.heap.size, 0, none⟩) l.length l.length) l := by
  refine ⟨by simp, Or.inr ⟨w.heap.size, l.length, (I64 l).toArray, rfl, Nat.le_refl _, heap_alloc_last w _, Nat.le_refl _, h, by simp, ?_⟩⟩
  rw [List.take_of_length_le (by simp)]
set_option maxHeartbeats 1000000 in
set_option maxRecDepth 100000 in
theorem rOrder_any (w : World) :
    Calls Tryd.prog 28 #[] w fun r w' => ∃ v, r = .returned v ∧ Own w' w.heap.size v ordB ∧ Below w.heap.size w w' := by
  go_enter Tryd.func28, Tryd.ntmps28
  go_wp2_with fail
  go_ret
  exact ⟨_, rfl, own_new w ordB (by decide), (Below.refl _ _).alloc (Nat.le_refl _) _⟩
structure MnR (X Y : Int) (w : World) (k : Nat) (o : Int) (v : Value) (wr : World) : Prop where
  ho : wr.ownsRow w.heap.size 3 1 v k (I64 (dg 256 k (X - Y)))
  hb : Below w.heap.size w wr
  hc : o = X / 256 ^ k - Y / 256 ^ k - (X - Y) / 256 ^ k
  c01 : 0 ≤ o ∧ o ≤ 1
set_option maxHeartbeats 2000000 in
set_option maxRecDepth 100000 in
theorem rMinus_any (l m : List Int) (v u : Value) (N : Nat) (w : World) (h : NS w v l) (k : NS w u m) (hdl : Dg 256 l) (hdm : Dg 256 m) (hN : l.length = N) (hNN : N ≤ 1000) :
    Calls Tryd.prog 27 #[v, u] w fun r w' => ∃ z, r = .returned z ∧ w'.ownsRow w.heap.size 3 1 z N (I64 (dg 256 N (num 256 l - num 256 m))) ∧ Below w.heap.size w w' := by
  obtain ⟨b, off, cap, rfl, h1, h2, h3, h4⟩ := h.ex
  rw [hN] at h1 h4 ⊢
  have HU := hide k
  have HDL := hide (fun i => num_getD hdl i)
  have HDM := hide (fun i => num_getD hdm i)
  have HB := hide h3
  have H4 := hide h4
  have HNN := hide hNN
  clear h k hdl hdm hN h4 h3
  go_enter Tryd.func27, Tryd.ntmps27
  go_wp2_with fail
  go_loopw [5, 6, 7] (fun z c i wr => ∃ (k : Nat) (q : Int), k ≤ N ∧ i = .int .i64 k ∧ c = .int .i64 q ∧ MnR (num 256 l) (num 256 m) w k q z wr) (fun _ _ i _ => N - (intOf i).toNat)
  case atStart => exact ⟨0, 0, by omega, rfl, rfl, World.ownsRow_nil _ _ _ _, Below.refl _ _, by rw [Int.pow_zero, Int.ediv_one, Int.ediv_one, Int.ediv_one]; omega, by decide, by decide⟩
  case round =>
    obtain ⟨k, q, hk, rfl, rfl, I⟩ := hrel
    by_cases hlt : k < N
    · have hlt' : (k : Int) < (N : Int) := by omega
      have c0 := (I.hb.cell (p := ⟨b, off + k, none⟩) (unhide HB)).trans (unhide H4 k hlt)
      have x1 := unhide HDL k
      have x2 := unhide HDM k
      generalize hx : l.getD k 0 = x at x1 c0
      generalize hy : m.getD k 0 = y at x2
      obtain ⟨t1, t2⟩ := sub_step (num 256 l) (num 256 m) k q I.hc I.c01 _ rfl
      rw [x1, x2] at t1 t2
      have bx : 0 ≤ x ∧ x < 256 := by rw [← x1]; exact ⟨Int.emod_nonneg _ (by decide), Int.emod_lt_of_pos _ (by decide)⟩
      have by_ : 0 ≤ y ∧ y < 256 := by rw [← x2]; exact ⟨Int.emod_nonneg _ (by decide), Int.emod_lt_of_pos _ (by decide)⟩
      have bq := I.c01
      have HY := hide hy
      have w6 : wrap64 (x - y) = x - y := by unfold wrap64; omega
      have w7 : wrap64 (x - y - q) = x - y - q := by unfold wrap64; omega
      have i6 : IntKind.i64.wrap (x - y) = x - y := by rw [IntKind.wrap_i64]; omega
      have i7 : IntKind.i64.wrap (x - y - q) = x - y - q := by rw [IntKind.wrap_i64]; omega
      have w8 : wrap64 (x - y - q + 256) = x - y - q + 256 := by unfold wrap64; omega
      have T1 := hide t1
      have T2 := hide t2
      clear hx hy x1 x2 t1 t2 bx by_ bq
      have hown := I.ho
      have hbl := I.hb
      clear I
      generalize hD : dg 256 k (num 256 l - num 256 m) = D at hown
      have HD := hide hD
      clear hD
      have hat := fun w' (hb' : Below w.heap.size w w') => rAt_any m u k y w' ((unhide HU).later hb') (unhide HY)
      go_wp2_with fail
      replace hbl := hbl.drew
      replace hown := own_later hown ((Below.refl _ _).drew : Below wr.heap.size wr wr.drew)
      refine wp_region_held_drew (S := fun w' => w'.cell? ⟨b, off + k, none⟩ = some (.int .i64 x)) (by kernel_rfl) c0 (fun hHeld => ?_)
      clear c0
      generalize wr.drew = v0 at hbl hown hHeld ⊢
      refine wpAnyH_take (i := 0) (oi := _) (v := .slice (some ⟨b, off, none⟩) N cap) rfl (by kernel_rfl) (by kernel_rfl) (by kernel_rfl) (fun _ _ _ h => h) (Or.inl ⟨by rfl, fun w hSw => by go_simp⟩) hHeld ?_
      simp [Act.put]
      refine wpAnyH_take (i := 1) (oi := _) (v := .int .i64 k) rfl (by kernel_rfl) (by kernel_rfl) (by kernel_rfl) (fun _ _ _ h => h) (Or.inl ⟨by rfl, fun w hSw => by go_simp⟩) hHeld ?_
      simp [Act.put]
      refine wpAnyH_take (i := 2) (oi := _) (v := .pointer (some ⟨b, off + k, none⟩)) rfl (by kernel_rfl) (by kernel_rfl) (by kernel_rfl) (fun _ _ _ h => h) (Or.inl ⟨by rfl, fun w hSw => by go_simp⟩) hHeld ?_
      simp [Act.put]
      refine wpAnyH_take (i := 3) (oi := _) (v := .int .i64 x) rfl (by kernel_rfl) (by kernel_rfl) (by kernel_rfl) (fun _ _ _ h => h) (Or.inl ⟨by rfl, fun w hSw => by go_simp⟩) hHeld ?_
      simp [Act.put]
      refine wpAnyH_take (i := 4) (oi := _) (v := u) rfl (by kernel_rfl) (by kernel_rfl) (by kernel_rfl) (fun _ _ _ h => h) (Or.inl ⟨by rfl, fun w hSw => by go_simp⟩) hHeld ?_
      simp [Act.put]
      refine wpAnyH_take (i := 5) (oi := _) (v := .int .i64 k) rfl (by kernel_rfl) (by kernel_rfl) (by kernel_rfl) (fun _ _ _ h => h) (Or.inl ⟨by rfl, fun w hSw => by go_simp⟩) hHeld ?_
      simp [Act.put]
      refine wpAnyH_take (i := 8) (oi := _) (v := .int .i64 q) rfl (by kernel_rfl) (by kernel_rfl) (by kernel_rfl) (fun _ _ _ h => h) (Or.inl ⟨by rfl, fun w hSw => by go_simp⟩) hHeld ?_
      simp [Act.put]
      refine wpAnyH_ready (rs := [6]) (by kernel_rfl) (by simp) ?_
      refine AllReadyH.cons rfl (fun K hK => ?_) AllReadyH.nil
      go_simp
      refine (hat _ hbl).mono ?_
      rintro r v1 ⟨rfl, rfl⟩
      refine hK.out _ _ hHeld (fun hHeld => ?_)
      clear hK K
      refine wpAnyH_take (i := 7) (oi := _) (v := .int .i64 (x - y)) rfl (by kernel_rfl) (by kernel_rfl) (by kernel_rfl) (fun _ _ _ h => h) (Or.inl ⟨by rfl, fun w hSw => by go_simp⟩) hHeld ?_
      simp [Act.put]
      refine wpAnyH_take (i := 9) (oi := _) (v := .int .i64 (x - y - q)) rfl (by kernel_rfl) (by kernel_rfl) (by kernel_rfl) (fun _ _ _ h => h) (Or.inl ⟨by rfl, fun w hSw => by go_simp⟩) hHeld ?_
      simp [Act.put]
      refine wpAnyH_take (i := 10) (oi := _) (v := .int .i64 (x - y - q)) rfl (by kernel_rfl) (by kernel_rfl) (by kernel_rfl) (fun _ _ _ h => h) (Or.inl ⟨by rfl, fun w hSw => by go_simp⟩) hHeld ?_
      simp [Act.put]
      refine wpAnyH_done (by kernel_rfl) ?_ _
      clear hHeld hat
      by_cases hneg : x - y - q < 0
      · obtain ⟨r1, r2⟩ := unhide T1 (by omega)
        have R1 := hide r1
        have R2 := hide r2
        clear r1 r2
        go_wp2_with (at_builtin; refine wpList_push rfl (.tmp 29) (.tmp 31) rfl w.heap.size _ k D _ rfl rfl hown (by have := unhide HNN; omega) hbl (Nat.le_refl _) ?_; intro v' w' hown' hbl')
        go_roundw
        case rel =>
          have h1 := unhide hown'
          rw [unhide R1, ← unhide HD, ← dg_snoc] at h1
          exact ⟨k + 1, 1, by omega, by go_num, rfl, h1, unhide hbl', unhide R2, by decide, by decide⟩
        case measure => simp [intOf]; omega
      · obtain ⟨r1, r2⟩ := unhide T2 (by omega)
        have R1 := hide r1
        have R2 := hide r2
        clear r1 r2
        go_wp2_with (at_builtin; refine wpList_push rfl (.tmp 29) (.tmp 31) rfl w.heap.size _ k D _ rfl rfl hown (by have := unhide HNN; omega) hbl (Nat.le_refl _) ?_; intro v' w' hown' hbl')
        go_roundw
        case rel =>
          have h1 := unhide hown'
          rw [unhide R1, ← unhide HD, ← dg_snoc] at h1
          exact ⟨k + 1, 0, by omega, by go_num, rfl, h1, unhide hbl', unhide R2, by decide, by decide⟩
        case measure => simp [intOf]; omega
    · have : k = N := by omega
      subst this
      have hlt' : ¬ (k : Int) < (k : Int) := by omega
      have hown := I.ho
      have hbl := I.hb
      have HO := hide hown
      clear hk hlt I hown
      go_wp2_with fail
      go_ret
      exact ⟨_, rfl, unhide HO, hbl⟩
structure TlR (l : List Int) (X : Int) (w : World) (k : Nat) (wr : World) : Prop where
  hr : Arr wr w.heap.size 23 (U8 (List.replicate 32 0))
  hn : Arr wr (w.heap.size + 1) 23 (U8 (dg 256 k X ++ List.replicate (32 - k) 0))
  hb : Below w.heap.size w wr
set_option maxHeartbeats 1000000 in
set_option maxRecDepth 100000 in
theorem rTell_any (l : List Int) (v : Value) (w : World) (h : NS w v l) (hdl : Dg 256 l) :
    Calls Tryd.prog 23 #[v] w fun r w' => r = .returned (.agg (U8 (dg 256 32 (num 256 l))).toArray) ∧ Below w.heap.size w w' := by
  have HV := hide h
  have HDL := hide (fun i => num_getD hdl i)
  clear h hdl
  go_enter Tryd.func23, Tryd.ntmps23
  go_wp2_with fail
  go_loopw [4] (fun i wr => ∃ (k : Nat), k ≤ 32 ∧ i = .int .i64 k ∧ TlR l (num 256 l) w k wr) (fun i _ => 32 - (intOf i).toNat)
  case atStart =>
    obtain ⟨h0, h1, hb, -⟩ := after2 (Below.refl _ _ : Below ((w.alloc (.cells (U8 (List.replicate 32 0)).toArray 23)).alloc (.cells (U8 (List.replicate 32 0)).toArray 23)).heap.size _ _)
    exact ⟨0, by omega, rfl, h0, h1, hb⟩
  case round =>
    obtain ⟨k, hk, rfl, I⟩ := hrel
    by_cases hlt : k < 32
    · have f2 := I.hn.frozen k
      have c2 := I.hn.cell8 k (by simp [dg_len]; omega)
      have x1 := unhide HDL k
      generalize hx : l.getD k 0 = x at x1
      have bx : 0 ≤ x ∧ x < 256 := by rw [← x1]; exact ⟨Int.emod_nonneg _ (by decide), Int.emod_lt_of_pos _ (by decide)⟩
      have e1 : x % 256 = x := by omega
      have HE := hide e1
      have HX := hide hx
      have X1 := hide x1
      have HI := hide I
      clear hx x1 bx e1 I
      go_wp2_with fail
      refine (rAt_any l v k x _ ((unhide HV).later (unhide HI).hb) (unhide HX)).mono ?_
      rintro r w2 ⟨rfl, rfl⟩
      go_wp2_with fail
      rw [unhide HE]
      go_roundw
      case rel =>
        have I := unhide HI
        have h3 := I.hn.set8 k x
        rw [← unhide X1, dg_put 256 (by decide) 32 k _ hlt] at h3
        rw [← unhide X1]
        exact ⟨k + 1, by omega, by go_num, I.hr.other _ (by show w.heap.size ≠ w.heap.size + 1; omega), h3, I.hb.setCell (by show w.heap.size ≤ w.heap.size + 1; omega) _⟩
      case measure => simp [intOf]; omega
    · have : k = 32 := by omega
      subst this
      clear hk hlt
      have hn := I.hn
      rw [dg_all] at hn
      have hr := I.hr
      have hb := I.hb
      have hz := szS (dg_len 256 32 (num 256 l))
      clear I
      go_wp2_with (first
        | refine wpList_load_row rfl 23 (.tmp 3) rfl _ rfl 23 _ (0, 0) _ hn Tryd.underlying23 rfl hz ?_
        | refine wpList_store_row rfl 23 (.tmp 2) (.tmp 15) rfl _ _ rfl rfl 23 _ hr hz (sz_eq8 (by rw [dg_len]; rfl)) (all_one (U8_one _)) ?_)
      refine bodyPost_ret (results_cell_row rfl _ _ _ 23 _ (0, 0) _ rfl (setRow_heap _ _ _ _ _ _ hr) Tryd.underlying23 rfl hz) rfl ?_
      exact ⟨rfl, below_setRow hb (by omega) _⟩
theorem bit_of (X : Int) (i : Nat) : X / 256 ^ (i / 8) % 256 / 2 ^ (i % 8) % 2 = X / 2 ^ i % 2 := by
  have e : (2 : Int) ^ i = 256 ^ (i / 8) * 2 ^ (i % 8) := by
    rw [show (256 : Int) = 2 ^ 8 from rfl, ← Int.pow_mul, ← Int.pow_add]
    congr 1; omega
  have hp : (0 : Int) < 256 ^ (i / 8) := Int.pow_pos (by decide)
  rw [e, ← ediv2 _ _ _ hp]
  generalize X / 256 ^ (i / 8) = q
  have h8 : i % 8 < 8 := Nat.mod_lt _ (by decide)
  generalize i % 8 = r at h8
  have : r = 0 ∨ r = 1 ∨ r = 2 ∨ r = 3 ∨ r = 4 ∨ r = 5 ∨ r = 6 ∨ r = 7 := by omega
  rcases this with rfl | rfl | rfl | rfl | rfl | rfl | rfl | rfl <;> simp <;> omega
set_option maxHeartbeats 1000000 in
set_option maxRecDepth 100000 in
theorem rBit_any (l : List Int) (v : Value) (i : Nat) (w : World) (h : NS w v l) (hdl : Dg 256 l) (hi : i < 100000) :
    Calls Tryd.prog 42 #[v, .int .i64 i] w fun r w' => r = .returned (.int .i64 (num 256 l / 2 ^ i % 2)) ∧ w' = w := by
  have hx := num_getD hdl (i / 8)
  have hbt := bit_of (num 256 l) i
  generalize num 256 l / 256 ^ (i / 8) % 256 = x at hx hbt
  have bx : 0 ≤ x ∧ x < 256 := by rw [hx]; exact hdl.at (by decide) (i / 8)
  have HV := hide h
  have HX := hide hx.symm
  have HBT := hide hbt
  have HBX := hide bx
  clear h hdl hx hbt bx
  go_enter Tryd.func42, Tryd.ntmps42
  go_wp2_with fail
  refine (rAt_any l v (i / 8) x _ (unhide HV) (unhide HX)).mono ?_
  rintro r w1 ⟨rfl, rfl⟩
  go_wp2_with fail
  go_loopw [5, 6] (fun d j wr => ∃ (k : Nat), k ≤ i % 8 ∧ j = .int .i64 k ∧ d = .int .i64 (x / 2 ^ k) ∧ wr = w1) (fun _ j _ => 8 - (intOf j).toNat)
  case atStart => exact ⟨0, by omega, rfl, by simp, rfl⟩
  case round =>
    obtain ⟨k, hk, rfl, rfl, rfl⟩ := hrel
    have hy : 0 ≤ x / 2 ^ k := Int.ediv_nonneg (unhide HBX).1 (Int.le_of_lt (Int.pow_pos (by decide)))
    have hy2 : x / 2 ^ k ≤ x := Int.ediv_le_self _ (unhide HBX).1
    have hy3 := (unhide HBX).2
    by_cases hlt : k < i % 8
    · have w1 : (x / 2 ^ k).tdiv 2 = x / 2 ^ (k + 1) := by rw [Int.tdiv_eq_ediv_of_nonneg hy, ediv2 _ _ _ (Int.pow_pos (by decide)), ← Int.pow_succ]
      have w2 : wrap64 (x / 2 ^ (k + 1)) = x / 2 ^ (k + 1) := wrap64_b _ ⟨Int.ediv_nonneg (unhide HBX).1 (Int.le_of_lt (Int.pow_pos (by decide))), Int.lt_of_le_of_lt (Int.ediv_le_self _ (unhide HBX).1) (by omega)⟩
      have hlt' : (k : Int) < ((i % 8 : Nat) : Int) := by omega
      have W1 := hide w1
      have W2 := hide w2
      clear w1 w2 hy hy2 hy3
      go_wp2_with fail
      rw [unhide W1, unhide W2]
      go_roundw
      case rel => exact ⟨k + 1, by omega, by go_num, rfl, by trivial⟩
      case measure => simp [intOf]; omega
    · have : k = i % 8 := by omega
      subst this
      have hlt' : ¬ (((i % 8 : Nat) : Int) < ((i % 8 : Nat) : Int)) := by omega
      have w1 : (x / 2 ^ (i % 8)).tmod 2 = x / 2 ^ (i % 8) % 2 := Int.tmod_eq_emod_of_nonneg hy
      have W1 := hide w1
      clear w1 hy hy2 hy3 hk hlt
      go_wp2_with fail
      rw [unhide W1, unhide HBT]
      go_ret
      exact ⟨rfl, rfl⟩
end Go.Proofs.YtmpbbookbmfbnabDoor
