import Derived.Test.YtmaammjfbheciaaDoorCmW
import Derived.Test.YtmaammjfbheciaaDoorPbW
import Derived.Deep.Cut
set_option linter.unusedVariables false
namespace Go.Proofs.YtmaammjfbheciaaDoor
open Go.RowKit Go.Maps

theorem Hold.walk {rows : List (Nat × List Int)} {w w' : World} {p b n : Nat} {sd : List Int} {s : Nat} {ds : List Nat} (h : Hold rows w) (hw : Wst w p b n sd s ds) (hb : Buts (fun k => k = p ∨ k = b) w w') : Hold rows w' := by
  intro q hq
  have ha := h q hq
  refine hb.arr ha ?_
  rintro (e | e)
  · have hp := hw.P
    rw [← e] at hp
    unfold Arr at ha hp
    rw [ha] at hp
    have h9 : (23 : Nat) = 55 := congrArg (fun o => match o with | some (.cells _ t _) => t | _ => 0) hp
    exact absurd h9 (by decide)
  · exact hw.M.ne ha e
theorem bel_walk {B : Nat} {w v v' : World} {p b : Nat} (h : Below B w v) (hB : B ≤ v.heap.size) (hp : B ≤ p) (hq : B ≤ b) (k : Buts (fun k => k = p ∨ k = b) v v') : Below B w v' :=
  h.trans (k.below hB (fun i hi => by rcases hi with rfl | rfl <;> assumption))
/-- where the law's loop stands: k values are told -/
structure ThI (w : World) (p b n : Nat) (v : List Int) (g9 : Nat) (k s st : Nat) (ds : List Nat) (wr : World) : Prop where
  W : Wst wr p b n v s ds
  S : ds.sum + k = n
  L : st ≤ s
  H : Hold [(g9, itZ (n - k) v), (w.heap.size, v)] wr
  B : Below w.heap.size w wr
  P : w.heap.size ≤ p ∧ w.heap.size ≤ b ∧ w.heap.size ≤ g9 ∧ w.heap.size ≠ g9

set_option maxHeartbeats 40000000 in
set_option maxRecDepth 100000 in
theorem thrift_law (v : List Int) (z : Int) (w : World) (hv : Hs v) (hL : Ld w) :
    Calls Tryd.prog 7 #[hV v, .int .i64 z] w fun e w' => e = .returned (.bool true) ∧ Below w.heap.size w w' := by
  obtain ⟨W, hW, hH, hb⟩ := hold1 w v
  have HW := hide hW
  have HL := hide hL
  clear hW hL
  have hR := sumZ_length v
  have C3 := hide (fun w1 hl => step_any v w1 hv hl)
  have C4 : Hid (∀ w1, Arr w1 w.heap.size 23 (U8 v) → Ld w1 → Calls Tryd.prog 10 #[.slice (some ⟨w.heap.size, 0, none⟩) 32 32] w1 fun e w' => e = .returned (hV (sumZ v)) ∧ Below w1.heap.size w1 w') := hide (fun w1 hA hl => sumSl w.heap.size v w1 hv hA hl)
  generalize sumZ v = R at C3 C4 hR
  cases d1 : decide (z < 1)
  rotate_left
  · as_aux_lemma =>
    unfold hV
    go_enter Tryd.func7, Tryd.ntmps7
    go_upto_region 1 with fail
    rw [show Value.agg (U8 v).toArray = hV v from rfl]
    rw [← unhide HW]
    refine wp_region_noPanic ?_
    replace hb := bnext hb hb.size (drew_below _)
    replace hH := hH.drew
    refine wp_region_held_drew (S := Hold _) (by kernel_rfl) hH (fun hHeld => ?_)
    clear hH
    generalize World.drew _ = v1 at hb hHeld ⊢
    refine wpAnyH_take (i := 0) (oi := _) (v := hV v) rfl (by kernel_rfl) (by kernel_rfl) (by kernel_rfl) (fun _ _ _ h => h) (yields_hs (by kernel_rfl) (.tmp 2) rfl (w.heap.size) v (by simp) hv.len rfl) hHeld ?_
    simp [Act.put]
    refine wpAnyH_take (i := 2) (oi := _) (v := .slice (some ⟨w.heap.size, 0, none⟩) 32 32) rfl (by kernel_rfl) (by kernel_rfl) (by kernel_rfl) (fun _ _ _ h => h) (Or.inl ⟨by rfl, fun w hSw => by go_simp⟩) hHeld ?_
    simp [Act.put]
    refine wpAnyH_ready (rs := [1]) (by kernel_rfl) (by simp) ?_
    refine AllReadyH.cons rfl (fun K hKK => ?_) AllReadyH.nil
    go_simp
    refine (unhide C3 _ ((unhide HL).later hb)).mono ?_
    rintro e v2 ⟨rfl, hb1⟩
    replace hb := bnext hb hb.size hb1
    refine hKK.out _ _ (hHeld.later hb1) (fun hHeld => ?_)
    clear hKK K hb1
    refine wpAnyH_ready (rs := [3]) (by kernel_rfl) (by simp) ?_
    refine AllReadyH.cons rfl (fun K hKK => ?_) AllReadyH.nil
    go_simp
    refine (unhide C4 _ (hHeld (w.heap.size, v) (by simp)) ((unhide HL).later hb)).mono ?_
    rintro e v3 ⟨rfl, hb1⟩
    replace hb := bnext hb hb.size hb1
    refine hKK.out _ _ (hHeld.later hb1) (fun hHeld => ?_)
    clear hKK K hb1
    refine wpAnyH_take (i := 4) (oi := _) (v := .bool (!true)) rfl (by kernel_rfl) (by kernel_rfl) (by kernel_rfl) (fun _ _ _ h => h) (yields_neH (by kernel_rfl) (.tmp 19) (.tmp 21) rfl R R hR hR true (by simp) rfl rfl) hHeld ?_
    simp [Act.put]
    refine wpAnyH_done (by kernel_rfl) ?_ _
    unfold NoPanic
    have hH := hHeld
    clear hHeld
    go_wp2_with fail
    go_ret
    exact ⟨rfl, hb⟩
  cases d2 : decide (4096 < z)
  rotate_left
  · as_aux_lemma =>
    unfold hV
    go_enter Tryd.func7, Tryd.ntmps7
    go_upto_region 1 with fail
    rw [show Value.agg (U8 v).toArray = hV v from rfl]
    rw [← unhide HW]
    refine wp_region_noPanic ?_
    replace hb := bnext hb hb.size (drew_below _)
    replace hH := hH.drew
    refine wp_region_held_drew (S := Hold _) (by kernel_rfl) hH (fun hHeld => ?_)
    clear hH
    generalize World.drew _ = v1 at hb hHeld ⊢
    refine wpAnyH_take (i := 0) (oi := _) (v := hV v) rfl (by kernel_rfl) (by kernel_rfl) (by kernel_rfl) (fun _ _ _ h => h) (yields_hs (by kernel_rfl) (.tmp 2) rfl (w.heap.size) v (by simp) hv.len rfl) hHeld ?_
    simp [Act.put]
    refine wpAnyH_take (i := 2) (oi := _) (v := .slice (some ⟨w.heap.size, 0, none⟩) 32 32) rfl (by kernel_rfl) (by kernel_rfl) (by kernel_rfl) (fun _ _ _ h => h) (Or.inl ⟨by rfl, fun w hSw => by go_simp⟩) hHeld ?_
    simp [Act.put]
    refine wpAnyH_ready (rs := [1]) (by kernel_rfl) (by simp) ?_
    refine AllReadyH.cons rfl (fun K hKK => ?_) AllReadyH.nil
    go_simp
    refine (unhide C3 _ ((unhide HL).later hb)).mono ?_
    rintro e v2 ⟨rfl, hb1⟩
    replace hb := bnext hb hb.size hb1
    refine hKK.out _ _ (hHeld.later hb1) (fun hHeld => ?_)
    clear hKK K hb1
    refine wpAnyH_ready (rs := [3]) (by kernel_rfl) (by simp) ?_
    refine AllReadyH.cons rfl (fun K hKK => ?_) AllReadyH.nil
    go_simp
    refine (unhide C4 _ (hHeld (w.heap.size, v) (by simp)) ((unhide HL).later hb)).mono ?_
    rintro e v3 ⟨rfl, hb1⟩
    replace hb := bnext hb hb.size hb1
    refine hKK.out _ _ (hHeld.later hb1) (fun hHeld => ?_)
    clear hKK K hb1
    refine wpAnyH_take (i := 4) (oi := _) (v := .bool (!true)) rfl (by kernel_rfl) (by kernel_rfl) (by kernel_rfl) (fun _ _ _ h => h) (yields_neH (by kernel_rfl) (.tmp 19) (.tmp 21) rfl R R hR hR true (by simp) rfl rfl) hHeld ?_
    simp [Act.put]
    refine wpAnyH_done (by kernel_rfl) ?_ _
    unfold NoPanic
    have hH := hHeld
    clear hHeld
    go_wp2_with fail
    go_ret
    exact ⟨rfl, hb⟩
  obtain ⟨n, rfl⟩ : ∃ n : Nat, z = n := ⟨z.toNat, by simp at d1; omega⟩
  have hn1 : 1 ≤ n := by simp at d1; omega
  have hn : n ≤ 4096 := by simp at d2; omega
  obtain ⟨A, hA⟩ : ∃ A, A = itZ n v := ⟨_, rfl⟩
  have hAl : Hs A := by rw [hA]; exact hv.it _
  have D5 := fun w1 hl => anchor_any v n w1 hv hl
  rw [show vaR v (n : Int) 0 = (A, true) by rw [vaR, if_pos ⟨by omega, by omega, by omega, by omega⟩, hA]; simp] at D5
  have K5 := hide D5
  have HN : Hid (1 ≤ n ∧ n ≤ 4096) := hide ⟨hn1, hn⟩
  have HA := hide hA
  clear D5 hn1 hn hA
  unfold hV
  go_enter Tryd.func7, Tryd.ntmps7
  go_upto_region 1 with fail
  rw [show Value.agg (U8 v).toArray = hV v from rfl]
  rw [← unhide HW]
  refine wp_region_noPanic ?_
  replace hb := bnext hb hb.size (drew_below _)
  replace hH := hH.drew
  refine wp_region_held_drew (S := Hold _) (by kernel_rfl) hH (fun hHeld => ?_)
  clear hH
  generalize World.drew _ = v1 at hb hHeld ⊢
  refine wpAnyH_take (i := 0) (oi := _) (v := hV v) rfl (by kernel_rfl) (by kernel_rfl) (by kernel_rfl) (fun _ _ _ h => h) (yields_hs (by kernel_rfl) (.tmp 2) rfl (w.heap.size) v (by simp) hv.len rfl) hHeld ?_
  simp [Act.put]
  refine wpAnyH_take (i := 2) (oi := _) (v := .slice (some ⟨w.heap.size, 0, none⟩) 32 32) rfl (by kernel_rfl) (by kernel_rfl) (by kernel_rfl) (fun _ _ _ h => h) (Or.inl ⟨by rfl, fun w hSw => by go_simp⟩) hHeld ?_
  simp [Act.put]
  refine wpAnyH_ready (rs := [1]) (by kernel_rfl) (by simp) ?_
  refine AllReadyH.cons rfl (fun K hKK => ?_) AllReadyH.nil
  go_simp
  refine (unhide C3 _ ((unhide HL).later hb)).mono ?_
  rintro e v2 ⟨rfl, hb1⟩
  replace hb := bnext hb hb.size hb1
  refine hKK.out _ _ (hHeld.later hb1) (fun hHeld => ?_)
  clear hKK K hb1
  refine wpAnyH_ready (rs := [3]) (by kernel_rfl) (by simp) ?_
  refine AllReadyH.cons rfl (fun K hKK => ?_) AllReadyH.nil
  go_simp
  refine (unhide C4 _ (hHeld (w.heap.size, v) (by simp)) ((unhide HL).later hb)).mono ?_
  rintro e v3 ⟨rfl, hb1⟩
  replace hb := bnext hb hb.size hb1
  refine hKK.out _ _ (hHeld.later hb1) (fun hHeld => ?_)
  clear hKK K hb1
  refine wpAnyH_take (i := 4) (oi := _) (v := .bool (!true)) rfl (by kernel_rfl) (by kernel_rfl) (by kernel_rfl) (fun _ _ _ h => h) (yields_neH (by kernel_rfl) (.tmp 19) (.tmp 21) rfl R R hR hR true (by simp) rfl rfl) hHeld ?_
  simp [Act.put]
  refine wpAnyH_done (by kernel_rfl) ?_ _
  unfold NoPanic
  have hH := hHeld
  clear hHeld
  go_upto_region 5 with fail
  clear d1 d2
  go_wp2_with (first
    | refine wpList_load_hs hH (.tmp 2) rfl (by kernel_rfl) (w.heap.size) v (by simp) hv.len rfl ?_)
  refine (walk_ok v n _ hv (unhide HN).1 (unhide HN).2).mono ?_
  rintro e u1 ⟨p, b, rfl, hWs, hp0, hb0, hb1⟩
  replace hH := hH.later hb1
  have HPB : Hid (w.heap.size ≤ p ∧ w.heap.size ≤ b) := hide ⟨Nat.le_trans hb.size hp0, Nat.le_trans hb.size hb0⟩
  replace hb := bnext hb hb.size hb1
  have HWs := hide hWs
  clear hb1 hp0 hb0 hWs
  go_wp2_with (first
    | refine wpList_load_hs hH (.tmp 2) rfl (by kernel_rfl) (w.heap.size) v (by simp) hv.len rfl ?_)
  refine (unhide K5 _ ((unhide HL).later hb)).mono ?_
  rintro e u2 ⟨rfl, hb1⟩
  replace hH := hH.later hb1
  replace HWs := hide ((unhide HWs).later hb1)
  replace hb := bnext hb hb.size hb1
  clear hb1
  go_upto_region 7 with (first
    | (refine wpList_store_hs hH rfl (.tmp 7) (.tmp 39) rfl A hAl.len _ rfl rfl rfl ?_; intro u3 hH2 hb2; replace hH := hH2; replace HWs := hide ((unhide HWs).later hb2); replace hb := bnext hb hb.size hb2; clear hb2 hH2))
  have hS3 : w.heap.size < u3.heap.size := (hH (w.heap.size, v) (by simp)).lt
  refine wp_region_lit ?_
  refine wpList_val (.bool true) (by kernel_rfl) (by go_simp) ?_
  simp [Act.put]
  refine wpList_val (.bool false) (by kernel_rfl) (by go_simp) ?_
  simp [Act.put]
  refine wpList_val (.bool false) (by kernel_rfl) (by go_simp) ?_
  simp [Act.put]
  refine wpList_val (.pointer (some ⟨p, 0, none⟩)) (by kernel_rfl) (by go_simp) ?_
  simp [Act.put]
  refine wpList_val (.bool false) (by kernel_rfl) (by go_simp) ?_
  simp [Act.put]
  refine wpList_val (.bool false) (by kernel_rfl) (by go_simp) ?_
  simp [Act.put]
  refine wpList_val (.bool false) (by kernel_rfl) (by go_simp) ?_
  simp [Act.put]
  refine wpList_val (.bool true) (by kernel_rfl) (by go_simp) ?_
  simp [Act.put]
  refine wpList_val (.bool false) (by kernel_rfl) (by go_simp) ?_
  simp [Act.put]
  refine wpList_val (.bool false) (by kernel_rfl) (by go_simp) ?_
  simp [Act.put]
  refine wpList_val (.bool false) (by kernel_rfl) (by go_simp) ?_
  simp [Act.put]
  refine wpList_val (.pointer (some ⟨p, 0, none⟩)) (by kernel_rfl) (by go_simp) ?_
  simp [Act.put]
  refine wpList_val (.int .i64 (n : Int)) (by kernel_rfl) (by go_simp) ?_
  simp [Act.put]
  refine wpList_want (by kernel_rfl) fun K1 hK1 => ?_
  go_simp
  have hth : Calls Tryd.prog 19 #[.pointer (some ⟨p, 0, none⟩), .int .i64 n, .int .i64 0, .int .i64 0] u3 fun e w' => e = .returned (.bool true) ∧ w' = u3 := thrifty_any p b n 0 v [n] 0 0 u3 (unhide HWs) (unhide HN).1 (unhide HN).2 (fun _ => by simp) (Nat.le_refl _) (fun h => by omega)
  refine hth.mono ?_
  rintro e u4 ⟨rfl, hw4⟩
  obtain rfl := hw4.symm
  refine hK1 _ _ ?_
  clear hK1 K1 hth
  refine wpList_val (.bool false) (by kernel_rfl) (by go_simp) ?_
  simp [Act.put]
  refine wpList_val (.bool false) (by kernel_rfl) (by go_simp) ?_
  simp [Act.put]
  refine wpList_nil ?_
  go_wp2_with (first
    | (refine wpList_store_hs hH rfl (.tmp 9) (.tmp 57) rfl A hAl.len _ rfl rfl rfl ?_; intro u5 hH2 hb2; replace hH := hH2; replace HWs := hide ((unhide HWs).later hb2); replace hb := bnext hb hb.size hb2; clear hb2 hH2)
    | refine wpList_load_hs hH (.tmp 2) rfl (by kernel_rfl) (w.heap.size) v (by simp) hv.len rfl ?_
    | refine wpList_load_hs hH (.tmp 7) rfl (by kernel_rfl) (u2.heap.size) A (by simp) hAl.len rfl ?_
    | refine wpList_load_hs hH (.tmp 9) rfl (by kernel_rfl) (u3.heap.size) A (by simp) hAl.len rfl ?_)
  have HB3 : w.heap.size ≤ u3.heap.size := Nat.le_of_lt (hS3)
  have HB4 : w.heap.size ≠ u3.heap.size := Nat.ne_of_lt hS3
  have HST : Hid (ThI w p b n v u3.heap.size 0 0 0 [n] u5) := hide ⟨unhide HWs, by simp, Nat.le_refl _, fun q hq => by
      simp only [List.mem_cons, List.not_mem_nil, or_false] at hq
      rcases hq with rfl | rfl
      · have := hH (u3.heap.size, A) (by simp)
        simp only [Nat.sub_zero]
        rw [← unhide HA]; exact this
      · exact hH (w.heap.size, v) (by simp), hb, (unhide HPB).1, (unhide HPB).2, HB3, HB4⟩
  generalize u3.heap.size = g9 at HST ⊢
  clear hH hb HWs
  go_loopw [10, 11] (fun sv iv wr => ∃ (k s st : Nat) (ds : List Nat), k ≤ n ∧ iv = .int .i64 ((k + 1 : Nat) : Int) ∧ sv = .int .i64 (st : Int) ∧ ThI w p b n v g9 k s st ds wr) (fun _ iv _ => n + 1 - (intOf iv).toNat)
  case atStart => exact ⟨0, 0, 0, [n], Nat.zero_le _, rfl, rfl, unhide HST⟩
  case round =>
    clear HST
    obtain ⟨k, s, st, ds, hk, rfl, rfl, hI⟩ := hrel
    have hn := (unhide HN).2
    obtain ⟨i, hi⟩ : ∃ i, i = k + 1 := ⟨_, rfl⟩
    rw [← hi]
    obtain ⟨last, hlast⟩ : ∃ l, l = itZ (n - k) v := ⟨_, rfl⟩
    have hll : Hs last := by rw [hlast]; exact hv.it _
    have hH := hI.H
    rw [← hlast] at hH
    have hb := hI.B
    by_cases hlt : k < n
    · have hsum := hI.S
      obtain ⟨away, haw⟩ : ∃ a, a = n - k - 1 := ⟨_, rfl⟩
      obtain ⟨d, r, rfl⟩ : ∃ d r, ds = d :: r := by
        cases ds with
        | nil => simp at hsum; omega
        | cons d r => exact ⟨d, r, rfl⟩
      have hx := next_ok p b n s v d r away wr hv ((unhide HL).later hb) hI.W hn (by omega)
      rw [show n - away = i by omega] at hx
      obtain ⟨y, hy⟩ : ∃ y, y = itZ away v := ⟨_, rfl⟩
      have hyl : Hs y := by rw [hy]; exact hv.it _
      have hsy : sumZ y = last := by rw [hlast, hy, ← itZ_succ]; congr 1; omega
      rw [← hy] at hx
      have C5 := fun w1 hl => step_any y w1 hyl hl
      rw [hsy] at C5
      have K6 := hide C5
      have e1 : decide ((i : Int) ≤ (n : Int)) = true := decide_eq_true (by omega)
      have hle : (i : Int) ≤ (n : Int) := by omega
      have hle' : i ≤ n := by omega
      have hw1 : IntKind.i64.wrap ((i : Int) + 1) = ((i + 1 : Nat) : Int) := by rw [IntKind.wrap_i64]; omega
      have HK : Hid (i = k + 1 ∧ k < n ∧ away = n - k - 1 ∧ y = itZ away v) := hide ⟨hi, hlt, haw, hy⟩
      have HI := hide hI
      have HX := hide hx
      have D1 := hide hw1
      have hne : ((i : Int) != (i : Int)) = false := by simp
      clear hi hlast hsum haw hy hsy C5 hlt hk hI hx hw1 e1
      go_wp2_with fail
      refine (unhide HX).mono ?_
      rintro e y1 ⟨rfl, s', r', hW1, hr1, hs1, hB1⟩
      replace hH := hH.walk (unhide HI).W hB1
      replace hb := bel_walk hb hb.size (unhide HI).P.1 (unhide HI).P.2.1 hB1
      have HWs := hide hW1
      have HR1 : Hid (r'.sum = away ∧ s ≤ s') := hide ⟨hr1, hs1⟩
      clear hB1 hW1 hr1 hs1
      go_wp2_with (first
        | (refine wpList_store_hs hH rfl (.tmp 13) (.tmp 67) rfl y hyl.len _ rfl rfl rfl ?_; intro y2 hH2 hb2; replace hH := hH2; replace HWs := hide ((unhide HWs).later hb2); replace hb := bnext hb hb.size hb2; clear hb2 hH2))
      replace hb := bnext hb hb.size (drew_below _)
      replace hH := hH.drew
      refine wp_region_held_drew (S := Hold _) (by kernel_rfl) hH (fun hHeld => ?_)
      clear hH
      have HWs2 : Hid (Wst y2.drew p b n v s' r') := hide ⟨(unhide HWs).P, (unhide HWs).M, (unhide HWs).F, (unhide HWs).S, (unhide HWs).C, (unhide HWs).G, (unhide HWs).I⟩
      clear HWs
      generalize World.drew y2 = v21 at hb hHeld HWs2 ⊢
      refine wpAnyH_take (i := 0) (oi := _) (v := .bool true) rfl (by kernel_rfl) (by kernel_rfl) (by kernel_rfl) (fun _ _ _ h => h) (Or.inl ⟨by rfl, fun w hSw => by go_simp⟩) hHeld ?_
      simp [Act.put]
      refine wpAnyH_take (i := 1) (oi := _) (v := .bool false) rfl (by kernel_rfl) (by kernel_rfl) (by kernel_rfl) (fun _ _ _ h => h) (Or.inl ⟨by rfl, fun w hSw => by go_simp⟩) hHeld ?_
      simp [Act.put]
      refine wpAnyH_take (i := 2) (oi := _) (v := .bool false) rfl (by kernel_rfl) (by kernel_rfl) (by kernel_rfl) (fun _ _ _ h => h) (Or.inl ⟨by rfl, fun w hSw => by go_simp⟩) hHeld ?_
      simp [Act.put]
      refine wpAnyH_take (i := 3) (oi := _) (v := .int .i64 (i : Int)) rfl (by kernel_rfl) (by kernel_rfl) (by kernel_rfl) (fun _ _ _ h => h) (Or.inl ⟨by rfl, fun w hSw => by go_simp⟩) hHeld ?_
      simp [Act.put]
      refine wpAnyH_take (i := 4) (oi := _) (v := .int .i64 (i : Int)) rfl (by kernel_rfl) (by kernel_rfl) (by kernel_rfl) (fun _ _ _ h => h) (Or.inl ⟨by rfl, fun w hSw => by go_simp⟩) hHeld ?_
      simp [Act.put]
      refine wpAnyH_take (i := 5) (oi := _) (v := .bool false) rfl (by kernel_rfl) (by kernel_rfl) (by kernel_rfl) (fun _ _ _ h => h) (Or.inl ⟨by rfl, fun w hSw => by go_simp⟩) hHeld ?_
      simp [Act.put]
      refine wpAnyH_take (i := 6) (oi := _) (v := .bool false) rfl (by kernel_rfl) (by kernel_rfl) (by kernel_rfl) (fun _ _ _ h => h) (Or.inl ⟨by rfl, fun w hSw => by go_simp⟩) hHeld ?_
      simp [Act.put]
      refine wpAnyH_take (i := 7) (oi := _) (v := .bool false) rfl (by kernel_rfl) (by kernel_rfl) (by kernel_rfl) (fun _ _ _ h => h) (Or.inl ⟨by rfl, fun w hSw => by go_simp⟩) hHeld ?_
      simp [Act.put]
      refine wpAnyH_take (i := 8) (oi := _) (v := hV y) rfl (by kernel_rfl) (by kernel_rfl) (by kernel_rfl) (fun _ _ _ h => h) (yields_hs (by kernel_rfl) (.tmp 13) rfl (y1.heap.size) y (by simp) hyl.len rfl) hHeld ?_
      simp [Act.put]
      refine wpAnyH_take (i := 10) (oi := _) (v := hV last) rfl (by kernel_rfl) (by kernel_rfl) (by kernel_rfl) (fun _ _ _ h => h) (yields_hs (by kernel_rfl) (.tmp 9) rfl (g9) last (by simp) hll.len rfl) hHeld ?_
      simp [Act.put]
      refine wpAnyH_ready (rs := [9]) (by kernel_rfl) (by simp) ?_
      refine AllReadyH.cons rfl (fun K hKK => ?_) AllReadyH.nil
      go_simp
      refine (unhide K6 _ ((unhide HL).later hb)).mono ?_
      rintro e v22 ⟨rfl, hb1⟩
      replace hb := bnext hb hb.size hb1
      have HWs3 := hide ((unhide HWs2).later hb1)
      refine hKK.out _ _ (hHeld.later hb1) (fun hHeld => ?_)
      clear hKK K hb1 HWs2
      refine wpAnyH_take (i := 11) (oi := _) (v := .bool (!true)) rfl (by kernel_rfl) (by kernel_rfl) (by kernel_rfl) (fun _ _ _ h => h) (yields_neH (by kernel_rfl) (.tmp 78) (.tmp 79) rfl last last hll.len hll.len true (by simp) rfl rfl) hHeld ?_
      simp [Act.put]
      refine wpAnyH_take (i := 12) (oi := _) (v := .bool false) rfl (by kernel_rfl) (by kernel_rfl) (by kernel_rfl) (fun _ _ _ h => h) (Or.inl ⟨by rfl, fun w hSw => by go_simp⟩) hHeld ?_
      simp [Act.put]
      refine wpAnyH_take (i := 13) (oi := _) (v := .bool false) rfl (by kernel_rfl) (by kernel_rfl) (by kernel_rfl) (fun _ _ _ h => h) (Or.inl ⟨by rfl, fun w hSw => by go_simp⟩) hHeld ?_
      simp [Act.put]
      refine wpAnyH_take (i := 14) (oi := _) (v := .pointer (some ⟨p, 0, none⟩)) rfl (by kernel_rfl) (by kernel_rfl) (by kernel_rfl) (fun _ _ _ h => h) (Or.inl ⟨by rfl, fun w hSw => by go_simp⟩) hHeld ?_
      simp [Act.put]
      refine wpAnyH_take (i := 15) (oi := _) (v := .int .i64 (n : Int)) rfl (by kernel_rfl) (by kernel_rfl) (by kernel_rfl) (fun _ _ _ h => h) (Or.inl ⟨by rfl, fun w hSw => by go_simp⟩) hHeld ?_
      simp [Act.put]
      refine wpAnyH_take (i := 16) (oi := _) (v := .int .i64 (i : Int)) rfl (by kernel_rfl) (by kernel_rfl) (by kernel_rfl) (fun _ _ _ h => h) (Or.inl ⟨by rfl, fun w hSw => by go_simp⟩) hHeld ?_
      simp [Act.put]
      refine wpAnyH_take (i := 17) (oi := _) (v := .int .i64 (st : Int)) rfl (by kernel_rfl) (by kernel_rfl) (by kernel_rfl) (fun _ _ _ h => h) (Or.inl ⟨by rfl, fun w hSw => by go_simp⟩) hHeld ?_
      simp [Act.put]
      refine wpAnyH_ready (rs := [18]) (by kernel_rfl) (by simp) ?_
      refine AllReadyH.cons rfl (fun K hKK => ?_) AllReadyH.nil
      go_simp
      have hth := thrifty_any p b n s' v r' i st v22 (unhide HWs3) (unhide HN).1 (unhide HN).2 (fun h => fits_nonempty (by have := (unhide HR1).1; have := (unhide HK); omega)) (Nat.le_trans (unhide HI).L (unhide HR1).2) (fun _ => (unhide HWs3).G (by have := (unhide HR1).1; have := (unhide HK); omega))
      refine hth.mono ?_
      rintro e v23 ⟨rfl, hw4⟩
      obtain rfl := hw4.symm
      refine hKK.out _ _ hHeld (fun hHeld => ?_)
      clear hKK K hth
      refine wpAnyH_take (i := 19) (oi := _) (v := .bool false) rfl (by kernel_rfl) (by kernel_rfl) (by kernel_rfl) (fun _ _ _ h => h) (Or.inl ⟨by rfl, fun w hSw => by go_simp⟩) hHeld ?_
      simp [Act.put]
      refine wpAnyH_take (i := 20) (oi := _) (v := .bool false) rfl (by kernel_rfl) (by kernel_rfl) (by kernel_rfl) (fun _ _ _ h => h) (Or.inl ⟨by rfl, fun w hSw => by go_simp⟩) hHeld ?_
      simp [Act.put]
      refine wpAnyH_done (by kernel_rfl) ?_ _
      have hH := hHeld
      clear hHeld
      have hst := steps_any p b n s' v r'
      have hz9 := hz_of hyl.len
      have hzo9 := ho_of hll.len hyl.len
      have hG9 : Arr v22 g9 23 (U8 last) := hH (g9, last) (by simp)
      have hp9 : w.heap.size ≠ g9 := (unhide HI).P.2.2.2
      have d8 := unhide D1
      obtain ⟨v24, hv24⟩ : ∃ x, x = v22.setRow g9 (U8 y).toArray := ⟨_, rfl⟩
      have hB24 : Buts (fun k => k = g9) v22 v24 := by rw [hv24]; exact ⟨rfl, rfl, rfl, by simp, fun i hi hne => setRow_other _ _ _ _ hne⟩
      have hne9 : ¬ (p = g9) ∧ ¬ (b = g9) := by
        constructor
        · intro e
          have hp := (unhide HWs3).P
          rw [e] at hp
          unfold Arr at hp hG9
          rw [hG9] at hp
          have h9 : (23 : Nat) = 55 := congrArg (fun o => match o with | some (.cells _ t _) => t | _ => 0) hp
          exact absurd h9 (by decide)
        · intro e
          exact (unhide HWs3).M.ne hG9 e.symm
      have hW24 : Wst v24 p b n v s' r' := (unhide HWs3).keep hB24 hne9.1 hne9.2
      have hG24 : Arr v24 g9 23 (U8 y) := by rw [hv24]; exact Arr.setRow hG9 (U8 y)
      have hV24 : Arr v24 w.heap.size 23 (U8 v) := hB24.arr (hH (w.heap.size, v) (by simp)) (by omega)
      have hb24 : Below w.heap.size w v24 := hb.trans (hB24.below hb.size (fun i hi => by have := (unhide HI).P.2.2.1; omega))
      have hst24 := steps_any p b n s' v r' v24 hW24
      have HF : Hid (ThI w p b n v g9 i s' s' r' v24) := hide ⟨hW24, by have := (unhide HR1).1; have := unhide HK; omega, Nat.le_refl _, fun q hq => by
          simp only [List.mem_cons, List.not_mem_nil, or_false] at hq
          rcases hq with rfl | rfl
          · have h4 := unhide HK
            simp only
            rw [show n - i = away by omega, ← h4.2.2.2]; exact hG24
          · exact hV24, hb24, (unhide HI).P⟩
      have HV24 := hide hv24
      have hHl := hide hH
      have HHB := hide hb
      clear hst hne9 hW24 hG24 hV24 hb24 hB24 hv24
      obtain ⟨i1, hi1⟩ : ∃ i1, i1 = i + 1 := ⟨_, rfl⟩
      rw [← hi1] at d8
      have HI1 := hide hi1
      clear hi1
      go_wp2_with (first
        | refine wpList_load_row_if 23 (.tmp 13) rfl (by kernel_rfl) y1.heap.size rfl 23 _ (0, 0) _ (unhide hHl (y1.heap.size, y) (by simp)) Tryd.underlying23 rfl hz9 ?_
        | (refine wpList_store_row rfl 23 (.tmp 9) (.tmp 90) rfl g9 _ rfl rfl 23 _ hG9 hz9 hzo9 (all_one (U8_one _)) ?_; rw [← unhide HV24])
        | (go_at_call 20; refine hst24.mono ?_; rintro e v25 ⟨rfl, h25⟩; obtain rfl := h25.symm))
      go_roundw
      case rel => exact ⟨i, s', s', r', hle', by rw [unhide HI1], rfl, unhide HF⟩
      case measure => simp [intOf]; have := unhide HI1; omega
    · have hkn : k = n := by omega
      have e1 : decide ((i : Int) ≤ (n : Int)) = false := decide_eq_false (by omega)
      have e2 : decide (i ≤ n) = false := decide_eq_false (by omega)
      have e3 : ¬ (i ≤ n) := by omega
      have e4 : n < i := by omega
      have hds : ds = [] := by
        cases ds with
        | nil => rfl
        | cons d r => have h1 := hI.S; have h2 := hI.W.F.1; simp only [List.sum_cons] at h1; omega
      subst hds
      have hlv : last = v := by rw [hlast, hkn, Nat.sub_self]; rfl
      have hx := next_end p b n s v wr hI.W hn
      have HI := hide hI
      have HX := hide hx
      have hw1 : IntKind.i64.wrap ((n : Int) + 1) = ((n + 1 : Nat) : Int) := by rw [IntKind.wrap_i64]; omega
      have D1 := hide hw1
      subst hlv
      clear hi hlast hlt hk hI hx hw1 hkn
      go_wp2_with fail
      refine (unhide HX).mono ?_
      rintro e y1 ⟨rfl, hb1⟩
      replace hH := hH.later hb1
      have HWs := hide ((unhide HI).W.later hb1)
      replace hb := bnext hb hb.size hb1
      clear hb1
      have hzh := zeroH_hs.len
      go_upto_region 20 with (first
        | (refine wpList_store_hs hH rfl (.tmp 16) (.tmp 97) rfl zeroH hzh _ rfl rfl rfl ?_; intro y2 hH2 hb2; replace hH := hH2; replace HWs := hide ((unhide HWs).later hb2); replace hb := bnext hb hb.size hb2; clear hb2 hH2))
      refine wp_region_lit ?_
      refine wpList_val (.bool false) (by kernel_rfl) (by go_simp) ?_
      simp [Act.put]
      refine wpList_val (.bool true) (by kernel_rfl) (by go_simp) ?_
      simp [Act.put]
      refine wpList_val (.bool true) (by kernel_rfl) (by go_simp) ?_
      simp [Act.put]
      refine wpList_load_hs hH (.tmp 9) rfl (by kernel_rfl) (g9) last (by simp) hll.len rfl ?_
      simp [Act.put]
      refine wpList_load_hs hH (.tmp 2) rfl (by kernel_rfl) (w.heap.size) last (by simp) hll.len rfl ?_
      simp [Act.put]
      refine wpList_eqH (by kernel_rfl) (.tmp 102) (.tmp 103) rfl last last hll.len hll.len true (by simp) rfl rfl ?_
      simp [Act.put]
      refine wpList_val (.bool true) (by kernel_rfl) (by go_simp) ?_
      simp [Act.put]
      refine wpList_val (.bool true) (by kernel_rfl) (by go_simp) ?_
      simp [Act.put]
      refine wpList_val (.pointer (some ⟨p, 0, none⟩)) (by kernel_rfl) (by go_simp) ?_
      simp [Act.put]
      refine wpList_val (.int .i64 (n : Int)) (by kernel_rfl) (by go_simp) ?_
      simp [Act.put]
      refine wpList_val (.int .i64 (n : Int)) (by kernel_rfl) (by go_simp) ?_
      simp [Act.put]
      have d8 := unhide D1
      obtain ⟨n1, hn1⟩ : ∃ n1, n1 = n + 1 := ⟨_, rfl⟩
      rw [← hn1] at d8
      have HN1 := hide hn1
      clear hn1
      refine wpList_val (.int .i64 (n1 : Int)) (by kernel_rfl) (by go_simp) ?_
      simp [Act.put]
      clear d8
      refine wpList_val (.int .i64 (st : Int)) (by kernel_rfl) (by go_simp) ?_
      simp [Act.put]
      refine wpList_want (by kernel_rfl) fun K1 hK1 => ?_
      go_simp
      have hth := thrifty_any p b n s last [] n1 st y2 (unhide HWs) (unhide HN).1 (unhide HN).2 (fun h => by have := unhide HN1; omega) (unhide HI).L (fun _ => (unhide HWs).G (by have := (unhide HN).1; simp; omega))
      refine hth.mono ?_
      rintro e y3 ⟨rfl, hw4⟩
      obtain rfl := hw4.symm
      refine hK1 _ _ ?_
      clear hK1 K1 hth
      refine wpList_val (.bool true) (by kernel_rfl) (by go_simp) ?_
      simp [Act.put]
      refine wpList_val (.bool true) (by kernel_rfl) (by go_simp) ?_
      simp [Act.put]
      refine wpList_nil ?_
      go_wp2
      go_ret
      exact ⟨rfl, hb⟩
end Go.Proofs.YtmaammjfbheciaaDoor
