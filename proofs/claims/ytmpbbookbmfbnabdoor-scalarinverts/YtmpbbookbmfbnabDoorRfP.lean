import Derived.Test.YtmpbbookbmfbnabDoorRfD
namespace Go.Proofs.YtmpbbookbmfbnabDoor
open Go.RowKit

/-! The document's numbers: products. -/
structure Pe (a b c : Int) (i j : Nat) (o : Int) (L : List Int) : Prop where
  len : L.length = 64
  dig : Dg 256 L
  ov : 0 ≤ o ∧ o < 256
  hi : ∀ t, i + 32 ≤ t → L.getD t 0 = 0
  eq : num 256 L + o * 256 ^ (i + j) = a % 256 ^ i * b + c + a / 256 ^ i % 256 * 256 ^ i * (b % 256 ^ j)
theorem Pe.start (a b c : Int) (hc : 0 ≤ c ∧ c < 256 ^ 32) : Pe a b c 0 0 0 (dg 256 32 c ++ List.replicate 32 0) := by
  refine ⟨by simp [dg_len], (Dg_dg _ (by decide) _ _).app (Dg_zero _ (by decide) _), ⟨by decide, by decide⟩, ?_, ?_⟩
  · intro t ht
    rw [List.getD_eq_getElem?_getD, List.getElem?_append_right (by rw [dg_len]; omega), dg_len, ← List.getD_eq_getElem?_getD, rep_getD]
  · rw [num_app, num_zero, num_dg _ (by decide), Int.emod_eq_of_lt hc.1 hc.2]
    simp
theorem prod_be {x y : Int} (hx : 0 ≤ x ∧ x < 256) (hy : 0 ≤ y ∧ y < 256) : 0 ≤ x * y ∧ x * y ≤ 65025 := by
  have h1 : 0 ≤ x * y := Int.mul_nonneg hx.1 hy.1
  have h2 : x * y ≤ 255 * 255 := Int.mul_le_mul (by omega) (by omega) hy.1 (by decide)
  exact ⟨h1, by omega⟩
theorem Pe.bd {a b c : Int} {i j : Nat} {o : Int} {L : List Int} (h : Pe a b c i j o L) (x y : Int) (hx : 0 ≤ x ∧ x < 256) (hy : 0 ≤ y ∧ y < 256) :
    0 ≤ o + (L.getD (i + j) 0 + x * y) ∧ o + (L.getD (i + j) 0 + x * y) < 65536 := by
  have h1 := prod_be hx hy
  have h2 := h.dig.at (by decide) (i + j)
  have h3 := h.ov
  skip
  omega
theorem Pe.step {a b c : Int} {i j : Nat} {o : Int} {L : List Int} (h : Pe a b c i j o L) (hi : i < 32) (hj : j < 32) (s : Int) (hs : s = o + (L.getD (i + j) 0 + a / 256 ^ i % 256 * (b / 256 ^ j % 256))) (hb : 0 ≤ s ∧ s < 65536) :
    Pe a b c i (j + 1) (s / 256) (L.set (i + j) (s % 256)) := by
  refine ⟨by rw [List.length_set]; exact h.len, h.dig.set _ ⟨Int.emod_nonneg _ (by decide), Int.emod_lt_of_pos _ (by decide)⟩, ⟨Int.ediv_nonneg hb.1 (by decide), by omega⟩, ?_, ?_⟩
  · intro t ht
    rw [set_at _ _ _ _ (by rw [h.len]; omega), if_neg (by omega)]; exact h.hi t ht
  · have he := h.eq
    rw [num_set _ _ _ _ (by rw [h.len]; omega), low_dig 256 (by decide) b j, show i + (j + 1) = i + j + 1 by omega, Int.pow_succ, Int.pow_add] at *
    have hd : s = s % 256 + 256 * (s / 256) := (Int.emod_add_mul_ediv s 256).symm
    generalize s % 256 = r at *
    generalize s / 256 = q at *
    generalize L.getD (i + j) 0 = l at *
    generalize num 256 L = N at *
    generalize (256 : Int) ^ i = P at *
    generalize (256 : Int) ^ j = R at *
    generalize a / P % 256 = x at *
    generalize b / R % 256 = y at *
    have e : r = o + (l + x * y) - 256 * q := by omega
    subst e
    generalize a % P = u at *
    generalize b % R = v at *
    have e2 : N = u * b + c + x * P * v - o * (P * R) := by omega
    rw [e2]
    grind
theorem Pe.row {a b c : Int} {i : Nat} {o : Int} {L : List Int} (h : Pe a b c i 32 o L) (hi : i < 32) (hb : 0 ≤ b ∧ b < 256 ^ 32) : Pe a b c (i + 1) 0 0 (L.set (i + 32) o) := by
  refine ⟨by rw [List.length_set]; exact h.len, h.dig.set _ h.ov, ⟨by decide, by decide⟩, ?_, ?_⟩
  · intro t ht
    rw [set_at _ _ _ _ (by rw [h.len]; omega), if_neg (by omega)]; exact h.hi t (by omega)
  · have he := h.eq
    rw [num_set _ _ _ _ (by rw [h.len]; omega), h.hi (i + 32) (Nat.le_refl _), low_dig 256 (by decide) a i]
    rw [Int.emod_eq_of_lt hb.1 hb.2] at he
    simp only [Int.pow_zero, Int.emod_one, Int.mul_zero, Int.zero_mul, Int.add_zero, Int.sub_zero]
    generalize num 256 L = N at *
    generalize (256 : Int) ^ (i + 32) = Q at *
    generalize (256 : Int) ^ i = P at *
    generalize a / P % 256 = x at *
    generalize a % P = u at *
    have e2 : N = u * b + c + x * P * b - o * Q := by omega
    rw [e2]
    grind
theorem Pe.done {a b c o : Int} {L : List Int} (h : Pe a b c 32 0 o L) (ho : o = 0) (ha : 0 ≤ a ∧ a < 256 ^ 32) : L = dg 256 64 (a * b + c) := by
  have he := h.eq
  rw [ho, Int.emod_eq_of_lt ha.1 ha.2] at he
  simp only [Int.pow_zero, Int.emod_one, Int.mul_zero, Int.zero_mul, Int.add_zero] at he
  have := dg_num 256 (by decide) L h.dig
  rw [h.len, he] at this
  exact this.symm


structure PdR (L : List Int) (w wr : World) : Prop where
  ho : wr.ownsRow w.heap.size 3 1 (.slice (some ⟨w.heap.size, 0, none⟩) 64 64) 64 (I64 L)
  hb : Below w.heap.size w wr
theorem PdR.put {L : List Int} {w wr : World} (h : PdR L w wr) (i : Nat) (x : Int) : PdR (L.set i x) w (wr.setCell ⟨w.heap.size, i, none⟩ (.int .i64 x)) := by
  have h1 := (h.ho.stored i (.int .i64 x)).1
  rw [I64_set] at h1
  exact ⟨h1, h.hb.setCell (by show w.heap.size ≤ w.heap.size; omega) _⟩
theorem PdR.drew {L : List Int} {w wr : World} (h : PdR L w wr) (k : Nat) : PdR L w (wr.drewN k) := ⟨h.ho, below_drewN h.hb k⟩
set_option maxHeartbeats 4000000 in
set_option maxRecDepth 100000 in
theorem rProduct_any (l m : List Int) (v u : Value) (w : World) (h : NS w v l) (k : NS w u m) (hdl : Dg 256 l) (hdm : Dg 256 m) (hl : l.length = 32) (hm : m.length = 32) :
    Calls Tryd.prog 29 #[v, u] w fun r w' => ∃ z, r = .returned z ∧ w'.ownsRow w.heap.size 3 1 z 64 (I64 (dg 256 64 (num 256 l * num 256 m))) ∧ Below w.heap.size w w' := by
  obtain ⟨i0, hi, hz0, hz1, hz2⟩ := info_parts Tryd.infoI
  have hbs : i0.bytes * 64 ≤ 281474976710656 := by rw [hz2]; decide
  obtain ⟨b, off, cap, rfl, -, -, hb1, hc1⟩ := h.ex
  obtain ⟨b', off', cap', rfl, -, -, hb2, hc2⟩ := k.ex
  have ba := num_bd 256 (by decide) l hdl
  have bb_ := num_bd 256 (by decide) m hdm
  rw [hl] at ba hc1 ⊢
  rw [hm] at bb_ hc2 ⊢
  have HDL := hide (fun i => num_getD hdl i)
  have HDM := hide (fun i => num_getD hdm i)
  have hst := Pe.start (num 256 l) (num 256 m) 0 ⟨by decide, by decide⟩
  have hdz : dg 256 32 0 ++ List.replicate 32 0 = List.replicate 64 0 := by rw [dg_zero]; rfl
  rw [hdz] at hst
  have HST := hide hst
  have HBA := hide ba
  have HBB := hide bb_
  have HB1 := hide hb1
  have HB2 := hide hb2
  have HC1 := hide hc1
  have HC2 := hide hc2
  clear h k hdl hdm hst ba bb_ hb1 hb2 hc1 hc2 hl hm hdz
  generalize num 256 l = A at *
  generalize num 256 m = C at *
  go_enter Tryd.func29, Tryd.ntmps29
  go_wp2_with (at_make; refine wpList_make_full _ rfl _ _ 37 rfl w.heap.size 3 i0 (.int .i64 0) 1 Tryd.underlying37 hi hz0 hz1 .i64 .i64 64 64 64 rfl rfl rfl rfl hbs (by decide) (Nat.le_refl _) ?_)
  intro w2 hown hgrow
  have hb2 : Below w.heap.size w w2 := (Below.refl _ _).grown hgrow (Nat.le_refl _) (fun _ h => by cases h)
  have hown0 : w2.ownsRow w.heap.size 3 1 (.slice (some ⟨w.heap.size, 0, none⟩) 64 64) 64 (I64 (List.replicate 64 0)) := by
    rw [← made_I64]; exact hown
  have HI0 := hide (⟨hown0, hb2⟩ : PdR _ w w2)
  clear hown hgrow hb2 hown0
  go_wp2_with fail
  go_loopw [6] (fun s wr => ∃ (i : Nat) (L : List Int), i ≤ 32 ∧ s = .int .i64 i ∧ PdR L w wr ∧ Pe A C 0 i 0 0 L) (fun s _ => 32 - (intOf s).toNat)
  case atStart => exact ⟨0, _, by omega, rfl, unhide HI0, unhide HST⟩
  case round =>
    clear HI0 HST
    obtain ⟨i, L, hi32, rfl, I, hP⟩ := hrel
    by_cases hlt : i < 32
    · have x1 := unhide HDL i
      have bx : 0 ≤ A / 256 ^ i % 256 ∧ A / 256 ^ i % 256 < 256 := ⟨Int.emod_nonneg _ (by decide), Int.emod_lt_of_pos _ (by decide)⟩
      obtain ⟨p, hp⟩ : ∃ p, p = A / 256 ^ i % 256 := ⟨_, rfl⟩
      rw [← hp] at x1 bx
      have HPX := hide hp
      have HBX := hide bx
      have HX1 := hide x1
      have HI := hide I
      have HP := hide hP
      clear I hP hp bx x1
      go_wp2_with fail
      go_loopw [7, 8] (fun o s wr => ∃ (j : Nat) (q : Int) (M : List Int), j ≤ 32 ∧ s = .int .i64 j ∧ o = .int .i64 q ∧ PdR M w wr ∧ Pe A C 0 i j q M) (fun _ s _ => 32 - (intOf s).toNat)
      case atStart => exact ⟨0, 0, L, by omega, rfl, rfl, unhide HI, unhide HP⟩
      case round =>
        clear HI HP
        obtain ⟨j, q, M, hj, rfl, rfl, I, hP⟩ := hrel
        by_cases hjt : j < 32
        · have c1 := (I.hb.cell (p := ⟨b, off + i, none⟩) (unhide HB1)).trans (unhide HC1 i hlt)
          have c2 := (I.hb.cell (p := ⟨b', off' + j, none⟩) (unhide HB2)).trans (unhide HC2 j hjt)
          have c0 := (I.ho.cellAt (i + j) (by omega)).trans (I64_at _ (i + j) (by rw [hP.len]; omega))
          have f0 := I.ho.frozenAt (i + j)
          rw [← unhide HX1] at c1
          rw [← unhide HDM j] at c2
          have by_ : 0 ≤ C / 256 ^ j % 256 ∧ C / 256 ^ j % 256 < 256 := ⟨Int.emod_nonneg _ (by decide), Int.emod_lt_of_pos _ (by decide)⟩
          have hbd := hP.bd p (C / 256 ^ j % 256) (unhide HBX) by_
          have hstep := hP.step hlt hjt _ rfl (by rw [← unhide HPX]; exact hbd)
          rw [← unhide HPX] at hstep
          have bx := unhide HBX
          have bm := hP.dig.at (by decide) (i + j)
          have hpb := prod_be bx by_
          have ho := hP.ov
          generalize C / 256 ^ j % 256 = t at c2 hbd hstep by_ hpb
          generalize M.getD (i + j) 0 = e at c0 hbd hstep bm
          have w1 : IntKind.i64.wrap ((i : Int) + (j : Int)) = ((i + j : Nat) : Int) := by rw [IntKind.wrap_i64]; omega
          have d1 : ((i + j : Nat) : Int) < 64 := by omega
          have p1 : (0 : Int) ≤ ((i + j : Nat) : Int) := by omega
          have e1 : IntKind.i64.wrap (IntKind.i64.wrap (e + IntKind.i64.wrap (p * t)) + q) = q + (e + p * t) := by
            simp only [IntKind.wrap_i64]; omega
          have e2 : wrap64 (wrap64 (e + wrap64 (p * t)) + q) = q + (e + p * t) := by unfold wrap64; omega
          have e3 : (q + (e + p * t)).tmod 256 = (q + (e + p * t)) % 256 := Int.tmod_eq_emod_of_nonneg hbd.1
          have e4 : (q + (e + p * t)).tdiv 256 = (q + (e + p * t)) / 256 := Int.tdiv_eq_ediv_of_nonneg hbd.1
          have e5 : wrap64 ((q + (e + p * t)) / 256) = (q + (e + p * t)) / 256 := by unfold wrap64; omega
          have HS := hide hstep
          have HI := hide I
          have E1 := hide e1
          have E2 := hide e2
          have E3 := hide e3
          have E4 := hide e4
          have E5 := hide e5
          have hj' : (j : Int) < 32 := by omega
          have hi' : (i : Int) < 32 := by omega
          clear I hP hstep hbd by_ bx bm hpb ho e1 e2 e3 e4 e5
          go_wp2_with fail
          go_region
          first | rw [unhide E2] | rw [unhide E1]
          go_wp2_with fail
          rw [unhide E3, unhide E4, unhide E5]
          go_roundw
          case rel => exact ⟨j + 1, _, _, by omega, by go_num, rfl, ((unhide HI).put (i + j) _).drew 1, unhide HS⟩
          case measure => simp [intOf]; omega
        · have : j = 32 := by omega
          subst this
          clear hj hjt
          have c0 := (I.ho.cellAt (i + 32) (by omega)).trans (I64_at _ (i + 32) (by rw [hP.len]; omega))
          have f0 := I.ho.frozenAt (i + 32)
          have w1 : IntKind.i64.wrap ((i : Int) + 32) = ((i + 32 : Nat) : Int) := by rw [IntKind.wrap_i64]; omega
          have d1 : ((i + 32 : Nat) : Int) < 64 := by omega
          have p1 : (0 : Int) ≤ ((i + 32 : Nat) : Int) := by omega
          have hrow := hP.row hlt (unhide HBB)
          have HI := hide I
          have HS := hide hrow
          clear I hP hrow
          go_wp2_with fail
          go_roundw
          case rel => exact ⟨i + 1, _, by omega, by go_num, (unhide HI).put (i + 32) _, unhide HS⟩
          case measure => simp [intOf]; omega
    · have : i = 32 := by omega
      subst this
      clear hi32 hlt
      have hE := hP.done rfl (unhide HBA)
      rw [Int.add_zero] at hE
      subst hE
      have ho := I.ho
      have hb := I.hb
      have HO := hide ho
      clear I hP ho
      go_wp2_with fail
      go_ret
      exact ⟨_, rfl, unhide HO, hb⟩
end Go.Proofs.YtmpbbookbmfbnabDoor
