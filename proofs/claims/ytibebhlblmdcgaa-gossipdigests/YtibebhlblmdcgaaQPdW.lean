import Derived.Test.YtibebhlblmdcgaaQKtW
set_option linter.unusedSimpArgs false
set_option linter.unusedVariables false
namespace Go.Proofs.Ytibebhlblmdcgaa
open Go.RowKit

def plD (l : List Ent) (e : Ent) : Bool := l.any fun x => decide (e.cert.serial < x.cert.serial)
def plX (l : List Ent) (e : Ent) : List Ent := if plD l e then rPl l e else l
theorem rPl_snoc : ∀ (l : List Ent) (e x : Ent), rPl (l ++ [x]) e = if plD l e then rPl l e ++ [x] else if e.cert.serial < x.cert.serial then l ++ [e, x] else l ++ [x, e]
  | [], e, x => by
    show rPl [x] e = _
    unfold rPl
    by_cases h : e.cert.serial < x.cert.serial
    · rw [if_pos h, if_neg (by simp [plD]), if_pos h]; rfl
    · rw [if_neg h, if_neg (by simp [plD]), if_neg h]; rfl
  | y :: t, e, x => by
    have ih := rPl_snoc t e x
    show rPl (y :: (t ++ [x])) e = _
    unfold rPl
    by_cases h : e.cert.serial < y.cert.serial
    · have hd : plD (y :: t) e = true := by simp [plD, h]
      rw [if_pos h, if_pos hd, if_pos h]; rfl
    · have hd : plD (y :: t) e = plD t e := by simp [plD, h]
      rw [if_neg h, ih, hd, if_neg h]
      cases plD t e <;> simp
      split <;> rfl
theorem plD_snoc (l : List Ent) (e x : Ent) : plD (l ++ [x]) e = (plD l e || decide (e.cert.serial < x.cert.serial)) := by simp [plD]
theorem plX_1 {l : List Ent} {e x : Ent} (h : plD l e = true) : plX (l ++ [x]) e = plX l e ++ [x] ∧ plD (l ++ [x]) e = true := by
  have h2 : plD (l ++ [x]) e = true := by rw [plD_snoc, h]; rfl
  refine ⟨?_, h2⟩
  unfold plX
  rw [if_pos h2, if_pos h, rPl_snoc, if_pos h]
theorem plX_2 {l : List Ent} {e x : Ent} (h : plD l e = false) (hx : e.cert.serial < x.cert.serial) : plX (l ++ [x]) e = plX l e ++ [e] ++ [x] ∧ plD (l ++ [x]) e = true := by
  have h2 : plD (l ++ [x]) e = true := by rw [plD_snoc, h, decide_eq_true hx]; rfl
  refine ⟨?_, h2⟩
  unfold plX
  rw [if_pos h2, if_neg (by rw [h]; simp), rPl_snoc, if_neg (by rw [h]; simp), if_pos hx]
  simp
theorem plX_3 {l : List Ent} {e x : Ent} (h : plD l e = false) (hx : ¬ e.cert.serial < x.cert.serial) : plX (l ++ [x]) e = plX l e ++ [x] ∧ plD (l ++ [x]) e = false := by
  have h2 : plD (l ++ [x]) e = false := by rw [plD_snoc, h, decide_eq_false hx]; rfl
  refine ⟨?_, h2⟩
  unfold plX
  rw [if_neg (by rw [h2]; simp), if_neg (by rw [h]; simp)]
theorem rPl_all : ∀ {l : List Ent} {e : Ent}, plD l e = false → rPl l e = l ++ [e]
  | [], e, _ => rfl
  | y :: t, e, h => by
    have h1 : ¬ e.cert.serial < y.cert.serial := fun q => by simp [plD, q] at h
    have h2 : plD t e = false := by simpa [plD, h1] using h
    unfold rPl
    rw [if_neg h1, rPl_all h2]; rfl
theorem plX_len (l : List Ent) (e : Ent) : (plX l e).length ≤ l.length + 1 := by
  unfold plX
  split
  · rw [rPl_len]; omega
  · omega
set_option maxHeartbeats 2000000 in
set_option maxRecDepth 100000 in
theorem placed_any (s : Sx Ent) (e : Ent) (w : World) (hs : Es w s) (he : e.Ok) (hb : (s.n + 1) * 296 ≤ 140737488355328) :
    Calls Try.prog 19 #[s.v, aV (eC e)] w fun r w' => ∃ v, r = .returned v ∧ Oe w' w.heap.size v (rPl s.xs e) ∧ Below w.heap.size w w' := by
  obtain ⟨sa, sn, sc, sx⟩ := s
  have hlen : sx.length = sn := hs.ok.len
  have hS := Hs17.begin w (fun w' => Es w' ⟨sa, sn, sc, sx⟩) (fun w' ho => hs.old ho)
  have HL := hide hlen
  have HBd := hide hb
  have hsm : sn ≤ 475464663362 := by simp only at hb; omega
  simp only [Sx.v]
  clear hs hlen hb
  go_enter Try.func19, Try.ntmps19
  go_upto_region 0 with fail
  refine wp_region_lit ?_
  refine wl_box (by kernel_rfl) 45 (.tmp 1) rfl (eC e) rfl hS ?_
  clear hS
  intro g1 w1 hS
  simp [Act.put]
  refine wl (by kernel_rfl) fun kQ hkQ => ?_
  go_simp
  refine hkQ _ _ ?_
  clear hkQ kQ
  refine wpList_nil ?_
  have hA1 : Arr w1 g1 45 (eC e) := hS.get 0 rfl
  have HE := hide hS.K
  have HBW := hide hS.bel
  have HA1 := hide hA1
  clear hS hA1
  go_wp2_with fail
  go_loopw [5, 6, 7] (fun v dn i wr => ∃ k : Nat, k ≤ sn ∧ i = .int .i64 k ∧ dn = .bool (plD (sx.take k) e) ∧ Oe wr w1.heap.size v (plX (sx.take k) e) ∧ Below w1.heap.size w1 wr) (fun _ _ i _ => sn - (intOf i).toNat)
  case atStart => exact ⟨0, by omega, rfl, rfl, by simpa [plX, plD] using Oe.nil w1 w1.heap.size, Below.refl _ _⟩
  case round =>
    obtain ⟨k, hk, rfl, rfl, hO, hbl⟩ := hrel
    have hAr := (unhide HA1).later hbl
    have HB := hide hbl
    by_cases hlt : k < sn
    · obtain ⟨x, b, off, hge, hxo, hsa, hbs, hrg1⟩ := (unhide HE).at_ (k := k) hlt
      simp only at hge hsa
      subst hsa
      have hrg : wr.rangeAt b (off + k * 262) (eC x) := rangeAt_blk hrg1 (hbl.block b hbs)
      have hbs2 : b < wr.heap.size := Nat.lt_of_lt_of_le hbs hbl.size
      have hts : sx.take (k + 1) = sx.take k ++ [x] := by rw [List.take_add_one, hge]; rfl
      have hlenX : (plX (sx.take k) e).length ≤ sn := by have := plX_len (sx.take k) e; rw [List.length_take] at this; omega
      have HTS := hide hts
      have HR1 := hide hrg1
      have HBS := hide hbs
      have c1 : wr.cell? ⟨b, off + k * 262, none⟩ = some (.int .i64 x.cert.serial) := by have := hrg 0 _ ((at_eser x).get (j := 0) rfl); simpa using this
      have c2 : wr.cell? ⟨g1, 0, none⟩ = some (.int .i64 e.cert.serial) := by have := (At.self (eC e)).range hAr 0 _ ((at_eser e).get (j := 0) rfl); simpa using this
      have hkz : (k : Int) < (sn : Int) := by omega
      obtain ⟨X, hX⟩ : ∃ X, plX (sx.take k) e = X := ⟨_, rfl⟩
      have HXE := hide hX
      rw [hX] at hO hlenX
      have hS := Hs17.begin wr (fun w' => w'.rangeAt b (off + k * 262) (eC x) ∧ Oe w' w1.heap.size u5 X ∧ w'.rangeAt g1 0 (eC e)) (fun w' ho => ⟨rangeAt_old hrg hbs2 ho, hO.old ho, (At.self (eC e)).range (hAr.old ho)⟩)
      have HX := hide hlenX
      clear hlenX hge hrg hO hbl hX hbs hbs2 hAr hts hrg1
      cases hd : plD (sx.take k) e with
      | true =>
        have HC : Hid (plX (sx.take (k + 1)) e = X ++ [x] ∧ plD (sx.take (k + 1)) e = true) := hide (by have := plX_1 (x := x) hd; rw [unhide HXE] at this; rw [unhide HTS]; exact this)
        clear hd
        go_upto_region 6 with fail
        go_quiet (fail)
        replace hS := hS.later (below_drewN (Below.refl _ _) nq)
        go_upto_region 9 with fail
        refine wp_region_lit ?_
        refine wl (by kernel_rfl) fun kQ hkQ => ?_
        go_simp
        refine hkQ _ _ ?_
        clear hkQ kQ
        refine wl (by kernel_rfl) fun kQ hkQ => ?_
        go_simp
        refine hkQ _ _ ?_
        clear hkQ kQ
        refine wl (by kernel_rfl) fun kQ hkQ => ?_
        go_simp
        refine hkQ _ _ ?_
        clear hkQ kQ
        refine wl (by kernel_rfl) fun kQ hkQ => ?_
        go_simp
        refine hkQ _ _ ?_
        clear hkQ kQ
        refine wv (aV (eC x)) (by kernel_rfl) (ex_loadR 45 (.tmp 35) rfl (b) (off + k * 262) rfl (eC x) hS.K.1 Try.underlying45 rfl (szE hxo)) ?_
        simp [Act.put]
        refine wl (by kernel_rfl) fun k hk => ?_
        refine op_bs1 28 (.tmp 36) rfl x hxo rfl hS ?_
        clear hS
        intro g9 w9 hS
        refine hk _ _ ?_
        clear hk k
        simp [Act.put]
        refine wl_append (by kernel_rfl) (.tmp 32) (.tmp 37) rfl rfl hS.K.2.1 ⟨some ⟨g9, 0, none⟩, 1, 1, [x]⟩ (es_one hS hxo) rfl (by have := unhide HX; have := unhide HBd; simp only at *; omega) (Nat.le_trans (unhide HB).size hS.bel.size) ?_
        intro v' w' hO' hg9
        have hbw : Below w1.heap.size w1 w' := ((unhide HB).trans (hS.bel.mono (unhide HB).size)).trans ((hS.K.2.1).bel hg9 (Nat.le_refl _) (Nat.le_trans (unhide HB).size hS.bel.size))
        simp [Act.put]
        clear hS hg9
        refine wl (by kernel_rfl) fun kQ hkQ => ?_
        go_simp
        refine hkQ _ _ ?_
        clear hkQ kQ
        refine wpList_nil ?_
        clear c1 c2
        go_wp2
        go_roundw
        case rel => exact ⟨k + 1, by omega, by go_num, by rw [(unhide HC).2], by rw [(unhide HC).1]; exact hO', hbw⟩
        case measure => simp [intOf]; omega
      | false =>
        by_cases hq : e.cert.serial < x.cert.serial
        · have HC : Hid (plX (sx.take (k + 1)) e = X ++ [e] ++ [x] ∧ plD (sx.take (k + 1)) e = true) := hide (by have := plX_2 hd hq; rw [unhide HXE] at this; rw [unhide HTS]; exact this)
          have d1 : decide (e.cert.serial < x.cert.serial) = true := decide_eq_true hq
          have HXk : Hid (X.length + 1 ≤ sn) := hide (by rw [← unhide HXE]; unfold plX; rw [if_neg (by rw [hd]; simp), List.length_take]; omega)
          clear hd hq
          go_upto_region 6 with fail
          go_quiet (fail)
          replace hS := hS.later (below_drewN (Below.refl _ _) nq)
          go_upto_region 7 with fail
          refine wp_region_lit ?_
          refine wl (by kernel_rfl) fun kQ hkQ => ?_
          go_simp
          refine hkQ _ _ ?_
          clear hkQ kQ
          refine wv (aV (eC e)) (by kernel_rfl) (ex_loadR 45 (.tmp 3) rfl (g1) (0) rfl (eC e) hS.K.2.2 Try.underlying45 rfl (szE he)) ?_
          simp [Act.put]
          refine wl (by kernel_rfl) fun k hk => ?_
          refine op_bs1 28 (.tmp 29) rfl e he rfl hS ?_
          clear hS
          intro g9 w9 hS
          refine hk _ _ ?_
          clear hk k
          simp [Act.put]
          refine wl_append (by kernel_rfl) (.tmp 28) (.tmp 30) rfl rfl hS.K.2.1 ⟨some ⟨g9, 0, none⟩, 1, 1, [e]⟩ (es_one hS he) rfl (by have := unhide HX; have := unhide HBd; simp only at *; omega) (Nat.le_trans (unhide HB).size hS.bel.size) ?_
          intro v8 w8 hO8 hg9
          have hb8 : Below w1.heap.size w1 w8 := ((unhide HB).trans (hS.bel.mono (unhide HB).size)).trans ((hS.K.2.1).bel hg9 (Nat.le_refl _) (Nat.le_trans (unhide HB).size hS.bel.size))
          simp [Act.put]
          clear hS hg9
          refine wl (by kernel_rfl) fun kQ hkQ => ?_
          go_simp
          refine hkQ _ _ ?_
          clear hkQ kQ
          refine wpList_nil ?_
          have hrg8 : w8.rangeAt b (off + k * 262) (eC x) := rangeAt_blk (unhide HR1) (hb8.block b (unhide HBS))
          have hbs8 : b < w8.heap.size := Nat.lt_of_lt_of_le (unhide HBS) hb8.size
          have hS := Hs17.begin w8 (fun w' => w'.rangeAt b (off + k * 262) (eC x) ∧ Oe w' w1.heap.size v8 (X ++ [e])) (fun w' ho => ⟨rangeAt_old hrg8 hbs8 ho, hO8.old ho⟩)
          have HB8 := hide hb8
          have HX8 : Hid ((X ++ [e]).length ≤ sn) := hide (by have := unhide HXk; simp; omega)
          clear hrg8 hbs8 hO8 hb8 c1 c2
          go_upto_region 9 with fail
          refine wp_region_lit ?_
          refine wl (by kernel_rfl) fun kQ hkQ => ?_
          go_simp
          refine hkQ _ _ ?_
          clear hkQ kQ
          refine wl (by kernel_rfl) fun kQ hkQ => ?_
          go_simp
          refine hkQ _ _ ?_
          clear hkQ kQ
          refine wl (by kernel_rfl) fun kQ hkQ => ?_
          go_simp
          refine hkQ _ _ ?_
          clear hkQ kQ
          refine wl (by kernel_rfl) fun kQ hkQ => ?_
          go_simp
          refine hkQ _ _ ?_
          clear hkQ kQ
          refine wv (aV (eC x)) (by kernel_rfl) (ex_loadR 45 (.tmp 35) rfl (b) (off + k * 262) rfl (eC x) hS.K.1 Try.underlying45 rfl (szE hxo)) ?_
          simp [Act.put]
          refine wl (by kernel_rfl) fun k hk => ?_
          refine op_bs1 28 (.tmp 36) rfl x hxo rfl hS ?_
          clear hS
          intro g9 w9 hS
          refine hk _ _ ?_
          clear hk k
          simp [Act.put]
          refine wl_append (by kernel_rfl) (.tmp 32) (.tmp 37) rfl rfl hS.K.2 ⟨some ⟨g9, 0, none⟩, 1, 1, [x]⟩ (es_one hS hxo) rfl (by have := unhide HX8; have := unhide HBd; simp only at *; omega) (Nat.le_trans (unhide HB8).size hS.bel.size) ?_
          intro v' w' hO' hg9
          have hbw : Below w1.heap.size w1 w' := ((unhide HB8).trans (hS.bel.mono (unhide HB8).size)).trans ((hS.K.2).bel hg9 (Nat.le_refl _) (Nat.le_trans (unhide HB8).size hS.bel.size))
          simp [Act.put]
          clear hS hg9
          refine wl (by kernel_rfl) fun kQ hkQ => ?_
          go_simp
          refine hkQ _ _ ?_
          clear hkQ kQ
          refine wpList_nil ?_
          go_wp2
          go_roundw
          case rel => exact ⟨k + 1, by omega, by go_num, by rw [(unhide HC).2], by rw [(unhide HC).1]; exact hO', hbw⟩
          case measure => simp [intOf]; omega
        · have HC : Hid (plX (sx.take (k + 1)) e = X ++ [x] ∧ plD (sx.take (k + 1)) e = false) := hide (by have := plX_3 hd hq; rw [unhide HXE] at this; rw [unhide HTS]; exact this)
          have d1 : decide (e.cert.serial < x.cert.serial) = false := decide_eq_false hq
          clear hd hq
          go_upto_region 6 with fail
          go_quiet (fail)
          replace hS := hS.later (below_drewN (Below.refl _ _) nq)
          go_upto_region 9 with fail
          refine wp_region_lit ?_
          refine wl (by kernel_rfl) fun kQ hkQ => ?_
          go_simp
          refine hkQ _ _ ?_
          clear hkQ kQ
          refine wl (by kernel_rfl) fun kQ hkQ => ?_
          go_simp
          refine hkQ _ _ ?_
          clear hkQ kQ
          refine wl (by kernel_rfl) fun kQ hkQ => ?_
          go_simp
          refine hkQ _ _ ?_
          clear hkQ kQ
          refine wl (by kernel_rfl) fun kQ hkQ => ?_
          go_simp
          refine hkQ _ _ ?_
          clear hkQ kQ
          refine wv (aV (eC x)) (by kernel_rfl) (ex_loadR 45 (.tmp 35) rfl (b) (off + k * 262) rfl (eC x) hS.K.1 Try.underlying45 rfl (szE hxo)) ?_
          simp [Act.put]
          refine wl (by kernel_rfl) fun k hk => ?_
          refine op_bs1 28 (.tmp 36) rfl x hxo rfl hS ?_
          clear hS
          intro g9 w9 hS
          refine hk _ _ ?_
          clear hk k
          simp [Act.put]
          refine wl_append (by kernel_rfl) (.tmp 32) (.tmp 37) rfl rfl hS.K.2.1 ⟨some ⟨g9, 0, none⟩, 1, 1, [x]⟩ (es_one hS hxo) rfl (by have := unhide HX; have := unhide HBd; simp only at *; omega) (Nat.le_trans (unhide HB).size hS.bel.size) ?_
          intro v' w' hO' hg9
          have hbw : Below w1.heap.size w1 w' := ((unhide HB).trans (hS.bel.mono (unhide HB).size)).trans ((hS.K.2.1).bel hg9 (Nat.le_refl _) (Nat.le_trans (unhide HB).size hS.bel.size))
          simp [Act.put]
          clear hS hg9
          refine wl (by kernel_rfl) fun kQ hkQ => ?_
          go_simp
          refine hkQ _ _ ?_
          clear hkQ kQ
          refine wpList_nil ?_
          go_wp2
          go_roundw
          case rel => exact ⟨k + 1, by omega, by go_num, by rw [(unhide HC).2], by rw [(unhide HC).1]; exact hO', hbw⟩
          case measure => simp [intOf]; omega
    · have hkd : decide ((k : Int) < (sn : Int)) = false := by simp; omega
      have hke : sx.take k = sx := List.take_of_length_le (by rw [unhide HL]; omega)
      rw [hke] at hO ⊢
      have HO := hide hO
      cases hd : plD sx e with
      | true =>
        have HC : Hid (plX sx e = rPl sx e) := hide (by unfold plX; rw [if_pos hd])
        clear hO hbl hke hd hAr
        go_wp2_with fail
        go_ret
        exact ⟨_, rfl, by rw [← unhide HC]; exact (unhide HO).mono (unhide HBW).size, (unhide HBW).trans ((unhide HB).mono (unhide HBW).size)⟩
      | false =>
        have HC : Hid (rPl sx e = plX sx e ++ [e]) := hide (by rw [rPl_all hd]; unfold plX; rw [if_neg (by rw [hd]; simp)])
        have HX : Hid ((plX sx e).length ≤ sn) := hide (by unfold plX; rw [if_neg (by rw [hd]; simp), unhide HL]; omega)
        obtain ⟨X, hX⟩ : ∃ X, plX sx e = X := ⟨_, rfl⟩
        rw [hX] at HC HX hO
        have hS := Hs17.begin wr (fun w' => w'.rangeAt g1 0 (eC e) ∧ Oe w' w1.heap.size u5 X) (fun w' ho => ⟨(At.self (eC e)).range (hAr.old ho), hO.old ho⟩)
        clear hO hbl hke hd hAr hX HO
        go_upto_region 11 with fail
        refine wp_region_lit ?_
        refine wl (by kernel_rfl) fun kQ hkQ => ?_
        go_simp
        refine hkQ _ _ ?_
        clear hkQ kQ
        refine wv (aV (eC e)) (by kernel_rfl) (ex_loadR 45 (.tmp 3) rfl (g1) (0) rfl (eC e) hS.K.1 Try.underlying45 rfl (szE he)) ?_
        simp [Act.put]
        refine wl (by kernel_rfl) fun k hk => ?_
        refine op_bs1 28 (.tmp 42) rfl e he rfl hS ?_
        clear hS
        intro g9 w9 hS
        refine hk _ _ ?_
        clear hk k
        simp [Act.put]
        refine wl_append (by kernel_rfl) (.tmp 41) (.tmp 43) rfl rfl hS.K.2 ⟨some ⟨g9, 0, none⟩, 1, 1, [e]⟩ (es_one hS he) rfl (by have := unhide HX; have := unhide HBd; simp only at *; omega) (Nat.le_trans (unhide HB).size hS.bel.size) ?_
        intro v' w' hO' hg9
        have hbw : Below w1.heap.size w1 w' := ((unhide HB).trans (hS.bel.mono (unhide HB).size)).trans ((hS.K.2).bel hg9 (Nat.le_refl _) (Nat.le_trans (unhide HB).size hS.bel.size))
        simp [Act.put]
        clear hS hg9
        refine wl (by kernel_rfl) fun kQ hkQ => ?_
        go_simp
        refine hkQ _ _ ?_
        clear hkQ kQ
        refine wpList_nil ?_
        go_wp2
        go_ret
        exact ⟨_, rfl, by rw [unhide HC]; exact hO'.mono (unhide HBW).size, (unhide HBW).trans (hbw.mono (unhide HBW).size)⟩
set_option maxHeartbeats 2000000 in
set_option maxRecDepth 100000 in
theorem find_any (f : Flr) (acc : Int) (s : Sx Ent) (n : Int) (w : World) (hf : f.Ok) (hs : Es w s) (hb : s.n * 296 ≤ 140737488355328) :
    Calls Try.prog 13 #[aV (gC f acc s.v), .int .i64 n] w fun r w' => r = .returned (.tuple #[aV (eC ((lk s.xs n).getD zEnt)), .bool (lk s.xs n).isSome]) ∧ Below w.heap.size w w' := by
  obtain ⟨sa, sn, sc, sx⟩ := s
  have hlen : sx.length = sn := hs.ok.len
  have hS := Hs17.begin w (fun w' => Es w' ⟨sa, sn, sc, sx⟩) (fun w' ho => hs.old ho)
  have HL := hide hlen
  have hsm : sn ≤ 475464663362 := by simp only at hb; omega
  simp only [Sx.v]
  clear hs hlen hb
  go_enter Try.func13, Try.ntmps13
  go_upto_region 0 with fail
  refine wp_region_lit ?_
  refine wl_box (by kernel_rfl) 30 (.tmp 0) rfl (gC f acc (.slice sa sn sc)) rfl hS ?_
  clear hS
  intro g1 w1 hS
  simp [Act.put]
  refine wl_alloc (by kernel_rfl) 45 rfl (eC zEnt) Try.inE' hS ?_
  clear hS
  intro g2 w2 hS
  simp [Act.put]
  refine wl (by kernel_rfl) fun kQ hkQ => ?_
  go_simp
  refine hkQ _ _ ?_
  clear hkQ kQ
  refine wpList_nil ?_
  have c66 : w2.cell? ⟨g1, 66, none⟩ = some (.slice sa sn sc) := by have := (at_gr hf acc (.slice sa sn sc)).range (hS.get 1 rfl) 0 _ rfl; simpa using this
  go_wp2_with fail
  go_loopw [6] (fun i wr => ∃ k : Nat, k ≤ sn ∧ i = .int .i64 k ∧ Hid (∀ x ∈ sx.take k, x.cert.serial ≠ n) ∧ wr = w2) (fun i _ => sn - (intOf i).toNat)
  case atStart => exact ⟨0, by omega, rfl, hide (fun x hx => by simp at hx), rfl⟩
  case round =>
    obtain ⟨k, hk, rfl, HNo, hwr⟩ := hrel
    subst hwr
    by_cases hlt : k < sn
    · obtain ⟨x, b, off, hge, hxo, hsa, hbs, hrg⟩ := hS.K.at_ (k := k) hlt
      simp only at hge hsa
      subst hsa
      have c1 : wr.cell? ⟨b, off + k * 262, none⟩ = some (.int .i64 x.cert.serial) := by have := hrg 0 _ ((at_eser x).get (j := 0) rfl); simpa using this
      have hkz : (k : Int) < (sn : Int) := by omega
      have hts : sx.take (k + 1) = sx.take k ++ [x] := by rw [List.take_add_one, hge]; rfl
      have HTS := hide hts
      by_cases hq : x.cert.serial = n
      · have HLK : Hid (lk sx n = some x) := hide (by
          have h1 : lk (sx.take (k + 1)) n = some x := by
            rw [hts]
            unfold lk
            rw [List.find?_append, List.find?_eq_none.2 (fun y hy => by simpa using unhide HNo y hy)]
            simp [hq]
          rw [← List.take_append_drop (k + 1) sx]
          unfold lk at h1 ⊢
          rw [List.find?_append, h1]; rfl)
        have d1 : (x.cert.serial == n) = true := by simpa using hq
        clear hq hts hge
        go_upto_region 5 with fail
        refine wp_region_lit ?_
        refine wl (by kernel_rfl) fun kQ hkQ => ?_
        go_simp
        refine hkQ _ _ ?_
        clear hkQ kQ
        refine wl_load1 (by kernel_rfl) 28 (.tmp 23) rfl 1 rfl 66 rfl ((.slice (some ⟨b, off, none⟩) sn sc)) (at_gr hf acc (.slice (some ⟨b, off, none⟩) sn sc)) Try.underlying28 rfl hS ?_
        simp [Act.put]
        refine wl (by kernel_rfl) fun kQ hkQ => ?_
        go_simp
        refine hkQ _ _ ?_
        clear hkQ kQ
        refine wl (by kernel_rfl) fun kQ hkQ => ?_
        go_simp
        refine hkQ _ _ ?_
        clear hkQ kQ
        refine wv (aV (eC x)) (by kernel_rfl) (ex_loadR 45 (.tmp 26) rfl (b) (off + k * 262) rfl (eC x) hrg Try.underlying45 rfl (szE hxo)) ?_
        simp [Act.put]
        refine wl_store (by kernel_rfl) 45 (.tmp 4) (.tmp 27) rfl 0 rfl 0 rfl (eC x) (eC x) (pt_e zEnt_ok hxo) rfl (szE hxo) (one_e _) hS ?_
        clear hS
        intro w6 hS
        change Hs17 w [(g2, 45, (eC x)), (g1, 30, (gC f acc (.slice (some ⟨b, off, none⟩) sn sc)))] _ w6 at hS
        simp [Act.put]
        refine wl (by kernel_rfl) fun kQ hkQ => ?_
        go_simp
        refine hkQ _ _ ?_
        clear hkQ kQ
        refine wpList_nil ?_
        go_wp2
        refine bodyPost_ret (res_ct rfl hS 0 rfl rfl Try.underlying45 rfl (szE hxo) (.bool true) rfl) rfl ?_
        rw [unhide HLK]
        exact ⟨rfl, hS.bel⟩
      · have d1 : (x.cert.serial == n) = false := by simpa using hq
        have HNo2 : Hid (∀ y ∈ sx.take (k + 1), y.cert.serial ≠ n) := hide (fun y hy => by
          rw [hts] at hy
          rcases List.mem_append.1 hy with hy | hy
          · exact unhide HNo y hy
          · simp at hy; subst hy; exact hq)
        clear hq hts hge hrg
        go_wp2
        go_roundw
        case rel => exact ⟨k + 1, by omega, by go_num, HNo2, by trivial⟩
        case measure => simp [intOf]; omega
    · have hkd : decide ((k : Int) < (sn : Int)) = false := by simp; omega
      have HLK : Hid (lk sx n = none) := hide (lk_none (fun y hy => unhide HNo y (by rw [List.take_of_length_le (by rw [unhide HL]; omega)]; exact hy)))
      go_upto_region 6 with fail
      refine wp_region_lit ?_
      refine wv (aV (eC zEnt)) (by kernel_rfl) (ex_build 45 #[] rfl (eC zEnt) b_e0 rfl) ?_
      simp [Act.put]
      refine wl_store (by kernel_rfl) 45 (.tmp 4) (.tmp 28) rfl 0 rfl 0 rfl (eC zEnt) (eC zEnt) (pt_e zEnt_ok zEnt_ok) rfl (szE zEnt_ok) (one_e _) hS ?_
      clear hS
      intro w6 hS
      change Hs17 w [(g2, 45, (eC zEnt)), (g1, 30, (gC f acc (.slice sa sn sc)))] _ w6 at hS
      simp [Act.put]
      refine wl (by kernel_rfl) fun kQ hkQ => ?_
      go_simp
      refine hkQ _ _ ?_
      clear hkQ kQ
      refine wpList_nil ?_
      go_wp2
      refine bodyPost_ret (res_ct rfl hS 0 rfl rfl Try.underlying45 rfl (szE zEnt_ok) (.bool false) rfl) rfl ?_
      rw [unhide HLK]
      exact ⟨rfl, hS.bel⟩
end Go.Proofs.Ytibebhlblmdcgaa
