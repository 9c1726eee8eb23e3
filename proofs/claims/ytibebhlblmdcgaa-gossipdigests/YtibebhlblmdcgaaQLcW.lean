import Derived.Test.YtibebhlblmdcgaaQLkM
import Derived.Deep.QuietTactic
import Derived.BigQuiet
set_option linter.unusedSimpArgs false
set_option linter.unusedVariables false
namespace Go.Proofs.Ytibebhlblmdcgaa
open Go.RowKit

set_option maxHeartbeats 4000000 in
set_option maxRecDepth 100000 in
theorem lacks_any (f : Flr) (acc : Int) (s : Sx Ent) (h : Sx Smy) (w : World) (hf : f.Ok) (hs : Es w s) (hh : Sy w h) (hn : h.n ≤ 100000000) (hsn : s.n ≤ 100000000) (hi : ∀ e ∈ s.xs, I64 e.cert.serial) (hj : ∀ x ∈ h.xs, I64 x.ser) :
    Calls Try.prog 7 #[aV (gC f acc s.v), h.v] w fun r w' => ∃ v, r = .returned v ∧ Oe w' w.heap.size v (s.xs.filter fun e => (leftM s.xs h.xs e.cert.serial).isSome) ∧ Below w.heap.size w w' := by
  obtain ⟨sa, sn, sc, sx⟩ := s
  obtain ⟨ha, hnn, hc, hx⟩ := h
  have hlen : sx.length = sn := hs.ok.len
  have hlenH : hx.length = hnn := hh.len
  have hS := Hs17.begin w (fun w' => Es w' ⟨sa, sn, sc, sx⟩ ∧ Sy w' ⟨ha, hnn, hc, hx⟩) (fun w' ho => ⟨hs.old ho, Sy.old hh ho⟩)
  have HL := hide hlen
  have HLH := hide hlenH
  have HI := hide hi
  have HJ := hide hj
  have hsm : sn ≤ 100000000 := hsn
  have hhm : hnn ≤ 100000000 := hn
  simp only [Sx.v]
  clear hs hh hlen hn hsn hlenH hi hj
  go_enter Try.func7, Try.ntmps7
  go_upto_region 0 with fail
  refine wp_region_lit ?_
  refine wl_box (by kernel_rfl) 30 (.tmp 0) rfl (gC f acc (.slice sa sn sc)) rfl hS ?_
  clear hS
  intro g1 w1 hS
  simp [Act.put]
  refine wl (by kernel_rfl) fun kQ hkQ => ?_
  go_simp
  refine hkQ _ _ ?_
  clear hkQ kQ
  refine wpList_nil ?_
  have hA1 : Arr w1 g1 30 (gC f acc (.slice sa sn sc)) := hS.get 0 rfl
  have HE := hide hS.K.1
  have HH := hide hS.K.2
  have HBW := hide hS.bel
  have HA1 := hide hA1
  have hg1 : g1 < w1.heap.size := hA1.lt
  have HG1 := hide hg1
  clear hS hA1 hg1
  go_upto_region 1 with fail
  refine wp_region_lit ?_
  refine wl (by kernel_rfl) fun kQ hkQ => ?_
  refine op_mmk 51 rfl ?_
  intro bm w2 hbm hM hB2
  have HBM := hide hbm
  clear hbm
  refine hkQ _ _ ?_
  clear hkQ kQ
  simp [Act.put]
  refine wl (by kernel_rfl) fun kQ hkQ => ?_
  go_simp
  refine hkQ _ _ ?_
  clear hkQ kQ
  refine wpList_nil ?_
  have hA2 := (unhide HA1).later hB2
  have c66 : w2.cell? ⟨g1, 66, none⟩ = some (.slice sa sn sc) := by have := (at_gr hf acc (.slice sa sn sc)).range hA2 0 _ rfl; simpa using this
  have HM := hide hM
  have HB2 := hide hB2
  clear hM hB2 hA2
  go_wp2_with fail
  clear c66
  go_loopw [19] (fun i wr => ∃ k : Nat, k ≤ sn ∧ i = .int .i64 k ∧ MW wr bm k (wants (sx.take k)) ∧ Below w1.heap.size w1 wr) (fun i _ => sn - (intOf i).toNat)
  case atStart => exact ⟨0, by omega, rfl, unhide HM, unhide HB2⟩
  case round =>
    obtain ⟨k, hk, rfl, hM, hbl⟩ := hrel
    have HB := hide hbl
    by_cases hlt : k < sn
    · obtain ⟨x, b, off, hge, hxo, hsa, hbs, hrg1⟩ := (unhide HE).at_ (k := k) hlt
      simp only at hge hsa
      subst hsa
      have hrg : wr.rangeAt b (off + k * 262) (eC x) := rangeAt_blk hrg1 (hbl.block b hbs)
      have hbs2 : b < wr.heap.size := Nat.lt_of_lt_of_le hbs hbl.size
      have HTS := hide (wants_take hge)
      have HIX := hide (unhide HI x (List.mem_of_getElem? hge))
      have hkz : (k : Int) < (sn : Int) := by omega
      obtain ⟨m, hm⟩ : ∃ m, m = wants (sx.take k) := ⟨_, rfl⟩
      rw [← hm] at hM HTS
      have hS := Hs17.at_ hbl (fun w' => w'.rangeAt b (off + k * 262) (eC x) ∧ MW w' bm k m) (fun w' ho => ⟨rangeAt_old hrg hbs2 ho, hM.old ho⟩)
      clear hge hrg hM hbl hbs hbs2 hrg1 hm
      go_upto_region 4 with fail
      refine wp_region_lit ?_
      refine wl (by kernel_rfl) fun kQ hkQ => ?_
      go_simp
      refine hkQ _ _ ?_
      clear hkQ kQ
      refine wv (aV (eC x)) (by kernel_rfl) (ex_loadR 45 (.tmp 21) rfl (b) (off + k * 262) rfl (eC x) hS.K.1 Try.underlying45 rfl (szE hxo)) ?_
      simp [Act.put]
      refine wl_alloc (by kernel_rfl) 45 rfl (eC zEnt) Try.inE' hS ?_
      clear hS
      intro g21 w21 hS
      simp [Act.put]
      refine wl_store (by kernel_rfl) 45 (.tmp 7) (.tmp 22) rfl 0 rfl 0 rfl (eC x) (eC x) (pt_e zEnt_ok hxo) rfl (szE hxo) (one_e _) hS ?_
      clear hS
      intro w22 hS
      change Hs17 w1 [(g21, 45, (eC x))] _ w22 at hS
      simp [Act.put]
      refine wpList_nil ?_
      have hM := hS.K.2
      replace hS := hS.weak (K' := fun _ => True) (fun _ _ => trivial)
      go_upto_region 5 with fail
      replace hS := hS.drew
      replace hM := hM.drew
      refine wp_region_held_drew (S := Hs17 w1 [(g21, 45, (eC x))] (fun _ => True)) (by kernel_rfl) (hS.sub ((List.Sublist.slnil).cons_cons _)) (fun hHeld => ?_)
      generalize World.drew _ = w23 at hS hM hHeld ⊢
      refine wpAnyH_take (i := 0) (oi := _) (v := (.map (some bm))) rfl (by kernel_rfl) (by kernel_rfl) (by kernel_rfl) (fun _ _ _ h => h) (Or.inl ⟨by rfl, fun w hSw => by go_simp⟩) hHeld ?_
      simp [Act.put]
      refine wpAnyH_take (i := 1) (oi := _) (v := .pointer (some ⟨g21, 0, none⟩)) rfl (by kernel_rfl) (by kernel_rfl) (by kernel_rfl) (fun _ _ _ h => h) (Or.inl ⟨by rfl, fun w hSw => by go_simp⟩) hHeld ?_
      simp [Act.put]
      refine wpAnyH_take (i := 2) (oi := _) (v := .pointer (some ⟨g21, 0, none⟩)) rfl (by kernel_rfl) (by kernel_rfl) (by kernel_rfl) (fun _ _ _ h => h) (Or.inl ⟨by rfl, fun w hSw => by go_simp⟩) hHeld ?_
      simp [Act.put]
      refine wpAnyH_take (i := 3) (oi := _) (v := .int .i64 x.cert.serial) rfl (by kernel_rfl) (by kernel_rfl) (by kernel_rfl) (fun _ _ _ h => h) (yl_load1 (by kernel_rfl) 3 (.tmp 25) rfl 0 rfl 0 rfl (.int .i64 x.cert.serial) ((at_cert x).trans (at_ser x.cert) rfl) Try.underlying3 rfl) hHeld ?_
      simp [Act.put]
      refine wpAnyH_take (i := 4) (oi := _) (v := aV (eC x)) rfl (by kernel_rfl) (by kernel_rfl) (by kernel_rfl) (fun _ _ _ h => h) (yl_load (by kernel_rfl) 45 (.tmp 7) rfl 0 rfl 0 rfl (eC x) (At.self _) Try.underlying45 rfl (szE hxo)) hHeld ?_
      simp [Act.put]
      refine wpAnyH_ready (rs := [5]) (by kernel_rfl) (by simp) ?_
      refine (AllReadyH.cons rfl (fun kQ hkQ => ?_) AllReadyH.nil)
      go_simp
      refine (all_any x _ hxo).mono ?_
      rintro e w24 ⟨rfl, hb1⟩
      replace hS := hS.later hb1
      replace hM := hM.bel hb1
      clear hHeld hb1
      refine hkQ.out _ _ (hS.sub ((List.Sublist.slnil).cons_cons _)) (fun hHeld => ?_)
      clear hkQ kQ
      refine wpAnyH_ready (rs := [6]) (by kernel_rfl) (by simp) ?_
      refine (AllReadyH.cons rfl (fun kQ hkQ => ?_) AllReadyH.nil)
      obtain ⟨w9, hr9, hm9, hb9⟩ := hM.put (unhide HIX) (wAll x) (by omega)
      refine dw (by kernel_rfl) (op_mput 51 (.tmp 23) (.tmp 26) (.tmp 28) rfl rfl rfl rfl hr9 ?_)
      replace hS := hS.but hM hb9 (Nat.le_of_eq (unhide HBM).symm)
      clear hM hr9 hHeld hb9
      refine hkQ.out _ _ (hS.sub ((List.Sublist.slnil).cons_cons _)) (fun hHeld => ?_)
      clear hkQ kQ
      simp [Act.put]
      refine wpAnyH_done (by kernel_rfl) ?_ _
      clear hHeld
      have HM9 := hide hm9
      have HB9 := hide hS.bel
      clear hS hm9
      go_wp2
      go_roundw
      case rel => exact ⟨k + 1, by omega, by go_num, by rw [unhide HTS]; exact unhide HM9, unhide HB9⟩
      case measure => simp [intOf]; omega
    · have hkd : decide ((k : Int) < (sn : Int)) = false := by simp; omega
      have hke : sx.take k = sx := List.take_of_length_le (by rw [unhide HL]; omega)
      rw [hke] at hM
      have HM1 := hide (hM.wide hk)
      clear hM hbl hke HM HB2
      go_wp2_with fail
      clear hkd
      have HB3 := HB
      clear HB
      go_loopw [32] (fun i wr => ∃ k : Nat, k ≤ hnn ∧ i = .int .i64 k ∧ MW wr bm (sn + k) (leftM sx (hx.take k)) ∧ Below w1.heap.size w1 wr) (fun i _ => hnn - (intOf i).toNat)
      case atStart => exact ⟨0, by omega, rfl, unhide HM1, unhide HB3⟩
      case round =>
        obtain ⟨j, hjk, rfl, hM, hbl⟩ := hrel
        have HB := hide hbl
        by_cases hlt : j < hnn
        · obtain ⟨x, b, off, hge, hsa, hbs, hrg1⟩ := Sy.at_ (unhide HH) (k := j) hlt
          simp only at hge hsa
          subst hsa
          have hrg : wr.rangeAt b (off + j * 4) (sC x) := rangeAt_blk hrg1 (hbl.block b hbs)
          have hbs2 : b < wr.heap.size := Nat.lt_of_lt_of_le hbs hbl.size
          have HTS := hide (leftM_take (xs := sx) hge)
          have HIX := hide (unhide HJ x (List.mem_of_getElem? hge))
          have hkz : (j : Int) < (hnn : Int) := by omega
          obtain ⟨m, hm⟩ : ∃ m, m = leftM sx (hx.take j) := ⟨_, rfl⟩
          rw [← hm] at hM HTS
          have hS := Hs17.at_ hbl (fun w' => w'.rangeAt b (off + j * 4) (sC x) ∧ MW w' bm (sn + j) m) (fun w' ho => ⟨rangeAt_old hrg hbs2 ho, hM.old ho⟩)
          clear hge hrg hM hbl hbs hbs2 hrg1 hm
          go_upto_region 9 with fail
          refine wp_region_lit ?_
          refine wl (by kernel_rfl) fun kQ hkQ => ?_
          go_simp
          refine hkQ _ _ ?_
          clear hkQ kQ
          refine wv (aV (sC x)) (by kernel_rfl) (ex_loadR 39 (.tmp 34) rfl (b) (off + j * 4) rfl (sC x) hS.K.1 Try.underlying39 rfl (szY _)) ?_
          simp [Act.put]
          refine wl_alloc (by kernel_rfl) 39 rfl (sC zSmy) Try.inY' hS ?_
          clear hS
          intro g31 w31 hS
          simp [Act.put]
          refine wl_store (by kernel_rfl) 39 (.tmp 9) (.tmp 35) rfl 0 rfl 0 rfl (sC x) (sC x) (pt_y zSmy x) rfl (szY _) (one_y _) hS ?_
          clear hS
          intro w32 hS
          change Hs17 w1 [(g31, 39, (sC x))] _ w32 at hS
          simp [Act.put]
          refine wpList_nil ?_
          go_upto_region 10 with fail
          refine wp_region_lit ?_
          refine wl (by kernel_rfl) fun kQ hkQ => ?_
          go_simp
          refine hkQ _ _ ?_
          clear hkQ kQ
          refine wl_load (by kernel_rfl) 39 (.tmp 9) rfl 0 rfl 0 rfl (sC x) (At.self _) Try.underlying39 rfl (szY _) hS ?_
          simp [Act.put]
          refine wl (by kernel_rfl) fun kQ hkQ => ?_
          go_simp
          refine (strike_any bm (sn + j) m x _ hS.K.2 (unhide HIX) (by omega)).mono ?_
          rintro e w9 ⟨rfl, hm9, hb9⟩
          have HM9 := hide hm9
          have HB9 := hide (hS.bel.trans (hb9.below hS.bel.size (Nat.le_of_eq (unhide HBM).symm)))
          refine hkQ _ _ ?_
          clear hkQ kQ hS hm9 hb9
          refine wpList_nil ?_
          go_wp2
          go_roundw
          case rel => exact ⟨j + 1, by omega, by go_num, by rw [unhide HTS]; exact unhide HM9, unhide HB9⟩
          case measure => simp [intOf]; omega
        · have hkd : decide ((j : Int) < (hnn : Int)) = false := by simp; omega
          have hke : hx.take j = hx := List.take_of_length_le (by rw [unhide HLH]; omega)
          rw [hke] at hM
          obtain ⟨w5, hw5⟩ : ∃ w5, w5 = wr := ⟨_, rfl⟩
          subst hw5
          obtain ⟨M, hMe⟩ : ∃ M, M = leftM sx hx := ⟨_, rfl⟩
          rw [← hMe] at hM
          have c66 : w5.cell? ⟨g1, 66, none⟩ = some (.slice sa sn sc) := by have := (at_gr hf acc (.slice sa sn sc)).range ((unhide HA1).later hbl) 0 _ rfl; simpa using this
          have HM1 := hide hM
          have HE5 := hide ((unhide HE).keep hbl.size (fun _ x _ hx => hbl.block _ hx))
          have HME := hide hMe
          clear hM hbl hke HB3 hMe HA1
          go_wp2_with fail
          clear hkd c66
          have HB5 := HB
          clear HB
          go_loopw [10, 43] (fun v i wr => ∃ k : Nat, k ≤ sn ∧ i = .int .i64 k ∧ Oe wr w5.heap.size v ((sx.take k).filter fun e => (M e.cert.serial).isSome) ∧ Below w5.heap.size w5 wr) (fun _ i _ => sn - (intOf i).toNat)
          case atStart => exact ⟨0, by omega, rfl, by simpa using Oe.nil w5 w5.heap.size, Below.refl _ _⟩
          case round =>
            obtain ⟨q, hqk, rfl, hO, hbl⟩ := hrel
            have HB := hide hbl
            by_cases hlt : q < sn
            · obtain ⟨x, b, off, hge, hxo, hsa, hbs, hrg1⟩ := (unhide HE5).at_ (k := q) hlt
              simp only at hge hsa
              subst hsa
              have hrg : wr.rangeAt b (off + q * 262) (eC x) := rangeAt_blk hrg1 (hbl.block b hbs)
              have hbs2 : b < wr.heap.size := Nat.lt_of_lt_of_le hbs hbl.size
              have hts := filt_take (p := fun e => (M e.cert.serial).isSome) hge
              have hlenX : ((sx.take q).filter fun e => (M e.cert.serial).isSome).length ≤ sn := by have := List.length_filter_le (fun e : Ent => (M e.cert.serial).isSome) (sx.take q); rw [List.length_take] at this; omega
              have HIX := hide (unhide HI x (List.mem_of_getElem? hge))
              have hkz : (q : Int) < (sn : Int) := by omega
              obtain ⟨Y, hY⟩ : ∃ Y, ((sx.take q).filter fun e => (M e.cert.serial).isSome) = Y := ⟨_, rfl⟩
              rw [hY] at hO hlenX hts
              have HTS := hide hts
              have hMr := (unhide HM1).bel hbl
              have hS := Hs17.begin wr (fun w' => w'.rangeAt b (off + q * 262) (eC x) ∧ Oe w' w5.heap.size u10 Y ∧ MW w' bm (sn + j) M) (fun w' ho => ⟨rangeAt_old hrg hbs2 ho, hO.old ho, hMr.old ho⟩)
              have HX := hide hlenX
              clear hlenX hge hrg hO hbl hts hY hbs hbs2 hrg1 hMr
              go_upto_region 15 with fail
              refine wp_region_lit ?_
              refine wl (by kernel_rfl) fun kQ hkQ => ?_
              go_simp
              refine hkQ _ _ ?_
              clear hkQ kQ
              refine wv (aV (eC x)) (by kernel_rfl) (ex_loadR 45 (.tmp 45) rfl (b) (off + q * 262) rfl (eC x) hS.K.1 Try.underlying45 rfl (szE hxo)) ?_
              simp [Act.put]
              refine wl_alloc (by kernel_rfl) 45 rfl (eC zEnt) Try.inE' hS ?_
              clear hS
              intro g41 w41 hS
              simp [Act.put]
              refine wl_store (by kernel_rfl) 45 (.tmp 12) (.tmp 46) rfl 0 rfl 0 rfl (eC x) (eC x) (pt_e zEnt_ok hxo) rfl (szE hxo) (one_e _) hS ?_
              clear hS
              intro w42 hS
              change Hs17 wr [(g41, 45, (eC x))] _ w42 at hS
              simp [Act.put]
              refine wpList_nil ?_
              cases hmz : M x.cert.serial with
              | none =>
                obtain ⟨y, hlk⟩ := hS.K.2.2.lookN (unhide HIX) hmz
                go_upto_region 16 with fail
                refine wp_region_lit ?_
                refine wl (by kernel_rfl) fun kQ hkQ => ?_
                go_simp
                refine hkQ _ _ ?_
                clear hkQ kQ
                refine wl (by kernel_rfl) fun kQ hkQ => ?_
                go_simp
                refine hkQ _ _ ?_
                clear hkQ kQ
                refine wl (by kernel_rfl) fun kQ hkQ => ?_
                go_simp
                refine hkQ _ _ ?_
                clear hkQ kQ
                refine wl_load1 (by kernel_rfl) 3 (.tmp 50) rfl 0 rfl 0 rfl (.int .i64 x.cert.serial) ((at_cert x).trans (at_ser x.cert) rfl) Try.underlying3 rfl hS ?_
                simp [Act.put]
                refine wv (.tuple #[aV (wC y), .bool false]) (by kernel_rfl) (ex_look 51 (.tmp 48) (.tmp 51) true rfl rfl rfl hlk) ?_
                simp [Act.put]
                refine wl (by kernel_rfl) fun kQ hkQ => ?_
                go_simp
                refine hkQ _ _ ?_
                clear hkQ kQ
                refine wl (by kernel_rfl) fun kQ hkQ => ?_
                go_simp
                refine hkQ _ _ ?_
                clear hkQ kQ
                refine wl (by kernel_rfl) fun kQ hkQ => ?_
                go_simp
                refine hkQ _ _ ?_
                clear hkQ kQ
                refine wl_alloc (by kernel_rfl) 53 rfl (wC zWnt) Try.inN' hS ?_
                clear hS
                intro g43 w43 hS
                simp [Act.put]
                refine wl_store (by kernel_rfl) 53 (.tmp 13) (.tmp 53) rfl 0 rfl 0 rfl (wC y) (wC y) (pt_n zWnt y) rfl (szN _) (one_n _) hS ?_
                clear hS
                intro w44 hS
                change Hs17 wr [(g43, 53, (wC y)), (g41, 45, (eC x))] _ w44 at hS
                simp [Act.put]
                refine wl (by kernel_rfl) fun kQ hkQ => ?_
                go_simp
                refine hkQ _ _ ?_
                clear hkQ kQ
                refine wpList_nil ?_
                have HC : Hid ((sx.take (q + 1)).filter (fun e => (M e.cert.serial).isSome) = Y) := hide (by rw [unhide HTS, hmz]; simp)
                have HO := hide hS.K.2.1
                have HBN := hide ((unhide HB).trans (hS.bel.mono (unhide HB).size))
                clear hlk hS hmz
                go_wp2
                go_roundw
                case rel => exact ⟨q + 1, by omega, by go_num, by rw [unhide HC]; exact unhide HO, unhide HBN⟩
                case measure => simp [intOf]; omega
              | some y =>
                have hlk := hS.K.2.2.lookS (unhide HIX) hmz
                go_upto_region 16 with fail
                refine wp_region_lit ?_
                refine wl (by kernel_rfl) fun kQ hkQ => ?_
                go_simp
                refine hkQ _ _ ?_
                clear hkQ kQ
                refine wl (by kernel_rfl) fun kQ hkQ => ?_
                go_simp
                refine hkQ _ _ ?_
                clear hkQ kQ
                refine wl (by kernel_rfl) fun kQ hkQ => ?_
                go_simp
                refine hkQ _ _ ?_
                clear hkQ kQ
                refine wl_load1 (by kernel_rfl) 3 (.tmp 50) rfl 0 rfl 0 rfl (.int .i64 x.cert.serial) ((at_cert x).trans (at_ser x.cert) rfl) Try.underlying3 rfl hS ?_
                simp [Act.put]
                refine wv (.tuple #[aV (wC y), .bool true]) (by kernel_rfl) (ex_look 51 (.tmp 48) (.tmp 51) true rfl rfl rfl hlk) ?_
                simp [Act.put]
                refine wl (by kernel_rfl) fun kQ hkQ => ?_
                go_simp
                refine hkQ _ _ ?_
                clear hkQ kQ
                refine wl (by kernel_rfl) fun kQ hkQ => ?_
                go_simp
                refine hkQ _ _ ?_
                clear hkQ kQ
                refine wl (by kernel_rfl) fun kQ hkQ => ?_
                go_simp
                refine hkQ _ _ ?_
                clear hkQ kQ
                refine wl_alloc (by kernel_rfl) 53 rfl (wC zWnt) Try.inN' hS ?_
                clear hS
                intro g43 w43 hS
                simp [Act.put]
                refine wl_store (by kernel_rfl) 53 (.tmp 13) (.tmp 53) rfl 0 rfl 0 rfl (wC y) (wC y) (pt_n zWnt y) rfl (szN _) (one_n _) hS ?_
                clear hS
                intro w44 hS
                change Hs17 wr [(g43, 53, (wC y)), (g41, 45, (eC x))] _ w44 at hS
                simp [Act.put]
                refine wl (by kernel_rfl) fun kQ hkQ => ?_
                go_simp
                refine hkQ _ _ ?_
                clear hkQ kQ
                refine wpList_nil ?_
                have HC : Hid ((sx.take (q + 1)).filter (fun e => (M e.cert.serial).isSome) = Y ++ [x]) := hide (by rw [unhide HTS, hmz]; simp)
                clear hlk hmz
                go_upto_region 17 with fail
                refine wp_region_lit ?_
                refine wl (by kernel_rfl) fun kQ hkQ => ?_
                go_simp
                refine hkQ _ _ ?_
                clear hkQ kQ
                refine wpList_nil ?_
                go_upto_region 18 with fail
                refine wp_region_lit ?_
                refine wl (by kernel_rfl) fun kQ hkQ => ?_
                go_simp
                refine hkQ _ _ ?_
                clear hkQ kQ
                refine wl_load (by kernel_rfl) 45 (.tmp 12) rfl 1 rfl 0 rfl (eC x) (At.self _) Try.underlying45 rfl (szE hxo) hS ?_
                simp [Act.put]
                refine wl (by kernel_rfl) fun k hk => ?_
                refine op_bs1 28 (.tmp 57) rfl x hxo rfl hS ?_
                clear hS
                intro g9 w9 hS
                refine hk _ _ ?_
                clear hk k
                simp [Act.put]
                refine wl_append (by kernel_rfl) (.tmp 56) (.tmp 58) rfl rfl hS.K.2.1 ⟨some ⟨g9, 0, none⟩, 1, 1, [x]⟩ (es_one hS hxo) rfl (by have := unhide HX; simp only at *; omega) (Nat.le_trans (unhide HB).size hS.bel.size) ?_
                intro v' w' hO' hg9
                have hbw : Below w5.heap.size w5 w' := ((unhide HB).trans (hS.bel.mono (unhide HB).size)).trans ((hS.K.2.1).bel hg9 (Nat.le_refl _) (Nat.le_trans (unhide HB).size hS.bel.size))
                simp [Act.put]
                clear hS hg9
                refine wl (by kernel_rfl) fun kQ hkQ => ?_
                go_simp
                refine hkQ _ _ ?_
                clear hkQ kQ
                refine wpList_nil ?_
                go_wp2
                go_roundw
                case rel => exact ⟨q + 1, by omega, by go_num, by rw [unhide HC]; exact hO', hbw⟩
                case measure => simp [intOf]; omega
            · have hkd : decide ((q : Int) < (sn : Int)) = false := by simp; omega
              have hke : sx.take q = sx := List.take_of_length_le (by rw [unhide HL]; omega)
              rw [hke] at hO
              have HO := hide hO
              clear hO hbl hke
              go_wp2_with fail
              go_ret
              have h5 := (unhide HBW).trans ((unhide HB5).mono (unhide HBW).size)
              exact ⟨_, rfl, by rw [← unhide HME]; exact (unhide HO).mono h5.size, h5.trans ((unhide HB).mono h5.size)⟩
end Go.Proofs.Ytibebhlblmdcgaa
