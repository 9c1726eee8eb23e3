import Derived.Test.YtoipofidogajkaaTorW
import Derived.Deep.RegionHeld3
set_option linter.unusedVariables false
namespace Go.Proofs.Ytoipofidogajkaa
open Go.RowKit

set_option maxHeartbeats 1000000 in
set_option maxRecDepth 100000 in
theorem alike_t (k : Int) (a b : Option Addr) (m c c' : Nat) (l : List Int) (w : World) (ha : Sl.Ok w ⟨a, m, c, l⟩) (hb : Sl.Ok w ⟨b, m, c', l⟩) (hm : m ≤ 1099511627776) :
    Calls Try.prog 18 #[.agg #[.int .u8 k, .slice a m c], .agg #[.int .u8 k, .slice b m c']] w fun e w' => e = .returned (.bool true) ∧ Below w.heap.size w w' := by
  have hS := same_t ⟨a, m, c, l⟩ ⟨b, m, c', l⟩ ((w.alloc (.cells #[.int .u8 k, .slice a m c] 30)).alloc (.cells #[.int .u8 k, .slice b m c'] 30)) ((ha.later (below_alloc w _)).later (below_alloc _ _)) ((hb.later (below_alloc w _)).later (below_alloc _ _)) hm rfl
  simp only [Sl.v] at hS
  have hkk : (k == k) = true := by simp
  clear ha hb
  go_enter Try.func18, Try.ntmps18
  go_wp2_with (go_at_call 12; refine hS.mono ?_; rintro e w2 ⟨rfl, q, rfl⟩; clear hS)
  go_ret
  exact ⟨rfl, below_drewN (bel_then (below_alloc w _) (below_alloc w _).size (below_alloc _ _)) q⟩
theorem flat_drop : ∀ (fs : List (Int × List Int)) (j : Nat) (f : Int × List Int), fs[j]? = some f → (flat fs).drop (flat (fs.take j)).length = encL f.1 f.2 ++ flat (fs.drop (j + 1))
  | [], j, f, h => by simp at h
  | g :: fs, 0, f, h => by simp at h; subst h; simp [flat]
  | g :: fs, j + 1, f, h => by
    have ih := flat_drop fs j f (by simpa using h)
    simp only [List.take_succ_cons, flat, List.length_append, List.drop_succ_cons]
    rw [← List.drop_drop, List.drop_left, ih]
theorem decode_at (d : Sl) (i : Nat) (k : Int) (p r : List Int) (w : World) (hd : d.Ok w) (hL : d.l.drop i = encL k p ++ r) (hk : 0 ≤ k ∧ k ≤ 255) (hp : IsB p) (n : Nat) (hn : p.length = n) (hlen : n ≤ 262144) (hi : i ≤ d.n) :
    Calls Try.prog 11 #[d.v, .int .i64 i] w fun e w' => ∃ a c, e = .returned (.tuple #[.agg #[.int .u8 k, .slice a n n], .int .i64 (i + n + 10 : Nat), .int .i64 0]) ∧
      w'.ownsRow w.heap.size 5 1 (.slice a n c) n (U8 p) ∧ Below w.heap.size w w' := by
  subst hn
  have hmz := mz_enc k p r hk hp hlen
  have hl : i + p.length + 10 ≤ d.n := by
    have h := congrArg List.length hL
    rw [List.length_drop, List.length_append, encL_length, hd.len] at h
    omega
  have hD := decode_some d i p.length w hd (by rw [hL]; exact hmz) hl hlen
  have hk1 : d.l.getD (i + 1) 0 = k := by
    have h := enc_kind k p r
    rw [← hL] at h
    simpa [List.getD, List.getElem?_drop] using h
  have hp1 : (d.l.drop (i + 6)).take p.length = p := by
    have h := enc_pay k p r
    rw [← hL, List.drop_drop] at h
    exact h
  simp only [hk1, hp1, frV] at hD
  exact hD
set_option maxHeartbeats 4000000 in
set_option maxRecDepth 100000 in
theorem back_law (pa : Option Addr) (pc : Nat) (ps : List Sl) (d b : Sl) (w : World) (hv : LiesV w pa (ps.map Sl.v)) (hok : ∀ s ∈ ps, s.Ok w) (hpn : ps.length ≤ 140737488351232) (hpz : ∀ s ∈ ps, s.c ≤ 140737488351232) (hd : d.Ok w) (hb : b.Ok w) :
    Calls Try.prog 7 #[.slice pa ps.length pc, d.v, b.v] w fun e w' => e = .returned (.bool true) ∧ Below w.heap.size w w' := by
  obtain ⟨i0, hi, hz0, hz1, hz2⟩ := info_parts Try.infoB
  have hSm := small_any pa pc ps w hv hok hpn hpz
  obtain ⟨da, dn, dc, dl⟩ := d
  obtain ⟨ba, bn, bc, bl⟩ := b
  have hdm : dn ≤ 9223372036854775807 := by have h1 := hd.le; have h2 := hd.mx; unfold maxLen at h2; simp only at h1 h2; omega
  have hbm : bn ≤ 9223372036854775807 := by have h1 := hb.le; have h2 := hb.mx; unfold maxLen at h2; simp only at h1 h2; omega
  simp only [Sl.v]
  go_enter Try.func7, Try.ntmps7
  go_wp2_with fail
  refine hSm.mono ?_
  rintro e w1 ⟨(rfl | ⟨rfl, htot, hpn2⟩), rfl⟩
  · go_wp2_with fail
    go_ret
    exact ⟨rfl, Below.refl _ _⟩
  by_cases hdn : (65536 : Int) < (dn : Int)
  · go_wp2_with fail
    go_ret
    exact ⟨rfl, Below.refl _ _⟩
  by_cases hbn : (65536 : Int) < (bn : Int)
  · go_wp2_with fail
    go_ret
    exact ⟨rfl, Below.refl _ _⟩
  have hJ := joined_any pa pc ps w1 hv hok hpn2 htot
  have hpl : ∀ s ∈ ps, IsB s.l ∧ s.l.length ≤ 262144 := fun s hs => ⟨(hok s hs).isB, by
    have : s.l.length ≤ (cat ps).length := by
      obtain ⟨k, hk⟩ := List.getElem?_of_mem hs
      have h1 := cat_take_succ ps k s hk
      have h2 := cat_take_le ps (k + 1)
      rw [h1, List.length_append] at h2
      omega
    omega⟩
  have hFok := frs_ok ps 0 hpl (by omega)
  have hFl := frs_length ps 0
  have hFn := flat_frs_len ps 0
  obtain ⟨fs, hfs⟩ : ∃ fs, fs = frs 0 ps := ⟨_, rfl⟩
  rw [← hfs] at hJ hFok hFl hFn
  obtain ⟨N, hN⟩ : ∃ N, N = (flat fs).length := ⟨_, rfl⟩
  obtain ⟨P, hP⟩ : ∃ P, P = ps.length := ⟨_, rfl⟩
  rw [← hN] at hJ hFn
  rw [← hP] at hJ hFl hFn hpn2 ⊢
  have HFS := hide hfs
  have HN := hide hN
  have HP := hide hP
  have HFL := hide hFl
  have HFO := hide hFok
  have HV := hide hv
  have HOK := hide hok
  have hNb : N ≤ 70000 := by omega
  clear hSm hfs hN hP hFl hFok hv hok hpn hpz hpl htot hFn
  have hrd : Sl.Ok w1 ⟨da, dn, dc, dl⟩ := hd
  have HD := hide hd
  have HB := hide hb
  clear hd hb hrd
  go_wp2_with (first
    | (go_at_call 16; refine hJ.mono ?_; rintro e w2 ⟨vb, ve, rfl, ob, oe, b2⟩; clear hJ; obtain ⟨ab, cb, rfl⟩ := own_form ob; obtain ⟨ae, ce, rfl⟩ := own_form oe
       have okb := own_okb ob (flat_isB fs (unhide HFO))
       have hSc := scan_any ⟨ab, N, cb, flat fs⟩ fs [] w2 okb (by simp) (unhide HFO) rfl (by simp only; omega)
       rw [← unhide HN] at hSc
       simp only [Sl.v, mz_nil] at hSc
       have OB := hide ob
       have OE := hide oe
       have B2 := hide b2
       clear ob oe b2 okb)
    | (go_at_call 17; refine hSc.mono ?_; rintro e w3 ⟨v, xs, rfl, o3, hxs, hli, b3⟩; clear hSc; obtain ⟨av, cv, rfl⟩ := own_form o3
       have hxl : xs.length = P := by
         have e := congrArg List.length hxs
         rw [List.length_map, pls_length, unhide HFL] at e
         exact e
       have O3 := hide o3
       have HXS := hide hxs
       have HLI := hide hli
       have B3 := hide (bel_then (unhide B2) (unhide B2).size b3)
       have B23 := hide b3
       have hEn := encode_ok 7 ⟨da, dn, dc, dl⟩ w3 ((unhide HD).later (unhide B3)) (by omega) (by simp only; omega)
       simp only [Sl.v] at hEn
       rw [hxl]
       clear o3 hxs hli b3)
    | (go_at_call 10; refine hEn.mono ?_; rintro e w4 ⟨g4, rfl, o4, b4⟩; clear hEn
       have hc4 : w4.cell? ⟨g4, 0, none⟩ = some (.int .u8 165) := (o4.cellAt 0 (by omega)).trans rfl
       have B4 := hide (bel_then (unhide B3) (unhide B3).size b4)
       have B24 := hide (bel_then (unhide B23) (unhide B23).size b4)
       have B34 := hide b4
       have okd := (unhide HD).later (unhide B4)
       have okb2 := (own_okb (unhide OB) (flat_isB fs (unhide HFO))).later (unhide B24)
       have okh := (unhide HB).later (unhide B4)
       clear o4 b4)
    | (at_builtin; refine wpList_append_sl rfl _ _ 22 rfl w4.heap.size 5 i0 (.int .u8 0) Try.underlying22 hi hz0 hz1 hz2 rfl (.slice none 0 0) 0 [] rfl (World.ownsRow_nil _ _ _ _) ⟨_, _, _, _⟩ okd rfl (by simp only; omega) (Nat.le_refl _) ?_))
  intro v5 w5 o5 g5
  have O5 := unhide o5
  have b5 : Below w4.heap.size w4 w5 := below_grown (Below.refl _ _) (Nat.le_refl _) (World.ownsRow_nil w4 w4.heap.size 5 1) (unhide g5)
  have okb5 := okb2.later b5
  have hs5 := b5.size
  clear o5 g5 okb2
  go_wp2_with (at_builtin; refine wpList_append_sl rfl _ _ 22 rfl w4.heap.size 5 i0 (.int .u8 0) Try.underlying22 hi hz0 hz1 hz2 rfl _ _ _ rfl O5 ⟨_, _, _, _⟩ okb5 rfl (by simp only; omega) hs5 ?_)
  intro v6 w6 o6 g6
  have O6 := unhide o6
  rw [← U8_append] at O6
  have b6 : Below w4.heap.size w4 w6 := below_grown b5 (Nat.le_refl _) O5 (unhide g6)
  have okh6 := okh.later b6
  have hs6 := b6.size
  clear o6 g6 okb5 O5 b5 hs5
  go_wp2_with (at_builtin; refine wpList_append_sl rfl _ _ 22 rfl w4.heap.size 5 i0 (.int .u8 0) Try.underlying22 hi hz0 hz1 hz2 rfl _ _ _ rfl O6 ⟨_, _, _, _⟩ okh6 rfl (by simp only; omega) hs6 ?_)
  intro v7 w7 o7 g7
  have O7 := unhide o7
  rw [← U8_append] at O7
  have b7 : Below w4.heap.size w4 w7 := below_grown b6 (Nat.le_refl _) O6 (unhide g7)
  obtain ⟨aw, cw, rfl⟩ := own_form O7
  have ok7 := hide (own_okb O7 (((unhide HD).isB.append (flat_isB fs (unhide HFO))).append (unhide HB).isB))
  have B7 := hide (bel_then (unhide B4) (unhide B4).size b7)
  have B27 := hide (bel_then (unhide B24) (unhide B24).size b7)
  have B37 := hide (bel_then (unhide B34) (unhide B34).size b7)
  clear o7 g7 O7 O6 b6 hs6 okh6 okh okd b7
  go_wp2_with fail
  go_loopw [16, 17] (fun a i wr => ∃ j t : Nat, j ≤ P ∧ i = .int .i64 j ∧ a = .int .i64 t ∧ t ≤ 70000 ∧ Hid (t = (flat (fs.take j)).length) ∧ Below w7.heap.size w7 wr) (fun _ i _ => P - (intOf i).toNat)
  case atStart => exact ⟨0, 0, by omega, rfl, rfl, by omega, hide rfl, Below.refl _ _⟩
  case round =>
    obtain ⟨j, t, hj, rfl, rfl, ht7, HT, hbl⟩ := hrel
    by_cases hjP : j < P
    · obtain ⟨x, s, hx, hs, hxk, hxp⟩ := xs_at (k := P) (by rw [List.take_of_length_le (by have := unhide HFL; omega)]; exact unhide HXS) (unhide HFS) (by have := unhide HFL; omega) hjP
      have hfj : fs[j]? = some ((j : Int), s.l) := by rw [unhide HFS]; have h := frs_at ps 0 j s hs; rw [Nat.zero_add] at h; exact h
      obtain ⟨-, hsB, hsl3⟩ := unhide HFO _ (List.mem_of_getElem? hfj)
      have hfd := flat_drop fs j _ hfj
      rw [← unhide HT] at hfd
      have B1r := bel_then (unhide B7) (unhide B7).size hbl
      have B2r := bel_then (unhide B27) (unhide B27).size hbl
      have B3r := bel_then (unhide B37) (unhide B37).size hbl
      have hso := (unhide HOK s (List.mem_of_getElem? hs)).later B1r
      obtain ⟨pb, po, hpa, hpb, hpcell⟩ := (unhide HV).later B1r (by have := unhide HP; simp; omega)
      subst hpa
      have hpj := hpcell j s.v (by simp [hs])
      have hfc := fxC_at xs j x hx
      obtain ⟨gv, cg, hav, -, -⟩ := (unhide O3).form (by omega)
      simp only [Value.slice.injEq] at hav
      obtain ⟨rfl, -, rfl⟩ := hav
      obtain ⟨ge, cE, hae, -, -⟩ := (unhide OE).form (by omega)
      simp only [Value.slice.injEq] at hae
      obtain ⟨rfl, -, rfl⟩ := hae
      have hsl := hso.len
      have hsl0 := hso.le
      have htN : t ≤ N := by
        have h := congrArg List.length hfd
        rw [List.length_drop, List.length_append, encL_length, ← unhide HN] at h
        omega
      have hEN : t + s.n + 10 ≤ N := by
        have h := congrArg List.length hfd
        rw [List.length_drop, List.length_append, encL_length, ← unhide HN] at h
        simp only at h
        omega
      have hDl : ((dl ++ flat fs) ++ bl).drop (dn + t) = encL (j : Int) s.l ++ (flat (fs.drop (j + 1)) ++ bl) := by
        have h1 : dl.length = dn := (unhide HD).len
        rw [List.append_assoc, ← List.drop_drop, List.drop_left' h1, List.drop_append_of_le_length (by have := unhide HN; omega), hfd, List.append_assoc]
      have hDe := decode_at ⟨aw, _, cw, _⟩ (dn + t) (j : Int) s.l _ wr ((unhide ok7).later hbl) hDl (by omega) hsB s.n hsl (by simp only at hsl3; omega) (by simp only; omega)
      have hE : (ens 0 fs).getD j 0 = t + s.n + 10 := by
        have h1 := flat_take_len fs 0 j (by have := unhide HFL; omega)
        rw [← h1, List.take_add_one, hfj, flat_append, List.length_append, ← unhide HT]
        show 0 + (t + (flat [((j : Int), s.l)]).length) = _
        rw [flat_one, encL_length, hsl]
        omega
      have hce := ((unhide OE).cellAt j (by omega)).trans (I64s_at _ j (by rw [ens_length]; have := unhide HFL; omega))
      rw [hE] at hce
      have hk0 := ((unhide O3).cellAt (j * 2) (by omega)).trans hfc.1
      have hk1 := ((unhide O3).cellAt (j * 2 + 1) (by omega)).trans hfc.2
      have hxo := (own_cut (unhide HLI x (List.mem_of_getElem? hx)).1.choose_spec (unhide HLI x (List.mem_of_getElem? hx)).2.1).1.later B3r
      obtain ⟨o_, xk, xa, xp⟩ := x
      obtain ⟨sa, sn, sc, sl⟩ := s
      simp only [Sl.v] at hxk hxp hk0 hk1 hpj hxo hsl hsl0 hDe hce hsB hsl3 hE
      subst hxk hxp
      rw [hsl] at hk1 hxo hsl3
      have gvlt : gv < w3.heap.size := ((unhide O3).lt gv rfl).2
      have gelt : ge < w2.heap.size := ((unhide OE).lt ge rfl).2
      have c0 : wr.cell? ⟨gv, j * 2, none⟩ = some (.int .u8 (j : Int)) := (B3r.cell (p := ⟨gv, j * 2, none⟩) gvlt).trans hk0
      have c1 : wr.cell? ⟨gv, j * 2 + 1, none⟩ = some (.slice xa sn sn) := (B3r.cell (p := ⟨gv, j * 2 + 1, none⟩) gvlt).trans hk1
      have c3 : wr.cell? ⟨ge, j, none⟩ = some (.int .i64 ((t + sn + 10 : Nat) : Int)) := (B2r.cell (p := ⟨ge, j, none⟩) gelt).trans hce
      obtain ⟨E, hEE⟩ : ∃ E, E = t + sn + 10 := ⟨_, rfl⟩
      rw [← hEE] at c3
      have HTE : Hid (E = (flat (fs.take (j + 1))).length) := hide (by
        have h1 := flat_take_len fs 0 j (by have := unhide HFL; omega)
        rw [hE] at h1
        omega)
      have CE : Hid (∀ W', Below wr.heap.size wr W' → W'.cell? ⟨gv, j * 2, none⟩ = some (.int .u8 (j : Int)) ∧ W'.cell? ⟨gv, j * 2 + 1, none⟩ = some (.slice xa sn sn) ∧ W'.cell? ⟨ge, j, none⟩ = some (.int .i64 (E : Int)) ∧ W'.cell? ⟨pb, po + j, none⟩ = some (.slice sa sn sc)) := hide (fun W' hb => ⟨(hb.cell (p := ⟨gv, j * 2, none⟩) (cell_lt c0)).trans c0, (hb.cell (p := ⟨gv, j * 2 + 1, none⟩) (cell_lt c1)).trans c1, (hb.cell (p := ⟨ge, j, none⟩) (cell_lt c3)).trans c3, (hb.cell (p := ⟨pb, po + j, none⟩) (cell_lt hpj)).trans hpj⟩)
      have hbs := hbl.size
      have HSO := hide hso
      have HXO := hide hxo
      have hjj : ((j : Int) != (j : Int)) = false := by simp
      have hjP2 : (j : Int) < (P : Int) := by omega
      have hAA : ((dn : Int) + (t : Int) + (sn : Int) + 10 != (dn : Int) + (E : Int)) = false := by rw [bne_eq_false_iff_eq]; omega
      have hEb : E ≤ 70000 := by simp only at hEN; omega
      have hwA : IntKind.i64.wrap ((dn : Int) + (E : Int)) = (dn : Int) + (E : Int) := by rw [IntKind.wrap_i64]; omega
      have HEE := hide hEE
      clear hEE
      clear hfc hx hs hpcell hfd hDl hce hk0 hk1 hso hxo hE hfj
      go_wp2_with (go_at_call 11; rw [show (dn : Int) + (t : Int) = ((dn + t : Nat) : Int) by omega]; refine hDe.mono ?_; rintro e w8 ⟨a8, c8, rfl, o8, b8⟩; clear hDe)
      have b9 := bel_then b8 b8.size (below_alloc w8 (.cells #[.int .u8 (j : Int), .slice a8 sn sn] 30))
      have ok8 := (own_cut o8 hsB).1.later (below_alloc w8 (.cells #[.int .u8 (j : Int), .slice a8 sn sn] 30))
      have hfb := heap_alloc_new w8 (.cells #[.int .u8 (j : Int), .slice a8 sn sn] 30)
      generalize hW9 : w8.alloc (.cells #[.int .u8 (j : Int), .slice a8 sn sn] 30) = W9 at b9 ok8 hfb ⊢
      have f0 : W9.cell? ⟨w8.heap.size, 0, none⟩ = some (.int .u8 (j : Int)) := by rw [cell_of_row _ w8.heap.size 0 _ _ _ hfb]; rfl
      have f1 : W9.cell? ⟨w8.heap.size, 1, none⟩ = some (.slice a8 sn sn) := by rw [cell_of_row _ w8.heap.size 1 _ _ _ hfb]; rfl
      have HS6 : Hid (∀ W', Below W9.heap.size W9 W' → W'.cell? ⟨gv, j * 2, none⟩ = some (.int .u8 (j : Int)) ∧ W'.cell? ⟨gv, j * 2 + 1, none⟩ = some (.slice xa sn sn) ∧ W'.cell? ⟨ge, j, none⟩ = some (.int .i64 (E : Int)) ∧ W'.cell? ⟨pb, po + j, none⟩ = some (.slice sa sn sc) ∧ W'.cell? ⟨w8.heap.size, 0, none⟩ = some (.int .u8 (j : Int)) ∧ W'.cell? ⟨w8.heap.size, 1, none⟩ = some (.slice a8 sn sn)) := hide (fun W' hb => by
        have h := unhide CE W' (bel_then b9 b9.size hb)
        exact ⟨h.1, h.2.1, h.2.2.1, h.2.2.2, (hb.cell (p := ⟨w8.heap.size, 0, none⟩) (cell_lt f0)).trans f0, (hb.cell (p := ⟨w8.heap.size, 1, none⟩) (cell_lt f1)).trans f1⟩)
      have HSam : Hid (∀ W', Below W9.heap.size W9 W' → Calls Try.prog 12 #[.slice a8 sn sn, .slice sa sn sc] W' fun e w' => e = .returned (.bool true) ∧ Below W9.heap.size W9 w') := hide (fun W' hb => (same_t ⟨a8, sn, sn, xp⟩ ⟨sa, sn, sc, xp⟩ W' (ok8.later hb) ((unhide HSO).later (bel_then b9 b9.size hb)) (by simp only; omega) rfl).mono (fun e w' h => by obtain ⟨h1, q, hq⟩ := h; rw [hq]; exact ⟨h1, below_drewN hb q⟩))
      have HAli : Hid (∀ W', Below W9.heap.size W9 W' → Calls Try.prog 18 #[.agg #[.int .u8 (j : Int), .slice xa sn sn], .agg #[.int .u8 (j : Int), .slice a8 sn sn]] W' fun e w' => e = .returned (.bool true) ∧ Below W9.heap.size W9 w') := hide (fun W' hb => (alike_t (j : Int) xa a8 sn sn sn xp W' ((unhide HXO).later (bel_then b9 b9.size hb)) (ok8.later hb) (by omega)).mono (fun e w' h => ⟨h.1, bel_then hb hb.size h.2⟩))
      have hwu : IntKind.u8.wrap (j : Int) = (j : Int) := by first | (rw [IntKind.wrap_u8]; omega) | (rw [IntKind.wrap_u8']; omega)
      have bb := (Below.refl W9.heap.size W9).drew
      have h6 := unhide HS6 W9 (Below.refl _ _)
      have B9 := hide b9
      clear b8 o8 ok8 hfb f0 f1 c0 c1 c3 hpj b9
      refine wp_region_held_drew (S := fun W' => W'.cell? ⟨gv, j * 2, none⟩ = some (.int .u8 (j : Int)) ∧ W'.cell? ⟨gv, j * 2 + 1, none⟩ = some (.slice xa sn sn) ∧ W'.cell? ⟨ge, j, none⟩ = some (.int .i64 (E : Int)) ∧ W'.cell? ⟨pb, po + j, none⟩ = some (.slice sa sn sc) ∧ W'.cell? ⟨w8.heap.size, 0, none⟩ = some (.int .u8 (j : Int)) ∧ W'.cell? ⟨w8.heap.size, 1, none⟩ = some (.slice a8 sn sn)) (by kernel_rfl) h6 (fun hHeld => ?_)
      refine wpAnyH_take (i := 0) (oi := _) (v := .int .i64 0) rfl (by kernel_rfl) (by kernel_rfl) (by kernel_rfl) (fun _ _ _ h => h) (Or.inl ⟨by rfl, fun w hSw => by go_simp⟩) hHeld ?_
      simp [Act.put]
      refine wpAnyH_take (i := 1) (oi := _) (v := .bool false) rfl (by kernel_rfl) (by kernel_rfl) (by kernel_rfl) (fun _ _ _ h => h) (Or.inl ⟨by rfl, fun w hSw => by go_simp⟩) hHeld ?_
      simp [Act.put]
      refine wpAnyH_take (i := 2) (oi := _) (v := .bool false) rfl (by kernel_rfl) (by kernel_rfl) (by kernel_rfl) (fun _ _ _ h => h) (Or.inl ⟨by rfl, fun w hSw => by go_simp⟩) hHeld ?_
      simp [Act.put]
      refine wpAnyH_take (i := 3) (oi := _) (v := .int .i64 ((dn : Int) + (t : Int) + (sn : Int) + 10)) rfl (by kernel_rfl) (by kernel_rfl) (by kernel_rfl) (fun _ _ _ h => h) (Or.inl ⟨by rfl, fun w hSw => by go_simp⟩) hHeld ?_
      simp [Act.put]
      refine wpAnyH_take (i := 4) (oi := _) (v := .slice da dn dc) rfl (by kernel_rfl) (by kernel_rfl) (by kernel_rfl) (fun _ _ _ h => h) (Or.inl ⟨by rfl, fun w hSw => by go_simp⟩) hHeld ?_
      simp [Act.put]
      refine wpAnyH_take (i := 5) (oi := _) (v := .int .i64 (dn : Int)) rfl (by kernel_rfl) (by kernel_rfl) (by kernel_rfl) (fun _ _ _ h => h) (Or.inl ⟨by rfl, fun w hSw => by go_simp⟩) hHeld ?_
      simp [Act.put]
      refine wpAnyH_take (i := 6) (oi := _) (v := .slice (some ⟨ge, 0, none⟩) P ce) rfl (by kernel_rfl) (by kernel_rfl) (by kernel_rfl) (fun _ _ _ h => h) (Or.inl ⟨by rfl, fun w hSw => by go_simp⟩) hHeld ?_
      simp [Act.put]
      refine wpAnyH_take (i := 7) (oi := _) (v := .int .i64 (j : Int)) rfl (by kernel_rfl) (by kernel_rfl) (by kernel_rfl) (fun _ _ _ h => h) (Or.inl ⟨by rfl, fun w hSw => by go_simp⟩) hHeld ?_
      simp [Act.put]
      refine wpAnyH_take (i := 8) (oi := _) (v := .pointer (some ⟨ge, j, none⟩)) rfl (by kernel_rfl) (by kernel_rfl) (by kernel_rfl) (fun _ _ _ h => h) (Or.inl ⟨by rfl, fun w hSw => by go_simp⟩) hHeld ?_
      simp [Act.put]
      refine wpAnyH_take (i := 9) (oi := _) (v := .int .i64 (E : Int)) rfl (by kernel_rfl) (by kernel_rfl) (by kernel_rfl) (fun _ _ _ h => h) (Or.inl ⟨by rfl, fun w hSw => by obtain ⟨s1, s2, s3, s4, s5, s6⟩ : w.cell? ⟨gv, j * 2, none⟩ = some (.int .u8 (j : Int)) ∧ w.cell? ⟨gv, j * 2 + 1, none⟩ = some (.slice xa sn sn) ∧ w.cell? ⟨ge, j, none⟩ = some (.int .i64 (E : Int)) ∧ w.cell? ⟨pb, po + j, none⟩ = some (.slice sa sn sc) ∧ w.cell? ⟨w8.heap.size, 0, none⟩ = some (.int .u8 (j : Int)) ∧ w.cell? ⟨w8.heap.size, 1, none⟩ = some (.slice a8 sn sn) := hSw; go_simp⟩) hHeld ?_
      simp [Act.put]
      refine wpAnyH_take (i := 10) (oi := _) (v := .int .i64 ((dn : Int) + (E : Int))) rfl (by kernel_rfl) (by kernel_rfl) (by kernel_rfl) (fun _ _ _ h => h) (Or.inl ⟨by rfl, fun w hSw => by go_simp⟩) hHeld ?_
      simp [Act.put]
      refine wpAnyH_take (i := 11) (oi := _) (v := .bool false) rfl (by kernel_rfl) (by kernel_rfl) (by kernel_rfl) (fun _ _ _ h => h) (Or.inl ⟨by rfl, fun w hSw => by go_simp⟩) hHeld ?_
      simp [Act.put]
      refine wpAnyH_take (i := 12) (oi := _) (v := .bool false) rfl (by kernel_rfl) (by kernel_rfl) (by kernel_rfl) (fun _ _ _ h => h) (Or.inl ⟨by rfl, fun w hSw => by go_simp⟩) hHeld ?_
      simp [Act.put]
      refine wpAnyH_take (i := 13) (oi := _) (v := .bool false) rfl (by kernel_rfl) (by kernel_rfl) (by kernel_rfl) (fun _ _ _ h => h) (Or.inl ⟨by rfl, fun w hSw => by go_simp⟩) hHeld ?_
      simp [Act.put]
      refine wpAnyH_take (i := 14) (oi := _) (v := .pointer (some ⟨w8.heap.size, 0, none⟩)) rfl (by kernel_rfl) (by kernel_rfl) (by kernel_rfl) (fun _ _ _ h => h) (Or.inl ⟨by rfl, fun w hSw => by go_simp⟩) hHeld ?_
      simp [Act.put]
      refine wpAnyH_take (i := 15) (oi := _) (v := .int .u8 (j : Int)) rfl (by kernel_rfl) (by kernel_rfl) (by kernel_rfl) (fun _ _ _ h => h) (Or.inl ⟨by rfl, fun w hSw => by obtain ⟨s1, s2, s3, s4, s5, s6⟩ : w.cell? ⟨gv, j * 2, none⟩ = some (.int .u8 (j : Int)) ∧ w.cell? ⟨gv, j * 2 + 1, none⟩ = some (.slice xa sn sn) ∧ w.cell? ⟨ge, j, none⟩ = some (.int .i64 (E : Int)) ∧ w.cell? ⟨pb, po + j, none⟩ = some (.slice sa sn sc) ∧ w.cell? ⟨w8.heap.size, 0, none⟩ = some (.int .u8 (j : Int)) ∧ w.cell? ⟨w8.heap.size, 1, none⟩ = some (.slice a8 sn sn) := hSw; go_simp⟩) hHeld ?_
      simp [Act.put]
      refine wpAnyH_take (i := 16) (oi := _) (v := .int .i64 (j : Int)) rfl (by kernel_rfl) (by kernel_rfl) (by kernel_rfl) (fun _ _ _ h => h) (Or.inl ⟨by rfl, fun w hSw => by go_simp⟩) hHeld ?_
      simp [Act.put]
      refine wpAnyH_take (i := 17) (oi := _) (v := .int .u8 (j : Int)) rfl (by kernel_rfl) (by kernel_rfl) (by kernel_rfl) (fun _ _ _ h => h) (Or.inl ⟨by rfl, fun w hSw => by go_simp⟩) hHeld ?_
      simp [Act.put]
      refine wpAnyH_take (i := 18) (oi := _) (v := .bool false) rfl (by kernel_rfl) (by kernel_rfl) (by kernel_rfl) (fun _ _ _ h => h) (Or.inl ⟨by rfl, fun w hSw => by go_simp⟩) hHeld ?_
      simp [Act.put]
      refine wpAnyH_take (i := 19) (oi := _) (v := .bool false) rfl (by kernel_rfl) (by kernel_rfl) (by kernel_rfl) (fun _ _ _ h => h) (Or.inl ⟨by rfl, fun w hSw => by go_simp⟩) hHeld ?_
      simp [Act.put]
      refine wpAnyH_take (i := 20) (oi := _) (v := .bool false) rfl (by kernel_rfl) (by kernel_rfl) (by kernel_rfl) (fun _ _ _ h => h) (Or.inl ⟨by rfl, fun w hSw => by go_simp⟩) hHeld ?_
      simp [Act.put]
      refine wpAnyH_take (i := 21) (oi := _) (v := .pointer (some ⟨w8.heap.size, 1, none⟩)) rfl (by kernel_rfl) (by kernel_rfl) (by kernel_rfl) (fun _ _ _ h => h) (Or.inl ⟨by rfl, fun w hSw => by go_simp⟩) hHeld ?_
      simp [Act.put]
      refine wpAnyH_take (i := 22) (oi := _) (v := .slice a8 sn sn) rfl (by kernel_rfl) (by kernel_rfl) (by kernel_rfl) (fun _ _ _ h => h) (Or.inl ⟨by rfl, fun w hSw => by obtain ⟨s1, s2, s3, s4, s5, s6⟩ : w.cell? ⟨gv, j * 2, none⟩ = some (.int .u8 (j : Int)) ∧ w.cell? ⟨gv, j * 2 + 1, none⟩ = some (.slice xa sn sn) ∧ w.cell? ⟨ge, j, none⟩ = some (.int .i64 (E : Int)) ∧ w.cell? ⟨pb, po + j, none⟩ = some (.slice sa sn sc) ∧ w.cell? ⟨w8.heap.size, 0, none⟩ = some (.int .u8 (j : Int)) ∧ w.cell? ⟨w8.heap.size, 1, none⟩ = some (.slice a8 sn sn) := hSw; go_simp⟩) hHeld ?_
      simp [Act.put]
      refine wpAnyH_take (i := 23) (oi := _) (v := .slice (some ⟨pb, po, none⟩) P pc) rfl (by kernel_rfl) (by kernel_rfl) (by kernel_rfl) (fun _ _ _ h => h) (Or.inl ⟨by rfl, fun w hSw => by go_simp⟩) hHeld ?_
      simp [Act.put]
      refine wpAnyH_take (i := 24) (oi := _) (v := .int .i64 (j : Int)) rfl (by kernel_rfl) (by kernel_rfl) (by kernel_rfl) (fun _ _ _ h => h) (Or.inl ⟨by rfl, fun w hSw => by go_simp⟩) hHeld ?_
      simp [Act.put]
      refine wpAnyH_take (i := 25) (oi := _) (v := .pointer (some ⟨pb, po + j, none⟩)) rfl (by kernel_rfl) (by kernel_rfl) (by kernel_rfl) (fun _ _ _ h => h) (Or.inl ⟨by rfl, fun w hSw => by go_simp⟩) hHeld ?_
      simp [Act.put]
      refine wpAnyH_take (i := 26) (oi := _) (v := .slice sa sn sc) rfl (by kernel_rfl) (by kernel_rfl) (by kernel_rfl) (fun _ _ _ h => h) (Or.inl ⟨by rfl, fun w hSw => by obtain ⟨s1, s2, s3, s4, s5, s6⟩ : w.cell? ⟨gv, j * 2, none⟩ = some (.int .u8 (j : Int)) ∧ w.cell? ⟨gv, j * 2 + 1, none⟩ = some (.slice xa sn sn) ∧ w.cell? ⟨ge, j, none⟩ = some (.int .i64 (E : Int)) ∧ w.cell? ⟨pb, po + j, none⟩ = some (.slice sa sn sc) ∧ w.cell? ⟨w8.heap.size, 0, none⟩ = some (.int .u8 (j : Int)) ∧ w.cell? ⟨w8.heap.size, 1, none⟩ = some (.slice a8 sn sn) := hSw; go_simp⟩) hHeld ?_
      simp [Act.put]
      refine wpAnyH_ready (rs := [27]) (by kernel_rfl) (by simp) ?_
      refine AllReadyH.cons rfl (fun K hK => ?_) AllReadyH.nil
      go_simp
      refine (unhide HSam _ bb).mono ?_
      rintro e wA ⟨rfl, bA⟩
      refine hK.out _ _ (unhide HS6 _ bA) (fun hHeld => ?_)
      clear hK K
      refine wpAnyH_take (i := 28) (oi := _) (v := .bool false) rfl (by kernel_rfl) (by kernel_rfl) (by kernel_rfl) (fun _ _ _ h => h) (Or.inl ⟨by rfl, fun w hSw => by go_simp⟩) hHeld ?_
      simp [Act.put]
      refine wpAnyH_take (i := 29) (oi := _) (v := .bool false) rfl (by kernel_rfl) (by kernel_rfl) (by kernel_rfl) (fun _ _ _ h => h) (Or.inl ⟨by rfl, fun w hSw => by go_simp⟩) hHeld ?_
      simp [Act.put]
      refine wpAnyH_take (i := 30) (oi := _) (v := .bool false) rfl (by kernel_rfl) (by kernel_rfl) (by kernel_rfl) (fun _ _ _ h => h) (Or.inl ⟨by rfl, fun w hSw => by go_simp⟩) hHeld ?_
      simp [Act.put]
      refine wpAnyH_take (i := 31) (oi := _) (v := .slice (some ⟨gv, 0, none⟩) P cv) rfl (by kernel_rfl) (by kernel_rfl) (by kernel_rfl) (fun _ _ _ h => h) (Or.inl ⟨by rfl, fun w hSw => by go_simp⟩) hHeld ?_
      simp [Act.put]
      refine wpAnyH_take (i := 32) (oi := _) (v := .int .i64 (j : Int)) rfl (by kernel_rfl) (by kernel_rfl) (by kernel_rfl) (fun _ _ _ h => h) (Or.inl ⟨by rfl, fun w hSw => by go_simp⟩) hHeld ?_
      simp [Act.put]
      refine wpAnyH_take (i := 33) (oi := _) (v := .pointer (some ⟨gv, j * 2, none⟩)) rfl (by kernel_rfl) (by kernel_rfl) (by kernel_rfl) (fun _ _ _ h => h) (Or.inl ⟨by rfl, fun w hSw => by go_simp⟩) hHeld ?_
      simp [Act.put]
      refine wpAnyH_take (i := 34) (oi := _) (v := .agg #[.int .u8 (j : Int), .slice xa sn sn]) rfl (by kernel_rfl) (by kernel_rfl) (by kernel_rfl) (fun _ _ _ h => h) (Or.inl ⟨by rfl, fun w hSw => by obtain ⟨s1, s2, s3, s4, s5, s6⟩ : w.cell? ⟨gv, j * 2, none⟩ = some (.int .u8 (j : Int)) ∧ w.cell? ⟨gv, j * 2 + 1, none⟩ = some (.slice xa sn sn) ∧ w.cell? ⟨ge, j, none⟩ = some (.int .i64 (E : Int)) ∧ w.cell? ⟨pb, po + j, none⟩ = some (.slice sa sn sc) ∧ w.cell? ⟨w8.heap.size, 0, none⟩ = some (.int .u8 (j : Int)) ∧ w.cell? ⟨w8.heap.size, 1, none⟩ = some (.slice a8 sn sn) := hSw; go_simp⟩) hHeld ?_
      simp [Act.put]
      refine wpAnyH_take (i := 35) (oi := _) (v := .agg #[.int .u8 (j : Int), .slice a8 sn sn]) rfl (by kernel_rfl) (by kernel_rfl) (by kernel_rfl) (fun _ _ _ h => h) (Or.inl ⟨by rfl, fun w hSw => by obtain ⟨s1, s2, s3, s4, s5, s6⟩ : w.cell? ⟨gv, j * 2, none⟩ = some (.int .u8 (j : Int)) ∧ w.cell? ⟨gv, j * 2 + 1, none⟩ = some (.slice xa sn sn) ∧ w.cell? ⟨ge, j, none⟩ = some (.int .i64 (E : Int)) ∧ w.cell? ⟨pb, po + j, none⟩ = some (.slice sa sn sc) ∧ w.cell? ⟨w8.heap.size, 0, none⟩ = some (.int .u8 (j : Int)) ∧ w.cell? ⟨w8.heap.size, 1, none⟩ = some (.slice a8 sn sn) := hSw; go_simp⟩) hHeld ?_
      simp [Act.put]
      refine wpAnyH_ready (rs := [36]) (by kernel_rfl) (by simp) ?_
      refine AllReadyH.cons rfl (fun K hK => ?_) AllReadyH.nil
      go_simp
      refine (unhide HAli _ bA).mono ?_
      rintro e wB ⟨rfl, bB⟩
      refine hK.out _ _ (unhide HS6 _ bB) (fun hHeld => ?_)
      clear hK K
      refine wpAnyH_take (i := 37) (oi := _) (v := .bool false) rfl (by kernel_rfl) (by kernel_rfl) (by kernel_rfl) (fun _ _ _ h => h) (Or.inl ⟨by rfl, fun w hSw => by go_simp⟩) hHeld ?_
      simp [Act.put]
      refine wpAnyH_take (i := 38) (oi := _) (v := .bool false) rfl (by kernel_rfl) (by kernel_rfl) (by kernel_rfl) (fun _ _ _ h => h) (Or.inl ⟨by rfl, fun w hSw => by go_simp⟩) hHeld ?_
      simp [Act.put]
      refine wpAnyH_done (by kernel_rfl) ?_ _
      have h6B := (unhide HS6 wB bB).2.2.1
      go_wp2_with fail
      go_roundw
      case rel => exact ⟨j + 1, E, by omega, by go_num, rfl, hEb, HTE, bel_then (bel_then hbl hbl.size (unhide B9)) (Nat.le_trans hbl.size (unhide B9).size) bB⟩
      case measure => simp [intOf]; omega
    · have hjP2 : ¬ (j : Int) < (P : Int) := by omega
      go_wp2_with fail
      go_ret
      exact ⟨rfl, bel_then (unhide B7) (unhide B7).size hbl⟩
end Go.Proofs.Ytoipofidogajkaa
