import Derived.Test.YtmpbbookbmfbnabDoorRfV
import Derived.Deep.LoopGhost
namespace Go.Proofs.YtmpbbookbmfbnabDoor
open Go.RowKit

/-! The document's Invert: pairs. -/
structure Gd (a u c : Int) : Prop where
  c0 : 0 ≤ c
  c1 : c < LL
  cg : u % LL = c * a % LL
theorem cancel2 {x y : Int} (h : (2 * x) % LL = (2 * y) % LL) : x % LL = y % LL := by
  have h1 : (2 * (x - y)) % LL = 0 := by
    rw [Int.mul_sub, Int.sub_emod, h, Int.sub_self]; rfl
  rcases euclidZ h1 with h2 | h2
  · exact absurd h2 (by decide)
  · have := cg_add (a := x - y) (b := 0) (c := y) (d := y) (by rw [h2]; rfl) rfl
    rw [Int.sub_add_cancel, Int.zero_add] at this
    exact this
theorem Gd.even {a u c : Int} (h : Gd a u c) (hu : u % 2 = 0) (hc : c % 2 = 0) : Gd a (u / 2) (c / 2) := by
  refine ⟨by have := h.c0; omega, by have := h.c0; have := h.c1; omega, cancel2 ?_⟩
  rw [show 2 * (u / 2) = u by omega, ← Int.mul_assoc, show 2 * (c / 2) = c by omega]
  exact h.cg
theorem LL_odd : LL % 2 = 1 := by decide
theorem Gd.odd {a u c : Int} (h : Gd a u c) (hu : u % 2 = 0) (hc : c % 2 = 1) : Gd a (u / 2) ((c + LL) / 2) := by
  have h2 := LL_odd
  refine ⟨by have := h.c0; have := LL_pos; omega, by have := h.c1; omega, cancel2 ?_⟩
  rw [show 2 * (u / 2) = u by omega, ← Int.mul_assoc, show 2 * ((c + LL) / 2) = c + LL by omega, Int.add_mul, h.cg, Int.add_mul_emod_self_left]
theorem Gd.sub {a u c v d : Int} (h : Gd a u c) (k : Gd a v d) : Gd a (u - v) ((c - d) % LL) := by
  refine ⟨(modL _).1, (modL _).2, ?_⟩
  have h1 := cg_sub h.cg k.cg
  rw [← Int.sub_mul] at h1
  rw [h1]
  exact cg_mul (Int.emod_emod _ _).symm rfl
theorem sub_mod {c d : Int} (h0 : 0 ≤ c ∧ c < LL) (k0 : 0 ≤ d ∧ d < LL) : (c + LL - d < LL → c + LL - d = (c - d) % LL) ∧ (¬ c + LL - d < LL → c + LL - d - LL = (c - d) % LL) := by
  constructor
  · intro h
    have e : c - d = (c + LL - d) + LL * (-1) := by omega
    rw [e, Int.add_mul_emod_self_left, Int.emod_eq_of_lt (by omega) h]
  · intro h
    have : (c - d) % LL = c - d := Int.emod_eq_of_lt (by omega) (by omega)
    omega
def PT : TypeId := 55
theorem szP (x y : Value) : (Tryd.prog.info? 55).map (·.size) = some ([x, y] : List Value).toArray.size := by
  have : (Tryd.prog.info? 55).map (·.size) = some 2 := by kernel_rfl
  rw [this]; rfl
theorem NS.isSl {w : World} {v : Value} {l : List Int} (h : NS w v l) : ∃ a n c, v = .slice a n c := by
  obtain ⟨b, off, cap, e, -⟩ := h.ex; exact ⟨_, _, _, e⟩
/-- a store into a block of slices leaves a number as it was -/
theorem NS.put {w : World} {v : Value} {l : List Int} {g : Nat} {T : TypeId} {x y : Value} (h : NS w v l) (hl : 0 < l.length) (hA : Arr w g T [x, y]) (hx : ∃ a n c, x = .slice a n c) (hy : ∃ a n c, y = .slice a n c) (i : Nat) (z : Value) : NS (w.setCell ⟨g, i, none⟩ z) v l := by
  obtain ⟨b, off, cap, e, h1, h2, h3, h4⟩ := h.ex
  have hne : g ≠ b := by
    rintro rfl
    have c0 := h4 0 hl
    rw [hA.cell, Nat.add_zero] at c0
    obtain ⟨_, _, _, rfl⟩ := hx
    obtain ⟨_, _, _, rfl⟩ := hy
    rcases off with _ | _ | k
    · simp at c0
    · simp at c0
    · simp at c0
  refine ⟨b, off, cap, e, h1, h2, by simpa using h3, fun j hj => ?_⟩
  rw [World.cell?_setCell_far _ _ _ _ hne]; exact h4 j hj
theorem one1cell {x : Value} (h : ∃ a n c, x = Value.slice a n c) : x.oneCell' = true := by obtain ⟨_, _, _, rfl⟩ := h; rfl
theorem NS.cut34 {w : World} {v : Value} {n : Int} {base : Nat} (h : w.ownsRow base 3 1 v 34 (I64 (dg 256 34 n))) : ∃ g cap, v = .slice (some ⟨g, 0, none⟩) 34 cap ∧ 34 ≤ cap ∧ cap ≤ maxLen ∧ NS w (.slice (some ⟨g, 0, none⟩) 33 cap) (dg 256 33 n) := by
  rcases h.2 with ⟨_, h0⟩ | ⟨g, cap, cur, rfl, hb, hg, hn, hm, _⟩
  · omega
  · refine ⟨g, cap, rfl, hn, hm, ⟨g, 0, cap, ?_, ?_, hm, blk_lt hg, fun i hi => ?_⟩⟩
    · rw [dg_len]
    · rw [dg_len]; omega
    · rw [dg_len] at hi
      rw [Nat.zero_add, h.cellAt i (by omega), I64_at _ i (by rw [dg_len]; omega), dg_at 256 (by decide) 34 i n (by omega), dg_at 256 (by decide) 33 i n hi]
theorem low0 (n : Int) : (dg 256 33 n).getD 0 0 = n % 256 := rfl
structure OdM (w : World) (s1 s2 : Value) (x d : Int) (wr : World) : Prop where
  hp : Arr wr w.heap.size 55 [s1, s2]
  hr : Arr wr (w.heap.size + 1) 55 [.slice none 0 0, .slice none 0 0]
  n1 : NS wr s1 (dg 256 33 x)
  n2 : NS wr s2 (dg 256 33 d)
  hb : Below w.heap.size w wr
theorem OdM.later {w : World} {s1 s2 : Value} {x d : Int} {wr w' : World} (h : OdM w s1 s2 x d wr) (hb : Below wr.heap.size wr w') : OdM w s1 s2 x d w' :=
  ⟨h.hp.later hb, h.hr.later hb, h.n1.later hb, h.n2.later hb, bnext h.hb h.hb.size hb⟩
theorem OdM.put0 {w : World} {s1 s2 z : Value} {x d x' : Int} {wr : World} (h : OdM w s1 s2 x d wr) (hz : NS wr z (dg 256 33 x')) : OdM w z s2 x' d (wr.setCell ⟨w.heap.size, 0, none⟩ z) :=
  ⟨h.hp.set 0 z, h.hr.other _ (by show w.heap.size + 1 ≠ w.heap.size; omega), hz.put (by rw [dg_len]; decide) h.hp h.n1.isSl h.n2.isSl 0 z, h.n2.put (by rw [dg_len]; decide) h.hp h.n1.isSl h.n2.isSl 0 z, h.hb.setCell (by show w.heap.size ≤ w.heap.size; omega) _⟩
theorem OdM.put1 {w : World} {s1 s2 z : Value} {x d d' : Int} {wr : World} (h : OdM w s1 s2 x d wr) (hz : NS wr z (dg 256 33 d')) : OdM w s1 z x d' (wr.setCell ⟨w.heap.size, 1, none⟩ z) :=
  ⟨h.hp.set 1 z, h.hr.other _ (by show w.heap.size + 1 ≠ w.heap.size; omega), h.n1.put (by rw [dg_len]; decide) h.hp h.n1.isSl h.n2.isSl 1 z, hz.put (by rw [dg_len]; decide) h.hp h.n1.isSl h.n2.isSl 1 z, h.hb.setCell (by show w.heap.size ≤ w.heap.size; omega) _⟩
theorem OdM.p0 {w : World} {s1 s2 : Value} {x d : Int} {wr : World} (h : OdM w s1 s2 x d wr) : wr.cell? ⟨w.heap.size, 0, none⟩ = some s1 := by rw [h.hp.cell]; rfl
theorem OdM.p1 {w : World} {s1 s2 : Value} {x d : Int} {wr : World} (h : OdM w s1 s2 x d wr) : wr.cell? ⟨w.heap.size, 1, none⟩ = some s2 := by rw [h.hp.cell]; rfl
/-- a number's slice and its lowest digit -/
theorem NS.low {w : World} {v : Value} {n : Int} (h : NS w v (dg 256 33 n)) : ∃ b o k, v = .slice (some ⟨b, o, none⟩) 33 k ∧ w.cell? ⟨b, o, none⟩ = some (.int .i64 (n % 256)) := by
  obtain ⟨b, o, k, e, -, -, -, h4⟩ := h.ex
  rw [dg_len] at e
  have := h4 0 (by rw [dg_len]; decide)
  exact ⟨b, o, k, e, this⟩
structure OdR (a u0 u c : Int) (w : World) (vu vc : Value) (wr : World) : Prop where
  m : OdM w vu vc u c wr
  h0 : 0 < u
  hle : u ≤ u0
  hd : u ∣ u0
  gd : Gd a u c
theorem small33 {u u0 : Int} (h : u ≤ u0) (k : u0 < 256 ^ 33) : u < 256 ^ 33 := by omega
theorem c33 {c : Int} (h : c < LL) : c + LL < 256 ^ 33 := by
  have : LL + LL < 256 ^ 33 := by decide
  omega
set_option maxHeartbeats 8000000 in
set_option maxRecDepth 100000 in
theorem rOdd_any (a u c : Int) (vu vc : Value) (w : World) (nu : NS w vu (dg 256 33 u)) (nc : NS w vc (dg 256 33 c)) (h0 : 0 < u) (hu : u < 256 ^ 33) (gd : Gd a u c) :
    Calls Tryd.prog 36 #[.agg #[vu, vc]] w fun r w' => ∃ zu zc u' c', r = .returned (.agg #[zu, zc]) ∧ NS w' zu (dg 256 33 u') ∧ NS w' zc (dg 256 33 c') ∧ 0 < u' ∧ u' ≤ u ∧ u' % 2 = 1 ∧ u' ∣ u ∧ Gd a u' c' ∧ Below w.heap.size w w' := by
  obtain ⟨h1, h2, hb, -⟩ := after2 (Below.refl _ _ : Below ((w.alloc (.cells #[vu, vc] 55)).alloc (.cells #[.slice none 0 0, .slice none 0 0] 55)).heap.size _ _)
  have I0 : OdR a u u c w vu vc _ := ⟨⟨h1, h2, nu.later hb, nc.later hb, hb⟩, h0, Int.le_refl _, Int.dvd_refl _, gd⟩
  have HI0 := hide I0
  have HU := hide hu
  clear h1 h2 hb I0 nu nc h0 hu gd
  go_enter Tryd.func36, Tryd.ntmps36
  go_wp2_with fail
  go_loopg [] u.toNat (fun g wr => ∃ u' c' zu zc, u'.toNat = g ∧ OdR a u u' c' w zu zc wr)
  case atStart => exact ⟨u, c, vu, vc, rfl, unhide HI0⟩
  case round =>
    clear HI0
    obtain ⟨x, d, zu, zc, hgk, I⟩ := hrel
    have HGK := hide hgk
    clear hgk
    obtain ⟨b1, o1, k1, hv1, c10⟩ := I.m.n1.low
    have p0 := I.m.p0
    have fp0 := I.m.hp.frozen 0
    have b256 : 0 ≤ x % 256 := Int.emod_nonneg _ (by decide)
    have t1 : (x % 256).tmod 2 = x % 2 := by rw [Int.tmod_eq_emod_of_nonneg b256]; omega
    have HI := hide I
    clear I b256
    by_cases hev : x % 2 = 0
    · have HEV := hide hev
      have t2 : (x % 256).tmod 2 = 0 := by rw [t1, hev]
      rw [hv1] at p0
      have HV1 := hide hv1
      have HGD := hide (unhide HI).gd
      have hdb : 0 ≤ d ∧ d < 256 ^ 33 := ⟨(unhide HGD).c0, Int.lt_trans (unhide HGD).c1 (by decide)⟩
      have HDB := hide hdb
      clear hev t1 hv1 hdb
      go_wp2_with fail
      have nx := (unhide HI).m.n1
      rw [unhide HV1] at nx
      refine (rHalf_any x _ _ nx (Int.le_of_lt (unhide HI).h0) (small33 (unhide HI).hle (unhide HU))).mono ?_
      rintro r w2 ⟨z1, rfl, ho, hbel⟩
      obtain ⟨g1, cp1, rfl, -, -⟩ := own_form ho (by decide)
      have J0 := (unhide HI).m.later hbel
      have r0 := J0.p0
      have r1 := J0.hp.frozen 0
      have J1 := J0.put0 (NS.own ho (dg_len _ _ _) (by decide))
      clear nx ho hbel J0 p0 fp0 c10 t2
      obtain ⟨b2, o2, k2, hv2, c20⟩ := J1.n2.low
      have p1 := J1.p1
      rw [hv2] at p1
      have e256 : 0 ≤ d % 256 := Int.emod_nonneg _ (by decide)
      have t3 : (d % 256).tmod 2 = d % 2 := by rw [Int.tmod_eq_emod_of_nonneg e256]; omega
      have HJ1 := hide J1
      have HV2 := hide hv2
      clear J1 hv2 e256
      by_cases hdo : d % 2 = 1
      · have t4 : (d % 256).tmod 2 = 1 := by rw [t3, hdo]
        have HDO := hide hdo
        clear hdo t3
        go_wp2_with fail
        generalize hV : w2.setCell ⟨w.heap.size, 0, none⟩ (.slice (some ⟨g1, 0, none⟩) 33 cp1) = V at *
        clear hV r0 r1 t4
        have J1 := (unhide HJ1).later ((Below.refl _ _).drew : Below V.heap.size V V.drew)
        replace p1 : V.drew.cell? ⟨w.heap.size, 1, none⟩ = some (.slice (some ⟨b2, o2, none⟩) 33 k2) := p1
        refine wp_region_held_drew (S := fun _ => True) (by kernel_rfl) trivial (fun hHeld => ?_)
        clear HJ1
        generalize V.drew = v0 at J1 p1 ⊢
        rw [unhide HV2] at J1
        generalize hs2 : Value.slice (some ⟨b2, o2, none⟩) 33 k2 = s2 at *
        clear hs2
        refine wpAnyH_take (i := 0) (oi := _) (v := .pointer (some ⟨w.heap.size, 1, none⟩)) rfl (by kernel_rfl) (by kernel_rfl) (by kernel_rfl) (fun _ _ _ h => h) (Or.inl ⟨by rfl, fun w hSw => by go_simp⟩) hHeld ?_
        simp [Act.put]
        refine wpAnyH_ready (rs := [1, 2]) (by kernel_rfl) (by simp) ?_
        refine AllReadyH.cons rfl (fun K hK => ?_) ?_
        · skip
          go_simp
          refine hK.out _ _ trivial (fun hHeld => ?_)
          clear hK K
          refine wpAnyH_ready (rs := [2]) (by kernel_rfl) (by simp) ?_
          refine AllReadyH.cons rfl (fun K hK => ?_) AllReadyH.nil
          go_simp
          refine (rOrder_any _).mono ?_
          rintro r v2 ⟨vo, rfl, ho, hbel⟩
          have NO := hide (NS.of ho (by decide))
          have J2 := J1.later hbel
          clear ho hbel J1
          refine hK.out _ _ trivial (fun hHeld => ?_)
          clear hK K
          refine wpAnyH_ready (rs := [3]) (by kernel_rfl) (by simp) ?_
          refine AllReadyH.cons rfl (fun K hK => ?_) AllReadyH.nil
          go_simp
          refine (rSum_any (dg 256 33 d) ordB s2 vo 33 _ J2.n2 (unhide NO) (Dg_dg _ (by decide) _ _) ordB_dg (by unfold lng; rw [dg_len]; rfl) (by decide)).mono ?_
          rintro r v4 ⟨zs, rfl, ho, hbel⟩
          rw [num_wide 33 d (unhide HDB).1 (unhide HDB).2, ordB_num] at ho
          obtain ⟨gs, cs, rfl, hcs, hcm, hcut⟩ := NS.cut34 ho
          have J3 := J2.later hbel
          have NCUT := hide hcut
          clear ho hbel J2 hcut
          refine hK.out _ _ trivial (fun hHeld => ?_)
          clear hK K
          have hcs' : (33 : Int) ≤ (cs : Int) := by omega
          unfold maxLen at hcm
          refine wpAnyH_take (i := 4) (oi := _) (v := .slice (some ⟨gs, 0, none⟩) 33 cs) rfl (by kernel_rfl) (by kernel_rfl) (by kernel_rfl) (fun _ _ _ h => h) (Or.inl ⟨by rfl, fun w hSw => by go_simp⟩) hHeld ?_
          simp [Act.put]
          refine wpAnyH_take (i := 5) (oi := _) (v := .pointer (some ⟨w.heap.size, 1, none⟩)) rfl (by kernel_rfl) (by kernel_rfl) (by kernel_rfl) (fun _ _ _ h => h) (Or.inl ⟨by rfl, fun w hSw => by go_simp⟩) hHeld ?_
          simp [Act.put]
          have p1' := J3.p1
          have f1' := J3.hp.frozen 1
          have J4 := J3.put1 (unhide NCUT)
          clear J3
          refine wpAnyH_ready (rs := [6]) (by kernel_rfl) (by simp) ?_
          refine AllReadyH.cons rfl (fun K hK => ?_) AllReadyH.nil
          go_simp
          refine hK.out _ _ trivial (fun hHeld => ?_)
          clear hK K hHeld
          refine wpAnyH_done (by kernel_rfl) ?_ _
          generalize v4.setCell ⟨w.heap.size, 1, none⟩ (.slice (some ⟨gs, 0, none⟩) 33 cs) = v5 at *
          have q1 := J4.p1
          clear p1' f1' p1 c20
          go_wp2_with fail
          refine (rHalf_any (d + LL) _ _ J4.n2 (by have := (unhide HGD).c0; have := LL_pos; omega) (c33 (unhide HGD).c1)).mono ?_
          rintro r v6 ⟨z2, rfl, ho, hbel⟩
          obtain ⟨g2, cp2, rfl, -, -⟩ := own_form ho (by decide)
          have J5 := J4.later hbel
          have q2 := J5.p1
          have q3 := J5.hp.frozen 1
          have J6 := J5.put1 (NS.own ho (dg_len _ _ _) (by decide))
          have HJ6 := hide J6
          clear ho hbel J4 J5 J6 q1
          go_wp2_with fail
          go_roundg (x / 2).toNat
          case measure => have := unhide HGK; have := (unhide HI).h0; omega
          case rel => exact ⟨x / 2, (d + LL) / 2, _, _, rfl, unhide HJ6, by have := (unhide HI).h0; have := unhide HEV; omega, by have := (unhide HI).hle; have := (unhide HI).h0; omega, Int.dvd_trans ⟨2, by have := unhide HEV; omega⟩ (unhide HI).hd, (unhide HGD).odd (unhide HEV) (unhide HDO)⟩
        refine AllReadyH.cons rfl (fun K hK => ?_) AllReadyH.nil
        go_simp
        refine (rOrder_any _).mono ?_
        rintro r v2 ⟨vo, rfl, ho, hbel⟩
        have NO := hide (NS.of ho (by decide))
        have J2 := J1.later hbel
        clear ho hbel J1
        refine hK.out _ _ trivial (fun hHeld => ?_)
        clear hK K
        replace p1 := J2.p1
        refine wpAnyH_ready (rs := [1]) (by kernel_rfl) (by simp) ?_
        refine AllReadyH.cons rfl (fun K hK => ?_) AllReadyH.nil
        go_simp
        refine hK.out _ _ trivial (fun hHeld => ?_)
        clear hK K
        refine wpAnyH_ready (rs := [3]) (by kernel_rfl) (by simp) ?_
        refine AllReadyH.cons rfl (fun K hK => ?_) AllReadyH.nil
        go_simp
        refine (rSum_any (dg 256 33 d) ordB s2 vo 33 _ J2.n2 (unhide NO) (Dg_dg _ (by decide) _ _) ordB_dg (by unfold lng; rw [dg_len]; rfl) (by decide)).mono ?_
        rintro r v4 ⟨zs, rfl, ho, hbel⟩
        rw [num_wide 33 d (unhide HDB).1 (unhide HDB).2, ordB_num] at ho
        obtain ⟨gs, cs, rfl, hcs, hcm, hcut⟩ := NS.cut34 ho
        have J3 := J2.later hbel
        have NCUT := hide hcut
        clear ho hbel J2 hcut
        refine hK.out _ _ trivial (fun hHeld => ?_)
        clear hK K
        have hcs' : (33 : Int) ≤ (cs : Int) := by omega
        unfold maxLen at hcm
        refine wpAnyH_take (i := 4) (oi := _) (v := .slice (some ⟨gs, 0, none⟩) 33 cs) rfl (by kernel_rfl) (by kernel_rfl) (by kernel_rfl) (fun _ _ _ h => h) (Or.inl ⟨by rfl, fun w hSw => by go_simp⟩) hHeld ?_
        simp [Act.put]
        refine wpAnyH_take (i := 5) (oi := _) (v := .pointer (some ⟨w.heap.size, 1, none⟩)) rfl (by kernel_rfl) (by kernel_rfl) (by kernel_rfl) (fun _ _ _ h => h) (Or.inl ⟨by rfl, fun w hSw => by go_simp⟩) hHeld ?_
        simp [Act.put]
        have p1' := J3.p1
        have f1' := J3.hp.frozen 1
        have J4 := J3.put1 (unhide NCUT)
        clear J3
        refine wpAnyH_ready (rs := [6]) (by kernel_rfl) (by simp) ?_
        refine AllReadyH.cons rfl (fun K hK => ?_) AllReadyH.nil
        go_simp
        refine hK.out _ _ trivial (fun hHeld => ?_)
        clear hK K hHeld
        refine wpAnyH_done (by kernel_rfl) ?_ _
        generalize v4.setCell ⟨w.heap.size, 1, none⟩ (.slice (some ⟨gs, 0, none⟩) 33 cs) = v5 at *
        have q1 := J4.p1
        clear p1' f1' p1 c20
        go_wp2_with fail
        refine (rHalf_any (d + LL) _ _ J4.n2 (by have := (unhide HGD).c0; have := LL_pos; omega) (c33 (unhide HGD).c1)).mono ?_
        rintro r v6 ⟨z2, rfl, ho, hbel⟩
        obtain ⟨g2, cp2, rfl, -, -⟩ := own_form ho (by decide)
        have J5 := J4.later hbel
        have q2 := J5.p1
        have q3 := J5.hp.frozen 1
        have J6 := J5.put1 (NS.own ho (dg_len _ _ _) (by decide))
        have HJ6 := hide J6
        clear ho hbel J4 J5 J6 q1
        go_wp2_with fail
        go_roundg (x / 2).toNat
        case measure => have := unhide HGK; have := (unhide HI).h0; omega
        case rel => exact ⟨x / 2, (d + LL) / 2, _, _, rfl, unhide HJ6, by have := (unhide HI).h0; have := unhide HEV; omega, by have := (unhide HI).hle; have := (unhide HI).h0; omega, Int.dvd_trans ⟨2, by have := unhide HEV; omega⟩ (unhide HI).hd, (unhide HGD).odd (unhide HEV) (unhide HDO)⟩
      · have hde : d % 2 = 0 := by omega
        have t4 : (d % 256).tmod 2 = 0 := by rw [t3, hde]
        have HDE := hide hde
        clear hdo hde t3
        go_wp2_with fail
        have nx := (unhide HJ1).n2
        rw [unhide HV2] at nx
        refine (rHalf_any d _ _ nx (unhide HDB).1 (unhide HDB).2).mono ?_
        rintro r w4 ⟨z2, rfl, ho, hbel⟩
        obtain ⟨g2, cp2, rfl, -, -⟩ := own_form ho (by decide)
        have J5 := (unhide HJ1).later hbel
        have q2 := J5.p1
        have q3 := J5.hp.frozen 1
        have J6 := J5.put1 (NS.own ho (dg_len _ _ _) (by decide))
        have HJ6 := hide J6
        clear ho hbel J5 J6 nx p1 c20 t4 r0 r1
        go_wp2_with fail
        go_roundg (x / 2).toNat
        case measure => have := unhide HGK; have := (unhide HI).h0; omega
        case rel => exact ⟨x / 2, d / 2, _, _, rfl, unhide HJ6, by have := (unhide HI).h0; have := unhide HEV; omega, by have := (unhide HI).hle; have := (unhide HI).h0; omega, Int.dvd_trans ⟨2, by have := unhide HEV; omega⟩ (unhide HI).hd, (unhide HGD).even (unhide HEV) (unhide HDE)⟩
    · have hod : x % 2 = 1 := by omega
      have t2 : (x % 256).tmod 2 = 1 := by rw [t1, hod]
      have HOD := hide hod
      have hp := (unhide HI).m.hp
      have hr := (unhide HI).m.hr
      have hz := szP zu zc
      have hoo : ([zu, zc] : List Value).toArray.all (·.oneCell') = true := all_one (by
        intro v hv
        simp at hv
        rcases hv with rfl | rfl
        · exact one1cell (unhide HI).m.n1.isSl
        · exact one1cell (unhide HI).m.n2.isSl)
      have hss : ([.slice none 0 0, .slice none 0 0] : List Value).toArray.size = ([zu, zc] : List Value).toArray.size := rfl
      rw [hv1] at p0
      clear hev hod t1 hv1
      go_wp2_with (first
        | refine wpList_load_row rfl 55 (.tmp 1) rfl _ rfl 55 _ (0, 0) _ hp Tryd.underlying55 rfl hz ?_
        | refine wpList_store_row rfl 55 (.tmp 2) (.tmp 29) rfl _ _ rfl rfl 55 _ hr hz hss hoo ?_)
      refine bodyPost_ret (results_cell_row rfl _ _ _ 55 _ (0, 0) _ rfl (setRow_heap _ _ _ _ _ _ hr) Tryd.underlying55 rfl hz) rfl ?_
      have I := unhide HI
      have hne : ∀ {v : Value} {l : List Int}, NS wr v l → 0 < l.length → NS (wr.setRow (w.heap.size + 1) [zu, zc].toArray) v l := by
        intro v l h hl
        obtain ⟨b, off, cap, e, q1, q2, q3, q4⟩ := h.ex
        have hb : w.heap.size + 1 ≠ b := by
          rintro rfl
          have c0 := q4 0 hl
          rw [I.m.hr.cell, Nat.add_zero] at c0
          rcases off with _ | _ | k <;> simp at c0
        refine ⟨b, off, cap, e, q1, q2, by simpa using q3, fun i hi => ?_⟩
        rw [← q4 i hi]
        exact World.cell?_of_block (w := wr) (setRow_other _ _ _ _ (fun h => hb h.symm))
      exact ⟨zu, zc, x, d, rfl, hne I.m.n1 (by rw [dg_len]; decide), hne I.m.n2 (by rw [dg_len]; decide), I.h0, I.hle, unhide HOD, I.hd, I.gd, below_setRow I.m.hb (by omega) _⟩
end Go.Proofs.YtmpbbookbmfbnabDoor
