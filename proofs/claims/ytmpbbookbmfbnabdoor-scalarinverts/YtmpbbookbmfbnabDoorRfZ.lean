import Derived.Test.YtmpbbookbmfbnabDoorIvM
namespace Go.Proofs.YtmpbbookbmfbnabDoor
open Go.RowKit

/-! The document's Invert. -/
structure IvR (w : World) (g7 g8 : Nat) (pu pc qu qc : Value) (up cp uq cq : Int) (wr : World) : Prop where
  hr : Arr wr (w.heap.size + 1) 23 (U8 z32)
  hp : Arr wr g7 55 [pu, pc]
  hq : Arr wr g8 55 [qu, qc]
  n1 : NS wr pu (dg 256 33 up)
  n2 : NS wr pc (dg 256 33 cp)
  n3 : NS wr qu (dg 256 33 uq)
  n4 : NS wr qc (dg 256 33 cq)
  b7 : w.heap.size + 1 < g7
  b8 : g7 < g8
  hb : Below w.heap.size w wr
theorem IvR.later {w : World} {g7 g8 : Nat} {pu pc qu qc : Value} {up cp uq cq : Int} {wr w' : World} (h : IvR w g7 g8 pu pc qu qc up cp uq cq wr) (hb : Below wr.heap.size wr w') : IvR w g7 g8 pu pc qu qc up cp uq cq w' :=
  ⟨h.hr.later hb, h.hp.later hb, h.hq.later hb, h.n1.later hb, h.n2.later hb, h.n3.later hb, h.n4.later hb, h.b7, h.b8, bnext h.hb h.hb.size hb⟩
theorem IvR.putP {w : World} {g7 g8 : Nat} {pu pc qu qc zu zc : Value} {up cp uq cq u' c' : Int} {wr : World} (h : IvR w g7 g8 pu pc qu qc up cp uq cq wr) (k1 : NS wr zu (dg 256 33 u')) (k2 : NS wr zc (dg 256 33 c')) : IvR w g7 g8 zu zc qu qc u' c' uq cq (wr.setRow g7 [zu, zc].toArray) :=
  have hl : ∀ n : Int, 0 < (dg 256 33 n).length := fun n => by rw [dg_len]; decide
  ⟨h.hr.setRow_ne _ (by have := h.b7; omega), h.hp.setRow _, h.hq.setRow_ne _ (by have := h.b8; omega), k1.setRow (hl _) h.hp h.n1.isSl h.n2.isSl _, k2.setRow (hl _) h.hp h.n1.isSl h.n2.isSl _, h.n3.setRow (hl _) h.hp h.n1.isSl h.n2.isSl _, h.n4.setRow (hl _) h.hp h.n1.isSl h.n2.isSl _, h.b7, h.b8, below_setRow h.hb (by have := h.b7; omega) _⟩
theorem IvR.putQ {w : World} {g7 g8 : Nat} {pu pc qu qc zu zc : Value} {up cp uq cq u' c' : Int} {wr : World} (h : IvR w g7 g8 pu pc qu qc up cp uq cq wr) (k1 : NS wr zu (dg 256 33 u')) (k2 : NS wr zc (dg 256 33 c')) : IvR w g7 g8 pu pc zu zc up cp u' c' (wr.setRow g8 [zu, zc].toArray) :=
  have hl : ∀ n : Int, 0 < (dg 256 33 n).length := fun n => by rw [dg_len]; decide
  ⟨h.hr.setRow_ne _ (by have := h.b7; have := h.b8; omega), h.hp.setRow_ne _ (by have := h.b8; omega), h.hq.setRow _, h.n1.setRow (hl _) h.hq h.n3.isSl h.n4.isSl _, h.n2.setRow (hl _) h.hq h.n3.isSl h.n4.isSl _, k1.setRow (hl _) h.hq h.n3.isSl h.n4.isSl _, k2.setRow (hl _) h.hq h.n3.isSl h.n4.isSl _, h.b7, h.b8, below_setRow h.hb (by have := h.b7; have := h.b8; omega) _⟩
theorem IvR.cp0 {w : World} {g7 g8 : Nat} {pu pc qu qc : Value} {up cp uq cq : Int} {wr : World} (h : IvR w g7 g8 pu pc qu qc up cp uq cq wr) : wr.cell? ⟨g7, 0, none⟩ = some pu := by rw [h.hp.cell]; rfl
theorem IvR.cp1 {w : World} {g7 g8 : Nat} {pu pc qu qc : Value} {up cp uq cq : Int} {wr : World} (h : IvR w g7 g8 pu pc qu qc up cp uq cq wr) : wr.cell? ⟨g7, 1, none⟩ = some pc := by rw [h.hp.cell]; rfl
theorem IvR.cq0 {w : World} {g7 g8 : Nat} {pu pc qu qc : Value} {up cp uq cq : Int} {wr : World} (h : IvR w g7 g8 pu pc qu qc up cp uq cq wr) : wr.cell? ⟨g8, 0, none⟩ = some qu := by rw [h.hq.cell]; rfl
theorem IvR.cq1 {w : World} {g7 g8 : Nat} {pu pc qu qc : Value} {up cp uq cq : Int} {wr : World} (h : IvR w g7 g8 pu pc qu qc up cp uq cq wr) : wr.cell? ⟨g8, 1, none⟩ = some qc := by rw [h.hq.cell]; rfl
set_option maxHeartbeats 8000000 in
set_option maxRecDepth 100000 in
theorem rInvert_any (a : List Int) (A : Int) (w : World) (ha : Sb a A) :
    Calls Tryd.prog 18 #[.agg (U8 a).toArray] w fun e w' => e = .returned (.tuple #[.agg (U8 (Sc (A ^ eInvL))).toArray, .bool (!decide (A % LL = 0))]) ∧ Below w.heap.size w w' := by
  have HA := hide ha
  clear ha
  obtain ⟨h0, h1, hb, -⟩ := after2 (Below.refl _ _ : Below ((w.alloc (.cells (U8 a).toArray 23)).alloc (.cells (U8 z32).toArray 23)).heap.size _ _)
  have H0 := hide h0
  have H1 := hide h1
  have HB := hide hb
  clear h0 h1 hb
  go_enter Tryd.func18, Tryd.ntmps18
  go_wp2_with fail
  generalize hW : World.alloc _ _ = W
  replace H0 : Hid (Arr W w.heap.size 23 (U8 a)) := by rw [← hW]; exact unhide H0
  replace H1 : Hid (Arr W (w.heap.size + 1) 23 (U8 z32)) := by rw [← hW]; exact unhide H1
  replace HB : Hid (Below w.heap.size w W) := by rw [← hW]; exact unhide HB
  clear hW
  refine (rOf_any a w.heap.size 32 _ (unhide HA).len (by decide) (unhide HA).dig ⟨_, unhide H0⟩).mono ?_
  rintro e v1 ⟨va, rfl, ho, hbel⟩
  have NA := hide (NS.of ho (by rw [(unhide HA).len]; decide))
  replace H1 := hide ((unhide H1).later hbel)
  replace HB := hide (bnext (unhide HB) (unhide HB).size hbel)
  clear ho hbel H0
  go_wp2_with fail
  refine (rMod_any a va 32 _ (unhide NA) (unhide HA).dig (unhide HA).len (by decide)).mono ?_
  rintro e v2 ⟨vx, rfl, ho, hbel⟩
  obtain ⟨gx, cx, rfl, -, -⟩ := own_form ho (by decide)
  have NX := hide (NS.own ho (dg_len _ _ _) (by decide))
  replace H1 := hide ((unhide H1).later hbel)
  replace HB := hide (bnext (unhide HB) (unhide HB).size hbel)
  clear ho hbel NA
  go_wp2_with fail
  generalize hW : v2.alloc _ = V
  have hn := Arr.new v2 23 (U8 z32)
  have H5 : Hid (Arr V v2.heap.size 23 (U8 z32)) := by rw [← hW]; exact hn
  have hbel : Below v2.heap.size v2 V := by rw [← hW]; exact (Below.refl _ _).alloc (Nat.le_refl _) _
  have G5 := hide (unhide H1).lt
  replace H1 := hide ((unhide H1).later hbel)
  replace HB := hide (bnext (unhide HB) (unhide HB).size hbel)
  replace NX := hide ((unhide NX).later hbel)
  clear hW hn hbel
  have hxA : num 256 a % LL % LL = A % LL := by rw [Int.emod_emod]; exact (unhide HA).cg
  have hxb := modL (num 256 a)
  generalize num 256 a % LL = x at *
  have HXA := hide hxA
  have HXB := hide hxb
  have hz := rZero_any (dg 256 33 x) _ 33 _ (unhide NX) (Dg_dg _ (by decide) _ _) (dg_len _ _ _) (by decide)
  rw [num_wide 33 _ hxb.1 (Int.lt_trans hxb.2 (by decide))] at hz
  clear hxA hxb
  refine hz.mono ?_
  rintro e v3 ⟨rfl, rfl⟩
  clear hz
  by_cases hx0 : x = 0
  · rw [decide_eq_true hx0]
    have hA0 : A % LL = 0 := by have := unhide HXA; rw [hx0] at this; rw [← this]; rfl
    have HA0 := hide hA0
    have h5 := unhide H5
    have h1 := unhide H1
    have hzs := szS z32_Sb.len
    clear hx0 hA0
    go_wp2_with (first
      | refine wpList_load_row rfl 23 (.tmp 5) rfl _ rfl 23 _ (0, 0) _ h5 Tryd.underlying23 rfl hzs ?_
      | refine wpList_store_row rfl 23 (.tmp 2) (.tmp 14) rfl _ _ rfl rfl 23 _ h1 hzs rfl (all_one (U8_one _)) ?_)
    refine bodyPost_ret (results_row_tmp rfl _ _ _ 23 _ (0, 0) _ rfl (.bool false) rfl (setRow_heap _ _ _ _ _ _ h1) Tryd.underlying23 rfl hzs) rfl ?_
    exact ⟨by rw [Sc_congr (b := 0) (by rw [inv_zero (unhide HA0)]; rfl), zero_Sc, decide_eq_true (unhide HA0)]; rfl, below_setRow (unhide HB) (by omega) _⟩
  · rw [decide_eq_false hx0]
    have hx1 : 0 < x := by have := unhide HXB; omega
    have HX1 := hide hx1
    have hA0 : A % LL ≠ 0 := by rw [← unhide HXA, Int.emod_eq_of_lt (unhide HXB).1 (unhide HXB).2]; exact hx0
    have HA0 := hide hA0
    clear hx0 hx1 H5 hA0
    go_wp2_with fail
    refine (rOrder_any _).mono ?_
    rintro r v4 ⟨vo, rfl, ho, hbel⟩
    have HV4 := hide hbel
    have HOO := hide ho
    have hown : v4.ownsRow v3.heap.size 3 1 vo 32 (I64 ordB) := ho
    have hbl := (hbel : Below v3.heap.size v3 v4)
    clear ho hbel
    go_wp2_with (at_builtin; refine wpList_push rfl (.tmp 15) (.tmp 16) rfl v3.heap.size _ 32 ordB _ rfl rfl hown (by decide) hbl (Nat.le_refl _) ?_; intro v' w' hown' hbl')
    have hbel := unhide hbl'
    replace hown' := unhide hown'
    rw [ord33] at hown'
    obtain ⟨go, co, rfl, -, -⟩ := own_form hown' (by decide)
    have NO := hide (NS.own hown' (dg_len _ _ _) (by decide))
    replace H1 := hide ((unhide H1).later hbel)
    replace HB := hide (bnext (unhide HB) (unhide HB).size hbel)
    replace NX := hide ((unhide NX).later hbel)
    clear hown hown' hbl hbl' hbel HV4 HOO
    have ho1 := own_new w' [1] (by decide)
    have hbel : Below w'.heap.size w' (w'.alloc (.cells (I64 [1]).toArray 3 (0, 0))) := (Below.refl _ _).alloc (Nat.le_refl _) _
    have N1 := hide (NS.of ho1 (by decide))
    replace H1 := hide ((unhide H1).later hbel)
    replace HB := hide (bnext (unhide HB) (unhide HB).size hbel)
    replace NX := hide ((unhide NX).later hbel)
    replace NO := hide ((unhide NO).later hbel)
    clear ho1 hbel
    refine (rMod_any [1] _ 1 _ (unhide N1) (by unfold Dg; decide) rfl (by decide)).mono ?_
    rintro e v5 ⟨vi, rfl, ho, hbel⟩
    rw [one33] at ho
    obtain ⟨gi, ci, rfl, -, -⟩ := own_form ho (by decide)
    have NI := hide (NS.own ho (dg_len _ _ _) (by decide))
    replace H1 := hide ((unhide H1).later hbel)
    replace HB := hide (bnext (unhide HB) (unhide HB).size hbel)
    replace NX := hide ((unhide NX).later hbel)
    replace NO := hide ((unhide NO).later hbel)
    clear ho hbel N1
    go_wp2_with (refine wpList_build_to rfl 55 _ rfl [.slice (some ⟨gx, 0, none⟩) 33 cx, .slice (some ⟨gi, 0, none⟩) 33 ci].toArray (by kernel_rfl) ?_)
    refine (rOdd_any x x 1 _ _ _ (unhide NX) (unhide NI) (unhide HX1) (Int.lt_trans (unhide HXB).2 (by decide)) (Gd.start x)).mono ?_
    rintro e v6 ⟨zu, zc, up, cp, rfl, nu, nc, p0, ple, -, pd, pg, hbel⟩
    have NU := hide nu
    have NC := hide nc
    have HP := hide (⟨p0, ple, pd, pg⟩ : 0 < up ∧ up ≤ x ∧ up ∣ x ∧ Gd x up cp)
    obtain ⟨b1, o1, k1, rfl⟩ := nu.sl33
    obtain ⟨b2, o2, k2, rfl⟩ := nc.sl33
    replace H1 := hide ((unhide H1).later hbel)
    replace HB := hide (bnext (unhide HB) (unhide HB).size hbel)
    replace NO := hide ((unhide NO).later hbel)
    clear hbel NX NI nu nc p0 ple pd pg
    have hn7 := Arr.new v6 55 [.slice none 0 0, .slice none 0 0]
    have hz := szP (.slice (some ⟨b1, o1, none⟩) 33 k1) (.slice (some ⟨b2, o2, none⟩) 33 k2)
    have hss : ([.slice none 0 0, .slice none 0 0] : List Value).toArray.size = ([.slice (some ⟨b1, o1, none⟩) 33 k1, .slice (some ⟨b2, o2, none⟩) 33 k2] : List Value).toArray.size := rfl
    have hoo : ([.slice (some ⟨b1, o1, none⟩) 33 k1, .slice (some ⟨b2, o2, none⟩) 33 k2] : List Value).toArray.all (·.oneCell') = true := by simp [Value.oneCell']
    go_wp2_with (refine wpList_store_row rfl 55 (.tmp 7) (.tmp 22) rfl _ _ rfl rfl 55 _ hn7 hz hss hoo ?_)
    have hnS := newS v6 #[.slice none 0 0, .slice none 0 0] [.slice (some ⟨b1, o1, none⟩) 33 k1, .slice (some ⟨b2, o2, none⟩) 33 k2].toArray 55
    have hs7 : ((v6.alloc (.cells #[.slice none 0 0, .slice none 0 0] 55)).setRow v6.heap.size [.slice (some ⟨b1, o1, none⟩) 33 k1, .slice (some ⟨b2, o2, none⟩) 33 k2].toArray).heap.size = v6.heap.size + 1 := by simp
    generalize hW7 : World.setRow _ _ _ = W7
    have h7 : Arr W7 v6.heap.size 55 [.slice (some ⟨b1, o1, none⟩) 33 k1, .slice (some ⟨b2, o2, none⟩) 33 k2] := by rw [← hW7]; exact hnS.1
    have hbel : Below v6.heap.size v6 W7 := by rw [← hW7]; exact hnS.2
    replace hs7 : W7.heap.size = v6.heap.size + 1 := by rw [← hW7]; exact hs7
    have G7 := hide (unhide H1).lt
    have H7 := hide h7
    replace H1 := hide ((unhide H1).later hbel)
    replace HB := hide (bnext (unhide HB) (unhide HB).size hbel)
    replace NO := hide ((unhide NO).later hbel)
    replace NU := hide ((unhide NU).later hbel)
    replace NC := hide ((unhide NC).later hbel)
    clear hnS hW7 h7 hbel hn7 hz hss hoo
    rw [← hs7]
    clear hs7
    have ho1 := own_new W7 [0] (by decide)
    have hbel : Below W7.heap.size W7 (W7.alloc (.cells (I64 [0]).toArray 3 (0, 0))) := (Below.refl _ _).alloc (Nat.le_refl _) _
    have N1 := hide (NS.of ho1 (by decide))
    replace H1 := hide ((unhide H1).later hbel)
    replace H7 := hide ((unhide H7).later hbel)
    replace HB := hide (bnext (unhide HB) (unhide HB).size hbel)
    replace NO := hide ((unhide NO).later hbel)
    replace NU := hide ((unhide NU).later hbel)
    replace NC := hide ((unhide NC).later hbel)
    clear ho1 hbel
    refine (rMod_any [0] _ 1 _ (unhide N1) (by unfold Dg; decide) rfl (by decide)).mono ?_
    rintro e v8 ⟨vn, rfl, ho, hbel⟩
    rw [zero33] at ho
    obtain ⟨gn, cn, rfl, -, -⟩ := own_form ho (by decide)
    have NN := hide (NS.own ho (dg_len _ _ _) (by decide))
    replace H1 := hide ((unhide H1).later hbel)
    replace H7 := hide ((unhide H7).later hbel)
    replace HB := hide (bnext (unhide HB) (unhide HB).size hbel)
    replace NO := hide ((unhide NO).later hbel)
    replace NU := hide ((unhide NU).later hbel)
    replace NC := hide ((unhide NC).later hbel)
    clear ho hbel N1
    have hn8 := Arr.new v8 55 [.slice none 0 0, .slice none 0 0]
    have hz := szP (.slice (some ⟨go, 0, none⟩) 33 co) (.slice (some ⟨gn, 0, none⟩) 33 cn)
    have hss : ([.slice none 0 0, .slice none 0 0] : List Value).toArray.size = ([.slice (some ⟨go, 0, none⟩) 33 co, .slice (some ⟨gn, 0, none⟩) 33 cn] : List Value).toArray.size := rfl
    have hoo : ([.slice (some ⟨go, 0, none⟩) 33 co, .slice (some ⟨gn, 0, none⟩) 33 cn] : List Value).toArray.all (·.oneCell') = true := by simp [Value.oneCell']
    go_wp2_with (first
      | refine wpList_build_to rfl 55 _ rfl [.slice (some ⟨go, 0, none⟩) 33 co, .slice (some ⟨gn, 0, none⟩) 33 cn].toArray (by kernel_rfl) ?_
      | refine wpList_store_row rfl 55 (.tmp 8) (.tmp 26) rfl _ _ rfl rfl 55 _ hn8 hz hss hoo ?_)
    have hnS := newS v8 #[.slice none 0 0, .slice none 0 0] [.slice (some ⟨go, 0, none⟩) 33 co, .slice (some ⟨gn, 0, none⟩) 33 cn].toArray 55
    generalize hW8 : World.setRow _ _ _ = W8
    have h8 : Arr W8 v8.heap.size 55 [.slice (some ⟨go, 0, none⟩) 33 co, .slice (some ⟨gn, 0, none⟩) 33 cn] := by rw [← hW8]; exact hnS.1
    have hbel : Below v8.heap.size v8 W8 := by rw [← hW8]; exact hnS.2
    have P := unhide HP
    have HI0 := hide (⟨(unhide H1).later hbel, (unhide H7).later hbel, h8, (unhide NU).later hbel, (unhide NC).later hbel, (unhide NO).later hbel, (unhide NN).later hbel, unhide G7, (unhide H7).lt, bnext (unhide HB) (unhide HB).size hbel⟩ : IvR w v6.heap.size v8.heap.size (.slice (some ⟨b1, o1, none⟩) 33 k1) (.slice (some ⟨b2, o2, none⟩) 33 k2) (.slice (some ⟨go, 0, none⟩) 33 co) (.slice (some ⟨gn, 0, none⟩) 33 cn) up cp LL 0 W8)
    have HN0 := hide (⟨P.2.2.2, Gd.order x, P.1, LL_pos, by have := (unhide HXB).2; have := c33 (unhide HXB).2; have := P.2.1; have := LL_pos; omega, by decide, Cop.start (unhide HX1) (unhide HXB).2 P.2.2.1⟩ : IvN x up cp LL 0)
    clear hnS hW8 h8 hbel hn8 hz hss hoo P HP H1 H7 NU NC NO NN HB G7
    generalize v6.heap.size = g7 at *
    generalize v8.heap.size = g8 at *
    simp only [Act.put]
    go_loopg [] (up.toNat + LL.toNat) (fun g wr => ∃ up cp uq cq pu pc qu qc, up.toNat + uq.toNat = g ∧ IvN x up cp uq cq ∧ IvR w g7 g8 pu pc qu qc up cp uq cq wr)
    case atStart => exact ⟨up, cp, LL, 0, _, _, _, _, rfl, unhide HN0, unhide HI0⟩
    case round =>
      clear HI0 HN0 up cp
      obtain ⟨up, cp, uq, cq, pu, pc, qu, qc, hgk, N, I⟩ := hrel
      obtain ⟨b5, o5, k5, rfl⟩ := I.n1.sl33
      obtain ⟨b6, o6, k6, rfl⟩ := I.n2.sl33
      obtain ⟨b7, o7, k7, rfl⟩ := I.n3.sl33
      obtain ⟨b8, o8, k8, rfl⟩ := I.n4.sl33
      have HGK := hide hgk
      have HN := hide N
      have HI := hide I
      have e0 := I.cp0
      have e1 := I.cq0
      have hop := rOne_any (dg 256 33 up) _ _ I.n1 (Dg_dg _ (by decide) _ _) (dg_len _ _ _)
      have hoq := rOne_any (dg 256 33 uq) _ _ I.n3 (Dg_dg _ (by decide) _ _) (dg_len _ _ _)
      rw [num_wide 33 _ (Int.le_of_lt N.p0) N.p1] at hop
      rw [num_wide 33 _ (Int.le_of_lt N.q0) N.q1] at hoq
      have HOP := hide hop
      have HOQ := hide hoq
      clear hgk N I hop hoq
      go_wp2_with fail
      refine (unhide HOP).mono ?_
      rintro r u1 ⟨rfl, rfl⟩
      by_cases hp1 : up = 1
      · rw [decide_eq_true hp1]
        have hgp := (unhide HN).gp
        rw [hp1] at hgp
        have HP1 := hide hp1
        have HGP := hide hgp
        clear hp1 hgp e1
        go_wp2_with fail
        refine (unhide HOP).mono ?_
        rintro r u1 ⟨rfl, rfl⟩
        rw [decide_eq_true (unhide HP1)]
        clear e0
        have e2 := (unhide HI).cp1
        go_wp2_with fail
        refine (rTell_any (dg 256 33 cp) _ _ (unhide HI).n2 (Dg_dg _ (by decide) _ _)).mono ?_
        rintro r u2 ⟨rfl, hbel⟩
        rw [(unhide HGP).inv (unhide HXA) (unhide HA0)]
        have hr := (unhide HI).hr.later hbel
        have hbw := bnext (unhide HI).hb (unhide HI).hb.size hbel
        have hzs := szS (Sc_len (A ^ eInvL))
        have hss := sz_eq8 (l := z32) (m := Sc (A ^ eInvL)) (by rw [z32_Sb.len, Sc_len])
        have HBW := hide hbw
        generalize hR : Sc (A ^ eInvL) = R at *
        have HR := hide hR
        clear hR
        clear hbel hbw
        clear e2
        go_wp2_with (refine wpList_store_row rfl 23 (.tmp 2) (.tmp 55) rfl _ _ rfl rfl 23 _ hr hzs hss (all_one (U8_one _)) ?_)
        refine bodyPost_ret (results_row_tmp rfl _ _ _ 23 _ (0, 0) _ rfl (.bool true) rfl (setRow_heap _ _ _ _ _ _ hr) Tryd.underlying23 rfl hzs) rfl ?_
        exact ⟨by rw [decide_eq_false (unhide HA0), unhide HR]; rfl, below_setRow (unhide HBW) (by omega) _⟩
      · rw [decide_eq_false hp1]
        have HP1 := hide hp1
        clear hp1
        go_wp2_with fail
        refine (unhide HOQ).mono ?_
        rintro r u1 ⟨rfl, rfl⟩
        by_cases hq1 : uq = 1
        · rw [decide_eq_true hq1]
          have hgq := (unhide HN).gq
          rw [hq1] at hgq
          have HGQ := hide hgq
          clear hq1 hgq e1
          go_wp2_with fail
          refine (unhide HOP).mono ?_
          rintro r u1 ⟨rfl, rfl⟩
          rw [decide_eq_false (unhide HP1)]
          clear e0
          have e2 := (unhide HI).cq1
          go_wp2_with fail
          refine (rTell_any (dg 256 33 cq) _ _ (unhide HI).n4 (Dg_dg _ (by decide) _ _)).mono ?_
          rintro r u2 ⟨rfl, hbel⟩
          rw [(unhide HGQ).inv (unhide HXA) (unhide HA0)]
          have hr := (unhide HI).hr.later hbel
          have hbw := bnext (unhide HI).hb (unhide HI).hb.size hbel
          have hzs := szS (Sc_len (A ^ eInvL))
          have hss := sz_eq8 (l := z32) (m := Sc (A ^ eInvL)) (by rw [z32_Sb.len, Sc_len])
          have HBW := hide hbw
          generalize hR : Sc (A ^ eInvL) = R at *
          have HR := hide hR
          clear hR
          clear hbel hbw
          clear e2
          go_wp2_with (refine wpList_store_row rfl 23 (.tmp 2) (.tmp 58) rfl _ _ rfl rfl 23 _ hr hzs hss (all_one (U8_one _)) ?_)
          refine bodyPost_ret (results_row_tmp rfl _ _ _ 23 _ (0, 0) _ rfl (.bool true) rfl (setRow_heap _ _ _ _ _ _ hr) Tryd.underlying23 rfl hzs) rfl ?_
          exact ⟨by rw [decide_eq_false (unhide HA0), unhide HR]; rfl, below_setRow (unhide HBW) (by omega) _⟩
        · rw [decide_eq_false hq1]
          clear hq1
          have hls := rLess_any (dg 256 33 up) (dg 256 33 uq) _ _ _ (unhide HI).n1 (unhide HI).n3 (by rw [dg_len]; decide) (by rw [dg_len]; decide) (Dg_dg _ (by decide) _ _) (Dg_dg _ (by decide) _ _)
          rw [num_wide 33 _ (Int.le_of_lt (unhide HN).p0) (unhide HN).p1, num_wide 33 _ (Int.le_of_lt (unhide HN).q0) (unhide HN).q1] at hls
          have HLS := hide hls
          clear hls
          go_wp2_with fail
          refine (unhide HLS).mono ?_
          rintro r u1 ⟨rfl, rfl⟩
          by_cases hlt : up < uq
          · rw [decide_eq_true hlt]
            have HLT := hide hlt
            have hp := (unhide HI).hp
            have hq := (unhide HI).hq
            have hzp := szP (.slice (some ⟨b5, o5, none⟩) 33 k5) (.slice (some ⟨b6, o6, none⟩) 33 k6)
            have hzq := szP (.slice (some ⟨b7, o7, none⟩) 33 k7) (.slice (some ⟨b8, o8, none⟩) 33 k8)
            clear hlt e0 e1
            go_wp2_with (first
              | refine wpList_load_row rfl 55 (.tmp 8) rfl _ rfl 55 _ (0, 0) _ hq Tryd.underlying55 rfl hzq ?_
              | refine wpList_load_row rfl 55 (.tmp 7) rfl _ rfl 55 _ (0, 0) _ hp Tryd.underlying55 rfl hzp ?_)
            clear hp hq hzp hzq
            refine (rApart_any uq cq up cp _ _ _ _ _ (unhide HI).n3 (unhide HI).n4 (unhide HI).n1 (unhide HI).n2 ⟨Int.le_of_lt (unhide HN).q0, (unhide HN).q1⟩ ⟨Int.le_of_lt (unhide HN).p0, (unhide HN).p1⟩ ⟨(unhide HN).gq.c0, (unhide HN).gq.c1⟩ ⟨(unhide HN).gp.c0, (unhide HN).gp.c1⟩).mono ?_
            rintro r u2 ⟨zu, zc, rfl, nu, nc, hbel⟩
            have NU := hide nu
            have NC := hide nc
            obtain ⟨b9, o9, k9, rfl⟩ := nu.sl33
            obtain ⟨b10, o10, k10, rfl⟩ := nc.sl33
            have HI1 := hide ((unhide HI).later hbel)
            clear nu nc hbel
            go_wp2_with fail
            refine (rOdd_any x (uq - up) ((cq - cp) % LL) _ _ _ (unhide NU) (unhide NC) (by have := unhide HLT; omega) (by have := (unhide HN).q1; have := (unhide HN).p0; omega) ((unhide HN).gq.sub (unhide HN).gp)).mono ?_
            rintro r u3 ⟨zu, zc, u', c', rfl, nu, nc, q0, qle, -, qd, qg, hbel⟩
            have HU := hide (⟨q0, qle, qd, qg⟩ : 0 < u' ∧ u' ≤ uq - up ∧ u' ∣ uq - up ∧ Gd x u' c')
            have J := ((unhide HI1).later hbel)
            have hA := J.hq
            have HJ := hide (J.putQ nu nc)
            obtain ⟨b11, o11, k11, rfl⟩ := nu.sl33
            obtain ⟨b12, o12, k12, rfl⟩ := nc.sl33
            clear NU NC nu nc hbel q0 qle qd qg J HI1
            have hz := szP (.slice (some ⟨b11, o11, none⟩) 33 k11) (.slice (some ⟨b12, o12, none⟩) 33 k12)
            have hss : ([.slice (some ⟨b7, o7, none⟩) 33 k7, .slice (some ⟨b8, o8, none⟩) 33 k8] : List Value).toArray.size = ([.slice (some ⟨b11, o11, none⟩) 33 k11, .slice (some ⟨b12, o12, none⟩) 33 k12] : List Value).toArray.size := rfl
            have hoo : ([.slice (some ⟨b11, o11, none⟩) 33 k11, .slice (some ⟨b12, o12, none⟩) 33 k12] : List Value).toArray.all (·.oneCell') = true := by simp [Value.oneCell']
            go_wp2_with (refine wpList_store_row rfl 55 (.tmp 8) (.tmp 45) rfl _ _ rfl rfl 55 _ hA hz hss hoo ?_)
            go_roundg (up.toNat + u'.toNat)
            case measure => have := unhide HGK; have := unhide HU; have := (unhide HN).p0; have := (unhide HN).q0; omega
            case rel => exact ⟨up, cp, u', c', _, _, _, _, rfl, (unhide HN).right (unhide HLT) (unhide HU).1 (unhide HU).2.1 (unhide HU).2.2.1 (unhide HU).2.2.2, unhide HJ⟩
          · rw [decide_eq_false hlt]
            have HLT := hide hlt
            have hp := (unhide HI).hp
            have hq := (unhide HI).hq
            have hzp := szP (.slice (some ⟨b5, o5, none⟩) 33 k5) (.slice (some ⟨b6, o6, none⟩) 33 k6)
            have hzq := szP (.slice (some ⟨b7, o7, none⟩) 33 k7) (.slice (some ⟨b8, o8, none⟩) 33 k8)
            clear hlt e0 e1
            go_wp2_with (first
              | refine wpList_load_row rfl 55 (.tmp 7) rfl _ rfl 55 _ (0, 0) _ hp Tryd.underlying55 rfl hzp ?_
              | refine wpList_load_row rfl 55 (.tmp 8) rfl _ rfl 55 _ (0, 0) _ hq Tryd.underlying55 rfl hzq ?_)
            clear hp hq hzp hzq
            refine (rApart_any up cp uq cq _ _ _ _ _ (unhide HI).n1 (unhide HI).n2 (unhide HI).n3 (unhide HI).n4 ⟨Int.le_of_lt (unhide HN).p0, (unhide HN).p1⟩ ⟨Int.le_of_lt (unhide HN).q0, (unhide HN).q1⟩ ⟨(unhide HN).gp.c0, (unhide HN).gp.c1⟩ ⟨(unhide HN).gq.c0, (unhide HN).gq.c1⟩).mono ?_
            rintro r u2 ⟨zu, zc, rfl, nu, nc, hbel⟩
            have NU := hide nu
            have NC := hide nc
            obtain ⟨b9, o9, k9, rfl⟩ := nu.sl33
            obtain ⟨b10, o10, k10, rfl⟩ := nc.sl33
            have HI1 := hide ((unhide HI).later hbel)
            clear nu nc hbel
            go_wp2_with fail
            refine (rOdd_any x (up - uq) ((cp - cq) % LL) _ _ _ (unhide NU) (unhide NC) (by have := unhide HLT; have := (unhide HN).apart (unhide HP1); omega) (by have := (unhide HN).p1; have := (unhide HN).q0; omega) ((unhide HN).gp.sub (unhide HN).gq)).mono ?_
            rintro r u3 ⟨zu, zc, u', c', rfl, nu, nc, q0, qle, -, qd, qg, hbel⟩
            have HU := hide (⟨q0, qle, qd, qg⟩ : 0 < u' ∧ u' ≤ up - uq ∧ u' ∣ up - uq ∧ Gd x u' c')
            have J := ((unhide HI1).later hbel)
            have hA := J.hp
            have HJ := hide (J.putP nu nc)
            obtain ⟨b11, o11, k11, rfl⟩ := nu.sl33
            obtain ⟨b12, o12, k12, rfl⟩ := nc.sl33
            clear NU NC nu nc hbel q0 qle qd qg J HI1
            have hz := szP (.slice (some ⟨b11, o11, none⟩) 33 k11) (.slice (some ⟨b12, o12, none⟩) 33 k12)
            have hss : ([.slice (some ⟨b5, o5, none⟩) 33 k5, .slice (some ⟨b6, o6, none⟩) 33 k6] : List Value).toArray.size = ([.slice (some ⟨b11, o11, none⟩) 33 k11, .slice (some ⟨b12, o12, none⟩) 33 k12] : List Value).toArray.size := rfl
            have hoo : ([.slice (some ⟨b11, o11, none⟩) 33 k11, .slice (some ⟨b12, o12, none⟩) 33 k12] : List Value).toArray.all (·.oneCell') = true := by simp [Value.oneCell']
            go_wp2_with (refine wpList_store_row rfl 55 (.tmp 7) (.tmp 49) rfl _ _ rfl rfl 55 _ hA hz hss hoo ?_)
            go_roundg (u'.toNat + uq.toNat)
            case measure => have := unhide HGK; have := unhide HU; have := (unhide HN).p0; have := (unhide HN).q0; omega
            case rel => exact ⟨u', c', uq, cq, _, _, _, _, rfl, (unhide HN).left (unhide HU).1 (unhide HU).2.1 (unhide HU).2.2.1 (unhide HU).2.2.2, unhide HJ⟩
end Go.Proofs.YtmpbbookbmfbnabDoor
