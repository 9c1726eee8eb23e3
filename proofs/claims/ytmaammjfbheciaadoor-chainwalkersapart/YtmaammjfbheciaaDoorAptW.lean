import Derived.Test.YtmaammjfbheciaaDoorThrW
set_option linter.unusedVariables false
namespace Go.Proofs.YtmaammjfbheciaaDoor
open Go.RowKit Go.Maps

/-- a slice of bools, wherever it lies -/
structure Bl where
  a : Option Addr
  n : Nat
  c : Nat
  B : Nat → Bool
def Bl.v (s : Bl) : Value := .slice s.a s.n s.c
structure Bl.Ok (w : World) (s : Bl) : Prop where
  le : s.n ≤ s.c
  mx : s.c ≤ maxLen
  at_ : 0 < s.n → ∃ b off, s.a = some ⟨b, off, none⟩ ∧ b < w.heap.size ∧ ∀ i, i < s.n → w.cell? ⟨b, off + i, none⟩ = some (.bool (s.B i))
/-- a Walker of which i values are told (or were asked for) -/
def XI (wr : World) (p b n : Nat) (v : List Int) (i : Nat) : Prop := ∃ s ds, Wst wr p b n v s ds ∧ ds.sum = n - i
theorem XI.later {w w' : World} {p b n : Nat} {v : List Int} {i : Nat} (h : XI w p b n v i) (hb : Below w.heap.size w w') : XI w' p b n v i := by
  obtain ⟨s, ds, h1, h2⟩ := h; exact ⟨s, ds, h1.later hb, h2⟩
theorem XI.keep {w w' : World} {p b n : Nat} {v : List Int} {i : Nat} (h : XI w p b n v i) {S : Nat → Prop} (hb : Buts S w w') (h1 : ¬ S p) (h2 : ¬ S b) : XI w' p b n v i := by
  obtain ⟨s, ds, h3, h4⟩ := h; exact ⟨s, ds, h3.keep hb h1 h2, h4⟩
theorem XI.apart {w : World} {p b n p' b' n' : Nat} {v v' : List Int} {i i' : Nat} (h : XI w p b n v i) (h' : XI w p' b' n' v' i') : p ≠ b' ∧ b ≠ p' := by
  obtain ⟨s, ds, h1, -⟩ := h
  obtain ⟨s', ds', h2, -⟩ := h'
  exact ⟨h2.M.ne h1.P, fun e => h1.M.ne h2.P e.symm⟩
theorem XI.hold {rows : List (Nat × List Int)} {w w' : World} {p b n : Nat} {v : List Int} {i : Nat} (h : Hold rows w) (hx : XI w p b n v i) (hb : Buts (fun k => k = p ∨ k = b) w w') : Hold rows w' := by
  obtain ⟨s, ds, h1, -⟩ := hx; exact h.walk h1 hb
theorem xnext_any (p b n : Nat) (v : List Int) (i : Nat) (w : World) (hv : Hs v) (hL : Ld w) (h : XI w p b n v i) (hn1 : 1 ≤ n) (hn : n ≤ 4096) :
    Calls Tryd.prog 18 #[.pointer (some ⟨p, 0, none⟩)] w fun e w' => e = .returned (.tuple #[.int .i64 ((if i < n then i + 1 else 0 : Nat) : Int), hV (vaR v n ((i + 1 : Nat) : Int)).1, .bool (vaR v n ((i + 1 : Nat) : Int)).2]) ∧ XI w' p b n v (i + 1) ∧ Buts (fun k => k = p ∨ k = b) w w' := by
  obtain ⟨s, ds, hW, hs⟩ := h
  by_cases hi : i < n
  · rw [if_pos hi, vaR, if_pos ⟨by omega, by omega, by omega, by omega⟩]
    obtain ⟨d, r, rfl⟩ : ∃ d r, ds = d :: r := by
      cases ds with
      | nil => simp at hs; omega
      | cons d r => exact ⟨d, r, rfl⟩
    refine (next_ok p b n s v d r (n - (i + 1)) w hv hL hW hn (by omega)).mono ?_
    rintro e w' ⟨rfl, s', r', h1, h2, h3, h4⟩
    refine ⟨?_, ⟨s', r', h1, h2⟩, h4⟩
    rw [show n - (n - (i + 1)) = i + 1 by omega, show ((n : Int) - ((i + 1 : Nat) : Int)).toNat = n - (i + 1) by omega]
  · rw [if_neg hi, vaR, if_neg (by omega)]
    have hd : ds = [] := by
      cases ds with
      | nil => rfl
      | cons d r => have := hW.F.1; simp only [List.sum_cons] at hs; omega
    subst hd
    refine (next_end p b n s v w hW hn).mono ?_
    rintro e w' ⟨rfl, h1⟩
    exact ⟨rfl, ⟨s, [], hW.later h1, by simp; omega⟩, Buts.of_below h1⟩
theorem xthrifty (p b n : Nat) (v : List Int) (i : Nat) (w : World) (h : XI w p b n v i) (hn1 : 1 ≤ n) (hn : n ≤ 4096) :
    Calls Tryd.prog 19 #[.pointer (some ⟨p, 0, none⟩), .int .i64 n, .int .i64 i, .int .i64 0] w fun e w' => e = .returned (.bool true) ∧ Below w.heap.size w w' := by
  obtain ⟨s, ds, hW, hs⟩ := h
  refine (show Calls Tryd.prog 19 #[.pointer (some ⟨p, 0, none⟩), .int .i64 n, .int .i64 i, .int .i64 0] w fun e w' => e = .returned (.bool true) ∧ w' = w from thrifty_any p b n s v ds i 0 w hW hn1 hn (fun h => fits_nonempty (by omega)) (Nat.zero_le _) (fun h => hW.G (by omega))).mono ?_
  rintro e w' ⟨rfl, rfl⟩
  exact ⟨rfl, Below.refl _ _⟩
/-- where the law's loop stands -/
structure AptI (w : World) (p1 b1 n : Nat) (x : List Int) (p2 b2 m : Nat) (y : List Int) (i k : Nat) (wr : World) : Prop where
  X : XI wr p1 b1 n x i
  Y : XI wr p2 b2 m y k
  D : p1 ≠ p2 ∧ b1 ≠ b2
  H : Hold [(w.heap.size, x), (w.heap.size + 1, y)] wr
  B : Below w.heap.size w wr
  P : w.heap.size ≤ p1 ∧ w.heap.size ≤ b1 ∧ w.heap.size ≤ p2 ∧ w.heap.size ≤ b2

set_option maxHeartbeats 40000000 in
set_option maxRecDepth 100000 in
theorem apart_law (x : List Int) (nz : Int) (y : List Int) (mz : Int) (t : Bl) (w : World) (hx : Hs x) (hy : Hs y) (ht : t.Ok w) (hL : Ld w) :
    Calls Tryd.prog 6 #[hV x, .int .i64 nz, hV y, .int .i64 mz, t.v] w fun e w' => e = .returned (.bool true) ∧ Below w.heap.size w w' := by
  obtain ⟨W, hW, hH, hb⟩ := hold2 w x y
  have HW := hide hW
  have HL := hide hL
  have HTT := hide ht
  clear hW hL ht
  obtain ⟨ta, tn, tc, tB⟩ := t
  unfold Bl.v
  simp only
  cases d1 : decide (nz < 1)
  rotate_left
  · as_aux_lemma =>
    unfold hV
    go_enter Tryd.func6, Tryd.ntmps6
    go_upto_region 1 with fail
    rw [show Value.agg (U8 x).toArray = hV x from rfl, show Value.agg (U8 y).toArray = hV y from rfl]
    rw [← unhide HW]
    go_wp2_with fail
    go_ret
    exact ⟨rfl, hb⟩
  cases d2 : decide (300 < nz)
  rotate_left
  · as_aux_lemma =>
    unfold hV
    go_enter Tryd.func6, Tryd.ntmps6
    go_upto_region 1 with fail
    rw [show Value.agg (U8 x).toArray = hV x from rfl, show Value.agg (U8 y).toArray = hV y from rfl]
    rw [← unhide HW]
    go_wp2_with fail
    go_ret
    exact ⟨rfl, hb⟩
  cases d3 : decide (mz < 1)
  rotate_left
  · as_aux_lemma =>
    unfold hV
    go_enter Tryd.func6, Tryd.ntmps6
    go_upto_region 1 with fail
    rw [show Value.agg (U8 x).toArray = hV x from rfl, show Value.agg (U8 y).toArray = hV y from rfl]
    rw [← unhide HW]
    go_wp2_with fail
    go_ret
    exact ⟨rfl, hb⟩
  cases d4 : decide (300 < mz)
  rotate_left
  · as_aux_lemma =>
    unfold hV
    go_enter Tryd.func6, Tryd.ntmps6
    go_upto_region 1 with fail
    rw [show Value.agg (U8 x).toArray = hV x from rfl, show Value.agg (U8 y).toArray = hV y from rfl]
    rw [← unhide HW]
    go_wp2_with fail
    go_ret
    exact ⟨rfl, hb⟩
  cases d5 : decide ((1000 : Int) < (tn : Int))
  rotate_left
  · as_aux_lemma =>
    unfold hV
    go_enter Tryd.func6, Tryd.ntmps6
    go_upto_region 1 with fail
    rw [show Value.agg (U8 x).toArray = hV x from rfl, show Value.agg (U8 y).toArray = hV y from rfl]
    rw [← unhide HW]
    have d5a : 1000 < tn := by have := of_decide_eq_true d5; omega
    have d5b : (1000 : Int) < (tn : Int) := by omega
    have d5c : decide (1000 < tn) = true := decide_eq_true d5a
    go_wp2_with fail
    go_ret
    exact ⟨rfl, hb⟩
  obtain ⟨n, rfl⟩ : ∃ n : Nat, nz = n := ⟨nz.toNat, by simp at d1; omega⟩
  obtain ⟨m, rfl⟩ : ∃ m : Nat, mz = m := ⟨mz.toNat, by simp at d3; omega⟩
  have HN : Hid (1 ≤ n ∧ n ≤ 300 ∧ 1 ≤ m ∧ m ≤ 300 ∧ tn ≤ 1000) := hide (by simp at d1 d2 d3 d4 d5; omega)
  have hR := sumZ_length x
  have C3 := hide (fun w1 hl => step_any x w1 hx hl)
  have C4 : Hid (∀ w1, Arr w1 w.heap.size 23 (U8 x) → Ld w1 → Calls Tryd.prog 10 #[.slice (some ⟨w.heap.size, 0, none⟩) 32 32] w1 fun e w' => e = .returned (hV (sumZ x)) ∧ Below w1.heap.size w1 w') := hide (fun w1 hA hl => sumSl w.heap.size x w1 hx hA hl)
  generalize sumZ x = R at C3 C4 hR
  unfold hV
  go_enter Tryd.func6, Tryd.ntmps6
  go_upto_region 1 with fail
  rw [show Value.agg (U8 x).toArray = hV x from rfl, show Value.agg (U8 y).toArray = hV y from rfl]
  rw [← unhide HW]
  have d5a : decide (1000 < tn) = false := decide_eq_false (by have := of_decide_eq_false d5; omega)
  go_upto_region 3 with fail
  clear d1 d2 d3 d4 d5 d5a
  go_wp2_with (first
    | refine wpList_load_hs hH (.tmp 5) rfl (by kernel_rfl) (w.heap.size) x (by simp) hx.len rfl ?_
    | refine wpList_load_hs hH (.tmp 7) rfl (by kernel_rfl) (w.heap.size + 1) y (by simp) hy.len rfl ?_)
  refine (walk_ok x n _ hx (unhide HN).1 (by have := unhide HN; omega)).mono ?_
  rintro e u1 ⟨p1, b1, rfl, hW1, hp1, hb1, hbl⟩
  replace hH := hH.later hbl
  have HX := hide hW1
  have HP1 : Hid (w.heap.size ≤ p1 ∧ w.heap.size ≤ b1) := hide ⟨Nat.le_trans hb.size hp1, Nat.le_trans hb.size hb1⟩
  replace hb := bnext hb hb.size hbl
  clear hbl hW1 hp1 hb1
  go_wp2_with (first
    | refine wpList_load_hs hH (.tmp 5) rfl (by kernel_rfl) (w.heap.size) x (by simp) hx.len rfl ?_
    | refine wpList_load_hs hH (.tmp 7) rfl (by kernel_rfl) (w.heap.size + 1) y (by simp) hy.len rfl ?_)
  refine (walk_ok y m _ hy (unhide HN).2.2.1 (by have := unhide HN; omega)).mono ?_
  rintro e u2 ⟨p2, b2, rfl, hW2, hp2, hb2, hbl⟩
  replace hH := hH.later hbl
  have HST : Hid (AptI w p1 b1 n x p2 b2 m y 0 0 u2) := hide ⟨⟨0, [n], (unhide HX).later hbl, by simp⟩, ⟨0, [m], hW2, by simp⟩, ⟨by have := (unhide HX).P.lt; omega, by have := (unhide HX).M.lt; omega⟩, hH, bnext hb hb.size hbl, (unhide HP1).1, (unhide HP1).2, Nat.le_trans hb.size hp2, Nat.le_trans hb.size hb2⟩
  clear hbl hW2 hp2 hb2 hH hb HX HP1
  go_wp2_with fail
  go_loopw [15, 16, 17] (fun iv kv tv wr => ∃ i k t : Nat, t ≤ tn ∧ i ≤ t ∧ k ≤ t ∧ iv = .int .i64 (i : Int) ∧ kv = .int .i64 (k : Int) ∧ tv = .int .i64 (t : Int) ∧ AptI w p1 b1 n x p2 b2 m y i k wr) (fun _ _ tv _ => tn - (intOf tv).toNat)
  case atStart => exact ⟨0, 0, 0, Nat.zero_le _, Nat.le_refl _, Nat.le_refl _, rfl, rfl, rfl, unhide HST⟩
  case round =>
    clear HST
    obtain ⟨i, k, t, htn, hit, hkt, rfl, rfl, rfl, hI⟩ := hrel
    have hH := hI.H
    have hb := hI.B
    by_cases hlt : t < tn
    · obtain ⟨tb, to, hta, htl, htc⟩ := (unhide HTT).at_ (by show 0 < tn; omega)
      have hta' : ta = some ⟨tb, to, none⟩ := hta
      subst hta'
      have ct : wr.cell? ⟨tb, to + t, none⟩ = some (.bool (tB t)) := by
        rw [← htc t hlt]
        exact World.cell?_of_block (w := w) (w' := wr) (a := ⟨tb, to + t, none⟩) (hb.block tb htl)
      have hlz : (t : Int) < (tn : Int) := by omega
      have hlz' : t < tn := hlt
      have HB : Hid (t < tn ∧ tn ≤ 1000 ∧ i ≤ t ∧ k ≤ t) := hide ⟨hlt, by have := unhide HN; omega, hit, hkt⟩
      have hw9 : Hid (IntKind.i64.wrap ((t : Int) + 1) = ((t + 1 : Nat) : Int)) := hide (by rw [IntKind.wrap_i64]; have := unhide HN; omega)
      have HI := hide hI
      generalize tB t = turn at ct
      clear hI htn hit hkt htc hta
      cases turn
      · have hnx := xnext_any p2 b2 m y k wr hy ((unhide HL).later hb) (unhide HI).Y (unhide HN).2.2.1 (by have := unhide HN; omega)
        have hva := fun w1 hl => value_any y m ((k + 1 : Nat) : Int) w1 hy hl
        have hul := vaR_hs hy (m : Int) ((k + 1 : Nat) : Int)
        have hqi : (vaR y (m : Int) ((k + 1 : Nat) : Int)).2 = decide (k < m) := by
          by_cases h : k < m
          · rw [vaR, if_pos ⟨by omega, by have := unhide HN; omega, by omega, by omega⟩]; simp [h]
          · rw [vaR, if_neg (by omega)]; simp [h]
        rw [hqi] at hnx hva
        generalize (vaR y (m : Int) ((k + 1 : Nat) : Int)).1 = u at hnx hva hul
        have hw1 : Hid (IntKind.i64.wrap ((k : Int) + 1) = ((k + 1 : Nat) : Int)) := hide (by rw [IntKind.wrap_i64]; have := unhide HB; omega)
        clear hqi
        obtain ⟨j, hj⟩ : ∃ j, j = k + 1 := ⟨_, rfl⟩
        rw [← hj] at hnx hva hw1
        obtain ⟨t1, ht1⟩ : ∃ t1, t1 = t + 1 := ⟨_, rfl⟩
        rw [← ht1] at hw9
        have HJ : Hid (j = k + 1 ∧ t1 = t + 1) := hide ⟨hj, ht1⟩
        obtain ⟨idx, hidx⟩ : ∃ q : Nat, q = if k < m then j else 0 := ⟨_, rfl⟩
        rw [← hidx] at hnx
        have hq1 : decide (k < m) = true → idx = j := fun h => by rw [hidx, if_pos (of_decide_eq_true h)]
        generalize decide (k < m) = q at hnx hva hq1
        have HNX := hide hnx
        have HVA := hide hva
        have HQ1 := hide hq1
        clear hnx hva hq1 hidx hj ht1
        cases q
        · skip
          clear HQ1
          go_wp2_with fail
          refine (unhide HNX).mono ?_
          rintro e y1 ⟨rfl, hX1, hB1⟩
          have hap := (unhide HI).Y.apart (unhide HI).X
          have hD := (unhide HI).D
          have hO1 := (unhide HI).X.keep hB1 (by omega) (by omega)
          replace hH := XI.hold hH (unhide HI).Y hB1
          replace hb := bel_walk hb hb.size (unhide HI).P.2.2.1 (unhide HI).P.2.2.2 hB1
          have HX1 := hide hX1
          have HO1 := hide hO1
          clear hB1 hX1 hO1 hap hD ct
          have d8 := unhide hw1
          go_wp2_with (first
            | (refine wpList_store_hs hH rfl (.tmp 24) (.tmp 118) rfl u hul.len _ rfl rfl rfl ?_; intro y2 hH2 hb2; replace hH := hH2; replace HX1 := hide ((unhide HX1).later hb2); replace HO1 := hide ((unhide HO1).later hb2); replace hb := bnext hb hb.size hb2; clear hb2 hH2)
            | refine wpList_load_hs hH (.tmp 7) rfl (by kernel_rfl) (w.heap.size + 1) y (by simp) hy.len rfl ?_)
          clear d8
          refine (unhide HVA _ ((unhide HL).later hb)).mono ?_
          rintro e y3 ⟨rfl, hb1⟩
          replace hH := hH.later hb1
          replace HX1 := hide ((unhide HX1).later hb1)
          replace HO1 := hide ((unhide HO1).later hb1)
          replace hb := bnext hb hb.size hb1
          clear hb1
          go_upto_region 21 with (first
            | (refine wpList_store_hs hH rfl (.tmp 26) (.tmp 127) rfl u hul.len _ rfl rfl rfl ?_; intro y4 hH2 hb2; replace hH := hH2; replace HX1 := hide ((unhide HX1).later hb2); replace HO1 := hide ((unhide HO1).later hb2); replace hb := bnext hb hb.size hb2; clear hb2 hH2))
          refine wp_region_lit ?_
          refine wpList_val (.bool false) (by kernel_rfl) (by go_simp) ?_
          simp [Act.put]
          refine wpList_val (.bool false) (by kernel_rfl) (by go_simp) ?_
          simp [Act.put]
          refine wpList_val (.bool false) (by kernel_rfl) (by go_simp) ?_
          simp [Act.put]
          refine wpList_val (.bool false) (by kernel_rfl) (by go_simp) ?_
          simp [Act.put]
          refine wpList_load_hs hH (.tmp 24) rfl (by kernel_rfl) (y1.heap.size) u (by simp) hul.len rfl ?_
          simp [Act.put]
          refine wpList_load_hs hH (.tmp 26) rfl (by kernel_rfl) (y3.heap.size) u (by simp) hul.len rfl ?_
          simp [Act.put]
          refine wpList_neH (by kernel_rfl) (.tmp 133) (.tmp 134) rfl u u hul.len hul.len true (by simp) rfl rfl ?_
          simp [Act.put]
          refine wpList_val (.bool false) (by kernel_rfl) (by go_simp) ?_
          simp [Act.put]
          refine wpList_val (.bool false) (by kernel_rfl) (by go_simp) ?_
          simp [Act.put]
          refine wpList_val (.bool false) (by kernel_rfl) (by go_simp) ?_
          simp [Act.put]
          refine wpList_val (.bool false) (by kernel_rfl) (by go_simp) ?_
          simp [Act.put]
          refine wpList_skip (by kernel_rfl) ?_
          simp [Act.put]
          refine wpList_skip (by kernel_rfl) ?_
          simp [Act.put]
          refine wpList_skip (by kernel_rfl) ?_
          simp [Act.put]
          refine wpList_val (.bool false) (by kernel_rfl) (by go_simp) ?_
          simp [Act.put]
          refine wpList_val (.bool false) (by kernel_rfl) (by go_simp) ?_
          simp [Act.put]
          refine wpList_nil ?_
          have HF : Hid (AptI w p1 b1 n x p2 b2 m y i j y4) := hide ⟨unhide HO1, unhide HX1, (unhide HI).D, fun q hq => hH q (by simp at hq; rcases hq with rfl | rfl <;> simp), hb, (unhide HI).P⟩
          have hle : t1 ≤ tn := by have := unhide HB; have := unhide HJ; omega
          have h6 : i ≤ t1 ∧ k ≤ t1 ∧ j ≤ t1 := by have := unhide HB; have := unhide HJ; omega
          have d9 := unhide hw9
          clear hH hb
          go_wp2
          go_roundw
          case rel => exact ⟨i, j, t1, hle, h6.1, h6.2.2, rfl, rfl, rfl, unhide HF⟩
          case measure => simp [intOf]; have := unhide HJ; have := unhide HB; omega
        · skip
          obtain rfl := unhide HQ1 rfl
          clear HQ1
          go_wp2_with fail
          refine (unhide HNX).mono ?_
          rintro e y1 ⟨rfl, hX1, hB1⟩
          have hap := (unhide HI).Y.apart (unhide HI).X
          have hD := (unhide HI).D
          have hO1 := (unhide HI).X.keep hB1 (by omega) (by omega)
          replace hH := XI.hold hH (unhide HI).Y hB1
          replace hb := bel_walk hb hb.size (unhide HI).P.2.2.1 (unhide HI).P.2.2.2 hB1
          have HX1 := hide hX1
          have HO1 := hide hO1
          clear hB1 hX1 hO1 hap hD ct
          have d8 := unhide hw1
          go_wp2_with (first
            | (refine wpList_store_hs hH rfl (.tmp 24) (.tmp 118) rfl u hul.len _ rfl rfl rfl ?_; intro y2 hH2 hb2; replace hH := hH2; replace HX1 := hide ((unhide HX1).later hb2); replace HO1 := hide ((unhide HO1).later hb2); replace hb := bnext hb hb.size hb2; clear hb2 hH2)
            | refine wpList_load_hs hH (.tmp 7) rfl (by kernel_rfl) (w.heap.size + 1) y (by simp) hy.len rfl ?_)
          clear d8
          refine (unhide HVA _ ((unhide HL).later hb)).mono ?_
          rintro e y3 ⟨rfl, hb1⟩
          replace hH := hH.later hb1
          replace HX1 := hide ((unhide HX1).later hb1)
          replace HO1 := hide ((unhide HO1).later hb1)
          replace hb := bnext hb hb.size hb1
          clear hb1
          go_upto_region 21 with (first
            | (refine wpList_store_hs hH rfl (.tmp 26) (.tmp 127) rfl u hul.len _ rfl rfl rfl ?_; intro y4 hH2 hb2; replace hH := hH2; replace HX1 := hide ((unhide HX1).later hb2); replace HO1 := hide ((unhide HO1).later hb2); replace hb := bnext hb hb.size hb2; clear hb2 hH2))
          refine wp_region_lit ?_
          refine wpList_val (.bool true) (by kernel_rfl) (by go_simp) ?_
          simp [Act.put]
          refine wpList_val (.bool true) (by kernel_rfl) (by go_simp) ?_
          simp [Act.put]
          refine wpList_val (.bool false) (by kernel_rfl) (by go_simp) ?_
          simp [Act.put]
          refine wpList_val (.bool false) (by kernel_rfl) (by go_simp) ?_
          simp [Act.put]
          refine wpList_load_hs hH (.tmp 24) rfl (by kernel_rfl) (y1.heap.size) u (by simp) hul.len rfl ?_
          simp [Act.put]
          refine wpList_load_hs hH (.tmp 26) rfl (by kernel_rfl) (y3.heap.size) u (by simp) hul.len rfl ?_
          simp [Act.put]
          refine wpList_neH (by kernel_rfl) (.tmp 133) (.tmp 134) rfl u u hul.len hul.len true (by simp) rfl rfl ?_
          simp [Act.put]
          refine wpList_val (.bool false) (by kernel_rfl) (by go_simp) ?_
          simp [Act.put]
          refine wpList_val (.bool false) (by kernel_rfl) (by go_simp) ?_
          simp [Act.put]
          refine wpList_val (.bool true) (by kernel_rfl) (by go_simp) ?_
          simp [Act.put]
          refine wpList_val (.bool true) (by kernel_rfl) (by go_simp) ?_
          simp [Act.put]
          refine wpList_val (.int .i64 (idx : Int)) (by kernel_rfl) (by go_simp) ?_
          simp [Act.put]
          refine wpList_val (.int .i64 (idx : Int)) (by kernel_rfl) (by go_simp) ?_
          simp [Act.put]
          refine wpList_val (.bool false) (by kernel_rfl) (by go_simp) ?_
          simp [Act.put]
          refine wpList_val (.bool false) (by kernel_rfl) (by go_simp) ?_
          simp [Act.put]
          refine wpList_val (.bool false) (by kernel_rfl) (by go_simp) ?_
          simp [Act.put]
          refine wpList_nil ?_
          have HF : Hid (AptI w p1 b1 n x p2 b2 m y i idx y4) := hide ⟨unhide HO1, unhide HX1, (unhide HI).D, fun q hq => hH q (by simp at hq; rcases hq with rfl | rfl <;> simp), hb, (unhide HI).P⟩
          have hle : t1 ≤ tn := by have := unhide HB; have := unhide HJ; omega
          have h6 : i ≤ t1 ∧ k ≤ t1 ∧ idx ≤ t1 := by have := unhide HB; have := unhide HJ; omega
          have d9 := unhide hw9
          clear hH hb
          go_wp2
          go_roundw
          case rel => exact ⟨i, idx, t1, hle, h6.1, h6.2.2, rfl, rfl, rfl, unhide HF⟩
          case measure => simp [intOf]; have := unhide HJ; have := unhide HB; omega
      · have hnx := xnext_any p1 b1 n x i wr hx ((unhide HL).later hb) (unhide HI).X (unhide HN).1 (by have := unhide HN; omega)
        have hva := fun w1 hl => value_any x n ((i + 1 : Nat) : Int) w1 hx hl
        have hul := vaR_hs hx (n : Int) ((i + 1 : Nat) : Int)
        have hqi : (vaR x (n : Int) ((i + 1 : Nat) : Int)).2 = decide (i < n) := by
          by_cases h : i < n
          · rw [vaR, if_pos ⟨by omega, by have := unhide HN; omega, by omega, by omega⟩]; simp [h]
          · rw [vaR, if_neg (by omega)]; simp [h]
        rw [hqi] at hnx hva
        generalize (vaR x (n : Int) ((i + 1 : Nat) : Int)).1 = u at hnx hva hul
        have hw1 : Hid (IntKind.i64.wrap ((i : Int) + 1) = ((i + 1 : Nat) : Int)) := hide (by rw [IntKind.wrap_i64]; have := unhide HB; omega)
        clear hqi
        obtain ⟨j, hj⟩ : ∃ j, j = i + 1 := ⟨_, rfl⟩
        rw [← hj] at hnx hva hw1
        obtain ⟨t1, ht1⟩ : ∃ t1, t1 = t + 1 := ⟨_, rfl⟩
        rw [← ht1] at hw9
        have HJ : Hid (j = i + 1 ∧ t1 = t + 1) := hide ⟨hj, ht1⟩
        obtain ⟨idx, hidx⟩ : ∃ q : Nat, q = if i < n then j else 0 := ⟨_, rfl⟩
        rw [← hidx] at hnx
        have hq1 : decide (i < n) = true → idx = j := fun h => by rw [hidx, if_pos (of_decide_eq_true h)]
        generalize decide (i < n) = q at hnx hva hq1
        have HNX := hide hnx
        have HVA := hide hva
        have HQ1 := hide hq1
        clear hnx hva hq1 hidx hj ht1
        cases q
        · skip
          clear HQ1
          go_wp2_with fail
          refine (unhide HNX).mono ?_
          rintro e y1 ⟨rfl, hX1, hB1⟩
          have hap := (unhide HI).X.apart (unhide HI).Y
          have hD := (unhide HI).D
          have hO1 := (unhide HI).Y.keep hB1 (by omega) (by omega)
          replace hH := XI.hold hH (unhide HI).X hB1
          replace hb := bel_walk hb hb.size (unhide HI).P.1 (unhide HI).P.2.1 hB1
          have HX1 := hide hX1
          have HO1 := hide hO1
          clear hB1 hX1 hO1 hap hD ct
          have d8 := unhide hw1
          go_wp2_with (first
            | (refine wpList_store_hs hH rfl (.tmp 19) (.tmp 87) rfl u hul.len _ rfl rfl rfl ?_; intro y2 hH2 hb2; replace hH := hH2; replace HX1 := hide ((unhide HX1).later hb2); replace HO1 := hide ((unhide HO1).later hb2); replace hb := bnext hb hb.size hb2; clear hb2 hH2)
            | refine wpList_load_hs hH (.tmp 5) rfl (by kernel_rfl) (w.heap.size) x (by simp) hx.len rfl ?_)
          clear d8
          refine (unhide HVA _ ((unhide HL).later hb)).mono ?_
          rintro e y3 ⟨rfl, hb1⟩
          replace hH := hH.later hb1
          replace HX1 := hide ((unhide HX1).later hb1)
          replace HO1 := hide ((unhide HO1).later hb1)
          replace hb := bnext hb hb.size hb1
          clear hb1
          go_upto_region 16 with (first
            | (refine wpList_store_hs hH rfl (.tmp 21) (.tmp 96) rfl u hul.len _ rfl rfl rfl ?_; intro y4 hH2 hb2; replace hH := hH2; replace HX1 := hide ((unhide HX1).later hb2); replace HO1 := hide ((unhide HO1).later hb2); replace hb := bnext hb hb.size hb2; clear hb2 hH2))
          refine wp_region_lit ?_
          refine wpList_val (.bool false) (by kernel_rfl) (by go_simp) ?_
          simp [Act.put]
          refine wpList_val (.bool false) (by kernel_rfl) (by go_simp) ?_
          simp [Act.put]
          refine wpList_val (.bool false) (by kernel_rfl) (by go_simp) ?_
          simp [Act.put]
          refine wpList_val (.bool false) (by kernel_rfl) (by go_simp) ?_
          simp [Act.put]
          refine wpList_load_hs hH (.tmp 19) rfl (by kernel_rfl) (y1.heap.size) u (by simp) hul.len rfl ?_
          simp [Act.put]
          refine wpList_load_hs hH (.tmp 21) rfl (by kernel_rfl) (y3.heap.size) u (by simp) hul.len rfl ?_
          simp [Act.put]
          refine wpList_neH (by kernel_rfl) (.tmp 102) (.tmp 103) rfl u u hul.len hul.len true (by simp) rfl rfl ?_
          simp [Act.put]
          refine wpList_val (.bool false) (by kernel_rfl) (by go_simp) ?_
          simp [Act.put]
          refine wpList_val (.bool false) (by kernel_rfl) (by go_simp) ?_
          simp [Act.put]
          refine wpList_val (.bool false) (by kernel_rfl) (by go_simp) ?_
          simp [Act.put]
          refine wpList_val (.bool false) (by kernel_rfl) (by go_simp) ?_
          simp [Act.put]
          refine wpList_skip (by kernel_rfl) ?_
          simp [Act.put]
          refine wpList_skip (by kernel_rfl) ?_
          simp [Act.put]
          refine wpList_skip (by kernel_rfl) ?_
          simp [Act.put]
          refine wpList_val (.bool false) (by kernel_rfl) (by go_simp) ?_
          simp [Act.put]
          refine wpList_val (.bool false) (by kernel_rfl) (by go_simp) ?_
          simp [Act.put]
          refine wpList_nil ?_
          have HF : Hid (AptI w p1 b1 n x p2 b2 m y j k y4) := hide ⟨unhide HX1, unhide HO1, (unhide HI).D, fun q hq => hH q (by simp at hq; rcases hq with rfl | rfl <;> simp), hb, (unhide HI).P⟩
          have hle : t1 ≤ tn := by have := unhide HB; have := unhide HJ; omega
          have h6 : i ≤ t1 ∧ k ≤ t1 ∧ j ≤ t1 := by have := unhide HB; have := unhide HJ; omega
          have d9 := unhide hw9
          clear hH hb
          go_wp2
          go_roundw
          case rel => exact ⟨j, k, t1, hle, h6.2.2, h6.2.1, rfl, rfl, rfl, unhide HF⟩
          case measure => simp [intOf]; have := unhide HJ; have := unhide HB; omega
        · skip
          obtain rfl := unhide HQ1 rfl
          clear HQ1
          go_wp2_with fail
          refine (unhide HNX).mono ?_
          rintro e y1 ⟨rfl, hX1, hB1⟩
          have hap := (unhide HI).X.apart (unhide HI).Y
          have hD := (unhide HI).D
          have hO1 := (unhide HI).Y.keep hB1 (by omega) (by omega)
          replace hH := XI.hold hH (unhide HI).X hB1
          replace hb := bel_walk hb hb.size (unhide HI).P.1 (unhide HI).P.2.1 hB1
          have HX1 := hide hX1
          have HO1 := hide hO1
          clear hB1 hX1 hO1 hap hD ct
          have d8 := unhide hw1
          go_wp2_with (first
            | (refine wpList_store_hs hH rfl (.tmp 19) (.tmp 87) rfl u hul.len _ rfl rfl rfl ?_; intro y2 hH2 hb2; replace hH := hH2; replace HX1 := hide ((unhide HX1).later hb2); replace HO1 := hide ((unhide HO1).later hb2); replace hb := bnext hb hb.size hb2; clear hb2 hH2)
            | refine wpList_load_hs hH (.tmp 5) rfl (by kernel_rfl) (w.heap.size) x (by simp) hx.len rfl ?_)
          clear d8
          refine (unhide HVA _ ((unhide HL).later hb)).mono ?_
          rintro e y3 ⟨rfl, hb1⟩
          replace hH := hH.later hb1
          replace HX1 := hide ((unhide HX1).later hb1)
          replace HO1 := hide ((unhide HO1).later hb1)
          replace hb := bnext hb hb.size hb1
          clear hb1
          go_upto_region 16 with (first
            | (refine wpList_store_hs hH rfl (.tmp 21) (.tmp 96) rfl u hul.len _ rfl rfl rfl ?_; intro y4 hH2 hb2; replace hH := hH2; replace HX1 := hide ((unhide HX1).later hb2); replace HO1 := hide ((unhide HO1).later hb2); replace hb := bnext hb hb.size hb2; clear hb2 hH2))
          refine wp_region_lit ?_
          refine wpList_val (.bool true) (by kernel_rfl) (by go_simp) ?_
          simp [Act.put]
          refine wpList_val (.bool true) (by kernel_rfl) (by go_simp) ?_
          simp [Act.put]
          refine wpList_val (.bool false) (by kernel_rfl) (by go_simp) ?_
          simp [Act.put]
          refine wpList_val (.bool false) (by kernel_rfl) (by go_simp) ?_
          simp [Act.put]
          refine wpList_load_hs hH (.tmp 19) rfl (by kernel_rfl) (y1.heap.size) u (by simp) hul.len rfl ?_
          simp [Act.put]
          refine wpList_load_hs hH (.tmp 21) rfl (by kernel_rfl) (y3.heap.size) u (by simp) hul.len rfl ?_
          simp [Act.put]
          refine wpList_neH (by kernel_rfl) (.tmp 102) (.tmp 103) rfl u u hul.len hul.len true (by simp) rfl rfl ?_
          simp [Act.put]
          refine wpList_val (.bool false) (by kernel_rfl) (by go_simp) ?_
          simp [Act.put]
          refine wpList_val (.bool false) (by kernel_rfl) (by go_simp) ?_
          simp [Act.put]
          refine wpList_val (.bool true) (by kernel_rfl) (by go_simp) ?_
          simp [Act.put]
          refine wpList_val (.bool true) (by kernel_rfl) (by go_simp) ?_
          simp [Act.put]
          refine wpList_val (.int .i64 (idx : Int)) (by kernel_rfl) (by go_simp) ?_
          simp [Act.put]
          refine wpList_val (.int .i64 (idx : Int)) (by kernel_rfl) (by go_simp) ?_
          simp [Act.put]
          refine wpList_val (.bool false) (by kernel_rfl) (by go_simp) ?_
          simp [Act.put]
          refine wpList_val (.bool false) (by kernel_rfl) (by go_simp) ?_
          simp [Act.put]
          refine wpList_val (.bool false) (by kernel_rfl) (by go_simp) ?_
          simp [Act.put]
          refine wpList_nil ?_
          have HF : Hid (AptI w p1 b1 n x p2 b2 m y idx k y4) := hide ⟨unhide HX1, unhide HO1, (unhide HI).D, fun q hq => hH q (by simp at hq; rcases hq with rfl | rfl <;> simp), hb, (unhide HI).P⟩
          have hle : t1 ≤ tn := by have := unhide HB; have := unhide HJ; omega
          have h6 : i ≤ t1 ∧ k ≤ t1 ∧ idx ≤ t1 := by have := unhide HB; have := unhide HJ; omega
          have d9 := unhide hw9
          clear hH hb
          go_wp2
          go_roundw
          case rel => exact ⟨idx, k, t1, hle, h6.2.2, h6.2.1, rfl, rfl, rfl, unhide HF⟩
          case measure => simp [intOf]; have := unhide HJ; have := unhide HB; omega
    · have e1 : decide ((t : Int) < (tn : Int)) = false := decide_eq_false (by omega)
      have e2 : decide (t < tn) = false := decide_eq_false (by omega)
      have e3 : ¬ t < tn := hlt
      have e4 : tn ≤ t := by omega
      have HI := hide hI
      have KX := hide (fun w1 h => xthrifty p1 b1 n x i w1 h (unhide HN).1 (by have := unhide HN; omega))
      have KY := hide (fun w1 h => xthrifty p2 b2 m y k w1 h (unhide HN).2.2.1 (by have := unhide HN; omega))
      have HX1 := hide hI.X
      have HY1 := hide hI.Y
      clear hI htn hit hkt hlt
      go_wp2_with fail
      refine (unhide KX _ (unhide HX1)).mono ?_
      rintro e y1 ⟨rfl, hb1⟩
      replace hH := hH.later hb1
      replace HY1 := hide ((unhide HY1).later hb1)
      replace hb := bnext hb hb.size hb1
      clear hb1
      go_wp2_with fail
      refine (unhide KY _ (unhide HY1)).mono ?_
      rintro e y2 ⟨rfl, hb1⟩
      replace hH := hH.later hb1
      replace hb := bnext hb hb.size hb1
      clear hb1
      go_wp2_with fail
      refine wp_region_noPanic ?_
      replace hb := bnext hb hb.size (drew_below _)
      replace hH := hH.drew
      refine wp_region_held_drew (S := Hold _) (by kernel_rfl) hH (fun hHeld => ?_)
      clear hH
      generalize World.drew _ = v81 at hb hHeld ⊢
      refine wpAnyH_take (i := 0) (oi := _) (v := hV x) rfl (by kernel_rfl) (by kernel_rfl) (by kernel_rfl) (fun _ _ _ h => h) (yields_hs (by kernel_rfl) (.tmp 5) rfl (w.heap.size) x (by simp) hx.len rfl) hHeld ?_
      simp [Act.put]
      refine wpAnyH_take (i := 2) (oi := _) (v := .slice (some ⟨w.heap.size, 0, none⟩) 32 32) rfl (by kernel_rfl) (by kernel_rfl) (by kernel_rfl) (fun _ _ _ h => h) (Or.inl ⟨by rfl, fun w hSw => by go_simp⟩) hHeld ?_
      simp [Act.put]
      refine wpAnyH_ready (rs := [1]) (by kernel_rfl) (by simp) ?_
      refine AllReadyH.cons rfl (fun K hKK => ?_) AllReadyH.nil
      go_simp
      refine (unhide C3 _ ((unhide HL).later hb)).mono ?_
      rintro e v82 ⟨rfl, hb1⟩
      replace hb := bnext hb hb.size hb1
      refine hKK.out _ _ (hHeld.later hb1) (fun hHeld => ?_)
      clear hKK K hb1
      refine wpAnyH_ready (rs := [3]) (by kernel_rfl) (by simp) ?_
      refine AllReadyH.cons rfl (fun K hKK => ?_) AllReadyH.nil
      go_simp
      refine (unhide C4 _ (hHeld (w.heap.size, x) (by simp)) ((unhide HL).later hb)).mono ?_
      rintro e v83 ⟨rfl, hb1⟩
      replace hb := bnext hb hb.size hb1
      refine hKK.out _ _ (hHeld.later hb1) (fun hHeld => ?_)
      clear hKK K hb1
      refine wpAnyH_take (i := 4) (oi := _) (v := .bool (true)) rfl (by kernel_rfl) (by kernel_rfl) (by kernel_rfl) (fun _ _ _ h => h) (yields_eqH (by kernel_rfl) (.tmp 158) (.tmp 160) rfl R R hR hR true (by simp) rfl rfl) hHeld ?_
      simp [Act.put]
      refine wpAnyH_take (i := 5) (oi := _) (v := .bool true) rfl (by kernel_rfl) (by kernel_rfl) (by kernel_rfl) (fun _ _ _ h => h) (Or.inl ⟨by rfl, fun w hSw => by go_simp⟩) hHeld ?_
      simp [Act.put]
      refine wpAnyH_done (by kernel_rfl) ?_ _
      unfold NoPanic
      have hH := hHeld
      clear hHeld
      go_wp2
      go_ret
      exact ⟨rfl, hb⟩
end Go.Proofs.YtmaammjfbheciaaDoor
