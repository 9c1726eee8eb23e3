import Derived.Test.YtfedajifefldmaaGreatSdIntoW
import Derived.Test.YtfedajifefldmaaGreatSdAccX
import Derived.Deep.Cut
import Derived.Deep.DeepCutAuto
namespace Go.Proofs.YtfedajifefldmaaGreat
open Go.RowKit
theorem tmC_set (x : Nat → Int) (bv : Value) (i : Nat) (v : Int) (hi : i < 329) (hs : sTerm i = .n) : (tmC x bv).set i (.int .i64 v) = tmC (upd x i v) bv := by
  unfold tmC
  rw [List.set_append_left _ _ (by rw [cl_length]; exact hi)]
  have := cl_set sTerm 329 x i v
  rw [hs] at this
  rw [← this]; rfl
structure Tm (w : World) (b : Nat) (x : Nat → Int) (bv : Value) (Z : List Value) (wr : World) : Prop where
  arr : Arr wr b 41 (tmC x bv)
  res : Arr wr (b + 1) 41 Z
  bel : Below b w wr
theorem Tm.set {w : World} {b : Nat} {x : Nat → Int} {bv : Value} {Z : List Value} {wr : World} (h : Tm w b x bv Z wr) (i : Nat) (v : Int) (hi : i < 329) (hs : sTerm i = .n) : Tm w b (upd x i v) bv Z (wr.setCell ⟨b, i, none⟩ (.int .i64 v)) :=
  ⟨by rw [← tmC_set x bv i v hi hs]; exact h.arr.set i _, h.res.other _ (by show b + 1 ≠ b; omega), h.bel.trans (((Buts.refl (fun k => k = b) wr).setCell (g := b) rfl i _).below (by have := h.arr.lt; omega) (fun k hk => by omega))⟩
theorem Tm.num {w : World} {b : Nat} {x : Nat → Int} {bv : Value} {Z : List Value} {wr : World} (h : Tm w b x bv Z wr) (i : Nat) (hi : i < 329) (hs : sTerm i = .n) : wr.cell? ⟨b, i, none⟩ = some (.int .i64 (x i)) ∧ wr.frozen? ⟨b, i, none⟩ = false := by
  refine ⟨?_, h.arr.frozen i⟩
  rw [tm_cell h.arr i hi, hs]; rfl
theorem Tm.flag {w : World} {b : Nat} {x : Nat → Int} {bv : Value} {Z : List Value} {wr : World} (h : Tm w b x bv Z wr) (i : Nat) (hi : i < 329) (hs : sTerm i = .t) : wr.cell? ⟨b, i, none⟩ = some (.bool (decide (x i ≠ 0))) := by
  rw [tm_cell h.arr i hi, hs]; rfl
theorem tmC_setK (x : Nat → Int) (bv : Value) (i : Nat) (v : Int) (hi : i < 329) : (tmC x bv).set i ((sTerm i).v v) = tmC (upd x i v) bv := by
  unfold tmC
  rw [List.set_append_left _ _ (by rw [cl_length]; exact hi), cl_set]
theorem Tm.setK {w : World} {b : Nat} {x : Nat → Int} {bv : Value} {Z : List Value} {wr : World} (h : Tm w b x bv Z wr) (i : Nat) (v : Int) (hi : i < 329) : Tm w b (upd x i v) bv Z (wr.setCell ⟨b, i, none⟩ ((sTerm i).v v)) :=
  ⟨by rw [← tmC_setK x bv i v hi]; exact h.arr.set i _, h.res.other _ (by show b + 1 ≠ b; omega), h.bel.trans (((Buts.refl (fun k => k = b) wr).setCell (g := b) rfl i _).below (by have := h.arr.lt; omega) (fun k hk => by omega))⟩
theorem updL_cons (x : Nat → Int) (o : Nat) (a : Int) (t : List Int) : updL (upd x o a) (o + 1) t = updL x o (a :: t) := by
  funext i
  unfold updL upd
  by_cases h1 : i = o
  · subst h1
    rw [if_neg (by omega), if_pos rfl, if_pos (by simp)]
    simp
  · by_cases h2 : o + 1 ≤ i ∧ i < o + 1 + t.length
    · rw [if_pos h2, if_pos (by simp; omega)]
      have : i - o = (i - (o + 1)) + 1 := by omega
      rw [this]; rfl
    · rw [if_neg h2, if_neg h1, if_neg (by simp; omega)]
theorem Tm.bytes {w : World} {b : Nat} {bv : Value} {Z : List Value} (l : List Int) : ∀ {x : Nat → Int} {wr : World} (o : Nat), Tm w b x bv Z wr → o + l.length ≤ 329 → (∀ i, i < l.length → sTerm (o + i) = .b) → Tm w b (updL x o l) bv Z (wr.setCells b o (U8 l)) := by
  induction l with
  | nil =>
    intro x wr o h _ _
    have : updL x o [] = x := by funext i; unfold updL; rw [if_neg (by simp)]
    rw [this]; exact h
  | cons a t ih =>
    intro x wr o h hl hs
    have h1 := h.setK o a (by simp at hl; omega)
    have h0 := hs 0 (by simp)
    rw [Nat.add_zero] at h0
    rw [h0] at h1
    have h2 := ih (o + 1) h1 (by simp at hl ⊢; omega) (fun i hi => by rw [show o + 1 + i = o + (i + 1) by omega]; exact hs (i + 1) (by simp; omega))
    rw [updL_cons] at h2
    exact h2
theorem Tm.there {w : World} {b : Nat} {x : Nat → Int} {bv : Value} {Z : List Value} {wr : World} (h : Tm w b x bv Z wr) (o n : Nat) (hn : o + n ≤ 329) : wr.there b o n := fun j hj => ⟨by rw [tm_cell h.arr (o + j) (by omega)]; rfl, h.arr.frozen _⟩
def z64 : List Int := List.replicate 64 0
theorem z64_length : z64.length = 64 := List.length_replicate
theorem zero64 : Tryz.prog.built 32 [] = some (U8 z64).toArray := by kernel_rfl
theorem sz64 : (Tryz.prog.info? 32).map (·.size) = some (U8 z64).toArray.size := by kernel_rfl
theorem ok_zeros {x : Nat → Int} {o : Nat} (h : ∀ i, i < 329 → (sTerm i).ok (x i)) (hs : ∀ i, i < 64 → sTerm (o + i) = .b) : ∀ j, j < 329 → (sTerm j).ok (updL x o z64 j) := by
  intro j hj
  unfold updL
  split
  · rename_i h1
    rw [z64_length] at h1
    have := hs (j - o) (by omega)
    rw [show o + (j - o) = j by omega] at this
    rw [this]
    have e : z64.getD (j - o) 0 = 0 := by
      unfold z64; rw [List.getD_eq_getElem?_getD, List.getElem?_replicate]; split <;> rfl
    rw [e]; exact ⟨by decide, by decide⟩
  · exact h j hj
theorem zeros_at (x : Nat → Int) (o i : Nat) (hi : i < 64) : updL x o z64 (o + i) = 0 := by
  unfold updL
  rw [if_pos (by rw [z64_length]; omega)]; unfold z64; rw [List.getD_eq_getElem?_getD, List.getElem?_replicate]
  split <;> rfl
theorem zeros_out (x : Nat → Int) (o j : Nat) (h : j < o ∨ o + 64 ≤ j) : updL x o z64 j = x j := by
  unfold updL; rw [if_neg (by rw [z64_length]; omega)]
theorem tm_all {w : World} {b : Nat} {ty : TypeId} {l : List Value} (h : Arr w b ty l) : w.rangeAt b 0 l := fun j v hj => by rw [Nat.zero_add, h.cell, hj]
theorem zeroTerm_named : ∃ (Z : List Value) (it : TypeInfo), Z.length = 330 ∧ Tryz.prog.info? 41 = some it ∧ it.zero = some (.agg Z.toArray) ∧ ∀ w, (zeroValue 41).run Tryz.prog w = .ok (.agg Z.toArray) w := by
  have h : (Tryz.prog.info? 41).bind (·.zero) = some (.agg (tmC (fun _ => 0) (.slice none 0 0)).toArray) := by kernel_rfl
  cases hit : Tryz.prog.info? 41 with
  | none => rw [hit] at h; simp at h
  | some it =>
    rw [hit] at h
    have hz : it.zero = some (.agg (tmC (fun _ => 0) (.slice none 0 0)).toArray) := h
    exact ⟨_, it, tmC_length _ _, rfl, hz, fun w => by simp [zeroValue, run_typeInfo w hit, hz]⟩
structure Prop10 (x : Nat → Int) : Prop where
  kind : 1 ≤ x 0 ∧ x 0 ≤ 10
  rides : 1 ≤ x 2 ∧ x 2 ≤ 4096
  price : 0 ≤ x 3 ∧ x 3 ≤ 1000000000
  gate : 1 ≤ x 263 ∧ x 263 ≤ 16
  amount : 0 ≤ x 264
  fz : x 133 = 0 → ∀ i, i < 64 → x (134 + i) = 0
  rv : x 198 = 0 → ∀ i, i < 64 → x (199 + i) = 0
  i2 : x 0 = 2 → 1 ≤ x 100 ∧ x 100 ≤ x 2
  i3 : x 0 = 3 → 0 ≤ x 100 ∧ x 100 ≤ x 2
  i10 : x 0 = 10 → 0 ≤ x 100 ∧ x 100 ≤ 65536
  ix : x 0 ≠ 2 → x 0 ≠ 3 → x 0 ≠ 10 → 0 ≤ x 100 ∧ x 100 ≤ 4096
  s7 : x 0 = 7 → 1 ≤ x 1 ∧ x 1 ≤ 65536
  sx : x 0 ≠ 7 → 1 ≤ x 1 ∧ x 1 ≤ 65535
  ok : ∀ i, i < 329 → (sTerm i).ok (x i)
theorem ok_upd {x : Nat → Int} {i : Nat} {v : Int} (h : ∀ i, i < 329 → (sTerm i).ok (x i)) (hs : sTerm i = .n) (h0 : -9223372036854775808 ≤ v) (h1 : v ≤ 9223372036854775807) : ∀ j, j < 329 → (sTerm j).ok (upd x i v j) := by
  intro j hj
  unfold upd
  split
  · rename_i e; subst e; rw [hs]; exact ⟨h0, h1⟩
  · exact h j hj
theorem upd_same (x : Nat → Int) (i : Nat) (v : Int) : upd x i v i = v := by simp [upd]
theorem upd_ne (x : Nat → Int) (i j : Nat) (v : Int) (h : j ≠ i) : upd x i v j = x j := by simp [upd, h]
structure Prop7 (x : Nat → Int) : Prop where
  kind : 1 ≤ x 0 ∧ x 0 ≤ 10
  rides : 1 ≤ x 2 ∧ x 2 ≤ 4096
  price : 0 ≤ x 3 ∧ x 3 ≤ 1000000000
  gate : 1 ≤ x 263 ∧ x 263 ≤ 16
  amount : 0 ≤ x 264
  fz : x 133 = 0 → ∀ i, i < 64 → x (134 + i) = 0
  rv : x 198 = 0 → ∀ i, i < 64 → x (199 + i) = 0
  ok : ∀ i, i < 329 → (sTerm i).ok (x i)
theorem Prop7.to {x : Nat → Int} (h : Prop7 x) {u v : Int} (i2 : x 0 = 2 → 1 ≤ u ∧ u ≤ x 2) (i3 : x 0 = 3 → 0 ≤ u ∧ u ≤ x 2) (i10 : x 0 = 10 → 0 ≤ u ∧ u ≤ 65536) (ix : x 0 ≠ 2 → x 0 ≠ 3 → x 0 ≠ 10 → 0 ≤ u ∧ u ≤ 4096)
    (s7 : x 0 = 7 → 1 ≤ v ∧ v ≤ 65536) (sx : x 0 ≠ 7 → 1 ≤ v ∧ v ≤ 65535) (hu : 0 ≤ u ∧ u ≤ 65536) (hv : 0 ≤ v ∧ v ≤ 65536) : Prop10 (upd (upd x 100 u) 1 v) := by
  have e : ∀ j, j ≠ 1 → j ≠ 100 → upd (upd x 100 u) 1 v j = x j := fun j h1 h2 => by rw [upd_ne _ _ _ _ h1, upd_ne _ _ _ _ h2]
  have e100 : upd (upd x 100 u) 1 v 100 = u := by rw [upd_ne _ _ _ _ (by decide), upd_same]
  have e1 : upd (upd x 100 u) 1 v 1 = v := upd_same _ _ _
  have e0 := e 0 (by decide) (by decide)
  have e2 := e 2 (by decide) (by decide)
  refine ⟨by rw [e0]; exact h.kind, by rw [e2]; exact h.rides, by rw [e 3 (by decide) (by decide)]; exact h.price, by rw [e 263 (by decide) (by decide)]; exact h.gate, by rw [e 264 (by decide) (by decide)]; exact h.amount, ?_, ?_, by rw [e0, e100, e2]; exact i2, by rw [e0, e100, e2]; exact i3, by rw [e0, e100]; exact i10, by rw [e0, e100]; exact ix, by rw [e0, e1]; exact s7, by rw [e0, e1]; exact sx, ?_⟩
  · intro h0 i hi; rw [e _ (by omega) (by omega)]; rw [e _ (by decide) (by decide)] at h0; exact h.fz h0 i hi
  · intro h0 i hi; rw [e _ (by omega) (by omega)]; rw [e _ (by decide) (by decide)] at h0; exact h.rv h0 i hi
  · exact ok_upd (ok_upd h.ok rfl (by omega) (by omega)) rfl (by omega) (by omega)
theorem prop7_of {x x1 x2 x3 x4 x5 x6 x7 : Nat → Int} {y0 y1 y2 y3 : Int} (h1 : upd x 0 y0 = x1) (h2 : upd x1 2 y1 = x2) (h3 : upd x2 3 y2 = x3) (h4 : upd x3 263 y3 = x4) (h5 : ∀ j, j ≠ 264 → x5 j = x4 j) (h5b : 0 ≤ x5 264) (h6a : ∀ j, (j < 134 ∨ 198 ≤ j) → x6 j = x5 j) (h6b : x5 133 = 0 → ∀ i, i < 64 → x6 (134 + i) = 0)
    (h7a : ∀ j, (j < 199 ∨ 263 ≤ j) → x7 j = x6 j) (h7b : x6 198 = 0 → ∀ i, i < 64 → x7 (199 + i) = 0) (l0 : 1 ≤ y0) (g0 : y0 ≤ 10) (l1 : 1 ≤ y1) (g1 : y1 ≤ 4096) (l2 : 0 ≤ y2) (g2 : y2 ≤ 1000000000) (l3 : 1 ≤ y3) (g3 : y3 ≤ 16) (ok : ∀ i, i < 329 → (sTerm i).ok (x7 i)) : Prop7 x7 ∧ (∀ j, 265 ≤ j → x7 j = x j) ∧ x7 0 = y0 := by
  subst h1; subst h2; subst h3; subst h4
  have e : ∀ j, (j < 134 ∨ 263 ≤ j) → j ≠ 264 → x7 j = upd (upd (upd (upd x 0 y0) 2 y1) 3 y2) 263 y3 j := fun j hj h4 => by rw [h7a j (by omega), h6a j (by omega), h5 j h4]
  have e0 : x7 0 = y0 := by rw [e 0 (by decide) (by decide)]; simp [upd]
  have e2 : x7 2 = y1 := by rw [e 2 (by decide) (by decide)]; simp [upd]
  have e3 : x7 3 = y2 := by rw [e 3 (by decide) (by decide)]; simp [upd]
  have e263 : x7 263 = y3 := by rw [e 263 (by decide) (by decide)]; simp [upd]
  have e264 : x7 264 = x5 264 := by rw [h7a 264 (by decide), h6a 264 (by decide)]
  refine ⟨⟨by omega, by omega, by omega, by omega, by omega, fun h0 i hi => ?_, fun h0 i hi => ?_, ok⟩, fun j hj => ?_, e0⟩
  · rw [h7a _ (by omega)]
    rw [h7a 133 (by decide), h6a 133 (by decide)] at h0
    exact h6b h0 i hi
  · rw [h7a 198 (by decide)] at h0
    exact h7b h0 i hi
  · rw [e j (by omega) (by omega)]
    rw [upd_ne _ _ _ _ (by omega), upd_ne _ _ _ _ (by omega), upd_ne _ _ _ _ (by omega), upd_ne _ _ _ _ (by omega)]
theorem Tryz.szTerm : (Tryz.prog.info? 41).map (·.size) = some 330 := by kernel_rfl
theorem tmC_oc (x : Nat → Int) (bv : Value) (h : bv.oneCell' = true) : ∀ v ∈ tmC x bv, v.oneCell' = true := by
  intro v hv
  unfold tmC at hv
  rcases List.mem_append.1 hv with h1 | h1
  · exact cl_oc _ _ _ v h1
  · simp at h1; subst h1; exact h
set_option maxHeartbeats 2000000 in
set_option maxRecDepth 100000 in
theorem proper_any (x : Nat → Int) (bv : Value) (w : World) (hok : ∀ i, i < 329 → (sTerm i).ok (x i)) (hbv : bv.oneCell' = true) :
    Calls Tryz.prog 10 #[.agg (tmC x bv).toArray] w fun e w' => (∃ y, e = .returned (.agg (tmC y bv).toArray) ∧ Prop10 y ∧ (∀ j, j < 329 → 265 ≤ j → y j = x j) ∧ (1 ≤ x 0 → x 0 ≤ 10 → y 0 = x 0)) ∧ Below w.heap.size w w' := by
  obtain ⟨Z, it, hZl, hit, hz, hzv⟩ := zeroTerm_named
  have hT : Tm w w.heap.size x bv Z ((w.alloc (.cells (tmC x bv).toArray 41)).alloc (.cells Z.toArray 41)) := by
    refine ⟨(Arr.new w _ (tmC x bv)).alloc _, ?_, below_more (below_one w _) _ (by simp)⟩
    have h := Arr.new (w.alloc (.cells (tmC x bv).toArray 41)) 41 Z
    have s1 : (w.alloc (.cells (tmC x bv).toArray 41)).heap.size = w.heap.size + 1 := by simp
    rw [s1] at h
    exact h
  clear hit hz
  go_enter Tryz.func10, Tryz.ntmps10
  go_upto_region 1 with fail
  clear hzv
  generalize (w.alloc (.cells (tmC x bv).toArray 41)).alloc (.cells Z.toArray 41) = W0 at *
  generalize (tmC x bv).toArray = X0
  have hT0 := hT
  have ok0 := hok
  clear hT
  obtain ⟨c, z⟩ := hT0.num 0 (by decide) rfl
  go_upto_region 2 with (go_at_call 38; refine (into_any _ 1 10 _ (by decide) (by decide) (by decide)).mono ?_; rintro e w' ⟨⟨y0, rfl, f0, g0, s0⟩, hw⟩; have hw := hw.symm; subst hw; clear hw)
  have S0 := hide s0
  clear s0
  have hT1 := hT0.set 0 y0 (by decide) rfl
  have ok1 := ok_upd (i := 0) (v := y0) ok0 rfl (by omega) (by omega)
  clear c z hT0 ok0
  obtain ⟨x1, hx1⟩ : ∃ x1, upd x 0 y0 = x1 := ⟨_, rfl⟩
  generalize World.setCell _ _ _ = W1 at *
  rw [hx1] at hT1 ok1
  have HX1 := hide hx1
  clear hx1
  obtain ⟨c, z⟩ := hT1.num 2 (by decide) rfl
  go_upto_region 3 with (go_at_call 38; refine (into_any _ 1 4096 _ (by decide) (by decide) (by decide)).mono ?_; rintro e w' ⟨⟨y1, rfl, f1, g1, s1⟩, hw⟩; have hw := hw.symm; subst hw; clear hw)
  clear s1
  have hT2 := hT1.set 2 y1 (by decide) rfl
  have ok2 := ok_upd (i := 2) (v := y1) ok1 rfl (by omega) (by omega)
  clear c z hT1 ok1
  obtain ⟨x2, hx2⟩ : ∃ x2, upd x1 2 y1 = x2 := ⟨_, rfl⟩
  generalize World.setCell _ _ _ = W2 at *
  rw [hx2] at hT2 ok2
  have HX2 := hide hx2
  clear hx2
  obtain ⟨c, z⟩ := hT2.num 3 (by decide) rfl
  go_upto_region 4 with (go_at_call 38; refine (into_any _ 0 1000000000 _ (by decide) (by decide) (by decide)).mono ?_; rintro e w' ⟨⟨y2, rfl, f2, g2, s2⟩, hw⟩; have hw := hw.symm; subst hw; clear hw)
  clear s2
  have hT3 := hT2.set 3 y2 (by decide) rfl
  have ok3 := ok_upd (i := 3) (v := y2) ok2 rfl (by omega) (by omega)
  clear c z hT2 ok2
  obtain ⟨x3, hx3⟩ : ∃ x3, upd x2 3 y2 = x3 := ⟨_, rfl⟩
  generalize World.setCell _ _ _ = W3 at *
  rw [hx3] at hT3 ok3
  have HX3 := hide hx3
  clear hx3
  obtain ⟨c, z⟩ := hT3.num 263 (by decide) rfl
  go_upto_region 5 with (go_at_call 38; refine (into_any _ 1 16 _ (by decide) (by decide) (by decide)).mono ?_; rintro e w' ⟨⟨y3, rfl, f3, g3, s3⟩, hw⟩; have hw := hw.symm; subst hw; clear hw)
  clear s3
  have hT4 := hT3.set 263 y3 (by decide) rfl
  have ok4 := ok_upd (i := 263) (v := y3) ok3 rfl (by omega) (by omega)
  clear c z hT3 ok3
  obtain ⟨x4, hx4⟩ : ∃ x4, upd x3 263 y3 = x4 := ⟨_, rfl⟩
  generalize World.setCell _ _ _ = W4 at *
  rw [hx4] at hT4 ok4
  have HX4 := hide hx4
  clear hx4
  obtain ⟨c, z⟩ := hT4.num 264 (by decide) rfl
  go_upto_if 25 with fail
  go_cut [] (fun wx => ∃ x5, Tm w w.heap.size x5 bv Z wx ∧ (∀ j, j ≠ 264 → x5 j = x4 j) ∧ 0 ≤ x5 264 ∧ (∀ i, i < 329 → (sTerm i).ok (x5 i)))
  case first =>
    go_wp2
    · go_meet
      case rel => exact ⟨_, hT4.set 264 0 (by decide) rfl, fun j hj => upd_ne _ _ _ _ hj, by rw [upd_same]; decide, ok_upd ok4 rfl (by decide) (by decide)⟩
    · go_meet
      case rel => exact ⟨x4, hT4, fun _ _ => rfl, by omega, ok4⟩
  case rest =>
    obtain ⟨x5, hT5, h54, hx5, ok5⟩ := hcut
    have H54 := hide h54
    have HX5 := hide hx5
    clear h54 hx5 c z hT4 ok4
    obtain c := hT5.flag 133 (by decide) rfl
    go_upto_if 29 with fail
    go_cut [] (fun wx => ∃ x6, Tm w w.heap.size x6 bv Z wx ∧ (∀ j, (j < 134 ∨ 198 ≤ j) → x6 j = x5 j) ∧ (x5 133 = 0 → ∀ i, i < 64 → x6 (134 + i) = 0) ∧ (∀ i, i < 329 → (sTerm i).ok (x6 i)))
    case first =>
      go_upto_region 8 with fail
      · clear c
        refine wp_region_lit ?_
        refine wpList_bd rfl 32 _ rfl _ (by have h := zero64; simpa using h) ?_
        refine wpList_plain rfl fun K1 h => ?_; go_simp; refine h _ _ ?_; clear h K1
        refine wpList_store_mid rfl 32 (.tmp 31) (.tmp 30) rfl w.heap.size 134 _ rfl rfl (hT5.there 134 64 (by decide)) sz64 (all_oneCell_toArray (u8_oc _)) ?_
        refine wpList_nil ?_
        simp only [Act.put]
        go_wp2
        go_meet
        case rel => exact ⟨_, hT5.bytes z64 134 (by decide) (fun i hi => by rw [z64_length] at hi; unfold sTerm sCert; (repeat (first | rw [if_pos (by omega)] | rw [if_neg (by omega)]))), fun j hj => zeros_out _ _ _ hj, fun _ i hi => zeros_at _ _ _ hi, ok_zeros ok5 (fun i hi => by unfold sTerm sCert; (repeat (first | rw [if_pos (by omega)] | rw [if_neg (by omega)])))⟩
      · go_meet
        case rel => exact ⟨x5, hT5, fun _ _ => rfl, fun h0 => by simp_all, ok5⟩
    case rest =>
      obtain ⟨x6, hT6, h6a, h6b, ok6⟩ := hcut
      have H6a := hide h6a
      have H6b := hide h6b
      clear h6a h6b c hT5 ok5
      obtain c := hT6.flag 198 (by decide) rfl
      go_upto_if 34 with fail
      go_cut [] (fun wx => ∃ x7, Tm w w.heap.size x7 bv Z wx ∧ (∀ j, (j < 199 ∨ 263 ≤ j) → x7 j = x6 j) ∧ (x6 198 = 0 → ∀ i, i < 64 → x7 (199 + i) = 0) ∧ (∀ i, i < 329 → (sTerm i).ok (x7 i)))
      case first =>
        go_upto_region 10 with fail
        · clear c
          refine wp_region_lit ?_
          refine wpList_bd rfl 32 _ rfl _ (by have h := zero64; simpa using h) ?_
          refine wpList_plain rfl fun K1 h => ?_; go_simp; refine h _ _ ?_; clear h K1
          refine wpList_store_mid rfl 32 (.tmp 36) (.tmp 35) rfl w.heap.size 199 _ rfl rfl (hT6.there 199 64 (by decide)) sz64 (all_oneCell_toArray (u8_oc _)) ?_
          refine wpList_nil ?_
          simp only [Act.put]
          go_wp2
          go_meet
          case rel => exact ⟨_, hT6.bytes z64 199 (by decide) (fun i hi => by rw [z64_length] at hi; unfold sTerm sCert; (repeat (first | rw [if_pos (by omega)] | rw [if_neg (by omega)]))), fun j hj => zeros_out _ _ _ hj, fun _ i hi => zeros_at _ _ _ hi, ok_zeros ok6 (fun i hi => by unfold sTerm sCert; (repeat (first | rw [if_pos (by omega)] | rw [if_neg (by omega)])))⟩
        · go_meet
          case rel => exact ⟨x6, hT6, fun _ _ => rfl, fun h0 => by simp_all, ok6⟩
      case rest =>
        obtain ⟨x7, hT7, h7a, h7b, ok7⟩ := hcut
        have H7a := hide h7a
        have H7b := hide h7b
        clear h7a h7b c hT6 ok6
        obtain ⟨hP7, hlast, hkind⟩ := prop7_of (unhide HX1) (unhide HX2) (unhide HX3) (unhide HX4) (unhide H54) (unhide HX5) (unhide H6a) (unhide H6b) (unhide H7a) (unhide H7b) f0 g0 f1 g1 f2 g2 f3 g3 ok7
        have k0 := hP7.kind.1
        have k1 := hP7.kind.2
        have r0 := hP7.rides.1
        have r1 := hP7.rides.2
        have HK : Hid (1 ≤ x 0 → x 0 ≤ 10 → x7 0 = x 0) := hide (fun h1 h2 => hkind.trans (unhide S0 h1 h2))
        clear hkind S0
        have HP := hide hP7
        have HLt := hide hlast
        clear hP7 hlast HX1 HX2 HX3 HX4 H54 HX5 H6a H6b H7a H7b f0 g0 f1 g1 f2 g2 f3 g3 ok7
        obtain ⟨c0, z0⟩ := hT7.num 0 (by decide) rfl
        obtain ⟨c2, z2⟩ := hT7.num 2 (by decide) rfl
        obtain ⟨c100, z100⟩ := hT7.num 100 (by decide) rfl
        have hk : x7 0 = 2 ∨ x7 0 = 3 ∨ x7 0 = 10 ∨ x7 0 = 7 ∨ (x7 0 ≠ 2 ∧ x7 0 ≠ 3 ∧ x7 0 ≠ 10 ∧ x7 0 ≠ 7) := by omega
        rcases hk with hk | hk | hk | hk | ⟨hk, hk3, hk10, hk7⟩
        all_goals go_upto_region 19 with (go_at_call 38; refine (into_any _ _ _ _ (by omega) (by omega) (by omega)).mono ?_; rintro e w' ⟨⟨y8, rfl, f8, g8, s8⟩, hw⟩; have hw := hw.symm; subst hw; clear hw)
        all_goals (
          clear s8
          have hT8 := hT7.set 100 y8 (by decide) rfl
          clear c0 z0 c2 z2 c100 z100
          generalize World.setCell _ _ _ = W8 at *
          obtain ⟨c0, z0⟩ := hT8.num 0 (by decide) rfl
          obtain ⟨c1, z1⟩ := hT8.num 1 (by decide) rfl
          rw [upd_ne _ _ _ _ (by decide)] at c0 c1
          go_upto_region 22 with (go_at_call 38; refine (into_any _ _ _ _ (by omega) (by omega) (by omega)).mono ?_; rintro e w' ⟨⟨y9, rfl, f9, g9, s9⟩, hw⟩; have hw := hw.symm; subst hw; clear hw))
        all_goals (
          clear s9
          have hT9 := hT8.set 1 y9 (by decide) rfl
          have hP9 := (unhide HP).to (u := y8) (v := y9) (by omega) (by omega) (by omega) (by omega) (by omega) (by omega) (by omega) (by omega)
          have hl9 : ∀ j, j < 329 → 265 ≤ j → upd (upd x7 100 y8) 1 y9 j = x j := fun j _ hj => by rw [upd_ne _ _ _ _ (by omega), upd_ne _ _ _ _ (by omega)]; exact unhide HLt j hj
          have hk9 : 1 ≤ x 0 → x 0 ≤ 10 → upd (upd x7 100 y8) 1 y9 0 = x 0 := fun h1 h2 => by rw [upd_ne _ _ _ _ (by decide), upd_ne _ _ _ _ (by decide)]; exact unhide HK h1 h2
          clear c0 z0 c1 z1
          generalize World.setCell _ _ _ = W9 at *
          generalize upd (upd x7 100 y8) 1 y9 = x9 at *
          have hsz9 : (Tryz.prog.info? 41).map (·.size) = some (tmC x9 bv).toArray.size := by rw [List.size_toArray, tmC_length]; exact Tryz.szTerm
          refine wp_region_lit ?_
          refine wpList_load_mid rfl 41 (.tmp 1) rfl w.heap.size 0 rfl (tmC x9 bv) _ (tm_all hT9.arr) Tryz.underlying41 rfl (by rw [tmC_length]; exact Tryz.szTerm) ?_
          simp only [Act.put]
          refine wpList_store_row rfl 41 (.tmp 2) (.tmp 82) rfl (w.heap.size + 1) (tmC x9 bv).toArray rfl rfl 41 Z.toArray hT9.res hsz9 (by rw [List.size_toArray, List.size_toArray, hZl, tmC_length]) (all_oneCell_toArray (tmC_oc x9 bv hbv)) ?_
          refine wpList_nil ?_
          simp only [Act.put]
          go_wp2
          refine bodyPost_ret (results_cell_row rfl _ _ (w.heap.size + 1) 41 (tmC x9 bv).toArray (0, 0) _ rfl (setRow_heap _ (w.heap.size + 1) _ _ _ _ hT9.res) Tryz.underlying41 rfl hsz9) rfl ?_
          exact ⟨⟨x9, rfl, hP9, hl9, hk9⟩, below_setRow hT9.bel (Nat.le_succ _) _⟩)
end Go.Proofs.YtfedajifefldmaaGreat
