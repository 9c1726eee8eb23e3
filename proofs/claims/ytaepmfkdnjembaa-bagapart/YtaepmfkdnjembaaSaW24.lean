import Derived.Test.YtaepmfkdnjembaaBxW
import Derived.Deep.DeepCutAuto
import Derived.Deep.QuietTactic
import Derived.BigQuiet
set_option linter.unusedSimpArgs false
set_option linter.unusedVariables false
namespace Go.Proofs.Ytaepmfkdnjembaa
open Go.RowKit

theorem below_drewN24 (w : World) (k : Nat) : Below w.heap.size w (w.drewN k) := by
  induction k with
  | zero => exact Below.refl _ _
  | succ k ih => exact ih.drew
theorem take_su {a b : List Int} {k : Nat} (ha : k < a.length) (hb : k < b.length) (h : a.take k = b.take k) (e : a.getD k 0 = b.getD k 0) : a.take (k + 1) = b.take (k + 1) := by
  rw [List.take_add_one, List.take_add_one, h, List.getElem?_eq_getElem ha, List.getElem?_eq_getElem hb]
  simp [ha, hb] at e
  rw [e]
set_option maxHeartbeats 2000000 in
set_option maxRecDepth 100000 in
theorem same_any (a b : Sx Int) (w : World) (ha : Su w a) (hb : Su w b) (hn : a.n ≤ 1048576) :
    Calls Try.prog 16 #[a.v, b.v] w fun e w' => e = .returned (.bool (decide (a.xs = b.xs))) ∧ Below w.heap.size w w' := by
  obtain ⟨aa, an, ac, al⟩ := a
  obtain ⟨ba, bn, bc, bl⟩ := b
  have ha1 : al.length = an := ha.len
  have hb1 : bl.length = bn := hb.len
  have hn' : an ≤ 1048576 := hn
  have hbm : bn ≤ 9223372036854775807 := by have := hb.le; have := hb.mx; unfold maxLen at this; simp only at *; omega
  simp only [Sx.v]
  by_cases hlen : an = bn
  · subst hlen
    have HA := hide ha
    have HB := hide hb
    have HL := hide ha1
    have HL2 := hide hb1
    clear ha hb ha1 hb1 hn
    generalize hD : decide (al = bl) = D
    have HD := hide hD
    clear hD
    go_enter Try.func16, Try.ntmps16
    go_wp2_with fail
    go_loopw [5] (fun i wr => ∃ k : Nat, k ≤ an ∧ i = .int .i64 k ∧ Hid (al.take k = bl.take k) ∧ ∃ m, wr = w.drewN m) (fun i _ => an - (intOf i).toNat)
    case atStart => exact ⟨0, by omega, rfl, hide rfl, 0, rfl⟩
    case round =>
      obtain ⟨k, hk, rfl, HT, m, hwr0⟩ := hrel
      have hwr := hide hwr0
      clear hwr0
      by_cases hlt : k < an
      · obtain ⟨ab, ao, haa, -, hac⟩ := Sx.Ok.at_ (unhide HA) (i := k) (List.getElem?_eq_getElem (by show k < al.length; rw [unhide HL]; exact hlt))
        obtain ⟨bb, bo, hba, -, hbc⟩ := Sx.Ok.at_ (unhide HB) (i := k) (List.getElem?_eq_getElem (by show k < bl.length; rw [unhide HL2]; exact hlt))
        have haa' : aa = some ⟨ab, ao, none⟩ := haa
        have hba' : ba = some ⟨bb, bo, none⟩ := hba
        subst haa' hba'
        have ca : wr.cell? ⟨ab, ao + k, none⟩ = some (.int .u8 (al.getD k 0)) := by
          have h1 := hac 0 _ rfl
          have hk1 : k < al.length := by rw [unhide HL]; exact hlt
          rw [unhide hwr]; simpa [hk1] using h1
        have cb : wr.cell? ⟨bb, bo + k, none⟩ = some (.int .u8 (bl.getD k 0)) := by
          have h1 := hbc 0 _ rfl
          have hk1 : k < bl.length := by rw [unhide HL2]; exact hlt
          rw [unhide hwr]; simpa [hk1] using h1
        obtain ⟨x, hx⟩ : ∃ x, al.getD k 0 = x := ⟨_, rfl⟩
        obtain ⟨y, hy⟩ : ∃ y, bl.getD k 0 = y := ⟨_, rfl⟩
        rw [hx] at ca
        rw [hy] at cb
        have HX := hide hx
        have HY := hide hy
        have hkz : (k : Int) < (an : Int) := by omega
        clear haa hba hac hbc hx hy
        by_cases hxy : x = y
        · subst hxy
          have HT' : Hid (al.take (k + 1) = bl.take (k + 1)) := hide (take_su (by rw [unhide HL]; omega) (by rw [unhide HL2]; omega) (unhide HT) ((unhide HX).trans (unhide HY).symm))
          go_wp2_with fail
          go_quiet (fail)
          go_wp2
          go_roundw
          case rel => exact ⟨k + 1, by omega, by go_num, HT', _, by rw [unhide hwr]; exact World.drewN_drewN _ _ _⟩
          case measure => simp [intOf]; omega
        · have HF : Hid (D = false) := by
            rw [← unhide HD]
            refine hide (decide_eq_false (fun e => hxy ?_))
            rw [← unhide HX, ← unhide HY, e]
          go_wp2_with fail
          go_quiet (fail)
          go_wp2
          go_ret
          rw [unhide HF]
          exact ⟨rfl, by rw [unhide hwr, World.drewN_drewN]; exact below_drewN24 _ _⟩
      · have hkd : decide ((k : Int) < (an : Int)) = false := by simp; omega
        have HF : Hid (D = true) := by
          rw [← unhide HD]
          refine hide (decide_eq_true ?_)
          have h := unhide HT
          rw [List.take_of_length_le (by rw [unhide HL]; omega), List.take_of_length_le (by rw [unhide HL2]; omega)] at h
          exact h
        go_wp2
        go_ret
        rw [unhide HF]
        exact ⟨rfl, by rw [unhide hwr]; exact below_drewN24 _ _⟩
  · have hne : ¬ al = bl := fun e => hlen (by rw [← ha1, ← hb1, e])
    have hnz : ¬ (an : Int) = (bn : Int) := by omega
    rw [decide_eq_false hne]
    clear hne ha hb ha1 hb1 hn
    go_enter Try.func16, Try.ntmps16
    go_wp2_with fail
    go_ret
    exact ⟨rfl, Below.refl _ _⟩
theorem same_t {a b : Sx Int} {w : World} (ha : Su w a) (hb : Su w b) (hn : a.n ≤ 1048576) (h : a.xs = b.xs) :
    Calls Try.prog 16 #[a.v, b.v] w fun e w' => e = .returned (.bool true) ∧ Below w.heap.size w w' := by
  have := same_any a b w ha hb hn
  rw [decide_eq_true h] at this; exact this
set_option maxHeartbeats 4000000 in
set_option maxRecDepth 100000 in
theorem sameM_t (i f t : Int) (a b : Sx Int) (w : World) (ha : Su w a) (hb : Su w b) (hn : a.n ≤ 1048576) (h : a.xs = b.xs) :
    Calls Try.prog 12 #[aV (msC i f t a.v), aV (msC i f t b.v)] w fun e w' => e = .returned (.bool true) ∧ Below w.heap.size w w' := by
  have hS := Hs17.begin w (fun w' => Su w' a ∧ Su w' b) (fun w' ho => ⟨ha.old ho, hb.old ho⟩)
  clear ha hb
  go_enter Try.func12, Try.ntmps12
  go_upto_region 0 with fail
  refine wp_region_lit ?_
  refine wl_box (by kernel_rfl) 32 (.tmp 0) rfl (msC i f t a.v) rfl hS ?_
  clear hS
  intro g1 w1 hS
  simp [Act.put]
  refine wl_box (by kernel_rfl) 32 (.tmp 1) rfl (msC i f t b.v) rfl hS ?_
  clear hS
  intro g2 w2 hS
  simp [Act.put]
  refine wl (by kernel_rfl) fun kQ hkQ => ?_
  go_simp
  refine hkQ _ _ ?_
  clear hkQ kQ
  refine wpList_nil ?_
  go_upto_region 1 with fail
  refine wp_region_lit ?_
  refine wl (by kernel_rfl) fun kQ hkQ => ?_
  go_simp
  refine hkQ _ _ ?_
  clear hkQ kQ
  refine wl_load1 (by kernel_rfl) 3 (.tmp 5) rfl 1 rfl 0 rfl (.int .i64 i) (at_D0 i f t a.v) Try.underlying3 rfl hS ?_
  simp [Act.put]
  refine wl (by kernel_rfl) fun kQ hkQ => ?_
  go_simp
  refine hkQ _ _ ?_
  clear hkQ kQ
  refine wl_load1 (by kernel_rfl) 3 (.tmp 7) rfl 0 rfl 0 rfl (.int .i64 i) (at_D0 i f t b.v) Try.underlying3 rfl hS ?_
  simp [Act.put]
  refine wl (by kernel_rfl) fun kQ hkQ => ?_
  go_simp
  refine hkQ _ _ ?_
  clear hkQ kQ
  refine wl (by kernel_rfl) fun kQ hkQ => ?_
  go_simp
  refine hkQ _ _ ?_
  clear hkQ kQ
  refine wl (by kernel_rfl) fun kQ hkQ => ?_
  go_simp
  refine hkQ _ _ ?_
  clear hkQ kQ
  refine wl_load1 (by kernel_rfl) 3 (.tmp 11) rfl 1 rfl 1 rfl (.int .i64 f) (at_D1 i f t a.v) Try.underlying3 rfl hS ?_
  simp [Act.put]
  refine wl (by kernel_rfl) fun kQ hkQ => ?_
  go_simp
  refine hkQ _ _ ?_
  clear hkQ kQ
  refine wl_load1 (by kernel_rfl) 3 (.tmp 13) rfl 0 rfl 1 rfl (.int .i64 f) (at_D1 i f t b.v) Try.underlying3 rfl hS ?_
  simp [Act.put]
  refine wl (by kernel_rfl) fun kQ hkQ => ?_
  go_simp
  refine hkQ _ _ ?_
  clear hkQ kQ
  refine wl (by kernel_rfl) fun kQ hkQ => ?_
  go_simp
  refine hkQ _ _ ?_
  clear hkQ kQ
  refine wl (by kernel_rfl) fun kQ hkQ => ?_
  go_simp
  refine hkQ _ _ ?_
  clear hkQ kQ
  refine wl (by kernel_rfl) fun kQ hkQ => ?_
  go_simp
  refine hkQ _ _ ?_
  clear hkQ kQ
  refine wl_load1 (by kernel_rfl) 3 (.tmp 18) rfl 1 rfl 2 rfl (.int .i64 t) (at_D2 i f t a.v) Try.underlying3 rfl hS ?_
  simp [Act.put]
  refine wl (by kernel_rfl) fun kQ hkQ => ?_
  go_simp
  refine hkQ _ _ ?_
  clear hkQ kQ
  refine wl_load1 (by kernel_rfl) 3 (.tmp 20) rfl 0 rfl 2 rfl (.int .i64 t) (at_D2 i f t b.v) Try.underlying3 rfl hS ?_
  simp [Act.put]
  refine wl (by kernel_rfl) fun kQ hkQ => ?_
  go_simp
  refine hkQ _ _ ?_
  clear hkQ kQ
  refine wl (by kernel_rfl) fun kQ hkQ => ?_
  go_simp
  refine hkQ _ _ ?_
  clear hkQ kQ
  refine wl (by kernel_rfl) fun kQ hkQ => ?_
  go_simp
  refine hkQ _ _ ?_
  clear hkQ kQ
  refine wl (by kernel_rfl) fun kQ hkQ => ?_
  go_simp
  refine hkQ _ _ ?_
  clear hkQ kQ
  refine wl_load1 (by kernel_rfl) 27 (.tmp 25) rfl 1 rfl 3 rfl (a.v) (at_D3 i f t a.v) Try.underlying27 rfl hS ?_
  simp [Act.put]
  refine wl (by kernel_rfl) fun kQ hkQ => ?_
  go_simp
  refine hkQ _ _ ?_
  clear hkQ kQ
  refine wl_load1 (by kernel_rfl) 27 (.tmp 27) rfl 0 rfl 3 rfl (b.v) (at_D3 i f t b.v) Try.underlying27 rfl hS ?_
  simp [Act.put]
  refine wl (by kernel_rfl) fun kQ hkQ => ?_
  go_simp
  refine (same_t hS.K.1 hS.K.2 hn h).mono ?_
  rintro e w3 ⟨rfl, hb1⟩
  replace hS := hS.later hb1
  refine hkQ _ _ ?_
  clear hkQ kQ hb1
  refine wl (by kernel_rfl) fun kQ hkQ => ?_
  go_simp
  refine hkQ _ _ ?_
  clear hkQ kQ
  refine wl (by kernel_rfl) fun kQ hkQ => ?_
  go_simp
  refine hkQ _ _ ?_
  clear hkQ kQ
  refine wpList_nil ?_
  go_wp2_with fail
  go_ret
  exact ⟨rfl, hS.bel⟩
set_option maxHeartbeats 4000000 in
set_option maxRecDepth 100000 in
theorem sameL_t (a b : Sx Ms) (w : World) (ha : Sm24 w a) (hb : Sm24 w b) (hab : ∀ m ∈ a.xs, Su w m.s ∧ m.s.n ≤ 1048576) (hbb : ∀ m ∈ b.xs, Su w m.s) (hn : a.n ≤ 1048576) (h : a.xs.map Ms.p = b.xs.map Ms.p) :
    Calls Try.prog 23 #[a.v, b.v] w fun e w' => e = .returned (.bool true) ∧ Below w.heap.size w w' := by
  obtain ⟨aa, an, ac, al⟩ := a
  obtain ⟨ba, bn, bc, bl⟩ := b
  have ha1 : al.length = an := ha.len
  have hb1 : bl.length = bn := hb.len
  have hlen : an = bn := by rw [← ha1, ← hb1]; have := congrArg List.length h; simpa using this
  subst hlen
  have hn' : an ≤ 1048576 := hn
  have hS := Hs17.begin w (fun w' => (Sm24 w' ⟨aa, an, ac, al⟩ ∧ Sm24 w' ⟨ba, an, bc, bl⟩) ∧ (∀ m ∈ al, Su w' m.s ∧ m.s.n ≤ 1048576) ∧ ∀ m ∈ bl, Su w' m.s) (fun w' ho => ⟨⟨ha.old ho, hb.old ho⟩, fun m hm => ⟨(hab m hm).1.old ho, (hab m hm).2⟩, fun m hm => (hbb m hm).old ho⟩)
  have H := hide h
  have HL := hide ha1
  have HL2 := hide hb1
  simp only [Sx.v]
  clear ha hb hab hbb h ha1 hb1 hn
  go_enter Try.func23, Try.ntmps23
  go_wp2_with fail
  go_loopw [5] (fun vi wr => ∃ k : Nat, k ≤ an ∧ vi = .int .i64 k ∧ Hs17 w [] (fun w' => (Sm24 w' ⟨aa, an, ac, al⟩ ∧ Sm24 w' ⟨ba, an, bc, bl⟩) ∧ (∀ m ∈ al, Su w' m.s ∧ m.s.n ≤ 1048576) ∧ ∀ m ∈ bl, Su w' m.s) wr) (fun vi _ => an - (intOf vi).toNat)
  case atStart => exact ⟨0, by omega, rfl, hS⟩
  case round =>
    clear hS
    obtain ⟨k, hk, rfl, hS⟩ := hrel
    by_cases hlt : k < an
    · have hkz : (k : Int) < (an : Int) := by omega
      have hka : k < al.length := by rw [unhide HL]; exact hlt
      have hkb : k < bl.length := by rw [unhide HL2]; exact hlt
      obtain ⟨x, hx⟩ : ∃ x, al[k]? = some x := ⟨_, List.getElem?_eq_getElem hka⟩
      obtain ⟨y, hy⟩ : ∃ y, bl[k]? = some y := ⟨_, List.getElem?_eq_getElem hkb⟩
      have hxy : x.p = y.p := by
        have h9 := congrArg (fun l => l[k]?) (unhide H)
        simp only [List.getElem?_map, hx, hy, Option.map_some, Option.some.injEq] at h9
        exact h9
      have hxa := List.mem_of_getElem? hx
      have hyb := List.mem_of_getElem? hy
      obtain ⟨ab, ao, haa, -, hra⟩ := Sx.Ok.at_ hS.K.1.1 (i := k) hx
      obtain ⟨bb, bo, hba, -, hrb⟩ := Sx.Ok.at_ hS.K.1.2 (i := k) hy
      have haa' : aa = some ⟨ab, ao, none⟩ := haa
      have hba' : ba = some ⟨bb, bo, none⟩ := hba
      subst haa' hba'
      have hfa : ∀ v, Hs17 w [] (fun w' => (Sm24 w' ⟨some ⟨ab, ao, none⟩, an, ac, al⟩ ∧ Sm24 w' ⟨some ⟨bb, bo, none⟩, an, bc, bl⟩) ∧ (∀ m ∈ al, Su w' m.s ∧ m.s.n ≤ 1048576) ∧ ∀ m ∈ bl, Su w' m.s) v → v.rangeAt ab (ao + k * 4) (mC x) := fun v hv => by
        obtain ⟨b2, o2, e2, -, hr2⟩ := Sx.Ok.at_ hv.K.1.1 (i := k) hx
        simp only [Option.some.injEq, Addr.mk.injEq] at e2
        obtain ⟨rfl, rfl, -⟩ := e2
        exact hr2
      have hfb : ∀ v, Hs17 w [] (fun w' => (Sm24 w' ⟨some ⟨ab, ao, none⟩, an, ac, al⟩ ∧ Sm24 w' ⟨some ⟨bb, bo, none⟩, an, bc, bl⟩) ∧ (∀ m ∈ al, Su w' m.s ∧ m.s.n ≤ 1048576) ∧ ∀ m ∈ bl, Su w' m.s) v → v.rangeAt bb (bo + k * 4) (mC y) := fun v hv => by
        obtain ⟨b2, o2, e2, -, hr2⟩ := Sx.Ok.at_ hv.K.1.2 (i := k) hy
        simp only [Option.some.injEq, Addr.mk.injEq] at e2
        obtain ⟨rfl, rfl, -⟩ := e2
        exact hr2
      have hSM : ∀ v, Hs17 w [] (fun w' => (Sm24 w' ⟨some ⟨ab, ao, none⟩, an, ac, al⟩ ∧ Sm24 w' ⟨some ⟨bb, bo, none⟩, an, bc, bl⟩) ∧ (∀ m ∈ al, Su w' m.s ∧ m.s.n ≤ 1048576) ∧ ∀ m ∈ bl, Su w' m.s) v → Calls Try.prog 12 #[aV (mC x), aV (mC y)] v fun e w' => e = .returned (.bool true) ∧ Below v.heap.size v w' := fun v hv => by
        obtain ⟨i, f, t, s⟩ := x
        obtain ⟨i', f', t', s'⟩ := y
        simp only [Ms.p, Pm.mk.injEq] at hxy
        obtain ⟨rfl, rfl, rfl, hxs⟩ := hxy
        exact sameM_t i f t s s' v (hv.K.2.1 _ hxa).1 (hv.K.2.2 _ hyb) (hv.K.2.1 _ hxa).2 hxs
      have HXA := hide hxa
      clear hka hkb hx hy hxy hxa hyb haa hba hra hrb
      go_upto_region 6 with fail
      clear hkz
      refine wp_region_noPanic ?_
      replace hS := hS.drew
      refine wp_region_held_drew (S := Hs17 w [] (fun w' => (Sm24 w' ⟨some ⟨ab, ao, none⟩, an, ac, al⟩ ∧ Sm24 w' ⟨some ⟨bb, bo, none⟩, an, bc, bl⟩) ∧ (∀ m ∈ al, Su w' m.s ∧ m.s.n ≤ 1048576) ∧ ∀ m ∈ bl, Su w' m.s)) (by kernel_rfl) (hS.sub (List.Sublist.slnil)) (fun hHeld => ?_)
      generalize World.drew _ = w21 at hS hHeld ⊢
      refine wpAnyH_take (i := 0) (oi := _) (v := (.slice (some ⟨ab, ao, none⟩) an ac)) rfl (by kernel_rfl) (by kernel_rfl) (by kernel_rfl) (fun _ _ _ h => h) (Or.inl ⟨by rfl, fun w hSw => by go_simp⟩) hHeld ?_
      simp [Act.put]
      refine wpAnyH_take (i := 1) (oi := _) (v := .int .i64 (k : Int)) rfl (by kernel_rfl) (by kernel_rfl) (by kernel_rfl) (fun _ _ _ h => h) (Or.inl ⟨by rfl, fun w hSw => by go_simp⟩) hHeld ?_
      simp [Act.put]
      refine wpAnyH_take (i := 2) (oi := _) (v := (.pointer (some ⟨ab, ao + k * 4, none⟩))) rfl (by kernel_rfl) (by kernel_rfl) (by kernel_rfl) (fun _ _ _ h => h) (Or.inl ⟨by rfl, fun w hSw => by go_simp⟩) hHeld ?_
      simp [Act.put]
      refine wpAnyH_take (i := 3) (oi := _) (v := aV (msC x.i x.f x.t x.s.v)) rfl (by kernel_rfl) (by kernel_rfl) (by kernel_rfl) (fun _ _ _ h => h) (yl_loadR (by kernel_rfl) 32 (.tmp 19) rfl ab (ao + k * 4) rfl (msC x.i x.f x.t x.s.v) (fun w hSw => hfa _ hSw) Try.underlying32 rfl (sz_D _ _ _ _)) hHeld ?_
      simp [Act.put]
      refine wpAnyH_take (i := 4) (oi := _) (v := (.slice (some ⟨bb, bo, none⟩) an bc)) rfl (by kernel_rfl) (by kernel_rfl) (by kernel_rfl) (fun _ _ _ h => h) (Or.inl ⟨by rfl, fun w hSw => by go_simp⟩) hHeld ?_
      simp [Act.put]
      refine wpAnyH_take (i := 5) (oi := _) (v := .int .i64 (k : Int)) rfl (by kernel_rfl) (by kernel_rfl) (by kernel_rfl) (fun _ _ _ h => h) (Or.inl ⟨by rfl, fun w hSw => by go_simp⟩) hHeld ?_
      simp [Act.put]
      refine wpAnyH_take (i := 6) (oi := _) (v := (.pointer (some ⟨bb, bo + k * 4, none⟩))) rfl (by kernel_rfl) (by kernel_rfl) (by kernel_rfl) (fun _ _ _ h => h) (Or.inl ⟨by rfl, fun w hSw => by go_simp⟩) hHeld ?_
      simp [Act.put]
      refine wpAnyH_take (i := 7) (oi := _) (v := aV (msC y.i y.f y.t y.s.v)) rfl (by kernel_rfl) (by kernel_rfl) (by kernel_rfl) (fun _ _ _ h => h) (yl_loadR (by kernel_rfl) 32 (.tmp 23) rfl bb (bo + k * 4) rfl (msC y.i y.f y.t y.s.v) (fun w hSw => hfb _ hSw) Try.underlying32 rfl (sz_D _ _ _ _)) hHeld ?_
      simp [Act.put]
      refine wpAnyH_ready (rs := [8]) (by kernel_rfl) (by simp) ?_
      refine (AllReadyH.cons rfl (fun kQ hkQ => ?_) AllReadyH.nil)
      go_simp
      refine (hSM _ hS).mono ?_
      rintro e w22 ⟨rfl, hb1⟩
      replace hS := hS.later hb1
      clear hHeld hb1
      refine hkQ.out _ _ (hS.sub (List.Sublist.slnil)) (fun hHeld => ?_)
      clear hkQ kQ
      refine wpAnyH_take (i := 9) (oi := _) (v := .bool false) rfl (by kernel_rfl) (by kernel_rfl) (by kernel_rfl) (fun _ _ _ h => h) (Or.inl ⟨by rfl, fun w hSw => by go_simp⟩) hHeld ?_
      simp [Act.put]
      refine wpAnyH_done (by kernel_rfl) ?_ _
      unfold NoPanic
      clear hHeld
      go_wp2
      go_roundw
      case rel => exact ⟨k + 1, by omega, by go_num, hS⟩
      case measure => simp [intOf]; omega
    · obtain rfl : an = k := by omega
      have hkz : ¬ (an : Int) < (an : Int) := by omega
      go_wp2_with fail
      go_ret
      exact ⟨rfl, hS.bel⟩
end Go.Proofs.Ytaepmfkdnjembaa
