import Derived.Test.YtaidncibndcbfaaDoorQBneW
set_option linter.unusedVariables false
namespace Go.Proofs.YtaidncibndcbfaaDoor
open Go.RowKit

theorem Tryd.egP : Tryd.prog.eqGuardType Tryd.prog.depth 44 = false := by kernel_rfl
theorem range_ltP {w : World} {b i : Nat} {x : List Int} (h : w.rangeAt b i (U8 x)) (hx : x.length = 64) : b < w.heap.size := by
  obtain ⟨z, hz⟩ : ∃ z, (U8 x)[0]? = some z := ⟨_, List.getElem?_eq_getElem (by simp [hx])⟩
  exact cell_lt (h 0 z hz)
theorem yields_neP {ops : Array Oper} {S : World → Prop} {o : Oper} {a : Act} (hw : Region.wanted o (yielded ops a.tmps) = true) (x y : Operand) (ho : o.op = .binOp .neq 44 x y 44) (l r l' r' : List Int) (hl : l.length = 32) (hr : r.length = 32) (hl' : l'.length = 32) (hr' : r'.length = 32) (q : Bool) (hq : decide (l ++ r = l' ++ r') = q)
    (hx : a.eval x = hV (l ++ r)) (hy : a.eval y = hV (l' ++ r')) : YieldsIf Tryd.prog ops S o (.bool (!q)) a := by
  refine .inl ⟨hw, fun w _ => ?_⟩
  have he := eqP l r l' r' hl hr hl' hr' w
  rw [hq] at he
  have hg := Tryd.egP
  unfold execOp
  rw [ho]
  simp only [hx, hy, hV] at he ⊢
  simp [eqGuard, binOp, Op.equal, Op.maxDepth, Sem.run_bind, Result.andThen, hg, he]

/-- what stands through the law -/
structure BS (w0 : World) (c1 c2 : Prop) (B1 B2 : Nat) (X Y : Value) (zx zy : List (List Int)) (p q : Hl) (w : World) : Prop where
  o1 : c1 → POwn w B1 X zx
  o2 : c2 → POwn w B2 Y zy
  p1 : p.Ok w
  p2 : q.Ok w
  ld : Ld w
  be : Below w0.heap.size w0 w
theorem BS.later {w0 : World} {c1 c2 : Prop} {B1 B2 : Nat} {X Y : Value} {zx zy : List (List Int)} {p q : Hl} {w w' : World} (h : BS w0 c1 c2 B1 B2 X Y zx zy p q w) (hb : Below w.heap.size w w') : BS w0 c1 c2 B1 B2 X Y zx zy p q w' :=
  ⟨fun c => (h.o1 c).later hb, fun c => (h.o2 c).later hb, h.p1.later hb, h.p2.later hb, h.ld.later hb, bnext h.be h.be.size hb⟩
theorem pair_at {l : List (List Int × List Int)} {k : Nat} {u v : List Int} (h : l[k]? = some (u, v)) : (zsOf l)[k]? = some (u ++ v) := by simp [zsOf, h]
theorem POwn.at_ {w : World} {base m c k : Nat} {a : Option Addr} {zs : List (List Int)} {z : List Int} (h : POwn w base (.slice a m c) zs) (hk : zs[k]? = some z) : ∃ g, a = some ⟨g, 0, none⟩ ∧ g < w.heap.size ∧ w.rangeAt g (k * 64) (U8 z) ∧ m ≤ c := by
  obtain ⟨a', c', e, h1, h2, h3⟩ := h.sl
  injection e with e1 e2 e3
  obtain ⟨g, hg1, hg2, hg3, hg4⟩ := h3 (by have := (List.getElem?_eq_some_iff.1 hk).1; omega)
  exact ⟨g, e1.trans hg1, hg3, hg4 k z hk, by omega⟩
theorem ck_in (x : List Int) (i n : Nat) (p : List (List Int)) (r : List Int) (hn : n ≤ 65536) (hi : i < n) : ckI x i n p r = (decide (p.length = mplen i n) && eqB (mends ndZ x (mlay ndZ (msides i n).reverse x p)) r) := by
  unfold ckI
  rw [show inT i n = true from by unfold inT; simp; omega, Bool.true_and, Int.toNat_natCast, Int.toNat_natCast]
  by_cases h : p.length = mplen i n
  · rw [decide_eq_true h, mends_climb ndZ nonZ n i x p h]; rfl
  · rw [decide_eq_false h, Bool.false_and, Bool.false_and]

set_option maxHeartbeats 16000000 in
set_option maxRecDepth 100000 in
theorem binds_in (a b r : List Int) (p q : Hl) (I N : Int) (i n : Nat) (w : World) (hI : I = i) (hN : N = n) (ha : Hs a) (hbb : Hs b) (hr : Hs r) (hp : p.Ok w) (hq : q.Ok w) (hL : Ld w) (h1 : 1 ≤ n) (hn : n ≤ 65536) (hi : i < n) (hpn : p.n ≤ 200) (hqn : q.n ≤ 200) :
    Calls Tryd.prog 5 #[hV a, p.v, hV b, q.v, .int .i64 I, .int .i64 N, hV r] w fun e w' => e = .returned (.bool true) ∧ Below w.heap.size w w' := by
  obtain ⟨W, hW, hH, hb⟩ := hold3 w a b r
  have HW := hide hW
  clear hW
  have hLW := hL.later hb
  have hpW := hp.later hb
  have hqW := hq.later hb
  obtain ⟨lx, hlx⟩ : ∃ lx, lx = mlay ndZ (msides i n).reverse a p.ls := ⟨_, rfl⟩
  obtain ⟨ly, hly⟩ : ∃ ly, ly = mlay ndZ (msides i n).reverse b q.ls := ⟨_, rfl⟩
  obtain ⟨E1, hE1⟩ : ∃ E, E = mends ndZ a lx := ⟨_, rfl⟩
  obtain ⟨E2, hE2⟩ : ∃ E, E = mends ndZ b ly := ⟨_, rfl⟩
  have hlxs : hsP lx := by rw [hlx]; exact mlay_hs _ _ _ ha hp.hs
  have hlys : hsP ly := by rw [hly]; exact mlay_hs _ _ _ hbb hq.hs
  have hE1l : Hs E1 := by rw [hE1]; exact mends_hs _ _ ha
  have hE2l : Hs E2 := by rw [hE2]; exact mends_hs _ _ hbb
  have hck1 : ckI a I N p.ls r = (decide (p.ls.length = mplen i n) && eqB E1 r) := by rw [hI, hN, ck_in a i n p.ls r hn hi, hE1, hlx]
  have hck2 : ckI b I N q.ls r = (decide (q.ls.length = mplen i n) && eqB E2 r) := by rw [hI, hN, ck_in b i n q.ls r hn hi, hE2, hly]
  have hEn1 : ∀ (X : Value) (B : Nat) (w0 : World), POwn w0 B X (zsOf lx) → Ld w0 → Calls Tryd.prog 20 #[hV a, X] w0 fun e w' => e = .returned (hV E1) ∧ Below w0.heap.size w0 w' := fun X B w0 h9 h8 => by rw [hE1]; exact ends_any a lx X B w0 ha hlxs h9 h8
  have hEn2 : ∀ (X : Value) (B : Nat) (w0 : World), POwn w0 B X (zsOf ly) → Ld w0 → Calls Tryd.prog 20 #[hV b, X] w0 fun e w' => e = .returned (hV E2) ∧ Below w0.heap.size w0 w' := fun X B w0 h9 h8 => by rw [hE2]; exact ends_any b ly X B w0 hbb hlys h9 h8
  have hCk1 : ∀ (w0 : World), p.Ok w0 → Ld w0 → Calls Tryd.prog 18 #[hV a, .int .i64 I, .int .i64 N, p.v, hV r] w0 fun e w' => e = .returned (.bool (decide (p.ls.length = mplen i n) && eqB E1 r)) ∧ Below w0.heap.size w0 w' := fun w0 h9 h8 => by rw [← hck1]; exact checkI_any a I N p r w0 ha hr h9 h8
  have hCk2 : ∀ (w0 : World), q.Ok w0 → Ld w0 → Calls Tryd.prog 18 #[hV b, .int .i64 I, .int .i64 N, q.v, hV r] w0 fun e w' => e = .returned (.bool (decide (q.ls.length = mplen i n) && eqB E2 r)) ∧ Below w0.heap.size w0 w' := fun w0 h9 h8 => by rw [← hck2]; exact checkI_any b I N q r w0 hbb hr h9 h8
  have hCl1 : ∀ (w0 : World), p.Ok w0 → Ld w0 → Calls Tryd.prog 19 #[hV a, .int .i64 I, .int .i64 N, p.v] w0 fun e w' => ∃ v, e = .returned (.tuple #[v, .bool (decide (p.ls.length = mplen i n))]) ∧ (p.ls.length = mplen i n → POwn w' w0.heap.size v (zsOf lx)) ∧ Below w0.heap.size w0 w' := fun w0 h9 h8 => by rw [hI, hN, hlx]; exact climbed_any a i n p w0 ha h9 h8 h1 hn hi hpn
  have hCl2 : ∀ (w0 : World), q.Ok w0 → Ld w0 → Calls Tryd.prog 19 #[hV b, .int .i64 I, .int .i64 N, q.v] w0 fun e w' => ∃ v, e = .returned (.tuple #[v, .bool (decide (q.ls.length = mplen i n))]) ∧ (q.ls.length = mplen i n → POwn w' w0.heap.size v (zsOf ly)) ∧ Below w0.heap.size w0 w' := fun w0 h9 h8 => by rw [hI, hN, hly]; exact climbed_any b i n q w0 hbb h9 h8 h1 hn hi hqn
  have d0 : decide (N < 1) = false := decide_eq_false (by omega)
  have d1 : decide (65536 < N) = false := decide_eq_false (by omega)
  have d2 : decide (I < 0) = false := decide_eq_false (by omega)
  have d3 : decide (N ≤ I) = false := decide_eq_false (by omega)
  have d4 : decide ((200 : Int) < (p.n : Int)) = false := decide_eq_false (by omega)
  have d5 : decide ((200 : Int) < (q.n : Int)) = false := decide_eq_false (by omega)
  have f4 : decide (200 < p.n) = false := decide_eq_false (by omega)
  have f5 : decide (200 < q.n) = false := decide_eq_false (by omega)
  have HLX := hide hlx
  have HLY := hide hly
  have HEE := hide (And.intro hE1 hE2)
  have HXS := hide (And.intro hlxs hlys)
  have HMP := hide (mplen_le i n)
  have HN := hide hn
  clear hlx hly hE1 hE2 hlxs hlys hck1 hck2 hp hq hL hI hN h1 hn hi hpn hqn
  simp only [Hl.v] at hCk1 hCk2 hCl1 hCl2 ⊢
  by_cases ok : p.ls.length = mplen i n
  · by_cases is : q.ls.length = mplen i n
    · rw [decide_eq_true ok] at hCk1 hCl1
      rw [decide_eq_true is] at hCk2 hCl2
      have HO1 := hide ok
      have HO2 := hide is
      obtain ⟨z1, hz1⟩ : ∃ z, z = eqB E1 r := ⟨_, rfl⟩
      have HZ1 : Hid (decide (E1 = r) = z1) := hide (by rw [hz1]; rfl)
      rw [Bool.true_and, ← hz1] at hCk1
      clear hz1
      obtain ⟨z2, hz2⟩ : ∃ z, z = eqB E2 r := ⟨_, rfl⟩
      have HZ2 : Hid (decide (E2 = r) = z2) := hide (by rw [hz2]; rfl)
      rw [Bool.true_and, ← hz2] at hCk2
      clear hz2
      have hC1 := hCk1
      have hC2 := hCk2
      clear hCk1 hCk2 ok is
      unfold hV
      go_enter Tryd.func5, Tryd.ntmps5
      go_upto_region 1 with fail
      rw [← unhide HW]
      rw [show Value.agg (U8 a).toArray = hV a from rfl, show Value.agg (U8 b).toArray = hV b from rfl, show Value.agg (U8 r).toArray = hV r from rfl]
      go_upto_region 4 with (first
        | refine wpList_load_hs hH (.tmp 7) rfl (by kernel_rfl) w.heap.size a (by simp) ha.len rfl ?_
        | (go_at_call 19; refine (hCl1 W hpW hLW).mono ?_; rintro e w1 ⟨X, rfl, hX1, hb1⟩; replace hH := hH.later hb1; replace hpW := hpW.later hb1; replace hqW := hqW.later hb1; replace hLW := hLW.later hb1; replace hb := bnext hb hb.size hb1; clear hb1))
      go_upto_region 5 with (first
        | refine wpList_load_hs hH (.tmp 9) rfl (by kernel_rfl) (w.heap.size + 1) b (by simp) hbb.len rfl ?_
        | (go_at_call 19; refine (hCl2 w1 hqW hLW).mono ?_; rintro e w2 ⟨Y, rfl, hY1, hb1⟩; have hB : BS w _ _ W.heap.size w1.heap.size X Y (zsOf lx) (zsOf ly) p q w2 := ⟨fun c9 => (hX1 c9).later hb1, hY1, hpW.later hb1, hqW.later hb1, hLW.later hb1, bnext hb hb.size hb1⟩; replace hH := hH.later hb1; clear hb1 hX1 hY1 hpW hqW hLW hb))
      have hE1 := hEn1 X W.heap.size
      have hE2 := hEn2 Y w1.heap.size
      clear hEn1 hEn2 hCl1 hCl2
      replace hB := hB.later (drew_below _)
      refine wp_region_held_drew (S := Hold [(w.heap.size, a), (w.heap.size + 1, b), (w.heap.size + 1 + 1, r)]) (by kernel_rfl) hH.drew (fun hHeld => ?_)
      generalize World.drew _ = v1 at hHeld hB ⊢
      clear hH
      refine wpAnyH_take (i := 0) (oi := _) (v := hV a) rfl (by kernel_rfl) (by kernel_rfl) (by kernel_rfl) (fun _ _ _ h => h) (yields_hs (by kernel_rfl) (.tmp 7) rfl w.heap.size a (by simp) ha.len rfl) hHeld ?_
      simp [Act.put]
      refine wpAnyH_take (i := 1) (oi := _) (v := .int .i64 I) rfl (by kernel_rfl) (by kernel_rfl) (by kernel_rfl) (fun _ _ _ h => h) (Or.inl ⟨by rfl, fun w hSw => by go_simp⟩) hHeld ?_
      simp [Act.put]
      refine wpAnyH_take (i := 2) (oi := _) (v := .int .i64 N) rfl (by kernel_rfl) (by kernel_rfl) (by kernel_rfl) (fun _ _ _ h => h) (Or.inl ⟨by rfl, fun w hSw => by go_simp⟩) hHeld ?_
      simp [Act.put]
      refine wpAnyH_take (i := 3) (oi := _) (v := .slice p.a p.n p.c) rfl (by kernel_rfl) (by kernel_rfl) (by kernel_rfl) (fun _ _ _ h => h) (Or.inl ⟨by rfl, fun w hSw => by go_simp⟩) hHeld ?_
      simp [Act.put]
      refine wpAnyH_take (i := 4) (oi := _) (v := hV r) rfl (by kernel_rfl) (by kernel_rfl) (by kernel_rfl) (fun _ _ _ h => h) (yields_hs (by kernel_rfl) (.tmp 13) rfl (w.heap.size + 1 + 1) r (by simp) hr.len rfl) hHeld ?_
      simp [Act.put]
      refine wpAnyH_take (i := 6) (oi := _) (v := .bool true) rfl (by kernel_rfl) (by kernel_rfl) (by kernel_rfl) (fun _ _ _ h => h) (Or.inl ⟨by rfl, fun w hSw => by go_simp⟩) hHeld ?_
      simp [Act.put]
      refine wpAnyH_ready (rs := [5]) (by kernel_rfl) (by simp) ?_
      refine AllReadyH.cons rfl (fun K hKK => ?_) AllReadyH.nil
      go_simp
      refine (hC1 _ hB.p1 hB.ld).mono ?_
      rintro e v2 ⟨rfl, hb1⟩
      replace hB := hB.later hb1
      refine hKK.out _ _ (hHeld.later hb1) (fun hHeld => ?_)
      clear hKK K hb1
      refine wpAnyH_take (i := 7) (oi := _) (v := .bool true) rfl (by kernel_rfl) (by kernel_rfl) (by kernel_rfl) (fun _ _ _ h => h) (Or.inl ⟨by rfl, fun w hSw => by go_simp⟩) hHeld ?_
      simp [Act.put]
      refine wpAnyH_take (i := 8) (oi := _) (v := hV a) rfl (by kernel_rfl) (by kernel_rfl) (by kernel_rfl) (fun _ _ _ h => h) (yields_hs (by kernel_rfl) (.tmp 7) rfl w.heap.size a (by simp) ha.len rfl) hHeld ?_
      simp [Act.put]
      refine wpAnyH_take (i := 9) (oi := _) (v := X) rfl (by kernel_rfl) (by kernel_rfl) (by kernel_rfl) (fun _ _ _ h => h) (Or.inl ⟨by rfl, fun w hSw => by go_simp⟩) hHeld ?_
      simp [Act.put]
      refine wpAnyH_take (i := 11) (oi := _) (v := hV r) rfl (by kernel_rfl) (by kernel_rfl) (by kernel_rfl) (fun _ _ _ h => h) (yields_hs (by kernel_rfl) (.tmp 13) rfl (w.heap.size + 1 + 1) r (by simp) hr.len rfl) hHeld ?_
      simp [Act.put]
      refine wpAnyH_ready (rs := [10]) (by kernel_rfl) (by simp) ?_
      refine AllReadyH.cons rfl (fun K hKK => ?_) AllReadyH.nil
      go_simp
      refine (hE1 _ (hB.o1 (unhide HO1)) hB.ld).mono ?_
      rintro e v3 ⟨rfl, hb1⟩
      replace hB := hB.later hb1
      refine hKK.out _ _ (hHeld.later hb1) (fun hHeld => ?_)
      clear hKK K hb1
      refine wpAnyH_take (i := 12) (oi := _) (v := .bool z1) rfl (by kernel_rfl) (by kernel_rfl) (by kernel_rfl) (fun _ _ _ h => h) (yields_eqH (by kernel_rfl) (.tmp 95) (.tmp 96) rfl E1 r hE1l.len hr.len z1 (unhide HZ1) rfl rfl) hHeld ?_
      simp [Act.put]
      refine wpAnyH_take (i := 13) (oi := _) (v := .bool z1) rfl (by kernel_rfl) (by kernel_rfl) (by kernel_rfl) (fun _ _ _ h => h) (Or.inl ⟨by rfl, fun w hSw => by go_simp⟩) hHeld ?_
      simp [Act.put]
      refine wpAnyH_take (i := 14) (oi := _) (v := .bool false) rfl (by kernel_rfl) (by kernel_rfl) (by kernel_rfl) (fun _ _ _ h => h) (Or.inl ⟨by rfl, fun w hSw => by go_simp⟩) hHeld ?_
      simp [Act.put]
      refine wpAnyH_take (i := 15) (oi := _) (v := .bool false) rfl (by kernel_rfl) (by kernel_rfl) (by kernel_rfl) (fun _ _ _ h => h) (Or.inl ⟨by rfl, fun w hSw => by go_simp⟩) hHeld ?_
      simp [Act.put]
      refine wpAnyH_take (i := 16) (oi := _) (v := hV b) rfl (by kernel_rfl) (by kernel_rfl) (by kernel_rfl) (fun _ _ _ h => h) (yields_hs (by kernel_rfl) (.tmp 9) rfl (w.heap.size + 1) b (by simp) hbb.len rfl) hHeld ?_
      simp [Act.put]
      refine wpAnyH_take (i := 17) (oi := _) (v := .int .i64 I) rfl (by kernel_rfl) (by kernel_rfl) (by kernel_rfl) (fun _ _ _ h => h) (Or.inl ⟨by rfl, fun w hSw => by go_simp⟩) hHeld ?_
      simp [Act.put]
      refine wpAnyH_take (i := 18) (oi := _) (v := .int .i64 N) rfl (by kernel_rfl) (by kernel_rfl) (by kernel_rfl) (fun _ _ _ h => h) (Or.inl ⟨by rfl, fun w hSw => by go_simp⟩) hHeld ?_
      simp [Act.put]
      refine wpAnyH_take (i := 19) (oi := _) (v := .slice q.a q.n q.c) rfl (by kernel_rfl) (by kernel_rfl) (by kernel_rfl) (fun _ _ _ h => h) (Or.inl ⟨by rfl, fun w hSw => by go_simp⟩) hHeld ?_
      simp [Act.put]
      refine wpAnyH_take (i := 20) (oi := _) (v := hV r) rfl (by kernel_rfl) (by kernel_rfl) (by kernel_rfl) (fun _ _ _ h => h) (yields_hs (by kernel_rfl) (.tmp 13) rfl (w.heap.size + 1 + 1) r (by simp) hr.len rfl) hHeld ?_
      simp [Act.put]
      refine wpAnyH_take (i := 22) (oi := _) (v := .bool true) rfl (by kernel_rfl) (by kernel_rfl) (by kernel_rfl) (fun _ _ _ h => h) (Or.inl ⟨by rfl, fun w hSw => by go_simp⟩) hHeld ?_
      simp [Act.put]
      refine wpAnyH_ready (rs := [21]) (by kernel_rfl) (by simp) ?_
      refine AllReadyH.cons rfl (fun K hKK => ?_) AllReadyH.nil
      go_simp
      refine (hC2 _ hB.p2 hB.ld).mono ?_
      rintro e v4 ⟨rfl, hb1⟩
      replace hB := hB.later hb1
      refine hKK.out _ _ (hHeld.later hb1) (fun hHeld => ?_)
      clear hKK K hb1
      refine wpAnyH_take (i := 23) (oi := _) (v := .bool true) rfl (by kernel_rfl) (by kernel_rfl) (by kernel_rfl) (fun _ _ _ h => h) (Or.inl ⟨by rfl, fun w hSw => by go_simp⟩) hHeld ?_
      simp [Act.put]
      refine wpAnyH_take (i := 24) (oi := _) (v := hV b) rfl (by kernel_rfl) (by kernel_rfl) (by kernel_rfl) (fun _ _ _ h => h) (yields_hs (by kernel_rfl) (.tmp 9) rfl (w.heap.size + 1) b (by simp) hbb.len rfl) hHeld ?_
      simp [Act.put]
      refine wpAnyH_take (i := 25) (oi := _) (v := Y) rfl (by kernel_rfl) (by kernel_rfl) (by kernel_rfl) (fun _ _ _ h => h) (Or.inl ⟨by rfl, fun w hSw => by go_simp⟩) hHeld ?_
      simp [Act.put]
      refine wpAnyH_take (i := 27) (oi := _) (v := hV r) rfl (by kernel_rfl) (by kernel_rfl) (by kernel_rfl) (fun _ _ _ h => h) (yields_hs (by kernel_rfl) (.tmp 13) rfl (w.heap.size + 1 + 1) r (by simp) hr.len rfl) hHeld ?_
      simp [Act.put]
      refine wpAnyH_ready (rs := [26]) (by kernel_rfl) (by simp) ?_
      refine AllReadyH.cons rfl (fun K hKK => ?_) AllReadyH.nil
      go_simp
      refine (hE2 _ (hB.o2 (unhide HO2)) hB.ld).mono ?_
      rintro e v5 ⟨rfl, hb1⟩
      replace hB := hB.later hb1
      refine hKK.out _ _ (hHeld.later hb1) (fun hHeld => ?_)
      clear hKK K hb1
      refine wpAnyH_take (i := 28) (oi := _) (v := .bool z2) rfl (by kernel_rfl) (by kernel_rfl) (by kernel_rfl) (fun _ _ _ h => h) (yields_eqH (by kernel_rfl) (.tmp 111) (.tmp 112) rfl E2 r hE2l.len hr.len z2 (unhide HZ2) rfl rfl) hHeld ?_
      simp [Act.put]
      refine wpAnyH_take (i := 29) (oi := _) (v := .bool z2) rfl (by kernel_rfl) (by kernel_rfl) (by kernel_rfl) (fun _ _ _ h => h) (Or.inl ⟨by rfl, fun w hSw => by go_simp⟩) hHeld ?_
      simp [Act.put]
      refine wpAnyH_take (i := 30) (oi := _) (v := .bool false) rfl (by kernel_rfl) (by kernel_rfl) (by kernel_rfl) (fun _ _ _ h => h) (Or.inl ⟨by rfl, fun w hSw => by go_simp⟩) hHeld ?_
      simp [Act.put]
      refine wpAnyH_take (i := 31) (oi := _) (v := .bool false) rfl (by kernel_rfl) (by kernel_rfl) (by kernel_rfl) (fun _ _ _ h => h) (Or.inl ⟨by rfl, fun w hSw => by go_simp⟩) hHeld ?_
      simp [Act.put]
      refine wpAnyH_done (by kernel_rfl) ?_ _
      have hH := hHeld
      clear hHeld
      go_upto_region 7 with fail
      by_cases heq : E1 = E2
      · have HEe : Hid (decide (E1 = E2) = true) := hide (decide_eq_true heq)
        have HEQ := hide heq
        clear heq
        replace hB := hB.later (drew_below _)
        refine wp_region_held_drew (S := Hold [(w.heap.size, a), (w.heap.size + 1, b), (w.heap.size + 1 + 1, r)]) (by kernel_rfl) hH.drew (fun hHeld => ?_)
        generalize World.drew _ = v9 at hHeld hB ⊢
        clear hH
        refine wpAnyH_take (i := 0) (oi := _) (v := .bool true) rfl (by kernel_rfl) (by kernel_rfl) (by kernel_rfl) (fun _ _ _ h => h) (Or.inl ⟨by rfl, fun w hSw => by go_simp⟩) hHeld ?_
        simp [Act.put]
        refine wpAnyH_take (i := 1) (oi := _) (v := .bool false) rfl (by kernel_rfl) (by kernel_rfl) (by kernel_rfl) (fun _ _ _ h => h) (Or.inl ⟨by rfl, fun w hSw => by go_simp⟩) hHeld ?_
        simp [Act.put]
        refine wpAnyH_take (i := 2) (oi := _) (v := .bool false) rfl (by kernel_rfl) (by kernel_rfl) (by kernel_rfl) (fun _ _ _ h => h) (Or.inl ⟨by rfl, fun w hSw => by go_simp⟩) hHeld ?_
        simp [Act.put]
        refine wpAnyH_take (i := 3) (oi := _) (v := .bool true) rfl (by kernel_rfl) (by kernel_rfl) (by kernel_rfl) (fun _ _ _ h => h) (Or.inl ⟨by rfl, fun w hSw => by go_simp⟩) hHeld ?_
        simp [Act.put]
        refine wpAnyH_take (i := 4) (oi := _) (v := .bool false) rfl (by kernel_rfl) (by kernel_rfl) (by kernel_rfl) (fun _ _ _ h => h) (Or.inl ⟨by rfl, fun w hSw => by go_simp⟩) hHeld ?_
        simp [Act.put]
        refine wpAnyH_take (i := 5) (oi := _) (v := .bool false) rfl (by kernel_rfl) (by kernel_rfl) (by kernel_rfl) (fun _ _ _ h => h) (Or.inl ⟨by rfl, fun w hSw => by go_simp⟩) hHeld ?_
        simp [Act.put]
        refine wpAnyH_take (i := 6) (oi := _) (v := .bool false) rfl (by kernel_rfl) (by kernel_rfl) (by kernel_rfl) (fun _ _ _ h => h) (Or.inl ⟨by rfl, fun w hSw => by go_simp⟩) hHeld ?_
        simp [Act.put]
        refine wpAnyH_take (i := 7) (oi := _) (v := hV a) rfl (by kernel_rfl) (by kernel_rfl) (by kernel_rfl) (fun _ _ _ h => h) (yields_hs (by kernel_rfl) (.tmp 7) rfl w.heap.size a (by simp) ha.len rfl) hHeld ?_
        simp [Act.put]
        refine wpAnyH_take (i := 8) (oi := _) (v := X) rfl (by kernel_rfl) (by kernel_rfl) (by kernel_rfl) (fun _ _ _ h => h) (Or.inl ⟨by rfl, fun w hSw => by go_simp⟩) hHeld ?_
        simp [Act.put]
        refine wpAnyH_take (i := 10) (oi := _) (v := hV b) rfl (by kernel_rfl) (by kernel_rfl) (by kernel_rfl) (fun _ _ _ h => h) (yields_hs (by kernel_rfl) (.tmp 9) rfl (w.heap.size + 1) b (by simp) hbb.len rfl) hHeld ?_
        simp [Act.put]
        refine wpAnyH_take (i := 11) (oi := _) (v := Y) rfl (by kernel_rfl) (by kernel_rfl) (by kernel_rfl) (fun _ _ _ h => h) (Or.inl ⟨by rfl, fun w hSw => by go_simp⟩) hHeld ?_
        simp [Act.put]
        refine wpAnyH_ready (rs := [9]) (by kernel_rfl) (by simp) ?_
        refine AllReadyH.cons rfl (fun K hKK => ?_) AllReadyH.nil
        go_simp
        refine (hE1 _ (hB.o1 (unhide HO1)) hB.ld).mono ?_
        rintro e v10 ⟨rfl, hb1⟩
        replace hB := hB.later hb1
        refine hKK.out _ _ (hHeld.later hb1) (fun hHeld => ?_)
        clear hKK K hb1
        refine wpAnyH_ready (rs := [12]) (by kernel_rfl) (by simp) ?_
        refine AllReadyH.cons rfl (fun K hKK => ?_) AllReadyH.nil
        go_simp
        refine (hE2 _ (hB.o2 (unhide HO2)) hB.ld).mono ?_
        rintro e v11 ⟨rfl, hb1⟩
        replace hB := hB.later hb1
        refine hKK.out _ _ (hHeld.later hb1) (fun hHeld => ?_)
        clear hKK K hb1
        refine wpAnyH_take (i := 13) (oi := _) (v := .bool (!true)) rfl (by kernel_rfl) (by kernel_rfl) (by kernel_rfl) (fun _ _ _ h => h) (yields_neH (by kernel_rfl) (.tmp 126) (.tmp 129) rfl E1 E2 hE1l.len hE2l.len true (unhide HEe) rfl rfl) hHeld ?_
        simp [Act.put]
        refine wpAnyH_take (i := 14) (oi := _) (v := .bool false) rfl (by kernel_rfl) (by kernel_rfl) (by kernel_rfl) (fun _ _ _ h => h) (Or.inl ⟨by rfl, fun w hSw => by go_simp⟩) hHeld ?_
        simp [Act.put]
        refine wpAnyH_done (by kernel_rfl) ?_ _
        have hH := hHeld
        clear hHeld
        have hpo1 := hB.o1 (unhide HO1)
        have hpo2 := hB.o2 (unhide HO2)
        obtain ⟨ax, cx, rfl, hcx, -, -⟩ := hpo1.sl
        obtain ⟨ay, cy, rfl, hcy, -, -⟩ := hpo2.sl
        obtain ⟨m, hm⟩ : ∃ m, m = lx.length := ⟨_, rfl⟩
        have hss : (msides i n).reverse.length = p.ls.length ∧ (msides i n).reverse.length = q.ls.length := by rw [List.length_reverse, msides_len]; exact ⟨(unhide HO1).symm, (unhide HO2).symm⟩
        have hmm : lx.length = mplen i n ∧ ly.length = mplen i n := by rw [unhide HLX, unhide HLY, mlay_len ndZ _ _ _ hss.1, mlay_len ndZ _ _ _ hss.2]; exact ⟨unhide HO1, unhide HO2⟩
        have hzl : (zsOf lx).length = m := by rw [hm]; simp [zsOf]
        have hzl2 : (zsOf ly).length = m := by rw [hm]; simp [zsOf]; omega
        rw [hzl] at hB hE1 hcx ⊢
        rw [hzl2] at hB hE2 hcy ⊢
        have hmb : m ≤ 65536 := by have := unhide HMP; have := unhide HN; omega
        have HM := hide (And.intro hm (And.intro hmm (And.intro hmb hss)))
        have wm : IntKind.i64.wrap ((m : Int) - 1) = (m : Int) - 1 := by rw [IntKind.wrap_i64]; omega
        have hst : Hid (m ≤ m ∧ (∀ j, m ≤ j → lx[j]? = ly[j]?) ∧ BS w _ _ W.heap.size w1.heap.size (.slice ax m cx) (.slice ay m cy) (zsOf lx) (zsOf ly) p q _ ∧ Hold [(w.heap.size, a), (w.heap.size + 1, b), (w.heap.size + 1 + 1, r)] _) := hide ⟨Nat.le_refl _, fun j hj => by rw [List.getElem?_eq_none (by omega), List.getElem?_eq_none (by omega)], hB, hH⟩
        clear hpo1 hpo2 hm hmm hzl hzl2 hB hH hE1 hE2 hC1 hC2 hss hmb
        go_wp2_with fail
        go_loopw [19] (fun kv wr => ∃ k : Nat, kv = .int .i64 ((k : Int) - 1) ∧ Hid (k ≤ m ∧ (∀ j, k ≤ j → lx[j]? = ly[j]?) ∧ BS w (p.ls.length = mplen i n) (q.ls.length = mplen i n) W.heap.size w1.heap.size (.slice ax m cx) (.slice ay m cy) (zsOf lx) (zsOf ly) p q wr ∧ Hold [(w.heap.size, a), (w.heap.size + 1, b), (w.heap.size + 1 + 1, r)] wr)) (fun kv _ => (intOf kv + 1).toNat)
        case atStart => exact ⟨m, rfl, hst⟩
        case round =>
          clear hst wm
          obtain ⟨k, hkv, HI⟩ := hrel
          obtain ⟨hkm, hall, hB, hH⟩ := unhide HI
          clear HI
          obtain ⟨hm, hmm, hmb, hss⟩ := unhide HM
          cases k with
          | zero =>
            have hkv2 : u19 = .int .i64 (-1) := by rw [hkv]; rfl
            subst hkv2
            have hlist : lx = ly := List.ext_getElem? fun j => hall j (Nat.zero_le _)
            obtain ⟨hab, hpq⟩ := mlay_same ndZ (msides i n).reverse a b p.ls q.ls hss.1 hss.2 (by have h9 := unhide HEE; have h8 := unhide HEQ; rw [h9.1, h9.2, unhide HLX, unhide HLY] at h8; exact h8) (by rw [← unhide HLX, ← unhide HLY]; exact hlist)
            have hdab : decide (a = b) = true := decide_eq_true hab
            clear hlist hab hkv hall hm hmm hss hmb
            go_wp2_with (first
              | refine wpList_load_hs hH (.tmp 7) rfl (by kernel_rfl) w.heap.size a (by simp) ha.len rfl ?_
              | refine wpList_load_hs hH (.tmp 9) rfl (by kernel_rfl) (w.heap.size + 1) b (by simp) hbb.len rfl ?_
              | refine wpList_eqH (by kernel_rfl) (.tmp 171) (.tmp 172) rfl a b ha.len hbb.len true hdab rfl rfl ?_
              | (go_at_call 21; refine (same_yes p q _ hB.p1 hB.p2 hpq).mono ?_; rintro e w8 ⟨rfl, hb8⟩; replace hB := hB.later hb8; clear hb8))
            refine bodyPost_ret (results_tmp rfl _ _ _) rfl ?_
            exact ⟨rfl, hB.be⟩
          | succ k =>
            have hkv2 : u19 = .int .i64 (k : Int) := by rw [hkv]; congr 1; omega
            subst hkv2
            obtain ⟨⟨x1, x2⟩, hx⟩ : ∃ z, lx[k]? = some z := ⟨_, List.getElem?_eq_getElem (by omega)⟩
            obtain ⟨⟨y1, y2⟩, hy⟩ : ∃ z, ly[k]? = some z := ⟨_, List.getElem?_eq_getElem (by omega)⟩
            obtain ⟨h1l, h2l⟩ : Hs x1 ∧ Hs x2 := (unhide HXS).1 (x1, x2) (List.mem_of_getElem? hx)
            obtain ⟨h3l, h4l⟩ : Hs y1 ∧ Hs y2 := (unhide HXS).2 (y1, y2) (List.mem_of_getElem? hy)
            have hxl : (x1 ++ x2).length = 64 := by simp [h1l.len, h2l.len]
            have hyl : (y1 ++ y2).length = 64 := by simp [h3l.len, h4l.len]
            obtain ⟨gx, eax, hgx, hX, -⟩ := (hB.o1 (unhide HO1)).at_ (pair_at hx)
            obtain ⟨gy, eay, hgy, hY, -⟩ := (hB.o2 (unhide HO2)).at_ (pair_at hy)
            subst eax
            subst eay
            have i1 : k < m := by omega
            have i2 : (0 : Int) ≤ (k : Int) := by omega
            have w3 : IntKind.i64.wrap ((k : Int) - 1) = (k : Int) - 1 := by rw [IntKind.wrap_i64]; omega
            by_cases hsame : x1 ++ x2 = y1 ++ y2
            · have HPE : Hid (decide (x1 ++ x2 = y1 ++ y2) = true) := hide (decide_eq_true hsame)
              have HALL : Hid (k ≤ m ∧ ∀ j, k ≤ j → lx[j]? = ly[j]?) := hide ⟨by omega, fun j hj => by
                by_cases hjk : j = k
                · have e1 : x1 = y1 := List.append_inj_left hsame (by rw [h1l.len, h3l.len])
                  have e2 : x2 = y2 := List.append_inj_right hsame (by rw [h1l.len, h3l.len])
                  rw [hjk, hx, hy, e1, e2]
                · exact hall j (by omega)⟩
              clear hkv hall hm hmm hss hmb hx hy hsame hkm
              go_upto_region 12 with fail
              refine wp_region_noPanic ?_
              replace hB := hB.later (drew_below _)
              replace hH := hH.drew
              refine wp_region_held_drew (S := fun w9 => w9.rangeAt gx (k * 64) (U8 (x1 ++ x2)) ∧ w9.rangeAt gy (k * 64) (U8 (y1 ++ y2))) (by kernel_rfl) ⟨rangeAt_later hX (drew_below _) hgx, rangeAt_later hY (drew_below _) hgy⟩ (fun hHeld => ?_)
              generalize World.drew _ = v21 at hHeld hB hH ⊢
              clear hX hY
              refine wpAnyH_take (i := 0) (oi := _) (v := .slice (some ⟨gx, 0, none⟩) m cx) rfl (by kernel_rfl) (by kernel_rfl) (by kernel_rfl) (fun _ _ _ h => h) (Or.inl ⟨by rfl, fun w hSw => by go_simp⟩) hHeld ?_
              simp [Act.put]
              refine wpAnyH_take (i := 1) (oi := _) (v := .int .i64 (k : Int)) rfl (by kernel_rfl) (by kernel_rfl) (by kernel_rfl) (fun _ _ _ h => h) (Or.inl ⟨by rfl, fun w hSw => by go_simp⟩) hHeld ?_
              simp [Act.put]
              refine wpAnyH_take (i := 2) (oi := _) (v := .pointer (some ⟨gx, k * 64, none⟩)) rfl (by kernel_rfl) (by kernel_rfl) (by kernel_rfl) (fun _ _ _ h => h) (Or.inl ⟨by rfl, fun w hSw => by go_simp⟩) hHeld ?_
              simp [Act.put]
              refine wpAnyH_take (i := 3) (oi := _) (v := hV (x1 ++ x2)) rfl (by kernel_rfl) (by kernel_rfl) (by kernel_rfl) (fun _ _ _ h => h) (yieldsIf_load_mid (by rfl) _ _ rfl _ _ rfl (U8 (x1 ++ x2)) _ (fun _ h9 => h9.1) Tryd.underlying44 rfl (hzP' hxl)) hHeld ?_
              simp [Act.put]
              refine wpAnyH_take (i := 4) (oi := _) (v := .slice (some ⟨gy, 0, none⟩) m cy) rfl (by kernel_rfl) (by kernel_rfl) (by kernel_rfl) (fun _ _ _ h => h) (Or.inl ⟨by rfl, fun w hSw => by go_simp⟩) hHeld ?_
              simp [Act.put]
              refine wpAnyH_take (i := 5) (oi := _) (v := .int .i64 (k : Int)) rfl (by kernel_rfl) (by kernel_rfl) (by kernel_rfl) (fun _ _ _ h => h) (Or.inl ⟨by rfl, fun w hSw => by go_simp⟩) hHeld ?_
              simp [Act.put]
              refine wpAnyH_take (i := 6) (oi := _) (v := .pointer (some ⟨gy, k * 64, none⟩)) rfl (by kernel_rfl) (by kernel_rfl) (by kernel_rfl) (fun _ _ _ h => h) (Or.inl ⟨by rfl, fun w hSw => by go_simp⟩) hHeld ?_
              simp [Act.put]
              refine wpAnyH_take (i := 7) (oi := _) (v := hV (y1 ++ y2)) rfl (by kernel_rfl) (by kernel_rfl) (by kernel_rfl) (fun _ _ _ h => h) (yieldsIf_load_mid (by rfl) _ _ rfl _ _ rfl (U8 (y1 ++ y2)) _ (fun _ h9 => h9.2) Tryd.underlying44 rfl (hzP' hyl)) hHeld ?_
              simp [Act.put]
              refine wpAnyH_take (i := 8) (oi := _) (v := .bool (!true)) rfl (by kernel_rfl) (by kernel_rfl) (by kernel_rfl) (fun _ _ _ h => h) (yields_neP (by kernel_rfl) (.tmp 142) (.tmp 146) rfl x1 x2 y1 y2 h1l.len h2l.len h3l.len h4l.len true (unhide HPE) rfl rfl) hHeld ?_
              simp [Act.put]
              refine wpAnyH_done (by kernel_rfl) ?_ _
              unfold NoPanic
              obtain ⟨hX, hY⟩ := hHeld
              clear hHeld
              replace hgx : gx < v21.heap.size := range_ltP hX hxl
              replace hgy : gy < v21.heap.size := range_ltP hY hyl

              go_wp2_with fail
              go_roundw
              case rel => exact ⟨k, rfl, hide ⟨(unhide HALL).1, (unhide HALL).2, hB, hH⟩⟩
              case measure => simp [intOf]
            · have HPE : Hid (decide (x1 ++ x2 = y1 ++ y2) = false) := hide (decide_eq_false hsame)
              have HND : Hid (decide (ndZ x1 x2 = ndZ y1 y2) = true) := hide (decide_eq_true (by
                have h9 := unhide HEE
                have h8 := unhide HEQ
                rw [h9.1, h9.2, unhide HLX, unhide HLY] at h8
                rw [unhide HLX] at hx
                rw [unhide HLY] at hy
                exact mlay_bind ndZ (msides i n).reverse a b p.ls q.ls hss.1 hss.2 h8 k (x1, x2) (y1, y2) hx hy (fun j hj => by rw [← unhide HLX, ← unhide HLY]; exact hall j (by omega))))
              clear hkv hall hm hmm hss hmb hx hy hsame hkm
              go_upto_region 12 with fail
              refine wp_region_noPanic ?_
              replace hB := hB.later (drew_below _)
              replace hH := hH.drew
              refine wp_region_held_drew (S := fun w9 => w9.rangeAt gx (k * 64) (U8 (x1 ++ x2)) ∧ w9.rangeAt gy (k * 64) (U8 (y1 ++ y2))) (by kernel_rfl) ⟨rangeAt_later hX (drew_below _) hgx, rangeAt_later hY (drew_below _) hgy⟩ (fun hHeld => ?_)
              generalize World.drew _ = v21 at hHeld hB hH ⊢
              clear hX hY
              refine wpAnyH_take (i := 0) (oi := _) (v := .slice (some ⟨gx, 0, none⟩) m cx) rfl (by kernel_rfl) (by kernel_rfl) (by kernel_rfl) (fun _ _ _ h => h) (Or.inl ⟨by rfl, fun w hSw => by go_simp⟩) hHeld ?_
              simp [Act.put]
              refine wpAnyH_take (i := 1) (oi := _) (v := .int .i64 (k : Int)) rfl (by kernel_rfl) (by kernel_rfl) (by kernel_rfl) (fun _ _ _ h => h) (Or.inl ⟨by rfl, fun w hSw => by go_simp⟩) hHeld ?_
              simp [Act.put]
              refine wpAnyH_take (i := 2) (oi := _) (v := .pointer (some ⟨gx, k * 64, none⟩)) rfl (by kernel_rfl) (by kernel_rfl) (by kernel_rfl) (fun _ _ _ h => h) (Or.inl ⟨by rfl, fun w hSw => by go_simp⟩) hHeld ?_
              simp [Act.put]
              refine wpAnyH_take (i := 3) (oi := _) (v := hV (x1 ++ x2)) rfl (by kernel_rfl) (by kernel_rfl) (by kernel_rfl) (fun _ _ _ h => h) (yieldsIf_load_mid (by rfl) _ _ rfl _ _ rfl (U8 (x1 ++ x2)) _ (fun _ h9 => h9.1) Tryd.underlying44 rfl (hzP' hxl)) hHeld ?_
              simp [Act.put]
              refine wpAnyH_take (i := 4) (oi := _) (v := .slice (some ⟨gy, 0, none⟩) m cy) rfl (by kernel_rfl) (by kernel_rfl) (by kernel_rfl) (fun _ _ _ h => h) (Or.inl ⟨by rfl, fun w hSw => by go_simp⟩) hHeld ?_
              simp [Act.put]
              refine wpAnyH_take (i := 5) (oi := _) (v := .int .i64 (k : Int)) rfl (by kernel_rfl) (by kernel_rfl) (by kernel_rfl) (fun _ _ _ h => h) (Or.inl ⟨by rfl, fun w hSw => by go_simp⟩) hHeld ?_
              simp [Act.put]
              refine wpAnyH_take (i := 6) (oi := _) (v := .pointer (some ⟨gy, k * 64, none⟩)) rfl (by kernel_rfl) (by kernel_rfl) (by kernel_rfl) (fun _ _ _ h => h) (Or.inl ⟨by rfl, fun w hSw => by go_simp⟩) hHeld ?_
              simp [Act.put]
              refine wpAnyH_take (i := 7) (oi := _) (v := hV (y1 ++ y2)) rfl (by kernel_rfl) (by kernel_rfl) (by kernel_rfl) (fun _ _ _ h => h) (yieldsIf_load_mid (by rfl) _ _ rfl _ _ rfl (U8 (y1 ++ y2)) _ (fun _ h9 => h9.2) Tryd.underlying44 rfl (hzP' hyl)) hHeld ?_
              simp [Act.put]
              refine wpAnyH_take (i := 8) (oi := _) (v := .bool (!false)) rfl (by kernel_rfl) (by kernel_rfl) (by kernel_rfl) (fun _ _ _ h => h) (yields_neP (by kernel_rfl) (.tmp 142) (.tmp 146) rfl x1 x2 y1 y2 h1l.len h2l.len h3l.len h4l.len false (unhide HPE) rfl rfl) hHeld ?_
              simp [Act.put]
              refine wpAnyH_done (by kernel_rfl) ?_ _
              unfold NoPanic
              obtain ⟨hX, hY⟩ := hHeld
              clear hHeld
              replace hgx : gx < v21.heap.size := range_ltP hX hxl
              replace hgy : gy < v21.heap.size := range_ltP hY hyl

              go_upto_region 13 with fail
              refine wp_region_noPanic ?_
              replace hB := hB.later (drew_below _)
              replace hH := hH.drew
              refine wp_region_held_drew (S := fun w9 => w9.rangeAt gx (k * 64) (U8 (x1 ++ x2)) ∧ w9.rangeAt gy (k * 64) (U8 (y1 ++ y2))) (by kernel_rfl) ⟨rangeAt_later hX (drew_below _) hgx, rangeAt_later hY (drew_below _) hgy⟩ (fun hHeld => ?_)
              generalize World.drew _ = v31 at hHeld hB hH ⊢
              clear hX hY
              refine wpAnyH_take (i := 0) (oi := _) (v := .slice (some ⟨gx, 0, none⟩) m cx) rfl (by kernel_rfl) (by kernel_rfl) (by kernel_rfl) (fun _ _ _ h => h) (Or.inl ⟨by rfl, fun w hSw => by go_simp⟩) hHeld ?_
              simp [Act.put]
              refine wpAnyH_take (i := 1) (oi := _) (v := .int .i64 (k : Int)) rfl (by kernel_rfl) (by kernel_rfl) (by kernel_rfl) (fun _ _ _ h => h) (Or.inl ⟨by rfl, fun w hSw => by go_simp⟩) hHeld ?_
              simp [Act.put]
              refine wpAnyH_take (i := 2) (oi := _) (v := .pointer (some ⟨gx, k * 64, none⟩)) rfl (by kernel_rfl) (by kernel_rfl) (by kernel_rfl) (fun _ _ _ h => h) (Or.inl ⟨by rfl, fun w hSw => by go_simp⟩) hHeld ?_
              simp [Act.put]
              refine wpAnyH_take (i := 3) (oi := _) (v := .pointer (some ⟨gx, k * 64, none⟩)) rfl (by kernel_rfl) (by kernel_rfl) (by kernel_rfl) (fun _ _ _ h => h) (Or.inl ⟨by rfl, fun w hSw => by go_simp⟩) hHeld ?_
              simp [Act.put]
              refine wpAnyH_take (i := 4) (oi := _) (v := hV x1) rfl (by kernel_rfl) (by kernel_rfl) (by kernel_rfl) (fun _ _ _ h => h) (yieldsIf_load_mid (by rfl) _ _ rfl _ _ rfl (U8 x1) _ (fun _ h9 => range_left h9.1) Tryd.underlying27 rfl (hz_of' h1l.len)) hHeld ?_
              simp [Act.put]
              refine wpAnyH_take (i := 5) (oi := _) (v := .slice (some ⟨gx, 0, none⟩) m cx) rfl (by kernel_rfl) (by kernel_rfl) (by kernel_rfl) (fun _ _ _ h => h) (Or.inl ⟨by rfl, fun w hSw => by go_simp⟩) hHeld ?_
              simp [Act.put]
              refine wpAnyH_take (i := 6) (oi := _) (v := .int .i64 (k : Int)) rfl (by kernel_rfl) (by kernel_rfl) (by kernel_rfl) (fun _ _ _ h => h) (Or.inl ⟨by rfl, fun w hSw => by go_simp⟩) hHeld ?_
              simp [Act.put]
              refine wpAnyH_take (i := 7) (oi := _) (v := .pointer (some ⟨gx, k * 64, none⟩)) rfl (by kernel_rfl) (by kernel_rfl) (by kernel_rfl) (fun _ _ _ h => h) (Or.inl ⟨by rfl, fun w hSw => by go_simp⟩) hHeld ?_
              simp [Act.put]
              refine wpAnyH_take (i := 8) (oi := _) (v := .pointer (some ⟨gx, k * 64 + 32, none⟩)) rfl (by kernel_rfl) (by kernel_rfl) (by kernel_rfl) (fun _ _ _ h => h) (Or.inl ⟨by rfl, fun w hSw => by go_simp⟩) hHeld ?_
              simp [Act.put]
              refine wpAnyH_take (i := 9) (oi := _) (v := hV x2) rfl (by kernel_rfl) (by kernel_rfl) (by kernel_rfl) (fun _ _ _ h => h) (yieldsIf_load_mid (by rfl) _ _ rfl _ _ rfl (U8 x2) _ (fun _ h9 => range_right h9.1 h1l.len) Tryd.underlying27 rfl (hz_of' h2l.len)) hHeld ?_
              simp [Act.put]
              refine wpAnyH_take (i := 11) (oi := _) (v := .slice (some ⟨gy, 0, none⟩) m cy) rfl (by kernel_rfl) (by kernel_rfl) (by kernel_rfl) (fun _ _ _ h => h) (Or.inl ⟨by rfl, fun w hSw => by go_simp⟩) hHeld ?_
              simp [Act.put]
              refine wpAnyH_take (i := 12) (oi := _) (v := .int .i64 (k : Int)) rfl (by kernel_rfl) (by kernel_rfl) (by kernel_rfl) (fun _ _ _ h => h) (Or.inl ⟨by rfl, fun w hSw => by go_simp⟩) hHeld ?_
              simp [Act.put]
              refine wpAnyH_take (i := 13) (oi := _) (v := .pointer (some ⟨gy, k * 64, none⟩)) rfl (by kernel_rfl) (by kernel_rfl) (by kernel_rfl) (fun _ _ _ h => h) (Or.inl ⟨by rfl, fun w hSw => by go_simp⟩) hHeld ?_
              simp [Act.put]
              refine wpAnyH_take (i := 14) (oi := _) (v := .pointer (some ⟨gy, k * 64, none⟩)) rfl (by kernel_rfl) (by kernel_rfl) (by kernel_rfl) (fun _ _ _ h => h) (Or.inl ⟨by rfl, fun w hSw => by go_simp⟩) hHeld ?_
              simp [Act.put]
              refine wpAnyH_take (i := 15) (oi := _) (v := hV y1) rfl (by kernel_rfl) (by kernel_rfl) (by kernel_rfl) (fun _ _ _ h => h) (yieldsIf_load_mid (by rfl) _ _ rfl _ _ rfl (U8 y1) _ (fun _ h9 => range_left h9.2) Tryd.underlying27 rfl (hz_of' h3l.len)) hHeld ?_
              simp [Act.put]
              refine wpAnyH_take (i := 16) (oi := _) (v := .slice (some ⟨gy, 0, none⟩) m cy) rfl (by kernel_rfl) (by kernel_rfl) (by kernel_rfl) (fun _ _ _ h => h) (Or.inl ⟨by rfl, fun w hSw => by go_simp⟩) hHeld ?_
              simp [Act.put]
              refine wpAnyH_take (i := 17) (oi := _) (v := .int .i64 (k : Int)) rfl (by kernel_rfl) (by kernel_rfl) (by kernel_rfl) (fun _ _ _ h => h) (Or.inl ⟨by rfl, fun w hSw => by go_simp⟩) hHeld ?_
              simp [Act.put]
              refine wpAnyH_take (i := 18) (oi := _) (v := .pointer (some ⟨gy, k * 64, none⟩)) rfl (by kernel_rfl) (by kernel_rfl) (by kernel_rfl) (fun _ _ _ h => h) (Or.inl ⟨by rfl, fun w hSw => by go_simp⟩) hHeld ?_
              simp [Act.put]
              refine wpAnyH_take (i := 19) (oi := _) (v := .pointer (some ⟨gy, k * 64 + 32, none⟩)) rfl (by kernel_rfl) (by kernel_rfl) (by kernel_rfl) (fun _ _ _ h => h) (Or.inl ⟨by rfl, fun w hSw => by go_simp⟩) hHeld ?_
              simp [Act.put]
              refine wpAnyH_take (i := 20) (oi := _) (v := hV y2) rfl (by kernel_rfl) (by kernel_rfl) (by kernel_rfl) (fun _ _ _ h => h) (yieldsIf_load_mid (by rfl) _ _ rfl _ _ rfl (U8 y2) _ (fun _ h9 => range_right h9.2 h3l.len) Tryd.underlying27 rfl (hz_of' h4l.len)) hHeld ?_
              simp [Act.put]
              refine wpAnyH_ready (rs := [10]) (by kernel_rfl) (by simp) ?_
              refine AllReadyH.cons rfl (fun K hKK => ?_) AllReadyH.nil
              go_simp
              refine (node_any x1 x2 _ h1l h2l hB.ld).mono ?_
              rintro e v32 ⟨rfl, hb1⟩
              replace hB := hB.later hb1
              refine hKK.out _ _ ⟨rangeAt_later hHeld.1 hb1 (range_ltP hHeld.1 hxl), rangeAt_later hHeld.2 hb1 (range_ltP hHeld.2 hyl)⟩ (fun hHeld => ?_)
              clear hKK K hb1
              refine wpAnyH_ready (rs := [21]) (by kernel_rfl) (by simp) ?_
              refine AllReadyH.cons rfl (fun K hKK => ?_) AllReadyH.nil
              go_simp
              refine (node_any y1 y2 _ h3l h4l hB.ld).mono ?_
              rintro e v33 ⟨rfl, hb1⟩
              replace hB := hB.later hb1
              refine hKK.out _ _ ⟨rangeAt_later hHeld.1 hb1 (range_ltP hHeld.1 hxl), rangeAt_later hHeld.2 hb1 (range_ltP hHeld.2 hyl)⟩ (fun hHeld => ?_)
              clear hKK K hb1
              refine wpAnyH_take (i := 22) (oi := _) (v := .bool true) rfl (by kernel_rfl) (by kernel_rfl) (by kernel_rfl) (fun _ _ _ h => h) (yields_eqH (by kernel_rfl) (.tmp 158) (.tmp 169) rfl (ndZ x1 x2) (ndZ y1 y2) (ndZ_hs _ _).len (ndZ_hs _ _).len true (unhide HND) rfl rfl) hHeld ?_
              simp [Act.put]
              refine wpAnyH_take (i := 23) (oi := _) (v := .bool true) rfl (by kernel_rfl) (by kernel_rfl) (by kernel_rfl) (fun _ _ _ h => h) (Or.inl ⟨by rfl, fun w hSw => by go_simp⟩) hHeld ?_
              simp [Act.put]
              refine wpAnyH_done (by kernel_rfl) ?_ _
              unfold NoPanic

              go_wp2
              refine bodyPost_ret (results_tmp rfl _ _ _) rfl ?_
              exact ⟨rfl, hB.be⟩

      · have HEe : Hid (decide (E1 = E2) = false) := hide (decide_eq_false heq)
        clear heq
        replace hB := hB.later (drew_below _)
        refine wp_region_held_drew (S := Hold [(w.heap.size, a), (w.heap.size + 1, b), (w.heap.size + 1 + 1, r)]) (by kernel_rfl) hH.drew (fun hHeld => ?_)
        generalize World.drew _ = v9 at hHeld hB ⊢
        clear hH
        refine wpAnyH_take (i := 0) (oi := _) (v := .bool true) rfl (by kernel_rfl) (by kernel_rfl) (by kernel_rfl) (fun _ _ _ h => h) (Or.inl ⟨by rfl, fun w hSw => by go_simp⟩) hHeld ?_
        simp [Act.put]
        refine wpAnyH_take (i := 1) (oi := _) (v := .bool false) rfl (by kernel_rfl) (by kernel_rfl) (by kernel_rfl) (fun _ _ _ h => h) (Or.inl ⟨by rfl, fun w hSw => by go_simp⟩) hHeld ?_
        simp [Act.put]
        refine wpAnyH_take (i := 2) (oi := _) (v := .bool false) rfl (by kernel_rfl) (by kernel_rfl) (by kernel_rfl) (fun _ _ _ h => h) (Or.inl ⟨by rfl, fun w hSw => by go_simp⟩) hHeld ?_
        simp [Act.put]
        refine wpAnyH_take (i := 3) (oi := _) (v := .bool true) rfl (by kernel_rfl) (by kernel_rfl) (by kernel_rfl) (fun _ _ _ h => h) (Or.inl ⟨by rfl, fun w hSw => by go_simp⟩) hHeld ?_
        simp [Act.put]
        refine wpAnyH_take (i := 4) (oi := _) (v := .bool false) rfl (by kernel_rfl) (by kernel_rfl) (by kernel_rfl) (fun _ _ _ h => h) (Or.inl ⟨by rfl, fun w hSw => by go_simp⟩) hHeld ?_
        simp [Act.put]
        refine wpAnyH_take (i := 5) (oi := _) (v := .bool false) rfl (by kernel_rfl) (by kernel_rfl) (by kernel_rfl) (fun _ _ _ h => h) (Or.inl ⟨by rfl, fun w hSw => by go_simp⟩) hHeld ?_
        simp [Act.put]
        refine wpAnyH_take (i := 6) (oi := _) (v := .bool false) rfl (by kernel_rfl) (by kernel_rfl) (by kernel_rfl) (fun _ _ _ h => h) (Or.inl ⟨by rfl, fun w hSw => by go_simp⟩) hHeld ?_
        simp [Act.put]
        refine wpAnyH_take (i := 7) (oi := _) (v := hV a) rfl (by kernel_rfl) (by kernel_rfl) (by kernel_rfl) (fun _ _ _ h => h) (yields_hs (by kernel_rfl) (.tmp 7) rfl w.heap.size a (by simp) ha.len rfl) hHeld ?_
        simp [Act.put]
        refine wpAnyH_take (i := 8) (oi := _) (v := X) rfl (by kernel_rfl) (by kernel_rfl) (by kernel_rfl) (fun _ _ _ h => h) (Or.inl ⟨by rfl, fun w hSw => by go_simp⟩) hHeld ?_
        simp [Act.put]
        refine wpAnyH_take (i := 10) (oi := _) (v := hV b) rfl (by kernel_rfl) (by kernel_rfl) (by kernel_rfl) (fun _ _ _ h => h) (yields_hs (by kernel_rfl) (.tmp 9) rfl (w.heap.size + 1) b (by simp) hbb.len rfl) hHeld ?_
        simp [Act.put]
        refine wpAnyH_take (i := 11) (oi := _) (v := Y) rfl (by kernel_rfl) (by kernel_rfl) (by kernel_rfl) (fun _ _ _ h => h) (Or.inl ⟨by rfl, fun w hSw => by go_simp⟩) hHeld ?_
        simp [Act.put]
        refine wpAnyH_ready (rs := [9]) (by kernel_rfl) (by simp) ?_
        refine AllReadyH.cons rfl (fun K hKK => ?_) AllReadyH.nil
        go_simp
        refine (hE1 _ (hB.o1 (unhide HO1)) hB.ld).mono ?_
        rintro e v10 ⟨rfl, hb1⟩
        replace hB := hB.later hb1
        refine hKK.out _ _ (hHeld.later hb1) (fun hHeld => ?_)
        clear hKK K hb1
        refine wpAnyH_ready (rs := [12]) (by kernel_rfl) (by simp) ?_
        refine AllReadyH.cons rfl (fun K hKK => ?_) AllReadyH.nil
        go_simp
        refine (hE2 _ (hB.o2 (unhide HO2)) hB.ld).mono ?_
        rintro e v11 ⟨rfl, hb1⟩
        replace hB := hB.later hb1
        refine hKK.out _ _ (hHeld.later hb1) (fun hHeld => ?_)
        clear hKK K hb1
        refine wpAnyH_take (i := 13) (oi := _) (v := .bool (!false)) rfl (by kernel_rfl) (by kernel_rfl) (by kernel_rfl) (fun _ _ _ h => h) (yields_neH (by kernel_rfl) (.tmp 126) (.tmp 129) rfl E1 E2 hE1l.len hE2l.len false (unhide HEe) rfl rfl) hHeld ?_
        simp [Act.put]
        refine wpAnyH_take (i := 14) (oi := _) (v := .bool true) rfl (by kernel_rfl) (by kernel_rfl) (by kernel_rfl) (fun _ _ _ h => h) (Or.inl ⟨by rfl, fun w hSw => by go_simp⟩) hHeld ?_
        simp [Act.put]
        refine wpAnyH_done (by kernel_rfl) ?_ _
        have hH := hHeld
        clear hHeld
        go_wp2
        refine bodyPost_ret (results_tmp rfl _ _ _) rfl ?_
        exact ⟨rfl, hB.be⟩

    · rw [decide_eq_true ok] at hCk1 hCl1
      rw [decide_eq_false is] at hCk2 hCl2
      have HO1 := hide ok
      have HO2 := hide is
      obtain ⟨z1, hz1⟩ : ∃ z, z = eqB E1 r := ⟨_, rfl⟩
      have HZ1 : Hid (decide (E1 = r) = z1) := hide (by rw [hz1]; rfl)
      rw [Bool.true_and, ← hz1] at hCk1
      clear hz1
      rw [Bool.false_and] at hCk2
      have hC1 := hCk1
      have hC2 := hCk2
      clear hCk1 hCk2 ok is
      unfold hV
      go_enter Tryd.func5, Tryd.ntmps5
      go_upto_region 1 with fail
      rw [← unhide HW]
      rw [show Value.agg (U8 a).toArray = hV a from rfl, show Value.agg (U8 b).toArray = hV b from rfl, show Value.agg (U8 r).toArray = hV r from rfl]
      go_upto_region 4 with (first
        | refine wpList_load_hs hH (.tmp 7) rfl (by kernel_rfl) w.heap.size a (by simp) ha.len rfl ?_
        | (go_at_call 19; refine (hCl1 W hpW hLW).mono ?_; rintro e w1 ⟨X, rfl, hX1, hb1⟩; replace hH := hH.later hb1; replace hpW := hpW.later hb1; replace hqW := hqW.later hb1; replace hLW := hLW.later hb1; replace hb := bnext hb hb.size hb1; clear hb1))
      go_upto_region 5 with (first
        | refine wpList_load_hs hH (.tmp 9) rfl (by kernel_rfl) (w.heap.size + 1) b (by simp) hbb.len rfl ?_
        | (go_at_call 19; refine (hCl2 w1 hqW hLW).mono ?_; rintro e w2 ⟨Y, rfl, hY1, hb1⟩; have hB : BS w _ _ W.heap.size w1.heap.size X Y (zsOf lx) (zsOf ly) p q w2 := ⟨fun c9 => (hX1 c9).later hb1, hY1, hpW.later hb1, hqW.later hb1, hLW.later hb1, bnext hb hb.size hb1⟩; replace hH := hH.later hb1; clear hb1 hX1 hY1 hpW hqW hLW hb))
      have hE1 := hEn1 X W.heap.size
      have hE2 := hEn2 Y w1.heap.size
      clear hEn1 hEn2 hCl1 hCl2
      replace hB := hB.later (drew_below _)
      refine wp_region_held_drew (S := Hold [(w.heap.size, a), (w.heap.size + 1, b), (w.heap.size + 1 + 1, r)]) (by kernel_rfl) hH.drew (fun hHeld => ?_)
      generalize World.drew _ = v1 at hHeld hB ⊢
      clear hH
      refine wpAnyH_take (i := 0) (oi := _) (v := hV a) rfl (by kernel_rfl) (by kernel_rfl) (by kernel_rfl) (fun _ _ _ h => h) (yields_hs (by kernel_rfl) (.tmp 7) rfl w.heap.size a (by simp) ha.len rfl) hHeld ?_
      simp [Act.put]
      refine wpAnyH_take (i := 1) (oi := _) (v := .int .i64 I) rfl (by kernel_rfl) (by kernel_rfl) (by kernel_rfl) (fun _ _ _ h => h) (Or.inl ⟨by rfl, fun w hSw => by go_simp⟩) hHeld ?_
      simp [Act.put]
      refine wpAnyH_take (i := 2) (oi := _) (v := .int .i64 N) rfl (by kernel_rfl) (by kernel_rfl) (by kernel_rfl) (fun _ _ _ h => h) (Or.inl ⟨by rfl, fun w hSw => by go_simp⟩) hHeld ?_
      simp [Act.put]
      refine wpAnyH_take (i := 3) (oi := _) (v := .slice p.a p.n p.c) rfl (by kernel_rfl) (by kernel_rfl) (by kernel_rfl) (fun _ _ _ h => h) (Or.inl ⟨by rfl, fun w hSw => by go_simp⟩) hHeld ?_
      simp [Act.put]
      refine wpAnyH_take (i := 4) (oi := _) (v := hV r) rfl (by kernel_rfl) (by kernel_rfl) (by kernel_rfl) (fun _ _ _ h => h) (yields_hs (by kernel_rfl) (.tmp 13) rfl (w.heap.size + 1 + 1) r (by simp) hr.len rfl) hHeld ?_
      simp [Act.put]
      refine wpAnyH_take (i := 6) (oi := _) (v := .bool true) rfl (by kernel_rfl) (by kernel_rfl) (by kernel_rfl) (fun _ _ _ h => h) (Or.inl ⟨by rfl, fun w hSw => by go_simp⟩) hHeld ?_
      simp [Act.put]
      refine wpAnyH_ready (rs := [5]) (by kernel_rfl) (by simp) ?_
      refine AllReadyH.cons rfl (fun K hKK => ?_) AllReadyH.nil
      go_simp
      refine (hC1 _ hB.p1 hB.ld).mono ?_
      rintro e v2 ⟨rfl, hb1⟩
      replace hB := hB.later hb1
      refine hKK.out _ _ (hHeld.later hb1) (fun hHeld => ?_)
      clear hKK K hb1
      refine wpAnyH_take (i := 7) (oi := _) (v := .bool true) rfl (by kernel_rfl) (by kernel_rfl) (by kernel_rfl) (fun _ _ _ h => h) (Or.inl ⟨by rfl, fun w hSw => by go_simp⟩) hHeld ?_
      simp [Act.put]
      refine wpAnyH_take (i := 8) (oi := _) (v := hV a) rfl (by kernel_rfl) (by kernel_rfl) (by kernel_rfl) (fun _ _ _ h => h) (yields_hs (by kernel_rfl) (.tmp 7) rfl w.heap.size a (by simp) ha.len rfl) hHeld ?_
      simp [Act.put]
      refine wpAnyH_take (i := 9) (oi := _) (v := X) rfl (by kernel_rfl) (by kernel_rfl) (by kernel_rfl) (fun _ _ _ h => h) (Or.inl ⟨by rfl, fun w hSw => by go_simp⟩) hHeld ?_
      simp [Act.put]
      refine wpAnyH_take (i := 11) (oi := _) (v := hV r) rfl (by kernel_rfl) (by kernel_rfl) (by kernel_rfl) (fun _ _ _ h => h) (yields_hs (by kernel_rfl) (.tmp 13) rfl (w.heap.size + 1 + 1) r (by simp) hr.len rfl) hHeld ?_
      simp [Act.put]
      refine wpAnyH_ready (rs := [10]) (by kernel_rfl) (by simp) ?_
      refine AllReadyH.cons rfl (fun K hKK => ?_) AllReadyH.nil
      go_simp
      refine (hE1 _ (hB.o1 (unhide HO1)) hB.ld).mono ?_
      rintro e v3 ⟨rfl, hb1⟩
      replace hB := hB.later hb1
      refine hKK.out _ _ (hHeld.later hb1) (fun hHeld => ?_)
      clear hKK K hb1
      refine wpAnyH_take (i := 12) (oi := _) (v := .bool z1) rfl (by kernel_rfl) (by kernel_rfl) (by kernel_rfl) (fun _ _ _ h => h) (yields_eqH (by kernel_rfl) (.tmp 95) (.tmp 96) rfl E1 r hE1l.len hr.len z1 (unhide HZ1) rfl rfl) hHeld ?_
      simp [Act.put]
      refine wpAnyH_take (i := 13) (oi := _) (v := .bool z1) rfl (by kernel_rfl) (by kernel_rfl) (by kernel_rfl) (fun _ _ _ h => h) (Or.inl ⟨by rfl, fun w hSw => by go_simp⟩) hHeld ?_
      simp [Act.put]
      refine wpAnyH_take (i := 14) (oi := _) (v := .bool false) rfl (by kernel_rfl) (by kernel_rfl) (by kernel_rfl) (fun _ _ _ h => h) (Or.inl ⟨by rfl, fun w hSw => by go_simp⟩) hHeld ?_
      simp [Act.put]
      refine wpAnyH_take (i := 15) (oi := _) (v := .bool false) rfl (by kernel_rfl) (by kernel_rfl) (by kernel_rfl) (fun _ _ _ h => h) (Or.inl ⟨by rfl, fun w hSw => by go_simp⟩) hHeld ?_
      simp [Act.put]
      refine wpAnyH_take (i := 16) (oi := _) (v := hV b) rfl (by kernel_rfl) (by kernel_rfl) (by kernel_rfl) (fun _ _ _ h => h) (yields_hs (by kernel_rfl) (.tmp 9) rfl (w.heap.size + 1) b (by simp) hbb.len rfl) hHeld ?_
      simp [Act.put]
      refine wpAnyH_take (i := 17) (oi := _) (v := .int .i64 I) rfl (by kernel_rfl) (by kernel_rfl) (by kernel_rfl) (fun _ _ _ h => h) (Or.inl ⟨by rfl, fun w hSw => by go_simp⟩) hHeld ?_
      simp [Act.put]
      refine wpAnyH_take (i := 18) (oi := _) (v := .int .i64 N) rfl (by kernel_rfl) (by kernel_rfl) (by kernel_rfl) (fun _ _ _ h => h) (Or.inl ⟨by rfl, fun w hSw => by go_simp⟩) hHeld ?_
      simp [Act.put]
      refine wpAnyH_take (i := 19) (oi := _) (v := .slice q.a q.n q.c) rfl (by kernel_rfl) (by kernel_rfl) (by kernel_rfl) (fun _ _ _ h => h) (Or.inl ⟨by rfl, fun w hSw => by go_simp⟩) hHeld ?_
      simp [Act.put]
      refine wpAnyH_take (i := 20) (oi := _) (v := hV r) rfl (by kernel_rfl) (by kernel_rfl) (by kernel_rfl) (fun _ _ _ h => h) (yields_hs (by kernel_rfl) (.tmp 13) rfl (w.heap.size + 1 + 1) r (by simp) hr.len rfl) hHeld ?_
      simp [Act.put]
      refine wpAnyH_take (i := 22) (oi := _) (v := .bool false) rfl (by kernel_rfl) (by kernel_rfl) (by kernel_rfl) (fun _ _ _ h => h) (Or.inl ⟨by rfl, fun w hSw => by go_simp⟩) hHeld ?_
      simp [Act.put]
      refine wpAnyH_ready (rs := [21]) (by kernel_rfl) (by simp) ?_
      refine AllReadyH.cons rfl (fun K hKK => ?_) AllReadyH.nil
      go_simp
      refine (hC2 _ hB.p2 hB.ld).mono ?_
      rintro e v4 ⟨rfl, hb1⟩
      replace hB := hB.later hb1
      refine hKK.out _ _ (hHeld.later hb1) (fun hHeld => ?_)
      clear hKK K hb1
      refine wpAnyH_take (i := 23) (oi := _) (v := .bool false) rfl (by kernel_rfl) (by kernel_rfl) (by kernel_rfl) (fun _ _ _ h => h) (Or.inl ⟨by rfl, fun w hSw => by go_simp⟩) hHeld ?_
      simp [Act.put]
      refine wpAnyH_take (i := 24) (oi := _) (v := undef) rfl (by kernel_rfl) (by kernel_rfl) (by kernel_rfl) (fun _ _ _ h => h) (Or.inr ⟨by rfl, rfl⟩) hHeld ?_
      simp [Act.put]
      refine wpAnyH_take (i := 25) (oi := _) (v := undef) rfl (by kernel_rfl) (by kernel_rfl) (by kernel_rfl) (fun _ _ _ h => h) (Or.inr ⟨by rfl, rfl⟩) hHeld ?_
      simp [Act.put]
      refine wpAnyH_take (i := 27) (oi := _) (v := undef) rfl (by kernel_rfl) (by kernel_rfl) (by kernel_rfl) (fun _ _ _ h => h) (Or.inr ⟨by rfl, rfl⟩) hHeld ?_
      simp [Act.put]
      refine wpAnyH_ready (rs := [26]) (by kernel_rfl) (by simp) ?_
      refine AllReadyH.cons rfl (fun K hKK => ?_) AllReadyH.nil
      go_simp
      refine hKK.out _ _ hHeld (fun hHeld => ?_)
      clear hKK K
      refine wpAnyH_take (i := 28) (oi := _) (v := undef) rfl (by kernel_rfl) (by kernel_rfl) (by kernel_rfl) (fun _ _ _ h => h) (Or.inr ⟨by rfl, rfl⟩) hHeld ?_
      simp [Act.put]
      refine wpAnyH_take (i := 29) (oi := _) (v := .bool false) rfl (by kernel_rfl) (by kernel_rfl) (by kernel_rfl) (fun _ _ _ h => h) (Or.inl ⟨by rfl, fun w hSw => by go_simp⟩) hHeld ?_
      simp [Act.put]
      refine wpAnyH_take (i := 30) (oi := _) (v := .bool false) rfl (by kernel_rfl) (by kernel_rfl) (by kernel_rfl) (fun _ _ _ h => h) (Or.inl ⟨by rfl, fun w hSw => by go_simp⟩) hHeld ?_
      simp [Act.put]
      refine wpAnyH_take (i := 31) (oi := _) (v := .bool false) rfl (by kernel_rfl) (by kernel_rfl) (by kernel_rfl) (fun _ _ _ h => h) (Or.inl ⟨by rfl, fun w hSw => by go_simp⟩) hHeld ?_
      simp [Act.put]
      refine wpAnyH_done (by kernel_rfl) ?_ _
      have hH := hHeld
      clear hHeld
      go_upto_region 7 with fail
      replace hB := hB.later (drew_below _)
      refine wp_region_held_drew (S := Hold [(w.heap.size, a), (w.heap.size + 1, b), (w.heap.size + 1 + 1, r)]) (by kernel_rfl) hH.drew (fun hHeld => ?_)
      generalize World.drew _ = v9 at hHeld hB ⊢
      clear hH
      refine wpAnyH_take (i := 0) (oi := _) (v := .bool true) rfl (by kernel_rfl) (by kernel_rfl) (by kernel_rfl) (fun _ _ _ h => h) (Or.inl ⟨by rfl, fun w hSw => by go_simp⟩) hHeld ?_
      simp [Act.put]
      refine wpAnyH_take (i := 1) (oi := _) (v := .bool false) rfl (by kernel_rfl) (by kernel_rfl) (by kernel_rfl) (fun _ _ _ h => h) (Or.inl ⟨by rfl, fun w hSw => by go_simp⟩) hHeld ?_
      simp [Act.put]
      refine wpAnyH_take (i := 2) (oi := _) (v := .bool false) rfl (by kernel_rfl) (by kernel_rfl) (by kernel_rfl) (fun _ _ _ h => h) (Or.inl ⟨by rfl, fun w hSw => by go_simp⟩) hHeld ?_
      simp [Act.put]
      refine wpAnyH_take (i := 3) (oi := _) (v := .bool false) rfl (by kernel_rfl) (by kernel_rfl) (by kernel_rfl) (fun _ _ _ h => h) (Or.inl ⟨by rfl, fun w hSw => by go_simp⟩) hHeld ?_
      simp [Act.put]
      refine wpAnyH_take (i := 4) (oi := _) (v := .bool true) rfl (by kernel_rfl) (by kernel_rfl) (by kernel_rfl) (fun _ _ _ h => h) (Or.inl ⟨by rfl, fun w hSw => by go_simp⟩) hHeld ?_
      simp [Act.put]
      refine wpAnyH_take (i := 5) (oi := _) (v := .bool true) rfl (by kernel_rfl) (by kernel_rfl) (by kernel_rfl) (fun _ _ _ h => h) (Or.inl ⟨by rfl, fun w hSw => by go_simp⟩) hHeld ?_
      simp [Act.put]
      refine wpAnyH_take (i := 6) (oi := _) (v := .bool true) rfl (by kernel_rfl) (by kernel_rfl) (by kernel_rfl) (fun _ _ _ h => h) (Or.inl ⟨by rfl, fun w hSw => by go_simp⟩) hHeld ?_
      simp [Act.put]
      refine wpAnyH_take (i := 7) (oi := _) (v := undef) rfl (by kernel_rfl) (by kernel_rfl) (by kernel_rfl) (fun _ _ _ h => h) (Or.inr ⟨by rfl, rfl⟩) hHeld ?_
      simp [Act.put]
      refine wpAnyH_take (i := 8) (oi := _) (v := undef) rfl (by kernel_rfl) (by kernel_rfl) (by kernel_rfl) (fun _ _ _ h => h) (Or.inr ⟨by rfl, rfl⟩) hHeld ?_
      simp [Act.put]
      refine wpAnyH_take (i := 10) (oi := _) (v := undef) rfl (by kernel_rfl) (by kernel_rfl) (by kernel_rfl) (fun _ _ _ h => h) (Or.inr ⟨by rfl, rfl⟩) hHeld ?_
      simp [Act.put]
      refine wpAnyH_take (i := 11) (oi := _) (v := undef) rfl (by kernel_rfl) (by kernel_rfl) (by kernel_rfl) (fun _ _ _ h => h) (Or.inr ⟨by rfl, rfl⟩) hHeld ?_
      simp [Act.put]
      refine wpAnyH_ready (rs := [9]) (by kernel_rfl) (by simp) ?_
      refine AllReadyH.cons rfl (fun K hKK => ?_) AllReadyH.nil
      go_simp
      refine hKK.out _ _ hHeld (fun hHeld => ?_)
      clear hKK K
      refine wpAnyH_ready (rs := [12]) (by kernel_rfl) (by simp) ?_
      refine AllReadyH.cons rfl (fun K hKK => ?_) AllReadyH.nil
      go_simp
      refine hKK.out _ _ hHeld (fun hHeld => ?_)
      clear hKK K
      refine wpAnyH_take (i := 13) (oi := _) (v := undef) rfl (by kernel_rfl) (by kernel_rfl) (by kernel_rfl) (fun _ _ _ h => h) (Or.inr ⟨by rfl, rfl⟩) hHeld ?_
      simp [Act.put]
      refine wpAnyH_take (i := 14) (oi := _) (v := .bool true) rfl (by kernel_rfl) (by kernel_rfl) (by kernel_rfl) (fun _ _ _ h => h) (Or.inl ⟨by rfl, fun w hSw => by go_simp⟩) hHeld ?_
      simp [Act.put]
      refine wpAnyH_done (by kernel_rfl) ?_ _
      have hH := hHeld
      clear hHeld
      go_wp2
      refine bodyPost_ret (results_tmp rfl _ _ _) rfl ?_
      exact ⟨rfl, hB.be⟩

  · by_cases is : q.ls.length = mplen i n
    · rw [decide_eq_false ok] at hCk1 hCl1
      rw [decide_eq_true is] at hCk2 hCl2
      have HO1 := hide ok
      have HO2 := hide is
      rw [Bool.false_and] at hCk1
      obtain ⟨z2, hz2⟩ : ∃ z, z = eqB E2 r := ⟨_, rfl⟩
      have HZ2 : Hid (decide (E2 = r) = z2) := hide (by rw [hz2]; rfl)
      rw [Bool.true_and, ← hz2] at hCk2
      clear hz2
      have hC1 := hCk1
      have hC2 := hCk2
      clear hCk1 hCk2 ok is
      unfold hV
      go_enter Tryd.func5, Tryd.ntmps5
      go_upto_region 1 with fail
      rw [← unhide HW]
      rw [show Value.agg (U8 a).toArray = hV a from rfl, show Value.agg (U8 b).toArray = hV b from rfl, show Value.agg (U8 r).toArray = hV r from rfl]
      go_upto_region 4 with (first
        | refine wpList_load_hs hH (.tmp 7) rfl (by kernel_rfl) w.heap.size a (by simp) ha.len rfl ?_
        | (go_at_call 19; refine (hCl1 W hpW hLW).mono ?_; rintro e w1 ⟨X, rfl, hX1, hb1⟩; replace hH := hH.later hb1; replace hpW := hpW.later hb1; replace hqW := hqW.later hb1; replace hLW := hLW.later hb1; replace hb := bnext hb hb.size hb1; clear hb1))
      go_upto_region 5 with (first
        | refine wpList_load_hs hH (.tmp 9) rfl (by kernel_rfl) (w.heap.size + 1) b (by simp) hbb.len rfl ?_
        | (go_at_call 19; refine (hCl2 w1 hqW hLW).mono ?_; rintro e w2 ⟨Y, rfl, hY1, hb1⟩; have hB : BS w _ _ W.heap.size w1.heap.size X Y (zsOf lx) (zsOf ly) p q w2 := ⟨fun c9 => (hX1 c9).later hb1, hY1, hpW.later hb1, hqW.later hb1, hLW.later hb1, bnext hb hb.size hb1⟩; replace hH := hH.later hb1; clear hb1 hX1 hY1 hpW hqW hLW hb))
      have hE1 := hEn1 X W.heap.size
      have hE2 := hEn2 Y w1.heap.size
      clear hEn1 hEn2 hCl1 hCl2
      replace hB := hB.later (drew_below _)
      refine wp_region_held_drew (S := Hold [(w.heap.size, a), (w.heap.size + 1, b), (w.heap.size + 1 + 1, r)]) (by kernel_rfl) hH.drew (fun hHeld => ?_)
      generalize World.drew _ = v1 at hHeld hB ⊢
      clear hH
      refine wpAnyH_take (i := 0) (oi := _) (v := hV a) rfl (by kernel_rfl) (by kernel_rfl) (by kernel_rfl) (fun _ _ _ h => h) (yields_hs (by kernel_rfl) (.tmp 7) rfl w.heap.size a (by simp) ha.len rfl) hHeld ?_
      simp [Act.put]
      refine wpAnyH_take (i := 1) (oi := _) (v := .int .i64 I) rfl (by kernel_rfl) (by kernel_rfl) (by kernel_rfl) (fun _ _ _ h => h) (Or.inl ⟨by rfl, fun w hSw => by go_simp⟩) hHeld ?_
      simp [Act.put]
      refine wpAnyH_take (i := 2) (oi := _) (v := .int .i64 N) rfl (by kernel_rfl) (by kernel_rfl) (by kernel_rfl) (fun _ _ _ h => h) (Or.inl ⟨by rfl, fun w hSw => by go_simp⟩) hHeld ?_
      simp [Act.put]
      refine wpAnyH_take (i := 3) (oi := _) (v := .slice p.a p.n p.c) rfl (by kernel_rfl) (by kernel_rfl) (by kernel_rfl) (fun _ _ _ h => h) (Or.inl ⟨by rfl, fun w hSw => by go_simp⟩) hHeld ?_
      simp [Act.put]
      refine wpAnyH_take (i := 4) (oi := _) (v := hV r) rfl (by kernel_rfl) (by kernel_rfl) (by kernel_rfl) (fun _ _ _ h => h) (yields_hs (by kernel_rfl) (.tmp 13) rfl (w.heap.size + 1 + 1) r (by simp) hr.len rfl) hHeld ?_
      simp [Act.put]
      refine wpAnyH_take (i := 6) (oi := _) (v := .bool false) rfl (by kernel_rfl) (by kernel_rfl) (by kernel_rfl) (fun _ _ _ h => h) (Or.inl ⟨by rfl, fun w hSw => by go_simp⟩) hHeld ?_
      simp [Act.put]
      refine wpAnyH_ready (rs := [5]) (by kernel_rfl) (by simp) ?_
      refine AllReadyH.cons rfl (fun K hKK => ?_) AllReadyH.nil
      go_simp
      refine (hC1 _ hB.p1 hB.ld).mono ?_
      rintro e v2 ⟨rfl, hb1⟩
      replace hB := hB.later hb1
      refine hKK.out _ _ (hHeld.later hb1) (fun hHeld => ?_)
      clear hKK K hb1
      refine wpAnyH_take (i := 7) (oi := _) (v := .bool false) rfl (by kernel_rfl) (by kernel_rfl) (by kernel_rfl) (fun _ _ _ h => h) (Or.inl ⟨by rfl, fun w hSw => by go_simp⟩) hHeld ?_
      simp [Act.put]
      refine wpAnyH_take (i := 8) (oi := _) (v := undef) rfl (by kernel_rfl) (by kernel_rfl) (by kernel_rfl) (fun _ _ _ h => h) (Or.inr ⟨by rfl, rfl⟩) hHeld ?_
      simp [Act.put]
      refine wpAnyH_take (i := 9) (oi := _) (v := undef) rfl (by kernel_rfl) (by kernel_rfl) (by kernel_rfl) (fun _ _ _ h => h) (Or.inr ⟨by rfl, rfl⟩) hHeld ?_
      simp [Act.put]
      refine wpAnyH_take (i := 11) (oi := _) (v := undef) rfl (by kernel_rfl) (by kernel_rfl) (by kernel_rfl) (fun _ _ _ h => h) (Or.inr ⟨by rfl, rfl⟩) hHeld ?_
      simp [Act.put]
      refine wpAnyH_ready (rs := [10]) (by kernel_rfl) (by simp) ?_
      refine AllReadyH.cons rfl (fun K hKK => ?_) AllReadyH.nil
      go_simp
      refine hKK.out _ _ hHeld (fun hHeld => ?_)
      clear hKK K
      refine wpAnyH_take (i := 12) (oi := _) (v := undef) rfl (by kernel_rfl) (by kernel_rfl) (by kernel_rfl) (fun _ _ _ h => h) (Or.inr ⟨by rfl, rfl⟩) hHeld ?_
      simp [Act.put]
      refine wpAnyH_take (i := 13) (oi := _) (v := .bool false) rfl (by kernel_rfl) (by kernel_rfl) (by kernel_rfl) (fun _ _ _ h => h) (Or.inl ⟨by rfl, fun w hSw => by go_simp⟩) hHeld ?_
      simp [Act.put]
      refine wpAnyH_take (i := 14) (oi := _) (v := .bool false) rfl (by kernel_rfl) (by kernel_rfl) (by kernel_rfl) (fun _ _ _ h => h) (Or.inl ⟨by rfl, fun w hSw => by go_simp⟩) hHeld ?_
      simp [Act.put]
      refine wpAnyH_take (i := 15) (oi := _) (v := .bool false) rfl (by kernel_rfl) (by kernel_rfl) (by kernel_rfl) (fun _ _ _ h => h) (Or.inl ⟨by rfl, fun w hSw => by go_simp⟩) hHeld ?_
      simp [Act.put]
      refine wpAnyH_take (i := 16) (oi := _) (v := hV b) rfl (by kernel_rfl) (by kernel_rfl) (by kernel_rfl) (fun _ _ _ h => h) (yields_hs (by kernel_rfl) (.tmp 9) rfl (w.heap.size + 1) b (by simp) hbb.len rfl) hHeld ?_
      simp [Act.put]
      refine wpAnyH_take (i := 17) (oi := _) (v := .int .i64 I) rfl (by kernel_rfl) (by kernel_rfl) (by kernel_rfl) (fun _ _ _ h => h) (Or.inl ⟨by rfl, fun w hSw => by go_simp⟩) hHeld ?_
      simp [Act.put]
      refine wpAnyH_take (i := 18) (oi := _) (v := .int .i64 N) rfl (by kernel_rfl) (by kernel_rfl) (by kernel_rfl) (fun _ _ _ h => h) (Or.inl ⟨by rfl, fun w hSw => by go_simp⟩) hHeld ?_
      simp [Act.put]
      refine wpAnyH_take (i := 19) (oi := _) (v := .slice q.a q.n q.c) rfl (by kernel_rfl) (by kernel_rfl) (by kernel_rfl) (fun _ _ _ h => h) (Or.inl ⟨by rfl, fun w hSw => by go_simp⟩) hHeld ?_
      simp [Act.put]
      refine wpAnyH_take (i := 20) (oi := _) (v := hV r) rfl (by kernel_rfl) (by kernel_rfl) (by kernel_rfl) (fun _ _ _ h => h) (yields_hs (by kernel_rfl) (.tmp 13) rfl (w.heap.size + 1 + 1) r (by simp) hr.len rfl) hHeld ?_
      simp [Act.put]
      refine wpAnyH_take (i := 22) (oi := _) (v := .bool true) rfl (by kernel_rfl) (by kernel_rfl) (by kernel_rfl) (fun _ _ _ h => h) (Or.inl ⟨by rfl, fun w hSw => by go_simp⟩) hHeld ?_
      simp [Act.put]
      refine wpAnyH_ready (rs := [21]) (by kernel_rfl) (by simp) ?_
      refine AllReadyH.cons rfl (fun K hKK => ?_) AllReadyH.nil
      go_simp
      refine (hC2 _ hB.p2 hB.ld).mono ?_
      rintro e v3 ⟨rfl, hb1⟩
      replace hB := hB.later hb1
      refine hKK.out _ _ (hHeld.later hb1) (fun hHeld => ?_)
      clear hKK K hb1
      refine wpAnyH_take (i := 23) (oi := _) (v := .bool true) rfl (by kernel_rfl) (by kernel_rfl) (by kernel_rfl) (fun _ _ _ h => h) (Or.inl ⟨by rfl, fun w hSw => by go_simp⟩) hHeld ?_
      simp [Act.put]
      refine wpAnyH_take (i := 24) (oi := _) (v := hV b) rfl (by kernel_rfl) (by kernel_rfl) (by kernel_rfl) (fun _ _ _ h => h) (yields_hs (by kernel_rfl) (.tmp 9) rfl (w.heap.size + 1) b (by simp) hbb.len rfl) hHeld ?_
      simp [Act.put]
      refine wpAnyH_take (i := 25) (oi := _) (v := Y) rfl (by kernel_rfl) (by kernel_rfl) (by kernel_rfl) (fun _ _ _ h => h) (Or.inl ⟨by rfl, fun w hSw => by go_simp⟩) hHeld ?_
      simp [Act.put]
      refine wpAnyH_take (i := 27) (oi := _) (v := hV r) rfl (by kernel_rfl) (by kernel_rfl) (by kernel_rfl) (fun _ _ _ h => h) (yields_hs (by kernel_rfl) (.tmp 13) rfl (w.heap.size + 1 + 1) r (by simp) hr.len rfl) hHeld ?_
      simp [Act.put]
      refine wpAnyH_ready (rs := [26]) (by kernel_rfl) (by simp) ?_
      refine AllReadyH.cons rfl (fun K hKK => ?_) AllReadyH.nil
      go_simp
      refine (hE2 _ (hB.o2 (unhide HO2)) hB.ld).mono ?_
      rintro e v4 ⟨rfl, hb1⟩
      replace hB := hB.later hb1
      refine hKK.out _ _ (hHeld.later hb1) (fun hHeld => ?_)
      clear hKK K hb1
      refine wpAnyH_take (i := 28) (oi := _) (v := .bool z2) rfl (by kernel_rfl) (by kernel_rfl) (by kernel_rfl) (fun _ _ _ h => h) (yields_eqH (by kernel_rfl) (.tmp 111) (.tmp 112) rfl E2 r hE2l.len hr.len z2 (unhide HZ2) rfl rfl) hHeld ?_
      simp [Act.put]
      refine wpAnyH_take (i := 29) (oi := _) (v := .bool z2) rfl (by kernel_rfl) (by kernel_rfl) (by kernel_rfl) (fun _ _ _ h => h) (Or.inl ⟨by rfl, fun w hSw => by go_simp⟩) hHeld ?_
      simp [Act.put]
      refine wpAnyH_take (i := 30) (oi := _) (v := .bool false) rfl (by kernel_rfl) (by kernel_rfl) (by kernel_rfl) (fun _ _ _ h => h) (Or.inl ⟨by rfl, fun w hSw => by go_simp⟩) hHeld ?_
      simp [Act.put]
      refine wpAnyH_take (i := 31) (oi := _) (v := .bool false) rfl (by kernel_rfl) (by kernel_rfl) (by kernel_rfl) (fun _ _ _ h => h) (Or.inl ⟨by rfl, fun w hSw => by go_simp⟩) hHeld ?_
      simp [Act.put]
      refine wpAnyH_done (by kernel_rfl) ?_ _
      have hH := hHeld
      clear hHeld
      go_upto_region 7 with fail
      replace hB := hB.later (drew_below _)
      refine wp_region_held_drew (S := Hold [(w.heap.size, a), (w.heap.size + 1, b), (w.heap.size + 1 + 1, r)]) (by kernel_rfl) hH.drew (fun hHeld => ?_)
      generalize World.drew _ = v9 at hHeld hB ⊢
      clear hH
      refine wpAnyH_take (i := 0) (oi := _) (v := .bool false) rfl (by kernel_rfl) (by kernel_rfl) (by kernel_rfl) (fun _ _ _ h => h) (Or.inl ⟨by rfl, fun w hSw => by go_simp⟩) hHeld ?_
      simp [Act.put]
      refine wpAnyH_take (i := 1) (oi := _) (v := .bool true) rfl (by kernel_rfl) (by kernel_rfl) (by kernel_rfl) (fun _ _ _ h => h) (Or.inl ⟨by rfl, fun w hSw => by go_simp⟩) hHeld ?_
      simp [Act.put]
      refine wpAnyH_take (i := 2) (oi := _) (v := .bool true) rfl (by kernel_rfl) (by kernel_rfl) (by kernel_rfl) (fun _ _ _ h => h) (Or.inl ⟨by rfl, fun w hSw => by go_simp⟩) hHeld ?_
      simp [Act.put]
      refine wpAnyH_take (i := 3) (oi := _) (v := undef) rfl (by kernel_rfl) (by kernel_rfl) (by kernel_rfl) (fun _ _ _ h => h) (Or.inr ⟨by rfl, rfl⟩) hHeld ?_
      simp [Act.put]
      refine wpAnyH_take (i := 4) (oi := _) (v := undef) rfl (by kernel_rfl) (by kernel_rfl) (by kernel_rfl) (fun _ _ _ h => h) (Or.inr ⟨by rfl, rfl⟩) hHeld ?_
      simp [Act.put]
      refine wpAnyH_take (i := 5) (oi := _) (v := .bool true) rfl (by kernel_rfl) (by kernel_rfl) (by kernel_rfl) (fun _ _ _ h => h) (Or.inl ⟨by rfl, fun w hSw => by go_simp⟩) hHeld ?_
      simp [Act.put]
      refine wpAnyH_take (i := 6) (oi := _) (v := .bool true) rfl (by kernel_rfl) (by kernel_rfl) (by kernel_rfl) (fun _ _ _ h => h) (Or.inl ⟨by rfl, fun w hSw => by go_simp⟩) hHeld ?_
      simp [Act.put]
      refine wpAnyH_take (i := 7) (oi := _) (v := undef) rfl (by kernel_rfl) (by kernel_rfl) (by kernel_rfl) (fun _ _ _ h => h) (Or.inr ⟨by rfl, rfl⟩) hHeld ?_
      simp [Act.put]
      refine wpAnyH_take (i := 8) (oi := _) (v := undef) rfl (by kernel_rfl) (by kernel_rfl) (by kernel_rfl) (fun _ _ _ h => h) (Or.inr ⟨by rfl, rfl⟩) hHeld ?_
      simp [Act.put]
      refine wpAnyH_take (i := 10) (oi := _) (v := undef) rfl (by kernel_rfl) (by kernel_rfl) (by kernel_rfl) (fun _ _ _ h => h) (Or.inr ⟨by rfl, rfl⟩) hHeld ?_
      simp [Act.put]
      refine wpAnyH_take (i := 11) (oi := _) (v := undef) rfl (by kernel_rfl) (by kernel_rfl) (by kernel_rfl) (fun _ _ _ h => h) (Or.inr ⟨by rfl, rfl⟩) hHeld ?_
      simp [Act.put]
      refine wpAnyH_ready (rs := [9]) (by kernel_rfl) (by simp) ?_
      refine AllReadyH.cons rfl (fun K hKK => ?_) AllReadyH.nil
      go_simp
      refine hKK.out _ _ hHeld (fun hHeld => ?_)
      clear hKK K
      refine wpAnyH_ready (rs := [12]) (by kernel_rfl) (by simp) ?_
      refine AllReadyH.cons rfl (fun K hKK => ?_) AllReadyH.nil
      go_simp
      refine hKK.out _ _ hHeld (fun hHeld => ?_)
      clear hKK K
      refine wpAnyH_take (i := 13) (oi := _) (v := undef) rfl (by kernel_rfl) (by kernel_rfl) (by kernel_rfl) (fun _ _ _ h => h) (Or.inr ⟨by rfl, rfl⟩) hHeld ?_
      simp [Act.put]
      refine wpAnyH_take (i := 14) (oi := _) (v := .bool true) rfl (by kernel_rfl) (by kernel_rfl) (by kernel_rfl) (fun _ _ _ h => h) (Or.inl ⟨by rfl, fun w hSw => by go_simp⟩) hHeld ?_
      simp [Act.put]
      refine wpAnyH_done (by kernel_rfl) ?_ _
      have hH := hHeld
      clear hHeld
      go_wp2
      refine bodyPost_ret (results_tmp rfl _ _ _) rfl ?_
      exact ⟨rfl, hB.be⟩

    · rw [decide_eq_false ok] at hCk1 hCl1
      rw [decide_eq_false is] at hCk2 hCl2
      have HO1 := hide ok
      have HO2 := hide is
      rw [Bool.false_and] at hCk1
      rw [Bool.false_and] at hCk2
      have hC1 := hCk1
      have hC2 := hCk2
      clear hCk1 hCk2 ok is
      unfold hV
      go_enter Tryd.func5, Tryd.ntmps5
      go_upto_region 1 with fail
      rw [← unhide HW]
      rw [show Value.agg (U8 a).toArray = hV a from rfl, show Value.agg (U8 b).toArray = hV b from rfl, show Value.agg (U8 r).toArray = hV r from rfl]
      go_upto_region 4 with (first
        | refine wpList_load_hs hH (.tmp 7) rfl (by kernel_rfl) w.heap.size a (by simp) ha.len rfl ?_
        | (go_at_call 19; refine (hCl1 W hpW hLW).mono ?_; rintro e w1 ⟨X, rfl, hX1, hb1⟩; replace hH := hH.later hb1; replace hpW := hpW.later hb1; replace hqW := hqW.later hb1; replace hLW := hLW.later hb1; replace hb := bnext hb hb.size hb1; clear hb1))
      go_upto_region 5 with (first
        | refine wpList_load_hs hH (.tmp 9) rfl (by kernel_rfl) (w.heap.size + 1) b (by simp) hbb.len rfl ?_
        | (go_at_call 19; refine (hCl2 w1 hqW hLW).mono ?_; rintro e w2 ⟨Y, rfl, hY1, hb1⟩; have hB : BS w _ _ W.heap.size w1.heap.size X Y (zsOf lx) (zsOf ly) p q w2 := ⟨fun c9 => (hX1 c9).later hb1, hY1, hpW.later hb1, hqW.later hb1, hLW.later hb1, bnext hb hb.size hb1⟩; replace hH := hH.later hb1; clear hb1 hX1 hY1 hpW hqW hLW hb))
      have hE1 := hEn1 X W.heap.size
      have hE2 := hEn2 Y w1.heap.size
      clear hEn1 hEn2 hCl1 hCl2
      replace hB := hB.later (drew_below _)
      refine wp_region_held_drew (S := Hold [(w.heap.size, a), (w.heap.size + 1, b), (w.heap.size + 1 + 1, r)]) (by kernel_rfl) hH.drew (fun hHeld => ?_)
      generalize World.drew _ = v1 at hHeld hB ⊢
      clear hH
      refine wpAnyH_take (i := 0) (oi := _) (v := hV a) rfl (by kernel_rfl) (by kernel_rfl) (by kernel_rfl) (fun _ _ _ h => h) (yields_hs (by kernel_rfl) (.tmp 7) rfl w.heap.size a (by simp) ha.len rfl) hHeld ?_
      simp [Act.put]
      refine wpAnyH_take (i := 1) (oi := _) (v := .int .i64 I) rfl (by kernel_rfl) (by kernel_rfl) (by kernel_rfl) (fun _ _ _ h => h) (Or.inl ⟨by rfl, fun w hSw => by go_simp⟩) hHeld ?_
      simp [Act.put]
      refine wpAnyH_take (i := 2) (oi := _) (v := .int .i64 N) rfl (by kernel_rfl) (by kernel_rfl) (by kernel_rfl) (fun _ _ _ h => h) (Or.inl ⟨by rfl, fun w hSw => by go_simp⟩) hHeld ?_
      simp [Act.put]
      refine wpAnyH_take (i := 3) (oi := _) (v := .slice p.a p.n p.c) rfl (by kernel_rfl) (by kernel_rfl) (by kernel_rfl) (fun _ _ _ h => h) (Or.inl ⟨by rfl, fun w hSw => by go_simp⟩) hHeld ?_
      simp [Act.put]
      refine wpAnyH_take (i := 4) (oi := _) (v := hV r) rfl (by kernel_rfl) (by kernel_rfl) (by kernel_rfl) (fun _ _ _ h => h) (yields_hs (by kernel_rfl) (.tmp 13) rfl (w.heap.size + 1 + 1) r (by simp) hr.len rfl) hHeld ?_
      simp [Act.put]
      refine wpAnyH_take (i := 6) (oi := _) (v := .bool false) rfl (by kernel_rfl) (by kernel_rfl) (by kernel_rfl) (fun _ _ _ h => h) (Or.inl ⟨by rfl, fun w hSw => by go_simp⟩) hHeld ?_
      simp [Act.put]
      refine wpAnyH_ready (rs := [5]) (by kernel_rfl) (by simp) ?_
      refine AllReadyH.cons rfl (fun K hKK => ?_) AllReadyH.nil
      go_simp
      refine (hC1 _ hB.p1 hB.ld).mono ?_
      rintro e v2 ⟨rfl, hb1⟩
      replace hB := hB.later hb1
      refine hKK.out _ _ (hHeld.later hb1) (fun hHeld => ?_)
      clear hKK K hb1
      refine wpAnyH_take (i := 7) (oi := _) (v := .bool false) rfl (by kernel_rfl) (by kernel_rfl) (by kernel_rfl) (fun _ _ _ h => h) (Or.inl ⟨by rfl, fun w hSw => by go_simp⟩) hHeld ?_
      simp [Act.put]
      refine wpAnyH_take (i := 8) (oi := _) (v := undef) rfl (by kernel_rfl) (by kernel_rfl) (by kernel_rfl) (fun _ _ _ h => h) (Or.inr ⟨by rfl, rfl⟩) hHeld ?_
      simp [Act.put]
      refine wpAnyH_take (i := 9) (oi := _) (v := undef) rfl (by kernel_rfl) (by kernel_rfl) (by kernel_rfl) (fun _ _ _ h => h) (Or.inr ⟨by rfl, rfl⟩) hHeld ?_
      simp [Act.put]
      refine wpAnyH_take (i := 11) (oi := _) (v := undef) rfl (by kernel_rfl) (by kernel_rfl) (by kernel_rfl) (fun _ _ _ h => h) (Or.inr ⟨by rfl, rfl⟩) hHeld ?_
      simp [Act.put]
      refine wpAnyH_ready (rs := [10]) (by kernel_rfl) (by simp) ?_
      refine AllReadyH.cons rfl (fun K hKK => ?_) AllReadyH.nil
      go_simp
      refine hKK.out _ _ hHeld (fun hHeld => ?_)
      clear hKK K
      refine wpAnyH_take (i := 12) (oi := _) (v := undef) rfl (by kernel_rfl) (by kernel_rfl) (by kernel_rfl) (fun _ _ _ h => h) (Or.inr ⟨by rfl, rfl⟩) hHeld ?_
      simp [Act.put]
      refine wpAnyH_take (i := 13) (oi := _) (v := .bool false) rfl (by kernel_rfl) (by kernel_rfl) (by kernel_rfl) (fun _ _ _ h => h) (Or.inl ⟨by rfl, fun w hSw => by go_simp⟩) hHeld ?_
      simp [Act.put]
      refine wpAnyH_take (i := 14) (oi := _) (v := .bool false) rfl (by kernel_rfl) (by kernel_rfl) (by kernel_rfl) (fun _ _ _ h => h) (Or.inl ⟨by rfl, fun w hSw => by go_simp⟩) hHeld ?_
      simp [Act.put]
      refine wpAnyH_take (i := 15) (oi := _) (v := .bool false) rfl (by kernel_rfl) (by kernel_rfl) (by kernel_rfl) (fun _ _ _ h => h) (Or.inl ⟨by rfl, fun w hSw => by go_simp⟩) hHeld ?_
      simp [Act.put]
      refine wpAnyH_take (i := 16) (oi := _) (v := hV b) rfl (by kernel_rfl) (by kernel_rfl) (by kernel_rfl) (fun _ _ _ h => h) (yields_hs (by kernel_rfl) (.tmp 9) rfl (w.heap.size + 1) b (by simp) hbb.len rfl) hHeld ?_
      simp [Act.put]
      refine wpAnyH_take (i := 17) (oi := _) (v := .int .i64 I) rfl (by kernel_rfl) (by kernel_rfl) (by kernel_rfl) (fun _ _ _ h => h) (Or.inl ⟨by rfl, fun w hSw => by go_simp⟩) hHeld ?_
      simp [Act.put]
      refine wpAnyH_take (i := 18) (oi := _) (v := .int .i64 N) rfl (by kernel_rfl) (by kernel_rfl) (by kernel_rfl) (fun _ _ _ h => h) (Or.inl ⟨by rfl, fun w hSw => by go_simp⟩) hHeld ?_
      simp [Act.put]
      refine wpAnyH_take (i := 19) (oi := _) (v := .slice q.a q.n q.c) rfl (by kernel_rfl) (by kernel_rfl) (by kernel_rfl) (fun _ _ _ h => h) (Or.inl ⟨by rfl, fun w hSw => by go_simp⟩) hHeld ?_
      simp [Act.put]
      refine wpAnyH_take (i := 20) (oi := _) (v := hV r) rfl (by kernel_rfl) (by kernel_rfl) (by kernel_rfl) (fun _ _ _ h => h) (yields_hs (by kernel_rfl) (.tmp 13) rfl (w.heap.size + 1 + 1) r (by simp) hr.len rfl) hHeld ?_
      simp [Act.put]
      refine wpAnyH_take (i := 22) (oi := _) (v := .bool false) rfl (by kernel_rfl) (by kernel_rfl) (by kernel_rfl) (fun _ _ _ h => h) (Or.inl ⟨by rfl, fun w hSw => by go_simp⟩) hHeld ?_
      simp [Act.put]
      refine wpAnyH_ready (rs := [21]) (by kernel_rfl) (by simp) ?_
      refine AllReadyH.cons rfl (fun K hKK => ?_) AllReadyH.nil
      go_simp
      refine (hC2 _ hB.p2 hB.ld).mono ?_
      rintro e v3 ⟨rfl, hb1⟩
      replace hB := hB.later hb1
      refine hKK.out _ _ (hHeld.later hb1) (fun hHeld => ?_)
      clear hKK K hb1
      refine wpAnyH_take (i := 23) (oi := _) (v := .bool false) rfl (by kernel_rfl) (by kernel_rfl) (by kernel_rfl) (fun _ _ _ h => h) (Or.inl ⟨by rfl, fun w hSw => by go_simp⟩) hHeld ?_
      simp [Act.put]
      refine wpAnyH_take (i := 24) (oi := _) (v := undef) rfl (by kernel_rfl) (by kernel_rfl) (by kernel_rfl) (fun _ _ _ h => h) (Or.inr ⟨by rfl, rfl⟩) hHeld ?_
      simp [Act.put]
      refine wpAnyH_take (i := 25) (oi := _) (v := undef) rfl (by kernel_rfl) (by kernel_rfl) (by kernel_rfl) (fun _ _ _ h => h) (Or.inr ⟨by rfl, rfl⟩) hHeld ?_
      simp [Act.put]
      refine wpAnyH_take (i := 27) (oi := _) (v := undef) rfl (by kernel_rfl) (by kernel_rfl) (by kernel_rfl) (fun _ _ _ h => h) (Or.inr ⟨by rfl, rfl⟩) hHeld ?_
      simp [Act.put]
      refine wpAnyH_ready (rs := [26]) (by kernel_rfl) (by simp) ?_
      refine AllReadyH.cons rfl (fun K hKK => ?_) AllReadyH.nil
      go_simp
      refine hKK.out _ _ hHeld (fun hHeld => ?_)
      clear hKK K
      refine wpAnyH_take (i := 28) (oi := _) (v := undef) rfl (by kernel_rfl) (by kernel_rfl) (by kernel_rfl) (fun _ _ _ h => h) (Or.inr ⟨by rfl, rfl⟩) hHeld ?_
      simp [Act.put]
      refine wpAnyH_take (i := 29) (oi := _) (v := .bool false) rfl (by kernel_rfl) (by kernel_rfl) (by kernel_rfl) (fun _ _ _ h => h) (Or.inl ⟨by rfl, fun w hSw => by go_simp⟩) hHeld ?_
      simp [Act.put]
      refine wpAnyH_take (i := 30) (oi := _) (v := .bool false) rfl (by kernel_rfl) (by kernel_rfl) (by kernel_rfl) (fun _ _ _ h => h) (Or.inl ⟨by rfl, fun w hSw => by go_simp⟩) hHeld ?_
      simp [Act.put]
      refine wpAnyH_take (i := 31) (oi := _) (v := .bool false) rfl (by kernel_rfl) (by kernel_rfl) (by kernel_rfl) (fun _ _ _ h => h) (Or.inl ⟨by rfl, fun w hSw => by go_simp⟩) hHeld ?_
      simp [Act.put]
      refine wpAnyH_done (by kernel_rfl) ?_ _
      have hH := hHeld
      clear hHeld
      go_upto_region 7 with fail
      replace hB := hB.later (drew_below _)
      refine wp_region_held_drew (S := Hold [(w.heap.size, a), (w.heap.size + 1, b), (w.heap.size + 1 + 1, r)]) (by kernel_rfl) hH.drew (fun hHeld => ?_)
      generalize World.drew _ = v9 at hHeld hB ⊢
      clear hH
      refine wpAnyH_take (i := 0) (oi := _) (v := .bool false) rfl (by kernel_rfl) (by kernel_rfl) (by kernel_rfl) (fun _ _ _ h => h) (Or.inl ⟨by rfl, fun w hSw => by go_simp⟩) hHeld ?_
      simp [Act.put]
      refine wpAnyH_take (i := 1) (oi := _) (v := .bool true) rfl (by kernel_rfl) (by kernel_rfl) (by kernel_rfl) (fun _ _ _ h => h) (Or.inl ⟨by rfl, fun w hSw => by go_simp⟩) hHeld ?_
      simp [Act.put]
      refine wpAnyH_take (i := 2) (oi := _) (v := .bool true) rfl (by kernel_rfl) (by kernel_rfl) (by kernel_rfl) (fun _ _ _ h => h) (Or.inl ⟨by rfl, fun w hSw => by go_simp⟩) hHeld ?_
      simp [Act.put]
      refine wpAnyH_take (i := 3) (oi := _) (v := undef) rfl (by kernel_rfl) (by kernel_rfl) (by kernel_rfl) (fun _ _ _ h => h) (Or.inr ⟨by rfl, rfl⟩) hHeld ?_
      simp [Act.put]
      refine wpAnyH_take (i := 4) (oi := _) (v := undef) rfl (by kernel_rfl) (by kernel_rfl) (by kernel_rfl) (fun _ _ _ h => h) (Or.inr ⟨by rfl, rfl⟩) hHeld ?_
      simp [Act.put]
      refine wpAnyH_take (i := 5) (oi := _) (v := .bool true) rfl (by kernel_rfl) (by kernel_rfl) (by kernel_rfl) (fun _ _ _ h => h) (Or.inl ⟨by rfl, fun w hSw => by go_simp⟩) hHeld ?_
      simp [Act.put]
      refine wpAnyH_take (i := 6) (oi := _) (v := .bool true) rfl (by kernel_rfl) (by kernel_rfl) (by kernel_rfl) (fun _ _ _ h => h) (Or.inl ⟨by rfl, fun w hSw => by go_simp⟩) hHeld ?_
      simp [Act.put]
      refine wpAnyH_take (i := 7) (oi := _) (v := undef) rfl (by kernel_rfl) (by kernel_rfl) (by kernel_rfl) (fun _ _ _ h => h) (Or.inr ⟨by rfl, rfl⟩) hHeld ?_
      simp [Act.put]
      refine wpAnyH_take (i := 8) (oi := _) (v := undef) rfl (by kernel_rfl) (by kernel_rfl) (by kernel_rfl) (fun _ _ _ h => h) (Or.inr ⟨by rfl, rfl⟩) hHeld ?_
      simp [Act.put]
      refine wpAnyH_take (i := 10) (oi := _) (v := undef) rfl (by kernel_rfl) (by kernel_rfl) (by kernel_rfl) (fun _ _ _ h => h) (Or.inr ⟨by rfl, rfl⟩) hHeld ?_
      simp [Act.put]
      refine wpAnyH_take (i := 11) (oi := _) (v := undef) rfl (by kernel_rfl) (by kernel_rfl) (by kernel_rfl) (fun _ _ _ h => h) (Or.inr ⟨by rfl, rfl⟩) hHeld ?_
      simp [Act.put]
      refine wpAnyH_ready (rs := [9]) (by kernel_rfl) (by simp) ?_
      refine AllReadyH.cons rfl (fun K hKK => ?_) AllReadyH.nil
      go_simp
      refine hKK.out _ _ hHeld (fun hHeld => ?_)
      clear hKK K
      refine wpAnyH_ready (rs := [12]) (by kernel_rfl) (by simp) ?_
      refine AllReadyH.cons rfl (fun K hKK => ?_) AllReadyH.nil
      go_simp
      refine hKK.out _ _ hHeld (fun hHeld => ?_)
      clear hKK K
      refine wpAnyH_take (i := 13) (oi := _) (v := undef) rfl (by kernel_rfl) (by kernel_rfl) (by kernel_rfl) (fun _ _ _ h => h) (Or.inr ⟨by rfl, rfl⟩) hHeld ?_
      simp [Act.put]
      refine wpAnyH_take (i := 14) (oi := _) (v := .bool true) rfl (by kernel_rfl) (by kernel_rfl) (by kernel_rfl) (fun _ _ _ h => h) (Or.inl ⟨by rfl, fun w hSw => by go_simp⟩) hHeld ?_
      simp [Act.put]
      refine wpAnyH_done (by kernel_rfl) ?_ _
      have hH := hHeld
      clear hHeld
      go_wp2
      refine bodyPost_ret (results_tmp rfl _ _ _) rfl ?_
      exact ⟨rfl, hB.be⟩

end Go.Proofs.YtaidncibndcbfaaDoor
