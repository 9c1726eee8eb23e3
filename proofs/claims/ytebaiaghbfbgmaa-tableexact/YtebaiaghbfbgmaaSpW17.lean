import Derived.Test.YtebaiaghbfbgmaaLfW
import Derived.Test.YtebaiaghbfbgmaaRoM
set_option linter.unusedSimpArgs false
set_option linter.unusedVariables false
namespace Go.Proofs.Ytebaiaghbfbgmaa
open Go.RowKit

section
variable {α : Type} {f : α → List Value} {sz : Nat} {w : World} {P : Program} {o : Oper} {a : Act} {k : Act → World → Prop} {Q : Exit → Act → World → Prop}
/-- append of any slice to a row of one's own: where it lies then -/
theorem op_appendL (s x : Operand) (t : TypeId) (ho : o.op = .call { callee := .builtin .append, args := #[s, x], argTypes := #[t, t] })
    {base : Nat} {e : TypeId} {zv : Value} {bytes : Nat} (ht : P.underlying t = some (.slice e)) (hi : (P.info? e).map (fun i => (i.zero, i.size, i.bytes)) = some (some zv, sz, bytes)) (hzs : zv.cells.size = sz) (hsz : 0 < sz)
    {v : Value} {xs : List α} (hs : a.eval s = v) (hown : w.ownsRow base e sz v xs.length (xs.flatMap f)) (y : Sx α) (hy : y.Ok f sz w) (hl : ∀ z ∈ y.xs, (f z).length = sz) (h1 : ∀ z ∈ y.xs, ∀ u ∈ f z, u.oneCell' = true) (hx : a.eval x = y.v)
    (hb : (xs.length + y.n) * bytes ≤ 140737488355328) (hb1 : 0 < bytes) (hbase : base ≤ w.heap.size)
    (h : ∀ v' w', w'.ownsRow base e sz v' (xs ++ y.xs).length ((xs ++ y.xs).flatMap f) → w.grownBy w' v.ownBlock → (v'.ownBlock = v.ownBlock ∨ v'.ownBlock = some w.heap.size) → k (a.put o.dst v') w') : o.wp P a w k Q := by
  obtain ⟨i, hii, hiz, his, hib⟩ : ∃ i, P.info? e = some i ∧ i.zero = some zv ∧ i.size = sz ∧ i.bytes = bytes := by
    cases hq : P.info? e with
    | none => rw [hq] at hi; simp at hi
    | some i =>
      rw [hq] at hi
      simp only [Option.map_some, Option.some.injEq, Prod.mk.injEq] at hi
      exact ⟨i, rfl, hi.1, hi.2.1, hi.2.2⟩
  cases hya : y.a with
  | none =>
    obtain ⟨h0, hc0⟩ := hy.nn hya
    have hl0 : y.xs = [] := List.eq_nil_of_length_eq_zero (by rw [hy.len, h0])
    have hr := run_append_owned_none (P := P) (w := w) base t o.type e i sz ht hii v xs.length (xs.flatMap f) hown
    unfold Oper.wp
    simp [execOp, ho, resolve, invoke, builtin, hs, hx, Sx.v, hya, h0, hc0, hr, Result.andThen]
    exact h v w (by rw [hl0]; simpa using hown) (World.grownBy.refl w _) (.inl rfl)
  | some ad =>
    have hc1 : ∀ j u, (y.xs.flatMap f)[j]? = some u → w.cell? (ad.add j) = some u := fun j u hu => by
      have hpos : 0 < y.xs.length := by
        rcases Nat.eq_zero_or_pos y.xs.length with h0 | h0
        · rw [List.eq_nil_of_length_eq_zero h0] at hu; simp at hu
        · exact h0
      obtain ⟨b, off, e2, -, -⟩ := hy.lies (by rw [← hy.len]; exact hpos)
      rw [hya] at e2; cases e2
      rw [addr_add]
      exact hy.flat hl hsz hya j u hu
    have hc2 : ∀ u ∈ y.xs.flatMap f, u.oneCell' = true := fun u hu => by
      obtain ⟨z, hz, hu⟩ := List.mem_flatMap.1 hu
      exact h1 z hz u hu
    have hc3 : xs.length + y.n ≤ maxLen := by
      have : (xs.length + y.n) * 1 ≤ (xs.length + y.n) * bytes := Nat.mul_le_mul_left _ hb1
      unfold maxLen; omega
    obtain ⟨v', w', hr, r1, r2, r3⟩ := run_append_own_at (P := P) w base t o.type e i zv sz bytes ht hii hiz his hib hzs hsz v xs.length (xs.flatMap f) hown ad y.n y.c (y.xs.flatMap f) (by rw [flat_len hl, hy.len]) hc1 hc2 hc3 hb hbase
    unfold Oper.wp
    simp [execOp, ho, resolve, invoke, builtin, hs, hx, Sx.v, hya, hr, Result.andThen]
    refine h v' w' ?_ r2 r3
    rw [List.length_append, List.flatMap_append, hy.len]; exact r1
end
theorem wl_appendL {ops : Array Oper} {rest : List Oper} {o : Oper} {a : Act} {w : World} {Q : Exit → Act → World → Prop} (hw : Region.wanted o (yielded ops a.tmps) = true) (s x : Operand) (ho : o.op = .call { callee := .builtin .append, args := #[s, x], argTypes := #[27, 27] })
    {base : Nat} {v : Value} {xs : List Ent} (hs : a.eval s = v) (hown : Oe w base v xs) (y : Sx Ent) (hy : Es w y) (hx : a.eval x = y.v) (hb : (xs.length + y.n) * 296 ≤ 140737488355328) (hbase : base ≤ w.heap.size)
    (h : ∀ v' w', Oe w' base v' (xs ++ y.xs) → w.grownBy w' v.ownBlock → (v'.ownBlock = v.ownBlock ∨ v'.ownBlock = some w.heap.size) → wpList Try.prog ops Q rest (a.put o.dst v') w') : wpList Try.prog ops Q (o :: rest) a w :=
  wl hw fun k hk => op_appendL s x 27 ho Try.underlying27 Try.inE (by simp [aV, Value.cells, eC_len zEnt_ok]) (by omega) hs hown.own y hy.ok hy.len (fun z _ => one_e z) hx hb (by omega) hbase (fun v' w' h1 h2 h3 => hk _ _ (h v' w' ⟨h1, fun z hz => (List.mem_append.1 hz).elim (hown.e z) (hy.e z)⟩ h2 h3))
/-- nothing that was there has changed but one's own row -/
structure ChgV (v : Value) (w w' : World) : Prop where
  os : w'.os = w.os
  tape : w'.tape = w.tape
  output : w'.output = w.output
  size : w.heap.size ≤ w'.heap.size
  block : ∀ k, k < w.heap.size → v.ownBlock ≠ some k → w'.heap[k]? = w.heap[k]?
theorem ChgV.then_ {v : Value} {a b c : World} (h : ChgV v a b) (hb : Below b.heap.size b c) : ChgV v a c :=
  ⟨hb.os.trans h.os, hb.tape.trans h.tape, hb.output.trans h.output, Nat.le_trans h.size hb.size, fun k hk hn => (hb.block k (Nat.lt_of_lt_of_le hk h.size)).trans (h.block k hk hn)⟩
theorem ChgV.grow {v u : Value} {a b c : World} (h : ChgV v a b) (hg : b.grownBy c u.ownBlock) (hp : ∀ k, u.ownBlock = some k → v.ownBlock = some k ∨ a.heap.size ≤ k) : ChgV v a c :=
  ⟨hg.os.trans h.os, hg.tape.trans h.tape, hg.output.trans h.output, Nat.le_trans h.size hg.size, fun k hk hn => (hg.block k (Nat.lt_of_lt_of_le hk h.size) (fun e => (hp k e.symm).elim hn (fun h => by omega))).trans (h.block k hk hn)⟩
/-- the world up to a block -/
def wT (w : World) (g : Nat) : World := { w with heap := w.heap.take g }
theorem wT_size {w : World} {g : Nat} (h : g ≤ w.heap.size) : (wT w g).heap.size = g := by unfold wT; simp; omega
theorem wT_hs {w : World} {g : Nat} {c : List Value} (hA : Arr w g 37 c) : Hs17 (wT w g) [(g, 37, c)] (fun w' => w.heap.size ≤ w'.heap.size ∧ ∀ k, k < w.heap.size → k ≠ g → w'.heap[k]? = w.heap[k]?) w := by
  have hs := wT_size (Nat.le_of_lt hA.lt)
  refine ⟨by simp, fun p hp => by simp at hp; subst hp; exact hA, fun p hp => by simp at hp; subst hp; rw [hs]; exact Nat.le_refl _, ⟨rfl, rfl, rfl, by rw [hs]; exact Nat.le_of_lt hA.lt, fun k hk => ?_⟩, fun w' h1 h2 => ⟨h1, fun k hk hn => h2 k hk (fun p hp => by simp at hp; subst hp; exact fun e => hn e.symm)⟩⟩
  rw [hs] at hk
  have h1 : k < w.heap.size := by have := hA.lt; omega
  unfold wT
  show w.heap[k]? = (w.heap.take g)[k]?
  rw [Array.getElem?_eq_getElem h1, Array.getElem?_eq_getElem (by simp; omega)]
  simp
theorem mk33 : (mkE (-33)).Ok := mkE_ok _
set_option maxHeartbeats 4000000 in
set_option maxRecDepth 100000 in
theorem spoilt_any (f : Flr) (acc : Int) (s : Sx Ent) (B : Nat) (w : World) (hf : f.Ok) (hO : Oe w B s.v s.xs) (hbd : (s.n + 16) * 296 ≤ 140737488355328) :
    Calls Try.prog 12 #[aV (gC f acc s.v)] w fun r w' => (∃ i, r = .returned (.int .i64 i)) ∧ ChgV s.v w w' := by
  obtain ⟨sa, sn, sc, sx⟩ := s
  have hE := Oe.es' hO
  have hlen : sx.length = sn := hE.ok.len
  have hsm : sn ≤ 475464663362 := by simp only at hbd; omega
  rcases hO.own.2 with ⟨hv, h0⟩ | ⟨g, c, cur, hv, hg, hA, hle, hmx, hsz, ht⟩
  · simp only [Sx.v, Value.slice.injEq] at hv
    obtain ⟨rfl, rfl, rfl⟩ := hv
    have hS := Hs17.begin w (fun w' => True) (fun w' ho => trivial)
    simp only [Sx.v]
    clear hO hE hlen h0
    go_enter Try.func12, Try.ntmps12
    go_upto_region 0 with fail
    refine wp_region_lit ?_
    refine wl_box (by kernel_rfl) 29 (.tmp 0) rfl (gC f acc (.slice none 0 0)) rfl hS ?_
    clear hS
    intro g1 w1 hS
    simp [Act.put]
    refine wl (by kernel_rfl) fun kQ hkQ => ?_
    go_simp
    refine hkQ _ _ ?_
    clear hkQ kQ
    refine wpList_nil ?_
    have c66 : w1.cell? ⟨g1, 66, none⟩ = some (.slice none 0 0) := by have := (at_gr hf acc (.slice none 0 0)).range (hS.get 0 rfl) 0 _ rfl; simpa using this
    have HC : Hid (ChgV (.slice none 0 0) w w1) := hide ⟨hS.bel.os, hS.bel.tape, hS.bel.output, hS.bel.size, fun k hk _ => hS.bel.block k hk⟩
    have hOL : Oe w1 0 (.slice none 0 0) [] := Oe.nil _ _
    clear hS
    go_wp2_with fail
    go_loopw [3] (fun i wr => i = .int .i64 0 ∧ wr = w1) (fun i _ => 1 - (intOf i).toNat)
    case atStart => exact ⟨rfl, rfl⟩
    case round =>
      obtain ⟨rfl, hwr⟩ := hrel
      subst hwr
      have hP0 : ∀ k, (.slice none 0 0 : Value).ownBlock = some k → (.slice none 0 0 : Value).ownBlock = some k ∨ w.heap.size ≤ k := fun k h => .inl h
      go_wp2_with fail
      go_loopw [4, 5] (fun v i wr => ∃ (j : Nat) (ys : List Ent), j ≤ 16 ∧ i = .int .i64 j ∧ Oe wr 0 v ys ∧ ys.length = 0 + j ∧ Hid (∀ k, v.ownBlock = some k → (.slice none 0 0 : Value).ownBlock = some k ∨ w.heap.size ≤ k) ∧ Hid (ChgV (.slice none 0 0) w wr)) (fun _ i _ => 16 - (intOf i).toNat)
      case atStart => exact ⟨0, [], by omega, rfl, hOL, by simp, hide hP0, HC⟩
      case round =>
        clear hOL hP0 HC
        obtain ⟨j, ys, hj, rfl, hO, hyl, HP, HC⟩ := hrel
        by_cases hlt : j < 16
        · have hjz : (j : Int) < 16 := by omega
          have hS := Hs17.begin wr (fun w' => Oe w' 0 u4 ys) (fun w' ho => hO.old ho)
          clear hO
          go_upto_region 9 with fail
          refine wp_region_lit ?_
          refine wl (by kernel_rfl) fun kQ hkQ => ?_
          go_simp
          refine hkQ _ _ ?_
          clear hkQ kQ
          refine wv (aV (eC (mkE (-34)))) (by kernel_rfl) (ex_build 37 #[(1, .const (.int .i64 (-34)))] rfl (eC (mkE (-34))) (b_ei (-34)) rfl) ?_
          simp [Act.put]
          refine wl (by kernel_rfl) fun kQ hkQ => ?_
          refine op_bs1 27 (.tmp 25) rfl (mkE (-34)) (mkE_ok _) rfl hS ?_
          clear hS
          intro g9 w9 hS
          refine hkQ _ _ ?_
          clear hkQ kQ
          simp [Act.put]
          refine wl_appendL (by kernel_rfl) (.tmp 24) (.tmp 26) rfl rfl hS.K ⟨some ⟨g9, 0, none⟩, 1, 1, [mkE (-34)]⟩ (es_one hS (mkE_ok _)) rfl (by simp only; omega) (Nat.zero_le _) ?_
          intro v' w' hO' hg9 hpl
          have HC' := hide (((unhide HC).then_ hS.bel).grow hg9 (unhide HP))
          have hz9 := Nat.le_trans (unhide HC).size hS.bel.size
          have HP' : Hid (∀ k, v'.ownBlock = some k → (.slice none 0 0 : Value).ownBlock = some k ∨ w.heap.size ≤ k) := hide (fun k hk => by
            rcases hpl with e | e
            · rw [e] at hk; exact unhide HP k hk
            · rw [e] at hk; cases hk; exact .inr hz9)
          simp [Act.put]
          clear hS hg9 hpl HP HC
          refine wl (by kernel_rfl) fun kQ hkQ => ?_
          go_simp
          refine hkQ _ _ ?_
          clear hkQ kQ
          refine wpList_nil ?_
          go_wp2
          go_roundw
          case rel => exact ⟨j + 1, ys ++ [mkE (-34)], by omega, by go_num, hO', by simp; omega, HP', HC'⟩
          case measure => simp [intOf]; omega
        · have hjd : decide ((j : Int) < 16) = false := by simp; omega
          obtain ⟨a4, n4, c4, hv4⟩ : ∃ a n c, u4 = Value.slice a n c := by
            rcases hO.own.2 with ⟨h, -⟩ | ⟨g, c, cur, h, -⟩
            · exact ⟨_, _, _, h⟩
            · exact ⟨_, _, _, h⟩
          subst hv4
          clear hO
          go_wp2
          go_ret
          exact ⟨⟨_, rfl⟩, unhide HC⟩
  · simp only [Sx.v, Value.slice.injEq] at hv
    obtain ⟨rfl, hnn, rfl⟩ := hv
    have hcur : cur.toList = sx.flatMap eC ++ cur.toList.drop (sx.length * 262) := by
      conv => lhs; rw [← List.take_append_drop (sx.length * 262) cur.toList]
      congr 1
    obtain ⟨sp, hsp⟩ : ∃ sp, cur.toList.drop (sx.length * 262) = sp := ⟨_, rfl⟩
    have hAr : Arr w g 37 (sx.flatMap eC ++ sp) := by
      unfold Arr
      rw [← hsp, ← hcur]; simpa using hA
    have hcl : (sx.flatMap eC ++ sp).length = sc * 262 := by rw [← hsp, ← hcur]; simpa using hsz
    have hxe := hO.e
    have hS := wT_hs hAr
    have hgl := hAr.lt
    simp only [Sx.v]
    have HW : Hid (Below g (wT w g) w) := hide (by have := hS.bel; rw [wT_size (Nat.le_of_lt hgl)] at this; exact this)
    have HGL := hide hgl
    have HCL := hide hcl
    have HLE : Hid (sn ≤ sc ∧ sc ≤ maxLen) := hide ⟨by simp only at hle; omega, hmx⟩
    have hflat : (sx.flatMap eC).length = sn * 262 := by rw [← hlen]; exact flat_len (fun x h => eC_len (hxe x h))
    have HFL := hide hflat
    have HXE := hide (And.intro hlen hxe)
    clear hO hE hA hsz ht hcur hAr hsp hg hnn hlen hcl hle hmx hflat hxe hgl
    go_enter Try.func12, Try.ntmps12
    go_upto_region 0 with fail
    refine wp_region_lit ?_
    refine wl_box (by kernel_rfl) 29 (.tmp 0) rfl (gC f acc (.slice (some ⟨g, 0, none⟩) sn sc)) rfl hS ?_
    clear hS
    intro g1 w1 hS
    simp [Act.put]
    refine wl (by kernel_rfl) fun kQ hkQ => ?_
    go_simp
    refine hkQ _ _ ?_
    clear hkQ kQ
    refine wpList_nil ?_
    have c66 : w1.cell? ⟨g1, 66, none⟩ = some (.slice (some ⟨g, 0, none⟩) sn sc) := by have := (at_gr hf acc (.slice (some ⟨g, 0, none⟩) sn sc)).range (hS.get 0 rfl) 0 _ rfl; simpa using this
    have hc66 : ∀ (X : World) (xs' : List Ent), Hs17 (wT w g) [(g1, 29, gC f acc (.slice (some ⟨g, 0, none⟩) sn sc)), (g, 37, xs'.flatMap eC ++ sp)] (fun w' => w.heap.size ≤ w'.heap.size ∧ ∀ k, k < w.heap.size → k ≠ g → w'.heap[k]? = w.heap[k]?) X → X.cell? ⟨g1, 66, none⟩ = some (.slice (some ⟨g, 0, none⟩) sn sc) := fun X xs' hX => by have := (at_gr hf acc (.slice (some ⟨g, 0, none⟩) sn sc)).range (hX.get 0 rfl) 0 _ rfl; simpa using this
    go_wp2_with fail
    go_loopw [3] (fun i wr => ∃ (k : Nat) (xs' : List Ent), k ≤ sn ∧ i = .int .i64 k ∧ Hid (xs'.length = sn ∧ ∀ x ∈ xs', x.Ok) ∧ Hs17 (wT w g) [(g1, 29, gC f acc (.slice (some ⟨g, 0, none⟩) sn sc)), (g, 37, xs'.flatMap eC ++ sp)] (fun w' => w.heap.size ≤ w'.heap.size ∧ ∀ k, k < w.heap.size → k ≠ g → w'.heap[k]? = w.heap[k]?) wr) (fun i _ => sn - (intOf i).toNat)
    case atStart => exact ⟨0, sx, by omega, rfl, HXE, hS⟩
    case round =>
      clear hS c66
      obtain ⟨k, xs', hk, rfl, HX, hS⟩ := hrel
      have c66 := hc66 _ _ hS
      by_cases hlt : k < sn
      · have hkz : (k : Int) < (sn : Int) := by omega
        obtain ⟨x, hx⟩ : ∃ x, xs'[k]? = some x := ⟨_, List.getElem?_eq_getElem (by rw [(unhide HX).1]; exact hlt)⟩
        have HX2 : Hid ((xs'.set k (mkE (-33))).length = sn ∧ ∀ x ∈ xs'.set k (mkE (-33)), x.Ok) := hide ⟨by rw [List.length_set]; exact (unhide HX).1, set_ok (unhide HX).2 mk33⟩
        have hPt := flat_set xs' k x (mkE (-33)) (unhide HX).2 mk33 hx sp
        go_upto_region 4 with fail
        refine wp_region_lit ?_
        refine wl (by kernel_rfl) fun kQ hkQ => ?_
        go_simp
        refine hkQ _ _ ?_
        clear hkQ kQ
        refine wl_load1 (by kernel_rfl) 27 (.tmp 13) rfl 0 rfl 66 rfl ((.slice (some ⟨g, 0, none⟩) sn sc)) (at_gr hf acc (.slice (some ⟨g, 0, none⟩) sn sc)) Try.underlying27 rfl hS ?_
        simp [Act.put]
        refine wl (by kernel_rfl) fun kQ hkQ => ?_
        go_simp
        refine hkQ _ _ ?_
        clear hkQ kQ
        refine wv (aV (eC (mkE (-33)))) (by kernel_rfl) (ex_build 37 #[(1, .const (.int .i64 (-33)))] rfl (eC (mkE (-33))) (b_ei (-33)) rfl) ?_
        simp [Act.put]
        refine wl (by kernel_rfl) fun kQ hkQ => ?_
        go_simp
        refine hkQ _ _ ?_
        clear hkQ kQ
        refine wl (by kernel_rfl) fun kQ hkQ => ?_
        refine op_store 37 (.tmp 17) (.tmp 16) rfl 1 rfl (k * 262) rfl (eC (mkE (-33))) _ hPt rfl (szE mk33) (one_e _) hS ?_
        clear hS
        intro w41 hS
        refine hkQ _ _ ?_
        clear hkQ kQ
        change Hs17 (wT w g) [(g1, 29, gC f acc (.slice (some ⟨g, 0, none⟩) sn sc)), (g, 37, (xs'.set k (mkE (-33))).flatMap eC ++ sp)] _ w41 at hS
        simp [Act.put]
        refine wpList_nil ?_
        clear c66 hPt hx
        go_wp2
        go_roundw
        case rel => exact ⟨k + 1, _, by omega, by go_num, HX2, hS⟩
        case measure => simp [intOf]; omega
      · have hkd : decide ((k : Int) < (sn : Int)) = false := by simp; omega
        have hfl2 : (xs'.flatMap eC).length = sn * 262 := by rw [← (unhide HX).1]; exact flat_len (fun x h => eC_len ((unhide HX).2 x h))
        have hOL : Oe wr 0 (.slice (some ⟨g, 0, none⟩) sn sc) xs' := (hS.rowOwn 1 rfl (unhide HX).1.symm (unhide HLE).1 (unhide HLE).2 (by have h1 := unhide HCL; have h2 := unhide HFL; rw [List.length_append] at h1 ⊢; omega) (unhide HX).2).mono (Nat.zero_le _)
        have HC : Hid (ChgV (.slice (some ⟨g, 0, none⟩) sn sc) w wr) := hide ⟨hS.bel.os, hS.bel.tape, hS.bel.output, hS.K.1, fun k hk hn => hS.K.2 k hk (fun e => hn (by rw [e]; rfl))⟩
        have hyn : xs'.length = sn := (unhide HX).1
        clear hS
        have hP0 : ∀ k, (.slice (some ⟨g, 0, none⟩) sn sc : Value).ownBlock = some k → (.slice (some ⟨g, 0, none⟩) sn sc : Value).ownBlock = some k ∨ w.heap.size ≤ k := fun k h => .inl h
        go_wp2_with fail
        go_loopw [4, 5] (fun v i wr => ∃ (j : Nat) (ys : List Ent), j ≤ 16 ∧ i = .int .i64 j ∧ Oe wr 0 v ys ∧ ys.length = sn + j ∧ Hid (∀ k, v.ownBlock = some k → (.slice (some ⟨g, 0, none⟩) sn sc : Value).ownBlock = some k ∨ w.heap.size ≤ k) ∧ Hid (ChgV (.slice (some ⟨g, 0, none⟩) sn sc) w wr)) (fun _ i _ => 16 - (intOf i).toNat)
        case atStart => exact ⟨0, xs', by omega, rfl, hOL, by omega, hide hP0, HC⟩
        case round =>
          clear hOL hP0 HC
          obtain ⟨j, ys, hj, rfl, hO, hyl, HP, HC⟩ := hrel
          by_cases hlt : j < 16
          · have hjz : (j : Int) < 16 := by omega
            have hS := Hs17.begin wr (fun w' => Oe w' 0 u4 ys) (fun w' ho => hO.old ho)
            clear hO
            go_upto_region 9 with fail
            refine wp_region_lit ?_
            refine wl (by kernel_rfl) fun kQ hkQ => ?_
            go_simp
            refine hkQ _ _ ?_
            clear hkQ kQ
            refine wv (aV (eC (mkE (-34)))) (by kernel_rfl) (ex_build 37 #[(1, .const (.int .i64 (-34)))] rfl (eC (mkE (-34))) (b_ei (-34)) rfl) ?_
            simp [Act.put]
            refine wl (by kernel_rfl) fun kQ hkQ => ?_
            refine op_bs1 27 (.tmp 25) rfl (mkE (-34)) (mkE_ok _) rfl hS ?_
            clear hS
            intro g9 w9 hS
            refine hkQ _ _ ?_
            clear hkQ kQ
            simp [Act.put]
            refine wl_appendL (by kernel_rfl) (.tmp 24) (.tmp 26) rfl rfl hS.K ⟨some ⟨g9, 0, none⟩, 1, 1, [mkE (-34)]⟩ (es_one hS (mkE_ok _)) rfl (by simp only; omega) (Nat.zero_le _) ?_
            intro v' w' hO' hg9 hpl
            have HC' := hide (((unhide HC).then_ hS.bel).grow hg9 (unhide HP))
            have hz9 := Nat.le_trans (unhide HC).size hS.bel.size
            have HP' : Hid (∀ k, v'.ownBlock = some k → (.slice (some ⟨g, 0, none⟩) sn sc : Value).ownBlock = some k ∨ w.heap.size ≤ k) := hide (fun k hk => by
              rcases hpl with e | e
              · rw [e] at hk; exact unhide HP k hk
              · rw [e] at hk; cases hk; exact .inr hz9)
            simp [Act.put]
            clear hS hg9 hpl HP HC
            refine wl (by kernel_rfl) fun kQ hkQ => ?_
            go_simp
            refine hkQ _ _ ?_
            clear hkQ kQ
            refine wpList_nil ?_
            go_wp2
            go_roundw
            case rel => exact ⟨j + 1, ys ++ [mkE (-34)], by omega, by go_num, hO', by simp; omega, HP', HC'⟩
            case measure => simp [intOf]; omega
          · have hjd : decide ((j : Int) < 16) = false := by simp; omega
            obtain ⟨a4, n4, c4, hv4⟩ : ∃ a n c, u4 = Value.slice a n c := by
              rcases hO.own.2 with ⟨h, -⟩ | ⟨g, c, cur, h, -⟩
              · exact ⟨_, _, _, h⟩
              · exact ⟨_, _, _, h⟩
            subst hv4
            clear hO
            go_wp2
            go_ret
            exact ⟨⟨_, rfl⟩, unhide HC⟩
end Go.Proofs.Ytebaiaghbfbgmaa
