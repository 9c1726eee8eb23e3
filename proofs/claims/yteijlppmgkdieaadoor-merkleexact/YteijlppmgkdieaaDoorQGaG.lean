import Derived.Test.YteijlppmgkdieaaDoorQGaE
import Derived.Test.YteijlppmgkdieaaDoorQGaF
import Derived.Deep.DeepCutAuto
import Derived.Deep.QuietTactic
import Derived.BigQuiet
set_option linter.unusedVariables false
set_option linter.unusedSimpArgs false
namespace Go.Proofs.YteijlppmgkdieaaDoor
open Go.RowKit


theorem hl_sx {w : World} {s : Hl} (h : s.Ok w) : Sx.Ok U8 32 w (⟨s.a, s.n, s.c, s.ls⟩ : (Sx (List Int))) := ⟨h.len, h.le, h.mx, h.nn, h.lies⟩
theorem sx_hl {w : World} {a : Option Addr} {n c : Nat} {ls : List (List Int)} (h : Sx.Ok U8 32 w (⟨a, n, c, ls⟩ : (Sx (List Int)))) (hh : ∀ l ∈ ls, Hs l) : Hl.Ok w ⟨a, n, c, ls⟩ := ⟨h.len, h.le, h.mx, h.nn, hh, h.lies⟩
theorem Hl.Ok.all {w : World} {s : Hl} (h : s.Ok w) {i : Nat} {l : List Int} (hi : s.ls[i]? = some l) : ∃ b off, s.a = some ⟨b, off, none⟩ ∧ Hs l ∧ ∀ w', Hl.Ok w' s → w'.rangeAt b (off + i * 32) (U8 l) := by
  obtain ⟨b, off, e, -, -, hl⟩ := h.at_ hi
  refine ⟨b, off, e, hl, fun w' h' => ?_⟩
  obtain ⟨b2, off2, e2, -, hr, -⟩ := h'.at_ hi
  rw [e] at e2
  simp only [Option.some.injEq, Addr.mk.injEq] at e2
  obtain ⟨rfl, rfl, -⟩ := e2
  exact hr
theorem u8_32 {l : List Int} (h : Hs l) : (U8 l).length = 32 := by simp [h.len]
theorem Hs17.old' {w0 w : World} {rows : List Row} {K : World → Prop} (h : Hs17 w0 rows K w) : Old w0 w := Old.of h.bel
/-- a row of one's own, read as a slice -/
theorem RowG.sx {α : Type} {f : α → List Value} {sz : Nat} {e : TypeId} {w0 w : World} {rows R : List Row} {K : World → Prop} {s : Sx α} {l : List α} (h : RowG f sz e s l R) (hf : ∀ x ∈ l, (f x).length = sz) (hR : ∀ p ∈ R, p ∈ rows) (hS : Hs17 w0 rows K w) : Sx.Ok f sz w ⟨s.a, s.n, s.c, l⟩ := by
  obtain ⟨sa, sn, sc, sx⟩ := s
  obtain ⟨hl, h⟩ := h
  simp only at hl h ⊢
  rcases h with ⟨rfl, rfl, rfl, rfl⟩ | ⟨g, sp, rfl, hle, hmx, hsz, rfl⟩
  · exact ⟨hl, Nat.le_refl _, Nat.zero_le _, fun _ => ⟨rfl, rfl⟩, fun h => absurd h (by simp)⟩
  · have hA := hS.arr (g, e, l.flatMap f ++ sp) (hR _ (by simp))
    refine ⟨hl, hle, hmx, (fun h => by cases h), fun _ => ⟨g, 0, rfl, hA.lt, fun i x hi j v hv => ?_⟩⟩
    have hc := flat_at hf hi j v hv
    rw [Nat.zero_add, hA.cell]
    rw [List.getElem?_append_left (by have := (List.getElem?_eq_some_iff.1 hc).1; exact this)]
    exact hc
/-! Slices of hashes as elements. -/
def sV (s : (Sx (List Int))) : List Value := [s.v]
theorem sV_len (s : (Sx (List Int))) : (sV s).length = 1 := rfl
theorem one_sV (s : (Sx (List Int))) : ∀ u ∈ sV s, u.oneCell' = true := fun u hu => by simp [sV] at hu; subst hu; rfl
theorem Tryd.infoSH : (Tryd.prog.info? 32).map (fun i => (i.zero, i.size, i.bytes)) = some (some (.slice none 0 0), 1, 24) := by kernel_rfl
theorem Tryd.infoHH : (Tryd.prog.info? 28).map (fun i => (i.zero, i.size, i.bytes)) = some (some (aV (U8 z32)), 32, 32) := by kernel_rfl
/-! The Shelf's cells. -/
def shC (u v : Value) : List Value := [u, v]
theorem Tryd.inSh : (Tryd.prog.info? 26).map (fun i => (i.zero, i.size)) = some (some (aV (shC (.slice none 0 0) (.slice none 0 0))), 2) := by kernel_rfl
theorem at_s0 (u v : Value) : At (shC u v) 0 [u] := ⟨[], [v], rfl, rfl⟩
theorem at_s1 (u v : Value) : At (shC u v) 1 [v] := ⟨[u], [], rfl, rfl⟩
theorem pt_s0 (u v x : Value) : Pt (shC u v) 0 [x] (shC x v) := ⟨[], [u], [v], rfl, rfl, rfl, rfl⟩
theorem pt_s1 (u v x : Value) : Pt (shC u v) 1 [x] (shC u x) := ⟨[u], [v], [], rfl, rfl, rfl, rfl⟩
theorem Tryd.in1SS : (Tryd.prog.info? 24).map (·.size) = some 1 := by kernel_rfl
theorem Tryd.in1SH : (Tryd.prog.info? 32).map (·.size) = some 1 := by kernel_rfl
theorem one_one {v : Value} (h : v.oneCell' = true) : ∀ u ∈ [v], u.oneCell' = true := by intro u hu; simp at hu; subst hu; exact h
/-- what was put: the answer, its copy, the hashes, the answer's rows -/
structure It where (p q : (Sx (List Int))) (ls : List (List Int)) (R : List Row)
structure It.Ok (it : It) : Prop where
  row : RowG U8 32 28 it.p it.ls it.R
  q : it.q.xs = it.ls
  hs : ∀ l ∈ it.ls, Hs l
  sz : it.ls.length ≤ 100000
def itRs (its : List It) : List Row := its.flatMap It.R
/-- the shelf -/
structure ShS (w0 : World) (gS : Nat) (its : List It) (rest : List Row) (K : World → Prop) (L W : Sx (Sx (List Int))) (RL RW : List Row) (w : World) : Prop where
  lt : RowG sV 1 32 L (its.map It.p) RL
  wt : RowG sV 1 32 W (its.map It.q) RW
  s : Hs17 w0 ((gS, 26, shC L.v W.v) :: (rest ++ (itRs its ++ (RL ++ RW)))) (fun w' => K w' ∧ ∀ it ∈ its, Sx.Ok U8 32 w' it.q) w
  ok : ∀ it ∈ its, it.Ok
end Go.Proofs.YteijlppmgkdieaaDoor

set_option linter.unusedSimpArgs false
set_option linter.unusedVariables false
namespace Go.Proofs.YteijlppmgkdieaaDoor
open Go.RowKit

set_option maxHeartbeats 4000000 in
set_option maxRecDepth 100000 in
theorem sameH_t (s t : Hl) (w : World) (hs : s.Ok w) (ht : t.Ok w) (he : s.ls = t.ls) :
    Calls Tryd.prog 20 #[s.v, t.v] w fun e w' => e = .returned (.bool true) ∧ Below w.heap.size w w' := by
  obtain ⟨sa, n, c, ls⟩ := s
  obtain ⟨ta, m, d, lt⟩ := t
  simp only at he
  subst he
  obtain rfl : n = m := hs.len.symm.trans ht.len
  have HL := hide hs.len
  have hsm : n ≤ 9223372036854775807 := by have h1 := hs.le; have h2 := hs.mx; unfold maxLen at h2; simp only at h1 h2; omega
  have hS := Hs17.begin w (fun w' => Hl.Ok w' ⟨sa, n, c, ls⟩ ∧ Hl.Ok w' ⟨ta, n, d, ls⟩) (fun w' ho => ⟨hs.old ho, ht.old ho⟩)
  simp only [Hl.v]
  clear hs ht
  go_enter Tryd.func20, Tryd.ntmps20
  go_wp2_with fail
  go_loopw [5] (fun i wr => ∃ k : Nat, k ≤ n ∧ i = .int .i64 k ∧ Hs17 w [] (fun w' => Hl.Ok w' ⟨sa, n, c, ls⟩ ∧ Hl.Ok w' ⟨ta, n, d, ls⟩) wr) (fun i _ => n - (intOf i).toNat)
  case atStart => exact ⟨0, by omega, rfl, hS⟩
  case round =>
    clear hS
    obtain ⟨k, hk, rfl, hS⟩ := hrel
    by_cases hlt : k < n
    · obtain ⟨x, hx⟩ : ∃ x, ls[k]? = some x := ⟨_, List.getElem?_eq_getElem (by have := unhide HL; omega)⟩
      obtain ⟨b1, o1, h1, hxs, hr1⟩ := hS.K.1.all (i := k) hx
      obtain ⟨b2, o2, h2, -, hr2⟩ := hS.K.2.all (i := k) hx
      simp only at h1 h2
      subst h1 h2
      have hkz : (k : Int) < (n : Int) := by omega
      clear hx
      go_upto_region 6 with fail
      clear hkz
      refine wp_region_noPanic ?_
      replace hS := hS.drew
      refine wp_region_held_drew (S := Hs17 w [] (fun w' => Hl.Ok w' ⟨(some ⟨b1, o1, none⟩), n, c, ls⟩ ∧ Hl.Ok w' ⟨(some ⟨b2, o2, none⟩), n, d, ls⟩)) (by kernel_rfl) (hS.sub (List.Sublist.slnil)) (fun hHeld => ?_)
      generalize World.drew _ = w21 at hS hHeld ⊢
      refine wpAnyH_take (i := 0) (oi := _) (v := (.slice (some ⟨b1, o1, none⟩) n c)) rfl (by kernel_rfl) (by kernel_rfl) (by kernel_rfl) (fun _ _ _ h => h) (Or.inl ⟨by rfl, fun w hSw => by go_simp⟩) hHeld ?_
      simp [Act.put]
      refine wpAnyH_take (i := 1) (oi := _) (v := .int .i64 k) rfl (by kernel_rfl) (by kernel_rfl) (by kernel_rfl) (fun _ _ _ h => h) (Or.inl ⟨by rfl, fun w hSw => by go_simp⟩) hHeld ?_
      simp [Act.put]
      refine wpAnyH_take (i := 2) (oi := _) (v := .pointer (some ⟨b1, o1 + k * 32, none⟩)) rfl (by kernel_rfl) (by kernel_rfl) (by kernel_rfl) (fun _ _ _ h => h) (Or.inl ⟨by rfl, fun w hSw => by go_simp⟩) hHeld ?_
      simp [Act.put]
      refine wpAnyH_take (i := 3) (oi := _) (v := aV (U8 x)) rfl (by kernel_rfl) (by kernel_rfl) (by kernel_rfl) (fun _ _ _ h => h) (yl_loadR (by kernel_rfl) 28 (.tmp 19) rfl b1 (o1 + k * 32) rfl (U8 x) (fun w9 h9 => hr1 w9 h9.K.1) Tryd.underlying28 rfl (szH hxs)) hHeld ?_
      simp [Act.put]
      refine wpAnyH_take (i := 4) (oi := _) (v := (.slice (some ⟨b2, o2, none⟩) n d)) rfl (by kernel_rfl) (by kernel_rfl) (by kernel_rfl) (fun _ _ _ h => h) (Or.inl ⟨by rfl, fun w hSw => by go_simp⟩) hHeld ?_
      simp [Act.put]
      refine wpAnyH_take (i := 5) (oi := _) (v := .int .i64 k) rfl (by kernel_rfl) (by kernel_rfl) (by kernel_rfl) (fun _ _ _ h => h) (Or.inl ⟨by rfl, fun w hSw => by go_simp⟩) hHeld ?_
      simp [Act.put]
      refine wpAnyH_take (i := 6) (oi := _) (v := .pointer (some ⟨b2, o2 + k * 32, none⟩)) rfl (by kernel_rfl) (by kernel_rfl) (by kernel_rfl) (fun _ _ _ h => h) (Or.inl ⟨by rfl, fun w hSw => by go_simp⟩) hHeld ?_
      simp [Act.put]
      refine wpAnyH_take (i := 7) (oi := _) (v := aV (U8 x)) rfl (by kernel_rfl) (by kernel_rfl) (by kernel_rfl) (fun _ _ _ h => h) (yl_loadR (by kernel_rfl) 28 (.tmp 23) rfl b2 (o2 + k * 32) rfl (U8 x) (fun w9 h9 => hr2 w9 h9.K.2) Tryd.underlying28 rfl (szH hxs)) hHeld ?_
      simp [Act.put]
      refine wpAnyH_take (i := 8) (oi := _) (v := .bool (!true)) rfl (by kernel_rfl) (by kernel_rfl) (by kernel_rfl) (fun _ _ _ h => h) (yl_val (by kernel_rfl) _ (fun w => ex_neq 28 (.tmp 20) (.tmp 24) rfl (U8 x) (U8 x) rfl rfl true (by rw [← eqB_self x]; exact eqHr x x hxs hxs _) Tryd.egH)) hHeld ?_
      simp [Act.put]
      refine wpAnyH_done (by kernel_rfl) ?_ _
      unfold NoPanic
      clear hHeld
      go_wp2_with fail
      go_roundw
      case rel => exact ⟨k + 1, by omega, by go_num, hS⟩
      case measure => simp [intOf]; omega
    · have hkd : decide ((k : Int) < (n : Int)) = false := by simp; omega
      go_wp2
      go_ret
      exact ⟨rfl, hS.bel⟩
end Go.Proofs.YteijlppmgkdieaaDoor

set_option linter.unusedSimpArgs false
set_option linter.unusedVariables false
namespace Go.Proofs.YteijlppmgkdieaaDoor
open Go.RowKit

def m90 : List Int := 90 :: List.replicate 31 0
theorem m90_hs : Hs m90 := ⟨by simp [m90], fun z hz => by simp [m90] at hz; omega⟩
theorem b_h90 : Tryd.prog.built 28 [(0, .int .u8 90)] = some (U8 m90).toArray := by kernel_rfl
/-- a slice of hashes appended to a row of one's own -/
theorem wl_appH {ops : Array Oper} {rest : List Oper} {o : Oper} {a : Act} {w : World} {Q : Exit → Act → World → Prop} (hw : Region.wanted o (yielded ops a.tmps) = true) (s x : Operand) (ho : o.op = .call { callee := .builtin .append, args := #[s, x], argTypes := #[32, 32] })
    {base : Nat} {v : Value} {xs : List (List Int)} (hs : a.eval s = v) (hown : w.ownsRow base 28 32 v xs.length (xs.flatMap U8)) (y : (Sx (List Int))) (hy : Sx.Ok U8 32 w y) (hh : ∀ l ∈ y.xs, Hs l) (hx : a.eval x = y.v) (hb : (xs.length + y.n) * 32 ≤ 140737488355328) (hbase : base ≤ w.heap.size)
    (h : ∀ v' w', w'.ownsRow base 28 32 v' (xs ++ y.xs).length ((xs ++ y.xs).flatMap U8) → w.grownBy w' v.ownBlock → (v'.ownBlock = v.ownBlock ∨ v'.ownBlock = some w.heap.size) → wpList Tryd.prog ops Q rest (a.put o.dst v') w') : wpList Tryd.prog ops Q (o :: rest) a w :=
  wl hw fun k hk => op_appendL s x 32 ho Tryd.underlying32 Tryd.infoHH rfl (by omega) hs hown y hy (fun z hz => u8_32 (hh z hz)) (fun z _ => U8_one z) hx hb (by omega) hbase (fun v' w' h1 h2 h3 => hk _ _ (h v' w' h1 h2 h3))
theorem wl_bs1H {ops : Array Oper} {rest : List Oper} {o : Oper} {a : Act} {w w0 : World} {Q : Exit → Act → World → Prop} {rows : List Row} {K : World → Prop} (hw : Region.wanted o (yielded ops a.tmps) = true) (x : Operand) (ho : o.op = .buildSlice 32 1 #[(0, x)]) (l : List Int) (hl : Hs l) (hx : a.eval x = aV (U8 l)) (hS : Hs17 w0 rows K w)
    (h : ∀ g w', Hs17 w0 ((g, 28, U8 l) :: rows) K w' → wpList Tryd.prog ops Q rest (a.put o.dst (.slice (some ⟨g, 0, none⟩) 1 1)) w') : wpList Tryd.prog ops Q (o :: rest) a w :=
  wl hw fun k hk => op_bs1G 32 28 x ho Tryd.underlying32 Tryd.infoHH (aV (U8 l)) (U8 l) hx rfl (u8_32 hl) (by omega) (by omega) hS (fun g w' h1 => hk _ _ (h g w' h1))
set_option maxHeartbeats 4000000 in
set_option maxRecDepth 100000 in
theorem roomyH_any (s : Hl) (w : World) (hs : s.Ok w) (hn : s.n ≤ 200) :
    Calls Tryd.prog 14 #[s.v] w fun e w' => ∃ v, e = .returned v ∧ HOwn w' w.heap.size v (s.ls ++ List.replicate 70 m90) ∧ Below w.heap.size w w' := by
  obtain ⟨sa, n, c, ls⟩ := s
  have HL := hide hs.len
  have HH := hide hs.hs
  have hS := Hs17.begin w (fun w' => Hl.Ok w' ⟨sa, n, c, ls⟩) (fun w' ho => hs.old ho)
  have hN := own_nil (f := U8) (sz := 32) w w.heap.size 28
  have hsx := hl_sx hs
  simp only [Hl.v]
  simp only at hn
  clear hs
  go_enter Tryd.func14, Tryd.ntmps14
  go_upto_region 2 with fail
  refine wp_region_lit ?_
  refine wl (by kernel_rfl) fun kQ hkQ => ?_
  go_simp
  refine hkQ _ _ ?_
  clear hkQ kQ
  refine wl (by kernel_rfl) fun kQ hkQ => ?_
  go_simp
  refine hkQ _ _ ?_
  clear hkQ kQ
  refine wl_appH (by kernel_rfl) (.tmp 5) (.tmp 6) rfl rfl hN ⟨sa, n, c, ls⟩ hsx (unhide HH) rfl (by simp only [List.length_nil]; omega) (Nat.le_refl _) ?_
  intro v1 w1 hO1 hg1 ho1
  have hB1 : Below w.heap.size w w1 := own_belG (row := none) hN hg1 (Nat.le_refl _) (Nat.le_refl _)
  simp only [List.nil_append] at hO1
  simp [Act.put]
  clear hg1 ho1 hN hsx hS
  refine wl (by kernel_rfl) fun kQ hkQ => ?_
  go_simp
  refine hkQ _ _ ?_
  clear hkQ kQ
  refine wpList_nil ?_
  go_wp2_with fail
  go_loopw [3, 4] (fun v vi wr => ∃ (k : Nat) (v3 : Value), k ≤ 70 ∧ vi = .int .i64 k ∧ v = v3 ∧ wr.ownsRow w.heap.size 28 32 v3 (ls ++ List.replicate k m90).length ((ls ++ List.replicate k m90).flatMap U8) ∧ Below w.heap.size w wr) (fun _ vi _ => 70 - (intOf vi).toNat)
  case atStart => exact ⟨0, v1, by omega, rfl, rfl, by simpa using hO1, hB1⟩
  case round =>
    clear hO1 hB1
    obtain ⟨k, v3, hk, rfl, hv3, hO, hB⟩ := hrel
    have hv4 := hv3.symm
    clear hv3
    subst hv4
    by_cases hlt : k < 70
    · have hkz : (k : Int) < 70 := by omega
      have HLK : Hid ((ls ++ List.replicate k m90).length ≤ 1000) := hide (by have := unhide HL; simp; omega)
      obtain ⟨xs, hxs⟩ : ∃ xs, xs = ls ++ List.replicate k m90 := ⟨_, rfl⟩
      rw [← hxs] at hO HLK
      have HX : Hid (xs ++ [m90] = ls ++ List.replicate (k + 1) m90) := hide (by rw [hxs, List.replicate_succ', List.append_assoc])
      have hS := Hs17.begin wr (fun w' => w'.ownsRow w.heap.size 28 32 v3 xs.length (xs.flatMap U8)) (fun w' ho => own_blk hO (fun g hg => ho.block g (own_lt hO hg).2))
      clear hxs hO
      go_upto_region 6 with fail
      clear hkz
      refine wp_region_lit ?_
      refine wl (by kernel_rfl) fun kQ hkQ => ?_
      go_simp
      refine hkQ _ _ ?_
      clear hkQ kQ
      refine wv (aV (U8 m90)) (by kernel_rfl) (ex_build 28 #[(0, .const (.int .u8 90))] rfl (U8 m90) b_h90 rfl) ?_
      simp [Act.put]
      refine wl_bs1H (by kernel_rfl) (.tmp 13) rfl m90 m90_hs rfl hS ?_
      clear hS
      intro g2 w2 hS
      simp [Act.put]
      refine wl_appH (by kernel_rfl) (.tmp 12) (.tmp 14) rfl rfl hS.K ⟨some ⟨g2, 0, none⟩, 1, 1, [m90]⟩ (sx_one hS) (fun l hl => by simp at hl; subst hl; exact m90_hs) rfl (by have := unhide HLK; simp only; omega) (Nat.le_trans hB.size hS.bel.size) ?_
      intro v4 w4 hO4 hg4 ho4
      have hB4 : Below w.heap.size w w4 := (hB.trans (hS.bel.mono hB.size)).trans (own_belG (row := none) hS.K hg4 (Nat.le_refl _) (Nat.le_trans hB.size hS.bel.size))
      simp only [unhide HX] at hO4
      clear hS hg4 ho4 hB
      simp [Act.put]
      refine wl (by kernel_rfl) fun kQ hkQ => ?_
      go_simp
      refine hkQ _ _ ?_
      clear hkQ kQ
      refine wpList_nil ?_
      go_wp2_with fail
      go_roundw
      case rel => exact ⟨k + 1, v4, by omega, by go_num, rfl, hO4, hB4⟩
      case measure => simp [intOf]; omega
    · have hkd : ¬ ((k : Int) < 70) := by omega
      obtain rfl : k = 70 := by omega
      go_wp2
      go_ret
      exact ⟨_, rfl, ⟨hO, fun l hl => (List.mem_append.1 (show l ∈ ls ++ List.replicate 70 m90 from hl)).elim (fun h => unhide HH l h) (fun h => by have e := List.eq_of_mem_replicate h; subst e; exact m90_hs)⟩, hB⟩
end Go.Proofs.YteijlppmgkdieaaDoor

set_option linter.unusedVariables false
set_option linter.unusedSimpArgs false
namespace Go.Proofs.YteijlppmgkdieaaDoor
open Go.RowKit

theorem perm_l {α : Type} (s : α) (A B C D : List α) : (s :: (A ++ (B ++ (C ++ D)))).Perm ((s :: (A ++ (B ++ D))) ++ C) := by
  have h : (A ++ (B ++ (C ++ D))).Perm (A ++ (B ++ (D ++ C))) := List.Perm.append_left A (List.Perm.append_left B List.perm_append_comm)
  have e : A ++ (B ++ (D ++ C)) = (A ++ (B ++ D)) ++ C := by simp [List.append_assoc]
  rw [e] at h
  exact h.cons s
theorem perm_w {α : Type} (s : α) (A B C D : List α) : (s :: (A ++ (B ++ (C ++ D)))) = ((s :: (A ++ (B ++ C))) ++ D) := by simp [List.append_assoc]
/-- what a call made and will not be written to again -/
theorem Hs17.ownS {α : Type} {f : α → List Value} {sz : Nat} {e : TypeId} {w0 w w' : World} {rows : List Row} {K : World → Prop} {v : Value} {xs : List α} (hS : Hs17 w0 rows K w) (hb : Below w.heap.size w w') (hO : w'.ownsRow w.heap.size e sz v xs.length (xs.flatMap f)) (hf : ∀ x ∈ xs, (f x).length = sz) :
    ∃ s : Sx α, v = s.v ∧ s.xs = xs ∧ Hs17 w0 rows (fun w => K w ∧ Sx.Ok f sz w s) w' := by
  obtain ⟨s, hv, hx, hok, ha⟩ := own_sx hO hf
  refine ⟨s, hv, hx, (hS.later hb).also (fun w'' h1 h2 => hok.keep h1 (fun _ x hx hlt => h2 _ hlt (fun p hp e => ?_)))⟩
  have h3 := (hS.arr p hp).lt
  have h4 := (ha x hx).1
  omega
section
variable {o : Oper} {a : Act} {w w0 : World} {k : Act → World → Prop} {Q : Exit → Act → World → Prop} {K : World → Prop}
/-- a slice of one slice -/
theorem op_bsS {rows : List Row} (x : Operand) (ho : o.op = .buildSlice 24 1 #[(0, x)]) (p : (Sx (List Int))) (hx : a.eval x = p.v) (hS : Hs17 w0 rows K w)
    (h : ∀ g w', Hs17 w0 ((g, 32, sV p) :: rows) K w' → k (a.put o.dst (.slice (some ⟨g, 0, none⟩) 1 1)) w') : o.wp Tryd.prog a w k Q :=
  op_bs1G 24 32 x ho Tryd.underlying24 Tryd.infoSH p.v (sV p) hx rfl rfl (by omega) (by omega) hS h
/-- one slice more -/
theorem op_appS {rows R : List Row} {S : Sx (Sx (List Int))} {l : List (Sx (List Int))} (s x : Operand) (ho : o.op = .call { callee := .builtin .append, args := #[s, x], argTypes := #[24, 24] })
    (hR : RowG sV 1 32 S l R) (hS : Hs17 w0 (rows ++ R) K w) (hs : a.eval s = S.v) (g : Nat) (p : (Sx (List Int))) (hx : a.eval x = .slice (some ⟨g, 0, none⟩) 1 1) (hg : (g, 32, sV p) ∈ rows) (hb : l.length ≤ 5000000000000)
    (h : ∀ S' R' w', RowG sV 1 32 S' (l ++ [p]) R' → Hs17 w0 (rows ++ R') K w' → k (a.put o.dst S'.v) w') : o.wp Tryd.prog a w k Q := by
  have hA := hS.arr _ (List.mem_append_left R hg)
  have hy : Sx.Ok sV 1 w (⟨some ⟨g, 0, none⟩, 1, 1, [p]⟩ : Sx (Sx (List Int))) := by
    refine ⟨rfl, Nat.le_refl _, by show 1 ≤ maxLen; unfold maxLen; omega, (fun h => by cases h), fun _ => ⟨g, 0, rfl, hA.lt, fun i y hi => ?_⟩⟩
    cases i with
    | zero => simp at hi; subst hi; simpa using (At.self _).range hA
    | succ i => simp at hi
  refine op_appendL s x 24 ho Tryd.underlying24 Tryd.infoSH rfl (by omega) hs (hR.own (fun z _ => sV_len z) hS) (⟨some ⟨g, 0, none⟩, 1, 1, [p]⟩ : Sx (Sx (List Int))) hy (fun z _ => sV_len z) (fun z _ => one_sV z) hx (by simp only; omega) (by omega) hS.bel.size ?_
  intro v' w' h1 h2 h3
  obtain ⟨S', R', rfl, hR', hS'⟩ := hS.regrow hR (fun z _ => sV_len z) h2 h1 h3
  exact h S' R' w' hR' hS'
/-- a copy -/
theorem op_cpy {rows : List Row} (s x : Operand) (ho : o.op = .call { callee := .builtin .append, args := #[s, x], argTypes := #[32, 32] }) (hs : a.eval s = .slice none 0 0) (p : (Sx (List Int))) (hx : a.eval x = p.v) (hp : Sx.Ok U8 32 w p) (hh : ∀ l ∈ p.xs, Hs l) (hn : p.n ≤ 100000) (hS : Hs17 w0 rows K w)
    (h : ∀ q w', q.xs = p.xs → Hs17 w0 rows (fun w => K w ∧ Sx.Ok U8 32 w q) w' → k (a.put o.dst q.v) w') : o.wp Tryd.prog a w k Q := by
  have hN := own_nil (f := U8) (sz := 32) w w.heap.size 28
  refine op_appendL s x 32 ho Tryd.underlying32 Tryd.infoHH rfl (by omega) hs hN p hp (fun z hz => u8_32 (hh z hz)) (fun z _ => U8_one z) hx (by simp only [List.length_nil]; omega) (by omega) (Nat.le_refl _) ?_
  intro v' w' h1 h2 h3
  have hb : Below w.heap.size w w' := own_belG (row := none) hN h2 (Nat.le_refl _) (Nat.le_refl _)
  rw [List.nil_append] at h1
  obtain ⟨q, rfl, hq, hS'⟩ := hS.ownS hb h1 (fun z hz => u8_32 (hh z hz))
  exact h q w' hq hS'
end
end Go.Proofs.YteijlppmgkdieaaDoor

set_option linter.unusedSimpArgs false
set_option linter.unusedVariables false
namespace Go.Proofs.YteijlppmgkdieaaDoor
open Go.RowKit

/-- what a put leaves -/
def PutE (w0 : World) (gS : Nat) (its : List It) (p : (Sx (List Int))) (ls : List (List Int)) (RP rest : List Row) (K : World → Prop) (e : Ending) (w' : World) : Prop :=
  e = .returned (.tuple #[]) ∧ ∃ L' W' RL' RW' q, ShS w0 gS (its ++ [⟨p, q, ls, RP⟩]) rest K L' W' RL' RW' w'
theorem put_fin {w0 : World} {gS : Nat} {its : List It} {rest RP : List Row} {K : World → Prop} {L' W' : Sx (Sx (List Int))} {RL' RW' : List Row} {p q : (Sx (List Int))} {ls : List (List Int)} {w : World} (hL : RowG sV 1 32 L' (its.map It.p ++ [p]) RL') (hW : RowG sV 1 32 W' (its.map It.q ++ [q]) RW')
    (hS : Hs17 w0 ((gS, 26, shC L'.v W'.v) :: (((RP ++ rest) ++ (itRs its ++ RL')) ++ RW')) (fun w' => (K w' ∧ ∀ it ∈ its, Sx.Ok U8 32 w' it.q) ∧ Sx.Ok U8 32 w' q) w)
    (hp : RowG U8 32 28 p ls RP) (hq : q.xs = ls) (hh : ∀ l ∈ ls, Hs l) (hz : ls.length ≤ 100000) (hok : ∀ it ∈ its, it.Ok) : ShS w0 gS (its ++ [⟨p, q, ls, RP⟩]) rest K L' W' RL' RW' w := by
  refine ⟨by rw [List.map_append]; exact hL, by rw [List.map_append]; exact hW, ?_, fun it hit => ?_⟩
  · have h1 : ((gS, 26, shC L'.v W'.v) :: (((RP ++ rest) ++ (itRs its ++ RL')) ++ RW')).Perm ((gS, 26, shC L'.v W'.v) :: (rest ++ (itRs (its ++ [⟨p, q, ls, RP⟩]) ++ (RL' ++ RW')))) := by
      refine List.Perm.cons _ ?_
      have e1 : itRs (its ++ [⟨p, q, ls, RP⟩]) = itRs its ++ RP := by simp [itRs]
      rw [e1]
      have e2 : ((RP ++ rest) ++ (itRs its ++ RL')) ++ RW' = RP ++ (rest ++ (itRs its ++ (RL' ++ RW'))) := by simp [List.append_assoc]
      have e3 : rest ++ ((itRs its ++ RP) ++ (RL' ++ RW')) = (rest ++ itRs its) ++ (RP ++ (RL' ++ RW')) := by simp [List.append_assoc]
      have e4 : RP ++ (rest ++ (itRs its ++ (RL' ++ RW'))) = RP ++ ((rest ++ itRs its) ++ (RL' ++ RW')) := by simp [List.append_assoc]
      rw [e2, e3, e4, ← List.append_assoc, ← List.append_assoc (rest ++ itRs its)]
      exact List.Perm.append_right _ List.perm_append_comm
    refine (hS.swap h1).weak (fun w h => ⟨h.1.1, fun it hit => ?_⟩)
    rcases List.mem_append.1 hit with h2 | h2
    · exact h.1.2 it h2
    · simp at h2; subst h2; exact h.2
  · rcases List.mem_append.1 hit with h2 | h2
    · exact hok it h2
    · simp at h2; subst h2; exact ⟨hp, hq, hh, hz⟩
set_option maxHeartbeats 4000000 in
set_option maxRecDepth 100000 in
theorem putH_any (w0 : World) (gS : Nat) (its : List It) (rest RP : List Row) (K : World → Prop) (L W : Sx (Sx (List Int))) (RL RW : List Row) (p : (Sx (List Int))) (ls : List (List Int)) (w : World) (hSh : ShS w0 gS its (RP ++ rest) K L W RL RW w) (hp : RowG U8 32 28 p ls RP) (hh : ∀ l ∈ ls, Hs l) (hz : ls.length ≤ 100000) (hN : its.length ≤ 4000000000000) :
    Calls Tryd.prog 32 #[.pointer (some ⟨gS, 0, none⟩), p.v] w fun e w' => PutE w0 gS its p ls RP rest K e w' := by
  obtain ⟨hL, hW, hS, hok⟩ := hSh
  have HOK := hide hok
  have HP := hide hp
  have HH := hide hh
  have HZ := hide hz
  have HN := hide hN
  have HPn : Hid (p.n ≤ 100000) := hide (by have := hp.1; omega)
  have HPs : Hid (∀ (rows : List Row) (K : World → Prop) (w : World), (∀ r ∈ RP, r ∈ rows) → Hs17 w0 rows K w → Sx.Ok U8 32 w (⟨p.a, p.n, p.c, ls⟩ : (Sx (List Int)))) := hide (fun rows K w h1 h2 => hp.sx (fun x hx => u8_32 (hh x hx)) h1 h2)
  replace hS := hS.swap (perm_l _ _ _ _ _)
  obtain ⟨Ls, hLs⟩ : ∃ l, l = its.map It.p := ⟨_, rfl⟩
  obtain ⟨Ws, hWs⟩ : ∃ l, l = its.map It.q := ⟨_, rfl⟩
  rw [← hLs] at hL
  rw [← hWs] at hW
  have HLs := hide (And.intro hLs hWs)
  have HLn : Hid (Ls.length ≤ 5000000000000 ∧ Ws.length ≤ 5000000000000) := hide (by rw [hLs, hWs]; simp; omega)
  clear hok hp hh hz hN hLs hWs
  obtain ⟨pa, pn, pc, px⟩ := p
  simp only [Sx.v] at *
  go_enter Tryd.func32, Tryd.ntmps32
  go_upto_region 1 with fail
  refine wp_region_lit ?_
  refine wl (by kernel_rfl) fun kQ hkQ => ?_
  go_simp
  refine hkQ _ _ ?_
  clear hkQ kQ
  refine wl (by kernel_rfl) fun kQ hkQ => ?_
  go_simp
  refine hkQ _ _ ?_
  clear hkQ kQ
  refine wl (by kernel_rfl) fun kQ hkQ => ?_
  go_simp
  refine hkQ _ _ ?_
  clear hkQ kQ
  refine wl (by kernel_rfl) fun kQ hkQ => ?_
  go_simp
  refine hkQ _ _ ?_
  clear hkQ kQ
  refine wl_load1 (by kernel_rfl) 24 (.tmp 8) rfl 0 rfl 0 rfl (.slice L.a L.n L.c) (at_s0 _ _) Tryd.underlying24 rfl hS ?_
  simp [Act.put]
  refine wl (by kernel_rfl) fun kQ hkQ => ?_
  go_simp
  refine hkQ _ _ ?_
  clear hkQ kQ
  refine wl (by kernel_rfl) fun kQ hkQ => op_bsS (.tmp 10) rfl ⟨pa, pn, pc, px⟩ rfl hS ?_
  clear hS
  intro g1 w1 hS
  refine hkQ _ _ ?_
  clear hkQ kQ
  simp [Act.put]
  replace hS := hS.swap (List.Perm.swap _ _ _)
  refine wl (by kernel_rfl) fun kQ hkQ => op_appS (rows := (gS, 26, shC (.slice L.a L.n L.c) (.slice W.a W.n W.c)) :: (g1, 32, sV ⟨pa, pn, pc, px⟩) :: ((RP ++ rest) ++ (itRs its ++ RW))) (.tmp 9) (.tmp 11) rfl hL hS rfl g1 ⟨pa, pn, pc, px⟩ rfl (by simp) (unhide HLn).1 ?_
  clear hS hL
  intro L' RL' w2 hL hS
  refine hkQ _ _ ?_
  clear hkQ kQ
  simp [Act.put]
  refine wl (by kernel_rfl) fun kQ hkQ => ?_
  go_simp
  refine hkQ _ _ ?_
  clear hkQ kQ
  refine wl (by kernel_rfl) fun kQ hkQ => ?_
  go_simp
  refine hkQ _ _ ?_
  clear hkQ kQ
  obtain ⟨La, Ln, Lc, Lx⟩ := L'
  simp only [Sx.v] at *
  refine wl_store (by kernel_rfl) 24 (.tmp 14) (.tmp 12) rfl 0 rfl 0 rfl [.slice La Ln Lc] (shC (.slice La Ln Lc) (.slice W.a W.n W.c)) (pt_s0 _ _ _) rfl Tryd.in1SS (one_one rfl) hS ?_
  clear hS
  intro w3 hS
  change Hs17 w0 ((gS, 26, shC (.slice La Ln Lc) (.slice W.a W.n W.c)) :: (g1, 32, sV ⟨pa, pn, pc, px⟩) :: (((RP ++ rest) ++ (itRs its ++ RW)) ++ RL')) _ w3 at hS
  simp [Act.put]
  refine wpList_nil ?_
  replace hS := hS.sub (((List.Sublist.refl _).cons _).cons_cons _)
  replace hS : Hs17 w0 ((gS, 26, shC (.slice La Ln Lc) (.slice W.a W.n W.c)) :: (((RP ++ rest) ++ (itRs its ++ RL')) ++ RW)) (fun w' => K w' ∧ ∀ it ∈ its, Sx.Ok U8 32 w' it.q) w3 := hS.swap (List.Perm.cons _ (by
    have e1 : ((RP ++ rest) ++ (itRs its ++ RW)) ++ RL' = ((RP ++ rest) ++ itRs its) ++ (RW ++ RL') := by simp [List.append_assoc]
    have e2 : ((RP ++ rest) ++ (itRs its ++ RL')) ++ RW = ((RP ++ rest) ++ itRs its) ++ (RL' ++ RW) := by simp [List.append_assoc]
    rw [e1, e2]
    exact List.Perm.append_left _ List.perm_append_comm))
  go_upto_region 2 with fail
  refine wp_region_noPanic ?_
  replace hS := hS.drew
  refine wp_region_held_drew (S := fun _ => True) (by kernel_rfl) trivial (fun hHeld => ?_)
  generalize World.drew _ = w4 at hS ⊢
  refine wpAnyH_take (i := 0) (oi := _) (v := .pointer (some ⟨gS, 0, none⟩)) rfl (by kernel_rfl) (by kernel_rfl) (by kernel_rfl) (fun _ _ _ h => h) (Or.inl ⟨by rfl, fun w hSw => by go_simp⟩) hHeld ?_
  simp [Act.put]
  refine wpAnyH_take (i := 1) (oi := _) (v := .pointer (some ⟨gS, 0, none⟩)) rfl (by kernel_rfl) (by kernel_rfl) (by kernel_rfl) (fun _ _ _ h => h) (Or.inl ⟨by rfl, fun w hSw => by go_simp⟩) hHeld ?_
  simp [Act.put]
  refine wpAnyH_take (i := 2) (oi := _) (v := .pointer (some ⟨gS, 0, none⟩)) rfl (by kernel_rfl) (by kernel_rfl) (by kernel_rfl) (fun _ _ _ h => h) (Or.inl ⟨by rfl, fun w hSw => by go_simp⟩) hHeld ?_
  simp [Act.put]
  refine wpAnyH_take (i := 3) (oi := _) (v := .pointer (some ⟨gS, 1, none⟩)) rfl (by kernel_rfl) (by kernel_rfl) (by kernel_rfl) (fun _ _ _ h => h) (Or.inl ⟨by rfl, fun w hSw => by go_simp⟩) hHeld ?_
  simp [Act.put]
  refine wpAnyH_take (i := 5) (oi := _) (v := .slice none 0 0) rfl (by kernel_rfl) (by kernel_rfl) (by kernel_rfl) (fun _ _ _ h => h) (Or.inl ⟨by rfl, fun w hSw => by go_simp⟩) hHeld ?_
  simp [Act.put]
  refine wpAnyH_take (i := 6) (oi := _) (v := .slice pa pn pc) rfl (by kernel_rfl) (by kernel_rfl) (by kernel_rfl) (fun _ _ _ h => h) (Or.inl ⟨by rfl, fun w hSw => by go_simp⟩) hHeld ?_
  simp [Act.put]
  refine wpAnyH_ready (rs := [4, 7]) (by kernel_rfl) (by simp) ?_
  refine (AllReadyH.cons rfl (fun kQ hkQ => ?_) (AllReadyH.cons rfl (fun kQ hkQ => ?_) AllReadyH.nil))
  · skip
    refine dw (by kernel_rfl) (op_val (.slice W.a W.n W.c) (ex_load1 24 (.tmp 18) rfl 0 rfl 1 rfl (.slice W.a W.n W.c) (at_s1 _ _) Tryd.underlying24 rfl hS) ?_)
    refine hkQ.out _ _ trivial (fun hHeld => ?_)
    clear hkQ kQ
    try simp [Act.put]
    refine wpAnyH_ready (rs := [7]) (by kernel_rfl) (by simp) ?_
    refine (AllReadyH.cons rfl (fun kQ hkQ => ?_) AllReadyH.nil)
    refine dw (by kernel_rfl) (op_cpy (.tmp 20) (.tmp 21) rfl rfl ⟨pa, pn, pc, ls⟩ rfl ((unhide HPs) _ _ _ (fun r hr => by simp [hr]) hS) (unhide HH) (unhide HPn) hS ?_)
    clear hS hHeld
    intro q w12 hq hS
    obtain ⟨qa, qn, qc, qx⟩ := q
    simp only [Sx.v] at *
    refine hkQ.out _ _ trivial (fun hHeld => ?_)
    clear hkQ kQ
    try simp [Act.put]
    refine wpAnyH_ready (rs := [8]) (by kernel_rfl) (by simp) ?_
    refine (AllReadyH.cons rfl (fun kQ hkQ => ?_) AllReadyH.nil)
    refine dw (by kernel_rfl) (op_bsS (.tmp 22) rfl ⟨qa, qn, qc, qx⟩ rfl hS ?_)
    clear hS hHeld
    intro g2 w13 hS
    replace hS := hS.swap (List.Perm.swap _ _ _)
    refine hkQ.out _ _ trivial (fun hHeld => ?_)
    clear hkQ kQ
    try simp [Act.put]
    refine wpAnyH_ready (rs := [9]) (by kernel_rfl) (by simp) ?_
    refine (AllReadyH.cons rfl (fun kQ hkQ => ?_) AllReadyH.nil)
    refine dw (by kernel_rfl) (op_appS (rows := (gS, 26, shC (.slice La Ln Lc) (.slice W.a W.n W.c)) :: (g2, 32, sV ⟨qa, qn, qc, qx⟩) :: ((RP ++ rest) ++ (itRs its ++ RL'))) (.tmp 19) (.tmp 23) rfl hW hS rfl g2 ⟨qa, qn, qc, qx⟩ rfl (by simp) (unhide HLn).2 ?_)
    clear hS hHeld
    intro W' RW' w14 hW2 hS
    obtain ⟨Wa, Wn, Wc, Wx⟩ := W'
    simp only [Sx.v] at *
    refine hkQ.out _ _ trivial (fun hHeld => ?_)
    clear hkQ kQ
    try simp [Act.put]
    refine wpAnyH_take (i := 10) (oi := _) (v := .pointer (some ⟨gS, 0, none⟩)) rfl (by kernel_rfl) (by kernel_rfl) (by kernel_rfl) (fun _ _ _ h => h) (Or.inl ⟨by rfl, fun w hSw => by go_simp⟩) hHeld ?_
    simp [Act.put]
    refine wpAnyH_take (i := 11) (oi := _) (v := .pointer (some ⟨gS, 1, none⟩)) rfl (by kernel_rfl) (by kernel_rfl) (by kernel_rfl) (fun _ _ _ h => h) (Or.inl ⟨by rfl, fun w hSw => by go_simp⟩) hHeld ?_
    simp [Act.put]
    refine wpAnyH_ready (rs := [12]) (by kernel_rfl) (by simp) ?_
    refine (AllReadyH.cons rfl (fun kQ hkQ => ?_) AllReadyH.nil)
    refine dw (by kernel_rfl) (op_store 24 (.tmp 26) (.tmp 24) rfl 0 rfl 1 rfl [.slice Wa Wn Wc] (shC (.slice La Ln Lc) (.slice Wa Wn Wc)) (pt_s1 _ _ _) rfl Tryd.in1SS (one_one rfl) hS ?_)
    clear hS hHeld
    intro w15 hS
    change Hs17 w0 ((gS, 26, shC (.slice La Ln Lc) (.slice Wa Wn Wc)) :: (g2, 32, sV ⟨qa, qn, qc, qx⟩) :: (((RP ++ rest) ++ (itRs its ++ RL')) ++ RW')) _ w15 at hS
    refine hkQ.out _ _ trivial (fun hHeld => ?_)
    clear hkQ kQ
    try simp [Act.put]
    refine wpAnyH_done (by kernel_rfl) ?_ _
    unfold NoPanic
    replace hS := hS.sub (((List.Sublist.refl _).cons _).cons_cons _)
    go_wp2_with fail
    refine bodyPost_ret (results_none rfl _ _ _) rfl ?_
    refine ⟨rfl, ⟨La, Ln, Lc, Lx⟩, ⟨Wa, Wn, Wc, Wx⟩, RL', RW', ⟨qa, qn, qc, qx⟩, put_fin (by rw [← (unhide HLs).1]; exact hL) (by rw [← (unhide HLs).2]; exact hW2) hS (unhide HP) hq (unhide HH) (unhide HZ) (unhide HOK)⟩
  · skip
    refine dw (by kernel_rfl) (op_cpy (.tmp 20) (.tmp 21) rfl rfl ⟨pa, pn, pc, ls⟩ rfl ((unhide HPs) _ _ _ (fun r hr => by simp [hr]) hS) (unhide HH) (unhide HPn) hS ?_)
    clear hS hHeld
    intro q w16 hq hS
    obtain ⟨qa, qn, qc, qx⟩ := q
    simp only [Sx.v] at *
    refine hkQ.out _ _ trivial (fun hHeld => ?_)
    clear hkQ kQ
    try simp [Act.put]
    refine wpAnyH_ready (rs := [4, 8]) (by kernel_rfl) (by simp) ?_
    refine (AllReadyH.cons rfl (fun kQ hkQ => ?_) (AllReadyH.cons rfl (fun kQ hkQ => ?_) AllReadyH.nil))
    · skip
      refine dw (by kernel_rfl) (op_val (.slice W.a W.n W.c) (ex_load1 24 (.tmp 18) rfl 0 rfl 1 rfl (.slice W.a W.n W.c) (at_s1 _ _) Tryd.underlying24 rfl hS) ?_)
      refine hkQ.out _ _ trivial (fun hHeld => ?_)
      clear hkQ kQ
      try simp [Act.put]
      refine wpAnyH_ready (rs := [8]) (by kernel_rfl) (by simp) ?_
      refine (AllReadyH.cons rfl (fun kQ hkQ => ?_) AllReadyH.nil)
      refine dw (by kernel_rfl) (op_bsS (.tmp 22) rfl ⟨qa, qn, qc, qx⟩ rfl hS ?_)
      clear hS hHeld
      intro g2 w18 hS
      replace hS := hS.swap (List.Perm.swap _ _ _)
      refine hkQ.out _ _ trivial (fun hHeld => ?_)
      clear hkQ kQ
      try simp [Act.put]
      refine wpAnyH_ready (rs := [9]) (by kernel_rfl) (by simp) ?_
      refine (AllReadyH.cons rfl (fun kQ hkQ => ?_) AllReadyH.nil)
      refine dw (by kernel_rfl) (op_appS (rows := (gS, 26, shC (.slice La Ln Lc) (.slice W.a W.n W.c)) :: (g2, 32, sV ⟨qa, qn, qc, qx⟩) :: ((RP ++ rest) ++ (itRs its ++ RL'))) (.tmp 19) (.tmp 23) rfl hW hS rfl g2 ⟨qa, qn, qc, qx⟩ rfl (by simp) (unhide HLn).2 ?_)
      clear hS hHeld
      intro W' RW' w19 hW2 hS
      obtain ⟨Wa, Wn, Wc, Wx⟩ := W'
      simp only [Sx.v] at *
      refine hkQ.out _ _ trivial (fun hHeld => ?_)
      clear hkQ kQ
      try simp [Act.put]
      refine wpAnyH_take (i := 10) (oi := _) (v := .pointer (some ⟨gS, 0, none⟩)) rfl (by kernel_rfl) (by kernel_rfl) (by kernel_rfl) (fun _ _ _ h => h) (Or.inl ⟨by rfl, fun w hSw => by go_simp⟩) hHeld ?_
      simp [Act.put]
      refine wpAnyH_take (i := 11) (oi := _) (v := .pointer (some ⟨gS, 1, none⟩)) rfl (by kernel_rfl) (by kernel_rfl) (by kernel_rfl) (fun _ _ _ h => h) (Or.inl ⟨by rfl, fun w hSw => by go_simp⟩) hHeld ?_
      simp [Act.put]
      refine wpAnyH_ready (rs := [12]) (by kernel_rfl) (by simp) ?_
      refine (AllReadyH.cons rfl (fun kQ hkQ => ?_) AllReadyH.nil)
      refine dw (by kernel_rfl) (op_store 24 (.tmp 26) (.tmp 24) rfl 0 rfl 1 rfl [.slice Wa Wn Wc] (shC (.slice La Ln Lc) (.slice Wa Wn Wc)) (pt_s1 _ _ _) rfl Tryd.in1SS (one_one rfl) hS ?_)
      clear hS hHeld
      intro w20 hS
      change Hs17 w0 ((gS, 26, shC (.slice La Ln Lc) (.slice Wa Wn Wc)) :: (g2, 32, sV ⟨qa, qn, qc, qx⟩) :: (((RP ++ rest) ++ (itRs its ++ RL')) ++ RW')) _ w20 at hS
      refine hkQ.out _ _ trivial (fun hHeld => ?_)
      clear hkQ kQ
      try simp [Act.put]
      refine wpAnyH_done (by kernel_rfl) ?_ _
      unfold NoPanic
      replace hS := hS.sub (((List.Sublist.refl _).cons _).cons_cons _)
      go_wp2_with fail
      refine bodyPost_ret (results_none rfl _ _ _) rfl ?_
      refine ⟨rfl, ⟨La, Ln, Lc, Lx⟩, ⟨Wa, Wn, Wc, Wx⟩, RL', RW', ⟨qa, qn, qc, qx⟩, put_fin (by rw [← (unhide HLs).1]; exact hL) (by rw [← (unhide HLs).2]; exact hW2) hS (unhide HP) hq (unhide HH) (unhide HZ) (unhide HOK)⟩
    · skip
      refine dw (by kernel_rfl) (op_bsS (.tmp 22) rfl ⟨qa, qn, qc, qx⟩ rfl hS ?_)
      clear hS hHeld
      intro g2 w21 hS
      replace hS := hS.swap (List.Perm.swap _ _ _)
      refine hkQ.out _ _ trivial (fun hHeld => ?_)
      clear hkQ kQ
      try simp [Act.put]
      refine wpAnyH_ready (rs := [4]) (by kernel_rfl) (by simp) ?_
      refine (AllReadyH.cons rfl (fun kQ hkQ => ?_) AllReadyH.nil)
      refine dw (by kernel_rfl) (op_val (.slice W.a W.n W.c) (ex_load1 24 (.tmp 18) rfl 0 rfl 1 rfl (.slice W.a W.n W.c) (at_s1 _ _) Tryd.underlying24 rfl hS) ?_)
      refine hkQ.out _ _ trivial (fun hHeld => ?_)
      clear hkQ kQ
      try simp [Act.put]
      refine wpAnyH_ready (rs := [9]) (by kernel_rfl) (by simp) ?_
      refine (AllReadyH.cons rfl (fun kQ hkQ => ?_) AllReadyH.nil)
      refine dw (by kernel_rfl) (op_appS (rows := (gS, 26, shC (.slice La Ln Lc) (.slice W.a W.n W.c)) :: (g2, 32, sV ⟨qa, qn, qc, qx⟩) :: ((RP ++ rest) ++ (itRs its ++ RL'))) (.tmp 19) (.tmp 23) rfl hW hS rfl g2 ⟨qa, qn, qc, qx⟩ rfl (by simp) (unhide HLn).2 ?_)
      clear hS hHeld
      intro W' RW' w23 hW2 hS
      obtain ⟨Wa, Wn, Wc, Wx⟩ := W'
      simp only [Sx.v] at *
      refine hkQ.out _ _ trivial (fun hHeld => ?_)
      clear hkQ kQ
      try simp [Act.put]
      refine wpAnyH_take (i := 10) (oi := _) (v := .pointer (some ⟨gS, 0, none⟩)) rfl (by kernel_rfl) (by kernel_rfl) (by kernel_rfl) (fun _ _ _ h => h) (Or.inl ⟨by rfl, fun w hSw => by go_simp⟩) hHeld ?_
      simp [Act.put]
      refine wpAnyH_take (i := 11) (oi := _) (v := .pointer (some ⟨gS, 1, none⟩)) rfl (by kernel_rfl) (by kernel_rfl) (by kernel_rfl) (fun _ _ _ h => h) (Or.inl ⟨by rfl, fun w hSw => by go_simp⟩) hHeld ?_
      simp [Act.put]
      refine wpAnyH_ready (rs := [12]) (by kernel_rfl) (by simp) ?_
      refine (AllReadyH.cons rfl (fun kQ hkQ => ?_) AllReadyH.nil)
      refine dw (by kernel_rfl) (op_store 24 (.tmp 26) (.tmp 24) rfl 0 rfl 1 rfl [.slice Wa Wn Wc] (shC (.slice La Ln Lc) (.slice Wa Wn Wc)) (pt_s1 _ _ _) rfl Tryd.in1SS (one_one rfl) hS ?_)
      clear hS hHeld
      intro w24 hS
      change Hs17 w0 ((gS, 26, shC (.slice La Ln Lc) (.slice Wa Wn Wc)) :: (g2, 32, sV ⟨qa, qn, qc, qx⟩) :: (((RP ++ rest) ++ (itRs its ++ RL')) ++ RW')) _ w24 at hS
      refine hkQ.out _ _ trivial (fun hHeld => ?_)
      clear hkQ kQ
      try simp [Act.put]
      refine wpAnyH_done (by kernel_rfl) ?_ _
      unfold NoPanic
      replace hS := hS.sub (((List.Sublist.refl _).cons _).cons_cons _)
      go_wp2_with fail
      refine bodyPost_ret (results_none rfl _ _ _) rfl ?_
      refine ⟨rfl, ⟨La, Ln, Lc, Lx⟩, ⟨Wa, Wn, Wc, Wx⟩, RL', RW', ⟨qa, qn, qc, qx⟩, put_fin (by rw [← (unhide HLs).1]; exact hL) (by rw [← (unhide HLs).2]; exact hW2) hS (unhide HP) hq (unhide HH) (unhide HZ) (unhide HOK)⟩
end Go.Proofs.YteijlppmgkdieaaDoor
