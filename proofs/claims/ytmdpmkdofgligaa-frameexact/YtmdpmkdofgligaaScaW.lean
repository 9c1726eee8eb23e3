import Derived.Test.YtmdpmkdofgligaaAllW
import Derived.Maps.AppendAt
set_option linter.unusedVariables false
namespace Go.Proofs.Ytmdpmkdofgligaa
open Go.RowKit Go.Shelf
attribute [local go_sem] Oper.semAt_some

/-- the cells of a row of frames -/
def fxC : List Fx → List Value
  | [] => []
  | x :: xs => .int .u8 x.k :: .slice x.a x.p.length x.p.length :: fxC xs
theorem fxC_append (a b : List Fx) : fxC (a ++ b) = fxC a ++ fxC b := by
  induction a with
  | nil => rfl
  | cons x a ih => simp only [List.cons_append, fxC, ih]
def endF (xs : List Fx) : Nat := match xs.getLast? with
  | none => 0
  | some x => x.at_ + x.p.length + 10
theorem endF_snoc (xs : List Fx) (x : Fx) : endF (xs ++ [x]) = x.at_ + x.p.length + 10 := by unfold endF; rw [List.getLast?_concat]
theorem Try.infoF : (Try.prog.info? 39).map (fun i => (i.zero, i.size, i.bytes)) = some (some (.agg #[.int .u8 0, .slice none 0 0]), 2, 32) := by kernel_rfl

theorem flat_len : ∀ fs : List (Int × List Int), 10 * fs.length ≤ (flat fs).length
  | [] => by simp [flat]
  | f :: fs => by
    have := flat_len fs
    simp only [flat, List.length_append, List.length_cons, encL_length]
    omega
/-- between two rounds of Scan -/
def scI (w : World) (pre : List Fx) (W : World) : Prop := (∃ v, Boxed W w.heap.size 48 v ∧ W.ownsRow w.heap.size 39 2 v pre.length (fxC pre)) ∧ Boxed W (w.heap.size + 1) 3 (.int .i64 (endF pre)) ∧ (∀ x ∈ pre, x.Lies w.heap.size W) ∧ Below w.heap.size w W
def scA (w : World) (x : Fx) (W : World) : Prop := x.Lies w.heap.size W
/-- the box of f is not the row of frames -/
def scN (w : World) (B' : Nat) (W : World) : Prop := ∃ v, Boxed W w.heap.size 48 v ∧ v.ownBlock ≠ some B'
theorem own_nocell {W W' : World} {row : Option Nat} {B e sz n : Nat} {v : Value} {xs : List Value} (h : W.ownsRow B e sz v n xs) (hg : W.grownBy W' row) (hr : ∀ r, row = some r → ∃ o : Obj, W.heap[r]? = some o ∧ o.isCells = false) : W'.ownsRow B e sz v n xs := by
  obtain ⟨h1, h2⟩ := h
  refine ⟨h1, ?_⟩
  rcases h2 with h2 | ⟨b, cap, cur, r1, r2, r3, r4⟩
  · exact .inl h2
  · refine .inr ⟨b, cap, cur, r1, r2, ?_, r4⟩
    rw [hg.block b (Array.getElem?_eq_some_iff.1 r3).1 (fun e => by obtain ⟨o, ho, hc⟩ := hr b e.symm; rw [r3] at ho; cases ho; cases hc)]
    exact r3
theorem cells_nocell {W W' : World} {row : Option Nat} {b : Nat} {cs : Array Value} {t : TypeId} {fr : Nat × Nat} (h : W.heap[b]? = some (.cells cs t fr)) (hg : W.grownBy W' row) (hr : ∀ r, row = some r → ∃ o : Obj, W.heap[r]? = some o ∧ o.isCells = false) : W'.heap[b]? = some (.cells cs t fr) := by
  rw [hg.block b (Array.getElem?_eq_some_iff.1 h).1 (fun e => by obtain ⟨o, ho, hc⟩ := hr b e.symm; rw [h] at ho; cases ho; cases hc)]
  exact h
theorem lies_nocell {W W' : World} {row : Option Nat} {B : Nat} {x : Fx} (h : x.Lies B W) (hg : W.grownBy W' row) (hr : ∀ r, row = some r → ∃ o : Obj, W.heap[r]? = some o ∧ o.isCells = false) : x.Lies B W' := by
  obtain ⟨⟨c, ho⟩, h2⟩ := h
  exact ⟨⟨c, own_nocell ho hg hr⟩, h2⟩
theorem scI_own (w : World) {B : Nat} (hB : w.heap.size ≤ B) : OwnFrom B (scI w) := by
  rintro pre W W' row ⟨⟨v, hv, hr⟩, he, hx, hb⟩ hg hrow
  have hr' : ∀ r, row = some r → ∃ o : Obj, W.heap[r]? = some o ∧ o.isCells = false := fun r e => (hrow r e).2
  exact ⟨⟨v, cells_nocell hv hg hr', own_nocell hr hg hr'⟩, cells_nocell he hg hr', fun x hxm => lies_nocell (hx x hxm) hg hr', hb.grown hg hb.size (fun k e => Nat.le_trans hB (hrow k e).1)⟩
theorem kpA_b {w W0 : World} (hB0 : Below w.heap.size w W0) (hs0 : W0.heap.size = w.heap.size + 3) (W : World) (l : Nat) (o o' : Obj) (hl : W0.heap.size ≤ l) (ho : W.heap[l]? = some o) (hc : o.isCells = false) : KpA w.heap.size (w.heap.size + 1 + 1) W (W.putObj l o') :=
  ⟨(Below.refl _ W).grown (grownBy_putObj' W l o') (by have := (Array.getElem?_eq_some_iff.1 ho).1; omega) (fun k e => by cases e; omega), fun cs fr h => (World.putObj_heap_other (by omega)).trans h⟩
theorem kept1 {W w1 : World} {b B : Nat} {tmp : Obj} {v v' : Value} {o : Obj} (hb : W.heap[b]? = some o) (hgrow : (W.alloc tmp).grownBy w1 v.ownBlock) (hne : v.ownBlock ≠ some b) (hne2 : b ≠ B) : (w1.setCell ⟨B, 0, none⟩ v').heap[b]? = some o := by
  have hlt := (Array.getElem?_eq_some_iff.1 hb).1
  have h1 : (W.alloc tmp).heap[b]? = some o := (Below.heap_alloc W tmp b hlt).trans hb
  have h2 : w1.heap[b]? = some o := (hgrow.block b (Array.getElem?_eq_some_iff.1 h1).1 (fun e => hne e.symm)).trans h1
  exact (Below.heap_setCell _ _ _ b (fun e => hne2 (by rw [e]))).trans h2
theorem own_typ {W : World} {base e sz n b : Nat} {v : Value} {xs : List Value} {cs : Array Value} {t : TypeId} {fr : Nat × Nat} (h : W.ownsRow base e sz v n xs) (hb : W.heap[b]? = some (.cells cs t fr)) (ht : t ≠ e) : v.ownBlock ≠ some b := by
  rcases h.2 with ⟨rfl, _⟩ | ⟨g, cap, cur, rfl, _, hgb, _⟩
  · simp [Value.ownBlock]
  · intro e'
    obtain rfl : g = b := by simpa [Value.ownBlock] using e'
    have := hb.symm.trans hgb
    simp at this
    exact ht this.2.1
theorem blk_typ {W : World} {b b' : Nat} {cs cs' : Array Value} {t t' : TypeId} {fr fr' : Nat × Nat} (h : W.heap[b]? = some (.cells cs t fr)) (h' : W.heap[b']? = some (.cells cs' t' fr')) (ht : t ≠ t') : b ≠ b' := by
  rintro rfl
  have := h.symm.trans h'
  simp at this
  exact ht this.2.1
theorem cell2_new (w : World) (x y : Value) (t : TypeId) : ∀ j u, [x, y][j]? = some u → (w.alloc (.cells #[x, y] t)).cell? ((⟨w.heap.size, 0, none⟩ : Addr).add j) = some u := by
  intro j u hu
  have hA : Arr (w.alloc (.cells #[x, y] t)) w.heap.size t [x, y] := Arr.new w _ [x, y]
  rw [addr_add, Nat.zero_add, hA.cell j]; exact hu
theorem one2 (k : Int) (a : Option Addr) (n c : Nat) : ∀ u ∈ ([.int .u8 k, .slice a n c] : List Value), u.oneCell' = true := by
  intro u hu; simp at hu; rcases hu with rfl | rfl <;> rfl
theorem lies_kept {W w1 : World} {B n0 : Nat} {tmp : Obj} {v v' : Value} {x : Fx} {base e sz n : Nat} {xs : List Value} (h : x.Lies n0 W) (hgrow : (W.alloc tmp).grownBy w1 v.ownBlock) (hrow : W.ownsRow base e sz v n xs) (he : e ≠ 5) {cs : Array Value} {t : TypeId} {fr : Nat × Nat} (hB : W.heap[B]? = some (.cells cs t fr)) (ht : t ≠ 5) : x.Lies n0 (w1.setCell ⟨B, 0, none⟩ v') := by
  obtain ⟨⟨c, ho⟩, h2⟩ := h
  refine ⟨⟨c, ?_⟩, h2⟩
  obtain ⟨h3, h4⟩ := ho
  refine ⟨h3, ?_⟩
  rcases h4 with h4 | ⟨b, cap, cur, r1, r2, r3, r4⟩
  · exact .inl h4
  · exact .inr ⟨b, cap, cur, r1, r2, kept1 r3 hgrow (own_typ hrow r3 (fun e' => he e'.symm)) (blk_typ r3 hB (fun e' => ht e'.symm)), r4⟩
theorem set_other {W : World} {b B : Nat} {v : Value} {o : Obj} (h : W.heap[b]? = some o) (hne : b ≠ B) : (W.setCell ⟨B, 0, none⟩ v).heap[b]? = some o := (Below.heap_setCell _ _ _ b (fun e => hne (by rw [e]))).trans h
theorem own_set {W : World} {B base e sz n : Nat} {v u : Value} {xs : List Value} (h : W.ownsRow base e sz u n xs) (hne : u.ownBlock ≠ some B) : (W.setCell ⟨B, 0, none⟩ v).ownsRow base e sz u n xs := by
  obtain ⟨h1, h2⟩ := h
  refine ⟨h1, ?_⟩
  rcases h2 with h2 | ⟨b, cap, cur, r1, r2, r3, r4⟩
  · exact .inl h2
  · exact .inr ⟨b, cap, cur, r1, r2, set_other r3 (fun e => hne (by rw [r1, e]; rfl)), r4⟩
theorem lies_set {W : World} {B n0 : Nat} {v : Value} {x : Fx} (h : x.Lies n0 W) {cs : Array Value} {t : TypeId} {fr : Nat × Nat} (hB : W.heap[B]? = some (.cells cs t fr)) (ht : t ≠ 5) : x.Lies n0 (W.setCell ⟨B, 0, none⟩ v) := by
  obtain ⟨⟨c, ho⟩, h2⟩ := h
  exact ⟨⟨c, own_set ho (own_typ ho hB ht)⟩, h2⟩
theorem endF_pls : ∀ (fs : List (Int × List Int)) (xs : List Fx) (i : Nat), xs.map Fx.d = pls i fs → fs ≠ [] → endF xs = i + (flat fs).length
  | [], _, _, _, h => absurd rfl h
  | f :: fs, [], i, h, _ => by simp [pls] at h
  | f :: fs, x :: xs, i, h, _ => by
    simp only [List.map_cons, pls, List.cons.injEq] at h
    obtain ⟨h1, h2⟩ := h
    simp only [Fx.d, Prod.mk.injEq] at h1
    cases fs with
    | nil =>
      have hx : xs = [] := by simpa [pls] using h2
      subst hx
      simp only [endF, List.getLast?_singleton, flat, List.length_append, encL_length, List.length_nil, h1.1, h1.2.2]
      omega
    | cons g fs =>
      have ih := endF_pls (g :: fs) xs _ h2 (by simp)
      cases xs with
      | nil => simp [pls] at h2
      | cons y xs =>
        have e : endF (x :: y :: xs) = endF (y :: xs) := by simp only [endF, List.getLast?_cons_cons]
        have e2 : (flat (f :: g :: fs)).length = f.2.length + 10 + (flat (g :: fs)).length := by rw [flat, List.length_append, encL_length]
        rw [e, ih, e2]
        omega
theorem endF_flat {fs : List (Int × List Int)} {xs : List Fx} (h : xs.map Fx.d = pls 0 fs) : endF xs = (flat fs).length := by
  cases fs with
  | nil =>
    have hx : xs = [] := by simpa [pls] using h
    subst hx
    rfl
  | cons f fs => rw [endF_pls _ _ 0 h (by simp), Nat.zero_add]
set_option maxHeartbeats 4000000 in
set_option maxRecDepth 100000 in
theorem scan_any (d : Sl) (fs : List (Int × List Int)) (r : List Int) (w : World) (hd : d.Ok w) (hl : d.l = flat fs ++ r) (hfs : Okf fs) (hr : (mz r).1 = 0) (hsz : d.n ≤ 1099511627776) :
    Calls Try.prog 19 #[d.v] w fun e w' => ∃ v xs, e = .returned (.tuple #[v, .int .i64 (flat fs).length, .int .i64 (mz r).2]) ∧ w'.ownsRow w.heap.size 39 2 v xs.length (fxC xs) ∧
      xs.map Fx.d = pls 0 fs ∧ (∀ x ∈ xs, x.Lies w.heap.size w') ∧ Below w.heap.size w w' := by
  obtain ⟨i0, hi, hz0, hz1, hz2⟩ := info_parts Try.infoF
  obtain ⟨a, n, c, L⟩ := d
  simp only [Sl.v]
  have hnf : fs.length ≤ 109951162777 := by
    have h1 := flat_len fs
    have h2 : L.length = n := hd.len
    have h3 := congrArg List.length hl
    simp only at h3 hsz
    rw [List.length_append] at h3
    omega
  have hdb : 0 < L.length → ∀ x, a = some x → x.block < w.heap.size := fun h => hd.blk h
  refine (callsIn_wide (n := 5)).1 ?_
  refine callsIn_of_wp_marks Try.func19 rfl trivial ?_ rfl
  simp only [Try.ntmps19, List.size_toArray, List.length_cons, List.length_nil, Nat.reduceAdd, Nat.reduceSub, Array.replicate_succ, Array.replicate_zero, List.push_toArray, List.append_toArray, List.nil_append, List.cons_append]
  have hA := all_any a n c ((w.alloc (.cells #[.slice none 0 0] 48)).alloc (.cells #[.int .i64 0] 3))
  gi_wp2_with (refine ⟨trivial, ?_⟩; gi_at_call 21; refine (callsIn_wide.2 hA).mono ?_; rintro e w1 ⟨rfl, rfl⟩; clear hA)
  obtain ⟨W0, hW0⟩ : ∃ W0, ((w.alloc (.cells #[.slice none 0 0] 48)).alloc (.cells #[.int .i64 0] 3)).alloc (.cells #[.slice a n c] 29) = W0 := ⟨_, rfl⟩
  have bF : Boxed W0 w.heap.size 48 (.slice none 0 0) := by rw [← hW0]; exact ((Boxed.new w _ _).alloc _).alloc _
  have bE : Boxed W0 (w.heap.size + 1) 3 (.int .i64 0) := by
    have h := (Boxed.new (w.alloc (.cells #[.slice none 0 0] 48)) 3 (.int .i64 0)).alloc (.cells #[.slice a n c] 29)
    rw [World.size_alloc, hW0] at h
    exact h
  have bX : W0.heap[w.heap.size + 1 + 1]? = some (.cells #[.slice a n c] 29 (0, 0)) := by
    have h := Boxed.new ((w.alloc (.cells #[.slice none 0 0] 48)).alloc (.cells #[.int .i64 0] 3)) 29 (.slice a n c)
    rw [World.size_alloc, World.size_alloc, hW0] at h
    exact h
  have hB0 : Below w.heap.size w W0 := by rw [← hW0]; exact (((Below.refl _ w).alloc (Nat.le_refl _) _).alloc (by simp) _).alloc (by simp; omega) _
  have hs0 : W0.heap.size = w.heap.size + 3 := by rw [← hW0]; simp
  rw [hW0]
  refine range_R rfl (by omega) (gf := 29) (lb := #[.pointer (some ⟨w.heap.size + 1 + 1, 0, none⟩)]) rfl trivial (enters_of Try.func29 (by kernel_rfl) rfl)
    (all1_seq (5 - 1) (w.heap.size + 1 + 1) w.heap.size (by omega) ⟨a, n, c, L⟩ fs r hl hfs hr hsz W0 (hd.later hB0) hdb (by omega) bX) (fun h k => KpA.trans h k)
    (fun W l o o' hl ho hc hw => kpA_b hB0 hs0 W l o o' hl ho hc) (Below.refl _ _) (fun _ => rfl)
    (scI w) (fun _ _ _ => False) (scI_own w (by omega)) (fun _ _ _ _ _ hs _ _ => hs)
    ⟨⟨_, bF, World.ownsRow_nil _ _ _ _⟩, bE, fun x hx => (by cases hx), hB0⟩
    (fun x a' W => scA w x W ∧ ∃ B', (W.heap[B']? = some (.cells #[.int .u8 x.k, .slice x.a x.p.length x.p.length] 39 (0, 0)) ∧ scN w B' W) ∧ a' = { tmps := #[.slice a n c, undef, .slice none 0 0, .int .i64 0, .int .i64 0, .pointer (some ⟨w.heap.size, 0, none⟩), .pointer (some ⟨w.heap.size + 1, 0, none⟩), .int .i64 x.at_, .pointer (some ⟨B', 0, none⟩), undef, undef, undef, .slice a n c, .func (.func 29) #[] #[.pointer (some ⟨w.heap.size + 1 + 1, 0, none⟩)], .int .i64 x.at_, .agg #[.int .u8 x.k, .slice x.a x.p.length x.p.length], undef, undef, undef, undef, undef, undef, undef, undef, undef, undef, undef, undef, undef, undef, undef, undef, undef, undef, undef, undef, undef], defers := [] })
    ?hAx ?assign ?body ?done ?stop
  case hAx =>
    rintro x a' _ W W' row ⟨hx, B', ⟨hb, hN⟩, e⟩ hg hrow
    have hr' : ∀ r, row = some r → ∃ o : Obj, W.heap[r]? = some o ∧ o.isCells = false := fun r e => (hrow r e).2
    obtain ⟨v, hv, hne⟩ := hN
    exact ⟨lies_nocell hx hg hr', B', ⟨cells_nocell hb hg hr', v, cells_nocell hv hg hr', hne⟩, e⟩
  case assign =>
    intro l pre x W K hi hx hK
    obtain ⟨at_, k, xa, p⟩ := x
    dsimp only [Fx.enc]
    gi_wp2
    refine hK _ _ ((KeepsOthers.alloc _ _).from _) (KpA.of_below (below_alloc W _) hi.2.2.2.size) ?_ ⟨?_, W.heap.size, ⟨heap_alloc_new W _, ?_⟩, rfl⟩
    · exact (scI_own w (B := W0.heap.size) (by omega)).alloc _ hi
    · exact lies_nocell hx (World.grownBy_alloc W _ none) (fun r e => by cases e)
    · obtain ⟨⟨v, hv, hrow⟩, -⟩ := hi
      exact ⟨v, hv.alloc _, fun e => by have := (hrow.lt _ e).2; omega⟩
  case body =>
    rintro l pre x a' W hlB ⟨⟨v, hv, hrow⟩, he, hxs, hB⟩ ⟨hx, B', ⟨hb, hN⟩, rfl⟩ hlt
    obtain ⟨at_, k, xa, p⟩ := x
    simp only at hb ⊢
    have hNv : v.ownBlock ≠ some B' := by
      obtain ⟨v2, hv2, hne⟩ := hN
      have e := hv2.symm.trans hv
      simp at e
      rw [← e]
      exact hne
    have hF := hv.cell
    have hE := he.cell
    have hEf := he.frozen
    have hFf := hv.frozen
    have hc0 : W.cell? ⟨B', 0, none⟩ = some (.int .u8 k) := by rw [cell_of_row _ B' 0 _ _ _ hb]; rfl
    have hc1 : W.cell? ⟨B', 1, none⟩ = some (.slice xa p.length p.length) := by rw [cell_of_row _ B' 1 _ _ _ hb]; rfl
    obtain ⟨hx1, hx2, hx3, hx4⟩ := hx
    simp only at hx1 hx2 hx3 hx4
    have hBs := hB.size
    generalize hN' : p.length = N at *
    gi_wp2_with (gi_at_builtin; refine wpListIn_append_own _ rfl _ _ 48 rfl w.heap.size 39 i0 (.agg #[.int .u8 0, .slice none 0 0]) 2 32 Try.underlying48 hi hz0 hz1 hz2 rfl (by decide) _ _ _ rfl (hrow.alloc _) ⟨W.heap.size, 0, none⟩ 1 1 [.int .u8 k, .slice xa N N] rfl rfl (cell2_new _ _ _ _) (one2 _ _ _ _) (by unfold maxLen; omega) (by omega) (by simp; omega) ?_)
    intro v' w1 hown' hgrow _
    obtain ⟨g', cap', hv', -, -⟩ := hown'.form (by omega)
    subst hv'
    obtain ⟨hv1, hv2, hr2, hk2, hb2⟩ := hv.appended (by decide) hrow hBs (Nat.le_refl _) hown' hgrow
    have hb3 : (w1.setCell ⟨w.heap.size, 0, none⟩ (.slice (some ⟨g', 0, none⟩) (pre.length + 1) cap')).heap[B']? = _ := kept1 hb hgrow hNv (blk_typ hb hv (by decide))
    have he3 : Boxed (w1.setCell ⟨w.heap.size, 0, none⟩ (.slice (some ⟨g', 0, none⟩) (pre.length + 1) cap')) (w.heap.size + 1) 3 (.int .i64 (endF pre)) := kept1 he hgrow (own_typ hrow he (by decide)) (by omega)
    have hX2 : ∀ cs fr, W.heap[w.heap.size + 1 + 1]? = some (.cells cs 29 fr) → (w1.setCell ⟨w.heap.size, 0, none⟩ (.slice (some ⟨g', 0, none⟩) (pre.length + 1) cap')).heap[w.heap.size + 1 + 1]? = some (.cells cs 29 fr) := fun cs fr h => kept1 h hgrow (own_typ hrow h (by decide)) (by omega)
    have HXX := hide hX2
    clear hX2
    have hF1 := hv1.cell
    have hF2 := hv1.frozen
    have hG1 := he3.cell
    have hG2 := he3.frozen
    have hG3 : (w1.setCell ⟨w.heap.size, 0, none⟩ (.slice (some ⟨g', 0, none⟩) (pre.length + 1) cap')).cell? ⟨B', 1, none⟩ = some (.slice xa N N) := by rw [cell_of_row _ B' 1 _ _ _ hb3]; rfl
    have HX2 : Hid (∀ x ∈ pre ++ [⟨at_, k, xa, p⟩], x.Lies w.heap.size (w1.setCell ⟨w.heap.size, 0, none⟩ (.slice (some ⟨g', 0, none⟩) (pre.length + 1) cap'))) := hide (fun x hx => by
      rcases List.mem_append.1 hx with h | h
      · exact lies_kept (hxs x h) hgrow hrow (by decide) hv (by decide)
      · obtain rfl := List.mem_singleton.1 h
        exact lies_kept ⟨by rw [hN']; exact hx1, hx2, by rw [hN']; exact hx3, hx4⟩ hgrow hrow (by decide) hv (by decide))
    generalize hW2 : w1.setCell ⟨w.heap.size, 0, none⟩ (.slice (some ⟨g', 0, none⟩) (pre.length + 1) cap') = W2 at *
    clear hb hgrow hc0 hc1 hF hE hEf hFf hown'
    gi_wp2
    have hfin : (at_ : Int) + 6 + (N : Int) + 4 = ((endF (pre ++ [⟨at_, k, xa, p⟩]) : Nat) : Int) := by rw [endF_snoc]; simp only [hN']; omega
    rw [hfin]
    refine ⟨((hk2.trans (KeepsOthers.setCell _ _ _)).from _), ⟨hb2.setCell (p := ⟨w.heap.size + 1, 0, none⟩) (Nat.le_succ _) _, fun cs fr h => set_other (unhide HXX cs fr h) (by omega)⟩, ⟨⟨_, set_other hv2 (by omega), ?_⟩, he3.set _, fun x hx => lies_set (unhide HX2 x hx) he3 (by decide), hB.trans (hb2.setCell (p := ⟨w.heap.size + 1, 0, none⟩) (Nat.le_succ _) _)⟩⟩
    have h := own_set (B := w.heap.size + 1) (v := .int .i64 ((endF (pre ++ [⟨at_, k, xa, p⟩]) : Nat) : Int)) hr2 (own_typ hr2 he3 (by decide))
    rw [fxC_append, List.length_append]
    simp only [fxC, hN', List.length_cons, List.length_nil]
    exact h
  case done =>
    rintro D xs W hD hS ⟨⟨v, hv, hrow⟩, he, hxs, hB⟩ hDD
    have hend := endF_flat hS
    have hF := hv.cell
    have hE := he.cell
    rw [hend] at hE
    have hdW := (hd.later hB)
    have hdr : L.drop (flat fs).length = r := by rw [show L = flat fs ++ r from hl, List.drop_left]
    have hle : (flat fs).length ≤ n := by
      have h2 : L.length = n := hd.len
      have h3 := congrArg List.length hl
      rw [List.length_append] at h3
      omega
    have hD2 := decode_none ⟨a, n, c, L⟩ (flat fs).length W hdW hle (by simp only; rw [hdr]; exact hr)
    simp only [Sl.v, hdr, fr0, frV] at hD2
    obtain ⟨t, ht⟩ : ∃ t, t = (mz r).2 := ⟨_, rfl⟩
    rw [← ht] at hD2
    have HT := hide ht
    clear ht
    gi_wp2_with (refine ⟨trivial, ?_⟩; gi_at_call 10; refine (callsIn_wide.2 hD2).mono ?_; rintro e w2 ⟨rfl, b2⟩; clear hD2)
    have b5 := bel_then b2 b2.size (below_alloc w2 (.cells #[.int .u8 0, .slice none 0 0] 39))
    generalize w2.alloc (.cells #[.int .u8 0, .slice none 0 0] 39) = W5 at b5 ⊢
    have hv5 : Boxed W5 w.heap.size 48 v := (b5.block _ hv.lt).trans hv
    have he5 : Boxed W5 (w.heap.size + 1) 3 (.int .i64 (flat fs).length) := by rw [hend] at he; exact (b5.block _ he.lt).trans he
    have hD5 := (b5.block _ (Array.getElem?_eq_some_iff.1 hDD).1).trans hDD
    have hF5 := hv5.cell
    have hE5 := he5.cell
    clear hF hE b2
    gi_region
    all_goals gi_wp2
    refine ⟨by simp, .inl ⟨_, _, rfl, run_takeDeferred hD5, ?_⟩⟩
    rw [← unhide HT]
    have hgD := grownBy_putObj' W5.drew D (.deferred none)
    have hrD : ∀ r, some D = some r → ∃ o : Obj, W5.drew.heap[r]? = some o ∧ o.isCells = false := fun r e => by cases e; exact ⟨_, hD5, rfl⟩
    have h5 : ∀ r, (none : Option Nat) = some r → ∃ o : Obj, W.heap[r]? = some o ∧ o.isCells = false := fun r e => by cases e
    have hB5 := (bel_then hB hB.size b5).drew
    refine ⟨_, results_tmp3 rfl _ _ _, v, xs, rfl, own_nocell (W := W5.drew) (own_nocell hrow (grown_of_below b5.drew) h5) hgD hrD, hS, fun x hx => lies_nocell (W := W5.drew) (lies_nocell (hxs x hx) (grown_of_below b5.drew) h5) hgD hrD, hB5.grown hgD hB5.size (fun k e => by cases e; omega)⟩
  case stop =>
    rintro D c pre W _ _ h _
    exact h.elim
end Go.Proofs.Ytmdpmkdofgligaa
