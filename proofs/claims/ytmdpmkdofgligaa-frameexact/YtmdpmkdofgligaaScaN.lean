import Derived.Test.YtmdpmkdofgligaaAllN
import Derived.Test.YtmdpmkdofgligaaScaW
import Derived.Maps.AppendAt
set_option linter.unusedVariables false
namespace Go.Proofs.Ytmdpmkdofgligaa
open Go.RowKit Go.Shelf
attribute [local go_sem] Oper.semAt_some

/-- two payloads lie in blocks of their own -/
def Apf (x y : Fx) : Prop := ∀ a b, x.a = some a → y.a = some b → a.block ≠ b.block
theorem lies_blk {B : Nat} {x : Fx} {W : World} (h : x.Lies B W) : ∀ a, x.a = some a → B ≤ a.block ∧ a.block < W.heap.size := by
  intro a ha
  obtain ⟨⟨c, ho⟩, -⟩ := h
  rw [ha] at ho
  exact ho.lt _ rfl
theorem lies_low {B B' : Nat} {x : Fx} {W : World} (h : x.Lies B W) (hB : B' ≤ B) : x.Lies B' W := by
  obtain ⟨⟨c, ho⟩, h2⟩ := h
  exact ⟨⟨c, own_to' ho (Nat.le_refl _) hB⟩, h2⟩
theorem apf_new {B : Nat} {pre : List Fx} {x : Fx} {V0 W : World} (h0 : ∀ y ∈ pre, y.Lies B V0) (h : x.Lies V0.heap.size W) : ∀ y ∈ pre, Apf y x := by
  intro y hy a b ha hb
  have h1 := (lies_blk (h0 y hy) a ha).2
  have h2 := (lies_blk h b hb).1
  omega
theorem pw_snoc {pre : List Fx} {x : Fx} (h : pre.Pairwise Apf) (hx : ∀ y ∈ pre, Apf y x) : (pre ++ [x]).Pairwise Apf := by
  rw [List.pairwise_append]
  exact ⟨h, List.pairwise_singleton _ _, fun y hy z hz => by obtain rfl := List.mem_singleton.1 hz; exact hx y hy⟩
theorem ok_putObj {W : World} {d : Sl} {l : Nat} {o o' : Obj} (h : d.Ok W) (ho : W.heap[l]? = some o) (hc : o.isCells = false) : d.Ok (W.putObj l o') := by
  refine ⟨h.len, h.le, h.mx, h.nn, h.isB, fun hp => ?_⟩
  obtain ⟨b, off, ha, hlt, hcl⟩ := h.lies hp
  have hne : b ≠ l := by
    rintro rfl
    have h1 := hcl 0 hp
    unfold World.cell? at h1
    simp only [ho] at h1
    cases o <;> simp [Obj.isCells] at h1 hc
  refine ⟨b, off, ha, by simpa using hlt, fun i hi => ?_⟩
  rw [World.cell?_of_block (w := W) (a := ⟨b, off + i, none⟩) (World.putObj_heap_other hne)]
  exact hcl i hi
theorem kpN_put {W : World} {d : Sl} {bx l : Nat} {o o' : Obj} (hne : bx < l) (ho : W.heap[l]? = some o) (hc : o.isCells = false) : KpN d bx W (W.putObj l o') :=
  ⟨by simp, fun h => ok_putObj h ho hc, fun cs fr h => (World.putObj_heap_other (by omega)).trans h⟩
def scJ (w : World) (pre : List Fx) (W : World) : Prop := scI w pre W ∧ pre.Pairwise Apf
theorem scJ_own (w : World) {B : Nat} (hB : w.heap.size ≤ B) : OwnFrom B (scJ w) := fun pre W W' row h hg hrow => ⟨scI_own w hB pre W W' row h.1 hg hrow, h.2⟩
set_option maxHeartbeats 4000000 in
set_option maxRecDepth 100000 in
theorem scan_anyN (d : Sl) (fs : List (Int × List Int)) (r : List Int) (w : World) (hd : d.Ok w) (hl : d.l = flat fs ++ r) (hfs : Okf fs) (hr : (mz r).1 = 0) (hsz : d.n ≤ 1099511627776) :
    Calls Try.prog 19 #[d.v] w fun e w' => ∃ v xs, e = .returned (.tuple #[v, .int .i64 (flat fs).length, .int .i64 (mz r).2]) ∧ w'.ownsRow w.heap.size 39 2 v xs.length (fxC xs) ∧
      xs.map Fx.d = pls 0 fs ∧ (∀ x ∈ xs, x.Lies w.heap.size w') ∧ xs.Pairwise Apf ∧ Below w.heap.size w w' := by
  obtain ⟨i0, hi, hz0, hz1, hz2⟩ := info_parts Try.infoF
  obtain ⟨a, n, c, L⟩ := d
  simp only [Sl.v]
  have hnf : fs.length ≤ 109951162777 := by
    have h1 := flat_len fs
    have h2 : L.length = n := hd.len
    have h3 := congrArg List.length hl
    simp only at h3 hsz
    rw [List.length_append] at h3
    omega
  refine (callsIn_wide (n := 5)).1 ?_
  refine callsIn_of_wp_marks Try.func19 rfl trivial ?_ rfl
  simp only [Try.ntmps19, List.size_toArray, List.length_cons, List.length_nil, Nat.reduceAdd, Nat.reduceSub, Array.replicate_succ, Array.replicate_zero, List.push_toArray, List.append_toArray, List.nil_append, List.cons_append]
  have hA := all_any a n c ((w.alloc (.cells #[.slice none 0 0] 48)).alloc (.cells #[.int .i64 0] 3))
  gi_wp2_with (refine ⟨trivial, ?_⟩; gi_at_call 21; refine (callsIn_wide.2 hA).mono ?_; rintro e w1 ⟨rfl, rfl⟩; clear hA)
  obtain ⟨W0, hW0⟩ : ∃ W0, ((w.alloc (.cells #[.slice none 0 0] 48)).alloc (.cells #[.int .i64 0] 3)).alloc (.cells #[.slice a n c] 29) = W0 := ⟨_, rfl⟩
  have bF : Boxed W0 w.heap.size 48 (.slice none 0 0) := by rw [← hW0]; exact ((Boxed.new w _ _).alloc _).alloc _
  have bE : Boxed W0 (w.heap.size + 1) 3 (.int .i64 0) := by
    have h := (Boxed.new (w.alloc (.cells #[.slice none 0 0] 48)) 3 (.int .i64 0)).alloc (.cells #[.slice a n c] 29)
    rw [World.size_alloc, hW0] at h
    exact h
  have bX : W0.heap[w.heap.size + 1 + 1]? = some (.cells #[.slice a n c] 29 (0, 0)) := by
    have h := Boxed.new ((w.alloc (.cells #[.slice none 0 0] 48)).alloc (.cells #[.int .i64 0] 3)) 29 (.slice a n c)
    rw [World.size_alloc, World.size_alloc, hW0] at h
    exact h
  have hB0 : Below w.heap.size w W0 := by rw [← hW0]; exact (((Below.refl _ w).alloc (Nat.le_refl _) _).alloc (by simp) _).alloc (by simp; omega) _
  have hs0 : W0.heap.size = w.heap.size + 3 := by rw [← hW0]; simp
  rw [hW0]
  refine range_N rfl (by omega) (gf := 29) (lb := #[.pointer (some ⟨w.heap.size + 1 + 1, 0, none⟩)]) rfl trivial (enters_of Try.func29 (by kernel_rfl) rfl)
    (all1_seqN (5 - 1) (w.heap.size + 1 + 1) (by omega) ⟨a, n, c, L⟩ fs r hl hfs hr hsz W0 (hd.later hB0) bX) (fun h k => KpN.trans h k)
    (fun W l o o' hl ho hc hw => kpN_put (by omega) ho hc) (Below.refl _ _) (fun _ => rfl)
    (scJ w) (fun _ _ _ => False) (scJ_own w (by omega)) (fun _ _ _ _ _ hs _ _ => hs)
    ⟨⟨⟨_, bF, World.ownsRow_nil _ _ _ _⟩, bE, fun x hx => (by cases hx), hB0⟩, List.Pairwise.nil⟩
    (fun pre x a' W => (scA w x W ∧ ∀ y ∈ pre, Apf y x) ∧ ∃ B', (W.heap[B']? = some (.cells #[.int .u8 x.k, .slice x.a x.p.length x.p.length] 39 (0, 0)) ∧ scN w B' W) ∧ a' = { tmps := #[.slice a n c, undef, .slice none 0 0, .int .i64 0, .int .i64 0, .pointer (some ⟨w.heap.size, 0, none⟩), .pointer (some ⟨w.heap.size + 1, 0, none⟩), .int .i64 x.at_, .pointer (some ⟨B', 0, none⟩), undef, undef, undef, .slice a n c, .func (.func 29) #[] #[.pointer (some ⟨w.heap.size + 1 + 1, 0, none⟩)], .int .i64 x.at_, .agg #[.int .u8 x.k, .slice x.a x.p.length x.p.length], undef, undef, undef, undef, undef, undef, undef, undef, undef, undef, undef, undef, undef, undef, undef, undef, undef, undef, undef, undef, undef], defers := [] })
    ?hAx ?assign ?body ?done ?stop
  case hAx =>
    rintro pre x a' _ W W' row ⟨⟨hx, hap⟩, B', ⟨hb, hN⟩, e⟩ hg hrow
    have hr' : ∀ r, row = some r → ∃ o : Obj, W.heap[r]? = some o ∧ o.isCells = false := fun r e => (hrow r e).2
    obtain ⟨v, hv, hne⟩ := hN
    exact ⟨⟨lies_nocell hx hg hr', hap⟩, B', ⟨cells_nocell hb hg hr', v, cells_nocell hv hg hr', hne⟩, e⟩
  case assign =>
    intro l pre x V0 W K hi0 hi hx hK
    have hap := apf_new hi0.1.2.2.1 hx.1
    have hx2 : Fx.Lies w.heap.size x W := lies_low hx.1 hi0.1.2.2.2.size
    obtain ⟨at_, k, xa, p⟩ := x
    dsimp only [Fx.enc]
    gi_wp2
    refine hK _ _ ((KeepsOthers.alloc _ _).from _) (KpN.of_below (below_alloc W _)) ?_ ⟨⟨?_, hap⟩, W.heap.size, ⟨heap_alloc_new W _, ?_⟩, rfl⟩
    · exact (scJ_own w (B := W0.heap.size) (by omega)).alloc _ hi
    · exact lies_nocell hx2 (World.grownBy_alloc W _ none) (fun r e => by cases e)
    · obtain ⟨⟨⟨v, hv, hrow⟩, -⟩, -⟩ := hi
      exact ⟨v, hv.alloc _, fun e => by have := (hrow.lt _ e).2; omega⟩
  case body =>
    rintro l pre x a' W hlB ⟨⟨⟨v, hv, hrow⟩, he, hxs, hB⟩, hpw⟩ ⟨⟨hx, hap⟩, B', ⟨hb, hN⟩, rfl⟩ hsp
    have hlt : pre.length < fs.length := by obtain ⟨q, hq⟩ := hsp; have h := congrArg List.length hq; simp [pls_length] at h; omega
    clear hsp
    have HPW : Hid ((pre ++ [x]).Pairwise Apf) := hide (pw_snoc hpw hap)
    clear hpw hap
    obtain ⟨at_, k, xa, p⟩ := x
    simp only at hb ⊢
    have hNv : v.ownBlock ≠ some B' := by
      obtain ⟨v2, hv2, hne⟩ := hN
      have e := hv2.symm.trans hv
      simp at e
      rw [← e]
      exact hne
    have hF := hv.cell
    have hE := he.cell
    have hEf := he.frozen
    have hFf := hv.frozen
    have hc0 : W.cell? ⟨B', 0, none⟩ = some (.int .u8 k) := by rw [cell_of_row _ B' 0 _ _ _ hb]; rfl
    have hc1 : W.cell? ⟨B', 1, none⟩ = some (.slice xa p.length p.length) := by rw [cell_of_row _ B' 1 _ _ _ hb]; rfl
    obtain ⟨hx1, hx2, hx3, hx4⟩ := hx
    simp only at hx1 hx2 hx3 hx4
    have hBs := hB.size
    generalize hN' : p.length = N at *
    gi_wp2_with (gi_at_builtin; refine wpListIn_append_own _ rfl _ _ 48 rfl w.heap.size 39 i0 (.agg #[.int .u8 0, .slice none 0 0]) 2 32 Try.underlying48 hi hz0 hz1 hz2 rfl (by decide) _ _ _ rfl (hrow.alloc _) ⟨W.heap.size, 0, none⟩ 1 1 [.int .u8 k, .slice xa N N] rfl rfl (cell2_new _ _ _ _) (one2 _ _ _ _) (by unfold maxLen; omega) (by omega) (by simp; omega) ?_)
    intro v' w1 hown' hgrow _
    obtain ⟨g', cap', hv', -, -⟩ := hown'.form (by omega)
    subst hv'
    obtain ⟨hv1, hv2, hr2, hk2, hb2⟩ := hv.appended (by decide) hrow hBs (Nat.le_refl _) hown' hgrow
    have hb3 : (w1.setCell ⟨w.heap.size, 0, none⟩ (.slice (some ⟨g', 0, none⟩) (pre.length + 1) cap')).heap[B']? = _ := kept1 hb hgrow hNv (blk_typ hb hv (by decide))
    have he3 : Boxed (w1.setCell ⟨w.heap.size, 0, none⟩ (.slice (some ⟨g', 0, none⟩) (pre.length + 1) cap')) (w.heap.size + 1) 3 (.int .i64 (endF pre)) := kept1 he hgrow (own_typ hrow he (by decide)) (by omega)
    have hX2 : ∀ cs fr, W.heap[w.heap.size + 1 + 1]? = some (.cells cs 29 fr) → (w1.setCell ⟨w.heap.size, 0, none⟩ (.slice (some ⟨g', 0, none⟩) (pre.length + 1) cap')).heap[w.heap.size + 1 + 1]? = some (.cells cs 29 fr) := fun cs fr h => kept1 h hgrow (own_typ hrow h (by decide)) (by omega)
    have HXX := hide hX2
    clear hX2
    have hF1 := hv1.cell
    have hF2 := hv1.frozen
    have hG1 := he3.cell
    have hG2 := he3.frozen
    have hG3 : (w1.setCell ⟨w.heap.size, 0, none⟩ (.slice (some ⟨g', 0, none⟩) (pre.length + 1) cap')).cell? ⟨B', 1, none⟩ = some (.slice xa N N) := by rw [cell_of_row _ B' 1 _ _ _ hb3]; rfl
    have HX2 : Hid (∀ x ∈ pre ++ [⟨at_, k, xa, p⟩], x.Lies w.heap.size (w1.setCell ⟨w.heap.size, 0, none⟩ (.slice (some ⟨g', 0, none⟩) (pre.length + 1) cap'))) := hide (fun x hx => by
      rcases List.mem_append.1 hx with h | h
      · exact lies_kept (hxs x h) hgrow hrow (by decide) hv (by decide)
      · obtain rfl := List.mem_singleton.1 h
        exact lies_kept ⟨by rw [hN']; exact hx1, hx2, by rw [hN']; exact hx3, hx4⟩ hgrow hrow (by decide) hv (by decide))
    generalize hW2 : w1.setCell ⟨w.heap.size, 0, none⟩ (.slice (some ⟨g', 0, none⟩) (pre.length + 1) cap') = W2 at *
    clear hb hgrow hc0 hc1 hF hE hEf hFf hown'
    gi_wp2
    have hfin : (at_ : Int) + 6 + (N : Int) + 4 = ((endF (pre ++ [⟨at_, k, xa, p⟩]) : Nat) : Int) := by rw [endF_snoc]; simp only [hN']; omega
    rw [hfin]
    refine ⟨((hk2.trans (KeepsOthers.setCell _ _ _)).from _), ⟨(hb2.setCell (p := ⟨w.heap.size + 1, 0, none⟩) (Nat.le_succ _) _).size, fun _ => hd.later (hB.trans (hb2.setCell (p := ⟨w.heap.size + 1, 0, none⟩) (Nat.le_succ _) _)), fun cs fr h => set_other (unhide HXX cs fr h) (by omega)⟩, ⟨⟨⟨_, set_other hv2 (by omega), ?_⟩, he3.set _, fun x hx => lies_set (unhide HX2 x hx) he3 (by decide), hB.trans (hb2.setCell (p := ⟨w.heap.size + 1, 0, none⟩) (Nat.le_succ _) _)⟩, unhide HPW⟩⟩
    have h := own_set (B := w.heap.size + 1) (v := .int .i64 ((endF (pre ++ [⟨at_, k, xa, p⟩]) : Nat) : Int)) hr2 (own_typ hr2 he3 (by decide))
    rw [fxC_append, List.length_append]
    simp only [fxC, hN', List.length_cons, List.length_nil]
    exact h
  case done =>
    rintro D xs W hD hS ⟨⟨⟨v, hv, hrow⟩, he, hxs, hB⟩, hpw⟩ hDD
    have HPW := hide hpw
    clear hpw
    have hend := endF_flat hS
    have hF := hv.cell
    have hE := he.cell
    rw [hend] at hE
    have hdW := (hd.later hB)
    have hdr : L.drop (flat fs).length = r := by rw [show L = flat fs ++ r from hl, List.drop_left]
    have hle : (flat fs).length ≤ n := by
      have h2 : L.length = n := hd.len
      have h3 := congrArg List.length hl
      rw [List.length_append] at h3
      omega
    have hD2 := decode_none ⟨a, n, c, L⟩ (flat fs).length W hdW hle (by simp only; rw [hdr]; exact hr)
    simp only [Sl.v, hdr, fr0, frV] at hD2
    obtain ⟨t, ht⟩ : ∃ t, t = (mz r).2 := ⟨_, rfl⟩
    rw [← ht] at hD2
    have HT := hide ht
    clear ht
    gi_wp2_with (refine ⟨trivial, ?_⟩; gi_at_call 10; refine (callsIn_wide.2 hD2).mono ?_; rintro e w2 ⟨rfl, b2⟩; clear hD2)
    have b5 := bel_then b2 b2.size (below_alloc w2 (.cells #[.int .u8 0, .slice none 0 0] 39))
    generalize w2.alloc (.cells #[.int .u8 0, .slice none 0 0] 39) = W5 at b5 ⊢
    have hv5 : Boxed W5 w.heap.size 48 v := (b5.block _ hv.lt).trans hv
    have he5 : Boxed W5 (w.heap.size + 1) 3 (.int .i64 (flat fs).length) := by rw [hend] at he; exact (b5.block _ he.lt).trans he
    have hD5 := (b5.block _ (Array.getElem?_eq_some_iff.1 hDD).1).trans hDD
    have hF5 := hv5.cell
    have hE5 := he5.cell
    clear hF hE b2
    gi_region
    all_goals gi_wp2
    refine ⟨by simp, .inl ⟨_, _, rfl, run_takeDeferred hD5, ?_⟩⟩
    rw [← unhide HT]
    have hgD := grownBy_putObj' W5.drew D (.deferred none)
    have hrD : ∀ r, some D = some r → ∃ o : Obj, W5.drew.heap[r]? = some o ∧ o.isCells = false := fun r e => by cases e; exact ⟨_, hD5, rfl⟩
    have h5 : ∀ r, (none : Option Nat) = some r → ∃ o : Obj, W.heap[r]? = some o ∧ o.isCells = false := fun r e => by cases e
    have hB5 := (bel_then hB hB.size b5).drew
    refine ⟨_, results_tmp3 rfl _ _ _, v, xs, rfl, own_nocell (W := W5.drew) (own_nocell hrow (grown_of_below b5.drew) h5) hgD hrD, hS, fun x hx => lies_nocell (W := W5.drew) (lies_nocell (hxs x hx) (grown_of_below b5.drew) h5) hgD hrD, unhide HPW, hB5.grown hgD hB5.size (fun k e => by cases e; omega)⟩
  case stop =>
    rintro D c pre W _ _ h _
    exact h.elim
end Go.Proofs.Ytmdpmkdofgligaa
