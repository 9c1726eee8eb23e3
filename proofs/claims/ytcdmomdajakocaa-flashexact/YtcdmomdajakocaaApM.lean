import Derived.Test.YtcdmomdajakocaaSpF
import Derived.Test.YtcdmomdajakocaaMayW
set_option linter.unusedVariables false
set_option linter.unusedSimpArgs false
namespace Go.Proofs.Ytcdmomdajakocaa
open Go.RowKit

theorem run_append_kept {P : Program} (w : World) (base : Nat) (t ty e : TypeId) (i : TypeInfo) (z : Value) (size bytes : Nat) (ht : P.underlying t = some (.slice e)) (hi : P.info? e = some i) (hz : i.zero = some z)
    (hsize : i.size = size) (hby : i.bytes = bytes) (hzs : z.cells.size = size) (hsz : 0 < size)
    (v : Value) (n : Nat) (xs : List Value) (hown : w.ownsRow base e size v n xs)
    (a : Addr) (m c : Nat) (news : List Value) (hl : news.length = m * size) (hnews : ∀ j u, news[j]? = some u → w.cell? (a.add j) = some u) (h1 : ∀ u ∈ news, u.oneCell' = true)
    (h63 : n + m ≤ maxLen) (hbytes : (n + m) * bytes ≤ 140737488355328) (hbase : base ≤ w.heap.size) :
    ∃ v' w', (Builtin.append_ #[t, t] ty #[v, .slice (some a) m c]).run P w = .ok v' w' ∧ w'.ownsRow base e size v' (n + m) (xs ++ news) ∧ w.grownBy w' v.ownBlock ∧ w'.ownsRow base e size v n xs := by
  obtain ⟨v', w', hr, h2, h3, h4⟩ := run_append_own (P := P) w base t ty e i z size bytes ht hi hz hsize hby hzs hsz v n xs hown a m c news hl hnews h1 h63 hbytes hbase
  refine ⟨v', w', hr, h2, h3, ?_⟩
  subst hsize
  subst hby
  have hsmall : n + m ≤ 9223372036854775807 := by simp only [maxLen] at h63; omega
  rcases hown.2 with ⟨rfl, rfl⟩ | ⟨g, cap, cur, rfl, hbg, hg, hnc, hcm, hcs, htake⟩
  · exact ⟨hown.1, .inl ⟨rfl, rfl⟩⟩
  · by_cases hroom : n + m ≤ cap
    · have hfit : n * i.size + news.length ≤ cur.size := by rw [hl, hcs, ← Nat.add_mul]; exact Nat.mul_le_mul_right _ hroom
      have hr2 := run_append_room (P := P) w t ty e i ht hi g n cap cur hg a m c news hl hnews h1 hroom hfit
      rw [hr] at hr2
      injection hr2 with e1 e2
      rw [e2]
      refine ⟨hown.1, .inr ⟨g, cap, _, rfl, hbg, setRow_heap w g cur _ e _ hg, hnc, hcm, ?_, ?_⟩⟩
      · simp only [List.size_toArray, List.length_append, List.length_take, List.length_drop, Array.length_toList]
        omega
      · rw [htake, ← hown.1, List.append_assoc]
        exact List.take_left
    · have holds : ∀ j u, xs[j]? = some u → w.cell? ((⟨g, 0, none⟩ : Addr).add j) = some u := hown.cells (g := g) rfl
      have hr2 := run_append_grow (P := P) w t ty e i z ht hi hz ⟨g, 0, none⟩ n cap xs hown.1 holds a m c news hl hnews (by omega) (by omega) (growslice_fits (by omega) hbytes)
      rw [hr] at hr2
      injection hr2 with e1 e2
      rw [e2]
      have hgl : g < w.heap.size := (hown.lt g rfl).2
      exact ⟨hown.1, .inr ⟨g, cap, cur, rfl, hbg, (heap_alloc_old w.drew _ hgl).trans hg, hnc, hcm, hcs, htake⟩⟩

/-- rows of bytes that lie apart -/
structure Rs (w : World) (vs : List Value) (ls : List (List Int)) : Prop where
  len : vs.length = ls.length
  own : ∀ (i : Nat) v l, vs[i]? = some v → ls[i]? = some l → OwB w v l
  dis : ∀ (i j : Nat) v u, vs[i]? = some v → vs[j]? = some u → i ≠ j → ∀ k, v.ownBlock = some k → u.ownBlock ≠ some k
def Far (vs : List Value) (X : Nat → Prop) : Prop := ∀ v ∈ vs, ∀ k, v.ownBlock = some k → ¬ X k
theorem Rs.nil (w : World) : Rs w [] [] := ⟨rfl, fun i v l h => by simp at h, fun i j v u h => by simp at h⟩
theorem Rs.lt {w : World} {vs : List Value} {ls : List (List Int)} (h : Rs w vs ls) : ∀ v ∈ vs, ∀ k, v.ownBlock = some k → k < w.heap.size := by
  intro v hv k hk
  obtain ⟨i, hi⟩ := List.mem_iff_getElem?.1 hv
  have hl : i < ls.length := by rw [← h.len]; exact (List.getElem?_eq_some_iff.1 hi).1
  exact (h.own i v _ hi (List.getElem?_eq_getElem hl)).lt k hk
theorem Rs.keep {S : Nat → Prop} {w w' : World} {vs : List Value} {ls : List (List Int)} (h : Rs w vs ls) (hb : Buts S w w') (hf : Far vs S) : Rs w' vs ls :=
  ⟨h.len, fun i v l hi hl => (h.own i v l hi hl).keep hb (fun g hg => hf v (List.mem_of_getElem? hi) g hg), h.dis⟩
theorem Rs.later {w w' : World} {vs : List Value} {ls : List (List Int)} (h : Rs w vs ls) (hb : Below w.heap.size w w') : Rs w' vs ls :=
  h.keep (Buts.of_below (S := fun _ => False) hb) (fun _ _ _ _ h => h)
theorem Rs.snoc {w w' : World} {vs : List Value} {ls : List (List Int)} {v : Value} {l : List Int} (h : Rs w vs ls) (hb : Below w.heap.size w w') (ho : OwB w' v l) (hn : ∀ k, v.ownBlock = some k → w.heap.size ≤ k) : Rs w' (vs ++ [v]) (ls ++ [l]) := by
  have h' := h.later hb
  have at_ : ∀ (i : Nat) u, (vs ++ [v])[i]? = some u → (i < vs.length ∧ vs[i]? = some u) ∨ (i = vs.length ∧ u = v) := by
    intro i u hi
    by_cases hl : i < vs.length
    · rw [List.getElem?_append_left hl] at hi; exact .inl ⟨hl, hi⟩
    · have hi2 : i < (vs ++ [v]).length := (List.getElem?_eq_some_iff.1 hi).1
      simp at hi2
      have : i = vs.length := by omega
      subst this
      simp at hi
      exact .inr ⟨rfl, hi.symm⟩
  refine ⟨by simp [h.len], fun i u m hi hm => ?_, fun i j u t hi hj hij k hk hk' => ?_⟩
  · rcases at_ i u hi with ⟨hl, hi⟩ | ⟨rfl, rfl⟩
    · rw [List.getElem?_append_left (by rw [← h.len]; exact hl)] at hm
      exact h'.own i u m hi hm
    · rw [h.len] at hm
      simp at hm
      subst hm
      exact ho
  · rcases at_ i u hi with ⟨hl, hi2⟩ | ⟨rfl, rfl⟩
    · rcases at_ j t hj with ⟨hl2, hj2⟩ | ⟨rfl, rfl⟩
      · exact h.dis i j u t hi2 hj2 hij k hk hk'
      · have := h.lt u (List.mem_of_getElem? hi2) k hk; have := hn k hk'; omega
    · rcases at_ j t hj with ⟨hl2, hj2⟩ | ⟨h2, -⟩
      · have := h.lt t (List.mem_of_getElem? hj2) k hk'; have := hn k hk; omega
      · exact hij h2.symm
theorem Rs.snoc' {w : World} {vs : List Value} {ls : List (List Int)} {v : Value} {l : List Int} (h : Rs w vs ls) (ho : OwB w v l) (hd : ∀ u ∈ vs, ∀ k, u.ownBlock = some k → v.ownBlock ≠ some k) : Rs w (vs ++ [v]) (ls ++ [l]) := by
  have at_ : ∀ (i : Nat) u, (vs ++ [v])[i]? = some u → (i < vs.length ∧ vs[i]? = some u) ∨ (i = vs.length ∧ u = v) := by
    intro i u hi
    by_cases hl : i < vs.length
    · rw [List.getElem?_append_left hl] at hi; exact .inl ⟨hl, hi⟩
    · have hi2 : i < (vs ++ [v]).length := (List.getElem?_eq_some_iff.1 hi).1
      simp at hi2
      have : i = vs.length := by omega
      subst this
      simp at hi
      exact .inr ⟨rfl, hi.symm⟩
  refine ⟨by simp [h.len], fun i u m hi hm => ?_, fun i j u t hi hj hij k hk hk' => ?_⟩
  · rcases at_ i u hi with ⟨hl, hi2⟩ | ⟨rfl, rfl⟩
    · rw [List.getElem?_append_left (by rw [← h.len]; exact hl)] at hm
      exact h.own i u m hi2 hm
    · rw [h.len] at hm
      simp at hm
      subst hm
      exact ho
  · rcases at_ i u hi with ⟨hl, hi2⟩ | ⟨h1, h2⟩
    · rcases at_ j t hj with ⟨hl2, hj2⟩ | ⟨h3, h4⟩
      · exact h.dis i j u t hi2 hj2 hij k hk hk'
      · subst h4; exact hd u (List.mem_of_getElem? hi2) k hk hk'
    · rcases at_ j t hj with ⟨hl2, hj2⟩ | ⟨h3, -⟩
      · subst h2; exact hd t (List.mem_of_getElem? hj2) k hk' hk
      · exact hij (h1.trans h3.symm)
theorem Far.snoc {vs : List Value} {v : Value} {X : Nat → Prop} (h : Far vs X) (hv : ∀ k, v.ownBlock = some k → ¬ X k) : Far (vs ++ [v]) X := by
  intro u hu k hk
  rcases List.mem_append.1 hu with hu | hu
  · exact h u hu k hk
  · simp at hu; subst hu; exact hv k hk
theorem Far.mono {vs : List Value} {X Y : Nat → Prop} (h : Far vs X) (hy : ∀ k, Y k → X k) : Far vs Y := fun v hv k hk hy' => h v hv k hk (hy k hy')
/-- one byte of one row turned -/
theorem Rs.put {w : World} {vs : List Value} {ls : List (List Int)} (h : Rs w vs ls) {i g n cap : Nat} {l : List Int} (hi : vs[i]? = some (.slice (some ⟨g, 0, none⟩) n cap)) (hl : ls[i]? = some l) (k : Nat) (x : Int) (hx : 0 ≤ x ∧ x ≤ 255) :
    Rs (w.setCell ⟨g, k, none⟩ (.int .u8 x)) vs (ls.set i (l.set k x)) ∧ Buts (· = g) w (w.setCell ⟨g, k, none⟩ (.int .u8 x)) := by
  have bb : Buts (· = g) w (w.setCell ⟨g, k, none⟩ (.int .u8 x)) := Buts.of_but ((But.refl g w).setCell k _)
  have hio := h.own i _ l hi hl
  have hil : i < ls.length := (List.getElem?_eq_some_iff.1 hl).1
  refine ⟨⟨by simp [h.len], fun j v m hj hm => ?_, h.dis⟩, bb⟩
  by_cases hji : j = i
  · subst hji
    rw [hi] at hj
    simp only [Option.some.injEq] at hj
    subst hj
    rw [List.getElem?_set_self hil] at hm
    simp only [Option.some.injEq] at hm
    subst hm
    have ho := hio.1
    have hln : n = l.length := by
      rcases ho.2 with ⟨h1, _⟩ | ⟨g', c', cur, h1, _⟩
      · simp at h1
      · simp at h1; omega
    subst hln
    refine ⟨?_, ?_⟩
    · have := (ho.stored k (.int .u8 x)).1
      rw [show (U8 l).set k (.int .u8 x) = U8 (l.set k x) by simp [U8, List.map_set]] at this
      rw [List.length_set]
      exact this
    · intro y hy
      rcases List.mem_or_eq_of_mem_set hy with hy | rfl
      · exact hio.2 y hy
      · exact hx
  · rw [List.getElem?_set_ne (fun e => hji e.symm)] at hm
    exact (h.own j v m hj hm).keep bb (fun g' hg' e => h.dis j i v _ hj hi hji g' hg' (by rw [e]; rfl))
/-- where the rows' table lies -/
structure Inv (w0 w : World) (p g ga : Nat) (Sf Sg : Nat → Prop) (sf sg : FlS) (vs : List Value) (ls : List (List Int)) : Prop where
  rs : Rs w vs ls
  n10 : vs.length = 10
  arr : Arr w ga 22 vs
  ff : Fl w p Sf sf
  fg : Fl w g Sg sg
  far : Far vs (fun k => Sf k ∨ Sg k ∨ k < w0.heap.size)
  bel : Below w0.heap.size w0 w
  sz : ∀ l ∈ ls, l.length ≤ 1048576
theorem Inv.own_ne {w0 w : World} {p g ga : Nat} {Sf Sg : Nat → Prop} {sf sg : FlS} {vs : List Value} {ls : List (List Int)} (h : Inv w0 w p g ga Sf Sg sf sg vs ls) {v : Value} (hv : v ∈ vs) : v.ownBlock ≠ some ga := by
  obtain ⟨i, hi⟩ := List.mem_iff_getElem?.1 hv
  have hl : i < ls.length := by rw [← h.rs.len]; exact (List.getElem?_eq_some_iff.1 hi).1
  exact own_arr_ne (h.rs.own i v _ hi (List.getElem?_eq_getElem hl)).1 h.arr (by decide)
/-- what is written lies in one row -/
theorem Inv.keep {w0 w w' : World} {p g ga : Nat} {Sf Sg : Nat → Prop} {sf sg : FlS} {vs : List Value} {ls ls' : List (List Int)} (h : Inv w0 w p g ga Sf Sg sf sg vs ls) {v : Value} (hv : v ∈ vs) (hb : Buts (fun k => v.ownBlock = some k) w w') (hr : Rs w' vs ls') (hs : ∀ l ∈ ls', l.length ≤ 1048576) : Inv w0 w' p g ga Sf Sg sf sg vs ls' :=
  ⟨hr, h.n10, hb.arr h.arr (h.own_ne hv), h.ff.keep hb (fun k hk e => h.far v hv k e (.inl hk)), h.fg.keep hb (fun k hk e => h.far v hv k e (.inr (.inl hk))), h.far,
    h.bel.trans (hb.below (bel_sz h.bel (Nat.le_refl _)) (fun k e => by have := h.far v hv k e; simp only [not_or] at this; omega)), hs⟩
theorem Inv.later {w0 w w' : World} {p g ga : Nat} {Sf Sg : Nat → Prop} {sf sg : FlS} {vs : List Value} {ls : List (List Int)} (h : Inv w0 w p g ga Sf Sg sf sg vs ls) (hb : Below w.heap.size w w') : Inv w0 w' p g ga Sf Sg sf sg vs ls :=
  ⟨h.rs.later hb, h.n10, h.arr.later hb, h.ff.later hb, h.fg.later hb, h.far, bel_then h.bel (bel_sz h.bel (Nat.le_refl _)) hb, h.sz⟩
/-- the i-th row -/
theorem Inv.at_ {w0 w : World} {p g ga : Nat} {Sf Sg : Nat → Prop} {sf sg : FlS} {vs : List Value} {ls : List (List Int)} (h : Inv w0 w p g ga Sf Sg sf sg vs ls) {i : Nat} (hi : i < 10) : ∃ a l c, vs[i]? = some (.slice a l.length c) ∧ ls[i]? = some l ∧ OwB w (.slice a l.length c) l ∧ w.cell? ⟨ga, i, none⟩ = some (.slice a l.length c) ∧ (0 < l.length → ∃ b, a = some ⟨b, 0, none⟩) ∧ l.length ≤ 1048576 ∧ l.length ≤ c ∧ c ≤ 9223372036854775807 := by
  have h1 : i < vs.length := by rw [h.n10]; exact hi
  have h2 : i < ls.length := by rw [← h.rs.len]; exact h1
  have hv := List.getElem?_eq_getElem h1
  have hl := List.getElem?_eq_getElem h2
  have ho := h.rs.own i _ _ hv hl
  obtain ⟨a, c, e⟩ := own_parts ho.1
  rw [e] at hv ho
  have hc := h.arr.cell i
  rw [hv] at hc
  obtain ⟨s, hs, hk, h3, h4, -⟩ := ho.sl
  simp only [Sl.v, Value.slice.injEq] at hs
  have hle := hk.le
  have hmx := hk.mx
  unfold maxLen at hmx
  refine ⟨a, ls[i], c, hv, hl, ho, hc, fun hp => ?_, h.sz _ (List.mem_of_getElem? hl), by omega, by omega⟩
  rcases ho.1.2 with ⟨h5, h6⟩ | ⟨b, c', cur, h5, _⟩
  · omega
  · simp only [Value.slice.injEq] at h5; exact ⟨b, h5.1⟩
/-- rows that are written full -/
def Don (i : Nat) (ls : List (List Int)) : Prop := ∀ (j : Nat) l, j < i → ls[j]? = some l → l = List.replicate l.length ((j : Int) + 1)
theorem Rs.kept {w w' : World} {vs : List Value} {ls : List (List Int)} (h : Rs w vs ls) {i : Nat} {v : Value} (hi : vs[i]? = some v) (hb : Buts (fun k => v.ownBlock = some k) w w') (ho : ∀ l, ls[i]? = some l → OwB w' v l) : Rs w' vs ls :=
  ⟨h.len, fun j u l hj hl => by
    by_cases hji : j = i
    · subst hji
      rw [hi] at hj
      simp only [Option.some.injEq] at hj
      subst hj
      exact ho l hl
    · exact (h.own j u l hj hl).keep hb (fun g hg e => h.dis j i u v hj hi hji g hg e), h.dis⟩
/-- append of bytes of one's own: the old row stands -/
theorem wpList_append_kept {w : World} {ops : Array Oper} {rest : List Oper} {o : Oper} {a : Act} {Q : Exit → Act → World → Prop} (hgd : o.guard = none) (s x : Operand)
    (ho : o.op = .call { callee := .builtin .append, args := #[s, x], argTypes := #[22, 22] }) (v : Value) (l : List Int) (hs : a.eval s = v) (hv : OwB w v l)
    (g m c : Nat) (T : List Int) (hx : a.eval x = .slice (some ⟨g, 0, none⟩) m c) (hT : Sl.Ok w ⟨some ⟨g, 0, none⟩, m, c, T⟩) (hb : l.length + m ≤ 140737488355328)
    (h : ∀ v' w', Hid (OwB w' v' (l ++ T)) → Hid (Buts (fun k => v.ownBlock = some k) w w') → Hid (OwB w' v l) → wpList Try.prog ops Q rest (a.put o.dst v') w') : wpList Try.prog ops Q (o :: rest) a w := by
  obtain ⟨i0, hi, hz0, hz1, hz2⟩ := info_parts Try.infoB
  refine wpList_plain hgd fun K hK => ?_
  have hTl : T.length = m := hT.len
  obtain ⟨v', w', hr, h1, h2, h3⟩ := run_append_kept (P := Try.prog) w 0 22 o.type 5 i0 (.int .u8 0) 1 1 Try.underlying22 hi hz0 hz1 hz2 rfl (by decide) v l.length (U8 l) hv.1 ⟨g, 0, none⟩ m c (U8 T) (by rw [U8_length, hTl, Nat.mul_one]) (hT.cells _ rfl) (U8_one _) (by unfold maxLen; omega) (by omega) (Nat.zero_le _)
  unfold Oper.wp execOp
  simp only [ho, resolve, invoke, builtin, Sem.run_bind, Sem.run_pure, Result.andThen_ok, List.map_toArray, List.map_cons, List.map_nil, hs, hx, hr]
  refine hK _ _ (h v' w' ⟨?_, hv.2.append hT.isB⟩ ⟨h2.os, h2.tape, h2.output, h2.size, fun k hk hs => h2.block k hk (fun e => hs e.symm)⟩ ⟨h3, hv.2⟩)
  rw [List.length_append, hTl, U8_append]
  exact h1
theorem cell_new1 (w : World) (v : Value) (ty : TypeId) : ∀ (j : Nat) (u : Value), ([v] : List Value)[j]? = some u → (w.alloc (.cells #[v] ty)).cell? ((⟨w.heap.size, 0, none⟩ : Addr).add j) = some u := by
  intro j u hu
  have hA : Arr (w.alloc (.cells #[v] ty)) w.heap.size ty [v] := Arr.new w _ [v]
  rw [addr_add, Nat.zero_add, hA.cell j]; exact hu
end Go.Proofs.Ytcdmomdajakocaa
