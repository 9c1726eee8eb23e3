import Derived.Test.YtaepmfkdnjembaaFrW24
import Derived.Test.YtaepmfkdnjembaaApK24
import Derived.Test.YtaepmfkdnjembaaExM24
import Derived.Test.YtaepmfkdnjembaaBsM
set_option linter.unusedSimpArgs false
set_option linter.unusedVariables false
namespace Go.Proofs.Ytaepmfkdnjembaa
open Go.RowKit

/-! BagApart: what the law holds. -/
theorem one_p24 {ms : List Ms} {i f t : Int} {l : List Int} (h : ms.map Ms.p = [⟨i, f, t, l⟩]) : ∃ s : Sx Int, ms = [⟨i, f, t, s⟩] ∧ s.xs = l := by
  cases ms with
  | nil => simp at h
  | cons a r => cases r with
    | nil =>
      obtain ⟨ai, af, at', s⟩ := a
      simp only [List.map_cons, List.map_nil, Ms.p, List.cons.injEq, Pm.mk.injEq, and_true] at h
      obtain ⟨rfl, rfl, rfl, h4⟩ := h
      exact ⟨s, rfl, h4⟩
    | cons b q => simp at h
theorem two_p24 {ms : List Ms} {i f t i' f' t' : Int} {l l' : List Int} (h : ms.map Ms.p = [⟨i, f, t, l⟩, ⟨i', f', t', l'⟩]) : ∃ s s' : Sx Int, ms = [⟨i, f, t, s⟩, ⟨i', f', t', s'⟩] ∧ s.xs = l ∧ s'.xs = l' := by
  cases ms with
  | nil => simp at h
  | cons a r =>
    rw [List.map_cons, List.cons.injEq] at h
    obtain ⟨s', rfl, h2⟩ := one_p24 h.2
    obtain ⟨ai, af, at', s⟩ := a
    have h1 := h.1
    simp only [Ms.p, Pm.mk.injEq] at h1
    obtain ⟨rfl, rfl, rfl, h4⟩ := h1
    exact ⟨s, s', rfl, h4, h2⟩
/-- two messages in a row of one's own -/
def tw24 (m m' : Ms) (sp : List Value) : List Value := mC m ++ (mC m' ++ sp)
theorem RowG.two24 {a : Option Addr} {n c : Nat} {xs : List Ms} {m m' : Ms} {R : List Row} (h : RowG mC 4 32 ⟨a, n, c, xs⟩ [m, m'] R) : n = 2 ∧ ∃ g sp, a = some ⟨g, 0, none⟩ ∧ 2 ≤ c ∧ c ≤ maxLen ∧ (tw24 m m' sp).length = c * 4 ∧ R = [(g, 32, tw24 m m' sp)] := by
  obtain ⟨h1, h2⟩ := h
  have h1' : 2 = n := h1
  subst h1'
  rcases h2 with ⟨-, h0, -⟩ | ⟨g, sp, q1, q2, q3, q4, q5⟩
  · cases h0
  · have e : ([m, m'] : List Ms).flatMap mC ++ sp = tw24 m m' sp := by simp [tw24, mC, msC]
    rw [e] at q4 q5
    exact ⟨rfl, g, sp, q1, q2, q3, q4, q5⟩
theorem RowG.two24' {g c : Nat} {xs : List Ms} {m m' : Ms} {sp : List Value} (h2 : 2 ≤ c) (h3 : c ≤ maxLen) (h4 : (tw24 m m' sp).length = c * 4) : RowG mC 4 32 ⟨some ⟨g, 0, none⟩, 2, c, xs⟩ [m, m'] [(g, 32, tw24 m m' sp)] := by
  have e : ([m, m'] : List Ms).flatMap mC ++ sp = tw24 m m' sp := by simp [tw24, mC, msC]
  exact ⟨rfl, .inr ⟨g, sp, rfl, h2, h3, by rw [e]; exact h4, by rw [e]⟩⟩
theorem tw24_len (m m' : Ms) (sp : List Value) : (tw24 m m' sp).length = 8 + sp.length := by simp [tw24, mC, msC]; omega
theorem at_tw2 (m m' : Ms) (sp : List Value) : At (tw24 m m' sp) 2 [.int .i64 m.t] := ⟨[.int .i64 m.i, .int .i64 m.f], m.s.v :: (mC m' ++ sp), rfl, rfl⟩
theorem at_tw3 (m m' : Ms) (sp : List Value) : At (tw24 m m' sp) 3 [m.s.v] := ⟨[.int .i64 m.i, .int .i64 m.f, .int .i64 m.t], mC m' ++ sp, rfl, rfl⟩
theorem at_tw7 (m m' : Ms) (sp : List Value) : At (tw24 m m' sp) 7 [m'.s.v] := ⟨mC m ++ [.int .i64 m'.i, .int .i64 m'.f, .int .i64 m'.t], sp, rfl, rfl⟩
theorem pt_tw2 (i f t : Int) (s : Sx Int) (m' : Ms) (sp : List Value) (z : Int) : Pt (tw24 ⟨i, f, t, s⟩ m' sp) 2 [.int .i64 z] (tw24 ⟨i, f, z, s⟩ m' sp) := ⟨[.int .i64 i, .int .i64 f], [.int .i64 t], s.v :: (mC m' ++ sp), rfl, rfl, rfl, rfl⟩
/-- slices of bytes as one slice -/
theorem infoSb24 : (Try.prog.info? 27).map (fun i => (i.zero, i.size)) = some (some (.slice none 0 0), 1) := by kernel_rfl
theorem flat_v24 : ∀ ps : List (Sx Int), ((ps.map Sx.v).flatMap cellsL) = ps.map Sx.v
  | [] => rfl
  | s :: t => by
    have h := flat_v24 t
    rw [List.map_cons, List.flatMap_cons, h]; rfl
theorem op_bsU {o : Oper} {a : Act} {w w0 : World} {k : Act → World → Prop} {Q : Exit → Act → World → Prop} {rows : List Row} {K : World → Prop} (ps : List (Sx Int)) (hp0 : 0 < ps.length) (hp1 : ps.length ≤ 1000) (n : Nat) (hn : n = ps.length) (os : Array (Nat × Operand)) (ho : o.op = .buildSlice 22 n os) (hos : os.toList.map (fun p => (p.1, a.eval p.2)) = prts (ps.map Sx.v) 0) (hS : Hs17 w0 rows K w)
    (h : ∀ g w', Hs17 w0 ((g, 27, ps.map Sx.v) :: rows) K w' → k (a.put o.dst (.slice (some ⟨g, 0, none⟩) n n)) w') : o.wp Try.prog a w k Q := by
  subst hn
  obtain ⟨i, hi, hz, hs⟩ : ∃ i, Try.prog.info? 27 = some i ∧ i.zero = some (.slice none 0 0) ∧ i.size = 1 := by
    have hq := infoSb24
    cases hi : Try.prog.info? 27 with
    | none => rw [hi] at hq; simp at hq
    | some i =>
      rw [hi] at hq
      simp only [Option.map_some, Option.some.injEq, Prod.mk.injEq] at hq
      exact ⟨i, rfl, hq.1, hq.2⟩
  have hr := run_bsG (P := Try.prog) w 22 27 i _ (ps.map Sx.v) 1 Try.underlying22 hi hs hz (fun v hv => by simp at hv; obtain ⟨s, -, rfl⟩ := hv; rfl) (by simp; omega) (by simp; omega)
  rw [flat_v24, List.length_map] at hr
  have hr' : (Instr.buildSlice 22 ps.length (os.map fun p => (p.1, a.eval p.2))).run Try.prog w = .ok (.slice (some ⟨w.heap.size, 0, none⟩) ps.length ps.length) (w.alloc (.cells (ps.map Sx.v).toArray 27)) := by
    have e : (os.map fun p => (p.1, a.eval p.2)) = (prts (ps.map Sx.v) 0).toArray := by
      apply Array.ext'; rw [Array.toList_map, hos]
    rw [e]; exact hr
  unfold Oper.wp
  simp [execOp, ho, hr', Result.andThen]
  exact h _ _ (hS.alloc 27 (ps.map Sx.v))
/-- a slice's end -/
theorem ex_cutF {o : Oper} {a : Act} {w : World} (x y : Operand) (ho : o.op = .slice 27 x (some y) none none) (g off n c i m d off' : Nat) (hn : n = i + m) (hc : c = i + d) (hd : 0 < d) (hoff : off' = off + i) (hx : a.eval x = .slice (some ⟨g, off, none⟩) n c) (hy : a.eval y = .int .i64 i) (hm : i ≤ 1048576) : (execOp a.eval o).run Try.prog w = .ok (.value (.slice (some ⟨g, off', none⟩) m d)) w := by
  have hu : Try.prog.underlying 27 = some (.slice (Try.prog.elem 27)) := by
    simp [Program.elem, Try.underlying27]
  have hsz : (sizeOf (Try.prog.elem 27)).run Try.prog w = .ok 1 w := by
    have he : Try.prog.elem 27 = 5 := by simp [Program.elem, Try.underlying27]
    have hI := Try.infoBy
    rw [he]
    cases hi : Try.prog.info? 5 with
    | none => rw [hi] at hI; cases hI
    | some i =>
      rw [hi] at hI
      simp only [Option.map_some, Option.some.injEq, Prod.mk.injEq] at hI
      simp [sizeOf, typeInfo, hi, hI.2.1]
  have hci : ¬ c = i := by omega
  have e1 : n - i = m := by omega
  have e2 : c - i = d := by omega
  have hrun : (Instr.sliceAt 27 (.slice (some ⟨g, off, none⟩) n c) (some (.int .i64 (i : Int))) none none).run Try.prog w = .ok (.slice (some ⟨g, off', none⟩) m d) w := by
    rw [run_sliceAt_slice w _ _ _ _ _ hu, run_slice_l w _ _ _ _ hu .i64 i (by omega) (by omega), hsz]
    simp [Result.andThen, sliced, Int.toNat_natCast, Addr.add, hci, e1, e2, hoff]
  rw [← hx, ← hy] at hrun
  simp [execOp, ho, hrun, Result.andThen]
theorem su_cutF {w : World} {g off n c i m d off' : Nat} {xs ys : List Int} (h : Su w ⟨some ⟨g, off, none⟩, n, c, xs ++ ys⟩) (hi : xs.length = i) (hm : ys.length = m) (hc : c = i + d) (hoff : off' = off + i) : Su w ⟨some ⟨g, off', none⟩, m, d, ys⟩ := by
  have hn : n = i + m := by have h9 := h.len; simp only [List.length_append] at h9; omega
  have h9 := h.cut (i := i) (j := n) (by omega) (Nat.le_refl _)
  have e0 : n - i = m := by omega
  have e3 : c - i = d := by omega
  have e1 : ((xs ++ ys).drop i).take (n - i) = ys := by
    rw [← hi, List.drop_left, List.take_of_length_le (by omega)]
  have e2 : (Sx.cut (⟨some ⟨g, off, none⟩, n, c, xs ++ ys⟩ : Sx Int) 1 i n) = ⟨some ⟨g, off', none⟩, m, d, ys⟩ := by
    unfold Sx.cut
    rw [e1, e0, e3]
    simp only [Nat.mul_one, Option.map_some, hoff]
  rw [e2] at h9
  exact h9
/-- the nine slices: as values, and what they say -/
structure AllE (V : List Value) (E : List Ms) (n : Nat) (c : Nat → List Int) : Prop where
  v : E.map (fun m => m.s.v) = V
  len : E.length = 9
  at_ : ∀ (j : Nat) (m : Ms), E[j]? = some m → m.s.xs = c j ∧ m.s.n = n
theorem split24 {E : List Ms} {i : Nat} (h : i < E.length) : ∃ pre x post, E = pre ++ x :: post ∧ pre.length = i := by
  refine ⟨E.take i, E[i], E.drop (i + 1), ?_, by rw [List.length_take]; omega⟩
  rw [← List.drop_eq_getElem_cons h, List.take_append_drop]
theorem get24 {pre post : List Ms} {x : Ms} : (pre ++ x :: post)[pre.length]? = some x := by rw [List.getElem?_append_right (Nat.le_refl _), Nat.sub_self]; rfl
theorem AllE.cell {V : List Value} {pre post : List Ms} {x : Ms} {n i : Nat} {c : Nat → List Int} (h : AllE V (pre ++ x :: post) n c) (hi : pre.length = i) : At V i [x.s.v] := by
  rw [← h.v, List.map_append, List.map_cons]
  exact ⟨_, post.map (fun m => m.s.v), rfl, by rw [List.length_map]; exact hi⟩
theorem AllE.here {V : List Value} {pre post : List Ms} {x : Ms} {n i : Nat} {c : Nat → List Int} (h : AllE V (pre ++ x :: post) n c) (hi : pre.length = i) : x.s.xs = c i ∧ x.s.n = n := h.at_ i x (by rw [← hi]; exact get24)
theorem AllE.set {V : List Value} {pre post : List Ms} {x x' : Ms} {n i : Nat} {c c' : Nat → List Int} (h : AllE V (pre ++ x :: post) n c) (hi : pre.length = i) (hv : x'.s.v = x.s.v) (hn : x'.s.n = n) (hc : x'.s.xs = c' i) (hcc : ∀ j, j < 9 → j ≠ i → c j = c' j) : AllE V (pre ++ x' :: post) n c' := by
  refine ⟨by rw [← h.v]; simp [hv], by rw [← h.len]; simp, fun j m hj => ?_⟩
  have hj9 : j < 9 := by
    have := (List.getElem?_eq_some_iff.1 hj).1
    have e := h.len
    simp at e this; omega
  by_cases hji : j = i
  · subst hji
    rw [← hi, get24] at hj
    simp only [Option.some.injEq] at hj
    subst hj
    exact ⟨by rw [hc], hn⟩
  · have e : (pre ++ x :: post)[j]? = some m := by
      by_cases hlt : j < pre.length
      · rw [List.getElem?_append_left hlt] at hj ⊢; exact hj
      · rw [List.getElem?_append_right (by omega)] at hj ⊢
        obtain ⟨d, hd⟩ : ∃ d, j - pre.length = d + 1 := ⟨j - pre.length - 1, by omega⟩
        rw [hd] at hj ⊢
        simpa using hj
    have := h.at_ j m e
    exact ⟨by rw [← hcc j hj9 hji]; exact this.1, this.2⟩
theorem AllE.ext {V : List Value} {E : List Ms} {n : Nat} {c c' : Nat → List Int} (h : AllE V E n c) (hc : ∀ j, j < 9 → c j = c' j) : AllE V E n c' :=
  ⟨h.v, h.len, fun j m hj => by
    have hj9 : j < 9 := by have := (List.getElem?_eq_some_iff.1 hj).1; have e := h.len; omega
    rw [← hc j hj9]; exact h.at_ j m hj⟩
theorem perm9 (a b c d e f g h i : Ms) : [h, i, g, f, d, e, c, b, a].Perm [a, b, c, d, e, f, g, h, i] := by
  have p1 : [h, i, g, f, d, e, c, b, a].Perm [a, b, c, e, d, f, g, i, h] := (List.reverse_perm _).symm
  refine p1.trans (List.Perm.cons _ (List.Perm.cons _ (List.Perm.cons _ ?_)))
  exact (List.Perm.swap d e [f, g, i, h]).trans (List.Perm.cons _ (List.Perm.cons _ (List.Perm.cons _ (List.Perm.cons _ (List.Perm.swap h i [])))))
theorem rep_take24 {xs : List Int} {k : Nat} {z : Int} (h : xs.take k = List.replicate k z) (hk : k < xs.length) : (xs.set k z).take (k + 1) = List.replicate (k + 1) z := by
  rw [List.take_add_one, List.take_set, List.set_eq_of_length_le (by rw [List.length_take]; omega), h, List.replicate_succ', List.getElem?_set_self hk]; rfl
theorem u8_small {i : Nat} (h : i < 200) : IntKind.u8.wrap ((i : Nat) : Int) = ((i : Nat) : Int) := by
  unfold IntKind.wrap; simp [IntKind.bits, IntKind.signed]; omega
/-- a cell of a row of one's own, read and written -/
theorem RowG.getput24 {s : Sx Int} {l : List Int} {R : List Row} (h : RowG uC 1 5 s l R) {i : Nat} (hi : i < s.n) (x : Int) :
    ∃ g c c', s.a = some ⟨g, 0, none⟩ ∧ R = [(g, 5, c)] ∧ At c i [.int .u8 (l.getD i 0)] ∧ Pt c i [.int .u8 x] c' ∧ RowG uC 1 5 s (l.set i x) [(g, 5, c')] := by
  obtain ⟨hl, h⟩ := h
  rcases h with ⟨-, h0, -, -⟩ | ⟨g, sp, h1, h2, h3, h4, rfl⟩
  · omega
  · have hil : i < l.length := by omega
    have p1 := pt_flat (f := uC) (sz := 1) (fun y _ => uC_len y) hil (x := l.getD i 0) rfl sp
    have p2 := pt_flat (f := uC) (sz := 1) (fun y _ => uC_len y) hil (x := x) rfl sp
    have e : l.set i (l.getD i 0) = l := by
      apply List.ext_getElem
      · simp
      · intro j q1 q2
        rw [List.getElem_set]; split
        · rename_i e; subst e; simp [hil]
        · rfl
    rw [e, Nat.mul_one] at p1
    rw [Nat.mul_one] at p2
    refine ⟨g, _, _, h1, rfl, p1.at_, p2, by rw [List.length_set]; exact hl, .inr ⟨g, sp, h1, h2, h3, ?_, rfl⟩⟩
    rw [← h4, List.length_append, List.length_append, flatG_len (fun y _ => uC_len y), flatG_len (fun y _ => uC_len y), List.length_set]
end Go.Proofs.Ytaepmfkdnjembaa
