import Derived.Test.YtaepmfkdnjembaaBoW
set_option linter.unusedSimpArgs false
set_option linter.unusedVariables false
namespace Go.Proofs.Ytaepmfkdnjembaa
open Go.RowKit

theorem NoU.cons {rows : List Row} {g : Nat} {t : TypeId} {c : List Value} (h : (!(t == 5)) = true) (hn : NoU rows = true) : NoU ((g, t, c) :: rows) = true := by
  unfold NoU at hn ⊢; rw [List.all_cons, hn, Bool.and_true]; exact h
theorem NoB.cons {rows : List Row} {g : Nat} {t : TypeId} {c : List Value} (h : (!(t == 5) && !(t == 67)) = true) (hn : NoB rows = true) : NoB ((g, t, c) :: rows) = true := by
  unfold NoB at hn ⊢; rw [List.all_cons, hn, Bool.and_true]; exact h
theorem NoB.app {rows rows' : List Row} (h : NoB rows = true) (h' : NoB rows' = true) : NoB (rows ++ rows') = true := by
  unfold NoB at *; rw [List.all_append, h, h']; rfl
theorem NoB.sub {rows rows' : List Row} (h : NoB rows = true) (hs : ∀ p ∈ rows', p ∈ rows) : NoB rows' = true := by
  unfold NoB at *
  rw [List.all_eq_true] at *
  exact fun p hp => h p (hs p hp)
theorem RowG.noB {α : Type} {f : α → List Value} {sz : Nat} {e : TypeId} {s : Sx α} {l : List α} {R : List Row} (h : RowG f sz e s l R) (he : (!(e == 5) && !(e == 67)) = true) : NoB R = true := by
  rcases h.2 with ⟨-, -, -, rfl⟩ | ⟨g, sp, -, -, -, -, rfl⟩
  · rfl
  · exact NoB.cons he rfl
theorem Ou.ok {w : World} {B : Nat} {s : Sx Int} (h : Ou w B s.v s.xs) : Su w s := by
  obtain ⟨s', e, hx, hs, -⟩ := Ou.su h
  obtain ⟨a, n, c, xs⟩ := s
  obtain ⟨a', n', c', xs'⟩ := s'
  simp only [Sx.v, Value.slice.injEq] at e hx
  obtain ⟨rfl, rfl, rfl⟩ := e
  subst hx
  exact hs
theorem BagW.perm {B gb mb last : Nat} {ms ex ex' : List Ms} {w : World} (h : BagW B gb mb ms ex last w) (hp : ex.Perm ex') : BagW B gb mb ms ex' last w := ⟨h.st, h.g.perm hp, h.lo, h.le, h.id, h.bl⟩
theorem BagW.body {B gb mb last : Nat} {ms ex : List Ms} {w : World} (h : BagW B gb mb ms ex last w) (z : Int) : Su w (lkV ms z).s ∧ (lkV ms z).s.n ≤ 1024 ∧ (lkV ms z).s.xs.length ≤ 1024 := by
  cases hq : lkB ms z with
  | false => rw [lkB_no hq]; exact ⟨Sx.Ok.nil w 0, Nat.zero_le _, Nat.zero_le _⟩
  | true =>
    obtain ⟨h1, -⟩ := lkB_yes hq
    have h2 := Ou.ok (h.g.bd _ (List.mem_append.2 (.inl h1)))
    have h3 := h.bl _ h1
    exact ⟨h2, by rw [← h2.len]; exact h3, h3⟩
/-- the bag's struct among the rows, and back -/
theorem Hs17.bopen {w0 w : World} {rows : List Row} {B gb mb last : Nat} {ms ex : List Ms} (hS : Hs17 w0 rows (BagW B gb mb ms ex last) w) (hn : NoB rows = true) (hw : w0.heap.size ≤ B) : Hs17 w0 ((gb, 67, gbC last (.map (some mb))) :: rows) (Bgm B mb ms ex) w := by
  have h := hS.K
  have hnr := h.noRow hS hn
  have hne : ∀ k, BkM mb ms ex k → gb ≠ k := by
    rintro k (rfl | ⟨m, hm, hk⟩)
    · exact h.g.mp.ne h.st
    · rintro rfl
      exact own_arr_ne (h.g.bd m hm) h.st (by decide) hk
  refine ⟨?_, fun p hp => ?_, fun p hp => ?_, hS.bel, fun w' h1 h2 => h.g.keep (fun k hk => h2 k (h.g.lt hk).2 (fun p hp => ?_))⟩
  · rw [List.map_cons, List.nodup_cons]
    refine ⟨fun hm => ?_, hS.nd⟩
    obtain ⟨p, hp, e⟩ := List.mem_map.1 hm
    exact hnr p hp (.inl e)
  · rcases List.mem_cons.1 hp with rfl | hp
    · exact h.st
    · exact hS.arr p hp
  · rcases List.mem_cons.1 hp with rfl | hp
    · exact Nat.le_trans hw h.lo
    · exact hS.old p hp
  · rcases List.mem_cons.1 hp with rfl | hp
    · exact hne k hk
    · exact fun e => hnr p hp (.inr (e ▸ hk))
theorem Hs17.bclose {w0 w : World} {rows : List Row} {B gb mb last : Nat} {ms ex : List Ms} (hS : Hs17 w0 ((gb, 67, gbC last (.map (some mb))) :: rows) (Bgm B mb ms ex) w) (hlo : B ≤ gb) (hle : ms.length ≤ 4096) (hid : ∀ m ∈ ms, 1 ≤ m.i ∧ m.i ≤ last) (hbl : ∀ m ∈ ms, m.s.xs.length ≤ 1024) : Hs17 w0 rows (BagW B gb mb ms ex last) w := by
  have hnd := hS.nd
  rw [List.map_cons, List.nodup_cons] at hnd
  have hA := hS.get 0 rfl
  refine ⟨hnd.2, fun p hp => hS.arr p (List.mem_cons_of_mem _ hp), fun p hp => hS.old p (List.mem_cons_of_mem _ hp), hS.bel, fun w' h1 h2 => ⟨?_, hS.keep w' h1 (fun k hk hp => h2 k hk (fun p hp' => hp p (List.mem_cons_of_mem _ hp'))), hlo, hle, hid, hbl⟩⟩
  exact (h2 gb hA.lt (fun p hp e => hnd.1 (List.mem_map.2 ⟨p, hp, e⟩))).trans hA
theorem grown_none {w w' : World} (h : w.grownBy w' (Value.slice none 0 0).ownBlock) : Below w.heap.size w w' := ⟨h.os, h.tape, h.output, h.size, fun k hk => h.block k hk (by simp [Value.ownBlock])⟩
section
variable {α : Type} {f : α → List Value} {sz : Nat} {w w0 : World} {o : Oper} {a : Act} {k : Act → World → Prop} {Q : Exit → Act → World → Prop} {ops : Array Oper} {rest : List Oper} {rows : List Row} {K : World → Prop}
/-- append of any slice to none: new memory -/
theorem op_appN {P : Program} (s x : Operand) (t : TypeId) (ho : o.op = .call { callee := .builtin .append, args := #[s, x], argTypes := #[t, t] })
    {e : TypeId} {zv : Value} {bytes : Nat} (ht : P.underlying t = some (.slice e)) (hi : (P.info? e).map (fun i => (i.zero, i.size, i.bytes)) = some (some zv, sz, bytes)) (hzs : zv.cells.size = sz) (hsz : 0 < sz)
    (hs : a.eval s = .slice none 0 0) (y : Sx α) (hy : y.Ok f sz w) (hl : ∀ z, (f z).length = sz) (h1 : ∀ z, ∀ u ∈ f z, u.oneCell' = true) (hx : a.eval x = y.v)
    (hb : y.n * bytes ≤ 140737488355328) (hb1 : 0 < bytes)
    (h : ∀ s' : Sx α, ∀ w', s'.xs = y.xs → w'.ownsRow w.heap.size e sz s'.v s'.xs.length (s'.xs.flatMap f) → Below w.heap.size w w' → k (a.put o.dst s'.v) w') : o.wp P a w k Q := by
  refine op_appendL (xs := ([] : List α)) s x t ho ht hi hzs hsz hs (own_nil w w.heap.size e) y hy (fun z _ => hl z) (fun z _ => h1 z) hx (by simpa using hb) hb1 (Nat.le_refl _) (fun v' w' q1 q2 q3 => ?_)
  rw [List.nil_append] at q1
  obtain ⟨s', rfl, hx', -, -⟩ := own_sx q1 (fun z _ => hl z)
  exact h s' w' hx' (by rw [hx']; exact q1) (grown_none q2)
theorem wl_apnu (hw : Region.wanted o (yielded ops a.tmps) = true) (s x : Operand) (ho : o.op = .call { callee := .builtin .append, args := #[s, x], argTypes := #[27, 27] }) (hs : a.eval s = .slice none 0 0) (y : Sx Int) (hy : Su w y) (hx : a.eval x = y.v) (hb : y.n ≤ 1048576)
    (h : ∀ s' : Sx Int, ∀ w', s'.xs = y.xs → Ou w' w.heap.size s'.v s'.xs → Below w.heap.size w w' → wpList Try.prog ops Q rest (a.put o.dst s'.v) w') : wpList Try.prog ops Q (o :: rest) a w :=
  wl hw fun k hk => op_appN s x 27 ho Try.underlying27 Try.infoBy rfl (by omega) hs y hy uC_len one_u hx (by omega) (by omega) (fun s' w' q1 q2 q3 => hk _ _ (h s' w' q1 q2 q3))
theorem wl_apnm (hw : Region.wanted o (yielded ops a.tmps) = true) (s x : Operand) (ho : o.op = .call { callee := .builtin .append, args := #[s, x], argTypes := #[33, 33] }) (hs : a.eval s = .slice none 0 0) (y : Sx Ms) (hy : Sm24 w y) (hx : a.eval x = y.v) (hb : y.n ≤ 1048576)
    (h : ∀ s' : Sx Ms, ∀ w', s'.xs = y.xs → Om24 w' w.heap.size s'.v s'.xs → Below w.heap.size w w' → wpList Try.prog ops Q rest (a.put o.dst s'.v) w') : wpList Try.prog ops Q (o :: rest) a w :=
  wl hw fun k hk => op_appN s x 33 ho Try.underlying33 Try.infoMs rfl (by omega) hs y hy mC_len one_m hx (by omega) (by omega) (fun s' w' q1 q2 q3 => hk _ _ (h s' w' q1 q2 q3))
/-- a new map -/
theorem wl_mmake (hw : Region.wanted o (yielded ops a.tmps) = true) (ho : o.op = .makeMap 65 none) (hS : Hs17 w0 rows K w)
    (h : ∀ b w', Hs17 w0 rows (fun w => K w ∧ Bgm w0.heap.size b [] [] w) w' → wpList Try.prog ops Q rest (a.put o.dst (.map (some b))) w') : wpList Try.prog ops Q (o :: rest) a w := by
  refine wl hw fun k hk => ?_
  unfold Oper.wp execOp
  simp only [ho, Option.map_none, Sem.run_bind, run_makeMap, Sem.run_pure, Result.andThen_ok]
  refine hk _ _ (h _ _ ?_)
  have hb : Below w.heap.size w (w.alloc (.map #[] 0)) := (Below.refl _ w).alloc (Nat.le_refl _) _
  have hM := MW.made w
  refine (hS.later hb).also (fun w'' h1 h2 => ?_)
  have hG : Bgm w0.heap.size w.heap.size [] [] (w.alloc (.map #[] 0)) := ⟨hM, hS.bel.size, (fun m hm => by cases hm), List.Pairwise.nil, List.Pairwise.nil⟩
  refine hG.keep (fun k hk => h2 k (hG.lt hk).2 (fun p hp e => ?_))
  rcases hk with rfl | ⟨m, hm, -⟩
  · have := (hS.arr p hp).lt; omega
  · cases hm
end
end Go.Proofs.Ytaepmfkdnjembaa
