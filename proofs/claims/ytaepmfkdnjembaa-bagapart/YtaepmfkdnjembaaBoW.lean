import Derived.Test.YtaepmfkdnjembaaBgM
set_option linter.unusedSimpArgs false
set_option linter.unusedVariables false
namespace Go.Proofs.Ytaepmfkdnjembaa
open Go.RowKit

/-! The map's operations. -/
section
variable {ops : Array Oper} {rest : List Oper} {o : Oper} {a : Act} {w w0 : World} {Q : Exit → Act → World → Prop} {rows : List Row} {K : World → Prop} {k : Act → World → Prop}
theorem ex_look (T : TypeId) (x y : Operand) (q : Bool) (ho : o.op = .lookup T x y q) {u u' v : Value} (hx : a.eval x = u) (hy : a.eval y = u') (h : (Instr.lookup T u u' q).run Try.prog w = .ok v w) : (execOp a.eval o).run Try.prog w = .ok (.value v) w := by
  simp [execOp, ho, hx, hy, h, Result.andThen]
theorem wl_look (hw : Region.wanted o (yielded ops a.tmps) = true) (x y : Operand) (ho : o.op = .lookup 65 x y true) {b : Nat} {z : Int} {ms : List Ms} (hx : a.eval x = .map (some b)) (hy : a.eval y = .int .i64 z) (hm : MW w b ms) (hz : I64 z)
    (h : wpList Try.prog ops Q rest (a.put o.dst (.tuple #[aV (mC (lkV ms z)), .bool (lkB ms z)])) w) : wpList Try.prog ops Q (o :: rest) a w :=
  wv _ hw (ex_look _ x y true ho hx hy (hm.look hz)) h
theorem wl_look1 (hw : Region.wanted o (yielded ops a.tmps) = true) (x y : Operand) (ho : o.op = .lookup 65 x y false) {b : Nat} {m : Ms} {ms : List Ms} (hx : a.eval x = .map (some b)) (hy : a.eval y = .int .i64 m.i) (hm : MW w b ms) (hi : m ∈ ms) (hz : I64 m.i)
    (h : wpList Try.prog ops Q rest (a.put o.dst (aV (mC m))) w) : wpList Try.prog ops Q (o :: rest) a w :=
  wv _ hw (ex_look _ x y false ho hx hy (hm.look1 hi hz)) h
theorem wl_mlen (hw : Region.wanted o (yielded ops a.tmps) = true) (x : Operand) (ho : o.op = .call { callee := .builtin .len, args := #[x], argTypes := #[65] }) {b : Nat} {ms : List Ms} (hx : a.eval x = .map (some b)) (hm : MW w b ms)
    (h : wpList Try.prog ops Q rest (a.put o.dst (.int .i64 ms.length)) w) : wpList Try.prog ops Q (o :: rest) a w := by
  refine wv _ hw ?_ h
  simp [execOp, ho, resolve, invoke, builtin, hx, hm.len o.type, Result.andThen]
/-- a message laid into the map -/
theorem op_mput (x y u : Operand) (ho : o.op = .mapUpdate 65 x y u) {B b : Nat} {m : Ms} {ms ex : List Ms} (hx : a.eval x = .map (some b)) (hy : a.eval y = .int .i64 m.i) (hu : a.eval u = aV (mC m)) (hS : Hs17 w0 rows (Bgm B b ms (m :: ex)) w) (hn : NoU rows = true) (hB : w0.heap.size ≤ B) (hz : I64 m.i) (hlo : ∀ x ∈ ms, x.i < m.i) (hle : ms.length ≤ 4096)
    (h : ∀ w', Hs17 w0 rows (Bgm B b (ms ++ [m]) ex) w' → k (a.put o.dst undef) w') : o.wp Try.prog a w k Q := by
  have hG := hS.K
  have hno : lkB ms m.i = false := by
    cases hq : lkB ms m.i with
    | false => rfl
    | true =>
      obtain ⟨q1, q2⟩ := lkB_yes hq
      have := hlo _ q1
      omega
  obtain ⟨w', hr, hM, hb⟩ := hG.mp.put m hz hno hle
  have hp : ∀ x, x ∈ ms ++ [m] ++ ex ↔ x ∈ ms ++ (m :: ex) := fun x => by simp [or_assoc]
  have hG' : Bgm B b (ms ++ [m]) ex w' := by
    refine ⟨hM, hG.lo, fun x hx => ?_, ?_, ?_⟩
    · have hO := hG.bd x ((hp x).1 hx)
      refine own_blk hO (fun g hg => hb.block g (own_lt hO hg).2 (fun e => ?_))
      subst e
      exact hG.mp.neO hO hg
    · rw [List.append_assoc]; exact hG.ap
    · unfold Up
      rw [List.pairwise_append]
      exact ⟨hG.up, by simp, fun p9 hp9 q hq => by rw [List.mem_singleton] at hq; rw [hq]; exact hlo p9 hp9⟩
  unfold Oper.wp
  simp [execOp, ho, hx, hy, hu, hr, Result.andThen]
  exact h w' (hS.bgm hn hB (Buts.of_but hb) (fun k hk => .inl hk) hG')
theorem wl_mput (hw : Region.wanted o (yielded ops a.tmps) = true) (x y u : Operand) (ho : o.op = .mapUpdate 65 x y u) {B b : Nat} {m : Ms} {ms ex : List Ms} (hx : a.eval x = .map (some b)) (hy : a.eval y = .int .i64 m.i) (hu : a.eval u = aV (mC m)) (hS : Hs17 w0 rows (Bgm B b ms (m :: ex)) w) (hn : NoU rows = true) (hB : w0.heap.size ≤ B) (hz : I64 m.i) (hlo : ∀ x ∈ ms, x.i < m.i) (hle : ms.length ≤ 4096)
    (h : ∀ w', Hs17 w0 rows (Bgm B b (ms ++ [m]) ex) w' → wpList Try.prog ops Q rest (a.put o.dst undef) w') : wpList Try.prog ops Q (o :: rest) a w :=
  wl hw fun k hk => op_mput x y u ho hx hy hu hS hn hB hz hlo hle (fun w' h1 => hk _ _ (h w' h1))
theorem Bgm.perm {B mb : Nat} {ms ex ex' : List Ms} {w : World} (h : Bgm B mb ms ex w) (hp : ex.Perm ex') : Bgm B mb ms ex' w := by
  have hq := List.Perm.append_left ms hp
  refine ⟨h.mp, h.lo, fun m hm => h.bd m (hq.mem_iff.2 hm), ?_, h.up⟩
  exact hq.pairwise h.ap (fun h k hk e => h k e hk)
/-- nothing at all is told -/
theorem Bgm.none_ {B mb : Nat} {ms ex : List Ms} {w : World} (h : Bgm B mb ms ex w) (x : Ms) (hx : x.s = ⟨none, 0, 0, []⟩) : Bgm B mb ms (x :: ex) w := by
  have hb : ∀ k, x.s.v.ownBlock ≠ some k := fun k e => by rw [hx] at e; cases e
  refine ⟨h.mp, h.lo, fun m hm => ?_, ?_, h.up⟩
  · rcases List.mem_append.1 hm with hm | hm
    · exact h.bd m (by simp [hm])
    · rcases List.mem_cons.1 hm with rfl | hm
      · rw [hx]; exact own_nil w B 5
      · exact h.bd m (by simp [hm])
  · have h1 := h.ap
    unfold Apd at h1 ⊢
    rw [List.pairwise_append] at h1 ⊢
    refine ⟨h1.1, List.pairwise_cons.2 ⟨fun m hm k hk => absurd hk (hb k), h1.2.1⟩, fun a ha b hbm => ?_⟩
    rcases List.mem_cons.1 hbm with rfl | hbm
    · exact fun k _ => hb k
    · exact h1.2.2 a ha b hbm
/-- a message taken out of the map: it is in the caller's hands then -/
theorem Bgm.took {B b : Nat} {ms ex : List Ms} {w w' : World} (hG : Bgm B b ms ex w) {z : Int} (hb : But b w w') (hM : MW w' b (dlM ms z)) : Bgm B b (dlM ms z) ((if lkB ms z = true then [lkV ms z] else []) ++ ex) w' := by
  have hO : ∀ x ∈ ms ++ ex, Ou w' B x.s.v x.s.xs := fun x hx => by
    have hO := hG.bd x hx
    refine own_blk hO (fun g hg => hb.block g (own_lt hO hg).2 (fun e => ?_))
    subst e
    exact hG.mp.neO hO hg
  by_cases hq : lkB ms z = true
  · obtain ⟨q1, q2⟩ := lkB_yes hq
    rw [if_pos hq]
    have hm : ∀ x ∈ dlM ms z ++ ([lkV ms z] ++ ex), x ∈ ms ++ ex := fun x hx => by
      rcases List.mem_append.1 hx with h | h
      · exact List.mem_append.2 (.inl (List.mem_filter.1 h).1)
      · rcases List.mem_append.1 h with h | h
        · rw [List.mem_singleton] at h; subst h; exact List.mem_append.2 (.inl q1)
        · exact List.mem_append.2 (.inr h)
    refine ⟨hM, hG.lo, fun x hx => hO x (hm x hx), ?_, hG.up.dl z⟩
    have h1 := hG.ap
    have hsym : ∀ {x y : Ms}, (∀ k, x.s.v.ownBlock = some k → y.s.v.ownBlock ≠ some k) → (∀ k, y.s.v.ownBlock = some k → x.s.v.ownBlock ≠ some k) := fun h k hk e => h k e hk
    unfold Apd at h1 ⊢
    have hperm : (dlM ms z ++ ([lkV ms z] ++ ex)).Perm (ms ++ ex) := by
      rw [← List.append_assoc]
      refine List.Perm.append_right ex ?_
      have hu := hG.up
      clear hM hO hG h1 hm hb
      induction ms with
      | nil => cases q1
      | cons a r ih =>
        obtain ⟨h1, h2⟩ := List.pairwise_cons.1 hu
        by_cases ha : a.i = z
        · have e1 : lkV (a :: r) z = a := by simp [lkV, lkO, ha]
          have e3 : lkB r z = false := by
            cases hq : lkB r z with
            | false => rfl
            | true =>
              obtain ⟨m, hm, he⟩ := List.any_eq_true.1 hq
              have := h1 m hm
              have h9 : m.i = z := by simpa using he
              omega
          have e2 : dlM (a :: r) z = r := by
            have : dlM (a :: r) z = dlM r z := by simp [dlM, List.filter_cons, ha]
            rw [this, dl_no e3]
          rw [e1, e2]
          exact List.perm_append_singleton _ _
        · have e0 : (a.i == z) = false := by simpa using ha
          have e1 : lkV (a :: r) z = lkV r z := by simp [lkV, lkO, List.find?_cons, e0]
          have e2 : dlM (a :: r) z = a :: dlM r z := by simp [dlM, List.filter_cons, e0]
          have e3 : lkB r z = true := by
            have : lkB (a :: r) z = ((a.i == z) || lkB r z) := rfl
            rw [this, e0, Bool.false_or] at hq; exact hq
          obtain ⟨p1, p2⟩ := lkB_yes e3
          rw [e1, e2]
          exact (ih e3 p1 p2 h2).cons a
    exact hperm.symm.pairwise h1 (fun h => hsym h)
  · have hq' : lkB ms z = false := by simpa using hq
    rw [if_neg hq, List.nil_append]
    have e := dl_no hq'
    rw [e] at hM ⊢
    exact ⟨hM, hG.lo, hO, hG.ap, hG.up⟩
theorem Bgm.took' {B b : Nat} {ms ex : List Ms} {w w' : World} (hG : Bgm B b ms ex w) {z : Int} (hb : But b w w') (hM : MW w' b (dlM ms z)) : Bgm B b (dlM ms z) (lkV ms z :: ex) w' := by
  have h := hG.took hb hM
  by_cases hq : lkB ms z = true
  · rw [if_pos hq] at h; exact h
  · rw [if_neg hq] at h
    exact h.none_ _ (by rw [lkB_no (by simpa using hq)]; rfl)
theorem wl_mdel (hw : Region.wanted o (yielded ops a.tmps) = true) (x y : Operand) (ho : o.op = .call { callee := .builtin .delete, args := #[x, y], argTypes := #[65, 3] }) {B b : Nat} {z : Int} {ms ex : List Ms} (hx : a.eval x = .map (some b)) (hy : a.eval y = .int .i64 z) (hS : Hs17 w0 rows (Bgm B b ms ex) w) (hn : NoU rows = true) (hB : w0.heap.size ≤ B) (hz : I64 z)
    (h : ∀ w', Hs17 w0 rows (Bgm B b (dlM ms z) (lkV ms z :: ex)) w' → wpList Try.prog ops Q rest (a.put o.dst (.tuple #[])) w') : wpList Try.prog ops Q (o :: rest) a w := by
  refine wl hw fun k hk => ?_
  have hG := hS.K
  obtain ⟨w', hr, hM, hb⟩ := hG.mp.del hG.up hz o.type
  unfold Oper.wp
  simp [execOp, ho, resolve, invoke, builtin, hx, hy, hr, Result.andThen]
  exact hk _ _ (h w' (hS.bgm hn hB (Buts.of_but hb) (fun k hk => .inl hk) (hG.took' hb hM)))
end
end Go.Proofs.Ytaepmfkdnjembaa
