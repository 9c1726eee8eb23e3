import Derived.Test.YtppklfckpmenbaaOdM
set_option linter.unusedSimpArgs false
set_option linter.unusedVariables false
namespace Go.Proofs.Ytppklfckpmenbaa
open Go.RowKit

/-! Rows of Smalls of one's own. -/
def zSml : Sml := ⟨false, 0, zEnt, zFlr⟩
theorem zSml_ok : zSml.Ok := ⟨zEnt_ok, zFlr_ok⟩
theorem Try.inSm : (Try.prog.info? 45).map (fun i => (i.zero, i.size, i.bytes)) = some (some (aV (smC zSml)), 329, 384) := by kernel_rfl
theorem infoSm3 : ∃ i, Try.prog.info? 45 = some i ∧ i.zero = some (aV (smC zSml)) ∧ i.size = 329 ∧ i.bytes = 384 := by
  have h := Try.inSm
  cases hq : Try.prog.info? 45 with
  | none => rw [hq] at h; simp at h
  | some i =>
    rw [hq] at h
    simp only [Option.map_some, Option.some.injEq, Prod.mk.injEq] at h
    exact ⟨i, rfl, h.1, h.2.1, h.2.2⟩
theorem one_sm (x : Sml) : ∀ v ∈ smC x, v.oneCell' = true := one_app (one_one rfl) (one_app (one_one rfl) (one_app (one_e _) (one_f _)))
theorem Ss.len {w : World} {s : Sx Sml} (h : Ss w s) : ∀ x ∈ s.xs, (smC x).length = 329 := fun x hx => smC_len (h.e x hx)
/-- a row of Smalls of one's own -/
structure Om (w : World) (base : Nat) (v : Value) (xs : List Sml) : Prop where
  own : w.ownsRow base 45 329 v xs.length (xs.flatMap smC)
  e : ∀ x ∈ xs, x.Ok
theorem Om.sx {w : World} {base : Nat} {v : Value} {xs : List Sml} (h : Om w base v xs) : ∃ s : Sx Sml, v = s.v ∧ s.xs = xs ∧ Ss w s := by
  obtain ⟨s, h1, h2, h3, h4⟩ := own_sx h.own (fun x hx => smC_len (h.e x hx))
  exact ⟨s, h1, h2, h3, fun x hx => h.e x (by rw [← h2]; exact hx)⟩
theorem Om.later {w w' : World} {base : Nat} {v : Value} {xs : List Sml} (h : Om w base v xs) (hb : Below w.heap.size w w') : Om w' base v xs := ⟨own_laterG h.own hb, h.e⟩
theorem Om.old {w w' : World} {base : Nat} {v : Value} {xs : List Sml} (h : Om w base v xs) (ho : Old w w') : Om w' base v xs := ⟨own_blk h.own (fun g hg => ho.block g (own_lt h.own hg).2), h.e⟩
theorem Om.nil (w : World) (base : Nat) : Om w base (.slice none 0 0) [] := ⟨own_nil w base _, fun x hx => by cases hx⟩
theorem Om.bel {B : Nat} {w w1 : World} {v : Value} {base : Nat} {xs : List Sml} (h : Om w base v xs) (hg : w.grownBy w1 v.ownBlock) (hB : B ≤ base) (hs : B ≤ w.heap.size) : Below B w w1 := own_belG (row := none) h.own hg hB hs
/-- another row stands while one grows -/
theorem Om.keep {w w' : World} {base : Nat} {v u : Value} {xs : List Sml} (h : Om w base v xs) (hg : w.grownBy w' u.ownBlock) (hne : ∀ g, v.ownBlock = some g → some g ≠ u.ownBlock) : Om w' base v xs := ⟨own_keepG h.own hg hne, h.e⟩
section
variable {α : Type} {f : α → List Value} {sz : Nat} {w : World} {P : Program} {o : Oper} {a : Act} {k : Act → World → Prop} {Q : Exit → Act → World → Prop}
/-- append of any slice to a row of one's own: where it lies then -/
theorem op_appendL (s x : Operand) (t : TypeId) (ho : o.op = .call { callee := .builtin .append, args := #[s, x], argTypes := #[t, t] })
    {base : Nat} {e : TypeId} {zv : Value} {bytes : Nat} (ht : P.underlying t = some (.slice e)) (hi : (P.info? e).map (fun i => (i.zero, i.size, i.bytes)) = some (some zv, sz, bytes)) (hzs : zv.cells.size = sz) (hsz : 0 < sz)
    {v : Value} {xs : List α} (hs : a.eval s = v) (hown : w.ownsRow base e sz v xs.length (xs.flatMap f)) (y : Sx α) (hy : y.Ok f sz w) (hl : ∀ z ∈ y.xs, (f z).length = sz) (h1 : ∀ z ∈ y.xs, ∀ u ∈ f z, u.oneCell' = true) (hx : a.eval x = y.v)
    (hb : (xs.length + y.n) * bytes ≤ 140737488355328) (hb1 : 0 < bytes) (hbase : base ≤ w.heap.size)
    (h : ∀ v' w', w'.ownsRow base e sz v' (xs ++ y.xs).length ((xs ++ y.xs).flatMap f) → w.grownBy w' v.ownBlock → (v'.ownBlock = v.ownBlock ∨ v'.ownBlock = some w.heap.size) → k (a.put o.dst v') w') : o.wp P a w k Q := by
  obtain ⟨i, hii, hiz, his, hib⟩ : ∃ i, P.info? e = some i ∧ i.zero = some zv ∧ i.size = sz ∧ i.bytes = bytes := by
    cases hq : P.info? e with
    | none => rw [hq] at hi; simp at hi
    | some i =>
      rw [hq] at hi
      simp only [Option.map_some, Option.some.injEq, Prod.mk.injEq] at hi
      exact ⟨i, rfl, hi.1, hi.2.1, hi.2.2⟩
  cases hya : y.a with
  | none =>
    obtain ⟨h0, hc0⟩ := hy.nn hya
    have hl0 : y.xs = [] := List.eq_nil_of_length_eq_zero (by rw [hy.len, h0])
    have hr := run_append_owned_none (P := P) (w := w) base t o.type e i sz ht hii v xs.length (xs.flatMap f) hown
    unfold Oper.wp
    simp [execOp, ho, resolve, invoke, builtin, hs, hx, Sx.v, hya, h0, hc0, hr, Result.andThen]
    exact h v w (by rw [hl0]; simpa using hown) (World.grownBy.refl w _) (.inl rfl)
  | some ad =>
    have hc1 : ∀ j u, (y.xs.flatMap f)[j]? = some u → w.cell? (ad.add j) = some u := fun j u hu => by
      have hpos : 0 < y.xs.length := by
        rcases Nat.eq_zero_or_pos y.xs.length with h0 | h0
        · rw [List.eq_nil_of_length_eq_zero h0] at hu; simp at hu
        · exact h0
      obtain ⟨b, off, e2, -, -⟩ := hy.lies (by rw [← hy.len]; exact hpos)
      rw [hya] at e2; cases e2
      rw [addr_add]
      exact hy.flat hl hsz hya j u hu
    have hc2 : ∀ u ∈ y.xs.flatMap f, u.oneCell' = true := fun u hu => by
      obtain ⟨z, hz, hu⟩ := List.mem_flatMap.1 hu
      exact h1 z hz u hu
    have hc3 : xs.length + y.n ≤ maxLen := by
      have : (xs.length + y.n) * 1 ≤ (xs.length + y.n) * bytes := Nat.mul_le_mul_left _ hb1
      unfold maxLen; omega
    obtain ⟨v', w', hr, r1, r2, r3⟩ := run_append_own_at (P := P) w base t o.type e i zv sz bytes ht hii hiz his hib hzs hsz v xs.length (xs.flatMap f) hown ad y.n y.c (y.xs.flatMap f) (by rw [flat_len hl, hy.len]) hc1 hc2 hc3 hb hbase
    unfold Oper.wp
    simp [execOp, ho, resolve, invoke, builtin, hs, hx, Sx.v, hya, hr, Result.andThen]
    refine h v' w' ?_ r2 r3
    rw [List.length_append, List.flatMap_append, hy.len]; exact r1
end
theorem wl_appendS {ops : Array Oper} {rest : List Oper} {o : Oper} {a : Act} {w : World} {Q : Exit → Act → World → Prop} (hw : Region.wanted o (yielded ops a.tmps) = true) (s x : Operand) (ho : o.op = .call { callee := .builtin .append, args := #[s, x], argTypes := #[41, 41] })
    {base : Nat} {v : Value} {xs : List Sml} (hs : a.eval s = v) (hown : Om w base v xs) (y : Sx Sml) (hy : Ss w y) (hx : a.eval x = y.v) (hb : (xs.length + y.n) * 384 ≤ 140737488355328) (hbase : base ≤ w.heap.size)
    (h : ∀ v' w', Om w' base v' (xs ++ y.xs) → w.grownBy w' v.ownBlock → (v'.ownBlock = v.ownBlock ∨ v'.ownBlock = some w.heap.size) → wpList Try.prog ops Q rest (a.put o.dst v') w') : wpList Try.prog ops Q (o :: rest) a w :=
  wl hw fun k hk => op_appendL s x 41 ho Try.underlying41 Try.inSm (by simp [aV, Value.cells, smC_len zSml_ok]) (by omega) hs hown.own y hy.ok hy.len (fun z _ => one_sm z) hx hb (by omega) hbase (fun v' w' h1 h2 h3 => hk _ _ (h v' w' ⟨h1, fun z hz => (List.mem_append.1 hz).elim (hown.e z) (hy.e z)⟩ h2 h3))
theorem op_bs1S {o : Oper} {a : Act} {w w0 : World} {k : Act → World → Prop} {Q : Exit → Act → World → Prop} {rows : List Row} {K : World → Prop} (x : Operand) (ho : o.op = .buildSlice 41 1 #[(0, x)]) (e : Sml) (he : e.Ok) (hx : a.eval x = aV (smC e)) (hS : Hs17 w0 rows K w)
    (h : ∀ g w', Hs17 w0 ((g, 45, smC e) :: rows) K w' → k (a.put o.dst (.slice (some ⟨g, 0, none⟩) 1 1)) w') : o.wp Try.prog a w k Q := by
  obtain ⟨i, hi, hz, hs, -⟩ := infoSm3
  have hr := run_bsG (P := Try.prog) w 41 45 i _ [aV (smC e)] 329 Try.underlying41 hi hs hz (fun v hv => by simp at hv; subst hv; simp [aV, Value.cells, smC_len he]) (by simp) (by simp)
  have hc : ([aV (smC e)].flatMap cellsL) = smC e := by simp [cellsL, aV, Value.cells]
  rw [hc] at hr
  have hr' : (Instr.buildSlice 41 1 ((#[((0 : Nat), x)]).map fun p => (p.1, a.eval p.2))).run Try.prog w = .ok (.slice (some ⟨w.heap.size, 0, none⟩) 1 1) (w.alloc (.cells (smC e).toArray 45)) := by
    simp only [List.map_toArray, List.map_cons, List.map_nil, hx]
    exact hr
  unfold Oper.wp
  simp [execOp, ho, Result.andThen]
  simp at hr'
  rw [hr']
  exact h _ _ (hS.alloc 45 (smC e))
theorem ss_one {w w0 : World} {rows : List Row} {K : World → Prop} {g : Nat} {t : TypeId} {e : Sml} (hS : Hs17 w0 ((g, t, smC e) :: rows) K w) (he : e.Ok) : Ss w ⟨some ⟨g, 0, none⟩, 1, 1, [e]⟩ := by
  have hA := hS.get 0 rfl
  refine ⟨⟨rfl, Nat.le_refl _, by show 1 ≤ maxLen; unfold maxLen; omega, (fun h => by cases h), fun _ => ⟨g, 0, rfl, hA.lt, fun i x hi => ?_⟩⟩, fun x hx => by simp at hx; subst hx; exact he⟩
  cases i with
  | zero => simp at hi; subst hi; simpa using (At.self _).range hA
  | succ i => simp at hi
end Go.Proofs.Ytppklfckpmenbaa
