import Derived.Test.YtfjnpbiihndhhaaDoorFldG
namespace Go.Proofs.YtfjnpbiihndhhaaDoor
open Go.RowKit

/-! Small closed facts of the calls: 2 and 3 come to 5 and to 6. -/
/-- a whole array loaded where a guard lets it -/
theorem wpList_load_row_if {P : Program} {ops : Array Oper} {rest : List Oper} {o : Oper} {a : Act} {w : World} {Q : Exit → Act → World → Prop} (ty : TypeId) (x : Operand) (ho : o.op = .load ty x) (hw : Region.wanted o (yielded ops a.tmps) = true)
    (g : Nat) (hx : a.eval x = .pointer (some ⟨g, 0, none⟩)) (t : TypeId) (cs : Array Value) (fr : Nat × Nat) (d : TypeDesc) (hg : w.heap[g]? = some (.cells cs t fr))
    (hu : P.underlying ty = some d) (hd : (match d with | .struct _ | .array _ _ => true | _ => false) = true) (hi : (P.info? ty).map (·.size) = some cs.size)
    (h : wpList P ops Q rest (a.put o.dst (.agg cs)) w) : wpList P ops Q (o :: rest) a w := by
  unfold wpList
  rw [if_pos hw]
  exact Or.inl (wp_load_row ty x ho g hx t cs fr d hg hu hd hi h)
theorem El_lit (n : Int) (h0 : 0 ≤ n) (h1 : n < 2251799813685248) : El n = [n, 0, 0, 0, 0] := by
  have e : n % PP = n := Int.emod_eq_of_lt h0 (by unfold PP; omega)
  rw [El_fst, e]
  have e0 : n % 2251799813685248 = n := by omega
  have e1 : n / 2251799813685248 % 2251799813685248 = 0 := by omega
  have e2 : n / 5070602400912917605986812821504 % 2251799813685248 = 0 := by omega
  have e3 : n / 11417981541647679048466287755595961091061972992 % 2251799813685248 = 0 := by omega
  have e4 : n / 25711008708143844408671393477458601640355247900524685364822016 % 2251799813685248 = 0 := by omega
  rw [e0, e1, e2, e3, e4]
theorem Rep.lit (n : Int) (h0 : 0 ≤ n) (h1 : n < 2251799813685248) : Rep [n, 0, 0, 0, 0] n := by
  have := Rep.El n
  rwa [El_lit n h0 h1] at this
theorem small_lit (n : Int) (w : World) (h0 : 0 ≤ n) (h1 : n < 2251799813685248) :
    Calls Tryd.prog 13 #[.int .u64 n] w fun r w' => r = .returned (.agg #[.int .u64 n, .int .u64 0, .int .u64 0, .int .u64 0, .int .u64 0]) ∧ Below w.heap.size w w' := by
  have := small_any n w (by unfold Wd; omega)
  rw [El_lit n h0 h1] at this
  exact this
theorem add23 (w : World) : Calls Tryd.prog 5 #[.agg #[.int .u64 2, .int .u64 0, .int .u64 0, .int .u64 0, .int .u64 0], .agg #[.int .u64 3, .int .u64 0, .int .u64 0, .int .u64 0, .int .u64 0]] w fun r w' => r = .returned (.agg #[.int .u64 5, .int .u64 0, .int .u64 0, .int .u64 0, .int .u64 0]) ∧ Below w.heap.size w w' := by
  have := add_any [2, 0, 0, 0, 0] [3, 0, 0, 0, 0] 2 3 w (Rep.lit 2 (by decide) (by decide)) (Rep.lit 3 (by decide) (by decide))
  rw [show El (2 + 3) = [5, 0, 0, 0, 0] from El_lit 5 (by decide) (by decide)] at this
  exact this
theorem mul23 (w : World) : Calls Tryd.prog 7 #[.agg #[.int .u64 2, .int .u64 0, .int .u64 0, .int .u64 0, .int .u64 0], .agg #[.int .u64 3, .int .u64 0, .int .u64 0, .int .u64 0, .int .u64 0]] w fun r w' => r = .returned (.agg #[.int .u64 6, .int .u64 0, .int .u64 0, .int .u64 0, .int .u64 0]) ∧ Below w.heap.size w w' := by
  have := mul_any [2, 0, 0, 0, 0] [3, 0, 0, 0, 0] 2 3 w (Rep.lit 2 (by decide) (by decide)) (Rep.lit 3 (by decide) (by decide))
  rw [show El (2 * 3) = [6, 0, 0, 0, 0] from El_lit 6 (by decide) (by decide)] at this
  exact this
theorem isZero0 (w : World) : Calls Tryd.prog 28 #[.agg #[.int .u64 0, .int .u64 0, .int .u64 0, .int .u64 0, .int .u64 0]] w fun r w' => r = .returned (.bool true) ∧ Below w.heap.size w w' :=
  isZero_any [0, 0, 0, 0, 0] 0 w (Rep.lit 0 (by decide) (by decide))
theorem isZero3 (w : World) : Calls Tryd.prog 28 #[.agg #[.int .u64 3, .int .u64 0, .int .u64 0, .int .u64 0, .int .u64 0]] w fun r w' => r = .returned (.bool false) ∧ Below w.heap.size w w' :=
  isZero_any [3, 0, 0, 0, 0] 3 w (Rep.lit 3 (by decide) (by decide))
theorem eq_lit (n : Int) (w : World) : (Op.equalIn 10000 24 (.agg #[.int .u64 n, .int .u64 0, .int .u64 0, .int .u64 0, .int .u64 0]) (.agg #[.int .u64 n, .int .u64 0, .int .u64 0, .int .u64 0, .int .u64 0])).run Tryd.prog w = .ok true w := by
  have := eq5 [n, 0, 0, 0, 0] [n, 0, 0, 0, 0] rfl rfl w
  rw [decide_eq_true rfl] at this
  exact this
set_option maxHeartbeats 1000000 in
set_option maxRecDepth 100000 in
theorem counts_any (w : World) :
    Calls Tryd.prog 20 #[] w fun r w' => r = .returned (.bool true) ∧ Below w.heap.size w w' := by
  have q5 := eq_lit 5
  have q6 := eq_lit 6
  have q1 := eq_lit 1
  go_enter Tryd.func20, Tryd.ntmps20
  go_wp2_with fail
  refine (small_lit 2 _ (by decide) (by decide)).mono ?_
  rintro r w1 ⟨rfl, hb⟩
  go_wp2_with fail
  refine (small_lit 3 _ (by decide) (by decide)).mono ?_
  rintro r w2 ⟨rfl, hbel⟩
  obtain ⟨h1, hbel, -⟩ := after1 hbel
  replace hb := bnext hb hb.size hbel
  have h2 := keep h1 (new1 w2 #[.int .u64 3, .int .u64 0, .int .u64 0, .int .u64 0, .int .u64 0] 24).2.2
  clear hbel
  go_wp2_with (first
    | refine wpList_load_row rfl 24 (.tmp 1) rfl _ rfl 24 _ (0, 0) _ h2 Tryd.underlying24 rfl Tryd.sz5 ?_
    | refine wpList_load_row rfl 24 (.tmp 2) rfl _ rfl 24 _ (0, 0) _ (new1 w2 _ _).2.1 Tryd.underlying24 rfl Tryd.sz5 ?_)
  refine (add23 _).mono ?_
  rintro r w3 ⟨rfl, hbel⟩
  obtain ⟨h3, hbel2, -⟩ := after1 hbel
  replace h2 := keep h2 hbel
  replace hb := bnext hb hb.size hbel2
  clear hbel hbel2 h1
  go_wp2_with (first
    | refine wpList_load_row_if 24 (.tmp 1) rfl (by rfl) _ rfl 24 _ (0, 0) _ h2 Tryd.underlying24 rfl Tryd.sz5 ?_
    | refine wpList_load_row_if 24 (.tmp 2) rfl (by rfl) _ rfl 24 _ (0, 0) _ h3 Tryd.underlying24 rfl Tryd.sz5 ?_)
  refine (mul23 _).mono ?_
  rintro r w4 ⟨rfl, hbel⟩
  replace h3 := keep h3 hbel
  replace hb := bnext hb hb.size hbel
  clear hbel h2
  go_wp2_with fail
  refine (small_lit 1 _ (by decide) (by decide)).mono ?_
  rintro r w5 ⟨rfl, hbel⟩
  replace h3 := keep h3 hbel
  replace hb := bnext hb hb.size hbel
  clear hbel
  go_wp2_with fail
  refine (small_lit 0 _ (by decide) (by decide)).mono ?_
  rintro r w6 ⟨rfl, hbel⟩
  replace h3 := keep h3 hbel
  replace hb := bnext hb hb.size hbel
  clear hbel
  go_wp2_with fail
  refine (isZero0 _).mono ?_
  rintro r w7 ⟨rfl, hbel⟩
  replace h3 := keep h3 hbel
  replace hb := bnext hb hb.size hbel
  clear hbel
  go_wp2_with (refine wpList_load_row_if 24 (.tmp 2) rfl (by rfl) _ rfl 24 _ (0, 0) _ h3 Tryd.underlying24 rfl Tryd.sz5 ?_)
  refine (isZero3 _).mono ?_
  rintro r w8 ⟨rfl, hbel⟩
  replace hb := bnext hb hb.size hbel
  go_wp2_with fail
  go_ret
  exact ⟨rfl, hb⟩
end Go.Proofs.YtfjnpbiihndhhaaDoor
