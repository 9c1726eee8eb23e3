import Derived.Test.YtmaammjfbheciabDoorCkW
set_option linter.unusedVariables false
namespace Go.Proofs.YtmaammjfbheciabDoor
open Go.RowKit

theorem Tryd.sz1h : (Tryd.prog.info? 5).map (·.size) = some 1 := by kernel_rfl
theorem eqHs (l l' : List Int) (h : l.length = 32) (h' : l'.length = 32) (w : World) : (Op.equalIn 10000 23 (.agg (U8 l).toArray) (.agg (U8 l').toArray)).run Tryd.prog w = .ok (decide (l = l')) w :=
  run_equalIn_ints Tryd.underlying23 Tryd.underlying5 Tryd.sz1h l l' h h' w

set_option maxHeartbeats 2000000 in
set_option maxRecDepth 100000 in
theorem anchor_any (v : List Int) (n : Int) (w : World) (hv : Hs v) (hL : Ld w) :
    Calls Tryd.prog 11 #[hV v, .int .i64 n] w fun e w' => e = .returned (.tuple #[hV (vaR v n 0).1, .bool (vaR v n 0).2]) ∧ Below w.heap.size w w' := by
  obtain ⟨W, hW, hG, hR, hb, -⟩ := arr2 w 23 23 (U8 v) (U8 (List.replicate 32 0))
  have HW := hide hW
  clear hW
  have hit := value_any v n 0 W hv (hL.later hb)
  unfold hV at hit ⊢
  have hyl := vaR_hs hv n 0
  obtain ⟨y, hy⟩ : ∃ y, y = (vaR v n 0).1 := ⟨_, rfl⟩
  obtain ⟨q, hq⟩ : ∃ q, q = (vaR v n 0).2 := ⟨_, rfl⟩
  rw [← hy, ← hq] at hit
  rw [← hy, ← hq]
  rw [← hy] at hyl
  have hzx := hz_of hv.len
  have hzy := hz_of hyl.len
  have hzo := ho_of (A := List.replicate 32 0) (by simp) hyl.len
  clear hy hL hq
  go_enter Tryd.func11, Tryd.ntmps11
  go_wp2_with (first
    | (rw [Z32, ← unhide HW]; refine wpList_load_row rfl 23 (.tmp 2) rfl w.heap.size rfl 23 _ (0, 0) _ hG Tryd.underlying23 rfl hzx ?_)
    | (go_at_call 9; refine hit.mono ?_; rintro e w1 ⟨rfl, hb1⟩; replace hR := hR.later hb1; replace hb := bnext hb hb.size hb1; clear hb1)
    | refine wpList_store_row rfl 23 (.tmp 4) (.tmp 9) rfl (w.heap.size + 1) _ rfl rfl 23 _ hR hzy hzo (all_one (U8_one _)) ?_)
  refine bodyPost_ret (results_row_tmp rfl _ _ (w.heap.size + 1) 23 _ (0, 0) _ rfl (.bool q) rfl (setRow_heap _ _ _ _ _ _ hR) Tryd.underlying23 rfl hzy) rfl ?_
  exact ⟨rfl, below_setRow hb (Nat.le_succ _) _⟩

theorem new1 (w : World) (c : Array Value) (t : TypeId) : (w.alloc (.cells c t)).heap.size = w.heap.size + 1 ∧ (w.alloc (.cells c t)).heap[w.heap.size]? = some (.cells c t (0, 0)) ∧ Below w.heap.size w (w.alloc (.cells c t)) :=
  ⟨by simp, heap_alloc_last w _, (Below.refl _ _).alloc (Nat.le_refl _) _⟩
theorem newS (w : World) (z c : Array Value) (t : TypeId) : ((w.alloc (.cells z t)).setRow w.heap.size c).heap[w.heap.size]? = some (.cells c t (0, 0)) ∧ Below w.heap.size w ((w.alloc (.cells z t)).setRow w.heap.size c) :=
  ⟨setRow_heap _ _ _ _ _ _ (new1 w z t).2.1, below_setRow (new1 w z t).2.2 (Nat.le_refl _) _⟩
theorem wpList_load_row_if {P : Program} {ops : Array Oper} {rest : List Oper} {o : Oper} {a : Act} {w : World} {Q : Exit → Act → World → Prop} (ty : TypeId) (x : Operand) (ho : o.op = .load ty x) (hw : Region.wanted o (yielded ops a.tmps) = true)
    (g : Nat) (hx : a.eval x = .pointer (some ⟨g, 0, none⟩)) (t : TypeId) (cs : Array Value) (fr : Nat × Nat) (d : TypeDesc) (hg : w.heap[g]? = some (.cells cs t fr))
    (hu : P.underlying ty = some d) (hd : (match d with | .struct _ | .array _ _ => true | _ => false) = true) (hi : (P.info? ty).map (·.size) = some cs.size)
    (h : wpList P ops Q rest (a.put o.dst (.agg cs)) w) : wpList P ops Q (o :: rest) a w := by
  unfold wpList
  rw [if_pos hw]
  exact Or.inl (wp_load_row ty x ho g hx t cs fr d hg hu hd hi h)
/-- a new array is filled -/
theorem wpList_store_new {ops : Array Oper} {rest : List Oper} {o : Oper} {a : Act} {w : World} {Q : Exit → Act → World → Prop} (hgd : o.guard = none) (x y : Operand) (ho : o.op = .store 23 x y)
    (l : List Int) (hl : l.length = 32) (z : Array Value) (hz : z.size = 32) (hx : a.eval x = .pointer (some ⟨w.heap.size, 0, none⟩)) (hy : a.eval y = .agg (U8 l).toArray)
    (hK : ∀ w2, Arr w2 w.heap.size 23 (U8 l) → Below w.heap.size w w2 → wpList Tryd.prog ops Q rest (a.put o.dst undef) w2) : wpList Tryd.prog ops Q (o :: rest) a (w.alloc (.cells z 23)) :=
  wpList_store_row hgd 23 x y ho w.heap.size _ hx hy 23 z (new1 w z 23).2.1 (hz_of hl) (by simp [hz, hl]) (all_one (U8_one _)) (hK _ (newS w z _ 23).1 (newS w z _ 23).2)

set_option maxHeartbeats 2000000 in
set_option maxRecDepth 100000 in
theorem leads_any (x : List Int) (n : Nat) (y : List Int) (w : World) (hx : Hs x) (hy : Hs y) (hL : Ld w) (hn : n ≤ 4096) :
    Calls Tryd.prog 23 #[hV x, .int .i64 n, hV y] w fun e w' => e = .returned (.bool (decide (itZ n x = y))) ∧ Below w.heap.size w w' := by
  obtain ⟨W, hW, hG, hR, hb, -⟩ := arr2 w 23 23 (U8 x) (U8 y)
  have HW := hide hW
  clear hW
  have hit := iterate_ok x n W hx (hL.later hb) hn
  unfold hV at hit ⊢
  obtain ⟨u, hu⟩ : ∃ u, u = itZ n x := ⟨_, rfl⟩
  have hul : Hs u := by rw [hu]; exact hx.it n
  rw [← hu] at hit ⊢
  have hzx := hz_of hx.len
  have hzy := hz_of hy.len
  have hzu := hz_of hul.len
  have he := eqHs u y hul.len hy.len
  clear hu hL hn
  go_enter Tryd.func23, Tryd.ntmps23
  go_wp2_with (first
    | (rw [← unhide HW]; refine wpList_load_row rfl 23 (.tmp 3) rfl w.heap.size rfl 23 _ (0, 0) _ hG Tryd.underlying23 rfl hzx ?_)
    | (go_at_call 21; refine hit.mono ?_; rintro e w1 ⟨rfl, hb1⟩; replace hR := hR.later hb1; replace hb := bnext hb hb.size hb1; clear hb1)
    | (refine wpList_store_new rfl (.tmp 7) (.tmp 13) rfl u hul.len _ rfl rfl rfl ?_; intro w2 hU hb2; replace hR := hR.later hb2; replace hb := bnext hb hb.size hb2; clear hb2)
    | refine wpList_load_row_if 23 (.tmp 7) rfl rfl w1.heap.size rfl 23 _ (0, 0) _ hU Tryd.underlying23 rfl hzu ?_
    | refine wpList_load_row_if 23 (.tmp 5) rfl rfl (w.heap.size + 1) rfl 23 _ (0, 0) _ hR Tryd.underlying23 rfl hzy ?_)
  go_ret
  exact ⟨rfl, hb⟩
def chB (a : List Int) (n i : Int) (v : List Int) : Bool := if 1 ≤ n ∧ n ≤ 4096 ∧ 0 ≤ i ∧ i ≤ n then decide (itZ i.toNat v = a) else false
def liB (e : Int) (lo : List Int) (l : Int) (hi : List Int) : Bool := if 0 ≤ e ∧ e ≤ l ∧ l ≤ 4096 then decide (itZ (l - e).toNat hi = lo) else false
set_option maxHeartbeats 2000000 in
set_option maxRecDepth 100000 in
theorem check_any (a : List Int) (n i : Int) (v : List Int) (w : World) (ha : Hs a) (hv : Hs v) (hL : Ld w) :
    Calls Tryd.prog 13 #[hV a, .int .i64 n, .int .i64 i, hV v] w fun e w' => e = .returned (.bool (chB a n i v)) ∧ Below w.heap.size w w' := by
  obtain ⟨W, hW, hG, hR, hb, -⟩ := arr2 w 23 23 (U8 a) (U8 v)
  have HW := hide hW
  clear hW
  have hc := onChain_any n i W
  cases hon : onC n i
  · rw [chB, if_neg (onC_false hon)]
    rw [hon] at hc
    unfold hV
    go_enter Tryd.func13, Tryd.ntmps13
    go_wp2_with (rw [← unhide HW]; go_at_call 20; refine hc.mono ?_; rintro e w1 ⟨rfl, h1⟩; obtain rfl := h1.symm)
    go_ret
    exact ⟨rfl, hb⟩
  · have h4 := onC_true hon
    rw [chB, if_pos h4]
    rw [hon] at hc
    obtain ⟨k, rfl⟩ := Int.eq_ofNat_of_zero_le h4.2.2.1
    rw [Int.toNat_natCast]
    have hit := leads_any v k a W hv ha (hL.later hb) (by omega)
    unfold hV at hit ⊢
    generalize decide (itZ k v = a) = q at hit ⊢
    have hza := hz_of ha.len
    have hzv := hz_of hv.len
    clear hL h4
    go_enter Tryd.func13, Tryd.ntmps13
    go_wp2_with (first
      | (rw [← unhide HW]; go_at_call 20; refine hc.mono ?_; rintro e w1 ⟨rfl, h1⟩; obtain rfl := h1.symm)
      | refine wpList_load_row_if 23 (.tmp 7) rfl rfl (w.heap.size + 1) rfl 23 _ (0, 0) _ hR Tryd.underlying23 rfl hzv ?_
      | refine wpList_load_row_if 23 (.tmp 4) rfl rfl w.heap.size rfl 23 _ (0, 0) _ hG Tryd.underlying23 rfl hza ?_
      | (go_at_call 23; refine hit.mono ?_; rintro e w1 ⟨rfl, hb1⟩; replace hb := bnext hb hb.size hb1; clear hb1))
    go_ret
    exact ⟨rfl, hb⟩
set_option maxHeartbeats 2000000 in
set_option maxRecDepth 100000 in
theorem link_any (e : Int) (lo : List Int) (l : Int) (hi : List Int) (w : World) (ha : Hs lo) (hv : Hs hi) (hL : Ld w) :
    Calls Tryd.prog 15 #[.int .i64 e, hV lo, .int .i64 l, hV hi] w fun r w' => r = .returned (.bool (liB e lo l hi)) ∧ Below w.heap.size w w' := by
  obtain ⟨W, hW, hG, hR, hb, -⟩ := arr2 w 23 23 (U8 lo) (U8 hi)
  have HW := hide hW
  clear hW
  by_cases h4 : 0 ≤ e ∧ e ≤ l ∧ l ≤ 4096
  · rw [liB, if_pos h4]
    obtain ⟨k, hk⟩ : ∃ k : Nat, (l - e) = (k : Int) := ⟨(l - e).toNat, by omega⟩
    rw [hk, Int.toNat_natCast]
    have hwr : IntKind.i64.wrap (l - e) = (k : Int) := by rw [IntKind.wrap_i64]; omega
    have hit := leads_any hi k lo W hv ha (hL.later hb) (by omega)
    unfold hV at hit ⊢
    generalize decide (itZ k hi = lo) = q at hit ⊢
    have hza := hz_of ha.len
    have hzv := hz_of hv.len
    have d1 : decide (e < 0) = false := decide_eq_false (by omega)
    have d2 : decide (l < e) = false := decide_eq_false (by omega)
    have d3 : decide (4096 < l) = false := decide_eq_false (by omega)
    clear hL h4 hk
    go_enter Tryd.func15, Tryd.ntmps15
    go_wp2_with (first
      | (rw [← unhide HW]; refine wpList_load_row rfl 23 (.tmp 7) rfl (w.heap.size + 1) rfl 23 _ (0, 0) _ hR Tryd.underlying23 rfl hzv ?_)
      | refine wpList_load_row rfl 23 (.tmp 5) rfl w.heap.size rfl 23 _ (0, 0) _ hG Tryd.underlying23 rfl hza ?_
      | (go_at_call 23; refine hit.mono ?_; rintro e w1 ⟨rfl, hb1⟩; replace hb := bnext hb hb.size hb1; clear hb1))
    go_ret
    exact ⟨rfl, hb⟩
  · rw [liB, if_neg h4]
    unfold hV
    cases d1 : decide (e < 0)
    · cases d2 : decide (l < e)
      · have d3 : decide (4096 < l) = true := by simp at d1 d2 ⊢; omega
        go_enter Tryd.func15, Tryd.ntmps15
        go_wp2
        rw [← unhide HW]
        go_ret
        exact ⟨rfl, hb⟩
      · go_enter Tryd.func15, Tryd.ntmps15
        go_wp2
        rw [← unhide HW]
        go_ret
        exact ⟨rfl, hb⟩
    · go_enter Tryd.func15, Tryd.ntmps15
      go_wp2
      rw [← unhide HW]
      go_ret
      exact ⟨rfl, hb⟩
end Go.Proofs.YtmaammjfbheciabDoor
