import Derived.Test.YteijlppmgkdieaaDoorQNdW
import Derived.Test.YteijlppmgkdieaaDoorQLeW
import Derived.Test.YteijlppmgkdieaaDoorQHlM
import Derived.Test.YteijlppmgkdieaaDoorQCmW
import Derived.BigQuiet
set_option linter.unusedVariables false
namespace Go.Proofs.YteijlppmgkdieaaDoor
open Go.RowKit

theorem results_t_c_t {P : Program} {fn : Func} {q u u' : Tmp} {ty : TypeId} (h : fn.results = #[.tmp u, .cell q ty, .tmp u']) (tmps : Array Value) (w : World) (g : Nat) (t : TypeId) (cs : Array Value) (fr : Nat × Nat) (d : TypeDesc)
    (hp : tmps.getD q undef = .pointer (some ⟨g, 0, none⟩)) (v : Value) (hv : tmps.getD u undef = v) (v' : Value) (hv' : tmps.getD u' undef = v') (hg : w.heap[g]? = some (.cells cs t fr))
    (hu : P.underlying ty = some d) (hd : (match d with | .struct _ | .array _ _ => true | _ => false) = true) (hi : (P.info? ty).map (·.size) = some cs.size) :
    (results fn tmps).run P w = .ok (.tuple #[v, .agg cs, v']) w := by
  have e : (results fn tmps).run P w = ((asAddr (tmps.getD q undef)).run P w).andThen fun a w₁ => ((loadVar ty a).run P w₁).andThen fun x w₂ => .ok (.tuple #[tmps.getD u undef, x, tmps.getD u' undef]) w₂ := by
    simp only [results, h]
    simp [Sem.run_bind, Result.andThen]
  rw [e, hp, hv, hv']
  simp [asAddr, run_loadVar_row w g t ty cs fr d hg hu hd hi]
theorem results_c_c_t {P : Program} {fn : Func} {p q u : Tmp} {ty : TypeId} (h : fn.results = #[.cell p ty, .cell q ty, .tmp u]) (tmps : Array Value) (w : World) (g g' : Nat) (t t' : TypeId) (cs cs' : Array Value) (fr fr' : Nat × Nat) (d : TypeDesc)
    (hp : tmps.getD p undef = .pointer (some ⟨g, 0, none⟩)) (hq : tmps.getD q undef = .pointer (some ⟨g', 0, none⟩)) (v : Value) (hv : tmps.getD u undef = v) (hg : w.heap[g]? = some (.cells cs t fr)) (hg' : w.heap[g']? = some (.cells cs' t' fr'))
    (hu : P.underlying ty = some d) (hd : (match d with | .struct _ | .array _ _ => true | _ => false) = true) (hi : (P.info? ty).map (·.size) = some cs.size) (hi' : (P.info? ty).map (·.size) = some cs'.size) :
    (results fn tmps).run P w = .ok (.tuple #[.agg cs, .agg cs', v]) w := by
  have e : (results fn tmps).run P w = ((asAddr (tmps.getD p undef)).run P w).andThen fun a w₁ => ((loadVar ty a).run P w₁).andThen fun x w₂ => ((asAddr (tmps.getD q undef)).run P w₂).andThen fun a' w₃ => ((loadVar ty a').run P w₃).andThen fun x' w₄ => .ok (.tuple #[x, x', tmps.getD u undef]) w₄ := by
    simp only [results, h]
    simp [Sem.run_bind, Result.andThen]
  rw [e, hp, hq, hv]
  simp [asAddr, run_loadVar_row w g t ty cs fr d hg hu hd hi, run_loadVar_row w g' t' ty cs' fr' d hg' hu hd hi']
/-- a store into a block that is not among the rows -/
theorem Hold.put {rows : List (Nat × List Int)} {w : World} (h : Hold rows w) {g : Nat} (hg : ∀ p ∈ rows, p.1 ≠ g) (c : Array Value) : Hold rows (w.setRow g c) := fun p hp => (h p hp).setRow_ne c (hg p hp)
theorem Hold.setIt {rows : List (Nat × List Int)} {w : World} {g : Nat} {l0 : List Int} (h : Hold rows w) (hA : Arr w g 28 (U8 l0)) (hg : ∀ p ∈ rows, p.1 ≠ g) (l : List Int) : Hold ((g, l) :: rows) (w.setRow g (U8 l).toArray) := by
  intro p hp
  rcases List.mem_cons.1 hp with rfl | hp
  · exact hA.setRow (U8 l)
  · exact (h p hp).setRow_ne _ (hg p hp)
theorem Hold.mono {rows rows' : List (Nat × List Int)} {w : World} (h : Hold rows w) (hs : ∀ p ∈ rows', p ∈ rows) : Hold rows' w := fun p hp => h p (hs p hp)
theorem Hold.at_ {rows : List (Nat × List Int)} {w : World} (h : Hold rows w) {g : Nat} {l : List Int} (hm : (g, l) ∈ rows) : Arr w g 28 (U8 l) := h (g, l) hm
/-- a whole hash stored, at a list of operations -/
theorem wpList_store_at {ops : Array Oper} {rest : List Oper} {o : Oper} {a : Act} {w : World} {Q : Exit → Act → World → Prop} {rows : List (Nat × List Int)} (hH : Hold rows w) (hgd : o.guard = none) (x y : Operand) (ho : o.op = .store 28 x y)
    (g : Nat) (l0 l : List Int) (hm : (g, l0) ∈ rows) (hl0 : l0.length = 32) (hl : l.length = 32) (hx : a.eval x = .pointer (some ⟨g, 0, none⟩)) (hy : a.eval y = hV l) (rows' : List (Nat × List Int)) (hr : ∀ p ∈ rows', p ∈ rows ∧ p.1 ≠ g)
    (hK : ∀ w2, Hold ((g, l) :: rows') w2 → w2 = w.setRow g (U8 l).toArray → wpList Tryd.prog ops Q rest (a.put o.dst undef) w2) : wpList Tryd.prog ops Q (o :: rest) a w :=
  wpList_store_row hgd 28 x y ho g _ hx hy 28 _ (hH (g, l0) hm) (hz_of hl) (ho_of hl0 hl) (all_one (U8_one _)) (hK _ ((hH.mono (fun p hp => (hr p hp).1)).setIt (hH (g, l0) hm) (fun p hp => (hr p hp).2) l) rfl)
/-- a whole hash stored into the block just made -/
theorem wpList_store_al {ops : Array Oper} {rest : List Oper} {o : Oper} {a : Act} {w w' : World} {Q : Exit → Act → World → Prop} {rows : List (Nat × List Int)} (hgd : o.guard = none) (x y : Operand) (ho : o.op = .store 28 x y)
    (hH : Hold rows w) (l : List Int) (hl : l.length = 32) (z : Array Value) (hW : w' = w.alloc (.cells z 28)) (hz : z.size = 32) (hx : a.eval x = .pointer (some ⟨w.heap.size, 0, none⟩)) (hy : a.eval y = hV l)
    (hK : ∀ w2, Hold ((w.heap.size, l) :: rows) w2 → Below w.heap.size w w2 → wpList Tryd.prog ops Q rest (a.put o.dst undef) w2) : wpList Tryd.prog ops Q (o :: rest) a w' := by
  subst hW
  exact wpList_store_hs hH hgd x y ho l hl z hz hx hy hK
theorem zero32 : (List.replicate 32 (0 : Int)).length = 32 := by simp
theorem hV_zero : hV (List.replicate 32 0) = .agg (U8 (List.replicate 32 0)).toArray := rfl
end Go.Proofs.YteijlppmgkdieaaDoor

set_option linter.unusedVariables false
namespace Go.Proofs.YteijlppmgkdieaaDoor
open Go.RowKit

/-- a place of a tree that may be -/
def inT (i n : Int) : Bool := decide (n ≤ 65536) && decide (0 ≤ i) && decide (i < n)
/-- a beginning of a tree that may be -/
def isBg (m n : Int) : Bool := decide (n ≤ 65536) && decide (0 ≤ m) && decide (m ≤ n)
theorem inT_iff {i n : Int} : inT i n = true ↔ n ≤ 65536 ∧ 0 ≤ i ∧ i < n := by simp [inT, and_assoc]
theorem isBg_iff {i n : Int} : isBg i n = true ↔ n ≤ 65536 ∧ 0 ≤ i ∧ i ≤ n := by simp [isBg, and_assoc]
theorem inT_no {i n : Int} (h : ¬ (n ≤ 65536 ∧ 0 ≤ i ∧ i < n)) : inT i n = false := by
  cases hb : inT i n
  · rfl
  · exact absurd (inT_iff.1 hb) h
theorem isBg_no {i n : Int} (h : ¬ (n ≤ 65536 ∧ 0 ≤ i ∧ i ≤ n)) : isBg i n = false := by
  cases hb : isBg i n
  · rfl
  · exact absurd (isBg_iff.1 hb) h

set_option maxHeartbeats 2000000 in
set_option maxRecDepth 100000 in
theorem inTree_any (i n : Int) (w : World) : Calls Tryd.prog 33 #[.int .i64 i, .int .i64 n] w fun e w' => e = .returned (.bool (inT i n)) ∧ w' = w := by
  unfold inT
  cases h1 : decide (n ≤ 65536) <;> cases h2 : decide (0 ≤ i) <;> cases h3 : decide (i < n) <;>
  (go_enter Tryd.func33, Tryd.ntmps33
   go_wp2
   go_ret
   exact ⟨rfl, rfl⟩)
set_option maxHeartbeats 2000000 in
set_option maxRecDepth 100000 in
theorem isBeginning_any (i n : Int) (w : World) : Calls Tryd.prog 35 #[.int .i64 i, .int .i64 n] w fun e w' => e = .returned (.bool (isBg i n)) ∧ w' = w := by
  unfold isBg
  cases h1 : decide (n ≤ 65536) <;> cases h2 : decide (0 ≤ i) <;> cases h3 : decide (i ≤ n) <;>
  (go_enter Tryd.func35, Tryd.ntmps35
   go_wp2
   go_ret
   exact ⟨rfl, rfl⟩)

set_option maxHeartbeats 2000000 in
set_option maxRecDepth 100000 in
theorem fork_any (s : Hl) (w : World) (hs : s.Ok w) (h2 : 2 ≤ s.n) (hn : s.n ≤ 65536) :
    Calls Tryd.prog 62 #[s.v] w fun e w' => e = .returned (.tuple #[(s.cut 0 (halfN s.n) (halfN s.n)).v, (s.cut (halfN s.n) s.n s.n).v]) ∧ Below w.heap.size w w' := by
  obtain ⟨b, off, ha, hb, -⟩ := hs.lies (by omega)
  have hh := halfN_spec s.n h2
  have hL := leftSize_any s.n w h2 hn
  have hle := hs.le
  have hmx := hs.mx
  unfold maxLen at hmx
  obtain ⟨a, n, c, ls⟩ := s
  simp only [Hl.cut, Hl.v] at *
  subst ha
  simp only [Option.map] at *
  generalize halfN n = k at *
  clear hs
  have g1 : (k : Int) ≤ (c : Int) := by omega
  have g2 : (n : Int) ≤ (c : Int) := by omega
  have g3 : (k : Int) ≤ (n : Int) := by omega
  go_enter Tryd.func62, Tryd.ntmps62
  go_wp2_with (refine hL.mono ?_; rintro e w1 ⟨rfl, hw⟩; obtain rfl := hw.symm)
  go_quiet (fail)
  go_wp2
  refine bodyPost_ret (results_tmp2 rfl _ _ _) rfl ?_
  refine ⟨?_, below_drewN (Below.refl _ _) _⟩
  simp

/-- what takeLast answers of no hashes -/
theorem takeLast_no (s : Hl) (w : World) (h0 : s.n = 0) :
    Calls Tryd.prog 56 #[s.v] w fun e w' => e = .returned (.tuple #[.slice none 0 0, hV (List.replicate 32 0), .bool false]) ∧ Below w.heap.size w w' := by
  obtain ⟨W, hW, hR, hb, -⟩ := arr1 w 28 (U8 (List.replicate 32 0))
  have HW := hide hW
  clear hW
  obtain ⟨a, n, c, ls⟩ := s
  simp only [Hl.v] at *
  subst h0
  have hzz := hz_of (R := List.replicate 32 0) (by simp)
  unfold hV
  go_enter Tryd.func56, Tryd.ntmps56
  go_wp2_with (first
    | (rw [Z32, ← unhide HW]; refine wpList_build_to rfl 28 _ rfl (U8 (List.replicate 32 0)).toArray (by kernel_rfl) ?_; generalize hC : (U8 (List.replicate 32 0)).toArray = C at hzz ⊢)
    | refine wpList_store_row rfl 28 (.tmp 3) (.tmp 10) rfl w.heap.size _ rfl rfl 28 _ hR hzz (by rw [← hC]) (by rw [← hC]; exact all_one (U8_one _)) ?_)
  refine bodyPost_ret (results_t_c_t rfl _ _ w.heap.size 28 _ (0, 0) _ rfl (.slice none 0 0) rfl (.bool false) rfl (setRow_heap _ _ _ _ _ _ hR) Tryd.underlying28 rfl hzz) rfl ?_
  exact ⟨by rw [← hC], below_setRow hb (Nat.le_refl _) _⟩
end Go.Proofs.YteijlppmgkdieaaDoor

set_option linter.unusedVariables false
namespace Go.Proofs.YteijlppmgkdieaaDoor
open Go.RowKit

theorem rangeAt_setRow {w : World} {b i : Nat} {l : List Value} (h : w.rangeAt b i l) {g : Nat} (hg : b ≠ g) (c : Array Value) : (w.setRow g c).rangeAt b i l := fun j v hv => by
  rw [← h j v hv]
  exact World.cell?_of_block (w := w) (w' := w.setRow g c) (a := ⟨b, _, none⟩) (setRow_other w g b c hg)
theorem rangeAt_later {w w' : World} {b i : Nat} {l : List Value} (h : w.rangeAt b i l) (hb : Below w.heap.size w w') (hlt : b < w.heap.size) : w'.rangeAt b i l := fun j v hv => by
  rw [← h j v hv]
  exact World.cell?_of_block (w := w) (w' := w') (a := ⟨b, _, none⟩) (hb.block b hlt)

set_option maxHeartbeats 4000000 in
set_option maxRecDepth 100000 in
/-- the last hash, and those ahead of it -/
theorem takeLast_ok (s : Hl) (x : List Int) (ps : List (List Int)) (w : World) (hs : s.Ok w) (hl : s.ls = ps ++ [x]) :
    Calls Tryd.prog 56 #[s.v] w fun e w' => e = .returned (.tuple #[(s.cut 0 (s.n - 1) (s.n - 1)).v, hV x, .bool true]) ∧ Below w.heap.size w w' := by
  obtain ⟨W, hW, hR, hb, -⟩ := arr1 w 28 (U8 (List.replicate 32 0))
  have HW := hide hW
  clear hW
  obtain ⟨m, hm⟩ : ∃ m, m = ps.length := ⟨_, rfl⟩
  have hn : s.n = m + 1 := by rw [← hs.len, hl]; simp [hm]
  obtain ⟨b, off, ha, hlt, hX, hx⟩ := hs.at_ (i := m) (l := x) (by rw [hl, hm]; simp)
  have hle := hs.le
  have hmx := hs.mx
  unfold maxLen at hmx
  have hbW : b ≠ w.heap.size := by omega
  replace hX := rangeAt_later hX hb hlt
  obtain ⟨a, n, c, ls⟩ := s
  simp only [Hl.cut, Hl.v] at *
  subst ha
  simp only [Option.map] at *
  clear hs hl hm hlt
  have e1 : n - 1 = m := by omega
  rw [e1]
  have g1 : (n : Int) ≠ 0 := by omega
  have g0 : decide ((n : Int) = 0) = false := decide_eq_false g1
  have g2 : IntKind.i64.wrap ((n : Int) - 1) = (m : Int) := by rw [IntKind.wrap_i64]; omega
  have g3 : (m : Int) ≤ (c : Int) := by omega
  have g4 : (m : Int) < (n : Int) := by omega
  have HN := hide hn
  clear hn e1 hle hmx
  have hzx := hz_of hx.len
  have hzo := ho_of (A := List.replicate 32 0) (by simp) hx.len
  go_enter Tryd.func56, Tryd.ntmps56
  go_wp2_with fail
  rw [Z32, ← unhide HW]
  refine wp_region_noPanic ?_
  have hR1 := hR.later (drew_below _)
  have hb1 := bnext hb hb.size (drew_below _)
  have hX1 : W.drew.rangeAt b (off + m * 32) (U8 x) := hX
  clear hR hb hX
  refine wp_region_held_drew (S := fun w => w.rangeAt b (off + m * 32) (U8 x)) (by kernel_rfl) hX1 (fun hHeld => ?_)
  generalize World.drew _ = v1 at hHeld hR1 hb1 hX1 ⊢
  refine wpAnyH_take (i := 0) (oi := _) (v := .slice (some ⟨b, off, none⟩) (n : Nat) c) rfl (by kernel_rfl) (by kernel_rfl) (by kernel_rfl) (fun _ _ _ h => h) (Or.inl ⟨by rfl, fun w hSw => by go_simp⟩) hHeld ?_
  simp [Act.put]
  refine wpAnyH_take (i := 1) (oi := _) (v := .int .i64 (n : Int)) rfl (by kernel_rfl) (by kernel_rfl) (by kernel_rfl) (fun _ _ _ h => h) (Or.inl ⟨by rfl, fun w hSw => by go_simp⟩) hHeld ?_
  simp [Act.put]
  refine wpAnyH_take (i := 2) (oi := _) (v := .int .i64 (m : Int)) rfl (by kernel_rfl) (by kernel_rfl) (by kernel_rfl) (fun _ _ _ h => h) (Or.inl ⟨by rfl, fun w hSw => by go_simp⟩) hHeld ?_
  simp [Act.put]
  refine wpAnyH_take (i := 3) (oi := _) (v := .int .i64 (n : Int)) rfl (by kernel_rfl) (by kernel_rfl) (by kernel_rfl) (fun _ _ _ h => h) (Or.inl ⟨by rfl, fun w hSw => by go_simp⟩) hHeld ?_
  simp [Act.put]
  refine wpAnyH_take (i := 4) (oi := _) (v := .int .i64 (m : Int)) rfl (by kernel_rfl) (by kernel_rfl) (by kernel_rfl) (fun _ _ _ h => h) (Or.inl ⟨by rfl, fun w hSw => by go_simp⟩) hHeld ?_
  simp [Act.put]
  refine wpAnyH_take (i := 5) (oi := _) (v := .slice (some ⟨b, off, none⟩) m m) rfl (by kernel_rfl) (by kernel_rfl) (by kernel_rfl) (fun _ _ _ h => h) (Or.inl ⟨by rfl, fun w hSw => by go_simp⟩) hHeld ?_
  simp [Act.put]
  refine wpAnyH_take (i := 6) (oi := _) (v := .slice (some ⟨b, off, none⟩) (n : Nat) c) rfl (by kernel_rfl) (by kernel_rfl) (by kernel_rfl) (fun _ _ _ h => h) (Or.inl ⟨by rfl, fun w hSw => by go_simp⟩) hHeld ?_
  simp [Act.put]
  refine wpAnyH_take (i := 7) (oi := _) (v := .int .i64 (n : Int)) rfl (by kernel_rfl) (by kernel_rfl) (by kernel_rfl) (fun _ _ _ h => h) (Or.inl ⟨by rfl, fun w hSw => by go_simp⟩) hHeld ?_
  simp [Act.put]
  refine wpAnyH_take (i := 8) (oi := _) (v := .int .i64 (m : Int)) rfl (by kernel_rfl) (by kernel_rfl) (by kernel_rfl) (fun _ _ _ h => h) (Or.inl ⟨by rfl, fun w hSw => by go_simp⟩) hHeld ?_
  simp [Act.put]
  refine wpAnyH_take (i := 9) (oi := _) (v := .pointer (some ⟨b, off + m * 32, none⟩)) rfl (by kernel_rfl) (by kernel_rfl) (by kernel_rfl) (fun _ _ _ h => h) (Or.inl ⟨by rfl, fun w hSw => by go_simp⟩) hHeld ?_
  simp [Act.put]
  refine wpAnyH_take (i := 10) (oi := _) (v := hV x) rfl (by kernel_rfl) (by kernel_rfl) (by kernel_rfl) (fun _ _ _ h => h) (yieldsIf_load_mid (by rfl) _ _ rfl _ _ rfl (U8 x) _ (fun _ h => h) Tryd.underlying28 rfl (hz_of' hx.len)) hHeld ?_
  simp [Act.put]
  refine wpAnyH_take (i := 11) (oi := _) (v := .slice (some ⟨b, off, none⟩) m m) rfl (by kernel_rfl) (by kernel_rfl) (by kernel_rfl) (fun _ _ _ h => h) (Or.inl ⟨by rfl, fun w hSw => by go_simp⟩) hHeld ?_
  simp [Act.put]
  refine wpAnyH_ready (rs := [12]) (by kernel_rfl) (by simp) ?_
  refine AllReadyH.cons rfl (fun K hKK => ?_) AllReadyH.nil
  refine step_store_row rfl 28 (.tmp 3) (.tmp 21) rfl w.heap.size (U8 x).toArray rfl rfl 28 _ hR1 hzx hzo (all_one (U8_one _)) ?_
  simp only [Act.put]
  refine hKK.out _ _ (rangeAt_setRow hHeld (by omega) _) (fun hHeld => ?_)
  clear hKK K
  refine wpAnyH_take (i := 13) (oi := _) (v := .bool true) rfl (by kernel_rfl) (by kernel_rfl) (by kernel_rfl) (fun _ _ _ h => h) (Or.inl ⟨by rfl, fun w hSw => by go_simp⟩) hHeld ?_
  simp [Act.put]
  refine wpAnyH_done (by kernel_rfl) ?_ _
  unfold NoPanic
  go_wp2
  refine bodyPost_ret (results_t_c_t rfl _ _ w.heap.size 28 _ (0, 0) _ rfl (.slice (some ⟨b, off, none⟩) m m) rfl (.bool true) rfl (setRow_heap _ _ _ _ _ _ hR1) Tryd.underlying28 rfl hzx) rfl ?_
  exact ⟨by simp [hV], below_setRow hb1 (Nat.le_refl _) _⟩
end Go.Proofs.YteijlppmgkdieaaDoor
