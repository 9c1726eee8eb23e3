import Derived.Test.YtdcaojiiaocnaaaGreatDoorQGamZ
import Derived.Test.YtdcaojiiaocnaaaGreatDoorQGbfZ
import Derived.Test.YtdcaojiiaocnaaaGreatDoorQShP25
import Derived.Lib.SmallJoins
import Derived.Test.YtdcaojiiaocnaaaGreatDoorRows
import Derived.SizedLaws
import Derived.LaidHandle
import Derived.MakeChecks
import Derived.Shelf.Vars
import Derived.Lay
set_option linter.unusedSimpArgs false
set_option linter.unusedVariables false
namespace Go.Proofs.YtdcaojiiaocnaaaGreatDoor
open Go.RowKit

/-! What the law's calls find; a slice of bytes that is written out. -/
def Pk25 (w : World) : Prop := ETy w ∧ MLn w ∧ P10 w
theorem cell_old25 {w w' : World} {g i : Nat} {v : Value} (h : w.cell? ⟨g, i, none⟩ = some v) (ho : Old w w') : w'.cell? ⟨g, i, none⟩ = some v := by
  have hl : g < w.heap.size := cell_lt h
  rw [← h]
  unfold World.cell?
  rw [ho.block g hl]
theorem pk_old {w w' : World} (h : Pk25 w) (ho : Old w w') : Pk25 w' := by
  obtain ⟨h1, ⟨m, h2⟩, h3⟩ := h
  exact ⟨cell_old25 h1 ho, ⟨m, cell_old25 h2 ho⟩, p10_old h3 ho⟩
theorem flat_u25 : ∀ l : List Int, ((l.map (Value.int .u8)).flatMap cellsL) = l.flatMap uC
  | [] => rfl
  | x :: l => by
    rw [List.map_cons, List.flatMap_cons, flat_u25 l]; rfl
theorem op_bsB {o : Oper} {a : Act} {w w0 : World} {k : Act → World → Prop} {Q : Exit → Act → World → Prop} {rows : List Row} {K : World → Prop} (ps : List Int) (hp0 : 0 < ps.length) (hp1 : ps.length ≤ 1000) (n : Nat) (hn : n = ps.length) (os : Array (Nat × Operand)) (ho : o.op = .buildSlice 28 n os) (hos : os.toList.map (fun p => (p.1, a.eval p.2)) = prts (ps.map (Value.int .u8)) 0) (hS : Hs17 w0 rows K w)
    (h : ∀ g w', Hs17 w0 ((g, 5, ps.flatMap uC) :: rows) K w' → k (a.put o.dst (.slice (some ⟨g, 0, none⟩) n n)) w') : o.wp Tryz.prog a w k Q := by
  subst hn
  obtain ⟨i, hi, hz, hs⟩ : ∃ i, Tryz.prog.info? 5 = some i ∧ i.zero = some (.int .u8 0) ∧ i.size = 1 := by
    have hq := Tryz.infoBy
    cases hi : Tryz.prog.info? 5 with
    | none => rw [hi] at hq; simp at hq
    | some i =>
      rw [hi] at hq
      simp only [Option.map_some, Option.some.injEq, Prod.mk.injEq] at hq
      exact ⟨i, rfl, hq.1, hq.2.1⟩
  have hr := run_bsG (P := Tryz.prog) w 28 5 i _ (ps.map (Value.int .u8)) 1 Tryz.underlying28 hi hs hz (fun v hv => by simp at hv; obtain ⟨s, -, rfl⟩ := hv; rfl) (by simp; omega) (by simp; omega)
  rw [flat_u25, List.length_map] at hr
  have hr' : (Instr.buildSlice 28 ps.length (os.map fun p => (p.1, a.eval p.2))).run Tryz.prog w = .ok (.slice (some ⟨w.heap.size, 0, none⟩) ps.length ps.length) (w.alloc (.cells (ps.flatMap uC).toArray 5)) := by
    have e : (os.map fun p => (p.1, a.eval p.2)) = (prts (ps.map (Value.int .u8)) 0).toArray := by
      apply Array.ext'; rw [Array.toList_map, hos]
    rw [e]; exact hr
  unfold Oper.wp
  simp [execOp, ho, hr', Result.andThen]
  exact h _ _ (hS.alloc 5 (ps.flatMap uC))
theorem wl_bsB {ops : Array Oper} {rest : List Oper} {o : Oper} {a : Act} {w w0 : World} {Q : Exit → Act → World → Prop} {rows : List Row} {K : World → Prop} (hw : Region.wanted o (yielded ops a.tmps) = true) (ps : List Int) (hp0 : 0 < ps.length) (hp1 : ps.length ≤ 1000) (n : Nat) (hn : n = ps.length) (os : Array (Nat × Operand)) (ho : o.op = .buildSlice 28 n os) (hos : os.toList.map (fun p => (p.1, a.eval p.2)) = prts (ps.map (Value.int .u8)) 0) (hS : Hs17 w0 rows K w)
    (h : ∀ g w', Hs17 w0 ((g, 5, ps.flatMap uC) :: rows) K w' → wpList Tryz.prog ops Q rest (a.put o.dst (.slice (some ⟨g, 0, none⟩) n n)) w') : wpList Tryz.prog ops Q (o :: rest) a w :=
  wl hw fun k hk => op_bsB ps hp0 hp1 n hn os ho hos hS (fun g w' h1 => hk _ _ (h g w' h1))
/-- a slice of bytes written out and turned to bytes -/
theorem wl_litB {ops : Array Oper} {rest : List Oper} {o1 o2 : Oper} {a : Act} {w : World} {Q : Exit → Act → World → Prop} (hw : Region.wanted o1 (yielded ops a.tmps) = true) (ps : List Int) (hp0 : 0 < ps.length) (hp1 : ps.length ≤ 1000) (n : Nat) (hn : n = ps.length) (os : Array (Nat × Operand)) (ho : o1.op = .buildSlice 28 n os) (hos : os.toList.map (fun p => (p.1, a.eval p.2)) = prts (ps.map (Value.int .u8)) 0)
    (hw2 : ∀ v, Region.wanted o2 (yielded ops (a.put o1.dst v).tmps) = true) (x : Operand) (ho2 : o2.op = .convert 28 28 x) (hx : ∀ v, (a.put o1.dst v).eval x = v)
    (h : ∀ g w', Below w.heap.size w w' → Su w' ⟨some ⟨g, 0, none⟩, n, n, ps⟩ → wpList Tryz.prog ops Q rest ((a.put o1.dst (.slice (some ⟨g, 0, none⟩) n n)).put o2.dst (.slice (some ⟨g, 0, none⟩) n n)) w') : wpList Tryz.prog ops Q (o1 :: o2 :: rest) a w := by
  subst hn
  obtain ⟨i, hi, hz, hs⟩ : ∃ i, Tryz.prog.info? 5 = some i ∧ i.zero = some (.int .u8 0) ∧ i.size = 1 := by
    have hq := Tryz.infoBy
    cases hi : Tryz.prog.info? 5 with
    | none => rw [hi] at hq; simp at hq
    | some i =>
      rw [hi] at hq
      simp only [Option.map_some, Option.some.injEq, Prod.mk.injEq] at hq
      exact ⟨i, rfl, hq.1, hq.2.1⟩
  have hr := run_bsG (P := Tryz.prog) w 28 5 i _ (ps.map (Value.int .u8)) 1 Tryz.underlying28 hi hs hz (fun v hv => by simp at hv; obtain ⟨s, -, rfl⟩ := hv; rfl) (by simp; omega) (by simp; omega)
  rw [flat_u25, List.length_map] at hr
  have hr' : (Instr.buildSlice 28 ps.length (os.map fun p => (p.1, a.eval p.2))).run Tryz.prog w = .ok (.slice (some ⟨w.heap.size, 0, none⟩) ps.length ps.length) (w.alloc (.cells (ps.flatMap uC).toArray 5)) := by
    have e : (os.map fun p => (p.1, a.eval p.2)) = (prts (ps.map (Value.int .u8)) 0).toArray := by
      apply Array.ext'; rw [Array.toList_map, hos]
    rw [e]; exact hr
  refine wl hw fun k hk => ?_
  unfold Oper.wp
  simp [execOp, ho, hr', Result.andThen]
  refine hk _ _ ?_
  refine wl (hw2 _) fun k2 hk2 => ?_
  have hc := Go.Joins.run_convert_bytes_const_at (P := Tryz.prog) w 28 5 (ps.flatMap uC).toArray ps.length ps.length w.heap.size rfl Tryz.underlying28 Tryz.underlying5
  unfold Oper.wp
  simp [execOp, ho2, hx, hc, Result.andThen]
  refine hk2 _ _ (h _ _ ((Below.refl _ _).alloc (Nat.le_refl _) _) ⟨rfl, Nat.le_refl _, by show ps.length ≤ maxLen; unfold maxLen; omega, (fun h => by cases h), fun _ => ⟨w.heap.size, 0, rfl, by simp, fun i x hi j v hv => ?_⟩⟩)
  have hc := flat_at (f := uC) (sz := 1) (fun x _ => uC_len x) hi j v hv
  rw [Nat.zero_add, World.cell?_alloc_mark]
  simpa using hc
theorem arr_su25 {w : World} {g : Nat} {l : List Int} (hA : Arr w g 5 (l.flatMap uC)) (hm : l.length ≤ maxLen) : Su w ⟨some ⟨g, 0, none⟩, l.length, l.length, l⟩ := by
  refine ⟨rfl, Nat.le_refl _, hm, (fun h => by cases h), fun _ => ⟨g, 0, rfl, hA.lt, fun i x hi j v hv => ?_⟩⟩
  have hc := flat_at (f := uC) (sz := 1) (fun x _ => uC_len x) hi j v hv
  rw [Nat.zero_add, hA.cell]
  exact hc
/-- the line that lives reads -/
def ridB : List Int := [114, 105, 100, 101, 32, 49, 32, 55, 32, 50]
theorem rid_parse : parseL ridB = (⟨2, 1, 2, 7, 0, []⟩, 0, 0) := by kernel_rfl
theorem rid_format : formatL ⟨2, 1, 2, 7, 0, []⟩ = some ridB := by kernel_rfl
theorem rid_isB : IsB ridB := by unfold ridB; intro c hc; simp at hc; omega
theorem ok_rid (b : List Int) : OkO ⟨2, 1, 2, 7, 0, b⟩ := ⟨(by constructor <;> (show _ ≤ _) <;> first | (show (-9223372036854775808 : Int) ≤ 1; decide) | (show (1 : Int) ≤ 9223372036854775807; decide) : I64 1), (by constructor <;> (show _ ≤ _) <;> first | (show (-9223372036854775808 : Int) ≤ 2; decide) | (show (2 : Int) ≤ 9223372036854775807; decide) : I64 2), (by constructor <;> (show _ ≤ _) <;> first | (show (-9223372036854775808 : Int) ≤ 7; decide) | (show (7 : Int) ≤ 9223372036854775807; decide) : I64 7), (by constructor <;> (show _ ≤ _) <;> first | (show (-9223372036854775808 : Int) ≤ 0; decide) | (show (0 : Int) ≤ 9223372036854775807; decide) : I64 0)⟩
theorem b_ride : Tryz.prog.built 30 [(0, .int .i64 2), (1, .int .i64 1), (3, .int .i64 7), (2, .int .i64 2)] = some (opC 2 1 2 7 0 (.slice none 0 0)).toArray := by kernel_rfl
end Go.Proofs.YtdcaojiiaocnaaaGreatDoor

set_option linter.unusedSimpArgs false
set_option linter.unusedVariables false
namespace Go.Proofs.YtdcaojiiaocnaaaGreatDoor
open Go.ChangeShapes Go.WideShapes Go.ChangeAt Go.WideMaps Go.WideElems Go.RowKit

/-! What is laid, and the shape of the library's variables: what the law's calls find. -/
theorem and_shaped25 {H : Type} {enc : TypeId × Value → H} {a : Assume} {C : Checked} {os : Os} {f : FuncId} {fn : Func} {s : ChangeSpec} {conds : List PathCond} {apart fresh handsOn again : Bool} {X : World → Array Value → Prop}
    (hX : ∀ (w w' : World) (args : Array Value), w.heap = w'.heap → X w args → X w' args)
    (own : ownKnob C.prog.godebug = none) (started : os.Started) (noInit : C.prog.inits.idxOf? f = none) (hfn : C.prog.funcs[f]? = some fn)
    (witness : ∃ (w : World) (tape : Tape) (i : Input), w.os = os ∧ (w.forCall tape i).Shaped C.prog ∧ i.vars = [] ∧ Input.okWide C.prog (w.forCall tape i) .any w.heap.size f i ∧
      ((s.pre enc C.prog fn conds apart (w.forCall tape i).memory i.args ∧ X (w.forCall tape i).memory i.args) ∧ sizedMet enc C.prog fn (OpenSpec.ofChange s) apart (w.forCall tape i).memory i.args) ∧ a.holds C.prog (lone (Frame.enter C.prog f i.args .normal) [] (w.forCall tape i)))
    (contract : ∀ (W : World) (base : Nat) (args : Array Value) (ds gs : List (DataW H)) (before : List MemPlace),
      (∀ (j : Nat) t v, fn.params[j]? = some t → args[j]? = some v → Value.okWide C.prog W .any base t v) →
      DataW.Whole enc C.prog fn.params.toList s.vars apart W args.toList ds gs before →
      conds.all (PathCond.test C.prog ⟨fn.params.toList, ds, s.plain.varTypes C.prog, gs⟩) = true →
      (DataW.weightsEach C.prog (fn.params.toList ++ s.plain.varTypes C.prog) (ds ++ gs)).all (· ≤ reachBytes) = true → X W args → W.ShapedOpen C.prog →
      a.holds C.prog (lone (Frame.enter C.prog f args .normal) [] W) →
      Calls C.prog f args W fun e W' => ∃ v, e = .returned v ∧ s.post enc C.prog fn apart fresh handsOn again W args v W') :
    ReturnsInHanded a C os f .any (fun w args => (s.pre enc C.prog fn conds apart w args ∧ X w args) ∧ sizedMet enc C.prog fn (OpenSpec.ofChange s) apart w args) (s.post enc C.prog fn apart fresh handsOn again) := by
  refine returnsInHanded_of_calls own started noInit witness ?_
  rintro w tape i - hsh - ⟨-, -, -, fn', hfn', -, -, -, -, hval⟩ ⟨⟨⟨ds, gs, before, hw, hc⟩, hx⟩, hz⟩ hholds
  obtain rfl : fn' = fn := Option.some.inj (hfn'.symm.trans hfn)
  refine (contract (w.forCall tape i) w.heap.size i.args ds gs before hval (DataW.Whole.of_heap (w' := w.forCall tape i) (by rfl) hw) hc (hz.weights hw) (hX _ _ _ (by rfl) hx) hsh hholds).mono ?_
  rintro e W' ⟨v, rfl, hp⟩
  exact ChangeSpec.post_blind hp
abbrev LD25 : List (String × DataW Unit) := [("math/bits.deBruijn32tab", Rows.laid_math_bits_deBruijn32tab), ("math/bits.deBruijn64tab", Rows.laid_math_bits_deBruijn64tab), ("internal/strconv.uint64pow10", Rows.laid_internal_strconv_uint64pow10), ("unicode/utf8.acceptRanges", Rows.laid_unicode_utf8_acceptRanges), ("errors.errorType", Rows.laid_errors_errorType), ("unicode/utf8.first", Rows.laid_unicode_utf8_first)]
theorem Tryz.et25 : Tryz.prog.globalNamed "errors.errorType" = some 0 := by kernel_rfl
theorem Tryz.rt25 : (Tryz.prog.cutTypes.find? (·.1 == "internal/reflectlite.rtype")).map (·.2) = some 119 := by kernel_rfl
theorem Tryz.one25 : ((List.range Tryz.prog.types.size).filter fun t => Tryz.prog.rowNamed t [101, 114, 114, 111, 114]) = [54] := by kernel_rfl
theorem mln_of {W : World} (h : W.ShapedOpen Tryz.prog) : MLn W :=
  cell_of_shapedOpen_int (zero := #[.int .i64 0]) (t := 3) h (of_decide_eq_true (by kernel_rfl)) (by kernel_rfl) rfl (by kernel_rfl) (by kernel_rfl) Tryz.underlying3
theorem ety_of {W : World} (h : handlesMet Tryz.prog [("errors.errorType", Rows.laid_errors_errorType)] W) : ETy W := by
  obtain ⟨name, u, ty, e1, e2, e3, e4, e5⟩ := h _ (List.mem_singleton.2 rfl)
  have en : name = [101, 114, 114, 111, 114] := (Option.some.inj e1).symm
  subst en
  obtain rfl := Option.some.inj (Tryz.rt25.symm.trans e2)
  have hm : ty ∈ (List.range Tryz.prog.types.size).filter fun t => Tryz.prog.rowNamed t [101, 114, 114, 111, 114] := List.mem_filter.2 ⟨List.mem_range.2 e3, e4⟩
  rw [Tryz.one25] at hm
  obtain rfl := List.mem_singleton.1 hm
  have hh : typeHandle Tryz.prog 54 = .pointer (some ⟨7, 54, none⟩) := by kernel_rfl
  rw [hh] at e5
  unfold ETy
  simpa using World.var?_cell Tryz.et25 e5 0
theorem pk_of {W : World} (h : laidMetH Tryz.prog LD25 W) (hs : W.ShapedOpen Tryz.prog) : Pk25 W := by
  have h' : laidMet Tryz.prog [("math/bits.deBruijn32tab", Rows.laid_math_bits_deBruijn32tab), ("math/bits.deBruijn64tab", Rows.laid_math_bits_deBruijn64tab), ("internal/strconv.uint64pow10", Rows.laid_internal_strconv_uint64pow10), ("unicode/utf8.acceptRanges", Rows.laid_unicode_utf8_acceptRanges), ("unicode/utf8.first", Rows.laid_unicode_utf8_first)] W ∧ handlesMet Tryz.prog [("errors.errorType", Rows.laid_errors_errorType)] W := h
  refine ⟨ety_of h'.2, mln_of hs, ?_⟩
  obtain ⟨ps, ⟨g0, t0, cs0, f0, p0, q0, hg0, ht0, hv0, hd0, ⟨g1, t1, cs1, f1, p1, q1, hg1, ht1, hv1, hd1, ⟨g2, t2, cs2, f2, p2, q2, hg2, ht2, hv2, hd2, -, -⟩, -⟩, -⟩, -, -⟩ := h'.1
  exact p10_laid rfl hg2 ht2 hv2 hd2 rfl

/-! A world that meets what is laid: a pinned table is laid by the function, for the door's run is too great for it. -/
abbrev NM25 : List String := LD25.map (·.1)
abbrev PL25 : List (String × DataW Unit) := LD25.filter fun x => x.2.handleName?.isNone
def grt25 (G : List String) (L : List (String × DataW Unit)) : List (String × DataW Unit) := L.filter fun x => G.contains x.1
def witP (P : Program) (L : List (String × DataW Unit)) (w0 : World) : World := w0.layVars P L
theorem heap_call25 (w : World) (args : Array Value) : (w.forCall (fun _ _ => 0) ⟨#[], args, []⟩).memory.heap = w.heap := rfl
theorem wit_heap (os : Os) (args : Array Value) : ((witP Tryz.prog (grt25 NM25 PL25) (World.doorLaid Tryz.prog 4000 os)).forCall (fun _ _ => 0) ⟨#[], args, []⟩).memory.heap = ((World.doorLaid Tryz.prog 4000 os).layVars Tryz.prog (grt25 NM25 PL25)).heap := (heap_call25 _ _).trans (by unfold witP; rfl)
theorem e2_25 : (PL25.filter fun x => !NM25.contains x.1) = [] := by kernel_rfl
theorem door_fits (os : Os) : (World.doorLaid Tryz.prog 4000 os).layFits Tryz.prog (grt25 NM25 PL25) [] = true := by kernel_rfl
theorem door_ifaces (os : Os) (args : Array Value) : (World.doorLaid Tryz.prog 4000 os).layIfaces Tryz.prog (grt25 NM25 PL25) ((witP Tryz.prog (grt25 NM25 PL25) (World.doorLaid Tryz.prog 4000 os)).forCall (fun _ _ => 0) ⟨#[], args, []⟩).memory = true := by kernel_rfl
theorem lay_gen25 {P : Program} {w0 w' : World} (L : List (String × DataW Unit)) (G : List String) (hh : w'.heap = (w0.layVars P (grt25 G L)).heap) (hf : w0.layFits P (grt25 G L) [] = true) (hi : w0.layIfaces P (grt25 G L) w' = true) (he : (L.filter fun x => !G.contains x.1) = []) : laidMet P L w' :=
  laidMet_layVars G [] hh hf hi (by rw [he]; exact LaidIn.none)
theorem door_hd (os : Os) (args : Array Value) : laidMet Tryz.prog PL25 ((witP Tryz.prog (grt25 NM25 PL25) (World.doorLaid Tryz.prog 4000 os)).forCall (fun _ _ => 0) ⟨#[], args, []⟩).memory := by
  have h1 := wit_heap os args
  have h2 := door_fits os
  have h3 := door_ifaces os args
  have h4 := e2_25
  generalize ((witP Tryz.prog (grt25 NM25 PL25) (World.doorLaid Tryz.prog 4000 os)).forCall (fun _ _ => 0) ⟨#[], args, []⟩).memory = w' at h1 h3 ⊢
  generalize World.doorLaid Tryz.prog 4000 os = w0 at h1 h2 h3
  generalize PL25 = L at h1 h2 h3 h4 ⊢
  generalize NM25 = G at h1 h2 h3 h4
  exact lay_gen25 L G h1 h2 h3 h4
theorem door_met25 (os : Os) (args : Array Value) : laidMetH Tryz.prog LD25 ((witP Tryz.prog (grt25 NM25 PL25) (World.doorLaid Tryz.prog 4000 os)).forCall (fun _ _ => 0) ⟨#[], args, []⟩).memory :=
  laidMetH_of_parts3 (fuel := 8) (door_hd os args) (by kernel_rfl) (by kernel_rfl)
end Go.Proofs.YtdcaojiiaocnaaaGreatDoor
