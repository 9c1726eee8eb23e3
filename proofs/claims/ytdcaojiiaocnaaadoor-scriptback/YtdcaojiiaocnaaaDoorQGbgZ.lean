import Derived.Test.YtdcaojiiaocnaaaDoorQOpenG
import Derived.Test.YtdcaojiiaocnaaaDoorQSqM
import Derived.SizedLaws
import Derived.Deep.Slices
import Derived.Test.YtdcaojiiaocnaaaDoorQGalZ
import Derived.Lib.LaidTab
import Derived.Shelf.Strconv.Itoa4
import Derived.Test.YtdcaojiiaocnaaaDoorQGajZ
import Derived.Test.YtdcaojiiaocnaaaDoorQGbcZ
import Derived.Test.YtdcaojiiaocnaaaDoorRows
import Derived.LaidHandle
import Derived.MakeChecks
import Derived.Shelf.Vars
set_option linter.unusedSimpArgs false
set_option linter.unusedVariables false
namespace Go.Proofs.YtdcaojiiaocnaaaDoor
open Go.ChangeShapes Go.WideShapes Go.ChangeAt Go.WideMaps Go.WideElems Go.RowKit

/-! Arguments opened: certificates, entries, floors. -/
theorem drop_split (cs : List Value) (o n : Nat) : cs.drop o = (cs.drop o).take n ++ cs.drop (o + n) := by
  rw [← List.drop_drop, List.take_append_drop]
section
variable {H : Type} {enc : TypeId × Value → H} {P : Program} {w : World} {held : Bool} {m : Nat}
theorem o_int {t : TypeId} {c : List Value} {x : DataW H × List MemPlace} (hu : P.underlying t = some (.int .i64)) (h : DataW.trod enc P w 0 (fun _ => true) held m t c = some x) : ∃ z : Int, c = [.int .i64 z] ∧ -9223372036854775808 ≤ z ∧ z ≤ 9223372036854775807 := by
  obtain ⟨z, e, -, hw⟩ := DataW.trod_int hu h
  have hb := bounds_i64 hw
  exact ⟨z, e, by omega, by omega⟩
theorem o_bool {t : TypeId} {c : List Value} {x : DataW H × List MemPlace} (hu : P.underlying t = some .bool) (h : DataW.trod enc P w 0 (fun _ => true) held m t c = some x) : ∃ b : Bool, c = [.bool b] := by
  obtain ⟨b, e, -⟩ := DataW.trod_bool hu h
  exact ⟨b, e⟩
end
/-- a slice of structs as an argument -/
theorem open_sx {α : Type} [Inhabited α] {f : α → List Value} {sz : Nat} {ok : α → Prop} {T e : TypeId} {bytes : Nat} {H : Type} {enc : TypeId × Value → H} {w : World} {held : Bool} {m : Nat} (hu : Tryd.prog.underlying T = some (.slice e)) (kc : Tryd.prog.cellsOf e = sz) (kb : Tryd.prog.bytesOf e = bytes) (hsz : 0 < sz)
    (hel : ∀ (m : Nat) (cs : List Value) (x : DataW H × List MemPlace), DataW.trod enc Tryd.prog w 0 (fun _ => true) held m e cs = some x → ∃ y : α, cs = f y ∧ ok y) (hf : ∀ y, ok y → (f y).length = sz)
    {v : Value} {y : DataW H × List MemPlace} (h : DataW.trod enc Tryd.prog w 0 (fun _ => true) held m T [v] = some y) :
    ∃ s : Sx α, v = s.v ∧ s.Ok f sz w ∧ (∀ x ∈ s.xs, ok x) ∧ ((∀ x ∈ y.1.weights Tryd.prog T, x ≤ reachN) → s.n * bytes ≤ reachN) := by
  rcases Deep.open_slice hu h with ⟨hcs, _⟩ | ⟨a, len, cap, q, n, D, Pl, hcs, _, hl, hm, hq, hy, hx⟩
  · simp at hcs
    exact ⟨⟨none, 0, 0, []⟩, hcs, .nil w 0, (fun l hl => by cases hl), fun _ => by simp⟩
  · simp at hcs
    simp only [if_true] at hq
    subst hq
    rw [kc] at hx
    have hS : ∀ i, i < len → ∃ l : α, (∀ j, j < sz → w.cell? ((a.add (i * sz)).add j) = (f l)[j]?) ∧ ok l := by
      intro i hi
      obtain ⟨cs', h1, h2⟩ := hx i (by omega)
      obtain ⟨l, rfl, hok⟩ := hel _ _ _ h2
      exact ⟨l, (World.cells?_some h1).2.2, hok⟩
    obtain ⟨S, hS⟩ := Go.Deep.choose_lt hS
    refine ⟨⟨some a, len, q, (List.range len).map S⟩, (by rw [Sx.v]; simpa using hcs), ⟨by simp, hl, hm, (fun e => by cases e), fun hpos => ?_⟩, fun l hl' => ?_, fun hw => ?_⟩
    · simp only at hpos
      have h0 := (hS 0 hpos).1 0 hsz
      obtain ⟨b, off, spot⟩ := a
      obtain ⟨z, hz⟩ : ∃ z, (f (S 0))[0]? = some z := ⟨_, List.getElem?_eq_getElem (by rw [hf _ (hS 0 hpos).2]; exact hsz)⟩
      rw [hz] at h0
      have hspot : spot = none := by simpa [Addr.add] using World.cell?_spot h0
      subst hspot
      rw [addr_add, addr_add] at h0
      refine ⟨b, off, rfl, cell_lt h0, fun i l hi j v hv => ?_⟩
      have hil : i < len := by
        by_cases hil : i < len
        · exact hil
        · rw [List.getElem?_eq_none (by simp; omega)] at hi; simp at hi
      have ho : l = S i := by rw [List.getElem?_map, List.getElem?_range hil] at hi; simpa using hi.symm
      subst ho
      have g := (hS i hil).1
      simp only [addr_add] at g
      have hj : j < sz := by
        have h1 := (List.getElem?_eq_some_iff.1 hv).1
        rwa [hf _ (hS i hil).2] at h1
      rw [g j hj]; exact hv
    · simp at hl'
      obtain ⟨i, hi, rfl⟩ := hl'
      exact (hS i hi).2
    · rw [hy] at hw
      unfold DataW.weights at hw
      rw [hu] at hw
      simp only [List.length_map, List.length_range, kb] at hw
      have h1 := hw _ (List.mem_cons_self ..)
      have h2 : len * bytes ≤ (len + (q - len)) * bytes := Nat.mul_le_mul_right bytes (by omega)
      simp only
      omega

theorem trod_slice_one {P : Program} {H : Type} {enc : TypeId × Value → H} {w : World} {held : Bool} {r : Reach} {b0 : Nat} {T e : TypeId} {v : Value} (hu : P.underlying T = some (.slice e)) (hv : Value.okWide P w r b0 T v) : v.cells.toList = [v] := by
  obtain ⟨a, n, c, rfl⟩ := okWide_slice hu hv
  rfl

/-! Replies as arguments. -/
structure Rpl where (e : Int) (s : Sx Int)
def Rpl.Ok (y : Rpl) (w : World) : Prop := I64 y.e ∧ Sx.Ok iC 1 w y.s ∧ ∀ z ∈ y.s.xs, I64 z
theorem take_one25 (cs : List Value) (i : Nat) (h : i < cs.length) : ∃ v, (cs.drop i).take 1 = [v] := by
  refine ⟨cs[i], ?_⟩
  rw [List.drop_eq_getElem_cons h]
  rfl
theorem Tryd.kls : Tryd.prog.cellsOf 23 = 1 := by kernel_rfl
theorem Tryd.kle : Tryd.prog.cellsOf 22 = 1 := by kernel_rfl
section
variable {H : Type} {enc : TypeId × Value → H} {w : World} {held : Bool} {m : Nat}
theorem open_l64 {v : Value} {x : DataW H × List MemPlace} (h : DataW.trod enc Tryd.prog w 0 (fun _ => true) held m 23 [v] = some x) : ∃ s : Sx Int, v = s.v ∧ s.Ok iC 1 w ∧ ∀ z ∈ s.xs, I64 z := by
  obtain ⟨s, hs, hok, hr, -⟩ := open_sx (f := iC) (sz := 1) (ok := I64) (bytes := 8) Tryd.underlying23 (by kernel_rfl) (by kernel_rfl) (by decide) (fun m cs x hx => by obtain ⟨z, e, h1, h2⟩ := o_int Tryd.underlying2 hx; exact ⟨z, e, h1, h2⟩) (fun y _ => iC_len y) h
  exact ⟨s, hs, hok, hr⟩
set_option maxRecDepth 100000 in
theorem open_rpl {cs : List Value} {x : DataW H × List MemPlace} (h : DataW.trod enc Tryd.prog w 0 (fun _ => true) held m 25 cs = some x) : ∃ y : Rpl, cs = reC y.e y.s.v ∧ y.Ok w := by
  obtain ⟨xs, n, -, -, hcl, hl, hx⟩ := DataW.trod_struct Tryd.underlying25 h
  have hl' : xs.length = 2 := hl
  have hcl' : cs.length = 2 := hcl.trans (by kernel_rfl)
  have one : ∀ i (hi : i < xs.length), xs[i]? = some xs[i] := fun i hi => by simp
  obtain ⟨z0, e0, q0, q0'⟩ := o_int (c := (cs.drop 0).take 1) Tryd.underlying22 (by have := hx 0 _ rfl; rw [one 0 (by omega)] at this; rw [← Tryd.kle]; exact this)
  obtain ⟨v1, e1⟩ := take_one25 cs 1 (by omega)
  have f1 : DataW.trod enc Tryd.prog w 0 (fun _ => true) held n 23 [v1] = some xs[1] := by rw [← e1, ← one 1 (by omega), ← hx 1 _ rfl]; simp [Tryd.kls]
  obtain ⟨s, rfl, hs, hr⟩ := open_l64 f1
  refine ⟨⟨z0, s⟩, ?_, ⟨q0, q0'⟩, hs, hr⟩
  have h5 : cs.drop 2 = [] := List.drop_eq_nil_of_le (by omega)
  conv => lhs; rw [← List.drop_zero (l := cs)]
  rw [drop_split cs 0 1, e0, drop_split cs (0 + 1) 1, e1, h5, List.append_nil]
  rfl
end
set_option maxRecDepth 100000 in
theorem open_rpl_v {H : Type} {enc : TypeId × Value → H} {w : World} {held : Bool} {r : Reach} {b0 : Nat} {v : Value} {d : DataW H} {p : List MemPlace} (hv : Value.okWide Tryd.prog w r b0 25 v) (h : DataW.Trod enc Tryd.prog w 0 (fun _ => true) held 25 v d p) : ∃ y : Rpl, v = aV (reC y.e y.s.v) ∧ y.Ok w := by
  obtain ⟨m, hm⟩ := h
  obtain ⟨y, hcs, hok⟩ := open_rpl hm
  obtain ⟨a, rfl, -⟩ := okWide_struct Tryd.underlying25 hv
  refine ⟨y, ?_, hok⟩
  unfold aV
  rw [← hcs]
  cases a; simp [Value.cells]
theorem rpl_n {y : Rpl} {w : World} (h : y.Ok w) : y.s.n ≤ maxLen := Nat.le_trans h.2.1.le h.2.1.mx
set_option maxRecDepth 100000 in
theorem p10_laid {name : String} {W : World} {g t : Nat} {cs : Array Value} {fuel : Nat} {p : List MemPlace} {d : DataW Unit} (hn : name = "internal/strconv.uint64pow10") (hg : Tryd.prog.globalNamed name = some g) (ht : (Tryd.prog.globals[g]?).map (·.type) = some t) (hv : W.var? Tryd.prog name = some cs)
    (hd : DataW.trod (fun _ => ()) Tryd.prog W 0 (fun _ => true) false fuel t cs.toList = some (d, p)) (he : d = Lib.tabData .u64 Lib.pow10Tab) : Lib.TabIs Tryd.prog W "internal/strconv.uint64pow10" .u64 Lib.pow10Tab := by
  subst hn he
  obtain rfl := Option.some.inj ((show Tryd.prog.globalNamed "internal/strconv.uint64pow10" = some 1 by kernel_rfl).symm.trans hg)
  obtain rfl := Option.some.inj ((show (Tryd.prog.globals[(1 : Nat)]?).map (·.type) = some 126 by kernel_rfl).symm.trans ht)
  unfold Lib.TabIs
  rw [hv, ← Lib.cells_of_tab Tryd.underlying126 Tryd.underlying95 (by kernel_rfl) (by kernel_rfl) hd]

/-! Operations, bytes as arguments. -/
structure OpA where (k n o c p : Int) (s : Sx Int)
structure OpA.Ok (y : OpA) (w : World) : Prop where
  k : I64 y.k
  n : I64 y.n
  o : I64 y.o
  c : I64 y.c
  p : I64 y.p
  s : Su w y.s
  b : IsB y.s.xs
theorem Tryd.kou : Tryd.prog.cellsOf 28 = 1 := by kernel_rfl
theorem Tryd.koi : Tryd.prog.cellsOf 3 = 1 := by kernel_rfl
theorem Tryd.kol : Tryd.prog.cellsOf 2 = 1 := by kernel_rfl
theorem sl_su25 {w : World} {s : Sl} (h : s.Ok w) : Su w ⟨s.a, s.n, s.c, s.l⟩ := by
  refine ⟨h.len, h.le, h.mx, h.nn, fun h0 => ?_⟩
  have h0' : 0 < s.n := h0
  obtain ⟨b, off, ha, hl, hc⟩ := h.lies (by rw [h.len]; exact h0')
  refine ⟨b, off, ha, hl, fun i x hi j v hv => ?_⟩
  cases j with
  | zero =>
    obtain rfl : Value.int .u8 x = v := Option.some.inj hv
    obtain ⟨h1, h2⟩ := List.getElem?_eq_some_iff.1 hi
    have h3 := hc i h1
    rw [getD_lt _ _ h1, h2] at h3
    simpa using h3
  | succ j => simp [uC] at hv
section
variable {H : Type} {enc : TypeId × Value → H} {w : World} {held : Bool} {m : Nat}
theorem open_y25 {v : Value} {y : DataW H × List MemPlace} (h : DataW.trod enc Tryd.prog w 0 (fun _ => true) held m 28 [v] = some y) : ∃ s : Sx Int, v = s.v ∧ Su w s ∧ IsB s.xs := by
  obtain ⟨s, rfl, hs, -⟩ := open_sl h
  exact ⟨⟨s.a, s.n, s.c, s.l⟩, rfl, sl_su25 hs, hs.isB⟩
set_option maxRecDepth 100000 in
theorem open_op25 {cs : List Value} {x : DataW H × List MemPlace} (h : DataW.trod enc Tryd.prog w 0 (fun _ => true) held m 30 cs = some x) : ∃ y : OpA, cs = opC y.k y.n y.o y.c y.p y.s.v ∧ y.Ok w := by
  obtain ⟨xs, n, -, -, hcl, hl, hx⟩ := DataW.trod_struct Tryd.underlying30 h
  have hl' : xs.length = 6 := hl
  have hcl' : cs.length = 6 := hcl.trans (by kernel_rfl)
  have one : ∀ i (hi : i < xs.length), xs[i]? = some xs[i] := fun i hi => by simp
  obtain ⟨z0, e0, q0, q0'⟩ := o_int (c := (cs.drop 0).take 1) Tryd.underlying3 (by have := hx 0 _ rfl; rw [one 0 (by omega)] at this; rw [← Tryd.koi]; exact this)
  obtain ⟨z1, e1, q1, q1'⟩ := o_int (c := (cs.drop 1).take 1) Tryd.underlying3 (by have := hx 1 _ rfl; rw [one 1 (by omega)] at this; simpa [Tryd.koi] using this)
  obtain ⟨z2, e2, q2, q2'⟩ := o_int (c := (cs.drop 2).take 1) Tryd.underlying3 (by have := hx 2 _ rfl; rw [one 2 (by omega)] at this; simpa [Tryd.koi] using this)
  obtain ⟨z3, e3, q3, q3'⟩ := o_int (c := (cs.drop 3).take 1) Tryd.underlying3 (by have := hx 3 _ rfl; rw [one 3 (by omega)] at this; simpa [Tryd.koi] using this)
  obtain ⟨z4, e4, q4, q4'⟩ := o_int (c := (cs.drop 4).take 1) Tryd.underlying2 (by have := hx 4 _ rfl; rw [one 4 (by omega)] at this; simpa [Tryd.koi, Tryd.kol] using this)
  obtain ⟨v5, e5⟩ := take_one25 cs 5 (by omega)
  have f5 : DataW.trod enc Tryd.prog w 0 (fun _ => true) held n 28 [v5] = some xs[5] := by rw [← e5, ← one 5 (by omega), ← hx 5 _ rfl]; simp [Tryd.kou, Tryd.koi, Tryd.kol]
  obtain ⟨s, rfl, hs, hb⟩ := open_y25 f5
  refine ⟨⟨z0, z1, z2, z3, z4, s⟩, ?_, ⟨⟨q0, q0'⟩, ⟨q1, q1'⟩, ⟨q2, q2'⟩, ⟨q3, q3'⟩, ⟨q4, q4'⟩, hs, hb⟩⟩
  have h6 : cs.drop 6 = [] := List.drop_eq_nil_of_le (by omega)
  conv => lhs; rw [← List.drop_zero (l := cs)]
  rw [drop_split cs 0 1, e0, drop_split cs (0 + 1) 1, e1, drop_split cs (0 + 1 + 1) 1, e2, drop_split cs (0 + 1 + 1 + 1) 1, e3, drop_split cs (0 + 1 + 1 + 1 + 1) 1, e4, drop_split cs (0 + 1 + 1 + 1 + 1 + 1) 1, e5, h6, List.append_nil]
  rfl
end
section
variable {H : Type} {enc : TypeId × Value → H} {w : World} {held : Bool} {r : Reach} {b0 : Nat} {v : Value} {d : DataW H} {p : List MemPlace}
set_option maxRecDepth 100000 in
theorem open_op_v (hv : Value.okWide Tryd.prog w r b0 30 v) (h : DataW.Trod enc Tryd.prog w 0 (fun _ => true) held 30 v d p) : ∃ y : OpA, v = aV (opC y.k y.n y.o y.c y.p y.s.v) ∧ y.Ok w := by
  obtain ⟨m, hm⟩ := h
  obtain ⟨y, hcs, hok⟩ := open_op25 hm
  have hw := okWide_struct Tryd.underlying30 hv
  clear hv
  obtain ⟨a, hva, -⟩ := hw
  subst hva
  refine ⟨y, ?_, hok⟩
  unfold aV
  rw [← hcs]
  cases a; simp [Value.cells]
set_option maxRecDepth 100000 in
theorem open_y25_v (hv : Value.okWide Tryd.prog w r b0 28 v) (h : DataW.Trod enc Tryd.prog w 0 (fun _ => true) held 28 v d p) : ∃ s : Sx Int, v = s.v ∧ Su w s ∧ IsB s.xs := by
  obtain ⟨m, hm⟩ := h
  have hc : v.cells.toList = [v] := by
    obtain ⟨a, n, c, rfl⟩ := okWide_slice Tryd.underlying28 hv
    rfl
  rw [hc] at hm
  exact open_y25 hm
end

/-! What is laid, and the shape of the library's variables: what the law's calls find. -/
theorem and_shaped25 {H : Type} {enc : TypeId × Value → H} {a : Assume} {C : Checked} {os : Os} {f : FuncId} {fn : Func} {s : ChangeSpec} {conds : List PathCond} {apart fresh handsOn again : Bool} {X : World → Array Value → Prop}
    (hX : ∀ (w w' : World) (args : Array Value), w.heap = w'.heap → X w args → X w' args)
    (own : ownKnob C.prog.godebug = none) (started : os.Started) (noInit : C.prog.inits.idxOf? f = none) (hfn : C.prog.funcs[f]? = some fn)
    (witness : ∃ (w : World) (tape : Tape) (i : Input), w.os = os ∧ (w.forCall tape i).Shaped C.prog ∧ i.vars = [] ∧ Input.okWide C.prog (w.forCall tape i) .any w.heap.size f i ∧
      ((s.pre enc C.prog fn conds apart (w.forCall tape i).memory i.args ∧ X (w.forCall tape i).memory i.args) ∧ sizedMet enc C.prog fn (OpenSpec.ofChange s) apart (w.forCall tape i).memory i.args) ∧ a.holds C.prog (lone (Frame.enter C.prog f i.args .normal) [] (w.forCall tape i)))
    (contract : ∀ (W : World) (base : Nat) (args : Array Value) (ds gs : List (DataW H)) (before : List MemPlace),
      (∀ (j : Nat) t v, fn.params[j]? = some t → args[j]? = some v → Value.okWide C.prog W .any base t v) →
      DataW.Whole enc C.prog fn.params.toList s.vars apart W args.toList ds gs before →
      conds.all (PathCond.test C.prog ⟨fn.params.toList, ds, s.plain.varTypes C.prog, gs⟩) = true →
      (DataW.weightsEach C.prog (fn.params.toList ++ s.plain.varTypes C.prog) (ds ++ gs)).all (· ≤ reachBytes) = true → X W args → W.ShapedOpen C.prog →
      a.holds C.prog (lone (Frame.enter C.prog f args .normal) [] W) →
      Calls C.prog f args W fun e W' => ∃ v, e = .returned v ∧ s.post enc C.prog fn apart fresh handsOn again W args v W') :
    ReturnsInHanded a C os f .any (fun w args => (s.pre enc C.prog fn conds apart w args ∧ X w args) ∧ sizedMet enc C.prog fn (OpenSpec.ofChange s) apart w args) (s.post enc C.prog fn apart fresh handsOn again) := by
  refine returnsInHanded_of_calls own started noInit witness ?_
  rintro w tape i - hsh - ⟨-, -, -, fn', hfn', -, -, -, -, hval⟩ ⟨⟨⟨ds, gs, before, hw, hc⟩, hx⟩, hz⟩ hholds
  obtain rfl : fn' = fn := Option.some.inj (hfn'.symm.trans hfn)
  refine (contract (w.forCall tape i) w.heap.size i.args ds gs before hval (DataW.Whole.of_heap (w' := w.forCall tape i) (by rfl) hw) hc (hz.weights hw) (hX _ _ _ (by rfl) hx) hsh hholds).mono ?_
  rintro e W' ⟨v, rfl, hp⟩
  exact ChangeSpec.post_blind hp
abbrev LD25 : List (String × DataW Unit) := [("math/bits.deBruijn32tab", Rows.laid_math_bits_deBruijn32tab), ("math/bits.deBruijn64tab", Rows.laid_math_bits_deBruijn64tab), ("internal/strconv.uint64pow10", Rows.laid_internal_strconv_uint64pow10), ("unicode/utf8.acceptRanges", Rows.laid_unicode_utf8_acceptRanges), ("errors.errorType", Rows.laid_errors_errorType), ("unicode/utf8.first", Rows.laid_unicode_utf8_first)]
theorem Tryd.et25 : Tryd.prog.globalNamed "errors.errorType" = some 0 := by kernel_rfl
theorem Tryd.rt25 : (Tryd.prog.cutTypes.find? (·.1 == "internal/reflectlite.rtype")).map (·.2) = some 107 := by kernel_rfl
theorem Tryd.one25 : ((List.range Tryd.prog.types.size).filter fun t => Tryd.prog.rowNamed t [101, 114, 114, 111, 114]) = [48] := by kernel_rfl
theorem mln_of {W : World} (h : W.ShapedOpen Tryd.prog) : MLn W :=
  cell_of_shapedOpen_int (zero := #[.int .i64 0]) (t := 3) h (of_decide_eq_true (by kernel_rfl)) (by kernel_rfl) rfl (by kernel_rfl) (by kernel_rfl) Tryd.underlying3
theorem ety_of {W : World} (h : handlesMet Tryd.prog [("errors.errorType", Rows.laid_errors_errorType)] W) : ETy W := by
  obtain ⟨name, u, ty, e1, e2, e3, e4, e5⟩ := h _ (List.mem_singleton.2 rfl)
  have en : name = [101, 114, 114, 111, 114] := (Option.some.inj e1).symm
  subst en
  obtain rfl := Option.some.inj (Tryd.rt25.symm.trans e2)
  have hm : ty ∈ (List.range Tryd.prog.types.size).filter fun t => Tryd.prog.rowNamed t [101, 114, 114, 111, 114] := List.mem_filter.2 ⟨List.mem_range.2 e3, e4⟩
  rw [Tryd.one25] at hm
  obtain rfl := List.mem_singleton.1 hm
  have hh : typeHandle Tryd.prog 48 = .pointer (some ⟨7, 48, none⟩) := by kernel_rfl
  rw [hh] at e5
  unfold ETy
  simpa using World.var?_cell Tryd.et25 e5 0
theorem pk_of {W : World} (h : laidMetH Tryd.prog LD25 W) (hs : W.ShapedOpen Tryd.prog) : Pk25 W := by
  have h' : laidMet Tryd.prog [("math/bits.deBruijn32tab", Rows.laid_math_bits_deBruijn32tab), ("math/bits.deBruijn64tab", Rows.laid_math_bits_deBruijn64tab), ("internal/strconv.uint64pow10", Rows.laid_internal_strconv_uint64pow10), ("unicode/utf8.acceptRanges", Rows.laid_unicode_utf8_acceptRanges), ("unicode/utf8.first", Rows.laid_unicode_utf8_first)] W ∧ handlesMet Tryd.prog [("errors.errorType", Rows.laid_errors_errorType)] W := h
  refine ⟨ety_of h'.2, mln_of hs, ?_⟩
  obtain ⟨ps, ⟨g0, t0, cs0, f0, p0, q0, hg0, ht0, hv0, hd0, ⟨g1, t1, cs1, f1, p1, q1, hg1, ht1, hv1, hd1, ⟨g2, t2, cs2, f2, p2, q2, hg2, ht2, hv2, hd2, -, -⟩, -⟩, -⟩, -, -⟩ := h'.1
  exact p10_laid rfl hg2 ht2 hv2 hd2 rfl
end Go.Proofs.YtdcaojiiaocnaaaDoor
