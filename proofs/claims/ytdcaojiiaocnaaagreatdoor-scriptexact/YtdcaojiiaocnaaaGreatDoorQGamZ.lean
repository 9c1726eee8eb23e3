import Derived.Test.YtdcaojiiaocnaaaGreatDoorQDeW
import Derived.Test.YtdcaojiiaocnaaaGreatDoorQSfM
import Derived.Deep.DeepCutAuto
import Derived.Deep.QuietTactic
import Derived.BigQuiet
import Derived.Test.YtdcaojiiaocnaaaGreatDoorQOpB
import Derived.Lib.LaidTab
import Derived.Shelf.Strconv.Itoa4
import Derived.Test.YtdcaojiiaocnaaaGreatDoorQBcM
set_option linter.unusedSimpArgs false
set_option linter.unusedVariables false
namespace Go.Proofs.YtdcaojiiaocnaaaGreatDoor
open Go.RowKit

/-- the first blank from a place on -/
def feL (l : List Int) (at_ : Nat) : Nat := at_ + ((l.drop at_).takeWhile (fun c => c != 32)).length
theorem feL_end {l : List Int} {k : Nat} (h : l.length ≤ k) : feL l k = k := by unfold feL; rw [List.drop_of_length_le h]; rfl
theorem drop_at {l : List Int} {k : Nat} (h : k < l.length) : l.drop k = l.getD k 0 :: l.drop (k + 1) := by
  rw [List.drop_eq_getElem_cons h]; congr 1; simp [h]
theorem feL_here {l : List Int} {k : Nat} (h : k < l.length) (e : l.getD k 0 = 32) : feL l k = k := by
  unfold feL; rw [drop_at h, e, List.takeWhile_cons]; rfl
theorem feL_next {l : List Int} {k : Nat} (h : k < l.length) (e : l.getD k 0 ≠ 32) : feL l k = feL l (k + 1) := by
  unfold feL; rw [drop_at h, List.takeWhile_cons]
  have : (l.getD k 0 != 32) = true := by simpa using e
  rw [this]; simp; omega
theorem feL_le {l : List Int} {k : Nat} (h : k ≤ l.length) : feL l k ≤ l.length := by
  unfold feL
  have := (List.takeWhile_prefix (fun c => c != 32) (l := l.drop k)).length_le
  rw [List.length_drop] at this; omega
theorem count_take {l : List Int} {k : Nat} (h : k < l.length) : (l.take (k + 1)).count 32 = (l.take k).count 32 + (if l.getD k 0 = 32 then 1 else 0) := by
  rw [List.take_add_one, List.getElem?_eq_getElem h, List.count_append]
  have : l.getD k 0 = l[k] := by simp [h]
  rw [this]
  by_cases e : l[k] = 32 <;> simp [e]
theorem count_le25 (l : List Int) : l.count 32 ≤ l.length := List.count_le_length ..
theorem joinB_snoc : ∀ (fs : List (List Int)) (f : List Int), fs ≠ [] → joinB (fs ++ [f]) = joinB fs ++ 32 :: f
  | [], _, h => absurd rfl h
  | [a], f, _ => rfl
  | a :: b :: r, f, _ => by
    show a ++ 32 :: joinB ((b :: r) ++ [f]) = (a ++ 32 :: joinB (b :: r)) ++ 32 :: f
    rw [joinB_snoc (b :: r) f (by simp)]; simp
theorem showL_snoc (e : Int) (ns : List Int) (n : Int) : showL e (ns ++ [n]) = showL e ns ++ 32 :: decL n := by
  unfold showL
  have : showF e (ns ++ [n]) = showF e ns ++ [decL n] := by unfold showF; rw [List.map_append, ← List.append_assoc]; rfl
  rw [this, joinB_snoc _ _ (showF_ne e ns)]
theorem showL_ok : showL 0 [] = okT := rfl
theorem showL_err {e : Int} (h : e ≠ 0) : showL e [] = errT ++ 32 :: decL e := by unfold showL showF; rw [if_neg h]; rfl
theorem decL_len {n : Int} (h : I64 n) : (decL n).length ≤ 20 := by
  have := dgL_len20 h
  unfold decL; split <;> simp <;> omega
theorem showL_len {e : Int} (he : I64 e) : ∀ (ns : List Int), (∀ n ∈ ns, I64 n) → (showL e ns).length ≤ 30 + 21 * ns.length := by
  have key : ∀ (k : Nat) (ns : List Int), ns.length = k → (∀ n ∈ ns, I64 n) → (showL e ns).length ≤ 30 + 21 * ns.length := by
    intro k
    induction k with
    | zero =>
      intro ns h0 _
      obtain rfl := List.eq_nil_of_length_eq_zero h0
      by_cases h : e = 0
      · subst h; rw [showL_ok]; decide
      · rw [showL_err h]
        have := decL_len he
        simp [errT]; omega
    | succ k ih =>
      intro ns hk h
      have hne : ns ≠ [] := by rintro rfl; simp at hk
      obtain ⟨l, n, rfl⟩ : ∃ l n, ns = l ++ [n] := ⟨ns.dropLast, ns.getLast hne, (List.dropLast_concat_getLast hne).symm⟩
      rw [showL_snoc]
      have h1 := ih l (by simpa using hk) (fun x hx => h x (by simp [hx]))
      have h2 := decL_len (h n (by simp))
      simp; omega
  exact fun ns h => key _ ns rfl h

/-! Structs. -/
def opC (k : Int) (n : Int) (o : Int) (c : Int) (p : Int) (v : Value) : List Value := [.int .i64 k, .int .i64 n, .int .i64 o, .int .i64 c, .int .i64 p, v]
theorem Tryz.inO : (Tryz.prog.info? 30).map (fun i => (i.zero, i.size)) = some (some (aV (opC 0 0 0 0 0 (.slice none 0 0))), 6) := by kernel_rfl
theorem sz_O (k : Int) (n : Int) (o : Int) (c : Int) (p : Int) (v : Value) : (Tryz.prog.info? 30).map (·.size) = some (opC k n o c p v).length := by show _ = some 6; kernel_rfl
theorem one_O (k : Int) (n : Int) (o : Int) (c : Int) (p : Int) {v : Value} (hv : v.oneCell' = true) : ∀ u9 ∈ opC k n o c p v, u9.oneCell' = true := by intro u9 hu9; simp [opC] at hu9; rcases hu9 with rfl | rfl | rfl | rfl | rfl | rfl <;> first | rfl | assumption
theorem pt_O (k : Int) (n : Int) (o : Int) (c : Int) (p : Int) (v : Value) (k9 : Int) (n9 : Int) (o9 : Int) (c9 : Int) (p9 : Int) (v9 : Value) : Pt (opC k n o c p v) 0 (opC k9 n9 o9 c9 p9 v9) (opC k9 n9 o9 c9 p9 v9) := Pt.self rfl
theorem at_O0 (k : Int) (n : Int) (o : Int) (c : Int) (p : Int) (v : Value) : At (opC k n o c p v) 0 [.int .i64 k] := ⟨[], [.int .i64 n, .int .i64 o, .int .i64 c, .int .i64 p, v], rfl, rfl⟩
theorem pt_O0 (k : Int) (n : Int) (o : Int) (c : Int) (p : Int) (v : Value) (z9 : Int) : Pt (opC k n o c p v) 0 [.int .i64 z9] (opC z9 n o c p v) := ⟨[], [.int .i64 k], [.int .i64 n, .int .i64 o, .int .i64 c, .int .i64 p, v], rfl, rfl, rfl, rfl⟩
theorem at_O1 (k : Int) (n : Int) (o : Int) (c : Int) (p : Int) (v : Value) : At (opC k n o c p v) 1 [.int .i64 n] := ⟨[.int .i64 k], [.int .i64 o, .int .i64 c, .int .i64 p, v], rfl, rfl⟩
theorem pt_O1 (k : Int) (n : Int) (o : Int) (c : Int) (p : Int) (v : Value) (z9 : Int) : Pt (opC k n o c p v) 1 [.int .i64 z9] (opC k z9 o c p v) := ⟨[.int .i64 k], [.int .i64 n], [.int .i64 o, .int .i64 c, .int .i64 p, v], rfl, rfl, rfl, rfl⟩
theorem at_O2 (k : Int) (n : Int) (o : Int) (c : Int) (p : Int) (v : Value) : At (opC k n o c p v) 2 [.int .i64 o] := ⟨[.int .i64 k, .int .i64 n], [.int .i64 c, .int .i64 p, v], rfl, rfl⟩
theorem pt_O2 (k : Int) (n : Int) (o : Int) (c : Int) (p : Int) (v : Value) (z9 : Int) : Pt (opC k n o c p v) 2 [.int .i64 z9] (opC k n z9 c p v) := ⟨[.int .i64 k, .int .i64 n], [.int .i64 o], [.int .i64 c, .int .i64 p, v], rfl, rfl, rfl, rfl⟩
theorem at_O3 (k : Int) (n : Int) (o : Int) (c : Int) (p : Int) (v : Value) : At (opC k n o c p v) 3 [.int .i64 c] := ⟨[.int .i64 k, .int .i64 n, .int .i64 o], [.int .i64 p, v], rfl, rfl⟩
theorem pt_O3 (k : Int) (n : Int) (o : Int) (c : Int) (p : Int) (v : Value) (z9 : Int) : Pt (opC k n o c p v) 3 [.int .i64 z9] (opC k n o z9 p v) := ⟨[.int .i64 k, .int .i64 n, .int .i64 o], [.int .i64 c], [.int .i64 p, v], rfl, rfl, rfl, rfl⟩
theorem at_O4 (k : Int) (n : Int) (o : Int) (c : Int) (p : Int) (v : Value) : At (opC k n o c p v) 4 [.int .i64 p] := ⟨[.int .i64 k, .int .i64 n, .int .i64 o, .int .i64 c], [v], rfl, rfl⟩
theorem pt_O4 (k : Int) (n : Int) (o : Int) (c : Int) (p : Int) (v : Value) (z9 : Int) : Pt (opC k n o c p v) 4 [.int .i64 z9] (opC k n o c z9 v) := ⟨[.int .i64 k, .int .i64 n, .int .i64 o, .int .i64 c], [.int .i64 p], [v], rfl, rfl, rfl, rfl⟩
theorem at_O5 (k : Int) (n : Int) (o : Int) (c : Int) (p : Int) (v : Value) : At (opC k n o c p v) 5 [v] := ⟨[.int .i64 k, .int .i64 n, .int .i64 o, .int .i64 c, .int .i64 p], [], rfl, rfl⟩
theorem pt_O5 (k : Int) (n : Int) (o : Int) (c : Int) (p : Int) (v : Value) (z9 : Value) : Pt (opC k n o c p v) 5 [z9] (opC k n o c p z9) := ⟨[.int .i64 k, .int .i64 n, .int .i64 o, .int .i64 c, .int .i64 p], [v], [], rfl, rfl, rfl, rfl⟩
def cmC (v : Value) (u : Value) : List Value := [v, u]
theorem Tryz.inC : (Tryz.prog.info? 63).map (fun i => (i.zero, i.size)) = some (some (aV (cmC (.string { data := #[] }) (.string { data := #[] }))), 2) := by kernel_rfl
theorem sz_C (v : Value) (u : Value) : (Tryz.prog.info? 63).map (·.size) = some (cmC v u).length := by show _ = some 2; kernel_rfl
theorem one_C  {v : Value} {u : Value} (hv : v.oneCell' = true) (hu : u.oneCell' = true) : ∀ u9 ∈ cmC v u, u9.oneCell' = true := by intro u9 hu9; simp [cmC] at hu9; rcases hu9 with rfl | rfl <;> first | rfl | assumption
theorem pt_C (v : Value) (u : Value) (v9 : Value) (u9 : Value) : Pt (cmC v u) 0 (cmC v9 u9) (cmC v9 u9) := Pt.self rfl
theorem at_C0 (v : Value) (u : Value) : At (cmC v u) 0 [v] := ⟨[], [u], rfl, rfl⟩
theorem pt_C0 (v : Value) (u : Value) (z9 : Value) : Pt (cmC v u) 0 [z9] (cmC z9 u) := ⟨[], [v], [u], rfl, rfl, rfl, rfl⟩
theorem at_C1 (v : Value) (u : Value) : At (cmC v u) 1 [u] := ⟨[v], [], rfl, rfl⟩
theorem pt_C1 (v : Value) (u : Value) (z9 : Value) : Pt (cmC v u) 1 [z9] (cmC v z9) := ⟨[v], [u], [], rfl, rfl, rfl, rfl⟩
def reC (k : Int) (v : Value) : List Value := [.int .i64 k, v]
theorem Tryz.inY : (Tryz.prog.info? 34).map (fun i => (i.zero, i.size)) = some (some (aV (reC 0 (.slice none 0 0))), 2) := by kernel_rfl
theorem sz_Y (k : Int) (v : Value) : (Tryz.prog.info? 34).map (·.size) = some (reC k v).length := by show _ = some 2; kernel_rfl
theorem one_Y (k : Int) {v : Value} (hv : v.oneCell' = true) : ∀ u9 ∈ reC k v, u9.oneCell' = true := by intro u9 hu9; simp [reC] at hu9; rcases hu9 with rfl | rfl <;> first | rfl | assumption
theorem pt_Y (k : Int) (v : Value) (k9 : Int) (v9 : Value) : Pt (reC k v) 0 (reC k9 v9) (reC k9 v9) := Pt.self rfl
theorem at_Y0 (k : Int) (v : Value) : At (reC k v) 0 [.int .i64 k] := ⟨[], [v], rfl, rfl⟩
theorem pt_Y0 (k : Int) (v : Value) (z9 : Int) : Pt (reC k v) 0 [.int .i64 z9] (reC z9 v) := ⟨[], [.int .i64 k], [v], rfl, rfl, rfl, rfl⟩
theorem at_Y1 (k : Int) (v : Value) : At (reC k v) 1 [v] := ⟨[.int .i64 k], [], rfl, rfl⟩
theorem pt_Y1 (k : Int) (v : Value) (z9 : Value) : Pt (reC k v) 1 [z9] (reC k z9) := ⟨[.int .i64 k], [v], [], rfl, rfl, rfl, rfl⟩
theorem Tryz.j1ls : (Tryz.prog.info? 32).map (·.size) = some 1 := by kernel_rfl
theorem Tryz.j1e : (Tryz.prog.info? 31).map (·.size) = some 1 := by kernel_rfl
theorem b_k (k : Int) : Tryz.prog.built 30 [(0, .int .i64 k)] = some (opC k 0 0 0 0 (.slice none 0 0)).toArray := by kernel_rfl
end Go.Proofs.YtdcaojiiaocnaaaGreatDoor

set_option linter.unusedSimpArgs false
set_option linter.unusedVariables false
namespace Go.Proofs.YtdcaojiiaocnaaaGreatDoor
open Go.ChangeShapes Go.WideShapes Go.ChangeAt Go.WideMaps Go.WideElems Go.RowKit

/-! Replies as arguments. -/
structure Rpl where (e : Int) (s : Sx Int)
def Rpl.Ok (y : Rpl) (w : World) : Prop := I64 y.e ∧ Sx.Ok iC 1 w y.s ∧ ∀ z ∈ y.s.xs, I64 z
theorem take_one25 (cs : List Value) (i : Nat) (h : i < cs.length) : ∃ v, (cs.drop i).take 1 = [v] := by
  refine ⟨cs[i], ?_⟩
  rw [List.drop_eq_getElem_cons h]
  rfl
theorem Tryz.kls : Tryz.prog.cellsOf 32 = 1 := by kernel_rfl
theorem Tryz.kle : Tryz.prog.cellsOf 31 = 1 := by kernel_rfl
section
variable {H : Type} {enc : TypeId × Value → H} {w : World} {held : Bool} {m : Nat}
theorem open_l64 {v : Value} {x : DataW H × List MemPlace} (h : DataW.trod enc Tryz.prog w 0 (fun _ => true) held m 32 [v] = some x) : ∃ s : Sx Int, v = s.v ∧ s.Ok iC 1 w ∧ ∀ z ∈ s.xs, I64 z := by
  obtain ⟨s, hs, hok, hr, -⟩ := open_sx (f := iC) (sz := 1) (ok := I64) (bytes := 8) Tryz.underlying32 (by kernel_rfl) (by kernel_rfl) (by decide) (fun m cs x hx => by obtain ⟨z, e, h1, h2⟩ := o_int Tryz.underlying2 hx; exact ⟨z, e, h1, h2⟩) (fun y _ => iC_len y) h
  exact ⟨s, hs, hok, hr⟩
set_option maxRecDepth 100000 in
theorem open_rpl {cs : List Value} {x : DataW H × List MemPlace} (h : DataW.trod enc Tryz.prog w 0 (fun _ => true) held m 34 cs = some x) : ∃ y : Rpl, cs = reC y.e y.s.v ∧ y.Ok w := by
  obtain ⟨xs, n, -, -, hcl, hl, hx⟩ := DataW.trod_struct Tryz.underlying34 h
  have hl' : xs.length = 2 := hl
  have hcl' : cs.length = 2 := hcl.trans (by kernel_rfl)
  have one : ∀ i (hi : i < xs.length), xs[i]? = some xs[i] := fun i hi => by simp
  obtain ⟨z0, e0, q0, q0'⟩ := o_int (c := (cs.drop 0).take 1) Tryz.underlying31 (by have := hx 0 _ rfl; rw [one 0 (by omega)] at this; rw [← Tryz.kle]; exact this)
  obtain ⟨v1, e1⟩ := take_one25 cs 1 (by omega)
  have f1 : DataW.trod enc Tryz.prog w 0 (fun _ => true) held n 32 [v1] = some xs[1] := by rw [← e1, ← one 1 (by omega), ← hx 1 _ rfl]; simp [Tryz.kls]
  obtain ⟨s, rfl, hs, hr⟩ := open_l64 f1
  refine ⟨⟨z0, s⟩, ?_, ⟨q0, q0'⟩, hs, hr⟩
  have h5 : cs.drop 2 = [] := List.drop_eq_nil_of_le (by omega)
  conv => lhs; rw [← List.drop_zero (l := cs)]
  rw [drop_split cs 0 1, e0, drop_split cs (0 + 1) 1, e1, h5, List.append_nil]
  rfl
end
set_option maxRecDepth 100000 in
theorem open_rpl_v {H : Type} {enc : TypeId × Value → H} {w : World} {held : Bool} {r : Reach} {b0 : Nat} {v : Value} {d : DataW H} {p : List MemPlace} (hv : Value.okWide Tryz.prog w r b0 34 v) (h : DataW.Trod enc Tryz.prog w 0 (fun _ => true) held 34 v d p) : ∃ y : Rpl, v = aV (reC y.e y.s.v) ∧ y.Ok w := by
  obtain ⟨m, hm⟩ := h
  obtain ⟨y, hcs, hok⟩ := open_rpl hm
  obtain ⟨a, rfl, -⟩ := okWide_struct Tryz.underlying34 hv
  refine ⟨y, ?_, hok⟩
  unfold aV
  rw [← hcs]
  cases a; simp [Value.cells]
theorem rpl_n {y : Rpl} {w : World} (h : y.Ok w) : y.s.n ≤ maxLen := Nat.le_trans h.2.1.le h.2.1.mx
set_option maxRecDepth 100000 in
theorem p10_laid {name : String} {W : World} {g t : Nat} {cs : Array Value} {fuel : Nat} {p : List MemPlace} {d : DataW Unit} (hn : name = "internal/strconv.uint64pow10") (hg : Tryz.prog.globalNamed name = some g) (ht : (Tryz.prog.globals[g]?).map (·.type) = some t) (hv : W.var? Tryz.prog name = some cs)
    (hd : DataW.trod (fun _ => ()) Tryz.prog W 0 (fun _ => true) false fuel t cs.toList = some (d, p)) (he : d = Lib.tabData .u64 Lib.pow10Tab) : Lib.TabIs Tryz.prog W "internal/strconv.uint64pow10" .u64 Lib.pow10Tab := by
  subst hn he
  obtain rfl := Option.some.inj ((show Tryz.prog.globalNamed "internal/strconv.uint64pow10" = some 1 by kernel_rfl).symm.trans hg)
  obtain rfl := Option.some.inj ((show (Tryz.prog.globals[(1 : Nat)]?).map (·.type) = some 151 by kernel_rfl).symm.trans ht)
  unfold Lib.TabIs
  rw [hv, ← Lib.cells_of_tab Tryz.underlying151 Tryz.underlying134 (by kernel_rfl) (by kernel_rfl) hd]

/-! Operations, bytes as arguments. -/
structure OpA where (k n o c p : Int) (s : Sx Int)
structure OpA.Ok (y : OpA) (w : World) : Prop where
  k : I64 y.k
  n : I64 y.n
  o : I64 y.o
  c : I64 y.c
  p : I64 y.p
  s : Su w y.s
  b : IsB y.s.xs
theorem Tryz.kou : Tryz.prog.cellsOf 28 = 1 := by kernel_rfl
theorem Tryz.koi : Tryz.prog.cellsOf 3 = 1 := by kernel_rfl
theorem Tryz.kol : Tryz.prog.cellsOf 2 = 1 := by kernel_rfl
theorem sl_su25 {w : World} {s : Sl} (h : s.Ok w) : Su w ⟨s.a, s.n, s.c, s.l⟩ := by
  refine ⟨h.len, h.le, h.mx, h.nn, fun h0 => ?_⟩
  have h0' : 0 < s.n := h0
  obtain ⟨b, off, ha, hl, hc⟩ := h.lies (by rw [h.len]; exact h0')
  refine ⟨b, off, ha, hl, fun i x hi j v hv => ?_⟩
  cases j with
  | zero =>
    obtain rfl : Value.int .u8 x = v := Option.some.inj hv
    obtain ⟨h1, h2⟩ := List.getElem?_eq_some_iff.1 hi
    have h3 := hc i h1
    rw [getD_lt _ _ h1, h2] at h3
    simpa using h3
  | succ j => simp [uC] at hv
section
variable {H : Type} {enc : TypeId × Value → H} {w : World} {held : Bool} {m : Nat}
theorem open_y25 {v : Value} {y : DataW H × List MemPlace} (h : DataW.trod enc Tryz.prog w 0 (fun _ => true) held m 28 [v] = some y) : ∃ s : Sx Int, v = s.v ∧ Su w s ∧ IsB s.xs := by
  obtain ⟨s, rfl, hs, -⟩ := open_sl h
  exact ⟨⟨s.a, s.n, s.c, s.l⟩, rfl, sl_su25 hs, hs.isB⟩
set_option maxRecDepth 100000 in
theorem open_op25 {cs : List Value} {x : DataW H × List MemPlace} (h : DataW.trod enc Tryz.prog w 0 (fun _ => true) held m 30 cs = some x) : ∃ y : OpA, cs = opC y.k y.n y.o y.c y.p y.s.v ∧ y.Ok w := by
  obtain ⟨xs, n, -, -, hcl, hl, hx⟩ := DataW.trod_struct Tryz.underlying30 h
  have hl' : xs.length = 6 := hl
  have hcl' : cs.length = 6 := hcl.trans (by kernel_rfl)
  have one : ∀ i (hi : i < xs.length), xs[i]? = some xs[i] := fun i hi => by simp
  obtain ⟨z0, e0, q0, q0'⟩ := o_int (c := (cs.drop 0).take 1) Tryz.underlying3 (by have := hx 0 _ rfl; rw [one 0 (by omega)] at this; rw [← Tryz.koi]; exact this)
  obtain ⟨z1, e1, q1, q1'⟩ := o_int (c := (cs.drop 1).take 1) Tryz.underlying3 (by have := hx 1 _ rfl; rw [one 1 (by omega)] at this; simpa [Tryz.koi] using this)
  obtain ⟨z2, e2, q2, q2'⟩ := o_int (c := (cs.drop 2).take 1) Tryz.underlying3 (by have := hx 2 _ rfl; rw [one 2 (by omega)] at this; simpa [Tryz.koi] using this)
  obtain ⟨z3, e3, q3, q3'⟩ := o_int (c := (cs.drop 3).take 1) Tryz.underlying3 (by have := hx 3 _ rfl; rw [one 3 (by omega)] at this; simpa [Tryz.koi] using this)
  obtain ⟨z4, e4, q4, q4'⟩ := o_int (c := (cs.drop 4).take 1) Tryz.underlying2 (by have := hx 4 _ rfl; rw [one 4 (by omega)] at this; simpa [Tryz.koi, Tryz.kol] using this)
  obtain ⟨v5, e5⟩ := take_one25 cs 5 (by omega)
  have f5 : DataW.trod enc Tryz.prog w 0 (fun _ => true) held n 28 [v5] = some xs[5] := by rw [← e5, ← one 5 (by omega), ← hx 5 _ rfl]; simp [Tryz.kou, Tryz.koi, Tryz.kol]
  obtain ⟨s, rfl, hs, hb⟩ := open_y25 f5
  refine ⟨⟨z0, z1, z2, z3, z4, s⟩, ?_, ⟨⟨q0, q0'⟩, ⟨q1, q1'⟩, ⟨q2, q2'⟩, ⟨q3, q3'⟩, ⟨q4, q4'⟩, hs, hb⟩⟩
  have h6 : cs.drop 6 = [] := List.drop_eq_nil_of_le (by omega)
  conv => lhs; rw [← List.drop_zero (l := cs)]
  rw [drop_split cs 0 1, e0, drop_split cs (0 + 1) 1, e1, drop_split cs (0 + 1 + 1) 1, e2, drop_split cs (0 + 1 + 1 + 1) 1, e3, drop_split cs (0 + 1 + 1 + 1 + 1) 1, e4, drop_split cs (0 + 1 + 1 + 1 + 1 + 1) 1, e5, h6, List.append_nil]
  rfl
end
section
variable {H : Type} {enc : TypeId × Value → H} {w : World} {held : Bool} {r : Reach} {b0 : Nat} {v : Value} {d : DataW H} {p : List MemPlace}
set_option maxRecDepth 100000 in
theorem open_op_v (hv : Value.okWide Tryz.prog w r b0 30 v) (h : DataW.Trod enc Tryz.prog w 0 (fun _ => true) held 30 v d p) : ∃ y : OpA, v = aV (opC y.k y.n y.o y.c y.p y.s.v) ∧ y.Ok w := by
  obtain ⟨m, hm⟩ := h
  obtain ⟨y, hcs, hok⟩ := open_op25 hm
  have hw := okWide_struct Tryz.underlying30 hv
  clear hv
  obtain ⟨a, hva, -⟩ := hw
  subst hva
  refine ⟨y, ?_, hok⟩
  unfold aV
  rw [← hcs]
  cases a; simp [Value.cells]
set_option maxRecDepth 100000 in
theorem open_y25_v (hv : Value.okWide Tryz.prog w r b0 28 v) (h : DataW.Trod enc Tryz.prog w 0 (fun _ => true) held 28 v d p) : ∃ s : Sx Int, v = s.v ∧ Su w s ∧ IsB s.xs := by
  obtain ⟨m, hm⟩ := h
  have hc : v.cells.toList = [v] := by
    obtain ⟨a, n, c, rfl⟩ := okWide_slice Tryz.underlying28 hv
    rfl
  rw [hc] at hm
  exact open_y25 hm
end
end Go.Proofs.YtdcaojiiaocnaaaGreatDoor

set_option linter.unusedSimpArgs false
set_option linter.unusedVariables false
namespace Go.Proofs.YtdcaojiiaocnaaaGreatDoor
open Go.RowKit

/-! The law's sameOp: of equal operations. -/
theorem two25 (w : World) (a b : Obj) : Below w.heap.size w ((w.alloc a).alloc b) := ((Below.refl _ _).alloc (Nat.le_refl _) _).alloc (by simp) _
set_option maxHeartbeats 4000000 in
set_option maxRecDepth 100000 in
theorem sameOp_t (k n oo c p : Int) (a b : Sx Int) (w : World) (ha : Su w a) (hb : Su w b) (hn : a.n ≤ 1048576) (h : a.xs = b.xs) :
    Calls Tryz.prog 11 #[aV (opC k n oo c p a.v), aV (opC k n oo c p b.v)] w fun e w' => e = .returned (.bool true) ∧ Below w.heap.size w w' := by
  have hC : ∀ u, Below w.heap.size w u → Calls Tryz.prog 12 #[a.v, b.v] u fun e w' => e = .returned (.bool true) ∧ Below u.heap.size u w' := fun u hu => same_t (ha.later hu) (hb.later hu) hn h
  clear ha hb hn h
  obtain ⟨aa, an, ac, al⟩ := a
  obtain ⟨ba, bn, bc, bl⟩ := b
  simp only [Sx.v, aV, opC] at hC ⊢
  go_enter Tryz.func11, Tryz.ntmps11
  go_wp2_with (go_at_call 12; refine (hC _ (two25 _ _ _)).mono ?_; rintro e w1 ⟨rfl, hb1⟩)
  go_ret
  exact ⟨rfl, (two25 _ _ _).trans (hb1.mono (two25 _ _ _).size)⟩

theorem sl_of_su {w : World} {s : Sx Int} (h : Su w s) (hb : IsB s.xs) : Sl.Ok w ⟨s.a, s.n, s.c, s.xs⟩ := by
  refine ⟨h.len, h.le, h.mx, h.nn, hb, fun hp => ?_⟩
  have hp' : 0 < s.n := by rw [← h.len]; exact hp
  obtain ⟨b, off, h1, h2, h3⟩ := h.lies hp'
  refine ⟨b, off, h1, h2, fun i hi => ?_⟩
  have h9 := h3 i (s.xs[i]) (List.getElem?_eq_getElem hi) 0 _ rfl
  rw [Nat.mul_one, Nat.add_zero] at h9
  show _ = some (Value.int .u8 (s.xs.getD i 0))
  rw [getD_lt _ _ hi]; exact h9
theorem tell_some {O : Opq} {l v : Int} (hl : l ≠ 66) (hv : getL O l = v) {Z : Nat} (hZ : (decL v).length = Z) (h : Z ≤ 18 ∨ v < 0 ∧ Z = 19) : tellL O l = some (decL v) := by
  unfold tellL
  rw [if_neg hl, hv, if_pos ((dec_len18 v).1 (by rw [hZ]; exact h))]
theorem tell_none {O : Opq} {l v : Int} (hl : l ≠ 66) (hv : getL O l = v) {Z : Nat} (hZ : (decL v).length = Z) (h : ¬ (Z ≤ 18 ∨ v < 0 ∧ Z = 19)) : tellL O l = none := by
  unfold tellL
  rw [if_neg hl, hv, if_neg (fun h9 => h (by have := (dec_len18 v).2 h9; rw [hZ] at this; exact this))]
def TlP (O : Opq) (l : Int) (w : World) (e : Ending) (w' : World) : Prop := ∃ (T : ByteArray) (b : Bool), e = .returned (.tuple #[.string T, .bool b]) ∧ ((tellL O l = none ∧ b = false) ∨ (∃ f, tellL O l = some f ∧ T = strOfNums f ∧ b = true)) ∧ Below w.heap.size w w'
end Go.Proofs.YtdcaojiiaocnaaaGreatDoor
