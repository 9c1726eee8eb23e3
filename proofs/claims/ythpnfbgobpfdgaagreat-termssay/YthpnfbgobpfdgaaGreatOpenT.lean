import Derived.Test.YthpnfbgobpfdgaaGreatOpenG
import Derived.Test.YthpnfbgobpfdgaaGreatLawM
import Derived.SizedLaws
namespace Go.Proofs.YthpnfbgobpfdgaaGreat
open Go.ChangeShapes Go.WideShapes Go.ChangeAt Go.WideMaps Go.WideElems Go.RowKit

/-! The law's Term, as it comes in. -/
def CellOk (k : Kd) (v : Value) : Prop := ∃ z, v = k.v z ∧ k.ok z
def kInt : Value → Int
  | .int _ z => z
  | .bool b => if b then 1 else 0
  | _ => 0
theorem CellOk.val {k : Kd} {v : Value} (h : CellOk k v) : v = k.v (kInt v) ∧ k.ok (kInt v) := by
  obtain ⟨z, rfl, hz⟩ := h
  cases k with
  | lt => exact ⟨rfl, hz⟩
  | eq => exact ⟨rfl, hz⟩
  | gt =>
    rcases hz with rfl | rfl
    · exact ⟨rfl, .inl rfl⟩
    · exact ⟨rfl, .inr rfl⟩
theorem piece_at {cs : List Value} {o m i : Nat} (hi : i < m) : ((cs.drop o).take m)[i]? = cs[o + i]? := by
  rw [List.getElem?_take, if_pos hi, List.getElem?_drop]

section
variable {H : Type} {enc : TypeId × Value → H} {P : Program} {w : World} {held : Bool} {m : Nat}
theorem f_int {t : TypeId} {cs : List Value} {o : Nat} {x : DataW H × List MemPlace} (hu : P.underlying t = some (.int .i64)) (h : DataW.trod enc P w 0 (fun _ => true) held m t ((cs.drop o).take 1) = some x) : ∃ v, cs[o]? = some v ∧ CellOk .n v := by
  obtain ⟨z, e, -, hw⟩ := DataW.trod_int hu h
  have h1 := piece_at (cs := cs) (o := o) (m := 1) (i := 0) (by decide)
  rw [e] at h1
  have hb := bounds_i64 hw
  exact ⟨.int .i64 z, by simpa using h1.symm, z, rfl, by simp only [Kd.ok]; omega⟩
theorem f_bool {t : TypeId} {cs : List Value} {o : Nat} {x : DataW H × List MemPlace} (hu : P.underlying t = some .bool) (h : DataW.trod enc P w 0 (fun _ => true) held m t ((cs.drop o).take 1) = some x) : ∃ v, cs[o]? = some v ∧ CellOk .t v := by
  obtain ⟨b, e, -⟩ := DataW.trod_bool hu h
  have h1 := piece_at (cs := cs) (o := o) (m := 1) (i := 0) (by decide)
  rw [e] at h1
  refine ⟨.bool b, by simpa using h1.symm, if b then 1 else 0, ?_, ?_⟩
  · cases b <;> rfl
  · cases b
    · exact .inl rfl
    · exact .inr rfl
theorem f_bytes {t e : TypeId} {n : Nat} {cs : List Value} {o : Nat} {x : DataW H × List MemPlace} (hu : P.underlying t = some (.array n e)) (hue : P.underlying e = some (.int .u8)) (hce : P.cellsOf e = 1) (hct : P.cellsOf t = n) (h : DataW.trod enc P w 0 (fun _ => true) held m t ((cs.drop o).take n) = some x) :
    ∀ i, i < n → ∃ v, cs[o + i]? = some v ∧ CellOk .b v := by
  obtain ⟨l, hl, hcs, -, wf⟩ := trod_ints_array hu hue hce hct h
  intro i hi
  have h1 := piece_at (cs := cs) (o := o) (m := n) (i := i) hi
  rw [hcs] at h1
  have hil : i < l.length := by omega
  have hb := bounds_u8 (wf l[i] (List.getElem_mem hil))
  exact ⟨.int .u8 l[i], by rw [← h1]; simp [hil], l[i], rfl, by simp only [Kd.ok]; omega⟩
end

section
variable {H : Type} {enc : TypeId × Value → H} {w : World} {held : Bool} {m : Nat}
set_option maxRecDepth 100000 in
theorem open_cert {cs : List Value} {x : DataW H × List MemPlace} (h : DataW.trod enc Tryz.prog w 0 (fun _ => true) held m 27 cs = some x) : ∀ i, i < 99 → ∃ v, cs[i]? = some v ∧ CellOk (sCert i) v := by
  obtain ⟨xs, n, -, -, -, hl, hx⟩ := DataW.trod_struct Tryz.underlying27 h
  have hl' : xs.length = 5 := hl
  have one : ∀ i (hi : i < xs.length), xs[i]? = some xs[i] := fun i hi => by simp
  have ki : Tryz.prog.cellsOf 3 = 1 := by kernel_rfl
  have kj : Tryz.prog.cellsOf 2 = 1 := by kernel_rfl
  have kh : Tryz.prog.cellsOf 23 = 32 := by kernel_rfl
  have kg : Tryz.prog.cellsOf 25 = 64 := by kernel_rfl
  have kb : Tryz.prog.cellsOf 5 = 1 := by kernel_rfl
  have f0 := f_int (o := 0) Tryz.underlying3 (by have := hx 0 _ rfl; rw [one 0 (by omega)] at this; rw [← ki]; exact this)
  have f1 := f_int (o := 1) Tryz.underlying3 (by have := hx 1 _ rfl; rw [one 1 (by omega)] at this; rw [← ki]; exact this)
  have f2 := f_int (o := 2) Tryz.underlying2 (by have := hx 2 _ rfl; rw [one 2 (by omega)] at this; rw [← kj]; exact this)
  have f3 := f_bytes (o := 3) Tryz.underlying23 Tryz.underlying5 kb kh (by have := hx 3 _ rfl; rw [one 3 (by omega)] at this; rw [← kh]; exact this)
  have f4 := f_bytes (o := 35) Tryz.underlying25 Tryz.underlying5 kb kg (by have := hx 4 _ rfl; rw [one 4 (by omega)] at this; rw [← kg]; exact this)
  intro i hi
  have hc : i = 0 ∨ i = 1 ∨ i = 2 ∨ (3 ≤ i ∧ i < 35) ∨ 35 ≤ i := by omega
  rcases hc with rfl | rfl | rfl | hc | hc
  · exact f0
  · exact f1
  · exact f2
  · have := f3 (i - 3) (by omega); rw [show 3 + (i - 3) = i by omega] at this; unfold sCert; rw [if_neg (by omega)]; exact this
  · have := f4 (i - 35) (by omega); rw [show 35 + (i - 35) = i by omega] at this; unfold sCert; rw [if_neg (by omega)]; exact this
set_option maxRecDepth 100000 in
theorem open_term {cs : List Value} {x : DataW H × List MemPlace} (h : DataW.trod enc Tryz.prog w 0 (fun _ => true) held m 30 cs = some x) : ∃ (y : Nat → Int) (bs : Sl), cs = tmC y bs.v ∧ (∀ i, i < 329 → (sTerm i).ok (y i)) ∧ bs.Ok w := by
  obtain ⟨xs, n, -, -, hcl, hl, hx⟩ := DataW.trod_struct Tryz.underlying30 h
  have hl' : xs.length = 12 := hl
  have hcl' : cs.length = 330 := hcl.trans (by kernel_rfl)
  have one : ∀ i (hi : i < xs.length), xs[i]? = some xs[i] := fun i hi => by simp
  have ki : Tryz.prog.cellsOf 3 = 1 := by kernel_rfl
  have kj : Tryz.prog.cellsOf 2 = 1 := by kernel_rfl
  have kt : Tryz.prog.cellsOf 4 = 1 := by kernel_rfl
  have kh : Tryz.prog.cellsOf 23 = 32 := by kernel_rfl
  have kg : Tryz.prog.cellsOf 25 = 64 := by kernel_rfl
  have kb : Tryz.prog.cellsOf 5 = 1 := by kernel_rfl
  have ks : Tryz.prog.cellsOf 28 = 1 := by kernel_rfl
  have kc : Tryz.prog.cellsOf 27 = 99 := by kernel_rfl
  have f0 := f_int (o := 0) Tryz.underlying3 (by have := hx 0 _ rfl; rw [one 0 (by omega)] at this; rw [← ki]; exact this)
  have f1 : ∀ i, i < 99 → ∃ v, ((cs.drop 1).take 99)[i]? = some v ∧ CellOk (sCert i) v := open_cert (by have := hx 1 _ rfl; rw [one 1 (by omega)] at this; rw [← kc]; exact this)
  have f2 := f_int (o := 100) Tryz.underlying3 (by have := hx 2 _ rfl; rw [one 2 (by omega)] at this; rw [← ki]; exact this)
  have f3 := f_bytes (o := 101) Tryz.underlying23 Tryz.underlying5 kb kh (by have := hx 3 _ rfl; rw [one 3 (by omega)] at this; rw [← kh]; exact this)
  have f4 := f_bool (o := 133) Tryz.underlying4 (by have := hx 4 _ rfl; rw [one 4 (by omega)] at this; rw [← kt]; exact this)
  have f5 := f_bytes (o := 134) Tryz.underlying25 Tryz.underlying5 kb kg (by have := hx 5 _ rfl; rw [one 5 (by omega)] at this; rw [← kg]; exact this)
  have f6 := f_bool (o := 198) Tryz.underlying4 (by have := hx 6 _ rfl; rw [one 6 (by omega)] at this; rw [← kt]; exact this)
  have f7 := f_bytes (o := 199) Tryz.underlying25 Tryz.underlying5 kb kg (by have := hx 7 _ rfl; rw [one 7 (by omega)] at this; rw [← kg]; exact this)
  have f8 := f_int (o := 263) Tryz.underlying3 (by have := hx 8 _ rfl; rw [one 8 (by omega)] at this; rw [← ki]; exact this)
  have f9 := f_int (o := 264) Tryz.underlying2 (by have := hx 9 _ rfl; rw [one 9 (by omega)] at this; rw [← kj]; exact this)
  have f10 := f_bytes (o := 265) Tryz.underlying25 Tryz.underlying5 kb kg (by have := hx 10 _ rfl; rw [one 10 (by omega)] at this; rw [← kg]; exact this)
  have e329 : (cs.drop 329).take 1 = [cs[329]] := by
    apply List.ext_getElem?
    intro i
    by_cases hi : i < 1
    · rw [piece_at hi, show i = 0 by omega]; simp [hcl']
    · rw [List.getElem?_eq_none (by simp; omega), List.getElem?_eq_none (by simp; omega)]
  have f11 := open_sl (v := cs[329]) (by have := hx 11 _ rfl; rw [one 11 (by omega)] at this; rw [← e329, ← ks]; exact this)
  obtain ⟨bs, hbs, okb, -⟩ := f11
  have key : ∀ i, i < 329 → ∃ v, cs[i]? = some v ∧ CellOk (sTerm i) v := by
    intro i hi
    have hc : i = 0 ∨ (1 ≤ i ∧ i < 100) ∨ i = 100 ∨ (101 ≤ i ∧ i < 133) ∨ i = 133 ∨ (134 ≤ i ∧ i < 198) ∨ i = 198 ∨ (199 ≤ i ∧ i < 263) ∨ i = 263 ∨ i = 264 ∨ 265 ≤ i := by omega
    rcases hc with rfl | hc | rfl | hc | rfl | hc | rfl | hc | rfl | rfl | hc
    · exact f0
    · have := f1 (i - 1) (by omega)
      rw [piece_at (by omega), show 1 + (i - 1) = i by omega] at this
      unfold sTerm; rw [if_neg (by omega), if_pos (by omega)]; exact this
    · exact f2
    · have := f3 (i - 101) (by omega); rw [show 101 + (i - 101) = i by omega] at this; unfold sTerm; (repeat (first | rw [if_pos (by omega)] | rw [if_neg (by omega)])); exact this
    · exact f4
    · have := f5 (i - 134) (by omega); rw [show 134 + (i - 134) = i by omega] at this; unfold sTerm; (repeat (first | rw [if_pos (by omega)] | rw [if_neg (by omega)])); exact this
    · exact f6
    · have := f7 (i - 199) (by omega); rw [show 199 + (i - 199) = i by omega] at this; unfold sTerm; (repeat (first | rw [if_pos (by omega)] | rw [if_neg (by omega)])); exact this
    · exact f8
    · exact f9
    · have := f10 (i - 265) (by omega); rw [show 265 + (i - 265) = i by omega] at this; unfold sTerm; (repeat (first | rw [if_pos (by omega)] | rw [if_neg (by omega)])); exact this
  refine ⟨fun i => kInt (cs.getD i undef), bs, ?_, fun i hi => ?_, okb⟩
  · apply List.ext_getElem?
    intro i
    by_cases hi : i < 329
    · obtain ⟨v, hv, hk⟩ := key i hi
      rw [tmC_at _ _ _ hi, hv, List.getD_eq_getElem?_getD, hv]
      exact congrArg some hk.val.1
    · by_cases h9 : i = 329
      · subst h9
        unfold tmC
        rw [List.getElem?_append_right (by rw [cl_length]; omega), cl_length]
        rw [List.getElem?_eq_getElem (by omega), hbs]
        rfl
      · rw [List.getElem?_eq_none (by omega), List.getElem?_eq_none (by rw [tmC_length]; omega)]
  · obtain ⟨v, hv, hk⟩ := key i hi
    show (sTerm i).ok (kInt (cs.getD i undef))
    rw [List.getD_eq_getElem?_getD, hv]
    exact hk.val.2
end
set_option maxRecDepth 100000 in
theorem open_term_v {H : Type} {enc : TypeId × Value → H} {w : World} {held : Bool} {r : Reach} {b0 : Nat} {v : Value} {d : DataW H} {p : List MemPlace} (hv : Value.okWide Tryz.prog w r b0 30 v) (h : DataW.Trod enc Tryz.prog w 0 (fun _ => true) held 30 v d p) : ∃ (y : Nat → Int) (bs : Sl), v = .agg (tmC y bs.v).toArray ∧ (∀ i, i < 329 → (sTerm i).ok (y i)) ∧ bs.Ok w := by
  obtain ⟨m, hm⟩ := h
  obtain ⟨y, bs, hcs, hok, hb⟩ := open_term hm
  simp only [Value.okWide, Tryz.underlying30] at hv
  obtain ⟨cs, rfl, -⟩ := hv
  refine ⟨y, bs, ?_, hok, hb⟩
  have : cs.toList = tmC y bs.v := hcs
  rw [← this]
end Go.Proofs.YthpnfbgobpfdgaaGreat
