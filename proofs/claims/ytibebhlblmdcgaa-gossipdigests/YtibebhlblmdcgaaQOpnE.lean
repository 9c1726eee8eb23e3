import Derived.Test.YtibebhlblmdcgaaQOpenG
import Derived.Test.YtibebhlblmdcgaaQGaB
import Derived.SizedLaws
import Derived.Deep.Slices
set_option linter.unusedSimpArgs false
set_option linter.unusedVariables false
namespace Go.Proofs.Ytibebhlblmdcgaa
open Go.ChangeShapes Go.WideShapes Go.ChangeAt Go.WideMaps Go.WideElems Go.RowKit

/-! Arguments opened: certificates, entries, floors. -/
theorem drop_split (cs : List Value) (o n : Nat) : cs.drop o = (cs.drop o).take n ++ cs.drop (o + n) := by
  rw [← List.drop_drop, List.take_append_drop]
section
variable {H : Type} {enc : TypeId × Value → H} {P : Program} {w : World} {held : Bool} {m : Nat}
theorem o_int {t : TypeId} {c : List Value} {x : DataW H × List MemPlace} (hu : P.underlying t = some (.int .i64)) (h : DataW.trod enc P w 0 (fun _ => true) held m t c = some x) : ∃ z : Int, c = [.int .i64 z] ∧ -9223372036854775808 ≤ z ∧ z ≤ 9223372036854775807 := by
  obtain ⟨z, e, -, hw⟩ := DataW.trod_int hu h
  have hb := bounds_i64 hw
  exact ⟨z, e, by omega, by omega⟩
theorem o_bool {t : TypeId} {c : List Value} {x : DataW H × List MemPlace} (hu : P.underlying t = some .bool) (h : DataW.trod enc P w 0 (fun _ => true) held m t c = some x) : ∃ b : Bool, c = [.bool b] := by
  obtain ⟨b, e, -⟩ := DataW.trod_bool hu h
  exact ⟨b, e⟩
theorem o_bytes {t e : TypeId} {n : Nat} {c : List Value} {x : DataW H × List MemPlace} (hu : P.underlying t = some (.array n e)) (hue : P.underlying e = some (.int .u8)) (hce : P.cellsOf e = 1) (hct : P.cellsOf t = n) (h : DataW.trod enc P w 0 (fun _ => true) held m t c = some x) : ∃ l, By n l ∧ c = U8 l := by
  obtain ⟨l, hl, hcs, -, wf⟩ := trod_ints_array hu hue hce hct h
  exact ⟨l, ⟨hl, fun z hz => by have := bounds_u8 (wf z hz); omega⟩, hcs⟩
end
section
variable {H : Type} {enc : TypeId × Value → H} {w : World} {held : Bool} {m : Nat}
theorem Try.ki : Try.prog.cellsOf 3 = 1 := by kernel_rfl
theorem Try.kj : Try.prog.cellsOf 2 = 1 := by kernel_rfl
theorem Try.kt : Try.prog.cellsOf 4 = 1 := by kernel_rfl
theorem Try.kh : Try.prog.cellsOf 41 = 32 := by kernel_rfl
theorem Try.kg : Try.prog.cellsOf 25 = 64 := by kernel_rfl
theorem Try.kb : Try.prog.cellsOf 5 = 1 := by kernel_rfl
theorem Try.kc : Try.prog.cellsOf 43 = 99 := by kernel_rfl
theorem Try.ke : Try.prog.cellsOf 45 = 262 := by kernel_rfl
theorem Try.kf : Try.prog.cellsOf 27 = 65 := by kernel_rfl
set_option maxRecDepth 100000 in
theorem open_cert {cs : List Value} {x : DataW H × List MemPlace} (h : DataW.trod enc Try.prog w 0 (fun _ => true) held m 43 cs = some x) : ∃ c : Crt, cs = crtC c ∧ c.Ok := by
  obtain ⟨xs, n, -, -, hcl, hl, hx⟩ := DataW.trod_struct Try.underlying43 h
  have hl' : xs.length = 5 := hl
  have hcl' : cs.length = 99 := hcl.trans Try.kc
  have one : ∀ i (hi : i < xs.length), xs[i]? = some xs[i] := fun i hi => by simp
  obtain ⟨z0, e0, -, -⟩ := o_int (c := (cs.drop 0).take 1) Try.underlying3 (by have := hx 0 _ rfl; rw [one 0 (by omega)] at this; rw [← Try.ki]; exact this)
  obtain ⟨z1, e1, -, -⟩ := o_int (c := (cs.drop 1).take 1) Try.underlying3 (by have := hx 1 _ rfl; rw [one 1 (by omega)] at this; rw [← Try.ki]; exact this)
  obtain ⟨z2, e2, -, -⟩ := o_int (c := (cs.drop 2).take 1) Try.underlying2 (by have := hx 2 _ rfl; rw [one 2 (by omega)] at this; rw [← Try.kj]; exact this)
  obtain ⟨l3, b3, e3⟩ := o_bytes (c := (cs.drop 3).take 32) Try.underlying41 Try.underlying5 Try.kb Try.kh (by have := hx 3 _ rfl; rw [one 3 (by omega)] at this; rw [← Try.kh]; exact this)
  obtain ⟨l4, b4, e4⟩ := o_bytes (c := (cs.drop 35).take 64) Try.underlying25 Try.underlying5 Try.kb Try.kg (by have := hx 4 _ rfl; rw [one 4 (by omega)] at this; rw [← Try.kg]; exact this)
  refine ⟨⟨z0, z1, z2, l3, l4⟩, ?_, ⟨b3, b4⟩⟩
  have h5 : cs.drop 99 = [] := List.drop_eq_nil_of_le (by omega)
  conv => lhs; rw [← List.drop_zero (l := cs)]
  rw [drop_split cs 0 1, e0, drop_split cs (0 + 1) 1, e1, drop_split cs (0 + 1 + 1) 1, e2, drop_split cs (0 + 1 + 1 + 1) 32, e3, drop_split cs (0 + 1 + 1 + 1 + 32) 64, e4, h5, List.append_nil]
  rfl
set_option maxRecDepth 100000 in
theorem open_ent {cs : List Value} {x : DataW H × List MemPlace} (h : DataW.trod enc Try.prog w 0 (fun _ => true) held m 45 cs = some x) : ∃ e : Ent, cs = eC e ∧ e.Ok := by
  obtain ⟨xs, n, -, -, hcl, hl, hx⟩ := DataW.trod_struct Try.underlying45 h
  have hl' : xs.length = 7 := hl
  have hcl' : cs.length = 262 := hcl.trans Try.ke
  have one : ∀ i (hi : i < xs.length), xs[i]? = some xs[i] := fun i hi => by simp
  obtain ⟨c0, e0, b0⟩ := open_cert (cs := (cs.drop 0).take 99) (by have := hx 0 _ rfl; rw [one 0 (by omega)] at this; rw [← Try.kc]; exact this)
  obtain ⟨z1, e1, -, -⟩ := o_int (c := (cs.drop 99).take 1) Try.underlying3 (by have := hx 1 _ rfl; rw [one 1 (by omega)] at this; rw [← Try.ki]; exact this)
  obtain ⟨l2, b2, e2⟩ := o_bytes (c := (cs.drop 100).take 32) Try.underlying41 Try.underlying5 Try.kb Try.kh (by have := hx 2 _ rfl; rw [one 2 (by omega)] at this; rw [← Try.kh]; exact this)
  obtain ⟨q3, e3⟩ := o_bool (c := (cs.drop 132).take 1) Try.underlying4 (by have := hx 3 _ rfl; rw [one 3 (by omega)] at this; rw [← Try.kt]; exact this)
  obtain ⟨l4, b4, e4⟩ := o_bytes (c := (cs.drop 133).take 64) Try.underlying25 Try.underlying5 Try.kb Try.kg (by have := hx 4 _ rfl; rw [one 4 (by omega)] at this; rw [← Try.kg]; exact this)
  obtain ⟨q5, e5⟩ := o_bool (c := (cs.drop 197).take 1) Try.underlying4 (by have := hx 5 _ rfl; rw [one 5 (by omega)] at this; rw [← Try.kt]; exact this)
  obtain ⟨l6, b6, e6⟩ := o_bytes (c := (cs.drop 198).take 64) Try.underlying25 Try.underlying5 Try.kb Try.kg (by have := hx 6 _ rfl; rw [one 6 (by omega)] at this; rw [← Try.kg]; exact this)
  refine ⟨⟨c0, z1, l2, q3, l4, q5, l6⟩, ?_, ⟨b0, b2, b4, b6⟩⟩
  have h5 : cs.drop 262 = [] := List.drop_eq_nil_of_le (by omega)
  conv => lhs; rw [← List.drop_zero (l := cs)]
  rw [drop_split cs 0 99, e0, drop_split cs (0 + 99) 1, e1, drop_split cs (0 + 99 + 1) 32, e2, drop_split cs (0 + 99 + 1 + 32) 1, e3, drop_split cs (0 + 99 + 1 + 32 + 1) 64, e4, drop_split cs (0 + 99 + 1 + 32 + 1 + 64) 1, e5, drop_split cs (0 + 99 + 1 + 32 + 1 + 64 + 1) 64, e6, h5, List.append_nil]
  rfl
set_option maxRecDepth 100000 in
theorem open_flr {cs : List Value} {x : DataW H × List MemPlace} (h : DataW.trod enc Try.prog w 0 (fun _ => true) held m 27 cs = some x) : ∃ f : Flr, cs = fC f ∧ f.Ok := by
  obtain ⟨xs, n, -, -, hcl, hl, hx⟩ := DataW.trod_struct Try.underlying27 h
  have hl' : xs.length = 2 := hl
  have hcl' : cs.length = 65 := hcl.trans Try.kf
  have one : ∀ i (hi : i < xs.length), xs[i]? = some xs[i] := fun i hi => by simp
  obtain ⟨z0, e0, -, -⟩ := o_int (c := (cs.drop 0).take 1) Try.underlying3 (by have := hx 0 _ rfl; rw [one 0 (by omega)] at this; rw [← Try.ki]; exact this)
  obtain ⟨l1, b1, e1⟩ := o_bytes (c := (cs.drop 1).take 64) Try.underlying25 Try.underlying5 Try.kb Try.kg (by have := hx 1 _ rfl; rw [one 1 (by omega)] at this; rw [← Try.kg]; exact this)
  refine ⟨⟨z0, l1⟩, ?_, ⟨b1⟩⟩
  have h5 : cs.drop 65 = [] := List.drop_eq_nil_of_le (by omega)
  conv => lhs; rw [← List.drop_zero (l := cs)]
  rw [drop_split cs 0 1, e0, drop_split cs (0 + 1) 64, e1, h5, List.append_nil]
  rfl
end
section
variable {H : Type} {enc : TypeId × Value → H} {w : World} {held : Bool} {r : Reach} {b0 : Nat} {v : Value} {d : DataW H} {p : List MemPlace}
set_option maxRecDepth 100000 in
theorem open_cert_v (hv : Value.okWide Try.prog w r b0 43 v) (h : DataW.Trod enc Try.prog w 0 (fun _ => true) held 43 v d p) : ∃ c : Crt, v = aV (crtC c) ∧ c.Ok := by
  obtain ⟨m, hm⟩ := h
  obtain ⟨c, hcs, hok⟩ := open_cert hm
  simp only [Value.okWide, Try.underlying43] at hv
  obtain ⟨cs, rfl, -⟩ := hv
  refine ⟨c, ?_, hok⟩
  have : cs.toList = crtC c := hcs
  rw [aV, ← this]
set_option maxRecDepth 100000 in
theorem open_ent_v (hv : Value.okWide Try.prog w r b0 45 v) (h : DataW.Trod enc Try.prog w 0 (fun _ => true) held 45 v d p) : ∃ e : Ent, v = aV (eC e) ∧ e.Ok := by
  obtain ⟨m, hm⟩ := h
  obtain ⟨c, hcs, hok⟩ := open_ent hm
  simp only [Value.okWide, Try.underlying45] at hv
  obtain ⟨cs, rfl, -⟩ := hv
  refine ⟨c, ?_, hok⟩
  have : cs.toList = eC c := hcs
  rw [aV, ← this]
end
end Go.Proofs.Ytibebhlblmdcgaa
