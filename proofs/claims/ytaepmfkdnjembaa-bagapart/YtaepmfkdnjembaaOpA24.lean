import Derived.Test.YtaepmfkdnjembaaOpenG
import Derived.Test.YtaepmfkdnjembaaBaM
import Derived.Test.YtaepmfkdnjembaaOrM24
import Derived.SizedLaws
import Derived.Deep.Slices
set_option linter.unusedSimpArgs false
set_option linter.unusedVariables false
namespace Go.Proofs.Ytaepmfkdnjembaa
open Go.ChangeShapes Go.WideShapes Go.ChangeAt Go.WideMaps Go.WideElems Go.RowKit

/-! Arguments opened: bytes, lists of bytes, numbers, steps. -/
theorem drop_split (cs : List Value) (o n : Nat) : cs.drop o = (cs.drop o).take n ++ cs.drop (o + n) := by
  rw [← List.drop_drop, List.take_append_drop]
section
variable {H : Type} {enc : TypeId × Value → H} {P : Program} {w : World} {held : Bool} {m : Nat}
theorem o_int {t : TypeId} {c : List Value} {x : DataW H × List MemPlace} (hu : P.underlying t = some (.int .i64)) (h : DataW.trod enc P w 0 (fun _ => true) held m t c = some x) : ∃ z : Int, c = [.int .i64 z] ∧ -9223372036854775808 ≤ z ∧ z ≤ 9223372036854775807 := by
  obtain ⟨z, e, -, hw⟩ := DataW.trod_int hu h
  have hb := bounds_i64 hw
  exact ⟨z, e, by omega, by omega⟩
theorem o_bool {t : TypeId} {c : List Value} {x : DataW H × List MemPlace} (hu : P.underlying t = some .bool) (h : DataW.trod enc P w 0 (fun _ => true) held m t c = some x) : ∃ b : Bool, c = [.bool b] := by
  obtain ⟨b, e, -⟩ := DataW.trod_bool hu h
  exact ⟨b, e⟩
end
/-- a slice of structs as an argument -/
theorem open_sx {α : Type} [Inhabited α] {f : α → List Value} {sz : Nat} {ok : α → Prop} {T e : TypeId} {bytes : Nat} {H : Type} {enc : TypeId × Value → H} {w : World} {held : Bool} {m : Nat} (hu : Try.prog.underlying T = some (.slice e)) (kc : Try.prog.cellsOf e = sz) (kb : Try.prog.bytesOf e = bytes) (hsz : 0 < sz)
    (hel : ∀ (m : Nat) (cs : List Value) (x : DataW H × List MemPlace), DataW.trod enc Try.prog w 0 (fun _ => true) held m e cs = some x → ∃ y : α, cs = f y ∧ ok y) (hf : ∀ y, ok y → (f y).length = sz)
    {v : Value} {y : DataW H × List MemPlace} (h : DataW.trod enc Try.prog w 0 (fun _ => true) held m T [v] = some y) :
    ∃ s : Sx α, v = s.v ∧ s.Ok f sz w ∧ (∀ x ∈ s.xs, ok x) ∧ ((∀ x ∈ y.1.weights Try.prog T, x ≤ reachN) → s.n * bytes ≤ reachN) := by
  rcases Deep.open_slice hu h with ⟨hcs, _⟩ | ⟨a, len, cap, q, n, D, Pl, hcs, _, hl, hm, hq, hy, hx⟩
  · simp at hcs
    exact ⟨⟨none, 0, 0, []⟩, hcs, .nil w 0, (fun l hl => by cases hl), fun _ => by simp⟩
  · simp at hcs
    simp only [if_true] at hq
    subst hq
    rw [kc] at hx
    have hS : ∀ i, i < len → ∃ l : α, (∀ j, j < sz → w.cell? ((a.add (i * sz)).add j) = (f l)[j]?) ∧ ok l := by
      intro i hi
      obtain ⟨cs', h1, h2⟩ := hx i (by omega)
      obtain ⟨l, rfl, hok⟩ := hel _ _ _ h2
      exact ⟨l, (World.cells?_some h1).2.2, hok⟩
    obtain ⟨S, hS⟩ := Go.Deep.choose_lt hS
    refine ⟨⟨some a, len, q, (List.range len).map S⟩, (by rw [Sx.v]; simpa using hcs), ⟨by simp, hl, hm, (fun e => by cases e), fun hpos => ?_⟩, fun l hl' => ?_, fun hw => ?_⟩
    · simp only at hpos
      have h0 := (hS 0 hpos).1 0 hsz
      obtain ⟨b, off, spot⟩ := a
      obtain ⟨z, hz⟩ : ∃ z, (f (S 0))[0]? = some z := ⟨_, List.getElem?_eq_getElem (by rw [hf _ (hS 0 hpos).2]; exact hsz)⟩
      rw [hz] at h0
      have hspot : spot = none := by simpa [Addr.add] using World.cell?_spot h0
      subst hspot
      rw [addr_add, addr_add] at h0
      refine ⟨b, off, rfl, cell_lt h0, fun i l hi j v hv => ?_⟩
      have hil : i < len := by
        by_cases hil : i < len
        · exact hil
        · rw [List.getElem?_eq_none (by simp; omega)] at hi; simp at hi
      have ho : l = S i := by rw [List.getElem?_map, List.getElem?_range hil] at hi; simpa using hi.symm
      subst ho
      have g := (hS i hil).1
      simp only [addr_add] at g
      have hj : j < sz := by
        have h1 := (List.getElem?_eq_some_iff.1 hv).1
        rwa [hf _ (hS i hil).2] at h1
      rw [g j hj]; exact hv
    · simp at hl'
      obtain ⟨i, hi, rfl⟩ := hl'
      exact (hS i hi).2
    · rw [hy] at hw
      unfold DataW.weights at hw
      rw [hu] at hw
      simp only [List.length_map, List.length_range, kb] at hw
      have h1 := hw _ (List.mem_cons_self ..)
      have h2 : len * bytes ≤ (len + (q - len)) * bytes := Nat.mul_le_mul_right bytes (by omega)
      simp only
      omega


theorem Try.ki : Try.prog.cellsOf 3 = 1 := by kernel_rfl
theorem Try.ku : Try.prog.cellsOf 27 = 1 := by kernel_rfl
theorem Try.kd : Try.prog.cellsOf 32 = 4 := by kernel_rfl
theorem sl_su {w : World} {s : Sl} (h : s.Ok w) : Su w ⟨s.a, s.n, s.c, s.l⟩ := by
  refine ⟨h.len, h.le, h.mx, h.nn, fun h0 => ?_⟩
  obtain ⟨b, off, e, hlt, hc⟩ := h.lies (by have := h.len; simp only at h0; omega)
  refine ⟨b, off, e, hlt, fun i x hi j v hv => ?_⟩
  have hil := (List.getElem?_eq_some_iff.1 hi).1
  have hj : j = 0 := by
    have := (List.getElem?_eq_some_iff.1 hv).1
    rw [uC_len] at this; omega
  subst hj
  have h1 := hc i hil
  have hx : s.l.getD i 0 = x := by simp only [List.getD_eq_getElem?_getD]; simp only at hi; rw [hi]; rfl
  rw [hx] at h1
  have hv' : v = .int .u8 x := by simp [uC] at hv; exact hv.symm
  subst hv'
  simpa using h1
section
variable {H : Type} {enc : TypeId × Value → H} {w : World} {held : Bool} {m : Nat}
theorem open_u {v : Value} {y : DataW H × List MemPlace} (h : DataW.trod enc Try.prog w 0 (fun _ => true) held m 27 [v] = some y) : ∃ s : Sx Int, v = s.v ∧ Su w s := by
  obtain ⟨s, rfl, hs, -⟩ := open_sl h
  exact ⟨⟨s.a, s.n, s.c, s.l⟩, rfl, sl_su hs⟩
theorem take_one24 (cs : List Value) (o : Nat) (h : o < cs.length) : ∃ v, (cs.drop o).take 1 = [v] := ⟨cs[o], by rw [List.drop_eq_getElem_cons h]; rfl⟩
set_option maxRecDepth 100000 in
theorem open_ub {cs : List Value} {x : DataW H × List MemPlace} (h : DataW.trod enc Try.prog w 0 (fun _ => true) held m 27 cs = some x) : ∃ y : Sx Int, cs = sbC y ∧ Su w y := by
  obtain ⟨v, rfl⟩ : ∃ v, cs = [v] := by
    rcases Deep.open_slice Try.underlying27 h with ⟨hcs, _⟩ | ⟨a, len, cap, q, n, D, Pl, hcs, _⟩
    · exact ⟨_, hcs⟩
    · exact ⟨_, hcs⟩
  obtain ⟨s, rfl, hs⟩ := open_u h
  exact ⟨s, rfl, hs⟩
set_option maxRecDepth 100000 in
theorem open_msg {cs : List Value} {x : DataW H × List MemPlace} (h : DataW.trod enc Try.prog w 0 (fun _ => true) held m 32 cs = some x) : ∃ y : Ms, cs = mC y ∧ Su w y.s := by
  obtain ⟨xs, n, -, -, hcl, hl, hx⟩ := DataW.trod_struct Try.underlying32 h
  have hl' : xs.length = 4 := hl
  have hcl' : cs.length = 4 := hcl.trans (by kernel_rfl)
  have one : ∀ i (hi : i < xs.length), xs[i]? = some xs[i] := fun i hi => by simp
  obtain ⟨z0, e0, -, -⟩ := o_int (c := (cs.drop 0).take 1) Try.underlying3 (by have := hx 0 _ rfl; rw [one 0 (by omega)] at this; rw [← Try.ki]; exact this)
  obtain ⟨z1, e1, -, -⟩ := o_int (c := (cs.drop 1).take 1) Try.underlying3 (by have := hx 1 _ rfl; rw [one 1 (by omega)] at this; rw [← Try.ki]; exact this)
  obtain ⟨z2, e2, -, -⟩ := o_int (c := (cs.drop 2).take 1) Try.underlying3 (by have := hx 2 _ rfl; rw [one 2 (by omega)] at this; rw [← Try.ki]; exact this)
  obtain ⟨v3, e3⟩ := take_one24 cs 3 (by omega)
  have f3 : DataW.trod enc Try.prog w 0 (fun _ => true) held n 27 [v3] = some xs[3] := by rw [← e3, ← one 3 (by omega), ← hx 3 _ rfl]; simp [Try.ku]
  obtain ⟨s, rfl, hs⟩ := open_u f3
  refine ⟨⟨z0, z1, z2, s⟩, ?_, hs⟩
  have h5 : cs.drop 4 = [] := List.drop_eq_nil_of_le (by omega)
  conv => lhs; rw [← List.drop_zero (l := cs)]
  rw [drop_split cs 0 1, e0, drop_split cs (0 + 1) 1, e1, drop_split cs (0 + 1 + 1) 1, e2, drop_split cs (0 + 1 + 1 + 1) 1, e3, h5, List.append_nil]
  rfl
/-- a step -/
structure Stq where (k : Int) (m : Ms) (d n : Int)
def tC24 (s : Stq) : List Value := stC s.k s.m.i s.m.f s.m.t s.m.s.v s.d s.n
theorem tC24_len (s : Stq) : (tC24 s).length = 7 := rfl
structure Stq.Ok (w : World) (s : Stq) : Prop where
  b : Su w s.m.s
  d : I64 s.d
  n : I64 s.n
  k : I64 s.k
set_option maxRecDepth 100000 in
theorem open_stq {cs : List Value} {x : DataW H × List MemPlace} (h : DataW.trod enc Try.prog w 0 (fun _ => true) held m 52 cs = some x) : ∃ y : Stq, cs = tC24 y ∧ y.Ok w := by
  obtain ⟨xs, n, -, -, hcl, hl, hx⟩ := DataW.trod_struct Try.underlying52 h
  have hl' : xs.length = 4 := hl
  have hcl' : cs.length = 7 := hcl.trans (by kernel_rfl)
  have one : ∀ i (hi : i < xs.length), xs[i]? = some xs[i] := fun i hi => by simp
  obtain ⟨z0, e0, q0, q0'⟩ := o_int (c := (cs.drop 0).take 1) Try.underlying3 (by have := hx 0 _ rfl; rw [one 0 (by omega)] at this; rw [← Try.ki]; exact this)
  have f1 : DataW.trod enc Try.prog w 0 (fun _ => true) held n 32 ((cs.drop 1).take 4) = some xs[1] := by rw [← one 1 (by omega), ← hx 1 _ rfl]; simp [Try.kd]
  obtain ⟨y, e1, hy⟩ := open_msg f1
  obtain ⟨z2, e2, q2, q2'⟩ := o_int (c := (cs.drop 5).take 1) Try.underlying3 (by have := hx 2 _ rfl; rw [one 2 (by omega)] at this; rw [← Try.ki]; exact this)
  obtain ⟨z3, e3, q3, q3'⟩ := o_int (c := (cs.drop 6).take 1) Try.underlying3 (by have := hx 3 _ rfl; rw [one 3 (by omega)] at this; rw [← Try.ki]; exact this)
  refine ⟨⟨z0, y, z2, z3⟩, ?_, ⟨hy, ⟨q2, q2'⟩, ⟨q3, q3'⟩, ⟨q0, q0'⟩⟩⟩
  have h5 : cs.drop 7 = [] := List.drop_eq_nil_of_le (by omega)
  conv => lhs; rw [← List.drop_zero (l := cs)]
  rw [drop_split cs 0 1, e0, drop_split cs (0 + 1) 4, e1, drop_split cs (0 + 1 + 4) 1, e2, drop_split cs (0 + 1 + 4 + 1) 1, e3, h5, List.append_nil]
  rfl
end
theorem trod_slice_one {P : Program} {H : Type} {enc : TypeId × Value → H} {w : World} {held : Bool} {r : Reach} {b0 : Nat} {T e : TypeId} {v : Value} (hu : P.underlying T = some (.slice e)) (hv : Value.okWide P w r b0 T v) : v.cells.toList = [v] := by
  obtain ⟨a, n, c, rfl⟩ := okWide_slice hu hv
  rfl
section
variable {H : Type} {enc : TypeId × Value → H} {w : World} {held : Bool} {r : Reach} {b0 : Nat} {v : Value} {d : DataW H} {p : List MemPlace}
set_option maxRecDepth 100000 in
theorem open_u_v (hv : Value.okWide Try.prog w r b0 27 v) (h : DataW.Trod enc Try.prog w 0 (fun _ => true) held 27 v d p) : ∃ s : Sx Int, v = s.v ∧ Su w s := by
  obtain ⟨m, hm⟩ := h
  rw [trod_slice_one (enc := enc) (held := held) Try.underlying27 hv] at hm
  exact open_u hm
set_option maxRecDepth 100000 in
theorem open_us_v (hv : Value.okWide Try.prog w r b0 22 v) (h : DataW.Trod enc Try.prog w 0 (fun _ => true) held 22 v d p) : ∃ s : Sx (Sx Int), v = s.v ∧ s.Ok sbC 1 w ∧ ∀ x ∈ s.xs, Su w x := by
  obtain ⟨m, hm⟩ := h
  rw [trod_slice_one (enc := enc) (held := held) Try.underlying22 hv] at hm
  have : Inhabited (Sx Int) := ⟨⟨none, 0, 0, []⟩⟩
  obtain ⟨s, hs, hok, hr, -⟩ := open_sx (f := sbC) (sz := 1) (ok := Su w) (bytes := 24) Try.underlying22 (by kernel_rfl) (by kernel_rfl) (by decide) (fun m cs x hx => open_ub hx) (fun y _ => sbC_len y) hm
  exact ⟨s, hs, hok, hr⟩
set_option maxRecDepth 100000 in
theorem open_is_v (hv : Value.okWide Try.prog w r b0 23 v) (h : DataW.Trod enc Try.prog w 0 (fun _ => true) held 23 v d p) : ∃ s : Sx Int, v = s.v ∧ s.Ok iC 1 w ∧ ∀ x ∈ s.xs, I64 x := by
  obtain ⟨m, hm⟩ := h
  rw [trod_slice_one (enc := enc) (held := held) Try.underlying23 hv] at hm
  obtain ⟨s, hs, hok, hr, -⟩ := open_sx (f := iC) (sz := 1) (ok := I64) (bytes := 8) Try.underlying23 (by kernel_rfl) (by kernel_rfl) (by decide) (fun m cs x hx => by obtain ⟨z, e, h1, h2⟩ := o_int Try.underlying3 hx; exact ⟨z, e, h1, h2⟩) (fun y _ => iC_len y) hm
  exact ⟨s, hs, hok, hr⟩
set_option maxRecDepth 100000 in
theorem open_stqs_v (hv : Value.okWide Try.prog w r b0 46 v) (h : DataW.Trod enc Try.prog w 0 (fun _ => true) held 46 v d p) : ∃ s : Sx Stq, v = s.v ∧ (s.Ok tC24 7 w ∧ ∀ x ∈ s.xs, x.Ok w) ∧ ((∀ x ∈ d.weights Try.prog 46, x ≤ reachN) → s.n ≤ reachN) := by
  obtain ⟨m, hm⟩ := h
  rw [trod_slice_one (enc := enc) (held := held) Try.underlying46 hv] at hm
  have : Inhabited Stq := ⟨⟨0, zM, 0, 0⟩⟩
  obtain ⟨s, hs, hok, hr, hw⟩ := open_sx (f := tC24) (sz := 7) (ok := Stq.Ok w) (bytes := 72) Try.underlying46 (by kernel_rfl) (by kernel_rfl) (by decide) (fun m cs x hx => open_stq hx) (fun y _ => tC24_len y) hm
  exact ⟨s, hs, ⟨hok, hr⟩, fun h => by have := hw h; omega⟩
end
end Go.Proofs.Ytaepmfkdnjembaa
