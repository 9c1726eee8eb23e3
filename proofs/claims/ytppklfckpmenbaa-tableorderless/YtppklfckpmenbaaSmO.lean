import Derived.Test.YtppklfckpmenbaaOpnE
set_option linter.unusedSimpArgs false
set_option linter.unusedVariables false
namespace Go.Proofs.Ytppklfckpmenbaa
open Go.ChangeShapes Go.WideShapes Go.ChangeAt Go.WideMaps Go.WideElems Go.RowKit

/-! Things that reach a table. -/
structure Sml where (rs : Bool) (ser : Int) (e : Ent) (f : Flr)
structure Sml.Ok (x : Sml) : Prop where
  e : x.e.Ok
  f : x.f.Ok
def smC (x : Sml) : List Value := [.bool x.rs] ++ ([.int .i64 x.ser] ++ (eC x.e ++ fC x.f))
theorem smC_len {x : Sml} (h : x.Ok) : (smC x).length = 329 := by simp [smC, eC_len h.e, fC_len h.f]
theorem at_srs (x : Sml) : At (smC x) 0 [.bool x.rs] := ⟨[], _, rfl, rfl⟩
theorem at_sser (x : Sml) : At (smC x) 1 [.int .i64 x.ser] := ⟨[.bool x.rs], _, rfl, rfl⟩
theorem at_se (x : Sml) : At (smC x) 2 (eC x.e) := ⟨[.bool x.rs, .int .i64 x.ser], _, rfl, rfl⟩
theorem at_sf {x : Sml} (h : x.Ok) : At (smC x) 264 (fC x.f) := ⟨[.bool x.rs, .int .i64 x.ser] ++ eC x.e, [], by simp [smC], by simp [eC_len h.e]⟩
section
variable {H : Type} {enc : TypeId × Value → H} {w : World} {held : Bool} {m : Nat}
set_option maxRecDepth 100000 in
theorem open_sml {cs : List Value} {x : DataW H × List MemPlace} (h : DataW.trod enc Try.prog w 0 (fun _ => true) held m 45 cs = some x) : ∃ e : Sml, cs = smC e ∧ e.Ok := by
  obtain ⟨xs, n, -, -, hcl, hl, hx⟩ := DataW.trod_struct Try.underlying45 h
  have hl' : xs.length = 4 := hl
  have hcl' : cs.length = 329 := hcl.trans (by kernel_rfl)
  have one : ∀ i (hi : i < xs.length), xs[i]? = some xs[i] := fun i hi => by simp
  obtain ⟨q0, e0⟩ := o_bool (c := (cs.drop 0).take 1) Try.underlying4 (by have := hx 0 _ rfl; rw [one 0 (by omega)] at this; rw [← Try.kt]; exact this)
  obtain ⟨z1, e1, -, -⟩ := o_int (c := (cs.drop 1).take 1) Try.underlying3 (by have := hx 1 _ rfl; rw [one 1 (by omega)] at this; rw [← Try.ki]; exact this)
  obtain ⟨x2, e2, b2⟩ := open_ent (cs := (cs.drop 2).take 262) (by have := hx 2 _ rfl; rw [one 2 (by omega)] at this; rw [← Try.ke]; exact this)
  obtain ⟨f3, e3, b3⟩ := open_flr (cs := (cs.drop 264).take 65) (by have := hx 3 _ rfl; rw [one 3 (by omega)] at this; rw [← Try.kf]; exact this)
  refine ⟨⟨q0, z1, x2, f3⟩, ?_, ⟨b2, b3⟩⟩
  have h5 : cs.drop 329 = [] := List.drop_eq_nil_of_le (by omega)
  conv => lhs; rw [← List.drop_zero (l := cs)]
  rw [drop_split cs 0 1, e0, drop_split cs (0 + 1) 1, e1, drop_split cs (0 + 1 + 1) 262, e2, drop_split cs (0 + 1 + 1 + 262) 65, e3, h5, List.append_nil]
  rfl
end
/-- a slice of structs as an argument -/
theorem open_sx {α : Type} [Inhabited α] {f : α → List Value} {sz : Nat} {ok : α → Prop} {T e : TypeId} {bytes : Nat} {H : Type} {enc : TypeId × Value → H} {w : World} {held : Bool} {m : Nat} (hu : Try.prog.underlying T = some (.slice e)) (kc : Try.prog.cellsOf e = sz) (kb : Try.prog.bytesOf e = bytes) (hsz : 0 < sz)
    (hel : ∀ (m : Nat) (cs : List Value) (x : DataW H × List MemPlace), DataW.trod enc Try.prog w 0 (fun _ => true) held m e cs = some x → ∃ y : α, cs = f y ∧ ok y) (hf : ∀ y, ok y → (f y).length = sz)
    {v : Value} {y : DataW H × List MemPlace} (h : DataW.trod enc Try.prog w 0 (fun _ => true) held m T [v] = some y) :
    ∃ s : Sx α, v = s.v ∧ s.Ok f sz w ∧ (∀ x ∈ s.xs, ok x) ∧ ((∀ x ∈ y.1.weights Try.prog T, x ≤ reachN) → s.n * bytes ≤ reachN) := by
  rcases Deep.open_slice hu h with ⟨hcs, _⟩ | ⟨a, len, cap, q, n, D, Pl, hcs, _, hl, hm, hq, hy, hx⟩
  · simp at hcs
    exact ⟨⟨none, 0, 0, []⟩, hcs, .nil w 0, (fun l hl => by cases hl), fun _ => by simp⟩
  · simp at hcs
    simp only [if_true] at hq
    subst hq
    rw [kc] at hx
    have hS : ∀ i, i < len → ∃ l : α, (∀ j, j < sz → w.cell? ((a.add (i * sz)).add j) = (f l)[j]?) ∧ ok l := by
      intro i hi
      obtain ⟨cs', h1, h2⟩ := hx i (by omega)
      obtain ⟨l, rfl, hok⟩ := hel _ _ _ h2
      exact ⟨l, (World.cells?_some h1).2.2, hok⟩
    obtain ⟨S, hS⟩ := Go.Deep.choose_lt hS
    refine ⟨⟨some a, len, q, (List.range len).map S⟩, (by rw [Sx.v]; simpa using hcs), ⟨by simp, hl, hm, (fun e => by cases e), fun hpos => ?_⟩, fun l hl' => ?_, fun hw => ?_⟩
    · simp only at hpos
      have h0 := (hS 0 hpos).1 0 hsz
      obtain ⟨b, off, spot⟩ := a
      obtain ⟨z, hz⟩ : ∃ z, (f (S 0))[0]? = some z := ⟨_, List.getElem?_eq_getElem (by rw [hf _ (hS 0 hpos).2]; exact hsz)⟩
      rw [hz] at h0
      have hspot : spot = none := by simpa [Addr.add] using World.cell?_spot h0
      subst hspot
      rw [addr_add, addr_add] at h0
      refine ⟨b, off, rfl, cell_lt h0, fun i l hi j v hv => ?_⟩
      have hil : i < len := by
        by_cases hil : i < len
        · exact hil
        · rw [List.getElem?_eq_none (by simp; omega)] at hi; simp at hi
      have ho : l = S i := by rw [List.getElem?_map, List.getElem?_range hil] at hi; simpa using hi.symm
      subst ho
      have g := (hS i hil).1
      simp only [addr_add] at g
      have hj : j < sz := by
        have h1 := (List.getElem?_eq_some_iff.1 hv).1
        rwa [hf _ (hS i hil).2] at h1
      rw [g j hj]; exact hv
    · simp at hl'
      obtain ⟨i, hi, rfl⟩ := hl'
      exact (hS i hi).2
    · rw [hy] at hw
      unfold DataW.weights at hw
      rw [hu] at hw
      simp only [List.length_map, List.length_range, kb] at hw
      have h1 := hw _ (List.mem_cons_self ..)
      have h2 : len * bytes ≤ (len + (q - len)) * bytes := Nat.mul_le_mul_right bytes (by omega)
      simp only
      omega
end Go.Proofs.Ytppklfckpmenbaa
