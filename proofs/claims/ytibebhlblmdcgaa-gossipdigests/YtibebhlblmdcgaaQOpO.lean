import Derived.Test.YtibebhlblmdcgaaQOpnE
import Derived.Test.YtibebhlblmdcgaaQRpW
set_option linter.unusedSimpArgs false
set_option linter.unusedVariables false
namespace Go.Proofs.Ytibebhlblmdcgaa
open Go.ChangeShapes Go.WideShapes Go.ChangeAt Go.WideMaps Go.WideElems Go.RowKit

section
variable {P : Program} {o : Oper} {a : Act} {w : World}
theorem ex_load1R (t : TypeId) (x : Operand) (ho : o.op = .load t x) (g off : Nat) (hx : a.eval x = .pointer (some ⟨g, off, none⟩)) (v : Value) (hr : w.rangeAt g off [v]) {d : TypeDesc} (hu : P.underlying t = some d) (hd : d.isRow = false) :
    (execOp a.eval o).run P w = .ok (.value v) w := by
  have hc := hr 0 v rfl
  have hA : (isAgg t).run P w = .ok false w := by
    unfold isAgg
    rw [Sem.run_bind, run_underlying hu w]
    cases d <;> simp_all [TypeDesc.isRow]
  rw [Nat.add_zero] at hc
  have hl : (loadVar t ⟨g, off, none⟩).run P w = .ok v w := by
    simp [loadVar, Sem.run_bind, hA, run_load, hc]
  unfold execOp
  simp only [ho, hx, Instr.loadAt, Instr.sureAddr, Sem.run_bind, Sem.run_pure, Result.andThen_ok, hl]
end
/-- a part of what lies there -/
theorem At.rangeR {w : World} {g off o : Nat} {c p : List Value} (h : At c o p) (hr : w.rangeAt g off c) : w.rangeAt g (off + o) p := fun j v hv => by
  rw [Nat.add_assoc]; exact hr _ v (h.get hv)
/-! Calls on a table. -/
structure Opr where (kd : Int) (e : Ent) (f : Flr) (m : Int) (ser : Int)
structure Opr.Ok (x : Opr) : Prop where
  e : x.e.Ok
  f : x.f.Ok
def opC (x : Opr) : List Value := [.int .i64 x.kd] ++ (eC x.e ++ (fC x.f ++ [.int .i64 x.m, .int .i64 x.ser]))
theorem opC_len {x : Opr} (h : x.Ok) : (opC x).length = 330 := by simp [opC, eC_len h.e, fC_len h.f]
theorem at_okd (x : Opr) : At (opC x) 0 [.int .i64 x.kd] := ⟨[], _, rfl, rfl⟩
theorem at_oe (x : Opr) : At (opC x) 1 (eC x.e) := ⟨[.int .i64 x.kd], _, rfl, rfl⟩
theorem at_of {x : Opr} (h : x.Ok) : At (opC x) 263 (fC x.f) := ⟨[.int .i64 x.kd] ++ eC x.e, [.int .i64 x.m, .int .i64 x.ser], by simp [opC], by simp [eC_len h.e]⟩
theorem at_om {x : Opr} (h : x.Ok) : At (opC x) 328 [.int .i64 x.m] := ⟨[.int .i64 x.kd] ++ eC x.e ++ fC x.f, [.int .i64 x.ser], by simp [opC], by simp [eC_len h.e, fC_len h.f]⟩
theorem at_oser {x : Opr} (h : x.Ok) : At (opC x) 329 [.int .i64 x.ser] := ⟨[.int .i64 x.kd] ++ eC x.e ++ fC x.f ++ [.int .i64 x.m], [], by simp [opC], by simp [eC_len h.e, fC_len h.f]⟩
/-- a slice of structs as an argument -/
theorem open_sx {α : Type} [Inhabited α] {f : α → List Value} {sz : Nat} {ok : α → Prop} {T e : TypeId} {bytes : Nat} {H : Type} {enc : TypeId × Value → H} {w : World} {held : Bool} {m : Nat} (hu : Try.prog.underlying T = some (.slice e)) (kc : Try.prog.cellsOf e = sz) (kb : Try.prog.bytesOf e = bytes) (hsz : 0 < sz)
    (hel : ∀ (m : Nat) (cs : List Value) (x : DataW H × List MemPlace), DataW.trod enc Try.prog w 0 (fun _ => true) held m e cs = some x → ∃ y : α, cs = f y ∧ ok y) (hf : ∀ y, ok y → (f y).length = sz)
    {v : Value} {y : DataW H × List MemPlace} (h : DataW.trod enc Try.prog w 0 (fun _ => true) held m T [v] = some y) :
    ∃ s : Sx α, v = s.v ∧ s.Ok f sz w ∧ (∀ x ∈ s.xs, ok x) ∧ ((∀ x ∈ y.1.weights Try.prog T, x ≤ reachN) → s.n * bytes ≤ reachN) := by
  rcases Deep.open_slice hu h with ⟨hcs, _⟩ | ⟨a, len, cap, q, n, D, Pl, hcs, _, hl, hm, hq, hy, hx⟩
  · simp at hcs
    exact ⟨⟨none, 0, 0, []⟩, hcs, .nil w 0, (fun l hl => by cases hl), fun _ => by simp⟩
  · simp at hcs
    simp only [if_true] at hq
    subst hq
    rw [kc] at hx
    have hS : ∀ i, i < len → ∃ l : α, (∀ j, j < sz → w.cell? ((a.add (i * sz)).add j) = (f l)[j]?) ∧ ok l := by
      intro i hi
      obtain ⟨cs', h1, h2⟩ := hx i (by omega)
      obtain ⟨l, rfl, hok⟩ := hel _ _ _ h2
      exact ⟨l, (World.cells?_some h1).2.2, hok⟩
    obtain ⟨S, hS⟩ := Go.Deep.choose_lt hS
    refine ⟨⟨some a, len, q, (List.range len).map S⟩, (by rw [Sx.v]; simpa using hcs), ⟨by simp, hl, hm, (fun e => by cases e), fun hpos => ?_⟩, fun l hl' => ?_, fun hw => ?_⟩
    · simp only at hpos
      have h0 := (hS 0 hpos).1 0 hsz
      obtain ⟨b, off, spot⟩ := a
      obtain ⟨z, hz⟩ : ∃ z, (f (S 0))[0]? = some z := ⟨_, List.getElem?_eq_getElem (by rw [hf _ (hS 0 hpos).2]; exact hsz)⟩
      rw [hz] at h0
      have hspot : spot = none := by simpa [Addr.add] using World.cell?_spot h0
      subst hspot
      rw [addr_add, addr_add] at h0
      refine ⟨b, off, rfl, cell_lt h0, fun i l hi j v hv => ?_⟩
      have hil : i < len := by
        by_cases hil : i < len
        · exact hil
        · rw [List.getElem?_eq_none (by simp; omega)] at hi; simp at hi
      have ho : l = S i := by rw [List.getElem?_map, List.getElem?_range hil] at hi; simpa using hi.symm
      subst ho
      have g := (hS i hil).1
      simp only [addr_add] at g
      have hj : j < sz := by
        have h1 := (List.getElem?_eq_some_iff.1 hv).1
        rwa [hf _ (hS i hil).2] at h1
      rw [g j hj]; exact hv
    · simp at hl'
      obtain ⟨i, hi, rfl⟩ := hl'
      exact (hS i hi).2
    · rw [hy] at hw
      unfold DataW.weights at hw
      rw [hu] at hw
      simp only [List.length_map, List.length_range, kb] at hw
      have h1 := hw _ (List.mem_cons_self ..)
      have h2 : len * bytes ≤ (len + (q - len)) * bytes := Nat.mul_le_mul_right bytes (by omega)
      simp only
      omega
/-- rows of calls that may be read -/
structure Os (w : World) (s : Sx Opr) : Prop where
  ok : s.Ok opC 330 w
  e : ∀ x ∈ s.xs, x.Ok
theorem Os.later {w w' : World} {s : Sx Opr} (h : Os w s) (hb : Below w.heap.size w w') : Os w' s := ⟨h.ok.later hb, h.e⟩
theorem Os.old {w w' : World} {s : Sx Opr} (h : Os w s) (ho : Old w w') : Os w' s := ⟨h.ok.keep ho.size (fun _ x _ hx => ho.block _ hx), h.e⟩
theorem Os.at_ {w : World} {s : Sx Opr} (h : Os w s) {k : Nat} (hk : k < s.n) : ∃ x b off, s.xs[k]? = some x ∧ x.Ok ∧ s.a = some ⟨b, off, none⟩ ∧ b < w.heap.size ∧ w.rangeAt b (off + k * 330) (opC x) := by
  have hl := h.ok.len
  have hg : s.xs[k]? = some (s.xs[k]'(by omega)) := List.getElem?_eq_getElem (by omega)
  obtain ⟨b, off, e, hb, hr⟩ := h.ok.at_ hg
  exact ⟨_, b, off, hg, h.e _ (List.mem_of_getElem? hg), e, hb, hr⟩
/-- whatever is put, the rows stay in order -/
theorem rput_gen (f : Flr) (acc : Int) (s : Sx Ent) (m : Int) (e : Ent) (w : World) (hf : f.Ok) (he : e.Ok) (hs : Es w s) (hbd : (s.n + 1) * 296 ≤ 140737488355328) (hso : Sorted s.xs) :
    Calls Try.prog 14 #[aV (gC f acc s.v), .int .i64 m, aV (eC e)] w fun r w' => ∃ (s1 : Sx Ent) (b : Bool) (c : Int), r = .returned (.tuple #[aV (gC f acc s1.v), .bool b, .int .i64 c]) ∧ Sorted s1.xs ∧ s1.xs.length ≤ s.xs.length + 1 ∧ (s1 = s ∨ Oe w' w.heap.size s1.v s1.xs) ∧ Below w.heap.size w w' := by
  have same : ∀ c, Calls Try.prog 14 #[aV (gC f acc s.v), .int .i64 m, aV (eC e)] w (RpS f acc s c w) → Calls Try.prog 14 #[aV (gC f acc s.v), .int .i64 m, aV (eC e)] w fun r w' => ∃ (s1 : Sx Ent) (b : Bool) (c : Int), r = .returned (.tuple #[aV (gC f acc s1.v), .bool b, .int .i64 c]) ∧ Sorted s1.xs ∧ s1.xs.length ≤ s.xs.length + 1 ∧ (s1 = s ∨ Oe w' w.heap.size s1.v s1.xs) ∧ Below w.heap.size w w' :=
    fun c h => h.mono fun r w' ⟨h1, h2⟩ => ⟨s, false, c, h1, hso, by omega, .inl rfl, h2⟩
  by_cases hq : e.cert.serial < f.n
  · exact same _ (rput_floor f acc s m e w hf he hs hbd hq)
  cases hl : lk s.xs e.cert.serial with
  | none =>
    by_cases hm : m ≤ s.n
    · exact same _ (rput_full f acc s m e w hf he hs hbd hq hl hm)
    · refine (rput_new f acc s m e w hf he hs hbd hq hl hm).mono ?_
      rintro r w' ⟨s1, h1, h2, h3, h4⟩
      have hn : ∀ x ∈ s.xs, x.cert.serial ≠ e.cert.serial := fun x hx e9 => by have := lk_mem hso hx; rw [e9, hl] at this; cases this
      exact ⟨s1, true, 0, h1, by rw [h2]; exact (rPl_spec hso hn).1, by rw [h2, rPl_len]; omega, .inr h3, h4⟩
  | some r =>
    by_cases hc : r.cert = e.cert
    · refine (rput_join f acc s m e w hf he hs hbd hq r hl hc).mono ?_
      rintro r' w' ⟨s1, h1, h2, h3, h4⟩
      exact ⟨s1, _, 0, h1, by rw [h2]; exact (rCh_spec hso).1, by rw [h2, rCh_len]; omega, .inr h3, h4⟩
    · exact same _ (rput_other f acc s m e w hf he hs hbd hq r hl hc)
end Go.Proofs.Ytibebhlblmdcgaa
