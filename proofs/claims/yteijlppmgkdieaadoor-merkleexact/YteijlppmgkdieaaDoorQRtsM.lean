import Derived.Test.YteijlppmgkdieaaDoorQPrvM
import Derived.Deep.Cut
set_option linter.unusedVariables false
namespace Go.Proofs.YteijlppmgkdieaaDoor
open Go.RowKit

/-- a slice of one byte, just built -/
theorem own_lit1 (w : World) (z : Int) : (w.alloc (.cells #[.int .u8 z] 5)).ownsRow w.heap.size 5 1 (.slice (some ⟨w.heap.size, 0, none⟩) 1 1) 1 (U8 [z]) :=
  ⟨rfl, .inr ⟨w.heap.size, 1, #[.int .u8 z], rfl, Nat.le_refl _, heap_alloc_last w _, Nat.le_refl _, by unfold maxLen; omega, rfl, rfl⟩⟩
theorem infoB16 : ∃ i, Tryd.prog.info? 5 = some i ∧ i.zero = some (.int .u8 0) ∧ i.size = 1 ∧ i.bytes = 1 := by
  have h := Tryd.infoB
  cases hi : Tryd.prog.info? 5 with
  | none => rw [hi] at h; simp at h
  | some i =>
    rw [hi] at h
    simp only [Option.map_some, Option.some.injEq, Prod.mk.injEq] at h
    exact ⟨i, rfl, h.1, h.2.1, h.2.2⟩
/-- bytes of one's own, behind another slice -/
theorem wpList_app8 {w : World} {ops : Array Oper} {rest : List Oper} {o : Oper} {a : Act} {Q : Exit → Act → World → Prop} (hgd : o.guard = none) (s x : Operand)
    (ho : o.op = .call { callee := .builtin .append, args := #[s, x], argTypes := #[31, 31] }) (base : Nat) (v : Value) (n : Nat) (l : List Int) (hs : a.eval s = v) (hown : w.ownsRow base 5 1 v n (U8 l))
    (d : Sl) (hd : d.Ok w) (hx : a.eval x = .slice d.a d.n d.c) (hb : n + d.n ≤ 140737488355328) (hbase : base ≤ w.heap.size)
    (h : ∀ v' w', w'.ownsRow base 5 1 v' (n + d.n) (U8 (l ++ d.l)) → Below base w w' → wpList Tryd.prog ops Q rest (a.put o.dst v') w') : wpList Tryd.prog ops Q (o :: rest) a w := by
  obtain ⟨i, hi, hz, hsz, hby⟩ := infoB16
  refine wpList_append_sl hgd s x 31 ho base 5 i (.int .u8 0) Tryd.underlying31 hi hz hsz hby rfl v n (U8 l) hs hown d hd hx hb hbase ?_
  intro v' w' h1 h2
  refine h v' w' ?_ (own_belG (row := none) hown (unhide h2) (Nat.le_refl _) hbase)
  have := unhide h1
  rwa [← U8_append] at this
theorem step_app8 {ops : Array Oper} {o : Oper} {a : Act} {w : World} {K : Act → World → Prop} {Q : Exit → Act → World → Prop} {E : Prop} (hgd : o.guard = none) (s x : Operand)
    (ho : o.op = .call { callee := .builtin .append, args := #[s, x], argTypes := #[31, 31] }) (base : Nat) (v : Value) (n : Nat) (l : List Int) (hs : a.eval s = v) (hown : w.ownsRow base 5 1 v n (U8 l))
    (g : Nat) (d : List Int) (m c : Nat) (hx : a.eval x = .slice (some ⟨g, 0, none⟩) m c) (hA : Arr w g 28 (U8 d)) (hm : d.length = m) (hb : n + m ≤ 140737488355328) (hbase : base ≤ w.heap.size)
    (h : ∀ v' w', w'.ownsRow base 5 1 v' (n + m) (U8 (l ++ d)) → Below base w w' → K (a.put o.dst v') w') : if Region.wanted o (yielded ops a.tmps) = true then Oper.wp Tryd.prog o a w K Q else E := by
  obtain ⟨i, hi, hz, hsz, hby⟩ := infoB16
  refine step_appG hgd s x 31 ho base 5 i (.int .u8 0) 1 1 Tryd.underlying31 hi hz hsz hby rfl (by omega) v n (U8 l) hs hown ⟨g, 0, none⟩ m c (U8 d) hx (by rw [U8_length, hm]; omega) (fun j u hu => by rw [addr_add, Nat.zero_add, hA.cell]; exact hu) (U8_one d) (by unfold maxLen; omega) (by omega) hbase ?_
  intro v' w' h1 h2
  refine h v' w' ?_ (own_belG (row := none) hown h2 (Nat.le_refl _) hbase)
  rwa [← U8_append] at h1
/-- Sum of bytes wherever they lie -/
theorem sumS (s : Sl) (w : World) (hs : s.Ok w) (hL : Ld w) : Calls Tryd.prog 58 #[s.v] w fun e w' => e = .returned (hV (sumZ s.l)) ∧ Below w.heap.size w w' := by
  refine sum_any s.l s.a s.n s.c w hL.1 hL.2 hs.len hs.isB hs.lies (fun h0 x hx => ?_) hs.le hs.mx
  obtain ⟨b, o, e, hlt, -⟩ := hs.lies h0
  rw [hx] at e; cases e; exact hlt
theorem sumO (base n : Nat) (v : Value) (l : List Int) (w : World) (h : w.ownsRow base 5 1 v n (U8 l)) (hB : IsB l) (hL : Ld w) : Calls Tryd.prog 58 #[v] w fun e w' => e = .returned (hV (sumZ l)) ∧ Below w.heap.size w w' := by
  obtain ⟨s, rfl, hok, hl, -, -⟩ := own_sl h hB
  have := sumS s w hok hL
  rwa [hl] at this
theorem Hold.below {rows : List (Nat × List Int)} {w w' : World} {B : Nat} (h : Hold rows w) (hb : Below B w w') (hB : ∀ p ∈ rows, p.1 < B) : Hold rows w' := fun p hp => (h p hp).below hb (hB p hp)

end Go.Proofs.YteijlppmgkdieaaDoor
