import Derived.Test.YtaepmfkdnjembaaSqM
import Derived.Test.YtaepmfkdnjembaaNmW
import Derived.Deep.Cut
set_option linter.unusedSimpArgs false
set_option linter.unusedVariables false
namespace Go.Proofs.Ytaepmfkdnjembaa
open Go.RowKit

/-! Bytes, messages, bags as cells. -/
def uC (z : Int) : List Value := [.int .u8 z]
def iC (z : Int) : List Value := [.int .i64 z]
def bC (b : Bool) : List Value := [.bool b]
theorem uC_len (x : Int) : (uC x).length = 1 := rfl
theorem iC_len (x : Int) : (iC x).length = 1 := rfl
theorem bC_len (x : Bool) : (bC x).length = 1 := rfl
theorem one_u (x : Int) : ∀ v ∈ uC x, v.oneCell' = true := by intro v hv; simp [uC] at hv; subst hv; rfl
theorem one_b (x : Bool) : ∀ v ∈ bC x, v.oneCell' = true := by intro v hv; simp [bC] at hv; subst hv; rfl
theorem one_one {v : Value} (h : v.oneCell' = true) : ∀ u ∈ [v], u.oneCell' = true := by intro u hu; simp at hu; subst hu; exact h
def msC (i : Int) (f : Int) (t : Int) (v : Value) : List Value := [.int .i64 i, .int .i64 f, .int .i64 t, v]
theorem Try.inD : (Try.prog.info? 32).map (fun i => (i.zero, i.size)) = some (some (aV (msC 0 0 0 (.slice none 0 0))), 4) := by kernel_rfl
theorem sz_D (i : Int) (f : Int) (t : Int) (v : Value) : (Try.prog.info? 32).map (·.size) = some (msC i f t v).length := by show _ = some 4; kernel_rfl
theorem one_D (i : Int) (f : Int) (t : Int) {v : Value} (hv : v.oneCell' = true) : ∀ u9 ∈ msC i f t v, u9.oneCell' = true := by intro u9 hu9; simp [msC] at hu9; rcases hu9 with rfl | rfl | rfl | rfl <;> first | rfl | assumption
theorem pt_D (i : Int) (f : Int) (t : Int) (v : Value) (i9 : Int) (f9 : Int) (t9 : Int) (v9 : Value) : Pt (msC i f t v) 0 (msC i9 f9 t9 v9) (msC i9 f9 t9 v9) := Pt.self rfl
theorem at_D0 (i : Int) (f : Int) (t : Int) (v : Value) : At (msC i f t v) 0 [.int .i64 i] := ⟨[], [.int .i64 f, .int .i64 t, v], rfl, rfl⟩
theorem pt_D0 (i : Int) (f : Int) (t : Int) (v : Value) (z9 : Int) : Pt (msC i f t v) 0 [.int .i64 z9] (msC z9 f t v) := ⟨[], [.int .i64 i], [.int .i64 f, .int .i64 t, v], rfl, rfl, rfl, rfl⟩
theorem at_D1 (i : Int) (f : Int) (t : Int) (v : Value) : At (msC i f t v) 1 [.int .i64 f] := ⟨[.int .i64 i], [.int .i64 t, v], rfl, rfl⟩
theorem pt_D1 (i : Int) (f : Int) (t : Int) (v : Value) (z9 : Int) : Pt (msC i f t v) 1 [.int .i64 z9] (msC i z9 t v) := ⟨[.int .i64 i], [.int .i64 f], [.int .i64 t, v], rfl, rfl, rfl, rfl⟩
theorem at_D2 (i : Int) (f : Int) (t : Int) (v : Value) : At (msC i f t v) 2 [.int .i64 t] := ⟨[.int .i64 i, .int .i64 f], [v], rfl, rfl⟩
theorem pt_D2 (i : Int) (f : Int) (t : Int) (v : Value) (z9 : Int) : Pt (msC i f t v) 2 [.int .i64 z9] (msC i f z9 v) := ⟨[.int .i64 i, .int .i64 f], [.int .i64 t], [v], rfl, rfl, rfl, rfl⟩
theorem at_D3 (i : Int) (f : Int) (t : Int) (v : Value) : At (msC i f t v) 3 [v] := ⟨[.int .i64 i, .int .i64 f, .int .i64 t], [], rfl, rfl⟩
theorem pt_D3 (i : Int) (f : Int) (t : Int) (v : Value) (z9 : Value) : Pt (msC i f t v) 3 [z9] (msC i f t z9) := ⟨[.int .i64 i, .int .i64 f, .int .i64 t], [v], [], rfl, rfl, rfl, rfl⟩
def qbC (v : Value) (n : Int) : List Value := [v, .int .i64 n]
theorem Try.inQ : (Try.prog.info? 58).map (fun i => (i.zero, i.size)) = some (some (aV (qbC (.slice none 0 0) 0)), 2) := by kernel_rfl
theorem sz_Q (v : Value) (n : Int) : (Try.prog.info? 58).map (·.size) = some (qbC v n).length := by show _ = some 2; kernel_rfl
theorem one_Q (n : Int) {v : Value} (hv : v.oneCell' = true) : ∀ u9 ∈ qbC v n, u9.oneCell' = true := by intro u9 hu9; simp [qbC] at hu9; rcases hu9 with rfl | rfl <;> first | rfl | assumption
theorem pt_Q (v : Value) (n : Int) (v9 : Value) (n9 : Int) : Pt (qbC v n) 0 (qbC v9 n9) (qbC v9 n9) := Pt.self rfl
theorem at_Q0 (v : Value) (n : Int) : At (qbC v n) 0 [v] := ⟨[], [.int .i64 n], rfl, rfl⟩
theorem pt_Q0 (v : Value) (n : Int) (z9 : Value) : Pt (qbC v n) 0 [z9] (qbC z9 n) := ⟨[], [v], [.int .i64 n], rfl, rfl, rfl, rfl⟩
theorem at_Q1 (v : Value) (n : Int) : At (qbC v n) 1 [.int .i64 n] := ⟨[v], [], rfl, rfl⟩
theorem pt_Q1 (v : Value) (n : Int) (z9 : Int) : Pt (qbC v n) 1 [.int .i64 z9] (qbC v z9) := ⟨[v], [.int .i64 n], [], rfl, rfl, rfl, rfl⟩
def gbC (n : Int) (v : Value) : List Value := [.int .i64 n, v]
theorem Try.inG : (Try.prog.info? 67).map (fun i => (i.zero, i.size)) = some (some (aV (gbC 0 (.map none))), 2) := by kernel_rfl
theorem sz_G (n : Int) (v : Value) : (Try.prog.info? 67).map (·.size) = some (gbC n v).length := by show _ = some 2; kernel_rfl
theorem one_G (n : Int) {v : Value} (hv : v.oneCell' = true) : ∀ u9 ∈ gbC n v, u9.oneCell' = true := by intro u9 hu9; simp [gbC] at hu9; rcases hu9 with rfl | rfl <;> first | rfl | assumption
theorem pt_G (n : Int) (v : Value) (n9 : Int) (v9 : Value) : Pt (gbC n v) 0 (gbC n9 v9) (gbC n9 v9) := Pt.self rfl
theorem at_G0 (n : Int) (v : Value) : At (gbC n v) 0 [.int .i64 n] := ⟨[], [v], rfl, rfl⟩
theorem pt_G0 (n : Int) (v : Value) (z9 : Int) : Pt (gbC n v) 0 [.int .i64 z9] (gbC z9 v) := ⟨[], [.int .i64 n], [v], rfl, rfl, rfl, rfl⟩
theorem at_G1 (n : Int) (v : Value) : At (gbC n v) 1 [v] := ⟨[.int .i64 n], [], rfl, rfl⟩
theorem pt_G1 (n : Int) (v : Value) (z9 : Value) : Pt (gbC n v) 1 [z9] (gbC n z9) := ⟨[.int .i64 n], [v], [], rfl, rfl, rfl, rfl⟩
def plC (v : Value) (u : Value) (h : Int) : List Value := [v, u, .int .i64 h]
theorem Try.inP : (Try.prog.info? 50).map (fun i => (i.zero, i.size)) = some (some (aV (plC (.slice none 0 0) (.slice none 0 0) 0)), 3) := by kernel_rfl
theorem sz_P (v : Value) (u : Value) (h : Int) : (Try.prog.info? 50).map (·.size) = some (plC v u h).length := by show _ = some 3; kernel_rfl
theorem one_P (h : Int) {v : Value} {u : Value} (hv : v.oneCell' = true) (hu : u.oneCell' = true) : ∀ u9 ∈ plC v u h, u9.oneCell' = true := by intro u9 hu9; simp [plC] at hu9; rcases hu9 with rfl | rfl | rfl <;> first | rfl | assumption
theorem pt_P (v : Value) (u : Value) (h : Int) (v9 : Value) (u9 : Value) (h9 : Int) : Pt (plC v u h) 0 (plC v9 u9 h9) (plC v9 u9 h9) := Pt.self rfl
theorem at_P0 (v : Value) (u : Value) (h : Int) : At (plC v u h) 0 [v] := ⟨[], [u, .int .i64 h], rfl, rfl⟩
theorem pt_P0 (v : Value) (u : Value) (h : Int) (z9 : Value) : Pt (plC v u h) 0 [z9] (plC z9 u h) := ⟨[], [v], [u, .int .i64 h], rfl, rfl, rfl, rfl⟩
theorem at_P1 (v : Value) (u : Value) (h : Int) : At (plC v u h) 1 [u] := ⟨[v], [.int .i64 h], rfl, rfl⟩
theorem pt_P1 (v : Value) (u : Value) (h : Int) (z9 : Value) : Pt (plC v u h) 1 [z9] (plC v z9 h) := ⟨[v], [u], [.int .i64 h], rfl, rfl, rfl, rfl⟩
theorem at_P2 (v : Value) (u : Value) (h : Int) : At (plC v u h) 2 [.int .i64 h] := ⟨[v, u], [], rfl, rfl⟩
theorem pt_P2 (v : Value) (u : Value) (h : Int) (z9 : Int) : Pt (plC v u h) 2 [.int .i64 z9] (plC v u z9) := ⟨[v, u], [.int .i64 h], [], rfl, rfl, rfl, rfl⟩
def stC (k : Int) (i : Int) (f : Int) (t : Int) (v : Value) (d : Int) (n : Int) : List Value := [.int .i64 k, .int .i64 i, .int .i64 f, .int .i64 t, v, .int .i64 d, .int .i64 n]
theorem Try.inT : (Try.prog.info? 52).map (fun i => (i.zero, i.size)) = some (some (aV (stC 0 0 0 0 (.slice none 0 0) 0 0)), 7) := by kernel_rfl
theorem sz_T (k : Int) (i : Int) (f : Int) (t : Int) (v : Value) (d : Int) (n : Int) : (Try.prog.info? 52).map (·.size) = some (stC k i f t v d n).length := by show _ = some 7; kernel_rfl
theorem one_T (k : Int) (i : Int) (f : Int) (t : Int) (d : Int) (n : Int) {v : Value} (hv : v.oneCell' = true) : ∀ u9 ∈ stC k i f t v d n, u9.oneCell' = true := by intro u9 hu9; simp [stC] at hu9; rcases hu9 with rfl | rfl | rfl | rfl | rfl | rfl | rfl <;> first | rfl | assumption
theorem pt_T (k : Int) (i : Int) (f : Int) (t : Int) (v : Value) (d : Int) (n : Int) (k9 : Int) (i9 : Int) (f9 : Int) (t9 : Int) (v9 : Value) (d9 : Int) (n9 : Int) : Pt (stC k i f t v d n) 0 (stC k9 i9 f9 t9 v9 d9 n9) (stC k9 i9 f9 t9 v9 d9 n9) := Pt.self rfl
theorem at_T0 (k : Int) (i : Int) (f : Int) (t : Int) (v : Value) (d : Int) (n : Int) : At (stC k i f t v d n) 0 [.int .i64 k] := ⟨[], [.int .i64 i, .int .i64 f, .int .i64 t, v, .int .i64 d, .int .i64 n], rfl, rfl⟩
theorem at_T1 (k : Int) (i : Int) (f : Int) (t : Int) (v : Value) (d : Int) (n : Int) : At (stC k i f t v d n) 1 (msC i f t v) := ⟨[.int .i64 k], [.int .i64 d, .int .i64 n], rfl, rfl⟩
theorem at_T2 (k : Int) (i : Int) (f : Int) (t : Int) (v : Value) (d : Int) (n : Int) : At (stC k i f t v d n) 5 [.int .i64 d] := ⟨[.int .i64 k, .int .i64 i, .int .i64 f, .int .i64 t, v], [.int .i64 n], rfl, rfl⟩
theorem at_T3 (k : Int) (i : Int) (f : Int) (t : Int) (v : Value) (d : Int) (n : Int) : At (stC k i f t v d n) 6 [.int .i64 n] := ⟨[.int .i64 k, .int .i64 i, .int .i64 f, .int .i64 t, v, .int .i64 d], [], rfl, rfl⟩
theorem Try.j1i : (Try.prog.info? 3).map (·.size) = some 1 := by kernel_rfl
theorem Try.j1b : (Try.prog.info? 4).map (·.size) = some 1 := by kernel_rfl
theorem Try.j1s : (Try.prog.info? 27).map (·.size) = some 1 := by kernel_rfl
theorem Try.j1m : (Try.prog.info? 33).map (·.size) = some 1 := by kernel_rfl
theorem Try.j1bs : (Try.prog.info? 35).map (·.size) = some 1 := by kernel_rfl
theorem Try.j1u : (Try.prog.info? 5).map (·.size) = some 1 := by kernel_rfl
theorem Try.j1h : (Try.prog.info? 65).map (·.size) = some 1 := by kernel_rfl
theorem Try.j1e : (Try.prog.info? 28).map (·.size) = some 1 := by kernel_rfl
theorem Try.infoBy : (Try.prog.info? 5).map (fun i => (i.zero, i.size, i.bytes)) = some (some (.int .u8 0), 1, 1) := by kernel_rfl
theorem Try.infoBo : (Try.prog.info? 4).map (fun i => (i.zero, i.size, i.bytes)) = some (some (.bool false), 1, 1) := by kernel_rfl
theorem Try.infoMs : (Try.prog.info? 32).map (fun i => (i.zero, i.size, i.bytes)) = some (some (aV (msC 0 0 0 (.slice none 0 0))), 4, 48) := by kernel_rfl
theorem b_d0 : Try.prog.built 32 [] = some (msC 0 0 0 (.slice none 0 0)).toArray := by kernel_rfl
theorem b_d3 (f t : Int) (a : Option Addr) (n c : Nat) : Try.prog.built 32 [(1, .int .i64 f), (2, .int .i64 t), (3, .slice a n c)] = some (msC 0 f t (.slice a n c)).toArray := by kernel_rfl
theorem b_d1 (a : Option Addr) (n c : Nat) : Try.prog.built 32 [(3, .slice a n c)] = some (msC 0 0 0 (.slice a n c)).toArray := by kernel_rfl
theorem b_d4 (i f t : Int) (a : Option Addr) (n c : Nat) : Try.prog.built 32 [(0, .int .i64 i), (1, .int .i64 f), (2, .int .i64 t), (3, .slice a n c)] = some (msC i f t (.slice a n c)).toArray := by kernel_rfl
theorem b_q0 : Try.prog.built 58 [] = some (qbC (.slice none 0 0) 0).toArray := by kernel_rfl
theorem b_q2 (a : Option Addr) (n c : Nat) (z : Int) : Try.prog.built 58 [(0, .slice a n c), (1, .int .i64 z)] = some (qbC (.slice a n c) z).toArray := by kernel_rfl
theorem b_g1 (m : Option Nat) : Try.prog.built 67 [(1, .map m)] = some (gbC 0 (.map m)).toArray := by kernel_rfl
theorem b_p0 : Try.prog.built 50 [] = some (plC (.slice none 0 0) (.slice none 0 0) 0).toArray := by kernel_rfl
/-- a message: its body a slice of bytes -/
structure Ms where (i f t : Int) (s : Sx Int)
def mC (m : Ms) : List Value := msC m.i m.f m.t m.s.v
theorem mC_len (m : Ms) : (mC m).length = 4 := rfl
theorem one_m (m : Ms) : ∀ v ∈ mC m, v.oneCell' = true := one_D _ _ _ rfl
/-- what it says -/
structure Pm where (i f t : Int) (l : List Int)
def Ms.p (m : Ms) : Pm := ⟨m.i, m.f, m.t, m.s.xs⟩
abbrev Su (w : World) (s : Sx Int) : Prop := Sx.Ok uC 1 w s
abbrev Sm24 (w : World) (s : Sx Ms) : Prop := Sx.Ok mC 4 w s
/-- bytes in a row of one's own -/
abbrev Ou (w : World) (base : Nat) (v : Value) (l : List Int) : Prop := w.ownsRow base 5 1 v l.length (l.flatMap uC)
abbrev Om24 (w : World) (base : Nat) (v : Value) (l : List Ms) : Prop := w.ownsRow base 32 4 v l.length (l.flatMap mC)
abbrev Ob (w : World) (base : Nat) (v : Value) (l : List Bool) : Prop := w.ownsRow base 4 1 v l.length (l.flatMap bC)
theorem Ou.su {w : World} {base : Nat} {v : Value} {l : List Int} (h : Ou w base v l) : ∃ s : Sx Int, v = s.v ∧ s.xs = l ∧ Su w s ∧ (∀ x, s.a = some x → base ≤ x.block ∧ v.ownBlock = some x.block) := own_sx h (fun x _ => uC_len x)
theorem Om24.sm {w : World} {base : Nat} {v : Value} {l : List Ms} (h : Om24 w base v l) : ∃ s : Sx Ms, v = s.v ∧ s.xs = l ∧ Sm24 w s ∧ (∀ x, s.a = some x → base ≤ x.block ∧ v.ownBlock = some x.block) := own_sx h (fun x _ => mC_len x)
theorem Su.at_ {w : World} {s : Sx Int} (h : Su w s) {k : Nat} (hk : k < s.n) : ∃ b off, s.a = some ⟨b, off, none⟩ ∧ b < w.heap.size ∧ w.cell? ⟨b, off + k, none⟩ = some (.int .u8 (s.xs.getD k 0)) := by
  have hl : k < s.xs.length := by rw [h.len]; exact hk
  obtain ⟨b, off, h1, h2, h3⟩ := Sx.Ok.at_ h (List.getElem?_eq_getElem hl)
  refine ⟨b, off, h1, h2, ?_⟩
  have := h3 0 _ rfl
  simpa [hl] using this
theorem Sm24.at_ {w : World} {s : Sx Ms} (h : Sm24 w s) {k : Nat} (hk : k < s.n) : ∃ x b off, s.xs[k]? = some x ∧ s.a = some ⟨b, off, none⟩ ∧ b < w.heap.size ∧ w.rangeAt b (off + k * 4) (mC x) := by
  have hl : k < s.xs.length := by rw [h.len]; exact hk
  obtain ⟨b, off, h1, h2, h3⟩ := Sx.Ok.at_ h (List.getElem?_eq_getElem hl)
  exact ⟨_, b, off, List.getElem?_eq_getElem hl, h1, h2, h3⟩

section
variable {ops : Array Oper} {rest : List Oper} {o : Oper} {a : Act} {w w0 : World} {Q : Exit → Act → World → Prop} {rows : List Row} {K : World → Prop}
theorem ex_loadC {P : Program} {o : Oper} {a : Act} {w : World} (t : TypeId) (x : Operand) (ho : o.op = .load t x) (g off : Nat) (hx : a.eval x = .pointer (some ⟨g, off, none⟩)) (v : Value) (hc : w.cell? ⟨g, off, none⟩ = some v) {d : TypeDesc} (hu : P.underlying t = some d) (hd : d.isRow = false) :
    (execOp a.eval o).run P w = .ok (.value v) w := by
  have hA : (isAgg t).run P w = .ok false w := by
    unfold isAgg
    rw [Sem.run_bind, run_underlying hu w]
    cases d <;> simp_all [TypeDesc.isRow]
  have hl : (loadVar t ⟨g, off, none⟩).run P w = .ok v w := by
    simp [loadVar, Sem.run_bind, hA, run_load, hc]
  unfold execOp
  simp only [ho, hx, Instr.loadAt, Instr.sureAddr, Sem.run_bind, Sem.run_pure, Result.andThen_ok, hl]
/-- a load of one cell that is no row's -/
theorem wl_loadC (hw : Region.wanted o (yielded ops a.tmps) = true) (t : TypeId) (x : Operand) (ho : o.op = .load t x) (b off : Nat) (hx : a.eval x = .pointer (some ⟨b, off, none⟩)) (v : Value) (hc : w.cell? ⟨b, off, none⟩ = some v) {d : TypeDesc} (hu : Try.prog.underlying t = some d) (hd : d.isRow = false)
    (h : wpList Try.prog ops Q rest (a.put o.dst v) w) : wpList Try.prog ops Q (o :: rest) a w := wv v hw (ex_loadC t x ho b off hx v hc hu hd) h
theorem yl_loadC {S : World → Prop} (hw : Region.wanted o (yielded ops a.tmps) = true) (t : TypeId) (x : Operand) (ho : o.op = .load t x) (b off : Nat) (hx : a.eval x = .pointer (some ⟨b, off, none⟩)) (v : Value) (hc : ∀ w, S w → w.cell? ⟨b, off, none⟩ = some v) {d : TypeDesc} (hu : Try.prog.underlying t = some d) (hd : d.isRow = false) : YieldsIf Try.prog ops S o v a :=
  .inl ⟨hw, fun w hS => ex_loadC t x ho b off hx v (hc w hS) hu hd⟩
theorem yl_loadR {S : World → Prop} (hw : Region.wanted o (yielded ops a.tmps) = true) (t : TypeId) (x : Operand) (ho : o.op = .load t x) (g off : Nat) (hx : a.eval x = .pointer (some ⟨g, off, none⟩)) (p : List Value) (hr : ∀ w, S w → w.rangeAt g off p) {d : TypeDesc} (hu : Try.prog.underlying t = some d) (hd : d.isRow = true) (hz : (Try.prog.info? t).map (·.size) = some p.length) : YieldsIf Try.prog ops S o (aV p) a :=
  .inl ⟨hw, fun w hS => ex_loadR t x ho g off hx p (hr w hS) hu hd hz⟩
/-- one byte, one message, one bool as a slice; appended to a row of one's own -/
theorem wl_bs1u (hw : Region.wanted o (yielded ops a.tmps) = true) (x : Operand) (ho : o.op = .buildSlice 27 1 #[(0, x)]) (z : Int) (hx : a.eval x = .int .u8 z) (hS : Hs17 w0 rows K w)
    (h : ∀ g w', Hs17 w0 ((g, 5, uC z) :: rows) K w' → wpList Try.prog ops Q rest (a.put o.dst (.slice (some ⟨g, 0, none⟩) 1 1)) w') : wpList Try.prog ops Q (o :: rest) a w :=
  wl hw fun k hk => op_bs1G 27 5 x ho Try.underlying27 Try.infoBy _ (uC z) hx rfl rfl (by omega) (by omega) hS (fun g w' h1 => hk _ _ (h g w' h1))
theorem wl_bs1b (hw : Region.wanted o (yielded ops a.tmps) = true) (x : Operand) (ho : o.op = .buildSlice 35 1 #[(0, x)]) (z : Bool) (hx : a.eval x = .bool z) (hS : Hs17 w0 rows K w)
    (h : ∀ g w', Hs17 w0 ((g, 4, bC z) :: rows) K w' → wpList Try.prog ops Q rest (a.put o.dst (.slice (some ⟨g, 0, none⟩) 1 1)) w') : wpList Try.prog ops Q (o :: rest) a w :=
  wl hw fun k hk => op_bs1G 35 4 x ho Try.underlying35 Try.infoBo _ (bC z) hx rfl rfl (by omega) (by omega) hS (fun g w' h1 => hk _ _ (h g w' h1))
theorem wl_bs1m (hw : Region.wanted o (yielded ops a.tmps) = true) (x : Operand) (ho : o.op = .buildSlice 33 1 #[(0, x)]) (z : Ms) (hx : a.eval x = aV (mC z)) (hS : Hs17 w0 rows K w)
    (h : ∀ g w', Hs17 w0 ((g, 32, mC z) :: rows) K w' → wpList Try.prog ops Q rest (a.put o.dst (.slice (some ⟨g, 0, none⟩) 1 1)) w') : wpList Try.prog ops Q (o :: rest) a w :=
  wl hw fun k hk => op_bs1G 33 32 x ho Try.underlying33 Try.infoMs _ (mC z) hx rfl rfl (by omega) (by omega) hS (fun g w' h1 => hk _ _ (h g w' h1))
theorem wl_appu (hw : Region.wanted o (yielded ops a.tmps) = true) (s x : Operand) (ho : o.op = .call { callee := .builtin .append, args := #[s, x], argTypes := #[27, 27] })
    {base : Nat} {v : Value} {xs : List Int} (hs : a.eval s = v) (hown : Ou w base v xs) (y : Sx Int) (hy : Su w y) (hx : a.eval x = y.v) (hb : (xs.length + y.n) * 1 ≤ 140737488355328) (hbase : base ≤ w.heap.size)
    (h : ∀ v' w', Ou w' base v' (xs ++ y.xs) → w.grownBy w' v.ownBlock → (v'.ownBlock = v.ownBlock ∨ v'.ownBlock = some w.heap.size) → wpList Try.prog ops Q rest (a.put o.dst v') w') : wpList Try.prog ops Q (o :: rest) a w :=
  wl hw fun k hk => op_appendL s x 27 ho Try.underlying27 Try.infoBy rfl (by omega) hs hown y hy (fun z _ => uC_len z) (fun z _ => one_u z) hx hb (by omega) hbase (fun v' w' h1 h2 h3 => hk _ _ (h v' w' h1 h2 h3))
theorem wl_appm (hw : Region.wanted o (yielded ops a.tmps) = true) (s x : Operand) (ho : o.op = .call { callee := .builtin .append, args := #[s, x], argTypes := #[33, 33] })
    {base : Nat} {v : Value} {xs : List Ms} (hs : a.eval s = v) (hown : Om24 w base v xs) (y : Sx Ms) (hy : Sm24 w y) (hx : a.eval x = y.v) (hb : (xs.length + y.n) * 48 ≤ 140737488355328) (hbase : base ≤ w.heap.size)
    (h : ∀ v' w', Om24 w' base v' (xs ++ y.xs) → w.grownBy w' v.ownBlock → (v'.ownBlock = v.ownBlock ∨ v'.ownBlock = some w.heap.size) → wpList Try.prog ops Q rest (a.put o.dst v') w') : wpList Try.prog ops Q (o :: rest) a w :=
  wl hw fun k hk => op_appendL s x 33 ho Try.underlying33 Try.infoMs rfl (by omega) hs hown y hy (fun z _ => mC_len z) (fun z _ => one_m z) hx hb (by omega) hbase (fun v' w' h1 h2 h3 => hk _ _ (h v' w' h1 h2 h3))
theorem wl_appb (hw : Region.wanted o (yielded ops a.tmps) = true) (s x : Operand) (ho : o.op = .call { callee := .builtin .append, args := #[s, x], argTypes := #[35, 35] })
    {base : Nat} {v : Value} {xs : List Bool} (hs : a.eval s = v) (hown : Ob w base v xs) (y : Sx Bool) (hy : Sx.Ok bC 1 w y) (hx : a.eval x = y.v) (hb : (xs.length + y.n) * 1 ≤ 140737488355328) (hbase : base ≤ w.heap.size)
    (h : ∀ v' w', Ob w' base v' (xs ++ y.xs) → w.grownBy w' v.ownBlock → (v'.ownBlock = v.ownBlock ∨ v'.ownBlock = some w.heap.size) → wpList Try.prog ops Q rest (a.put o.dst v') w') : wpList Try.prog ops Q (o :: rest) a w :=
  wl hw fun k hk => op_appendL s x 35 ho Try.underlying35 Try.infoBo rfl (by omega) hs hown y hy (fun z _ => bC_len z) (fun z _ => one_b z) hx hb (by omega) hbase (fun v' w' h1 h2 h3 => hk _ _ (h v' w' h1 h2 h3))
end
end Go.Proofs.Ytaepmfkdnjembaa
