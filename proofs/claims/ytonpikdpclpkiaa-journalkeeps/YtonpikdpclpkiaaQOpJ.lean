import Derived.Test.YtonpikdpclpkiaaQFlI
namespace Go.Proofs.Ytonpikdpclpkiaa
open Go.RowKit

/-! The laws' calls. -/
structure Opj where
  kind : Int
  d : Sl
  s : Sl
  x : Int
  y : Int
def Opj.cells (o : Opj) : List Value := [.int .i64 o.kind, o.d.v, o.s.v, .int .i64 o.x, .int .i64 o.y]
/-- calls in memory -/
def LiesO (w : World) (a : Option Addr) (ss : List Opj) : Prop :=
  0 < ss.length → ∃ b off, a = some ⟨b, off, none⟩ ∧ b < w.heap.size ∧ ∀ i q, ss[i]? = some q → ∀ j v, q.cells[j]? = some v → w.cell? ⟨b, off + i * 5 + j, none⟩ = some v
structure Ops where
  a : Option Addr
  n : Nat
  c : Nat
  ss : List Opj
def Ops.v (s : Ops) : Value := .slice s.a s.n s.c
structure Ops.Ok (w : World) (s : Ops) : Prop where
  len : s.ss.length = s.n
  le : s.n ≤ s.c
  mx : s.c ≤ maxLen
  lies : LiesO w s.a s.ss
  all : ∀ q ∈ s.ss, q.d.Ok w ∧ q.s.Ok w
theorem LiesO.keep {S : Nat → Prop} {w w' : World} {a : Option Addr} {ss : List Opj} (h : LiesO w a ss) (hb : Buts S w w') (hS : 0 < ss.length → ∀ y, a = some y → ¬ S y.block) : LiesO w' a ss := by
  intro hp
  obtain ⟨b, off, rfl, hlt, hc⟩ := h hp
  exact ⟨b, off, rfl, Nat.lt_of_lt_of_le hlt hb.size, fun i q hi j v hv => (World.cell?_of_block (w := w) (w' := w') (a := ⟨b, off + i * 5 + j, none⟩) (hb.block b hlt (hS hp _ rfl))).trans (hc i q hi j v hv)⟩
theorem Ops.Ok.later {w w' : World} {s : Ops} (h : s.Ok w) (hb : Below w.heap.size w w') : s.Ok w' :=
  ⟨h.len, h.le, h.mx, h.lies.keep (Buts.of_below (S := fun _ => False) hb) (fun _ _ _ e => e), fun q hq => ⟨(h.all q hq).1.later hb, (h.all q hq).2.later hb⟩⟩
/-- the cells of the i-th -/
theorem Ops.Ok.at_ {w : World} {s : Ops} (h : s.Ok w) {i : Nat} {q : Opj} (hi : s.ss[i]? = some q) : ∃ b off, s.a = some ⟨b, off, none⟩ ∧ b < w.heap.size ∧
    w.cell? ⟨b, off + i * 5, none⟩ = some (.int .i64 q.kind) ∧ w.cell? ⟨b, off + i * 5 + 1, none⟩ = some (.slice q.d.a q.d.n q.d.c) ∧ w.cell? ⟨b, off + i * 5 + 2, none⟩ = some (.slice q.s.a q.s.n q.s.c) ∧
    w.cell? ⟨b, off + i * 5 + 3, none⟩ = some (.int .i64 q.x) ∧ w.cell? ⟨b, off + i * 5 + 4, none⟩ = some (.int .i64 q.y) := by
  have hp : 0 < s.ss.length := by
    by_cases hl : i < s.ss.length
    · omega
    · rw [List.getElem?_eq_none (by omega)] at hi; simp at hi
  obtain ⟨b, off, ha, hlt, hc⟩ := h.lies hp
  have hc := hc i q hi
  exact ⟨b, off, ha, hlt, hc 0 _ rfl, hc 1 _ rfl, hc 2 _ rfl, hc 3 _ rfl, hc 4 _ rfl⟩
end Go.Proofs.Ytonpikdpclpkiaa
