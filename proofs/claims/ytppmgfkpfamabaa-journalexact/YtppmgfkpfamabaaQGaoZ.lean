import Derived.Test.YtppmgfkpfamabaaQGanZ
import Derived.Test.YtppmgfkpfamabaaQGagZ
import Derived.Deep.RegionHeld3
set_option maxHeartbeats 2000000
set_option maxRecDepth 100000
set_option linter.unusedSimpArgs false
set_option linter.unusedVariables false
namespace Go.Proofs.Ytppmgfkpfamabaa
open Go.RowKit
theorem rarm_bad (fa sa va : Option Addr) (fc sc vc : Nat) (s : FlS) (ar : List (Int × Int)) (cnt : Int) (w : World) (h : RV w (.slice fa s.l0.length fc) (.slice sa s.l1.length sc) (.slice va ar.length vc) s ar cnt) (x y : Int) (hx : x < 1 ∨ 1000000 < x ∨ y < 0 ∨ 1048576 < y) :
    Calls Try.prog 19 #[.agg #[.int .i64 s.size, .slice fa s.l0.length fc, .slice sa s.l1.length sc, .slice va ar.length vc, .int .i64 cnt, .int .i64 s.wr, .bool s.down], .int .i64 x, .int .i64 y] w fun e w' => e = .returned (.tuple #[.agg #[.int .i64 s.size, .slice fa s.l0.length fc, .slice sa s.l1.length sc, .slice va ar.length vc, .int .i64 cnt, .int .i64 s.wr, .bool s.down], .int .i64 2]) ∧ Below w.heap.size w w' := by
  obtain ⟨W1, hW1⟩ : ∃ W1, (w.alloc (.cells #[.int .i64 s.size, .slice fa s.l0.length fc, .slice sa s.l1.length sc, .slice va ar.length vc, .int .i64 cnt, .int .i64 s.wr, .bool s.down] 28)).alloc (.cells #[.int .i64 0, .slice none 0 0, .slice none 0 0, .slice none 0 0, .int .i64 0, .int .i64 0, .bool false] 28) = W1 := ⟨_, rfl⟩
  obtain ⟨A1, A2, B1, Z1⟩ := two_new w 28 [.int .i64 s.size, .slice fa s.l0.length fc, .slice sa s.l1.length sc, .slice va ar.length vc, .int .i64 cnt, .int .i64 s.wr, .bool s.down] [.int .i64 0, .slice none 0 0, .slice none 0 0, .slice none 0 0, .int .i64 0, .int .i64 0, .bool false]
  rw [hW1] at A1 A2 B1 Z1
  obtain ⟨c0, c1, c2, c3, c4, c5, c6⟩ := cells7 A1
  have HA1 := hide A1
  have HA2 := hide A2
  have HB1 := hide B1
  have HH := hide h
  have HZ1 := hide Z1
  clear h A1 A2 B1 Z1
  have hc : x < 1 ∨ (¬ x < 1 ∧ 1000000 < x) ∨ (¬ x < 1 ∧ ¬ 1000000 < x ∧ y < 0) ∨ (¬ x < 1 ∧ ¬ 1000000 < x ∧ ¬ y < 0 ∧ 1048576 < y) := by omega
  clear hx
  rcases hc with k1 | ⟨k1, k2⟩ | ⟨k1, k2, k3⟩ | ⟨k1, k2, k3, k4⟩
  all_goals
    go_enter Try.func19, Try.ntmps19
    go_wp2_with (first
      | (refine wpList_store_row rfl 28 (.tmp 6) (.tmp 24) rfl (w.heap.size + 1) #[.int .i64 s.size, .slice fa s.l0.length fc, .slice sa s.l1.length sc, .slice va ar.length vc, .int .i64 cnt, .int .i64 s.wr, .bool s.down] rfl rfl 28 _ (unhide HA2) Try.szF rfl (rv_one _ _ _ _ _ _ _ _ _ _ _ _ _) ?_))
    refine bodyPost_ret (results_row_tmp rfl _ _ (w.heap.size + 1) 28 #[.int .i64 s.size, .slice fa s.l0.length fc, .slice sa s.l1.length sc, .slice va ar.length vc, .int .i64 cnt, .int .i64 s.wr, .bool s.down] (0, 0) _ rfl _ rfl (setRow_heap W1 (w.heap.size + 1) _ #[.int .i64 s.size, .slice fa s.l0.length fc, .slice sa s.l1.length sc, .slice va ar.length vc, .int .i64 cnt, .int .i64 s.wr, .bool s.down] 28 _ (unhide HA2)) Try.underlying28 rfl Try.szF) rfl ?_
    have bb : Buts (· = w.heap.size + 1) W1 (W1.setRow (w.heap.size + 1) #[.int .i64 s.size, .slice fa s.l0.length fc, .slice sa s.l1.length sc, .slice va ar.length vc, .int .i64 cnt, .int .i64 s.wr, .bool s.down]) := Buts.of_but ((But.refl (w.heap.size + 1) W1).setRow _)
    exact ⟨rfl, (unhide HB1).trans (bb.below (bel_sz (unhide HB1) (Nat.le_refl _)) (fun k e9 => by omega))⟩
theorem rarm_full (fa sa va : Option Addr) (fc sc vc : Nat) (s : FlS) (ar : List (Int × Int)) (cnt : Int) (w : World) (h : RV w (.slice fa s.l0.length fc) (.slice sa s.l1.length sc) (.slice va ar.length vc) s ar cnt) (x y : Int) (k1 : ¬ x < 1) (k2 : ¬ 1000000 < x) (k3 : ¬ y < 0) (k4 : ¬ 1048576 < y) (hl : (64 : Int) ≤ ar.length) :
    Calls Try.prog 19 #[.agg #[.int .i64 s.size, .slice fa s.l0.length fc, .slice sa s.l1.length sc, .slice va ar.length vc, .int .i64 cnt, .int .i64 s.wr, .bool s.down], .int .i64 x, .int .i64 y] w fun e w' => e = .returned (.tuple #[.agg #[.int .i64 s.size, .slice fa s.l0.length fc, .slice sa s.l1.length sc, .slice va ar.length vc, .int .i64 cnt, .int .i64 s.wr, .bool s.down], .int .i64 1]) ∧ Below w.heap.size w w' := by
  obtain ⟨W1, hW1⟩ : ∃ W1, (w.alloc (.cells #[.int .i64 s.size, .slice fa s.l0.length fc, .slice sa s.l1.length sc, .slice va ar.length vc, .int .i64 cnt, .int .i64 s.wr, .bool s.down] 28)).alloc (.cells #[.int .i64 0, .slice none 0 0, .slice none 0 0, .slice none 0 0, .int .i64 0, .int .i64 0, .bool false] 28) = W1 := ⟨_, rfl⟩
  obtain ⟨A1, A2, B1, Z1⟩ := two_new w 28 [.int .i64 s.size, .slice fa s.l0.length fc, .slice sa s.l1.length sc, .slice va ar.length vc, .int .i64 cnt, .int .i64 s.wr, .bool s.down] [.int .i64 0, .slice none 0 0, .slice none 0 0, .slice none 0 0, .int .i64 0, .int .i64 0, .bool false]
  rw [hW1] at A1 A2 B1 Z1
  obtain ⟨c0, c1, c2, c3, c4, c5, c6⟩ := cells7 A1
  have HA1 := hide A1
  have HA2 := hide A2
  have HB1 := hide B1
  have HH := hide h
  have HZ1 := hide Z1
  clear h A1 A2 B1 Z1
  all_goals
    go_enter Try.func19, Try.ntmps19
    go_wp2_with (first
      | (refine wpList_store_row rfl 28 (.tmp 6) (.tmp 29) rfl (w.heap.size + 1) #[.int .i64 s.size, .slice fa s.l0.length fc, .slice sa s.l1.length sc, .slice va ar.length vc, .int .i64 cnt, .int .i64 s.wr, .bool s.down] rfl rfl 28 _ (unhide HA2) Try.szF rfl (rv_one _ _ _ _ _ _ _ _ _ _ _ _ _) ?_))
    refine bodyPost_ret (results_row_tmp rfl _ _ (w.heap.size + 1) 28 #[.int .i64 s.size, .slice fa s.l0.length fc, .slice sa s.l1.length sc, .slice va ar.length vc, .int .i64 cnt, .int .i64 s.wr, .bool s.down] (0, 0) _ rfl _ rfl (setRow_heap W1 (w.heap.size + 1) _ #[.int .i64 s.size, .slice fa s.l0.length fc, .slice sa s.l1.length sc, .slice va ar.length vc, .int .i64 cnt, .int .i64 s.wr, .bool s.down] 28 _ (unhide HA2)) Try.underlying28 rfl Try.szF) rfl ?_
    have bb : Buts (· = w.heap.size + 1) W1 (W1.setRow (w.heap.size + 1) #[.int .i64 s.size, .slice fa s.l0.length fc, .slice sa s.l1.length sc, .slice va ar.length vc, .int .i64 cnt, .int .i64 s.wr, .bool s.down]) := Buts.of_but ((But.refl (w.heap.size + 1) W1).setRow _)
    exact ⟨rfl, (unhide HB1).trans (bb.below (bel_sz (unhide HB1) (Nat.le_refl _)) (fun k e9 => by omega))⟩
end Go.Proofs.Ytppmgfkpfamabaa

set_option linter.unusedVariables false
namespace Go.Proofs.Ytppmgfkpfamabaa
open Go.RowKit
structure Stf where
  kind : Int
  bank : Int
  b : Sl
  x : Int
  y : Int
def Stf.cells (s : Stf) : List Value := [.int .i64 s.kind, .int .i64 s.bank, s.b.v, .int .i64 s.x, .int .i64 s.y]
def Stf.v (s : Stf) : Value := .agg #[.int .i64 s.kind, .int .i64 s.bank, s.b.v, .int .i64 s.x, .int .i64 s.y]
def FlS.step (s : FlS) (t : Stf) : FlS × Int :=
  if t.kind = 1 then s.append t.bank t.b.l else if t.kind = 2 then s.erase t.bank else if t.kind = 5 then s.arm t.x t.y
  else if t.kind = 6 then ({ s with q := [] }, 0) else if t.kind = 7 then s.restart else (s, 0)
end Go.Proofs.Ytppmgfkpfamabaa

namespace Go.Proofs.Ytppmgfkpfamabaa
open Go.RowKit
def LiesS (w : World) (a : Option Addr) (ss : List Stf) : Prop :=
  0 < ss.length → ∃ b off, a = some ⟨b, off, none⟩ ∧ b < w.heap.size ∧ ∀ i q, ss[i]? = some q → ∀ j v, q.cells[j]? = some v → w.cell? ⟨b, off + i * 5 + j, none⟩ = some v
structure Spf where
  a : Option Addr
  n : Nat
  c : Nat
  ss : List Stf
def Spf.v (s : Spf) : Value := .slice s.a s.n s.c
structure Spf.Ok (w : World) (s : Spf) : Prop where
  len : s.ss.length = s.n
  le : s.n ≤ s.c
  mx : s.c ≤ maxLen
  lies : LiesS w s.a s.ss
  all : ∀ q ∈ s.ss, q.b.Ok w
def sizN (ss : List Stf) : Nat := (ss.map fun q => q.b.n).sum
end Go.Proofs.Ytppmgfkpfamabaa

set_option linter.unusedVariables false
namespace Go.Proofs.Ytppmgfkpfamabaa
open Go.RowKit
def MayP (bk : Int) (u v : List Int) (t : Stf) (e : Int) (st : Bool) : Prop :=
  if t.kind = 1 ∧ t.bank = bk then (e = 0 ∧ v = u ++ t.b.l) ∨ (e = 121 ∧ st = true ∧ ∃ m, v = u ++ t.b.l.take m) ∨ (e ≠ 0 ∧ ¬ (e = 121 ∧ st = true) ∧ v = u)
  else if t.kind = 2 ∧ t.bank = bk then (e = 0 ∧ v = []) ∨ (e = 121 ∧ st = true ∧ (v = [] ∨ ∃ m, m ≤ u.length ∧ v = tearL u m)) ∨ (e ≠ 0 ∧ ¬ (e = 121 ∧ st = true) ∧ u = v)
  else u = v
end Go.Proofs.Ytppmgfkpfamabaa

set_option linter.unusedSimpArgs false
set_option linter.unusedVariables false
namespace Go.Proofs.Ytppmgfkpfamabaa
open Go.RowKit
structure Rs (w : World) (vs : List Value) (ls : List (List Int)) : Prop where
  len : vs.length = ls.length
  own : ∀ (i : Nat) v l, vs[i]? = some v → ls[i]? = some l → OwB w v l
  dis : ∀ (i j : Nat) v u, vs[i]? = some v → vs[j]? = some u → i ≠ j → ∀ k, v.ownBlock = some k → u.ownBlock ≠ some k
def Far (vs : List Value) (X : Nat → Prop) : Prop := ∀ v ∈ vs, ∀ k, v.ownBlock = some k → ¬ X k
structure Inv (w0 w : World) (p g ga : Nat) (Sf Sg : Nat → Prop) (sf sg : FlS) (vs : List Value) (ls : List (List Int)) : Prop where
  rs : Rs w vs ls
  n10 : vs.length = 10
  arr : Arr w ga 22 vs
  ff : Fl w p Sf sf
  fg : Fl w g Sg sg
  far : Far vs (fun k => Sf k ∨ Sg k ∨ k < w0.heap.size)
  bel : Below w0.heap.size w0 w
  sz : ∀ l ∈ ls, l.length ≤ 1048576
def Don (i : Nat) (ls : List (List Int)) : Prop := ∀ (j : Nat) l, j < i → ls[j]? = some l → l = List.replicate l.length ((j : Int) + 1)
end Go.Proofs.Ytppmgfkpfamabaa

set_option linter.unusedSimpArgs false
set_option linter.unusedVariables false
namespace Go.Proofs.Ytppmgfkpfamabaa
open Go.RowKit
theorem OwB.put {w : World} {g n cap : Nat} {l : List Int} (h : OwB w (.slice (some ⟨g, 0, none⟩) n cap) l) (hn : n = l.length) (k : Nat) (x : Int) (hx : 0 ≤ x ∧ x ≤ 255) : OwB (w.setCell ⟨g, k, none⟩ (.int .u8 x)) (.slice (some ⟨g, 0, none⟩) n cap) (l.set k x) := by
  subst hn
  refine ⟨?_, ?_⟩
  · have := (h.1.stored k (.int .u8 x)).1
    rw [show (U8 l).set k (.int .u8 x) = U8 (l.set k x) by simp [U8, List.map_set]] at this
    rw [List.length_set]
    exact this
  · intro y hy
    rcases List.mem_or_eq_of_mem_set hy with hy | rfl
    · exact h.2 y hy
    · exact hx
end Go.Proofs.Ytppmgfkpfamabaa
