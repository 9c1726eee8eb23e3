import Derived.Test.YtdcaojiiaocnaaaGreatDoorQGaqZ
import Derived.Test.YtdcaojiiaocnaaaGreatDoorQFlP25
import Derived.Deep.DeepCutAuto
import Derived.Deep.QuietTactic
import Derived.BigQuiet
import Derived.Test.YtdcaojiiaocnaaaGreatDoorQSqM
import Derived.Shelf.Strings.SplitShaped
import Derived.Test.YtdcaojiiaocnaaaGreatDoorQSfM
import Derived.Lib.SplitLaws
import Derived.Test.YtdcaojiiaocnaaaGreatDoorQGanZ
set_option linter.unusedSimpArgs false
set_option linter.unusedVariables false
namespace Go.Proofs.YtdcaojiiaocnaaaGreatDoor
open Go.RowKit

/-- an operation in memory with a field read into it; its body the one that was there, or new -/
def FrP (O : Opq) (sb : Sx Int) (g : Nat) (l : Int) (s : ByteArray) (w : World) (e : Ending) (w' : World) : Prop :=
  ∃ (o' : Opq) (v : Sx Int), e = .returned (.bool (putL O l (strL s)).isSome) ∧ (∀ o2, putL O l (strL s) = some o2 → o2 = o') ∧ v.xs = o'.b ∧ Arr w' g 30 (opC o'.k o'.n o'.o o'.c o'.p v.v) ∧ (v = sb ∨ Ou w' w.heap.size v.v v.xs) ∧ But g w w'
theorem ansN_tup (x : Option Int) : ansN x = .tuple #[.int .i64 (x.getD 0), .bool x.isSome] := by cases x <;> rfl
theorem but_bel {g : Nat} {w w1 : World} (h : Below w.heap.size w w1) (i : Nat) (v : Value) : But g w (w1.setCell ⟨g, i, none⟩ v) := (But.of_below h).setCell i v
theorem ou_set {w w1 : World} {v : Value} {l : List Int} (h : Ou w1 w.heap.size v l) {g : Nat} (hg : g < w.heap.size) (i : Nat) (u : Value) : Ou (w1.setCell ⟨g, i, none⟩ u) w.heap.size v l := by
  refine ⟨h.1, ?_⟩
  rcases h.2 with h1 | ⟨b, cap, cur, h1, h2, h3, h4⟩
  · exact .inl h1
  · exact .inr ⟨b, cap, cur, h1, h2, (heap_setCell_other w1 ⟨g, i, none⟩ b u (by show b ≠ g; omega)).trans h3, h4⟩
set_option maxHeartbeats 4000000 in
set_option maxRecDepth 100000 in
theorem fr_any (k n oo c p : Int) (sb : Sx Int) (g : Nat) (l : Int) (s : ByteArray) (w : World) (hs : s.size ≤ 1048576) (hl : okLt l) (hA : Arr w g 30 (opC k n oo c p sb.v)) :
    Calls Tryz.prog 39 #[.int .i64 (fldN l), .pointer (some ⟨g, 0, none⟩), .string s] w (FrP ⟨k, n, oo, c, p, sb.xs⟩ sb g l s w) := by
  have hgl := hA.lt
  rcases hl with rfl | rfl | rfl | rfl | rfl
  · obtain ⟨z, hz⟩ : ∃ z, (wholeL (strL s)).getD 0 = z := ⟨_, rfl⟩
    obtain ⟨b, hb⟩ : ∃ b, (wholeL (strL s)).isSome = b := ⟨_, rfl⟩
    have hput : Hid (putL ⟨k, n, oo, c, p, sb.xs⟩ 78 (strL s) = (wholeL (strL s)).map (fun z => ⟨k, z, oo, c, p, sb.xs⟩)) := hide rfl
    have hbs : Hid ((putL ⟨k, n, oo, c, p, sb.xs⟩ 78 (strL s)).isSome = b) := hide (by rw [unhide hput, Option.isSome_map, hb])
    have hp2 : Hid (∀ o2, putL ⟨k, n, oo, c, p, sb.xs⟩ 78 (strL s) = some o2 → o2 = ⟨k, z, oo, c, p, sb.xs⟩) := hide (fun o2 h => by
      rw [unhide hput] at h
      obtain ⟨z', h1, h2⟩ := Option.map_eq_some_iff.1 h
      rw [h1] at hz
      rw [← h2, ← hz]; rfl)
    have hC : ∀ u, Calls Tryz.prog 57 #[.string s] u fun e w' => e = .returned (.tuple #[.int .i64 z, .bool b]) ∧ Below u.heap.size u w' := fun u => by
      have h9 := rn_any s u hs
      rw [ansN_tup, hz, hb] at h9; exact h9
    clear hz hb hput
    rw [show fldN 78 = 0 from rfl]
    go_enter Tryz.func39, Tryz.ntmps39
    go_wp2_with (go_at_call 57; refine (hC _).mono ?_; rintro e w1 ⟨rfl, hb1⟩; have hA1 := hA.later hb1; have c5 : w1.cell? ⟨g, 1, none⟩ = _ := hA1.cell 1; have f5 : w1.frozen? ⟨g, 1, none⟩ = false := hA1.frozen 1; simp [opC] at c5)
    go_ret
    exact ⟨⟨k, z, oo, c, p, sb.xs⟩, sb, by rw [unhide hbs]; rfl, unhide hp2, rfl, hA1.set 1 (.int .i64 z), .inl rfl, but_bel hb1 1 _⟩
  · obtain ⟨z, hz⟩ : ∃ z, (wholeL (strL s)).getD 0 = z := ⟨_, rfl⟩
    obtain ⟨b, hb⟩ : ∃ b, (wholeL (strL s)).isSome = b := ⟨_, rfl⟩
    have hput : Hid (putL ⟨k, n, oo, c, p, sb.xs⟩ 79 (strL s) = (wholeL (strL s)).map (fun z => ⟨k, n, z, c, p, sb.xs⟩)) := hide rfl
    have hbs : Hid ((putL ⟨k, n, oo, c, p, sb.xs⟩ 79 (strL s)).isSome = b) := hide (by rw [unhide hput, Option.isSome_map, hb])
    have hp2 : Hid (∀ o2, putL ⟨k, n, oo, c, p, sb.xs⟩ 79 (strL s) = some o2 → o2 = ⟨k, n, z, c, p, sb.xs⟩) := hide (fun o2 h => by
      rw [unhide hput] at h
      obtain ⟨z', h1, h2⟩ := Option.map_eq_some_iff.1 h
      rw [h1] at hz
      rw [← h2, ← hz]; rfl)
    have hC : ∀ u, Calls Tryz.prog 57 #[.string s] u fun e w' => e = .returned (.tuple #[.int .i64 z, .bool b]) ∧ Below u.heap.size u w' := fun u => by
      have h9 := rn_any s u hs
      rw [ansN_tup, hz, hb] at h9; exact h9
    clear hz hb hput
    rw [show fldN 79 = 1 from rfl]
    go_enter Tryz.func39, Tryz.ntmps39
    go_wp2_with (go_at_call 57; refine (hC _).mono ?_; rintro e w1 ⟨rfl, hb1⟩; have hA1 := hA.later hb1; have c5 : w1.cell? ⟨g, 2, none⟩ = _ := hA1.cell 2; have f5 : w1.frozen? ⟨g, 2, none⟩ = false := hA1.frozen 2; simp [opC] at c5)
    go_ret
    exact ⟨⟨k, n, z, c, p, sb.xs⟩, sb, by rw [unhide hbs]; rfl, unhide hp2, rfl, hA1.set 2 (.int .i64 z), .inl rfl, but_bel hb1 2 _⟩
  · obtain ⟨z, hz⟩ : ∃ z, (wholeL (strL s)).getD 0 = z := ⟨_, rfl⟩
    obtain ⟨b, hb⟩ : ∃ b, (wholeL (strL s)).isSome = b := ⟨_, rfl⟩
    have hput : Hid (putL ⟨k, n, oo, c, p, sb.xs⟩ 67 (strL s) = (wholeL (strL s)).map (fun z => ⟨k, n, oo, z, p, sb.xs⟩)) := hide rfl
    have hbs : Hid ((putL ⟨k, n, oo, c, p, sb.xs⟩ 67 (strL s)).isSome = b) := hide (by rw [unhide hput, Option.isSome_map, hb])
    have hp2 : Hid (∀ o2, putL ⟨k, n, oo, c, p, sb.xs⟩ 67 (strL s) = some o2 → o2 = ⟨k, n, oo, z, p, sb.xs⟩) := hide (fun o2 h => by
      rw [unhide hput] at h
      obtain ⟨z', h1, h2⟩ := Option.map_eq_some_iff.1 h
      rw [h1] at hz
      rw [← h2, ← hz]; rfl)
    have hC : ∀ u, Calls Tryz.prog 57 #[.string s] u fun e w' => e = .returned (.tuple #[.int .i64 z, .bool b]) ∧ Below u.heap.size u w' := fun u => by
      have h9 := rn_any s u hs
      rw [ansN_tup, hz, hb] at h9; exact h9
    clear hz hb hput
    rw [show fldN 67 = 2 from rfl]
    go_enter Tryz.func39, Tryz.ntmps39
    go_wp2_with (go_at_call 57; refine (hC _).mono ?_; rintro e w1 ⟨rfl, hb1⟩; have hA1 := hA.later hb1; have c5 : w1.cell? ⟨g, 3, none⟩ = _ := hA1.cell 3; have f5 : w1.frozen? ⟨g, 3, none⟩ = false := hA1.frozen 3; simp [opC] at c5)
    go_ret
    exact ⟨⟨k, n, oo, z, p, sb.xs⟩, sb, by rw [unhide hbs]; rfl, unhide hp2, rfl, hA1.set 3 (.int .i64 z), .inl rfl, but_bel hb1 3 _⟩
  · obtain ⟨z, hz⟩ : ∃ z, (wholeL (strL s)).getD 0 = z := ⟨_, rfl⟩
    obtain ⟨b, hb⟩ : ∃ b, (wholeL (strL s)).isSome = b := ⟨_, rfl⟩
    have hput : Hid (putL ⟨k, n, oo, c, p, sb.xs⟩ 80 (strL s) = (wholeL (strL s)).map (fun z => ⟨k, n, oo, c, z, sb.xs⟩)) := hide rfl
    have hbs : Hid ((putL ⟨k, n, oo, c, p, sb.xs⟩ 80 (strL s)).isSome = b) := hide (by rw [unhide hput, Option.isSome_map, hb])
    have hp2 : Hid (∀ o2, putL ⟨k, n, oo, c, p, sb.xs⟩ 80 (strL s) = some o2 → o2 = ⟨k, n, oo, c, z, sb.xs⟩) := hide (fun o2 h => by
      rw [unhide hput] at h
      obtain ⟨z', h1, h2⟩ := Option.map_eq_some_iff.1 h
      rw [h1] at hz
      rw [← h2, ← hz]; rfl)
    have hC : ∀ u, Calls Tryz.prog 57 #[.string s] u fun e w' => e = .returned (.tuple #[.int .i64 z, .bool b]) ∧ Below u.heap.size u w' := fun u => by
      have h9 := rn_any s u hs
      rw [ansN_tup, hz, hb] at h9; exact h9
    clear hz hb hput
    rw [show fldN 80 = 3 from rfl]
    go_enter Tryz.func39, Tryz.ntmps39
    go_wp2_with (go_at_call 57; refine (hC _).mono ?_; rintro e w1 ⟨rfl, hb1⟩; have hA1 := hA.later hb1; have c5 : w1.cell? ⟨g, 4, none⟩ = _ := hA1.cell 4; have f5 : w1.frozen? ⟨g, 4, none⟩ = false := hA1.frozen 4; simp [opC] at c5)
    go_ret
    exact ⟨⟨k, n, oo, c, z, sb.xs⟩, sb, by rw [unhide hbs]; rfl, unhide hp2, rfl, hA1.set 4 (.int .i64 z), .inl rfl, but_bel hb1 4 _⟩
  · have hput : Hid (putL ⟨k, n, oo, c, p, sb.xs⟩ 66 (strL s) = (bytesL (strL s)).map (fun b => ⟨k, n, oo, c, p, b⟩)) := hide rfl
    rw [show fldN 66 = 4 from rfl]
    go_enter Tryz.func39, Tryz.ntmps39
    go_wp2_with (go_at_call 56; refine (rb_any s _ hs).mono ?_; rintro e w1 ⟨v, rfl, hvx, hO, hb1⟩; have hA1 := hA.later hb1; have c5 : w1.cell? ⟨g, 5, none⟩ = _ := hA1.cell 5; have f5 : w1.frozen? ⟨g, 5, none⟩ = false := hA1.frozen 5; simp [opC] at c5; obtain ⟨va, vn, vc, vl⟩ := v; simp only [Sx.v] at *)
    go_ret
    refine ⟨⟨k, n, oo, c, p, vl⟩, ⟨va, vn, vc, vl⟩, by rw [unhide hput, Option.isSome_map]; rfl, fun o2 h => ?_, rfl, hA1.set 5 (.slice va vn vc), .inr (ou_set hO hgl 5 _), but_bel hb1 5 _⟩
    rw [unhide hput] at h
    obtain ⟨z', h1, h2⟩ := Option.map_eq_some_iff.1 h
    rw [h1] at hvx
    rw [← h2, show vl = z' from hvx]
end Go.Proofs.YtdcaojiiaocnaaaGreatDoor

set_option linter.unusedVariables false
namespace Go.Proofs.YtdcaojiiaocnaaaGreatDoor
open Go.Shelf

/-! The library's contracts at this program. -/
def Tryz.lays146_ren : Go.Shelf.Ren := ⟨fun | 146 => 37 | 221 => 55 | 268 => 71 | 138 => 72 | 143 => 73 | 195 => 89 | 197 => 90 | 218 => 91 | 219 => 92 | 260 => 99 | 217 => 100 | 225 => 101 | 224 => 87 | 267 => 102 | 266 => 104 | 314 => 105 | n => n, fun | 9 => 9 | 31 => 87 | 3 => 3 | 4 => 4 | 0 => 0 | 105 => 140 | 21 => 21 | 5 => 5 | 46 => 148 | 119 => 163 | 139 => 166 | 138 => 165 | 146 => 167 | 51 => 152 | n => n, fun | 1 => 2 | 3 => 3 | 4 => 4 | n => n⟩
theorem Tryz.lays146 : Go.Proofs.Lays.n146 Tryz.prog Tryz.lays146_ren := {
  mixed := by kernel_rfl
  f138 := Tryz.func72.trans (congrArg some (by kernel_rfl))
  f143 := Tryz.func73.trans (congrArg some (by kernel_rfl))
  f146 := Tryz.func37.trans (congrArg some (by kernel_rfl))
  f195 := Tryz.func89.trans (congrArg some (by kernel_rfl))
  f197 := Tryz.func90.trans (congrArg some (by kernel_rfl))
  f217 := Tryz.func100.trans (congrArg some (by kernel_rfl))
  f218 := Tryz.func91.trans (congrArg some (by kernel_rfl))
  f219 := Tryz.func92.trans (congrArg some (by kernel_rfl))
  f221 := Tryz.func55.trans (congrArg some (by kernel_rfl))
  f224 := Tryz.func87.trans (congrArg some (by kernel_rfl))
  f225 := Tryz.func101.trans (congrArg some (by kernel_rfl))
  f260 := Tryz.func99.trans (congrArg some (by kernel_rfl))
  f266 := Tryz.func104.trans (congrArg some (by kernel_rfl))
  f267 := Tryz.func102.trans (congrArg some (by kernel_rfl))
  f268 := Tryz.func71.trans (congrArg some (by kernel_rfl))
  f314 := Tryz.func105.trans (congrArg some (by kernel_rfl))
  t0 := Tryz.underlying0
  a0 := Tryz.isAgg0
  z0 := Tryz.sizeOf0
  v0 := Tryz.zeroValue0
  t3 := Tryz.underlying3
  a3 := Tryz.isAgg3
  z3 := Tryz.sizeOf3
  v3 := Tryz.zeroValue3
  t4 := Tryz.underlying4
  a4 := Tryz.isAgg4
  z4 := Tryz.sizeOf4
  v4 := Tryz.zeroValue4
  t5 := Tryz.underlying5
  a5 := Tryz.isAgg5
  z5 := Tryz.sizeOf5
  v5 := Tryz.zeroValue5
  t9 := Tryz.underlying9
  a9 := Tryz.isAgg9
  z9 := Tryz.sizeOf9
  v9 := Tryz.zeroValue9
  t21 := Tryz.underlying21
  a21 := Tryz.isAgg21
  z21 := Tryz.sizeOf21
  v21 := Tryz.zeroValue21
  t31 := Tryz.underlying87
  a31 := Tryz.isAgg87
  z31 := Tryz.sizeOf87
  v31 := Tryz.zeroValue87
  t46 := Tryz.underlying148
  a46 := Tryz.isAgg148
  z46 := Tryz.sizeOf148
  v46 := Tryz.zeroValue148
  t51 := Tryz.underlying152
  a51 := Tryz.isAgg152
  z51 := Tryz.sizeOf152
  v51 := Tryz.zeroValue152
  t105 := Tryz.underlying140
  a105 := Tryz.isAgg140
  z105 := Tryz.sizeOf140
  v105 := Tryz.zeroValue140
  t119 := Tryz.underlying163
  a119 := Tryz.isAgg163
  z119 := Tryz.sizeOf163
  t138 := Tryz.underlying165
  a138 := Tryz.isAgg165
  z138 := Tryz.sizeOf165
  v138 := Tryz.zeroValue165
  t139 := Tryz.underlying166
  a139 := Tryz.isAgg166
  z139 := Tryz.sizeOf166
  v139 := Tryz.zeroValue166
  t146 := Tryz.underlying167
  a146 := Tryz.isAgg167
  z146 := Tryz.sizeOf167
  v146 := Tryz.zeroValue167
  g1 := by kernel_rfl
  g3 := by kernel_rfl
  g4 := by kernel_rfl }
open Go.RowKit Go.Lib in
theorem Tryz.strings_Split (s sep : ByteArray) (m : Int) (w : World) (hs : s.size < 4294967281) (hm : w.cell? ⟨2, 0, none⟩ = some (.int .i64 m)) (h1 : 1 ≤ sep.size) :
    Calls Tryz.prog 37 #[.string s, .string sep] w fun e w' =>
      e = .returned (.slice (some ⟨w.heap.size, 0, none⟩) (Lib.countB s sep + 1) (Lib.countB s sep + 1)) ∧ w' = w.alloc (.cells ((Lib.splitB sep 0 (Lib.countB s sep) s).map Value.string).toArray 9) := Any.strings_Split Tryz.lays146 (by kernel_rfl) s sep m w hs hm h1
end Go.Proofs.YtdcaojiiaocnaaaGreatDoor

set_option linter.unusedSimpArgs false
set_option linter.unusedVariables false
namespace Go.Proofs.YtdcaojiiaocnaaaGreatDoor
open Go.RowKit

/-! strings.Split at a blank: the fields of a line. -/
def i8L (l : List UInt8) : List Int := l.map fun c => (c.toNat : Int)
def spU (l : List UInt8) : List (List UInt8) := Lib.splitK [32] 0 (Lib.count l [32]) l
theorem spU_nil : spU [] = [[]] := by kernel_rfl
theorem ix_b (l : List UInt8) : Lib.index (32 :: l) [32] = 0 := by
  rw [Lib.index]; simp
theorem ix_c {b : UInt8} (l : List UInt8) (h : b ≠ 32) : Lib.index (b :: l) [32] = if Lib.index l [32] == -1 then -1 else Lib.index l [32] + 1 := by
  rw [Lib.index]
  have : ([32] : List UInt8).isPrefixOf (b :: l) = false := by simp [List.isPrefixOf]; exact fun e => h e.symm
  rw [this]; rfl
theorem spU_b (l : List UInt8) : spU (32 :: l) = [] :: spU l := by
  unfold spU
  rw [Lib.count_cons_eq, Nat.add_comm, Lib.splitK, ix_b]
  simp
theorem spU_c {b : UInt8} (l : List UInt8) (h : b ≠ 32) {f : List UInt8} {r : List (List UInt8)} (hs : spU l = f :: r) : spU (b :: l) = (b :: f) :: r := by
  unfold spU at *
  rw [Lib.count_cons_ne b 32 l h]
  cases hk : Lib.count l [32] with
  | zero =>
    rw [hk] at hs
    simp only [Lib.splitK] at hs ⊢
    simp only [List.cons.injEq] at hs
    rw [← hs.1, ← hs.2]
  | succ k =>
    rw [hk] at hs
    obtain ⟨i, hi⟩ := Lib.index_of_count (s := l) (old := [32]) (by omega)
    have h1 : (Lib.index l [32] == -1) = false := by rw [hi, beq_eq_false_iff_ne]; omega
    have hi2 : Lib.index (b :: l) [32] = (i + 1 : Nat) := by rw [ix_c l h, h1, hi]; rfl
    have h2 : (Lib.index (b :: l) [32] == -1) = false := by rw [hi2, beq_eq_false_iff_ne]; omega
    rw [Lib.splitK, h1, hi] at hs
    rw [Lib.splitK, h2, hi2]
    simp only [Bool.false_eq_true, if_false, Int.toNat_natCast, Nat.add_zero, List.length_cons, List.length_nil, List.cons.injEq] at hs ⊢
    obtain ⟨rfl, rfl⟩ := hs
    exact ⟨rfl, rfl⟩
theorem spU_eq : ∀ l : List UInt8, (spU l).map i8L = splitB (i8L l)
  | [] => by rw [spU_nil]; rfl
  | b :: l => by
    have ih := spU_eq l
    by_cases h : b = 32
    · subst h
      rw [spU_b, List.map_cons, ih]
      show _ = splitB (32 :: i8L l)
      rw [splitB_b]; rfl
    · cases hs : spU l with
      | nil => rw [hs] at ih; exact absurd ih.symm (splitB_ne _)
      | cons f r =>
        rw [spU_c l h hs]
        rw [hs, List.map_cons] at ih
        show _ = splitB ((b.toNat : Int) :: i8L l)
        have hb : (b.toNat : Int) ≠ 32 := fun e => h (by
          apply UInt8.toNat_inj.1
          have h4 : (32 : UInt8).toNat = 32 := rfl
          omega)
        rw [splitB_c hb ih.symm]; rfl
theorem split_str (s : ByteArray) : (Lib.splitB { data := #[32] } 0 (Lib.countB s { data := #[32] }) s).map strL = splitB (strL s) := by
  have h := Lib.splitB_data { data := #[32] } 0 (Lib.countB s { data := #[32] }) s
  have h2 := spU_eq s.data.toList
  have h3 : (Lib.splitB { data := #[32] } 0 (Lib.countB s { data := #[32] }) s).map strL = ((Lib.splitB { data := #[32] } 0 (Lib.countB s { data := #[32] }) s).map (·.data.toList)).map i8L := by
    rw [List.map_map]; rfl
  rw [h3, h]
  exact h2
def MLn (w : World) : Prop := ∃ m : Int, w.cell? ⟨2, 0, none⟩ = some (.int .i64 m)
theorem split_any (s : ByteArray) (w : World) (hs : s.size ≤ 1048576) (hm : MLn w) :
    Calls Tryz.prog 37 #[.string s, .string { data := #[32] }] w fun e w' => ∃ ss : List ByteArray, ss.map strL = splitB (strL s) ∧ e = .returned (.slice (some ⟨w.heap.size, 0, none⟩) ss.length ss.length) ∧ w' = w.alloc (.cells (ss.map Value.string).toArray 9) := by
  obtain ⟨m, hm⟩ := hm
  refine (Tryz.strings_Split s { data := #[32] } m w (by omega) hm (by decide)).mono ?_
  rintro e w' ⟨rfl, rfl⟩
  have hl := Lib.splitB_all { data := #[32] } (by decide) 0 (Lib.countB s { data := #[32] }) s rfl
  exact ⟨_, split_str s, by rw [hl], rfl⟩

/-! The program's command. -/
def cdC (v : Value) (k : Int) (u : Value) : List Value := [v, .int .i64 k, u]
theorem Tryz.inD : (Tryz.prog.info? 70).map (fun i => (i.zero, i.size)) = some (some (aV (cdC (.string { data := #[] }) 0 (.slice none 0 0))), 3) := by kernel_rfl
theorem sz_D (v : Value) (k : Int) (u : Value) : (Tryz.prog.info? 70).map (·.size) = some (cdC v k u).length := by show _ = some 3; kernel_rfl
theorem one_D (k : Int) {v : Value} {u : Value} (hv : v.oneCell' = true) (hu : u.oneCell' = true) : ∀ u9 ∈ cdC v k u, u9.oneCell' = true := by intro u9 hu9; simp [cdC] at hu9; rcases hu9 with rfl | rfl | rfl <;> first | rfl | assumption
theorem pt_D (v : Value) (k : Int) (u : Value) (v9 : Value) (k9 : Int) (u9 : Value) : Pt (cdC v k u) 0 (cdC v9 k9 u9) (cdC v9 k9 u9) := Pt.self rfl
theorem at_D0 (v : Value) (k : Int) (u : Value) : At (cdC v k u) 0 [v] := ⟨[], [.int .i64 k, u], rfl, rfl⟩
theorem pt_D0 (v : Value) (k : Int) (u : Value) (z9 : Value) : Pt (cdC v k u) 0 [z9] (cdC z9 k u) := ⟨[], [v], [.int .i64 k, u], rfl, rfl, rfl, rfl⟩
theorem at_D1 (v : Value) (k : Int) (u : Value) : At (cdC v k u) 1 [.int .i64 k] := ⟨[v], [u], rfl, rfl⟩
theorem pt_D1 (v : Value) (k : Int) (u : Value) (z9 : Int) : Pt (cdC v k u) 1 [.int .i64 z9] (cdC v z9 u) := ⟨[v], [.int .i64 k], [u], rfl, rfl, rfl, rfl⟩
theorem at_D2 (v : Value) (k : Int) (u : Value) : At (cdC v k u) 2 [u] := ⟨[v, .int .i64 k], [], rfl, rfl⟩
theorem pt_D2 (v : Value) (k : Int) (u : Value) (z9 : Value) : Pt (cdC v k u) 2 [z9] (cdC v k z9) := ⟨[v, .int .i64 k], [u], [], rfl, rfl, rfl, rfl⟩
/-- what byWord and byKind answer: the row of a kind (0: none) -/
def CdP (k : Nat) (w : World) (e : Ending) (w' : World) : Prop :=
  (k = 0 ∧ e = .returned (.tuple #[aV (cdC (.string .empty) 0 (.slice none 0 0)), .bool false]) ∧ Below w.heap.size w w') ∨
  (1 ≤ k ∧ k < 22 ∧ ∃ v : Sx Int, e = .returned (.tuple #[aV (cdC (.string (strOfNums (cmdW k))) k v.v), .bool true]) ∧ Sx.Ok iC 1 w' v ∧ (∀ x, v.a = some x → w.heap.size ≤ x.block) ∧ v.xs = (cmdF k).map fldN ∧ Below w.heap.size w w')
theorem tellP_eq {o : Opq} {l : Int} {f : List Int} (h : tellP o l = some f) : tellL o l = some f := by
  unfold tellP at h
  unfold tellL
  split at h
  · rename_i hl
    rw [if_pos hl]
    split at h
    · rename_i hb; rw [if_pos hb]; exact h
    · rename_i hb
      rw [if_neg hb]
      split at h
      · rename_i h2; rw [if_pos (by omega)]; exact h
      · cases h
  · rename_i hl
    rw [if_neg hl]; exact h
theorem tellP_none {o : Opq} {l : Int} (h : tellP o l = none) : tellL o l = none ∨ (l = 66 ∧ 1100 < o.b.length) := by
  unfold tellP at h
  unfold tellL
  split at h
  · rename_i hl
    rw [if_pos hl]
    split at h
    · cases h
    · rename_i hb
      rw [if_neg hb]
      split at h
      · cases h
      · rename_i h2; exact .inr ⟨hl, by omega⟩
  · rename_i hl
    rw [if_neg hl]; exact .inl h
theorem tellF_in {o : Opq} {l : Int} {f : List Int} (hf : tellL o l = some f) : ∀ {ls : List Int} {fs : List (List Int)}, l ∈ ls → tellF o ls = some fs → f ∈ fs
  | [], _, h, _ => by cases h
  | x :: ls, fs, h, ht => by
    unfold tellF at ht
    split at ht
    · rename_i g gs h3 h4
      simp only [Option.some.injEq] at ht
      subst ht
      rcases List.mem_cons.1 h with rfl | h
      · rw [hf] at h3; simp only [Option.some.injEq] at h3; subst h3; simp
      · exact List.mem_cons_of_mem _ (tellF_in hf h h4)
    · cases ht
theorem format_none {o : Opq} (hk : 1 ≤ o.k ∧ o.k ≤ 21) {l : Int} (hl : l ∈ cmdF o.k.toNat) (h : tellP o l = none) : formatL o = none := by
  rcases tellP_none h with h | ⟨rfl, hb⟩
  · unfold formatL
    rw [if_pos hk, tellF_none h hl]
  · unfold formatL
    rw [if_pos hk]
    cases ht : tellF o (cmdF o.k.toNat) with
    | none => rfl
    | some fs =>
      show (if (joinB (cmdW o.k.toNat :: fs)).length ≤ 2200 then _ else none) = none
      have hlen : (hexL o.b).length = 2 * o.b.length := hexL_length _
      have hne : o.b ≠ [] := fun e => by rw [e] at hb; simp at hb
      by_cases h2 : o.b.length ≤ 2200
      · have htl : tellL o 66 = some (hexL o.b) := by unfold tellL; rw [if_pos rfl, if_neg hne, if_pos h2]
        have hmem : hexL o.b ∈ fs := tellF_in htl hl ht
        have hj := join_len (cmdW o.k.toNat :: fs) (by simp)
        have hs : (hexL o.b).length + 1 ≤ (fs.map (fun f => f.length + 1)).sum := le_sum25 (List.mem_map.2 ⟨_, hmem, rfl⟩)
        rw [if_neg]
        simp only [List.map_cons, List.sum_cons] at hj
        omega
      · have htl : tellL o 66 = none := by unfold tellL; rw [if_pos rfl, if_neg hne, if_neg h2]
        rw [tellF_none htl hl] at ht; cases ht
end Go.Proofs.YtdcaojiiaocnaaaGreatDoor
