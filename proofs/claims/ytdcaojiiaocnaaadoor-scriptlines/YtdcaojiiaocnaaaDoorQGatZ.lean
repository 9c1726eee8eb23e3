import Derived.Test.YtdcaojiiaocnaaaDoorQGaqZ
import Derived.Test.YtdcaojiiaocnaaaDoorQFlP25
import Derived.Deep.DeepCutAuto
import Derived.Deep.QuietTactic
import Derived.BigQuiet
import Derived.Test.YtdcaojiiaocnaaaDoorQSqM
import Derived.Shelf.Strings.SplitShaped
import Derived.Test.YtdcaojiiaocnaaaDoorQSfM
import Derived.Lib.SplitLaws
set_option linter.unusedSimpArgs false
set_option linter.unusedVariables false
namespace Go.Proofs.YtdcaojiiaocnaaaDoor
open Go.RowKit

/-- an operation in memory with a field read into it; its body the one that was there, or new -/
def FrP (O : Opq) (sb : Sx Int) (g : Nat) (l : Int) (s : ByteArray) (w : World) (e : Ending) (w' : World) : Prop :=
  ∃ (o' : Opq) (v : Sx Int), e = .returned (.bool (putL O l (strL s)).isSome) ∧ (∀ o2, putL O l (strL s) = some o2 → o2 = o') ∧ v.xs = o'.b ∧ Arr w' g 30 (opC o'.k o'.n o'.o o'.c o'.p v.v) ∧ (v = sb ∨ Ou w' w.heap.size v.v v.xs) ∧ But g w w'
theorem ansN_tup (x : Option Int) : ansN x = .tuple #[.int .i64 (x.getD 0), .bool x.isSome] := by cases x <;> rfl
theorem but_bel {g : Nat} {w w1 : World} (h : Below w.heap.size w w1) (i : Nat) (v : Value) : But g w (w1.setCell ⟨g, i, none⟩ v) := (But.of_below h).setCell i v
theorem ou_set {w w1 : World} {v : Value} {l : List Int} (h : Ou w1 w.heap.size v l) {g : Nat} (hg : g < w.heap.size) (i : Nat) (u : Value) : Ou (w1.setCell ⟨g, i, none⟩ u) w.heap.size v l := by
  refine ⟨h.1, ?_⟩
  rcases h.2 with h1 | ⟨b, cap, cur, h1, h2, h3, h4⟩
  · exact .inl h1
  · exact .inr ⟨b, cap, cur, h1, h2, (heap_setCell_other w1 ⟨g, i, none⟩ b u (by show b ≠ g; omega)).trans h3, h4⟩
set_option maxHeartbeats 4000000 in
set_option maxRecDepth 100000 in
theorem fr_any (k n oo c p : Int) (sb : Sx Int) (g : Nat) (l : Int) (s : ByteArray) (w : World) (hs : s.size ≤ 1048576) (hl : okLt l) (hA : Arr w g 30 (opC k n oo c p sb.v)) :
    Calls Tryd.prog 33 #[.int .i64 (fldN l), .pointer (some ⟨g, 0, none⟩), .string s] w (FrP ⟨k, n, oo, c, p, sb.xs⟩ sb g l s w) := by
  have hgl := hA.lt
  rcases hl with rfl | rfl | rfl | rfl | rfl
  · obtain ⟨z, hz⟩ : ∃ z, (wholeL (strL s)).getD 0 = z := ⟨_, rfl⟩
    obtain ⟨b, hb⟩ : ∃ b, (wholeL (strL s)).isSome = b := ⟨_, rfl⟩
    have hput : Hid (putL ⟨k, n, oo, c, p, sb.xs⟩ 78 (strL s) = (wholeL (strL s)).map (fun z => ⟨k, z, oo, c, p, sb.xs⟩)) := hide rfl
    have hbs : Hid ((putL ⟨k, n, oo, c, p, sb.xs⟩ 78 (strL s)).isSome = b) := hide (by rw [unhide hput, Option.isSome_map, hb])
    have hp2 : Hid (∀ o2, putL ⟨k, n, oo, c, p, sb.xs⟩ 78 (strL s) = some o2 → o2 = ⟨k, z, oo, c, p, sb.xs⟩) := hide (fun o2 h => by
      rw [unhide hput] at h
      obtain ⟨z', h1, h2⟩ := Option.map_eq_some_iff.1 h
      rw [h1] at hz
      rw [← h2, ← hz]; rfl)
    have hC : ∀ u, Calls Tryd.prog 47 #[.string s] u fun e w' => e = .returned (.tuple #[.int .i64 z, .bool b]) ∧ Below u.heap.size u w' := fun u => by
      have h9 := rn_any s u hs
      rw [ansN_tup, hz, hb] at h9; exact h9
    clear hz hb hput
    rw [show fldN 78 = 0 from rfl]
    go_enter Tryd.func33, Tryd.ntmps33
    go_wp2_with (go_at_call 47; refine (hC _).mono ?_; rintro e w1 ⟨rfl, hb1⟩; have hA1 := hA.later hb1; have c5 : w1.cell? ⟨g, 1, none⟩ = _ := hA1.cell 1; have f5 : w1.frozen? ⟨g, 1, none⟩ = false := hA1.frozen 1; simp [opC] at c5)
    go_ret
    exact ⟨⟨k, z, oo, c, p, sb.xs⟩, sb, by rw [unhide hbs]; rfl, unhide hp2, rfl, hA1.set 1 (.int .i64 z), .inl rfl, but_bel hb1 1 _⟩
  · obtain ⟨z, hz⟩ : ∃ z, (wholeL (strL s)).getD 0 = z := ⟨_, rfl⟩
    obtain ⟨b, hb⟩ : ∃ b, (wholeL (strL s)).isSome = b := ⟨_, rfl⟩
    have hput : Hid (putL ⟨k, n, oo, c, p, sb.xs⟩ 79 (strL s) = (wholeL (strL s)).map (fun z => ⟨k, n, z, c, p, sb.xs⟩)) := hide rfl
    have hbs : Hid ((putL ⟨k, n, oo, c, p, sb.xs⟩ 79 (strL s)).isSome = b) := hide (by rw [unhide hput, Option.isSome_map, hb])
    have hp2 : Hid (∀ o2, putL ⟨k, n, oo, c, p, sb.xs⟩ 79 (strL s) = some o2 → o2 = ⟨k, n, z, c, p, sb.xs⟩) := hide (fun o2 h => by
      rw [unhide hput] at h
      obtain ⟨z', h1, h2⟩ := Option.map_eq_some_iff.1 h
      rw [h1] at hz
      rw [← h2, ← hz]; rfl)
    have hC : ∀ u, Calls Tryd.prog 47 #[.string s] u fun e w' => e = .returned (.tuple #[.int .i64 z, .bool b]) ∧ Below u.heap.size u w' := fun u => by
      have h9 := rn_any s u hs
      rw [ansN_tup, hz, hb] at h9; exact h9
    clear hz hb hput
    rw [show fldN 79 = 1 from rfl]
    go_enter Tryd.func33, Tryd.ntmps33
    go_wp2_with (go_at_call 47; refine (hC _).mono ?_; rintro e w1 ⟨rfl, hb1⟩; have hA1 := hA.later hb1; have c5 : w1.cell? ⟨g, 2, none⟩ = _ := hA1.cell 2; have f5 : w1.frozen? ⟨g, 2, none⟩ = false := hA1.frozen 2; simp [opC] at c5)
    go_ret
    exact ⟨⟨k, n, z, c, p, sb.xs⟩, sb, by rw [unhide hbs]; rfl, unhide hp2, rfl, hA1.set 2 (.int .i64 z), .inl rfl, but_bel hb1 2 _⟩
  · obtain ⟨z, hz⟩ : ∃ z, (wholeL (strL s)).getD 0 = z := ⟨_, rfl⟩
    obtain ⟨b, hb⟩ : ∃ b, (wholeL (strL s)).isSome = b := ⟨_, rfl⟩
    have hput : Hid (putL ⟨k, n, oo, c, p, sb.xs⟩ 67 (strL s) = (wholeL (strL s)).map (fun z => ⟨k, n, oo, z, p, sb.xs⟩)) := hide rfl
    have hbs : Hid ((putL ⟨k, n, oo, c, p, sb.xs⟩ 67 (strL s)).isSome = b) := hide (by rw [unhide hput, Option.isSome_map, hb])
    have hp2 : Hid (∀ o2, putL ⟨k, n, oo, c, p, sb.xs⟩ 67 (strL s) = some o2 → o2 = ⟨k, n, oo, z, p, sb.xs⟩) := hide (fun o2 h => by
      rw [unhide hput] at h
      obtain ⟨z', h1, h2⟩ := Option.map_eq_some_iff.1 h
      rw [h1] at hz
      rw [← h2, ← hz]; rfl)
    have hC : ∀ u, Calls Tryd.prog 47 #[.string s] u fun e w' => e = .returned (.tuple #[.int .i64 z, .bool b]) ∧ Below u.heap.size u w' := fun u => by
      have h9 := rn_any s u hs
      rw [ansN_tup, hz, hb] at h9; exact h9
    clear hz hb hput
    rw [show fldN 67 = 2 from rfl]
    go_enter Tryd.func33, Tryd.ntmps33
    go_wp2_with (go_at_call 47; refine (hC _).mono ?_; rintro e w1 ⟨rfl, hb1⟩; have hA1 := hA.later hb1; have c5 : w1.cell? ⟨g, 3, none⟩ = _ := hA1.cell 3; have f5 : w1.frozen? ⟨g, 3, none⟩ = false := hA1.frozen 3; simp [opC] at c5)
    go_ret
    exact ⟨⟨k, n, oo, z, p, sb.xs⟩, sb, by rw [unhide hbs]; rfl, unhide hp2, rfl, hA1.set 3 (.int .i64 z), .inl rfl, but_bel hb1 3 _⟩
  · obtain ⟨z, hz⟩ : ∃ z, (wholeL (strL s)).getD 0 = z := ⟨_, rfl⟩
    obtain ⟨b, hb⟩ : ∃ b, (wholeL (strL s)).isSome = b := ⟨_, rfl⟩
    have hput : Hid (putL ⟨k, n, oo, c, p, sb.xs⟩ 80 (strL s) = (wholeL (strL s)).map (fun z => ⟨k, n, oo, c, z, sb.xs⟩)) := hide rfl
    have hbs : Hid ((putL ⟨k, n, oo, c, p, sb.xs⟩ 80 (strL s)).isSome = b) := hide (by rw [unhide hput, Option.isSome_map, hb])
    have hp2 : Hid (∀ o2, putL ⟨k, n, oo, c, p, sb.xs⟩ 80 (strL s) = some o2 → o2 = ⟨k, n, oo, c, z, sb.xs⟩) := hide (fun o2 h => by
      rw [unhide hput] at h
      obtain ⟨z', h1, h2⟩ := Option.map_eq_some_iff.1 h
      rw [h1] at hz
      rw [← h2, ← hz]; rfl)
    have hC : ∀ u, Calls Tryd.prog 47 #[.string s] u fun e w' => e = .returned (.tuple #[.int .i64 z, .bool b]) ∧ Below u.heap.size u w' := fun u => by
      have h9 := rn_any s u hs
      rw [ansN_tup, hz, hb] at h9; exact h9
    clear hz hb hput
    rw [show fldN 80 = 3 from rfl]
    go_enter Tryd.func33, Tryd.ntmps33
    go_wp2_with (go_at_call 47; refine (hC _).mono ?_; rintro e w1 ⟨rfl, hb1⟩; have hA1 := hA.later hb1; have c5 : w1.cell? ⟨g, 4, none⟩ = _ := hA1.cell 4; have f5 : w1.frozen? ⟨g, 4, none⟩ = false := hA1.frozen 4; simp [opC] at c5)
    go_ret
    exact ⟨⟨k, n, oo, c, z, sb.xs⟩, sb, by rw [unhide hbs]; rfl, unhide hp2, rfl, hA1.set 4 (.int .i64 z), .inl rfl, but_bel hb1 4 _⟩
  · have hput : Hid (putL ⟨k, n, oo, c, p, sb.xs⟩ 66 (strL s) = (bytesL (strL s)).map (fun b => ⟨k, n, oo, c, p, b⟩)) := hide rfl
    rw [show fldN 66 = 4 from rfl]
    go_enter Tryd.func33, Tryd.ntmps33
    go_wp2_with (go_at_call 46; refine (rb_any s _ hs).mono ?_; rintro e w1 ⟨v, rfl, hvx, hO, hb1⟩; have hA1 := hA.later hb1; have c5 : w1.cell? ⟨g, 5, none⟩ = _ := hA1.cell 5; have f5 : w1.frozen? ⟨g, 5, none⟩ = false := hA1.frozen 5; simp [opC] at c5; obtain ⟨va, vn, vc, vl⟩ := v; simp only [Sx.v] at *)
    go_ret
    refine ⟨⟨k, n, oo, c, p, vl⟩, ⟨va, vn, vc, vl⟩, by rw [unhide hput, Option.isSome_map]; rfl, fun o2 h => ?_, rfl, hA1.set 5 (.slice va vn vc), .inr (ou_set hO hgl 5 _), but_bel hb1 5 _⟩
    rw [unhide hput] at h
    obtain ⟨z', h1, h2⟩ := Option.map_eq_some_iff.1 h
    rw [h1] at hvx
    rw [← h2, show vl = z' from hvx]
end Go.Proofs.YtdcaojiiaocnaaaDoor

set_option linter.unusedVariables false
namespace Go.Proofs.YtdcaojiiaocnaaaDoor
open Go.Shelf

/-! The library's contracts at this program. -/
def Tryd.lays146_ren : Go.Shelf.Ren := ⟨fun | 146 => 31 | 221 => 45 | 268 => 59 | 138 => 60 | 143 => 61 | 195 => 73 | 197 => 74 | 218 => 75 | 219 => 76 | 260 => 81 | 217 => 82 | 225 => 83 | 224 => 69 | 267 => 84 | 266 => 86 | 314 => 87 | n => n, fun | 9 => 9 | 31 => 75 | 3 => 3 | 4 => 4 | 0 => 0 | 105 => 121 | 21 => 21 | 5 => 5 | 46 => 130 | 119 => 143 | 139 => 146 | 138 => 145 | 146 => 147 | 51 => 127 | n => n, fun | 1 => 2 | 3 => 3 | 4 => 4 | n => n⟩
theorem Tryd.lays146 : Go.Proofs.Lays.n146 Tryd.prog Tryd.lays146_ren := {
  mixed := by kernel_rfl
  f138 := Tryd.func60.trans (congrArg some (by kernel_rfl))
  f143 := Tryd.func61.trans (congrArg some (by kernel_rfl))
  f146 := Tryd.func31.trans (congrArg some (by kernel_rfl))
  f195 := Tryd.func73.trans (congrArg some (by kernel_rfl))
  f197 := Tryd.func74.trans (congrArg some (by kernel_rfl))
  f217 := Tryd.func82.trans (congrArg some (by kernel_rfl))
  f218 := Tryd.func75.trans (congrArg some (by kernel_rfl))
  f219 := Tryd.func76.trans (congrArg some (by kernel_rfl))
  f221 := Tryd.func45.trans (congrArg some (by kernel_rfl))
  f224 := Tryd.func69.trans (congrArg some (by kernel_rfl))
  f225 := Tryd.func83.trans (congrArg some (by kernel_rfl))
  f260 := Tryd.func81.trans (congrArg some (by kernel_rfl))
  f266 := Tryd.func86.trans (congrArg some (by kernel_rfl))
  f267 := Tryd.func84.trans (congrArg some (by kernel_rfl))
  f268 := Tryd.func59.trans (congrArg some (by kernel_rfl))
  f314 := Tryd.func87.trans (congrArg some (by kernel_rfl))
  t0 := Tryd.underlying0
  a0 := Tryd.isAgg0
  z0 := Tryd.sizeOf0
  v0 := Tryd.zeroValue0
  t3 := Tryd.underlying3
  a3 := Tryd.isAgg3
  z3 := Tryd.sizeOf3
  v3 := Tryd.zeroValue3
  t4 := Tryd.underlying4
  a4 := Tryd.isAgg4
  z4 := Tryd.sizeOf4
  v4 := Tryd.zeroValue4
  t5 := Tryd.underlying5
  a5 := Tryd.isAgg5
  z5 := Tryd.sizeOf5
  v5 := Tryd.zeroValue5
  t9 := Tryd.underlying9
  a9 := Tryd.isAgg9
  z9 := Tryd.sizeOf9
  v9 := Tryd.zeroValue9
  t21 := Tryd.underlying21
  a21 := Tryd.isAgg21
  z21 := Tryd.sizeOf21
  v21 := Tryd.zeroValue21
  t31 := Tryd.underlying75
  a31 := Tryd.isAgg75
  z31 := Tryd.sizeOf75
  v31 := Tryd.zeroValue75
  t46 := Tryd.underlying130
  a46 := Tryd.isAgg130
  z46 := Tryd.sizeOf130
  v46 := Tryd.zeroValue130
  t51 := Tryd.underlying127
  a51 := Tryd.isAgg127
  z51 := Tryd.sizeOf127
  v51 := Tryd.zeroValue127
  t105 := Tryd.underlying121
  a105 := Tryd.isAgg121
  z105 := Tryd.sizeOf121
  v105 := Tryd.zeroValue121
  t119 := Tryd.underlying143
  a119 := Tryd.isAgg143
  z119 := Tryd.sizeOf143
  t138 := Tryd.underlying145
  a138 := Tryd.isAgg145
  z138 := Tryd.sizeOf145
  v138 := Tryd.zeroValue145
  t139 := Tryd.underlying146
  a139 := Tryd.isAgg146
  z139 := Tryd.sizeOf146
  v139 := Tryd.zeroValue146
  t146 := Tryd.underlying147
  a146 := Tryd.isAgg147
  z146 := Tryd.sizeOf147
  v146 := Tryd.zeroValue147
  g1 := by kernel_rfl
  g3 := by kernel_rfl
  g4 := by kernel_rfl }
open Go.RowKit Go.Lib in
theorem Tryd.strings_Split (s sep : ByteArray) (m : Int) (w : World) (hs : s.size < 4294967281) (hm : w.cell? ⟨2, 0, none⟩ = some (.int .i64 m)) (h1 : 1 ≤ sep.size) :
    Calls Tryd.prog 31 #[.string s, .string sep] w fun e w' =>
      e = .returned (.slice (some ⟨w.heap.size, 0, none⟩) (Lib.countB s sep + 1) (Lib.countB s sep + 1)) ∧ w' = w.alloc (.cells ((Lib.splitB sep 0 (Lib.countB s sep) s).map Value.string).toArray 9) := Any.strings_Split Tryd.lays146 (by kernel_rfl) s sep m w hs hm h1
end Go.Proofs.YtdcaojiiaocnaaaDoor

set_option linter.unusedSimpArgs false
set_option linter.unusedVariables false
namespace Go.Proofs.YtdcaojiiaocnaaaDoor
open Go.RowKit

/-! strings.Split at a blank: the fields of a line. -/
def i8L (l : List UInt8) : List Int := l.map fun c => (c.toNat : Int)
def spU (l : List UInt8) : List (List UInt8) := Lib.splitK [32] 0 (Lib.count l [32]) l
theorem spU_nil : spU [] = [[]] := by kernel_rfl
theorem ix_b (l : List UInt8) : Lib.index (32 :: l) [32] = 0 := by
  rw [Lib.index]; simp
theorem ix_c {b : UInt8} (l : List UInt8) (h : b ≠ 32) : Lib.index (b :: l) [32] = if Lib.index l [32] == -1 then -1 else Lib.index l [32] + 1 := by
  rw [Lib.index]
  have : ([32] : List UInt8).isPrefixOf (b :: l) = false := by simp [List.isPrefixOf]; exact fun e => h e.symm
  rw [this]; rfl
theorem spU_b (l : List UInt8) : spU (32 :: l) = [] :: spU l := by
  unfold spU
  rw [Lib.count_cons_eq, Nat.add_comm, Lib.splitK, ix_b]
  simp
theorem spU_c {b : UInt8} (l : List UInt8) (h : b ≠ 32) {f : List UInt8} {r : List (List UInt8)} (hs : spU l = f :: r) : spU (b :: l) = (b :: f) :: r := by
  unfold spU at *
  rw [Lib.count_cons_ne b 32 l h]
  cases hk : Lib.count l [32] with
  | zero =>
    rw [hk] at hs
    simp only [Lib.splitK] at hs ⊢
    simp only [List.cons.injEq] at hs
    rw [← hs.1, ← hs.2]
  | succ k =>
    rw [hk] at hs
    obtain ⟨i, hi⟩ := Lib.index_of_count (s := l) (old := [32]) (by omega)
    have h1 : (Lib.index l [32] == -1) = false := by rw [hi, beq_eq_false_iff_ne]; omega
    have hi2 : Lib.index (b :: l) [32] = (i + 1 : Nat) := by rw [ix_c l h, h1, hi]; rfl
    have h2 : (Lib.index (b :: l) [32] == -1) = false := by rw [hi2, beq_eq_false_iff_ne]; omega
    rw [Lib.splitK, h1, hi] at hs
    rw [Lib.splitK, h2, hi2]
    simp only [Bool.false_eq_true, if_false, Int.toNat_natCast, Nat.add_zero, List.length_cons, List.length_nil, List.cons.injEq] at hs ⊢
    obtain ⟨rfl, rfl⟩ := hs
    exact ⟨rfl, rfl⟩
theorem spU_eq : ∀ l : List UInt8, (spU l).map i8L = splitB (i8L l)
  | [] => by rw [spU_nil]; rfl
  | b :: l => by
    have ih := spU_eq l
    by_cases h : b = 32
    · subst h
      rw [spU_b, List.map_cons, ih]
      show _ = splitB (32 :: i8L l)
      rw [splitB_b]; rfl
    · cases hs : spU l with
      | nil => rw [hs] at ih; exact absurd ih.symm (splitB_ne _)
      | cons f r =>
        rw [spU_c l h hs]
        rw [hs, List.map_cons] at ih
        show _ = splitB ((b.toNat : Int) :: i8L l)
        have hb : (b.toNat : Int) ≠ 32 := fun e => h (by
          apply UInt8.toNat_inj.1
          have h4 : (32 : UInt8).toNat = 32 := rfl
          omega)
        rw [splitB_c hb ih.symm]; rfl
theorem split_str (s : ByteArray) : (Lib.splitB { data := #[32] } 0 (Lib.countB s { data := #[32] }) s).map strL = splitB (strL s) := by
  have h := Lib.splitB_data { data := #[32] } 0 (Lib.countB s { data := #[32] }) s
  have h2 := spU_eq s.data.toList
  have h3 : (Lib.splitB { data := #[32] } 0 (Lib.countB s { data := #[32] }) s).map strL = ((Lib.splitB { data := #[32] } 0 (Lib.countB s { data := #[32] }) s).map (·.data.toList)).map i8L := by
    rw [List.map_map]; rfl
  rw [h3, h]
  exact h2
def MLn (w : World) : Prop := ∃ m : Int, w.cell? ⟨2, 0, none⟩ = some (.int .i64 m)
theorem split_any (s : ByteArray) (w : World) (hs : s.size ≤ 1048576) (hm : MLn w) :
    Calls Tryd.prog 31 #[.string s, .string { data := #[32] }] w fun e w' => ∃ ss : List ByteArray, ss.map strL = splitB (strL s) ∧ e = .returned (.slice (some ⟨w.heap.size, 0, none⟩) ss.length ss.length) ∧ w' = w.alloc (.cells (ss.map Value.string).toArray 9) := by
  obtain ⟨m, hm⟩ := hm
  refine (Tryd.strings_Split s { data := #[32] } m w (by omega) hm (by decide)).mono ?_
  rintro e w' ⟨rfl, rfl⟩
  have hl := Lib.splitB_all { data := #[32] } (by decide) 0 (Lib.countB s { data := #[32] }) s rfl
  exact ⟨_, split_str s, by rw [hl], rfl⟩
end Go.Proofs.YtdcaojiiaocnaaaDoor
