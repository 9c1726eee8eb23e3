import Derived.Test.YtkagnpnicbddlaaDoorGrA
import Derived.Test.YtkagnpnicbddlaaDoorMacC
import Derived.Test.YtkagnpnicbddlaaDoorProg
import Derived.Test.YtkagnpnicbddlaaDoorGrB
import Derived.Test.YtkagnpnicbddlaaDoorGrE
namespace Go.Proofs.YtkagnpnicbddlaaDoor
open Go.RowKit

/-! Bytes turned and filled up. -/
theorem xor8_bd (x y : Int) : 0 ≤ bits .xor .u8 x y ∧ bits .xor .u8 x y ≤ 255 := by
  have : bits .xor .u8 x y = ((BitVec.ofInt 8 x ^^^ BitVec.ofInt 8 y).toNat : Int) := by
    show IntKind.u8.wrap ((BitVec.ofInt 8 x ^^^ BitVec.ofInt 8 y).toNat : Int) = _
    rw [IntKind.wrap_u8']; have := (BitVec.ofInt 8 x ^^^ BitVec.ofInt 8 y).isLt; omega
  rw [this]
  have := (BitVec.ofInt 8 x ^^^ BitVec.ofInt 8 y).isLt
  omega
def xorC (c : Int) (l : List Int) : List Int := l.map fun x => bits .xor .u8 x c
@[simp] theorem xorC_length (c : Int) (l : List Int) : (xorC c l).length = l.length := by simp [xorC]
theorem xorC_isB (c : Int) (l : List Int) : IsB (xorC c l) := by
  intro x hx
  simp only [xorC, List.mem_map] at hx
  obtain ⟨y, -, rfl⟩ := hx
  exact xor8_bd y c
def padTo (n : Nat) (l : List Int) : List Int := l ++ List.replicate (n - l.length) 0
theorem padTo_length (n : Nat) (l : List Int) (h : l.length ≤ n) : (padTo n l).length = n := by simp [padTo]; omega
theorem IsB.replicate0 (n : Nat) : IsB (List.replicate n 0) := by
  intro x hx; have := List.eq_of_mem_replicate hx; subst this; omega
theorem IsB.app {a b : List Int} (ha : IsB a) (hb : IsB b) : IsB (a ++ b) := by
  intro x hx; rcases List.mem_append.1 hx with h | h
  · exact ha x h
  · exact hb x h
theorem padTo_isB (n : Nat) {l : List Int} (h : IsB l) : IsB (padTo n l) := h.app (IsB.replicate0 _)
theorem padTo_pad (n m : Nat) (l : List Int) (h : l.length + m ≤ n) : padTo n (l ++ List.replicate m 0) = padTo n l := by
  unfold padTo
  rw [List.append_assoc, List.replicate_append_replicate, List.length_append, List.length_replicate]
  congr 2
  omega
theorem padTo_at (n : Nat) (l : List Int) (i : Nat) : (padTo n l).getD i 0 = l.getD i 0 := by
  unfold padTo
  simp only [List.getD_eq_getElem?_getD]
  by_cases h : i < l.length
  · rw [List.getElem?_append_left h]
  · rw [List.getElem?_append_right (by omega), List.getElem?_eq_none (l := l) (by omega), List.getElem?_replicate]
    split <;> rfl

end Go.Proofs.YtkagnpnicbddlaaDoor

namespace Go.Proofs.YtkagnpnicbddlaaDoor
open Go.RowKit

/-! Keyed hashes, as plain mathematics: over any hash. -/
/-- the key's bytes: the key, or its hash if it is too long -/
def keyH (H : List Int → List Int) (n : Nat) (k : List Int) : List Int := if n < k.length then H k else k
def frameH (H : List Int → List Int) (n : Nat) (k : List Int) : List Int := padTo n (keyH H n k)
def macH (H : List Int → List Int) (n : Nat) (k m : List Int) : List Int := H (xorC 92 (frameH H n k) ++ H (xorC 54 (frameH H n k) ++ m))
theorem keyH_pad (H : List Int → List Int) (n m : Nat) (k : List Int) (h : k.length + m ≤ n) : frameH H n (k ++ List.replicate m 0) = frameH H n k := by
  unfold frameH keyH
  rw [if_neg (by simp; omega), if_neg (by omega), padTo_pad n m k h]
theorem macH_pad (H : List Int → List Int) (n m : Nat) (k t : List Int) (h : k.length + m ≤ n) : macH H n (k ++ List.replicate m 0) t = macH H n k t := by
  unfold macH; rw [keyH_pad H n m k h]

def mac6 (k m : List Int) : List Int := macH sumZ 64 k m
theorem mac6_length (k m : List Int) : (mac6 k m).length = 32 := sumZ_length _
theorem mac6_isB (k m : List Int) : IsB (mac6 k m) := sumZ_isB _
theorem mac6_pad (m : Nat) (k t : List Int) (h : k.length + m ≤ 64) : mac6 (k ++ List.replicate m 0) t = mac6 k t := macH_pad _ _ _ _ _ h
theorem fr_nil : xorC 54 (padTo 64 []) = MC.kiB ∧ xorC 92 (padTo 64 []) = MC.koB := ⟨by kernel_rfl, by kernel_rfl⟩
theorem mac6_nil : mac6 [] [] = MC.noSum := by
  have h1 : frameH sumZ 64 [] = padTo 64 [] := rfl
  unfold mac6 macH
  rw [h1, fr_nil.1, fr_nil.2]
  have h2 : sumZ (MC.kiB ++ []) = MC.niSum := MC.ni_sum
  rw [h2]
  exact MC.no_sum
theorem mac6_first : mac6 (List.replicate 32 0) (97 :: List.replicate 9 0 ++ [1]) = MC.ddSum := by
  have h1 : frameH sumZ 64 (List.replicate 32 0) = padTo 64 [] := by kernel_rfl
  unfold mac6 macH
  rw [h1, fr_nil.1, fr_nil.2]
  have h2 : sumZ (MC.kiB ++ (97 :: List.replicate 9 0 ++ [1])) = MC.diSum := MC.di_sum
  rw [h2]
  exact MC.dd_sum
theorem noSum_ne : MC.noSum ≠ List.replicate 32 0 := by decide
theorem ddSum_ne : MC.ddSum ≠ List.replicate 32 0 := by decide

/-- T(i): P4.4 -/
def tZ (k info : List Int) : Nat → List Int
  | 0 => []
  | i + 1 => mac6 k (tZ k info i ++ (info ++ [((i + 1 : Nat) : Int)]))
def chZt (k info : List Int) : Nat → List Int
  | 0 => []
  | i + 1 => chZt k info i ++ tZ k info (i + 1)
theorem tZ_length (k info : List Int) (i : Nat) : (tZ k info (i + 1)).length = 32 := mac6_length _ _
theorem tZ_isB (k info : List Int) : ∀ i, IsB (tZ k info i)
  | 0 => fun x hx => by simp [tZ] at hx
  | _ + 1 => mac6_isB _ _
theorem chZt_length (k info : List Int) : ∀ i, (chZt k info i).length = 32 * i
  | 0 => rfl
  | i + 1 => by rw [chZt, List.length_append, chZt_length k info i, tZ_length]; omega
theorem chZt_isB (k info : List Int) : ∀ i, IsB (chZt k info i)
  | 0 => fun x hx => by simp [chZt] at hx
  | i + 1 => (chZt_isB k info i).app (tZ_isB k info (i + 1))
/-- what is expanded: the first n bytes -/
def expZ (k info : List Int) (n : Nat) : List Int := (chZt k info ((n + 31) / 32)).take n
theorem expZ_length (k info : List Int) (n : Nat) : (expZ k info n).length = n := by simp [expZ, chZt_length]; omega
theorem expZ_isB (k info : List Int) (n : Nat) : IsB (expZ k info n) := fun x hx => chZt_isB k info _ x (List.mem_of_mem_take hx)
theorem expZ_32 (k info : List Int) : expZ k info 32 = tZ k info 1 := by
  unfold expZ
  rw [show (32 + 31) / 32 = 1 from rfl, show chZt k info 1 = tZ k info 1 from rfl, List.take_of_length_le (by rw [tZ_length]; exact Nat.le_refl _)]
/-- P4.5: the info of a label and a number -/
def infoZ (label : List Int) (number : Int) : List Int := label ++ (0 :: (leB 8 number).reverse)
theorem infoZ_length (label : List Int) (number : Int) : (infoZ label number).length = label.length + 9 := by simp [infoZ]
theorem infoZ_isB {label : List Int} (number : Int) (h : IsB label) : IsB (infoZ label number) := by
  refine h.app (fun x hx => ?_)
  rcases List.mem_cons.1 hx with rfl | hx
  · omega
  · exact leB_isB 8 number x (List.mem_reverse.1 hx)
end Go.Proofs.YtkagnpnicbddlaaDoor

namespace Go.Proofs.YtkagnpnicbddlaaDoor
open Go.RowKit

theorem range_getD (l : List Int) : (List.range l.length).map (fun i => l.getD i 0) = l := by
  apply List.ext_getElem
  · simp
  · intro i h1 h2; simp at h1; simp [h1]

theorem Tryd.szL32 : (Tryd.prog.info? 23).map (·.size) = some 32 := by kernel_rfl
set_option maxHeartbeats 1000000 in
set_option maxRecDepth 100000 in
theorem list32_any (l : List Int) (w : World) (hl : l.length = 32) :
    Calls Tryd.prog 40 #[.agg (U8 l).toArray] w fun e w' => e = .returned (.slice (some ⟨w.heap.size + 1, 0, none⟩) 32 32) ∧
      w'.ownsRow (w.heap.size + 1) 5 1 (.slice (some ⟨w.heap.size + 1, 0, none⟩) 32 32) 32 (U8 l) ∧ Below w.heap.size w w' := by
  obtain ⟨i0, hi, hz0, hz1, hz2⟩ := info_parts Tryd.infoB
  have hbs : i0.bytes * 32 ≤ 281474976710656 := by rw [hz2]; decide
  obtain ⟨W, hW, hA, hbW, hsW⟩ := arr1 w 23 (U8 l)
  have hzr : (Tryd.prog.info? 23).map (·.size) = some (U8 l).toArray.size := by rw [Tryd.szL32]; simp [hl]
  have HW := hide hW
  have HS := hide hsW
  have HL := hide hl
  clear hW hsW hl
  go_enter Tryd.func40, Tryd.ntmps40
  go_wp2_with (first
    | (refine wpList_load_row rfl 23 (.tmp 1) rfl w.heap.size rfl 23 _ (0, 0) _ (Arr.new w 23 (U8 l)) Tryd.underlying23 rfl hzr ?_; rw [← unhide HW])
    | (at_make; refine wpList_make_full _ rfl _ _ 24 rfl W.heap.size 5 i0 (.int .u8 0) 1 Tryd.underlying24 hi hz0 hz1 .i64 .i64 32 32 32 rfl rfl rfl rfl hbs (by decide) (Nat.le_refl _) ?_))
  intro w1 hown hgrow
  rw [unhide HS] at hown
  have hb1 : Below (w.heap.size + 1) W w1 := (Below.refl _ _).grown hgrow (by rw [unhide HS]; exact Nat.le_refl _) (fun _ h => by cases h)
  have hA1 : Arr w1 w.heap.size 23 (U8 l) := hA.below hb1 (by omega)
  have hown0 : w1.ownsRow (w.heap.size + 1) 5 1 (.slice (some ⟨w.heap.size + 1, 0, none⟩) 32 32) 32 (U8 (fill 32 (fun i => l.getD i 0) 0)) := by
    rw [fill_zero, ← made_U8]; exact hown
  rw [unhide HS]
  have hbw : Below w.heap.size w w1 := hbW.trans (hb1.mono (by omega))
  clear hown hgrow hA hb1 hbW hbs HW HS
  go_wp2
  go_loopw [10] (fun i wr => ∃ k : Nat, k ≤ 32 ∧ i = .int .i64 k ∧ wr.ownsRow (w.heap.size + 1) 5 1 (.slice (some ⟨w.heap.size + 1, 0, none⟩) 32 32) 32 (U8 (fill 32 (fun i => l.getD i 0) k)) ∧ Arr wr w.heap.size 23 (U8 l) ∧ Below w.heap.size w wr)
    (fun i _ => 32 - (intOf i).toNat)
  case atStart => exact ⟨0, by omega, rfl, hown0, hA1, hbw⟩
  case round =>
    obtain ⟨k, hk, rfl, hown, hA, hbl⟩ := hrel
    clear hown0 hA1 hbw
    by_cases hlt : k < 32
    · have hfz := hown.frozenAt k
      have hcl := (hown.cellAt k (by omega)).trans (U8_at _ k (by simpa using hlt))
      have cl := hA.cell8 k (by rw [unhide HL]; exact hlt)
      generalize hx : l.getD k 0 = x at cl
      have HX := hide hx
      generalize hz : (fill 32 (fun i => l.getD i 0) k).getD k 0 = z at hcl
      clear hx hz
      go_wp2
      go_roundw
      case rel =>
        have hst := (hown.stored k (.int .u8 x)).1
        rw [← unhide HX, U8_set, fill_set 32 (fun i => l.getD i 0) k] at hst
        rw [← unhide HX]
        exact ⟨k + 1, by omega, by go_num, hst, hA.other _ (by show w.heap.size ≠ w.heap.size + 1; omega), hbl.setCell (by show w.heap.size ≤ w.heap.size + 1; omega) _⟩
      case measure => simp [intOf]; omega
    · go_wp2
      go_ret
      have : k = 32 := by omega
      subst this
      rw [fill_all, show (List.range 32).map (fun i => l.getD i 0) = l from by rw [← unhide HL]; exact range_getD l] at hown
      exact ⟨rfl, hown, hbl⟩

theorem Tryd.szL64 : (Tryd.prog.info? 36).map (·.size) = some 64 := by kernel_rfl
set_option maxHeartbeats 1000000 in
set_option maxRecDepth 100000 in
theorem list64_any (l : List Int) (w : World) (hl : l.length = 64) :
    Calls Tryd.prog 45 #[.agg (U8 l).toArray] w fun e w' => e = .returned (.slice (some ⟨w.heap.size + 1, 0, none⟩) 64 64) ∧
      w'.ownsRow (w.heap.size + 1) 5 1 (.slice (some ⟨w.heap.size + 1, 0, none⟩) 64 64) 64 (U8 l) ∧ Below w.heap.size w w' := by
  obtain ⟨i0, hi, hz0, hz1, hz2⟩ := info_parts Tryd.infoB
  have hbs : i0.bytes * 64 ≤ 281474976710656 := by rw [hz2]; decide
  obtain ⟨W, hW, hA, hbW, hsW⟩ := arr1 w 36 (U8 l)
  have hzr : (Tryd.prog.info? 36).map (·.size) = some (U8 l).toArray.size := by rw [Tryd.szL64]; simp [hl]
  have HW := hide hW
  have HS := hide hsW
  have HL := hide hl
  clear hW hsW hl
  go_enter Tryd.func45, Tryd.ntmps45
  go_wp2_with (first
    | (refine wpList_load_row rfl 36 (.tmp 1) rfl w.heap.size rfl 36 _ (0, 0) _ (Arr.new w 36 (U8 l)) Tryd.underlying36 rfl hzr ?_; rw [← unhide HW])
    | (at_make; refine wpList_make_full _ rfl _ _ 24 rfl W.heap.size 5 i0 (.int .u8 0) 1 Tryd.underlying24 hi hz0 hz1 .i64 .i64 64 64 64 rfl rfl rfl rfl hbs (by decide) (Nat.le_refl _) ?_))
  intro w1 hown hgrow
  rw [unhide HS] at hown
  have hb1 : Below (w.heap.size + 1) W w1 := (Below.refl _ _).grown hgrow (by rw [unhide HS]; exact Nat.le_refl _) (fun _ h => by cases h)
  have hA1 : Arr w1 w.heap.size 36 (U8 l) := hA.below hb1 (by omega)
  have hown0 : w1.ownsRow (w.heap.size + 1) 5 1 (.slice (some ⟨w.heap.size + 1, 0, none⟩) 64 64) 64 (U8 (fill 64 (fun i => l.getD i 0) 0)) := by
    rw [fill_zero, ← made_U8]; exact hown
  rw [unhide HS]
  have hbw : Below w.heap.size w w1 := hbW.trans (hb1.mono (by omega))
  clear hown hgrow hA hb1 hbW hbs HW HS
  go_wp2
  go_loopw [10] (fun i wr => ∃ k : Nat, k ≤ 64 ∧ i = .int .i64 k ∧ wr.ownsRow (w.heap.size + 1) 5 1 (.slice (some ⟨w.heap.size + 1, 0, none⟩) 64 64) 64 (U8 (fill 64 (fun i => l.getD i 0) k)) ∧ Arr wr w.heap.size 36 (U8 l) ∧ Below w.heap.size w wr)
    (fun i _ => 64 - (intOf i).toNat)
  case atStart => exact ⟨0, by omega, rfl, hown0, hA1, hbw⟩
  case round =>
    obtain ⟨k, hk, rfl, hown, hA, hbl⟩ := hrel
    clear hown0 hA1 hbw
    by_cases hlt : k < 64
    · have hfz := hown.frozenAt k
      have hcl := (hown.cellAt k (by omega)).trans (U8_at _ k (by simpa using hlt))
      have cl := hA.cell8 k (by rw [unhide HL]; exact hlt)
      generalize hx : l.getD k 0 = x at cl
      have HX := hide hx
      generalize hz : (fill 64 (fun i => l.getD i 0) k).getD k 0 = z at hcl
      clear hx hz
      go_wp2
      go_roundw
      case rel =>
        have hst := (hown.stored k (.int .u8 x)).1
        rw [← unhide HX, U8_set, fill_set 64 (fun i => l.getD i 0) k] at hst
        rw [← unhide HX]
        exact ⟨k + 1, by omega, by go_num, hst, hA.other _ (by show w.heap.size ≠ w.heap.size + 1; omega), hbl.setCell (by show w.heap.size ≤ w.heap.size + 1; omega) _⟩
      case measure => simp [intOf]; omega
    · go_wp2
      go_ret
      have : k = 64 := by omega
      subst this
      rw [fill_all, show (List.range 64).map (fun i => l.getD i 0) = l from by rw [← unhide HL]; exact range_getD l] at hown
      exact ⟨rfl, hown, hbl⟩

set_option maxHeartbeats 1000000 in
set_option maxRecDepth 100000 in
theorem mturned_any (a : Option Addr) (n c : Nat) (l : List Int) (y : Int) (w : World) (hs : Sl.Ok w ⟨a, n, c, l⟩) (hn : n ≤ 1024) :
    Calls Tryd.prog 41 #[.slice a n c, .int .u8 y] w fun e w' => e = .returned (.slice (some ⟨w.heap.size, 0, none⟩) n n) ∧
      w'.ownsRow w.heap.size 5 1 (.slice (some ⟨w.heap.size, 0, none⟩) n n) n (U8 (xorC y l)) ∧ Below w.heap.size w w' := by
  obtain ⟨i0, hi, hz0, hz1, hz2⟩ := info_parts Tryd.infoB
  have hbs : i0.bytes * n ≤ 281474976710656 := by rw [hz2]; omega
  have hmx : n ≤ maxLen := by unfold maxLen; omega
  have hl := hs.len
  simp only at hl
  have HL := hide hl
  clear hl
  go_enter Tryd.func41, Tryd.ntmps41
  go_wp2_with (at_make; refine wpList_make_full _ rfl _ _ 24 rfl w.heap.size 5 i0 (.int .u8 0) 1 Tryd.underlying24 hi hz0 hz1 .i64 .i64 n n n rfl rfl rfl rfl hbs hmx (Nat.le_refl _) ?_)
  intro w1 hown hgrow
  have hb1 : Below w.heap.size w w1 := (Below.refl _ _).grown hgrow (Nat.le_refl _) (fun _ h => by cases h)
  have hown0 : w1.ownsRow w.heap.size 5 1 (.slice (some ⟨w.heap.size, 0, none⟩) n n) n (U8 (fill n (fun i => bits .xor .u8 (l.getD i 0) y) 0)) := by
    rw [fill_zero, ← made_U8, Nat.mul_one]; exact hown
  clear hown hgrow hbs
  go_wp2
  go_loopw [13] (fun i wr => ∃ k : Nat, k ≤ n ∧ i = .int .i64 k ∧ wr.ownsRow w.heap.size 5 1 (.slice (some ⟨w.heap.size, 0, none⟩) n n) n (U8 (fill n (fun i => bits .xor .u8 (l.getD i 0) y) k)) ∧ Below w.heap.size w wr)
    (fun i _ => n - (intOf i).toNat)
  case atStart => exact ⟨0, by omega, rfl, hown0, hb1⟩
  case round =>
    obtain ⟨k, hk, rfl, hown, hbl⟩ := hrel
    clear hown0 hb1
    by_cases hlt : k < n
    · have hfz := hown.frozenAt k
      have hcl := (hown.cellAt k (by omega)).trans (U8_at _ k (by simpa using hlt))
      obtain ⟨ab, ao, rfl, hab, hac⟩ := (hs.later hbl).lies (by simp only; rw [unhide HL]; omega)
      have ca := hac k (by simp only; rw [unhide HL]; omega)
      simp only at ca
      have HS := hide hs
      clear hac hs
      generalize hx : l.getD k 0 = x at ca
      have HX := hide hx
      generalize hz : (fill n (fun i => bits .xor .u8 (l.getD i 0) y) k).getD k 0 = z at hcl
      clear hx hz
      go_wp2
      go_roundw
      case rel =>
        have hst := (hown.stored k (.int .u8 (bits .xor .u8 x y))).1
        rw [← unhide HX, U8_set, fill_set n (fun i => bits .xor .u8 (l.getD i 0) y) k] at hst
        rw [← unhide HX]
        exact ⟨k + 1, by omega, by go_num, hst, hbl.setCell (Nat.le_refl _) _⟩
      case measure => simp [intOf]; omega
    · go_wp2
      go_ret
      have : k = n := by omega
      subst this
      rw [fill_all, show (List.range k).map (fun i => bits .xor .u8 (l.getD i 0) y) = xorC y l from by
        have h := range_getD l
        rw [unhide HL] at h
        conv => rhs; rw [← h]
        simp [xorC, List.map_map, Function.comp_def]] at hown
      exact ⟨rfl, hown, hbl⟩
end Go.Proofs.YtkagnpnicbddlaaDoor

namespace Go.Proofs.YtkagnpnicbddlaaDoor
open Go.RowKit

theorem below_drew (w : World) : Below w.heap.size w w.drew := ⟨rfl, rfl, rfl, Nat.le_refl _, fun _ _ => rfl⟩
/-- what stands through a keyed hash: the frame, the result's cell -/
structure KyS (w : World) (gF gR : Nat) (ty : TypeId) (n : Nat) (F : List Int) (wr : World) : Prop where
  fr : Arr wr gF 5 (U8 F)
  res : ∃ Z : List Value, Z.length = n ∧ Arr wr gR ty Z
  bel : Below w.heap.size w wr
theorem KyS.later {w : World} {gF gR : Nat} {ty : TypeId} {n : Nat} {F : List Int} {wr w' : World} (s : KyS w gF gR ty n F wr) (hb : Below wr.heap.size wr w') : KyS w gF gR ty n F w' :=
  ⟨s.fr.later hb, let ⟨Z, h, hA⟩ := s.res; ⟨Z, h, hA.later hb⟩, s.bel.trans (hb.mono s.bel.size)⟩
theorem KyS.okF {w : World} {gF gR : Nat} {ty : TypeId} {n : Nat} {F : List Int} {wr : World} (s : KyS w gF gR ty n F wr) (k : Nat) (hl : F.length = k) (hB : IsB F) (hm : k ≤ maxLen) : Sl.Ok wr ⟨some ⟨gF, 0, none⟩, k, k, F⟩ :=
  ⟨hl, Nat.le_refl _, hm, (fun h => by cases h), hB, s.fr.lies⟩
theorem KyS.kept {w : World} {gF gR : Nat} {ty : TypeId} {n : Nat} {F : List Int} {wr : World} (s : KyS w gF gR ty n F wr) {g : Nat} {v : Value} (h : w.cell? ⟨g, 0, none⟩ = some v) : wr.cell? ⟨g, 0, none⟩ = some v :=
  (s.bel.cell (p := ⟨g, 0, none⟩) (cell_lt h)).trans h
theorem KyS.setRow {w : World} {gF gR : Nat} {ty : TypeId} {n : Nat} {F : List Int} {wr : World} (s : KyS w gF gR ty n F wr) {g : Nat} (c : Array Value) (h1 : gF < g) (h2 : gR < g) (h3 : w.heap.size ≤ gR) : KyS w gF gR ty n F (wr.setRow g c) :=
  ⟨s.fr.setRow_ne c (by omega), let ⟨Z, h, hA⟩ := s.res; ⟨Z, h, hA.setRow_ne c (by omega)⟩, below_setRow s.bel (by omega) c⟩
/-- .. and the inner hash -/
structure KyT (w : World) (gF gR : Nat) (ty : TypeId) (n : Nat) (F : List Int) (gI : Nat) (R : List Int) (wr : World) : Prop where
  s : KyS w gF gR ty n F wr
  inn : Arr wr gI ty (U8 R)
theorem KyT.later {w : World} {gF gR : Nat} {ty : TypeId} {n : Nat} {F : List Int} {gI : Nat} {R : List Int} {wr w' : World} (s : KyT w gF gR ty n F gI R wr) (hb : Below wr.heap.size wr w') : KyT w gF gR ty n F gI R w' := ⟨s.s.later hb, s.inn.later hb⟩
theorem KyS.resLt {w : World} {gF gR : Nat} {ty : TypeId} {n : Nat} {F : List Int} {wr : World} (s : KyS w gF gR ty n F wr) : gR < wr.heap.size := let ⟨_, _, hA⟩ := s.res; hA.lt
theorem KyT.setRes {w : World} {gF gR : Nat} {ty : TypeId} {n : Nat} {F : List Int} {gI : Nat} {R : List Int} {wr : World} (s : KyT w gF gR ty n F gI R wr) {R2 : List Int} (h : R2.length = n) (h1 : gR < gF) (h2 : gR < gI) (h3 : w.heap.size ≤ gR) : KyT w gF gR ty n F gI R (wr.setRow gR (U8 R2).toArray) :=
  ⟨⟨s.s.fr.setRow_ne _ (by omega), let ⟨_, _, hA⟩ := s.s.res; ⟨U8 R2, by simpa using h, hA.setRow (U8 R2)⟩, below_setRow s.s.bel h3 _⟩, s.inn.setRow_ne _ (by omega)⟩
theorem KyT.rI {w : World} {gF gR : Nat} {ty : TypeId} {n : Nat} {F : List Int} {gI : Nat} {R : List Int} (wr : World) (s : KyT w gF gR ty n F gI R wr) : wr.rangeAt gI 0 (U8 R) := fun j v hv => by rw [Nat.zero_add, s.inn.cell]; exact hv
theorem Sl.Ok.src {w : World} {s : Sl} (h : s.Ok w) : 0 < (U8 s.l).length → ∃ ad, s.a = some ad ∧ ∀ j v, (U8 s.l)[j]? = some v → w.cell? (ad.add j) = some v := by
  intro hp
  obtain ⟨b, off, ha, -, -⟩ := h.lies (by simpa using hp)
  exact ⟨_, ha, h.cells _ ha⟩
theorem new_row (w : World) (ty : TypeId) (l : List Value) (W : World) (h : w.alloc (.cells l.toArray ty (0, 0)) = W) : Arr W w.heap.size ty l ∧ Below w.heap.size w W := by
  subst h; exact ⟨Arr.new _ _ _, (Below.refl _ _).alloc (Nat.le_refl _) _⟩
theorem below_alloc (w : World) (o : Obj) : Below w.heap.size w (w.alloc o) := (Below.refl _ _).alloc (Nat.le_refl _) _
theorem liesV_new (w : World) (ty : TypeId) (vs : List Value) : LiesV (w.alloc (.cells vs.toArray ty (0, 0))) (some ⟨w.heap.size, 0, none⟩) vs := by
  intro _
  refine ⟨w.heap.size, 0, rfl, by simp, fun i v hv => ?_⟩
  rw [Nat.zero_add, (Arr.new w ty vs).cell]; exact hv
theorem liesV_two (w : World) (ty : TypeId) (a b : Value) : LiesV (w.alloc (.cells #[a, b] ty (0, 0))) (some ⟨w.heap.size, 0, none⟩) [a, b] := liesV_new w ty [a, b]
theorem liesV_at {w W : World} {ty : TypeId} {a b : Value} (h : w.alloc (.cells #[a, b] ty (0, 0)) = W) : LiesV W (some ⟨w.heap.size, 0, none⟩) [a, b] := by subst h; exact liesV_two w ty a b
theorem below_at {w W : World} {o : Obj} (h : w.alloc o = W) : Below w.heap.size w W := by subst h; exact below_alloc w o
theorem join_two (pa : Option Addr) (pc : Nat) (s t : Sl) (w : World) (J : List Int) (jn : Nat) (hs : s.Ok w) (ht : t.Ok w) (hJ : Hid (s.l ++ t.l = J)) (hj : Hid (J.length = jn)) (hv : LiesV w pa [s.v, t.v]) (hn : jn ≤ 1099511627776) :
    Calls Tryd.prog 20 #[.slice pa 2 pc] w fun e w' => e = .returned (.slice (some ⟨w.heap.size, 0, none⟩) jn jn) ∧
      w'.ownsRow w.heap.size 5 1 (.slice (some ⟨w.heap.size, 0, none⟩) jn jn) jn (U8 J) ∧ Below w.heap.size w w' := by
  have hc : cat [s, t] = J := by rw [← unhide hJ]; simp [cat]
  have h := join_any pa pc [s, t] w hv (by intro x hx; simp at hx; rcases hx with rfl | rfl <;> assumption) (by simp) (by rw [hc, unhide hj]; exact hn)
  rw [hc, unhide hj] at h
  exact h
theorem mturned_named (a : Option Addr) (n c : Nat) (l : List Int) (y : Int) (w : World) (X : List Int) (hX : Hid (X = xorC y l)) (hs : Sl.Ok w ⟨a, n, c, l⟩) (hn : n ≤ 1024) :
    Calls Tryd.prog 41 #[.slice a n c, .int .u8 y] w fun e w' => e = .returned (.slice (some ⟨w.heap.size, 0, none⟩) n n) ∧
      Sl.Ok w' ⟨some ⟨w.heap.size, 0, none⟩, n, n, X⟩ ∧ Below w.heap.size w w' := by
  refine (mturned_any a n c l y w hs hn).mono ?_
  rintro e w' ⟨rfl, ho, hb⟩
  rw [← unhide hX] at ho
  exact ⟨rfl, Sl.Ok.of_own ho (by rw [unhide hX]; exact xorC_isB y l), hb⟩
theorem splice_pad (n : Nat) (k : List Int) : splice (U8 (List.replicate n 0)) 0 (U8 k) = U8 (padTo n k) := by
  unfold splice padTo
  simp [U8, List.map_append]
end Go.Proofs.YtkagnpnicbddlaaDoor
