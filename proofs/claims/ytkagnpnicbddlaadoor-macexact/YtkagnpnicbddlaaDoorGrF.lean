import Derived.Test.YtkagnpnicbddlaaDoorGrB
import Derived.Test.YtkagnpnicbddlaaDoorGrA
namespace Go.Proofs.YtkagnpnicbddlaaDoor
open Go.RowKit

/-! Words of 64 bits, and rows of them. -/
theorem bits_xor64 (x y : Int) : bits .xor .u64 x y = ((BitVec.ofInt 64 x ^^^ BitVec.ofInt 64 y).toNat : Int) := wrap64_id _
theorem bits_xor64_bd (x y : Int) : 0 ≤ bits .xor .u64 x y ∧ bits .xor .u64 x y < 18446744073709551616 := by
  rw [bits_xor64]; have := (BitVec.ofInt 64 x ^^^ BitVec.ofInt 64 y).isLt; omega
def U64 (l : List Int) : List Value := l.map (Value.int .u64)
@[simp] theorem U64_length (l : List Int) : (U64 l).length = l.length := by simp [U64]
theorem U64_get (l : List Int) (i : Nat) : (U64 l)[i]? = (l[i]?).map (Value.int .u64) := by simp [U64]
theorem U64_at (l : List Int) (i : Nat) (h : i < l.length) : (U64 l)[i]? = some (.int .u64 (l.getD i 0)) := by
  rw [U64_get, List.getD_eq_getElem?_getD, List.getElem?_eq_getElem h]; rfl
theorem U64_set (l : List Int) (i : Nat) (x : Int) : (U64 l).set i (.int .u64 x) = U64 (l.set i x) := by simp [U64, List.map_set]
theorem U64_one (l : List Int) : ∀ v ∈ U64 l, v.oneCell' = true := by
  intro v hv; simp only [U64, List.mem_map] at hv; obtain ⟨a, _, rfl⟩ := hv; rfl
theorem Arr.cell64 {w : World} {g : Nat} {ty : TypeId} {l : List Int} (h : Arr w g ty (U64 l)) (i : Nat) (hi : i < l.length) : w.cell? ⟨g, i, none⟩ = some (.int .u64 (l.getD i 0)) := by
  rw [h.cell, U64_at l i hi]
theorem Arr.set64 {w : World} {g : Nat} {ty : TypeId} {l : List Int} (h : Arr w g ty (U64 l)) (i : Nat) (x : Int) : Arr (w.setCell ⟨g, i, none⟩ (.int .u64 x)) g ty (U64 (l.set i x)) := by
  have := h.set i (.int .u64 x); rwa [U64_set] at this
end Go.Proofs.YtkagnpnicbddlaaDoor

namespace Go.Proofs.YtkagnpnicbddlaaDoor.S5
open Go.RowKit

/-! The four stirs of a word. -/
def s0Z (x : Int) : Int := bits .xor .u64 (bits .xor .u64 (rotZ 64 x (-1)) (rotZ 64 x (-8))) (x / 128)
def s1Z (x : Int) : Int := bits .xor .u64 (bits .xor .u64 (rotZ 64 x (-19)) (rotZ 64 x (-61))) (x / 64)
def S0Z (x : Int) : Int := bits .xor .u64 (bits .xor .u64 (rotZ 64 x (-28)) (rotZ 64 x (-34))) (rotZ 64 x (-39))
def S1Z (x : Int) : Int := bits .xor .u64 (bits .xor .u64 (rotZ 64 x (-14)) (rotZ 64 x (-18))) (rotZ 64 x (-41))

theorem bx_nn (x y : Int) : 0 ≤ bits .xor .u64 x y := (bits_xor64_bd x y).1
theorem bx_lt (x y : Int) : bits .xor .u64 x y < 18446744073709551616 := (bits_xor64_bd x y).2
theorem s0Z_bd (x : Int) : 0 ≤ s0Z x ∧ s0Z x < 18446744073709551616 := bits_xor64_bd _ _
theorem s1Z_bd (x : Int) : 0 ≤ s1Z x ∧ s1Z x < 18446744073709551616 := bits_xor64_bd _ _
theorem S0Z_bd (x : Int) : 0 ≤ S0Z x ∧ S0Z x < 18446744073709551616 := bits_xor64_bd _ _
theorem S1Z_bd (x : Int) : 0 ≤ S1Z x ∧ S1Z x < 18446744073709551616 := bits_xor64_bd _ _

set_option maxHeartbeats 400000 in
set_option maxRecDepth 100000 in
theorem smallSigma0_any (x : Int) (w : World) (hx0 : 0 ≤ x) (hx1 : x < 18446744073709551616) :
    Calls Tryd.prog 71 #[.int .u64 x] w fun e w' => e = .returned (.int .u64 (s0Z x)) ∧ ∃ k, w' = w.drewN k := by
  have HX := hide hx1
  clear hx1
  go_enter Tryd.func71, Tryd.ntmps71
  go_wp2_with fail
  refine (rotr64_any x _ _ hx0 (unhide HX)).mono ?_
  rintro e w1 ⟨rfl, k1, rfl⟩
  go_wp2_with fail
  refine (rotr64_any x _ _ hx0 (unhide HX)).mono ?_
  rintro e w2 ⟨rfl, k2, rfl⟩
  go_wp2
  go_ret
  exact ⟨rfl, _, rfl⟩
set_option maxHeartbeats 400000 in
set_option maxRecDepth 100000 in
theorem smallSigma1_any (x : Int) (w : World) (hx0 : 0 ≤ x) (hx1 : x < 18446744073709551616) :
    Calls Tryd.prog 70 #[.int .u64 x] w fun e w' => e = .returned (.int .u64 (s1Z x)) ∧ ∃ k, w' = w.drewN k := by
  have HX := hide hx1
  clear hx1
  go_enter Tryd.func70, Tryd.ntmps70
  go_wp2_with fail
  refine (rotr64_any x _ _ hx0 (unhide HX)).mono ?_
  rintro e w1 ⟨rfl, k1, rfl⟩
  go_wp2_with fail
  refine (rotr64_any x _ _ hx0 (unhide HX)).mono ?_
  rintro e w2 ⟨rfl, k2, rfl⟩
  go_wp2
  go_ret
  exact ⟨rfl, _, rfl⟩
set_option maxHeartbeats 400000 in
set_option maxRecDepth 100000 in
theorem bigSigma0_any (x : Int) (w : World) (hx0 : 0 ≤ x) (hx1 : x < 18446744073709551616) :
    Calls Tryd.prog 62 #[.int .u64 x] w fun e w' => e = .returned (.int .u64 (S0Z x)) ∧ ∃ k, w' = w.drewN k := by
  have HX := hide hx1
  clear hx1
  go_enter Tryd.func62, Tryd.ntmps62
  go_wp2_with fail
  refine (rotr64_any x _ _ hx0 (unhide HX)).mono ?_
  rintro e w1 ⟨rfl, k1, rfl⟩
  go_wp2_with fail
  refine (rotr64_any x _ _ hx0 (unhide HX)).mono ?_
  rintro e w2 ⟨rfl, k2, rfl⟩
  go_wp2_with fail
  refine (rotr64_any x _ _ hx0 (unhide HX)).mono ?_
  rintro e w3 ⟨rfl, k3, rfl⟩
  go_wp2
  go_ret
  exact ⟨rfl, _, rfl⟩
set_option maxHeartbeats 400000 in
set_option maxRecDepth 100000 in
theorem bigSigma1_any (x : Int) (w : World) (hx0 : 0 ≤ x) (hx1 : x < 18446744073709551616) :
    Calls Tryd.prog 61 #[.int .u64 x] w fun e w' => e = .returned (.int .u64 (S1Z x)) ∧ ∃ k, w' = w.drewN k := by
  have HX := hide hx1
  clear hx1
  go_enter Tryd.func61, Tryd.ntmps61
  go_wp2_with fail
  refine (rotr64_any x _ _ hx0 (unhide HX)).mono ?_
  rintro e w1 ⟨rfl, k1, rfl⟩
  go_wp2_with fail
  refine (rotr64_any x _ _ hx0 (unhide HX)).mono ?_
  rintro e w2 ⟨rfl, k2, rfl⟩
  go_wp2_with fail
  refine (rotr64_any x _ _ hx0 (unhide HX)).mono ?_
  rintro e w3 ⟨rfl, k3, rfl⟩
  go_wp2
  go_ret
  exact ⟨rfl, _, rfl⟩
end Go.Proofs.YtkagnpnicbddlaaDoor.S5

namespace Go.Proofs.YtkagnpnicbddlaaDoor.S5
open Go.RowKit

/-! SHA-512, as plain mathematics of whole numbers. -/
def IsW (l : List Int) : Prop := ∀ x ∈ l, 0 ≤ x ∧ x < 18446744073709551616
theorem IsW.at {l : List Int} (h : IsW l) (i : Nat) : 0 ≤ l.getD i 0 ∧ l.getD i 0 < 18446744073709551616 := by
  rw [List.getD_eq_getElem?_getD]
  by_cases hi : i < l.length
  · rw [List.getElem?_eq_getElem hi]; exact h _ (List.getElem_mem hi)
  · rw [List.getElem?_eq_none (by omega)]; simp
theorem IsW.append {a b : List Int} (ha : IsW a) (hb : IsW b) : IsW (a ++ b) := by
  intro x hx; rcases List.mem_append.1 hx with h | h
  · exact ha x h
  · exact hb x h

def ad (x y : Int) : Int := (x + y) % 18446744073709551616
theorem ad_bd (x y : Int) : 0 ≤ ad x y ∧ ad x y < 18446744073709551616 := by unfold ad; omega
theorem ad_comm (x y : Int) : ad x y = ad y x := by unfold ad; rw [Int.add_comm]

def wordAt (b : List Int) (t : Nat) : Int := leV ((b.drop (8 * t)).take 8).reverse
def nextW (l : List Int) : Int :=
  ad (ad (ad (s1Z (l.getD (l.length - 2) 0)) (l.getD (l.length - 7) 0)) (s0Z (l.getD (l.length - 15) 0))) (l.getD (l.length - 16) 0)
def sched (b : List Int) : Nat → List Int
  | 0 => []
  | k + 1 => sched b k ++ [if k < 16 then wordAt b k else nextW (sched b k)]
@[simp] theorem sched_length (b : List Int) (k : Nat) : (sched b k).length = k := by
  induction k with
  | zero => rfl
  | succ k ih => simp [sched, ih]
/-- the array behind k rounds -/
def schedA (b : List Int) (k : Nat) : List Int := sched b k ++ List.replicate (80 - k) 0
theorem schedA_length (b : List Int) (k : Nat) (h : k ≤ 80) : (schedA b k).length = 80 := by simp [schedA]; omega
theorem schedA_zero (b : List Int) : schedA b 0 = List.replicate 80 0 := by simp [schedA, sched]
theorem schedA_all (b : List Int) : schedA b 80 = sched b 80 := by simp [schedA]
theorem schedA_set (b : List Int) (k : Nat) (h : k < 80) (x : Int) (hx : x = if k < 16 then wordAt b k else nextW (sched b k)) : (schedA b k).set k x = schedA b (k + 1) := by
  obtain ⟨n, hn⟩ : ∃ n, 80 - k = n + 1 := ⟨79 - k, by omega⟩
  have hn' : 80 - (k + 1) = n := by omega
  unfold schedA
  rw [List.set_append_right _ _ (by simp), sched_length, Nat.sub_self, hn, hn', List.replicate_succ, List.set_cons_zero, sched, hx]
  simp
theorem schedA_at (b : List Int) (k i : Nat) (h : i < k) : (schedA b k).getD i 0 = (sched b k).getD i 0 := by
  unfold schedA
  simp only [List.getD_eq_getElem?_getD]
  rw [List.getElem?_append_left (by simpa using h)]
theorem wordAt_bd (b : List Int) (t : Nat) (h : IsB b) : 0 ≤ wordAt b t ∧ wordAt b t < 18446744073709551616 := by
  have hB : IsB ((b.drop (8 * t)).take 8).reverse := by
    intro x hx; exact h x (List.mem_of_mem_drop (List.mem_of_mem_take (List.mem_reverse.1 hx)))
  have h1 := leV_bd _ hB
  have hl : (((b.drop (8 * t)).take 8).reverse).length ≤ 8 := by simp; omega
  refine ⟨h1.1, Int.lt_of_lt_of_le h1.2 ?_⟩
  generalize (((b.drop (8 * t)).take 8).reverse).length = n at hl
  have : (2 : Nat) ^ (8 * n) ≤ 2 ^ 64 := Nat.pow_le_pow_right (by omega) (by omega)
  have h2 : ((2 ^ (8 * n) : Nat) : Int) = (2 : Int) ^ (8 * n) := by simp
  omega
theorem sched_isW (b : List Int) (k : Nat) (h : IsB b) : IsW (sched b k) := by
  induction k with
  | zero => intro x hx; simp [sched] at hx
  | succ k ih =>
    refine IsW.append ih ?_
    intro x hx
    simp at hx
    subst hx
    split
    · exact wordAt_bd b k h
    · exact ad_bd _ _
theorem schedA_isW (b : List Int) (k : Nat) (h : IsB b) : IsW (schedA b k) := by
  refine IsW.append (sched_isW b k h) ?_
  intro x hx
  have := List.eq_of_mem_replicate hx
  omega
end Go.Proofs.YtkagnpnicbddlaaDoor.S5

namespace Go.Proofs.YtkagnpnicbddlaaDoor.S5
open Go.RowKit

theorem zero80 : (Tryd.prog.info? 84).map (fun i => (i.zero, i.size)) = some (some (.agg (U64 (List.replicate 80 0)).toArray), 80) := by kernel_rfl
/-- the zero of the array under a name, for the walk -/
theorem zero80_named : ∃ Z : List Value, Z = U64 (List.replicate 80 0) ∧ ∀ w, (zeroValue 84).run Tryd.prog w = .ok (.agg Z.toArray) w := ⟨_, rfl, (zero_of_info zero80).1⟩

theorem cell_set_off (w : World) (b : Nat) (v : Value) {i j : Nat} (h : i ≠ j) : (w.setCell ⟨b, j, none⟩ v).cell? ⟨b, i, none⟩ = w.cell? ⟨b, i, none⟩ := by
  apply World.cell?_setCell_other
  intro e
  exact h (congrArg Addr.off e).symm

theorem Tryd.sz80w : (Tryd.prog.info? 84).map (·.size) = some 80 := by kernel_rfl

structure SchedI (B : List Int) (w : World) (k : Nat) (wr : World) : Prop where
  blk : Arr wr w.heap.size 75 (U8 B)
  res : Arr wr (w.heap.size + 1) 84 (U64 (List.replicate 80 0))
  arr : Arr wr (w.heap.size + 1 + 1) 84 (U64 (schedA B k))
  bel : Below w.heap.size w wr

set_option maxHeartbeats 1000000 in
set_option maxRecDepth 100000 in
theorem schedule_any (B : List Int) (w : World) (hl : B.length = 128) (hB : IsB B) :
    Calls Tryd.prog 60 #[.agg (U8 B).toArray] w fun e w' => e = .returned (.agg (U64 (sched B 80)).toArray) ∧ Below w.heap.size w w' := by
  have HL := hide hl
  clear hl
  go_enter Tryd.func60, Tryd.ntmps60
  obtain ⟨Z, hZ, hzv⟩ := zero80_named
  have HZ := hide hZ
  clear hZ
  go_wp2_with fail
  rw [unhide HZ]
  clear HZ hzv
  go_loopw [6] (fun i wr => ∃ k : Nat, k ≤ 16 ∧ i = .int .i64 k ∧ SchedI B w k wr) (fun i _ => 16 - (intOf i).toNat)
  case atStart =>
    refine ⟨0, by omega, rfl, ?_⟩
    have hs : (((w.alloc (Obj.cells (U8 B).toArray 75)).alloc (Obj.cells (U64 (List.replicate 80 0)).toArray 84))).heap.size = w.heap.size + 1 + 1 := by simp
    have hs1 : (w.alloc (Obj.cells (U8 B).toArray 75)).heap.size = w.heap.size + 1 := by simp
    refine ⟨((Arr.new _ _ _).alloc _).alloc _, ?_, ?_, ((Below.refl _ _).alloc (Nat.le_refl _) _ |>.alloc (by rw [hs1]; omega) _).alloc (by rw [hs]; omega) _⟩
    · have := (Arr.new (w.alloc (Obj.cells (U8 B).toArray 75)) 84 (U64 (List.replicate 80 0))).alloc (Obj.cells (U64 (List.replicate 80 0)).toArray 84)
      rw [hs1] at this; exact this
    · have := Arr.new ((w.alloc (Obj.cells (U8 B).toArray 75)).alloc (Obj.cells (U64 (List.replicate 80 0)).toArray 84)) 84 (U64 (List.replicate 80 0))
      rw [hs] at this; rw [schedA_zero]; exact this
  case round =>
    obtain ⟨k, hk, rfl, I⟩ := hrel
    by_cases hlt : k < 16
    · have hfz := I.arr.frozen k
      have hcl := I.arr.cell64 k (by rw [schedA_length _ _ (by omega)]; omega)
      go_wp2_with fail
      have e4 : (8 * (k : Int)) = ((8 * k : Nat) : Int) := by omega
      rw [e4]
      clear e4
      refine (loadbe64_ok w.heap.size 0 128 128 (8 * k) B wr (unhide HL) hB I.blk.lies (by omega) (by omega) (by decide)).mono ?_
      rintro e w' ⟨rfl, rfl⟩
      have hx : leV ((B.drop (8 * k)).take 8).reverse = wordAt B k := rfl
      rw [hx]
      generalize hX : wordAt B k = X
      have HX := hide hX
      clear hX hx
      go_wp2
      go_roundw
      case rel =>
        refine ⟨k + 1, by omega, by go_num, I.blk.other _ (by show w.heap.size ≠ w.heap.size + 1 + 1; omega), I.res.other _ (by show w.heap.size + 1 ≠ w.heap.size + 1 + 1; omega), ?_, I.bel.setCell (by show w.heap.size ≤ w.heap.size + 1 + 1; omega) _⟩
        have := I.arr.set64 k X
        rwa [schedA_set B k (by omega) X (by rw [if_pos hlt]; exact (unhide HX).symm)] at this
      case measure => simp [intOf]; omega
    · have I16 : SchedI B w 16 wr := by
        have e : k = 16 := by omega
        rw [← e]; exact I
      clear I
      go_wp2_with fail
      clear hk hlt
      generalize (k : Int) = k0
      generalize decide (k0 < 16) = b0
      go_loopw [5] (fun i wr => ∃ k : Nat, 16 ≤ k ∧ k ≤ 80 ∧ i = .int .i64 k ∧ SchedI B w k wr) (fun i _ => 80 - (intOf i).toNat)
      case atStart => exact ⟨16, by omega, by omega, rfl, I16⟩
      case round =>
        clear I16
        obtain ⟨k, hk0, hk, rfl, I⟩ := hrel
        by_cases hlt : k < 80
        · have hfz := I.arr.frozen k
          have hL := schedA_length B k (by omega)
          have hcl := I.arr.cell64 k (by omega)
          have g2 := schedA_at B k (k - 2) (by omega)
          have g7 := schedA_at B k (k - 7) (by omega)
          have g15 := schedA_at B k (k - 15) (by omega)
          have g16 := schedA_at B k (k - 16) (by omega)
          have c2 := I.arr.cell64 (k - 2) (by omega)
          have c7 := I.arr.cell64 (k - 7) (by omega)
          have c15 := I.arr.cell64 (k - 15) (by omega)
          have c16 := I.arr.cell64 (k - 16) (by omega)
          have hW := sched_isW B k hB
          have b2 := hW.at (k - 2)
          have b15 := hW.at (k - 15)
          rw [g2] at c2
          rw [g7] at c7
          rw [g15] at c15
          rw [g16] at c16
          have HX : Hid (ad (ad (ad (s1Z ((sched B k).getD (k - 2) 0)) ((sched B k).getD (k - 7) 0)) (s0Z ((sched B k).getD (k - 15) 0))) ((sched B k).getD (k - 16) 0) = nextW (sched B k)) := by
            show _ = _; unfold nextW; rw [sched_length]
          generalize (sched B k).getD (k - 2) 0 = x2 at c2 b2 HX
          generalize (sched B k).getD (k - 7) 0 = x7 at c7 HX
          generalize (sched B k).getD (k - 15) 0 = x15 at c15 b15 HX
          generalize (sched B k).getD (k - 16) 0 = x16 at c16 HX
          generalize (schedA B k).getD k 0 = xk at hcl
          obtain ⟨m2, hm2, hn2⟩ : ∃ m, k - 2 = m ∧ (k : Int) - 2 = (m : Int) := ⟨k - 2, rfl, by omega⟩
          obtain ⟨m7, hm7, hn7⟩ : ∃ m, k - 7 = m ∧ (k : Int) - 7 = (m : Int) := ⟨k - 7, rfl, by omega⟩
          obtain ⟨m15, hm15, hn15⟩ : ∃ m, k - 15 = m ∧ (k : Int) - 15 = (m : Int) := ⟨k - 15, rfl, by omega⟩
          obtain ⟨m16, hm16, hn16⟩ : ∃ m, k - 16 = m ∧ (k : Int) - 16 = (m : Int) := ⟨k - 16, rfl, by omega⟩
          rw [hm2] at c2
          rw [hm7] at c7
          rw [hm15] at c15
          rw [hm16] at c16
          have d2 : (m2 : Int) < 80 := by omega
          have p2 : (0 : Int) ≤ (m2 : Int) := by omega
          have w2 : IntKind.i64.wrap ((k : Int) - 2) = (m2 : Int) := by rw [IntKind.wrap_i64]; omega
          have d7 : (m7 : Int) < 80 := by omega
          have p7 : (0 : Int) ≤ (m7 : Int) := by omega
          have w7 : IntKind.i64.wrap ((k : Int) - 7) = (m7 : Int) := by rw [IntKind.wrap_i64]; omega
          have d15 : (m15 : Int) < 80 := by omega
          have p15 : (0 : Int) ≤ (m15 : Int) := by omega
          have w15 : IntKind.i64.wrap ((k : Int) - 15) = (m15 : Int) := by rw [IntKind.wrap_i64]; omega
          have d16 : (m16 : Int) < 80 := by omega
          have p16 : (0 : Int) ≤ (m16 : Int) := by omega
          have w16 : IntKind.i64.wrap ((k : Int) - 16) = (m16 : Int) := by rw [IntKind.wrap_i64]; omega
          have ne2 : m2 ≠ k := by omega
          have ne7 : m7 ≠ k := by omega
          have ne15 : m15 ≠ k := by omega
          have ne16 : m16 ≠ k := by omega
          obtain ⟨b20, b21⟩ := b2
          obtain ⟨b150, b151⟩ := b15
          have B21 := hide b21
          have B151 := hide b151
          clear b21 b151
          clear hn2 hn7 hn15 hn16 hm2 hm7 hm15 hm16 g2 g7 g15 g16 hW hL
          have hI := hide I
          clear I
          go_wp2_with fail
          generalize hb : w.heap.size + 1 + 1 = b at *
          go_region_held3 (fun w' => w'.cell? ⟨b, m2, none⟩ = some (.int .u64 x2) ∧ w'.cell? ⟨b, m7, none⟩ = some (.int .u64 x7) ∧ w'.cell? ⟨b, m15, none⟩ = some (.int .u64 x15) ∧ w'.cell? ⟨b, m16, none⟩ = some (.int .u64 x16)) (first | go_keep | exact ⟨(cell_set_off _ _ _ ne2).trans (by go_keep), (cell_set_off _ _ _ ne7).trans (by go_keep), (cell_set_off _ _ _ ne15).trans (by go_keep), (cell_set_off _ _ _ ne16).trans (by go_keep)⟩)
            (first
              | (go_at_call 70; refine (smallSigma1_any x2 _ b20 (unhide B21)).mono ?_; rintro e w' ⟨rfl, kk, rfl⟩)
              | (go_at_call 71; refine (smallSigma0_any x15 _ b150 (unhide B151)).mono ?_; rintro e w' ⟨rfl, kk, rfl⟩))
          subst hb
          generalize hv : IntKind.u64.wrap (IntKind.u64.wrap (IntKind.u64.wrap (s1Z x2 + x7) + s0Z x15) + x16) = X
          have HV := hide hv
          clear hv
          go_wp2
          go_roundw
          case rel =>
            have I := unhide hI
            have hX : X = nextW (sched B k) := by
              rw [← unhide HX, ← unhide HV]
              simp only [IntKind.wrap_u64, ad]
            refine ⟨k + 1, by omega, by omega, by go_num, I.blk.drewN _ |>.other _ (by show w.heap.size ≠ w.heap.size + 1 + 1; omega), I.res.drewN _ |>.other _ (by show w.heap.size + 1 ≠ w.heap.size + 1 + 1; omega), ?_, (below_drewN I.bel _).setCell (by show w.heap.size ≤ w.heap.size + 1 + 1; omega) _⟩
            rw [← schedA_set B k (by omega) X (by rw [if_neg (by omega)]; exact hX)]
            exact (I.arr.drewN _).set64 k X
          case measure => simp [intOf]; omega
        · have : k = 80 := by omega
          subst this
          clear hk hlt
          have ha := I.arr
          rw [schedA_all] at ha
          have hLn : (sched B 80).length = 80 := sched_length B 80
          obtain ⟨L, hL⟩ : ∃ L, L = sched B 80 := ⟨_, rfl⟩
          rw [← hL] at ha hLn
          have HLL := hide hL
          have HLN := hide hLn
          clear hL hLn
          have hz : (Tryd.prog.info? 84).map (·.size) = some (U64 L).toArray.size := by rw [Tryd.sz80w]; simp [unhide HLN]
          have hbel := I.bel
          have hres := I.res
          clear I
          go_wp2_with (first
            | refine wpList_load_row rfl 84 (.tmp 3) rfl (w.heap.size + 1 + 1) rfl 84 _ (0, 0) _ ha Tryd.underlying84 rfl hz ?_
            | refine wpList_store_row rfl 84 (.tmp 2) (.tmp 46) rfl (w.heap.size + 1) _ rfl rfl 84 _ hres hz (by simp [unhide HLN]) (all_one (U64_one _)) ?_)
          refine bodyPost_ret (results_cell_row rfl _ _ (w.heap.size + 1) 84 _ (0, 0) _ rfl (Arr.setRow hres (U64 L)) Tryd.underlying84 rfl hz) rfl ?_
          rw [← unhide HLL]
          exact ⟨rfl, below_setRow hbel (by omega) _⟩
end Go.Proofs.YtkagnpnicbddlaaDoor.S5

namespace Go.Proofs.YtkagnpnicbddlaaDoor.S5
open Go.RowKit

/-! One block, as plain mathematics. -/
def KZ : List Int := [4794697086780616226, 8158064640168781261, 13096744586834688815, 16840607885511220156, 4131703408338449720, 6480981068601479193, 10538285296894168987, 12329834152419229976, 15566598209576043074, 1334009975649890238, 2608012711638119052, 6128411473006802146, 8268148722764581231, 9286055187155687089, 11230858885718282805, 13951009754708518548, 16472876342353939154, 17275323862435702243, 1135362057144423861, 2597628984639134821, 3308224258029322869, 5365058923640841347, 6679025012923562964, 8573033837759648693, 10970295158949994411, 12119686244451234320, 12683024718118986047, 13788192230050041572, 14330467153632333762, 15395433587784984357, 489312712824947311, 1452737877330783856, 2861767655752347644, 3322285676063803686, 5560940570517711597, 5996557281743188959, 7280758554555802590, 8532644243296465576, 9350256976987008742, 10552545826968843579, 11727347734174303076, 12113106623233404929, 14000437183269869457, 14369950271660146224, 15101387698204529176, 15463397548674623760, 17586052441742319658, 1182934255886127544, 1847814050463011016, 2177327727835720531, 2830643537854262169, 3796741975233480872, 4115178125766777443, 5681478168544905931, 6601373596472566643, 7507060721942968483, 8399075790359081724, 8693463985226723168, 9568029438360202098, 10144078919501101548, 10430055236837252648, 11840083180663258601, 13761210420658862357, 14299343276471374635, 14566680578165727644, 15097957966210449927, 16922976911328602910, 17689382322260857208, 500013540394364858, 748580250866718886, 1242879168328830382, 1977374033974150939, 2944078676154940804, 3659926193048069267, 4368137639120453308, 4836135668995329356, 5532061633213252278, 6448918945643986474, 6902733635092675308, 7801388544844847127]
def FZ : List Int := [7640891576956012808, 13503953896175478587, 4354685564936845355, 11912009170470909681, 5840696475078001361, 11170449401992604703, 2270897969802886507, 6620516959819538809]
theorem KZ_length : KZ.length = 80 := rfl
theorem FZ_length : FZ.length = 8 := rfl
theorem KZ_isW : IsW KZ := by unfold IsW KZ; decide
theorem FZ_isW : IsW FZ := by unfold IsW FZ; decide

structure St where
  (a b c d e f g h : Int)
def chZ (e f g : Int) : Int := bits .xor .u64 (bits .and .u64 e f) (bits .and .u64 (18446744073709551615 - e) g)
def majZ (a b c : Int) : Int := bits .xor .u64 (bits .xor .u64 (bits .and .u64 a b) (bits .and .u64 a c)) (bits .and .u64 b c)
def t1Z (s : St) (k w : Int) : Int := ad (ad (ad (ad s.h (S1Z s.e)) (chZ s.e s.f s.g)) k) w
def t2Z (s : St) : Int := ad (S0Z s.a) (majZ s.a s.b s.c)
def rnd (s : St) (k w : Int) : St := ⟨ad (t1Z s k w) (t2Z s), s.a, s.b, s.c, ad s.d (t1Z s k w), s.e, s.f, s.g⟩
def rounds (s : St) (W : List Int) : Nat → St
  | 0 => s
  | k + 1 => rnd (rounds s W k) (KZ.getD k 0) (W.getD k 0)
def St.toL (s : St) : List Int := [s.a, s.b, s.c, s.d, s.e, s.f, s.g, s.h]
def St.ofL (l : List Int) : St := ⟨l.getD 0 0, l.getD 1 0, l.getD 2 0, l.getD 3 0, l.getD 4 0, l.getD 5 0, l.getD 6 0, l.getD 7 0⟩
def St.Ok (s : St) : Prop := IsW s.toL
theorem St.ok_parts {s : St} (h : s.Ok) : (0 ≤ s.a ∧ s.a < 18446744073709551616) ∧ (0 ≤ s.b ∧ s.b < 18446744073709551616) ∧ (0 ≤ s.c ∧ s.c < 18446744073709551616) ∧ (0 ≤ s.d ∧ s.d < 18446744073709551616) ∧ (0 ≤ s.e ∧ s.e < 18446744073709551616) ∧ (0 ≤ s.f ∧ s.f < 18446744073709551616) ∧ (0 ≤ s.g ∧ s.g < 18446744073709551616) ∧ (0 ≤ s.h ∧ s.h < 18446744073709551616) := by
  simpa [St.Ok, IsW, St.toL] using h
theorem St.ok_mk {s : St} (h : (0 ≤ s.a ∧ s.a < 18446744073709551616) ∧ (0 ≤ s.b ∧ s.b < 18446744073709551616) ∧ (0 ≤ s.c ∧ s.c < 18446744073709551616) ∧ (0 ≤ s.d ∧ s.d < 18446744073709551616) ∧ (0 ≤ s.e ∧ s.e < 18446744073709551616) ∧ (0 ≤ s.f ∧ s.f < 18446744073709551616) ∧ (0 ≤ s.g ∧ s.g < 18446744073709551616) ∧ (0 ≤ s.h ∧ s.h < 18446744073709551616)) : s.Ok := by
  simpa [St.Ok, IsW, St.toL] using h
theorem St.Ok.rnd {s : St} (h : s.Ok) (k w : Int) : (rnd s k w).Ok := by
  obtain ⟨h1, h2, h3, h4, h5, h6, h7, h8⟩ := St.ok_parts h
  exact St.ok_mk ⟨ad_bd _ _, h1, h2, h3, ad_bd _ _, h5, h6, h7⟩
theorem St.Ok.rounds {s : St} (h : s.Ok) (W : List Int) (k : Nat) : (rounds s W k).Ok := by
  induction k with
  | zero => exact h
  | succ k ih => exact ih.rnd _ _
theorem St.ofL_ok {l : List Int} (h : IsW l) : (St.ofL l).Ok := St.ok_mk ⟨h.at 0, h.at 1, h.at 2, h.at 3, h.at 4, h.at 5, h.at 6, h.at 7⟩
def blockZ (s B : List Int) : List Int := List.zipWith ad s (rounds (St.ofL s) (sched B 80) 80).toL
theorem blockZ_length (s B : List Int) (h : s.length = 8) : (blockZ s B).length = 8 := by simp [blockZ, St.toL, h]
theorem zipAd_isW (a b : List Int) : IsW (List.zipWith ad a b) := by
  induction a generalizing b with
  | nil => intro x hx; simp at hx
  | cons x a ih =>
    cases b with
    | nil => intro x hx; simp at hx
    | cons y b =>
      intro z hz
      simp only [List.zipWith_cons_cons, List.mem_cons] at hz
      rcases hz with rfl | hz
      · exact ad_bd _ _
      · exact ih b z hz
theorem blockZ_isW (s B : List Int) : IsW (blockZ s B) := zipAd_isW _ _
/-- the state behind k words of the sum -/
def addTo (s t : List Int) (k : Nat) : List Int := (List.range 8).map fun i => if i < k then ad (s.getD i 0) (t.getD i 0) else s.getD i 0
@[simp] theorem addTo_length (s t : List Int) (k : Nat) : (addTo s t k).length = 8 := by simp [addTo]
theorem addTo_zero (s t : List Int) (h : s.length = 8) : addTo s t 0 = s := by
  apply List.ext_getElem
  · simp [h]
  · intro i h1 h2; simp [addTo, h2]
theorem addTo_at (s t : List Int) (k : Nat) (h : k < 8) : (addTo s t k).getD k 0 = s.getD k 0 := by
  simp [addTo, h]
theorem addTo_set (s t : List Int) (k : Nat) : (addTo s t k).set k (ad (s.getD k 0) (t.getD k 0)) = addTo s t (k + 1) := by
  apply List.ext_getElem
  · simp
  · intro i h1 h2
    simp only [addTo, List.getElem_set, List.getElem_map, List.getElem_range]
    by_cases e : k = i
    · subst e; simp
    · simp only [e, if_false]
      by_cases h : i < k
      · simp [h, Nat.lt_succ_of_lt h]
      · rw [if_neg h, if_neg (by omega)]
theorem addTo_all (s t : List Int) (hs : s.length = 8) (ht : t.length = 8) : addTo s t 8 = List.zipWith ad s t := by
  apply List.ext_getElem
  · simp [hs, ht]
  · intro i h1 h2
    simp at h1
    simp [addTo, h1, hs, ht]
end Go.Proofs.YtkagnpnicbddlaaDoor.S5

namespace Go.Proofs.YtkagnpnicbddlaaDoor.S5
open Go.RowKit

/-- the round constants lie in their variable -/
def KLaid (w : World) : Prop := ∀ i, i < 80 → w.cell? ⟨3, i, none⟩ = some (.int .u64 (KZ.getD i 0))
theorem KLaid.lt {w : World} (h : KLaid w) : 3 < w.heap.size := cell_lt (h 0 (by decide))
theorem KLaid.later {w w' : World} (h : KLaid w) (hb : Below w.heap.size w w') : KLaid w' := fun i hi => (hb.cell (p := ⟨3, i, none⟩) h.lt).trans (h i hi)
theorem KLaid.below {w w' : World} {B : Nat} (h : KLaid w) (hb : Below B w w') (hB : 3 < B) : KLaid w' := fun i hi => (hb.cell (p := ⟨3, i, none⟩) hB).trans (h i hi)
theorem KLaid.drewN {w : World} (h : KLaid w) (k : Nat) : KLaid (w.drewN k) := h

theorem Tryd.sz128b : (Tryd.prog.info? 75).map (·.size) = some 128 := by kernel_rfl
theorem Tryd.sz8w : (Tryd.prog.info? 74).map (·.size) = some 8 := by kernel_rfl

theorem u64_not (x : Int) (h0 : 0 ≤ x) (h1 : x < 18446744073709551616) : bits .xor .u64 (if IntKind.u64.signed = true then -1 else IntKind.u64.max) x = 18446744073709551615 - x := by
  show bits .xor .u64 18446744073709551615 x = _
  obtain ⟨X, rfl⟩ := Int.eq_ofNat_of_zero_le h0
  rw [bits_xor64]
  have e : (BitVec.ofInt 64 18446744073709551615) = BitVec.allOnes 64 := by decide
  rw [e, BitVec.allOnes_xor, BitVec.toNat_not, BitVec.ofInt_natCast, BitVec.toNat_ofNat, Nat.mod_eq_of_lt (by omega)]
  omega

theorem run_index8 (T : List Int) (j : Nat) (w : World) (y : Int) (hj : j < 8) (hy : (U64 T).toArray[j]? = some (.int .u64 y)) : (Instr.index 74 (.agg (U64 T).toArray) (.int .i64 j)).run Tryd.prog w = .ok (.int .u64 y) w := by
  have hy' : (U64 T)[j]? = some (.int .u64 y) := by simpa using hy
  simp [Instr.index, asIntOf, run_underlying Tryd.underlying74, part, hy', hj]

structure BlkI (s L : List Int) (w : World) (gL : Nat) (wr : World) : Prop where
  sta : Arr wr w.heap.size 74 (U64 s)
  res : Arr wr (w.heap.size + 1 + 1) 74 (U64 [0, 0, 0, 0, 0, 0, 0, 0])
  arr : Arr wr gL 84 (U64 L)
  kon : KLaid wr
  bel : Below w.heap.size w wr
theorem BlkI.drewN {s L : List Int} {w : World} {gL : Nat} {wr : World} (h : BlkI s L w gL wr) (k : Nat) : BlkI s L w gL (wr.drewN k) :=
  ⟨h.sta.drewN k, h.res.drewN k, h.arr.drewN k, h.kon.drewN k, below_drewN h.bel k⟩

set_option maxHeartbeats 2000000 in
set_option maxRecDepth 100000 in
theorem block_any (s B : List Int) (w : World) (hs : s.length = 8) (hsW : IsW s) (hl : B.length = 128) (hB : IsB B) (hK : KLaid w) :
    Calls Tryd.prog 50 #[.agg (U64 s).toArray, .agg (U8 B).toArray] w fun e w' => e = .returned (.agg (U64 (blockZ s B)).toArray) ∧ Below w.heap.size w w' := by
  have HL := hide hl
  have HS := hide hs
  have hzb : (Tryd.prog.info? 75).map (·.size) = some (U8 B).toArray.size := by rw [Tryd.sz128b]; simp [hl]
  clear hl hs
  go_enter Tryd.func50, Tryd.ntmps50
  obtain ⟨a0, b0, c0, d0, e0, f0, g0, h0, rfl⟩ : ∃ a b c d e f g h, s = [a, b, c, d, e, f, g, h] := by
    have := unhide HS
    match s, this with
    | [a, b, c, d, e, f, g, h], _ => exact ⟨a, b, c, d, e, f, g, h, rfl⟩
  clear HS
  obtain ⟨W, hW, hA, hBk, hR, hbW, hsW2⟩ := arr3 w 74 75 74 (U64 [a0, b0, c0, d0, e0, f0, g0, h0]) (U8 B) (U64 [0, 0, 0, 0, 0, 0, 0, 0])
  have hld := hBk
  rw [hW] at hld
  have HW := hide hW
  have hz8 : (Tryd.prog.info? 74).map (·.size) = some 8 := Tryd.sz8w
  clear hW
  go_wp2_with (refine wpList_load_row rfl 75 (.tmp 3) rfl (w.heap.size + 1) rfl 75 (U8 B).toArray (0, 0) _ hld Tryd.underlying75 rfl hzb ?_)
  have hz0 : (#[Value.int .u64 0, .int .u64 0, .int .u64 0, .int .u64 0, .int .u64 0, .int .u64 0, .int .u64 0, .int .u64 0] : Array Value) = (U64 [0, 0, 0, 0, 0, 0, 0, 0]).toArray := rfl
  rw [hz0, ← unhide HW]
  clear hld hz0
  refine (schedule_any B W (unhide HL) hB).mono ?_
  rintro e w1 ⟨rfl, hb1⟩
  have hLn : (sched B 80).length = 80 := sched_length B 80
  obtain ⟨L, hL⟩ : ∃ L, L = sched B 80 := ⟨_, rfl⟩
  rw [← hL] at hLn ⊢
  have HLL := hide hL
  have hz : (Tryd.prog.info? 84).map (·.size) = some (U64 L).toArray.size := by rw [Tryd.sz80w]; simp [hLn]
  have hzs : (U64 (List.replicate 80 0)).toArray.size = (U64 L).toArray.size := by simp [hLn]
  have HLN := hide hLn
  clear hL hLn
  obtain ⟨Z, hZ, hzv⟩ := zero80_named
  rw [← hZ] at hzs
  clear hZ
  go_wp2_with (refine wpList_store_row rfl 84 (.tmp 5) (.tmp 20) rfl w1.heap.size _ rfl rfl 84 _ (heap_alloc_last w1 _) hz hzs (all_one (U64_one _)) ?_)
  clear hzv
  rw [World.setRow_alloc_new]
  obtain ⟨W2, hW2, hAL, hb2, hs2⟩ := arr1 w1 84 (U64 L)
  rw [← hW2]
  clear hW2
  have hlt1 : w.heap.size + 1 + 1 < w1.heap.size := by have := hb1.size; omega
  have hbT : Below w.heap.size w W2 := (hbW.trans (hb1.mono (by omega))).trans (hb2.mono (by omega))
  have hA2 : Arr W2 w.heap.size 74 (U64 [a0, b0, c0, d0, e0, f0, g0, h0]) := (hA.later hb1).later hb2
  have hR2 : Arr W2 (w.heap.size + 1 + 1) 74 (U64 [0, 0, 0, 0, 0, 0, 0, 0]) := (hR.later hb1).later hb2
  have hK2 : KLaid W2 := hK.later hbT
  generalize w1.heap.size = gL at *
  clear hA hBk hR hbW hsW2 HW hb1 hs2 hb2 hK hzb hzs hz
  have q0 : W2.cell? ⟨w.heap.size, 0, none⟩ = some (.int .u64 a0) := hA2.cell 0
  have q1 : W2.cell? ⟨w.heap.size, 1, none⟩ = some (.int .u64 b0) := hA2.cell 1
  have q2 : W2.cell? ⟨w.heap.size, 2, none⟩ = some (.int .u64 c0) := hA2.cell 2
  have q3 : W2.cell? ⟨w.heap.size, 3, none⟩ = some (.int .u64 d0) := hA2.cell 3
  have q4 : W2.cell? ⟨w.heap.size, 4, none⟩ = some (.int .u64 e0) := hA2.cell 4
  have q5 : W2.cell? ⟨w.heap.size, 5, none⟩ = some (.int .u64 f0) := hA2.cell 5
  have q6 : W2.cell? ⟨w.heap.size, 6, none⟩ = some (.int .u64 g0) := hA2.cell 6
  have q7 : W2.cell? ⟨w.heap.size, 7, none⟩ = some (.int .u64 h0) := hA2.cell 7
  go_wp2_with fail
  go_quiet (fail)
  go_wp2_with fail
  go_quiet (fail)
  go_wp2_with fail
  clear q0 q1 q2 q3 q4 q5 q6 q7
  go_loopw [6, 7, 8, 9, 10, 11, 12, 13, 37] (fun va vb vc vd ve vf vg vh i wr => ∃ k : Nat, ∃ S : St, k ≤ 80 ∧ i = .int .i64 k ∧ S = rounds (St.ofL [a0, b0, c0, d0, e0, f0, g0, h0]) L k ∧ va = .int .u64 S.a ∧ vb = .int .u64 S.b ∧ vc = .int .u64 S.c ∧ vd = .int .u64 S.d ∧ ve = .int .u64 S.e ∧ vf = .int .u64 S.f ∧ vg = .int .u64 S.g ∧ vh = .int .u64 S.h ∧ BlkI [a0, b0, c0, d0, e0, f0, g0, h0] L w gL wr)
    (fun _ _ _ _ _ _ _ _ i _ => 80 - (intOf i).toNat)
  case atStart => exact ⟨0, _, by omega, rfl, rfl, rfl, rfl, rfl, rfl, rfl, rfl, rfl, rfl, (BlkI.drewN ⟨hA2, hR2, hAL, hK2, hbT⟩ _).drewN _⟩
  case round =>
    obtain ⟨k, S, hk, rfl, hS, rfl, rfl, rfl, rfl, rfl, rfl, rfl, rfl, I⟩ := hrel
    clear hA2 hR2 hAL hK2 hbT
    have HSS := hide hS
    have hok : S.Ok := by rw [hS]; exact (St.ofL_ok hsW).rounds L k
    clear hS
    obtain ⟨⟨pa, qa⟩, -, -, -, ⟨pe, qe⟩, -, -, -⟩ := St.ok_parts hok
    have HOK := hide hok
    have QA := hide qa
    have QE := hide qe
    clear hok qa qe
    by_cases hlt : k < 80
    · have ck := I.kon k hlt
      have cl := I.arr.cell64 k (by rw [unhide HLN]; exact hlt)
      generalize hkk : KZ.getD k 0 = kk at ck
      generalize hll : L.getD k 0 = ll at cl
      have HKK := hide hkk
      have HLK := hide hll
      clear hkk hll
      go_wp2_with fail
      go_quiet (first
        | (go_at_call 61; exact Calls.quiet_of (bigSigma1_any _ _ pe (unhide QE))))
      have hnot := u64_not S.e pe (unhide QE)
      generalize hT : IntKind.u64.wrap (IntKind.u64.wrap (IntKind.u64.wrap (IntKind.u64.wrap (S.h + S1Z S.e) + bits BinOp.xor IntKind.u64 (bits BinOp.and IntKind.u64 S.e S.f) (bits BinOp.and IntKind.u64 (bits BinOp.xor IntKind.u64 (if IntKind.u64.signed = true then -1 else IntKind.u64.max) S.e) S.g)) + kk) + ll) = T1
      have HT : Hid (T1 = t1Z S kk ll) := by
        show _ = _
        rw [← hT, hnot]
        simp only [IntKind.wrap_u64]
        rfl
      clear hT hnot
      go_wp2_with fail
      refine (bigSigma0_any _ _ pa (unhide QA)).mono ?_
      rintro e w' ⟨rfl, m, rfl⟩
      go_wp2
      go_roundw
      case rel =>
        refine ⟨k + 1, rnd S kk ll, by omega, by go_num, ?_, ?_, rfl, rfl, rfl, ?_, rfl, rfl, rfl, I.drewN _⟩
        · rw [rounds, ← unhide HSS, unhide HKK, unhide HLK]
        · rw [unhide HT]; simp only [IntKind.wrap_u64]; rfl
        · rw [unhide HT]; simp only [IntKind.wrap_u64]; rfl
      case measure => simp [intOf]; omega
    · have e64 : k = 80 := by omega
      have HF : Hid (S = rounds (St.ofL [a0, b0, c0, d0, e0, f0, g0, h0]) L 80) := by
        show _ = _; rw [← e64]; exact unhide HSS
      clear e64
      go_wp2_with fail
      have hT8 : #[Value.int .u64 S.a, .int .u64 S.b, .int .u64 S.c, .int .u64 S.d, .int .u64 S.e, .int .u64 S.f, .int .u64 S.g, .int .u64 S.h] = (U64 S.toL).toArray := rfl
      rw [hT8]
      clear hT8
      have hTl : S.toL.length = 8 := rfl
      generalize hTT : S.toL = T at hTl
      have HTT := hide hTT
      have HTL := hide hTl
      clear hTT hTl
      generalize hs0 : [a0, b0, c0, d0, e0, f0, g0, h0] = s at *
      have hs8 : s.length = 8 := by rw [← hs0]; rfl
      have HS8 := hide hs8
      have HS0 := hide hs0
      clear hs8 hs0
      go_loopw [97] (fun i wr => ∃ j : Nat, j ≤ 8 ∧ i = .int .i64 j ∧ Arr wr w.heap.size 74 (U64 (addTo s T j)) ∧ Arr wr (w.heap.size + 1 + 1) 74 (U64 [0, 0, 0, 0, 0, 0, 0, 0]) ∧ Below w.heap.size w wr) (fun i _ => 8 - (intOf i).toNat)
      case atStart =>
        refine ⟨0, by omega, rfl, ?_, I.res, I.bel⟩
        rw [addTo_zero _ _ (unhide HS8)]; exact I.sta
      case round =>
        clear I
        obtain ⟨j, hj, rfl, hA, hR, hbl⟩ := hrel
        by_cases hjl : j < 8
        · have cj := hA.cell64 j (by simpa using hjl)
          rw [addTo_at _ _ _ hjl] at cj
          have fj := hA.frozen j
          have tj : (U64 T).toArray[j]? = some (.int .u64 (T.getD j 0)) := by
            have := U64_at T j (by rw [unhide HTL]; exact hjl)
            simpa using this
          generalize hx : s.getD j 0 = x at cj
          generalize hy : T.getD j 0 = y at tj
          have HX := hide hx
          have HY := hide hy
          clear hx hy
          have hix := run_index8 T j wr y hjl tj
          go_wp2
          go_roundw
          case rel =>
            refine ⟨j + 1, by omega, by go_num, ?_, hR.other _ (by show w.heap.size + 1 + 1 ≠ w.heap.size; omega), hbl.setCell (Nat.le_refl _) _⟩
            rw [← addTo_set, unhide HX, unhide HY]
            exact hA.set64 j _
          case measure => simp [intOf]; omega
        · have e8 : j = 8 := by omega
          have hA8 : Arr wr w.heap.size 74 (U64 (blockZ s B)) := by
            rw [e8, addTo_all s T (unhide HS8) (unhide HTL)] at hA
            have : List.zipWith ad s T = blockZ s B := by
              unfold blockZ; rw [← unhide HTT, unhide HF, unhide HLL]
            rwa [this] at hA
          have hR0 : (blockZ s B).length = 8 := blockZ_length s B (unhide HS8)
          clear e8 hA
          generalize hRR : blockZ s B = R at hA8 hR0
          have HRR := hide hRR
          clear hRR
          have hzr : (Tryd.prog.info? 74).map (·.size) = some (U64 R).toArray.size := by rw [hz8]; simp [hR0]
          have hzo : (U64 [0, 0, 0, 0, 0, 0, 0, 0]).toArray.size = (U64 R).toArray.size := by simp [hR0]
          have HR0 := hide hR0
          clear hR0
          go_wp2_with (first
            | refine wpList_load_row rfl 74 (.tmp 2) rfl w.heap.size rfl 74 _ (0, 0) _ hA8 Tryd.underlying74 rfl hzr ?_
            | refine wpList_store_row rfl 74 (.tmp 4) (.tmp 108) rfl (w.heap.size + 1 + 1) _ rfl rfl 74 _ hR hzr hzo (all_one (U64_one _)) ?_)
          refine bodyPost_ret (results_cell_row rfl _ _ (w.heap.size + 1 + 1) 74 _ (0, 0) _ rfl (Arr.setRow hR (U64 R)) Tryd.underlying74 rfl hzr) rfl ?_
          refine ⟨?_, below_setRow hbl (by omega) _⟩
          rw [unhide HS0, ← unhide HRR]
end Go.Proofs.YtkagnpnicbddlaaDoor.S5
