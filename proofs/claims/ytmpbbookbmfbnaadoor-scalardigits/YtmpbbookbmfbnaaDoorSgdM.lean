import Derived.Test.YtmpbbookbmfbnaaDoorKnoW
namespace Go.Proofs.YtmpbbookbmfbnaaDoor
open Go.RowKit

/-! Signed digits. -/
def I8 (l : List Int) : List Value := l.map (Value.int .i8)
@[simp] theorem I8_length (l : List Int) : (I8 l).length = l.length := by simp [I8]
theorem I8_at (l : List Int) (i : Nat) (h : i < l.length) : (I8 l)[i]? = some (.int .i8 (l.getD i 0)) := by
  unfold I8
  rw [List.getElem?_map, List.getD_eq_getElem?_getD, List.getElem?_eq_getElem h]; rfl
theorem I8_set (l : List Int) (i : Nat) (x : Int) : (I8 l).set i (.int .i8 x) = I8 (l.set i x) := by simp [I8, List.map_set]
theorem I8_one (l : List Int) : ∀ v ∈ I8 l, v.oneCell' = true := by
  intro v hv; simp only [I8, List.mem_map] at hv; obtain ⟨a, _, rfl⟩ := hv; rfl
theorem Arr.celli8 {w : World} {g : Nat} {ty : TypeId} {l : List Int} (h : Arr w g ty (I8 l)) (i : Nat) (hi : i < l.length) : w.cell? ⟨g, i, none⟩ = some (.int .i8 (l.getD i 0)) := by
  rw [h.cell, I8_at l i hi]
theorem Arr.seti8 {w : World} {g : Nat} {ty : TypeId} {l : List Int} (h : Arr w g ty (I8 l)) (i : Nat) (x : Int) : Arr (w.setCell ⟨g, i, none⟩ (.int .i8 x)) g ty (I8 (l.set i x)) := by
  have := h.set i (.int .i8 x); rwa [I8_set] at this
theorem szD {l : List Int} (h : l.length = 64) : (Tryd.prog.info? 25).map (·.size) = some (I8 l).toArray.size := by
  have : (Tryd.prog.info? 25).map (·.size) = some 64 := by kernel_rfl
  rw [this]; simp [h]
theorem sz_eqi8 {l m : List Int} (h : l.length = m.length) : (I8 l).toArray.size = (I8 m).toArray.size := by simp [h]
def e8L : List Int := List.replicate 64 8
/-- the digits of a number with 8 in every place added to it, less 8 -/
def digs (a : Int) : List Int := (dg 16 64 (a + num 16 e8L)).map (· - 8)
theorem digs_len (a : Int) : (digs a).length = 64 := by simp [digs, dg_len]
def Sg (l : List Int) : Prop := ∀ x ∈ l, -8 ≤ x ∧ x ≤ 7
theorem digs_sg (a : Int) : Sg (digs a) := by
  intro x hx
  unfold digs at hx
  obtain ⟨y, hy, rfl⟩ := List.mem_map.1 hx
  have := Dg_dg 16 (by decide) 64 _ y hy
  omega
theorem num_plus (P : List Int) : num 16 (P.map (· + 8)) = num 16 P + num 16 (List.replicate P.length 8) := by
  induction P with
  | nil => rfl
  | cons x t ih => rw [List.map_cons, num, ih, List.length_cons, List.replicate_succ, num, num]; grind
theorem digs_of (a : Int) (P : List Int) (hl : P.length = 64) (hs : Sg P) (hn : num 16 P = a) : P = digs a := by
  have hd : Dg 16 (P.map (· + 8)) := by
    intro x hx
    obtain ⟨y, hy, rfl⟩ := List.mem_map.1 hx
    have := hs y hy
    omega
  have h1 := dg_num 16 (by decide) _ hd
  rw [num_plus, hn, List.length_map, hl] at h1
  unfold digs
  show P = (dg 16 64 (a + num 16 (List.replicate 64 8))).map _
  rw [h1, List.map_map]
  have : ((fun x : Int => x - 8) ∘ fun x => x + 8) = id := by funext x; simp
  rw [this, List.map_id]
theorem num_digs (a : Int) (h0 : 0 ≤ a) (h1 : a < LL) : num 16 (digs a) = a := by
  have hl := digs_len a
  have hm : (digs a).map (· + 8) = dg 16 64 (a + num 16 e8L) := by
    unfold digs
    rw [List.map_map]
    have : ((fun x : Int => x + 8) ∘ fun x => x - 8) = id := by funext x; simp
    rw [this, List.map_id]
  have h2 := num_plus (digs a)
  rw [hm, num_dg 16 (by decide), hl, Int.emod_eq_of_lt] at h2
  · unfold e8L at h2; omega
  · have : 0 ≤ num 16 e8L := by decide +kernel
    omega
  · have : LL + num 16 e8L ≤ 16 ^ 64 := by decide +kernel
    omega
structure Sd (a : Int) (k : Nat) (c : Int) (P : List Int) : Prop where
  len : P.length = k
  sg : Sg P
  c01 : 0 ≤ c ∧ c ≤ 1
  eq : num 16 P + 16 ^ k * c = a % 16 ^ k
theorem Sd.start (a : Int) : Sd a 0 0 [] := ⟨rfl, (by intro x hx; simp at hx), ⟨by decide, by decide⟩, by simp [num]⟩
theorem Sd.step {a : Int} {k : Nat} {c : Int} {P : List Int} (h : Sd a k c P) (d e : Int) (hd : d = a / 16 ^ k % 16 + c) (he : e = (d + 8) / 16) : Sd a (k + 1) e (P ++ [d - 16 * e]) := by
  have hb : 0 ≤ a / 16 ^ k % 16 ∧ a / 16 ^ k % 16 < 16 := ⟨Int.emod_nonneg _ (by decide), Int.emod_lt_of_pos _ (by decide)⟩
  have hc := h.c01
  refine ⟨by simp [h.len], ?_, by omega, ?_⟩
  · intro x hx
    rcases List.mem_append.1 hx with h1 | h1
    · exact h.sg x h1
    · rw [List.mem_singleton] at h1; subst h1; omega
  · rw [num_app, num_one, h.len, low_dig 16 (by decide) a k, ← h.eq, Int.pow_succ]
    generalize a / 16 ^ k % 16 = y at *
    subst hd
    grind
theorem sg_bd : ∀ {P : List Int}, Sg P → -8 * (16 ^ P.length - 1) ≤ 15 * num 16 P
  | [], _ => by simp [num]
  | x :: t, h => by
    have h0 := h x (by simp)
    have ih := sg_bd (P := t) (fun y hy => h y (by simp [hy]))
    rw [num, List.length_cons, Int.pow_succ]
    omega
theorem Sd.done {a c : Int} {P : List Int} (h : Sd a 64 c P) (h0 : 0 ≤ a) (h1 : a < LL) : P = digs a := by
  have he := h.eq
  have hb := sg_bd h.sg
  rw [h.len] at hb
  have hc := h.c01
  rw [Int.emod_eq_of_lt h0 (Int.lt_trans h1 (by decide))] at he
  have e64 : (16 : Int) ^ 64 = 115792089237316195423570985008687907853269984665640564039457584007913129639936 := by decide
  rw [e64] at hb he
  have hc0 : c = 0 := by unfold LL at h1; omega
  subst hc0
  exact digs_of a P h.len h.sg (by omega)
theorem nib_at (n : Int) (k : Nat) (hk : k < 64) : (dg 256 32 n).getD (k / 2) 0 / 2 ^ (k % 2 * 4) % 16 = n / 16 ^ k % 16 := by
  rw [dg_at 256 (by decide) 32 (k / 2) n (by omega)]
  obtain ⟨j, hj⟩ : ∃ j, j = k / 2 := ⟨_, rfl⟩
  have e1 : (256 : Int) ^ j = 16 ^ (2 * j) := by rw [Int.pow_mul]; rfl
  rcases Nat.mod_two_eq_zero_or_one k with h | h
  · rw [h, ← hj, e1, show k = 2 * j by omega]
    generalize n / 16 ^ (2 * j) = q
    show q % 256 / 1 % 16 = q % 16
    omega
  · have e2 : n / 16 ^ (2 * j + 1) = n / 16 ^ (2 * j) / 16 := by rw [Int.pow_succ, ← ediv2 _ _ _ (Int.pow_pos (by decide))]
    rw [h, ← hj, e1, show k = 2 * j + 1 by omega, e2]
    generalize n / 16 ^ (2 * j) = q
    show q % 256 / 16 % 16 = q / 16 % 16
    omega
theorem set_snoc (P : List Int) (k n : Nat) (x : Int) (hl : P.length = k) (hk : k < n) : (P ++ List.replicate (n - k) 0).set k x = (P ++ [x]) ++ List.replicate (n - (k + 1)) 0 := by
  rw [show n - k = (n - (k + 1)) + 1 by omega, List.replicate_succ, List.set_append_right _ _ (by omega), hl, Nat.sub_self, List.set_cons_zero, List.append_assoc]
  rfl
theorem and15 (x : Int) (h : 0 ≤ x ∧ x < 256) : bits .and .u8 x 15 = x % 16 := by
  obtain ⟨X, rfl⟩ := Int.eq_ofNat_of_zero_le h.1
  have hX : X < 2 ^ 8 := by have := h.2; omega
  have e : bits .and .u8 (X : Int) 15 = IntKind.u8.wrap ((BitVec.ofInt 8 (X : Int) &&& BitVec.ofInt 8 15).toNat : Int) := rfl
  have e2 : (BitVec.ofInt 8 (X : Int) &&& BitVec.ofInt 8 15).toNat = X % 16 := by
    rw [BitVec.toNat_and, BitVec.ofInt_natCast, BitVec.toNat_ofNat, Nat.mod_eq_of_lt hX, show (BitVec.ofInt 8 15).toNat = 2 ^ 4 - 1 from rfl, Nat.and_two_pow_sub_one_eq_mod]
  rw [e, e2, IntKind.wrap_u8]
  omega
end Go.Proofs.YtmpbbookbmfbnaaDoor
