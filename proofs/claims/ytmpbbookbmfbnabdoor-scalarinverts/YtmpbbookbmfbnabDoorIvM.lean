import Derived.Test.YtmpbbookbmfbnabDoorRfY
namespace Go.Proofs.YtmpbbookbmfbnabDoor
open Go.RowKit

/-! The document's Invert: the numbers of the two pairs have no divisor in common. -/
structure Cop (u v : Int) : Prop where
  one : ∀ d : Int, 0 < d → d ∣ u → d ∣ v → d = 1
theorem Cop.left {u v u' : Int} (h : Cop u v) (hd : u' ∣ u - v) : Cop u' v :=
  ⟨fun d h0 h1 h2 => h.one d h0 (by have := Int.dvd_add (Int.dvd_trans h1 hd) h2; rwa [Int.sub_add_cancel] at this) h2⟩
theorem Cop.right {u v v' : Int} (h : Cop u v) (hd : v' ∣ v - u) : Cop u v' :=
  ⟨fun d h0 h1 h2 => h.one d h0 h1 (by have := Int.dvd_add (Int.dvd_trans h2 hd) h1; rwa [Int.sub_add_cancel] at this)⟩
theorem Cop.self {u : Int} (h0 : 0 < u) (h : Cop u u) : u = 1 := h.one u h0 (Int.dvd_refl _) (Int.dvd_refl _)
theorem Cop.start {u x : Int} (hx : 0 < x) (hl : x < LL) (hu : u ∣ x) : Cop u LL := by
  refine ⟨fun d h0 h1 h2 => ?_⟩
  obtain ⟨n, rfl⟩ := Int.eq_ofNat_of_zero_le (Int.le_of_lt h0)
  have h3 : n ∣ 7237005577332262213973186563042994240857116359379907606001950938285454250989 := Int.ofNat_dvd.mp (by rw [← ll_nat]; exact h2)
  have h4 := Int.le_of_dvd hx (Int.dvd_trans h1 hu)
  rw [ll_nat] at hl
  rcases prL6.dvd n h3 with e | e
  · rw [e]; rfl
  · omega
structure IvN (x up cp uq cq : Int) : Prop where
  gp : Gd x up cp
  gq : Gd x uq cq
  p0 : 0 < up
  q0 : 0 < uq
  p1 : up < 256 ^ 33
  q1 : uq < 256 ^ 33
  cop : Cop up uq
theorem IvN.apart {x up cp uq cq : Int} (h : IvN x up cp uq cq) (hp : up ≠ 1) : up ≠ uq := by
  intro e
  have := h.cop
  rw [← e] at this
  exact hp (this.self h.p0)
theorem IvN.right {x up cp uq cq u' c' : Int} (h : IvN x up cp uq cq) (hlt : up < uq) (h0 : 0 < u') (hle : u' ≤ uq - up) (hd : u' ∣ uq - up) (gd : Gd x u' c') : IvN x up cp u' c' :=
  ⟨h.gp, gd, h.p0, h0, h.p1, by have := h.q1; have := h.p0; omega, h.cop.right hd⟩
theorem IvN.left {x up cp uq cq u' c' : Int} (h : IvN x up cp uq cq) (h0 : 0 < u') (hle : u' ≤ up - uq) (hd : u' ∣ up - uq) (gd : Gd x u' c') : IvN x u' c' uq cq :=
  ⟨gd, h.gq, h0, h.q0, by have := h.p1; have := h.q0; omega, h.q1, h.cop.left hd⟩
theorem Gd.start (x : Int) : Gd x x 1 := ⟨by decide, by decide, by rw [Int.one_mul]⟩
theorem Gd.order (x : Int) : Gd x LL 0 := ⟨by decide, by decide, by rw [Int.zero_mul, Int.emod_self]; rfl⟩
/-- the number at one has the inverse beside it -/
theorem Gd.inv {x c A : Int} (h : Gd x 1 c) (hx : x % LL = A % LL) (hA : A % LL ≠ 0) : dg 256 32 (num 256 (dg 256 33 c)) = Sc (A ^ eInvL) := by
  rw [num_wide 33 c h.c0 (Int.lt_trans h.c1 (by decide))]
  have e1 : c % LL = A ^ eInvL % LL := by
    have h1 : (c * x) % LL = 1 % LL := h.cg.symm
    have h2 := inv_mul hA
    have h3 : c * (A * A ^ eInvL) % LL = c * 1 % LL := cg_mul rfl h2
    have h4 : c * (A * A ^ eInvL) = (c * A) * A ^ eInvL := (Int.mul_assoc _ _ _).symm
    have h5 : (c * A) * A ^ eInvL % LL = 1 * A ^ eInvL % LL := cg_mul ((cg_mul rfl hx.symm).trans h1) rfl
    rw [h4, h5, Int.mul_one, Int.one_mul] at h3
    exact h3.symm
  rw [← Sc_congr e1]
  unfold Sc
  rw [Int.emod_eq_of_lt h.c0 h.c1]
theorem ord33 : ordB ++ [0] = dg 256 33 LL := by decide
theorem one33 : num 256 [1] % LL = 1 := by decide
theorem zero33 : num 256 [0] % LL = 0 := by decide
end Go.Proofs.YtmpbbookbmfbnabDoor
