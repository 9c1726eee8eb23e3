import Derived.Test.YtjdgibnpngkhkaaDoorLgM
set_option linter.unusedSimpArgs false
set_option linter.unusedVariables false
namespace Go.Proofs.YtjdgibnpngkhkaaDoor

/-! LedgerCarnets: what stands between two calls. -/
def zSal : Sal := ⟨0, 0, 0, 0, 0⟩
def ssF (sx : List Sal) (m : Int) (j : Nat) : Sal := prpZ (sx[j]?.getD zSal) j m
theorem ssF_prp (sx : List Sal) (m : Int) (j : Nat) (h : (j : Int) ≤ m) : Prp (ssF sx m j) j m := prp_of _ h
theorem ssF_at {sx : List Sal} {m : Int} {j : Nat} {y : Sal} (h : sx[j]? = some y) : prpZ y j m = ssF sx m j := by
  unfold ssF; rw [h]; rfl
def CI (ss : Nat → Sal) (i : Nat) (o g : Int) : Prop := o = preZ ss i ∧ 0 ≤ o ∧ 0 ≤ g ∧ o + g ≤ (i : Int) * 4096000000000
def CJ (ss : Nat → Sal) (i k : Nat) (o g : Int) : Prop := o = opnZ ss i k ∧ 0 ≤ o ∧ 0 ≤ g ∧ o + g ≤ ((i : Int) + 1) * 4096000000000
theorem ci_zero (ss : Nat → Sal) : CI ss 0 0 0 := ⟨rfl, by omega, by omega, by omega⟩
theorem ci_big {ss : Nat → Sal} {i : Nat} {o g : Int} (h : CI ss i o g) (hi : i ≤ 200) : o + g ≤ bigZ := by
  obtain ⟨-, -, -, h⟩ := h; unfold bigZ; omega
theorem cj_big {ss : Nat → Sal} {i k : Nat} {o g : Int} (h : CJ ss i k o g) (hi : i < 200) : o + g ≤ bigZ := by
  obtain ⟨-, -, -, h⟩ := h; unfold bigZ; omega
theorem ci_sell {ss : Nat → Sal} {m : Int} {i : Nat} {o g : Int} (hP : Prp (ss i) i m) (hi : i < 200) (h : CI ss i o g) :
    ∃ C O : Int, (ss i).r * (ss i).p = C ∧ Iz C ∧ IntKind.i64.wrap (o + C) = O ∧ sellZ (bookZ o g) (ss i).r (ss i).p = (bookZ O g, 0) ∧ CJ ss i 0 O g ∧ (bookZ o g).Ok := by
  have hb := ci_big h (by omega)
  obtain ⟨h0, h1, h2, h3⟩ := h
  obtain ⟨m1, m2⟩ := mul_iz (by have := hP.r1; omega : 0 ≤ (ss i).r) hP.r2 hP.p1 hP.p2
  refine ⟨_, o + (ss i).r * (ss i).p, rfl, ?_, ?_, sell_go h1 h2 hb hP.r1 hP.r2 hP.p1 hP.p2, ⟨?_, ?_, h2, ?_⟩, bookZ_ok h1 h2 hb⟩
  · unfold Iz; omega
  · exact wi_of (by unfold bigZ at hb; unfold Iz; omega)
  · rw [pre_sell ss i hP.q1, h0]
  · omega
  · omega
theorem cj_skip {ss : Nat → Sal} {i k : Nat} {o g : Int} (h : CJ ss i k o g) (hn : ¬ ((ss k).q = (i : Int) ∧ 1 ≤ (ss k).e ∧ (ss k).e ≤ 2)) : CJ ss i (k + 1) o g := by
  obtain ⟨h0, h1⟩ := h
  exact ⟨by rw [opn_skip ss hn]; exact h0, h1⟩
theorem all_nn {ss : Nat → Sal} {m : Int} (hP : ∀ j : Nat, (j : Int) ≤ m → Prp (ss j) j m) {i : Nat} (hi : (i : Int) ≤ m) : ∀ j, j ≤ i → 0 ≤ (ss j).r * (ss j).p := fun j hj => by
  have h := hP j (by omega)
  exact (mul_iz (by have := h.r1; omega : 0 ≤ (ss j).r) h.r2 h.p1 h.p2).1
theorem cj_ref {ss : Nat → Sal} {m : Int} (hP : ∀ j : Nat, (j : Int) ≤ m → Prp (ss j) j m) {i k : Nat} {o g : Int} (hk : k ≤ i) (hm : (i : Int) ≤ m) (hi : i < 200) (h : CJ ss i k o g) (hq : (ss k).q = (i : Int)) (he : (ss k).e = 1) :
    ∃ C O R D G : Int, (ss k).r * (ss k).p = C ∧ Iz C ∧ IntKind.i64.wrap (o - C) = O ∧ IntKind.i64.wrap ((ss k).r - (ss k).b) = R ∧ R * (ss k).p = D ∧ Iz D ∧ IntKind.i64.wrap (g + D) = G ∧ refZ (bookZ o g) (ss k).r (ss k).b (ss k).p = (bookZ O G, 0) ∧ CJ ss i (k + 1) O G ∧ (bookZ o g).Ok := by
  have hb := cj_big h hi
  have hK := hP k (by omega)
  have hall := all_nn hP hm
  obtain ⟨h0, h1, h2, h3⟩ := h
  obtain ⟨e1, e2⟩ := opn_end ss hk hall hq (by omega) (by omega)
  rw [← h0] at e1 e2
  obtain ⟨m1, m2⟩ := mul_iz (by have := hK.r1; omega : 0 ≤ (ss k).r) hK.r2 hK.p1 hK.p2
  obtain ⟨n1, n2⟩ := mul_iz (by have := hK.b2; omega : 0 ≤ (ss k).r - (ss k).b) (by have := hK.b1; have := hK.r2; omega) hK.p1 hK.p2
  have hle : ((ss k).r - (ss k).b) * (ss k).p ≤ (ss k).r * (ss k).p := by
    rw [Int.sub_mul]; have := (mul_iz hK.b1 (by have := hK.b2; have := hK.r2; omega) hK.p1 hK.p2).1; omega
  have hr1 := hK.r1
  have hr2 := hK.r2
  have hb1 := hK.b1
  have hb2 := hK.b2
  unfold bigZ at hb
  refine ⟨_, o - (ss k).r * (ss k).p, (ss k).r - (ss k).b, _, g + ((ss k).r - (ss k).b) * (ss k).p, rfl, ?_, ?_, ?_, rfl, ?_, ?_, ref_go e2 h2 (by unfold bigZ; exact hb) hK.r1 hK.r2 hK.b1 hK.b2 hK.p1 hK.p2, ⟨?_, ?_, ?_, ?_⟩, bookZ_ok h1 h2 (by unfold bigZ; exact hb)⟩
  · unfold Iz; omega
  · exact wi_of (by unfold Iz; omega)
  · exact wi_of (by unfold Iz; omega)
  · unfold Iz; omega
  · exact wi_of (by unfold Iz; omega)
  · rw [e1]
  · omega
  · omega
  · omega
theorem cj_ret {ss : Nat → Sal} {m : Int} (hP : ∀ j : Nat, (j : Int) ≤ m → Prp (ss j) j m) {i k : Nat} {o g : Int} (hk : k ≤ i) (hm : (i : Int) ≤ m) (hi : i < 200) (h : CJ ss i k o g) (hq : (ss k).q = (i : Int)) (he : (ss k).e = 2) :
    ∃ C O G : Int, (ss k).r * (ss k).p = C ∧ Iz C ∧ IntKind.i64.wrap (o - C) = O ∧ IntKind.i64.wrap (g + C) = G ∧ retZ (bookZ o g) (ss k).r (ss k).p = (bookZ O G, 0) ∧ CJ ss i (k + 1) O G ∧ (bookZ o g).Ok := by
  have hb := cj_big h hi
  have hK := hP k (by omega)
  have hall := all_nn hP hm
  obtain ⟨h0, h1, h2, h3⟩ := h
  obtain ⟨e1, e2⟩ := opn_end ss hk hall hq (by omega) (by omega)
  rw [← h0] at e1 e2
  obtain ⟨m1, m2⟩ := mul_iz (by have := hK.r1; omega : 0 ≤ (ss k).r) hK.r2 hK.p1 hK.p2
  unfold bigZ at hb
  refine ⟨_, o - (ss k).r * (ss k).p, g + (ss k).r * (ss k).p, rfl, ?_, ?_, ?_, ret_go e2 h2 (by unfold bigZ; exact hb) hK.r1 hK.r2 hK.p1 hK.p2, ⟨?_, ?_, ?_, ?_⟩, bookZ_ok h1 h2 (by unfold bigZ; exact hb)⟩
  · unfold Iz; omega
  · exact wi_of (by unfold Iz; omega)
  · exact wi_of (by unfold Iz; omega)
  · rw [e1]
  · omega
  · omega
  · omega
theorem cj_next {ss : Nat → Sal} {i : Nat} {o g : Int} (h : CJ ss i (i + 1) o g) : CI ss (i + 1) o g := by
  obtain ⟨h0, h1, h2, h3⟩ := h
  exact ⟨by rw [h0, opn_next], h1, h2, by omega⟩
theorem cj_bal {ss : Nat → Sal} {i k : Nat} {o g : Int} (h : CJ ss i k o g) (hi : i < 200) :
    ∃ S : Int, IntKind.i64.wrap (o + g) = S ∧ bzZ (bookZ o g) 0 = (S, 0) ∧ bzZ (bookZ o g) 1 = (o, 0) ∧ bzZ (bookZ o g) 2 = (g, 0) ∧ evnB (bookZ o g) = true ∧ (bookZ o g).Ok := by
  have hb := cj_big h hi
  obtain ⟨h0, h1, h2, h3⟩ := h
  have hev := bookZ_even h1 h2 hb
  have hok := bookZ_ok h1 h2 hb
  unfold bigZ at hb
  have f0 : fitB (o + g) = true := fit_go (by omega)
  have f1 : fitB (-o) = true := fit_go (by omega)
  have f2 : fitB (-g) = true := fit_go (by omega)
  refine ⟨o + g, wi_of (by unfold Iz; omega), ?_, ?_, ?_, hev, hok⟩
  · show (if accB 0 then (if fitB (o + g) then (balZ 0 (o + g), (0 : Int)) else (0, 3)) else (0, 2)) = _
    rw [f0]; rfl
  · show (if accB 1 then (if fitB (-o) then (balZ 1 (-o), (0 : Int)) else (0, 3)) else (0, 2)) = _
    rw [f1]
    show ((- -o : Int), (0 : Int)) = (o, 0)
    rw [Int.neg_neg]
  · show (if accB 2 then (if fitB (-g) then (balZ 2 (-g), (0 : Int)) else (0, 3)) else (0, 2)) = _
    rw [f2]
    show ((- -g : Int), (0 : Int)) = (g, 0)
    rw [Int.neg_neg]
theorem ci_even {ss : Nat → Sal} {i : Nat} {o g : Int} (h : CI ss i o g) (hi : i ≤ 200) : evnB (bookZ o g) = true ∧ (bookZ o g).Ok :=
  ⟨bookZ_even h.2.1 h.2.2.1 (ci_big h hi), bookZ_ok h.2.1 h.2.2.1 (ci_big h hi)⟩
end Go.Proofs.YtjdgibnpngkhkaaDoor
