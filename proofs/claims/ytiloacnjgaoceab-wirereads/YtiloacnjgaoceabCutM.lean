import Derived.Test.YtiloacnjgaoceabCodM
import Derived.Test.YtiloacnjgaoceabFitW
import Derived.Test.YtiloacnjgaoceabWnW
import Derived.Test.YtiloacnjgaoceabSizW
namespace Go.Proofs.Ytiloacnjgaoceab
open Go.RowKit

/-- the bytes of a step -/
def cod (q : Stp) : List Int := (wStep q ([], 0)).1
theorem cod_is {q : Stp} (h : Cod q) : 0 < (cod q).length ∧ IsB (cod q) ∧ (∀ acc, wStep q (acc, 0) = (acc ++ cod q, 0)) ∧ (∀ r, rStep q.kind q.n q.most (cod q ++ r, 0) = (gm q, r, 0)) ∧
    (∀ a b, cod q = a ++ b → b ≠ [] → (rStep q.kind q.n q.most (a, 0)).2.2 = 90) := by
  obtain ⟨c, h1, h2, h3, h4, h5⟩ := codec q h
  have e : cod q = c := by unfold cod; rw [h3]; rfl
  rw [e]; exact ⟨h1, h2, h3, h4, h5⟩
def cods (qs : List Stp) : List Int := qs.flatMap cod
theorem wAll_cods : ∀ (qs : List Stp) (acc : List Int), (∀ q ∈ qs, Cod q) → wAll qs (acc, 0) = (acc ++ cods qs, 0)
  | [], acc, _ => by simp [wAll, cods]
  | q :: r, acc, h => by
    have h1 : wAll (q :: r) (acc, 0) = wAll r (wStep q (acc, 0)) := rfl
    rw [h1, (cod_is (h q (by simp))).2.2.1, wAll_cods r _ (fun p hp => h p (by simp [hp]))]
    simp [cods]
theorem cods_drop (qs : List Stp) (k : Nat) (q : Stp) (h : qs[k]? = some q) : cods (qs.drop k) = cod q ++ cods (qs.drop (k + 1)) := by
  have hk : k < qs.length := by
    by_cases hl : k < qs.length
    · exact hl
    · rw [List.getElem?_eq_none (by omega)] at h; simp at h
  rw [List.getElem?_eq_getElem hk] at h; simp at h
  rw [List.drop_eq_getElem_cons hk, h]; rfl
/-- one step of a proper beginning -/
theorem cut_next {q : Stp} (h : Cod q) {l T R : List Int} (hT : T ≠ []) (hl : l ++ T = cod q ++ R) :
    ((rStep q.kind q.n q.most (l, 0)).2.2 = 0 ∧ ∃ T', T' ≠ [] ∧ (rStep q.kind q.n q.most (l, 0)).2.1 ++ T' = R) ∨ (rStep q.kind q.n q.most (l, 0)).2.2 = 90 := by
  obtain ⟨h1, h2, h3, h4, h5⟩ := cod_is h
  rcases prefix_split hl.symm hT with ⟨d, hd, hp⟩ | ⟨d, hp, hq⟩
  · exact .inr (h5 l d hp hd)
  · left
    rw [hp, h4 d]
    exact ⟨rfl, T, hT, hq.symm⟩

/-- the last step -/
def last300 : Stp := ⟨4, 300, ⟨none, 0, 0, []⟩, ⟨none, 0, 0, []⟩, 0, 0⟩
theorem last_cod : Cod last300 := ⟨by decide, by decide, by decide, fun x hx => by simp [last300] at hx, fun x hx => by simp [last300] at hx, rfl, by decide, by decide, by decide, by decide, fun h => by simp [last300] at h⟩
theorem cod_last : cod last300 = [172, 2] := by
  have e : sho 300 = [172, 2] := by rw [sho_ge (by omega), sho_lt (by omega)]; rfl
  show (wStep last300 ([], 0)).1 = _
  have : wStep last300 ([], 0) = ([] ++ sho 300, 0) := rfl
  rw [this, e]; rfl
theorem fitM_ge (most : Int) (bn qn : Nat) : (bn : Int) ≤ fitM most bn qn ∧ (qn : Int) ≤ fitM most bn qn := by
  unfold fitM; constructor <;> repeat' split <;> omega
theorem fitM_le (most : Int) (bn qn : Nat) : fitM most bn qn ≤ most ∨ fitM most bn qn = bn ∨ fitM most bn qn = qn := by
  unfold fitM; repeat' split <;> omega
theorem fit_ok {w : World} {q : Stp} (h : q.Ok w) : (fit q).Ok w := by
  have h1 := h.b.le
  have h2 := h.b.mx
  have h3 := h.q.le
  have h4 := h.q.mx
  have h5 := fitM_ge q.most q.b.n q.q.n
  have h6 := fitM_le q.most q.b.n q.q.n
  have h7 := h.m0
  have h8 := h.m1
  unfold maxLen at h2 h4
  exact ⟨h.k0, h.k1, h.x0, h.x1, h.b, h.q, by show _ ≤ (q.b.n : Int); omega, by show (q.b.n : Int) ≤ _; omega, by show _ ≤ fitM q.most q.b.n q.q.n; omega, by show fitM q.most q.b.n q.q.n ≤ _; omega⟩
theorem fit_cod {w : World} {q : Stp} (h : q.Ok w) (ht : tellB q = true) : Cod (fit q) := by
  simp only [tellB, Bool.and_eq_true, Bool.or_eq_true, decide_eq_true_eq] at ht
  have h1 := h.b.le
  have h2 := h.b.mx
  have h3 := h.q.le
  have h4 := h.q.mx
  have h5 := fitM_ge q.most q.b.n q.q.n
  unfold maxLen at h2 h4
  have hb := h.b.len
  have hq := h.q.len
  refine ⟨⟨ht.1.1, ht.1.2⟩, h.x0, h.x1, h.b.isB, h.q.isQ, ?_, ?_, ?_, ?_, ?_, fun h6 => ?_⟩
  · show (q.b.n : Int) = (q.b.l.length : Int); rw [hb]
  · show (q.b.l.length : Int) ≤ fitM q.most q.b.n q.q.n; rw [hb]; exact h5.1
  · show (q.q.l.length : Int) ≤ fitM q.most q.b.n q.q.n; rw [hq]; exact h5.2
  · show q.b.l.length < 18446744073709551616; omega
  · show q.q.l.length < 18446744073709551616; omega
  · have h6' : q.kind = 6 := h6
    show 0 < q.b.l.length
    rw [hb]; have := ht.2; omega
/-- what is written and read -/
def fitted (ss : List Stp) : List Stp := (tells ss).map fit ++ [last300]
theorem fitted_cod {w : World} {ss : List Stp} (h : ∀ q ∈ ss, q.Ok w) : ∀ q ∈ fitted ss, Cod q := by
  intro q hq
  rcases List.mem_append.1 hq with hq | hq
  · obtain ⟨p, hp, rfl⟩ := List.mem_map.1 hq
    simp only [tells, List.mem_filter] at hp
    exact fit_cod (h p hp.1) hp.2
  · simp only [List.mem_singleton] at hq; subst hq; exact last_cod
end Go.Proofs.Ytiloacnjgaoceab
