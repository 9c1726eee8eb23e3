import Derived.Test.YtiloacnjgaoceabRdsM
import Derived.Test.YtiloacnjgaoceabSteM
namespace Go.Proofs.Ytiloacnjgaoceab
open Go.RowKit

/-! One form: what a step read, the step writes again. -/

def wS (kind x : Int) (b q : List Int) (most : Int) (st : List Int × Int) : List Int × Int :=
  if kind = 1 then wLay [x % 256] st else if kind = 2 then wLay (beB 4 (x % 4294967296)) st else if kind = 3 then wLay (beB 8 x) st
  else if kind = 4 then wLay (sho x.toNat) st else if kind = 5 then wLay [if x % 2 = 1 then 1 else 0] st else if kind = 6 then wLay b st
  else if kind = 7 then wBytes b most st else if kind = 8 then wList q most st else st
theorem wStep_eq (s : Stp) (st : List Int × Int) : wStep s st = wS s.kind s.x s.b.l s.q.l s.most st := rfl

theorem leB_leV (m : List Int) (h : IsB m) : leB m.length (leV m) = m := by
  induction m with
  | nil => rfl
  | cons c r ih =>
    have hc := h c (by simp)
    have hr : IsB r := fun x hx => h x (by simp [hx])
    have ih := ih hr
    have e : leB (r.length + 1) (leV (c :: r)) = (leV (c :: r) % 256) :: leB r.length (leV (c :: r) / 256) := by
      unfold leB
      rw [List.range_succ_eq_map, List.map_cons, List.map_map]
      congr 1
      · simp
      · apply List.map_congr_left
        intro i _
        simp only [Function.comp, Nat.succ_eq_add_one]
        rw [show 8 * (i + 1) = 8 + 8 * i from by omega, Int.pow_add, ← Int.ediv_ediv_of_nonneg (by decide)]
        rfl
    rw [List.length_cons, e]
    have h1 : leV (c :: r) % 256 = c := by show (c + 256 * leV r) % 256 = c; omega
    have h2 : leV (c :: r) / 256 = leV r := by show (c + 256 * leV r) / 256 = leV r; omega
    rw [h1, h2, ih]
theorem beB_leV (m : List Int) (h : IsB m) (n : Nat) (hn : m.length = n) : beB n (leV m.reverse) = m := by
  have := leB_leV m.reverse h.reverse
  rw [List.length_reverse, hn] at this
  unfold beB; rw [this, List.reverse_reverse]

theorem face_ok {α : Type} {z : α} {P : List Int → Parse α} {l l' : List Int} (hz : ∀ c, P l = .error c → c ≠ 0) (h : (face z P (l, 0)).2 = (l', 0)) : P l = .ok ((face z P (l, 0)).1, l') := by
  unfold face at h ⊢
  rw [if_neg (by simp)] at h ⊢
  simp only at h ⊢
  split at h
  · rename_i y r hP; rw [hP]; simp only [Prod.mk.injEq] at h; obtain ⟨rfl, -⟩ := h; rfl
  · rename_i c hP; simp only [Prod.mk.injEq] at h; exact absurd h.2 (hz c hP)
theorem face_stick {α : Type} {z : α} {P : List Int → Parse α} {l : List Int} {f : Int} (hf : f ≠ 0) : face z P (l, f) = (z, l, f) := by
  unfold face; rw [if_pos hf]
theorem pByte_err {l : List Int} {c : Int} (h : pByte l = .error c) : c ≠ 0 := by
  cases l with
  | nil => simp [pByte] at h; omega
  | cons => simp [pByte] at h
theorem pU32_err {l : List Int} {c : Int} (h : pU32 l = .error c) : c ≠ 0 := by
  unfold pU32 at h; split at h
  · simp at h; omega
  · simp at h
theorem pU64_err {l : List Int} {c : Int} (h : pU64 l = .error c) : c ≠ 0 := by
  unfold pU64 at h; split at h
  · simp at h; omega
  · simp at h
theorem pUint_err' {l : List Int} {c : Int} (h : pUint l = .error c) : c ≠ 0 := by
  unfold pUint at h
  cases hD : shoD l with
  | none => rw [hD] at h; simp [ofD] at h; omega
  | some q => obtain ⟨y, r⟩ := q; rw [hD] at h; simp [ofD] at h
theorem pBool_err {l : List Int} {c : Int} (h : pBool l = .error c) : c ≠ 0 := by
  cases l with
  | nil => simp [pBool] at h; omega
  | cons a r => simp only [pBool] at h; split at h <;> simp at h; omega
theorem pFixed_err {n : Int} {l : List Int} {c : Int} (h : pFixed n l = .error c) : c ≠ 0 := by
  unfold pFixed at h; split at h
  · simp at h; omega
  · simp at h
theorem pCount_err {most : Int} {l : List Int} {c : Int} (h : pCount most l = .error c) : c ≠ 0 := by
  unfold pCount at h
  cases hD : shoD l with
  | none => rw [hD] at h; simp at h; omega
  | some q =>
    obtain ⟨y, r⟩ := q
    rw [hD] at h
    simp only at h
    split at h
    · simp at h; omega
    split at h
    · simp at h; omega
    · simp at h
theorem pBytes_err {most : Int} {l : List Int} {c : Int} (h : pBytes most l = .error c) : c ≠ 0 := by
  unfold pBytes at h
  split at h
  · rename_i e he; simp at h; subst h; exact pCount_err he
  · simp at h

theorem pUint_form {l : List Int} (hB : IsB l) {x : Int} {r : List Int} (h : pUint l = .ok (x, r)) : l = sho x.toNat ++ r ∧ 0 ≤ x ∧ x < 18446744073709551616 := by
  unfold pUint at h
  cases hD : shoD l with
  | none => rw [hD] at h; simp [ofD] at h
  | some q =>
    obtain ⟨y, r'⟩ := q
    rw [hD] at h
    simp only [ofD, Except.ok.injEq, Prod.mk.injEq] at h
    obtain ⟨rfl, rfl⟩ := h
    have := shoD_form hB hD
    exact ⟨by simpa using this.1, by omega, by omega⟩
theorem pCount_form {most : Int} {l : List Int} (hB : IsB l) {n : Nat} {r : List Int} (h : pCount most l = .ok (n, r)) : l = sho n ++ r ∧ (n : Int) ≤ most ∧ n ≤ r.length := by
  have hb := pCount_bd hB h
  unfold pCount at h
  cases hD : shoD l with
  | none => rw [hD] at h; simp at h
  | some z =>
    obtain ⟨y, r'⟩ := z
    rw [hD] at h
    simp only at h
    split at h
    · simp at h
    split at h
    · simp at h
    simp only [Except.ok.injEq, Prod.mk.injEq] at h
    obtain ⟨rfl, rfl⟩ := h
    exact ⟨(shoD_form hB hD).1, hb.2.2, hb.1⟩
/-- the numbers' short forms -/
def shos (L : List Int) : List Int := L.flatMap fun x => sho x.toNat
theorem wNums_shos (L : List Int) (acc : List Int) : wNums L (acc, 0) = (acc ++ shos L, 0) := by
  induction L generalizing acc with
  | nil => simp [wNums, shos]
  | cons x r ih =>
    have h4 : wNums (x :: r) (acc, 0) = wNums r (wLay (sho x.toNat) (acc, 0)) := rfl
    have h5 : wLay (sho x.toNat) (acc, 0) = (acc ++ sho x.toNat, 0) := rfl
    rw [h4, h5, ih]; simp [shos]
theorem gNums_form : ∀ (n : Nat) (l : List Int), IsB l → ∀ L r, gNums n l = .ok (L, r) → l = shos L ++ r ∧ L.length = n ∧ IsQ L
  | 0, l, _, L, r, h => by simp only [gNums, Except.ok.injEq, Prod.mk.injEq] at h; obtain ⟨rfl, rfl⟩ := h; exact ⟨rfl, rfl, fun x hx => by simp at hx⟩
  | n + 1, l, hB, L, r, h => by
    rw [gNums] at h
    split at h
    · simp at h
    rename_i x r1 hP
    split at h
    · simp at h
    rename_i xs r2 hg
    simp only [Except.ok.injEq, Prod.mk.injEq] at h
    obtain ⟨rfl, rfl⟩ := h
    obtain ⟨hl, h0, h1⟩ := pUint_form hB hP
    have hB1 : IsB r1 := fun c hc => hB c (by rw [hl]; simp [hc])
    obtain ⟨hr, hn, hQ⟩ := gNums_form n r1 hB1 xs r2 hg
    refine ⟨?_, by simp [hn], fun y hy => ?_⟩
    · rw [hl, hr]; simp [shos]
    · rcases List.mem_cons.1 hy with rfl | hy
      · exact ⟨h0, h1⟩
      · exact hQ y hy
theorem gNums_err2 : ∀ (n : Nat) (l : List Int) (c : Int) (r : List Int), gNums n l = .error (c, r) → c ≠ 0
  | 0, _, _, _, h => by simp [gNums] at h
  | n + 1, l, c, r, h => by
    rw [gNums] at h
    split at h
    · rename_i e he; simp only [Except.error.injEq, Prod.mk.injEq] at h; obtain ⟨rfl, -⟩ := h; exact pUint_err' he
    split at h
    · rename_i e he; simp only [Except.error.injEq] at h; subst h; exact gNums_err2 n _ c r he
    · simp at h
theorem gList_form {most : Int} {l l' L : List Int} (hB : IsB l) (h : gList most (l, 0) = (L, l', 0)) : l = sho L.length ++ shos L ++ l' ∧ (L.length : Int) ≤ most ∧ IsQ L := by
  unfold gList at h
  rw [if_neg (by simp)] at h
  simp only at h
  split at h
  · rename_i c hc; simp only [Prod.mk.injEq] at h; exact absurd h.2.2 (pCount_err hc)
  rename_i n r hc
  split at h
  · rename_i c r1 hg; simp only [Prod.mk.injEq] at h; exact absurd h.2.2 (gNums_err2 _ _ _ _ hg)
  rename_i xs r1 hg
  simp only [Prod.mk.injEq] at h
  obtain ⟨rfl, rfl, -⟩ := h
  obtain ⟨hl, hm, -⟩ := pCount_form hB hc
  have hB1 : IsB r := fun c hc => hB c (by rw [hl]; simp [hc])
  obtain ⟨hr, hn, hQ⟩ := gNums_form n r hB1 _ _ hg
  exact ⟨by rw [hl, hr, hn]; simp, by omega, hQ⟩

theorem one_step {kind n most : Int} {l l' : List Int} {g : Gt} (hk : 1 ≤ kind ∧ kind ≤ 8) (hB : IsB l) (h : rStep kind n most (l, 0) = (g, l', 0)) :
    ∃ c, l = c ++ l' ∧ ∀ acc, wS kind g.x g.b g.l most (acc, 0) = (acc ++ c, 0) := by
  unfold rStep at h
  unfold wS
  by_cases h1 : kind = 1
  · simp only [h1, if_true, Prod.mk.injEq] at h
    obtain ⟨rfl, hq⟩ := h
    have hp := face_ok (fun c hc => pByte_err hc) hq
    have hb := pByte_bd hB hp
    simp only [h1, if_true]
    cases l with
    | nil => simp [pByte] at hp
    | cons c r =>
      simp only [pByte, Except.ok.injEq, Prod.mk.injEq] at hp
      refine ⟨[c], by rw [← hp.2]; rfl, fun acc => ?_⟩
      rw [← hp.1] at hb ⊢
      have : c % 256 = c := by omega
      rw [this]; rfl
  rw [if_neg h1] at h
  by_cases h2 : kind = 2
  · simp only [h2, if_true, Prod.mk.injEq] at h
    obtain ⟨rfl, hq⟩ := h
    have hp := face_ok (fun c hc => pU32_err hc) hq
    have hb := pU32_bd hB hp
    simp only [h2, if_true, show ¬ (2 : Int) = 1 from by omega, if_false]
    generalize (face 0 pU32 (l, 0)).1 = x at *
    unfold pU32 at hp
    split at hp
    · simp at hp
    simp only [Except.ok.injEq, Prod.mk.injEq] at hp
    obtain ⟨rfl, rfl⟩ := hp
    refine ⟨l.take 4, by rw [List.take_append_drop], fun acc => ?_⟩
    have e1 : leV (l.take 4).reverse % 4294967296 = leV (l.take 4).reverse := by omega
    rw [e1, beB_leV _ (hB.take 4) 4 (by simp; omega)]; rfl
  rw [if_neg h2] at h
  by_cases h3 : kind = 3
  · simp only [h3, if_true, Prod.mk.injEq] at h
    obtain ⟨rfl, hq⟩ := h
    have hp := face_ok (fun c hc => pU64_err hc) hq
    simp only [h3, if_true, show ¬ (3 : Int) = 1 from by omega, show ¬ (3 : Int) = 2 from by omega, if_false]
    generalize (face 0 pU64 (l, 0)).1 = x at *
    unfold pU64 at hp
    split at hp
    · simp at hp
    simp only [Except.ok.injEq, Prod.mk.injEq] at hp
    obtain ⟨rfl, rfl⟩ := hp
    refine ⟨l.take 8, by rw [List.take_append_drop], fun acc => ?_⟩
    rw [beB_leV _ (hB.take 8) 8 (by simp; omega)]; rfl
  rw [if_neg h3] at h
  by_cases h4 : kind = 4
  · simp only [h4, if_true, Prod.mk.injEq] at h
    obtain ⟨rfl, hq⟩ := h
    have hp := face_ok (fun c hc => pUint_err' hc) hq
    simp only [h4, if_true, show ¬ (4 : Int) = 1 from by omega, show ¬ (4 : Int) = 2 from by omega, show ¬ (4 : Int) = 3 from by omega, if_false]
    exact ⟨_, (pUint_form hB hp).1, fun acc => rfl⟩
  rw [if_neg h4] at h
  by_cases h5 : kind = 5
  · simp only [h5, if_true, Prod.mk.injEq] at h
    obtain ⟨rfl, hq⟩ := h
    have hp := face_ok (fun c hc => pBool_err hc) hq
    simp only [h5, if_true, show ¬ (5 : Int) = 1 from by omega, show ¬ (5 : Int) = 2 from by omega, show ¬ (5 : Int) = 3 from by omega, show ¬ (5 : Int) = 4 from by omega, if_false]
    generalize (face false pBool (l, 0)).1 = x at *
    cases l with
    | nil => simp [pBool] at hp
    | cons c r =>
      have hc := hB c (by simp)
      simp only [pBool] at hp
      split at hp
      · simp at hp
      simp only [Except.ok.injEq, Prod.mk.injEq] at hp
      obtain ⟨rfl, rfl⟩ := hp
      refine ⟨[c], rfl, fun acc => ?_⟩
      by_cases hc1 : c = 1
      · subst hc1; simp [bit, wLay]
      · have : c = 0 := by omega
        subst this; simp [bit, wLay]
  rw [if_neg h5] at h
  by_cases h6 : kind = 6
  · simp only [h6, if_true, Prod.mk.injEq] at h
    obtain ⟨rfl, hq⟩ := h
    have hp := face_ok (fun c hc => pFixed_err hc) hq
    simp only [h6, if_true, show ¬ (6 : Int) = 1 from by omega, show ¬ (6 : Int) = 2 from by omega, show ¬ (6 : Int) = 3 from by omega, show ¬ (6 : Int) = 4 from by omega, show ¬ (6 : Int) = 5 from by omega, if_false]
    generalize (face [] (pFixed n) (l, 0)).1 = x at *
    unfold pFixed at hp
    split at hp
    · simp at hp
    simp only [Except.ok.injEq, Prod.mk.injEq] at hp
    obtain ⟨rfl, rfl⟩ := hp
    exact ⟨l.take n.toNat, by rw [List.take_append_drop], fun acc => rfl⟩
  rw [if_neg h6] at h
  by_cases h7 : kind = 7
  · simp only [h7, if_true, Prod.mk.injEq] at h
    obtain ⟨rfl, hq⟩ := h
    have hp := face_ok (fun c hc => pBytes_err hc) hq
    simp only [h7, if_true, show ¬ (7 : Int) = 1 from by omega, show ¬ (7 : Int) = 2 from by omega, show ¬ (7 : Int) = 3 from by omega, show ¬ (7 : Int) = 4 from by omega, show ¬ (7 : Int) = 5 from by omega, show ¬ (7 : Int) = 6 from by omega, if_false]
    generalize (face [] (pBytes most) (l, 0)).1 = x at *
    unfold pBytes at hp
    split at hp
    · simp at hp
    rename_i m r hc
    simp only [Except.ok.injEq, Prod.mk.injEq] at hp
    obtain ⟨rfl, rfl⟩ := hp
    obtain ⟨hl, hm, hr⟩ := pCount_form hB hc
    have hlen : (r.take m).length = m := by simp; omega
    refine ⟨sho m ++ r.take m, by rw [List.append_assoc, List.take_append_drop]; exact hl, fun acc => ?_⟩
    unfold wBytes wCount
    rw [hlen, if_neg (by omega)]
    simp [wLay]
  rw [if_neg h7] at h
  have h8 : kind = 8 := by omega
  simp only [h8, if_true, Prod.mk.injEq] at h
  obtain ⟨rfl, hq⟩ := h
  obtain ⟨hl, hm, -⟩ := gList_form (L := (gList most (l, 0)).1) (l' := l') hB (Prod.ext rfl hq)
  simp only [h8, if_true, show ¬ (8 : Int) = 1 from by omega, show ¬ (8 : Int) = 2 from by omega, show ¬ (8 : Int) = 3 from by omega, show ¬ (8 : Int) = 4 from by omega, show ¬ (8 : Int) = 5 from by omega, show ¬ (8 : Int) = 6 from by omega, show ¬ (8 : Int) = 7 from by omega, if_false]
  generalize (gList most (l, 0)).1 = L at *
  refine ⟨sho L.length ++ shos L, hl, fun acc => ?_⟩
  have h4 : wList L most (acc, 0) = wNums L (wCount L.length most (acc, 0)) := rfl
  rw [h4]
  unfold wCount
  rw [if_neg (by omega)]
  have h5 : wLay (sho L.length) (acc, 0) = (acc ++ sho L.length, 0) := rfl
  rw [h5, wNums_shos]; simp

theorem rStep_stick {kind n most f : Int} {l : List Int} (hf : f ≠ 0) : (rStep kind n most (l, f)).2 = (l, f) := by
  unfold rStep
  simp only [face_stick hf]
  have hg : gList most (l, f) = ([], l, f) := by unfold gList; rw [if_pos hf]
  simp only [hg]
  repeat' split
  all_goals rfl
end Go.Proofs.Ytiloacnjgaoceab
