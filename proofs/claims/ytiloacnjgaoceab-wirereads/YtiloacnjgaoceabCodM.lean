import Derived.Test.YtiloacnjgaoceabOneM
namespace Go.Proofs.Ytiloacnjgaoceab
open Go.RowKit

/-! There and back: what a step wrote is read by it, and no proper beginning of that. -/

/-- what a step that was written must be read as -/
def gm (q : Stp) : Gt :=
  if q.kind = 1 then ⟨q.x % 256, [], [], 0⟩ else if q.kind = 2 then ⟨q.x % 4294967296, [], [], 0⟩ else if q.kind = 3 then ⟨q.x, [], [], 0⟩ else if q.kind = 4 then ⟨q.x, [], [], 0⟩
  else if q.kind = 5 then ⟨q.x % 2, [], [], 0⟩ else if q.kind = 6 then ⟨0, q.b.l, [], 0⟩ else if q.kind = 7 then ⟨0, q.b.l, [], 0⟩ else if q.kind = 8 then ⟨0, [], q.q.l, 0⟩ else gt0

theorem face_yes {α : Type} {z : α} {P : List Int → Parse α} {l r : List Int} {x : α} (h : P l = .ok (x, r)) : face z P (l, 0) = (x, r, 0) := by
  unfold face; rw [if_neg (by simp)]; simp only; rw [h]
theorem face_no {α : Type} {z : α} {P : List Int → Parse α} {l : List Int} {c : Int} (h : P l = .error c) : face z P (l, 0) = (z, l, c) := by
  unfold face; rw [if_neg (by simp)]; simp only; rw [h]

theorem beB_isB (n : Nat) (x : Int) : IsB (beB n x) := (leB_isB n x).reverse
theorem shos_isB (L : List Int) : IsB (shos L) := by
  intro c hc
  simp only [shos, List.mem_flatMap] at hc
  obtain ⟨x, _, hc⟩ := hc
  exact sho_isB _ c hc
theorem shos_len (L : List Int) : L.length ≤ (shos L).length := by
  induction L with
  | nil => simp
  | cons x r ih =>
    have h1 : shos (x :: r) = sho x.toNat ++ shos r := rfl
    have := sho_pos x.toNat
    rw [h1, List.length_append, List.length_cons]; omega
theorem pUint_sho {x : Int} (h0 : 0 ≤ x) (h1 : x < 18446744073709551616) (r : List Int) : pUint (sho x.toNat ++ r) = .ok (x, r) := by
  unfold pUint
  rw [shoD_sho x.toNat r (by omega)]
  simp only [ofD]
  rw [Int.toNat_of_nonneg h0]
theorem pUint_cut {x : Int} (h1 : x < 18446744073709551616) {a b : List Int} (h : sho x.toNat = a ++ b) (hb : b ≠ []) : pUint a = .error 90 := by
  unfold pUint
  rw [shoD_cut (by omega) h hb]; rfl
theorem gNums_shos : ∀ (L : List Int) (r : List Int), IsQ L → gNums L.length (shos L ++ r) = .ok (L, r)
  | [], r, _ => rfl
  | x :: L, r, h => by
    have hx := h x (by simp)
    have h1 : shos (x :: L) ++ r = sho x.toNat ++ (shos L ++ r) := by simp [shos]
    rw [List.length_cons, gNums, h1, pUint_sho hx.1 hx.2]
    simp only
    rw [gNums_shos L r (fun y hy => h y (by simp [hy]))]
theorem prefix_split {p q a b : List Int} (h : p ++ q = a ++ b) (_hb : b ≠ []) : (∃ d, d ≠ [] ∧ p = a ++ d) ∨ (∃ d, a = p ++ d ∧ q = d ++ b) := by
  rcases List.append_eq_append_iff.1 h with ⟨d, h1, h2⟩ | ⟨d, h1, h2⟩
  · exact .inr ⟨d, h1, h2⟩
  · by_cases hd : d = []
    · subst hd
      exact .inr ⟨[], by simpa using h1.symm, by simpa using h2.symm⟩
    · exact .inl ⟨d, hd, h1⟩
theorem gNums_cut : ∀ (L : List Int) (a b : List Int), IsQ L → shos L = a ++ b → b ≠ [] → ∃ r, gNums L.length a = .error (90, r)
  | [], a, b, _, h, hb => by simp [shos] at h; exact absurd h.2 hb
  | x :: L, a, b, hQ, h, hb => by
    have hx := hQ x (by simp)
    have h1 : shos (x :: L) = sho x.toNat ++ shos L := rfl
    rw [h1] at h
    rw [List.length_cons, gNums]
    rcases prefix_split h hb with ⟨d, hd, hp⟩ | ⟨d, hp, hq⟩
    · rw [pUint_cut hx.2 hp hd]
      exact ⟨_, rfl⟩
    · rw [hp, pUint_sho hx.1 hx.2]
      simp only
      obtain ⟨r, hr⟩ := gNums_cut L d b (fun y hy => hQ y (by simp [hy])) hq hb
      rw [hr]
      exact ⟨r, rfl⟩
theorem pCount_sho {n : Nat} {most : Int} (h1 : n < 18446744073709551616) (hm : (n : Int) ≤ most) (r : List Int) : pCount most (sho n ++ r) = if r.length < n then .error 90 else .ok (n, r) := by
  unfold pCount
  rw [shoD_sho n r h1]
  simp only
  rw [if_neg (by omega)]
theorem pCount_cut {n : Nat} (most : Int) (h1 : n < 18446744073709551616) {a b : List Int} (h : sho n = a ++ b) (hb : b ≠ []) : pCount most a = .error 90 := by
  unfold pCount
  rw [shoD_cut h1 h hb]
theorem pBytes_is {B r : List Int} {most : Int} (h1 : B.length < 18446744073709551616) (hm : (B.length : Int) ≤ most) : pBytes most (sho B.length ++ (B ++ r)) = .ok (B, r) := by
  unfold pBytes
  rw [pCount_sho h1 hm, if_neg (by simp)]
  simp
theorem pBytes_cut {B a b : List Int} {most : Int} (h1 : B.length < 18446744073709551616) (hm : (B.length : Int) ≤ most) (h : sho B.length ++ B = a ++ b) (hb : b ≠ []) : pBytes most a = .error 90 := by
  unfold pBytes
  rcases prefix_split h hb with ⟨d, hd, hp⟩ | ⟨d, hp, hq⟩
  · rw [pCount_cut most h1 hp hd]
  · have hlen : d.length < B.length := by
      have := congrArg List.length hq
      rw [List.length_append] at this
      have := List.length_pos_iff.2 hb
      omega
    rw [hp, pCount_sho h1 hm, if_pos hlen]
theorem gList_is {L r : List Int} {most : Int} (hQ : IsQ L) (h1 : L.length < 18446744073709551616) (hm : (L.length : Int) ≤ most) : gList most (sho L.length ++ (shos L ++ r), 0) = (L, r, 0) := by
  have := shos_len L
  unfold gList
  rw [if_neg (by simp)]
  simp only
  rw [pCount_sho h1 hm, if_neg (by rw [List.length_append]; omega)]
  simp only
  rw [gNums_shos L r hQ]
theorem gList_cut {L a b : List Int} {most : Int} (hQ : IsQ L) (h1 : L.length < 18446744073709551616) (hm : (L.length : Int) ≤ most) (h : sho L.length ++ shos L = a ++ b) (hb : b ≠ []) : (gList most (a, 0)).2.2 = 90 := by
  unfold gList
  rw [if_neg (by simp)]
  simp only
  rcases prefix_split h hb with ⟨d, hd, hp⟩ | ⟨d, hp, hq⟩
  · rw [pCount_cut most h1 hp hd]
  · rw [hp, pCount_sho h1 hm]
    split
    · rename_i e he
      split at he
      · simp at he; exact he.symm
      · simp at he
    · rename_i m r he
      split at he
      · simp at he
      · simp only [Except.ok.injEq, Prod.mk.injEq] at he
        obtain ⟨rfl, rfl⟩ := he
        obtain ⟨r, hr⟩ := gNums_cut L d b hQ hq hb
        rw [hr]
theorem nil_of_cut {x : Int} {a b : List Int} (h : [x] = a ++ b) (hb : b ≠ []) : a = [] := by
  cases a with
  | nil => rfl
  | cons y t =>
    simp only [List.cons_append, List.cons.injEq] at h
    have := h.2
    simp at this
    exact absurd this.2 hb
theorem len_of_cut {c a b : List Int} (h : c = a ++ b) (hb : b ≠ []) : a.length < c.length := by
  rw [h, List.length_append]
  have := List.length_pos_iff.2 hb
  omega

structure Cod (q : Stp) : Prop where
  k : 1 ≤ q.kind ∧ q.kind ≤ 8
  x0 : 0 ≤ q.x
  x1 : q.x < 18446744073709551616
  isB : IsB q.b.l
  isQ : IsQ q.q.l
  n : q.n = q.b.l.length
  mb : (q.b.l.length : Int) ≤ q.most
  mq : (q.q.l.length : Int) ≤ q.most
  lb : q.b.l.length < 18446744073709551616
  lq : q.q.l.length < 18446744073709551616
  six : q.kind = 6 → 0 < q.b.l.length

theorem codec (q : Stp) (h : Cod q) : ∃ c, 0 < c.length ∧ IsB c ∧ (∀ acc, wStep q (acc, 0) = (acc ++ c, 0)) ∧ (∀ r, rStep q.kind q.n q.most (c ++ r, 0) = (gm q, r, 0)) ∧
    (∀ a b, c = a ++ b → b ≠ [] → (rStep q.kind q.n q.most (a, 0)).2.2 = 90) := by
  obtain ⟨⟨hk1, hk8⟩, x0, x1, isB, isQ, hn, mb, mq, lb, lq, six⟩ := h
  obtain ⟨kd, x, b, l, n, most⟩ := q
  simp only at hk1 hk8 x0 x1 isB isQ hn mb mq lb lq six
  unfold wStep rStep gm
  simp only
  by_cases h1 : kd = 1
  · subst h1
    simp only [if_true]
    refine ⟨[x % 256], by simp, (fun y hy => by simp at hy; omega), fun acc => rfl, fun r => ?_, fun a b' hc hb' => ?_⟩
    · rw [face_yes (x := x % 256) (r := r) rfl]
    · rw [nil_of_cut hc hb', face_no (c := 90) rfl]
  by_cases h2 : kd = 2
  · subst h2
    simp only [show ¬ (2 : Int) = 1 from by omega, if_true, if_false]
    refine ⟨beB 4 (x % 4294967296), by rw [beB_len]; omega, beB_isB _ _, fun acc => rfl, fun r => ?_, fun a b' hc hb' => ?_⟩
    · have hp : pU32 (beB 4 (x % 4294967296) ++ r) = .ok (x % 4294967296, r) := by
        unfold pU32
        rw [if_neg (by rw [List.length_append, beB_len]; omega), List.take_left' (beB_len 4 _), List.drop_left' (beB_len 4 _)]
        have : leV (beB 4 (x % 4294967296)).reverse = x % 4294967296 := by
          unfold beB; rw [List.reverse_reverse, leV_leB]; omega
        rw [this]
      rw [face_yes hp]
    · have hl := len_of_cut hc hb'
      rw [beB_len] at hl
      have hp : pU32 a = .error 90 := by unfold pU32; rw [if_pos hl]
      rw [face_no hp]
  by_cases h3 : kd = 3
  · subst h3
    simp only [show ¬ (3 : Int) = 1 from by omega, show ¬ (3 : Int) = 2 from by omega, if_true, if_false]
    refine ⟨beB 8 x, by rw [beB_len]; omega, beB_isB _ _, fun acc => rfl, fun r => ?_, fun a b' hc hb' => ?_⟩
    · have hp : pU64 (beB 8 x ++ r) = .ok (x, r) := by
        unfold pU64
        rw [if_neg (by rw [List.length_append, beB_len]; omega), List.take_left' (beB_len 8 _), List.drop_left' (beB_len 8 _)]
        have : leV (beB 8 x).reverse = x := by
          unfold beB; rw [List.reverse_reverse, leV_leB]; omega
        rw [this]
      rw [face_yes hp]
    · have hl := len_of_cut hc hb'
      rw [beB_len] at hl
      have hp : pU64 a = .error 90 := by unfold pU64; rw [if_pos hl]
      rw [face_no hp]
  by_cases h4 : kd = 4
  · subst h4
    simp only [show ¬ (4 : Int) = 1 from by omega, show ¬ (4 : Int) = 2 from by omega, show ¬ (4 : Int) = 3 from by omega, if_true, if_false]
    refine ⟨sho x.toNat, sho_pos _, sho_isB _, fun acc => rfl, fun r => ?_, fun a b' hc hb' => ?_⟩
    · rw [face_yes (pUint_sho x0 x1 r)]
    · rw [face_no (pUint_cut x1 hc hb')]
  by_cases h5 : kd = 5
  · subst h5
    simp only [show ¬ (5 : Int) = 1 from by omega, show ¬ (5 : Int) = 2 from by omega, show ¬ (5 : Int) = 3 from by omega, show ¬ (5 : Int) = 4 from by omega, if_true, if_false]
    refine ⟨[if x % 2 = 1 then 1 else 0], by simp, (fun y hy => by simp at hy; subst hy; split <;> omega), fun acc => rfl, fun r => ?_, fun a b' hc hb' => ?_⟩
    · by_cases hx : x % 2 = 1
      · rw [if_pos hx, face_yes (x := true) (r := r) rfl, hx]; rfl
      · have hx0 : x % 2 = 0 := by omega
        rw [if_neg hx, face_yes (x := false) (r := r) rfl, hx0]; rfl
    · rw [nil_of_cut hc hb', face_no (c := 90) rfl]
  by_cases h6 : kd = 6
  · subst h6
    simp only [show ¬ (6 : Int) = 1 from by omega, show ¬ (6 : Int) = 2 from by omega, show ¬ (6 : Int) = 3 from by omega, show ¬ (6 : Int) = 4 from by omega, show ¬ (6 : Int) = 5 from by omega, if_true, if_false]
    refine ⟨b.l, six rfl, isB, fun acc => rfl, fun r => ?_, fun a b' hc hb' => ?_⟩
    · have hp : pFixed n (b.l ++ r) = .ok (b.l, r) := by
        unfold pFixed
        rw [hn, if_neg (by rw [List.length_append]; omega)]
        simp
      rw [face_yes hp]
    · have hl := len_of_cut hc hb'
      have hp : pFixed n a = .error 90 := by unfold pFixed; rw [hn, if_pos (by omega)]
      rw [face_no hp]
  by_cases h7 : kd = 7
  · subst h7
    simp only [show ¬ (7 : Int) = 1 from by omega, show ¬ (7 : Int) = 2 from by omega, show ¬ (7 : Int) = 3 from by omega, show ¬ (7 : Int) = 4 from by omega, show ¬ (7 : Int) = 5 from by omega, show ¬ (7 : Int) = 6 from by omega, if_true, if_false]
    refine ⟨sho b.l.length ++ b.l, by have := sho_pos b.l.length; rw [List.length_append]; omega, IsB.append (sho_isB _) isB, fun acc => ?_, fun r => ?_, fun a b' hc hb' => ?_⟩
    · unfold wBytes wCount; rw [if_neg (by omega)]; simp [wLay]
    · rw [List.append_assoc, face_yes (pBytes_is lb mb)]
    · rw [face_no (pBytes_cut lb mb hc hb')]
  have h8 : kd = 8 := by omega
  subst h8
  simp only [show ¬ (8 : Int) = 1 from by omega, show ¬ (8 : Int) = 2 from by omega, show ¬ (8 : Int) = 3 from by omega, show ¬ (8 : Int) = 4 from by omega, show ¬ (8 : Int) = 5 from by omega, show ¬ (8 : Int) = 6 from by omega, show ¬ (8 : Int) = 7 from by omega, if_true, if_false]
  refine ⟨sho l.l.length ++ shos l.l, by have := sho_pos l.l.length; rw [List.length_append]; omega, IsB.append (sho_isB _) (shos_isB _), fun acc => ?_, fun r => ?_, fun a b' hc hb' => ?_⟩
  · have h4 : wList l.l most (acc, 0) = wNums l.l (wCount l.l.length most (acc, 0)) := rfl
    rw [h4]
    unfold wCount
    rw [if_neg (by omega)]
    have h5 : wLay (sho l.l.length) (acc, 0) = (acc ++ sho l.l.length, 0) := rfl
    rw [h5, wNums_shos]; simp
  · rw [List.append_assoc, gList_is isQ lq mq]
  · exact gList_cut isQ lq mq hc hb'
end Go.Proofs.Ytiloacnjgaoceab
