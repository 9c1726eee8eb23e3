import Derived.Test.YtebaiaghbfbgmaaPgM
import Derived.Test.YtebaiaghbfbgmaaJaW
set_option linter.unusedSimpArgs false
set_option linter.unusedVariables false
namespace Go.Proofs.Ytebaiaghbfbgmaa
open Go.RowKit

/-! The document's table: rows gone through from the front. -/
def rPl : List Ent → Ent → List Ent
  | [], e => [e]
  | x :: t, e => if e.cert.serial < x.cert.serial then e :: x :: t else x :: rPl t e
def rCh (l : List Ent) (j : Ent) : List Ent := l.map fun x => if x.cert.serial = j.cert.serial then j else x
theorem rPl_mem : ∀ {l : List Ent} {e x : Ent}, x ∈ rPl l e → x = e ∨ x ∈ l
  | [], e, x, h => by simp [rPl] at h; exact .inl h
  | y :: t, e, x, h => by
    unfold rPl at h
    split at h
    · simp at h; rcases h with h | h | h <;> simp [h]
    · simp at h
      rcases h with h | h
      · simp [h]
      · rcases rPl_mem h with h | h <;> simp [h]
theorem rPl_len : ∀ (l : List Ent) (e : Ent), (rPl l e).length = l.length + 1
  | [], e => rfl
  | y :: t, e => by
    unfold rPl
    split
    · rfl
    · simp [rPl_len t e]
theorem rCh_len (l : List Ent) (e : Ent) : (rCh l e).length = l.length := by simp [rCh]
theorem rPl_spec : ∀ {l : List Ent} {e : Ent}, Sorted l → (∀ x ∈ l, x.cert.serial ≠ e.cert.serial) → Sorted (rPl l e) ∧ ∀ s, lk (rPl l e) s = if s = e.cert.serial then some e else lk l s
  | [], e, _, _ => by
    refine ⟨by simp [rPl, Sorted], fun s => ?_⟩
    unfold rPl
    rw [lk_cons]
    by_cases h : e.cert.serial = s
    · rw [if_pos h, if_pos h.symm]
    · rw [if_neg h, if_neg (fun e => h e.symm)]
  | x :: t, e, hs, hn => by
    obtain ⟨h1, h2⟩ := List.pairwise_cons.1 hs
    have hxe := hn x (by simp)
    unfold rPl
    split
    · rename_i hlt
      refine ⟨List.pairwise_cons.2 ⟨fun y hy => ?_, hs⟩, fun s => ?_⟩
      · rcases List.mem_cons.1 hy with rfl | hy
        · exact hlt
        · have := h1 y hy; omega
      · rw [lk_cons]
        by_cases h : e.cert.serial = s
        · rw [if_pos h, if_pos h.symm]
        · rw [if_neg h, if_neg (fun e => h e.symm)]
    · rename_i hge
      obtain ⟨i1, i2⟩ := rPl_spec (l := t) (e := e) h2 (fun y hy => hn y (by simp [hy]))
      refine ⟨List.pairwise_cons.2 ⟨fun y hy => ?_, i1⟩, fun s => ?_⟩
      · rcases rPl_mem hy with rfl | hy
        · omega
        · exact h1 y hy
      · rw [lk_cons, lk_cons, i2 s]
        by_cases h : x.cert.serial = s
        · rw [if_pos h, if_neg (by omega), if_pos h]
        · rw [if_neg h, if_neg h]
theorem rCh_spec : ∀ {l : List Ent} {j : Ent}, Sorted l → Sorted (rCh l j) ∧ ∀ s, lk (rCh l j) s = if s = j.cert.serial then (lk l s).map (fun _ => j) else lk l s
  | [], j, _ => ⟨by simp [rCh, Sorted], fun s => by simp [rCh, lk]⟩
  | x :: t, j, hs => by
    obtain ⟨h1, h2⟩ := List.pairwise_cons.1 hs
    obtain ⟨i1, i2⟩ := rCh_spec (l := t) (j := j) h2
    have hm : ∀ y ∈ rCh t j, ∃ z ∈ t, y.cert.serial = z.cert.serial := fun y hy => by
      unfold rCh at hy
      obtain ⟨z, hz, rfl⟩ := List.mem_map.1 hy
      refine ⟨z, hz, ?_⟩
      split
      · rename_i h; exact h.symm
      · rfl
    have hc : rCh (x :: t) j = (if x.cert.serial = j.cert.serial then j else x) :: rCh t j := rfl
    have hx : (if x.cert.serial = j.cert.serial then j else x).cert.serial = x.cert.serial := by
      split
      · rename_i h; exact h.symm
      · rfl
    rw [hc]
    refine ⟨List.pairwise_cons.2 ⟨fun y hy => ?_, i1⟩, fun s => ?_⟩
    · obtain ⟨z, hz, e⟩ := hm y hy
      have := h1 z hz
      omega
    · rw [lk_cons, lk_cons, i2 s, hx]
      by_cases h : x.cert.serial = s
      · rw [if_pos h, if_pos h]
        by_cases h' : s = j.cert.serial
        · rw [if_pos h', if_pos (by omega)]; rfl
        · rw [if_neg h', if_neg (by omega)]
      · rw [if_neg h, if_neg h]
/-- where a row is to be laid in, both ways lay it at one place -/
theorem rPl_eq {l : List Ent} {e : Ent} (hs : Sorted l) (hn : ∀ x ∈ l, x.cert.serial ≠ e.cert.serial) : rPl l e = l.take (lbN l e.cert.serial) ++ e :: l.drop (lbN l e.cert.serial) := by
  obtain ⟨h1, h2⟩ := rPl_spec hs hn
  obtain ⟨h3, h4⟩ := ins_spec hs hn
  exact lk_ext h1 h3 (fun s => by rw [h2, h4])
theorem rCh_eq {l : List Ent} {k : Nat} {r j : Ent} (hs : Sorted l) (hk : l[k]? = some r) (hj : j.cert.serial = r.cert.serial) (hl : lk l r.cert.serial = some r) : rCh l j = l.set k j := by
  obtain ⟨h1, h2⟩ := rCh_spec (j := j) hs
  obtain ⟨h3, h4⟩ := set_spec hs hk hj
  refine lk_ext h1 h3 (fun s => ?_)
  rw [h2, h4, hj]
  by_cases h : s = r.cert.serial
  · rw [if_pos h, if_pos h, h, hl]; rfl
  · rw [if_neg h, if_neg h]
/-- one entry joined in; none: another certificate -/
def rjF : List Ent → List Ent → Option (List Ent)
  | l, [] => some l
  | l, e :: t => match lk l e.cert.serial with
    | none => rjF (rPl l e) t
    | some r => if eqCb r.cert e.cert then rjF (rCh l (joinE r e)) t else none
theorem rCh_low {l : List Ent} {j : Ent} (h : ∀ x ∈ l, j.cert.serial < x.cert.serial) : rCh l j = l := by
  unfold rCh
  conv => rhs; rw [← List.map_id l]
  refine List.map_congr_left (fun x hx => ?_)
  have := h x hx
  rw [if_neg (by omega)]
  rfl
theorem rjF_head : ∀ {b a : List Ent} {x : Ent}, (∀ y ∈ b, x.cert.serial < y.cert.serial) → rjF (x :: a) b = (rjF a b).map (x :: ·)
  | [], a, x, _ => rfl
  | e :: t, a, x, h => by
    have hx := h e (by simp)
    have ht : ∀ y ∈ t, x.cert.serial < y.cert.serial := fun y hy => h y (by simp [hy])
    unfold rjF
    rw [lk_cons, if_neg (by omega)]
    cases hl : lk a e.cert.serial with
    | none =>
      simp only
      rw [show rPl (x :: a) e = x :: rPl a e from by rw [rPl, if_neg (by omega)]]
      exact rjF_head ht
    | some r =>
      simp only
      by_cases hc : eqCb r.cert e.cert = true
      · rw [if_pos hc, if_pos hc]
        have hrs : r.cert.serial = e.cert.serial := (lk_some hl).2
        rw [show rCh (x :: a) (joinE r e) = x :: rCh a (joinE r e) from by
          show (if x.cert.serial = r.cert.serial then _ else _) :: _ = _
          rw [if_neg (by omega)]; rfl]
        exact rjF_head ht
      · rw [if_neg hc, if_neg hc]; rfl
theorem rjF_eq : ∀ (n : Nat) {a b : List Ent}, a.length + b.length ≤ n → Sorted a → Sorted b → rjF a b = mgX a b
  | 0, a, b, h, _, _ => by
    obtain rfl : a = [] := List.length_eq_zero_iff.1 (by omega)
    obtain rfl : b = [] := List.length_eq_zero_iff.1 (by simp at h; exact List.length_eq_zero_iff.2 h)
    rfl
  | n + 1, a, [], _, _, _ => by rw [mgX_nil']; rfl
  | n + 1, [], y :: b, h, _, hb => by
    obtain ⟨h1, h2⟩ := List.pairwise_cons.1 hb
    rw [mgX_nil]
    show rjF [y] b = _
    rw [rjF_head h1, rjF_eq n (by simp at h ⊢; omega) (by simp [Sorted]) h2, mgX_nil]
    rfl
  | n + 1, x :: a, y :: b, h, ha, hb => by
    obtain ⟨a1, a2⟩ := List.pairwise_cons.1 ha
    obtain ⟨b1, b2⟩ := List.pairwise_cons.1 hb
    simp only [List.length_cons] at h
    rcases Int.lt_trichotomy x.cert.serial y.cert.serial with hlt | heq | hgt
    · rw [mgX_lt hlt, rjF_head (fun z hz => by
        rcases List.mem_cons.1 hz with rfl | hz
        · exact hlt
        · have := b1 z hz; omega), rjF_eq n (by simp; omega) a2 hb]
    · by_cases hc : x.cert = y.cert
      · rw [mgX_eq heq hc]
        have hl : lk (x :: a) y.cert.serial = some x := by rw [lk_cons, if_pos heq]
        unfold rjF
        rw [hl]
        simp only
        rw [if_pos (eqCb_t hc)]
        have hch : rCh (x :: a) (joinE x y) = joinE x y :: a := by
          show (if x.cert.serial = x.cert.serial then _ else _) :: rCh a (joinE x y) = _
          rw [if_pos rfl, rCh_low (j := joinE x y) (fun z hz => a1 z hz)]
        rw [hch, rjF_head (fun z hz => by have := b1 z hz; show x.cert.serial < _; omega), rjF_eq n (by omega) a2 b2]
      · rw [mgX_no heq hc]
        have hl : lk (x :: a) y.cert.serial = some x := by rw [lk_cons, if_pos heq]
        unfold rjF
        rw [hl]
        simp only
        rw [if_neg (by rw [eqCb_f hc]; simp)]
    · rw [mgX_gt hgt]
      have hl : lk (x :: a) y.cert.serial = none := lk_none (fun z hz => by
        rcases List.mem_cons.1 hz with rfl | hz
        · omega
        · have := a1 z hz; omega)
      unfold rjF
      rw [hl]
      simp only
      rw [show rPl (x :: a) y = y :: x :: a from by rw [rPl, if_pos hgt], rjF_head b1, rjF_eq n (by simp; omega) ha b2]
end Go.Proofs.Ytebaiaghbfbgmaa
