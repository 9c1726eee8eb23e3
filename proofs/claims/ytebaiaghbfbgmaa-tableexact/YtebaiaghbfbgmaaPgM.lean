import Derived.Test.YtebaiaghbfbgmaaAllM
set_option linter.unusedSimpArgs false
set_option linter.unusedVariables false
namespace Go.Proofs.Ytebaiaghbfbgmaa
open Go.RowKit

/-! Put and Raise of tables that may be. -/
theorem set_spec : ∀ {l : List Ent} {k : Nat} {r J : Ent}, Sorted l → l[k]? = some r → J.cert.serial = r.cert.serial → Sorted (l.set k J) ∧ (∀ s, lk (l.set k J) s = if s = r.cert.serial then some J else lk l s)
  | [], k, r, J, _, h, _ => by simp at h
  | x :: l, 0, r, J, hs, h, hj => by
    simp at h; subst h
    obtain ⟨h1, h2⟩ := List.pairwise_cons.1 hs
    refine ⟨List.pairwise_cons.2 ⟨fun e he => by rw [hj]; exact h1 e he, h2⟩, fun s => ?_⟩
    rw [List.set_cons_zero, lk_cons, lk_cons, hj]
    by_cases q : x.cert.serial = s
    · rw [if_pos q, if_pos q.symm]
    · rw [if_neg q, if_neg (fun e => q e.symm), if_neg q]
  | x :: l, k + 1, r, J, hs, h, hj => by
    obtain ⟨h1, h2⟩ := List.pairwise_cons.1 hs
    have hr : l[k]? = some r := by simpa using h
    obtain ⟨i1, i2⟩ := set_spec h2 hr hj
    have hxr := h1 r (List.mem_of_getElem? hr)
    refine ⟨?_, fun s => ?_⟩
    · rw [List.set_cons_succ]
      refine List.pairwise_cons.2 ⟨fun e he => ?_, i1⟩
      rcases List.mem_or_eq_of_mem_set he with he | rfl
      · exact h1 e he
      · rw [hj]; exact hxr
    · rw [List.set_cons_succ, lk_cons, lk_cons, i2]
      by_cases q : x.cert.serial = s
      · rw [if_pos q, if_pos q, if_neg (by omega)]
      · rw [if_neg q, if_neg q]
theorem ins_spec : ∀ {l : List Ent} {e : Ent}, Sorted l → (∀ x ∈ l, x.cert.serial ≠ e.cert.serial) → Sorted (l.take (lbN l e.cert.serial) ++ e :: l.drop (lbN l e.cert.serial)) ∧ (∀ s, lk (l.take (lbN l e.cert.serial) ++ e :: l.drop (lbN l e.cert.serial)) s = if s = e.cert.serial then some e else lk l s)
  | [], e, _, _ => by
    refine ⟨by simp [lbN, Sorted], fun s => ?_⟩
    simp only [lbN, List.filter_nil, List.length_nil, List.take_nil, List.nil_append, List.drop_nil, lk_cons]
    by_cases q : e.cert.serial = s
    · rw [if_pos q, if_pos q.symm]
    · rw [if_neg q, if_neg (fun h => q h.symm)]
  | x :: l, e, hs, hn => by
    obtain ⟨h1, h2⟩ := List.pairwise_cons.1 hs
    have hx := hn x (by simp)
    by_cases q : x.cert.serial < e.cert.serial
    · have hb : lbN (x :: l) e.cert.serial = lbN l e.cert.serial + 1 := by
        unfold lbN; rw [List.filter_cons, if_pos (by simpa using q), List.length_cons]
      obtain ⟨i1, i2⟩ := ins_spec (l := l) (e := e) h2 (fun y hy => hn y (by simp [hy]))
      rw [hb, List.take_succ_cons, List.drop_succ_cons, List.cons_append]
      refine ⟨List.pairwise_cons.2 ⟨fun y hy => ?_, i1⟩, fun s => ?_⟩
      · rcases List.mem_append.1 hy with hy | hy
        · exact h1 y (List.mem_of_mem_take hy)
        · rcases List.mem_cons.1 hy with rfl | hy
          · exact q
          · exact h1 y (List.mem_of_mem_drop hy)
      · rw [lk_cons, i2, lk_cons]
        by_cases p : x.cert.serial = s
        · rw [if_pos p, if_pos p, if_neg (by omega)]
        · rw [if_neg p, if_neg p]
    · have hb : lbN (x :: l) e.cert.serial = 0 := by
        unfold lbN
        rw [List.length_eq_zero_iff, List.filter_eq_nil_iff]
        intro y hy
        rcases List.mem_cons.1 hy with rfl | hy
        · simp; omega
        · have := h1 y hy; simp; omega
      rw [hb, List.take_zero, List.nil_append, List.drop_zero]
      refine ⟨List.pairwise_cons.2 ⟨fun y hy => ?_, hs⟩, fun s => ?_⟩
      · rcases List.mem_cons.1 hy with rfl | hy
        · omega
        · have := h1 y hy; omega
      · rw [lk_cons]
        by_cases p : e.cert.serial = s
        · rw [if_pos p, if_pos p.symm]
        · rw [if_neg p, if_neg (fun h => p h.symm)]
/-- where it stands, if it is there -/
theorem isAt_t {l : List Ent} {s : Int} (hs : Sorted l) (h : isAt l s = true) : ∃ r, l[lbN l s]? = some r ∧ r.cert.serial = s ∧ lk l s = some r := by
  unfold isAt at h
  cases hq : l[lbN l s]? with
  | none => rw [hq] at h; cases h
  | some r =>
    rw [hq] at h
    have hr : r.cert.serial = s := by simpa using h
    refine ⟨r, rfl, hr, ?_⟩
    have := lk_mem hs (List.mem_of_getElem? hq)
    rwa [hr] at this
theorem isAt_f {l : List Ent} {s : Int} (hs : Sorted l) (h : isAt l s = false) : ∀ x ∈ l, x.cert.serial ≠ s := by
  intro x hx q
  obtain ⟨k, hk⟩ := List.mem_iff_getElem?.1 hx
  have h1 := lbN_above hs hk (t := s) (by omega)
  have h2 : ¬ k > lbN l s := fun hgt => by
    have hlt : lbN l s < l.length := Nat.lt_trans hgt (List.getElem?_eq_some_iff.1 hk).1
    have hg : l[lbN l s]? = some (l[lbN l s]) := List.getElem?_eq_getElem hlt
    have h3 : l[lbN l s].cert.serial < x.cert.serial := by
      have := List.pairwise_iff_getElem.1 hs (lbN l s) k hlt (List.getElem?_eq_some_iff.1 hk).1 hgt
      rwa [(List.getElem?_eq_some_iff.1 hk).2] at this
    have := lbN_below hs hg (t := s) (by omega)
    omega
  have e : lbN l s = k := by omega
  unfold isAt at h
  rw [e, hk] at h
  simp [q] at h
/-- what Put does -/
def PutD (fl : Flr) (l : List Ent) (m : Int) (e : Ent) (l' : List Ent) (b : Bool) (c : Int) : Prop :=
  (e.cert.serial < fl.n ∧ l' = l ∧ b = false ∧ c = 172) ∨
  (¬ e.cert.serial < fl.n ∧ lk l e.cert.serial = none ∧ m ≤ l.length ∧ l' = l ∧ b = false ∧ c = 170) ∨
  (¬ e.cert.serial < fl.n ∧ Sorted l' ∧ (∀ s, lk l' s = if s = e.cert.serial then jo (lk l s) (some e) else lk l s) ∧ c = 0 ∧ (b = true ↔ l' ≠ l) ∧ (l'.length = l.length ∨ (l'.length = l.length + 1 ∧ ¬ m ≤ l.length)))
theorem set_ne {l : List Ent} {k : Nat} {r J : Ent} (h : l[k]? = some r) : l.set k J ≠ l ↔ J ≠ r := by
  constructor
  · intro q e; subst e
    apply q
    apply List.ext_getElem?
    intro i
    rw [List.getElem?_set]
    split
    · rename_i e; subst e; rw [h]; split <;> simp_all
    · rfl
  · intro q e
    have : (l.set k J)[k]? = some J := by
      rw [List.getElem?_set_self (List.getElem?_eq_some_iff.1 h).1]
    rw [e, h] at this
    cases this; exact q rfl
theorem put_any {cf : Int → Crt} (f : Flr) (acc : Int) (s : Sx Ent) (m : Int) (e : Ent) (w : World) (hG : GT cf ⟨f, acc, s.xs⟩) (he : GE (cf e.cert.serial) e) (hs : Es w s) (hbd : (s.n + 1) * 296 ≤ 140737488355328) :
    Calls Try.prog 15 #[aV (gC f acc s.v), .int .i64 m, aV (eC e)] w fun x w' => ∃ (s1 : Sx Ent) (b : Bool) (c : Int), x = .returned (.tuple #[aV (gC f acc s1.v), .bool b, .int .i64 c]) ∧ PutD f s.xs m e s1.xs b c ∧ Oe w' w.heap.size s1.v s1.xs ∧ Below w.heap.size w w' := by
  have hlen : s.xs.length = s.n := hs.ok.len
  by_cases hq : e.cert.serial < f.n
  · refine (put_floor f acc s m e w hG.fl he.ok hs hbd hq).mono ?_
    rintro x w' ⟨s1, rfl, h1, h2, h3⟩
    exact ⟨s1, _, _, rfl, .inl ⟨hq, h1, rfl, rfl⟩, h2, h3⟩
  · cases hat : isAt s.xs e.cert.serial with
    | true =>
      obtain ⟨r, hr, hrs, hrl⟩ := isAt_t hG.so hat
      have hcr : r.cert = e.cert := by
        exact (hG.lk hrl).1.cert.trans he.cert.symm
      refine (put_there f acc s m e w hG.fl he.ok hs hbd hq hG.so hat r hr).mono ?_
      rintro x w' ⟨s1, rfl, h1, h2, h3⟩
      have hX : s1.xs = s.xs.set (lbN s.xs e.cert.serial) (joinE r e) := by rw [h1]; unfold rjX; rw [if_pos (eqCb_t hcr)]
      obtain ⟨p1, p2⟩ := set_spec (J := joinE r e) hG.so hr rfl
      refine ⟨s1, _, _, rfl, .inr (.inr ⟨hq, by rw [hX]; exact p1, fun q => ?_, joinC_t hcr, ?_, .inl (by rw [hX, List.length_set])⟩), h2, h3⟩
      · rw [hX, p2, hrs]
        by_cases hq2 : q = e.cert.serial
        · subst hq2; rw [if_pos rfl, if_pos rfl, hrl]; rfl
        · rw [if_neg hq2, if_neg hq2]
      · rw [hX, set_ne hr]
        unfold rjB
        rw [eqCb_t hcr, Bool.true_and, Bool.not_eq_true', Bool.eq_false_iff, Ne, eqEb_iff]
    | false =>
      have hno := isAt_f hG.so hat
      by_cases hm : m ≤ s.n
      · refine (put_full f acc s m e w hG.fl he.ok hs hbd hq hG.so hat hm).mono ?_
        rintro x w' ⟨s1, rfl, h1, h2, h3⟩
        exact ⟨s1, _, _, rfl, .inr (.inl ⟨hq, lk_none hno, by rw [hlen]; exact hm, h1, rfl, rfl⟩), h2, h3⟩
      · refine (put_new f acc s m e w hG.fl he.ok hs hbd hq hG.so hat hm).mono ?_
        rintro x w' ⟨s1, rfl, h1, h2, h3⟩
        obtain ⟨p1, p2⟩ := ins_spec (e := e) hG.so hno
        have hl : s1.xs.length = s.xs.length + 1 := by
          rw [h1, List.length_append, List.length_cons, List.length_take, List.length_drop]
          have := lbN_le s.xs e.cert.serial
          omega
        refine ⟨s1, _, _, rfl, .inr (.inr ⟨hq, by rw [h1]; exact p1, fun q => ?_, rfl, ?_, .inr ⟨hl, by rw [hlen]; exact hm⟩⟩), h2, h3⟩
        · rw [h1, p2]
          by_cases hq2 : q = e.cert.serial
          · subst hq2; rw [if_pos rfl, if_pos rfl, lk_none hno]; rfl
          · rw [if_neg hq2, if_neg hq2]
        · refine ⟨fun _ q => ?_, fun _ => rfl⟩
          rw [q] at hl; omega
theorem PutD.gt {cf : Int → Crt} {f : Flr} {acc : Int} {l l' : List Ent} {m : Int} {e : Ent} {b : Bool} {c : Int} (h : PutD f l m e l' b c) (hG : GT cf ⟨f, acc, l⟩) (he : GE (cf e.cert.serial) e) : GT cf ⟨f, acc, l'⟩ ∧ l'.length ≤ l.length + 1 := by
  rcases h with ⟨-, rfl, -, -⟩ | ⟨-, -, -, rfl, -, -⟩ | ⟨hq, hso, hlk, -, -, hl⟩
  · exact ⟨hG, by omega⟩
  · exact ⟨hG, by omega⟩
  · refine ⟨⟨hG.fl, hso, fun x hx => ?_, fun x hx => ?_⟩, by omega⟩
    · have hm := lk_mem hso hx
      rw [hlk] at hm
      split at hm
      · rename_i hs
        have hge : GE (cf x.cert.serial) e := by rw [hs]; exact he
        exact jo_go (hG.go x.cert.serial) (fun y hy => by cases hy; exact hge) x hm
      · exact hG.go _ x hm
    · have hm := lk_mem hso hx
      rw [hlk] at hm
      split at hm
      · rename_i hs
        show f.n ≤ _
        omega
      · exact (hG.lk hm).2
theorem raise_gt {cf : Int → Crt} {f f' : Flr} {acc : Int} {l : List Ent} (hG : GT cf ⟨f, acc, l⟩) (hf' : f'.Ok) : GT cf ⟨if f'.n ≤ f.n then f else f', acc, if f'.n ≤ f.n then l else nbX l f'.n⟩ := by
  by_cases h : f'.n ≤ f.n
  · rw [if_pos h, if_pos h]; exact hG
  · rw [if_neg h, if_neg h]
    exact ⟨hf', nb_sorted hG.so _, fun x hx => hG.e x (nb_mem hx).1, fun x hx => (nb_mem hx).2⟩
end Go.Proofs.Ytebaiaghbfbgmaa
