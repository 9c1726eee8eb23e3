import Derived.Test.YtebaiaghbfbgmaaJaW
import Derived.Test.YtebaiaghbfbgmaaLatM
set_option linter.unusedSimpArgs false
set_option linter.unusedVariables false
namespace Go.Proofs.Ytebaiaghbfbgmaa
open Go.RowKit

/-! Tables: rows by rising serial, looked up. -/
def lk (l : List Ent) (s : Int) : Option Ent := l.find? fun e => decide (e.cert.serial = s)
theorem lk_cons (x : Ent) (l : List Ent) (s : Int) : lk (x :: l) s = if x.cert.serial = s then some x else lk l s := by
  unfold lk; rw [List.find?_cons]
  by_cases h : x.cert.serial = s <;> simp [h]
theorem lk_some {l : List Ent} {s : Int} {e : Ent} (h : lk l s = some e) : e ∈ l ∧ e.cert.serial = s := by
  have h1 := List.mem_of_find?_eq_some h
  have h2 := List.find?_some h
  exact ⟨h1, by simpa using h2⟩
theorem lk_none {l : List Ent} {s : Int} (h : ∀ e ∈ l, e.cert.serial ≠ s) : lk l s = none := by
  unfold lk; rw [List.find?_eq_none]; intro x hx; simpa using h x hx
theorem lk_mem : ∀ {l : List Ent} {e : Ent}, Sorted l → e ∈ l → lk l e.cert.serial = some e
  | [], e, _, h => by cases h
  | x :: l, e, hs, h => by
    obtain ⟨h1, h2⟩ := List.pairwise_cons.1 hs
    rw [lk_cons]
    rcases List.mem_cons.1 h with rfl | h
    · rw [if_pos rfl]
    · have := h1 e h
      rw [if_neg (by omega)]; exact lk_mem h2 h
theorem lk_ext : ∀ {l l' : List Ent}, Sorted l → Sorted l' → (∀ s, lk l s = lk l' s) → l = l'
  | [], [], _, _, _ => rfl
  | [], y :: l', _, _, h => by have := h y.cert.serial; rw [lk_cons, if_pos rfl] at this; simp [lk] at this
  | x :: l, [], _, _, h => by have := h x.cert.serial; rw [lk_cons, if_pos rfl] at this; simp [lk] at this
  | x :: l, y :: l', hs, hs', h => by
    obtain ⟨h1, h2⟩ := List.pairwise_cons.1 hs
    obtain ⟨h1', h2'⟩ := List.pairwise_cons.1 hs'
    have hxy : x.cert.serial = y.cert.serial := by
      rcases Int.lt_trichotomy x.cert.serial y.cert.serial with q | q | q
      · have := h x.cert.serial
        rw [lk_cons, if_pos rfl, lk_cons, if_neg (by omega), lk_none (fun e he => by have := h1' e he; omega)] at this
        cases this
      · exact q
      · have := h y.cert.serial
        rw [lk_cons, if_neg (by omega), lk_cons, if_pos rfl, lk_none (fun e he => by have := h1 e he; omega)] at this
        cases this
    have hx : x = y := by
      have := h x.cert.serial
      rw [lk_cons, if_pos rfl, lk_cons, if_pos hxy.symm] at this
      cases this; rfl
    subst hx
    rw [lk_ext h2 h2' (fun s => ?_)]
    by_cases hq : x.cert.serial = s
    · subst hq
      rw [lk_none (fun e he => by have := h1 e he; omega), lk_none (fun e he => by have := h1' e he; omega)]
    · have := h s
      rwa [lk_cons, if_neg hq, lk_cons, if_neg hq] at this
theorem lk_nb (l : List Ent) (n s : Int) : lk (nbX l n) s = if n ≤ s then lk l s else none := by
  induction l with
  | nil => simp [nbX, lk]
  | cons x l ih =>
    have e : nbX (x :: l) n = if n ≤ x.cert.serial then x :: nbX l n else nbX l n := by
      unfold nbX; rw [List.filter_cons]; by_cases h : n ≤ x.cert.serial <;> simp [h]
    rw [e]
    by_cases h : n ≤ x.cert.serial
    · rw [if_pos h, lk_cons, lk_cons, ih]
      by_cases q : x.cert.serial = s
      · subst q; rw [if_pos rfl, if_pos rfl, if_pos h]
      · rw [if_neg q, if_neg q]
    · rw [if_neg h, ih, lk_cons]
      by_cases q : x.cert.serial = s
      · subst q; rw [if_neg h, if_neg h]
      · rw [if_neg q]
theorem nb_sorted {l : List Ent} (h : Sorted l) (n : Int) : Sorted (nbX l n) := List.Pairwise.filter _ h
theorem nb_mem {l : List Ent} {n : Int} {e : Ent} (h : e ∈ nbX l n) : e ∈ l ∧ n ≤ e.cert.serial := by
  unfold nbX at h; rw [List.mem_filter] at h; exact ⟨h.1, by simpa using h.2⟩
/-- the join of what two know of a serial -/
def jo : Option Ent → Option Ent → Option Ent
  | none, y => y
  | x, none => x
  | some x, some y => some (joinE x y)
theorem jo_none (x : Option Ent) : jo x none = x := by cases x <;> rfl
theorem mgF_spec : ∀ (n : Nat) (a b : List Ent), a.length + b.length ≤ n → Sorted a → Sorted b → (∀ x ∈ a, ∀ y ∈ b, x.cert.serial = y.cert.serial → x.cert = y.cert) →
    ∃ l, mgF n a b = some l ∧ Sorted l ∧ (∀ s, lk l s = jo (lk a s) (lk b s)) ∧ ∀ e ∈ l, (∃ x ∈ a, x.cert.serial = e.cert.serial) ∨ (∃ y ∈ b, y.cert.serial = e.cert.serial)
  | n, [], b, _, _, hb, _ => ⟨b, mgF_nil _ _, hb, fun s => by simp [lk, jo], fun e he => .inr ⟨e, he, rfl⟩⟩
  | n, x :: a, [], _, ha, _, _ => ⟨x :: a, mgF_nil' _ _, ha, fun s => by rw [show lk [] s = none from rfl, jo_none], fun e he => .inl ⟨e, he, rfl⟩⟩
  | 0, x :: a, y :: b, h, _, _, _ => by simp at h
  | n + 1, x :: a, y :: b, h, ha, hb, hc => by
    simp only [List.length_cons] at h
    obtain ⟨a1, a2⟩ := List.pairwise_cons.1 ha
    obtain ⟨b1, b2⟩ := List.pairwise_cons.1 hb
    simp only [mgF]
    rcases Int.lt_trichotomy x.cert.serial y.cert.serial with q | q | q
    · obtain ⟨l, e1, e2, e3, e4⟩ := mgF_spec n a (y :: b) (by simp; omega) a2 hb (fun u hu v hv => hc u (by simp [hu]) v hv)
      refine ⟨x :: l, by rw [if_pos q, e1]; rfl, ?_, fun s => ?_, fun e he => ?_⟩
      · refine List.pairwise_cons.2 ⟨fun e he => ?_, e2⟩
        rcases e4 e he with ⟨u, hu, hq⟩ | ⟨v, hv, hq⟩
        · have := a1 u hu; omega
        · rcases List.mem_cons.1 hv with rfl | hv
          · omega
          · have := b1 v hv; omega
      · rw [lk_cons, e3, lk_cons x a]
        by_cases hs : x.cert.serial = s
        · subst hs
          rw [if_pos rfl, if_pos rfl, lk_none (l := y :: b) (fun e he => ?_), jo_none]
          rcases List.mem_cons.1 he with rfl | he
          · omega
          · have := b1 e he; omega
        · rw [if_neg hs, if_neg hs]
      · rcases List.mem_cons.1 he with rfl | he
        · exact .inl ⟨e, by simp, rfl⟩
        · rcases e4 e he with ⟨u, hu, hq⟩ | hv
          · exact .inl ⟨u, by simp [hu], hq⟩
          · exact .inr hv
    · have hcc := hc x (by simp) y (by simp) q
      obtain ⟨l, e1, e2, e3, e4⟩ := mgF_spec n a b (by omega) a2 b2 (fun u hu v hv => hc u (by simp [hu]) v (by simp [hv]))
      refine ⟨joinE x y :: l, by rw [if_neg (by omega), if_neg (by omega), if_pos (eqCb_t hcc), e1]; rfl, ?_, fun s => ?_, fun e he => ?_⟩
      · refine List.pairwise_cons.2 ⟨fun e he => ?_, e2⟩
        show x.cert.serial < _
        rcases e4 e he with ⟨u, hu, hq⟩ | ⟨v, hv, hq⟩
        · have := a1 u hu; omega
        · have := b1 v hv; omega
      · rw [lk_cons, e3, lk_cons x a, lk_cons y b]
        show (if x.cert.serial = s then _ else _) = _
        by_cases hs : x.cert.serial = s
        · subst hs
          rw [if_pos rfl, if_pos rfl, if_pos q.symm]; rfl
        · rw [if_neg hs, if_neg hs, if_neg (by omega)]
      · rcases List.mem_cons.1 he with rfl | he
        · exact .inl ⟨x, by simp, rfl⟩
        · rcases e4 e he with ⟨u, hu, hq⟩ | ⟨v, hv, hq⟩
          · exact .inl ⟨u, by simp [hu], hq⟩
          · exact .inr ⟨v, by simp [hv], hq⟩
    · obtain ⟨l, e1, e2, e3, e4⟩ := mgF_spec n (x :: a) b (by simp; omega) ha b2 (fun u hu v hv => hc u hu v (by simp [hv]))
      refine ⟨y :: l, by rw [if_neg (by omega), if_pos q, e1]; rfl, ?_, fun s => ?_, fun e he => ?_⟩
      · refine List.pairwise_cons.2 ⟨fun e he => ?_, e2⟩
        rcases e4 e he with ⟨u, hu, hq⟩ | ⟨v, hv, hq⟩
        · rcases List.mem_cons.1 hu with rfl | hu
          · omega
          · have := a1 u hu; omega
        · have := b1 v hv; omega
      · rw [lk_cons, e3, lk_cons y b]
        by_cases hs : y.cert.serial = s
        · subst hs
          rw [if_pos rfl, if_pos rfl, lk_none (l := x :: a) (fun e he => ?_)]; rfl
          rcases List.mem_cons.1 he with rfl | he
          · omega
          · have := a1 e he; omega
        · rw [if_neg hs, if_neg hs]
      · rcases List.mem_cons.1 he with rfl | he
        · exact .inr ⟨e, by simp, rfl⟩
        · rcases e4 e he with hu | ⟨v, hv, hq⟩
          · exact .inl hu
          · exact .inr ⟨v, by simp [hv], hq⟩
structure Tb where (fl : Flr) (acc : Int) (l : List Ent)
/-- a table that may be: rows by rising serial, above the floor, of one certificate a serial -/
structure GT (cf : Int → Crt) (t : Tb) : Prop where
  fl : t.fl.Ok
  so : Sorted t.l
  e : ∀ x ∈ t.l, GE (cf x.cert.serial) x
  ab : ∀ x ∈ t.l, t.fl.n ≤ x.cert.serial
def jt (a b : Tb) : Tb := ⟨mxF a.fl b.fl, mxA a.acc b.acc, (jaX a.fl b.fl a.l b.l).getD []⟩
theorem mxF_le {f f' : Flr} : f.n ≤ (mxF f f').n ∧ f'.n ≤ (mxF f f').n := by
  unfold mxF mxG
  cases h : gtF f' f
  · unfold gtF at h
    by_cases q : f'.n = f.n
    · simp; omega
    · rw [if_neg q] at h; simp at h ⊢; omega
  · unfold gtF at h
    by_cases q : f'.n = f.n
    · simp; omega
    · rw [if_neg q] at h; simp at h ⊢; omega
section
variable {cf : Int → Crt} {a b c : Tb}
theorem jt_spec (ha : GT cf a) (hb : GT cf b) : jaX a.fl b.fl a.l b.l = some (jt a b).l ∧ Sorted (jt a b).l ∧ ∀ s, lk (jt a b).l s = if (mxF a.fl b.fl).n ≤ s then jo (lk a.l s) (lk b.l s) else none := by
  obtain ⟨l, e1, e2, e3, -⟩ := mgF_spec _ (nbX a.l (mxF a.fl b.fl).n) (nbX b.l (mxF a.fl b.fl).n) (Nat.le_refl _) (nb_sorted ha.so _) (nb_sorted hb.so _) (fun x hx y hy q => by rw [(ha.e x (nb_mem hx).1).cert, (hb.e y (nb_mem hy).1).cert, q])
  have h : jaX a.fl b.fl a.l b.l = some l := e1
  have hl : (jt a b).l = l := by unfold jt; simp only; rw [h]; rfl
  rw [hl]
  refine ⟨h, e2, fun s => ?_⟩
  rw [e3, lk_nb, lk_nb]
  by_cases q : (mxF a.fl b.fl).n ≤ s
  · rw [if_pos q, if_pos q, if_pos q]
  · rw [if_neg q, if_neg q, if_neg q]; rfl
/-- what is looked up is of that serial's certificate -/
theorem GT.lk (ha : GT cf a) {s : Int} {e : Ent} (h : lk a.l s = some e) : GE (cf s) e ∧ a.fl.n ≤ s := by
  obtain ⟨h1, h2⟩ := lk_some h
  have := ha.e e h1
  rw [h2] at this
  exact ⟨this, by have := ha.ab e h1; omega⟩
theorem GT.low (ha : GT cf a) {s : Int} (h : ¬ a.fl.n ≤ s) : Go.Proofs.Ytebaiaghbfbgmaa.lk a.l s = none := lk_none (fun e he q => h (by have := ha.ab e he; omega))
def GO (cf : Int → Crt) (s : Int) (o : Option Ent) : Prop := ∀ e, o = some e → GE (cf s) e
theorem jo_go {s : Int} {x y : Option Ent} (hx : GO cf s x) (hy : GO cf s y) : GO cf s (jo x y) := by
  intro e he
  cases x with
  | none => exact hy e he
  | some x =>
    cases y with
    | none => exact hx e he
    | some y => simp only [jo, Option.some.injEq] at he; subst he; exact (latE _).cl x y (hx x rfl) (hy y rfl)
theorem jo_comm {s : Int} {x y : Option Ent} (hx : GO cf s x) (hy : GO cf s y) : jo x y = jo y x := by
  cases x <;> cases y <;> try rfl
  simp only [jo]; rw [(latE _).comm _ _ (hx _ rfl) (hy _ rfl)]
theorem jo_assoc {s : Int} {x y z : Option Ent} (hx : GO cf s x) (hy : GO cf s y) (hz : GO cf s z) : jo (jo x y) z = jo x (jo y z) := by
  cases x <;> cases y <;> cases z <;> try rfl
  simp only [jo]; rw [(latE _).assoc _ _ _ (hx _ rfl) (hy _ rfl) (hz _ rfl)]
theorem jo_idem {s : Int} {x : Option Ent} (hx : GO cf s x) : jo x x = x := by
  cases x
  · rfl
  · simp only [jo]; rw [(latE _).idem _ (hx _ rfl)]
theorem GT.go (ha : GT cf a) (s : Int) : GO cf s (Go.Proofs.Ytebaiaghbfbgmaa.lk a.l s) := fun e he => (ha.lk he).1
theorem jt_gt (ha : GT cf a) (hb : GT cf b) : GT cf (jt a b) := by
  obtain ⟨-, h2, h3⟩ := jt_spec ha hb
  refine ⟨mxF_ok ha.fl hb.fl, h2, fun x hx => ?_, fun x hx => ?_⟩
  · have hm := lk_mem h2 hx
    rw [h3] at hm
    split at hm
    · exact jo_go (ha.go _) (hb.go _) x hm
    · cases hm
  · have hm := lk_mem h2 hx
    rw [h3] at hm
    split at hm
    · assumption
    · cases hm
theorem Tb.ext' {a b : Tb} (h1 : a.fl = b.fl) (h2 : a.acc = b.acc) (h3 : a.l = b.l) : a = b := by cases a; cases b; simp_all
theorem mxA_comm (x y : Int) : mxA x y = mxA y x := by unfold mxA; split <;> split <;> omega
theorem mxA_assoc (x y z : Int) : mxA (mxA x y) z = mxA x (mxA y z) := by unfold mxA; repeat' split <;> omega
theorem mxA_idem (x : Int) : mxA x x = x := by unfold mxA; split <;> rfl
theorem latT (cf : Int → Crt) : SLat (GT cf) jt := by
  refine ⟨fun a b ha hb => jt_gt ha hb, fun a b ha hb => ?_, fun a b c ha hb hc => ?_, fun a ha => ?_⟩
  · obtain ⟨-, h2, h3⟩ := jt_spec ha hb
    obtain ⟨-, k2, k3⟩ := jt_spec hb ha
    have hF : mxF a.fl b.fl = mxF b.fl a.fl := ordF.comm _ _ ha.fl.sg.len hb.fl.sg.len
    refine Tb.ext' hF (mxA_comm _ _) (lk_ext h2 k2 (fun s => ?_))
    rw [h3, k3, hF, jo_comm (ha.go s) (hb.go s)]
  · have hab := jt_gt ha hb
    have hbc := jt_gt hb hc
    obtain ⟨-, -, h3⟩ := jt_spec ha hb
    obtain ⟨-, -, k3⟩ := jt_spec hb hc
    obtain ⟨-, l2, l3⟩ := jt_spec hab hc
    obtain ⟨-, r2, r3⟩ := jt_spec ha hbc
    have hF : mxF (mxF a.fl b.fl) c.fl = mxF a.fl (mxF b.fl c.fl) := ordF.assoc _ _ _ ha.fl.sg.len hb.fl.sg.len hc.fl.sg.len
    refine Tb.ext' hF (mxA_assoc _ _ _) (lk_ext l2 r2 (fun s => ?_))
    rw [l3, r3]
    show (if (mxF (mxF a.fl b.fl) c.fl).n ≤ s then _ else _) = if (mxF a.fl (mxF b.fl c.fl)).n ≤ s then _ else _
    rw [← hF]
    by_cases q : (mxF (mxF a.fl b.fl) c.fl).n ≤ s
    · have q1 : (mxF a.fl b.fl).n ≤ s := Int.le_trans (mxF_le (f := mxF a.fl b.fl) (f' := c.fl)).1 q
      have q2 : (mxF b.fl c.fl).n ≤ s := by rw [hF] at q; exact Int.le_trans (mxF_le (f := a.fl) (f' := mxF b.fl c.fl)).2 q
      rw [if_pos q, if_pos q, h3, k3, if_pos q1, if_pos q2, jo_assoc (ha.go s) (hb.go s) (hc.go s)]
    · rw [if_neg q, if_neg q]
  · obtain ⟨-, h2, h3⟩ := jt_spec ha ha
    have hF : mxF a.fl a.fl = a.fl := mxG_idem _
    refine Tb.ext' hF (mxA_idem _) (lk_ext h2 ha.so (fun s => ?_))
    rw [h3, hF, jo_idem (ha.go s)]
    by_cases q : a.fl.n ≤ s
    · rw [if_pos q]
    · rw [if_neg q, ha.low q]
theorem cov_iff (ha : GT cf a) (hb : GT cf b) : covAB a.fl b.fl a.acc b.acc a.l b.l = true ↔ jt a b = a := by
  obtain ⟨h1, -, -⟩ := jt_spec ha hb
  unfold covAB
  rw [h1]
  simp only
  rw [Bool.and_eq_true, Bool.and_eq_true, eqFb_iff, decide_eq_true_iff, eqL_iff]
  exact ⟨fun h => Tb.ext' h.1 h.2.1 h.2.2, fun h => ⟨congrArg Tb.fl h, congrArg Tb.acc h, congrArg Tb.l h⟩⟩
end
end Go.Proofs.Ytebaiaghbfbgmaa
