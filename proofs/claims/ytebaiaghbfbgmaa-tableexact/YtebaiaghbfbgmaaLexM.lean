import Derived.Test.YtebaiaghbfbgmaaEnT
set_option linter.unusedSimpArgs false
set_option linter.unusedVariables false
namespace Go.Proofs.Ytebaiaghbfbgmaa

/-! The greater of two; the join of two entries. -/
structure TOrd {α : Type} (ok : α → Prop) (gt : α → α → Bool) : Prop where
  asymm : ∀ a b, gt a b = true → gt b a = false
  tot : ∀ a b, ok a → ok b → gt a b = false → gt b a = false → a = b
  trans : ∀ a b c, ok a → ok b → ok c → gt a b = true → gt b c = true → gt a c = true
def mxG {α : Type} (gt : α → α → Bool) (a b : α) : α := if gt b a then b else a
section
variable {α : Type} {ok : α → Prop} {gt : α → α → Bool}
theorem mxG_ok (a b : α) (ha : ok a) (hb : ok b) : ok (mxG gt a b) := by unfold mxG; split <;> assumption
theorem mxG_idem (a : α) : mxG gt a a = a := by unfold mxG; split <;> rfl
theorem TOrd.comm (h : TOrd ok gt) (a b : α) (ha : ok a) (hb : ok b) : mxG gt a b = mxG gt b a := by
  unfold mxG
  cases h1 : gt b a <;> cases h2 : gt a b <;> simp
  · exact h.tot a b ha hb h2 h1
  · have := h.asymm _ _ h1; rw [h2] at this; cases this
/-- the other way of asking -/
theorem TOrd.other (h : TOrd ok gt) (a b : α) (ha : ok a) (hb : ok b) : (if gt a b then a else b) = mxG gt a b := by
  rw [h.comm a b ha hb]; rfl
theorem TOrd.assoc (h : TOrd ok gt) (a b c : α) (ha : ok a) (hb : ok b) (hc : ok c) : mxG gt (mxG gt a b) c = mxG gt a (mxG gt b c) := by
  unfold mxG
  cases h1 : gt b a <;> cases h2 : gt c b <;> simp [h1, h2]
  · cases h3 : gt c a <;> simp
    -- c above a, a not below b, c not above b
    cases h4 : gt a b
    · have := h.tot a b ha hb h4 h1; subst this; rw [h2] at h3; cases h3
    · have := h.trans c a b hc ha hb h3 h4; rw [h2] at this; cases this
  · have := h.trans c b a hc hb ha h2 h1
    simp [this]
end
/-- is the first of two lists of bytes the greater one? -/
def abv : List Int → List Int → Bool
  | x :: a, y :: b => if x = y then abv a b else decide (y < x)
  | _, _ => false
theorem abv_asymm : ∀ (a b : List Int), abv a b = true → abv b a = false
  | [], _, h => by simp [abv] at h
  | _ :: _, [], h => by simp [abv] at h
  | x :: a, y :: b, h => by
    simp only [abv] at h ⊢
    by_cases e : x = y
    · subst e; simp at h ⊢; exact abv_asymm a b h
    · rw [if_neg e] at h
      rw [if_neg (fun q => e q.symm)]
      simp at h ⊢; omega
theorem abv_tot : ∀ (a b : List Int), a.length = b.length → abv a b = false → abv b a = false → a = b
  | [], [], _, _, _ => rfl
  | [], _ :: _, h, _, _ => by simp at h
  | _ :: _, [], h, _, _ => by simp at h
  | x :: a, y :: b, hl, h, h' => by
    simp only [abv] at h h'
    by_cases e : x = y
    · subst e; simp at h h'; rw [abv_tot a b (by simpa using hl) h h']
    · rw [if_neg e] at h
      rw [if_neg (fun q => e q.symm)] at h'
      simp at h h'; omega
theorem abv_trans : ∀ (a b c : List Int), a.length = b.length → b.length = c.length → abv a b = true → abv b c = true → abv a c = true
  | [], _, _, _, _, h, _ => by simp [abv] at h
  | _ :: _, [], _, _, _, h, _ => by simp [abv] at h
  | _ :: _, _ :: _, [], _, _, _, h => by simp [abv] at h
  | x :: a, y :: b, z :: c, h1, h2, h, h' => by
    simp only [abv] at h h' ⊢
    by_cases e : x = y
    · subst e
      simp at h
      by_cases e2 : x = z
      · subst e2; simp at h' ⊢; exact abv_trans a b c (by simpa using h1) (by simpa using h2) h h'
      · rw [if_neg e2] at h' ⊢; exact h'
    · rw [if_neg e] at h
      by_cases e2 : y = z
      · subst e2; rw [if_neg e]; exact h
      · rw [if_neg e2] at h'
        simp at h h'
        rw [if_neg (by omega)]; simp; omega
theorem ordB (n : Nat) : TOrd (fun l : List Int => l.length = n) abv := ⟨abv_asymm, fun a b ha hb => abv_tot a b (ha.trans hb.symm), fun a b c ha hb hc => abv_trans a b c (ha.trans hb.symm) (hb.trans hc.symm)⟩
def gtM (m m' : Mrk) : Bool := if m.idx = m'.idx then abv m.val m'.val else decide (m'.idx < m.idx)
def gtF (f f' : Flr) : Bool := if f.n = f'.n then abv f.sig f'.sig else decide (f'.n < f.n)
theorem ordM : TOrd (fun m : Mrk => m.val.length = 32) gtM := by
  refine ⟨fun a b h => ?_, fun a b ha hb h h' => ?_, fun a b c ha hb hc h h' => ?_⟩
  · unfold gtM at h ⊢
    by_cases e : a.idx = b.idx
    · rw [if_pos e] at h; rw [if_pos e.symm]; exact abv_asymm _ _ h
    · rw [if_neg e] at h; rw [if_neg (fun q => e q.symm)]; simp at h ⊢; omega
  · unfold gtM at h h'
    by_cases e : a.idx = b.idx
    · rw [if_pos e] at h; rw [if_pos e.symm] at h'
      have := abv_tot _ _ (ha.trans hb.symm) h h'
      cases a; cases b; simp at e this ⊢; exact ⟨e, this⟩
    · rw [if_neg e] at h; rw [if_neg (fun q => e q.symm)] at h'; simp at h h'; omega
  · unfold gtM at h h' ⊢
    by_cases e : a.idx = b.idx
    · rw [if_pos e] at h
      by_cases e2 : b.idx = c.idx
      · rw [if_pos e2] at h'; rw [if_pos (e.trans e2)]; exact abv_trans _ _ _ (ha.trans hb.symm) (hb.trans hc.symm) h h'
      · rw [if_neg e2] at h'; rw [if_neg (by omega)]; simp at h' ⊢; omega
    · rw [if_neg e] at h
      by_cases e2 : b.idx = c.idx
      · rw [if_neg (by omega)]; simp at h ⊢; omega
      · rw [if_neg e2] at h'; simp at h h'; rw [if_neg (by omega)]; simp; omega
theorem ordF : TOrd (fun f : Flr => f.sig.length = 64) gtF := by
  refine ⟨fun a b h => ?_, fun a b ha hb h h' => ?_, fun a b c ha hb hc h h' => ?_⟩
  · unfold gtF at h ⊢
    by_cases e : a.n = b.n
    · rw [if_pos e] at h; rw [if_pos e.symm]; exact abv_asymm _ _ h
    · rw [if_neg e] at h; rw [if_neg (fun q => e q.symm)]; simp at h ⊢; omega
  · unfold gtF at h h'
    by_cases e : a.n = b.n
    · rw [if_pos e] at h; rw [if_pos e.symm] at h'
      have := abv_tot _ _ (ha.trans hb.symm) h h'
      cases a; cases b; simp at e this ⊢; exact ⟨e, this⟩
    · rw [if_neg e] at h; rw [if_neg (fun q => e q.symm)] at h'; simp at h h'; omega
  · unfold gtF at h h' ⊢
    by_cases e : a.n = b.n
    · rw [if_pos e] at h
      by_cases e2 : b.n = c.n
      · rw [if_pos e2] at h'; rw [if_pos (e.trans e2)]; exact abv_trans _ _ _ (ha.trans hb.symm) (hb.trans hc.symm) h h'
      · rw [if_neg e2] at h'; rw [if_neg (by omega)]; simp at h' ⊢; omega
    · rw [if_neg e] at h
      by_cases e2 : b.n = c.n
      · rw [if_neg (by omega)]; simp at h ⊢; omega
      · rw [if_neg e2] at h'; simp at h h'; rw [if_neg (by omega)]; simp; omega
def mxB (a b : List Int) : List Int := mxG abv a b
def mxM (a b : Mrk) : Mrk := mxG gtM a b
def mxF (a b : Flr) : Flr := mxG gtF a b
theorem mxB_by {n : Nat} {a b : List Int} (ha : By n a) (hb : By n b) : By n (mxB a b) := mxG_ok a b ha hb
theorem mxM_ok {a b : Mrk} (ha : a.Ok) (hb : b.Ok) : (mxM a b).Ok := mxG_ok a b ha hb
theorem mxF_ok {a b : Flr} (ha : a.Ok) (hb : b.Ok) : (mxF a b).Ok := mxG_ok a b ha hb
/-- two flags with their signatures -/
def jfS (x : Bool) (s : List Int) (y : Bool) (t : List Int) : List Int := if x then (if y then mxB s t else s) else (if y then t else z64)
theorem jfS_by {x y : Bool} {s t : List Int} (hs : By 64 s) (ht : By 64 t) : By 64 (jfS x s y t) := by
  cases x <;> cases y <;> simp [jfS] <;> first | exact z64_by | assumption | exact mxB_by hs ht
def mrk (e : Ent) : Mrk := ⟨e.idx, e.val⟩
theorem mrk_ok {e : Ent} (h : e.Ok) : (mrk e).Ok := ⟨h.val⟩
/-- the join of two entries of one certificate -/
def joinE (a b : Ent) : Ent := ⟨a.cert, (mxM (mrk a) (mrk b)).idx, (mxM (mrk a) (mrk b)).val, a.fz || b.fz, jfS a.fz a.fs b.fz b.fs, a.rv || b.rv, jfS a.rv a.rs b.rv b.rs⟩
theorem joinE_ok {a b : Ent} (ha : a.Ok) (hb : b.Ok) : (joinE a b).Ok := ⟨ha.cert, (mxM_ok (mrk_ok ha) (mrk_ok hb)).val, jfS_by ha.fs hb.fs, jfS_by ha.rs hb.rs⟩
def joinR (a b : Ent) : Ent := if eqCb a.cert b.cert then joinE a b else zEnt
def joinC (a b : Ent) : Int := if eqCb a.cert b.cert then 0 else 171
theorem joinR_t {a b : Ent} (h : a.cert = b.cert) : joinR a b = joinE a b := by unfold joinR; rw [if_pos (eqCb_t h)]
theorem joinR_f {a b : Ent} (h : ¬ a.cert = b.cert) : joinR a b = zEnt := by unfold joinR; rw [if_neg (by rw [eqCb_f h]; simp)]
theorem joinC_t {a b : Ent} (h : a.cert = b.cert) : joinC a b = 0 := by unfold joinC; rw [if_pos (eqCb_t h)]
theorem joinC_f {a b : Ent} (h : ¬ a.cert = b.cert) : joinC a b = 171 := by unfold joinC; rw [if_neg (by rw [eqCb_f h]; simp)]
theorem joinR_ok {a b : Ent} (ha : a.Ok) (hb : b.Ok) : (joinR a b).Ok := by
  unfold joinR; split
  · exact joinE_ok ha hb
  · exact zEnt_ok
def covB (a b : Ent) : Bool := eqCb a.cert b.cert && eqEb (joinE a b) a
theorem covB_iff {a b : Ent} : covB a b = true ↔ a.cert = b.cert ∧ joinE a b = a := by rw [covB, Bool.and_eq_true, eqCb_iff, eqEb_iff]
/-- an entry that may be -/
structure Ent.Fit (e : Ent) : Prop where
  fz : e.fz = false → e.fs = z64
  rv : e.rv = false → e.rs = z64
theorem jfS_fit {x y : Bool} {s t : List Int} (h : (x || y) = false) : jfS x s y t = z64 := by
  cases x <;> cases y <;> simp at h <;> rfl
theorem joinE_fit (a b : Ent) : (joinE a b).Fit := ⟨fun h => jfS_fit h, fun h => jfS_fit h⟩
theorem jfS_comm {x y : Bool} {s t : List Int} (hs : By 64 s) (ht : By 64 t) : jfS x s y t = jfS y t x s := by
  cases x <;> cases y <;> simp [jfS]
  exact (ordB 64).comm s t hs.len ht.len
theorem jfS_assoc {x y z : Bool} {s t u : List Int} (hs : By 64 s) (ht : By 64 t) (hu : By 64 u) : jfS (x || y) (jfS x s y t) z u = jfS x s (y || z) (jfS y t z u) := by
  cases x <;> cases y <;> cases z <;> simp [jfS]
  exact (ordB 64).assoc s t u hs.len ht.len hu.len
theorem jfS_idem {x : Bool} {s : List Int} (h : x = false → s = z64) : jfS x s x s = s := by
  cases x
  · simp [jfS, h rfl]
  · simp [jfS, mxB, mxG_idem]
theorem joinE_comm {a b : Ent} (ha : a.Ok) (hb : b.Ok) (hc : a.cert = b.cert) : joinE a b = joinE b a := by
  unfold joinE
  rw [hc, show mxM (mrk a) (mrk b) = mxM (mrk b) (mrk a) from ordM.comm _ _ ha.val.len hb.val.len, Bool.or_comm a.fz, Bool.or_comm a.rv, jfS_comm ha.fs hb.fs, jfS_comm ha.rs hb.rs]
theorem mrk_join (a b : Ent) : mrk (joinE a b) = mxM (mrk a) (mrk b) := rfl
theorem joinE_assoc {a b c : Ent} (ha : a.Ok) (hb : b.Ok) (hc : c.Ok) : joinE (joinE a b) c = joinE a (joinE b c) := by
  have h1 : mxM (mxM (mrk a) (mrk b)) (mrk c) = mxM (mrk a) (mxM (mrk b) (mrk c)) := ordM.assoc _ _ _ ha.val.len hb.val.len hc.val.len
  have h2 := jfS_assoc (x := a.fz) (y := b.fz) (z := c.fz) ha.fs hb.fs hc.fs
  have h3 := jfS_assoc (x := a.rv) (y := b.rv) (z := c.rv) ha.rs hb.rs hc.rs
  show (⟨_, (mxM (mrk (joinE a b)) (mrk c)).idx, (mxM (mrk (joinE a b)) (mrk c)).val, _, _, _, _⟩ : Ent) = ⟨_, (mxM (mrk a) (mrk (joinE b c))).idx, (mxM (mrk a) (mrk (joinE b c))).val, _, _, _, _⟩
  rw [mrk_join, mrk_join, h1]
  simp only [joinE, h2, h3, Bool.or_assoc]
theorem joinE_idem {a : Ent} (h : a.Fit) : joinE a a = a := by
  unfold joinE
  rw [show mxM (mrk a) (mrk a) = mrk a from mxG_idem _, Bool.or_self, Bool.or_self, jfS_idem h.fz, jfS_idem h.rv]
  rfl
end Go.Proofs.Ytebaiaghbfbgmaa
