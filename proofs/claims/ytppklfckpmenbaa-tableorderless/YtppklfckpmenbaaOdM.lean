import Derived.Test.YtppklfckpmenbaaTvM
set_option linter.unusedSimpArgs false
set_option linter.unusedVariables false
namespace Go.Proofs.Ytppklfckpmenbaa
open Go.RowKit

/-! TableOrderless: entries in any order, and any number of times. -/
/-- nothing that raises -/
def Nr (l : List Sml) : Prop := ∀ x ∈ l, x.rs = false ∧ x.Ok
theorem Nr.app {a b : List Sml} (ha : Nr a) (hb : Nr b) : Nr (a ++ b) := fun x hx => (List.mem_append.1 hx).elim (ha x) (hb x)
theorem Nr.rev {a : List Sml} (ha : Nr a) : Nr a.reverse := fun x hx => ha x (List.mem_reverse.1 hx)
/-- what one thing says of a serial -/
def entO (s : Int) (x : Sml) : Option Ent := if s = x.ser ∧ ¬ x.ser < 0 then some (fitE (cf x.ser) x.e) else none
theorem entO_go {x : Sml} (hx : x.Ok) (s : Int) : GO cf s (entO s x) := by
  intro e he
  unfold entO at he
  by_cases q : s = x.ser ∧ ¬ x.ser < 0
  · rw [if_pos q] at he
    cases he
    rw [q.1]
    exact fitE_ge (cf_ok _) hx.e
  · rw [if_neg q] at he; cases he
def accO (s : Int) (l : List Sml) (o : Option Ent) : Option Ent := l.foldl (fun o x => jo o (entO s x)) o
theorem accO_cons (s : Int) (x : Sml) (l : List Sml) (o : Option Ent) : accO s (x :: l) o = accO s l (jo o (entO s x)) := rfl
theorem accO_go {s : Int} : ∀ {l : List Sml} {o : Option Ent}, Nr l → GO cf s o → GO cf s (accO s l o)
  | [], o, _, ho => ho
  | x :: l, o, hl, ho => accO_go (l := l) (fun y hy => hl y (by simp [hy])) (jo_go ho (entO_go (hl x (by simp)).2 s))
theorem noneO_go (s : Int) : GO cf s none := fun e h => by cases h
theorem accO_at {s : Int} : ∀ {l : List Sml} {o : Option Ent}, Nr l → GO cf s o → accO s l o = jo o (accO s l none)
  | [], o, _, ho => (jo_none o).symm
  | x :: l, o, hl, ho => by
    have hx := entO_go (hl x (by simp)).2 s
    have hl' : Nr l := fun y hy => hl y (by simp [hy])
    rw [accO_cons, accO_cons, accO_at hl' (jo_go ho hx)]
    have e : jo none (entO s x) = entO s x := rfl
    rw [e, accO_at (o := entO s x) hl' hx, jo_assoc ho hx (accO_go hl' (noneO_go s))]
theorem accO_app {s : Int} {a b : List Sml} (ha : Nr a) (hb : Nr b) : accO s (a ++ b) none = jo (accO s a none) (accO s b none) := by
  have : accO s (a ++ b) none = accO s b (accO s a none) := List.foldl_append
  rw [this, accO_at hb (accO_go ha (noneO_go s))]
theorem accO_rev {s : Int} : ∀ {l : List Sml}, Nr l → accO s l.reverse none = accO s l none
  | [], _ => rfl
  | x :: l, hl => by
    have hl' : Nr l := fun y hy => hl y (by simp [hy])
    have hx : Nr [x] := fun y hy => hl y (by simp at hy; simp [hy])
    rw [List.reverse_cons, accO_app hl'.rev hx, accO_rev hl', jo_comm (accO_go hl' (noneO_go s)) (accO_go hx (noneO_go s)), ← accO_app hx hl']
    rfl
theorem accO_low {s : Int} (h : s < 0) : ∀ {l : List Sml}, accO s l none = none
  | [] => rfl
  | x :: l => by
    have e : entO s x = none := by unfold entO; rw [if_neg (by rintro ⟨rfl, q⟩; exact q h)]
    rw [accO_cons, e]
    exact accO_low h
theorem md_nr : ∀ {l : List Sml} {F : Int → Option Ent}, Nr l → l.foldl mdStep (zFlr, F) = (zFlr, fun s => accO s l (F s))
  | [], F, _ => rfl
  | x :: l, F, hl => by
    have hx := (hl x (by simp)).1
    have hl' : Nr l := fun y hy => hl y (by simp [hy])
    have e : mdStep (zFlr, F) x = (zFlr, fun s => jo (F s) (entO s x)) := by
      unfold mdStep
      rw [if_neg (by rw [hx]; simp)]
      by_cases q : x.ser < zFlr.n
      · rw [if_pos q]
        congr 1; funext s
        have : entO s x = none := by unfold entO; rw [if_neg (fun h => h.2 q)]
        rw [this, jo_none]
      · rw [if_neg q]
        congr 1; funext s
        unfold entO
        by_cases r : s = x.ser
        · rw [if_pos r, if_pos ⟨r, q⟩]
        · rw [if_neg r, if_neg (fun h => r h.1), jo_none]
    rw [List.foldl_cons, e, md_nr hl']
    rfl
theorem mdS_nr {l : List Sml} (hl : Nr l) : mdS l = (zFlr, fun s => accO s l none) := md_nr hl
/-- a table that these things make -/
theorem MdI.nr {l : List Sml} {f : Flr} {xs : List Ent} (h : MdI l f xs) (hl : Nr l) : f = zFlr ∧ ∀ s, lk xs s = accO s l none := by
  have e := h.eq
  rw [mdS_nr hl, Prod.mk.injEq] at e
  exact ⟨e.1, fun s => congrFun e.2 s⟩
/-- what is made of them in another order, or more than once, is the same table -/
theorem made_same {l l' : List Sml} {A B : Tv} (hA : MdI l A.f A.s.xs) (hB : MdI l' B.f B.s.xs) (ha : A.a = 0) (hb : B.a = 0) (hl : Nr l) (hl' : Nr l') (h : ∀ s, accO s l none = accO s l' none) : smT A.t B.t = true := by
  obtain ⟨f1, e1⟩ := hA.nr hl
  obtain ⟨f2, e2⟩ := hB.nr hl'
  rw [smT_iff]
  refine Tb.ext' (by simp only [Tv.t]; rw [f1, f2]) (by simp only [Tv.t]; rw [ha, hb]) ?_
  exact lk_ext hA.gt.so hB.gt.so (fun s => by show lk A.s.xs s = lk B.s.xs s; rw [e1, e2, h])
theorem made_rev {l : List Sml} {A B : Tv} (hA : MdI l.reverse A.f A.s.xs) (hB : MdI l B.f B.s.xs) (ha : A.a = 0) (hb : B.a = 0) (hl : Nr l) : smT A.t B.t = true :=
  made_same hA hB ha hb hl.rev hl (fun s => accO_rev hl)
theorem made_twice {l : List Sml} {A B : Tv} (hA : MdI (l ++ l.reverse ++ l) A.f A.s.xs) (hB : MdI l B.f B.s.xs) (ha : A.a = 0) (hb : B.a = 0) (hl : Nr l) : smT A.t B.t = true := by
  refine made_same hA hB ha hb ((hl.app hl.rev).app hl) hl (fun s => ?_)
  have g := accO_go (s := s) hl (noneO_go s)
  rw [accO_app (hl.app hl.rev) hl, accO_app hl hl.rev, accO_rev hl, jo_idem g, jo_idem g]
theorem made_parts {l : List Sml} {k : Nat} {A B C J : Tv} (hA : MdI (l.take k) A.f A.s.xs) (hB : MdI (l.drop k) B.f B.s.xs) (hC : MdI l C.f C.s.xs) (ha : A.a = 0) (hb : B.a = 0) (hc : C.a = 0) (hl : Nr l) (hJ : J.t = jt A.t B.t) : smT J.t C.t = true := by
  have hl1 : Nr (l.take k) := fun x hx => hl x (List.mem_of_mem_take hx)
  have hl2 : Nr (l.drop k) := fun x hx => hl x (List.mem_of_mem_drop hx)
  obtain ⟨f1, e1⟩ := hA.nr hl1
  obtain ⟨f2, e2⟩ := hB.nr hl2
  obtain ⟨f3, e3⟩ := hC.nr hl
  have gA : GT cf A.t := by have := hA.gt; unfold Tv.t; rw [ha]; exact this
  have gB : GT cf B.t := by have := hB.gt; unfold Tv.t; rw [hb]; exact this
  obtain ⟨-, s2, s3⟩ := jt_spec gA gB
  have hz : mxF zFlr zFlr = zFlr := by unfold mxF mxG; split <;> rfl
  have hfl : mxF A.t.fl B.t.fl = zFlr := by simp only [Tv.t]; rw [f1, f2, hz]
  rw [smT_iff, hJ]
  refine Tb.ext' (by show mxF A.t.fl B.t.fl = C.f; rw [hfl, f3]) (by show mxA A.a B.a = C.a; rw [ha, hb, hc, mxA_idem]) ?_
  refine lk_ext s2 hC.gt.so (fun s => ?_)
  have e6 : lk C.t.l s = accO s l none := e3 s
  rw [s3, e6, hfl]
  have e4 : lk A.t.l s = accO s (l.take k) none := e1 s
  have e5 : lk B.t.l s = accO s (l.drop k) none := e2 s
  by_cases q : zFlr.n ≤ s
  · rw [if_pos q, e4, e5, ← accO_app hl1 hl2, List.take_append_drop]
  · rw [if_neg q, accO_low (by have : zFlr.n = 0 := rfl; omega)]
end Go.Proofs.Ytppklfckpmenbaa
