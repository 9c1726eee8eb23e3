import Derived.Test.YtejagcngbgnogaaGreatQShr
import Derived.Test.YtejagcngbgnogaaGreatQGboZ
set_option linter.unusedSimpArgs false
set_option linter.unusedVariables false
namespace Go.Proofs.YtejagcngbgnogaaGreat
open Go.RowKit
def mkB (i : Nat) : Int := (2 * (i : Int) + 1) % 256
theorem mkB_bd (i : Nat) : 0 ≤ mkB i ∧ mkB i ≤ 255 := by unfold mkB; omega
structure Hd (w : World) (gS N : Nat) (P : Nat → Sl) (lv wv : Value) (C : Nat → List Int) (wr : World) : Prop where
 s : Arr wr gS 26 [lv, wv]
 ge : w.heap.size ≤ gS
 lrow : wr.ownsRow w.heap.size 33 1 lv N (gB P N)
 len : ∀ j, j < N → (C j).length = (P j).n
 own : ∀ j, j < N → cI wr w.heap.size (P j).v (C j)
 sz : ∀ j, j < N → (P j).n ≤ 100000
 pp : ∀ i j, i < N → j < N → i ≠ j → ∀ g, (P i).v.ownBlock = some g → (P j).v.ownBlock ≠ some g
 bel : Below w.heap.size w wr
theorem Hd.later {w : World} {gS N : Nat} {P : Nat → Sl} {lv wv : Value} {C : Nat → List Int} {wr w' : World} (h : Hd w gS N P lv wv C wr) (hb : Below wr.heap.size wr w') : Hd w gS N P lv wv C w' :=
 ⟨h.s.later hb, h.ge, iB h.lrow hb, h.len, fun j hj => (h.own j hj).later hb, h.sz, h.pp, h.bel.trans (hb.mono h.bel.size)⟩
theorem Hd.congr {w : World} {gS N : Nat} {P : Nat → Sl} {lv wv : Value} {C C' : Nat → List Int} {wr : World} (h : Hd w gS N P lv wv C wr) (he : ∀ j, j < N → C j = C' j) : Hd w gS N P lv wv C' wr :=
 ⟨h.s, h.ge, h.lrow, fun j hj => by rw [← he j hj]; exact h.len j hj, fun j hj => by rw [← he j hj]; exact h.own j hj, h.sz, h.pp, h.bel⟩
theorem Hd.of {w : World} {gS N : Nat} {P Q : Nat → Sl} {lv wv : Value} {wr : World} (h : Shf w gS N P Q lv wv wr) : Hd w gS N P lv wv (fun j => (P j).l) wr :=
 ⟨h.s, h.ge, h.lrow, fun j hj => (h.pn j hj).symm, h.p, h.sz, h.pp, h.bel⟩
theorem Hd.okP {w : World} {gS N : Nat} {P : Nat → Sl} {lv wv : Value} {C : Nat → List Int} {wr : World} (h : Hd w gS N P lv wv C wr) (j : Nat) (hj : j < N) : Sl.Ok wr ⟨(P j).a, (P j).n, (P j).c, C j⟩ :=
 kE (s := ⟨(P j).a, (P j).n, (P j).c, C j⟩) (h.own j hj) (h.len j hj).symm
theorem Hd.at {w : World} {gS N : Nat} {P : Nat → Sl} {lv wv : Value} {C : Nat → List Int} {wr : World} (h : Hd w gS N P lv wv C wr) (j : Nat) (hj : j < N) (hn : 0 < (P j).n) : ∃ g, (P j).a = some ⟨g, 0, none⟩ := by
 rcases (h.own j hj).1.2 with ⟨h1, h2⟩ | ⟨g, cap, cur, h1, -⟩
 ·have := h.len j hj; omega
 ·simp only [Sl.v, Value.slice.injEq] at h1; exact ⟨g, h1.1⟩
theorem Hd.set {w : World} {gS N : Nat} {P : Nat → Sl} {lv wv : Value} {C : Nat → List Int} {wr : World} (h : Hd w gS N P lv wv C wr) (i : Nat) (hi : i < N) (g k : Nat) (hg : (P i).a = some ⟨g, 0, none⟩) (v : Int) (hv : 0 ≤ v ∧ v ≤ 255) :
  Hd w gS N P lv wv (fun j => if j = i then (C i).set k v else C j) (wr.setCell ⟨g, k, none⟩ (.int .u8 v)) := by
 have hob : (P i).v.ownBlock = some g := by simp [Sl.v, hg, Value.ownBlock]
 have ho := h.own i hi
 have hge := (ho.1.lt g hob).1
 have hgS : gS ≠ g := fun e => cF ho.1 h.s (by decide) (by rw [hob, e])
 refine ⟨h.s.other _ hgS, h.ge, ownsRow_setCell_other h.lrow (fun e => eJ ho.1 h.lrow (by decide) g hob e.symm) _, fun j hj => ?_, fun j hj => ?_, h.sz, h.pp, h.bel.setCell (by exact hge) _⟩
 ·by_cases e : j = i
  ·subst e; simp only [if_true, List.length_set]; exact h.len j hj
  ·simp only [e, if_false]; exact h.len j hj
 ·by_cases e : j = i
  ·subst e; simp only [if_true]
   have hv' : (P j).v = .slice (some ⟨g, 0, none⟩) (P j).n (P j).c := by simp [Sl.v, hg]
   refine ⟨?_, fun x hx => ?_⟩
   ·have h1 := ho.1
    rw [hv', h.len j hj] at h1
    have := (h1.stored k (.int .u8 v)).1
    rw [lH] at this
    rw [hv', List.length_set, h.len j hj]; exact this
   ·rcases List.mem_or_eq_of_mem_set hx with hx | rfl
    ·exact ho.2 x hx
    ·exact hv
  ·simp only [e, if_false]
   exact ⟨ownsRow_setCell_other (h.own j hj).1 (fun e2 => h.pp j i hj hi e g e2 hob) _, (h.own j hj).2⟩
def fH (P : Nat → Sl) (i k : Nat) (j : Nat) : List Int := if j < i then List.replicate (P j).n (mkB j) else if j = i then List.replicate k (mkB i) ++ (P i).l.drop k else (P j).l
theorem overTo_set {P : Nat → Sl} {i k : Nat} (hk : k < (P i).l.length) (j : Nat) : (if j = i then (fH P i k i).set k (mkB i) else fH P i k j) = fH P i (k + 1) j := by
 by_cases e : j = i
 ·subst e
  simp only [if_true, fH, Nat.lt_irrefl, if_false]
  rw [List.set_append_right _ _ (by simp), List.length_replicate, Nat.sub_self, List.drop_eq_getElem_cons hk, List.set_cons_zero, List.replicate_succ', List.append_assoc]
  rfl
 ·simp only [e, if_false, fH]
theorem overTo_next {P : Nat → Sl} {i : Nat} (hl : (P i).l.length = (P i).n) (j : Nat) : fH P i (P i).n j = fH P (i + 1) 0 j := by
 unfold fH
 by_cases h1 : j < i
 ·simp only [h1, if_true, show j < i + 1 by omega]
 ·by_cases h2 : j = i
  ·subst h2
   simp only [Nat.lt_irrefl, if_false, if_true, show j < j + 1 by omega]
   rw [List.drop_eq_nil_of_le (by omega), List.append_nil]
  ·simp only [h1, h2, if_false, show ¬ j < i + 1 by omega]
   by_cases h3 : j = i + 1
   ·subst h3; simp
   ·simp only [h3, if_false]
theorem overTo_zero (P : Nat → Sl) (j : Nat) : (P j).l = fH P 0 0 j := by
 unfold fH
 by_cases h : j = 0
 ·subst h; simp
 ·simp [h]
theorem Hd.grown {w : World} {gS N : Nat} {P : Nat → Sl} {lv wv lg : Value} {C : Nat → List Int} {wr w' : World} {n : Nat} {xs : List Value} (h : Hd w gS N P lv wv C wr) (hg : wr.grownBy w' lg.ownBlock) (hl : wr.ownsRow w.heap.size 33 1 lg n xs) (ha : Apt lv lg) : Hd w gS N P lv wv C w' :=
 ⟨(hg.block gS h.s.lt (cF hl h.s (by decide))).trans h.s, h.ge, h.lrow.kept hg ha, h.len, fun j hj => ⟨eM (h.own j hj).1 hg (eJ (h.own j hj).1 hl (by decide)), (h.own j hj).2⟩, h.sz, h.pp, h.bel.grown hg h.bel.size (fun k hk => (hl.lt k hk).1)⟩
theorem Hd.zeros {w : World} {gS N : Nat} {P : Nat → Sl} {lv wv : Value} {C : Nat → List Int} {wr W1 : World} (h : Hd w gS N P lv wv C wr) (k : Nat) (hk : k < N) (hg : wr.grownBy W1 (P k).v.ownBlock) (ho : W1.ownsRow w.heap.size 5 1 (P k).v (C k).length (U8 (C k))) : Hd w gS N P lv wv C W1 := by
 have hok := h.own k hk
 refine ⟨(hg.block gS h.s.lt (cF hok.1 h.s (by decide))).trans h.s, h.ge, eM h.lrow hg (eJ h.lrow hok.1 (by decide)), h.len, fun j hj => ?_, h.sz, h.pp, h.bel.grown hg h.bel.size (fun g e => (hok.1.lt g e).1)⟩
 by_cases e : j = k
 ·subst e; exact ⟨ho, hok.2⟩
 ·exact ⟨eM (h.own j hj).1 hg (fun g hg2 e2 => h.pp j k hj hk e g hg2 e2.symm), (h.own j hj).2⟩
theorem Apt.nil (v : Value) : Apt v (.slice none 0 0) := by
 unfold Apt
 cases h : v.ownBlock with
 | none => exact .inl rfl
 | some k => right; simp [Value.ownBlock]
theorem pV {P : Program} {w : World} {ops : Array Oper} {rest : List Oper} {o : Oper} {a : Act} {Q : Exit → Act → World → Prop} (hgd : o.guard = none) (s x : Operand) (t u : TypeId)
  (ho : o.op = .call { callee := .builtin .append, args := #[s, x], argTypes := #[t, u] }) (vs vx v' : Value) (w' : World) (hs : a.eval s = vs) (hx : a.eval x = vx)
  (hr : (Builtin.append_ #[t, u] o.type #[vs, vx]).run P w = .ok v' w') (h : wpList P ops Q rest (a.put o.dst v') w') : wpList P ops Q (o :: rest) a w := by
 refine wpList_plain hgd fun K hK => ?_
 unfold Oper.wp execOp
 simp only [ho, resolve, invoke, builtin, Sem.run_bind, Sem.run_pure, Result.andThen_ok, List.map_toArray, List.map_cons, List.map_nil, hs, hx, hr]
 exact hK _ _ h
def fB (P : Nat → Sl) (j : Nat) : List Int := List.replicate (P j).n (mkB j)
structure Lg (w : World) (N k : Nat) (P R : Nat → Sl) (lv lg : Value) (wr : World) : Prop where
 row : wr.ownsRow w.heap.size 33 1 lg k (gB R k)
 apt : Apt lv lg
 own : ∀ x, x < k → cI wr w.heap.size (R x).v (R x).l
 rn : ∀ x, x < k → (R x).n = (R x).l.length
 l : ∀ x, x < k → (R x).l = fB P x ++ List.replicate 300 0
 off : ∀ x j, x < k → j < N → j ≠ x → ∀ g, (P j).v.ownBlock = some g → (R x).v.ownBlock ≠ some g
theorem Lg.put {w : World} {gS N k : Nat} {P R : Nat → Sl} {lv wv lg lg' : Value} {wr W1 w3 : World} {ob : Obj} (h : Lg w N k P R lv lg wr) (hd0 : Hd w gS N P lv wv (fB P) wr) (hk : k < N) (hg1 : wr.grownBy W1 (P k).v.ownBlock) (hd1 : Hd w gS N P lv wv (fB P) W1) (s : Sl) (hs : cI W1 w.heap.size s.v s.l) (hsn : s.n = s.l.length) (hl : s.l = fB P k ++ List.replicate 300 0)
  (hat : s.v.ownBlock = (P k).v.ownBlock ∨ s.v.ownBlock = some wr.heap.size) (hg : (W1.alloc ob).grownBy w3 lg.ownBlock) (hr : w3.ownsRow w.heap.size 33 1 lg' (k + 1) (gB R k ++ [s.v])) (ha : lg'.ownBlock = lg.ownBlock ∨ lg'.ownBlock = some (W1.alloc ob).heap.size) :
  Lg w N (k + 1) P (fun x => if x = k then s else R x) lv lg' w3 ∧ Hd w gS N P lv wv (fB P) w3 := by
 have hPk := hd0.own k hk
 have hrowW := eM h.row hg1 (eJ h.row hPk.1 (by decide))
 have hrow1 := hrowW.alloc ob
 have hba : Below W1.heap.size W1 (W1.alloc ob) := (Below.refl _ _).alloc (Nat.le_refl _) _
 have hd2 := hd1.later hba
 refine ⟨⟨by rw [← oR]; exact hr, (Apt.grown h.apt.symm hd2.lrow ha).symm, fun x hx => ?_, fun x hx => ?_, fun x hx => ?_, fun x j hx hj hjx => ?_⟩, hd2.grown hg hrow1 h.apt⟩
 ·by_cases e : x = k
  ·simp only [e, if_true]
   have hs2 := hs.later hba
   exact ⟨eM hs2.1 hg (eJ hs2.1 hrow1 (by decide)), hs2.2⟩
  ·simp only [e, if_false]
   have ho := h.own x (by omega)
   have ho1 : cI W1 w.heap.size (R x).v (R x).l := ⟨eM ho.1 hg1 (fun g hg2 e2 => h.off x k (by omega) hk (by omega) g e2.symm hg2), ho.2⟩
   have ho2 := ho1.later hba
   exact ⟨eM ho2.1 hg (eJ ho2.1 hrow1 (by decide)), ho2.2⟩
 ·by_cases e : x = k
  ·simp only [e, if_true]; exact hsn
  ·simp only [e, if_false]; exact h.rn x (by omega)
 ·by_cases e : x = k
  ·subst e; simp only [if_true]; exact hl
  ·simp only [e, if_false]; exact h.l x (by omega)
 ·by_cases e : x = k
  ·subst e
   simp only [if_true]
   intro g hg2 e2
   rcases hat with h1 | h1
   ·rw [h1] at e2; exact hd0.pp j x hj hk hjx g hg2 e2
   ·rw [h1] at e2
    simp only [Option.some.injEq] at e2
    have := ((hd0.own j hj).1.lt g hg2).2; omega
  ·simp only [e, if_false]; exact h.off x j (by omega) hj hjx
theorem overTo_end (P : Nat → Sl) (N j : Nat) (h : j < N) : fH P N 0 j = fB P j := by unfold fH fB; simp only [h, if_true]
end Go.Proofs.YtejagcngbgnogaaGreat
