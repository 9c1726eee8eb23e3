import Derived.Test.YtmdpmkdofgligaaShP13
import Derived.Test.YtmdpmkdofgligaaShA13
namespace Go.Proofs.Ytmdpmkdofgligaa
open Go.RowKit

theorem Arr.liesE {w : World} {g : Nat} {ty : TypeId} {l : List Int} {E : List Value} (h : Arr w g ty (U8 l ++ E)) : Lies w (some ⟨g, 0, none⟩) l := by
  intro hp
  refine ⟨g, 0, rfl, h.lt, fun i hi => ?_⟩
  rw [Nat.zero_add, h.cell i, List.getElem?_append_left (by simpa using hi)]
  exact U8_at l i hi
theorem Arr.cell8E {w : World} {g : Nat} {ty : TypeId} {l : List Int} {E : List Value} (h : Arr w g ty (U8 l ++ E)) (i : Nat) (hi : i < l.length) : w.cell? ⟨g, i, none⟩ = some (.int .u8 (l.getD i 0)) := by
  rw [h.cell i, List.getElem?_append_left (by simpa using hi)]
  exact U8_at l i hi
theorem Arr.set8E {w : World} {g : Nat} {ty : TypeId} {l : List Int} {E : List Value} (h : Arr w g ty (U8 l ++ E)) (i : Nat) (x : Int) (hi : i < l.length) : Arr (w.setCell ⟨g, i, none⟩ (.int .u8 x)) g ty (U8 (l.set i x) ++ E) := by
  have h1 := h.set i (.int .u8 x)
  rw [List.set_append_left _ _ (by simpa using hi)] at h1
  have e : (U8 l).set i (.int .u8 x) = U8 (l.set i x) := by simp [U8, List.map_set]
  rw [e] at h1
  exact h1
def mkB (i : Nat) : Int := (2 * (i : Int) + 1) % 256
theorem mkB_bd (i : Nat) : 0 ≤ mkB i ∧ mkB i ≤ 255 := by unfold mkB; omega
/-- the lists, each a block of its own, with what stands in them -/
structure Hd (w : World) (gS N : Nat) (P : Nat → Sl) (lv wv : Value) (C : Nat → List Int) (wr : World) : Prop where
  s : Arr wr gS 26 [lv, wv]
  ge : w.heap.size ≤ gS
  lrow : wr.ownsRow w.heap.size 29 1 lv N (vsOf P N)
  len : ∀ j, j < N → (C j).length = (P j).n
  isB : ∀ j, j < N → IsB (C j)
  full : ∀ j, j < N → (P j).c = (P j).n
  sz : ∀ j, j < N → (P j).n ≤ 100000
  nn : ∀ j, j < N → (P j).a = none → (P j).n = 0
  rows : ∀ j, j < N → 0 < (P j).n → ∃ g E, (P j).a = some ⟨g, 0, none⟩ ∧ w.heap.size ≤ g ∧ Arr wr g 5 (U8 (C j) ++ E)
  pp : ∀ i j, i < N → j < N → i ≠ j → 0 < (P i).n → 0 < (P j).n → ∀ x y, (P i).a = some x → (P j).a = some y → x.block ≠ y.block
  bel : Below w.heap.size w wr
theorem Hd.later {w : World} {gS N : Nat} {P : Nat → Sl} {lv wv : Value} {C : Nat → List Int} {wr w' : World} (h : Hd w gS N P lv wv C wr) (hb : Below wr.heap.size wr w') : Hd w gS N P lv wv C w' :=
  ⟨h.s.later hb, h.ge, own_later h.lrow hb, h.len, h.isB, h.full, h.sz, h.nn, fun j hj hp => let ⟨g, E, a, b, c⟩ := h.rows j hj hp; ⟨g, E, a, b, c.later hb⟩, h.pp, h.bel.trans (hb.mono h.bel.size)⟩
theorem Hd.congr {w : World} {gS N : Nat} {P : Nat → Sl} {lv wv : Value} {C C' : Nat → List Int} {wr : World} (h : Hd w gS N P lv wv C wr) (he : ∀ j, j < N → C j = C' j) : Hd w gS N P lv wv C' wr :=
  ⟨h.s, h.ge, h.lrow, fun j hj => by rw [← he j hj]; exact h.len j hj, fun j hj => by rw [← he j hj]; exact h.isB j hj, h.full, h.sz, h.nn, fun j hj hp => by rw [← he j hj]; exact h.rows j hj hp, h.pp, h.bel⟩
theorem Hd.of {w : World} {gS N : Nat} {P Q : Nat → Sl} {lv wv : Value} {wr : World} (h : Shf w gS N P Q lv wv wr) : Hd w gS N P lv wv (fun j => (P j).l) wr := by
  refine ⟨h.s, h.ge, h.lrow, fun j hj => (h.p j hj).ok.len, fun j hj => (h.p j hj).ok.isB, fun j hj => (h.p j hj).full, h.sz, fun j hj ha => ((h.p j hj).ok.nn ha).1, fun j hj hp => ?_, fun i j hi hj hij hpi hpj x y hx hy e => ?_, h.bel⟩
  · exact (h.p j hj).row (by rw [(h.p j hj).ok.len]; exact hp)
  · exact h.pp i j hi hj hij (by rw [(h.p j hj).ok.len]; exact hpj) y hy (by rw [(h.p i hi).ok.len]; exact hpi) x hx (by rw [e])
theorem Hd.okP {w : World} {gS N : Nat} {P : Nat → Sl} {lv wv : Value} {C : Nat → List Int} {wr : World} (h : Hd w gS N P lv wv C wr) (j : Nat) (hj : j < N) : Sl.Ok wr ⟨(P j).a, (P j).n, (P j).n, C j⟩ := by
  refine ⟨h.len j hj, Nat.le_refl _, by have := h.sz j hj; unfold maxLen; show (P j).n ≤ _; omega, fun ha => ⟨h.nn j hj ha, h.nn j hj ha⟩, h.isB j hj, fun hp => ?_⟩
  have hp' : 0 < (P j).n := by rw [← h.len j hj]; exact hp
  obtain ⟨g, E, ha, -, hA⟩ := h.rows j hj hp'
  obtain ⟨b, off, e, hlt, hc⟩ := hA.liesE hp
  exact ⟨b, off, ha.trans e, hlt, hc⟩
theorem Hd.set {w : World} {gS N : Nat} {P : Nat → Sl} {lv wv : Value} {C : Nat → List Int} {wr : World} (h : Hd w gS N P lv wv C wr) (i : Nat) (hi : i < N) (g k : Nat) (hg : (P i).a = some ⟨g, 0, none⟩) (hn : 0 < (P i).n) (hk : k < (P i).n) (v : Int) (hv : 0 ≤ v ∧ v ≤ 255) :
    Hd w gS N P lv wv (fun j => if j = i then (C i).set k v else C j) (wr.setCell ⟨g, k, none⟩ (.int .u8 v)) := by
  obtain ⟨g', E, hg', hge, hA⟩ := h.rows i hi hn
  rw [hg] at hg'
  simp only [Option.some.injEq, Addr.mk.injEq, and_true] at hg'
  subst hg'
  have hgS : gS ≠ g := fun e => arr_ne_arr hA h.s (by decide) e.symm
  refine ⟨h.s.other _ hgS, h.ge, ownsRow_setCell_other h.lrow (fun e => own_ne_arr h.lrow hA (by decide) e.symm) _, fun j hj => ?_, fun j hj => ?_, h.full, h.sz, h.nn, fun j hj hp => ?_, h.pp, h.bel.setCell (by exact hge) _⟩
  · by_cases e : j = i
    · subst e; simp only [if_true, List.length_set]; exact h.len j hj
    · simp only [e, if_false]; exact h.len j hj
  · by_cases e : j = i
    · subst e; simp only [if_true]
      intro x hx
      rcases List.mem_or_eq_of_mem_set hx with hx | rfl
      · exact h.isB j hj x hx
      · exact hv
    · simp only [e, if_false]; exact h.isB j hj
  · by_cases e : j = i
    · subst e
      refine ⟨g, E, hg, hge, ?_⟩
      simp only [if_true]
      exact hA.set8E k v (by rw [h.len j hj]; exact hk)
    · obtain ⟨g2, E2, h2, hge2, hA2⟩ := h.rows j hj hp
      refine ⟨g2, E2, h2, hge2, ?_⟩
      simp only [e, if_false]
      exact hA2.other _ (by have := h.pp j i hj hi e hp hn _ _ h2 hg; exact this)
/-- list i written over up to k, those ahead of it whole -/
def overTo (P : Nat → Sl) (i k : Nat) (j : Nat) : List Int := if j < i then List.replicate (P j).n (mkB j) else if j = i then List.replicate k (mkB i) ++ (P i).l.drop k else (P j).l
theorem overTo_set {P : Nat → Sl} {i k : Nat} (hk : k < (P i).l.length) (j : Nat) : (if j = i then (overTo P i k i).set k (mkB i) else overTo P i k j) = overTo P i (k + 1) j := by
  by_cases e : j = i
  · subst e
    simp only [if_true, overTo, Nat.lt_irrefl, if_false]
    rw [List.set_append_right _ _ (by simp), List.length_replicate, Nat.sub_self, List.drop_eq_getElem_cons hk, List.set_cons_zero, List.replicate_succ', List.append_assoc]
    rfl
  · simp only [e, if_false, overTo]
theorem overTo_next {P : Nat → Sl} {i : Nat} (hl : (P i).l.length = (P i).n) (j : Nat) : overTo P i (P i).n j = overTo P (i + 1) 0 j := by
  unfold overTo
  by_cases h1 : j < i
  · simp only [h1, if_true, show j < i + 1 by omega]
  · by_cases h2 : j = i
    · subst h2
      simp only [Nat.lt_irrefl, if_false, if_true, show j < j + 1 by omega]
      rw [List.drop_eq_nil_of_le (by omega), List.append_nil]
    · simp only [h1, h2, if_false, show ¬ j < i + 1 by omega]
      by_cases h3 : j = i + 1
      · subst h3; simp
      · simp only [h3, if_false]
theorem overTo_zero (P : Nat → Sl) (j : Nat) : (P j).l = overTo P 0 0 j := by
  unfold overTo
  by_cases h : j = 0
  · subst h; simp
  · simp [h]
theorem Sl.Ok.grown' {w w' : World} {s : Sl} {row : Option Nat} (h : s.Ok w) (hg : w.grownBy w' row) (hne : s.Off row) : s.Ok w' := by
  refine ⟨h.len, h.le, h.mx, h.nn, h.isB, fun hp => ?_⟩
  obtain ⟨b, off, ha, hlt, hc⟩ := h.lies hp
  have hn := hne hp _ ha
  exact ⟨b, off, ha, Nat.lt_of_lt_of_le hlt hg.size, fun i hi => (hg.cell_far ⟨b, off + i, none⟩ hlt hn).trans (hc i hi)⟩
theorem Hd.grown {w : World} {gS N : Nat} {P : Nat → Sl} {lv wv lg : Value} {C : Nat → List Int} {wr w' : World} {n : Nat} {xs : List Value} (h : Hd w gS N P lv wv C wr) (hg : wr.grownBy w' lg.ownBlock) (hl : wr.ownsRow w.heap.size 29 1 lg n xs) (ha : Apt lv lg) : Hd w gS N P lv wv C w' := by
  refine ⟨(hg.block gS h.s.lt (own_ne_arr hl h.s (by decide))).trans h.s, h.ge, h.lrow.kept hg ha, h.len, h.isB, h.full, h.sz, h.nn, fun j hj hp => ?_, h.pp, h.bel.grown hg h.bel.size (fun k hk => (hl.lt k hk).1)⟩
  obtain ⟨g, E, e, hge, hA⟩ := h.rows j hj hp
  exact ⟨g, E, e, hge, (hg.block g hA.lt (own_ne_arr hl hA (by decide))).trans hA⟩
theorem Apt.nil (v : Value) : Apt v (.slice none 0 0) := by
  unfold Apt
  cases h : v.ownBlock with
  | none => exact .inl rfl
  | some k => right; simp [Value.ownBlock]
/-- append by its run -/
theorem wpList_append_run {P : Program} {w : World} {ops : Array Oper} {rest : List Oper} {o : Oper} {a : Act} {Q : Exit → Act → World → Prop} (hgd : o.guard = none) (s x : Operand) (t u : TypeId)
    (ho : o.op = .call { callee := .builtin .append, args := #[s, x], argTypes := #[t, u] }) (vs vx v' : Value) (w' : World) (hs : a.eval s = vs) (hx : a.eval x = vx)
    (hr : (Builtin.append_ #[t, u] o.type #[vs, vx]).run P w = .ok v' w') (h : wpList P ops Q rest (a.put o.dst v') w') : wpList P ops Q (o :: rest) a w := by
  refine wpList_plain hgd fun K hK => ?_
  unfold Oper.wp execOp
  simp only [ho, resolve, invoke, builtin, Sem.run_bind, Sem.run_pure, Result.andThen_ok, List.map_toArray, List.map_cons, List.map_nil, hs, hx, hr]
  exact hK _ _ h
/-- each list with its mark -/
def markd (P : Nat → Sl) (j : Nat) : List Int := List.replicate (P j).n (mkB j)
/-- the lists gone on with -/
structure Lg (w : World) (k : Nat) (P R : Nat → Sl) (lv lg : Value) (wr : World) : Prop where
  row : wr.ownsRow w.heap.size 29 1 lg k (vsOf R k)
  apt : Apt lv lg
  ok : ∀ x, x < k → (R x).Ok wr
  l : ∀ x, x < k → (R x).l = markd P x ++ List.replicate 70 0
  off : ∀ x, x < k → (R x).Off lg.ownBlock
theorem Lg.put {w : World} {gS N k : Nat} {P R : Nat → Sl} {lv wv lg lg' : Value} {wr W1 w3 : World} {ob : Obj} (h : Lg w k P R lv lg wr) (hb : Below wr.heap.size wr W1) (hd1 : Hd w gS N P lv wv (markd P) W1) (s : Sl) (hs : s.Ok W1) (hl : s.l = markd P k ++ List.replicate 70 0)
    (hnew : ∀ x, s.a = some x → wr.heap.size ≤ x.block) (hg : (W1.alloc ob).grownBy w3 lg.ownBlock) (hr : w3.ownsRow w.heap.size 29 1 lg' (k + 1) (vsOf R k ++ [s.v])) (ha : lg'.ownBlock = lg.ownBlock ∨ lg'.ownBlock = some (W1.alloc ob).heap.size) :
    Lg w (k + 1) P (fun x => if x = k then s else R x) lv lg' w3 ∧ Hd w gS N P lv wv (markd P) w3 := by
  have hrow1 := (own_later h.row hb).alloc ob
  have hba : Below W1.heap.size W1 (W1.alloc ob) := (Below.refl _ _).alloc (Nat.le_refl _) _
  have hd2 := hd1.later hba
  have ltl : ∀ y, lg.ownBlock = some y → y < wr.heap.size := fun y hy => (h.row.lt y hy).2
  have offs : s.Off lg.ownBlock := fun _ x hx e => by have := ltl _ e.symm; have := hnew x hx; omega
  have off' : ∀ u : Sl, u.Ok W1 → u.Off lg.ownBlock → u.Off lg'.ownBlock := fun u hu ho => by
    rcases ha with e | e
    · rw [e]; exact ho
    · rw [e]; intro hp x hx e2; simp only [Option.some.injEq] at e2; have := hu.blk hp x hx; simp at e2; omega
  refine ⟨⟨by rw [← vsOf_succ]; exact hr, (Apt.grown h.apt.symm hd2.lrow ha).symm, fun x hx => ?_, fun x hx => ?_, fun x hx => ?_⟩, hd2.grown hg hrow1 h.apt⟩
  · by_cases e : x = k
    · simp only [e, if_true]; exact (hs.later hba).grown' hg offs
    · simp only [e, if_false]; exact (((h.ok x (by omega)).later hb).later hba).grown' hg (h.off x (by omega))
  · by_cases e : x = k
    · subst e; simp only [if_true]; exact hl
    · simp only [e, if_false]; exact h.l x (by omega)
  · by_cases e : x = k
    · simp only [e, if_true]; exact off' s hs offs
    · simp only [e, if_false]; exact off' _ ((h.ok x (by omega)).later hb) (h.off x (by omega))
theorem overTo_end (P : Nat → Sl) (N j : Nat) (h : j < N) : overTo P N 0 j = markd P j := by unfold overTo markd; simp only [h, if_true]
end Go.Proofs.Ytmdpmkdofgligaa
