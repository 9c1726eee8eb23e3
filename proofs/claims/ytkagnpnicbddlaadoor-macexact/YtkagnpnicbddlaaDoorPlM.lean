import Derived.Test.YtkagnpnicbddlaaDoorGrS
import Derived.Test.YtkagnpnicbddlaaDoorRefD
import Derived.Test.YtkagnpnicbddlaaDoorRefM5
import Derived.Test.YtkagnpnicbddlaaDoorExpsW
namespace Go.Proofs.YtkagnpnicbddlaaDoor
open Go.RowKit

/-- one call of a play -/
structure OpQ where
  kd : Int
  key : Sl
  text : Sl
  hash : List Int
  lab : ByteArray
  n : Int
def OpQ.cells (o : OpQ) : List Value := .int .i64 o.kd :: o.key.v :: o.text.v :: (U8 o.hash ++ [.string o.lab, .int .i64 o.n])
structure OpQ.Ok (w : World) (o : OpQ) : Prop where
  key : o.key.Ok w
  text : o.text.Ok w
  hl : o.hash.length = 32
  hB : IsB o.hash
/-- what is laid -/
structure Lay6 (w : World) : Prop where
  l : Lay4 w
  rk : S5.RKLaid w
  rf : S5.RFLaid w
theorem Lay6.later {w w' : World} (h : Lay6 w) (hb : Below w.heap.size w w') : Lay6 w' := ⟨h.l.later hb, h.rk.later hb, h.rf.later hb⟩
theorem box_all {wr : World} {gB : Nat} {ty : TypeId} {o : OpQ} (h : Arr wr gB ty o.cells) (hl : o.hash.length = 32) :
    wr.cell? ⟨gB, 0, none⟩ = some (.int .i64 o.kd) ∧ wr.cell? ⟨gB, 1, none⟩ = some o.key.v ∧ wr.cell? ⟨gB, 2, none⟩ = some o.text.v ∧ wr.cell? ⟨gB, 35, none⟩ = some (.string o.lab) ∧ wr.cell? ⟨gB, 36, none⟩ = some (.int .i64 o.n) ∧ wr.rangeAt gB 3 (U8 o.hash) := by
  refine ⟨by rw [h.cell]; rfl, by rw [h.cell]; rfl, by rw [h.cell]; rfl, ?_, ?_, fun j v hv => ?_⟩
  · rw [h.cell]
    show (U8 o.hash ++ [.string o.lab, .int .i64 o.n])[32]? = _
    rw [List.getElem?_append_right (by simp [hl])]; simp [hl]
  · rw [h.cell]
    show (U8 o.hash ++ [.string o.lab, .int .i64 o.n])[33]? = _
    rw [List.getElem?_append_right (by simp [hl])]; simp [hl]
  · have hj : j < (U8 o.hash).length := (List.getElem?_eq_some_iff.1 hv).1
    rw [h.cell, show 3 + j = j + 3 from by omega]
    show (U8 o.hash ++ [.string o.lab, .int .i64 o.n])[j]? = _
    rw [List.getElem?_append_left hj]; exact hv
/-- a block of bytes written over: the shelf stands -/
theorem Shf.but {w : World} {gS N : Nat} {P Q : Nat → Sl} {lv wv : Value} {wr w' : World} {g : Nat} (h : Shf w gS N P Q lv wv wr) (hb : But g wr w') (hP : ∀ i, i < N → (P i).Off (some g)) (hQ : ∀ i, i < N → (Q i).Off (some g))
    (hl : lv.ownBlock ≠ some g) (hw : wv.ownBlock ≠ some g) (hs : gS ≠ g) (hge : w.heap.size ≤ g) : Shf w gS N P Q lv wv w' := by
  have ok : ∀ s : Sl, s.Ok wr → s.Off (some g) → s.Ok w' := fun s hok ho => ⟨hok.len, hok.le, hok.mx, hok.nn, hok.isB, hb.lies hok.lies (fun hp x hx e => ho hp x hx (by rw [e]))⟩
  have own : ∀ {v : Value} {n : Nat} {xs : List Value}, wr.ownsRow w.heap.size 24 1 v n xs → v.ownBlock ≠ some g → w'.ownsRow w.heap.size 24 1 v n xs := fun {v n xs} ho hv => by
    refine ⟨ho.1, ?_⟩
    rcases ho.2 with h2 | ⟨g', cap, cur, h1, h2, h3, h4⟩
    · exact .inl h2
    · have hlt : g' < wr.heap.size := (ho.lt g' (by rw [h1]; rfl)).2
      exact .inr ⟨g', cap, cur, h1, h2, (hb.block g' hlt (fun e => hv (by rw [h1, e]; rfl))).trans h3, h4⟩
  refine ⟨hb.arr h.s hs, h.ge, own h.lrow hl, own h.wrow hw, h.apt, fun i hi => ⟨ok _ (h.p i hi).ok (hP i hi), (h.p i hi).full, fun hp => ?_⟩, fun i hi => ok _ (h.q i hi) (hQ i hi), h.eq, h.sz, h.pp, h.pq, h.ql, h.qw, h.qs, h.bel.trans (hb.below h.bel.size hge)⟩
  obtain ⟨g', e, hg', hA⟩ := (h.p i hi).row hp
  exact ⟨g', e, hg', hb.arr hA (fun e2 => hP i hi hp _ e (by rw [e2]))⟩
/-- what stands while a call is played: the boxed call, the two roomy lists -/
structure PlS (w : World) (B gB gf fc gg gc : Nat) (o : OpQ) (KL TL : List Int) (wr : World) : Prop where
  box : Arr wr gB 49 o.cells
  f : wr.ownsRow B 5 1 (.slice (some ⟨gf, 0, none⟩) (o.key.n + 200) fc) (o.key.n + 200) (U8 (KL ++ marks2))
  g : wr.ownsRow B 5 1 (.slice (some ⟨gg, 0, none⟩) (o.text.n + 200) gc) (o.text.n + 200) (U8 (TL ++ marks2))
  bel : Below w.heap.size w wr
theorem PlS.later {w : World} {B gB gf fc gg gc : Nat} {o : OpQ} {KL TL : List Int} {wr w' : World} (h : PlS w B gB gf fc gg gc o KL TL wr) (hb : Below wr.heap.size wr w') : PlS w B gB gf fc gg gc o KL TL w' :=
  ⟨h.box.later hb, own_later h.f hb, own_later h.g hb, h.bel.trans (hb.mono h.bel.size)⟩
theorem own_prefix {w : World} {B g n c : Nat} {l : List Int} (h : w.ownsRow B 5 1 (.slice (some ⟨g, 0, none⟩) (n + 200) c) (n + 200) (U8 (l ++ marks2))) (hl : l.length = n) (hB : IsB l) : Sl.Ok w ⟨some ⟨g, 0, none⟩, n, c, l⟩ := by
  have ok := Sl.Ok.of_own h (IsB.app hB marks2_isB)
  have h2 := ok.cut n (by omega) (by simp)
  rwa [List.take_append_of_le_length (by omega), List.take_of_length_le (by omega)] at h2
theorem PlS.okF {w : World} {B gB gf fc gg gc : Nat} {o : OpQ} {KL TL : List Int} {wr : World} (h : PlS w B gB gf fc gg gc o KL TL wr) (hl : KL.length = o.key.n) (hB : IsB KL) : Sl.Ok wr ⟨some ⟨gf, 0, none⟩, o.key.n, fc, KL⟩ := own_prefix h.f hl hB
theorem PlS.okG {w : World} {B gB gf fc gg gc : Nat} {o : OpQ} {KL TL : List Int} {wr : World} (h : PlS w B gB gf fc gg gc o KL TL wr) (hl : TL.length = o.text.n) (hB : IsB TL) : Sl.Ok wr ⟨some ⟨gg, 0, none⟩, o.text.n, gc, TL⟩ := own_prefix h.g hl hB
theorem own_ne_type {w : World} {B B' e e' n n' : Nat} {v v' : Value} {xs xs' : List Value} (h : w.ownsRow B e 1 v n xs) (h' : w.ownsRow B' e' 1 v' n' xs') (he : e ≠ e') (k : Nat) (hk : v.ownBlock = some k) : v'.ownBlock ≠ some k := by
  intro hk'
  rcases h.2 with ⟨rfl, -⟩ | ⟨g, cap, cur, rfl, -, hg, -⟩
  · simp [Value.ownBlock] at hk
  · rcases h'.2 with ⟨rfl, -⟩ | ⟨g', cap', cur', rfl, -, hg', -⟩
    · simp [Value.ownBlock] at hk'
    · simp only [Value.ownBlock, Option.some.injEq] at hk hk'
      subst hk
      subst hk'
      rw [hg] at hg'
      simp only [Option.some.injEq, Obj.cells.injEq] at hg'
      exact he hg'.2.1
/-- a put leaves all of it -/
theorem PlS.put {w : World} {B gB gf fc gg gc : Nat} {o : OpQ} {KL TL : List Int} {wr w' : World} {gS N : Nat} {P Q : Nat → Sl} {lv wv : Value} (h : PlS w B gB gf fc gg gc o KL TL wr) (hS : Shf w gS N P Q lv wv wr) (hB : But3 lv.ownBlock wv.ownBlock gS wr w') : PlS w B gB gf fc gg gc o KL TL w' := by
  have own : ∀ {g n c : Nat} {xs : List Value}, wr.ownsRow B 5 1 (.slice (some ⟨g, 0, none⟩) n c) n xs → w'.ownsRow B 5 1 (.slice (some ⟨g, 0, none⟩) n c) n xs := fun {g n c xs} ho => by
    have hA : ∃ cur, wr.heap[g]? = some (.cells cur 5 (0, 0)) := by
      rcases ho.2 with ⟨h1, -⟩ | ⟨g', cap, cur, h1, -, hg, -⟩
      · simp at h1
      · simp only [Value.slice.injEq, Option.some.injEq, Addr.mk.injEq, true_and, and_true] at h1
        rw [h1.1]; exact ⟨cur, hg⟩
    obtain ⟨cur0, hcur⟩ := hA
    have hA' : Arr wr g 5 cur0.toList := by unfold Arr; simpa using hcur
    refine ⟨ho.1, ?_⟩
    rcases ho.2 with h2 | ⟨g', cap, cur, h1, h2, h3, h4⟩
    · exact .inl h2
    · have e : g = g' := by simp only [Value.slice.injEq, Option.some.injEq, Addr.mk.injEq, true_and, and_true] at h1; exact h1.1
      subst e
      exact .inr ⟨g, cap, cur, h1, h2, (hB.block g hA'.lt (own_ne_arr hS.lrow hA' (by decide)) (own_ne_arr hS.wrow hA' (by decide)) (arr_ne_arr hA' hS.s (by decide))).trans h3, h4⟩
  exact ⟨hB.arr h.box (own_ne_arr hS.lrow h.box (by decide)) (own_ne_arr hS.wrow h.box (by decide)) (arr_ne_arr h.box hS.s (by decide)), own h.f, own h.g, h.bel.trans (hB.below h.bel.size (fun k hk => (hS.lrow.lt k hk).1) (fun k hk => (hS.wrow.lt k hk).1) hS.ge)⟩
theorem turnTo_marks (l : List Int) (n : Nat) (h : l.length = n) : turnTo (l ++ marks2) n = xorC 5 l ++ marks2 := by
  unfold turnTo
  rw [List.take_append_of_le_length (by omega), List.take_of_length_le (by omega), List.drop_append_of_le_length (by omega), List.drop_eq_nil_of_le (by omega), List.nil_append]
theorem Shf.offOld {w : World} {gS N : Nat} {P Q : Nat → Sl} {lv wv : Value} {w0 : World} (h : Shf w gS N P Q lv wv w0) (g : Nat) (hg : w0.heap.size ≤ g) : (∀ i, i < N → (P i).Off (some g)) ∧ (∀ i, i < N → (Q i).Off (some g)) :=
  ⟨fun i hi hp x hx e => by simp only [Option.some.injEq] at e; have := (h.p i hi).ok.blk hp x hx; omega, fun i hi hp x hx e => by simp only [Option.some.injEq] at e; have := (h.q i hi).blk hp x hx; omega⟩
theorem offNew {N : Nat} {P Q : Nat → Sl} {g : Nat} (h : (∀ i, i < N → (P i).Off (some g)) ∧ (∀ i, i < N → (Q i).Off (some g))) (p q : Sl) (hp : ∀ x, p.a = some x → g < x.block) (hq : ∀ x, q.a = some x → g < x.block) :
    (∀ i, i < N + 1 → (if i = N then p else P i).Off (some g)) ∧ (∀ i, i < N + 1 → (if i = N then q else Q i).Off (some g)) := by
  refine ⟨fun i hi => ?_, fun i hi => ?_⟩
  · by_cases e : i = N
    · simp only [e, if_true]; intro _ x hx e2; simp only [Option.some.injEq] at e2; have := hp x hx; omega
    · simp only [e, if_false]; exact h.1 i (by omega)
  · by_cases e : i = N
    · simp only [e, if_true]; intro _ x hx e2; simp only [Option.some.injEq] at e2; have := hq x hx; omega
    · simp only [e, if_false]; exact h.2 i (by omega)
theorem own_but {w w' : World} {B e g n c g0 : Nat} {xs : List Value} (h : w.ownsRow B e 1 (.slice (some ⟨g, 0, none⟩) n c) n xs) (hb : But g0 w w') (hg : g ≠ g0) : w'.ownsRow B e 1 (.slice (some ⟨g, 0, none⟩) n c) n xs := by
  refine ⟨h.1, ?_⟩
  rcases h.2 with h2 | ⟨g', cap, cur, h1, h2, h3, h4⟩
  · exact .inl h2
  · have e : g = g' := by simp only [Value.slice.injEq, Option.some.injEq, Addr.mk.injEq, true_and, and_true] at h1; exact h1.1
    subst e
    exact .inr ⟨g, cap, cur, h1, h2, (hb.block g (h.lt g rfl).2 hg).trans h3, h4⟩
theorem own_arrT {w : World} {B e g n c : Nat} {xs : List Value} (h : w.ownsRow B e 1 (.slice (some ⟨g, 0, none⟩) n c) n xs) : ∃ l, Arr w g e l := by
  rcases h.2 with ⟨h1, -⟩ | ⟨g', cap, cur, h1, -, hg, -⟩
  · simp at h1
  · simp only [Value.slice.injEq, Option.some.injEq, Addr.mk.injEq, true_and, and_true] at h1
    rw [h1.1]; exact ⟨cur.toList, by unfold Arr; simpa using hg⟩
theorem Shf.turned {w : World} {gS N : Nat} {P Q : Nat → Sl} {lv wv : Value} {wr w' : World} {B g n c : Nat} {xs : List Value} (h : Shf w gS N P Q lv wv wr) (ho : wr.ownsRow B 5 1 (.slice (some ⟨g, 0, none⟩) n c) n xs) (hb : But g wr w') (hO : (∀ i, i < N → (P i).Off (some g)) ∧ (∀ i, i < N → (Q i).Off (some g))) (hge : w.heap.size ≤ g) : Shf w gS N P Q lv wv w' := by
  obtain ⟨l, hA⟩ := own_arrT ho
  exact h.but hb hO.1 hO.2 (fun e => own_ne_arr h.lrow hA (by decide) e.symm) (fun e => own_ne_arr h.wrow hA (by decide) e.symm) (fun e => arr_ne_arr h.s hA (by decide) e) hge
theorem PlS.turnF {w : World} {B gB gf fc gg gc : Nat} {o : OpQ} {KL KL' TL : List Int} {wr w' : World} (h : PlS w B gB gf fc gg gc o KL TL wr) (hb : But gf wr w') (ho : w'.ownsRow B 5 1 (.slice (some ⟨gf, 0, none⟩) (o.key.n + 200) fc) (o.key.n + 200) (U8 (KL' ++ marks2))) (hne : gg ≠ gf) (hge : w.heap.size ≤ gf) : PlS w B gB gf fc gg gc o KL' TL w' := by
  obtain ⟨l, hA⟩ := own_arrT h.f
  exact ⟨hb.arr h.box (arr_ne_arr h.box hA (by decide)), ho, own_but h.g hb hne, h.bel.trans (hb.below h.bel.size hge)⟩
theorem PlS.turnG {w : World} {B gB gf fc gg gc : Nat} {o : OpQ} {KL TL TL' : List Int} {wr w' : World} (h : PlS w B gB gf fc gg gc o KL TL wr) (hb : But gg wr w') (ho : w'.ownsRow B 5 1 (.slice (some ⟨gg, 0, none⟩) (o.text.n + 200) gc) (o.text.n + 200) (U8 (TL' ++ marks2))) (hne : gf ≠ gg) (hge : w.heap.size ≤ gg) : PlS w B gB gf fc gg gc o KL TL' w' := by
  obtain ⟨l, hA⟩ := own_arrT h.g
  exact ⟨hb.arr h.box (arr_ne_arr h.box hA (by decide)), own_but h.f hb hne, ho, h.bel.trans (hb.below h.bel.size hge)⟩
end Go.Proofs.YtkagnpnicbddlaaDoor
