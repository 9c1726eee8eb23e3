import Derived.Test.YtipmgnigejpfjaaPlX
namespace Go.Proofs.Ytipmgnigejpfjaa
open Go.RowKit

theorem slv_ones (ps : List Sl) : ∀ u ∈ ps.map Sl.v, u.oneCell' = true := by intro u hu; simp at hu; obtain ⟨s, -, rfl⟩ := hu; rfl
/-- append of a list of slices that came from anywhere, nil too, to a row of one's own -/
theorem wpList_append_parts {P : Program} {w : World} {ops : Array Oper} {rest : List Oper} {o : Oper} {a : Act} {Q : Exit → Act → World → Prop} (hgd : o.guard = none) (s x : Operand) (t : TypeId)
    (ho : o.op = .call { callee := .builtin .append, args := #[s, x], argTypes := #[t, t] })
    (base : Nat) (e : TypeId) (i : TypeInfo) (z : Value) (ht : P.underlying t = some (.slice e)) (hi : P.info? e = some i) (hz : i.zero = some z) (hsize : i.size = 1) (hby : i.bytes = 24) (hzs : z.cells.size = 1)
    (v : Value) (n : Nat) (xs : List Value) (hs : a.eval s = v) (hown : w.ownsRow base e 1 v n xs) (pa : Option Addr) (pc : Nat) (ps : List Sl) (hv : LiesV w pa (ps.map Sl.v)) (hpn : pa = none → pc = 0) (hx : a.eval x = .slice pa ps.length pc)
    (hb : n + ps.length ≤ 1000000) (hbase : base ≤ w.heap.size)
    (h : ∀ v' w', Hid (w'.ownsRow base e 1 v' (n + ps.length) (xs ++ ps.map Sl.v)) → Hid (w.grownBy w' v.ownBlock) → wpList P ops Q rest (a.put o.dst v') w') : wpList P ops Q (o :: rest) a w := by
  cases hda : pa with
  | none =>
    have h0 : ps.length = 0 := by
      by_cases hp : 0 < ps.length
      · obtain ⟨b, off, e1, -⟩ := hv (by simpa using hp); rw [hda] at e1; cases e1
      · omega
    have hl0 : ps = [] := List.eq_nil_of_length_eq_zero h0
    refine wpList_append_own_none hgd s x t ho base e i 1 ht hi v n xs hs hown (by rw [hx, hda, h0, hpn hda]) ?_
    refine h v w (show _ from ?_) (show _ from World.grownBy.refl w _)
    have h2 : w.ownsRow base e 1 v (n + ps.length) (xs ++ ps.map Sl.v) := by rw [hl0]; simpa using hown
    exact h2
  | some ad =>
    refine wpList_append_own w hgd s x t ho base e i z 1 24 ht hi hz hsize hby hzs (by decide) v n xs hs hown ad ps.length pc (ps.map Sl.v) (by rw [hx, hda]) (by simp) (fun j u hu => ?_) (slv_ones ps) (by unfold maxLen; omega) (by omega) hbase ?_
    · have hj : j < ps.length := by have := (List.getElem?_eq_some_iff.1 hu).1; simpa using this
      obtain ⟨b, off, e1, -, hc⟩ := hv (by simp; omega)
      rw [hda] at e1; cases e1
      rw [addr_add]; exact hc j u hu
    · intro v' w' h1 h2 _
      exact h v' w' h1 h2
/-- the two lists that grow side by side -/
structure JL (B : Nat) (RS : List Sl) (k : Nat) (F G : Nat → Sl) (fv gv rv : Value) (wr : World) : Prop where
  rr : wr.ownsRow B 28 1 rv RS.length (RS.map Sl.v)
  fr : wr.ownsRow B 28 1 fv k (vsOf F k)
  gr : wr.ownsRow B 28 1 gv k (vsOf G k)
  a1 : Apt fv gv
  a2 : Apt fv rv
  a3 : Apt gv rv
  f : ∀ j, j < k → ∃ g c s, RS[j]? = some s ∧ F j = ⟨some ⟨g, 0, none⟩, s.n + 70, c, s.l ++ marks2⟩ ∧ G j = ⟨some ⟨g, 0, none⟩, s.n, c, s.l⟩ ∧ wr.ownsRow B 5 1 (.slice (some ⟨g, 0, none⟩) (s.n + 70) c) (s.n + 70) (U8 (s.l ++ marks2))
theorem JL.later {B : Nat} {RS : List Sl} {k : Nat} {F G : Nat → Sl} {fv gv rv : Value} {wr w' : World} (h : JL B RS k F G fv gv rv wr) (hb : Below wr.heap.size wr w') : JL B RS k F G fv gv rv w' :=
  ⟨own_later h.rr hb, own_later h.fr hb, own_later h.gr hb, h.a1, h.a2, h.a3, fun j hj => let ⟨g, c, s, h1, h2, h3, h4⟩ := h.f j hj; ⟨g, c, s, h1, h2, h3, own_later h4 hb⟩⟩
/-- rows of two kinds lie apart -/
theorem own_apt {w : World} {B B' e e' n n' : Nat} {v v' : Value} {xs xs' : List Value} (h : w.ownsRow B e 1 v n xs) (h' : w.ownsRow B' e' 1 v' n' xs') (hne : e ≠ e') : Apt v v' := by
  rcases h.2 with ⟨rfl, -⟩ | ⟨g, cap, cur, rfl, -, hg, -⟩
  · exact .inl rfl
  · right
    rcases h'.2 with ⟨rfl, -⟩ | ⟨g', cap', cur', rfl, -, hg', -⟩
    · simp [Value.ownBlock]
    · simp only [Value.ownBlock, ne_eq, Option.some.injEq]
      intro e1
      subst e1
      rw [hg] at hg'
      simp only [Option.some.injEq, Obj.cells.injEq] at hg'
      exact hne hg'.2.1
/-- after an append to the one list -/
theorem JL.addF {B : Nat} {RS : List Sl} {k : Nat} {F G : Nat → Sl} {fv gv rv fv' : Value} {wr w' : World} {ob : Obj} (h : JL B RS k F G fv gv rv wr)
    (hg : (wr.alloc ob).grownBy w' fv.ownBlock) (hv : fv'.ownBlock = fv.ownBlock ∨ fv'.ownBlock = some (wr.alloc ob).heap.size) :
    w'.ownsRow B 28 1 rv RS.length (RS.map Sl.v) ∧ w'.ownsRow B 28 1 gv k (vsOf G k) ∧ Apt fv' gv ∧ Apt fv' rv ∧
    (∀ {g c n B' : Nat} {L : List Int}, wr.ownsRow B' 5 1 (.slice (some ⟨g, 0, none⟩) n c) n (U8 L) → w'.ownsRow B' 5 1 (.slice (some ⟨g, 0, none⟩) n c) n (U8 L)) :=
  ⟨(h.rr.alloc _).kept hg h.a2.symm, (h.gr.alloc _).kept hg h.a1.symm, Apt.grown h.a1 (h.gr.alloc _) hv, Apt.grown h.a2 (h.rr.alloc _) hv,
    fun ho => (ho.alloc _).kept hg (own_apt (ho.alloc ob) (h.fr.alloc ob) (by decide))⟩
/-- one round -/
theorem JL.round {B : Nat} {RS : List Sl} {k : Nat} {F G : Nat → Sl} {fv gv rv fv' gv' : Value} {wr w2 w3 : World} {ob ob2 : Obj} {g c : Nat} {s : Sl} (h : JL B RS k F G fv gv rv wr) (hs : RS[k]? = some s)
    (hf : wr.ownsRow B 5 1 (.slice (some ⟨g, 0, none⟩) (s.n + 70) c) (s.n + 70) (U8 (s.l ++ marks2)))
    (hl : w2.ownsRow B 28 1 fv' (k + 1) (vsOf F k ++ [.slice (some ⟨g, 0, none⟩) (s.n + 70) c])) (hg : (wr.alloc ob).grownBy w2 fv.ownBlock) (hv : fv'.ownBlock = fv.ownBlock ∨ fv'.ownBlock = some (wr.alloc ob).heap.size)
    (hl2 : w3.ownsRow B 28 1 gv' (k + 1) (vsOf G k ++ [.slice (some ⟨g, 0, none⟩) s.n c])) (hg2 : (w2.alloc ob2).grownBy w3 gv.ownBlock) (hv2 : gv'.ownBlock = gv.ownBlock ∨ gv'.ownBlock = some (w2.alloc ob2).heap.size) :
    JL B RS (k + 1) (fun i => if i = k then ⟨some ⟨g, 0, none⟩, s.n + 70, c, s.l ++ marks2⟩ else F i) (fun i => if i = k then ⟨some ⟨g, 0, none⟩, s.n, c, s.l⟩ else G i) fv' gv' rv w3 := by
  obtain ⟨r1, g1, p1, p2, o1⟩ := h.addF hg hv
  have r2 := (r1.alloc ob2).kept hg2 h.a3.symm
  have f2 := (hl.alloc ob2).kept hg2 p1
  have q1 := (Apt.grown p1.symm (hl.alloc ob2) hv2).symm
  have q3 := Apt.grown h.a3 (r1.alloc ob2) hv2
  have o2 : ∀ {g c n B' : Nat} {L : List Int}, wr.ownsRow B' 5 1 (.slice (some ⟨g, 0, none⟩) n c) n (U8 L) → w3.ownsRow B' 5 1 (.slice (some ⟨g, 0, none⟩) n c) n (U8 L) :=
    fun ho => ((o1 ho).alloc ob2).kept hg2 (own_apt ((o1 ho).alloc ob2) (g1.alloc ob2) (by decide))
  refine ⟨r2, by rw [← vsOf_succ]; exact f2, by rw [← vsOf_succ]; exact hl2, q1, p2, q3, fun j hj => ?_⟩
  by_cases e : j = k
  · subst e
    exact ⟨g, c, s, hs, by simp, by simp, o2 hf⟩
  · obtain ⟨g', c', s', e1, e2, e3, e4⟩ := h.f j (by omega)
    exact ⟨g', c', s', e1, by simp only [e, if_false]; exact e2, by simp only [e, if_false]; exact e3, o2 e4⟩
/-- what the two lists hold for a join -/
theorem vsOf_map {G : Nat → Sl} {n : Nat} : vsOf G n = ((List.range n).map G).map Sl.v := by simp [vsOf]
theorem own_liesV {w : World} {B e n : Nat} {v : Value} {xs : List Value} {a : Option Addr} {m c : Nat} (h : w.ownsRow B e 1 v n xs) (hv : v = .slice a m c) : LiesV w a xs := by
  intro hp
  rcases h.2 with ⟨rfl, rfl⟩ | ⟨g, cap, cur, rfl, -, hg, -⟩
  · have := h.1; simp at this; rw [this] at hp; simp at hp
  · simp only [Value.slice.injEq] at hv
    refine ⟨g, 0, hv.1.symm, ?_, fun i u hu => ?_⟩
    · exact (h.lt g rfl).2
    · rw [Nat.zero_add]; exact (h.cellAt i (by have := (List.getElem?_eq_some_iff.1 hu).1; have := h.1; omega)).trans hu
theorem JL.joined {B : Nat} {RS : List Sl} {F G : Nat → Sl} {fv gv rv : Value} {wr : World} (h : JL B RS RS.length F G fv gv rv wr) : cat ((List.range RS.length).map G) = cat RS := by
  have e : ((List.range RS.length).map G).map Sl.l = RS.map Sl.l := by
    apply List.ext_getElem
    · simp
    · intro i h1 h2
      simp at h1
      obtain ⟨g, c, s, e1, -, e3, -⟩ := h.f i h1
      rw [List.getElem?_eq_getElem h1] at e1
      simp at e1
      simp [e3, e1]
  unfold cat
  first | (rw [e]) | (simp only [List.flatMap_def, e])
theorem JL.oks {B : Nat} {RS : List Sl} {F G : Nat → Sl} {fv gv rv : Value} {wr : World} (h : JL B RS RS.length F G fv gv rv wr) (hok : ∀ s ∈ RS, s.Ok wr) : ∀ s ∈ (List.range RS.length).map G, s.Ok wr := by
  intro s hs
  simp at hs
  obtain ⟨i, hi, rfl⟩ := hs
  obtain ⟨g, c, s, e1, -, e3, e4⟩ := h.f i hi
  have hm := hok s (List.mem_of_getElem? e1)
  rw [e3]
  exact own_prefix e4 hm.len hm.isB
theorem own_of_arr {w : World} {B e g : Nat} {l : List Value} (h : Arr w g e l) (hB : B ≤ g) (hl : l.length ≤ 1000) : w.ownsRow B e 1 (.slice (some ⟨g, 0, none⟩) l.length l.length) l.length l :=
  ⟨by simp, .inr ⟨g, l.length, l.toArray, rfl, hB, h, Nat.le_refl _, by unfold maxLen; omega, by simp, by simp⟩⟩
theorem own_but3 {B e n g : Nat} {b1 b2 : Option Nat} {v : Value} {xs : List Value} {w w' : World} (ho : w.ownsRow B e 1 v n xs) (hB : But3 b1 b2 g w w') (h1 : ∀ k, b1 = some k → k < B) (h2 : ∀ k, b2 = some k → k < B) (h3 : g < B) : w'.ownsRow B e 1 v n xs := by
  have hlt := ho.lt
  refine ⟨ho.1, ?_⟩
  rcases ho.2 with h | ⟨g', cap, cur, e1, e2, e3, e4⟩
  · exact .inl h
  · have hl := (hlt g' (by rw [e1]; rfl)).2
    exact .inr ⟨g', cap, cur, e1, e2, (hB.block g' hl (fun e => by have := h1 _ e.symm; omega) (fun e => by have := h2 _ e.symm; omega) (by omega)).trans e3, e4⟩
theorem JL.put {B : Nat} {RS : List Sl} {k g : Nat} {b1 b2 : Option Nat} {F G : Nat → Sl} {fv gv rv : Value} {wr w' : World} (h : JL B RS k F G fv gv rv wr) (hB : But3 b1 b2 g wr w') (h1 : ∀ k, b1 = some k → k < B) (h2 : ∀ k, b2 = some k → k < B) (h3 : g < B) : JL B RS k F G fv gv rv w' :=
  ⟨own_but3 h.rr hB h1 h2 h3, own_but3 h.fr hB h1 h2 h3, own_but3 h.gr hB h1 h2 h3, h.a1, h.a2, h.a3, fun j hj => let ⟨g, c, s, e1, e2, e3, e4⟩ := h.f j hj; ⟨g, c, s, e1, e2, e3, own_but3 e4 hB h1 h2 h3⟩⟩
theorem box_app {wr w' : World} {g B n : Nat} {v : Value} {xs l : List Value} {ob : Obj} (hA : Arr wr g 33 l) (ho : wr.ownsRow B 28 1 v n xs) (hg : (wr.alloc ob).grownBy w' v.ownBlock) : Arr w' g 33 l :=
  (hg.block g (by have := hA.lt; simp; omega) (own_ne_arr ho hA (by decide))).trans (hA.alloc _)
theorem sumN_two (a b : Sl) (ps : List Sl) : sumN (a :: b :: ps) = a.n + b.n + sumN ps := by simp [sumN]; omega
theorem sumN_mem : ∀ {ps : List Sl} {s : Sl}, s ∈ ps → s.n ≤ sumN ps
  | a :: ps, s, h => by
    rcases List.mem_cons.1 h with rfl | h
    · simp [sumN]
    · have := sumN_mem h; simp only [sumN, List.map_cons, List.sum_cons] at *; omega
theorem cat_length : ∀ {ps : List Sl} {w : World}, (∀ s ∈ ps, s.Ok w) → (cat ps).length = sumN ps
  | [], _, _ => rfl
  | a :: ps, w, h => by
    have h1 := cat_length (ps := ps) (w := w) (fun s hs => h s (List.mem_cons_of_mem _ hs))
    have h2 := (h a (List.mem_cons_self ..)).len
    simp only [cat, sumN, List.flatMap_cons, List.length_append, List.map_cons, List.sum_cons] at *
    omega
theorem cat_isB {ps : List Sl} {w : World} (h : ∀ s ∈ ps, s.Ok w) : IsB (cat ps) := by
  intro x hx
  simp only [cat, List.mem_flatMap] at hx
  obtain ⟨s, hs, hx⟩ := hx
  exact (h s hs).isB x hx
end Go.Proofs.Ytipmgnigejpfjaa
