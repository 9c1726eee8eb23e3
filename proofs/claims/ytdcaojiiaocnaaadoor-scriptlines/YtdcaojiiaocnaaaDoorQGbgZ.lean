import Derived.Test.YtdcaojiiaocnaaaDoorQItP25
import Derived.Test.YtdcaojiiaocnaaaDoorQGayZ
set_option linter.unusedSimpArgs false
set_option linter.unusedVariables false
namespace Go.Proofs.YtdcaojiiaocnaaaDoor
open Go.RowKit Go.Shelf

/-! Lines: what has been told. -/
/-- a list of bytes each in memory of its own, from block B on -/
structure Osb (W : World) (B : Nat) (v : Value) (ss : List (Sx Int)) : Prop where
  own : W.ownsRow B 28 1 v ss.length (ss.map (·.v))
  el : ∀ s ∈ ss, Ou W B s.v s.xs
  ap : ss.Pairwise (fun s s' => ∀ k, s.v.ownBlock = some k → s'.v.ownBlock ≠ some k)
theorem own_cells {w : World} {base e sz n : Nat} {v : Value} {xs : List Value} (h : w.ownsRow base e sz v n xs) {k : Nat} (hk : v.ownBlock = some k) : base ≤ k ∧ k < w.heap.size ∧ ∃ cur, w.heap[k]? = some (.cells cur e (0, 0)) := by
  refine ⟨(h.lt k hk).1, (h.lt k hk).2, ?_⟩
  rcases h.2 with ⟨rfl, -⟩ | ⟨g, cap, cur, rfl, h2, h3, h4⟩
  · cases hk
  · obtain rfl : g = k := Option.some.inj hk
    exact ⟨cur, h3⟩
theorem Osb.keep {W W' : World} {B : Nat} {v : Value} {ss : List (Sx Int)} (h : Osb W B v ss) (hk : ∀ k o, W.heap[k]? = some o → o.isCells = true → B ≤ k → W'.heap[k]? = some o) : Osb W' B v ss := by
  refine ⟨own_blk h.own (fun g hg => ?_), fun s hs => own_blk (h.el s hs) (fun g hg => ?_), h.ap⟩
  · obtain ⟨h1, -, cur, h3⟩ := own_cells h.own hg
    rw [h3]; exact hk g _ h3 rfl h1
  · obtain ⟨h1, -, cur, h3⟩ := own_cells (h.el s hs) hg
    rw [h3]; exact hk g _ h3 rfl h1
theorem Osb.mono {W : World} {B B' : Nat} {v : Value} {ss : List (Sx Int)} (h : Osb W B v ss) (hB : B' ≤ B) : Osb W B' v ss := by
  refine ⟨⟨h.own.1, ?_⟩, fun s hs => own_mono25 (h.el s hs) hB, h.ap⟩
  rcases h.own.2 with h1 | ⟨g, cap, cur, h1, h2, h3⟩
  · exact .inl h1
  · exact .inr ⟨g, cap, cur, h1, Nat.le_trans hB h2, h3⟩
def LnI (z : Nat) (w : World) (out : List (List Int)) (X : World) : Prop := ∃ (tv : Value) (ss : List (Sx Int)), Boxed X z 40 tv ∧ Osb X (z + 5) tv ss ∧ ss.map (·.xs) = out ∧ Below z w X ∧ z + 5 ≤ X.heap.size
theorem LnI.keep {z : Nat} {w X X' : World} {out : List (List Int)} (h : LnI z w out X) (hb : Below z X X') (hk : ∀ k o, X.heap[k]? = some o → o.isCells = true → (k = z ∨ z + 5 ≤ k) → X'.heap[k]? = some o) (hsz : X.heap.size ≤ X'.heap.size) : LnI z w out X' := by
  obtain ⟨tv, ss, h1, h2, h3, h4, h5⟩ := h
  exact ⟨tv, ss, hk z _ h1 rfl (.inl rfl), h2.keep (fun k o hko ho hB => hk k o hko ho (.inr hB)), h3, h4.trans hb, Nat.le_trans h5 hsz⟩
theorem LnI.alloc {z : Nat} {w X : World} {out : List (List Int)} (h : LnI z w out X) (o : Obj) : LnI z w out (X.alloc o) := by
  have h5 : z + 5 ≤ X.heap.size := h.choose_spec.choose_spec.2.2.2.2
  exact h.keep ((Below.refl _ _).alloc (by omega) o) (fun k o' hk _ _ => (Below.heap_alloc X o k (Array.getElem?_eq_some_iff.1 hk).1).trans hk) (by simp)
theorem LnI.put {z : Nat} {w X : World} {out : List (List Int)} (h : LnI z w out X) {l : Nat} {o : Obj} (o' : Obj) (hl : z + 5 ≤ l) (hlo : X.heap[l]? = some o) (ho : o.isCells = false) : LnI z w out (X.putObj l o') := by
  refine h.keep ?_ (fun k o2 hk ho2 _ => ?_) ?_
  · exact (Below.refl z X).grown (grownBy_putObj' X l o') (by have := (Array.getElem?_eq_some_iff.1 hlo).1; omega) (fun k e => by cases e; omega)
  · refine (World.putObj_heap_other (fun e => ?_)).trans hk
    rw [e, hlo] at hk
    have := Option.some.inj hk
    rw [this, ho2] at ho; cases ho
  · exact (grownBy_putObj' X l o').size
theorem LnI.set {z : Nat} {w X : World} {out : List (List Int)} (h : LnI z w out X) (v : Value) : LnI z w out (X.setCell ⟨z + 2, 0, none⟩ v) := by
  refine h.keep ((Below.refl z X).setCell (p := ⟨z + 2, 0, none⟩) (by show z ≤ z + 2; omega) v) (fun k o hk _ hkz => ?_) ?_
  · exact (Below.heap_setCell _ _ _ _ (by show k ≠ z + 2; omega)).trans hk
  · simp [World.setCell]
/-- a line is told -/
theorem LnI.app {z : Nat} {w X X1 w1 : World} {out : List (List Int)} {tv v' : Value} {ss : List (Sx Int)} {cv : Sx Int} {tmp : Obj} (hbox : Boxed X z 40 tv) (hO : Osb X (z + 5) tv ss) (he : ss.map (·.xs) = out) (hb0 : Below z w X) (h5 : z + 5 ≤ X.heap.size)
    (hb1 : Below X.heap.size X X1) (hc : Ou X1 X.heap.size cv.v cv.xs) (hown' : w1.ownsRow (z + 5) 28 1 v' (ss.length + 1) (ss.map (·.v) ++ [cv.v])) (hgrow : (X1.alloc tmp).grownBy w1 tv.ownBlock) :
    KeepsOthers X (w1.setCell ⟨z, 0, none⟩ v') ∧ (∀ k, T25 z k → (w1.setCell ⟨z, 0, none⟩ v').heap[k]? = X.heap[k]?) ∧ LnI z w (out ++ [cv.xs]) (w1.setCell ⟨z, 0, none⟩ v') := by
  have hne : (40 : TypeId) ≠ 28 := by decide
  have hbox1 : Boxed X1 z 40 tv := (hb1.block z (by omega)).trans hbox
  have hO1 : Osb X1 (z + 5) tv ss := hO.keep (fun k o hk _ _ => (hb1.block k (Array.getElem?_eq_some_iff.1 hk).1).trans hk)
  have hboxw : Boxed w1 z 40 tv := (hbox1.alloc tmp).kept hgrow (hbox1.not_row hne hO1.own)
  have hset : ∀ k, k ≠ z → (w1.setCell ⟨z, 0, none⟩ v').heap[k]? = w1.heap[k]? := fun k hk => Below.heap_setCell _ _ _ _ hk
  have hX1 : ∀ k, k < X1.heap.size → tv.ownBlock ≠ some k → w1.heap[k]? = X1.heap[k]? := fun k hk hn => (hgrow.block k (by simp; omega) (fun e => hn e.symm)).trans (Below.heap_alloc _ _ _ hk)
  have htv : ∀ k, tv.ownBlock = some k → z + 5 ≤ k ∧ ∃ cur, X1.heap[k]? = some (.cells cur 28 (0, 0)) := fun k hk => by
    obtain ⟨h1, -, h3⟩ := own_cells hO1.own hk; exact ⟨h1, h3⟩
  have hsz1 := hb1.size
  have hszw : X1.heap.size ≤ w1.heap.size := by have := hgrow.size; simp at this; omega
  have hT : ∀ k, T25 z k → (w1.setCell ⟨z, 0, none⟩ v').heap[k]? = X.heap[k]? := fun k hk => by
    refine (hset k hk.2).trans ((hX1 k (by have := hk.1; omega) (fun e => ?_)).trans (hb1.block k (by have := hk.1; omega)))
    have := (htv k e).1; have := hk.1; omega
  have hel : ∀ (s : Sx Int) (B : Nat), B ≤ X1.heap.size → Ou X1 B s.v s.xs → z + 5 ≤ B → Ou (w1.setCell ⟨z, 0, none⟩ v') B s.v s.xs := fun s B hB hs hz => own_blk hs (fun g hg => by
    obtain ⟨h1, h2, cur, h3⟩ := own_cells hs hg
    refine (hset g (by omega)).trans (hX1 g h2 (fun e => ?_))
    obtain ⟨-, cur', h4⟩ := htv g e
    rw [h4] at h3
    have h9 := Option.some.inj h3
    simp only [Obj.cells.injEq] at h9
    exact absurd h9.2.1 (by decide))
  refine ⟨?_, hT, v', ss ++ [cv], hboxw.set v', ⟨?_, fun s hs => ?_, ?_⟩, by rw [List.map_append, he]; rfl, ?_, ?_⟩
  · refine ⟨by have : (w1.setCell ⟨z, 0, none⟩ v').heap.size = w1.heap.size := by simp [World.setCell]
               omega, fun k o hk ho => ?_⟩
    have hkl := (Array.getElem?_eq_some_iff.1 hk).1
    have h1 : X1.heap[k]? = some o := (hb1.block k hkl).trans hk
    have hkz : k ≠ z := fun e => by
      rw [e] at hk
      have := hk.symm.trans hbox
      have h9 := Option.some.inj this
      rw [h9] at ho; cases ho
    refine (hset k hkz).trans ((hX1 k (by omega) (fun e => ?_)).trans h1)
    obtain ⟨-, cur', h4⟩ := htv k e
    rw [h4] at h1
    have h9 := Option.some.inj h1
    rw [← h9] at ho; cases ho
  · have := hown'.kept (grownBy_setCell' w1 z v') (.inr (hboxw.not_row hne hown').symm)
    simpa using this
  · rcases List.mem_append.1 hs with hs | hs
    · exact hel s (z + 5) (by omega) (hO1.el s hs) (Nat.le_refl _)
    · obtain rfl : s = cv := by simpa using hs
      exact own_mono25 (hel s X.heap.size hsz1 hc h5) h5
  · refine List.pairwise_append.2 ⟨hO.ap, List.pairwise_singleton _ _, fun s hs s' hs' k hk hk' => ?_⟩
    obtain rfl : s' = cv := by simpa using hs'
    have h1 := (own_cells (hO.el s hs) hk).2.1
    have h2 := (own_cells hc hk').1
    omega
  · refine ⟨?_, ?_, ?_, ?_, fun k hk => ?_⟩
    · exact hgrow.os.trans (hb1.os.trans hb0.os)
    · exact hgrow.tape.trans (hb1.tape.trans hb0.tape)
    · exact hgrow.output.trans (hb1.output.trans hb0.output)
    · have : (w1.setCell ⟨z, 0, none⟩ v').heap.size = w1.heap.size := by simp [World.setCell]
      have := hb0.size; omega
    · exact (hT k ⟨by omega, by omega⟩).trans (hb0.block k hk)
  · have : (w1.setCell ⟨z, 0, none⟩ v').heap.size = w1.heap.size := by simp [World.setCell]
    omega
theorem su_upto25 {w : World} {a : Option Addr} {n c e : Nat} {l : List Int} (h : Su w ⟨a, n, c, l⟩) (he : e ≤ n) : Su w ⟨a, e, e, l.take e⟩ := by
  have h9 := su_take25 h he
  have h8 := h.le
  have h7 := h.mx
  simp only at h8 h7
  exact ⟨h9.len, Nat.le_refl _, by show e ≤ maxLen; omega, fun e0 => ⟨(h9.nn e0).1, (h9.nn e0).1⟩, h9.lies⟩
theorem Osb.put {z : Nat} {X : World} {tv : Value} {ss : List (Sx Int)} (h : Osb X (z + 5) tv ss) {l : Nat} {o : Obj} (o' : Obj) (hlo : X.heap[l]? = some o) (ho : o.isCells = false) : Osb (X.putObj l o') (z + 5) tv ss :=
  h.keep (fun k o2 hk ho2 _ => (World.putObj_heap_other (fun e => by
    rw [e, hlo] at hk
    have := Option.some.inj hk
    rw [this, ho2] at ho; cases ho)).trans hk)
theorem five25 (w : World) (o0 o1 o2 o3 o4 : Obj) : ∃ W0, W0 = ((((w.alloc o0).alloc o1).alloc o2).alloc o3).alloc o4 ∧ W0.heap.size = w.heap.size + 5 ∧ Below w.heap.size w W0 ∧ W0.heap[w.heap.size]? = some o0 ∧ W0.heap[w.heap.size + 1]? = some o1 ∧ W0.heap[w.heap.size + 2]? = some o2 ∧ W0.heap[w.heap.size + 3]? = some o3 ∧ W0.heap[w.heap.size + 4]? = some o4 := by
  have new : ∀ (W : World) (o : Obj) (k : Nat), W.heap.size = k → (W.alloc o).heap[k]? = some o := fun W o k h => by rw [← h]; exact World.alloc_heap_new W o
  have old : ∀ (W : World) (o : Obj) (k : Nat) (x : Option Obj), W.heap[k]? = x → k < W.heap.size → (W.alloc o).heap[k]? = x := fun W o k x h hk => (Below.heap_alloc W o k hk).trans h
  refine ⟨_, rfl, by simp, ?_, ?_, ?_, ?_, ?_, ?_⟩
  · exact (((((Below.refl _ _).alloc (Nat.le_refl _) _).alloc (by simp) _).alloc (by first | (simp; done) | (simp; omega)) _).alloc (by first | (simp; done) | (simp; omega)) _).alloc (by first | (simp; done) | (simp; omega)) _
  · exact old _ _ _ _ (old _ _ _ _ (old _ _ _ _ (old _ _ _ _ (new _ _ _ rfl) (by simp)) (by first | (simp; done) | (simp; omega))) (by first | (simp; done) | (simp; omega))) (by first | (simp; done) | (simp; omega))
  · exact old _ _ _ _ (old _ _ _ _ (old _ _ _ _ (new _ _ _ (by simp)) (by simp)) (by first | (simp; done) | (simp; omega))) (by first | (simp; done) | (simp; omega))
  · exact old _ _ _ _ (old _ _ _ _ (new _ _ _ (by simp)) (by simp)) (by first | (simp; done) | (simp; omega))
  · exact old _ _ _ _ (new _ _ _ (by simp)) (by simp)
  · exact new _ _ _ (by simp)
end Go.Proofs.YtdcaojiiaocnaaaDoor

set_option linter.unusedSimpArgs false
set_option linter.unusedVariables false
namespace Go.Proofs.YtdcaojiiaocnaaaDoor
open Go.RowKit

/-! Rows of bytes of one's own, all apart; a list of slices of one's own. -/
abbrev Bx := Value × List Int
structure Bxs (B : Nat) (us : List Bx) (X : World) : Prop where
  el : ∀ u ∈ us, Ou X B u.1 u.2
  ap : us.Pairwise (fun u u' => ∀ k, u.1.ownBlock = some k → u'.1.ownBlock ≠ some k)
theorem Bxs.perm {B : Nat} {us us' : List Bx} {X : World} (h : Bxs B us X) (hp : us.Perm us') : Bxs B us' X :=
  ⟨fun u hu => h.el u (hp.mem_iff.2 hu), (hp.pairwise_iff (fun {a b} hab k hk hk' => hab k hk' hk)).1 h.ap⟩
theorem Bxs.keep {B : Nat} {us : List Bx} {X X' : World} (h : Bxs B us X) (hk : ∀ u ∈ us, ∀ g, u.1.ownBlock = some g → X'.heap[g]? = X.heap[g]?) : Bxs B us X' :=
  ⟨fun u hu => own_blk (h.el u hu) (fun g hg => hk u hu g hg), h.ap⟩
theorem Bxs.later {B : Nat} {us : List Bx} {X X' : World} (h : Bxs B us X) (hb : Below X.heap.size X X') : Bxs B us X' := h.keep (fun u hu g hg => hb.block g (own_cells (h.el u hu) hg).2.1)
/-- the first grows -/
theorem Bxs.app {B : Nat} {v v' : Value} {xs ys : List Int} {r : List Bx} {X X1 X3 : World} (h : Bxs B ((v, xs) :: r) X) (hX1 : Below X.heap.size X X1) (hO' : Ou X3 B v' ys) (hg : X1.grownBy X3 v.ownBlock) (hl : v'.ownBlock = v.ownBlock ∨ v'.ownBlock = some X1.heap.size) : Bxs B ((v', ys) :: r) X3 := by
  have h0 := List.pairwise_cons.1 h.ap
  have hr : ∀ u ∈ r, ∀ g, u.1.ownBlock = some g → g < X.heap.size ∧ X3.heap[g]? = X.heap[g]? := fun u hu g hg' => by
    have hlt := (own_cells (h.el u (List.mem_cons_of_mem _ hu)) hg').2.1
    have := hX1.size
    exact ⟨hlt, (hg.block g (by omega) (fun e => h0.1 u hu g e.symm hg')).trans (hX1.block g hlt)⟩
  refine ⟨fun u hu => ?_, List.pairwise_cons.2 ⟨fun u hu k hk hk' => ?_, h0.2⟩⟩
  · rcases List.mem_cons.1 hu with rfl | hu
    · exact hO'
    · exact own_blk (h.el u (List.mem_cons_of_mem _ hu)) (fun g hg' => (hr u hu g hg').2)
  · rcases hl with hl | hl
    · rw [hl] at hk; exact h0.1 u hu k hk hk'
    · rw [hl] at hk
      obtain rfl := Option.some.inj hk
      have := (hr u hu _ hk').1
      have := hX1.size; omega
theorem Bxs.nil0 {B : Nat} {v : Value} {xs : List Int} {r : List Bx} {X : World} (h : Bxs B ((v, xs) :: r) X) : Bxs B ((.slice none 0 0, []) :: r) X := by
  have h0 := List.pairwise_cons.1 h.ap
  refine ⟨fun u hu => ?_, List.pairwise_cons.2 ⟨fun u hu k hk => by simp [Value.ownBlock] at hk, h0.2⟩⟩
  rcases List.mem_cons.1 hu with rfl | hu
  · exact ou_nil25 _ _
  · exact h.el u (List.mem_cons_of_mem _ hu)
/-- nothing new beside them -/
theorem Bxs.new0 {B : Nat} {r : List Bx} {X : World} (h : Bxs B r X) : Bxs B ((.slice none 0 0, []) :: r) X := by
  refine ⟨fun u hu => ?_, List.pairwise_cons.2 ⟨fun u hu k hk => by simp [Value.ownBlock] at hk, h.ap⟩⟩
  rcases List.mem_cons.1 hu with rfl | hu
  · exact ou_nil25 _ _
  · exact h.el u hu
/-- what is kept where one of them grows -/
theorem grow_below {B : Nat} {v : Value} {xs : List Value} {e n : Nat} {w X X1 X3 : World} (h : X.ownsRow B e 1 v n xs) (hb : Below B w X) (hX1 : Below X.heap.size X X1) (hg : X1.grownBy X3 v.ownBlock) (hB : B ≤ X.heap.size) : Below B w X3 := by
  refine ⟨hg.os.trans (hX1.os.trans hb.os), hg.tape.trans (hX1.tape.trans hb.tape), hg.output.trans (hX1.output.trans hb.output), ?_, fun k hk => ?_⟩
  · have := hg.size; have := hX1.size; have := hb.size; omega
  · have := hX1.size
    refine (hg.block k (by omega) (fun e' => ?_)).trans ((hX1.block k (by omega)).trans (hb.block k hk))
    have := (own_cells h e'.symm).1; omega
/-- a row of another type stands where one of them grows -/
theorem grow_other {B B' : Nat} {v u : Value} {xs ys : List Value} {e e' n n' : Nat} {X X1 X3 : World} (h : X.ownsRow B e 1 v n xs) (hu : X.ownsRow B' e' 1 u n' ys) (hne : e ≠ e') (hX1 : Below X.heap.size X X1) (hg : X1.grownBy X3 v.ownBlock) : X3.ownsRow B' e' 1 u n' ys := by
  refine own_blk hu (fun g hg' => ?_)
  obtain ⟨-, hlt, cur, hc⟩ := own_cells hu hg'
  have := hX1.size
  refine (hg.block g (by omega) (fun e9 => ?_)).trans (hX1.block g hlt)
  obtain ⟨-, -, cur', hc'⟩ := own_cells h e9.symm
  rw [hc'] at hc
  have h9 := Option.some.inj hc
  simp only [Obj.cells.injEq] at h9
  exact hne h9.2.1
end Go.Proofs.YtdcaojiiaocnaaaDoor
