import Derived.Test.YtaepmfkdnjembaaOrM24
set_option linter.unusedSimpArgs false
set_option linter.unusedVariables false
namespace Go.Proofs.Ytaepmfkdnjembaa
open Go.RowKit

/-! What a bag must hold: the law's own book. -/
structure Inv24 (ms L : List Ms) (tk : List Bool) (last : Nat) (h : Int) (N : Nat) : Prop where
  nu : NumA (L.map Ms.p)
  tl : tk.length = L.length
  eq : ms.map Ms.p = lfT (L.map Ms.p) tk
  la : last = L.length
  he : h = (ms.length : Int)
  le : L.length ≤ N
theorem Inv24.zero : Inv24 [] [] [] 0 0 0 := ⟨NumA.nil, rfl, rfl, rfl, rfl, Nat.le_refl _⟩
theorem Inv24.mono {ms L : List Ms} {tk : List Bool} {last N M : Nat} {h : Int} (k : Inv24 ms L tk last h N) (hN : N ≤ M) : Inv24 ms L tk last h M := ⟨k.nu, k.tl, k.eq, k.la, k.he, Nat.le_trans k.le hN⟩
theorem Inv24.put {ms ms' L : List Ms} {tk : List Bool} {last N : Nat} {h f t : Int} {l : List Int} (k : Inv24 ms L tk last h N) (hp : ms'.map Ms.p = ms.map Ms.p ++ [⟨((last + 1 : Nat) : Int), f, t, l⟩]) (x : Ms) (hx : x.p = ⟨((last + 1 : Nat) : Int), f, t, l⟩) :
    Inv24 ms' (L ++ [x]) (tk ++ [false]) (last + 1) (h + 1) (N + 1) := by
  have e : (L.map Ms.p).length = last := by rw [List.length_map]; exact k.la.symm
  have e2 : (L ++ [x]).map Ms.p = L.map Ms.p ++ [⟨(((L.map Ms.p).length + 1 : Nat) : Int), f, t, l⟩] := by rw [List.map_append, List.map_cons, List.map_nil, hx, e]
  refine ⟨?_, by rw [List.length_append, List.length_append, k.tl]; rfl, ?_, by rw [List.length_append, k.la]; rfl, ?_, by rw [List.length_append]; have := k.le; simp; omega⟩
  · rw [e2]; exact k.nu.snoc f t l
  · rw [e2, lfT_snoc k.nu (by rw [List.length_map]; exact k.tl), hp, k.eq, e]
  · have h9 := congrArg List.length hp
    rw [List.length_append, List.length_map, List.length_map] at h9
    rw [k.he, h9]; simp
theorem Inv24.there {ms L : List Ms} {tk : List Bool} {last N : Nat} {h : Int} (k : Inv24 ms L tk last h N) (z : Int) : lkB ms z = decide (1 ≤ z ∧ z ≤ (L.length : Int) ∧ tk.getD (z - 1).toNat false = false) := by
  rw [← lkB_p, k.eq, pB_lfT k.nu, List.length_map]
theorem Inv24.look {ms L : List Ms} {tk : List Bool} {last N : Nat} {h : Int} (k : Inv24 ms L tk last h N) {j : Nat} {x : Ms} (hx : L[j]? = some x) (ht : tk.getD j false = false) : (lkV ms ((j : Int) + 1)).p = x.p := by
  rw [← lkV_p, k.eq]
  exact pV_lfT k.nu tk (by rw [List.getElem?_map, hx]; rfl) ht
theorem Inv24.take {ms L : List Ms} {tk : List Bool} {last N : Nat} {h : Int} (k : Inv24 ms L tk last h N) {j : Nat} (hj : j < L.length) (ht : tk.getD j false = false) : Inv24 (dlM ms ((j : Int) + 1)) L (tk.set j true) last (h - 1) N := by
  have e1 : (dlM ms ((j : Int) + 1)).map Ms.p = lfT (L.map Ms.p) (tk.set j true) := by
    rw [dlM_p, k.eq]
    exact pD_lfT k.nu (by rw [List.length_map]; exact k.tl) (by rw [List.length_map]; exact hj)
  refine ⟨k.nu, by rw [List.length_set]; exact k.tl, e1, k.la, ?_, k.le⟩
  have h1 := lfT_taken k.nu (tk := tk) (by rw [List.length_map]; exact k.tl) (by rw [List.length_map]; exact hj) ht
  rw [← e1, ← k.eq, List.length_map, List.length_map] at h1
  rw [k.he, ← h1]; simp
/-- the law's memory: the book's block, its two rows, other rows, the bag -/
def PlS (w0 : World) (gb mb gp : Nat) (rows : List Row) (A : Sx Ms) (T : Sx Bool) (RA RT : List Row) (ms L : List Ms) (tk : List Bool) (last : Nat) (h : Int) (w : World) : Prop :=
  RowG mC 4 32 A L RA ∧ RowG bC 1 4 T tk RT ∧ Hs17 w0 ((gp, 50, plC A.v T.v h) :: (rows ++ RT ++ RA)) (BagW w0.heap.size gb mb ms L last) w
/-- somehow, with at most N messages -/
def PlX (w0 : World) (gb mb gp : Nat) (rows : List Row) (N : Nat) (w : World) : Prop :=
  ∃ A T RA RT ms L tk last h, PlS w0 gb mb gp rows A T RA RT ms L tk last h w ∧ Inv24 ms L tk last h N
theorem plRows {rows RT RA : List Row} {T : Sx Bool} {A : Sx Ms} {tk : List Bool} {L : List Ms} (hn : NoB rows = true) (hA : RowG mC 4 32 A L RA) (hT : RowG bC 1 4 T tk RT) : NoB (rows ++ RT ++ RA) = true := NoB.app (NoB.app hn (hT.noB rfl)) (hA.noB rfl)
/-- a row more behind the book's -/
theorem Hs17.two {w0 w : World} {p q : Row} {rows : List Row} {K : World → Prop} (h : Hs17 w0 (p :: q :: rows) K w) : Hs17 w0 (q :: p :: rows) K w := h.swap (List.Perm.swap _ _ _)
theorem Hs17.swapT {w0 w : World} {X RT RA : List Row} {K : World → Prop} (h : Hs17 w0 (X ++ RT ++ RA) K w) : Hs17 w0 (X ++ RA ++ RT) K w := h.swap (by
  rw [List.append_assoc, List.append_assoc]
  exact List.Perm.append_left X List.perm_append_comm)
/-- bytes that can be read in the law's state -/
def Rb24 (w0 : World) (gb mb last : Nat) (ms L : List Ms) (y : Sx Int) : Prop := ∀ rows v, Hs17 w0 rows (BagW w0.heap.size gb mb ms L last) v → Su v y
theorem rb_old {w0 : World} {gb mb last : Nat} {ms L : List Ms} {y : Sx Int} (hy : Su w0 y) : Rb24 w0 gb mb last ms L y := fun rows v h => hy.old (Old.of h.bel)
theorem rb_ex {w0 : World} {gb mb last : Nat} {ms L : List Ms} {m : Ms} (hm : m ∈ L) : Rb24 w0 gb mb last ms L m.s := fun rows v h => Ou.ok (h.K.g.bd m (List.mem_append.2 (.inr hm)))
theorem sm_row {w0 w : World} {rows RA : List Row} {A : Sx Ms} {L : List Ms} {K : World → Prop} (hA : RowG mC 4 32 A L RA) (hR : ∀ p ∈ RA, p ∈ rows) (hS : Hs17 w0 rows K w) : Sm24 w ⟨A.a, A.n, A.c, L⟩ := RowG.sx24 hA (fun x _ => mC_len x) hR hS
theorem sb_row {w0 w : World} {rows RT : List Row} {T : Sx Bool} {tk : List Bool} {K : World → Prop} (hT : RowG bC 1 4 T tk RT) (hR : ∀ p ∈ RT, p ∈ rows) (hS : Hs17 w0 rows K w) : Sx.Ok bC 1 w ⟨T.a, T.n, T.c, tk⟩ := RowG.sx24 hT (fun x _ => bC_len x) hR hS
end Go.Proofs.Ytaepmfkdnjembaa
