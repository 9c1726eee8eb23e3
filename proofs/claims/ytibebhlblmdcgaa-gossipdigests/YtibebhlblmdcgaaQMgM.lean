import Derived.Test.YtibebhlblmdcgaaQCuM
import Derived.Test.YtibebhlblmdcgaaQNbW
import Derived.Deep.QuietTactic
import Derived.BigQuiet
set_option linter.unusedSimpArgs false
set_option linter.unusedVariables false
namespace Go.Proofs.Ytibebhlblmdcgaa
open Go.RowKit

/-! Two rows by rising serial, brought together. -/
def mgF : Nat → List Ent → List Ent → Option (List Ent)
  | _, [], b => some b
  | _, a, [] => some a
  | 0, _, _ => none
  | n + 1, x :: a, y :: b =>
    if x.cert.serial < y.cert.serial then (mgF n a (y :: b)).map (x :: ·)
    else if y.cert.serial < x.cert.serial then (mgF n (x :: a) b).map (y :: ·)
    else if eqCb x.cert y.cert then (mgF n a b).map (joinE x y :: ·) else none
theorem mgF_nil (n : Nat) (b : List Ent) : mgF n [] b = some b := by cases n <;> rfl
theorem mgF_nil' (n : Nat) (a : List Ent) : mgF n a [] = some a := by cases n <;> cases a <;> rfl
theorem mgF_fuel : ∀ (n : Nat) (a b : List Ent), a.length + b.length ≤ n → ∀ m, n ≤ m → mgF m a b = mgF n a b
  | n, [], b, _, m, _ => by rw [mgF_nil, mgF_nil]
  | n, x :: a, [], _, m, _ => by rw [mgF_nil', mgF_nil']
  | 0, x :: a, y :: b, h, m, _ => by simp at h
  | n + 1, x :: a, y :: b, h, m, hm => by
    obtain ⟨m, rfl⟩ : ∃ k, m = k + 1 := ⟨m - 1, by omega⟩
    simp only [List.length_cons] at h
    simp only [mgF]
    rw [mgF_fuel n a (y :: b) (by simp; omega) m (by omega), mgF_fuel n (x :: a) b (by simp; omega) m (by omega), mgF_fuel n a b (by omega) m (by omega)]
def mgX (a b : List Ent) : Option (List Ent) := mgF (a.length + b.length) a b
theorem mgX_nil (b : List Ent) : mgX [] b = some b := mgF_nil _ _
theorem mgX_nil' (a : List Ent) : mgX a [] = some a := mgF_nil' _ _
theorem mgX_lt {x y : Ent} {a b : List Ent} (h : x.cert.serial < y.cert.serial) : mgX (x :: a) (y :: b) = (mgX a (y :: b)).map (x :: ·) := by
  unfold mgX
  rw [show (x :: a).length + (y :: b).length = (a.length + (y :: b).length) + 1 by simp; omega, mgF, if_pos h]
theorem mgX_gt {x y : Ent} {a b : List Ent} (h : y.cert.serial < x.cert.serial) : mgX (x :: a) (y :: b) = (mgX (x :: a) b).map (y :: ·) := by
  unfold mgX
  rw [show (x :: a).length + (y :: b).length = ((x :: a).length + b.length) + 1 by simp; omega, mgF, if_neg (by omega), if_pos h]
theorem mgX_eq {x y : Ent} {a b : List Ent} (h : x.cert.serial = y.cert.serial) (hc : x.cert = y.cert) : mgX (x :: a) (y :: b) = (mgX a b).map (joinE x y :: ·) := by
  unfold mgX
  rw [show (x :: a).length + (y :: b).length = (a.length + b.length + 1) + 1 by simp; omega, mgF, if_neg (by omega), if_neg (by omega), if_pos (eqCb_t hc), mgF_fuel (a.length + b.length) a b (Nat.le_refl _) _ (by omega)]
theorem mgX_no {x y : Ent} {a b : List Ent} (h : x.cert.serial = y.cert.serial) (hc : ¬ x.cert = y.cert) : mgX (x :: a) (y :: b) = none := by
  unfold mgX
  rw [show (x :: a).length + (y :: b).length = (a.length + b.length + 1) + 1 by simp; omega, mgF, if_neg (by omega), if_neg (by omega), if_neg (by rw [eqCb_f hc]; simp)]
def vLen : Value → Nat
  | .slice _ n _ => n
  | _ => 0
/-- what is still to be done -/
structure Mg (w wr : World) (A B : List Ent) (sa sb : Sx Ent) (v : Value) (X : List Ent) : Prop where
  a : Es w sa
  b : Es w sb
  o : Oe wr w.heap.size v X
  eq : mgX A B = (mgX sa.xs sb.xs).map (X ++ ·)
  le : X.length + sa.n + sb.n ≤ A.length + B.length
  bel : Below w.heap.size w wr
theorem map_app1 {o : Option (List Ent)} {X : List Ent} {x : Ent} : (o.map (x :: ·)).map (X ++ ·) = o.map ((X ++ [x]) ++ ·) := by cases o <;> simp
section
variable {P : Program} {ops : Array Oper} {S : World → Prop} {o : Oper} {a : Act}
theorem yl_loadR (hw : Region.wanted o (yielded ops a.tmps) = true) (t : TypeId) (x : Operand) (ho : o.op = .load t x) (g off : Nat) (hx : a.eval x = .pointer (some ⟨g, off, none⟩)) (p : List Value) (hr : ∀ w, S w → w.rangeAt g off p) {d : TypeDesc} (hu : P.underlying t = some d) (hd : d.isRow = true) (hz : (P.info? t).map (·.size) = some p.length) :
    YieldsIf P ops S o (aV p) a := .inl ⟨hw, fun w h => ex_loadR t x ho g off hx p (hr w h) hu hd hz⟩
end
/-- append at a step of a drawn region -/
theorem dw_append {ops : Array Oper} {o : Oper} {a : Act} {w : World} {k : Act → World → Prop} {Q : Exit → Act → World → Prop} {E : Prop} (hw : Region.wanted o (yielded ops a.tmps) = true) (s x : Operand) (ho : o.op = .call { callee := .builtin .append, args := #[s, x], argTypes := #[28, 28] })
    {base : Nat} {v : Value} {xs : List Ent} (hs : a.eval s = v) (hown : Oe w base v xs) (y : Sx Ent) (hy : Es w y) (hx : a.eval x = y.v) (hb : (xs.length + y.n) * 296 ≤ 140737488355328) (hbase : base ≤ w.heap.size)
    (h : ∀ v' w', Oe w' base v' (xs ++ y.xs) → w.grownBy w' v.ownBlock → k (a.put o.dst v') w') : if Region.wanted o (yielded ops a.tmps) = true then o.wp Try.prog a w k Q else E :=
  dw hw (op_append s x 28 ho Try.underlying28 Try.inE (by simp [aV, Value.cells, eC_len zEnt_ok]) (by omega) hs hown.own y hy.ok hy.len (fun z _ => one_e z) hx hb (by omega) hbase (fun v' w' h1 h2 => h v' w' ⟨h1, fun z hz => (List.mem_append.1 hz).elim (hown.e z) (hy.e z)⟩ h2))
theorem Mg.left {w wr w' : World} {A B : List Ent} {sa sb : Sx Ent} {v v' : Value} {X : List Ent} {x y : Ent} {ta tb : List Ent} (h : Mg w wr A B sa sb v X) (ha : sa.xs = x :: ta) (hb : sb.xs = y :: tb) (hn : 0 < sa.n) (hlt : x.cert.serial < y.cert.serial) (hO : Oe w' w.heap.size v' (X ++ [x])) (hbl : Below w.heap.size w w') : Mg w w' A B (sa.frm 262 1) sb v' (X ++ [x]) := by
  refine ⟨h.a.frm hn, h.b, hO, ?_, ?_, hbl⟩
  · rw [h.eq, ha, hb, mgX_lt hlt, map_app1]; simp only [Sx.frm, ha, List.drop_succ_cons, List.drop_zero]
  · have := h.le; simp [Sx.frm]; omega
theorem Mg.right {w wr w' : World} {A B : List Ent} {sa sb : Sx Ent} {v v' : Value} {X : List Ent} {x y : Ent} {ta tb : List Ent} (h : Mg w wr A B sa sb v X) (ha : sa.xs = x :: ta) (hb : sb.xs = y :: tb) (hn : 0 < sb.n) (hlt : y.cert.serial < x.cert.serial) (hO : Oe w' w.heap.size v' (X ++ [y])) (hbl : Below w.heap.size w w') : Mg w w' A B sa (sb.frm 262 1) v' (X ++ [y]) := by
  refine ⟨h.a, h.b.frm hn, hO, ?_, ?_, hbl⟩
  · rw [h.eq, ha, hb, mgX_gt hlt, map_app1]; simp only [Sx.frm, hb, List.drop_succ_cons, List.drop_zero]
  · have := h.le; simp [Sx.frm]; omega
theorem Mg.mid {w wr w' : World} {A B : List Ent} {sa sb : Sx Ent} {v v' : Value} {X : List Ent} {x y : Ent} {ta tb : List Ent} (h : Mg w wr A B sa sb v X) (ha : sa.xs = x :: ta) (hb : sb.xs = y :: tb) (hna : 0 < sa.n) (hn : 0 < sb.n) (hlt : x.cert.serial = y.cert.serial) (hc : x.cert = y.cert) (hO : Oe w' w.heap.size v' (X ++ [joinE x y])) (hbl : Below w.heap.size w w') : Mg w w' A B (sa.frm 262 1) (sb.frm 262 1) v' (X ++ [joinE x y]) := by
  refine ⟨h.a.frm hna, h.b.frm hn, hO, ?_, ?_, hbl⟩
  · rw [h.eq, ha, hb, mgX_eq hlt hc, map_app1]; simp only [Sx.frm, ha, hb, List.drop_succ_cons, List.drop_zero]
  · have := h.le; simp [Sx.frm]; omega
/-- a row of this call's lies apart from an elder row of one's own -/
theorem mg_apart {W w : World} {rows : List Row} {K : World → Prop} {v : Value} {X : List Ent} {base : Nat} (hS : Hs17 W rows K w) (hO : Oe W base v X) (i : Nat) {g : Nat} {t : TypeId} {c : List Value} (hi : rows[i]? = some (g, t, c)) : v.ownBlock ≠ some g := by
  intro e
  have h1 := (own_lt hO.own e).2
  have h2 := hS.old _ (List.mem_of_getElem? hi)
  simp only at h2; omega
/-- the first of a row that is not empty -/
theorem Es.fst {w : World} {s : Sx Ent} (h : Es w s) (hn : 0 < s.n) : ∃ e t b off, s.xs = e :: t ∧ e.Ok ∧ s.a = some ⟨b, off, none⟩ ∧ b < w.heap.size ∧ w.rangeAt b off (eC e) := by
  obtain ⟨e, b, off, h1, h2, h3, h4, h5⟩ := h.at_ hn
  cases hx : s.xs with
  | nil => rw [hx] at h1; simp at h1
  | cons x t =>
    rw [hx] at h1; simp at h1; subst h1
    exact ⟨x, t, b, off, rfl, h2, h3, h4, by simpa using h5⟩
end Go.Proofs.Ytibebhlblmdcgaa
