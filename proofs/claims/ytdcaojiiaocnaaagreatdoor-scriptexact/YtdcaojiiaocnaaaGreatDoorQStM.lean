import Derived.Test.YtdcaojiiaocnaaaGreatDoorQGrB
import Derived.Deep.MidRow
import Derived.Deep.RegionHeld3
import Derived.Deep.Cut
import Derived.DeepKeys
import Derived.Laws.StructEq
set_option linter.unusedSimpArgs false
set_option linter.unusedVariables false
namespace Go.Proofs.YtdcaojiiaocnaaaGreatDoor
open Go.RowKit

/-! Structs and arrays in memory, of any program: rows of cells that a call has made, their parts read and written. -/

/-- a struct or an array as a value -/
def aV (c : List Value) : Value := .agg c.toArray
theorem aV_cells (c : List Value) : (aV c).cells = c.toArray := rfl

/-- the cells p lie in c from o on -/
def At (c : List Value) (o : Nat) (p : List Value) : Prop := ∃ pre post, c = pre ++ (p ++ post) ∧ pre.length = o
/-- c with p' from o on in place of as many is c' -/
def Pt (c : List Value) (o : Nat) (p' c' : List Value) : Prop := ∃ pre p post, c = pre ++ (p ++ post) ∧ c' = pre ++ (p' ++ post) ∧ pre.length = o ∧ p.length = p'.length
theorem At.self (c : List Value) : At c 0 c := ⟨[], [], by simp, rfl⟩
theorem Pt.self {c c' : List Value} (h : c.length = c'.length) : Pt c 0 c' c' := ⟨[], c, [], by simp, by simp, rfl, h⟩
theorem At.get {c p : List Value} {o j : Nat} {v : Value} (h : At c o p) (hv : p[j]? = some v) : c[o + j]? = some v := by
  obtain ⟨pre, post, rfl, rfl⟩ := h
  have hj := (List.getElem?_eq_some_iff.1 hv).1
  rw [List.getElem?_append_right (by omega), List.getElem?_append_left (by omega), show pre.length + j - pre.length = j by omega]
  exact hv
theorem At.range {w : World} {g : Nat} {ty : TypeId} {c p : List Value} {o : Nat} (h : At c o p) (hA : Arr w g ty c) : w.rangeAt g o p := by
  intro j v hv
  rw [hA.cell]; exact h.get hv
theorem At.trans {c p q : List Value} {o o' k : Nat} (h : At c o p) (h' : At p o' q) (hk : k = o + o') : At c k q := by
  subst hk
  obtain ⟨pre, post, rfl, rfl⟩ := h
  obtain ⟨pre', post', rfl, rfl⟩ := h'
  exact ⟨pre ++ pre', post' ++ post, by simp, by simp⟩
theorem Pt.at_ {c p' c' : List Value} {o : Nat} (h : Pt c o p' c') : At c' o p' := by
  obtain ⟨pre, p, post, -, h2, h3, -⟩ := h
  exact ⟨pre, post, h2, h3⟩
theorem arr_setCells {g : Nat} {ty : TypeId} : ∀ (p' : List Value) (w : World) (pre p post : List Value), Arr w g ty (pre ++ (p ++ post)) → p.length = p'.length → Arr (w.setCells g pre.length p') g ty (pre ++ (p' ++ post))
  | [], w, pre, p, post, h, hl => by
    have : p = [] := List.eq_nil_of_length_eq_zero hl
    subst this; exact h
  | v :: r, w, pre, p, post, h, hl => by
    obtain ⟨u, q, rfl⟩ : ∃ u q, p = u :: q := by cases p with | nil => simp at hl | cons u q => exact ⟨u, q, rfl⟩
    rw [World.setCells]
    have h1 := h.set pre.length v
    have e : (pre ++ (u :: q ++ post)).set pre.length v = (pre ++ [v]) ++ (q ++ post) := by
      rw [List.set_append_right _ _ (Nat.le_refl _)]; simp
    rw [e] at h1
    have := arr_setCells r (w.setCell ⟨g, pre.length, none⟩ v) (pre ++ [v]) q post h1 (by simpa using hl)
    rw [List.length_append, List.length_singleton] at this
    rw [List.append_assoc] at this
    exact this
theorem setCells_other {g k : Nat} (hk : k ≠ g) : ∀ (p : List Value) (w : World) (o : Nat), (w.setCells g o p).heap[k]? = w.heap[k]?
  | [], w, o => rfl
  | v :: r, w, o => by rw [World.setCells, setCells_other hk r]; exact Below.heap_setCell w ⟨g, o, none⟩ v k hk
theorem setCells_bel {B g : Nat} (hB : B ≤ g) : ∀ (p : List Value) (w0 w : World) (o : Nat), Below B w0 w → Below B w0 (w.setCells g o p)
  | [], w0, w, o, h => h
  | v :: r, w0, w, o, h => by rw [World.setCells]; exact setCells_bel hB r w0 _ (o + 1) (h.setCell (p := ⟨g, o, none⟩) hB v)
theorem setCells_size {g : Nat} : ∀ (p : List Value) (w : World) (o : Nat), (w.setCells g o p).heap.size = w.heap.size
  | [], w, o => rfl
  | v :: r, w, o => by rw [World.setCells, setCells_size r]; simp [World.setCell]

abbrev Row := Nat × TypeId × List Value
/-- what a call has made: the rows, each in a block of its own; all that was there is as it was, and K holds whatever becomes of the rows -/
structure Hs17 (w0 : World) (rows : List Row) (K : World → Prop) (w : World) : Prop where
  nd : (rows.map (·.1)).Nodup
  arr : ∀ p ∈ rows, Arr w p.1 p.2.1 p.2.2
  old : ∀ p ∈ rows, w0.heap.size ≤ p.1
  bel : Below w0.heap.size w0 w
  keep : ∀ w', w.heap.size ≤ w'.heap.size → (∀ k, k < w.heap.size → (∀ p ∈ rows, p.1 ≠ k) → w'.heap[k]? = w.heap[k]?) → K w'
theorem Hs17.start (w0 : World) (K : World → Prop) (hK : ∀ w', Below w0.heap.size w0 w' → K w') (h : ∀ w w', w.heap.size ≤ w'.heap.size → (∀ k, k < w.heap.size → w'.heap[k]? = w.heap[k]?) → K w → K w') : Hs17 w0 [] K w0 :=
  ⟨by simp, (fun p hp => by cases hp), (fun p hp => by cases hp), Below.refl _ _, fun w' h1 h2 => h w0 w' h1 (fun k hk => h2 k hk (fun p hp => by cases hp)) (hK w0 (Below.refl _ _))⟩
theorem Hs17.start0 (w0 : World) : Hs17 w0 [] (fun _ => True) w0 := .start w0 _ (fun _ _ => trivial) (fun _ _ _ _ _ => trivial)
theorem Hs17.K {w0 w : World} {rows : List Row} {K : World → Prop} (h : Hs17 w0 rows K w) : K w := h.keep w (Nat.le_refl _) (fun _ _ _ => rfl)
theorem Hs17.drew {w0 w : World} {rows : List Row} {K : World → Prop} (h : Hs17 w0 rows K w) : Hs17 w0 rows K w.drew := ⟨h.nd, h.arr, h.old, h.bel.drew, h.keep⟩
theorem Hs17.later {w0 w w' : World} {rows : List Row} {K : World → Prop} (h : Hs17 w0 rows K w) (hb : Below w.heap.size w w') : Hs17 w0 rows K w' :=
  ⟨h.nd, fun p hp => (h.arr p hp).later hb, h.old, h.bel.trans (hb.mono h.bel.size), fun w'' h1 h2 => h.keep w'' (Nat.le_trans hb.size h1) (fun k hk hp => (h2 k (Nat.lt_of_lt_of_le hk hb.size) hp).trans (hb.block k hk))⟩
theorem Hs17.alloc {w0 w : World} {rows : List Row} {K : World → Prop} (h : Hs17 w0 rows K w) (t : TypeId) (c : List Value) : Hs17 w0 ((w.heap.size, t, c) :: rows) K (w.alloc (.cells c.toArray t)) := by
  obtain ⟨W, hW, hA, hb, hs⟩ := arr1 w t c
  have e : w.alloc (.cells c.toArray t) = W := hW.symm
  rw [e]
  have h' := h.later hb
  refine ⟨?_, fun p hp => ?_, fun p hp => ?_, h'.bel, fun w'' h1 h2 => ?_⟩
  · rw [List.map_cons, List.nodup_cons]
    refine ⟨fun hm => ?_, h.nd⟩
    obtain ⟨p, hp, e⟩ := List.mem_map.1 hm
    have := (h.arr p hp).lt
    simp only at e; omega
  · rcases List.mem_cons.1 hp with rfl | hp
    · exact hA
    · exact h'.arr p hp
  · rcases List.mem_cons.1 hp with rfl | hp
    · exact h.bel.size
    · exact h.old p hp
  · refine h.keep w'' (Nat.le_trans hb.size h1) (fun k hk hp => ?_)
    refine (h2 k (by omega) (fun p hp' => ?_)).trans (hb.block k hk)
    rcases List.mem_cons.1 hp' with rfl | hp'
    · show w.heap.size ≠ k; omega
    · exact hp p hp'
theorem Hs17.sub {w0 w : World} {rows rows' : List Row} {K : World → Prop} (h : Hs17 w0 rows K w) (hs : List.Sublist rows' rows) : Hs17 w0 rows' K w :=
  ⟨h.nd.sublist (hs.map _), fun p hp => h.arr p (hs.subset hp), fun p hp => h.old p (hs.subset hp), h.bel, fun w' h1 h2 => h.keep w' h1 (fun k hk hp => h2 k hk (fun p hp' => hp p (hs.subset hp')))⟩
theorem Hs17.weak {w0 w : World} {rows : List Row} {K K' : World → Prop} (h : Hs17 w0 rows K w) (hk : ∀ w, K w → K' w) : Hs17 w0 rows K' w := ⟨h.nd, h.arr, h.old, h.bel, fun w' h1 h2 => hk w' (h.keep w' h1 h2)⟩
/-- something new that stands whatever becomes of the rows -/
theorem Hs17.also {w0 w : World} {rows : List Row} {K N : World → Prop} (h : Hs17 w0 rows K w) (hn : ∀ w', w.heap.size ≤ w'.heap.size → (∀ k, k < w.heap.size → (∀ p ∈ rows, p.1 ≠ k) → w'.heap[k]? = w.heap[k]?) → N w') : Hs17 w0 rows (fun w => K w ∧ N w) w :=
  ⟨h.nd, h.arr, h.old, h.bel, fun w' h1 h2 => ⟨h.keep w' h1 h2, hn w' h1 h2⟩⟩
theorem Hs17.get {w0 w : World} {rows : List Row} {K : World → Prop} (h : Hs17 w0 rows K w) (i : Nat) {g : Nat} {t : TypeId} {c : List Value} (hi : rows[i]? = some (g, t, c)) : Arr w g t c := h.arr _ (List.mem_of_getElem? hi)
theorem Hs17.put {w0 w : World} {rows : List Row} {K : World → Prop} (h : Hs17 w0 rows K w) (i : Nat) {g : Nat} {t : TypeId} {c c' p' : List Value} {o : Nat} (hi : rows[i]? = some (g, t, c)) (hp : Pt c o p' c') : Hs17 w0 (rows.set i (g, t, c')) K (w.setCells g o p') := by
  have hA := h.get i hi
  have hg0 : w0.heap.size ≤ g := h.old _ (List.mem_of_getElem? hi)
  obtain ⟨hil, hie⟩ := List.getElem?_eq_some_iff.1 hi
  have hm : (rows.set i (g, t, c')).map (·.1) = rows.map (·.1) := by
    rw [List.map_set]
    apply List.ext_getElem?
    intro j
    rw [List.getElem?_set]
    split
    · rename_i e; subst e
      rw [if_pos (by simpa using hil), List.getElem?_map, hi]; rfl
    · rfl
  have hA' : Arr (w.setCells g o p') g t c' := by
    obtain ⟨pre, p, post, rfl, rfl, rfl, hl⟩ := hp
    exact arr_setCells p' w pre p post hA hl
  refine ⟨by rw [hm]; exact h.nd, fun q hq => ?_, fun q hq => ?_, setCells_bel hg0 p' w0 w o h.bel, fun w' h1 h2 => ?_⟩
  · obtain ⟨j, hj⟩ := List.mem_iff_getElem?.1 hq
    rw [List.getElem?_set] at hj
    split at hj
    · rename_i e; subst e
      simp only [Option.some.injEq] at hj
      subst hj; exact hA'
    · rename_i hne
      have hqa := h.arr q (List.mem_of_getElem? hj)
      have hgq : q.1 ≠ g := by
        intro e
        have hnd := h.nd
        have h1 : (rows.map (·.1))[i]? = some g := by rw [List.getElem?_map, hi]; rfl
        have h2 : (rows.map (·.1))[j]? = some g := by rw [List.getElem?_map, hj]; simp [e]
        exact hne ((List.getElem?_inj (by simpa using hil) hnd).1 (h1.trans h2.symm))
      unfold Arr at hqa ⊢
      rw [setCells_other hgq]; exact hqa
  · have : q.1 ∈ (rows.set i (g, t, c')).map (·.1) := List.mem_map.2 ⟨q, hq, rfl⟩
    rw [hm] at this
    obtain ⟨q', hq', e⟩ := List.mem_map.1 this
    rw [← e]; exact h.old q' hq'
  · refine h.keep w' (by rw [setCells_size] at h1; exact h1) (fun k hk hp' => ?_)
    have hgk : g ≠ k := hp' _ (List.mem_of_getElem? hi)
    refine (h2 k (by rw [setCells_size]; exact hk) (fun q hq => ?_)).trans (setCells_other (fun e => hgk e.symm) p' w o)
    have : q.1 ∈ (rows.set i (g, t, c')).map (·.1) := List.mem_map.2 ⟨q, hq, rfl⟩
    rw [hm] at this
    obtain ⟨q', hq', e⟩ := List.mem_map.1 this
    rw [← e]; exact hp' q' hq'
theorem Hs17.there {w : World} {g : Nat} {t : TypeId} {c c' p' : List Value} {o : Nat} (hA : Arr w g t c) (hp : Pt c o p' c') : w.there g o p'.length := by
  obtain ⟨pre, p, post, rfl, -, rfl, hl⟩ := hp
  intro j hj
  refine ⟨?_, hA.frozen _⟩
  rw [hA.cell, List.getElem?_append_right (by omega), List.getElem?_append_left (by omega), List.getElem?_eq_getElem (by omega)]
  rfl

section
variable {P : Program} {ops : Array Oper} {o : Oper} {a : Act} {w w0 : World} {k : Act → World → Prop} {Q : Exit → Act → World → Prop} {rows : List Row} {K : World → Prop} {E : Prop}

theorem op_box (t : TypeId) (x : Operand) (ho : o.op = .box t x) (c : List Value) (hx : (a.eval x).cells = c.toArray) (hS : Hs17 w0 rows K w)
    (h : ∀ g w', Hs17 w0 ((g, t, c) :: rows) K w' → k (a.put o.dst (.pointer (some ⟨g, 0, none⟩))) w') : o.wp P a w k Q := by
  unfold Oper.wp execOp
  simp only [ho, Sem.run_bind, Instr.box, newVar, newRow, run_newObj_alloc, Sem.run_pure, Result.andThen_ok, hx]
  exact h _ _ (hS.alloc t c)
theorem op_alloc (t : TypeId) (ho : o.op = .alloc t) (c : List Value) (i : TypeInfo) (hi : P.info? t = some i) (z : Value) (hz : i.zero = some z) (hzc : z.cells = c.toArray) (hS : Hs17 w0 rows K w)
    (h : ∀ g w', Hs17 w0 ((g, t, c) :: rows) K w' → k (a.put o.dst (.pointer (some ⟨g, 0, none⟩))) w') : o.wp P a w k Q := by
  unfold Oper.wp execOp
  simp only [ho, Instr.alloc, zeroValue, Sem.run_bind, run_typeInfo w hi, hz, newVar, newRow, run_newObj_alloc, Sem.run_pure, Result.andThen_ok, hzc]
  exact h _ _ (hS.alloc t c)
theorem ex_load (t : TypeId) (x : Operand) (ho : o.op = .load t x) (i : Nat) {g : Nat} {T : TypeId} {c : List Value} (hi : rows[i]? = some (g, T, c)) (off : Nat) (hx : a.eval x = .pointer (some ⟨g, off, none⟩)) (p : List Value) (hp : At c off p) {d : TypeDesc} (hu : P.underlying t = some d) (hd : d.isRow = true) (hz : (P.info? t).map (·.size) = some p.length) (hS : Hs17 w0 rows K w) :
    (execOp a.eval o).run P w = .ok (.value (aV p)) w := by
  unfold execOp
  simp only [ho, hx, Instr.loadAt, Instr.sureAddr, Sem.run_bind, Sem.run_pure, Result.andThen_ok, run_loadVar_mid w g off t p d (hp.range (hS.get i hi)) hu hd hz]
  rfl
theorem ex_load1 (t : TypeId) (x : Operand) (ho : o.op = .load t x) (i : Nat) {g : Nat} {T : TypeId} {c : List Value} (hi : rows[i]? = some (g, T, c)) (off : Nat) (hx : a.eval x = .pointer (some ⟨g, off, none⟩)) (v : Value) (hp : At c off [v]) {d : TypeDesc} (hu : P.underlying t = some d) (hd : d.isRow = false) (hS : Hs17 w0 rows K w) :
    (execOp a.eval o).run P w = .ok (.value v) w := by
  have hc := hp.range (hS.get i hi) 0 v rfl
  have hA : (isAgg t).run P w = .ok false w := by
    unfold isAgg
    rw [Sem.run_bind, run_underlying hu w]
    cases d <;> simp_all [TypeDesc.isRow]
  rw [Nat.add_zero] at hc
  have hl : (loadVar t ⟨g, off, none⟩).run P w = .ok v w := by
    simp [loadVar, Sem.run_bind, hA, run_load, hc]
  unfold execOp
  simp only [ho, hx, Instr.loadAt, Instr.sureAddr, Sem.run_bind, Sem.run_pure, Result.andThen_ok, hl]
theorem run_storeV (w : World) (b o : Nat) (ty : TypeId) (v : Value) (cs : List Value) (hv : v.cells = cs.toArray) (ht : w.there b o cs.length) (hi : (P.info? ty).map (·.size) = some cs.length) (h1 : ∀ u ∈ cs, u.oneCell' = true) :
    (storeVar ty ⟨b, o, none⟩ v).run P w = .ok () (w.setCells b o cs) := by
  have := run_storeCells_cells (P := P) b o cs 0 w (fun j hj => by simpa using (ht j hj).1) (fun j hj => by simpa using (ht j hj).2) h1
  cases hq : P.info? ty with
  | none => simp [hq] at hi
  | some i =>
    have hs : i.size = cs.length := by simp [hq] at hi; omega
    simp only [Nat.add_zero] at this
    simp [storeVar, sizeOf, typeInfo, hq, hv, hs, this]
theorem op_store (t : TypeId) (x y : Operand) (ho : o.op = .store t x y) (i : Nat) {g : Nat} {T : TypeId} {c : List Value} (hi : rows[i]? = some (g, T, c)) (off : Nat) (hx : a.eval x = .pointer (some ⟨g, off, none⟩)) (p' c' : List Value) (hp : Pt c off p' c') (hy : (a.eval y).cells = p'.toArray) (hz : (P.info? t).map (·.size) = some p'.length) (h1 : ∀ u ∈ p', u.oneCell' = true) (hS : Hs17 w0 rows K w)
    (h : ∀ w', Hs17 w0 (rows.set i (g, T, c')) K w' → k (a.put o.dst undef) w') : o.wp P a w k Q := by
  have hr := run_storeV (P := P) w g off t (a.eval y) p' hy (Hs17.there (hS.get i hi) hp) hz h1
  unfold Oper.wp execOp
  simp only [ho, hx, Instr.storeAt, Instr.sureAddr, Sem.run_bind, Sem.run_pure, Result.andThen_ok, hr]
  exact h _ (hS.put i hi hp)
theorem op_val (v : Value) (hx : (execOp a.eval o).run P w = .ok (.value v) w) (h : k (a.put o.dst v) w) : o.wp P a w k Q := by
  unfold Oper.wp
  rw [hx]
  simp [Oper.upon]
  exact h
theorem ex_build (t : TypeId) (ps : Array (Nat × Operand)) (ho : o.op = .build t ps) (c : List Value) {parts : List (Nat × Value)} (hb : P.built t parts = some c.toArray) (hps : ps.toList.map (fun p => (p.1, a.eval p.2)) = parts) : (execOp a.eval o).run P w = .ok (.value (aV c)) w := by
  have hr := run_build (P := P) w t (ps.map fun p => (p.1, a.eval p.2)) c.toArray (by rw [Array.toList_map, hps]; exact hb)
  simp [execOp, ho, hr, Result.andThen]
  rfl
/-- at a plain region's list -/
theorem wl {rest : List Oper} (hw : Region.wanted o (yielded ops a.tmps) = true) (h : ∀ k : Act → World → Prop, (∀ a' w', wpList P ops Q rest a' w' → k a' w') → o.wp P a w k Q) : wpList P ops Q (o :: rest) a w := by
  unfold wpList
  rw [if_pos hw]
  exact .inl (h _ (fun _ _ x => x))
theorem wl_skip {rest : List Oper} (hw : Region.wanted o (yielded ops a.tmps) = false) (h : wpList P ops Q rest (a.put o.dst undef) w) : wpList P ops Q (o :: rest) a w := by
  unfold wpList
  rw [if_neg (by rw [hw]; simp)]
  exact h
/-- one value more at a plain region's list -/
theorem wv {rest : List Oper} (v : Value) (hw : Region.wanted o (yielded ops a.tmps) = true) (hx : (execOp a.eval o).run P w = .ok (.value v) w) (h : wpList P ops Q rest (a.put o.dst v) w) : wpList P ops Q (o :: rest) a w :=
  wl hw fun k hk => op_val v hx (hk _ _ h)
/-- at a drawn region's step -/
theorem dw (hw : Region.wanted o (yielded ops a.tmps) = true) (h : o.wp P a w k Q) : if Region.wanted o (yielded ops a.tmps) = true then o.wp P a w k Q else E := by rw [if_pos hw]; exact h
theorem wl_box {rest : List Oper} (hw : Region.wanted o (yielded ops a.tmps) = true) (t : TypeId) (x : Operand) (ho : o.op = .box t x) (c : List Value) (hx : (a.eval x).cells = c.toArray) (hS : Hs17 w0 rows K w)
    (h : ∀ g w', Hs17 w0 ((g, t, c) :: rows) K w' → wpList P ops Q rest (a.put o.dst (.pointer (some ⟨g, 0, none⟩))) w') : wpList P ops Q (o :: rest) a w :=
  wl hw fun k hk => op_box t x ho c hx hS (fun g w' h1 => hk _ _ (h g w' h1))
theorem op_alloc' (t : TypeId) (ho : o.op = .alloc t) (c : List Value) {n : Nat} (hi : (P.info? t).map (fun i => (i.zero, i.size)) = some (some (aV c), n)) (hS : Hs17 w0 rows K w)
    (h : ∀ g w', Hs17 w0 ((g, t, c) :: rows) K w' → k (a.put o.dst (.pointer (some ⟨g, 0, none⟩))) w') : o.wp P a w k Q := by
  cases hii : P.info? t with
  | none => rw [hii] at hi; simp at hi
  | some i =>
    rw [hii] at hi
    simp only [Option.map_some, Option.some.injEq, Prod.mk.injEq] at hi
    exact op_alloc t ho c i hii (aV c) hi.1 rfl hS h
theorem wl_alloc {rest : List Oper} (hw : Region.wanted o (yielded ops a.tmps) = true) (t : TypeId) (ho : o.op = .alloc t) (c : List Value) {n : Nat} (hi : (P.info? t).map (fun i => (i.zero, i.size)) = some (some (aV c), n)) (hS : Hs17 w0 rows K w)
    (h : ∀ g w', Hs17 w0 ((g, t, c) :: rows) K w' → wpList P ops Q rest (a.put o.dst (.pointer (some ⟨g, 0, none⟩))) w') : wpList P ops Q (o :: rest) a w :=
  wl hw fun k hk => op_alloc' t ho c hi hS (fun g w' h1 => hk _ _ (h g w' h1))
theorem wl_load {rest : List Oper} (hw : Region.wanted o (yielded ops a.tmps) = true) (t : TypeId) (x : Operand) (ho : o.op = .load t x) (i : Nat) {g : Nat} {T : TypeId} {c : List Value} (hi : rows[i]? = some (g, T, c)) (off : Nat) (hx : a.eval x = .pointer (some ⟨g, off, none⟩)) (p : List Value) (hp : At c off p) {d : TypeDesc} (hu : P.underlying t = some d) (hd : d.isRow = true) (hz : (P.info? t).map (·.size) = some p.length) (hS : Hs17 w0 rows K w)
    (h : wpList P ops Q rest (a.put o.dst (aV p)) w) : wpList P ops Q (o :: rest) a w :=
  wv (aV p) hw (ex_load t x ho i hi off hx p hp hu hd hz hS) h
theorem wl_load1 {rest : List Oper} (hw : Region.wanted o (yielded ops a.tmps) = true) (t : TypeId) (x : Operand) (ho : o.op = .load t x) (i : Nat) {g : Nat} {T : TypeId} {c : List Value} (hi : rows[i]? = some (g, T, c)) (off : Nat) (hx : a.eval x = .pointer (some ⟨g, off, none⟩)) (v : Value) (hp : At c off [v]) {d : TypeDesc} (hu : P.underlying t = some d) (hd : d.isRow = false) (hS : Hs17 w0 rows K w)
    (h : wpList P ops Q rest (a.put o.dst v) w) : wpList P ops Q (o :: rest) a w :=
  wv v hw (ex_load1 t x ho i hi off hx v hp hu hd hS) h
theorem wl_store {rest : List Oper} (hw : Region.wanted o (yielded ops a.tmps) = true) (t : TypeId) (x y : Operand) (ho : o.op = .store t x y) (i : Nat) {g : Nat} {T : TypeId} {c : List Value} (hi : rows[i]? = some (g, T, c)) (off : Nat) (hx : a.eval x = .pointer (some ⟨g, off, none⟩)) (p' c' : List Value) (hp : Pt c off p' c') (hy : (a.eval y).cells = p'.toArray) (hz : (P.info? t).map (·.size) = some p'.length) (h1 : ∀ u ∈ p', u.oneCell' = true) (hS : Hs17 w0 rows K w)
    (h : ∀ w', Hs17 w0 (rows.set i (g, T, c')) K w' → wpList P ops Q rest (a.put o.dst undef) w') : wpList P ops Q (o :: rest) a w :=
  wl hw fun k hk => op_store t x y ho i hi off hx p' c' hp hy hz h1 hS (fun w' h1 => hk _ _ (h w' h1))
/-- taken first in a drawn region -/
theorem yl_load (hw : Region.wanted o (yielded ops a.tmps) = true) (t : TypeId) (x : Operand) (ho : o.op = .load t x) (i : Nat) {g : Nat} {T : TypeId} {c : List Value} (hi : rows[i]? = some (g, T, c)) (off : Nat) (hx : a.eval x = .pointer (some ⟨g, off, none⟩)) (p : List Value) (hp : At c off p) {d : TypeDesc} (hu : P.underlying t = some d) (hd : d.isRow = true) (hz : (P.info? t).map (·.size) = some p.length) :
    YieldsIf P ops (Hs17 w0 rows K) o (aV p) a := .inl ⟨hw, fun w hS => ex_load t x ho i hi off hx p hp hu hd hz hS⟩
theorem yl_load1 (hw : Region.wanted o (yielded ops a.tmps) = true) (t : TypeId) (x : Operand) (ho : o.op = .load t x) (i : Nat) {g : Nat} {T : TypeId} {c : List Value} (hi : rows[i]? = some (g, T, c)) (off : Nat) (hx : a.eval x = .pointer (some ⟨g, off, none⟩)) (v : Value) (hp : At c off [v]) {d : TypeDesc} (hu : P.underlying t = some d) (hd : d.isRow = false) :
    YieldsIf P ops (Hs17 w0 rows K) o v a := .inl ⟨hw, fun w hS => ex_load1 t x ho i hi off hx v hp hu hd hS⟩
theorem yl_val {S : World → Prop} (hw : Region.wanted o (yielded ops a.tmps) = true) (v : Value) (hx : ∀ w, (execOp a.eval o).run P w = .ok (.value v) w) : YieldsIf P ops S o v a := .inl ⟨hw, fun w _ => hx w⟩
end

/-! Results. -/
section
variable {P : Program} {fn : Func} {tmps : Array Value} {w w0 : World} {rows : List Row} {K : World → Prop}
theorem run_loadVar_hs (hS : Hs17 w0 rows K w) (i : Nat) {g : Nat} {T : TypeId} {c : List Value} (hi : rows[i]? = some (g, T, c)) {ty : TypeId} {d : TypeDesc} (hu : P.underlying ty = some d) (hd : d.isRow = true) (hz : (P.info? ty).map (·.size) = some c.length) : (loadVar ty ⟨g, 0, none⟩).run P w = .ok (aV c) w :=
  run_loadVar_mid w g 0 ty c d ((At.self c).range (hS.get i hi)) hu hd hz
theorem res_c {p : Tmp} {ty : TypeId} (h : fn.results = #[.cell p ty]) (hS : Hs17 w0 rows K w) (i : Nat) {g : Nat} {T : TypeId} {c : List Value} (hi : rows[i]? = some (g, T, c)) (hp : tmps.getD p undef = .pointer (some ⟨g, 0, none⟩)) {d : TypeDesc} (hu : P.underlying ty = some d) (hd : d.isRow = true) (hz : (P.info? ty).map (·.size) = some c.length) :
    (results fn tmps).run P w = .ok (aV c) w := by
  have hp' : tmps[p]?.getD undef = .pointer (some ⟨g, 0, none⟩) := by simpa using hp
  simp [results, h, hp', asAddr, run_loadVar_hs hS i hi hu hd hz]
theorem res_ct {p u : Tmp} {ty : TypeId} (h : fn.results = #[.cell p ty, .tmp u]) (hS : Hs17 w0 rows K w) (i : Nat) {g : Nat} {T : TypeId} {c : List Value} (hi : rows[i]? = some (g, T, c)) (hp : tmps.getD p undef = .pointer (some ⟨g, 0, none⟩)) {d : TypeDesc} (hu : P.underlying ty = some d) (hd : d.isRow = true) (hz : (P.info? ty).map (·.size) = some c.length) (v : Value) (hv : tmps.getD u undef = v) :
    (results fn tmps).run P w = .ok (.tuple #[aV c, v]) w := by
  have hp' : tmps[p]?.getD undef = .pointer (some ⟨g, 0, none⟩) := by simpa using hp
  have hv' : tmps[u]?.getD undef = v := by simpa using hv
  simp [results, h, hp', hv', asAddr, run_loadVar_hs hS i hi hu hd hz]
theorem res_ctt {p u u' : Tmp} {ty : TypeId} (h : fn.results = #[.cell p ty, .tmp u, .tmp u']) (hS : Hs17 w0 rows K w) (i : Nat) {g : Nat} {T : TypeId} {c : List Value} (hi : rows[i]? = some (g, T, c)) (hp : tmps.getD p undef = .pointer (some ⟨g, 0, none⟩)) {d : TypeDesc} (hu : P.underlying ty = some d) (hd : d.isRow = true) (hz : (P.info? ty).map (·.size) = some c.length) (v v' : Value) (hv : tmps.getD u undef = v) (hv' : tmps.getD u' undef = v') :
    (results fn tmps).run P w = .ok (.tuple #[aV c, v, v']) w := by
  have hp' : tmps[p]?.getD undef = .pointer (some ⟨g, 0, none⟩) := by simpa using hp
  have h1 : tmps[u]?.getD undef = v := by simpa using hv
  have h2 : tmps[u']?.getD undef = v' := by simpa using hv'
  simp [results, h, hp', h1, h2, asAddr, run_loadVar_hs hS i hi hu hd hz]
theorem res_tc {p u : Tmp} {ty : TypeId} (h : fn.results = #[.tmp u, .cell p ty]) (hS : Hs17 w0 rows K w) (i : Nat) {g : Nat} {T : TypeId} {c : List Value} (hi : rows[i]? = some (g, T, c)) (hp : tmps.getD p undef = .pointer (some ⟨g, 0, none⟩)) {d : TypeDesc} (hu : P.underlying ty = some d) (hd : d.isRow = true) (hz : (P.info? ty).map (·.size) = some c.length) (v : Value) (hv : tmps.getD u undef = v) :
    (results fn tmps).run P w = .ok (.tuple #[v, aV c]) w := by
  have hp' : tmps[p]?.getD undef = .pointer (some ⟨g, 0, none⟩) := by simpa using hp
  have hv' : tmps[u]?.getD undef = v := by simpa using hv
  simp [results, h, hp', hv', asAddr, run_loadVar_hs hS i hi hu hd hz]
end
end Go.Proofs.YtdcaojiiaocnaaaGreatDoor
