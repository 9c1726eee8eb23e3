import Derived.Test.YtkagnpnicbddlaaDoorButM
import Derived.Test.YtkagnpnicbddlaaDoorJoinW
import Derived.Laws.AppendOwnNone
import Derived.Laws.ResultCell
import Derived.Laws.Tables
import Derived.Deep.AppendLies
namespace Go.Proofs.YtkagnpnicbddlaaDoor
open Go.RowKit

/-! Rows of one's own that are appended to. -/
theorem Sl.Ok.blk {w : World} {s : Sl} (h : s.Ok w) : 0 < s.l.length → ∀ x, s.a = some x → x.block < w.heap.size := by
  intro hp x hx
  obtain ⟨b, off, ha, hlt, -⟩ := h.lies hp
  rw [ha] at hx; simp at hx; subst hx; exact hlt
theorem take_to (l : List Int) (a e : Nat) (h : a ≤ e) : l.take a ++ (l.drop a).take (e - a) = l.take e := by
  obtain ⟨k, rfl⟩ : ∃ k, e = a + k := ⟨e - a, by omega⟩
  rw [show a + k - a = k by omega, List.take_add]
theorem lies_take {w : World} {a : Option Addr} {l : List Int} (h : Lies w a l) (k : Nat) : Lies w a (l.take k) := by
  intro hp
  obtain ⟨b, off, ha, hlt, hc⟩ := h (by simp at hp; omega)
  refine ⟨b, off, ha, hlt, fun i hi => ?_⟩
  have hi2 : i < l.length ∧ i < k := by simp at hi; omega
  rw [hc i hi2.1]
  simp [hi2.2]

theorem Sl.Ok.of_own {w : World} {base e g n cap : Nat} {l : List Int} (h : w.ownsRow base e 1 (.slice (some ⟨g, 0, none⟩) n cap) n (U8 l)) (hB : IsB l) : Sl.Ok w ⟨some ⟨g, 0, none⟩, n, cap, l⟩ := by
  have hl : l.length = n := by have := h.1; simpa using this
  rcases h.2 with ⟨h', _⟩ | ⟨g', cap', cur, h', _, _, hle, hmx, _⟩
  · simp at h'
  · simp at h'; obtain ⟨rfl, rfl⟩ := h'
    exact ⟨hl, hle, hmx, (fun h => by cases h), hB, Lies.of_own h⟩

theorem own_sl {w : World} {base n : Nat} {v : Value} {l : List Int} (h : w.ownsRow base 5 1 v n (U8 l)) (hB : IsB l) : ∃ s : Sl, v = s.v ∧ s.Ok w ∧ s.l = l ∧ s.n = n ∧ (∀ x, s.a = some x → base ≤ x.block) := by
  have hl : l.length = n := by have := h.1; simpa using this
  rcases h.2 with ⟨rfl, rfl⟩ | ⟨g, cap, cur, rfl, hb, hg, hn, hm, hs, ht⟩
  · have : l = [] := List.eq_nil_of_length_eq_zero hl
    subst this
    exact ⟨⟨none, 0, 0, []⟩, rfl, ⟨rfl, Nat.le_refl _, by unfold maxLen; simp, fun _ => ⟨rfl, rfl⟩, hB, Lies.nil _ _⟩, rfl, rfl, fun x hx => by cases hx⟩
  · exact ⟨⟨some ⟨g, 0, none⟩, n, cap, l⟩, rfl, Sl.Ok.of_own h hB, rfl, rfl, fun x hx => by cases hx; exact hb⟩

theorem one_byte (x : Int) : ∀ u ∈ [Value.int .u8 x], u.oneCell' = true := by intro u hu; simp at hu; subst hu; rfl
theorem U8_snoc (l : List Int) (x : Int) : U8 (l ++ [x]) = U8 l ++ [.int .u8 x] := by simp [U8]

theorem below_grown {B : Nat} {w wr w1 : World} {v : Value} {e n : Nat} {xs : List Value} (hbl : Below B w wr) (hw : B ≤ w.heap.size) (hown : wr.ownsRow B e 1 v n xs) (hgrow : wr.grownBy w1 v.ownBlock) : Below B w w1 :=
  hbl.grown hgrow (by have := hbl.size; omega) (fun k hk => (hown.lt k hk).1)

/-- append of a slice of bytes that came from anywhere, nil too, to a row of one's own -/
theorem wpList_append_sl {P : Program} {w : World} {ops : Array Oper} {rest : List Oper} {o : Oper} {a : Act} {Q : Exit → Act → World → Prop} (hgd : o.guard = none) (s x : Operand) (t : TypeId)
    (ho : o.op = .call { callee := .builtin .append, args := #[s, x], argTypes := #[t, t] })
    (base : Nat) (e : TypeId) (i : TypeInfo) (z : Value) (ht : P.underlying t = some (.slice e)) (hi : P.info? e = some i) (hz : i.zero = some z) (hsize : i.size = 1) (hby : i.bytes = 1) (hzs : z.cells.size = 1)
    (v : Value) (n : Nat) (xs : List Value) (hs : a.eval s = v) (hown : w.ownsRow base e 1 v n xs) (d : Sl) (hd : d.Ok w) (hx : a.eval x = .slice d.a d.n d.c)
    (hb : n + d.n ≤ 140737488355328) (hbase : base ≤ w.heap.size)
    (h : ∀ v' w', Hid (w'.ownsRow base e 1 v' (n + d.n) (xs ++ U8 d.l)) → Hid (w.grownBy w' v.ownBlock) → wpList P ops Q rest (a.put o.dst v') w') : wpList P ops Q (o :: rest) a w := by
  cases hda : d.a with
  | none =>
    obtain ⟨h0, hc0⟩ := hd.nn hda
    have hl0 : d.l = [] := List.eq_nil_of_length_eq_zero (by rw [hd.len, h0])
    refine wpList_append_own_none hgd s x t ho base e i 1 ht hi v n xs hs hown (by rw [hx, hda, h0, hc0]) ?_
    refine h v w (show _ from ?_) (show _ from World.grownBy.refl w _)
    have h2 : w.ownsRow base e 1 v (n + d.n) (xs ++ U8 d.l) := by rw [h0, hl0]; simpa [U8] using hown
    exact h2
  | some ad =>
    refine wpList_append_own w hgd s x t ho base e i z 1 1 ht hi hz hsize hby hzs (by decide) v n xs hs hown ad d.n d.c (U8 d.l) (by rw [hx, hda]) (by rw [U8_length, hd.len, Nat.mul_one]) (hd.cells ad hda) (U8_one _) (by unfold maxLen; omega) (by omega) hbase ?_
    intro v' w' h1 h2 _
    exact h v' w' h1 h2

theorem fill_block (A : List Int) (a : Nat) {n : Nat} (h : a + n ≤ A.length) : fill n (fun i => A.getD (a + i) 0) n = (A.drop a).take n := by
  rw [fill_all]
  apply List.ext_getElem
  · simp; omega
  · intro i h1 h2
    simp at h1
    simp [List.getElem?_eq_getElem (show a + i < A.length by omega)]

theorem below_app {B e n : Nat} {w wr w1 : World} {v : Value} {xs : List Value} {ob : Obj} (hbl : Below B w wr) (hw : B ≤ w.heap.size) (hown : wr.ownsRow B e 1 v n xs) (hgrow : (wr.alloc ob).grownBy w1 v.ownBlock) : Below B w w1 :=
  (hbl.alloc (Nat.le_trans hw hbl.size) _).grown hgrow (by have := hbl.size; simp; omega) (fun k hk => (hown.lt k hk).1)
theorem U8_snoc2 (l : List Int) (x : Int) : U8 l ++ [.int .u8 x] = U8 (l ++ [x]) := by simp [U8]
theorem take_snoc (l : List Int) (k : Nat) (h : k < l.length) : l.take (k + 1) = l.take k ++ [l.getD k 0] := by
  rw [List.take_succ_eq_append_getElem h, getD_lt l k h]
theorem own_slLen {w : World} {base e n : Nat} {v : Value} {xs : List Value} (h : w.ownsRow base e 1 v n xs) : slLen v = n := by
  rcases h.2 with ⟨rfl, rfl⟩ | ⟨g, cap, cur, rfl, -⟩ <;> rfl

theorem own_later {w w' : World} {base e n : Nat} {v : Value} {xs : List Value} (h : w.ownsRow base e 1 v n xs) (hb : Below w.heap.size w w') : w'.ownsRow base e 1 v n xs := by
  refine ⟨h.1, ?_⟩
  rcases h.2 with h2 | ⟨g, cap, cur, h1, h2, h3, h4⟩
  · exact .inl h2
  · refine .inr ⟨g, cap, cur, h1, h2, (hb.block g ?_).trans h3, h4⟩
    by_cases hg : g < w.heap.size
    · exact hg
    · rw [Array.getElem?_eq_none (by omega)] at h3; simp at h3
/-- two results: an array in a cell of its own, a plain one -/
theorem results_row_tmp {P : Program} {fn : Func} {p u : Tmp} {ty : TypeId} (h : fn.results = #[.cell p ty, .tmp u]) (tmps : Array Value) (w : World) (g : Nat) (t : TypeId) (cs : Array Value) (fr : Nat × Nat) (d : TypeDesc)
    (hp : tmps.getD p undef = .pointer (some ⟨g, 0, none⟩)) (v : Value) (hv : tmps.getD u undef = v) (hg : w.heap[g]? = some (.cells cs t fr))
    (hu : P.underlying ty = some d) (hd : (match d with | .struct _ | .array _ _ => true | _ => false) = true) (hi : (P.info? ty).map (·.size) = some cs.size) :
    (results fn tmps).run P w = .ok (.tuple #[.agg cs, v]) w := by
  rw [results_cell_tmp h, hp, hv]
  simp [asAddr, run_loadVar_row w g t ty cs fr d hg hu hd hi]
/-- append where there is no room: new memory -/
theorem wpList_append_new {P : Program} {w : World} {ops : Array Oper} {rest : List Oper} {o : Oper} {a : Act} {Q : Exit → Act → World → Prop} (hgd : o.guard = none) (s x : Operand) (t : TypeId)
    (ho : o.op = .call { callee := .builtin .append, args := #[s, x], argTypes := #[t, t] })
    (e : TypeId) (i : TypeInfo) (z : Value) (ht : P.underlying t = some (.slice e)) (hi : P.info? e = some i) (hz : i.zero = some z) (hsize : i.size = 1) (hby : i.bytes = 1)
    (b : Addr) (sLen sCap : Nat) (hs : a.eval s = .slice (some b) sLen sCap) (l : List Int) (hl : l.length = sLen) (hlB : IsB l) (hlc : ∀ j u, (U8 l)[j]? = some u → w.cell? (b.add j) = some u)
    (d : Sl) (hd : d.Ok w) (hx : a.eval x = .slice d.a d.n d.c) (hn : 0 < d.n) (hg : sCap < sLen + d.n) (hb : sLen + d.n ≤ 140737488355328)
    (h : ∀ cap w', Hid (Sl.Ok w' ⟨some ⟨w.heap.size, 0, none⟩, sLen + d.n, cap, l ++ d.l⟩) → Hid (Below w.heap.size w w') → Hid (w.heap.size < w'.heap.size) → wpList P ops Q rest (a.put o.dst (.slice (some ⟨w.heap.size, 0, none⟩) (sLen + d.n) cap)) w') :
    wpList P ops Q (o :: rest) a w := by
  obtain ⟨ad, had⟩ : ∃ ad, d.a = some ad := by
    cases hda : d.a with
    | none => have := (hd.nn hda).1; omega
    | some ad => exact ⟨ad, rfl⟩
  have hfit : Builtin.nextslicecap (sLen + d.n) sCap * i.bytes ≤ 281474976710656 := by rw [hby]; exact growslice_fits hg (by omega)
  have hr := run_append_grow (P := P) (w := w) t o.type e i z ht hi hz b sLen sCap (U8 l) (by rw [hsize]; simp [hl]) hlc ad d.n d.c (U8 d.l) (by rw [hsize]; simp [hd.len]) (hd.cells ad had) hg (by omega) hfit
  refine wpList_plain hgd fun K hK => ?_
  unfold Oper.wp execOp
  rw [had] at hx
  simp only [ho, resolve, invoke, builtin, Sem.run_bind, Sem.run_pure, Result.andThen_ok, List.map_toArray, List.map_cons, List.map_nil, hs, hx, hr]
  refine hK _ _ (h _ _ (show Sl.Ok _ _ from ⟨by simp [hl, hd.len], grownCap_ge _ _ _ _, grownCap_le_maxLen _ _ _ _ (by unfold maxLen; omega), (fun h => by cases h), hlB.append hd.isB, fun _ => ⟨w.heap.size, 0, rfl, by simp, fun k hk => ?_⟩⟩)
    (show Below _ _ _ from ⟨rfl, rfl, rfl, by simp, fun k hk => Below.heap_alloc w _ k hk⟩) (show _ < _ by simp))
  have hrow := heap_alloc_last w.drew (.cells ((U8 l).toArray ++ (U8 d.l).toArray ++ Builtin.zeroCells z.cells (grownCap w (sLen + d.n) sCap e - (sLen + d.n))) e)
  rw [Nat.zero_add, cell_of_row _ w.heap.size k _ _ _ hrow, ← U8_at (l ++ d.l) k hk, U8_append]
  have hk2 : k < (U8 l ++ U8 d.l).length := by simpa using hk
  have hk3 : k < ((U8 l).toArray ++ (U8 d.l).toArray).size := by simpa using hk
  rw [Array.getElem?_append_left hk3]
  simp
/-- append onto a row of one's own: the cells that were there stay as they were, whether there is room or not -/
theorem run_append_keep {P : Program} (w : World) (t ty : TypeId) (base : Nat) (e : TypeId) (i : TypeInfo) (z : Value) (bytes : Nat) (ht : P.underlying t = some (.slice e)) (hi : P.info? e = some i) (hz : i.zero = some z)
    (hsize : i.size = 1) (hby : i.bytes = bytes) (hzs : z.cells.size = 1)
    (g n cap : Nat) (xs : List Value) (hown : w.ownsRow base e 1 (.slice (some ⟨g, 0, none⟩) n cap) n xs)
    (ad : Addr) (m c : Nat) (news : List Value) (hl : news.length = m) (hnews : ∀ j u, news[j]? = some u → w.cell? (ad.add j) = some u) (h1 : ∀ u ∈ news, u.oneCell' = true)
    (hm : 0 < m) (h63 : n + m ≤ maxLen) (hbytes : (n + m) * bytes ≤ 140737488355328) (hbase : base ≤ w.heap.size) :
    ∃ g' cap' w', (Builtin.append_ #[t, t] ty #[.slice (some ⟨g, 0, none⟩) n cap, .slice (some ad) m c]).run P w = .ok (.slice (some ⟨g', 0, none⟩) (n + m) cap') w' ∧
      w'.ownsRow base e 1 (.slice (some ⟨g', 0, none⟩) (n + m) cap') (n + m) (xs ++ news) ∧ w.grownBy w' (some g) ∧ (∀ j, j < n → w'.cell? ⟨g, j, none⟩ = xs[j]?) := by
  obtain ⟨g', cap', w', hr, ho, hgr, -, -⟩ := run_append_lies (P := P) w t ty base e i z 1 bytes ht hi hz hsize hby hzs (by decide) _ n xs hown ad m c news (by omega) hnews h1 hm h63 hbytes hbase _ rfl
  refine ⟨g', cap', w', hr, ho, hgr, fun j hj => ?_⟩
  have hxl : xs.length = n := by have := hown.1; omega
  by_cases hroom : n + m ≤ cap
  · obtain ⟨w2, hr2, ho2, -⟩ := run_append_fits (P := P) w base t ty e i 1 ht hi hsize g n cap xs hown ad m c news (by omega) hnews h1 hroom
    rw [hr] at hr2
    simp only [Result.ok.injEq] at hr2
    rw [hr2.2, ho2.cellAt j (by omega), List.getElem?_append_left (by omega)]
  · have hfit : Builtin.nextslicecap (n + m) cap * i.bytes ≤ 281474976710656 := growslice_fits (by omega) (by rw [hby]; exact hbytes)
    have hr2 := run_append_grow (P := P) (w := w) t ty e i z ht hi hz ⟨g, 0, none⟩ n cap xs (by rw [hsize]; omega) (fun k v hk => by
      have hk' : k < n := by have := (List.getElem?_eq_some_iff.1 hk).1; omega
      rw [addr_add, Nat.zero_add, hown.cellAt k (by omega)]; exact hk) ad m c news (by rw [hsize]; omega) hnews (by omega) (by unfold maxLen at h63; omega) hfit
    rw [hr] at hr2
    simp only [Result.ok.injEq] at hr2
    have hlt : g < w.heap.size := (hown.lt g rfl).2
    rw [hr2.2, World.cell?_of_block (w := w) (a := ⟨g, j, none⟩) (Below.heap_alloc w.drew _ g hlt), hown.cellAt j (by omega)]
/-- at a step of a drawn region -/
theorem step_append_keep {P : Program} {ops : Array Oper} {o : Oper} {a : Act} {w : World} {K : Act → World → Prop} {Q : Exit → Act → World → Prop} {E : Prop} (hgd : o.guard = none) (s x : Operand) (t : TypeId)
    (ho : o.op = .call { callee := .builtin .append, args := #[s, x], argTypes := #[t, t] })
    (base : Nat) (e : TypeId) (i : TypeInfo) (z : Value) (bytes : Nat) (ht : P.underlying t = some (.slice e)) (hi : P.info? e = some i) (hz : i.zero = some z)
    (hsize : i.size = 1) (hby : i.bytes = bytes) (hzs : z.cells.size = 1)
    (g n cap : Nat) (xs : List Value) (hs : a.eval s = .slice (some ⟨g, 0, none⟩) n cap) (hown : w.ownsRow base e 1 (.slice (some ⟨g, 0, none⟩) n cap) n xs)
    (ad : Addr) (m c : Nat) (news : List Value) (hx : a.eval x = .slice (some ad) m c) (hl : news.length = m) (hnews : ∀ j u, news[j]? = some u → w.cell? (ad.add j) = some u) (h1 : ∀ u ∈ news, u.oneCell' = true)
    (hm : 0 < m) (h63 : n + m ≤ maxLen) (hbytes : (n + m) * bytes ≤ 140737488355328) (hbase : base ≤ w.heap.size)
    (h : ∀ g' cap' w', w'.ownsRow base e 1 (.slice (some ⟨g', 0, none⟩) (n + m) cap') (n + m) (xs ++ news) → w.grownBy w' (some g) → (∀ j, j < n → w'.cell? ⟨g, j, none⟩ = xs[j]?) → K (a.put o.dst (.slice (some ⟨g', 0, none⟩) (n + m) cap')) w') :
    if Region.wanted o (yielded ops a.tmps) = true then Oper.wp P o a w K Q else E := by
  have hw : Region.wanted o (yielded ops a.tmps) = true := by simp [Region.wanted, hgd]
  rw [if_pos hw]
  obtain ⟨g', cap', w', hr, r1, r2, r3⟩ := run_append_keep (P := P) w t o.type base e i z bytes ht hi hz hsize hby hzs g n cap xs hown ad m c news hl hnews h1 hm h63 hbytes hbase
  unfold Oper.wp
  simp [execOp, ho, resolve, invoke, builtin, hs, hx, hr, Result.andThen]
  exact h g' cap' w' r1 r2 r3
/-- a whole array stored at a step of a drawn region -/
theorem step_store_row {P : Program} {ops : Array Oper} {o : Oper} {a : Act} {w : World} {K : Act → World → Prop} {Q : Exit → Act → World → Prop} {E : Prop} (hgd : o.guard = none) (ty : TypeId) (x y : Operand) (ho : o.op = .store ty x y)
    (g : Nat) (cells : Array Value) (hx : a.eval x = .pointer (some ⟨g, 0, none⟩)) (hy : a.eval y = .agg cells)
    (t : TypeId) (old : Array Value) (hg : w.heap[g]? = some (.cells old t (0, 0))) (hi : (P.info? ty).map (·.size) = some cells.size)
    (hold : old.size = cells.size) (h1 : cells.all (·.oneCell') = true)
    (h : K (a.put o.dst undef) (w.setRow g cells)) : if Region.wanted o (yielded ops a.tmps) = true then Oper.wp P o a w K Q else E := by
  have hw : Region.wanted o (yielded ops a.tmps) = true := by simp [Region.wanted, hgd]
  rw [if_pos hw]
  exact wp_store_row ty x y ho g cells hx hy t old hg hi hold h1 h
/-- a whole array loaded at a step of a drawn region -/
theorem step_load_row {P : Program} {ops : Array Oper} {o : Oper} {a : Act} {w : World} {K : Act → World → Prop} {Q : Exit → Act → World → Prop} {E : Prop} (hgd : o.guard = none) (ty : TypeId) (x : Operand) (ho : o.op = .load ty x)
    (g : Nat) (hx : a.eval x = .pointer (some ⟨g, 0, none⟩)) (t : TypeId) (cs : Array Value) (fr : Nat × Nat) (d : TypeDesc) (hg : w.heap[g]? = some (.cells cs t fr))
    (hu : P.underlying ty = some d) (hd : (match d with | .struct _ | .array _ _ => true | _ => false) = true) (hi : (P.info? ty).map (·.size) = some cs.size)
    (h : K (a.put o.dst (.agg cs)) w) : if Region.wanted o (yielded ops a.tmps) = true then Oper.wp P o a w K Q else E := by
  have hw : Region.wanted o (yielded ops a.tmps) = true := by simp [Region.wanted, hgd]
  rw [if_pos hw]
  exact wp_load_row ty x ho g hx t cs fr d hg hu hd hi h
end Go.Proofs.YtkagnpnicbddlaaDoor
