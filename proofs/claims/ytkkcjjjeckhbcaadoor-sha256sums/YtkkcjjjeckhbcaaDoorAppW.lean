import Derived.Test.YtkkcjjjeckhbcaaDoorJoinW
import Derived.Test.YtkkcjjjeckhbcaaDoorPiecesW
import Derived.Laws.AppendOwnNone
namespace Go.Proofs.YtkkcjjjeckhbcaaDoor
open Go.RowKit

theorem Sl.Ok.of_own {w : World} {base e g n cap : Nat} {l : List Int} (h : w.ownsRow base e 1 (.slice (some ⟨g, 0, none⟩) n cap) n (U8 l)) (hB : IsB l) : Sl.Ok w ⟨some ⟨g, 0, none⟩, n, cap, l⟩ := by
  have hl : l.length = n := by have := h.1; simpa using this
  rcases h.2 with ⟨h', _⟩ | ⟨g', cap', cur, h', _, _, hle, hmx, _⟩
  · simp at h'
  · simp at h'; obtain ⟨rfl, rfl⟩ := h'
    exact ⟨hl, hle, hmx, (fun h => by cases h), hB, Lies.of_own h⟩

theorem own_sl {w : World} {base n : Nat} {v : Value} {l : List Int} (h : w.ownsRow base 5 1 v n (U8 l)) (hB : IsB l) : ∃ s : Sl, v = s.v ∧ s.Ok w ∧ s.l = l ∧ s.n = n ∧ (∀ x, s.a = some x → base ≤ x.block) := by
  have hl : l.length = n := by have := h.1; simpa using this
  rcases h.2 with ⟨rfl, rfl⟩ | ⟨g, cap, cur, rfl, hb, hg, hn, hm, hs, ht⟩
  · have : l = [] := List.eq_nil_of_length_eq_zero hl
    subst this
    exact ⟨⟨none, 0, 0, []⟩, rfl, ⟨rfl, Nat.le_refl _, by unfold maxLen; simp, fun _ => ⟨rfl, rfl⟩, hB, Lies.nil _ _⟩, rfl, rfl, fun x hx => by cases hx⟩
  · exact ⟨⟨some ⟨g, 0, none⟩, n, cap, l⟩, rfl, Sl.Ok.of_own h hB, rfl, rfl, fun x hx => by cases hx; exact hb⟩

theorem one_byte (x : Int) : ∀ u ∈ [Value.int .u8 x], u.oneCell' = true := by intro u hu; simp at hu; subst hu; rfl
theorem U8_snoc (l : List Int) (x : Int) : U8 (l ++ [x]) = U8 l ++ [.int .u8 x] := by simp [U8]

theorem below_grown {B : Nat} {w wr w1 : World} {v : Value} {e n : Nat} {xs : List Value} (hbl : Below B w wr) (hw : B ≤ w.heap.size) (hown : wr.ownsRow B e 1 v n xs) (hgrow : wr.grownBy w1 v.ownBlock) : Below B w w1 :=
  hbl.grown hgrow (by have := hbl.size; omega) (fun k hk => (hown.lt k hk).1)

/-- append of a slice of bytes that came from anywhere, nil too, to a row of one's own -/
theorem wpList_append_sl {P : Program} {w : World} {ops : Array Oper} {rest : List Oper} {o : Oper} {a : Act} {Q : Exit → Act → World → Prop} (hgd : o.guard = none) (s x : Operand) (t : TypeId)
    (ho : o.op = .call { callee := .builtin .append, args := #[s, x], argTypes := #[t, t] })
    (base : Nat) (e : TypeId) (i : TypeInfo) (z : Value) (ht : P.underlying t = some (.slice e)) (hi : P.info? e = some i) (hz : i.zero = some z) (hsize : i.size = 1) (hby : i.bytes = 1) (hzs : z.cells.size = 1)
    (v : Value) (n : Nat) (xs : List Value) (hs : a.eval s = v) (hown : w.ownsRow base e 1 v n xs) (d : Sl) (hd : d.Ok w) (hx : a.eval x = .slice d.a d.n d.c)
    (hb : n + d.n ≤ 140737488355328) (hbase : base ≤ w.heap.size)
    (h : ∀ v' w', Hid (w'.ownsRow base e 1 v' (n + d.n) (xs ++ U8 d.l)) → Hid (w.grownBy w' v.ownBlock) → wpList P ops Q rest (a.put o.dst v') w') : wpList P ops Q (o :: rest) a w := by
  cases hda : d.a with
  | none =>
    obtain ⟨h0, hc0⟩ := hd.nn hda
    have hl0 : d.l = [] := List.eq_nil_of_length_eq_zero (by rw [hd.len, h0])
    refine wpList_append_own_none hgd s x t ho base e i 1 ht hi v n xs hs hown (by rw [hx, hda, h0, hc0]) ?_
    refine h v w (show _ from ?_) (show _ from World.grownBy.refl w _)
    have h2 : w.ownsRow base e 1 v (n + d.n) (xs ++ U8 d.l) := by rw [h0, hl0]; simpa [U8] using hown
    exact h2
  | some ad =>
    refine wpList_append_own w hgd s x t ho base e i z 1 1 ht hi hz hsize hby hzs (by decide) v n xs hs hown ad d.n d.c (U8 d.l) (by rw [hx, hda]) (by rw [U8_length, hd.len, Nat.mul_one]) (hd.cells ad hda) (U8_one _) (by unfold maxLen; omega) (by omega) hbase ?_
    intro v' w' h1 h2 _
    exact h v' w' h1 h2

theorem Z64b : (#[Value.int .u8 0, .int .u8 0, .int .u8 0, .int .u8 0, .int .u8 0, .int .u8 0, .int .u8 0, .int .u8 0, .int .u8 0, .int .u8 0, .int .u8 0, .int .u8 0, .int .u8 0, .int .u8 0, .int .u8 0, .int .u8 0, .int .u8 0, .int .u8 0, .int .u8 0, .int .u8 0, .int .u8 0, .int .u8 0, .int .u8 0, .int .u8 0, .int .u8 0, .int .u8 0, .int .u8 0, .int .u8 0, .int .u8 0, .int .u8 0, .int .u8 0, .int .u8 0, .int .u8 0, .int .u8 0, .int .u8 0, .int .u8 0, .int .u8 0, .int .u8 0, .int .u8 0, .int .u8 0, .int .u8 0, .int .u8 0, .int .u8 0, .int .u8 0, .int .u8 0, .int .u8 0, .int .u8 0, .int .u8 0, .int .u8 0, .int .u8 0, .int .u8 0, .int .u8 0, .int .u8 0, .int .u8 0, .int .u8 0, .int .u8 0, .int .u8 0, .int .u8 0, .int .u8 0, .int .u8 0, .int .u8 0, .int .u8 0, .int .u8 0, .int .u8 0] : Array Value) = (U8 (List.replicate 64 0)).toArray := rfl
theorem fill_block (A : List Int) (a : Nat) (h : a + 64 ≤ A.length) : fill 64 (fun i => A.getD (a + i) 0) 64 = (A.drop a).take 64 := by
  rw [fill_all]
  apply List.ext_getElem
  · simp; omega
  · intro i h1 h2
    simp at h1
    simp [List.getElem?_eq_getElem (show a + i < A.length by omega)]

set_option maxHeartbeats 1000000 in
set_option maxRecDepth 100000 in
theorem start_any (w : World) :
    Calls Tryd.prog 13 #[] w fun e w' => e = .returned (.agg (U32 FZ).toArray) ∧ Below w.heap.size w w' := by
  obtain ⟨W, hW, hA, hb, -⟩ := arr1 w 23 (U32 [0, 0, 0, 0, 0, 0, 0, 0])
  have hz : (Tryd.prog.info? 23).map (·.size) = some (U32 FZ).toArray.size := Tryd.sz8w
  have hzo : (U32 [0, 0, 0, 0, 0, 0, 0, 0]).toArray.size = (U32 FZ).toArray.size := rfl
  have h1 := all_one (U32_one FZ)
  have HW := hide hW
  clear hW
  go_enter Tryd.func13, Tryd.ntmps13
  go_wp2_with (first
    | (refine wpList_build_to rfl 23 _ rfl (U32 FZ).toArray (by kernel_rfl) ?_; rw [Z8, ← unhide HW]; generalize hC : (U32 FZ).toArray = C at hz hzo h1 ⊢)
    | refine wpList_store_row rfl 23 (.tmp 0) (.tmp 1) rfl w.heap.size _ rfl rfl 23 _ hA hz hzo h1 ?_)
  refine bodyPost_ret (results_cell_row rfl _ _ w.heap.size 23 _ (0, 0) _ rfl (setRow_heap W w.heap.size _ C 23 _ hA) Tryd.underlying23 rfl hz) rfl ?_
  rw [hC]
  exact ⟨rfl, below_setRow hb (Nat.le_refl _) _⟩
end Go.Proofs.YtkkcjjjeckhbcaaDoor
