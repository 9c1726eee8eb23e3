import Derived.Test.YtdcaojiiaocnaaaDoorQGbdZ
import Derived.Test.YtdcaojiiaocnaaaDoorQMaM
import Derived.Test.YtdcaojiiaocnaaaDoorQSlM25
import Derived.Lib.ConvBytes
set_option linter.unusedSimpArgs false
set_option linter.unusedVariables false
namespace Go.Proofs.YtdcaojiiaocnaaaDoor
open Go.RowKit

/-! Guarded operations behind a bool that is not known; a string as bytes; what ScriptBack reckons with. -/
def mb (m : Bool) (v : Value) : Value := if m then v else undef
theorem mb_true (v : Value) : mb true v = v := rfl
theorem mb_false (v : Value) : mb false v = undef := rfl
section
variable {P : Program} {ops : Array Oper} {rest : List Oper} {o : Oper} {a : Act} {w : World} {Q : Exit → Act → World → Prop}
theorem wl_may (m : Bool) (hw : Region.wanted o (yielded ops a.tmps) = m) (v : Value) (hv : m = true → ∀ k : Act → World → Prop, k (a.put o.dst v) w → o.wp P a w k Q) (h : wpList P ops Q rest (a.put o.dst (mb m v)) w) : wpList P ops Q (o :: rest) a w := by
  cases m with
  | false => exact wl_skip hw h
  | true => exact wl hw fun k hk => hv rfl k (hk _ _ h)
theorem wl_mayV (m : Bool) (hw : Region.wanted o (yielded ops a.tmps) = m) (v : Value) (hv : m = true → (execOp a.eval o).run P w = .ok (.value v) w) (h : wpList P ops Q rest (a.put o.dst (mb m v)) w) : wpList P ops Q (o :: rest) a w :=
  wl_may m hw v (fun hm k hk => op_val v (hv hm) hk) h
theorem ex_pickF (c x y : Operand) (ho : o.op = .pick c x y) (m q : Bool) (hc : a.eval c = .bool m) (hx : a.eval x = mb m (.bool q)) (hy : a.eval y = .bool false) : (execOp a.eval o).run P w = .ok (.value (.bool (m && q))) w := by
  cases m <;> simp [execOp, ho, hc, hx, hy, mb, asBool]
end
theorem strW_below (w : World) (e : TypeId) (s : ByteArray) : Below w.heap.size w (Lib.bytesWorld w e s) :=
  ⟨rfl, rfl, rfl, by rw [Lib.bytesWorld_size]; omega, fun k hk => Lib.bytesWorld_at_old w e s k hk⟩
theorem strW_conv (w : World) (s : ByteArray) (hs : s.size ≤ 1048576) : ∃ c W, (convert 9 28 (.string s)).run Tryd.prog w = .ok (.slice (some ⟨w.heap.size, 0, none⟩) s.size c) W ∧ Su W ⟨some ⟨w.heap.size, 0, none⟩, s.size, c, strL s⟩ ∧ Below w.heap.size w W := by
  refine ⟨_, _, Lib.run_convert_string_bytes (P := Tryd.prog) w 9 28 5 s Tryd.underlying9 Tryd.underlying28 Tryd.underlying5,
    ⟨strL_length s, grownCap_ge _ _ _ _, grownCap_le_maxLen _ _ _ _ (by unfold maxLen; omega), (fun h => by cases h), fun _ => ⟨w.heap.size, 0, rfl, by rw [Lib.bytesWorld_size]; omega, fun i x hi j v hv => ?_⟩⟩, strW_below _ _ _⟩
  obtain ⟨h1, h2⟩ := List.getElem?_eq_some_iff.1 hi
  have hs' : i < s.size := by rw [← strL_length]; exact h1
  have hj : j = 0 ∧ v = .int .u8 x := by
    unfold uC at hv
    cases j with
    | zero => exact ⟨rfl, (Option.some.inj hv).symm⟩
    | succ j => simp at hv
  obtain ⟨rfl, rfl⟩ := hj
  rw [Nat.zero_add, Nat.mul_one, Nat.add_zero, Lib.bytesWorld_cell w _ s i hs', ← h2]
  congr 2
  have h3 : i < s.data.size := hs'
  simp only [strL, List.getElem_map, List.getD_eq_getElem?_getD, Array.getElem?_toList, Array.getElem?_eq_getElem h3]
  rfl
/-- []byte(s) at a step -/
theorem wl_toB {ops : Array Oper} {rest : List Oper} {o : Oper} {a : Act} {w : World} {Q : Exit → Act → World → Prop} (hw : Region.wanted o (yielded ops a.tmps) = true) (x : Operand) (ho : o.op = .convert 9 28 x) (s : ByteArray) (hx : a.eval x = .string s) (hs : s.size ≤ 1048576)
    (h : ∀ (y : Sx Int) w', y.xs = strL s → Su w' y → Below w.heap.size w w' → wpList Tryd.prog ops Q rest (a.put o.dst y.v) w') : wpList Tryd.prog ops Q (o :: rest) a w := by
  obtain ⟨c, W, hr, hS, hb⟩ := strW_conv w s hs
  refine wl hw fun k hk => ?_
  unfold Oper.wp
  simp [execOp, ho, hx, hr, Result.andThen]
  exact hk _ _ (h ⟨some ⟨w.heap.size, 0, none⟩, s.size, c, strL s⟩ W rfl hS hb)
theorem joinB_byt : ∀ fs : List (List Int), (∀ f ∈ fs, IsB f) → IsB (joinB fs)
  | [], _ => by intro c hc; cases hc
  | [f], h => h f (by simp)
  | f :: g :: r, h => by
    show IsB (f ++ 32 :: joinB (g :: r))
    intro c hc
    rcases List.mem_append.1 hc with hc | hc
    · exact h f (by simp) c hc
    · rcases List.mem_cons.1 hc with rfl | hc
      · omega
      · exact joinB_byt (g :: r) (fun x hx => h x (List.mem_cons_of_mem _ hx)) c hc
theorem formatL_isB {o : Opq} (hb : IsB o.b) {l : List Int} (h : formatL o = some l) : IsB l := by
  unfold formatL at h
  split at h
  · rename_i hk
    split at h
    · cases h
    · rename_i fs hfs
      split at h
      · obtain rfl := Option.some.inj h
        refine joinB_byt _ (fun f hf => ?_)
        rcases List.mem_cons.1 hf with rfl | hf
        · exact cmdW_isB _ (by omega)
        · obtain ⟨l', -, h2⟩ := tellF_mem hfs f hf
          exact tell_isB hb h2
      · cases h
  · cases h
end Go.Proofs.YtdcaojiiaocnaaaDoor
