import Derived.Test.YtbjbfggbdolpcabDoorAppG
namespace Go.Proofs.YtbjbfggbdolpcabDoor
open Go.RowKit

/-- append where there is no room, at a step of a drawn region -/
theorem step_append_new {P : Program} {w : World} {ops : Array Oper} {o : Oper} {a : Act} {K : Act → World → Prop} {Q : Exit → Act → World → Prop} {E : Prop} (hgd : o.guard = none) (s x : Operand) (t : TypeId)
    (ho : o.op = .call { callee := .builtin .append, args := #[s, x], argTypes := #[t, t] })
    (e : TypeId) (i : TypeInfo) (z : Value) (ht : P.underlying t = some (.slice e)) (hi : P.info? e = some i) (hz : i.zero = some z) (hsize : i.size = 1) (hby : i.bytes = 1)
    (b : Addr) (sLen sCap : Nat) (hs : a.eval s = .slice (some b) sLen sCap) (l : List Int) (hl : l.length = sLen) (hlB : IsB l) (hlc : ∀ j u, (U8 l)[j]? = some u → w.cell? (b.add j) = some u)
    (d : Sl) (hd : d.Ok w) (hx : a.eval x = .slice d.a d.n d.c) (hn : 0 < d.n) (hg : sCap < sLen + d.n) (hb : sLen + d.n ≤ 140737488355328)
    (h : ∀ cap w', Hid (Sl.Ok w' ⟨some ⟨w.heap.size, 0, none⟩, sLen + d.n, cap, l ++ d.l⟩) → Hid (Below w.heap.size w w') → Hid (w.heap.size < w'.heap.size) → K (a.put o.dst (.slice (some ⟨w.heap.size, 0, none⟩) (sLen + d.n) cap)) w') :
    if Region.wanted o (yielded ops a.tmps) = true then Oper.wp P o a w K Q else E := by
  have hw : Region.wanted o (yielded ops a.tmps) = true := by simp [Region.wanted, hgd]
  rw [if_pos hw]
  obtain ⟨ad, had⟩ : ∃ ad, d.a = some ad := by
    cases hda : d.a with
    | none => have := (hd.nn hda).1; omega
    | some ad => exact ⟨ad, rfl⟩
  have hfit : Builtin.nextslicecap (sLen + d.n) sCap * i.bytes ≤ 281474976710656 := by rw [hby]; exact growslice_fits hg (by omega)
  have hr := run_append_grow (P := P) (w := w) t o.type e i z ht hi hz b sLen sCap (U8 l) (by rw [hsize]; simp [hl]) hlc ad d.n d.c (U8 d.l) (by rw [hsize]; simp [hd.len]) (hd.cells ad had) hg (by omega) hfit
  unfold Oper.wp execOp
  rw [had] at hx
  simp only [ho, resolve, invoke, builtin, Sem.run_bind, Sem.run_pure, Result.andThen_ok, List.map_toArray, List.map_cons, List.map_nil, hs, hx, hr]
  refine h _ _ (show Sl.Ok _ _ from ⟨by simp [hl, hd.len], grownCap_ge _ _ _ _, grownCap_le_maxLen _ _ _ _ (by unfold maxLen; omega), (fun h => by cases h), hlB.append hd.isB, fun _ => ⟨w.heap.size, 0, rfl, by simp, fun k hk => ?_⟩⟩)
    (show Below _ _ _ from ⟨rfl, rfl, rfl, by simp, fun k hk => Below.heap_alloc w _ k hk⟩) (show _ < _ by simp)
  have hrow := heap_alloc_last w.drew (.cells ((U8 l).toArray ++ (U8 d.l).toArray ++ Builtin.zeroCells z.cells (grownCap w (sLen + d.n) sCap e - (sLen + d.n))) e)
  rw [Nat.zero_add, cell_of_row _ w.heap.size k _ _ _ hrow, ← U8_at (l ++ d.l) k hk, U8_append]
  have hk3 : k < ((U8 l).toArray ++ (U8 d.l).toArray).size := by simpa using hk
  rw [Array.getElem?_append_left hk3]
  simp
end Go.Proofs.YtbjbfggbdolpcabDoor
