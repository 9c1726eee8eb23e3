import Derived.Test.YtibebhlblmdcgaaQMkW17
set_option linter.unusedSimpArgs false
set_option linter.unusedVariables false
namespace Go.Proofs.Ytibebhlblmdcgaa
open Go.RowKit

theorem mk_es {w : World} {B g n c : Nat} {xs : List Ent} (h : Oe w B (.slice (some ⟨g, 0, none⟩) (n + 3) c) (xs ++ mks)) (hn : xs.length = n) : Es w ⟨some ⟨g, 0, none⟩, n, c, xs⟩ := by
  have hL : Es w ⟨some ⟨g, 0, none⟩, n + 3, c, xs ++ mks⟩ := Oe.es' (s := ⟨some ⟨g, 0, none⟩, n + 3, c, xs ++ mks⟩) h
  have h1 := hL.ok.le
  simp only at h1
  refine ⟨⟨hn, by simp only; omega, hL.ok.mx, (fun h => by cases h), fun hp => ?_⟩, fun x hx => h.e x (by simp [hx])⟩
  obtain ⟨b, off, e, hb, hr⟩ := hL.ok.lies (by simp only; omega)
  refine ⟨b, off, e, hb, fun i x hi => hr i x ?_⟩
  simp only at hi ⊢
  rw [List.getElem?_append_left (by have := (List.getElem?_eq_some_iff.1 hi).1; exact this)]
  exact hi
theorem mk_at {w : World} {B g n c : Nat} {xs : List Ent} (h : Oe w B (.slice (some ⟨g, 0, none⟩) (n + 3) c) (xs ++ mks)) (hn : xs.length = n) (j : Nat) (z : Int) (hj : mks[j]? = some (mkE z)) : w.cell? ⟨g, (n + j) * 262 + 99, none⟩ = some (.int .i64 z) := by
  have hL : Es w ⟨some ⟨g, 0, none⟩, n + 3, c, xs ++ mks⟩ := Oe.es' (s := ⟨some ⟨g, 0, none⟩, n + 3, c, xs ++ mks⟩) h
  obtain ⟨b, off, e, hb, hr⟩ := hL.ok.lies (by simp only; omega)
  simp only [Option.some.injEq, Addr.mk.injEq] at e
  obtain ⟨rfl, rfl, -⟩ := e
  have hi : (xs ++ mks)[n + j]? = some (mkE z) := by rw [List.getElem?_append_right (by omega), show n + j - xs.length = j by omega]; exact hj
  have := hr (n + j) _ hi 99 _ ((at_idx (mkE_ok z)).get (j := 0) rfl)
  rw [Nat.zero_add] at this
  exact this
end Go.Proofs.Ytibebhlblmdcgaa
