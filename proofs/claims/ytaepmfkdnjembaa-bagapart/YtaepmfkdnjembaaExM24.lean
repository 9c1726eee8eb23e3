import Derived.Test.YtaepmfkdnjembaaHxM
import Derived.Deep.DeepCutAuto
import Derived.Deep.QuietTactic
import Derived.BigQuiet
set_option linter.unusedSimpArgs false
set_option linter.unusedVariables false
namespace Go.Proofs.Ytaepmfkdnjembaa
open Go.RowKit

/-- what was told comes back as a row of one's own -/
theorem Hs17.exRow {w0 w : World} {rows : List Row} {gb mb last : Nat} {ms ex : List Ms} {m : Ms} (hS : Hs17 w0 rows (BagW w0.heap.size gb mb ms (m :: ex) last) w) : ∃ R, RowG uC 1 5 m.s m.s.xs R ∧ Hs17 w0 (rows ++ R) (BagW w0.heap.size gb mb ms ex last) w := by
  have hnb := hS.noBk
  have hG := hS.K
  have hF := hS.fewer (List.sublist_cons_self m ex)
  have hap := hG.g.ap
  have hmv := hG.g.mp
  obtain ⟨i, f, t, ⟨sa, sn, sc, sx⟩⟩ := m
  have hO : Ou w w0.heap.size (.slice sa sn sc) sx := hG.g.bd ⟨i, f, t, ⟨sa, sn, sc, sx⟩⟩ (by simp)
  rcases hO.2 with ⟨hv, h0⟩ | ⟨g, cap, cur, hv, hbg, hg, hle, hmx, hsz, ht⟩
  · cases hv
    refine ⟨[], ⟨h0, .inl ⟨rfl, rfl, rfl, rfl⟩⟩, ?_⟩
    rw [List.append_nil]; exact hF
  · simp only [Value.slice.injEq] at hv
    obtain ⟨rfl, hsn, rfl⟩ := hv
    have hcur : cur.toList = sx.flatMap uC ++ cur.toList.drop (sx.length * 1) := by
      rw [← ht]; exact (List.take_append_drop _ _).symm
    have hA : Arr w g 5 (sx.flatMap uC ++ cur.toList.drop (sx.length * 1)) := by
      unfold Arr
      rw [← hcur]; simpa using hg
    have hbk : BkB gb mb ms (⟨i, f, t, ⟨some ⟨g, 0, none⟩, sn, sc, sx⟩⟩ :: ex) g := .inr (.inr ⟨⟨i, f, t, ⟨some ⟨g, 0, none⟩, sn, sc, sx⟩⟩, by simp, rfl⟩)
    have hgs : ∀ p ∈ rows, p.1 ≠ g := fun p hp e => hnb p hp (e ▸ hbk)
    have hno : ¬ BkB gb mb ms ex g := by
      rintro (rfl | rfl | ⟨m', hm', hk⟩)
      · exact own_arr_ne hO hG.st (by decide) rfl
      · exact hmv.ne hA rfl
      · unfold Apd at hap
        rw [List.pairwise_append] at hap
        rcases List.mem_append.1 hm' with hm' | hm'
        · exact hap.2.2 m' hm' _ (List.mem_cons_self ..) g hk rfl
        · exact (List.pairwise_cons.1 hap.2.1).1 m' hm' g rfl hk
    refine ⟨[(g, 5, sx.flatMap uC ++ cur.toList.drop (sx.length * 1))], ⟨hsn.symm, .inr ⟨g, _, rfl, by show sn ≤ sc; omega, hmx, by rw [← hcur]; simpa using hsz, rfl⟩⟩, ?_⟩
    have hH : Hs17 w0 ((g, 5, sx.flatMap uC ++ cur.toList.drop (sx.length * 1)) :: rows) (BagW w0.heap.size gb mb ms ex last) w := by
      refine ⟨?_, ?_, ?_, hS.bel, fun w' h1 h2 => hF.K.keep (fun k hk => h2 k (hF.K.lt hk).2 (fun p hp e => ?_))⟩
      · rw [List.map_cons, List.nodup_cons]
        refine ⟨fun h => ?_, hS.nd⟩
        obtain ⟨p, hp, e⟩ := List.mem_map.1 h
        exact hgs p hp e
      · intro p hp
        rcases List.mem_cons.1 hp with rfl | hp
        · exact hA
        · exact hS.arr p hp
      · intro p hp
        rcases List.mem_cons.1 hp with rfl | hp
        · exact hbg
        · exact hS.old p hp
      · rcases List.mem_cons.1 hp with rfl | hp
        · have e' : g = k := e
          subst e'
          exact hno hk
        · exact hF.noBk p hp (e ▸ hk)
    exact hH.swap ((List.perm_append_singleton _ _).symm)
theorem rowE_front (p r : Row) (rows : List Row) : (p :: (rows ++ [r])).Perm (r :: p :: rows) := by
  rw [← List.cons_append]; exact List.perm_append_singleton r (p :: rows)
end Go.Proofs.Ytaepmfkdnjembaa
