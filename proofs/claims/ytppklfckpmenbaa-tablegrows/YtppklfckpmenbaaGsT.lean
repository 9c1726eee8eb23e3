import Derived.Test.YtppklfckpmenbaaTvM
set_option linter.unusedSimpArgs false
set_option linter.unusedVariables false
namespace Go.Proofs.Ytppklfckpmenbaa
open Go.RowKit

/-- a step of a table that grows -/
structure Gst (A T : Tv) (b : Bool) (c : Int) (rs : Bool) (m : Int) : Prop where
  g : GT cf T.t
  cv : cvT T.t A.t = true
  s0 : c = 0 → smT T.t A.t = !b
  s1 : c ≠ 0 → smT T.t A.t = true
  ch : c ≠ 0 → b = rs
  len : T.s.xs.length ≤ A.s.xs.length ∨ (T.s.xs.length : Int) ≤ m
  n : T.s.xs.length ≤ A.s.xs.length + 1
  c : c = 0 ∨ c = 170 ∨ c = 172
theorem sorted_lt {l : List Ent} {i j : Nat} {x y : Ent} (h : Sorted l) (hij : i < j) (hx : l[i]? = some x) (hy : l[j]? = some y) : x.cert.serial < y.cert.serial := by
  obtain ⟨h1, e1⟩ := List.getElem?_eq_some_iff.1 hx
  obtain ⟨h2, e2⟩ := List.getElem?_eq_some_iff.1 hy
  have := List.pairwise_iff_getElem.1 h i j h1 h2 hij
  rw [e1, e2] at this
  exact this
theorem smT_f {a b : Tb} (h : a ≠ b) : smT a b = false := by rw [← Bool.not_eq_true, smT_iff]; exact h
theorem Gst.same {A T : Tv} {b : Bool} {c : Int} {rs : Bool} {m : Int} (hA : GT cf A.t) (h : T.t = A.t) (hc : c = 170 ∨ c = 172) (hb : b = rs) : Gst A T b c rs m := by
  have hx : T.s.xs = A.s.xs := congrArg Tb.l h
  refine ⟨by rw [h]; exact hA, ?_, fun q => by omega, fun _ => smT_iff.2 h, fun _ => hb, .inl (by rw [hx]; omega), by rw [hx]; omega, by omega⟩
  rw [h, cvT_iff hA hA]; exact (latT cf).idem _ hA
theorem Gst.raise {f : Flr} {s s2 : Sx Ent} {f' : Flr} {m : Int} (hA : GT cf ⟨f, 0, s.xs⟩) (hf' : f'.Ok) (hx : s2.xs = if f'.n ≤ f.n then s.xs else nbX s.xs f'.n) :
    Gst ⟨f, 0, s⟩ ⟨if f'.n ≤ f.n then f else f', 0, s2⟩ true (if f'.n ≤ f.n then 172 else 0) true m := by
  by_cases q : f'.n ≤ f.n
  · rw [if_pos q] at hx ⊢
    rw [if_pos q]
    exact .same hA (Tb.ext' rfl rfl hx) (.inr rfl) rfl
  · have hG := raise_gt hA hf'
    rw [if_neg q] at hx ⊢
    rw [if_neg q]
    rw [if_neg q, if_neg q, ← hx] at hG
    have hF : mxF f' f = f' := by
      unfold mxF mxG
      have : gtF f f' = false := by unfold gtF; rw [if_neg (by omega)]; simp; omega
      rw [this]; rfl
    have hl : s2.xs.length ≤ s.xs.length := by rw [hx]; exact nbX_len _ _
    refine ⟨hG, ?_, fun _ => ?_, fun h => absurd rfl h, fun _ => rfl, .inl hl, by show s2.xs.length ≤ s.xs.length + 1; omega, .inl rfl⟩
    · refine (cvT_iff hG hA).2 ?_
      obtain ⟨-, h2, h3⟩ := jt_spec hG hA
      refine Tb.ext' hF (mxA_idem (0 : Int)) (lk_ext h2 hG.so (fun s' => ?_))
      rw [h3]
      show (if (mxF f' f).n ≤ s' then jo (lk s2.xs s') (lk s.xs s') else none) = lk s2.xs s'
      rw [hF, hx, lk_nb]
      by_cases q2 : f'.n ≤ s'
      · rw [if_pos q2, if_pos q2]; exact jo_idem (hA.go s')
      · rw [if_neg q2, if_neg q2]
    · refine (smT_f (fun e => ?_)).trans rfl
      have := congrArg (fun t => t.fl.n) e
      simp only [Tv.t] at this
      omega
theorem Gst.put {f : Flr} {s s2 : Sx Ent} {m : Int} {e : Ent} {b : Bool} {c : Int} (hA : GT cf ⟨f, 0, s.xs⟩) (he : GE (cf e.cert.serial) e) (h : PutD f s.xs m e s2.xs b c) : Gst ⟨f, 0, s⟩ ⟨f, 0, s2⟩ b c false m := by
  have hG := (h.gt hA he).1
  rcases h with ⟨-, h1, h2, h3⟩ | ⟨-, -, -, h1, h2, h3⟩ | ⟨hq, hso, hlk, hc, hb, hl⟩
  · exact .same hA (Tb.ext' rfl rfl h1) (.inr h3) h2
  · exact .same hA (Tb.ext' rfl rfl h1) (.inl h3) h2
  · refine ⟨hG, ?_, fun _ => ?_, fun q => absurd hc q, fun q => absurd hc q, ?_, ?_, .inl hc⟩
    · refine (cvT_iff hG hA).2 ?_
      obtain ⟨-, h2, h3⟩ := jt_spec hG hA
      have hF : mxF f f = f := mxG_idem _
      refine Tb.ext' hF (mxA_idem (0 : Int)) (lk_ext h2 hG.so (fun s' => ?_))
      rw [h3]
      show (if (mxF f f).n ≤ s' then jo (lk s2.xs s') (lk s.xs s') else none) = lk s2.xs s'
      rw [hF]
      by_cases q2 : f.n ≤ s'
      · rw [if_pos q2, hlk]
        by_cases q3 : s' = e.cert.serial
        · rw [if_pos q3]
          have g1 := hA.go s'
          have g2 : GO cf s' (some e) := fun y hy => by cases hy; rw [q3]; exact he
          show jo (jo (lk s.xs s') (some e)) (lk s.xs s') = _
          rw [jo_comm (jo_go g1 g2) g1, ← jo_assoc g1 g1 g2]
          show jo (jo (lk s.xs s') (lk s.xs s')) (some e) = _
          rw [jo_idem g1]
        · rw [if_neg q3]; exact jo_idem (hA.go s')
      · rw [if_neg q2]
        exact (hG.low (s := s') q2).symm
    · cases b
      · have : s2.xs = s.xs := by
          rcases Classical.em (s2.xs = s.xs) with q | q
          · exact q
          · have := hb.2 q; cases this
        exact smT_iff.2 (Tb.ext' rfl rfl this)
      · exact smT_f (fun q => hb.1 rfl (congrArg Tb.l q))
    · show s2.xs.length ≤ s.xs.length ∨ (s2.xs.length : Int) ≤ m
      omega
    · show s2.xs.length ≤ s.xs.length + 1
      omega
end Go.Proofs.Ytppklfckpmenbaa
