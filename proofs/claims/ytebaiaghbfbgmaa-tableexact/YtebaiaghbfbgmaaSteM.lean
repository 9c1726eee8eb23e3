import Derived.Test.YtebaiaghbfbgmaaPtW
set_option linter.unusedSimpArgs false
set_option linter.unusedVariables false
namespace Go.Proofs.Ytebaiaghbfbgmaa
open Go.RowKit

set_option maxRecDepth 100000 in
theorem szOp {x : Opr} (h : x.Ok) : (Try.prog.info? 39).map (·.size) = some (opC x).length := by
  rw [opC_len h]; kernel_rfl
/-- what a call answers: the state that it was given, or new memory -/
theorem Hs17.ownOr {w0 w w' : World} {rows : List Row} {K : World → Prop} {s s1 : Sx Ent} (hS : Hs17 w0 rows K w) (hb : Below w.heap.size w w') (hO : s1 = s ∨ Oe w' w.heap.size s1.v s1.xs) : Hs17 w0 rows (fun w => K w ∧ (s1 = s ∨ Oe w w0.heap.size s1.v s1.xs)) w' :=
  hO.elim (fun e => (hS.later hb).weak (fun _ h => ⟨h, .inl e⟩)) (fun h => (hS.own hb h).weak (fun _ h => ⟨h.1, .inr h.2⟩))
theorem or_es {w : World} {B : Nat} {s s1 : Sx Ent} (h : Es w s) (hO : s1 = s ∨ Oe w B s1.v s1.xs) : Es w s1 := hO.elim (fun e => by rw [e]; exact h) (fun h => Oe.es' h)
/-- a row of one's own, all of it known, ahead of the other rows -/
theorem Hs17.ownRowH {w0 w w' : World} {rows : List Row} {K : World → Prop} {g n c : Nat} {xs : List Ent} (hS : Hs17 w0 rows K w) (hb : Below w.heap.size w w') (hn : 0 < n) (hO : Oe w' w.heap.size (.slice (some ⟨g, 0, none⟩) n c) xs) :
    ∃ sp : List Value, n ≤ c ∧ c ≤ maxLen ∧ (xs.flatMap eC ++ sp).length = c * 262 ∧ Hs17 w0 ((g, 37, xs.flatMap eC ++ sp) :: rows) K w' := by
  have hlen : xs.length = n := (Oe.es' (s := ⟨some ⟨g, 0, none⟩, n, c, xs⟩) hO).ok.len
  rcases hO.own.2 with ⟨hv, h0⟩ | ⟨g', cap, cur, hv, hbg, hg, hle, hmx, hsz, ht⟩
  · cases hv
  · cases hv
    have hcur : cur.toList = xs.flatMap eC ++ cur.toList.drop (xs.length * 262) := by
      conv => lhs; rw [← List.take_append_drop (xs.length * 262) cur.toList]
      congr 1
    have hA : Arr w' g 37 (xs.flatMap eC ++ cur.toList.drop (xs.length * 262)) := by
      unfold Arr
      rw [← hcur]; simpa using hg
    have h' := hS.later hb
    have hgs : ∀ p ∈ rows, p.1 ≠ g := fun p hp e => by have h3 := (hS.arr p hp).lt; omega
    refine ⟨_, hle, hmx, by rw [← hcur]; simpa using hsz, ?_, ?_, ?_, h'.bel, ?_⟩
    · rw [List.map_cons, List.nodup_cons]
      refine ⟨fun h => ?_, h'.nd⟩
      obtain ⟨p, hp, e⟩ := List.mem_map.1 h
      exact hgs p hp e
    · intro p hp
      rcases List.mem_cons.1 hp with rfl | hp
      · exact hA
      · exact h'.arr p hp
    · intro p hp
      rcases List.mem_cons.1 hp with rfl | hp
      · exact Nat.le_trans hS.bel.size hbg
      · exact h'.old p hp
    · intro w'' q1 q2
      refine hS.keep w'' (Nat.le_trans hb.size q1) (fun k hk hp => ?_)
      refine (q2 k (Nat.lt_of_lt_of_le hk hb.size) (fun p hp' => ?_)).trans (hb.block k hk)
      rcases List.mem_cons.1 hp' with rfl | hp'
      · show g ≠ k; omega
      · exact hp p hp'
/-- the first k of b in the place of those of l -/
def mixE (b l : List Ent) (k : Nat) : List Ent := b.take k ++ l.drop k
theorem mixE_0 (b l : List Ent) : mixE b l 0 = l := by simp [mixE]
theorem mixE_len {b l : List Ent} {k : Nat} (h : k ≤ b.length) (h2 : b.length ≤ l.length) : (mixE b l k).length = l.length := by simp [mixE]; omega
theorem mixE_mem {b l : List Ent} {k : Nat} {x : Ent} (h : x ∈ mixE b l k) : x ∈ b ∨ x ∈ l := by
  rcases List.mem_append.1 h with h | h
  · exact .inl (List.mem_of_mem_take h)
  · exact .inr (List.mem_of_mem_drop h)
theorem mixE_get {b l : List Ent} {k : Nat} (h : k ≤ b.length) : (mixE b l k)[k]? = l[k]? := by
  unfold mixE
  rw [List.getElem?_append_right (by simp; omega)]
  simp [Nat.min_eq_left h]
theorem mixE_set {b l : List Ent} {k : Nat} {x : Ent} (hx : b[k]? = some x) (hl : k < l.length) : (mixE b l k).set k x = mixE b l (k + 1) := by
  have hk := (List.getElem?_eq_some_iff.1 hx).1
  have hx' := (List.getElem?_eq_some_iff.1 hx).2
  apply List.ext_getElem?
  intro i
  rw [List.getElem?_set]
  have hml : (mixE b l k).length = k + (l.length - k) := by simp [mixE]; omega
  have h1 : ∀ j, j ≤ b.length → (mixE b l j)[i]? = if i < j then b[i]? else l[i]? := fun j hj => by
    unfold mixE
    by_cases hij : i < j
    · rw [if_pos hij, List.getElem?_append_left (by simp; omega), List.getElem?_take_of_lt hij]
    · rw [if_neg hij, List.getElem?_append_right (by simp; omega), List.length_take, Nat.min_eq_left hj, List.getElem?_drop, show j + (i - j) = i by omega]
  rw [h1 k (by omega), h1 (k + 1) (by omega)]
  by_cases hik : k = i
  · subst hik
    rw [if_pos rfl, if_pos (by omega), if_pos (by omega), hx]
  · rw [if_neg hik]
    by_cases h2 : i < k
    · rw [if_pos h2, if_pos (by omega)]
    · rw [if_neg h2, if_neg (by omega)]
theorem mixE_all {b s m : List Ent} {k : Nat} (h : b.length = k) (h2 : s.length = k) : mixE b (s ++ m) k = b ++ m := by
  unfold mixE
  rw [List.take_of_length_le (by omega), ← h2, List.drop_left]
/-- what step answers -/
def StG (acc : Int) (s : Sx Ent) (w : World) (r : Ending) (w' : World) : Prop :=
  ∃ (f : Flr) (s1 : Sx Ent), r = .returned (.tuple #[aV (gC f acc s1.v), .bool true]) ∧ f.Ok ∧ Sorted s1.xs ∧ s1.xs.length ≤ s.xs.length + 1 ∧ (s1 = s ∨ Oe w' w.heap.size s1.v s1.xs) ∧ Below w.heap.size w w'
end Go.Proofs.Ytebaiaghbfbgmaa
