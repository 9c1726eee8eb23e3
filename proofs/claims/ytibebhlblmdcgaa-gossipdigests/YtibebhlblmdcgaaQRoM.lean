import Derived.Test.YtibebhlblmdcgaaQGsM
import Derived.Test.YtibebhlblmdcgaaQRsW
import Derived.Test.YtibebhlblmdcgaaQPcW
set_option linter.unusedSimpArgs false
set_option linter.unusedVariables false
namespace Go.Proofs.Ytibebhlblmdcgaa
open Go.RowKit

theorem Hs17.perm {w0 w : World} {rows rows' : List Row} {K : World → Prop} (h : Hs17 w0 rows K w) (hp : rows.Perm rows') : Hs17 w0 rows' K w :=
  ⟨(hp.map _).nodup_iff.1 h.nd, fun p hm => h.arr p (hp.mem_iff.2 hm), fun p hm => h.old p (hp.mem_iff.2 hm), h.bel, fun w' h1 h2 => h.keep w' h1 (fun k hk hpp => h2 k hk (fun p hm => hpp p (hp.mem_iff.2 hm)))⟩
/-- a row of entries of one's own that is not empty, as a row -/
theorem Hs17.ownRow {w0 w w' : World} {rows : List Row} {K : World → Prop} {s : Sx Ent} (hS : Hs17 w0 rows K w) (hb : Below w.heap.size w w') (hO : Oe w' w.heap.size s.v s.xs) (hn : 0 < s.xs.length) :
    ∃ g sp, s.a = some ⟨g, 0, none⟩ ∧ s.n = s.xs.length ∧ s.n ≤ s.c ∧ s.c ≤ maxLen ∧ (s.xs.flatMap eC ++ sp).length = s.c * 262 ∧ Hs17 w0 ((g, 45, s.xs.flatMap eC ++ sp) :: rows) K w' := by
  obtain ⟨h1, h2⟩ := hO.own
  rcases h2 with ⟨hv, h0⟩ | ⟨g, cap, cur, hv, hbg, hg, hle, hmx, hsz, ht⟩
  · omega
  · obtain ⟨sa, sn, sc, sx⟩ := s
    simp only [Sx.v, Value.slice.injEq] at hv
    obtain ⟨rfl, rfl, rfl⟩ := hv
    have h' := hS.later hb
    have hcur : cur.toList = sx.flatMap eC ++ cur.toList.drop (sx.length * 262) := by
      conv => lhs; rw [← List.take_append_drop (sx.length * 262) cur.toList]
      congr 1
    have hA : Arr w' g 45 (sx.flatMap eC ++ cur.toList.drop (sx.length * 262)) := by
      unfold Arr
      rw [← hcur]; simpa using hg
    refine ⟨g, cur.toList.drop (sx.length * 262), rfl, rfl, hle, hmx, ?_, ?_, ?_, ?_, h'.bel, ?_⟩
    · show (sx.flatMap eC ++ _).length = _
      rw [← hcur]; simpa using hsz
    · rw [List.map_cons, List.nodup_cons]
      refine ⟨fun hm => ?_, h'.nd⟩
      obtain ⟨p, hp, e⟩ := List.mem_map.1 hm
      have h3 := (hS.arr p hp).lt
      simp only at e; omega
    · intro p hp
      rcases List.mem_cons.1 hp with rfl | hp
      · exact hA
      · exact h'.arr p hp
    · intro p hp
      rcases List.mem_cons.1 hp with rfl | hp
      · exact Nat.le_trans hS.bel.size hbg
      · exact h'.old p hp
    · intro w'' q1 q2
      refine hS.keep w'' (Nat.le_trans hb.size q1) (fun k hk hp => ?_)
      refine (q2 k (Nat.lt_of_lt_of_le hk hb.size) (fun p hp' => ?_)).trans (hb.block k hk)
      rcases List.mem_cons.1 hp' with rfl | hp'
      · show g ≠ k; omega
      · exact hp p hp'
/-- and back -/
theorem Hs17.rowOwn {w0 w : World} {rows : List Row} {K : World → Prop} (hS : Hs17 w0 rows K w) (i : Nat) {g n c : Nat} {xs : List Ent} {sp : List Value} (hi : rows[i]? = some (g, 45, xs.flatMap eC ++ sp)) (hn : n = xs.length) (hle : n ≤ c) (hmx : c ≤ maxLen) (hl : (xs.flatMap eC ++ sp).length = c * 262) (hx : ∀ x ∈ xs, x.Ok) :
    Oe w w0.heap.size (.slice (some ⟨g, 0, none⟩) n c) xs := by
  have hA := hS.get i hi
  have hg := hS.old _ (List.mem_of_getElem? hi)
  subst hn
  refine ⟨⟨flat_len (fun x h => eC_len (hx x h)), .inr ⟨g, c, (xs.flatMap eC ++ sp).toArray, rfl, hg, hA, hle, hmx, by simpa using hl, ?_⟩⟩, hx⟩
  have := flat_len (xs := xs) (fun x h => eC_len (hx x h))
  simp [← this]
theorem flat_set : ∀ (xs : List Ent) (k : Nat) (x y : Ent), (∀ z ∈ xs, z.Ok) → y.Ok → xs[k]? = some x → ∀ sp, Pt (xs.flatMap eC ++ sp) (k * 262) (eC y) ((xs.set k y).flatMap eC ++ sp)
  | [], k, x, y, _, _, h, sp => by simp at h
  | a :: t, 0, x, y, hx, hy, h, sp => by
    simp at h; subst h
    refine ⟨[], eC a, t.flatMap eC ++ sp, by simp, by simp, rfl, by rw [eC_len hy, eC_len (hx a (by simp))]⟩
  | a :: t, k + 1, x, y, hx, hy, h, sp => by
    obtain ⟨pre, p, post, e1, e2, e3, e4⟩ := flat_set t k x y (fun z hz => hx z (by simp [hz])) hy (by simpa using h) sp
    refine ⟨eC a ++ pre, p, post, ?_, ?_, ?_, e4⟩
    · rw [List.flatMap_cons, List.append_assoc, e1]; simp
    · rw [List.set_cons_succ, List.flatMap_cons, List.append_assoc, e2]; simp
    · rw [List.length_append, eC_len (hx a (by simp)), e3]; omega
theorem set_ok {xs : List Ent} {k : Nat} {y : Ent} (hx : ∀ x ∈ xs, x.Ok) (hy : y.Ok) : ∀ x ∈ xs.set k y, x.Ok := fun x h => (List.mem_or_eq_of_mem_set h).elim (hx x) (fun e => e ▸ hy)
end Go.Proofs.Ytibebhlblmdcgaa
