import Derived.Test.YtfjnpbiihndhhaaDoorFldB
namespace Go.Proofs.YtfjnpbiihndhhaaDoor
open Go.RowKit

/-! The field's calls, over any limbs that mean a number. -/
abbrev Blk (w : World) (g : Nat) (ty : TypeId) (l : List Value) : Prop := w.heap[g]? = some (.cells l.toArray ty (0, 0))
theorem blk_lt {w : World} {g : Nat} {o : Obj} (h : w.heap[g]? = some o) : g < w.heap.size := by
  by_cases hb : g < w.heap.size
  · exact hb
  · rw [Array.getElem?_eq_none (by omega)] at h; simp at h
theorem keep {w w' : World} {g : Nat} {o : Obj} (h : w.heap[g]? = some o) (hb : Below w.heap.size w w') : w'.heap[g]? = some o := (hb.block g (blk_lt h)).trans h
theorem bnext {B : Nat} {a w w' : World} (h : Below B a w) (hB : B ≤ w.heap.size) (k : Below w.heap.size w w') : Below B a w' := h.trans (k.mono hB)
theorem new1 (w : World) (c : Array Value) (t : TypeId) : (w.alloc (.cells c t)).heap.size = w.heap.size + 1 ∧ (w.alloc (.cells c t)).heap[w.heap.size]? = some (.cells c t (0, 0)) ∧ Below w.heap.size w (w.alloc (.cells c t)) :=
  ⟨by simp, heap_alloc_last w _, (Below.refl _ _).alloc (Nat.le_refl _) _⟩
theorem after1 {w w' : World} {c : Array Value} {t : TypeId} (h : Below (w.alloc (.cells c t)).heap.size (w.alloc (.cells c t)) w') :
    w'.heap[w.heap.size]? = some (.cells c t (0, 0)) ∧ Below w.heap.size w w' ∧ w.heap.size < w'.heap.size := by
  obtain ⟨hs, h1, hb⟩ := new1 w c t
  have := h.size
  exact ⟨keep h1 h, bnext hb (by omega) h, by omega⟩
theorem after2 {w w' : World} {c d : Array Value} {t u : TypeId} (h : Below ((w.alloc (.cells c t)).alloc (.cells d u)).heap.size ((w.alloc (.cells c t)).alloc (.cells d u)) w') :
    w'.heap[w.heap.size]? = some (.cells c t (0, 0)) ∧ w'.heap[w.heap.size + 1]? = some (.cells d u (0, 0)) ∧ Below w.heap.size w w' ∧ w.heap.size + 1 < w'.heap.size := by
  obtain ⟨hs, h1, hb⟩ := new1 w c t
  obtain ⟨hs2, h2, hb2⟩ := new1 (w.alloc (.cells c t)) d u
  have := h.size
  rw [hs] at h2
  exact ⟨keep (keep h1 hb2) h, keep h2 h, bnext (bnext hb (by omega) hb2) (by omega) h, by omega⟩
theorem after3 {w w' : World} {c d e : Array Value} {t u v : TypeId} (h : Below (((w.alloc (.cells c t)).alloc (.cells d u)).alloc (.cells e v)).heap.size (((w.alloc (.cells c t)).alloc (.cells d u)).alloc (.cells e v)) w') :
    w'.heap[w.heap.size]? = some (.cells c t (0, 0)) ∧ w'.heap[w.heap.size + 1]? = some (.cells d u (0, 0)) ∧ w'.heap[w.heap.size + 1 + 1]? = some (.cells e v (0, 0)) ∧ Below w.heap.size w w' ∧ w.heap.size + 2 < w'.heap.size := by
  obtain ⟨hs, h1, hb⟩ := new1 w c t
  obtain ⟨hs2, h2, hb2⟩ := new1 (w.alloc (.cells c t)) d u
  obtain ⟨hs3, h3, hb3⟩ := new1 ((w.alloc (.cells c t)).alloc (.cells d u)) e v
  have := h.size
  rw [hs2, hs] at h3
  rw [hs] at h2
  exact ⟨keep (keep (keep h1 hb2) hb3) h, keep (keep h2 hb3) h, keep h3 h, bnext (bnext (bnext hb (by omega) hb2) (by omega) hb3) (by omega) h, by omega⟩
theorem nw3_0 (w : World) (c d e : Array Value) (t u v : TypeId) : (((w.alloc (.cells c t)).alloc (.cells d u)).alloc (.cells e v)).heap[w.heap.size]? = some (.cells c t (0, 0)) := (after3 (Below.refl _ _)).1
theorem nw3_1 (w : World) (c d e : Array Value) (t u v : TypeId) : (((w.alloc (.cells c t)).alloc (.cells d u)).alloc (.cells e v)).heap[w.heap.size + 1]? = some (.cells d u (0, 0)) := (after3 (Below.refl _ _)).2.1
theorem nw3_2 (w : World) (c d e : Array Value) (t u v : TypeId) : (((w.alloc (.cells c t)).alloc (.cells d u)).alloc (.cells e v)).heap[w.heap.size + 1 + 1]? = some (.cells e v (0, 0)) := (after3 (Below.refl _ _)).2.2.1
theorem nw2_0 (w : World) (c d : Array Value) (t u : TypeId) : ((w.alloc (.cells c t)).alloc (.cells d u)).heap[w.heap.size]? = some (.cells c t (0, 0)) := (after2 (Below.refl _ _)).1
theorem nw2_1 (w : World) (c d : Array Value) (t u : TypeId) : ((w.alloc (.cells c t)).alloc (.cells d u)).heap[w.heap.size + 1]? = some (.cells d u (0, 0)) := (after2 (Below.refl _ _)).2.1
theorem Rep.len {x : List Int} {a : Int} (h : Rep x a) : x.length = 5 := by
  obtain ⟨l0, l1, l2, l3, l4, rfl, _⟩ := h.ex; rfl
theorem Tryd.sz5 : (Tryd.prog.info? 24).map (·.size) = some 5 := by kernel_rfl
theorem Rep.sz {x : List Int} {a : Int} (h : Rep x a) : (Tryd.prog.info? 24).map (·.size) = some (U64 x).toArray.size := by rw [Tryd.sz5]; simp [h.len]
theorem El_sz (a : Int) : (Tryd.prog.info? 24).map (·.size) = some (U64 (El a)).toArray.size := (Rep.El a).sz
theorem El_all (a : Int) : (U64 (El a)).toArray.all (·.oneCell') = true := all_one (U64_one _)

/-- limbs that are carried -/
def Lc (x : Int) : Prop := 0 ≤ x ∧ x < 2251799813840896
theorem Lc.lb {x : Int} (h : Lc x) : Lb x := by unfold Lc at h; unfold Lb; omega
theorem carried_rep (x : List Int) (a : Int) (w : World) (h : Rep x a) :
    Calls Tryd.prog 22 #[.agg (U64 x).toArray] w fun r w' => ∃ l0 l1 l2 l3 l4, r = .returned (.tuple #[.int .u64 l0, .int .u64 l1, .int .u64 l2, .int .u64 l3, .int .u64 l4]) ∧ (Lc l0 ∧ Lc l1 ∧ Lc l2 ∧ Lc l3 ∧ Lc l4 ∧ val5 l0 l1 l2 l3 l4 % PP = a % PP) ∧ Below w.heap.size w w' := by
  obtain ⟨l0, l1, l2, l3, l4, rfl, h0, h1, h2, h3, h4⟩ := h.ex
  refine (carried_any l0 l1 l2 l3 l4 w h0 h1 h2 h3 h4).mono ?_
  rintro r w' ⟨rfl, hb⟩
  have b0 := ca0_bd (a := l0) h4
  have b1 := ca_bd (b := l1) h0
  have b2 := ca_bd (b := l2) h1
  have b3 := ca_bd (b := l3) h2
  have b4 := ca_bd (b := l4) h3
  refine ⟨_, _, _, _, _, rfl, ⟨?_, ?_, ?_, ?_, ?_, (carry_cg _ _ _ _ _).trans h.eq⟩, hb⟩ <;> (unfold Lc; omega)
theorem reduced_rep (l0 l1 l2 l3 l4 a : Int) (w : World) (h0 : Wd l0) (h1 : Wd l1) (h2 : Wd l2) (h3 : Wd l3) (h4 : Wd l4) (h : val5 l0 l1 l2 l3 l4 % PP = a % PP) :
    Calls Tryd.prog 23 #[.int .u64 l0, .int .u64 l1, .int .u64 l2, .int .u64 l3, .int .u64 l4] w fun r w' => r = .returned (.agg (U64 (El a)).toArray) ∧ Below w.heap.size w w' := by
  refine (reduced_any l0 l1 l2 l3 l4 w h0 h1 h2 h3 h4).mono ?_
  rintro r w' ⟨rfl, hb⟩
  exact ⟨by rw [El_congr h], hb⟩

set_option maxHeartbeats 400000 in
set_option maxRecDepth 100000 in
theorem least_any (x : List Int) (a : Int) (w : World) (h : Rep x a) :
    Calls Tryd.prog 27 #[.agg (U64 x).toArray] w fun r w' => r = .returned (.agg (U64 (El a)).toArray) ∧ Below w.heap.size w w' := by
  obtain ⟨l0, l1, l2, l3, l4, rfl, h0, h1, h2, h3, h4⟩ := h.ex
  have HH := hide h.eq
  have H0 := hide h0
  have H1 := hide h1
  have H2 := hide h2
  have H3 := hide h3
  have H4 := hide h4
  clear h h0 h1 h2 h3 h4
  simp only [U64, List.map_cons, List.map_nil]
  go_enter Tryd.func27, Tryd.ntmps27
  go_wp2_with (first
    | (go_at_call 23; refine (reduced_rep l0 l1 l2 l3 l4 a _ (unhide H0) (unhide H1) (unhide H2) (unhide H3) (unhide H4) (unhide HH)).mono ?_; rintro r w' ⟨rfl, hbel⟩; obtain ⟨hx, hr, hb, hs⟩ := after2 hbel; clear hbel)
    | refine wpList_store_row rfl 24 _ _ rfl _ _ rfl rfl 24 _ hr (El_sz a) (by rfl) (El_all a) ?_)
  refine bodyPost_ret (results_cell_row rfl _ _ _ 24 _ (0, 0) _ rfl (setRow_heap _ _ _ _ _ _ hr) Tryd.underlying24 rfl (El_sz a)) rfl ?_
  exact ⟨rfl, below_setRow hb (by omega) _⟩

theorem reduced_eq (v0 v1 v2 v3 v4 l0 l1 l2 l3 l4 a : Int) (w : World) (h0 : v0 = l0 ∧ Wd l0) (h1 : v1 = l1 ∧ Wd l1) (h2 : v2 = l2 ∧ Wd l2) (h3 : v3 = l3 ∧ Wd l3) (h4 : v4 = l4 ∧ Wd l4) (h : val5 l0 l1 l2 l3 l4 % PP = a % PP) :
    Calls Tryd.prog 23 #[.int .u64 v0, .int .u64 v1, .int .u64 v2, .int .u64 v3, .int .u64 v4] w fun r w' => r = .returned (.agg (U64 (El a)).toArray) ∧ Below w.heap.size w w' := by
  rw [h0.1, h1.1, h2.1, h3.1, h4.1]
  exact reduced_rep l0 l1 l2 l3 l4 a w h0.2 h1.2 h2.2 h3.2 h4.2 h
theorem cg_add {a b c d : Int} (h : a % PP = c % PP) (k : b % PP = d % PP) : (a + b) % PP = (c + d) % PP := by rw [Int.add_emod, h, k, ← Int.add_emod]
theorem cg_mul {a b c d : Int} (h : a % PP = c % PP) (k : b % PP = d % PP) : (a * b) % PP = (c * d) % PP := by rw [Int.mul_emod, h, k, ← Int.mul_emod]
theorem cg_sub {a b c d : Int} (h : a % PP = c % PP) (k : b % PP = d % PP) : (a - b) % PP = (c - d) % PP := by rw [Int.sub_emod, h, k, ← Int.sub_emod]
theorem addW {p q : Int} (hp : Lc p) (hq : Lc q) : IntKind.u64.wrap (p + q) = p + q ∧ Wd (p + q) := by
  unfold Lc at *; unfold Wd; rw [IntKind.wrap_u64]; omega
theorem addWV {p0 p1 p2 p3 p4 q0 q1 q2 q3 q4 a b : Int} (hp : val5 p0 p1 p2 p3 p4 % PP = a % PP) (hq : val5 q0 q1 q2 q3 q4 % PP = b % PP) : val5 (p0 + q0) (p1 + q1) (p2 + q2) (p3 + q3) (p4 + q4) % PP = (a + b) % PP := by
  rw [← cg_add hp hq]; unfold val5; congr 1; omega
theorem subW0 {p q : Int} (hp : Lc p) (hq : Lc q) : IntKind.u64.wrap (IntKind.u64.wrap (p + 4503599627370458) - q) = p + 4503599627370458 - q ∧ Wd (p + 4503599627370458 - q) := by
  unfold Lc at *; unfold Wd; rw [IntKind.wrap_u64, IntKind.wrap_u64]; omega
theorem subW {p q : Int} (hp : Lc p) (hq : Lc q) : IntKind.u64.wrap (IntKind.u64.wrap (p + 4503599627370494) - q) = p + 4503599627370494 - q ∧ Wd (p + 4503599627370494 - q) := by
  unfold Lc at *; unfold Wd; rw [IntKind.wrap_u64, IntKind.wrap_u64]; omega
theorem subWV {p0 p1 p2 p3 p4 q0 q1 q2 q3 q4 a b : Int} (hp : val5 p0 p1 p2 p3 p4 % PP = a % PP) (hq : val5 q0 q1 q2 q3 q4 % PP = b % PP) : val5 (p0 + 4503599627370458 - q0) (p1 + 4503599627370494 - q1) (p2 + 4503599627370494 - q2) (p3 + 4503599627370494 - q3) (p4 + 4503599627370494 - q4) % PP = (a - b) % PP := by
  rw [← cg_sub hp hq]
  apply cg_of 2
  unfold val5 PP; omega
set_option maxHeartbeats 400000 in
set_option maxRecDepth 100000 in
theorem add_any (x y : List Int) (a b : Int) (w : World) (hx : Rep x a) (hy : Rep y b) :
    Calls Tryd.prog 5 #[.agg (U64 x).toArray, .agg (U64 y).toArray] w fun r w' => r = .returned (.agg (U64 (El (a + b))).toArray) ∧ Below w.heap.size w w' := by
  have HX := hide hx
  have HY := hide hy
  clear hx hy
  go_enter Tryd.func5, Tryd.ntmps5
  go_wp2_with (refine wpList_load_row rfl 24 _ rfl _ rfl 24 _ (0, 0) _ (nw3_0 w _ _ _ _ _ _) Tryd.underlying24 rfl (unhide HX).sz ?_)
  refine (carried_rep x a _ (unhide HX)).mono ?_
  rintro r w1 ⟨p0, p1, p2, p3, p4, rfl, hp, hbel⟩
  obtain ⟨hx, hy, hr, hb, hs⟩ := after3 hbel
  have HP := hide hp
  clear hbel hp
  go_wp2_with (refine wpList_load_row rfl 24 _ rfl _ rfl 24 _ (0, 0) _ hy Tryd.underlying24 rfl (unhide HY).sz ?_)
  refine (carried_rep y b _ (unhide HY)).mono ?_
  rintro r w2 ⟨q0, q1, q2, q3, q4, rfl, hq, hbel⟩
  replace hr := keep hr hbel
  have hs2 := hbel.size
  replace hb := bnext hb (by omega) hbel
  have HQ := hide hq
  clear hbel hq hx hy
  go_wp2_with fail
  refine (reduced_eq _ _ _ _ _ (p0 + q0) (p1 + q1) (p2 + q2) (p3 + q3) (p4 + q4) (a + b) _ ?_ ?_ ?_ ?_ ?_ ?_).mono ?_
  · exact addW (unhide HP).1 (unhide HQ).1
  · exact addW (unhide HP).2.1 (unhide HQ).2.1
  · exact addW (unhide HP).2.2.1 (unhide HQ).2.2.1
  · exact addW (unhide HP).2.2.2.1 (unhide HQ).2.2.2.1
  · exact addW (unhide HP).2.2.2.2.1 (unhide HQ).2.2.2.2.1
  · exact addWV (unhide HP).2.2.2.2.2 (unhide HQ).2.2.2.2.2
  rintro r w3 ⟨rfl, hbel⟩
  replace hr := keep hr hbel
  have hs3 := hbel.size
  replace hb := bnext hb (by omega) hbel
  clear hbel
  go_wp2_with (refine wpList_store_row rfl 24 _ _ rfl _ _ rfl rfl 24 _ hr (El_sz _) (by rfl) (El_all _) ?_)
  refine bodyPost_ret (results_cell_row rfl _ _ _ 24 _ (0, 0) _ rfl (setRow_heap _ _ _ _ _ _ hr) Tryd.underlying24 rfl (El_sz _)) rfl ?_
  exact ⟨rfl, below_setRow hb (by omega) _⟩
set_option maxHeartbeats 400000 in
set_option maxRecDepth 100000 in
theorem sub_any (x y : List Int) (a b : Int) (w : World) (hx : Rep x a) (hy : Rep y b) :
    Calls Tryd.prog 6 #[.agg (U64 x).toArray, .agg (U64 y).toArray] w fun r w' => r = .returned (.agg (U64 (El (a - b))).toArray) ∧ Below w.heap.size w w' := by
  have HX := hide hx
  have HY := hide hy
  clear hx hy
  go_enter Tryd.func6, Tryd.ntmps6
  go_wp2_with (refine wpList_load_row rfl 24 _ rfl _ rfl 24 _ (0, 0) _ (nw3_0 w _ _ _ _ _ _) Tryd.underlying24 rfl (unhide HX).sz ?_)
  refine (carried_rep x a _ (unhide HX)).mono ?_
  rintro r w1 ⟨p0, p1, p2, p3, p4, rfl, hp, hbel⟩
  obtain ⟨hx, hy, hr, hb, hs⟩ := after3 hbel
  have HP := hide hp
  clear hbel hp
  go_wp2_with (refine wpList_load_row rfl 24 _ rfl _ rfl 24 _ (0, 0) _ hy Tryd.underlying24 rfl (unhide HY).sz ?_)
  refine (carried_rep y b _ (unhide HY)).mono ?_
  rintro r w2 ⟨q0, q1, q2, q3, q4, rfl, hq, hbel⟩
  replace hr := keep hr hbel
  have hs2 := hbel.size
  replace hb := bnext hb (by omega) hbel
  have HQ := hide hq
  clear hbel hq hx hy
  go_wp2_with fail
  refine (reduced_eq _ _ _ _ _ (p0 + 4503599627370458 - q0) (p1 + 4503599627370494 - q1) (p2 + 4503599627370494 - q2) (p3 + 4503599627370494 - q3) (p4 + 4503599627370494 - q4) (a - b) _ ?_ ?_ ?_ ?_ ?_ ?_).mono ?_
  · exact subW0 (unhide HP).1 (unhide HQ).1
  · exact subW (unhide HP).2.1 (unhide HQ).2.1
  · exact subW (unhide HP).2.2.1 (unhide HQ).2.2.1
  · exact subW (unhide HP).2.2.2.1 (unhide HQ).2.2.2.1
  · exact subW (unhide HP).2.2.2.2.1 (unhide HQ).2.2.2.2.1
  · exact subWV (unhide HP).2.2.2.2.2 (unhide HQ).2.2.2.2.2
  rintro r w3 ⟨rfl, hbel⟩
  replace hr := keep hr hbel
  have hs3 := hbel.size
  replace hb := bnext hb (by omega) hbel
  clear hbel
  go_wp2_with (refine wpList_store_row rfl 24 _ _ rfl _ _ rfl rfl 24 _ hr (El_sz _) (by rfl) (El_all _) ?_)
  refine bodyPost_ret (results_cell_row rfl _ _ _ 24 _ (0, 0) _ rfl (setRow_heap _ _ _ _ _ _ hr) Tryd.underlying24 rfl (El_sz _)) rfl ?_
  exact ⟨rfl, below_setRow hb (by omega) _⟩
end Go.Proofs.YtfjnpbiihndhhaaDoor
