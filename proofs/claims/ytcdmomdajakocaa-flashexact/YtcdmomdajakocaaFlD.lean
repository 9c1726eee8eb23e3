import Derived.Test.YtcdmomdajakocaaFlC
import Derived.Deep.RegionLaw
import Derived.Lib.SliceRun
namespace Go.Proofs.Ytcdmomdajakocaa
open Go.RowKit

theorem Try.infoC : (Try.prog.info? 82).map (fun i => (i.zero, i.size, i.bytes)) = some (some (.agg #[.int .i64 0, .int .i64 0]), 2, 16) := by kernel_rfl
theorem step_append_fits {P : Program} {ops : Array Oper} {o : Oper} {a : Act} {w : World} {K : Act → World → Prop} {Q : Exit → Act → World → Prop} {E : Prop} (hgd : o.guard = none) (s x : Operand) (t : TypeId)
    (ho : o.op = .call { callee := .builtin .append, args := #[s, x], argTypes := #[t, t] })
    (base : Nat) (e : TypeId) (i : TypeInfo) (size : Nat) (ht : P.underlying t = some (.slice e)) (hi : P.info? e = some i) (hsize : i.size = size)
    (g n cap : Nat) (xs : List Value) (hs : a.eval s = .slice (some ⟨g, 0, none⟩) n cap) (hown : w.ownsRow base e size (.slice (some ⟨g, 0, none⟩) n cap) n xs)
    (ad : Addr) (m c : Nat) (news : List Value) (hx : a.eval x = .slice (some ad) m c) (hl : news.length = m * size) (hnews : ∀ j u, news[j]? = some u → w.cell? (ad.add j) = some u) (h1 : ∀ u ∈ news, u.oneCell' = true)
    (hroom : n + m ≤ cap)
    (h : ∀ w', Hid (w'.ownsRow base e size (.slice (some ⟨g, 0, none⟩) (n + m) cap) (n + m) (xs ++ news)) → Hid (w.grownBy w' (some g)) → K (a.put o.dst (.slice (some ⟨g, 0, none⟩) (n + m) cap)) w') :
    if Region.wanted o (yielded ops a.tmps) = true then Oper.wp P o a w K Q else E := by
  have hw : Region.wanted o (yielded ops a.tmps) = true := by simp [Region.wanted, hgd]
  rw [if_pos hw]
  obtain ⟨w', hr, r1, r2⟩ := run_append_fits (P := P) w base t o.type e i size ht hi hsize g n cap xs hown ad m c news hl hnews h1 hroom
  unfold Oper.wp
  simp [execOp, ho, resolve, invoke, builtin, hs, hx, hr, Result.andThen]
  exact h w' r1 r2
theorem own_row {w : World} {base e sz g n cap : Nat} {xs : List Value} (h : w.ownsRow base e sz (.slice (some ⟨g, 0, none⟩) n cap) n xs) : ∃ cur, w.heap[g]? = some (.cells cur e (0, 0)) ∧ n ≤ cap ∧ cap ≤ maxLen ∧ cur.size = cap * sz ∧ cur.toList.take (n * sz) = xs := by
  rcases h.2 with ⟨h', _⟩ | ⟨g', cap', cur, h', -, h1, h2, h3, h4, h5⟩
  · simp at h'
  · simp only [Value.slice.injEq, Option.some.injEq, Addr.mk.injEq, and_true, true_and] at h'
    obtain ⟨rfl, rfl⟩ := h'
    exact ⟨cur, h1, h2, h3, h4, h5⟩
theorem own_none {w : World} {base e sz g n cap : Nat} {xs : List Value} (h : w.ownsRow base e sz (.slice (some ⟨g, 0, none⟩) n cap) n xs) : w.ownsRow base e sz (.slice (some ⟨g, 0, none⟩) 0 cap) 0 [] := by
  obtain ⟨cur, h1, h2, h3, h4, h5⟩ := own_row h
  exact ⟨by simp, .inr ⟨g, cap, cur, rfl, (h.lt g rfl).1, h1, Nat.zero_le _, h3, h4, by simp⟩⟩
/-- what lies behind the first of a row may be turned -/
theorem own_front {w : World} {base e sz g n cap m : Nat} {xs : List Value} (h : w.ownsRow base e sz (.slice (some ⟨g, 0, none⟩) n cap) n xs) (v : Value) (hm : n * sz ≤ m) : (w.setCell ⟨g, m, none⟩ v).ownsRow base e sz (.slice (some ⟨g, 0, none⟩) n cap) n xs := by
  have h2 := (h.stored m v).1
  rwa [List.set_eq_of_length_le (by rw [h.1]; exact hm)] at h2
theorem run_clear_two {P : Program} (w : World) (t e ty : TypeId) (ht : P.underlying t = some (.slice e)) (hv : ∀ w, (zeroValue e).run P w = .ok (.agg #[.int .i64 0, .int .i64 0]) w) (b o c : Nat)
    (h0 : (w.cell? ⟨b, o, none⟩).isSome = true) (h1 : (w.cell? ⟨b, o + 1, none⟩).isSome = true) (hf : ∀ j, w.frozen? ⟨b, j, none⟩ = false) :
    (Builtin.clear_ #[t] ty #[.slice (some ⟨b, o, none⟩) 1 c]).run P w = .ok (.tuple #[]) ((w.setCell ⟨b, o, none⟩ (.int .i64 0)).setCell ⟨b, o + 1, none⟩ (.int .i64 0)) := by
  have hzc : (Builtin.zeroCells (Value.agg #[.int .i64 0, .int .i64 0]).cells 1).toList = [.int .i64 0, .int .i64 0] := by
    simp [Builtin.zeroCells, Value.cells, Array.range, Array.ofFn]
    rfl
  have hst := run_storeCells_cells (P := P) b o [.int .i64 0, .int .i64 0] 0 w (fun j hj => by simp at hj; rcases (by omega : j = 0 ∨ j = 1) with rfl | rfl; exact h0; exact h1) (fun j hj => hf _) (by intro v hv'; simp at hv'; subst hv'; rfl)
  simp only [Nat.add_zero] at hst
  simp [Builtin.clear_, run_underlying ht, hv, hzc, hst]
  rfl
set_option maxHeartbeats 2000000 in
set_option maxRecDepth 100000 in
theorem delete_any (g cap : Nat) (x : Int × Int) (r : List (Int × Int)) (w : World) (h : w.ownsRow 0 82 2 (.slice (some ⟨g, 0, none⟩) (r.length + 1) cap) (r.length + 1) (Cr (x :: r))) (hr : r.length ≤ 64) :
    Calls Try.prog 44 #[.slice (some ⟨g, 0, none⟩) (r.length + 1) cap, .int .i64 0, .int .i64 1] w fun e w' => e = .returned (.slice (some ⟨g, 0, none⟩) r.length cap) ∧ w'.ownsRow 0 82 2 (.slice (some ⟨g, 0, none⟩) r.length cap) r.length (Cr r) ∧ Buts (· = g) w w' := by
  obtain ⟨i0, hi, hz0, hz1, hz2⟩ := info_parts Try.infoC
  obtain ⟨cur, k1, k2, k3, k4, k5⟩ := own_row h
  have hcm : cap ≤ 9223372036854775807 := by unfold maxLen at k3; exact k3
  obtain ⟨n, hn⟩ : ∃ n, n = r.length := ⟨_, rfl⟩
  rw [← hn] at h hr k2 ⊢
  obtain ⟨news, hnews⟩ : ∃ news, news = Cr r := ⟨_, rfl⟩
  have s1 : Hid (news.length = n * 2) := hide (by rw [hnews, Cr_len, hn])
  have s2 : Hid (∀ u ∈ news, u.oneCell' = true) := hide (by rw [hnews]; exact Cr_one _)
  obtain ⟨A, hA, hsrc⟩ : ∃ A : Addr, (if cap = 1 then some (⟨g, 0, none⟩ : Addr) else some ⟨g, 2, none⟩) = some A ∧ Hid (∀ t u, news[t]? = some u → w.drew.cell? (A.add t) = some u) := by
    by_cases hc : cap = 1
    · refine ⟨⟨g, 0, none⟩, by simp [hc], hide (fun t u hu => ?_)⟩
      have h0 : news.length = 0 := by rw [unhide s1]; omega
      rw [List.length_eq_zero_iff.1 h0] at hu
      simp at hu
    · refine ⟨⟨g, 2, none⟩, by simp [hc], hide (fun t u hu => ?_)⟩
      have ht : t < news.length := (List.getElem?_eq_some_iff.1 hu).1
      rw [unhide s1] at ht
      rw [addr_add]
      show w.cell? ⟨g, 2 + t, none⟩ = some u
      rw [h.cellAt (2 + t) (by omega), Cr_cons, ← hu, hnews, Nat.add_comm 2 t]
      rfl
  have HN := hide hnews
  have HO : Hid (w.drew.ownsRow 0 82 2 (.slice (some ⟨g, 0, none⟩) 0 cap) 0 []) := hide (own_none h)
  have HZ : ∀ w, (zeroValue 82).run Try.prog w = .ok (.agg #[.int .i64 0, .int .i64 0]) w := fun w => by simp [zeroValue, run_typeInfo w hi, hz0]
  have HG := hide k1
  have hle : (1 : Int) ≤ (n : Int) + 1 := by omega
  have HNR := hide hn
  clear k1 k4 k5 k3 hnews hn
  go_enter Try.func44, Try.ntmps44
  go_wp2_with fail
  go_region_law (refine step_append_fits rfl (.tmp 22) (.tmp 25) 42 rfl 0 82 i0 2 Try.underlying42 hi hz1 g 0 cap [] (by simp [Act.eval, Act.put]) (unhide HO) A n (cap - 1) news (by simp [Act.eval, Act.put]) (unhide s1) (unhide hsrc) (unhide s2) (by omega) ?_; intro w1 ho1 hg1)
  have ho2 : w1.ownsRow 0 82 2 (.slice (some ⟨g, 0, none⟩) n cap) n news := by have := unhide ho1; simpa using this
  have hg2 := unhide hg1
  obtain ⟨cur1, j1, j2, j3, j4, j5⟩ := own_row ho2
  have hcl : ∀ ty, (Builtin.clear_ #[42] ty #[.slice (some ⟨g, n * 2, none⟩) 1 (cap - n)]).run Try.prog w1 = .ok (.tuple #[]) ((w1.setCell ⟨g, n * 2, none⟩ (.int .i64 0)).setCell ⟨g, n * 2 + 1, none⟩ (.int .i64 0)) := fun ty =>
    run_clear_two w1 _ _ ty Try.underlying42 HZ g (n * 2) (cap - n) (by rw [cell_of_row w1 g (n * 2) cur1 _ _ j1, Array.getElem?_eq_getElem (by omega)]; rfl) (by rw [cell_of_row w1 g (n * 2 + 1) cur1 _ _ j1, Array.getElem?_eq_getElem (by omega)]; rfl) (fun j => frozen_of_row w1 g j cur1 _ j1)
  obtain ⟨w2, hw2⟩ : ∃ w2, w2 = (w1.setCell ⟨g, n * 2, none⟩ (.int .i64 0)).setCell ⟨g, n * 2 + 1, none⟩ (.int .i64 0) := ⟨_, rfl⟩
  rw [← hw2] at hcl
  have HO2 := hide ho2
  have HG2 := hide hg2
  have HW2 := hide hw2
  clear ho1 ho2 hg1 hg2 hw2 j1 j4 j5 HO h
  go_wp2
  go_ret
  have ho2 := unhide HO2
  rw [unhide HN] at ho2
  refine ⟨rfl, ?_, ?_⟩
  · rw [unhide HW2]
    exact own_front (own_front ho2 _ (Nat.le_refl _)) _ (by omega)
  · have hg2 := unhide HG2
    have hb : Buts (· = g) w w1 := ⟨hg2.os, hg2.tape, hg2.output, hg2.size, fun k hk hs => hg2.block k hk (fun e => hs (by simpa using e))⟩
    rw [unhide HW2]
    exact (hb.setCell rfl _ _).setCell rfl _ _
end Go.Proofs.Ytcdmomdajakocaa
