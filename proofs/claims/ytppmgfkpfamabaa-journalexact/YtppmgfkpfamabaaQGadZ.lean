import Derived.Test.YtppmgfkpfamabaaQGacZ
import Derived.Deep.RegionLaw
import Derived.Lib.SliceRun
set_option maxHeartbeats 2000000
set_option maxRecDepth 100000
namespace Go.Proofs.Ytppmgfkpfamabaa
open Go.RowKit
theorem Try.infoC : (Try.prog.info? 87).map (fun i => (i.zero, i.size, i.bytes)) = some (some (.agg #[.int .i64 0, .int .i64 0]), 2, 16) := by kernel_rfl
theorem step_append_fits {P : Program} {ops : Array Oper} {o : Oper} {a : Act} {w : World} {K : Act → World → Prop} {Q : Exit → Act → World → Prop} {E : Prop} (hgd : o.guard = none) (s x : Operand) (t : TypeId)
    (ho : o.op = .call { callee := .builtin .append, args := #[s, x], argTypes := #[t, t] })
    (base : Nat) (e : TypeId) (i : TypeInfo) (size : Nat) (ht : P.underlying t = some (.slice e)) (hi : P.info? e = some i) (hsize : i.size = size)
    (g n cap : Nat) (xs : List Value) (hs : a.eval s = .slice (some ⟨g, 0, none⟩) n cap) (hown : w.ownsRow base e size (.slice (some ⟨g, 0, none⟩) n cap) n xs)
    (ad : Addr) (m c : Nat) (news : List Value) (hx : a.eval x = .slice (some ad) m c) (hl : news.length = m * size) (hnews : ∀ j u, news[j]? = some u → w.cell? (ad.add j) = some u) (h1 : ∀ u ∈ news, u.oneCell' = true)
    (hroom : n + m ≤ cap)
    (h : ∀ w', Hid (w'.ownsRow base e size (.slice (some ⟨g, 0, none⟩) (n + m) cap) (n + m) (xs ++ news)) → Hid (w.grownBy w' (some g)) → K (a.put o.dst (.slice (some ⟨g, 0, none⟩) (n + m) cap)) w') :
    if Region.wanted o (yielded ops a.tmps) = true then Oper.wp P o a w K Q else E := by
  have hw : Region.wanted o (yielded ops a.tmps) = true := by simp [Region.wanted, hgd]
  rw [if_pos hw]
  obtain ⟨w', hr, r1, r2⟩ := run_append_fits (P := P) w base t o.type e i size ht hi hsize g n cap xs hown ad m c news hl hnews h1 hroom
  unfold Oper.wp
  simp [execOp, ho, resolve, invoke, builtin, hs, hx, hr, Result.andThen]
  exact h w' r1 r2
theorem own_row {w : World} {base e sz g n cap : Nat} {xs : List Value} (h : w.ownsRow base e sz (.slice (some ⟨g, 0, none⟩) n cap) n xs) : ∃ cur, w.heap[g]? = some (.cells cur e (0, 0)) ∧ n ≤ cap ∧ cap ≤ maxLen ∧ cur.size = cap * sz ∧ cur.toList.take (n * sz) = xs := by
  rcases h.2 with ⟨h', _⟩ | ⟨g', cap', cur, h', -, h1, h2, h3, h4, h5⟩
  · simp at h'
  · simp only [Value.slice.injEq, Option.some.injEq, Addr.mk.injEq, and_true, true_and] at h'
    obtain ⟨rfl, rfl⟩ := h'
    exact ⟨cur, h1, h2, h3, h4, h5⟩
theorem own_none {w : World} {base e sz g n cap : Nat} {xs : List Value} (h : w.ownsRow base e sz (.slice (some ⟨g, 0, none⟩) n cap) n xs) : w.ownsRow base e sz (.slice (some ⟨g, 0, none⟩) 0 cap) 0 [] := by
  obtain ⟨cur, h1, h2, h3, h4, h5⟩ := own_row h
  exact ⟨by simp, .inr ⟨g, cap, cur, rfl, (h.lt g rfl).1, h1, Nat.zero_le _, h3, h4, by simp⟩⟩
theorem own_front {w : World} {base e sz g n cap m : Nat} {xs : List Value} (h : w.ownsRow base e sz (.slice (some ⟨g, 0, none⟩) n cap) n xs) (v : Value) (hm : n * sz ≤ m) : (w.setCell ⟨g, m, none⟩ v).ownsRow base e sz (.slice (some ⟨g, 0, none⟩) n cap) n xs := by
  have h2 := (h.stored m v).1
  rwa [List.set_eq_of_length_le (by rw [h.1]; exact hm)] at h2
theorem run_clear_two {P : Program} (w : World) (t e ty : TypeId) (ht : P.underlying t = some (.slice e)) (hv : ∀ w, (zeroValue e).run P w = .ok (.agg #[.int .i64 0, .int .i64 0]) w) (b o c : Nat)
    (h0 : (w.cell? ⟨b, o, none⟩).isSome = true) (h1 : (w.cell? ⟨b, o + 1, none⟩).isSome = true) (hf : ∀ j, w.frozen? ⟨b, j, none⟩ = false) :
    (Builtin.clear_ #[t] ty #[.slice (some ⟨b, o, none⟩) 1 c]).run P w = .ok (.tuple #[]) ((w.setCell ⟨b, o, none⟩ (.int .i64 0)).setCell ⟨b, o + 1, none⟩ (.int .i64 0)) := by
  have hzc : (Builtin.zeroCells (Value.agg #[.int .i64 0, .int .i64 0]).cells 1).toList = [.int .i64 0, .int .i64 0] := by
    simp [Builtin.zeroCells, Value.cells, Array.range, Array.ofFn]
    rfl
  have hst := run_storeCells_cells (P := P) b o [.int .i64 0, .int .i64 0] 0 w (fun j hj => by simp at hj; rcases (by omega : j = 0 ∨ j = 1) with rfl | rfl; exact h0; exact h1) (fun j hj => hf _) (by intro v hv'; simp at hv'; subst hv'; rfl)
  simp only [Nat.add_zero] at hst
  simp [Builtin.clear_, run_underlying ht, hv, hzc, hst]
  rfl
theorem delete_any (g cap : Nat) (x : Int × Int) (r : List (Int × Int)) (w : World) (h : w.ownsRow 0 87 2 (.slice (some ⟨g, 0, none⟩) (r.length + 1) cap) (r.length + 1) (Cr (x :: r))) (hr : r.length ≤ 64) :
    Calls Try.prog 116 #[.slice (some ⟨g, 0, none⟩) (r.length + 1) cap, .int .i64 0, .int .i64 1] w fun e w' => e = .returned (.slice (some ⟨g, 0, none⟩) r.length cap) ∧ w'.ownsRow 0 87 2 (.slice (some ⟨g, 0, none⟩) r.length cap) r.length (Cr r) ∧ Buts (· = g) w w' := by
  obtain ⟨i0, hi, hz0, hz1, hz2⟩ := info_parts Try.infoC
  obtain ⟨cur, k1, k2, k3, k4, k5⟩ := own_row h
  have hcm : cap ≤ 9223372036854775807 := by unfold maxLen at k3; exact k3
  obtain ⟨n, hn⟩ : ∃ n, n = r.length := ⟨_, rfl⟩
  rw [← hn] at h hr k2 ⊢
  obtain ⟨news, hnews⟩ : ∃ news, news = Cr r := ⟨_, rfl⟩
  have s1 : Hid (news.length = n * 2) := hide (by rw [hnews, Cr_len, hn])
  have s2 : Hid (∀ u ∈ news, u.oneCell' = true) := hide (by rw [hnews]; exact Cr_one _)
  obtain ⟨A, hA, hsrc⟩ : ∃ A : Addr, (if cap = 1 then some (⟨g, 0, none⟩ : Addr) else some ⟨g, 2, none⟩) = some A ∧ Hid (∀ t u, news[t]? = some u → w.drew.cell? (A.add t) = some u) := by
    by_cases hc : cap = 1
    · refine ⟨⟨g, 0, none⟩, by simp [hc], hide (fun t u hu => ?_)⟩
      have h0 : news.length = 0 := by rw [unhide s1]; omega
      rw [List.length_eq_zero_iff.1 h0] at hu
      simp at hu
    · refine ⟨⟨g, 2, none⟩, by simp [hc], hide (fun t u hu => ?_)⟩
      have ht : t < news.length := (List.getElem?_eq_some_iff.1 hu).1
      rw [unhide s1] at ht
      rw [addr_add]
      show w.cell? ⟨g, 2 + t, none⟩ = some u
      rw [h.cellAt (2 + t) (by omega), Cr_cons, ← hu, hnews, Nat.add_comm 2 t]
      rfl
  have HN := hide hnews
  have HO : Hid (w.drew.ownsRow 0 87 2 (.slice (some ⟨g, 0, none⟩) 0 cap) 0 []) := hide (own_none h)
  have HZ : ∀ w, (zeroValue 87).run Try.prog w = .ok (.agg #[.int .i64 0, .int .i64 0]) w := fun w => by simp [zeroValue, run_typeInfo w hi, hz0]
  have HG := hide k1
  have hle : (1 : Int) ≤ (n : Int) + 1 := by omega
  have HNR := hide hn
  clear k1 k4 k5 k3 hnews hn
  go_enter Try.func116, Try.ntmps116
  go_wp2_with fail
  go_region_law (refine step_append_fits rfl (.tmp 22) (.tmp 25) 48 rfl 0 87 i0 2 Try.underlying48 hi hz1 g 0 cap [] (by simp [Act.eval, Act.put]) (unhide HO) A n (cap - 1) news (by simp [Act.eval, Act.put]) (unhide s1) (unhide hsrc) (unhide s2) (by omega) ?_; intro w1 ho1 hg1)
  have ho2 : w1.ownsRow 0 87 2 (.slice (some ⟨g, 0, none⟩) n cap) n news := by have := unhide ho1; simpa using this
  have hg2 := unhide hg1
  obtain ⟨cur1, j1, j2, j3, j4, j5⟩ := own_row ho2
  have hcl : ∀ ty, (Builtin.clear_ #[48] ty #[.slice (some ⟨g, n * 2, none⟩) 1 (cap - n)]).run Try.prog w1 = .ok (.tuple #[]) ((w1.setCell ⟨g, n * 2, none⟩ (.int .i64 0)).setCell ⟨g, n * 2 + 1, none⟩ (.int .i64 0)) := fun ty =>
    run_clear_two w1 _ _ ty Try.underlying48 HZ g (n * 2) (cap - n) (by rw [cell_of_row w1 g (n * 2) cur1 _ _ j1, Array.getElem?_eq_getElem (by omega)]; rfl) (by rw [cell_of_row w1 g (n * 2 + 1) cur1 _ _ j1, Array.getElem?_eq_getElem (by omega)]; rfl) (fun j => frozen_of_row w1 g j cur1 _ j1)
  obtain ⟨w2, hw2⟩ : ∃ w2, w2 = (w1.setCell ⟨g, n * 2, none⟩ (.int .i64 0)).setCell ⟨g, n * 2 + 1, none⟩ (.int .i64 0) := ⟨_, rfl⟩
  rw [← hw2] at hcl
  have HO2 := hide ho2
  have HG2 := hide hg2
  have HW2 := hide hw2
  clear ho1 ho2 hg1 hg2 hw2 j1 j4 j5 HO h
  go_wp2
  go_ret
  have ho2 := unhide HO2
  rw [unhide HN] at ho2
  refine ⟨rfl, ?_, ?_⟩
  · rw [unhide HW2]
    exact own_front (own_front ho2 _ (Nat.le_refl _)) _ (by omega)
  · have hg2 := unhide HG2
    have hb : Buts (· = g) w w1 := ⟨hg2.os, hg2.tape, hg2.output, hg2.size, fun k hk hs => hg2.block k hk (fun e => hs (by simpa using e))⟩
    rw [unhide HW2]
    exact (hb.setCell rfl _ _).setCell rfl _ _
def CPost (qv : Value) (c : List (Int × Int) × Int × Bool) (w : World) (e : Ending) (w' : World) : Prop :=
  ∃ qv', e = .returned (.tuple #[qv', .int .i64 c.2.1, .bool c.2.2]) ∧ w'.ownsRow 0 87 2 qv' c.1.length (Cr c.1) ∧ Buts (fun k => qv.ownBlock = some k) w w' ∧ qv'.ownBlock = qv.ownBlock
theorem own_some {w : World} {base e sz n : Nat} {v : Value} {xs : List Value} (h : w.ownsRow base e sz v n xs) (hn : 0 < n) : ∃ g cap, v = .slice (some ⟨g, 0, none⟩) n cap := by
  rcases h.2 with ⟨rfl, rfl⟩ | ⟨g, cap, cur, rfl, -⟩
  · omega
  · exact ⟨_, _, rfl⟩
theorem count_any (qv : Value) (q : List (Int × Int)) (w : World) (h : w.ownsRow 0 87 2 qv q.length (Cr q)) (hq : q.length ≤ 64) (hb : ∀ x ∈ q, 1 ≤ x.1 ∧ x.1 ≤ 1000000 ∧ 0 ≤ x.2 ∧ x.2 ≤ 1048576) :
    Calls Try.prog 115 #[qv] w (CPost qv (cntQ q) w) := by
  cases q with
  | nil =>
    obtain ⟨a, c, rfl⟩ := own_parts h
    have H := hide h
    clear h
    simp only [List.length_nil] at *
    go_enter Try.func115, Try.ntmps115
    go_wp2
    go_ret3
    exact ⟨_, rfl, unhide H, Buts.refl _ _, rfl⟩
  | cons x r =>
    obtain ⟨x1, x2⟩ := x
    obtain ⟨b1, b2, b3, b4⟩ := hb (x1, x2) (by simp)
    simp only at b1 b2 b3 b4
    obtain ⟨g, cap, rfl⟩ := own_some h (by simp)
    have c0 : w.cell? ⟨g, 0, none⟩ = some (.int .i64 x1) := by rw [h.cellAt 0 (by simp)]; rfl
    have c1 : w.cell? ⟨g, 1, none⟩ = some (.int .i64 x2) := by rw [h.cellAt 1 (by simp only [List.length_cons]; omega)]; rfl
    have f0 := h.frozenAt 0
    obtain ⟨n, hn⟩ : ∃ n, n = r.length := ⟨_, rfl⟩
    have hl : (((x1, x2) :: r).length) = n + 1 := by rw [hn]; rfl
    rw [hl] at h hq ⊢
    have hs := h.stored 0 (.int .i64 (x1 - 1))
    have HS : Hid ((w.setCell ⟨g, 0, none⟩ (.int .i64 (x1 - 1))).ownsRow 0 87 2 (.slice (some ⟨g, 0, none⟩) (n + 1) cap) (n + 1) (Cr ((x1 - 1, x2) :: r))) := hide hs.1
    have HB : Hid (Buts (fun k => (Value.slice (some ⟨g, 0, none⟩) (n + 1) cap).ownBlock = some k) w (w.setCell ⟨g, 0, none⟩ (.int .i64 (x1 - 1)))) := hide (Buts.setCell (g := g) (Buts.refl (fun k => (Value.slice (some ⟨g, 0, none⟩) (n + 1) cap).ownBlock = some k) w) (by rfl) _ _)
    have c0' : (w.setCell ⟨g, 0, none⟩ (.int .i64 (x1 - 1))).cell? ⟨g, 0, none⟩ = some (.int .i64 (x1 - 1)) := by rw [(unhide HS).cellAt 0 (by omega)]; rfl
    have c1' : (w.setCell ⟨g, 0, none⟩ (.int .i64 (x1 - 1))).cell? ⟨g, 1, none⟩ = some (.int .i64 x2) := by rw [(unhide HS).cellAt 1 (by omega)]; rfl
    obtain ⟨W, hW⟩ : ∃ W, W = w.setCell ⟨g, 0, none⟩ (.int .i64 (x1 - 1)) := ⟨_, rfl⟩
    rw [← hW] at HS HB c0' c1'
    have hle : (1 : Int) ≤ (n : Int) + 1 := by omega
    have HNR := hide hn
    have HD : Hid (Calls Try.prog 116 #[.slice (some ⟨g, 0, none⟩) (n + 1) cap, .int .i64 0, .int .i64 1] W fun e w' => e = .returned (.slice (some ⟨g, 0, none⟩) n cap) ∧ w'.ownsRow 0 87 2 (.slice (some ⟨g, 0, none⟩) n cap) n (Cr r) ∧ Buts (· = g) W w') := hide (by
      have h2 := unhide HS
      rw [hn] at h2 ⊢
      exact delete_any g cap _ r W h2 (by omega))
    have hW' := hW.symm
    clear h hs hb hn hl hW
    by_cases hx : 1 < x1
    · have HC : Hid (cntQ ((x1, x2) :: r) = ((x1 - 1, x2) :: r, 0, false)) := hide (by simp [cntQ, hx])
      rw [unhide HC]
      go_enter Try.func115, Try.ntmps115
      go_wp2
      go_ret3
      refine ⟨_, rfl, ?_, unhide HB, rfl⟩
      show W.ownsRow 0 87 2 (.slice (some ⟨g, 0, none⟩) (n + 1) cap) (r.length + 1) _
      rw [← unhide HNR]
      exact unhide HS
    · have HC : Hid (cntQ ((x1, x2) :: r) = (r, x2, true)) := hide (by simp [cntQ, hx])
      rw [unhide HC]
      go_enter Try.func115, Try.ntmps115
      go_wp2_with (go_at_call 116; refine (unhide HD).mono ?_; rintro e w2 ⟨rfl, ho, hbb⟩)
      go_ret3
      refine ⟨_, rfl, ?_, (unhide HB).trans (hbb.mono (fun k _ e => by subst e; rfl)), rfl⟩
      show w2.ownsRow 0 87 2 (.slice (some ⟨g, 0, none⟩) n cap) r.length _
      rw [← unhide HNR]
      exact ho
theorem cntQ_len (q : List (Int × Int)) : (cntQ q).1.length ≤ q.length := by
  cases q with
  | nil => exact Nat.le_refl _
  | cons x r => simp only [cntQ]; split <;> simp
theorem cntQ_bd (q : List (Int × Int)) (hb : ∀ x ∈ q, 1 ≤ x.1 ∧ x.1 ≤ 1000000 ∧ 0 ≤ x.2 ∧ x.2 ≤ 1048576) : ∀ x ∈ (cntQ q).1, 1 ≤ x.1 ∧ x.1 ≤ 1000000 ∧ 0 ≤ x.2 ∧ x.2 ≤ 1048576 := by
  cases q with
  | nil => exact hb
  | cons y r =>
    have hy := hb y (by simp)
    have hr : ∀ x ∈ r, 1 ≤ x.1 ∧ x.1 ≤ 1000000 ∧ 0 ≤ x.2 ∧ x.2 ≤ 1048576 := fun x hx => hb x (by simp [hx])
    simp only [cntQ]
    split
    · intro x hx
      simp only [List.mem_cons] at hx
      rcases hx with rfl | hx
      · simp only; omega
      · exact hr x hx
    · exact hr
theorem cntQ_keep (q : List (Int × Int)) (hb : ∀ x ∈ q, 1 ≤ x.1 ∧ x.1 ≤ 1000000 ∧ 0 ≤ x.2 ∧ x.2 ≤ 1048576) : 0 ≤ (cntQ q).2.1 ∧ (cntQ q).2.1 ≤ 1048576 := by
  cases q with
  | nil => simp [cntQ]
  | cons y r =>
    have hy := hb y (by simp)
    simp only [cntQ]
    split
    · simp
    · simp only; omega
theorem FlS.Ok.write {s : FlS} (h : s.Ok) : s.write.1.Ok := ⟨h.b0, h.b1, h.z0, h.z1, h.mx, Nat.le_trans (cntQ_len _) h.ql, cntQ_bd _ h.qb⟩
def WrPost (p : Nat) (S : Nat → Prop) (r : FlS × Int × Bool) (w : World) (e : Ending) (w' : World) : Prop :=
  e = .returned (.tuple #[.int .i64 r.2.1, .bool r.2.2]) ∧ ∃ S', FSt p S r.1 w w' S'
theorem write_any (p : Nat) (S : Nat → Prop) (s : FlS) (w : World) (h : Fl w p S s) (hw : s.wr ≤ 4000000000000000000) :
    Calls Try.prog 112 #[.pointer (some ⟨p, 0, none⟩)] w (WrPost p S s.write w) := by
  obtain ⟨v0, v1, qv, hf, rfl⟩ := h
  obtain ⟨-, -, -, c3, -, c5⟩ := hf.cs
  have f5 := hf.arr.frozen 5
  obtain ⟨n, hn⟩ : ∃ n, n = s.wr := ⟨_, rfl⟩
  rw [← hn] at c5
  have hn1 : (n : Int) + 1 ≤ 9223372036854775807 := by omega
  obtain ⟨W, hW⟩ : ∃ W, W = w.setCell ⟨p, 5, none⟩ (.int .i64 ((n : Int) + 1)) := ⟨_, rfl⟩
  have A1 : Arr W p 50 [.int .i64 s.size, v0, v1, qv, .bool s.down, .int .i64 ((n : Int) + 1)] := by rw [hW]; exact hf.arr.set 5 _
  have B1 : Buts (FSet p v0 v1 qv) w W := by rw [hW]; exact Buts.setCell (Buts.refl _ w) (.inl rfl) _ _
  have bp : Buts (· = p) w W := by rw [hW]; exact Buts.of_but ((But.refl p w).setCell 5 _)
  have o0 := bp.own hf.o0 (fun g hg e => hf.n0 (by rw [hg, e]))
  have o1 := bp.own hf.o1 (fun g hg e => hf.n1 (by rw [hg, e]))
  have oq := bp.own hf.oq (fun g hg e => hf.nq (by rw [hg, e]))
  have c3' : W.cell? ⟨p, 3, none⟩ = some qv := by simpa using A1.cell 3
  have hC := count_any qv s.q W oq hf.ok.ql hf.ok.qb
  obtain ⟨⟨cq, ck, cb⟩, hc⟩ : ∃ c, c = cntQ s.q := ⟨_, rfl⟩
  rw [← hc] at hC
  have HS : Hid (s.write = ({ s with wr := n + 1, q := cq, down := cb }, ck, cb)) := hide (by unfold FlS.write; rw [← hc, ← hn])
  have HO := hide hf.ok.write
  rw [unhide HS] at HO ⊢
  have hne := hide hf.ne
  have hq0 := hide hf.q0
  have hq1 := hide hf.q1
  have hn0 := hide hf.n0
  have hn1' := hide hf.n1
  have hnq := hide hf.nq
  have HA1 := hide A1
  have HB1 := hide B1
  have Ho0 := hide o0
  have Ho1 := hide o1
  have hW' := hW.symm
  have hsz : Hid (w.heap.size = W.heap.size) := hide (by rw [hW]; simp)
  clear hf A1 B1 bp o0 o1 oq hW hc hn HS
  go_enter Try.func112, Try.ntmps112
  go_wp2_with (go_at_call 115; refine hC.mono ?_; rintro e w2 ⟨qv', rfl, oq2, bb2, eq2⟩; simp only at oq2; have A2 := bb2.arr (unhide HA1) (fun e => unhide hnq e); have c3'' : w2.cell? ⟨p, 3, none⟩ = some qv := (by simpa using A2.cell 3); have f3'' := A2.frozen 3; obtain ⟨x3, y3, hqv⟩ := own_parts oq2; subst hqv; obtain ⟨W3, hW3⟩ : ∃ W3, w2.setCell ⟨p, 3, none⟩ (.slice x3 cq.length y3) = W3 := ⟨_, rfl⟩; have A3 : Arr W3 p 50 [.int .i64 s.size, v0, v1, .slice x3 cq.length y3, .bool s.down, .int .i64 ((n : Int) + 1)] := (by rw [← hW3]; exact A2.set 3 _); have c4'' : W3.cell? ⟨p, 4, none⟩ = some (.bool s.down) := (by simpa using A3.cell 4); have f4'' := A3.frozen 4; have HQ2 := hide oq2; have HBB := hide bb2; have HE2 := hide eq2; have HA3 := hide A3; have HW3 := hide hW3; clear oq2 bb2 eq2 A2 A3)
  go_ret2
  have A4 := (unhide HA3).set 4 (.bool cb)
  have bq := unhide HBB
  have b34 : Buts (· = p) w2 (W3.setCell ⟨p, 4, none⟩ (.bool cb)) := by rw [← hW3]; exact Buts.of_but (((But.refl p w2).setCell 3 _).setCell 4 _)
  have e2 := unhide HE2
  refine ⟨rfl, FSet p v0 v1 (.slice x3 cq.length y3), ⟨v0, v1, .slice x3 cq.length y3, ⟨A4, ?_, ?_, ?_, unhide hne, unhide HO⟩, rfl⟩, ?_, ?_⟩
  · exact b34.own (bq.own (unhide Ho0) (fun g hg e => unhide hq0 g e hg)) (fun g hg e => unhide hn0 (by rw [hg, e]))
  · exact b34.own (bq.own (unhide Ho1) (fun g hg e => unhide hq1 g e hg)) (fun g hg e => unhide hn1' (by rw [hg, e]))
  · exact b34.own (unhide HQ2) (fun g hg e => unhide hnq (by rw [← e2, hg, e]))
  · exact (unhide HB1).trans ((bq.mono (fun k _ e => .inr (.inr (.inr e)))).trans (b34.mono (fun k _ e => .inl e)))
  · rintro k (hk | hk | hk | hk)
    · exact .inl (.inl hk)
    · exact .inl (.inr (.inl hk))
    · exact .inl (.inr (.inr (.inl hk)))
    · exact .inl (.inr (.inr (.inr (by rw [← e2]; exact hk))))
theorem run_append_slat {P : Program} (w : World) (t ty : TypeId) (e : TypeId) (i : TypeInfo) (z : Value) (ht : P.underlying t = some (.slice e)) (hi : P.info? e = some i) (hz : i.zero = some z) (hsize : i.size = 1) (hby : i.bytes = 1) (hzs : z.cells.size = 1)
    (v : Value) (n : Nat) (xs : List Value) (hown : w.ownsRow 0 e 1 v n xs) (d : Sl) (hd : d.Ok w) (hb : n + d.n ≤ 140737488355328) :
    ∃ v' w', (Builtin.append_ #[t, t] ty #[v, .slice d.a d.n d.c]).run P w = .ok v' w' ∧ w'.ownsRow 0 e 1 v' (n + d.n) (xs ++ U8 d.l) ∧ w.grownBy w' v.ownBlock ∧ (v'.ownBlock = v.ownBlock ∨ v'.ownBlock = some w.heap.size) := by
  cases hda : d.a with
  | none =>
    obtain ⟨h0, hc0⟩ := hd.nn hda
    have hl0 : d.l = [] := List.eq_nil_of_length_eq_zero (by rw [hd.len, h0])
    rw [h0, hc0, hl0]
    exact ⟨v, w, run_append_owned_none w 0 t ty e i 1 ht hi v n xs hown, by simpa [U8] using hown, World.grownBy.refl w _, .inl rfl⟩
  | some ad => exact run_append_own_at w 0 t ty e i z 1 1 ht hi hz hsize hby hzs (by decide) v n xs hown ad d.n d.c (U8 d.l) (by rw [U8_length, hd.len, Nat.mul_one]) (hd.cells ad hda) (U8_one _) (by unfold maxLen; omega) (by omega) (Nat.zero_le _)
theorem step_append_slat {P : Program} {ops : Array Oper} {o : Oper} {a : Act} {w : World} {K : Act → World → Prop} {Q : Exit → Act → World → Prop} {E : Prop} (hgd : o.guard = none) (s x : Operand) (t : TypeId)
    (ho : o.op = .call { callee := .builtin .append, args := #[s, x], argTypes := #[t, t] })
    (e : TypeId) (i : TypeInfo) (z : Value) (ht : P.underlying t = some (.slice e)) (hi : P.info? e = some i) (hz : i.zero = some z) (hsize : i.size = 1) (hby : i.bytes = 1) (hzs : z.cells.size = 1)
    (v : Value) (n : Nat) (xs : List Value) (hs : a.eval s = v) (hown : w.ownsRow 0 e 1 v n xs) (d : Sl) (hx : a.eval x = .slice d.a d.n d.c) (hd : d.Ok w) (hb : n + d.n ≤ 140737488355328)
    (h : ∀ v' w', Hid (w'.ownsRow 0 e 1 v' (n + d.n) (xs ++ U8 d.l)) → Hid (w.grownBy w' v.ownBlock) → Hid (v'.ownBlock = v.ownBlock ∨ v'.ownBlock = some w.heap.size) → K (a.put o.dst v') w') :
    if Region.wanted o (yielded ops a.tmps) = true then Oper.wp P o a w K Q else E := by
  have hw : Region.wanted o (yielded ops a.tmps) = true := by simp [Region.wanted, hgd]
  rw [if_pos hw]
  obtain ⟨v', w', hr, r1, r2, r3⟩ := run_append_slat (P := P) w t o.type e i z ht hi hz hsize hby hzs v n xs hown d hd hb
  unfold Oper.wp
  simp [execOp, ho, resolve, invoke, builtin, hs, hx, hr, Result.andThen]
  exact h v' w' r1 r2 r3
theorem join_0 (p : Nat) (S : Nat → Prop) (s : FlS) (d : Sl) (w : World) (h : Fl w p S s) (hd : d.Ok w) (hz : s.l0.length + d.n ≤ s.size) :
    Calls Try.prog 113 #[.pointer (some ⟨p, 0, none⟩), .int .i64 0, d.v] w fun e w' => e = .returned (.tuple #[]) ∧ ∃ S', FSt p S { s with l0 := s.l0 ++ d.l } w w' S' := by
  obtain ⟨i0, hi, hz0, hz1, hz2⟩ := info_parts Try.infoB
  obtain ⟨v0, v1, qv, hf, rfl⟩ := h
  obtain ⟨a0, b0, rfl⟩ := own_parts hf.o0
  obtain ⟨n, hn⟩ : ∃ n, n = s.l0.length := ⟨_, rfl⟩
  rw [← hn] at hf hz ⊢
  have c1 : w.drew.cell? ⟨p, 1, none⟩ = some (.slice a0 n b0) := by simpa using hf.arr.cell 1
  have HO : Hid (w.drew.ownsRow 0 5 1 (.slice a0 n b0) n (U8 s.l0)) := hide (by have := hf.o0; rw [← hn] at this; exact this)
  have HD : Hid (d.Ok w.drew) := hide (ok_drewN hd 1)
  have HF := hide hf
  have mx := hf.ok.mx
  have HN := hide hn
  clear hf hn
  simp only [Sl.v]
  go_enter Try.func113, Try.ntmps113
  go_wp2_with fail
  go_region_law (refine step_append_slat rfl (.tmp 13) (.tmp 14) 22 rfl 5 i0 (.int .u8 0) Try.underlying22 hi hz0 hz1 hz2 rfl (.slice a0 n b0) n (U8 s.l0) (by simp [Act.eval]) (unhide HO) d (by simp [Act.eval]) (unhide HD) (by omega) ?_; intro v' w1 hown' hgrow hat; obtain ⟨a1, b1, hv'⟩ := own_parts (unhide hown'); subst hv'; have hA1 : Arr w1 p 50 [.int .i64 s.size, .slice a0 n b0, v1, qv, .bool s.down, .int .i64 s.wr] := ((unhide hgrow).block p (unhide HF).arr.lt (fun e => (unhide HF).n0 e.symm)).trans (unhide HF).arr; have f1 := hA1.frozen 1; have c1' : w1.cell? ⟨p, 1, none⟩ = some (.slice a0 n b0) := (by simpa using hA1.cell 1); have HA1 := hide hA1; clear hA1)
  go_wp2
  go_end0
  have hf := unhide HF
  have ho := unhide hown'
  have hg := unhide hgrow
  have ha := unhide hat
  have A2 := (unhide HA1).set 1 (.slice a1 (n + d.n) b1)
  have b1' : Buts (fun k => (Value.slice a0 n b0).ownBlock = some k) w w1 := ⟨hg.os, hg.tape, hg.output, hg.size, fun k hk hs => hg.block k hk (fun e => hs e.symm)⟩
  have b2 : Buts (· = p) w1 (w1.setCell ⟨p, 1, none⟩ (.slice a1 (n + d.n) b1)) := Buts.of_but ((But.refl p w1).setCell 1 _)
  have hnp : (Value.slice a1 (n + d.n) b1).ownBlock ≠ some p := own_arr_ne ho (unhide HA1) (by decide)
  have hnew : ∀ k, (Value.slice a1 (n + d.n) b1).ownBlock = some k → (Value.slice a0 n b0).ownBlock = some k ∨ w.heap.size ≤ k := by
    intro k hk
    rcases ha with ha | ha
    · left; rw [← ha]; exact hk
    · right; rw [ha] at hk; simp at hk; have : w.drew.heap.size = w.heap.size := rfl; omega
  refine ⟨rfl, FSet p (.slice a1 (n + d.n) b1) v1 qv, ⟨_, _, _, ⟨A2, ?_, ?_, ?_, ?_, ⟨?_, ?_, ?_, ?_, hf.ok.mx, hf.ok.ql, hf.ok.qb⟩⟩, rfl⟩, ?_, ?_⟩
  · have := b2.own ho (fun g hg e => hnp (by rw [hg, e]))
    simp only
    rw [List.length_append, ← unhide HN, (unhide HD).len, U8_append]
    exact this
  · exact b2.own (b1'.own hf.o1 (fun g hg e => hf.ne g e hg)) (fun g hg e => hf.n1 (by rw [hg, e]))
  · exact b2.own (b1'.own hf.oq (fun g hg e => hf.q0 g hg e)) (fun g hg e => hf.nq (by rw [hg, e]))
  · intro k hk hk'
    rcases hnew k hk with h1 | h1
    · exact hf.ne k h1 hk'
    · have := (hf.o1.lt k hk').2; omega
  · exact hf.ok.b0.append (unhide HD).isB
  · exact hf.ok.b1
  · simp only; rw [List.length_append, ← unhide HN, (unhide HD).len]; exact hz
  · exact hf.ok.z1
  · exact (b1'.mono (fun k _ e => .inr (.inl e))).trans (b2.mono (fun k _ e => .inl e))
  · rintro k (hk | hk | hk | hk)
    · exact .inl (.inl hk)
    · exact (hnew k hk).imp (fun e => .inr (.inl e)) id
    · exact .inl (.inr (.inr (.inl hk)))
    · exact .inl (.inr (.inr (.inr hk)))
theorem join_1 (p : Nat) (S : Nat → Prop) (s : FlS) (d : Sl) (w : World) (h : Fl w p S s) (hd : d.Ok w) (hz : s.l1.length + d.n ≤ s.size) :
    Calls Try.prog 113 #[.pointer (some ⟨p, 0, none⟩), .int .i64 1, d.v] w fun e w' => e = .returned (.tuple #[]) ∧ ∃ S', FSt p S { s with l1 := s.l1 ++ d.l } w w' S' := by
  obtain ⟨i0, hi, hz0, hz1, hz2⟩ := info_parts Try.infoB
  obtain ⟨v0, v1, qv, hf, rfl⟩ := h
  obtain ⟨a0, b0, rfl⟩ := own_parts hf.o1
  obtain ⟨n, hn⟩ : ∃ n, n = s.l1.length := ⟨_, rfl⟩
  rw [← hn] at hf hz ⊢
  have c1 : w.drew.cell? ⟨p, 2, none⟩ = some (.slice a0 n b0) := by simpa using hf.arr.cell 2
  have HO : Hid (w.drew.ownsRow 0 5 1 (.slice a0 n b0) n (U8 s.l1)) := hide (by have := hf.o1; rw [← hn] at this; exact this)
  have HD : Hid (d.Ok w.drew) := hide (ok_drewN hd 1)
  have HF := hide hf
  have mx := hf.ok.mx
  have HN := hide hn
  clear hf hn
  simp only [Sl.v]
  go_enter Try.func113, Try.ntmps113
  go_wp2_with fail
  go_region_law (refine step_append_slat rfl (.tmp 13) (.tmp 14) 22 rfl 5 i0 (.int .u8 0) Try.underlying22 hi hz0 hz1 hz2 rfl (.slice a0 n b0) n (U8 s.l1) (by simp [Act.eval]) (unhide HO) d (by simp [Act.eval]) (unhide HD) (by omega) ?_; intro v' w1 hown' hgrow hat; obtain ⟨a1, b1, hv'⟩ := own_parts (unhide hown'); subst hv'; have hA1 : Arr w1 p 50 [.int .i64 s.size, v0, .slice a0 n b0, qv, .bool s.down, .int .i64 s.wr] := ((unhide hgrow).block p (unhide HF).arr.lt (fun e => (unhide HF).n1 e.symm)).trans (unhide HF).arr; have f1 := hA1.frozen 2; have c1' : w1.cell? ⟨p, 2, none⟩ = some (.slice a0 n b0) := (by simpa using hA1.cell 2); have HA1 := hide hA1; clear hA1)
  go_wp2
  go_end0
  have hf := unhide HF
  have ho := unhide hown'
  have hg := unhide hgrow
  have ha := unhide hat
  have A2 := (unhide HA1).set 2 (.slice a1 (n + d.n) b1)
  have b1' : Buts (fun k => (Value.slice a0 n b0).ownBlock = some k) w w1 := ⟨hg.os, hg.tape, hg.output, hg.size, fun k hk hs => hg.block k hk (fun e => hs e.symm)⟩
  have b2 : Buts (· = p) w1 (w1.setCell ⟨p, 2, none⟩ (.slice a1 (n + d.n) b1)) := Buts.of_but ((But.refl p w1).setCell 2 _)
  have hnp : (Value.slice a1 (n + d.n) b1).ownBlock ≠ some p := own_arr_ne ho (unhide HA1) (by decide)
  have hnew : ∀ k, (Value.slice a1 (n + d.n) b1).ownBlock = some k → (Value.slice a0 n b0).ownBlock = some k ∨ w.heap.size ≤ k := by
    intro k hk
    rcases ha with ha | ha
    · left; rw [← ha]; exact hk
    · right; rw [ha] at hk; simp at hk; have : w.drew.heap.size = w.heap.size := rfl; omega
  refine ⟨rfl, FSet p v0 (.slice a1 (n + d.n) b1) qv, ⟨_, _, _, ⟨A2, ?_, ?_, ?_, ?_, ⟨?_, ?_, ?_, ?_, hf.ok.mx, hf.ok.ql, hf.ok.qb⟩⟩, rfl⟩, ?_, ?_⟩
  · exact b2.own (b1'.own hf.o0 (fun g hg e => hf.ne g hg e)) (fun g hg e => hf.n0 (by rw [hg, e]))
  · have := b2.own ho (fun g hg e => hnp (by rw [hg, e]))
    simp only
    rw [List.length_append, ← unhide HN, (unhide HD).len, U8_append]
    exact this
  · exact b2.own (b1'.own hf.oq (fun g hg e => hf.q1 g hg e)) (fun g hg e => hf.nq (by rw [hg, e]))
  · intro k hk hk'
    rcases hnew k hk' with h1 | h1
    · exact hf.ne k hk h1
    · have := (hf.o0.lt k hk).2; omega
  · exact hf.ok.b0
  · exact hf.ok.b1.append (unhide HD).isB
  · exact hf.ok.z0
  · simp only; rw [List.length_append, ← unhide HN, (unhide HD).len]; exact hz
  · exact (b1'.mono (fun k _ e => .inr (.inr (.inl e)))).trans (b2.mono (fun k _ e => .inl e))
  · rintro k (hk | hk | hk | hk)
    · exact .inl (.inl hk)
    · exact .inl (.inr (.inl hk))
    · exact (hnew k hk).imp (fun e => .inr (.inr (.inl e))) id
    · exact .inl (.inr (.inr (.inr hk)))
end Go.Proofs.Ytppmgfkpfamabaa
