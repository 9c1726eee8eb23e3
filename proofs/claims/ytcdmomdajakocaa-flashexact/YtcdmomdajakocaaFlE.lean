import Derived.Test.YtcdmomdajakocaaFlD
namespace Go.Proofs.Ytcdmomdajakocaa
open Go.RowKit

def CPost (qv : Value) (c : List (Int × Int) × Int × Bool) (w : World) (e : Ending) (w' : World) : Prop :=
  ∃ qv', e = .returned (.tuple #[qv', .int .i64 c.2.1, .bool c.2.2]) ∧ w'.ownsRow 0 82 2 qv' c.1.length (Cr c.1) ∧ Buts (fun k => qv.ownBlock = some k) w w' ∧ qv'.ownBlock = qv.ownBlock
theorem own_some {w : World} {base e sz n : Nat} {v : Value} {xs : List Value} (h : w.ownsRow base e sz v n xs) (hn : 0 < n) : ∃ g cap, v = .slice (some ⟨g, 0, none⟩) n cap := by
  rcases h.2 with ⟨rfl, rfl⟩ | ⟨g, cap, cur, rfl, -⟩
  · omega
  · exact ⟨_, _, rfl⟩
set_option maxHeartbeats 2000000 in
set_option maxRecDepth 100000 in
theorem count_any (qv : Value) (q : List (Int × Int)) (w : World) (h : w.ownsRow 0 82 2 qv q.length (Cr q)) (hq : q.length ≤ 64) (hb : ∀ x ∈ q, 1 ≤ x.1 ∧ x.1 ≤ 1000000 ∧ 0 ≤ x.2 ∧ x.2 ≤ 1048576) :
    Calls Try.prog 43 #[qv] w (CPost qv (cntQ q) w) := by
  cases q with
  | nil =>
    obtain ⟨a, c, rfl⟩ := own_parts h
    have H := hide h
    clear h
    simp only [List.length_nil] at *
    go_enter Try.func43, Try.ntmps43
    go_wp2
    go_ret3
    exact ⟨_, rfl, unhide H, Buts.refl _ _, rfl⟩
  | cons x r =>
    obtain ⟨x1, x2⟩ := x
    obtain ⟨b1, b2, b3, b4⟩ := hb (x1, x2) (by simp)
    simp only at b1 b2 b3 b4
    obtain ⟨g, cap, rfl⟩ := own_some h (by simp)
    have c0 : w.cell? ⟨g, 0, none⟩ = some (.int .i64 x1) := by rw [h.cellAt 0 (by simp)]; rfl
    have c1 : w.cell? ⟨g, 1, none⟩ = some (.int .i64 x2) := by rw [h.cellAt 1 (by simp only [List.length_cons]; omega)]; rfl
    have f0 := h.frozenAt 0
    obtain ⟨n, hn⟩ : ∃ n, n = r.length := ⟨_, rfl⟩
    have hl : (((x1, x2) :: r).length) = n + 1 := by rw [hn]; rfl
    rw [hl] at h hq ⊢
    have hs := h.stored 0 (.int .i64 (x1 - 1))
    have HS : Hid ((w.setCell ⟨g, 0, none⟩ (.int .i64 (x1 - 1))).ownsRow 0 82 2 (.slice (some ⟨g, 0, none⟩) (n + 1) cap) (n + 1) (Cr ((x1 - 1, x2) :: r))) := hide hs.1
    have HB : Hid (Buts (fun k => (Value.slice (some ⟨g, 0, none⟩) (n + 1) cap).ownBlock = some k) w (w.setCell ⟨g, 0, none⟩ (.int .i64 (x1 - 1)))) := hide (Buts.setCell (g := g) (Buts.refl (fun k => (Value.slice (some ⟨g, 0, none⟩) (n + 1) cap).ownBlock = some k) w) (by rfl) _ _)
    have c0' : (w.setCell ⟨g, 0, none⟩ (.int .i64 (x1 - 1))).cell? ⟨g, 0, none⟩ = some (.int .i64 (x1 - 1)) := by rw [(unhide HS).cellAt 0 (by omega)]; rfl
    have c1' : (w.setCell ⟨g, 0, none⟩ (.int .i64 (x1 - 1))).cell? ⟨g, 1, none⟩ = some (.int .i64 x2) := by rw [(unhide HS).cellAt 1 (by omega)]; rfl
    obtain ⟨W, hW⟩ : ∃ W, W = w.setCell ⟨g, 0, none⟩ (.int .i64 (x1 - 1)) := ⟨_, rfl⟩
    rw [← hW] at HS HB c0' c1'
    have hle : (1 : Int) ≤ (n : Int) + 1 := by omega
    have HNR := hide hn
    have HD : Hid (Calls Try.prog 44 #[.slice (some ⟨g, 0, none⟩) (n + 1) cap, .int .i64 0, .int .i64 1] W fun e w' => e = .returned (.slice (some ⟨g, 0, none⟩) n cap) ∧ w'.ownsRow 0 82 2 (.slice (some ⟨g, 0, none⟩) n cap) n (Cr r) ∧ Buts (· = g) W w') := hide (by
      have h2 := unhide HS
      rw [hn] at h2 ⊢
      exact delete_any g cap _ r W h2 (by omega))
    have hW' := hW.symm
    clear h hs hb hn hl hW
    by_cases hx : 1 < x1
    · have HC : Hid (cntQ ((x1, x2) :: r) = ((x1 - 1, x2) :: r, 0, false)) := hide (by simp [cntQ, hx])
      rw [unhide HC]
      go_enter Try.func43, Try.ntmps43
      go_wp2
      go_ret3
      refine ⟨_, rfl, ?_, unhide HB, rfl⟩
      show W.ownsRow 0 82 2 (.slice (some ⟨g, 0, none⟩) (n + 1) cap) (r.length + 1) _
      rw [← unhide HNR]
      exact unhide HS
    · have HC : Hid (cntQ ((x1, x2) :: r) = (r, x2, true)) := hide (by simp [cntQ, hx])
      rw [unhide HC]
      go_enter Try.func43, Try.ntmps43
      go_wp2_with (go_at_call 44; refine (unhide HD).mono ?_; rintro e w2 ⟨rfl, ho, hbb⟩)
      go_ret3
      refine ⟨_, rfl, ?_, (unhide HB).trans (hbb.mono (fun k _ e => by subst e; rfl)), rfl⟩
      show w2.ownsRow 0 82 2 (.slice (some ⟨g, 0, none⟩) n cap) r.length _
      rw [← unhide HNR]
      exact ho

theorem cntQ_len (q : List (Int × Int)) : (cntQ q).1.length ≤ q.length := by
  cases q with
  | nil => exact Nat.le_refl _
  | cons x r => simp only [cntQ]; split <;> simp
theorem cntQ_bd (q : List (Int × Int)) (hb : ∀ x ∈ q, 1 ≤ x.1 ∧ x.1 ≤ 1000000 ∧ 0 ≤ x.2 ∧ x.2 ≤ 1048576) : ∀ x ∈ (cntQ q).1, 1 ≤ x.1 ∧ x.1 ≤ 1000000 ∧ 0 ≤ x.2 ∧ x.2 ≤ 1048576 := by
  cases q with
  | nil => exact hb
  | cons y r =>
    have hy := hb y (by simp)
    have hr : ∀ x ∈ r, 1 ≤ x.1 ∧ x.1 ≤ 1000000 ∧ 0 ≤ x.2 ∧ x.2 ≤ 1048576 := fun x hx => hb x (by simp [hx])
    simp only [cntQ]
    split
    · intro x hx
      simp only [List.mem_cons] at hx
      rcases hx with rfl | hx
      · simp only; omega
      · exact hr x hx
    · exact hr
theorem cntQ_keep (q : List (Int × Int)) (hb : ∀ x ∈ q, 1 ≤ x.1 ∧ x.1 ≤ 1000000 ∧ 0 ≤ x.2 ∧ x.2 ≤ 1048576) : 0 ≤ (cntQ q).2.1 ∧ (cntQ q).2.1 ≤ 1048576 := by
  cases q with
  | nil => simp [cntQ]
  | cons y r =>
    have hy := hb y (by simp)
    simp only [cntQ]
    split
    · simp
    · simp only; omega
theorem FlS.Ok.write {s : FlS} (h : s.Ok) : s.write.1.Ok := ⟨h.b0, h.b1, h.z0, h.z1, h.mx, Nat.le_trans (cntQ_len _) h.ql, cntQ_bd _ h.qb⟩
def WrPost (p : Nat) (S : Nat → Prop) (r : FlS × Int × Bool) (w : World) (e : Ending) (w' : World) : Prop :=
  e = .returned (.tuple #[.int .i64 r.2.1, .bool r.2.2]) ∧ ∃ S', FSt p S r.1 w w' S'
set_option maxHeartbeats 2000000 in
set_option maxRecDepth 100000 in
theorem write_any (p : Nat) (S : Nat → Prop) (s : FlS) (w : World) (h : Fl w p S s) (hw : s.wr ≤ 1000000000) :
    Calls Try.prog 36 #[.pointer (some ⟨p, 0, none⟩)] w (WrPost p S s.write w) := by
  obtain ⟨v0, v1, qv, hf, rfl⟩ := h
  obtain ⟨-, -, -, c3, -, c5⟩ := hf.cs
  have f5 := hf.arr.frozen 5
  obtain ⟨n, hn⟩ : ∃ n, n = s.wr := ⟨_, rfl⟩
  rw [← hn] at c5
  have hn1 : (n : Int) + 1 ≤ 9223372036854775807 := by omega
  obtain ⟨W, hW⟩ : ∃ W, W = w.setCell ⟨p, 5, none⟩ (.int .i64 ((n : Int) + 1)) := ⟨_, rfl⟩
  have A1 : Arr W p 44 [.int .i64 s.size, v0, v1, qv, .bool s.down, .int .i64 ((n : Int) + 1)] := by rw [hW]; exact hf.arr.set 5 _
  have B1 : Buts (FSet p v0 v1 qv) w W := by rw [hW]; exact Buts.setCell (Buts.refl _ w) (.inl rfl) _ _
  have bp : Buts (· = p) w W := by rw [hW]; exact Buts.of_but ((But.refl p w).setCell 5 _)
  have o0 := bp.own hf.o0 (fun g hg e => hf.n0 (by rw [hg, e]))
  have o1 := bp.own hf.o1 (fun g hg e => hf.n1 (by rw [hg, e]))
  have oq := bp.own hf.oq (fun g hg e => hf.nq (by rw [hg, e]))
  have c3' : W.cell? ⟨p, 3, none⟩ = some qv := by simpa using A1.cell 3
  have hC := count_any qv s.q W oq hf.ok.ql hf.ok.qb
  obtain ⟨⟨cq, ck, cb⟩, hc⟩ : ∃ c, c = cntQ s.q := ⟨_, rfl⟩
  rw [← hc] at hC
  have HS : Hid (s.write = ({ s with wr := n + 1, q := cq, down := cb }, ck, cb)) := hide (by unfold FlS.write; rw [← hc, ← hn])
  have HO := hide hf.ok.write
  rw [unhide HS] at HO ⊢
  have hne := hide hf.ne
  have hq0 := hide hf.q0
  have hq1 := hide hf.q1
  have hn0 := hide hf.n0
  have hn1' := hide hf.n1
  have hnq := hide hf.nq
  have HA1 := hide A1
  have HB1 := hide B1
  have Ho0 := hide o0
  have Ho1 := hide o1
  have hW' := hW.symm
  have hsz : Hid (w.heap.size = W.heap.size) := hide (by rw [hW]; simp)
  clear hf A1 B1 bp o0 o1 oq hW hc hn HS
  go_enter Try.func36, Try.ntmps36
  go_wp2_with (go_at_call 43; refine hC.mono ?_; rintro e w2 ⟨qv', rfl, oq2, bb2, eq2⟩; simp only at oq2; have A2 := bb2.arr (unhide HA1) (fun e => unhide hnq e); have c3'' : w2.cell? ⟨p, 3, none⟩ = some qv := (by simpa using A2.cell 3); have f3'' := A2.frozen 3; obtain ⟨x3, y3, hqv⟩ := own_parts oq2; subst hqv; obtain ⟨W3, hW3⟩ : ∃ W3, w2.setCell ⟨p, 3, none⟩ (.slice x3 cq.length y3) = W3 := ⟨_, rfl⟩; have A3 : Arr W3 p 44 [.int .i64 s.size, v0, v1, .slice x3 cq.length y3, .bool s.down, .int .i64 ((n : Int) + 1)] := (by rw [← hW3]; exact A2.set 3 _); have c4'' : W3.cell? ⟨p, 4, none⟩ = some (.bool s.down) := (by simpa using A3.cell 4); have f4'' := A3.frozen 4; have HQ2 := hide oq2; have HBB := hide bb2; have HE2 := hide eq2; have HA3 := hide A3; have HW3 := hide hW3; clear oq2 bb2 eq2 A2 A3)
  go_ret2
  have A4 := (unhide HA3).set 4 (.bool cb)
  have bq := unhide HBB
  have b34 : Buts (· = p) w2 (W3.setCell ⟨p, 4, none⟩ (.bool cb)) := by rw [← hW3]; exact Buts.of_but (((But.refl p w2).setCell 3 _).setCell 4 _)
  have e2 := unhide HE2
  refine ⟨rfl, FSet p v0 v1 (.slice x3 cq.length y3), ⟨v0, v1, .slice x3 cq.length y3, ⟨A4, ?_, ?_, ?_, unhide hne, unhide HO⟩, rfl⟩, ?_, ?_⟩
  · exact b34.own (bq.own (unhide Ho0) (fun g hg e => unhide hq0 g e hg)) (fun g hg e => unhide hn0 (by rw [hg, e]))
  · exact b34.own (bq.own (unhide Ho1) (fun g hg e => unhide hq1 g e hg)) (fun g hg e => unhide hn1' (by rw [hg, e]))
  · exact b34.own (unhide HQ2) (fun g hg e => unhide hnq (by rw [← e2, hg, e]))
  · exact (unhide HB1).trans ((bq.mono (fun k _ e => .inr (.inr (.inr e)))).trans (b34.mono (fun k _ e => .inl e)))
  · rintro k (hk | hk | hk | hk)
    · exact .inl (.inl hk)
    · exact .inl (.inr (.inl hk))
    · exact .inl (.inr (.inr (.inl hk)))
    · exact .inl (.inr (.inr (.inr (by rw [← e2]; exact hk))))
end Go.Proofs.Ytcdmomdajakocaa
