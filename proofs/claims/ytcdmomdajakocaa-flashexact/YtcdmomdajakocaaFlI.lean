import Derived.Test.YtcdmomdajakocaaFlH
namespace Go.Proofs.Ytcdmomdajakocaa
open Go.RowKit

theorem ref_zero {s : FlS} {bank : Int} (h : s.ref bank = 0) : (bank = 0 ∨ bank = 1) ∧ s.down = false := by
  unfold FlS.ref at h
  split at h
  · omega
  · split at h
    · omega
    · rename_i h1 h2
      exact ⟨by omega, by simpa using h2⟩
theorem append_any (p : Nat) (S : Nat → Prop) (s : FlS) (bank : Int) (d : Sl) (w : World) (h : Fl w p S s) (hd : d.Ok w) (hS : Sepd S d) (hw : s.wr ≤ 1000000000) :
    Calls Try.prog 19 #[.pointer (some ⟨p, 0, none⟩), .int .i64 bank, d.v] w (APost p S (s.append bank d.l) w) := by
  by_cases hr : s.ref bank = 0
  · rcases (ref_zero hr).1 with rfl | rfl
    · exact append_0 p S s d w h hd hS hr hw
    · exact append_1 p S s d w h hd hS hr hw
  · exact append_no p S s bank d w h hr
theorem erase_any (p : Nat) (S : Nat → Prop) (s : FlS) (bank : Int) (w : World) (h : Fl w p S s) (hw : s.wr ≤ 1000000000) :
    Calls Try.prog 21 #[.pointer (some ⟨p, 0, none⟩), .int .i64 bank] w (APost p S (s.erase bank) w) := by
  by_cases hr : s.ref bank = 0
  · rcases (ref_zero hr).1 with rfl | rfl
    · exact erase_0 p S s w h hr hw
    · exact erase_1 p S s w h hr hw
  · exact erase_no p S s bank w h hr
def FlS.read (s : FlS) (bank : Int) : List Int := if s.ref bank = 0 then s.bk bank else []
def FlS.room (s : FlS) (bank : Int) : Int := if s.ref bank = 0 then s.size - (s.bk bank).length else 0
theorem read_any (p : Nat) (S : Nat → Prop) (s : FlS) (bank : Int) (w : World) (h : Fl w p S s) :
    Calls Try.prog 23 #[.pointer (some ⟨p, 0, none⟩), .int .i64 bank] w fun e w' => ∃ v, e = .returned (.tuple #[v, .int .i64 (s.ref bank)]) ∧ OwB w' v (s.read bank) ∧ (∀ k, v.ownBlock = some k → w.heap.size ≤ k) ∧ Below w.heap.size w w' := by
  by_cases hr : s.ref bank = 0
  · rw [hr]
    unfold FlS.read
    rw [if_pos hr]
    rcases (ref_zero hr).1 with rfl | rfl
    · exact read_0 p S s w h hr
    · exact read_1 p S s w h hr
  · refine (read_no p S s bank w h hr).mono ?_
    rintro e w' ⟨rfl, rfl⟩
    unfold FlS.read
    rw [if_neg hr]
    exact ⟨_, rfl, OwB.nil _, fun k hk => by simp [Value.ownBlock] at hk, Below.refl _ _⟩
theorem roomX_any (p : Nat) (S : Nat → Prop) (s : FlS) (bank : Int) (w : World) (h : Fl w p S s) :
    Calls Try.prog 25 #[.pointer (some ⟨p, 0, none⟩), .int .i64 bank] w fun e w' => e = .returned (.tuple #[.int .i64 (s.room bank), .int .i64 (s.ref bank)]) ∧ ∃ k, w' = w.drewN k := by
  by_cases hr : s.ref bank = 0
  · rw [hr]
    unfold FlS.room
    rw [if_pos hr]
    rcases (ref_zero hr).1 with rfl | rfl
    · exact roomX_0 p S s w h hr
    · exact roomX_1 p S s w h hr
  · refine (roomX_no p S s bank w h hr).mono ?_
    rintro e w' ⟨rfl, rfl⟩
    unfold FlS.room
    rw [if_neg hr]
    exact ⟨rfl, 0, rfl⟩
set_option maxHeartbeats 1000000 in
set_option maxRecDepth 100000 in
theorem down_any (p : Nat) (S : Nat → Prop) (s : FlS) (w : World) (h : Fl w p S s) :
    Calls Try.prog 16 #[.pointer (some ⟨p, 0, none⟩)] w fun e w' => e = .returned (.bool s.down) ∧ w' = w := by
  obtain ⟨v0, v1, qv, hf, rfl⟩ := h
  obtain ⟨-, -, -, -, c4, -⟩ := hf.cs
  clear hf
  go_enter Try.func16, Try.ntmps16
  go_wp2
  go_ret
  exact ⟨rfl, rfl⟩
set_option maxHeartbeats 1000000 in
set_option maxRecDepth 100000 in
theorem writes_any (p : Nat) (S : Nat → Prop) (s : FlS) (w : World) (h : Fl w p S s) :
    Calls Try.prog 17 #[.pointer (some ⟨p, 0, none⟩)] w fun e w' => e = .returned (.int .i64 s.wr) ∧ w' = w := by
  obtain ⟨v0, v1, qv, hf, rfl⟩ := h
  obtain ⟨-, -, -, -, -, c5⟩ := hf.cs
  clear hf
  go_enter Try.func17, Try.ntmps17
  go_wp2
  go_ret
  exact ⟨rfl, rfl⟩
set_option maxHeartbeats 1000000 in
set_option maxRecDepth 100000 in
theorem restart_any (p : Nat) (S : Nat → Prop) (s : FlS) (w : World) (h : Fl w p S s) :
    Calls Try.prog 31 #[.pointer (some ⟨p, 0, none⟩)] w (APost p S s.restart w) := by
  have HFl := hide h
  obtain ⟨v0, v1, qv, hf, rfl⟩ := h
  obtain ⟨-, -, -, -, c4, -⟩ := hf.cs
  have f4 := hf.arr.frozen 4
  have HF := hide hf
  clear hf
  cases hd : s.down with
  | false =>
    have HR : Hid (s.restart = (s, 123)) := hide (by unfold FlS.restart; rw [hd]; rfl)
    rw [unhide HR]
    rw [hd] at c4
    go_enter Try.func31, Try.ntmps31
    go_wp2
    go_ret
    exact ⟨rfl, _, FSt.refl (unhide HFl)⟩
  | true =>
    have HR : Hid (s.restart = ({ s with down := false }, 0)) := hide (by unfold FlS.restart; rw [hd]; rfl)
    rw [unhide HR]
    rw [hd] at c4
    go_enter Try.func31, Try.ntmps31
    go_wp2
    go_ret
    have hf := unhide HF
    have bb : Buts (· = p) w (w.setCell ⟨p, 4, none⟩ (.bool false)) := Buts.of_but ((But.refl p w).setCell _ _)
    exact ⟨rfl, _, ⟨v0, v1, qv, ⟨hf.arr.set 4 (.bool false), bb.own hf.o0 (fun x hx e => hf.n0 (by rw [hx, e])), bb.own hf.o1 (fun x hx e => hf.n1 (by rw [hx, e])), bb.own hf.oq (fun x hx e => hf.nq (by rw [hx, e])), hf.ne, ⟨hf.ok.b0, hf.ok.b1, hf.ok.z0, hf.ok.z1, hf.ok.mx, hf.ok.ql, hf.ok.qb⟩⟩, rfl⟩, bb.mono (fun k _ e => .inl e), fun _ h => .inl h⟩
set_option maxHeartbeats 1000000 in
set_option maxRecDepth 100000 in
theorem disarm_any (p : Nat) (S : Nat → Prop) (s : FlS) (w : World) (h : Fl w p S s) :
    Calls Try.prog 29 #[.pointer (some ⟨p, 0, none⟩)] w fun e w' => e = .returned (.tuple #[]) ∧ ∃ S', FSt p S { s with q := [] } w w' S' := by
  obtain ⟨v0, v1, qv, hf, rfl⟩ := h
  obtain ⟨-, -, -, c3, -, -⟩ := hf.cs
  have f3 := hf.arr.frozen 3
  have HF := hide hf
  clear hf
  go_enter Try.func29, Try.ntmps29
  go_wp2
  go_end0
  have hf := unhide HF
  have bb : Buts (· = p) w (w.setCell ⟨p, 3, none⟩ (.slice none 0 0)) := Buts.of_but ((But.refl p w).setCell _ _)
  refine ⟨rfl, _, ⟨v0, v1, .slice none 0 0, ⟨hf.arr.set 3 (.slice none 0 0), bb.own hf.o0 (fun x hx e => hf.n0 (by rw [hx, e])), bb.own hf.o1 (fun x hx e => hf.n1 (by rw [hx, e])), World.ownsRow_nil _ _ _ _, hf.ne, ⟨hf.ok.b0, hf.ok.b1, hf.ok.z0, hf.ok.z1, hf.ok.mx, by simp, by simp⟩⟩, rfl⟩, bb.mono (fun k _ e => .inl e), ?_⟩
  rintro k (hk | hk | hk | hk)
  · exact .inl (.inl hk)
  · exact .inl (.inr (.inl hk))
  · exact .inl (.inr (.inr (.inl hk)))
  · simp [Value.ownBlock] at hk
/-- two tellings, in new memory, apart -/
def FPost (l0 l1 : List Int) (w : World) (e : Ending) (w' : World) : Prop :=
  ∃ u v, e = .returned (.tuple #[u, v]) ∧ OwB w' u l0 ∧ OwB w' v l1 ∧ (∀ k, u.ownBlock = some k → w.heap.size ≤ k) ∧ (∀ k, v.ownBlock = some k → w.heap.size ≤ k) ∧ (∀ k, u.ownBlock = some k → v.ownBlock ≠ some k) ∧ Below w.heap.size w w'
set_option maxHeartbeats 1000000 in
set_option maxRecDepth 100000 in
theorem files_any (p : Nat) (S : Nat → Prop) (s : FlS) (w : World) (h : Fl w p S s) :
    Calls Try.prog 14 #[.pointer (some ⟨p, 0, none⟩)] w (FPost s.l0 s.l1 w) := by
  have hT := told_0 p S s w h
  have HF := hide h
  clear h
  go_enter Try.func14, Try.ntmps14
  go_wp2_with (first | (go_at_call 33; refine hU.mono ?_; rintro e w2 ⟨v, rfl, j1, j2, j3⟩; clear hU) | (go_at_call 33; refine hT.mono ?_; rintro e w1 ⟨u, rfl, h1, h2, h3⟩; clear hT; have hU := told_1 p S s w1 ((unhide HF).later h3)))
  go_ret2
  have := h3.size
  refine ⟨u, v, rfl, h1.later j3, j1, h2, fun k hk => by have := j2 k hk; omega, fun k hk hk' => ?_, h3.trans (j3.mono (by omega))⟩
  have := h1.lt k hk
  have := j2 k hk'
  omega
set_option maxHeartbeats 2000000 in
set_option maxRecDepth 100000 in
theorem arm_any (p : Nat) (S : Nat → Prop) (s : FlS) (a k : Int) (w : World) (h : Fl w p S s) :
    Calls Try.prog 27 #[.pointer (some ⟨p, 0, none⟩), .int .i64 a, .int .i64 k] w (APost p S (s.arm a k) w) := by
  obtain ⟨i0, hi, hz0, hz1, hz2⟩ := info_parts Try.infoC
  by_cases hb : a < 1 ∨ 1000000 < a ∨ k < 0 ∨ 1048576 < k
  · have HP : Hid (s.arm a k = (s, 2)) := hide (by unfold FlS.arm; rw [if_pos hb])
    rw [unhide HP]
    have HF := hide h
    clear h HP
    go_enter Try.func27, Try.ntmps27
    go_wp2
    all_goals (go_ret; exact ⟨rfl, S, FSt.refl (unhide HF)⟩)
  · obtain ⟨v0, v1, qv, hf, rfl⟩ := h
    obtain ⟨aq, cq, rfl⟩ := own_parts hf.oq
    obtain ⟨n, hn⟩ : ∃ n, n = s.q.length := ⟨_, rfl⟩
    rw [← hn] at hf ⊢
    have c3 : w.cell? ⟨p, 3, none⟩ = some (.slice aq n cq) := by simpa using hf.arr.cell 3
    have g1 : ¬ a < 1 := by omega
    have g2 : ¬ 1000000 < a := by omega
    have g3 : ¬ k < 0 := by omega
    have g4 : ¬ 1048576 < k := by omega
    have g5 : n ≤ 64 := by rw [hn]; exact hf.ok.ql
    have HF := hide hf
    clear hf
    by_cases hl : 64 ≤ n
    · have HP : Hid (s.arm a k = (s, 1)) := hide (by unfold FlS.arm; rw [if_neg hb, ← hn, if_pos hl])
      rw [unhide HP]
      have hlz : (64 : Int) ≤ (n : Int) := by omega
      clear hn HP
      go_enter Try.func27, Try.ntmps27
      go_wp2
      go_ret
      exact ⟨rfl, _, FSt.refl ⟨v0, v1, _, unhide HF, rfl⟩⟩
    · have HP : Hid (s.arm a k = ({ s with q := s.q ++ [(a, k)] }, 0)) := hide (by unfold FlS.arm; rw [if_neg hb, ← hn, if_neg hl])
      rw [unhide HP]
      have hlz : ¬ (64 : Int) ≤ (n : Int) := by omega
      have HN := hide hn
      clear hn HP
      have hbel : Below w.heap.size w (w.alloc (.cells #[.int .i64 a, .int .i64 k] 82)) := below_one w _
      have HOQ : Hid ((w.alloc (.cells #[.int .i64 a, .int .i64 k] 82)).ownsRow 0 82 2 (.slice aq n cq) n (Cr s.q)) := hide (by
        have := own_laterG (unhide HF).oq hbel
        rw [← unhide HN] at this
        exact this)
      have HNW : Hid (∀ j u, [Value.int .i64 a, .int .i64 k][j]? = some u → (w.alloc (.cells #[.int .i64 a, .int .i64 k] 82)).cell? ((⟨w.heap.size, 0, none⟩ : Addr).add j) = some u) := hide (fun j u hu => by
        have A : Arr (w.alloc (.cells #[.int .i64 a, .int .i64 k] 82)) w.heap.size 82 [.int .i64 a, .int .i64 k] := Arr.new w _ _
        rw [addr_add, Nat.zero_add, A.cell j, hu])
      have HFL : Hid (Fls (w.alloc (.cells #[.int .i64 a, .int .i64 k] 82)) p v0 v1 (.slice aq n cq) s) := hide ((unhide HF).keep (Buts.of_below (S := fun _ => False) hbel) (fun _ _ h => h))
      have HBEL := hide hbel
      clear hbel
      go_enter Try.func27, Try.ntmps27
      go_wp2_with (at_builtin; refine wpList_append_own_at rfl _ _ 42 rfl 0 82 i0 (.agg #[.int .i64 0, .int .i64 0]) 2 16 Try.underlying42 hi hz0 hz1 hz2 rfl (by decide) (.slice aq n cq) n (Cr s.q) rfl (unhide HOQ) ⟨w.heap.size, 0, none⟩ 1 1 [.int .i64 a, .int .i64 k] rfl rfl (unhide HNW) (by intro u hu; simp at hu; rcases hu with rfl | rfl <;> rfl) (by unfold maxLen; omega) (by omega) (Nat.zero_le _) ?_; intro v' w1 hown' hgrow hat; obtain ⟨a1, b1, hv'⟩ := own_parts (unhide hown'); subst hv'; have hA1 : Arr w1 p 44 [.int .i64 s.size, v0, v1, .slice aq n cq, .bool s.down, .int .i64 s.wr] := ((unhide hgrow).block p (unhide HFL).arr.lt (fun e => (unhide HFL).nq e.symm)).trans (unhide HFL).arr; have f1 := hA1.frozen 3; have c1' : w1.cell? ⟨p, 3, none⟩ = some (.slice aq n cq) := (by simpa using hA1.cell 3); have HA1 := hide hA1; clear hA1)
      go_ret
      have hf := unhide HFL
      have ho := unhide hown'
      have hg := unhide hgrow
      have ha := unhide hat
      have A2 := (unhide HA1).set 3 (.slice a1 (n + 1) b1)
      have b1' : Buts (fun k => (Value.slice aq n cq).ownBlock = some k) (w.alloc (.cells #[.int .i64 a, .int .i64 k] 82)) w1 := ⟨hg.os, hg.tape, hg.output, hg.size, fun k hk hs => hg.block k hk (fun e => hs e.symm)⟩
      have b2 : Buts (· = p) w1 (w1.setCell ⟨p, 3, none⟩ (.slice a1 (n + 1) b1)) := Buts.of_but ((But.refl p w1).setCell 3 _)
      have hnp : (Value.slice a1 (n + 1) b1).ownBlock ≠ some p := own_arr_ne ho (unhide HA1) (by decide)
      have hsz := (unhide HBEL).size
      have hnew : ∀ k, (Value.slice a1 (n + 1) b1).ownBlock = some k → (Value.slice aq n cq).ownBlock = some k ∨ w.heap.size ≤ k := by
        intro k hk
        rcases ha with ha | ha
        · left; rw [← ha]; exact hk
        · right; rw [ha] at hk; simp at hk; omega
      refine ⟨rfl, FSet p v0 v1 (.slice a1 (n + 1) b1), ⟨_, _, _, ⟨A2, ?_, ?_, ?_, hf.ne, ⟨hf.ok.b0, hf.ok.b1, hf.ok.z0, hf.ok.z1, hf.ok.mx, ?_, ?_⟩⟩, rfl⟩, ?_, ?_⟩
      · exact b2.own (b1'.own hf.o0 (fun g hg e => hf.q0 g e hg)) (fun g hg e => hf.n0 (by rw [hg, e]))
      · exact b2.own (b1'.own hf.o1 (fun g hg e => hf.q1 g e hg)) (fun g hg e => hf.n1 (by rw [hg, e]))
      · have := b2.own ho (fun g hg e => hnp (by rw [hg, e]))
        simp only
        rw [List.length_append, ← unhide HN, Cr_app]
        exact this
      · simp only; rw [List.length_append, ← unhide HN]; simp; omega
      · intro x hx
        simp only [List.mem_append, List.mem_singleton] at hx
        rcases hx with hx | rfl
        · exact hf.ok.qb x hx
        · exact ⟨g1, g2, g3, g4⟩
      · exact (Buts.of_below (unhide HBEL)).trans ((b1'.mono (fun k _ e => .inr (.inr (.inr e)))).trans (b2.mono (fun k _ e => .inl e)))
      · rintro k (hk | hk | hk | hk)
        · exact .inl (.inl hk)
        · exact .inl (.inr (.inl hk))
        · exact .inl (.inr (.inr (.inl hk)))
        · exact (hnew k hk).imp (fun e => .inr (.inr (.inr e))) id
end Go.Proofs.Ytcdmomdajakocaa
