import Derived.Test.YtcdmomdajakocaaFlE
namespace Go.Proofs.Ytcdmomdajakocaa
open Go.RowKit

/-- append of any slice of bytes to a row of one's own: what the run does -/
theorem run_append_slat {P : Program} (w : World) (t ty : TypeId) (e : TypeId) (i : TypeInfo) (z : Value) (ht : P.underlying t = some (.slice e)) (hi : P.info? e = some i) (hz : i.zero = some z) (hsize : i.size = 1) (hby : i.bytes = 1) (hzs : z.cells.size = 1)
    (v : Value) (n : Nat) (xs : List Value) (hown : w.ownsRow 0 e 1 v n xs) (d : Sl) (hd : d.Ok w) (hb : n + d.n ≤ 140737488355328) :
    ∃ v' w', (Builtin.append_ #[t, t] ty #[v, .slice d.a d.n d.c]).run P w = .ok v' w' ∧ w'.ownsRow 0 e 1 v' (n + d.n) (xs ++ U8 d.l) ∧ w.grownBy w' v.ownBlock ∧ (v'.ownBlock = v.ownBlock ∨ v'.ownBlock = some w.heap.size) := by
  cases hda : d.a with
  | none =>
    obtain ⟨h0, hc0⟩ := hd.nn hda
    have hl0 : d.l = [] := List.eq_nil_of_length_eq_zero (by rw [hd.len, h0])
    rw [h0, hc0, hl0]
    exact ⟨v, w, run_append_owned_none w 0 t ty e i 1 ht hi v n xs hown, by simpa [U8] using hown, World.grownBy.refl w _, .inl rfl⟩
  | some ad => exact run_append_own_at w 0 t ty e i z 1 1 ht hi hz hsize hby hzs (by decide) v n xs hown ad d.n d.c (U8 d.l) (by rw [U8_length, hd.len, Nat.mul_one]) (hd.cells ad hda) (U8_one _) (by unfold maxLen; omega) (by omega) (Nat.zero_le _)
theorem step_append_slat {P : Program} {ops : Array Oper} {o : Oper} {a : Act} {w : World} {K : Act → World → Prop} {Q : Exit → Act → World → Prop} {E : Prop} (hgd : o.guard = none) (s x : Operand) (t : TypeId)
    (ho : o.op = .call { callee := .builtin .append, args := #[s, x], argTypes := #[t, t] })
    (e : TypeId) (i : TypeInfo) (z : Value) (ht : P.underlying t = some (.slice e)) (hi : P.info? e = some i) (hz : i.zero = some z) (hsize : i.size = 1) (hby : i.bytes = 1) (hzs : z.cells.size = 1)
    (v : Value) (n : Nat) (xs : List Value) (hs : a.eval s = v) (hown : w.ownsRow 0 e 1 v n xs) (d : Sl) (hx : a.eval x = .slice d.a d.n d.c) (hd : d.Ok w) (hb : n + d.n ≤ 140737488355328)
    (h : ∀ v' w', Hid (w'.ownsRow 0 e 1 v' (n + d.n) (xs ++ U8 d.l)) → Hid (w.grownBy w' v.ownBlock) → Hid (v'.ownBlock = v.ownBlock ∨ v'.ownBlock = some w.heap.size) → K (a.put o.dst v') w') :
    if Region.wanted o (yielded ops a.tmps) = true then Oper.wp P o a w K Q else E := by
  have hw : Region.wanted o (yielded ops a.tmps) = true := by simp [Region.wanted, hgd]
  rw [if_pos hw]
  obtain ⟨v', w', hr, r1, r2, r3⟩ := run_append_slat (P := P) w t o.type e i z ht hi hz hsize hby hzs v n xs hown d hd hb
  unfold Oper.wp
  simp [execOp, ho, resolve, invoke, builtin, hs, hx, hr, Result.andThen]
  exact h v' w' r1 r2 r3
set_option maxHeartbeats 2000000 in
set_option maxRecDepth 100000 in
theorem join_0 (p : Nat) (S : Nat → Prop) (s : FlS) (d : Sl) (w : World) (h : Fl w p S s) (hd : d.Ok w) (hz : s.l0.length + d.n ≤ s.size) :
    Calls Try.prog 37 #[.pointer (some ⟨p, 0, none⟩), .int .i64 0, d.v] w fun e w' => e = .returned (.tuple #[]) ∧ ∃ S', FSt p S { s with l0 := s.l0 ++ d.l } w w' S' := by
  obtain ⟨i0, hi, hz0, hz1, hz2⟩ := info_parts Try.infoB
  obtain ⟨v0, v1, qv, hf, rfl⟩ := h
  obtain ⟨a0, b0, rfl⟩ := own_parts hf.o0
  obtain ⟨n, hn⟩ : ∃ n, n = s.l0.length := ⟨_, rfl⟩
  rw [← hn] at hf hz ⊢
  have c1 : w.drew.cell? ⟨p, 1, none⟩ = some (.slice a0 n b0) := by simpa using hf.arr.cell 1
  have HO : Hid (w.drew.ownsRow 0 5 1 (.slice a0 n b0) n (U8 s.l0)) := hide (by have := hf.o0; rw [← hn] at this; exact this)
  have HD : Hid (d.Ok w.drew) := hide (ok_drewN hd 1)
  have HF := hide hf
  have mx := hf.ok.mx
  have HN := hide hn
  clear hf hn
  simp only [Sl.v]
  go_enter Try.func37, Try.ntmps37
  go_wp2_with fail
  go_region_law (refine step_append_slat rfl (.tmp 13) (.tmp 14) 22 rfl 5 i0 (.int .u8 0) Try.underlying22 hi hz0 hz1 hz2 rfl (.slice a0 n b0) n (U8 s.l0) (by simp [Act.eval]) (unhide HO) d (by simp [Act.eval]) (unhide HD) (by omega) ?_; intro v' w1 hown' hgrow hat; obtain ⟨a1, b1, hv'⟩ := own_parts (unhide hown'); subst hv'; have hA1 : Arr w1 p 44 [.int .i64 s.size, .slice a0 n b0, v1, qv, .bool s.down, .int .i64 s.wr] := ((unhide hgrow).block p (unhide HF).arr.lt (fun e => (unhide HF).n0 e.symm)).trans (unhide HF).arr; have f1 := hA1.frozen 1; have c1' : w1.cell? ⟨p, 1, none⟩ = some (.slice a0 n b0) := (by simpa using hA1.cell 1); have HA1 := hide hA1; clear hA1)
  go_wp2
  go_end0
  have hf := unhide HF
  have ho := unhide hown'
  have hg := unhide hgrow
  have ha := unhide hat
  have A2 := (unhide HA1).set 1 (.slice a1 (n + d.n) b1)
  have b1' : Buts (fun k => (Value.slice a0 n b0).ownBlock = some k) w w1 := ⟨hg.os, hg.tape, hg.output, hg.size, fun k hk hs => hg.block k hk (fun e => hs e.symm)⟩
  have b2 : Buts (· = p) w1 (w1.setCell ⟨p, 1, none⟩ (.slice a1 (n + d.n) b1)) := Buts.of_but ((But.refl p w1).setCell 1 _)
  have hnp : (Value.slice a1 (n + d.n) b1).ownBlock ≠ some p := own_arr_ne ho (unhide HA1) (by decide)
  have hnew : ∀ k, (Value.slice a1 (n + d.n) b1).ownBlock = some k → (Value.slice a0 n b0).ownBlock = some k ∨ w.heap.size ≤ k := by
    intro k hk
    rcases ha with ha | ha
    · left; rw [← ha]; exact hk
    · right; rw [ha] at hk; simp at hk; have : w.drew.heap.size = w.heap.size := rfl; omega
  refine ⟨rfl, FSet p (.slice a1 (n + d.n) b1) v1 qv, ⟨_, _, _, ⟨A2, ?_, ?_, ?_, ?_, ⟨?_, ?_, ?_, ?_, hf.ok.mx, hf.ok.ql, hf.ok.qb⟩⟩, rfl⟩, ?_, ?_⟩
  · have := b2.own ho (fun g hg e => hnp (by rw [hg, e]))
    simp only
    rw [List.length_append, ← unhide HN, (unhide HD).len, U8_append]
    exact this
  · exact b2.own (b1'.own hf.o1 (fun g hg e => hf.ne g e hg)) (fun g hg e => hf.n1 (by rw [hg, e]))
  · exact b2.own (b1'.own hf.oq (fun g hg e => hf.q0 g hg e)) (fun g hg e => hf.nq (by rw [hg, e]))
  · intro k hk hk'
    rcases hnew k hk with h1 | h1
    · exact hf.ne k h1 hk'
    · have := (hf.o1.lt k hk').2; omega
  · exact hf.ok.b0.append (unhide HD).isB
  · exact hf.ok.b1
  · simp only; rw [List.length_append, ← unhide HN, (unhide HD).len]; exact hz
  · exact hf.ok.z1
  · exact (b1'.mono (fun k _ e => .inr (.inl e))).trans (b2.mono (fun k _ e => .inl e))
  · rintro k (hk | hk | hk | hk)
    · exact .inl (.inl hk)
    · exact (hnew k hk).imp (fun e => .inr (.inl e)) id
    · exact .inl (.inr (.inr (.inl hk)))
    · exact .inl (.inr (.inr (.inr hk)))
set_option maxHeartbeats 2000000 in
set_option maxRecDepth 100000 in
theorem join_1 (p : Nat) (S : Nat → Prop) (s : FlS) (d : Sl) (w : World) (h : Fl w p S s) (hd : d.Ok w) (hz : s.l1.length + d.n ≤ s.size) :
    Calls Try.prog 37 #[.pointer (some ⟨p, 0, none⟩), .int .i64 1, d.v] w fun e w' => e = .returned (.tuple #[]) ∧ ∃ S', FSt p S { s with l1 := s.l1 ++ d.l } w w' S' := by
  obtain ⟨i0, hi, hz0, hz1, hz2⟩ := info_parts Try.infoB
  obtain ⟨v0, v1, qv, hf, rfl⟩ := h
  obtain ⟨a0, b0, rfl⟩ := own_parts hf.o1
  obtain ⟨n, hn⟩ : ∃ n, n = s.l1.length := ⟨_, rfl⟩
  rw [← hn] at hf hz ⊢
  have c1 : w.drew.cell? ⟨p, 2, none⟩ = some (.slice a0 n b0) := by simpa using hf.arr.cell 2
  have HO : Hid (w.drew.ownsRow 0 5 1 (.slice a0 n b0) n (U8 s.l1)) := hide (by have := hf.o1; rw [← hn] at this; exact this)
  have HD : Hid (d.Ok w.drew) := hide (ok_drewN hd 1)
  have HF := hide hf
  have mx := hf.ok.mx
  have HN := hide hn
  clear hf hn
  simp only [Sl.v]
  go_enter Try.func37, Try.ntmps37
  go_wp2_with fail
  go_region_law (refine step_append_slat rfl (.tmp 13) (.tmp 14) 22 rfl 5 i0 (.int .u8 0) Try.underlying22 hi hz0 hz1 hz2 rfl (.slice a0 n b0) n (U8 s.l1) (by simp [Act.eval]) (unhide HO) d (by simp [Act.eval]) (unhide HD) (by omega) ?_; intro v' w1 hown' hgrow hat; obtain ⟨a1, b1, hv'⟩ := own_parts (unhide hown'); subst hv'; have hA1 : Arr w1 p 44 [.int .i64 s.size, v0, .slice a0 n b0, qv, .bool s.down, .int .i64 s.wr] := ((unhide hgrow).block p (unhide HF).arr.lt (fun e => (unhide HF).n1 e.symm)).trans (unhide HF).arr; have f1 := hA1.frozen 2; have c1' : w1.cell? ⟨p, 2, none⟩ = some (.slice a0 n b0) := (by simpa using hA1.cell 2); have HA1 := hide hA1; clear hA1)
  go_wp2
  go_end0
  have hf := unhide HF
  have ho := unhide hown'
  have hg := unhide hgrow
  have ha := unhide hat
  have A2 := (unhide HA1).set 2 (.slice a1 (n + d.n) b1)
  have b1' : Buts (fun k => (Value.slice a0 n b0).ownBlock = some k) w w1 := ⟨hg.os, hg.tape, hg.output, hg.size, fun k hk hs => hg.block k hk (fun e => hs e.symm)⟩
  have b2 : Buts (· = p) w1 (w1.setCell ⟨p, 2, none⟩ (.slice a1 (n + d.n) b1)) := Buts.of_but ((But.refl p w1).setCell 2 _)
  have hnp : (Value.slice a1 (n + d.n) b1).ownBlock ≠ some p := own_arr_ne ho (unhide HA1) (by decide)
  have hnew : ∀ k, (Value.slice a1 (n + d.n) b1).ownBlock = some k → (Value.slice a0 n b0).ownBlock = some k ∨ w.heap.size ≤ k := by
    intro k hk
    rcases ha with ha | ha
    · left; rw [← ha]; exact hk
    · right; rw [ha] at hk; simp at hk; have : w.drew.heap.size = w.heap.size := rfl; omega
  refine ⟨rfl, FSet p v0 (.slice a1 (n + d.n) b1) qv, ⟨_, _, _, ⟨A2, ?_, ?_, ?_, ?_, ⟨?_, ?_, ?_, ?_, hf.ok.mx, hf.ok.ql, hf.ok.qb⟩⟩, rfl⟩, ?_, ?_⟩
  · exact b2.own (b1'.own hf.o0 (fun g hg e => hf.ne g hg e)) (fun g hg e => hf.n0 (by rw [hg, e]))
  · have := b2.own ho (fun g hg e => hnp (by rw [hg, e]))
    simp only
    rw [List.length_append, ← unhide HN, (unhide HD).len, U8_append]
    exact this
  · exact b2.own (b1'.own hf.oq (fun g hg e => hf.q1 g hg e)) (fun g hg e => hf.nq (by rw [hg, e]))
  · intro k hk hk'
    rcases hnew k hk' with h1 | h1
    · exact hf.ne k hk h1
    · have := (hf.o0.lt k hk).2; omega
  · exact hf.ok.b0
  · exact hf.ok.b1.append (unhide HD).isB
  · exact hf.ok.z0
  · simp only; rw [List.length_append, ← unhide HN, (unhide HD).len]; exact hz
  · exact (b1'.mono (fun k _ e => .inr (.inr (.inl e)))).trans (b2.mono (fun k _ e => .inl e))
  · rintro k (hk | hk | hk | hk)
    · exact .inl (.inl hk)
    · exact .inl (.inr (.inl hk))
    · exact (hnew k hk).imp (fun e => .inr (.inr (.inl e))) id
    · exact .inl (.inr (.inr (.inr hk)))
end Go.Proofs.Ytcdmomdajakocaa
