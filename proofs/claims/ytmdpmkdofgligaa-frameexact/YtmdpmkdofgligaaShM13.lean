import Derived.Test.YtmdpmkdofgligaaPut13
import Derived.Test.YtmdpmkdofgligaaRoom13
import Derived.Test.YtmdpmkdofgligaaRSc
set_option linter.unusedSimpArgs false
set_option linter.unusedVariables false
namespace Go.Proofs.Ytmdpmkdofgligaa
open Go.RowKit Go.Shelf

theorem leB_leVj (m : List Int) (h : IsB m) : leB m.length (leV m) = m := by
  induction m with
  | nil => rfl
  | cons c r ih =>
    have hc := h c (by simp)
    have hr : IsB r := fun x hx => h x (by simp [hx])
    have ih := ih hr
    have e : leB (r.length + 1) (leV (c :: r)) = (leV (c :: r) % 256) :: leB r.length (leV (c :: r) / 256) := by
      unfold leB
      rw [List.range_succ_eq_map, List.map_cons, List.map_map]
      congr 1
      · simp
      · apply List.map_congr_left
        intro i _
        simp only [Function.comp, Nat.succ_eq_add_one]
        rw [show 8 * (i + 1) = 8 + 8 * i from by omega, Int.pow_add, ← Int.ediv_ediv_of_nonneg (by decide)]
        rfl
    rw [List.length_cons, e]
    have h1 : leV (c :: r) % 256 = c := by show (c + 256 * leV r) % 256 = c; omega
    have h2 : leV (c :: r) / 256 = leV r := by show (c + 256 * leV r) / 256 = leV r; omega
    rw [h1, h2, ih]
/-- the payload of the frame at the front -/
def pay (l : List Int) : List Int := (l.drop 6).take (lenL l)
/-- a whole frame is the frame of its kind and payload -/
theorem enc_of_mz {l : List Int} (hl : IsB l) (h : (mz l).1 ≠ 0) : l = encL (l.getD 1 0) (pay l) ++ l.drop (lenL l + 10) ∧ (pay l).length = lenL l ∧ lenL l ≤ 262144 ∧ mz l = (lenL l + 10, 0) ∧ lenL l + 10 ≤ l.length := by
  have h0 := h
  unfold mz at h
  by_cases c1 : l.length = 0
  · rw [if_pos c1] at h; exact absurd rfl h
  rw [if_neg c1] at h
  by_cases c2 : l.getD 0 0 ≠ 165
  · rw [if_pos c2] at h; exact absurd rfl h
  rw [if_neg c2] at h
  by_cases c3 : l.length < 6
  · rw [if_pos c3] at h; exact absurd rfl h
  rw [if_neg c3] at h
  by_cases c4 : 262144 < lenL l
  · rw [if_pos c4] at h; exact absurd rfl h
  rw [if_neg c4] at h
  by_cases c5 : l.length < lenL l + 10
  · rw [if_pos c5] at h; exact absurd rfl h
  rw [if_neg c5] at h
  by_cases c6 : leV ((l.drop (lenL l + 6)).take 4) ≠ crc ((l.drop 1).take (lenL l + 5))
  · rw [if_pos c6] at h; exact absurd rfl h
  have e6 : leV ((l.drop (lenL l + 6)).take 4) = crc ((l.drop 1).take (lenL l + 5)) := by omega
  have hm := mz_some h0
  refine ⟨?_, by unfold pay; rw [List.length_take, List.length_drop]; omega, by omega, hm.1, hm.2.1⟩
  have e2 : l.getD 0 0 = 165 := by omega
  clear h h0 hm c1 c2 c6
  unfold pay
  obtain ⟨n, hn⟩ : ∃ n, n = lenL l := ⟨_, rfl⟩
  have hb := (lenL_bd hl).1
  rw [← hn] at c4 c5 e6 hb ⊢
  obtain _ | ⟨a, _ | ⟨b, rest⟩⟩ := l
  · simp at c3
  · simp at c3
  have ea : a = 165 := by simpa using e2
  subst ea
  simp only [List.drop_succ_cons, List.length_cons, List.drop_zero, List.take_succ_cons, List.getD_cons_succ, List.getD_cons_zero] at *
  rw [encL_parts]
  have hr : IsB rest := fun x hx => hl x (by simp [hx])
  have hA : (leB 4 n).reverse = rest.take 4 := by
    have h4 : (rest.take 4).reverse.length = 4 := by rw [List.length_reverse, List.length_take]; omega
    have := leB_leVj (rest.take 4).reverse (hr.take 4).reverse
    rw [h4, ← hb] at this
    rw [this, List.reverse_reverse]
  have hP : ((rest.drop 4).take n).length = n := by rw [List.length_take, List.length_drop]; omega
  have hT : tolL b ((rest.drop 4).take n) = b :: rest.take (n + 4) := by
    unfold tolL
    rw [hP, hA]
    congr 1
    rw [Nat.add_comm n 4, List.take_add]
  have hC : leB 4 (crc (tolL b ((rest.drop 4).take n))) = (rest.drop (n + 4)).take 4 := by
    have h4 : ((rest.drop (n + 4)).take 4).length = 4 := by rw [List.length_take, List.length_drop]; omega
    have := leB_leVj _ ((hr.drop (n + 4)).take 4)
    rw [h4, e6] at this
    rw [hT]
    exact this
  rw [hC, hP, hA]
  congr 2
  have e3 : rest.drop (n + 8) = (rest.drop (n + 4)).drop 4 := by rw [List.drop_drop]
  have e4 : rest.drop (n + 4) = (rest.drop 4).drop n := by rw [List.drop_drop, Nat.add_comm]
  rw [e3, List.take_append_drop, e4, List.take_append_drop, List.take_append_drop]
/-- any bytes are frames and a rest that is none -/
theorem bytes_split : ∀ (n : Nat) (l : List Int), l.length ≤ n → IsB l → ∃ fs r, l = flat fs ++ r ∧ Okf fs ∧ (mz r).1 = 0
  | 0, l, hn, hB => ⟨[], l, by simp [flat], fun f hf => by simp at hf, by rw [List.eq_nil_of_length_eq_zero (Nat.le_zero.1 hn)]; rfl⟩
  | n + 1, l, hn, hB => by
    by_cases h : (mz l).1 = 0
    · exact ⟨[], l, by simp [flat], fun f hf => by simp at hf, h⟩
    · obtain ⟨h1, h2, h3, -, h5⟩ := enc_of_mz hB h
      obtain ⟨fs, r, e1, e2, e3⟩ := bytes_split n (l.drop (lenL l + 10)) (by rw [List.length_drop]; omega) (hB.drop _)
      refine ⟨(l.getD 1 0, pay l) :: fs, r, ?_, ?_, e3⟩
      · rw [flat, List.append_assoc, ← e1]; exact h1
      · intro f hf
        rcases List.mem_cons.1 hf with rfl | hf
        · exact ⟨hB.at 1, (hB.drop 6).take _, by rw [h2]; exact h3⟩
        · exact e2 f hf
/-! The shelf as a call goes on with it. -/
def NbS (W0 : World) (v v' : Value) : Prop := v'.ownBlock = v.ownBlock ∨ ∃ k, v'.ownBlock = some k ∧ W0.heap.size ≤ k
theorem NbS.ne {W0 : World} {v v' : Value} (h : NbS W0 v v') {k : Nat} (hk : k < W0.heap.size) (hv : some k ≠ v.ownBlock) : some k ≠ v'.ownBlock := by
  rcases h with e | ⟨j, e, hj⟩
  · rw [e]; exact hv
  · rw [e]; intro e2; simp only [Option.some.injEq] at e2; omega
theorem Shf.clrNew {w : World} {gS N : Nat} {P Q : Nat → Sl} {lv wv : Value} {w0 : World} (h : Shf w gS N P Q lv wv w0) (g : Nat) (hg : w0.heap.size ≤ g) : Clr N P Q g :=
  ⟨fun i hi hp x hx e => by simp only [Option.some.injEq] at e; have := (h.p i hi).ok.blk hp x hx; omega, fun i hi hp x hx e => by simp only [Option.some.injEq] at e; have := (h.q i hi).blk hp x hx; omega⟩
theorem Shf.but {w : World} {gS N : Nat} {P Q : Nat → Sl} {lv wv : Value} {wr w' : World} {g : Nat} (h : Shf w gS N P Q lv wv wr) (hb : But g wr w') (hc : Clr N P Q g)
    (hl : lv.ownBlock ≠ some g) (hw : wv.ownBlock ≠ some g) (hs : gS ≠ g) (hge : w.heap.size ≤ g) : Shf w gS N P Q lv wv w' := by
  have ok : ∀ s : Sl, s.Ok wr → s.Off (some g) → s.Ok w' := fun s hok ho => ⟨hok.len, hok.le, hok.mx, hok.nn, hok.isB, hb.lies hok.lies (fun hp x hx e => ho hp x hx (by rw [e]))⟩
  have own : ∀ {v : Value} {n : Nat} {xs : List Value}, wr.ownsRow w.heap.size 29 1 v n xs → v.ownBlock ≠ some g → w'.ownsRow w.heap.size 29 1 v n xs := fun {v n xs} ho hv =>
    own_blk ho (fun k hk => hb.block k (ho.lt k hk).2 (fun e => hv (by rw [hk, e])))
  refine ⟨hb.arr h.s hs, h.ge, own h.lrow hl, own h.wrow hw, h.apt, fun i hi => ⟨ok _ (h.p i hi).ok (hc.1 i hi), (h.p i hi).full, fun hp => ?_⟩, fun i hi => ok _ (h.q i hi) (hc.2 i hi), h.eq, h.sz, h.pp, h.pq, h.ql, h.qw, h.qs, h.bel.trans (hb.below h.bel.size hge)⟩
  obtain ⟨g', E, e, hg', hA⟩ := (h.p i hi).row hp
  exact ⟨g', E, e, hg', hb.arr hA (fun e2 => hc.1 i hi hp _ e (by rw [e2]))⟩
/-- what has cells keeps them -/
structure KC (W W' : World) : Prop where
  os : W'.os = W.os
  tape : W'.tape = W.tape
  output : W'.output = W.output
  size : W.heap.size ≤ W'.heap.size
  cells : ∀ (b : Nat) (cs : Array Value) (t : TypeId) (fr : Nat × Nat), W.heap[b]? = some (.cells cs t fr) → W'.heap[b]? = some (.cells cs t fr)
theorem KC.of_grown {W W' : World} {row : Option Nat} (hg : W.grownBy W' row) (hr : ∀ r, row = some r → ∃ o : Obj, W.heap[r]? = some o ∧ o.isCells = false) : KC W W' :=
  ⟨hg.os, hg.tape, hg.output, hg.size, fun b cs t fr h => cells_nocell h hg hr⟩
theorem KC.ok {W W' : World} {s : Sl} (h : KC W W') (hs : s.Ok W) : s.Ok W' := by
  refine ⟨hs.len, hs.le, hs.mx, hs.nn, hs.isB, fun hp => ?_⟩
  obtain ⟨b, off, ha, hlt, hc⟩ := hs.lies hp
  have h1 := hc 0 hp
  unfold World.cell? at h1
  simp only at h1
  cases ho : W.heap[b]? with
  | none => rw [ho] at h1; simp at h1
  | some o =>
    cases o with
    | cells cs t fr =>
      refine ⟨b, off, ha, Nat.lt_of_lt_of_le hlt h.size, fun i hi => ?_⟩
      rw [World.cell?_of_block (w := W) (a := ⟨b, off + i, none⟩) ((h.cells b cs t fr ho).trans ho.symm)]
      exact hc i hi
    | _ => rw [ho] at h1; simp at h1
theorem KC.own {W W' : World} (h : KC W W') {B e sz n : Nat} {v : Value} {xs : List Value} (ho : W.ownsRow B e sz v n xs) : W'.ownsRow B e sz v n xs := by
  refine ⟨ho.1, ?_⟩
  rcases ho.2 with h2 | ⟨b, cap, cur, r1, r2, r3, r4⟩
  · exact .inl h2
  · exact .inr ⟨b, cap, cur, r1, r2, h.cells _ _ _ _ r3, r4⟩
theorem KC.arr {W W' : World} (h : KC W W') {g : Nat} {ty : TypeId} {l : List Value} (ha : Arr W g ty l) : Arr W' g ty l := h.cells _ _ _ _ ha
theorem Shf.kc {w : World} {gS N : Nat} {P Q : Nat → Sl} {lv wv : Value} {W W' : World} (h : Shf w gS N P Q lv wv W) (hk : KC W W') (hb : Below w.heap.size w W') : Shf w gS N P Q lv wv W' :=
  ⟨hk.arr h.s, h.ge, hk.own h.lrow, hk.own h.wrow, h.apt, fun i hi => ⟨hk.ok (h.p i hi).ok, (h.p i hi).full, fun hp => let ⟨g, E, a, b, c⟩ := (h.p i hi).row hp; ⟨g, E, a, b, hk.arr c⟩⟩, fun i hi => hk.ok (h.q i hi), h.eq, h.sz, h.pp, h.pq, h.ql, h.qw, h.qs, hb⟩
/-- the shelf since W0: what is in X holds nothing of it, what was there but for Z is as it was -/
structure ShM (w : World) (gS : Nat) (lv wv : Value) (W0 : World) (X Z : Nat → Prop) (M : Nat) (W : World) : Prop where
  ex : ∃ P Q lv' wv', Shf w gS M P Q lv' wv' W ∧ (∀ g, X g → g < W.heap.size ∧ Clr M P Q g) ∧ NbS W0 lv lv' ∧ NbS W0 wv wv'
  size : W0.heap.size ≤ W.heap.size
  blk : ∀ k, k < W0.heap.size → some k ≠ lv.ownBlock → some k ≠ wv.ownBlock → k ≠ gS → ¬ Z k → W.heap[k]? = W0.heap[k]?
theorem ShM.start {w : World} {gS N : Nat} {P Q : Nat → Sl} {lv wv : Value} {W0 : World} {X : Nat → Prop} (Z : Nat → Prop) (h : Shf w gS N P Q lv wv W0) (hX : ∀ g, X g → g < W0.heap.size ∧ Clr N P Q g) : ShM w gS lv wv W0 X Z N W0 :=
  ⟨⟨P, Q, lv, wv, h, hX, .inl rfl, .inl rfl⟩, Nat.le_refl _, fun _ _ _ _ _ _ => rfl⟩
theorem ShM.later {w : World} {gS : Nat} {lv wv : Value} {W0 W W' : World} {X Z : Nat → Prop} {M : Nat} (h : ShM w gS lv wv W0 X Z M W) (hb : Below W.heap.size W W') : ShM w gS lv wv W0 X Z M W' := by
  obtain ⟨P, Q, lv', wv', hS, hX, h1, h2⟩ := h.ex
  exact ⟨⟨P, Q, lv', wv', hS.later hb, fun g hg => ⟨Nat.lt_of_lt_of_le (hX g hg).1 hb.size, (hX g hg).2⟩, h1, h2⟩, Nat.le_trans h.size hb.size, fun k hk a b c d => (hb.block k (Nat.lt_of_lt_of_le hk h.size)).trans (h.blk k hk a b c d)⟩
theorem ShM.fresh {w : World} {gS : Nat} {lv wv : Value} {W0 W W' : World} {X Z : Nat → Prop} {M : Nat} (h : ShM w gS lv wv W0 X Z M W) (hb : Below W.heap.size W W') {Y : Nat → Prop} (hY : ∀ g, Y g → X g ∨ (W.heap.size ≤ g ∧ g < W'.heap.size)) : ShM w gS lv wv W0 Y Z M W' := by
  obtain ⟨P, Q, lv', wv', hS, hX, h1, h2⟩ := h.ex
  refine ⟨⟨P, Q, lv', wv', hS.later hb, fun g hg => ?_, h1, h2⟩, Nat.le_trans h.size hb.size, fun k hk a b c d => (hb.block k (Nat.lt_of_lt_of_le hk h.size)).trans (h.blk k hk a b c d)⟩
  rcases hY g hg with h3 | h3
  · exact ⟨Nat.lt_of_lt_of_le (hX g h3).1 hb.size, (hX g h3).2⟩
  · exact ⟨h3.2, hS.clrNew g h3.1⟩
theorem ShM.weak {w : World} {gS : Nat} {lv wv : Value} {W0 W : World} {X Y Z : Nat → Prop} {M : Nat} (h : ShM w gS lv wv W0 X Z M W) (hY : ∀ g, Y g → X g) : ShM w gS lv wv W0 Y Z M W := by
  obtain ⟨P, Q, lv', wv', hS, hX, h1, h2⟩ := h.ex
  exact ⟨⟨P, Q, lv', wv', hS, fun g hg => hX g (hY g hg), h1, h2⟩, h.size, h.blk⟩
theorem ShM.bel {w : World} {gS : Nat} {lv wv : Value} {W0 W : World} {X Z : Nat → Prop} {M : Nat} (h : ShM w gS lv wv W0 X Z M W) : Below w.heap.size w W := by
  obtain ⟨P, Q, lv', wv', hS, -⟩ := h.ex
  exact hS.bel
/-- one block, which holds nothing of the shelf, is written -/
theorem ShM.but {w : World} {gS : Nat} {lv wv : Value} {W0 W W' : World} {X Z : Nat → Prop} {M g : Nat} (h : ShM w gS lv wv W0 X Z M W) (hb : But g W W') (hX : X g) (hZ : g < W0.heap.size → Z g) (hge : w.heap.size ≤ g) {cs : Array Value} {t : TypeId} {fr : Nat × Nat} (hc : W.heap[g]? = some (.cells cs t fr)) (ht : t ≠ 29 ∧ t ≠ 26) : ShM w gS lv wv W0 X Z M W' := by
  obtain ⟨P, Q, lv', wv', hS, hXX, h1, h2⟩ := h.ex
  have hs : gS ≠ g := fun e => by
    have h3 := hS.s
    unfold Arr at h3
    rw [e, hc] at h3
    simp at h3
    exact ht.2 h3.2.1
  refine ⟨⟨P, Q, lv', wv', hS.but hb (hXX g hX).2 (own_typS hS.lrow hc ht.1) (own_typS hS.wrow hc ht.1) hs hge, fun k hk => ⟨Nat.lt_of_lt_of_le (hXX k hk).1 hb.size, (hXX k hk).2⟩, h1, h2⟩, Nat.le_trans h.size hb.size, fun k hk a b c d => ?_⟩
  by_cases e : k = g
  · subst e; exact absurd (hZ hk) d
  · exact (hb.block k (Nat.lt_of_lt_of_le hk h.size) e).trans (h.blk k hk a b c d)
theorem ShM.own {w : World} {gS : Nat} {lv wv : Value} {W0 W W' : World} {X Z : Nat → Prop} {M B : Nat} {row : Option Nat} (h : ShM w gS lv wv W0 X Z M W) (hB : W0.heap.size ≤ B) (hw : w.heap.size ≤ B) (hg : W.grownBy W' row) (hr : ∀ r, row = some r → B ≤ r ∧ ∃ o : Obj, W.heap[r]? = some o ∧ o.isCells = false) : ShM w gS lv wv W0 X Z M W' := by
  obtain ⟨P, Q, lv', wv', hS, hX, h1, h2⟩ := h.ex
  have hk := KC.of_grown hg (fun r e => (hr r e).2)
  refine ⟨⟨P, Q, lv', wv', hS.kc hk (hS.bel.grown hg hS.bel.size (fun k e => Nat.le_trans hw (hr k e).1)), fun g hg2 => ⟨Nat.lt_of_lt_of_le (hX g hg2).1 hg.size, (hX g hg2).2⟩, h1, h2⟩, Nat.le_trans h.size hg.size, fun k hk a b c d => ?_⟩
  exact (hg.block k (Nat.lt_of_lt_of_le hk h.size) (fun e => by have := (hr k e.symm).1; omega)).trans (h.blk k hk a b c d)
/-- from W0 on, and from W1 on -/
theorem ShM.comp {w : World} {gS : Nat} {lv wv lv1 wv1 : Value} {W0 W1 W : World} {X Z Z' : Nat → Prop} {M : Nat} (h : ShM w gS lv1 wv1 W1 X Z' M W) (hz : W0.heap.size ≤ W1.heap.size) (hb : ∀ k, k < W0.heap.size → some k ≠ lv.ownBlock → some k ≠ wv.ownBlock → k ≠ gS → ¬ Z k → W1.heap[k]? = W0.heap[k]?) (h1 : NbS W0 lv lv1) (h2 : NbS W0 wv wv1) (hZ : ∀ k, k < W0.heap.size → Z' k → Z k) : ShM w gS lv wv W0 X Z M W := by
  obtain ⟨P, Q, lv', wv', hS, hX, n1, n2⟩ := h.ex
  have nb : ∀ {v v1 v' : Value}, NbS W0 v v1 → NbS W1 v1 v' → NbS W0 v v' := fun {v v1 v'} a b => by
    rcases b with e | ⟨k, e, hk⟩
    · rcases a with e2 | ⟨k, e2, hk⟩
      · exact .inl (e.trans e2)
      · exact .inr ⟨k, e.trans e2, hk⟩
    · exact .inr ⟨k, e, by omega⟩
  refine ⟨⟨P, Q, lv', wv', hS, hX, nb h1 n1, nb h2 n2⟩, Nat.le_trans hz h.size, fun k hk a b c d => ?_⟩
  exact (h.blk k (by omega) (h1.ne hk a) (h2.ne hk b) c (fun e => d (hZ k hk e))).trans (hb k hk a b c d)
theorem own_cells {w : World} {base e sz n g : Nat} {v : Value} {xs : List Value} (h : w.ownsRow base e sz v n xs) (hg : v.ownBlock = some g) : ∃ cs, w.heap[g]? = some (.cells cs e (0, 0)) := by
  rcases h.2 with ⟨rfl, _⟩ | ⟨g', cap, cur, rfl, _, hgb, _⟩
  · simp [Value.ownBlock] at hg
  · simp only [Value.ownBlock, Option.some.injEq] at hg
    subst hg
    exact ⟨cur, hgb⟩
theorem ShM.put {w : World} {gS : Nat} {lv wv : Value} {W0 W : World} {X Z : Nat → Prop} {M : Nat} (h : ShM w gS lv wv W0 X Z M W) (p : Sl) (hp : Ans w.heap.size p W) (hn : p.n ≤ 100000) (hpX : 0 < p.l.length → ∀ x, p.a = some x → X x.block) (hM : M ≤ 4000000000000) :
    Calls Try.prog 16 #[.pointer (some ⟨gS, 0, none⟩), p.v] W fun e W' => e = .returned (.tuple #[]) ∧ ShM w gS lv wv W0 (fun g => X g ∧ p.Off (some g)) Z (M + 1) W' ∧
      (∀ (b : Nat) (cs : Array Value) (t : TypeId) (fr : Nat × Nat), W.heap[b]? = some (.cells cs t fr) → t ≠ 29 → t ≠ 26 → W'.heap[b]? = some (.cells cs t fr)) ∧ KeepsOthers W W' ∧ ∀ k, k < W0.heap.size → some k ≠ lv.ownBlock → some k ≠ wv.ownBlock → k ≠ gS → W'.heap[k]? = W.heap[k]? := by
  obtain ⟨P, Q, lv', wv', hS, hX, n1, n2⟩ := h.ex
  refine (put_any hS p hp hn (fun hz x hx => (hX _ (hpX hz x hx)).2) hM).mono ?_
  rintro e W' ⟨rfl, q, lv2, wv2, hS2, hC2, hB2, m1, m2⟩
  have nb : ∀ {v v1 v2 : Value}, NbS W0 v v1 → (v2.ownBlock = v1.ownBlock ∨ ∃ k, v2.ownBlock = some k ∧ W.heap.size ≤ k) → NbS W0 v v2 := fun {v v1 v2} a b => by
    rcases b with e | ⟨k, e, hk⟩
    · rcases a with e2 | ⟨k, e2, hk⟩
      · exact .inl (e.trans e2)
      · exact .inr ⟨k, e.trans e2, hk⟩
    · exact .inr ⟨k, e, Nat.le_trans h.size hk⟩
  refine ⟨rfl, ⟨⟨_, _, lv2, wv2, hS2, fun g hg => ⟨Nat.lt_of_lt_of_le (hX g hg.1).1 hB2.size, hC2 g (hX g hg.1).1 (hX g hg.1).2 hg.2⟩, nb n1 m1, nb n2 m2⟩, Nat.le_trans h.size hB2.size, fun k hk a b c d => ?_⟩, fun b cs t fr hb t1 t2 => ?_, ⟨hB2.size, fun k o hk ho => ?_⟩, fun k hk a b c => ?_⟩
  · exact (hB2.block k (Nat.lt_of_lt_of_le hk h.size) (n1.ne hk a) (n2.ne hk b) c).trans (h.blk k hk a b c d)
  · refine (hB2.block b (Array.getElem?_eq_some_iff.1 hb).1 (fun e => own_typS hS.lrow hb t1 e.symm) (fun e => own_typS hS.wrow hb t1 e.symm) (fun e => ?_)).trans hb
    have h3 := hS.s
    unfold Arr at h3
    rw [← e, hb] at h3
    simp at h3
    exact t2 h3.2.1
  · refine (hB2.block k (Array.getElem?_eq_some_iff.1 hk).1 (fun e => ?_) (fun e => ?_) (fun e => ?_)).trans hk
    · obtain ⟨cs, hc⟩ := own_cells hS.lrow e.symm; rw [hk] at hc; cases hc; cases ho
    · obtain ⟨cs, hc⟩ := own_cells hS.wrow e.symm; rw [hk] at hc; cases hc; cases ho
    · have h3 := hS.s
      unfold Arr at h3
      rw [← e, hk] at h3
      cases h3
      cases ho
  · exact hB2.block k (Nat.lt_of_lt_of_le hk h.size) (n1.ne hk a) (n2.ne hk b) c
end Go.Proofs.Ytmdpmkdofgligaa
