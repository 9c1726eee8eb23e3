import Derived.Test.YtmdpmkdofgligaaScs13
set_option linter.unusedSimpArgs false
set_option linter.unusedVariables false
namespace Go.Proofs.Ytmdpmkdofgligaa
open Go.RowKit

/-- what Decode tells of any bytes at any place: kind, payload, the next place, the tail -/
def decF (l : List Int) (z : Int) : Int × List Int × Int × Int :=
  if z < 0 ∨ (l.length : Int) < z then (0, [], z, 1) else if (mz (l.drop z.toNat)).1 = 0 then (0, [], z, (mz (l.drop z.toNat)).2)
  else (l.getD (z.toNat + 1) 0, (l.drop (z.toNat + 6)).take (lenL (l.drop z.toNat)), ((z.toNat + lenL (l.drop z.toNat) + 10 : Nat) : Int), 0)
theorem decF_len (l : List Int) (z : Int) : (decF l z).2.1.length ≤ l.length := by
  unfold decF
  split
  · simp
  split
  · simp
  · simp only [List.length_take, List.length_drop]; omega
theorem lies_nil (B : Nat) (k : Int) (W : World) : Fx.Lies B ⟨0, k, none, []⟩ W := ⟨⟨0, World.ownsRow_nil _ _ _ _⟩, (fun x hx => by cases hx), (by simp), (by simp)⟩
theorem dec_any (d : Sl) (z : Int) (w : World) (hd : d.Ok w) (hn : d.n ≤ 1099511627776) :
    Calls Try.prog 10 #[d.v, .int .i64 z] w fun e w' => ∃ a, e = .returned (.tuple #[.agg #[.int .u8 (decF d.l z).1, .slice a (decF d.l z).2.1.length (decF d.l z).2.1.length], .int .i64 (decF d.l z).2.2.1, .int .i64 (decF d.l z).2.2.2]) ∧
      Fx.Lies w.heap.size ⟨0, (decF d.l z).1, a, (decF d.l z).2.1⟩ w' ∧ Below w.heap.size w w' := by
  have hl : d.l.length = d.n := hd.len
  unfold decF
  by_cases h1 : z < 0 ∨ (d.l.length : Int) < z
  · rw [if_pos h1]
    rw [hl] at h1
    refine (decode_out d.a d.n d.c z w (by omega) h1).mono ?_
    rintro e w' ⟨rfl, hb⟩
    exact ⟨none, rfl, lies_nil _ _ _, hb⟩
  · rw [if_neg h1]
    rw [hl] at h1
    obtain ⟨i, rfl⟩ : ∃ i : Nat, z = i := ⟨z.toNat, by omega⟩
    rw [Int.toNat_natCast]
    by_cases h2 : (mz (d.l.drop i)).1 = 0
    · rw [if_pos h2]
      refine (decode_none d i w hd (by omega) h2).mono ?_
      rintro e w' ⟨rfl, hb⟩
      exact ⟨none, rfl, lies_nil _ _ _, hb⟩
    · rw [if_neg h2]
      obtain ⟨m1, m2, m3⟩ := mz_some h2
      rw [List.length_drop] at m2
      have hlt : ((d.l.drop (i + 6)).take (lenL (d.l.drop i))).length = lenL (d.l.drop i) := by rw [List.length_take, List.length_drop]; omega
      refine (decode_some d i (lenL (d.l.drop i)) w hd m1 (by omega) m3).mono ?_
      rintro e w' ⟨a, c, rfl, ho, hb⟩
      refine ⟨a, ?_, ⟨⟨c, ?_⟩, (hd.isB.drop _).take _, by simp only; omega, by simp⟩, hb⟩
      · simp only [hlt]; rfl
      · simp only [hlt]; exact ho
theorem rdec_any (d : Sl) (z : Int) (w : World) (hd : d.Ok w) :
    Calls Try.prog 11 #[d.v, .int .i64 z] w fun e w' => ∃ a c, e = .returned (.tuple #[.agg #[.int .u8 (decF d.l z).1, .slice a (decF d.l z).2.1.length c], .int .i64 (decF d.l z).2.2.1, .int .i64 (decF d.l z).2.2.2]) ∧
      Sl.Ok w' ⟨a, (decF d.l z).2.1.length, c, (decF d.l z).2.1⟩ ∧ (∀ x, a = some x → w.heap.size ≤ x.block) ∧ Below w.heap.size w w' := by
  have hl : d.l.length = d.n := hd.len
  unfold decF
  by_cases h1 : z < 0 ∨ (d.l.length : Int) < z
  · rw [if_pos h1]
    rw [hl] at h1
    refine (rdecode_out d.a d.n d.c z w h1).mono ?_
    rintro e w' ⟨rfl, hb⟩
    exact ⟨none, 0, rfl, (lies_ans (lies_nil 0 0 w') (Nat.le_refl _)).ok, (fun x hx => by cases hx), hb⟩
  · rw [if_neg h1]
    rw [hl] at h1
    obtain ⟨i, rfl⟩ : ∃ i : Nat, z = i := ⟨z.toNat, by omega⟩
    rw [Int.toNat_natCast]
    by_cases h2 : (mz (d.l.drop i)).1 = 0
    · rw [if_pos h2]
      refine (rdecode_none d i w hd (by omega) h2).mono ?_
      rintro e w' ⟨rfl, hb⟩
      exact ⟨none, 0, rfl, (lies_ans (lies_nil 0 0 w') (Nat.le_refl _)).ok, (fun x hx => by cases hx), hb⟩
    · rw [if_neg h2]
      obtain ⟨m1, m2, m3⟩ := mz_some h2
      rw [List.length_drop] at m2
      have hlt : ((d.l.drop (i + 6)).take (lenL (d.l.drop i))).length = lenL (d.l.drop i) := by rw [List.length_take, List.length_drop]; omega
      refine (rdecode_some d i (lenL (d.l.drop i)) w hd m1 (by omega)).mono ?_
      rintro e w' ⟨v, rfl, ho, hb⟩
      have hR : Rw w.heap.size v ((d.l.drop (i + 6)).take (lenL (d.l.drop i))) w' := ⟨by rw [hlt]; exact ho, (hd.isB.drop _).take _⟩
      obtain ⟨a, c, rfl, hok, hnew⟩ := hR.form
      exact ⟨a, c, rfl, hok, hnew, hb⟩
/-! The state of plays. -/
structure PlS (w : World) (gS : Nat) (lv wv : Value) (wq : World) (X : Nat → Prop) (b3 : Nat) (o5 : List Value) (gf cf : Nat) (FL : List Int) (go co : Nat) (OL : List Int) (M : Nat) (W : World) : Prop where
  sh : ShM w gS lv wv wq X (fun _ => False) M W
  o : Arr W b3 31 o5
  f : Rw wq.heap.size (.slice (some ⟨gf, 0, none⟩) FL.length cf) FL W
  v : Rw wq.heap.size (.slice (some ⟨go, 0, none⟩) OL.length co) OL W
  ne : gf ≠ go
section
variable {w : World} {gS : Nat} {lv wv : Value} {wq : World} {X Y : Nat → Prop} {b3 : Nat} {o5 : List Value} {gf cf : Nat} {FL : List Int} {go co : Nat} {OL : List Int} {M : Nat} {W W' : World}
theorem PlS.later (h : PlS w gS lv wv wq X b3 o5 gf cf FL go co OL M W) (hb : Below W.heap.size W W') : PlS w gS lv wv wq X b3 o5 gf cf FL go co OL M W' := ⟨h.sh.later hb, h.o.later hb, h.f.later hb, h.v.later hb, h.ne⟩
theorem PlS.fresh (h : PlS w gS lv wv wq X b3 o5 gf cf FL go co OL M W) (hb : Below W.heap.size W W') (hY : ∀ g, Y g → X g ∨ (W.heap.size ≤ g ∧ g < W'.heap.size)) : PlS w gS lv wv wq Y b3 o5 gf cf FL go co OL M W' := ⟨h.sh.fresh hb hY, h.o.later hb, h.f.later hb, h.v.later hb, h.ne⟩
theorem PlS.weak (h : PlS w gS lv wv wq X b3 o5 gf cf FL go co OL M W) (hY : ∀ g, Y g → X g) : PlS w gS lv wv wq Y b3 o5 gf cf FL go co OL M W := ⟨h.sh.weak hY, h.o, h.f, h.v, h.ne⟩
theorem PlS.put (h : PlS w gS lv wv wq X b3 o5 gf cf FL go co OL M W) (p : Sl) (hp : Ans w.heap.size p W) (hn : p.n ≤ 100000) (hpX : 0 < p.l.length → ∀ x, p.a = some x → X x.block) (hM : M ≤ 4000000000000) :
    Calls Try.prog 16 #[.pointer (some ⟨gS, 0, none⟩), p.v] W fun e W' => e = .returned (.tuple #[]) ∧ PlS w gS lv wv wq (fun g => X g ∧ p.Off (some g)) b3 o5 gf cf FL go co OL (M + 1) W' ∧ KT W W' := by
  refine (h.sh.put p hp hn hpX hM).mono ?_
  rintro e W' ⟨rfl, hsh, hcl, hko, -⟩
  have kt : KT W W' := ⟨hko.size, fun b cs t fr q t1 t2 _ => hcl b cs t fr q t1 t2⟩
  exact ⟨rfl, ⟨hsh, kt.arr h.o (by decide) (by decide) (by decide), kt.rw h.f, kt.rw h.v, h.ne⟩, kt⟩
theorem rw_but {B g : Nat} {v : Value} {l : List Int} (h : Rw B v l W) (hb : But g W W') (hne : v.ownBlock ≠ some g) : Rw B v l W' := ⟨own_blk h.1 (fun k hk => hb.block k (h.1.lt k hk).2 (fun e => hne (by rw [hk, e]))), h.2⟩
theorem rw_cells {B g n c : Nat} {l : List Int} (h : Rw B (.slice (some ⟨g, 0, none⟩) n c) l W) : ∃ cs, W.heap[g]? = some (.cells cs 5 (0, 0)) ∧ B ≤ g := by
  obtain ⟨cs, hc⟩ := own_cells h.1 (g := g) rfl
  exact ⟨cs, hc, (h.1.lt g rfl).1⟩
/-- a block of the call's own that holds nothing of the shelf is written -/
theorem PlS.but (h : PlS w gS lv wv wq X b3 o5 gf cf FL go co OL M W) {g : Nat} (hb : But g W W') (hX : X g) (hg : wq.heap.size ≤ g) (hw : w.heap.size ≤ wq.heap.size) {cs : Array Value} {t : TypeId} {fr : Nat × Nat} (hc : W.heap[g]? = some (.cells cs t fr)) (ht : t ≠ 29 ∧ t ≠ 26) (ho : g ≠ b3)
    {FL' OL' : List Int} (hf : Rw wq.heap.size (.slice (some ⟨gf, 0, none⟩) FL'.length cf) FL' W') (hv : Rw wq.heap.size (.slice (some ⟨go, 0, none⟩) OL'.length co) OL' W') : PlS w gS lv wv wq X b3 o5 gf cf FL' go co OL' M W' :=
  ⟨h.sh.but hb hX (fun e => by omega) (by omega) hc ht, hb.arr h.o (fun e => ho e.symm), hf, hv, h.ne⟩
theorem PlS.turnF (h : PlS w gS lv wv wq X b3 o5 gf cf FL go co OL M W) (hb : But gf W W') (hX : X gf) (hw : w.heap.size ≤ wq.heap.size) {FL' : List Int} (hf : Rw wq.heap.size (.slice (some ⟨gf, 0, none⟩) FL'.length cf) FL' W') : PlS w gS lv wv wq X b3 o5 gf cf FL' go co OL M W' := by
  obtain ⟨cs, hc, hB⟩ := rw_cells h.f
  refine h.but hb hX hB hw hc (by decide) (fun e => ?_) hf (rw_but h.v hb (fun e => h.ne (by simpa [Value.ownBlock] using e.symm)))
  have h1 := h.o
  unfold Arr at h1
  rw [← e, hc] at h1
  simp at h1
theorem PlS.turnO (h : PlS w gS lv wv wq X b3 o5 gf cf FL go co OL M W) (hb : But go W W') (hX : X go) (hw : w.heap.size ≤ wq.heap.size) {OL' : List Int} (hv : Rw wq.heap.size (.slice (some ⟨go, 0, none⟩) OL'.length co) OL' W') : PlS w gS lv wv wq X b3 o5 gf cf FL go co OL' M W' := by
  obtain ⟨cs, hc, hB⟩ := rw_cells h.v
  refine h.but hb hX hB hw hc (by decide) (fun e => ?_) (rw_but h.f hb (fun e => h.ne (by simpa [Value.ownBlock] using e))) hv
  have h1 := h.o
  unfold Arr at h1
  rw [← e, hc] at h1
  simp at h1
/-- the first bytes of a row -/
theorem rw_cut {B g N c : Nat} {l : List Int} (h : Rw B (.slice (some ⟨g, 0, none⟩) N c) l W) (hN : N = l.length) (k : Nat) (hk : k ≤ l.length) : Sl.Ok W ⟨some ⟨g, 0, none⟩, k, c, l.take k⟩ := by
  obtain ⟨a, c', e, hok, -⟩ := h.form
  simp only [Value.slice.injEq] at e
  obtain ⟨rfl, -, rfl⟩ := e
  have h1 := hok.le
  have h2 := hok.mx
  simp only at h1 h2
  refine ⟨by simp; omega, by simp only; omega, h2, (fun e => by cases e), hok.isB.take k, fun hp => ?_⟩
  simp only [List.length_take] at hp
  obtain ⟨b, off, ha, hlt, hc⟩ := hok.lies (by show 0 < l.length; omega)
  refine ⟨b, off, ha, hlt, fun i hi => ?_⟩
  simp only [List.length_take] at hi
  have h3 := hc i (by show i < l.length; omega)
  rw [h3]
  simp only [List.getD, List.getElem?_take]
  rw [if_pos (by omega)]
end
end Go.Proofs.Ytmdpmkdofgligaa
