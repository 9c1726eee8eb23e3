import Derived.Test.YtejagcngbgnogaaGreatQShr
import Derived.Test.YtejagcngbgnogaaGreatQGbhZ
import Derived.Test.YtejagcngbgnogaaGreatQGblZ
import Derived.Deep.MidRow
import Derived.Deep.Cut
set_option maxHeartbeats 4000000
set_option maxRecDepth 100000
set_option linter.unusedSimpArgs false
set_option linter.unusedVariables false
namespace Go.Proofs.YtejagcngbgnogaaGreat
open Go.RowKit
def Sl.Off (s : Sl) (b : Option Nat) : Prop := 0 < s.l.length → ∀ x, s.a = some x → some x.block ≠ b
theorem Sl.Off.of {s : Sl} {v : Value} {base B e sz n : Nat} {w : World} {xs : List Value} (ho : w.ownsRow base e sz v n xs) (hs : ∀ y, s.a = some y → w.heap.size ≤ y.block) : s.Off v.ownBlock := fun _ y hy hb => by
 have := (ho.lt _ hb.symm).2; have := hs y hy; omega
structure RSads (w : World) (base : Nat) (v1 v2 : Value) (ss : List Sl) (E : List (List Int × List Int)) : Prop where
 l1 : w.ownsRow base 33 1 v1 E.length (ss.map (·.v))
 l2 : w.ownsRow base 30 64 v2 E.length (E.flatMap fun p => U8 p.2)
 each : ∀ (i : Nat) (p : List Int × List Int), E[i]? = some p → ∃ s, ss[i]? = some s ∧ s.Ok w ∧ s.l = p.1 ∧ p.2.length = 64 ∧ IsB p.2
 off : ∀ s ∈ ss, s.Ok w ∧ s.Off v1.ownBlock ∧ s.Off v2.ownBlock ∧ ∀ y, s.a = some y → base ≤ y.block
theorem RSads.nil (w : World) (base : Nat) : RSads w base (.slice none 0 0) (.slice none 0 0) [] [] := ⟨⟨rfl, .inl ⟨rfl, rfl⟩⟩, ⟨rfl, .inl ⟨rfl, rfl⟩⟩, fun i p h => by simp at h, fun s h => by simp at h⟩
theorem RSads.later {w w' : World} {base : Nat} {v1 v2 : Value} {ss : List Sl} {E : List (List Int × List Int)} (h : RSads w base v1 v2 ss E) (hb : Below w.heap.size w w') : RSads w' base v1 v2 ss E :=
 ⟨eK h.l1 hb, eK h.l2 hb, fun i p hp => by obtain ⟨v, h1, h2, h3⟩ := h.each i p hp; exact ⟨v, h1, h2.later hb, h3⟩, fun s hs => ⟨(h.off s hs).1.later hb, (h.off s hs).2⟩⟩
theorem RSads.mono {w : World} {base base' : Nat} {v1 v2 : Value} {ss : List Sl} {E : List (List Int × List Int)} (h : RSads w base v1 v2 ss E) (hb : base' ≤ base) : RSads w base' v1 v2 ss E :=
 ⟨gI h.l1 hb, gI h.l2 hb, h.each, fun s hs => ⟨(h.off s hs).1, (h.off s hs).2.1, (h.off s hs).2.2.1, fun y hy => Nat.le_trans hb ((h.off s hs).2.2.2 y hy)⟩⟩
theorem nZ {s : Sl} {w w' : World} {row : Option Nat} (h : s.Ok w) (hg : w.grownBy w' row) (ho : s.Off row) : s.Ok w' := by
 refine ⟨h.len, h.le, h.mx, h.nn, h.isB, fun hp => ?_⟩
 obtain ⟨b, off, ha, hlt, hc⟩ := h.lies hp
 have e1 := ho hp _ ha
 refine ⟨b, off, ha, Nat.lt_of_lt_of_le hlt hg.size, fun i hi => ?_⟩
 rw [World.cell?_of_block (w := w) (a := ⟨b, off + i, none⟩) (hg.block b hlt e1)]
 exact hc i hi
theorem jR {s : Sl} {w w' : World} {g : Nat} (h : s.Ok w) (hb : But g w w') (ho : s.Off (some g)) : s.Ok w' := hb.ok h (fun hl x hx e => ho hl x hx (by rw [e]))
theorem iC {w w' : World} {base e sz n g : Nat} {v : Value} {xs : List Value} (h : w.ownsRow base e sz v n xs) (hb : But g w w') (hg : some g ≠ v.ownBlock) : w'.ownsRow base e sz v n xs := by
 refine ⟨h.1, ?_⟩
 rcases h.2 with h2 | ⟨k, cap, cur, h1, h2, h3, h4⟩
 ·exact .inl h2
 ·subst h1
  have hk : k ≠ g := fun e => hg (by rw [e]; rfl)
  have hlt : k < w.heap.size := by
   by_cases hh : k < w.heap.size
   ·exact hh
   ·rw [Array.getElem?_eq_none (by omega)] at h3; cases h3
  exact .inr ⟨k, cap, cur, rfl, h2, (hb.block k hlt hk).trans h3, h4⟩
theorem fF {g B : Nat} {w w' : World} (h : But g w w') (hB : B ≤ w.heap.size) (hg : B ≤ g) : Below B w w' := ⟨h.os, h.tape, h.output, h.size, fun k hk => h.block k (by omega) (by omega)⟩
structure But2 (g g' : Nat) (w w' : World) : Prop where
 os : w'.os = w.os
 tape : w'.tape = w.tape
 output : w'.output = w.output
 size : w.heap.size ≤ w'.heap.size
 block : ∀ k, k < w.heap.size → k ≠ g → k ≠ g' → w'.heap[k]? = w.heap[k]?
theorem but_but2 {g g' : Nat} {a b c : World} (h : But g a b) (k : But g' b c) : But2 g g' a c :=
 ⟨k.os.trans h.os, k.tape.trans h.tape, k.output.trans h.output, Nat.le_trans h.size k.size, fun i hi h1 h2 => (k.block i (Nat.lt_of_lt_of_le hi h.size) h2).trans (h.block i hi h1)⟩
theorem but2_below {g g' B : Nat} {w w' : World} (h : But2 g g' w w') (h1 : B ≤ g) (h2 : B ≤ g') (hB : B ≤ w.heap.size) : Below B w w' := ⟨h.os, h.tape, h.output, h.size, fun k hk => h.block k (by omega) (by omega) (by omega)⟩
theorem own_but2 {w w' : World} {base e sz n g g' : Nat} {v : Value} {xs : List Value} (h : w.ownsRow base e sz v n xs) (hb : But2 g g' w w') (hg : some g ≠ v.ownBlock) (hg' : some g' ≠ v.ownBlock) : w'.ownsRow base e sz v n xs := by
 refine ⟨h.1, ?_⟩
 rcases h.2 with h2 | ⟨k, cap, cur, h1, h2, h3, h4⟩
 ·exact .inl h2
 ·subst h1
  have hk : k ≠ g := fun e => hg (by rw [e]; rfl)
  have hk' : k ≠ g' := fun e => hg' (by rw [e]; rfl)
  have hlt : k < w.heap.size := by
   by_cases hh : k < w.heap.size
   ·exact hh
   ·rw [Array.getElem?_eq_none (by omega)] at h3; cases h3
  exact .inr ⟨k, cap, cur, rfl, h2, (hb.block k hlt hk hk').trans h3, h4⟩
theorem ok_but2 {s : Sl} {w w' : World} {g g' : Nat} (h : s.Ok w) (hb : But2 g g' w w') (h1 : s.Off (some g)) (h2 : s.Off (some g')) : s.Ok w' := by
 refine ⟨h.len, h.le, h.mx, h.nn, h.isB, fun hp => ?_⟩
 obtain ⟨b, off, ha, hlt, hc⟩ := h.lies hp
 have e1 := h1 hp _ ha
 have e2 := h2 hp _ ha
 simp only [ne_eq, Option.some.injEq] at e1 e2
 refine ⟨b, off, ha, Nat.lt_of_lt_of_le hlt hb.size, fun i hi => ?_⟩
 rw [World.cell?_of_block (w := w) (a := ⟨b, off + i, none⟩) (hb.block b hlt e1 e2)]
 exact hc i hi
theorem RSads.say {w w' : World} {base : Nat} {v1 v2 v1' : Value} {ss : List Sl} {E : List (List Int × List Int)} {s : Sl} (h : RSads w base v1 v2 ss E) (hs : s.Ok w) (ho1 : s.Off v1.ownBlock) (ho2 : s.Off v2.ownBlock) (hsb : ∀ y, s.a = some y → base ≤ y.block)
  (ho : w'.ownsRow base 33 1 v1' (E.length + 1) (ss.map (·.v) ++ [s.v])) (hg : w.grownBy w' v1.ownBlock) (hat : v1'.ownBlock = v1.ownBlock ∨ ∃ k, v1'.ownBlock = some k ∧ w.heap.size ≤ k) :
  w'.ownsRow base 30 64 v2 E.length (E.flatMap fun p => U8 p.2) ∧ (∀ (i : Nat) (p : List Int × List Int), E[i]? = some p → ∃ s, ss[i]? = some s ∧ s.Ok w' ∧ s.l = p.1 ∧ p.2.length = 64 ∧ IsB p.2) ∧ (∀ t ∈ ss ++ [s], t.Ok w' ∧ t.Off v1'.ownBlock ∧ t.Off v2.ownBlock ∧ ∀ y, t.a = some y → base ≤ y.block) := by
 have hO : ∀ t : Sl, t.Ok w → t.Off v1.ownBlock → t.Off v1'.ownBlock := fun t ht ho => by
  rcases hat with e | ⟨k, e, hk⟩
  ·rw [e]; exact ho
  ·rw [e]; intro hl y hy e2
   simp only [Option.some.injEq] at e2
   have := ht.lt hl y hy; omega
 refine ⟨eM h.l2 hg (eJ h.l2 h.l1 (by decide)), fun i p hp => ?_, fun t ht => ?_⟩
 ·obtain ⟨t, h1, h2, h3⟩ := h.each i p hp
  exact ⟨t, h1, nZ h2 hg (h.off t (List.mem_of_getElem? h1)).2.1, h3⟩
 ·rcases List.mem_append.1 ht with h1 | h1
  ·have := h.off t h1
   exact ⟨nZ this.1 hg this.2.1, hO t this.1 this.2.1, this.2.2⟩
  ·simp at h1; subst h1
   exact ⟨nZ hs hg ho1, hO t hs ho1, ho2, hsb⟩
theorem gR (w : World) (base : Nat) (v1 v2 : Value) (ss : List Sl) (E : List (List Int × List Int)) (s : Sl) (g : List Int) (h : RSads w base v1 v2 ss E) (hE : E.length ≤ 10) (hs : s.Ok w) (ho1 : s.Off v1.ownBlock) (ho2 : s.Off v2.ownBlock) (hsb : ∀ y, s.a = some y → base ≤ y.block) (hg : g.length = 64) (hgB : IsB g) (hb : base ≤ w.heap.size) :
  Calls Tryz.prog 281 #[.agg #[v1, v2], s.v, .agg (U8 g).toArray] w fun e w' => ∃ v1' v2', e = .returned (.agg #[v1', v2']) ∧ RSads w' base v1' v2' (ss ++ [s]) (E ++ [(s.l, g)]) ∧ Below base w w' ∧ ∀ k, k < w.heap.size → some k ≠ v1.ownBlock → some k ≠ v2.ownBlock → w'.heap[k]? = w.heap[k]? := by
 obtain ⟨itL, hiL, hzL, hsL, hbL⟩ := slZ
 obtain ⟨itS, ZS, hiS, hzS, hZSl, hsS, hbS⟩ := sigZ
 obtain ⟨a1, c1, rfl⟩ := bK h.l1
 obtain ⟨a2, c2, rfl⟩ := bK h.l2
 generalize hn : E.length = n at *
 have s0 : (w.alloc (.cells #[.slice a1 n c1, .slice a2 n c2] 234)).heap.size = w.heap.size + 1 := by simp
 have s1 : ((w.alloc (.cells #[.slice a1 n c1, .slice a2 n c2] 234)).alloc (.cells (U8 g).toArray 30)).heap.size = w.heap.size + 2 := by simp
 obtain ⟨W0, hW0⟩ : ∃ W0, W0 = ((w.alloc (.cells #[.slice a1 n c1, .slice a2 n c2] 234)).alloc (.cells (U8 g).toArray 30)).alloc (.cells #[.slice none 0 0, .slice none 0 0] 234) := ⟨_, rfl⟩
 have A0 : Arr W0 w.heap.size 234 [.slice a1 n c1, .slice a2 n c2] := by rw [hW0]; exact ((Arr.new w _ [.slice a1 n c1, .slice a2 n c2]).alloc _).alloc _
 have A1 : Arr W0 (w.heap.size + 1) 30 (U8 g) := by
  rw [hW0, ← s0]; exact (Arr.new (w.alloc (.cells #[.slice a1 n c1, .slice a2 n c2] 234)) _ (U8 g)).alloc _
 have A2 : Arr W0 (w.heap.size + 2) 234 [.slice none 0 0, .slice none 0 0] := by
  rw [hW0, ← s1]; exact Arr.new _ _ [.slice none 0 0, .slice none 0 0]
 have b0 : Below w.heap.size w W0 := by
  rw [hW0]; exact bV (bV (aJ w _) _ (by simp)) _ (by simp; omega)
 have h0 := h.later b0
 have hs0 := hs.later b0
 have bW := b0.size
 have HW0 := aA hW0
 have hsv : s.v = .slice s.a s.n s.c := rfl
 have HLT : Hid (∀ t ∈ ss ++ [s], 0 < t.l.length → ∀ y, t.a = some y → y.block < w.heap.size) := aA (fun t ht hl y hy => by
  rcases List.mem_append.1 ht with h1 | h1
  ·exact (h.off t h1).1.lt hl y hy
  ·simp at h1; subst h1; exact hs.lt hl y hy)
 have c0 : W0.cell? ⟨w.heap.size, 0, none⟩ = some (.slice a1 n c1) := by rw [A0.cell]; rfl
 clear h hs hW0 s0 s1
 rw [hsv]
 go_enter Tryz.func281, Tryz.ntmps281
 go_upto_region 1 with fail
 rw [← unhide HW0]
 refine rgY3 ?_
 have b1 := aJ W0 (.cells #[.slice s.a s.n s.c] 33)
 have H1 := aA (h0.later b1)
 have hs1 := hs0.later b1
 have hA0 := A0.later b1
 have hA1 := A1.later b1
 have hA2 := A2.later b1
 have hn1 := fX (Arr.new W0 33 [.slice s.a s.n s.c])
 refine lR rfl _ _ _ rfl _ _ (by simpa [Act.eval] using sl_slice W0 (.slice s.a s.n s.c) rfl) ?_
 simp only [Act.put]
 have hsz1 : W0.heap.size ≤ (W0.alloc (.cells #[.slice s.a s.n s.c] 33)).heap.size := b1.size
 have hbW1 : Below w.heap.size w (W0.alloc (.cells #[.slice s.a s.n s.c] 33)) := b0.trans (b1.mono bW)
 clear h0 hs0 A0 A1 A2 c0
 generalize hg0 : W0.heap.size = g0 at *
 generalize hW1 : W0.alloc (.cells #[.slice s.a s.n s.c] 33) = W1 at *
 clear hW1 b1 hg0
 have hl1 := (unhide H1).l1
 rw [hn] at hl1
 refine eG rfl (.tmp 8) (.tmp 10) 24 rfl base 33 itL (.slice none 0 0) 1 24 Tryz.underlying24 hiL hzL hsL hbL rfl (by decide) (.slice a1 n c1) n _ rfl hl1 ⟨g0, 0, none⟩ 1 1 [.slice s.a s.n s.c] rfl rfl hn1 (by intro u hu; simp at hu; subst hu; rfl) (by unfold maxLen; omega) (by omega) (by omega) (fun v3 W3 HO3 HG3 HT3 => ?_)
 have hgr := unhide HG3
 have ho3 := unhide HO3
 have hat : v3.ownBlock = (Value.slice a1 n c1).ownBlock ∨ ∃ k, v3.ownBlock = some k ∧ W1.heap.size ≤ k := (unhide HT3).imp id (fun e => ⟨_, e, Nat.le_refl _⟩)
 have hsay := (unhide H1).say hs1 ho1 ho2 hsb (by rw [hn, hsv]; exact ho3) hgr hat
 have hne0 : some w.heap.size ≠ (Value.slice a1 n c1).ownBlock := cF hl1 hA0 (by decide)
 have hne1 : some (w.heap.size + 1) ≠ (Value.slice a1 n c1).ownBlock := cF hl1 hA1 (by decide)
 have hne2 : some (w.heap.size + 2) ≠ (Value.slice a1 n c1).ownBlock := cF hl1 hA2 (by decide)
 have B0 : Arr W3 w.heap.size 234 [.slice a1 n c1, .slice a2 n c2] := (hgr.block _ hA0.lt hne0).trans hA0
 have B1 : Arr W3 (w.heap.size + 1) 30 (U8 g) := (hgr.block _ hA1.lt hne1).trans hA1
 have B2 : Arr W3 (w.heap.size + 2) 234 [.slice none 0 0, .slice none 0 0] := (hgr.block _ hA2.lt hne2).trans hA2
 have hb3 : Below base w W3 := (hbW1.mono hb).trans (iR (row := none) hl1 hgr (Nat.le_refl _) (by have := hbW1.size; omega))
 have hF3 : ∀ k, k < w.heap.size → some k ≠ (Value.slice a1 n c1).ownBlock → W3.heap[k]? = w.heap[k]? := fun k hk h1 => (hgr.block k (by have := hbW1.size; omega) h1).trans (hbW1.block k hk)
 obtain ⟨a3, c3, rfl⟩ := bK ho3
 have k3 : W3.cell? ⟨w.heap.size, 0, none⟩ = some (.slice a1 n c1) := by rw [B0.cell]; rfl
 have f3 := B0.frozen 0
 have hne3 : some w.heap.size ≠ (Value.slice a3 (n + 1) c3).ownBlock := cF ho3 B0 (by decide)
 have hne4 : some w.heap.size ≠ (Value.slice a2 n c2).ownBlock := cF hsay.1 B0 (by decide)
 obtain ⟨W4, hW4⟩ : ∃ W4, W4 = W3.setCell ⟨w.heap.size, 0, none⟩ (.slice a3 (n + 1) c3) := ⟨_, rfl⟩
 have bt4 : But w.heap.size W3 W4 := by rw [hW4]; exact (But.refl _ W3).setCell 0 _
 have C0 : Arr W4 w.heap.size 234 [.slice a3 (n + 1) c3, .slice a2 n c2] := by rw [hW4]; exact B0.set 0 _
 have C1 : Arr W4 (w.heap.size + 1) 30 (U8 g) := (bt4.block _ B1.lt (by omega)).trans B1
 have C2 : Arr W4 (w.heap.size + 2) 234 [.slice none 0 0, .slice none 0 0] := (bt4.block _ B2.lt (by omega)).trans B2
 have bs4 : Buts (· = w.heap.size) W3 W4 := ⟨bt4.os, bt4.tape, bt4.output, bt4.size, bt4.block⟩
 have L1 : W4.ownsRow base 33 1 (.slice a3 (n + 1) c3) (n + 1) (ss.map (·.v) ++ [s.v]) := iC ho3 bt4 hne3
 have L2 : W4.ownsRow base 30 64 (.slice a2 n c2) n (E.flatMap fun p => U8 p.2) := by have h := hsay.1; rw [hn] at h; exact iC h bt4 hne4
 have offW : ∀ t ∈ ss ++ [s], t.Off (some w.heap.size) := fun t ht hl y hy e => by have := unhide HLT t ht hl y hy; simp only [Option.some.injEq] at e; omega
 have EA : ∀ (i : Nat) (p : List Int × List Int), E[i]? = some p → ∃ t, ss[i]? = some t ∧ t.Ok W4 ∧ t.l = p.1 ∧ p.2.length = 64 ∧ IsB p.2 := fun i p hp => by
  obtain ⟨t, h1, h2, h3⟩ := hsay.2.1 i p hp
  exact ⟨t, h1, jR h2 bt4 (offW t (List.mem_append.2 (.inl (List.mem_of_getElem? h1)))), h3⟩
 have OF : ∀ t ∈ ss ++ [s], t.Ok W4 ∧ t.Off (Value.slice a3 (n + 1) c3).ownBlock ∧ t.Off (Value.slice a2 n c2).ownBlock ∧ ∀ y, t.a = some y → base ≤ y.block := fun t ht => ⟨jR (hsay.2.2 t ht).1 bt4 (offW t ht), (hsay.2.2 t ht).2⟩
 have hb4 : Below base w W4 := hb3.trans (fF bt4 (by have := hb3.size; omega) hb)
 have HF4 : Hid (∀ k, k < w.heap.size → some k ≠ (Value.slice a1 n c1).ownBlock → W4.heap[k]? = w.heap[k]?) := aA (fun k hk h1 => (bt4.block k (by have := hb3.size; omega) (by omega)).trans (hF3 k hk h1))
 have HL1 := aA L1
 have HL2 := aA L2
 have HEA := aA EA
 have HOF := aA OF
 have HB4 := aA hb4
 have HC0 := aA C0
 have HC1 := aA C1
 have HC2 := aA C2
 have HW4 := aA hW4
 clear hgr ho3 hat hsay hne0 hne1 hne2 B0 B1 B2 hb3 hne3 hne4 bt4 C0 C1 C2 bs4 L1 L2 offW EA OF hb4 hW4 H1 hs1 hA0 hA1 hA2 hn1 hl1 HO3 HG3 HT3 hbW1 hsz1 hF3
 simp only [Act.put]
 refine snY2 ?_
 rw [← unhide HW4]
 have c4 : W4.cell? ⟨w.heap.size, 1, none⟩ = some (.slice a2 n c2) := by rw [(unhide HC0).cell]; rfl
 clear k3 f3 HW4
 have R1 := aA (Arr.range (unhide HC1))
 have hsg : (Tryz.prog.info? 30).map (·.size) = some (U8 g).length := by rw [U8_length, hg]; exact Tryz.szKSig
 go_upto_region 2 with fail
 refine rgY2 ?_
 refine wpList_load_mid rfl 30 (.tmp 5) rfl (w.heap.size + 1) 0 rfl (U8 g) _ (unhide R1) Tryz.underlying30 rfl hsg ?_
 simp only [Act.put]
 have b5 := aJ W4 (.cells (U8 g).toArray 30)
 have hL1 := eK (unhide HL1) b5
 have hL2 := eK (unhide HL2) b5
 have hC0 := (unhide HC0).later b5
 have hC2 := (unhide HC2).later b5
 have hEA : ∀ (i : Nat) (p : List Int × List Int), E[i]? = some p → ∃ t, ss[i]? = some t ∧ t.Ok (W4.alloc (.cells (U8 g).toArray 30)) ∧ t.l = p.1 ∧ p.2.length = 64 ∧ IsB p.2 := fun i p hp => by
  obtain ⟨t, h1, h2, h3⟩ := unhide HEA i p hp; exact ⟨t, h1, h2.later b5, h3⟩
 have hOF : ∀ t ∈ ss ++ [s], t.Ok (W4.alloc (.cells (U8 g).toArray 30)) ∧ t.Off (Value.slice a3 (n + 1) c3).ownBlock ∧ t.Off (Value.slice a2 n c2).ownBlock ∧ ∀ y, t.a = some y → base ≤ y.block := fun t ht => ⟨(unhide HOF t ht).1.later b5, (unhide HOF t ht).2⟩
 have hb5 : Below base w (W4.alloc (.cells (U8 g).toArray 30)) := (unhide HB4).trans (b5.mono (by have := (unhide HB4).size; omega))
 have HF5 : Hid (∀ k, k < w.heap.size → some k ≠ (Value.slice a1 n c1).ownBlock → (W4.alloc (.cells (U8 g).toArray 30)).heap[k]? = w.heap[k]?) := aA (fun k hk h1 => (b5.block k (by have := (unhide HB4).size; omega)).trans (unhide HF4 k hk h1))
 have hn4 := fX (Arr.new W4 30 (U8 g))
 refine lR rfl _ _ _ rfl _ _ (by simpa [Act.eval] using sig_slice W4 g hg) ?_
 simp only [Act.put]
 generalize hg4 : W4.heap.size = g4 at *
 generalize hW5 : W4.alloc (.cells (U8 g).toArray 30) = W5 at *
 have hoc4 := u8_oc g
 have hl4 : (U8 g).length = 1 * 64 := by rw [U8_length, hg]
 clear hW5 b5 hg4 HL1 HL2 HC0 HC1 HC2 HEA HOF HB4 R1 c4
 refine eG rfl (.tmp 14) (.tmp 16) 151 rfl base 30 itS (.agg ZS.toArray) 64 64 Tryz.underlying151 hiS hzS hsS hbS (by simp [Value.cells, hZSl]) (by decide) (.slice a2 n c2) n _ rfl hL2 ⟨g4, 0, none⟩ 1 1 (U8 g) rfl hl4 hn4 hoc4 (by unfold maxLen; omega) (by omega) (by have := hb5.size; omega) (fun v6 W6 HO6 HG6 HT6 => ?_)
 have hgr := unhide HG6
 have ho6 := unhide HO6
 have hO : ∀ t : Sl, t.Ok W5 → t.Off (Value.slice a2 n c2).ownBlock → t.Off v6.ownBlock := fun t ht ho => by
  rcases unhide HT6 with e | e
  ·rw [e]; exact ho
  ·rw [e]; intro hl y hy e2
   simp only [Option.some.injEq] at e2
   have := ht.lt hl y hy; omega
 have M1 := eM hL1 hgr (eJ hL1 hL2 (by decide))
 have hne0 : some w.heap.size ≠ (Value.slice a2 n c2).ownBlock := cF hL2 hC0 (by decide)
 have hne2 : some (w.heap.size + 2) ≠ (Value.slice a2 n c2).ownBlock := cF hL2 hC2 (by decide)
 have B0 : Arr W6 w.heap.size 234 [.slice a3 (n + 1) c3, .slice a2 n c2] := (hgr.block _ hC0.lt hne0).trans hC0
 have B2 : Arr W6 (w.heap.size + 2) 234 [.slice none 0 0, .slice none 0 0] := (hgr.block _ hC2.lt hne2).trans hC2
 have hb6 : Below base w W6 := hb5.trans (iR (row := none) hL2 hgr (Nat.le_refl _) (by have := hb5.size; omega))
 obtain ⟨a6, c6, rfl⟩ := bK ho6
 have k6 : W6.cell? ⟨w.heap.size, 1, none⟩ = some (.slice a2 n c2) := by rw [B0.cell]; rfl
 have f6 := B0.frozen 1
 have hne3 : some w.heap.size ≠ (Value.slice a6 (n + 1) c6).ownBlock := cF ho6 B0 (by decide)
 have hne4 : some w.heap.size ≠ (Value.slice a3 (n + 1) c3).ownBlock := cF M1 B0 (by decide)
 have hne5 : some (w.heap.size + 2) ≠ (Value.slice a6 (n + 1) c6).ownBlock := cF ho6 B2 (by decide)
 have hne6 : some (w.heap.size + 2) ≠ (Value.slice a3 (n + 1) c3).ownBlock := cF M1 B2 (by decide)
 have HFIN : Hid (∀ W8, But2 w.heap.size (w.heap.size + 2) W6 W8 → RSads W8 base (.slice a3 (n + 1) c3) (.slice a6 (n + 1) c6) (ss ++ [s]) (E ++ [(s.l, g)]) ∧ Below base w W8 ∧ ∀ k, k < w.heap.size → some k ≠ (Value.slice a1 n c1).ownBlock → some k ≠ (Value.slice a2 n c2).ownBlock → W8.heap[k]? = w.heap[k]?) := aA (fun W8 b8 => by
  have kp : ∀ t ∈ ss ++ [s], t.Ok W8 := fun t ht => by
   have h6 := nZ (hOF t ht).1 hgr (hOF t ht).2.2.1
   exact ok_but2 h6 b8 (fun hl y hy e => by have := unhide HLT t ht hl y hy; simp only [Option.some.injEq] at e; omega) (fun hl y hy e => by have := unhide HLT t ht hl y hy; simp only [Option.some.injEq] at e; omega)
  have hEl : (E ++ [(s.l, g)]).length = n + 1 := by simp [hn]
  have hsl : ss.length = n := by have := hL1.1; simp at this; omega
  refine ⟨⟨?_, ?_, fun i p hp => ?_, fun t ht => ⟨kp t ht, (hOF t ht).2.1, hO t (hOF t ht).1 (hOF t ht).2.2.1, (hOF t ht).2.2.2⟩⟩, hb6.trans (but2_below b8 hb (by omega) (by have := hb6.size; omega)), fun k hk h1 h2 => (b8.block k (by have := hb6.size; omega) (by omega) (by omega)).trans ((hgr.block k (by have := hb5.size; omega) h2).trans (unhide HF5 k hk h1))⟩
  ·rw [hEl, List.map_append]; exact own_but2 M1 b8 hne4 hne6
  ·rw [hEl, List.flatMap_append]; simpa using own_but2 ho6 b8 hne3 hne5
  ·by_cases hi : i < E.length
   ·rw [List.getElem?_append_left hi] at hp
    obtain ⟨t, h1, -, h3⟩ := hEA i p hp
    exact ⟨t, by rw [List.getElem?_append_left (by omega)]; exact h1, kp t (List.mem_append.2 (.inl (List.mem_of_getElem? h1))), h3⟩
   ·rw [List.getElem?_append_right (by omega)] at hp
    have hi0 : i - E.length = 0 := by
     by_cases h0 : i - E.length = 0
     ·exact h0
     ·rw [List.getElem?_eq_none (by simp; omega)] at hp; cases hp
    rw [hi0] at hp
    simp at hp
    subst hp
    exact ⟨s, by rw [List.getElem?_append_right (by omega), hsl, ← hn, hi0]; rfl, kp s (by simp), rfl, hg, hgB⟩)
 have HB0 := aA B0
 have HB2 := aA B2
 clear hgr ho6 hO M1 hne0 hne2 hb6 hne3 hne4 hne5 hne6 hL1 hL2 hC0 hC2 hEA hOF hb5 hn4 HO6 HG6 HT6 B0 B2
 simp only [Act.put]
 refine snY2 ?_
 have D0 : Arr (W6.setCell ⟨w.heap.size, 1, none⟩ (.slice a6 (n + 1) c6)) w.heap.size 234 [.slice a3 (n + 1) c3, .slice a6 (n + 1) c6] := (unhide HB0).set 1 _
 have D2 : Arr (W6.setCell ⟨w.heap.size, 1, none⟩ (.slice a6 (n + 1) c6)) (w.heap.size + 2) 234 [.slice none 0 0, .slice none 0 0] := (((But.refl w.heap.size W6).setCell 1 _).block _ (unhide HB2).lt (by omega)).trans (unhide HB2)
 have hb7 : But w.heap.size W6 (W6.setCell ⟨w.heap.size, 1, none⟩ (.slice a6 (n + 1) c6)) := (But.refl w.heap.size W6).setCell 1 _
 generalize W6.setCell ⟨w.heap.size, 1, none⟩ (.slice a6 (n + 1) c6) = W7 at *
 have HE := aA (unhide HFIN _ (but_but2 hb7 ((But.refl (w.heap.size + 2) W7).setRow #[.slice a3 (n + 1) c3, .slice a6 (n + 1) c6])))
 clear HFIN HB0 HB2 hb7 k6 f6
 go_upto_region 3 with fail
 refine wp_region_lit ?_
 refine wpList_load_mid rfl 234 (.tmp 3) rfl w.heap.size 0 rfl [.slice a3 (n + 1) c3, .slice a6 (n + 1) c6] _ D0.range Tryz.underlying234 rfl (by kernel_rfl) ?_
 simp only [Act.put]
 refine wpList_store_row rfl 234 (.tmp 6) (.tmp 19) rfl (w.heap.size + 2) #[.slice a3 (n + 1) c3, .slice a6 (n + 1) c6] rfl rfl 234 #[.slice none 0 0, .slice none 0 0] D2 (by kernel_rfl) rfl (by simp [Value.oneCell']) ?_
 refine wpList_nil ?_
 go_wp2
 refine bodyPost_ret (results_cell_row rfl _ _ (w.heap.size + 2) 234 #[.slice a3 (n + 1) c3, .slice a6 (n + 1) c6] (0, 0) _ rfl (setRow_heap _ (w.heap.size + 2) _ _ _ _ D2) Tryz.underlying234 rfl (by kernel_rfl)) rfl ?_
 exact ⟨_, _, rfl, (unhide HE).1, (unhide HE).2⟩
end Go.Proofs.YtejagcngbgnogaaGreat
