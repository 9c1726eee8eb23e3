import Derived.Test.YtejagcngbgnogaaGreatQShr
import Derived.Test.YtejagcngbgnogaaGreatQGayZ
import Derived.Deep.MidRow
import Derived.Deep.Cut
set_option maxHeartbeats 4000000
set_option maxRecDepth 100000
set_option linter.unusedSimpArgs false
set_option linter.unusedVariables false
namespace Go.Proofs.YtejagcngbgnogaaGreat
open Go.RowKit
theorem eA {x lo hi : Int} (h : lo ≤ x ∧ x ≤ hi) (w : World) : Calls Tryz.prog 228 #[.int .i64 x, .int .i64 lo, .int .i64 hi] w fun e w' => e = .returned (.bool true) ∧ w' = w := by
 have := rZ x lo hi w
 rw [decide_eq_true h.1, decide_eq_true h.2] at this
 exact this
theorem fE {x lo hi : Int} (h : ¬ (lo ≤ x ∧ x ≤ hi)) (w : World) : Calls Tryz.prog 228 #[.int .i64 x, .int .i64 lo, .int .i64 hi] w fun e w' => e = .returned (.bool false) ∧ w' = w := by
 have := rZ x lo hi w
 have e : (decide (lo ≤ x) && decide (x ≤ hi)) = false := by
  by_cases h1 : lo ≤ x
  ·rw [decide_eq_true h1, decide_eq_false (fun h2 => h ⟨h1, h2⟩)]; rfl
  ·rw [decide_eq_false h1]; rfl
 rw [e] at this
 exact this
theorem whole_any (base p : Nat) (lv : Value) (l : List Int) (w : World) (h : Otr w base p lv l 0) :
  Calls Tryz.prog 108 #[.pointer (some ⟨p, 0, none⟩)] w fun e w' => Below w.heap.size w w' ∧ ∃ s : Sl, e = .returned s.v ∧ s.Ok w' ∧ s.l = l ∧ (∀ x, s.a = some x → base ≤ x.block) := by
 have hD := oDone_any base p lv l 0 w h
 have hg := h.ges
 have hw : wOut l 0 = l := rfl
 clear h
 go_enter Tryz.func108, Tryz.ntmps108
 go_wp2_with fail
 refine hD.mono ?_
 rintro e w1 ⟨hB, s, rfl, hs, hsl, hat⟩
 have HE : Hid (Below w.heap.size w w1 ∧ s.Ok w1 ∧ s.l = l ∧ (∀ x, s.a = some x → base ≤ x.block)) := aA ⟨hB, hs, by rw [hsl, hw], fun x hx => hg _ (hat x hx)⟩
 clear hD hB hs hsl hat hg hw
 obtain ⟨sa, sn, sc, sl⟩ := s
 simp only [Sl.v]
 go_wp2
 go_ret
 exact ⟨(unhide HE).1, ⟨sa, sn, sc, sl⟩, rfl, (unhide HE).2⟩
section
theorem rs127 {G : Prop} (h : G := by
 have c2 : (w.alloc (.cells (cl aD 99 x).toArray 32)).cell? ⟨w.heap.size, 2, none⟩ = some (.int .i64 (x 2)) := T0.cell 2 (by decide)
 have HF : Hid ((aB aF).fit x = (decide (1 ≤ x 0 ∧ x 0 ≤ 65535) && (decide (1 ≤ x 1 ∧ x 1 ≤ 4096) && (decide (0 ≤ x 2) && decide (x 2 ≤ 1000000000))))) := aA (by
  simp only [aB, aF, aO, aV, aL, Bool.and_true, Bool.decide_and])
 generalize (aB aF).fit x = R at *
 have HB := aA b0
 clear b0 T0 hok
 generalize cl aD 99 x = X at *
 by_cases h1 : 1 ≤ x 0 ∧ x 0 ≤ 65535
 ·rw [decide_eq_true h1, Bool.true_and] at HF
  have W1 := fun W => eA h1 W
  by_cases h2 : 1 ≤ x 1 ∧ x 1 ≤ 4096
  ·rw [decide_eq_true h2, Bool.true_and] at HF
   have W2 := fun W => eA h2 W
   by_cases h3 : 0 ≤ x 2
   ·rw [decide_eq_true h3, Bool.true_and] at HF
    exact sh91
   ·rw [decide_eq_false h3, Bool.false_and] at HF
    have h3' : x 2 < 0 := by omega
    exact sh91
  ·rw [decide_eq_false h2, Bool.false_and] at HF
   have W2 := fun W => fE h2 W
   clear h2
   exact sh91
 ·rw [decide_eq_false h1, Bool.false_and] at HF
  have W1 := fun W => fE h1 W
  clear h1
  go_enter Tryz.func105, Tryz.ntmps105
  go_wp2_with fail
  generalize w.alloc (.cells X.toArray 32) = W at *
  refine (W1 W).mono ?_
  rintro e w1 ⟨rfl, rfl⟩
  go_wp2
  go_ret
  exact ⟨by rw [unhide HF]; rfl, unhide HB⟩) : G := h
open Go.Proofs.YtejagcngbgnogaaGreat renaming aD → z148a, nq99 → z148b, nq32 → z148c, dI → z148bQ, iF → z148cQ, rs127 → z148rr
theorem iZ (x : Nat → Int) (w : World) (hok : ∀ i, i < 99 → (aD i).ok (x i)) :
  Calls Tryz.prog 105 #[.agg (cl aD 99 x).toArray] w fun e w' => e = .returned (.bool ((aB aF).fit x)) ∧ Below w.heap.size w w' := sh148
end
end Go.Proofs.YtejagcngbgnogaaGreat

set_option maxHeartbeats 4000000
set_option maxRecDepth 100000
set_option linter.unusedSimpArgs false
set_option linter.unusedVariables false
namespace Go.Proofs.YtejagcngbgnogaaGreat
open Go.RowKit
theorem Trm.part {w : World} {q : Nat} {ty : TypeId} {sh sT : Nat → Kd} {N nT o : Nat} {x : Nat → Int} (h : Trm w q ty sh N x) (s : Seg sT nT sh N o) : w.rangeAt q o (cl sT nT (sft o x)) := fun j v hj => by
 have hj' : j < nT := by
  have := (List.getElem?_eq_some_iff.1 hj).1; rw [aC] at this; exact this
 rw [s.cell h j hj', ← eB sT nT _ _ hj', hj]
theorem pE (x : Nat → Int) (w : World) (hok : ∀ i, i < 132 → (aS i).ok (x i)) :
  Calls Tryz.prog 109 #[.agg (cl aS 132 x).toArray] w fun e w' => e = .returned (.bool ((aB aY).fit x)) ∧ Below w.heap.size w w' := by
 have b0 : Below w.heap.size w (w.alloc (.cells (cl aS 132 x).toArray 57)) := aJ w _
 have T0 : Trm (w.alloc (.cells (cl aS 132 x).toArray 57)) w.heap.size 57 aS 132 x := ⟨Arr.new w _ _, hok, by decide, by decide, by decide⟩
 have c1 : (w.alloc (.cells (cl aS 132 x).toArray 57)).cell? ⟨w.heap.size, 1, none⟩ = some (.int .i64 (x 1)) := T0.cell 1 (by decide)
 have c99 : (w.alloc (.cells (cl aS 132 x).toArray 57)).cell? ⟨w.heap.size, 99, none⟩ = some (.int .i64 (x 99)) := T0.cell 99 (by decide)
 have hSg : Seg aD 99 aS 132 0 := ⟨by omega, fun j hj => by rw [Nat.zero_add]; unfold aS; rw [if_pos hj]⟩
 have hR := T0.part hSg
 rw [bF] at hR
 have hokC : ∀ i, i < 99 → (aD i).ok (x i) := fun i hi => by have := hok i (by omega); unfold aS at this; rw [if_pos hi] at this; exact this
 have hOf := fun W => iZ x W hokC
 have hZ : (Tryz.prog.info? 32).map (·.size) = some (cl aD 99 x).length := by rw [aC]; exact Tryz.szKCert
 have HR := aA hR
 clear hSg hR hokC
 generalize hXC : cl aD 99 x = XC at *
 clear hXC
 have HF : Hid ((aB aY).fit x = ((aB aF).fit x && (decide (1 ≤ x 99 ∧ x 99 ≤ x 1)))) := aA (by
  simp only [aB, aY, aO, aV, aL, bR, bF, Bool.and_true, Bool.decide_and]
  try simp only [Bool.and_true, Bool.and_assoc])
 generalize (aB aY).fit x = R at *
 have HLT := aA T0.arr.lt
 have HB := aA b0
 clear b0 T0 hok
 generalize hX : cl aS 132 x = X at *
 clear hX
 cases hf : (aB aF).fit x with
 | true =>
  rw [hf] at hOf HF
  rw [Bool.true_and] at HF
  clear hf
  by_cases h1 : 1 ≤ x 99 ∧ x 99 ≤ x 1
  ·rw [decide_eq_true h1] at HF
   have V1 := fun W => eA h1 W
   skip
   exact sh81
  ·rw [decide_eq_false h1] at HF
   have V1 := fun W => fE h1 W
   clear h1
   exact sh81
 | false =>
  rw [hf] at hOf HF
  rw [Bool.false_and] at HF
  clear hf
  go_enter Tryz.func109, Tryz.ntmps109
  go_upto_region 1 with fail
  generalize hW : w.alloc (.cells X.toArray 57) = W at *
  clear hW
  refine eI ?_
  refine wpList_load_mid rfl 32 (.tmp 3) rfl w.heap.size 0 rfl XC _ (unhide HR) Tryz.underlying32 rfl hZ ?_
  simp only [Act.put]
  refine wpList_plain rfl fun K1 hK1 => ?_
  go_simp
  refine (hOf W).mono ?_
  rintro e w1 ⟨rfl, hB1⟩
  have HB1 := aA ((unhide HB).trans (hB1.mono (unhide HB).size))
  have d1 := (World.cell?_of_block (hB1.block w.heap.size (by have := unhide HLT; omega))).trans c1
  have d99 := (World.cell?_of_block (hB1.block w.heap.size (by have := unhide HLT; omega))).trans c99
  clear hOf hB1 c1 c99
  refine hK1 _ _ ?_
  clear hK1 K1
  go_wp2
  go_ret
  exact ⟨by rw [unhide HF]; try rfl, unhide HB1⟩
section
open Go.Proofs.YtejagcngbgnogaaGreat renaming aR → z62a, nq65 → z62b, aM → z62c, dP → z62bQ
open Go.Proofs.Tryz renaming func114 → z62d, ntmps114 → z62e
theorem mD (x : Nat → Int) (w : World) (hok : ∀ i, i < 163 → (aR i).ok (x i)) :
  Calls Tryz.prog 114 #[.agg (cl aR 163 x).toArray] w fun e w' => e = .returned (.bool ((aB aM).fit x)) ∧ Below w.heap.size w w' := sh62
end
section
open Go.Proofs.YtejagcngbgnogaaGreat renaming aG → z62a, nq72 → z62b, aE → z62c, iE → z62bQ
open Go.Proofs.Tryz renaming func117 → z62d, ntmps117 → z62e
theorem jP (x : Nat → Int) (w : World) (hok : ∀ i, i < 163 → (aG i).ok (x i)) :
  Calls Tryz.prog 117 #[.agg (cl aG 163 x).toArray] w fun e w' => e = .returned (.bool ((aB aE).fit x)) ∧ Below w.heap.size w w' := sh62
theorem rs128 {G : Prop} (h : G := by
 have c2 : (w.alloc (.cells (cl bI 99 x).toArray 69)).cell? ⟨w.heap.size, 2, none⟩ = some (.int .i64 (x 2)) := T0.cell 2 (by decide)
 have HF : Hid ((aB aZ).fit x = (decide (1 ≤ x 0 ∧ x 0 ≤ 65535) && (decide (1 ≤ x 1 ∧ x 1 ≤ 16) && (decide (0 ≤ x 2 ∧ x 2 ≤ 4096))))) := aA (by
  simp only [aB, aZ, aO, aV, aL, bR, bF, Bool.and_true, Bool.decide_and]
  try simp only [Bool.and_true, Bool.and_assoc])
 generalize (aB aZ).fit x = R at *
 have HB := aA b0
 clear b0 T0 hok
 generalize hX : cl bI 99 x = X at *
 clear hX
 by_cases h0 : 1 ≤ x 0 ∧ x 0 ≤ 65535
 ·rw [decide_eq_true h0, Bool.true_and] at HF
  have V0 := fun W => eA h0 W
  by_cases h1 : 1 ≤ x 1 ∧ x 1 ≤ 16
  ·rw [decide_eq_true h1, Bool.true_and] at HF
   have V1 := fun W => eA h1 W
   by_cases h2 : 0 ≤ x 2 ∧ x 2 ≤ 4096
   ·rw [decide_eq_true h2] at HF
    have V2 := fun W => eA h2 W
    skip
    exact sh96
   ·rw [decide_eq_false h2] at HF
    have V2 := fun W => fE h2 W
    clear h2
    exact sh96
  ·rw [decide_eq_false h1, Bool.false_and] at HF
   have V1 := fun W => fE h1 W
   clear h1
   exact sh89
 ·exact sh171) : G := h
open Go.Proofs.Tryz renaming func115 → z70a, ntmps115 → z70b, func115 → z89a, ntmps115 → z89b
open Go.Proofs.YtejagcngbgnogaaGreat renaming nq69 → z70c, nq69 → z89c, bI → z148a, nq99 → z148b, nq69 → z148c, dI → z148bQ, gL → z148cQ, rs128 → z148rr
theorem pF (x : Nat → Int) (w : World) (hok : ∀ i, i < 99 → (bI i).ok (x i)) :
  Calls Tryz.prog 115 #[.agg (cl bI 99 x).toArray] w fun e w' => e = .returned (.bool ((aB aZ).fit x)) ∧ Below w.heap.size w w' := sh148
end
section
open Go.Proofs.Tryz renaming func118 → z70a, ntmps118 → z70b
open Go.Proofs.YtejagcngbgnogaaGreat renaming nq76 → z70c, aU → z127a, nq65 → z127b, nq76 → z127c, aQ → z127d, nq1 → z127e, dP → z127bQ, gV → z127cQ, fQ → z127eQ
theorem mZ (x : Nat → Int) (w : World) (hok : ∀ i, i < 65 → (aU i).ok (x i)) :
  Calls Tryz.prog 118 #[.agg (cl aU 65 x).toArray] w fun e w' => e = .returned (.bool ((aB aQ).fit x)) ∧ Below w.heap.size w w' := sh127
end
section
theorem rs129 {G : Prop} (h : G := by
 have c2 : (w.alloc (.cells (cl aK 67 x).toArray 80)).cell? ⟨w.heap.size, 2, none⟩ = some (.int .i64 (x 2)) := T0.cell 2 (by decide)
 have HF : Hid ((aB aH).fit x = (decide (1 ≤ x 0 ∧ x 0 ≤ 65535) && (decide (0 ≤ x 1 ∧ x 1 ≤ 4096) && (decide (0 ≤ x 2))))) := aA (by
  simp only [aB, aH, aO, aV, aL, bR, bF, Bool.and_true, Bool.decide_and]
  rw [decide_eq_true (show x 2 ≤ 9223372036854775807 from (hok 2 (by decide)).2)]
  try simp only [Bool.and_true, Bool.and_assoc])
 generalize (aB aH).fit x = R at *
 have HB := aA b0
 clear b0 T0 hok
 generalize hX : cl aK 67 x = X at *
 clear hX
 by_cases h0 : 1 ≤ x 0 ∧ x 0 ≤ 65535
 ·rw [decide_eq_true h0, Bool.true_and] at HF
  have V0 := fun W => eA h0 W
  by_cases h1 : 0 ≤ x 1 ∧ x 1 ≤ 4096
  ·rw [decide_eq_true h1, Bool.true_and] at HF
   have V1 := fun W => eA h1 W
   exact sh89
  ·rw [decide_eq_false h1, Bool.false_and] at HF
   have V1 := fun W => fE h1 W
   clear h1
   exact sh89
 ·exact sh171) : G := h
open Go.Proofs.Tryz renaming func119 → z70a, ntmps119 → z70b, func119 → z89a, ntmps119 → z89b
open Go.Proofs.YtejagcngbgnogaaGreat renaming nq80 → z70c, nq80 → z89c, aK → z148a, nq67 → z148b, nq80 → z148c, gW → z148bQ, gK → z148cQ, rs129 → z148rr
theorem lK (x : Nat → Int) (w : World) (hok : ∀ i, i < 67 → (aK i).ok (x i)) :
  Calls Tryz.prog 119 #[.agg (cl aK 67 x).toArray] w fun e w' => e = .returned (.bool ((aB aH).fit x)) ∧ Below w.heap.size w w' := sh148
end
section
theorem rs130 {G : Prop} (h : G := by
 have HF : Hid ((aB bH).fit x = (decide (1 ≤ x 0 ∧ x 0 ≤ 4096) && (decide (0 ≤ x 1) && (decide (x 1 ≤ 1000000000))))) := aA (by
  simp only [aB, bH, aO, aV, aL, bR, bF, Bool.and_true, Bool.decide_and]
  try simp only [Bool.and_true, Bool.and_assoc])
 generalize (aB bH).fit x = R at *
 have HB := aA b0
 clear b0 T0 hok
 generalize hX : cl bD 34 x = X at *
 clear hX
 by_cases h0 : 1 ≤ x 0 ∧ x 0 ≤ 4096
 ·rw [decide_eq_true h0, Bool.true_and] at HF
  have V0 := fun W => eA h0 W
  by_cases h1 : 0 ≤ x 1
  ·rw [decide_eq_true h1, Bool.true_and] at HF
   exact sh70
  ·rw [decide_eq_false h1, Bool.false_and] at HF
   have g1 : x 1 < 0 := by omega
   exact sh70
 ·exact sh171) : G := h
open Go.Proofs.Tryz renaming func121 → z70a, ntmps121 → z70b
open Go.Proofs.YtejagcngbgnogaaGreat renaming nq84 → z70c, bD → z148a, nq34 → z148b, nq84 → z148c, iP → z148bQ, iD → z148cQ, rs130 → z148rr
theorem qQ (x : Nat → Int) (w : World) (hok : ∀ i, i < 34 → (bD i).ok (x i)) :
  Calls Tryz.prog 121 #[.agg (cl bD 34 x).toArray] w fun e w' => e = .returned (.bool ((aB bH).fit x)) ∧ Below w.heap.size w w' := sh148
end
section
open Go.Proofs.Tryz renaming func123 → z70a, ntmps123 → z70b
open Go.Proofs.YtejagcngbgnogaaGreat renaming nq88 → z70c, bE → z127a, nq97 → z127b, nq88 → z127c, aX → z127d, nq0 → z127e, gU → z127bQ, fY → z127cQ, nqe0 → z127eQ
theorem oB (x : Nat → Int) (w : World) (hok : ∀ i, i < 97 → (bE i).ok (x i)) :
  Calls Tryz.prog 123 #[.agg (cl bE 97 x).toArray] w fun e w' => e = .returned (.bool ((aB aX).fit x)) ∧ Below w.heap.size w w' := sh127
end
end Go.Proofs.YtejagcngbgnogaaGreat

set_option maxHeartbeats 4000000
set_option maxRecDepth 100000
set_option linter.unusedSimpArgs false
set_option linter.unusedVariables false
namespace Go.Proofs.YtejagcngbgnogaaGreat
open Go.RowKit
def REP (L : List Int) (w : World) (e : Ending) (w' : World) : Prop := ∃ s : Sl, e = .returned (.tuple #[s.v, .int .i64 (if L = [] then 2 else 0)]) ∧ s.Ok w' ∧ s.l = L ∧ (∀ x, s.a = some x → w.heap.size ≤ x.block) ∧ Below w.heap.size w w'
theorem REP.nil {w w' : World} (h : Below w.heap.size w w') : REP [] w (.returned (.tuple #[.slice none 0 0, .int .i64 2])) w' :=
 ⟨⟨none, 0, 0, []⟩, rfl, ⟨rfl, Nat.le_refl _, Nat.zero_le _, fun _ => ⟨rfl, rfl⟩, fun x hx => by simp at hx, dW.nil _ _⟩, rfl, fun x hx => by simp at hx, h⟩
theorem Ost.belw {base p : Nat} {lv lv' : Value} {l : List Int} {f : Int} {w W w' : World} (h : Ost base p lv l f W w' lv') (hb : Below w.heap.size w W) (hp : w.heap.size ≤ p) (hl : ∀ k, lv.ownBlock = some k → w.heap.size ≤ k) : Below w.heap.size w w' :=
 hb.trans (h.but.below hb.size (fun k hk => by
  rcases hk with h1 | h1
  ·omega
  ·exact hl k h1))
theorem sJ (x : Nat → Int) (w : World) (hok : ∀ i, i < 99 → (aD i).ok (x i)) :
  Calls Tryz.prog 37 #[.agg (cl aD 99 x).toArray] w (REP (tellL 1 (aB aF) x) w) := by
 have b0 : Below w.heap.size w (w.alloc (.cells (cl aD 99 x).toArray 32)) := aJ w _
 have A0 := Arr.new w 32 (cl aD 99 x)
 have hlt := A0.lt
 have hR : ∀ W : World, (∀ k, k < (w.alloc (.cells (cl aD 99 x).toArray 32)).heap.size → W.heap[k]? = (w.alloc (.cells (cl aD 99 x).toArray 32)).heap[k]?) → W.rangeAt w.heap.size 0 (cl aD 99 x) := fun W h j v hj => by
  rw [Nat.zero_add]
  exact (World.cell?_of_block (h _ hlt)).trans (by rw [A0.cell, hj])
 have HR := aA hR
 have hOf := fun W => iZ x W hok
 have hPut := fun (base p : Nat) (lv : Value) (l : List Int) (W : World) (h : Otr W base p lv l 0) (hm : l.length ≤ 10000) (hb : base ≤ W.heap.size) => oX base p lv l x W h hok hm hb
 have hZ : (Tryz.prog.info? 32).map (·.size) = some (cl aD 99 x).length := by rw [aC]; exact Tryz.szKCert
 have HB := aA b0
 clear b0 A0 hok hR
 generalize cl aD 99 x = X at *
 cases hf : (aB aF).fit x with
 | false =>
  have HL : Hid (tellL 1 (aB aF) x = []) := aA (by unfold tellL; rw [hf]; rfl)
  rw [unhide HL]
  rw [hf] at hOf
  clear hPut hf
  go_enter Tryz.func37, Tryz.ntmps37
  go_upto_region 1 with fail
  generalize w.alloc (.cells X.toArray 32) = W at *
  refine wp_region_lit ?_
  refine wpList_load_mid rfl 32 (.tmp 1) rfl w.heap.size 0 rfl X _ (unhide HR W (fun _ _ => rfl)) Tryz.underlying32 rfl hZ ?_
  exact sh60
 | true =>
  have HL : Hid (tellL 1 (aB aF) x = hdL 1 ++ (aB aF).enc x) := aA (by unfold tellL; rw [hf]; rfl)
  rw [hf] at hOf
  clear hf
  go_enter Tryz.func37, Tryz.ntmps37
  go_upto_region 1 with fail
  generalize w.alloc (.cells X.toArray 32) = W at *
  refine wp_region_lit ?_
  refine wpList_load_mid rfl 32 (.tmp 1) rfl w.heap.size 0 rfl X _ (unhide HR W (fun _ _ => rfl)) Tryz.underlying32 rfl hZ ?_
  simp only [Act.put]
  refine wpList_plain rfl fun K1 hK1 => ?_
  go_simp
  refine (hOf W).mono ?_
  rintro e w1 ⟨rfl, hB1⟩
  clear hOf
  refine hK1 _ _ ?_
  clear hK1 K1
  go_wp2_with fail
  refine (cR 1 w1).mono ?_
  rintro e w2 ⟨p, lv, rfl, hO2, hp2, hB2⟩
  have hW2 : Below W.heap.size W w2 := hB1.trans (hB2.mono hB1.size)
  have hr2 := unhide HR w2 hW2.block
  have hbs : W.heap.size ≤ w1.heap.size := hB1.size
  have hC := hPut w1.heap.size p lv (hdL 1) w2 hO2 (by have := mE 1; omega) hB2.size
  have H2 := aA hW2
  have HO2 := aA hO2
  clear hB1 hB2 hPut hO2 hW2
  go_upto_region 4 with fail
  refine eI ?_
  refine wpList_load_mid rfl 32 (.tmp 1) rfl w.heap.size 0 rfl X _ hr2 Tryz.underlying32 rfl hZ ?_
  simp only [Act.put]
  refine wpList_plain rfl fun K1 hK1 => ?_
  go_simp
  refine hC.mono ?_
  rintro e w3 ⟨rfl, lv3, hA3⟩
  have hH := whole_any _ _ _ _ _ hA3.wtr
  have hW3 : Below W.heap.size W w3 := hA3.belw (unhide H2) (by omega) (fun k hk => by have := (unhide HO2).ges k hk; omega)
  have H3 := aA ((unhide HB).trans (hW3.mono (unhide HB).size))
  clear hC hA3 hr2 hW3 H2 HO2
  refine hK1 _ _ ?_
  clear hK1 K1
  go_wp2_with fail
  refine hH.mono ?_
  rintro e w4 ⟨hB4, s, rfl, hs, hsl, hat⟩
  have hne : tellL 1 (aB aF) x ≠ [] := fun h => by rw [unhide HL] at h; simp [hdL] at h
  have HE : Hid (REP (tellL 1 (aB aF) x) w (.returned (.tuple #[s.v, .int .i64 0])) w4) := aA ⟨s, by rw [if_neg hne], hs, by rw [hsl, unhide HL], fun y hy => by have := hat y hy; have := (unhide HB).size; omega, (unhide H3).trans (hB4.mono (unhide H3).size)⟩
  clear hH hB4 hs hsl hat hne
  exact sh167
structure RSt (w : World) (ty : TypeId) (sh : Nat → Kd) (N : Nat) (x : Nat → Int) (B p : Nat) (lv : Value) (l : List Int) (W : World) : Prop where
 otr : Otr W B p lv l 0
 trm : Trm W w.heap.size ty sh N x
 bel : Below w.heap.size w W
 hp : w.heap.size < p
 hB : w.heap.size < B
 sz : B ≤ W.heap.size
section
variable {w W : World} {ty : TypeId} {sh : Nat → Kd} {N : Nat} {x : Nat → Int} {B p : Nat} {lv : Value} {l : List Int}
theorem RSt.step {W' : World} {l' : List Int} {lv' : Value} (h : RSt w ty sh N x B p lv l W) (k : Ost B p lv l' 0 W W' lv') : RSt w ty sh N x B p lv' l' W' :=
 ⟨k.wtr, h.trm.keep k.but (fun hk => by
  rcases hk with e | e
  ·have := h.hp; omega
  ·have := h.otr.ges _ e; have := h.hB; omega), k.belw h.bel (Nat.le_of_lt h.hp) (fun i hi => by have := h.otr.ges i hi; have := h.hB; omega), h.hp, h.hB, Nat.le_trans h.sz k.but.size⟩
def RPst (w : World) (ty : TypeId) (sh : Nat → Kd) (N : Nat) (x : Nat → Int) (B p : Nat) (l : List Int) (e : Ending) (W' : World) : Prop := e = .returned (.tuple #[]) ∧ ∃ lv', RSt w ty sh N x B p lv' l W'
theorem RSt.post {st : List Int × Int} {l' : List Int} {e : Ending} {W' : World} (h : RSt w ty sh N x B p lv l W) (hs : st = (l', 0)) (k : kW B p lv st W e W') : RPst w ty sh N x B p l' e W' := by
 subst hs
 obtain ⟨e, lv', hO⟩ := k
 exact ⟨e, lv', h.step hO⟩
theorem RSt.cellN (h : RSt w ty sh N x B p lv l W) (a : Nat) (ha : a < N) (hs : sh a = .n) : W.cell? ⟨w.heap.size, a, none⟩ = some (.int .i64 (x a)) := by
 have := h.trm.cell a ha
 rw [hs] at this; exact this
theorem RSt.cellT (h : RSt w ty sh N x B p lv l W) (a : Nat) (ha : a < N) (hs : sh a = .t) : W.cell? ⟨w.heap.size, a, none⟩ = some (.bool (decide (x a ≠ 0))) := by
 have := h.trm.cell a ha
 rw [hs] at this; exact this
theorem RSt.u32 (h : RSt w ty sh N x B p lv l W) (a : Nat) (hm : l.length ≤ 100000) :
  Calls Tryz.prog 110 #[.pointer (some ⟨p, 0, none⟩), .int .u32 (x a % 4294967296)] W (RPst w ty sh N x B p (l ++ beB 4 (x a % 4294967296))) :=
 (iS B p lv l 0 (x a % 4294967296) W h.otr (by omega) (by omega) (by simp [beB, leB]; omega) h.sz).mono fun e W' k => h.post (by simp [bZ]) k
theorem RSt.u64 (h : RSt w ty sh N x B p lv l W) (a : Nat) (hm : l.length ≤ 100000) :
  Calls Tryz.prog 122 #[.pointer (some ⟨p, 0, none⟩), .int .u64 (x a % 18446744073709551616)] W (RPst w ty sh N x B p (l ++ beB 8 (x a % 18446744073709551616))) :=
 (oU64_any B p lv l 0 (x a % 18446744073709551616) W h.otr (by omega) (by omega) (by simp [beB, leB]; omega) h.sz).mono fun e W' k => h.post (by simp [bZ]) k
theorem RSt.bit (h : RSt w ty sh N x B p lv l W) (b : Bool) (hm : l.length ≤ 100000) :
  Calls Tryz.prog 113 #[.pointer (some ⟨p, 0, none⟩), .bool b] W (RPst w ty sh N x B p (l ++ [if b then 1 else 0])) :=
 (oBool_any B p lv l 0 b W h.otr (by simp; omega) h.sz).mono fun e W' k => h.post (by simp [bZ]) k
theorem RSt.fix (h : RSt w ty sh N x B p lv l W) (a n : Nat) (ha : a + n ≤ N) (hs : ∀ i, i < n → sh (a + i) = .b) (hn : n ≤ 1000) (hm : l.length ≤ 100000) :
  Calls Tryz.prog 111 #[.pointer (some ⟨p, 0, none⟩), .slice (some ⟨w.heap.size, a, none⟩) n n] W (RPst w ty sh N x B p (l ++ run x a n)) := by
 have hSg : Seg sh N sh N 0 := ⟨by omega, fun j hj => by rw [Nat.zero_add]⟩
 have hs := fsl_ok h.trm hSg (a := a) (n := n) ha hs hn
 have hC := jW B p lv l 0 (fsl w.heap.size 0 a n x) W h.otr hs (by simp only [fsl]; omega) h.sz
 have hv : (fsl w.heap.size 0 a n x).v = .slice (some ⟨w.heap.size, a, none⟩) n n := by simp [fsl, Sl.v]
 rw [hv] at hC
 exact hC.mono fun e W' k => h.post (by simp [bZ, fsl, bF]) k
theorem RSt.cert (h : RSt w ty sh N x B p lv l W) (hS : Seg aD 99 sh N 0) (hm : l.length ≤ 10000) :
  Calls Tryz.prog 107 #[.pointer (some ⟨p, 0, none⟩), .agg (cl aD 99 x).toArray] W (RPst w ty sh N x B p (l ++ (aB aF).enc x)) :=
 (oX B p lv l x W h.otr (fun i hi => by have := h.trm.ok i (by have := hS.le; omega); have e := hS.eq i hi; rw [Nat.zero_add] at e; rw [e] at this; exact this) hm h.sz).mono fun e W' k => h.post rfl k
theorem RSt.sayCert (h : RSt w ty sh N x B p lv l W) (hS : Seg aD 99 sh N 0) (hm : l.length ≤ 10000) :
  Calls Tryz.prog 131 #[.pointer (some ⟨p, 0, none⟩), .agg (cl aD 99 x).toArray] W (RPst w ty sh N x B p (l ++ (aB (aF.take 4)).enc x)) :=
 (oW B p lv l x W h.otr (fun i hi => by have := h.trm.ok i (by have := hS.le; omega); have e := hS.eq i hi; rw [Nat.zero_add] at e; rw [e] at this; exact this) (by omega) h.sz).mono fun e W' k => h.post rfl k
theorem RSt.part (h : RSt w ty sh N x B p lv l W) {sT : Nat → Kd} {nT : Nat} (hS : Seg sT nT sh N 0) : W.rangeAt w.heap.size 0 (cl sT nT x) := by
 have := h.trm.part hS
 rw [bF] at this; exact this
theorem RSt.whole (h : RSt w ty sh N x B p lv l W) :
  Calls Tryz.prog 108 #[.pointer (some ⟨p, 0, none⟩)] W fun e w' => ∃ s : Sl, e = .returned s.v ∧ s.Ok w' ∧ s.l = l ∧ (∀ y, s.a = some y → w.heap.size ≤ y.block) ∧ Below w.heap.size w w' :=
 (whole_any B p lv l W h.otr).mono fun e w' ⟨hB, s, he, hs, hl, ha⟩ => ⟨s, he, hs, hl, fun y hy => by have := ha y hy; have := h.hB; omega, h.bel.trans (hB.mono h.bel.size)⟩
theorem RSt.new {w1 w2 : World} {X : Array Value} {d : Int} (hT : Trm (w.alloc (.cells X ty)) w.heap.size ty sh N x) (h1 : Below (w.alloc (.cells X ty)).heap.size (w.alloc (.cells X ty)) w1) (hO : Otr w2 w1.heap.size p lv (hdL d) 0) (hp : w1.heap.size ≤ p) (h2 : Below w1.heap.size w1 w2) : RSt w ty sh N x w1.heap.size p lv (hdL d) w2 := by
 have b0 : Below w.heap.size w (w.alloc (.cells X ty)) := aJ w _
 have hlt := hT.arr.lt
 have hs := h1.size
 have b2 := h1.trans (h2.mono h1.size)
 exact ⟨hO, hT.later b2, b0.trans (b2.mono b0.size), by omega, by omega, h2.size⟩
end
theorem rsAck {w W : World} {x : Nat → Int} {B p : Nat} {lv : Value} {l : List Int} (h : RSt w 69 bI 99 x B p lv l W) (hm : l.length ≤ 10000) :
  Calls Tryz.prog 116 #[.pointer (some ⟨p, 0, none⟩), .agg (cl bI 99 x).toArray] W (RPst w 69 bI 99 x B p (l ++ (aB (aZ.take 4)).enc x)) :=
 (rSayAck_any B p lv l x W h.otr h.trm.ok (by omega) h.sz).mono fun e W' k => h.post rfl k
theorem rsReceipt {w W : World} {x : Nat → Int} {B p : Nat} {lv : Value} {l : List Int} (h : RSt w 80 aK 67 x B p lv l W) (hm : l.length ≤ 10000) :
  Calls Tryz.prog 120 #[.pointer (some ⟨p, 0, none⟩), .agg (cl aK 67 x).toArray] W (RPst w 80 aK 67 x B p (l ++ (aB (aH.take 3)).enc x)) :=
 (sH B p lv l x W h.otr h.trm.ok (by omega) h.sz).mono fun e W' k => h.post rfl k
def RSP (L : List Int) (w : World) (e : Ending) (w' : World) : Prop := ∃ s : Sl, e = .returned s.v ∧ s.Ok w' ∧ s.l = L ∧ (∀ x, s.a = some x → w.heap.size ≤ x.block) ∧ Below w.heap.size w w'
theorem RSP.nil {w w' : World} (h : Below w.heap.size w w') : RSP [] w (.returned (.slice none 0 0)) w' :=
 ⟨⟨none, 0, 0, []⟩, rfl, ⟨rfl, Nat.le_refl _, Nat.zero_le _, fun _ => ⟨rfl, rfl⟩, fun x hx => by simp at hx, dW.nil _ _⟩, rfl, fun x hx => by simp at hx, h⟩
end Go.Proofs.YtejagcngbgnogaaGreat
