import Derived.Test.YtejagcngbgnogaaGreatQShr
import Derived.Test.YtejagcngbgnogaaGreatQGboZ
import Derived.Test.YtejagcngbgnogaaGreatQGbpZ
import Derived.Test.YtejagcngbgnogaaGreatQGbqZ
import Derived.Test.YtejagcngbgnogaaGreatQGbrZ
import Derived.Test.YtejagcngbgnogaaGreatQGbtZ
import Derived.Test.YtejagcngbgnogaaGreatQGbvZ
import Derived.Test.YtejagcngbgnogaaGreatQRscB
import Derived.Test.YtejagcngbgnogaaGreatQGawZ
set_option linter.unusedSimpArgs false
set_option linter.unusedVariables false
namespace Go.Proofs.YtejagcngbgnogaaGreat
open Go.RowKit
theorem oH {P : Program} {f : FuncId} {args : Array Value} {w : World} {R : Ending → World → Prop} (h : Calls P f args w R) : ∃ e w', R e w' := by
 obtain ⟨e, w', _, hR, _⟩ := h []
 exact ⟨e, w', hR⟩
def EK (k : Int) (x : Nat → Int) : List (List Int × List Int) :=
 if k = 1 then [cT x] else if k = 2 then [cT x] else if k = 3 then entE x else if k = 4 then [cT x, (tellL 4 (aB (aM.take 1)) x, run x 99 64)] else if k = 5 then [(tellL 5 (aB (aZ.take 4)) x, run x 35 64)] else if k = 6 then [cT x, (tellL 6 (aB (aE.take 1)) x, run x 99 64)] else if k = 7 then [(tellL 7 (aB (aQ.take 1)) x, run x 1 64)] else if k = 8 then [(tellL 8 (aB (aH.take 3)) x, run x 3 64)] else if k = 9 then [] else [(tellL 10 (aB (aX.take 2)) x, run x 33 64)]
def sgd (l : List Int) : List (List Int × List Int) × Int := if (domL l).2 ≠ 0 then ([], (domL l).2) else (sgE (decL (domL l).1 (fK (domL l).1) l).2 (EK (domL l).1 (decL (domL l).1 (fK (domL l).1) l).1), (decL (domL l).1 (fK (domL l).1) l).2)
theorem domL_in {l : List Int} (h : (domL l).2 = 0) : 1 ≤ (domL l).1 ∧ (domL l).1 ≤ 10 := by
 unfold domL at *
 split at h
 ·rename_i h0
  split at h
  ·simp at h
  ·rename_i h1
   rw [if_pos h0, if_neg h1]; simp only; omega
 ·rename_i h0; exact absurd h h0
def PSg (E : List (List Int × List Int)) (k : Int) (w : World) (e : Ending) (w' : World) : Prop := ∃ v1 v2 vs, e = .returned (.tuple #[v1, v2, .int .i64 k]) ∧ Sads w' w.heap.size v1 v2 vs E ∧ Below w.heap.size w w'
theorem PSg.no {k : Int} {w w' : World} {e : Ending} (h : SNo k w e w') : PSg [] k w e w' := ⟨_, _, [], h.1, Sads.nil _ _, h.2⟩
theorem PSg.yes {E : List (List Int × List Int)} {w w' : World} {e : Ending} (h : SPost E w e w') : PSg E 0 w e w' := h
theorem dec_zero {d : Int} {f : FdS} {l : List Int} (h : (decL d f l).2 ≠ 0) : decL d f l = (fun _ => 0, (decL d f l).2) := by
 unfold decL at *
 split
 ·rename_i h0
  rw [if_pos h0] at h
  split
  ·rename_i h1
   rw [if_pos h1] at h
   split
   ·split
    ·rename_i y he hf
     rw [he] at h
     simp only at h
     rw [if_pos hf] at h
     simp at h
    ·rfl
   ·rfl
  ·rfl
 ·rfl
theorem entE_len (x : Nat → Int) : (entE x).length ≤ 10 := by
 unfold entE
 split <;> split <;> simp
theorem EK_1 (x : Nat → Int) : EK 1 x = [cT x] := by unfold EK; simp
theorem fK_1 : fK 1 = aB aF := by unfold fK; simp
section
open Go.Proofs.YtejagcngbgnogaaGreat renaming nq99 → z43a, aD → z43b, nq1 → z43c, aF → z43d, nQ → z43e, EK_1 → z43f, parts_Cert → z43g, partsN_Cert → z43h, dI → z43aQ, fQ → z43cQ
theorem pSaid_1 (b : Sl) (w : World) (hb : b.Ok w) (hd : domL b.l = (1, 0)) : Calls Tryz.prog 83 #[b.v] w (PSg (sgE (decL 1 (aB aF) b.l).2 (EK 1 (decL 1 (aB aF) b.l).1)) (decL 1 (aB aF) b.l).2 w) := sh43
end
theorem rSaidK_1 (b : Sl) (w : World) (hb : b.Ok w) (hm : b.n ≤ 1000000) (hd : domL b.l = (1, 0)) : Calls Tryz.prog 84 #[b.v] w (RSg (sgE (decL 1 (aB aF) b.l).2 (EK 1 (decL 1 (aB aF) b.l).1)) (decL 1 (aB aF) b.l).2 w) := by
 rw [EK_1]
 exact rSaid_c b w hb 1 _ _ hd (by decide) (fun W hW => armCert b W (hb.later hW) hm)
theorem EK_2 (x : Nat → Int) : EK 2 x = [cT x] := by unfold EK; simp
theorem fK_2 : fK 2 = aB aY := by unfold fK; simp
section
open Go.Proofs.YtejagcngbgnogaaGreat renaming nq132 → z43a, aS → z43b, nq2 → z43c, aY → z43d, mI → z43e, EK_2 → z43f, parts_Ticket → z43g, partsN_Ticket → z43h, fV → z43aQ, nqe2 → z43cQ
theorem pSaid_2 (b : Sl) (w : World) (hb : b.Ok w) (hd : domL b.l = (2, 0)) : Calls Tryz.prog 83 #[b.v] w (PSg (sgE (decL 2 (aB aY) b.l).2 (EK 2 (decL 2 (aB aY) b.l).1)) (decL 2 (aB aY) b.l).2 w) := sh43
end
theorem rSaidK_2 (b : Sl) (w : World) (hb : b.Ok w) (hm : b.n ≤ 1000000) (hd : domL b.l = (2, 0)) : Calls Tryz.prog 84 #[b.v] w (RSg (sgE (decL 2 (aB aY) b.l).2 (EK 2 (decL 2 (aB aY) b.l).1)) (decL 2 (aB aY) b.l).2 w) := by
 rw [EK_2]
 exact rSaid_c b w hb 2 _ _ hd (by decide) (fun W hW => armTicket b W (hb.later hW) hm)
theorem EK_3 (x : Nat → Int) : EK 3 x = entE x := by unfold EK; simp
theorem fK_3 : fK 3 = aB aT := by unfold fK; simp
theorem pSaid_3 (b : Sl) (w : World) (hb : b.Ok w) (hd : domL b.l = (3, 0)) : Calls Tryz.prog 83 #[b.v] w (PSg (sgE (decL 3 (aB aT) b.l).2 (EK 3 (decL 3 (aB aT) b.l).1)) (decL 3 (aB aT) b.l).2 w) := by
 have hok : ∀ i, i < 262 → (aI i).ok ((decL 3 (aB aT) b.l).1 i) := by
  obtain ⟨e, w', -, h, -⟩ := oH (mY b w hb)
  exact h
 rw [EK_3]
 by_cases h0 : (decL 3 (aB aT) b.l).2 = 0
 ·have hz : decL 3 (aB aT) b.l = ((decL 3 (aB aT) b.l).1, 0) := by rw [← h0]
  have := said_all b w hb 3 _ (entE_len _) hd (fun W hW => parts_Entry W b (hb.later hW) _ _ hz (fun _ _ => rfl) hok)
  rw [h0]
  exact this.mono fun e w' h => PSg.yes h
 ·have hz : decL 3 (aB aT) b.l = (fun _ => 0, (decL 3 (aB aT) b.l).2) := dec_zero h0
  have hs : ∀ E, sgE (decL 3 (aB aT) b.l).2 E = [] := fun E => by unfold sgE; rw [if_neg h0]
  rw [hs]
  exact (said_no b w hb 3 _ h0 hd (fun W hW => partsN_Entry W b (hb.later hW) _ h0 hz)).mono fun e w' h => PSg.no h
theorem rSaidK_3 (b : Sl) (w : World) (hb : b.Ok w) (hm : b.n ≤ 1000000) (hd : domL b.l = (3, 0)) : Calls Tryz.prog 84 #[b.v] w (RSg (sgE (decL 3 (aB aT) b.l).2 (EK 3 (decL 3 (aB aT) b.l).1)) (decL 3 (aB aT) b.l).2 w) := by
 rw [EK_3]
 exact rSaid_c b w hb 3 _ _ hd (by decide) (fun W hW => armEntry b W (hb.later hW) hm)
theorem EK_4 (x : Nat → Int) : EK 4 x = [cT x, (tellL 4 (aB (aM.take 1)) x, run x 99 64)] := by unfold EK; simp
theorem fK_4 : fK 4 = aB aM := by unfold fK; simp
section
open Go.Proofs.YtejagcngbgnogaaGreat renaming nq163 → z43a, aR → z43b, nq4 → z43c, aM → z43d, mJ → z43e, EK_4 → z43f, parts_Freeze → z43g, partsN_Freeze → z43h, dK → z43aQ, nqe4 → z43cQ
theorem pSaid_4 (b : Sl) (w : World) (hb : b.Ok w) (hd : domL b.l = (4, 0)) : Calls Tryz.prog 83 #[b.v] w (PSg (sgE (decL 4 (aB aM) b.l).2 (EK 4 (decL 4 (aB aM) b.l).1)) (decL 4 (aB aM) b.l).2 w) := sh43
end
theorem rSaidK_4 (b : Sl) (w : World) (hb : b.Ok w) (hm : b.n ≤ 1000000) (hd : domL b.l = (4, 0)) : Calls Tryz.prog 84 #[b.v] w (RSg (sgE (decL 4 (aB aM) b.l).2 (EK 4 (decL 4 (aB aM) b.l).1)) (decL 4 (aB aM) b.l).2 w) := by
 rw [EK_4]
 exact rSaid_c b w hb 4 _ _ hd (by decide) (fun W hW => armFreeze b W (hb.later hW) hm)
theorem EK_5 (x : Nat → Int) : EK 5 x = [(tellL 5 (aB (aZ.take 4)) x, run x 35 64)] := by unfold EK; simp
theorem fK_5 : fK 5 = aB aZ := by unfold fK; simp
section
open Go.Proofs.YtejagcngbgnogaaGreat renaming nq99 → z43a, bI → z43b, nq5 → z43c, aZ → z43d, oJ → z43e, EK_5 → z43f, parts_Ack → z43g, partsN_Ack → z43h, dI → z43aQ, nqe5 → z43cQ
theorem pSaid_5 (b : Sl) (w : World) (hb : b.Ok w) (hd : domL b.l = (5, 0)) : Calls Tryz.prog 83 #[b.v] w (PSg (sgE (decL 5 (aB aZ) b.l).2 (EK 5 (decL 5 (aB aZ) b.l).1)) (decL 5 (aB aZ) b.l).2 w) := sh43
end
theorem rSaidK_5 (b : Sl) (w : World) (hb : b.Ok w) (hm : b.n ≤ 1000000) (hd : domL b.l = (5, 0)) : Calls Tryz.prog 84 #[b.v] w (RSg (sgE (decL 5 (aB aZ) b.l).2 (EK 5 (decL 5 (aB aZ) b.l).1)) (decL 5 (aB aZ) b.l).2 w) := by
 rw [EK_5]
 exact nJ b w hb 5 _ _ hd (by decide) (by decide) (fun W hW => armAck b W (hb.later hW) hm)
theorem EK_6 (x : Nat → Int) : EK 6 x = [cT x, (tellL 6 (aB (aE.take 1)) x, run x 99 64)] := by unfold EK; simp
theorem fK_6 : fK 6 = aB aE := by unfold fK; simp
section
open Go.Proofs.YtejagcngbgnogaaGreat renaming nq163 → z43a, aG → z43b, nq6 → z43c, aE → z43d, kB → z43e, EK_6 → z43f, rH → z43g, qA → z43h, dK → z43aQ, nqe6 → z43cQ
theorem pSaid_6 (b : Sl) (w : World) (hb : b.Ok w) (hd : domL b.l = (6, 0)) : Calls Tryz.prog 83 #[b.v] w (PSg (sgE (decL 6 (aB aE) b.l).2 (EK 6 (decL 6 (aB aE) b.l).1)) (decL 6 (aB aE) b.l).2 w) := sh43
end
theorem rSaidK_6 (b : Sl) (w : World) (hb : b.Ok w) (hm : b.n ≤ 1000000) (hd : domL b.l = (6, 0)) : Calls Tryz.prog 84 #[b.v] w (RSg (sgE (decL 6 (aB aE) b.l).2 (EK 6 (decL 6 (aB aE) b.l).1)) (decL 6 (aB aE) b.l).2 w) := by
 rw [EK_6]
 exact rSaid_6 b w hb _ _ hd (fun W hW => armRevocation b W (hb.later hW) hm)
theorem EK_7 (x : Nat → Int) : EK 7 x = [(tellL 7 (aB (aQ.take 1)) x, run x 1 64)] := by unfold EK; simp
theorem fK_7 : fK 7 = aB aQ := by unfold fK; simp
section
open Go.Proofs.YtejagcngbgnogaaGreat renaming nq65 → z43a, aU → z43b, nq7 → z43c, aQ → z43d, mX → z43e, EK_7 → z43f, parts_Floor → z43g, partsN_Floor → z43h, dP → z43aQ, nqe7 → z43cQ
theorem pSaid_7 (b : Sl) (w : World) (hb : b.Ok w) (hd : domL b.l = (7, 0)) : Calls Tryz.prog 83 #[b.v] w (PSg (sgE (decL 7 (aB aQ) b.l).2 (EK 7 (decL 7 (aB aQ) b.l).1)) (decL 7 (aB aQ) b.l).2 w) := sh43
end
theorem rSaidK_7 (b : Sl) (w : World) (hb : b.Ok w) (hm : b.n ≤ 1000000) (hd : domL b.l = (7, 0)) : Calls Tryz.prog 84 #[b.v] w (RSg (sgE (decL 7 (aB aQ) b.l).2 (EK 7 (decL 7 (aB aQ) b.l).1)) (decL 7 (aB aQ) b.l).2 w) := by
 rw [EK_7]
 exact nJ b w hb 7 _ _ hd (by decide) (by decide) (fun W hW => armFloor b W (hb.later hW) hm)
theorem EK_8 (x : Nat → Int) : EK 8 x = [(tellL 8 (aB (aH.take 3)) x, run x 3 64)] := by unfold EK; simp
theorem fK_8 : fK 8 = aB aH := by unfold fK; simp
section
open Go.Proofs.YtejagcngbgnogaaGreat renaming nq67 → z43a, aK → z43b, nq8 → z43c, aH → z43d, lP → z43e, EK_8 → z43f, parts_Receipt → z43g, tW → z43h, gW → z43aQ, nqe8 → z43cQ
theorem pSaid_8 (b : Sl) (w : World) (hb : b.Ok w) (hd : domL b.l = (8, 0)) : Calls Tryz.prog 83 #[b.v] w (PSg (sgE (decL 8 (aB aH) b.l).2 (EK 8 (decL 8 (aB aH) b.l).1)) (decL 8 (aB aH) b.l).2 w) := sh43
end
theorem rSaidK_8 (b : Sl) (w : World) (hb : b.Ok w) (hm : b.n ≤ 1000000) (hd : domL b.l = (8, 0)) : Calls Tryz.prog 84 #[b.v] w (RSg (sgE (decL 8 (aB aH) b.l).2 (EK 8 (decL 8 (aB aH) b.l).1)) (decL 8 (aB aH) b.l).2 w) := by
 rw [EK_8]
 exact nJ b w hb 8 _ _ hd (by decide) (by decide) (fun W hW => armReceipt b W (hb.later hW) hm)
theorem EK_9 (x : Nat → Int) : EK 9 x = [] := by unfold EK; simp
theorem fK_9 : fK 9 = aB bH := by unfold fK; simp
section
open Go.Proofs.YtejagcngbgnogaaGreat renaming nq34 → z43a, bD → z43b, nq9 → z43c, bH → z43d, mW → z43e, EK_9 → z43f, parts_Order → z43g, partsN_Order → z43h, iP → z43aQ, nqe9 → z43cQ
theorem pSaid_9 (b : Sl) (w : World) (hb : b.Ok w) (hd : domL b.l = (9, 0)) : Calls Tryz.prog 83 #[b.v] w (PSg (sgE (decL 9 (aB bH) b.l).2 (EK 9 (decL 9 (aB bH) b.l).1)) (decL 9 (aB bH) b.l).2 w) := sh43
end
theorem rSaidK_9 (b : Sl) (w : World) (hb : b.Ok w) (hm : b.n ≤ 1000000) (hd : domL b.l = (9, 0)) : Calls Tryz.prog 84 #[b.v] w (RSg (sgE (decL 9 (aB bH) b.l).2 (EK 9 (decL 9 (aB bH) b.l).1)) (decL 9 (aB bH) b.l).2 w) := by
 rw [EK_9]
 exact nJ b w hb 9 _ _ hd (by decide) (by decide) (fun W hW => armOrder b W (hb.later hW) hm)
theorem EK_10 (x : Nat → Int) : EK 10 x = [(tellL 10 (aB (aX.take 2)) x, run x 33 64)] := by unfold EK; simp
theorem fK_10 : fK 10 = aB aX := by unfold fK; simp
section
open Go.Proofs.YtejagcngbgnogaaGreat renaming nq97 → z43a, bE → z43b, nq10 → z43c, aX → z43d, nO → z43e, EK_10 → z43f, parts_Head → z43g, partsN_Head → z43h, gU → z43aQ, nqe10 → z43cQ
theorem pSaid_10 (b : Sl) (w : World) (hb : b.Ok w) (hd : domL b.l = (10, 0)) : Calls Tryz.prog 83 #[b.v] w (PSg (sgE (decL 10 (aB aX) b.l).2 (EK 10 (decL 10 (aB aX) b.l).1)) (decL 10 (aB aX) b.l).2 w) := sh43
end
theorem rSaidK_10 (b : Sl) (w : World) (hb : b.Ok w) (hm : b.n ≤ 1000000) (hd : domL b.l = (10, 0)) : Calls Tryz.prog 84 #[b.v] w (RSg (sgE (decL 10 (aB aX) b.l).2 (EK 10 (decL 10 (aB aX) b.l).1)) (decL 10 (aB aX) b.l).2 w) := by
 rw [EK_10]
 exact nJ b w hb 10 _ _ hd (by decide) (by decide) (fun W hW => armHead b W (hb.later hW) hm)
theorem pSaid_any (b : Sl) (w : World) (hb : b.Ok w) : Calls Tryz.prog 83 #[b.v] w (PSg (sgd b.l).1 (sgd b.l).2 w) := by
 unfold sgd
 by_cases h0 : (domL b.l).2 ≠ 0
 ·rw [if_pos h0]
  exact (said_far b w hb _ h0 rfl).mono fun e w' h => PSg.no h
 rw [if_neg h0]
 have h0 : (domL b.l).2 = 0 := by omega
 have hr := domL_in h0
 rcases (by omega : (domL b.l).1 = 1 ∨ (domL b.l).1 = 2 ∨ (domL b.l).1 = 3 ∨ (domL b.l).1 = 4 ∨ (domL b.l).1 = 5 ∨ (domL b.l).1 = 6 ∨ (domL b.l).1 = 7 ∨ (domL b.l).1 = 8 ∨ (domL b.l).1 = 9 ∨ (domL b.l).1 = 10) with hk | hk | hk | hk | hk | hk | hk | hk | hk | hk
 ·have e : domL b.l = (1, 0) := Prod.ext hk h0
  rw [e]
  simp only
  rw [fK_1]
  exact pSaid_1 b w hb e
 ·have e : domL b.l = (2, 0) := Prod.ext hk h0
  rw [e]
  simp only
  rw [fK_2]
  exact pSaid_2 b w hb e
 ·have e : domL b.l = (3, 0) := Prod.ext hk h0
  rw [e]
  simp only
  rw [fK_3]
  exact pSaid_3 b w hb e
 ·have e : domL b.l = (4, 0) := Prod.ext hk h0
  rw [e]
  simp only
  rw [fK_4]
  exact pSaid_4 b w hb e
 ·have e : domL b.l = (5, 0) := Prod.ext hk h0
  rw [e]
  simp only
  rw [fK_5]
  exact pSaid_5 b w hb e
 ·have e : domL b.l = (6, 0) := Prod.ext hk h0
  rw [e]
  simp only
  rw [fK_6]
  exact pSaid_6 b w hb e
 ·have e : domL b.l = (7, 0) := Prod.ext hk h0
  rw [e]
  simp only
  rw [fK_7]
  exact pSaid_7 b w hb e
 ·have e : domL b.l = (8, 0) := Prod.ext hk h0
  rw [e]
  simp only
  rw [fK_8]
  exact pSaid_8 b w hb e
 ·have e : domL b.l = (9, 0) := Prod.ext hk h0
  rw [e]
  simp only
  rw [fK_9]
  exact pSaid_9 b w hb e
 ·have e : domL b.l = (10, 0) := Prod.ext hk h0
  rw [e]
  simp only
  rw [fK_10]
  exact pSaid_10 b w hb e
theorem rSaid_any (b : Sl) (w : World) (hb : b.Ok w) (hm : b.n ≤ 1000000) : Calls Tryz.prog 84 #[b.v] w (RSg (sgd b.l).1 (sgd b.l).2 w) := by
 unfold sgd
 by_cases h0 : (domL b.l).2 ≠ 0
 ·rw [if_pos h0]
  exact rSaid_far b w hb _ h0 rfl
 rw [if_neg h0]
 have h0 : (domL b.l).2 = 0 := by omega
 have hr := domL_in h0
 rcases (by omega : (domL b.l).1 = 1 ∨ (domL b.l).1 = 2 ∨ (domL b.l).1 = 3 ∨ (domL b.l).1 = 4 ∨ (domL b.l).1 = 5 ∨ (domL b.l).1 = 6 ∨ (domL b.l).1 = 7 ∨ (domL b.l).1 = 8 ∨ (domL b.l).1 = 9 ∨ (domL b.l).1 = 10) with hk | hk | hk | hk | hk | hk | hk | hk | hk | hk
 ·have e : domL b.l = (1, 0) := Prod.ext hk h0
  rw [e]
  simp only
  rw [fK_1]
  exact rSaidK_1 b w hb hm e
 ·have e : domL b.l = (2, 0) := Prod.ext hk h0
  rw [e]
  simp only
  rw [fK_2]
  exact rSaidK_2 b w hb hm e
 ·have e : domL b.l = (3, 0) := Prod.ext hk h0
  rw [e]
  simp only
  rw [fK_3]
  exact rSaidK_3 b w hb hm e
 ·have e : domL b.l = (4, 0) := Prod.ext hk h0
  rw [e]
  simp only
  rw [fK_4]
  exact rSaidK_4 b w hb hm e
 ·have e : domL b.l = (5, 0) := Prod.ext hk h0
  rw [e]
  simp only
  rw [fK_5]
  exact rSaidK_5 b w hb hm e
 ·have e : domL b.l = (6, 0) := Prod.ext hk h0
  rw [e]
  simp only
  rw [fK_6]
  exact rSaidK_6 b w hb hm e
 ·have e : domL b.l = (7, 0) := Prod.ext hk h0
  rw [e]
  simp only
  rw [fK_7]
  exact rSaidK_7 b w hb hm e
 ·have e : domL b.l = (8, 0) := Prod.ext hk h0
  rw [e]
  simp only
  rw [fK_8]
  exact rSaidK_8 b w hb hm e
 ·have e : domL b.l = (9, 0) := Prod.ext hk h0
  rw [e]
  simp only
  rw [fK_9]
  exact rSaidK_9 b w hb hm e
 ·have e : domL b.l = (10, 0) := Prod.ext hk h0
  rw [e]
  simp only
  rw [fK_10]
  exact rSaidK_10 b w hb hm e
theorem sgd_len (l : List Int) : (sgd l).1.length ≤ 3 := by
 have h : ∀ (k : Int) (x : Nat → Int), (EK k x).length ≤ 3 := fun k x => by
  unfold EK
  repeat' split
  all_goals first
   | simp
   | (unfold entE; split <;> split <;> simp)
 unfold sgd
 split
 ·simp
 ·simp only [sgE]
  split
  ·exact h _ _
  ·simp
end Go.Proofs.YtejagcngbgnogaaGreat

set_option linter.unusedSimpArgs false
set_option linter.unusedVariables false
namespace Go.Proofs.YtejagcngbgnogaaGreat
open Go.RowKit
def slOf (v : Value) (l : List Int) : Sl := match v with
 | .slice a n c => ⟨a, n, c, l⟩
 | _ => ⟨none, 0, 0, l⟩
theorem slOf_v {w : World} {base e sz n : Nat} {v : Value} {xs : List Value} (h : w.ownsRow base e sz v n xs) (l : List Int) : (slOf v l).v = v ∧ (slOf v l).n = n ∧ (slOf v l).l = l := by
 obtain ⟨a, c, rfl⟩ := bK h
 exact ⟨rfl, rfl, rfl⟩
structure Prs2 (n : Nat) (B0 B1 : Nat) (vs us : List Value) (p q : Nat → Sl) (w2 : World) : Prop where
 po : ∀ i, i < n → cI w2 B0 (p i).v (p i).l
 pn : ∀ i, i < n → (p i).n = (p i).l.length
 pl : ∀ i, i < n → ∀ g, (p i).v.ownBlock = some g → g < B1
 qo : ∀ i, i < n → (q i).Ok w2
 ql : ∀ i, i < n → ∀ y, (q i).a = some y → B1 ≤ y.block
 eq : ∀ i, i < n → (p i).l = (q i).l
 vs : ∀ i, i < n → vs[i]? = some (p i).v
 us : ∀ i, i < n → us[i]? = some (q i).v
 pp : ∀ i j, i < n → j < n → i ≠ j → ∀ g, (p i).v.ownBlock = some g → (p j).v.ownBlock ≠ some g
theorem prs2_of {E : List (List Int × List Int)} {w0 w1 w2 : World} {V1 V2 U1 U2 : Value} {vs : List Value} {ss : List Sl} (hp : Sads w1 w0.heap.size V1 V2 vs E) (hq : RSads w2 w1.heap.size U1 U2 ss E) (hb : Below w1.heap.size w1 w2) :
  ∃ p q, Prs2 E.length w0.heap.size w1.heap.size vs (ss.map (·.v)) p q w2 ∧ ∀ i, i < E.length → (p i).l = (E.getD i ([], [])).1 := by
 have hE : ∀ i, i < E.length → E[i]? = some (E.getD i ([], [])) := fun i hi => by rw [List.getD_eq_getElem?_getD, List.getElem?_eq_getElem hi]; rfl
 have hv : ∀ i, i < E.length → vs[i]? = some (vs.getD i (.slice none 0 0)) ∧ cI w1 w0.heap.size (vs.getD i (.slice none 0 0)) (E.getD i ([], [])).1 := fun i hi => by
  obtain ⟨v, h1, h2, -⟩ := hp.each i _ (hE i hi)
  have : vs.getD i (.slice none 0 0) = v := by rw [List.getD_eq_getElem?_getD, h1]; rfl
  rw [this]; exact ⟨h1, h2⟩
 have hs : ∀ i, i < E.length → ss[i]? = some (ss.getD i ⟨none, 0, 0, []⟩) ∧ (ss.getD i ⟨none, 0, 0, []⟩).Ok w2 ∧ (ss.getD i ⟨none, 0, 0, []⟩).l = (E.getD i ([], [])).1 := fun i hi => by
  obtain ⟨s, h1, h2, h3, -⟩ := hq.each i _ (hE i hi)
  have : ss.getD i ⟨none, 0, 0, []⟩ = s := by rw [List.getD_eq_getElem?_getD, h1]; rfl
  rw [this]; exact ⟨h1, h2, h3⟩
 have hf : ∀ i, i < E.length → (slOf (vs.getD i (.slice none 0 0)) (E.getD i ([], [])).1).v = vs.getD i (.slice none 0 0) ∧ (slOf (vs.getD i (.slice none 0 0)) (E.getD i ([], [])).1).n = (E.getD i ([], [])).1.length ∧ (slOf (vs.getD i (.slice none 0 0)) (E.getD i ([], [])).1).l = (E.getD i ([], [])).1 := fun i hi => slOf_v (hv i hi).2.1 _
 refine ⟨fun i => slOf (vs.getD i (.slice none 0 0)) (E.getD i ([], [])).1, fun i => ss.getD i ⟨none, 0, 0, []⟩, ⟨fun i hi => ?_, fun i hi => ?_, fun i hi g hg => ?_, fun i hi => (hs i hi).2.1, fun i hi y hy => ?_, fun i hi => ?_, fun i hi => ?_, fun i hi => ?_, fun i j hi hj hij g hg e => ?_⟩, fun i hi => (hf i hi).2.2⟩
 ·rw [(hf i hi).1, (hf i hi).2.2]; exact (hv i hi).2.later hb
 ·rw [(hf i hi).2.1, (hf i hi).2.2]
 ·rw [(hf i hi).1] at hg; exact ((hv i hi).2.1.lt g hg).2
 ·exact (hq.off _ (List.mem_of_getElem? (hs i hi).1)).2.2.2 y hy
 ·rw [(hf i hi).2.2]; exact (hs i hi).2.2.symm
 ·rw [(hf i hi).1]; exact (hv i hi).1
 ·rw [List.getElem?_map, (hs i hi).1]; rfl
 ·rw [(hf i hi).1] at hg
  rw [(hf j hj).1] at e
  have gi := (hv i hi).1
  have gj := (hv j hj).1
  obtain ⟨li, ei⟩ := List.getElem?_eq_some_iff.1 gi
  obtain ⟨lj, ej⟩ := List.getElem?_eq_some_iff.1 gj
  rcases Nat.lt_or_gt_of_ne hij with h | h
  ·have := List.pairwise_iff_getElem.1 hp.apart i j li lj h g
   rw [ei, ej] at this
   exact this hg e
  ·have := List.pairwise_iff_getElem.1 hp.apart j i lj li h g
   rw [ei, ej] at this
   exact this e hg
def Clr (g N : Nat) (P Q : Nat → Sl) : Prop := ∀ i, i < N → (P i).v.ownBlock ≠ some g ∧ (Q i).Off (some g)
structure SgI (w : World) (gS N : Nat) (P Q : Nat → Sl) (n : Nat) (lv wv V1 U1 : Value) (vs us : List Value) (p q : Nat → Sl) (B0 : Nat) (W2 : World) (j : Nat) (wr : World) : Prop where
 ex : ∃ P' Q' lv' wv', Shf w gS (N + j) P' Q' lv' wv' wr ∧ (∀ i, j ≤ i → i < n → Pend w gS (N + j) P' Q' lv' wv' (p i) (q i) wr) ∧ PutS lv wv gS lv' wv' W2 wr ∧ ∀ g, g < B0 → Clr g N P Q → Clr g (N + j) P' Q'
 r1 : wr.ownsRow B0 33 1 V1 n vs
 r2 : wr.ownsRow B0 33 1 U1 n us
theorem row_put {lv wv lv' wv' V : Value} {gS B0 n : Nat} {vs : List Value} {W2 wr w' : World} {lv'' wv'' : Value} (h : wr.ownsRow B0 33 1 V n vs) (h0 : PutS lv wv gS lv' wv' W2 wr) (h1 : PutS lv' wv' gS lv'' wv'' wr w') (hV : ∀ g, V.ownBlock = some g → g < W2.heap.size) (hl : ∀ g, lv.ownBlock = some g → g < B0) (hw : ∀ g, wv.ownBlock = some g → g < B0) (hg : gS < B0) : w'.ownsRow B0 33 1 V n vs := by
 refine own_blk h (fun k hk => ?_)
 have hk0 := (h.lt k hk).1
 have hk1 := hV k hk
 refine h1.but.block k (h.lt k hk).2 (fun e => ?_) (fun e => ?_) (by omega)
 ·rcases h0.l with h4 | ⟨k4, h4, h5⟩
  ·have := hl k (by rw [← h4]; exact e.symm); omega
  ·rw [h4] at e; simp only [Option.some.injEq] at e; omega
 ·rcases h0.r with h4 | ⟨k4, h4, h5⟩
  ·have := hw k (by rw [← h4]; exact e.symm); omega
  ·rw [h4] at e; simp only [Option.some.injEq] at e; omega
theorem SgI.start {w : World} {gS N n : Nat} {P Q : Nat → Sl} {lv wv V1 U1 : Value} {vs us : List Value} {p q : Nat → Sl} {w0 w1 w2 : World} (hS : Shf w gS N P Q lv wv w0) (hP : Prs2 n w0.heap.size w1.heap.size vs us p q w2) (h1 : Below w0.heap.size w0 w1) (h2 : Below w1.heap.size w1 w2) (r1 : w2.ownsRow w0.heap.size 33 1 V1 n vs) (r2 : w2.ownsRow w0.heap.size 33 1 U1 n us) : SgI w gS N P Q n lv wv V1 U1 vs us p q w0.heap.size w2 0 w2 := by
 have hb := h1.trans (h2.mono h1.size)
 refine ⟨⟨P, Q, lv, wv, hS.later hb, fun i _ hi => ?_, PutS.refl _ _ _ _, fun _ _ h => h⟩, r1, r2⟩
 refine Pend.new hS ⟨gI (hP.po i hi).1 hS.bel.size, (hP.po i hi).2⟩ (hP.pn i hi) (hP.qo i hi) (fun g hg => ((hP.po i hi).1.lt g hg).1) (fun y hy => Nat.le_trans h1.size (hP.ql i hi y hy)) (fun g hg hl y hy e => ?_)
 have := hP.pl i hi g hg
 have := hP.ql i hi y hy
 simp only [Option.some.injEq] at e
 omega
theorem SgI.later {w : World} {gS N n : Nat} {P Q : Nat → Sl} {lv wv V1 U1 : Value} {vs us : List Value} {p q : Nat → Sl} {B0 j : Nat} {W2 wr w' : World} (h : SgI w gS N P Q n lv wv V1 U1 vs us p q B0 W2 j wr) (hb : Below wr.heap.size wr w') : SgI w gS N P Q n lv wv V1 U1 vs us p q B0 W2 j w' := by
 obtain ⟨P', Q', lv', wv', hS, hp, hPu, hCl⟩ := h.ex
 exact ⟨⟨P', Q', lv', wv', hS.later hb, fun i h1 h2 => (hp i h1 h2).later hb, hPu.later hb, hCl⟩, iB h.r1 hb, iB h.r2 hb⟩
theorem SgI.put {w : World} {gS N n : Nat} {P Q : Nat → Sl} {lv wv V1 U1 : Value} {vs us : List Value} {p q : Nat → Sl} {B0 B1 j : Nat} {W2 w2 wr : World} (h : SgI w gS N P Q n lv wv V1 U1 vs us p q B0 W2 j wr) (hj : j < n) (hP : Prs2 n B0 B1 vs us p q w2) (hsz : ∀ i, i < n → (p i).n ≤ 100000) (hN : N + n ≤ 5800000000000) (hB01 : B0 ≤ B1)
  (hV : ∀ g, V1.ownBlock = some g → g < W2.heap.size) (hU : ∀ g, U1.ownBlock = some g → g < W2.heap.size) (hl : ∀ g, lv.ownBlock = some g → g < B0) (hw : ∀ g, wv.ownBlock = some g → g < B0) (hg : gS < B0) :
  Calls Tryz.prog 8 #[.pointer (some ⟨gS, 0, none⟩), (p j).v, (q j).v] wr fun e w' => e = .returned (.bool true) ∧ SgI w gS N P Q n lv wv V1 U1 vs us p q B0 W2 (j + 1) w' := by
 obtain ⟨P', Q', lv', wv', hS, hp, hPu, hCl⟩ := h.ex
 refine (put_any hS (p j) (q j) (hp j (Nat.le_refl _) hj) (hP.eq j hj) (hsz j hj) (by omega)).mono ?_
 rintro e w' ⟨rfl, lv2, wv2, hS2, hPe, hPu2⟩
 refine ⟨rfl, ⟨_, _, lv2, wv2, hS2, fun i h1 h2 => ?_, hPu.trans hPu2, fun g hg hC i hi => ?_⟩, row_put h.r1 hPu hPu2 hV hl hw hg, row_put h.r2 hPu hPu2 hU hl hw hg⟩
 ·refine hPe (p i) (q i) (hp i (by omega) h2) (hP.pp i j h2 hj (by omega)) (fun g hg hl y hy e => ?_) (fun g hg hl y hy e => ?_)
  ·have := hP.pl j hj g hg; have := hP.ql i h2 y hy; simp only [Option.some.injEq] at e; omega
  ·have := hP.pl i h2 g hg; have := hP.ql j hj y hy; simp only [Option.some.injEq] at e; omega
 ·by_cases e : i = N + j
  ·simp only [e, if_true]
   exact ⟨fun e2 => by have := ((hP.po j hj).1.lt g e2).1; omega, fun hl y hy e2 => by have := hP.ql j hj y hy; simp only [Option.some.injEq] at e2; omega⟩
  ·simp only [e, if_false]
   exact hCl g hg hC i (by omega)
theorem fP (d : Int) (f : FdS) (x : Nat → Int) (h : (f.enc x).length ≤ 1000) : (tellL d f x).length ≤ 100000 := by
 unfold tellL
 split
 ·have := mE d; rw [List.length_append]; omega
 ·simp
theorem sgd_short (l : List Int) : ∀ p ∈ (sgd l).1, p.1.length ≤ 100000 := by
 have hc : ∀ x, (cT x).1.length ≤ 100000 := fun x => fP _ _ _ (by simp [aB, aF, aO, aV, aL, beB, leB, run])
 have hf : ∀ d x, (tellL d (aB (aM.take 1)) x).length ≤ 100000 := fun d x => fP _ _ _ (by simp [aB, aM, bR, aF, aO, aV, aL, beB, leB, run])
 have hr : ∀ d x, (tellL d (aB (aE.take 1)) x).length ≤ 100000 := fun d x => fP _ _ _ (by simp [aB, aE, bR, aF, aO, aV, aL, beB, leB, run])
 have h : ∀ (k : Int) (x : Nat → Int), ∀ p ∈ EK k x, p.1.length ≤ 100000 := fun k x p hp => by
  unfold EK at hp
  split at hp
  ·simp at hp; subst hp; exact hc x
  split at hp
  ·simp at hp; subst hp; exact hc x
  split at hp
  ·unfold entE at hp
   rcases List.mem_cons.1 hp with rfl | hp
   ·exact hc x
   rcases List.mem_append.1 hp with hp | hp
   ·split at hp
    ·simp at hp; subst hp; exact hf _ _
    ·simp at hp
   ·split at hp
    ·simp at hp; subst hp; exact hr _ _
    ·simp at hp
  split at hp
  ·simp at hp
   rcases hp with rfl | rfl
   ·exact hc x
   ·exact hf _ _
  split at hp
  ·simp at hp; subst hp; exact fP _ _ _ (by simp [aB, aZ, aO, aV, aL, beB, leB, run])
  split at hp
  ·simp at hp
   rcases hp with rfl | rfl
   ·exact hc x
   ·exact hr _ _
  split at hp
  ·simp at hp; subst hp; exact fP _ _ _ (by simp [aB, aQ, aO, aV, aL, beB, leB, run])
  split at hp
  ·simp at hp; subst hp; exact fP _ _ _ (by simp [aB, aH, aO, aV, aL, beB, leB, run])
  split at hp
  ·simp at hp
  ·simp at hp; subst hp; exact fP _ _ _ (by simp [aB, aX, aO, aV, aL, beB, leB, run])
 unfold sgd
 split
 ·simp
 ·simp only [sgE]
  split
  ·exact h _ _
  ·simp
end Go.Proofs.YtejagcngbgnogaaGreat
