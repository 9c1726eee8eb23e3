import Derived.Test.YtejagcngbgnogaaGreatQShr
import Derived.Test.YtejagcngbgnogaaGreatQGbxZ
import Derived.Test.YtejagcngbgnogaaGreatQGbyZ
import Derived.Deep.Cut
import Derived.Test.YtejagcngbgnogaaGreatQGbnZ
import Derived.Test.YtejagcngbgnogaaGreatQWanW
set_option maxHeartbeats 4000000
set_option maxRecDepth 100000
set_option linter.unusedSimpArgs false
set_option linter.unusedVariables false
namespace Go.Proofs.YtejagcngbgnogaaGreat
open Go.RowKit
section
theorem rs1 {G : Prop} (h : G := by
 refine wpList_nil ?_
 have R1 := aA A4.range
 have R2 := aA A3.range
 clear A3 A4
 go_upto_region 5 with fail
 exact sh58) : G := h
open Go.Proofs.YtejagcngbgnogaaGreat renaming nq32 → z58a, nq7 → z58b, nq9 → z58d, eW → z132a, nQ → z132b, mS → z132c, nq1 → z132d, aF → z132e, nq99 → z132f, aD → z132g, nq32 → z132h, eqCert_any → z132i, nq7 → z132k, nq53 → z132l, nq9 → z132m, nq58 → z132n, dI → z132fQ, iF → z132hQ, rs1 → z132rr
open Go.Proofs.Tryz renaming underlying32 → z58c
open Go.Proofs.YtejagcngbgnogaaGreat.Tryz renaming szTCert → z132j
theorem reads_Cert (a b : Sl) (w : World) (ha : a.Ok w) (hb : b.Ok w) (hl : a.l = b.l) (hm : b.n ≤ 1000000) :
  Calls Tryz.prog 14 #[.int .i64 1, a.v, b.v] w fun e w' => e = .returned (.bool true) ∧ Below w.heap.size w w' := kQ
end
section
theorem rs2 {G : Prop} (h : G := by
 refine wpList_nil ?_
 have R1 := aA A4.range
 have R2 := aA A3.range
 clear A3 A4
 go_upto_region 9 with fail
 exact sh58) : G := h
open Go.Proofs.YtejagcngbgnogaaGreat renaming nq57 → z58a, nq11 → z58b, nq13 → z58d, dN → z132a, mI → z132b, lN → z132c, nq2 → z132d, aY → z132e, nq132 → z132f, aS → z132g, nq57 → z132h, eqTicket_any → z132i, nq11 → z132k, nq73 → z132l, nq13 → z132m, nq78 → z132n, fV → z132fQ, iO → z132hQ, rs2 → z132rr
open Go.Proofs.Tryz renaming underlying57 → z58c
open Go.Proofs.YtejagcngbgnogaaGreat.Tryz renaming szTTicket → z132j
theorem reads_Ticket (a b : Sl) (w : World) (ha : a.Ok w) (hb : b.Ok w) (hl : a.l = b.l) (hm : b.n ≤ 1000000) :
  Calls Tryz.prog 14 #[.int .i64 2, a.v, b.v] w fun e w' => e = .returned (.bool true) ∧ Below w.heap.size w w' := kQ
end
section
theorem rs3 {G : Prop} (h : G := by
 refine wpList_nil ?_
 have R1 := aA A4.range
 have R2 := aA A3.range
 clear A3 A4
 go_upto_region 13 with fail
 exact sh58) : G := h
open Go.Proofs.YtejagcngbgnogaaGreat renaming nq61 → z58a, nq15 → z58b, nq17 → z58d, dZ → z132a, mY → z132b, mB → z132c, nq3 → z132d, aT → z132e, nq262 → z132f, aI → z132g, nq61 → z132h, eqEntry_any → z132i, nq15 → z132k, nq93 → z132l, nq17 → z132m, nq98 → z132n, gM → z132fQ, jA → z132hQ, rs3 → z132rr
open Go.Proofs.Tryz renaming underlying61 → z58c
open Go.Proofs.YtejagcngbgnogaaGreat.Tryz renaming szTEntry → z132j
theorem reads_Entry (a b : Sl) (w : World) (ha : a.Ok w) (hb : b.Ok w) (hl : a.l = b.l) (hm : b.n ≤ 1000000) :
  Calls Tryz.prog 14 #[.int .i64 3, a.v, b.v] w fun e w' => e = .returned (.bool true) ∧ Below w.heap.size w w' := kQ
end
section
theorem rs4 {G : Prop} (h : G := by
 refine wpList_nil ?_
 have R1 := aA A4.range
 have R2 := aA A3.range
 clear A3 A4
 go_upto_region 17 with fail
 exact sh58) : G := h
open Go.Proofs.YtejagcngbgnogaaGreat renaming nq65 → z58a, nq19 → z58b, nq21 → z58d, dA → z132a, mJ → z132b, lO → z132c, nq4 → z132d, aM → z132e, nq163 → z132f, aR → z132g, nq65 → z132h, eqFreeze_any → z132i, nq19 → z132k, nq113 → z132l, nq21 → z132m, nq118 → z132n, dK → z132fQ, dP → z132hQ, rs4 → z132rr
open Go.Proofs.Tryz renaming underlying65 → z58c
open Go.Proofs.YtejagcngbgnogaaGreat.Tryz renaming szTFreeze → z132j
theorem reads_Freeze (a b : Sl) (w : World) (ha : a.Ok w) (hb : b.Ok w) (hl : a.l = b.l) (hm : b.n ≤ 1000000) :
  Calls Tryz.prog 14 #[.int .i64 4, a.v, b.v] w fun e w' => e = .returned (.bool true) ∧ Below w.heap.size w w' := kQ
end
section
theorem rs5 {G : Prop} (h : G := by
 refine wpList_nil ?_
 have R1 := aA A4.range
 have R2 := aA A3.range
 clear A3 A4
 go_upto_region 21 with fail
 exact sh58) : G := h
open Go.Proofs.YtejagcngbgnogaaGreat renaming nq69 → z58a, nq23 → z58b, nq25 → z58d, eT → z132a, oJ → z132b, nL → z132c, nq5 → z132d, aZ → z132e, nq99 → z132f, bI → z132g, nq69 → z132h, eqAck_any → z132i, nq23 → z132k, nq133 → z132l, nq25 → z132m, nq138 → z132n, dI → z132fQ, gL → z132hQ, rs5 → z132rr
open Go.Proofs.Tryz renaming underlying69 → z58c
open Go.Proofs.YtejagcngbgnogaaGreat.Tryz renaming szTAck → z132j
theorem reads_Ack (a b : Sl) (w : World) (ha : a.Ok w) (hb : b.Ok w) (hl : a.l = b.l) (hm : b.n ≤ 1000000) :
  Calls Tryz.prog 14 #[.int .i64 5, a.v, b.v] w fun e w' => e = .returned (.bool true) ∧ Below w.heap.size w w' := kQ
end
end Go.Proofs.YtejagcngbgnogaaGreat

set_option maxHeartbeats 4000000
set_option maxRecDepth 100000
set_option linter.unusedSimpArgs false
set_option linter.unusedVariables false
namespace Go.Proofs.YtejagcngbgnogaaGreat
open Go.RowKit
section
theorem rs6 {G : Prop} (h : G := by
 refine wpList_nil ?_
 have R1 := aA A4.range
 have R2 := aA A3.range
 clear A3 A4
 go_upto_region 25 with fail
 exact sh58) : G := h
open Go.Proofs.YtejagcngbgnogaaGreat renaming nq72 → z58a, nq27 → z58b, nq29 → z58d, cM → z132a, kB → z132b, jQ → z132c, nq6 → z132d, aE → z132e, nq163 → z132f, aG → z132g, nq72 → z132h, rS → z132i, nq27 → z132k, nq153 → z132l, nq29 → z132m, nq158 → z132n, dK → z132fQ, iE → z132hQ, rs6 → z132rr
open Go.Proofs.Tryz renaming underlying72 → z58c
open Go.Proofs.YtejagcngbgnogaaGreat.Tryz renaming szTRevocation → z132j
theorem rB (a b : Sl) (w : World) (ha : a.Ok w) (hb : b.Ok w) (hl : a.l = b.l) (hm : b.n ≤ 1000000) :
  Calls Tryz.prog 14 #[.int .i64 6, a.v, b.v] w fun e w' => e = .returned (.bool true) ∧ Below w.heap.size w w' := kQ
end
section
theorem rs7 {G : Prop} (h : G := by
 refine wpList_nil ?_
 have R1 := aA A4.range
 have R2 := aA A3.range
 clear A3 A4
 go_upto_region 29 with fail
 exact sh58) : G := h
open Go.Proofs.YtejagcngbgnogaaGreat renaming nq76 → z58a, nq31 → z58b, nq33 → z58d, dY → z132a, mX → z132b, mA → z132c, nq7 → z132d, aQ → z132e, nq65 → z132f, aU → z132g, nq76 → z132h, eqFloor_any → z132i, nq31 → z132k, nq173 → z132l, nq33 → z132m, nq178 → z132n, dP → z132fQ, gV → z132hQ, rs7 → z132rr
open Go.Proofs.Tryz renaming underlying76 → z58c
open Go.Proofs.YtejagcngbgnogaaGreat.Tryz renaming szTFloor → z132j
theorem reads_Floor (a b : Sl) (w : World) (ha : a.Ok w) (hb : b.Ok w) (hl : a.l = b.l) (hm : b.n ≤ 1000000) :
  Calls Tryz.prog 14 #[.int .i64 7, a.v, b.v] w fun e w' => e = .returned (.bool true) ∧ Below w.heap.size w w' := kQ
end
section
theorem rs8 {G : Prop} (h : G := by
 refine wpList_nil ?_
 have R1 := aA A4.range
 have R2 := aA A3.range
 clear A3 A4
 go_upto_region 33 with fail
 exact sh58) : G := h
open Go.Proofs.YtejagcngbgnogaaGreat renaming nq80 → z58a, nq35 → z58b, nq37 → z58d, dH → z132a, lP → z132b, kY → z132c, nq8 → z132d, aH → z132e, nq67 → z132f, aK → z132g, nq80 → z132h, eqReceipt_any → z132i, nq35 → z132k, nq193 → z132l, nq37 → z132m, nq198 → z132n, gW → z132fQ, gK → z132hQ, rs8 → z132rr
open Go.Proofs.Tryz renaming underlying80 → z58c
open Go.Proofs.YtejagcngbgnogaaGreat.Tryz renaming szTReceipt → z132j
theorem reads_Receipt (a b : Sl) (w : World) (ha : a.Ok w) (hb : b.Ok w) (hl : a.l = b.l) (hm : b.n ≤ 1000000) :
  Calls Tryz.prog 14 #[.int .i64 8, a.v, b.v] w fun e w' => e = .returned (.bool true) ∧ Below w.heap.size w w' := kQ
end
section
theorem rs9 {G : Prop} (h : G := by
 refine wpList_nil ?_
 have R1 := aA A4.range
 have R2 := aA A3.range
 clear A3 A4
 go_upto_region 37 with fail
 exact sh58) : G := h
open Go.Proofs.YtejagcngbgnogaaGreat renaming nq84 → z58a, nq39 → z58b, nq41 → z58d, dX → z132a, mW → z132b, lZ → z132c, nq9 → z132d, bH → z132e, nq34 → z132f, bD → z132g, nq84 → z132h, eqOrder_any → z132i, nq39 → z132k, nq213 → z132l, nq41 → z132m, nq218 → z132n, iP → z132fQ, iD → z132hQ, rs9 → z132rr
open Go.Proofs.Tryz renaming underlying84 → z58c
open Go.Proofs.YtejagcngbgnogaaGreat.Tryz renaming szTOrder → z132j
theorem reads_Order (a b : Sl) (w : World) (ha : a.Ok w) (hb : b.Ok w) (hl : a.l = b.l) (hm : b.n ≤ 1000000) :
  Calls Tryz.prog 14 #[.int .i64 9, a.v, b.v] w fun e w' => e = .returned (.bool true) ∧ Below w.heap.size w w' := kQ
end
section
theorem rs10 {G : Prop} (h : G := by
 refine wpList_nil ?_
 have R1 := aA A4.range
 have R2 := aA A3.range
 clear A3 A4
 go_upto_region 41 with fail
 exact sh58) : G := h
open Go.Proofs.YtejagcngbgnogaaGreat renaming nq88 → z58a, nq43 → z58b, nq45 → z58d, eF → z132a, nO → z132b, mR → z132c, nq10 → z132d, aX → z132e, nq97 → z132f, bE → z132g, nq88 → z132h, eqHead_any → z132i, nq43 → z132k, nq233 → z132l, nq45 → z132m, nq238 → z132n, gU → z132fQ, fY → z132hQ, rs10 → z132rr
open Go.Proofs.Tryz renaming underlying88 → z58c
open Go.Proofs.YtejagcngbgnogaaGreat.Tryz renaming szTHead → z132j
theorem reads_Head (a b : Sl) (w : World) (ha : a.Ok w) (hb : b.Ok w) (hl : a.l = b.l) (hm : b.n ≤ 1000000) :
  Calls Tryz.prog 14 #[.int .i64 10, a.v, b.v] w fun e w' => e = .returned (.bool true) ∧ Below w.heap.size w w' := kQ
end
end Go.Proofs.YtejagcngbgnogaaGreat

namespace Go.Proofs.YtejagcngbgnogaaGreat
open Go.RowKit
theorem reads_any (k : Int) (h1 : 1 ≤ k) (h2 : k ≤ 10) (a b : Sl) (w : World) (ha : a.Ok w) (hb : b.Ok w) (hl : a.l = b.l) (hm : b.n ≤ 1000000) :
  Calls Tryz.prog 14 #[.int .i64 k, a.v, b.v] w fun e w' => e = .returned (.bool true) ∧ Below w.heap.size w w' := by
 rcases (by omega : k = 1 ∨ k = 2 ∨ k = 3 ∨ k = 4 ∨ k = 5 ∨ k = 6 ∨ k = 7 ∨ k = 8 ∨ k = 9 ∨ k = 10) with rfl | rfl | rfl | rfl | rfl | rfl | rfl | rfl | rfl | rfl
 ·exact reads_Cert a b w ha hb hl hm
 ·exact reads_Ticket a b w ha hb hl hm
 ·exact reads_Entry a b w ha hb hl hm
 ·exact reads_Freeze a b w ha hb hl hm
 ·exact reads_Ack a b w ha hb hl hm
 ·exact rB a b w ha hb hl hm
 ·exact reads_Floor a b w ha hb hl hm
 ·exact reads_Receipt a b w ha hb hl hm
 ·exact reads_Order a b w ha hb hl hm
 ·exact reads_Head a b w ha hb hl hm
set_option maxHeartbeats 2000000
theorem xor8_bd (x y : Int) : 0 ≤ bits .xor .u8 x y ∧ bits .xor .u8 x y ≤ 255 := by
 have : bits .xor .u8 x y = ((BitVec.ofInt 8 x ^^^ BitVec.ofInt 8 y).toNat : Int) := by
  show IntKind.u8.wrap ((BitVec.ofInt 8 x ^^^ BitVec.ofInt 8 y).toNat : Int) = _
  rw [IntKind.wrap_u8']; have := (BitVec.ofInt 8 x ^^^ BitVec.ofInt 8 y).isLt; omega
 rw [this]
 have := (BitVec.ofInt 8 x ^^^ BitVec.ofInt 8 y).isLt
 omega
def gN : List Int := List.replicate 300 90
theorem marksR_length : gN.length = 300 := List.length_replicate
theorem sX : IsB gN := fun x hx => by have := List.eq_of_mem_replicate hx; omega
theorem roomy_any (d : Sl) (w : World) (hd : d.Ok w) (hdn : d.n ≤ 200000) :
  Calls Tryz.prog 11 #[d.v] w fun e w' => ∃ g c, e = .returned (.slice (some ⟨g, 0, none⟩) (d.n + 300) c) ∧ w'.ownsRow w.heap.size 5 1 (.slice (some ⟨g, 0, none⟩) (d.n + 300) c) (d.n + 300) (U8 (d.l ++ gN)) ∧ Below w.heap.size w w' := by
 obtain ⟨i0, hii, hz0, hz1, hz2⟩ := info_parts Tryz.infoB
 obtain ⟨da, dn, dc, l⟩ := d
 have hdn' : dn ≤ 200000 := hdn
 clear hdn
 simp only [Sl.v]
 go_enter Tryz.func11, Tryz.ntmps11
 go_wp2_with (at_builtin; refine qZ rfl (.tmp 5) (.tmp 6) 33 rfl w.heap.size 5 i0 (.int .u8 0) Tryz.underlying33 hii hz0 hz1 hz2 rfl (.slice none 0 0) 0 [] rfl (World.ownsRow_nil _ _ _ _) ⟨da, dn, dc, l⟩ hd rfl (by show 0 + dn ≤ _; omega) (Nat.le_refl _) ?_; intro v2 w2 hown2 hgrow2)
 have hb2 : Below w.heap.size w w2 := below_grown (Below.refl _ _) (Nat.le_refl _) (World.ownsRow_nil _ _ 5 _) (unhide hgrow2)
 have hown' : w2.ownsRow w.heap.size 5 1 v2 (dn + 0) (U8 (l ++ List.replicate 0 90)) := by
  have h := unhide hown2
  simpa [U8] using h
 clear hown2 hgrow2
 go_wp2_with fail
 go_loopw [3, 4] (fun v i wr => ∃ k : Nat, k ≤ 300 ∧ i = .int .i64 k ∧ wr.ownsRow w.heap.size 5 1 v (dn + k) (U8 (l ++ List.replicate k 90)) ∧ Below w.heap.size w wr) (fun _ i _ => 300 - (intOf i).toNat)
 case atStart => exact ⟨0, by omega, rfl, hown', hb2⟩
 case round =>
  clear hown' hb2
  obtain ⟨k, hk, rfl, hown, hbl⟩ := hrel
  by_cases hlt : k < 300
  ·go_wp2_with (at_builtin; refine wpList_append_own _ rfl _ _ 33 rfl w.heap.size 5 i0 (.int .u8 0) 1 1 Tryz.underlying33 hii hz0 hz1 hz2 rfl (by decide) _ (dn + k) (U8 (l ++ List.replicate k 90)) rfl (hown.alloc _) ⟨wr.heap.size, 0, none⟩ 1 1 [.int .u8 90] rfl rfl (cell_one_new _ _ _) (one_byte _) (by unfold maxLen; omega) (by omega) (by have := hbl.size; simp; omega) ?_)
   intro v4 w4 hown4 hgrow4 _
   have hb4 := below_app hbl (Nat.le_refl _) hown hgrow4
   rw [U8_snoc2, List.append_assoc, ← List.replicate_succ'] at hown4
   clear hgrow4 hown hbl
   go_wp2
   go_roundw
   case rel => exact ⟨k + 1, by omega, by go_num, hown4, hb4⟩
   case measure => simp [intOf]; omega
  ·have hk8 : k = 300 := by omega
   subst hk8
   obtain ⟨g, c, rfl, -, -⟩ := hown.form (by omega)
   go_wp2
   go_ret
   exact ⟨g, c, rfl, hown, hbl⟩
theorem turn_any (g o n m c c' base : Nat) (L : List Int) (w : World) (hown : w.ownsRow base 5 1 (.slice (some ⟨g, 0, none⟩) m c) m (U8 L)) (hLB : IsB L) (hnm : o + n ≤ m) (hm : m ≤ 1000000) (hc : n ≤ c') :
  Calls Tryz.prog 17 #[.slice (some ⟨g, o, none⟩) n c'] w fun e w' => e = .returned (.tuple #[]) ∧ ∃ L', w'.ownsRow base 5 1 (.slice (some ⟨g, 0, none⟩) m c) m (U8 L') ∧ IsB L' ∧ But g w w' := by
 go_enter Tryz.func17, Tryz.ntmps17
 go_wp2_with fail
 go_loopw [2] (fun i wr => ∃ j : Nat, j ≤ n ∧ i = .int .i64 j ∧ ∃ L', Hid (wr.ownsRow base 5 1 (.slice (some ⟨g, 0, none⟩) m c) m (U8 L') ∧ IsB L' ∧ But g w wr)) (fun i _ => n - (intOf i).toNat)
 case atStart => exact ⟨0, by omega, rfl, L, aA ⟨hown, hLB, But.refl _ _⟩⟩
 case round =>
  clear hown
  obtain ⟨j, hj, rfl, L', HH⟩ := hrel
  by_cases hlt : j < n
  ·have hjz : (j : Int) < (n : Int) := by omega
   obtain ⟨hown, hB', hbut⟩ := unhide HH
   have hL : L'.length = m := by have := hown.1; simpa using this
   have hjL : o + j < L'.length := by omega
   have hfz := hown.frozenAt (o + j)
   have hcl := (hown.cellAt (o + j) (by omega)).trans (kV _ (o + j) hjL)
   have hst := (hown.stored (o + j) (.int .u8 (bits .xor .u8 (L'.getD (o + j) 0) 5))).1
   rw [lH] at hst
   have hbs := hbut.setCell (o + j) (.int .u8 (bits .xor .u8 (L'.getD (o + j) 0) 5))
   have hB2 : IsB (L'.set (o + j) (bits .xor .u8 (L'.getD (o + j) 0) 5)) := fun x hx => by
    rcases List.mem_or_eq_of_mem_set hx with h | rfl
    ·exact hB' x h
    ·exact xor8_bd _ _
   have HST := aA (And.intro hst (And.intro hB2 hbs))
   generalize hL2 : L'.set (o + j) (bits .xor .u8 (L'.getD (o + j) 0) 5) = L2 at HST
   generalize L'.getD (o + j) 0 = x at hcl HST
   clear hst hbs hown hbut hB' hB2 HH hL hjL hL2
   go_wp2
   go_roundw
   case rel => exact ⟨j + 1, by omega, by go_num, L2, HST⟩
   case measure => simp [intOf]; omega
  ·have hjn : j = n := by omega
   subst hjn
   go_wp2
   go_end0
   exact ⟨rfl, L', unhide HH⟩
def encP (y : Nat → Int) : List Int × Int := if 1 ≤ y 0 ∧ y 0 ≤ 10 then (cC y, if cC y = [] then 2 else 0) else ([], 0)
abbrev saidK (y : Nat → Int) : Prop := y 0 = 1 ∨ y 0 = 4 ∨ y 0 = 5 ∨ y 0 = 6 ∨ y 0 = 7 ∨ y 0 = 8 ∨ y 0 = 10
def saidP (y : Nat → Int) : List Int := if saidK y then dD y else []
def PAn (L : List Int) (k : Int) (w : World) (e : Ending) (w' : World) : Prop := ∃ s : Sl, e = .returned (.tuple #[s.v, .int .i64 k]) ∧ cI w' w.heap.size s.v s.l ∧ s.n = s.l.length ∧ s.l = L ∧ Below w.heap.size w w'
def QAn (L : List Int) (k : Int) (w : World) (e : Ending) (w' : World) : Prop := ∃ s : Sl, e = .returned (.tuple #[s.v, .int .i64 k]) ∧ s.Ok w' ∧ s.l = L ∧ (∀ x, s.a = some x → w.heap.size ≤ x.block) ∧ Below w.heap.size w w'
def PAo (L : List Int) (w : World) (e : Ending) (w' : World) : Prop := ∃ s : Sl, e = .returned s.v ∧ cI w' w.heap.size s.v s.l ∧ s.n = s.l.length ∧ s.l = L ∧ Below w.heap.size w w'
theorem nil_ok (w : World) : Sl.Ok w ⟨none, 0, 0, []⟩ := ⟨rfl, Nat.le_refl _, Nat.zero_le _, fun _ => ⟨rfl, rfl⟩, fun x hx => by simp at hx, dW.nil _ _⟩
theorem nil_own (w : World) (base : Nat) : cI w base (.slice none 0 0) [] := ⟨⟨rfl, .inl ⟨rfl, rfl⟩⟩, fun x hx => by simp at hx⟩
theorem encA (y : Nat → Int) (bv : Value) (w : World) (hok : ∀ i, i < 329 → (bM i).ok (y i)) : Calls Tryz.prog 6 #[.agg (tmC y bv).toArray] w (PAn (encP y).1 (encP y).2 w) := by
 unfold encP
 by_cases hk : 1 ≤ y 0 ∧ y 0 ≤ 10
 ·rw [if_pos hk]
  refine (encoded_any y bv w hok hk).mono ?_
  rintro e w' ⟨a, c, rfl, ho, hB, hb⟩
  exact ⟨⟨a, (cC y).length, c, cC y⟩, rfl, ⟨ho, hB⟩, rfl, rfl, hb⟩
 ·rw [if_neg hk]
  refine (encodedNo y bv w (by omega) (by omega) (by omega) (by omega) (by omega) (by omega) (by omega) (by omega) (by omega) (by omega)).mono ?_
  rintro e w' ⟨rfl, hb⟩
  exact ⟨⟨none, 0, 0, []⟩, rfl, nil_own _ _, rfl, rfl, hb⟩
theorem wanA (y : Nat → Int) (bv : Value) (w : World) (hok : ∀ i, i < 329 → (bM i).ok (y i)) : Calls Tryz.prog 7 #[.agg (tmC y bv).toArray] w (QAn (encP y).1 (encP y).2 w) := by
 unfold encP
 by_cases hk : 1 ≤ y 0 ∧ y 0 ≤ 10
 ·rw [if_pos hk]
  exact wanted_any y bv w hok hk
 ·rw [if_neg hk]
  refine (wantedNo y bv w (by omega) (by omega) (by omega) (by omega) (by omega) (by omega) (by omega) (by omega) (by omega) (by omega)).mono ?_
  rintro e w' ⟨rfl, hb⟩
  exact ⟨⟨none, 0, 0, []⟩, rfl, nil_ok _, rfl, fun x hx => by simp at hx, hb⟩
theorem saiA (y : Nat → Int) (bv : Value) (w : World) (hok : ∀ i, i < 329 → (bM i).ok (y i)) : Calls Tryz.prog 9 #[.agg (tmC y bv).toArray] w (PAo (saidP y) w) := by
 unfold saidP
 by_cases hk : saidK y
 ·rw [if_pos hk]
  refine (said_any y bv w hok hk).mono ?_
  rintro e w' ⟨a, c, rfl, ho, hB, hb⟩
  exact ⟨⟨a, (dD y).length, c, dD y⟩, rfl, ⟨ho, hB⟩, rfl, rfl, hb⟩
 ·rw [if_neg hk]
  unfold saidK at hk
  refine (saidNo y bv w (by omega) (by omega) (by omega) (by omega) (by omega) (by omega) (by omega)).mono ?_
  rintro e w' ⟨rfl, hb⟩
  exact ⟨⟨none, 0, 0, []⟩, rfl, nil_own _ _, rfl, rfl, hb⟩
theorem meaA (y : Nat → Int) (bv : Value) (w : World) (hok : ∀ i, i < 329 → (bM i).ok (y i)) : Calls Tryz.prog 10 #[.agg (tmC y bv).toArray] w (RSP (saidP y) w) := by
 unfold saidP
 by_cases hk : saidK y
 ·rw [if_pos hk]
  exact meant_any y bv w hok hk
 ·rw [if_neg hk]
  unfold saidK at hk
  refine (meantNo y bv w (by omega) (by omega) (by omega) (by omega) (by omega) (by omega) (by omega)).mono ?_
  rintro e w' ⟨rfl, hb⟩
  exact RSP.nil hb
theorem fK_short (k : Int) (x : Nat → Int) : ((fK k).enc x).length ≤ 1000 := by
 obtain ⟨_, -, -, h1⟩ := kin_Cert
 obtain ⟨_, -, -, h2⟩ := kin_Ticket
 obtain ⟨_, -, -, h3⟩ := kin_Entry
 obtain ⟨_, -, -, h4⟩ := kin_Freeze
 obtain ⟨_, -, -, h5⟩ := kin_Ack
 obtain ⟨_, -, -, h6⟩ := uH
 obtain ⟨_, -, -, h7⟩ := kin_Floor
 obtain ⟨_, -, -, h8⟩ := kin_Receipt
 obtain ⟨_, -, -, h9⟩ := kin_Order
 obtain ⟨_, -, -, h10⟩ := kin_Head
 unfold fK
 split
 ·have := (h1 x).1; omega
 split
 ·have := (h2 x).1; omega
 split
 ·have := (h3 x).1; omega
 split
 ·have := (h4 x).1; omega
 split
 ·have := (h5 x).1; omega
 split
 ·have := (h6 x).1; omega
 split
 ·have := (h7 x).1; omega
 split
 ·have := (h8 x).1; omega
 split
 ·have := (h9 x).1; omega
 ·have := (h10 x).1; omega
theorem encP_short (y : Nat → Int) : (encP y).1.length ≤ 100000 := by
 unfold encP
 split
 ·exact fP _ _ _ (fK_short _ _)
 ·simp
theorem saidP_short (y : Nat → Int) : (saidP y).length ≤ 100000 := by
 unfold saidP
 split
 ·unfold dD
  repeat' split
  all_goals first
   | exact fP _ _ _ (by simp [aB, aF, aM, aE, aZ, aQ, aH, aX, bR, aO, aV, aL, beB, leB, run])
   | simp
 ·simp
theorem arr_neZ {w : World} {g g' : Nat} {ty ty' : TypeId} {l l' : List Value} (h : Arr w g ty l) (h' : Arr w g' ty' l') (ht : ty ≠ ty') : g ≠ g' := by
 intro e
 subst e
 unfold Arr at h h'
 rw [h] at h'
 simp only [Option.some.injEq, Obj.cells.injEq] at h'
 exact ht h'.2.1
structure PlS (w : World) (gS N0 m : Nat) (lv wv : Value) (w0 : World) (qb : Nat) (X : List Value) (bs : Sl) (gf : Option Nat) (wr : World) : Prop where
 sh : ∃ N' P' Q' lv' wv', N0 ≤ N' ∧ N' ≤ N0 + m ∧ Shf w gS N' P' Q' lv' wv' wr ∧ PutS lv wv gS lv' wv' w0 wr ∧ ∀ g, gf = some g → Clr g N' P' Q'
 box : Arr wr qb 35 X
 byt : bs.Ok wr
 old : 0 < bs.l.length → ∀ x, bs.a = some x → x.block < w.heap.size
theorem PlS.later {w : World} {gS N0 m : Nat} {lv wv : Value} {w0 : World} {qb : Nat} {X : List Value} {bs : Sl} {gf : Option Nat} {wr w' : World} (h : PlS w gS N0 m lv wv w0 qb X bs gf wr) (hb : Below wr.heap.size wr w') : PlS w gS N0 m lv wv w0 qb X bs gf w' := by
 obtain ⟨N', P', Q', lv', wv', h1, h2, hS, hP, hC⟩ := h.sh
 exact ⟨⟨N', P', Q', lv', wv', h1, h2, hS.later hb, hP.later hb, hC⟩, h.box.later hb, h.byt.later hb, h.old⟩
theorem PlS.mark {w : World} {gS N0 m : Nat} {lv wv : Value} {w0 : World} {qb : Nat} {X : List Value} {bs : Sl} {wr w' : World} (h : PlS w gS N0 m lv wv w0 qb X bs none wr) (hb : Below wr.heap.size wr w') (g : Nat) (hg : wr.heap.size ≤ g) : PlS w gS N0 m lv wv w0 qb X bs (some g) w' := by
 obtain ⟨N', P', Q', lv', wv', h1, h2, hS, hP, hC⟩ := h.sh
 refine ⟨⟨N', P', Q', lv', wv', h1, h2, hS.later hb, hP.later hb, fun k hk i hi => ?_⟩, h.box.later hb, h.byt.later hb, h.old⟩
 simp only [Option.some.injEq] at hk
 subst hk
 exact ⟨fun e => by have := ((hS.p i hi).1.lt g e).2; omega, fun hl y hy e => by have := (hS.q i hi).lt hl y hy; simp only [Option.some.injEq] at e; omega⟩
theorem PlS.puts {w : World} {gS N0 m k : Nat} {lv wv : Value} {w0 : World} {qb : Nat} {X : List Value} {bs : Sl} {gf : Option Nat} {wr w' : World} {N1 N2 : Nat} {P1 Q1 P2 Q2 : Nat → Sl} {lv1 wv1 lv2 wv2 : Value} (h : PlS w gS N0 m lv wv w0 qb X bs gf wr) (h1 : N0 ≤ N1) (h2 : N1 ≤ N0 + m) (hS : Shf w gS N1 P1 Q1 lv1 wv1 wr) (hP : PutS lv wv gS lv1 wv1 w0 wr) (g1 : N1 ≤ N2) (g2 : N2 ≤ N1 + k) (hS2 : Shf w gS N2 P2 Q2 lv2 wv2 w') (hP2 : PutS lv1 wv1 gS lv2 wv2 wr w') (hC : ∀ g, gf = some g → Clr g N2 P2 Q2) : PlS w gS N0 (m + k) lv wv w0 qb X bs gf w' := by
 refine ⟨⟨N2, P2, Q2, lv2, wv2, by omega, by omega, hS2, hP.trans hP2, hC⟩, ?_, ?_, h.old⟩
 ·exact (hP2.but.block qb h.box.lt (cF hS.lrow h.box (by decide)) (cF hS.wrow h.box (by decide)) (fun e => arr_neZ h.box hS.s (by decide) e)).trans h.box
 ·exact hP2.but.ok h.byt (fun hl x hx e => by have := h.old hl x hx; have := (hS.lrow.lt _ e.symm).1; omega) (fun hl x hx e => by have := h.old hl x hx; have := (hS.wrow.lt _ e.symm).1; omega) (fun hl x hx e => by have := h.old hl x hx; have := hS.ge; simp only [Option.some.injEq] at e; omega)
theorem arr_own {w : World} {base g M c q : Nat} {ty : TypeId} {l : List Value} {v : List Int} (hO : cI w base (.slice (some ⟨g, 0, none⟩) M c) v) (hA : Arr w q ty l) (hne : ty ≠ 5) : q ≠ g := fun e => cF hO.1 hA hne (by rw [e]; rfl)
theorem PlS.turn {w : World} {gS N0 m : Nat} {lv wv : Value} {w0 : World} {qb : Nat} {X : List Value} {bs : Sl} {wr w' : World} {B g M c : Nat} {l : List Int} (h : PlS w gS N0 m lv wv w0 qb X bs (some g) wr) (ho : cI wr B (.slice (some ⟨g, 0, none⟩) M c) l) (hb : But g wr w') (hB : w0.heap.size ≤ B) (hB2 : w.heap.size ≤ B) : PlS w gS N0 m lv wv w0 qb X bs (some g) w' := by
 obtain ⟨N1, P1, Q1, lv1, wv1, h1, h2, hS, hP, hC⟩ := h.sh
 have hC := hC g rfl
 have hg : B ≤ g := (ho.1.lt g rfl).1
 have hs := arr_own ho hS.s (by decide)
 have hq := arr_own ho h.box (by decide)
 have nl : some g ≠ lv1.ownBlock := eJ ho.1 hS.lrow (by decide) g rfl
 have nw : some g ≠ wv1.ownBlock := eJ ho.1 hS.wrow (by decide) g rfl
 refine ⟨⟨N1, P1, Q1, lv1, wv1, h1, h2, ⟨?_, hS.ge, iC hS.lrow hb nl, iC hS.wrow hb nw, hS.apt, fun i hi => ⟨iC (hS.p i hi).1 hb (fun e => (hC i hi).1 e.symm), (hS.p i hi).2⟩, hS.pn, fun i hi => jR (hS.q i hi) hb (hC i hi).2, hS.eq, hS.sz, hS.pp, hS.pq, hS.ql, hS.qw, hS.qs, ?_⟩, ?_, fun k hk => by simp only [Option.some.injEq] at hk; subst hk; exact hC⟩, ?_, ?_, h.old⟩
 ·exact (hb.block gS hS.s.lt hs).trans hS.s
 ·exact hS.bel.trans ⟨hb.os, hb.tape, hb.output, hb.size, fun k hk => hb.block k (by have := hS.bel.size; omega) (by omega)⟩
 ·exact ⟨⟨hb.os.trans hP.but.os, hb.tape.trans hP.but.tape, hb.output.trans hP.but.output, Nat.le_trans hP.but.size hb.size, fun k hk e1 e2 e3 => (hb.block k (by have := hP.but.size; omega) (by omega)).trans (hP.but.block k hk e1 e2 e3)⟩, hP.l, hP.r⟩
 ·exact (hb.block qb h.box.lt hq).trans h.box
 ·exact jR h.byt hb (fun hl x hx e => by have := h.old hl x hx; simp only [Option.some.injEq] at e; omega)
theorem PlS.size {w : World} {gS N0 m : Nat} {lv wv : Value} {w0 : World} {qb : Nat} {X : List Value} {bs : Sl} {gf : Option Nat} {wr : World} (h : PlS w gS N0 m lv wv w0 qb X bs gf wr) : w0.heap.size ≤ wr.heap.size ∧ w.heap.size ≤ wr.heap.size := by
 obtain ⟨N1, P1, Q1, lv1, wv1, h1, h2, hS, hP, hC⟩ := h.sh
 exact ⟨hP.but.size, hS.bel.size⟩
theorem full_puts {w : World} {gS N1 : Nat} {P1 Q1 : Nat → Sl} {lv1 wv1 lv2 wv2 : Value} {wr w' : World} {B : Nat} {v : Value} {l : List Int} (ho : cI wr B v l) (hS : Shf w gS N1 P1 Q1 lv1 wv1 wr) (hP2 : PutS lv1 wv1 gS lv2 wv2 wr w') : cI w' B v l :=
 hP2.but.own ho (fun k hk e => eJ ho.1 hS.lrow (by decide) k hk e) (fun k hk e => eJ ho.1 hS.wrow (by decide) k hk e) (fun k hk e => cF ho.1 hS.s (by decide) (by rw [hk, e]))
end Go.Proofs.YtejagcngbgnogaaGreat
