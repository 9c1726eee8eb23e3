import Derived.Test.YtejagcngbgnogaaGreatQShr
import Derived.Test.YtejagcngbgnogaaGreatQGbkZ
import Derived.Test.YtejagcngbgnogaaGreatQOfeW
import Derived.Test.YtejagcngbgnogaaGreatQGaiZ
import Derived.Deep.MidRow
import Derived.Deep.Cut
set_option maxHeartbeats 4000000
set_option maxRecDepth 100000
set_option linter.unusedSimpArgs false
set_option linter.unusedVariables false
namespace Go.Proofs.YtejagcngbgnogaaGreat
open Go.RowKit
theorem gP {P : Program} {t : TypeId} {it : TypeInfo} {fields : Array Field} {Z : List Value} {n : Nat} {ms : List Nat} (hit : P.info? t = some it) (hu : P.underlying t = some (.struct fields)) (hz : it.zero = some (.agg Z.toArray))
  (hp : fields.toList.mapM (fun f => (P.info? f.type).map fun i => (f.offset, i.size)) = some (plc (n :: ms) 0)) (v : Value) (hv : v.cells.size = n) (hZ : n ≤ Z.length) : P.built t [(0, v)] = some (bY v ++ Z.drop n).toArray := by
 unfold Program.built
 rw [hit, hu]
 simp only [hz, hp]
 have hcl : (bY v).length = n := by rw [bY, Array.length_toList]; exact hv
 have hf := fold_set (bY v) 0 0 [] (Z.take n) (Z.drop n) (by rw [List.length_take, hcl]; omega) (by simp)
 rw [List.nil_append, List.nil_append, List.take_append_drop] at hf
 show Instr.fill _ Z.toArray _ = _
 have h0 : (plc (n :: ms) 0).toArray[0]? = some (0, n) := rfl
 exact sh105
theorem jI {s sT : Nat → Kd} {n N : Nat} (x : Nat → Int) (hn : n ≤ N) (hs : ∀ i, i < n → s i = sT i) (hx : ∀ i, n ≤ i → x i = 0) : cl sT n x ++ (cl s N (fun _ => 0)).drop n = cl s N x := by
 apply List.ext_getElem?
 intro i
 by_cases hi : i < n
 ·rw [List.getElem?_append_left (by rw [aC]; exact hi), eB _ _ _ _ hi, eB _ _ _ _ (by omega), hs i hi]
 ·rw [List.getElem?_append_right (by rw [aC]; omega), aC, List.getElem?_drop]
  by_cases h2 : i < N
  ·rw [eB _ _ _ _ (by omega), eB _ _ _ _ h2, show n + (i - n) = i by omega, hx i (by omega)]
  ·rw [List.getElem?_eq_none (by rw [aC]; omega), List.getElem?_eq_none (by rw [aC]; omega)]
section
variable {w W : World} {ty : TypeId} {sh : Nat → Kd} {N q p : Nat} {b : Sl} {Z : List Value} {D : Option ((Nat → Int) × List Int)} {x : Nat → Int}
def RdF (n a : Nat) (w : World) (ty : TypeId) (sh : Nat → Kd) (N q p : Nat) (b : Sl) (Z : List Value) (D : Option ((Nat → Int) × List Int)) (x : Nat → Int) (e : Ending) (W1 : World) : Prop :=
 ∃ L : List Int, e = .returned (.agg (U8 L).toArray) ∧ Hid (L.length = n) ∧ Hid (W1.there q a (U8 L).toArray.size) ∧ Hid ((U8 L).toArray.all (·.oneCell') = true) ∧ Hid (RdS w ty sh N q p b Z (stp (aL a n) D) (eE x a L) (W1.setCells q a (U8 L).toArray.toList))
theorem RdS.fixed {n t : Nat} {f : Int} {e : Ending} {W1 : World} (h : RdS w ty sh N q p b Z D x W) (hG : Grd D x (b.l.drop t) f) (a : Nat) (ha : a + n ≤ N) (hs : ∀ i, i < n → sh (a + i) = .b) (k : FxP n p b (b.l.drop t) f W e W1) : RdF n a w ty sh N q p b Z D x e W1 := by
 obtain ⟨hB, L, t1, rfl, hL, hLB, hLe, hI, hr⟩ := k
 have hT := h.trm1 hB
 refine ⟨L, rfl, aA hL, aA fun j hj => ⟨?_, hT.arr.frozen _⟩, aA (all_oneCell_toArray (fun v hv => by simp only [U8, List.mem_map] at hv; obtain ⟨y, -, rfl⟩ := hv; rfl)), aA ?_⟩
 ·rw [List.size_toArray, U8_length, hL] at hj
  rw [hT.cell (a + j) (by omega)]; rfl
 ·have hG' := hG.fix a n
  rw [← hr, ← hLe] at hG'
  refine h.next hB hI hG' (but_setCells _ a W1 W1 (But.refl q W1)) ?_
  exact hT.setL L a (by omega) (fun i hi => hs i (by omega)) hLB
theorem RdS.hash (h : RdS w ty sh N q p b Z D x W) (a : Nat) (ha : a + 32 ≤ N) (hs : ∀ i, i < 32 → sh (a + i) = .b) :
  Calls Tryz.prog 139 #[.pointer (some ⟨p, 0, none⟩)] W (RdF 32 a w ty sh N q p b Z D x) := by
 obtain ⟨t, f, hI, hG⟩ := h.inr
 exact (rHash_any p b t f W hI h.mx).mono fun e W1 k => h.fixed hG a ha hs k
theorem RdS.sig (h : RdS w ty sh N q p b Z D x W) (a : Nat) (ha : a + 64 ≤ N) (hs : ∀ i, i < 64 → sh (a + i) = .b) :
  Calls Tryz.prog 142 #[.pointer (some ⟨p, 0, none⟩)] W (RdF 64 a w ty sh N q p b Z D x) := by
 obtain ⟨t, f, hI, hG⟩ := h.inr
 exact (rSig_any p b t f W hI h.mx).mono fun e W1 k => h.fixed hG a ha hs k
end
def CrP (p : Nat) (b : Sl) (t : Nat) (w : World) (e : Ending) (w' : World) : Prop :=
 But p w w' ∧ ∃ (y : Nat → Int) (t' : Nat) (f' : Int), e = .returned (.agg (cl aD 99 y).toArray) ∧ (∀ i, i < 99 → (aD i).ok (y i)) ∧ (∀ i, 99 ≤ i → y i = 0) ∧ Inr w' p b t' f' ∧ Grd ((aB aF).get (fun _ => 0) (b.l.drop t)) y (b.l.drop t') f'
theorem oZ (p : Nat) (b : Sl) (t : Nat) (w : World) (h : Inr w p b t 0) (hm : b.n ≤ 1000000) :
  Calls Tryz.prog 135 #[.pointer (some ⟨p, 0, none⟩)] w (CrP p b t w) := by
 obtain ⟨Z, it, hZ, hZl, hit, hz, hzv⟩ := eW
 have hp := h.arr.lt
 have s0 : (w.alloc (.cells Z.toArray 32)).heap.size = w.heap.size + 1 := by simp
 have A0 : Arr ((w.alloc (.cells Z.toArray 32)).alloc (.cells Z.toArray 32)) w.heap.size 32 Z := (Arr.new w 32 _).alloc _
 have A1 := Arr.new (w.alloc (.cells Z.toArray 32)) 32 Z
 rw [s0] at A1
 have b1 : Below w.heap.size w ((w.alloc (.cells Z.toArray 32)).alloc (.cells Z.toArray 32)) := bV (aJ w _) _ (by rw [s0]; omega)
 have RS0 : Hid (RdS w 32 aD 99 (w.heap.size + 1) p b Z (some (fun _ => 0, b.l.drop t)) (fun _ => 0) ((w.alloc (.cells Z.toArray 32)).alloc (.cells Z.toArray 32))) :=
  aA ⟨⟨by rw [← hZ]; exact A1, fun i _ => iL _, by decide, by decide, by decide⟩, ⟨t, 0, h.later b1, rfl, rfl, rfl⟩, A0, ⟨b1.os, b1.tape, b1.output, b1.size, fun k hk _ => b1.block k hk⟩, Nat.lt_succ_self _, by omega, by omega, fun hl y hy => by have := (h.off hl y hy).2; omega, hm⟩
 have HZL := aA hZl
 have hsz := Tryz.szTCert
 have HSZ := aA hsz
 have HOF := aA (fun hl y hy => (h.off hl y hy).2)
 clear h A0 A1 b1 s0 hit hz hZ hZl hsz
 go_enter Tryz.func135, Tryz.ntmps135
 have hC := (unhide RS0).u32 0 1 (fun _ => 65535) (by decide) (by decide)
 go_wp2_with fail
 generalize (w.alloc (.cells Z.toArray 32)).alloc (.cells Z.toArray 32) = W at *
 refine hC.mono ?_
 rintro e W1 ⟨v1, rfl, ew1, cc, fz, RS1⟩
 clear hC RS0
 go_wp2_with fail
 generalize W1.setCell ⟨w.heap.size + 1, 0, none⟩ (.int .i64 v1) = U1 at *
 clear cc fz ew1
 have hC := (unhide RS1).u32 1 1 (fun _ => 4096) (by decide) (by decide)
 refine hC.mono ?_
 rintro e W2 ⟨v2, rfl, ew2, cc, fz, RS2⟩
 clear hC RS1
 go_wp2_with fail
 generalize W2.setCell ⟨w.heap.size + 1, 1, none⟩ (.int .i64 v2) = U2 at *
 clear cc fz ew2
 have hC := (unhide RS2).u64 2 1000000000 (by decide) (by decide)
 refine hC.mono ?_
 rintro e W3 ⟨v3, u3, rfl, ew3, cc, fz, RS3⟩
 clear hC RS2
 go_wp2_with fail
 generalize W3.setCell ⟨w.heap.size + 1, 2, none⟩ (.int .i64 u3) = U3 at *
 clear cc fz ew3
 have hC := (unhide RS3).hash 3 (by decide) (fun i hi => by unfold aD; rw [if_neg (by omega)])
 refine hC.mono ?_
 rintro e W4 ⟨L4, rfl, HL4, HT4, HO4, RS4⟩
 clear hC RS3
 have HI4 : Hid ((Tryz.prog.info? 28).map (·.size) = some (U8 L4).toArray.size) := aA (by rw [List.size_toArray, U8_length, unhide HL4]; exact Tryz.szKHash)
 generalize U8 L4 = C4 at *
 simp only []
 go_at_K
 rename_i hK
 refine hK _ _ ?_
 clear hK
 refine cV ?_
 refine wpList_store_mid rfl 28 (.tmp 18) (.tmp 17) rfl (w.heap.size + 1) 3 C4.toArray rfl rfl (unhide HT4) (unhide HI4) (unhide HO4) ?_
 refine wpList_nil ?_
 simp only [Act.put]
 generalize W4.setCells (w.heap.size + 1) 3 C4.toArray.toList = U4 at *
 have hC := (unhide RS4).sig 35 (by decide) (fun i hi => by unfold aD; rw [if_neg (by omega)])
 go_wp2_with fail
 refine hC.mono ?_
 rintro e W5 ⟨L5, rfl, HL5, HT5, HO5, RS5⟩
 clear hC RS4
 have HI5 : Hid ((Tryz.prog.info? 30).map (·.size) = some (U8 L5).toArray.size) := aA (by rw [List.size_toArray, U8_length, unhide HL5]; exact Tryz.szKSig)
 generalize U8 L5 = C5 at *
 simp only []
 go_at_K
 rename_i hK
 refine hK _ _ ?_
 clear hK
 refine cV ?_
 refine wpList_store_mid rfl 30 (.tmp 21) (.tmp 20) rfl (w.heap.size + 1) 35 C5.toArray rfl rfl (unhide HT5) (unhide HI5) (unhide HO5) ?_
 refine wpList_nil ?_
 simp only [Act.put]
 generalize W5.setCells (w.heap.size + 1) 35 C5.toArray.toList = U5 at *
 have hx : ∃ y : Nat → Int, y = eE (eE (upd (upd (upd (fun _ => 0) 0 v1) 1 v2) 2 u3) 3 L4) 35 L5 := ⟨_, rfl⟩
 obtain ⟨y, hy⟩ := hx
 have hy0 : ∀ i, 99 ≤ i → y i = 0 := fun i hi => by
  rw [hy]; unfold eE upd
  rw [if_neg (by have := unhide HL5; omega), if_neg (by have := unhide HL4; omega), if_neg (by omega), if_neg (by omega), if_neg (by omega)]
 rw [← hy] at RS5
 have HY0 := aA hy0
 have hg : stp (aL 35 64) (stp (aL 3 32) (stp (aV 2 1000000000) (stp (aO 1 1 (fun _ => 4096)) (stp (aO 0 1 (fun _ => 65535)) (some (fun _ => 0, b.l.drop t)))))) = (aB aF).get (fun _ => 0) (b.l.drop t) := by rw [gE]; rfl
 rw [hg] at RS5
 clear hy hy0 hg HL4 HL5 HT4 HT5 HO4 HO5 HI4 HI5
 have rg := aA (Arr.range (unhide RS5).trm.arr)
 have HAR := aA (unhide RS5).res
 have HSM : Hid ((Tryz.prog.info? 32).map (·.size) = some (cl aD 99 y).length) := aA (by rw [aC]; exact unhide HSZ)
 have HSA : Hid ((Tryz.prog.info? 32).map (·.size) = some (cl aD 99 y).toArray.size) := aA (by rw [List.size_toArray, aC]; exact unhide HSZ)
 have HSS : Hid (Z.toArray.size = (cl aD 99 y).toArray.size) := aA (by rw [List.size_toArray, List.size_toArray, aC, unhide HZL])
 have HOC : Hid ((cl aD 99 y).toArray.all (·.oneCell') = true) := aA (all_oneCell_toArray (cK _ _ _))
 have HEND : Hid (CrP p b t w (.returned (.agg (cl aD 99 y).toArray)) (U5.setRow w.heap.size (cl aD 99 y).toArray)) := aA (by
  have hr := unhide RS5
  obtain ⟨t', f', hI, hG⟩ := hr.inr
  have b2 : But w.heap.size U5 (U5.setRow w.heap.size (cl aD 99 y).toArray) := (But.refl _ U5).setRow _
  refine ⟨⟨b2.os.trans hr.but.os, b2.tape.trans hr.but.tape, b2.output.trans hr.but.output, Nat.le_trans hr.but.size b2.size, fun i hi hip => (b2.block i (Nat.lt_of_lt_of_le hi hr.but.size) (by omega)).trans (hr.but.block i hi hip)⟩, y, t', f', rfl, hr.trm.ok, unhide HY0, ?_, hG⟩
  exact hI.keep (S := (· = w.heap.size)) ⟨b2.os, b2.tape, b2.output, b2.size, b2.block⟩ (by omega) (fun hl z hz e => by have := unhide HOF hl z hz; omega))
 generalize cl aD 99 y = M at *
 clear RS5
 go_upto_region 7 with fail
 refine wp_region_lit ?_
 refine wpList_load_mid rfl 32 (.tmp 3) rfl (w.heap.size + 1) 0 rfl M _ (unhide rg) Tryz.underlying32 rfl (unhide HSM) ?_
 simp only [Act.put]
 refine wpList_store_row rfl 32 (.tmp 2) (.tmp 22) rfl w.heap.size M.toArray rfl rfl 32 Z.toArray (unhide HAR) (unhide HSA) (unhide HSS) (unhide HOC) ?_
 refine wpList_nil ?_
 go_wp2
 refine bodyPost_ret (results_cell_row rfl _ _ w.heap.size 32 M.toArray (0, 0) _ rfl (setRow_heap _ w.heap.size _ _ _ _ (unhide HAR)) Tryz.underlying32 rfl (unhide HSA)) rfl ?_
 exact unhide HEND
set_option maxHeartbeats 2000000
def FdY (b : Sl) (w : World) (e : Ending) (w' : World) : Prop := ∃ p, e = .returned (.tuple #[.pointer (some ⟨p, 0, none⟩), .int .i64 0]) ∧ w.heap.size ≤ p ∧ Inr w' p b 4 0 ∧ Below w.heap.size w w'
def FdN (k : Int) (w : World) (e : Ending) (w' : World) : Prop := e = .returned (.tuple #[.pointer none, .int .i64 k]) ∧ Below w.heap.size w w'
theorem spl_far {l : List Int} (h : 1024 < l.length) : spl l = (0, [], 1) := by unfold spl; rw [if_pos h]
theorem Sl.Ok.lt {b : Sl} {w : World} (h : b.Ok w) (hl : 0 < b.l.length) : ∀ y, b.a = some y → y.block < w.heap.size := fun y hy => by
 obtain ⟨ab, ao, ha, hlt, -⟩ := h.lies hl
 rw [hy] at ha
 simp only [Option.some.injEq] at ha
 subst ha
 exact hlt
theorem inr_new (b : Sl) (w : World) (hb : b.Ok w) (h4 : 4 ≤ b.n) : Inr (w.alloc (.cells #[b.v, .int .i64 4, .int .i64 0] 380)) w.heap.size b 4 0 := by
 have b1 : Below w.heap.size w (w.alloc (.cells #[b.v, .int .i64 4, .int .i64 0] 380)) := aJ w _
 refine ⟨Arr.new w 380 [b.v, .int .i64 4, .int .i64 0], hb.later b1, h4, fun hl y hy => ?_⟩
 have := hb.lt hl y hy
 exact ⟨by omega, by have := b1.size; omega⟩
theorem oE (b : Sl) (d : Int) (w : World) (hb : b.Ok w) (h0 : (spl b.l).2.2 = 0) (h1 : (spl b.l).1 = d) : Calls Tryz.prog 134 #[b.v, .int .i64 d] w (FdY b w) := by
 have hmx := hb.mx
 have hle := hb.le
 have hlen := hb.len
 unfold maxLen at hmx
 have hn : ¬ 1024 < b.n := fun h => by rw [spl_far (by omega)] at h0; simp at h0
 have hR := iN b w hb
 rcases kX b.l with h | ⟨x, h, h4, -, -⟩
 ·unfold spl at h0; rw [if_neg (by omega), h] at h0; simp at h0
 ·have hx : x = d := by unfold spl at h1; rw [if_neg (by omega), h] at h1; simpa using h1
  subst hx
  rw [h] at hR
  have HI := aA (inr_new b w hb (by omega))
  have HB : Hid (Below w.heap.size w (w.alloc (.cells #[b.v, .int .i64 4, .int .i64 0] 380))) := aA (aJ w _)
  unfold FdY
  obtain ⟨ba, bn, bc, bl⟩ := b
  simp only [Sl.v] at *
  clear h h0 hb h4 hlen
  go_enter Tryz.func134, Tryz.ntmps134
  go_wp2_with (go_at_call 62; refine hR.mono ?_; rintro e w' ⟨rfl, rfl⟩)
  go_ret2
  exact ⟨_, rfl, Nat.le_refl _, unhide HI, unhide HB⟩
section
open Go.Proofs.Tryz renaming func134 → z92a, ntmps134 → z92b
theorem tA (b : Sl) (d : Int) (w : World) (hb : b.Ok w) (h0 : (spl b.l).2.2 ≠ 0) : Calls Tryz.prog 134 #[b.v, .int .i64 d] w (FdN (spl b.l).2.2 w) := by
 have hmx := hb.mx
 have hle := hb.le
 have hlen := hb.len
 unfold maxLen at hmx
 have hR := iN b w hb
 unfold FdN
 by_cases hn : 1024 < b.n
 ·have HL : Hid (spl b.l = (0, [], 1)) := aA (spl_far (by omega))
  rw [unhide HL]
  obtain ⟨ba, bn, bc, bl⟩ := b
  simp only [Sl.v] at *
  clear hR h0 hb
  go_enter Tryz.func134, Tryz.ntmps134
  go_wp2
  go_ret2
  exact ⟨rfl, Below.refl _ _⟩
 ·rcases kX b.l with h | ⟨x, h, h4, -, -⟩
  ·have HL : Hid (spl b.l = (0, [], 90)) := by unfold spl; rw [if_neg (by omega), h]; exact aA rfl
   rw [unhide HL]
   rw [h] at hR
   obtain ⟨ba, bn, bc, bl⟩ := b
   simp only [Sl.v] at *
   clear h0 hb h
   exact sh92
  ·exact absurd (by unfold spl; rw [if_neg (by omega), h]; rfl) h0
theorem tB (b : Sl) (d : Int) (w : World) (hb : b.Ok w) (h0 : (spl b.l).2.2 = 0) (h1 : (spl b.l).1 ≠ d) : Calls Tryz.prog 134 #[b.v, .int .i64 d] w (FdN 91 w) := by
 have hmx := hb.mx
 have hle := hb.le
 have hlen := hb.len
 unfold maxLen at hmx
 have hn : ¬ 1024 < b.n := fun h => by rw [spl_far (by omega)] at h0; simp at h0
 have hR := iN b w hb
 unfold FdN
 rcases kX b.l with h | ⟨x, h, h4, -, -⟩
 ·unfold spl at h0; rw [if_neg (by omega), h] at h0; simp at h0
 ·have hx : x ≠ d := by unfold spl at h1; rw [if_neg (by omega), h] at h1; simpa using h1
  rw [h] at hR
  obtain ⟨ba, bn, bc, bl⟩ := b
  simp only [Sl.v] at *
  clear h h0 hb h4 hlen h1
  exact sh92
end
def endE (r : Int) (may : Bool) : Int := if r = 0 ∧ may = true then 0 else 90
theorem iU (p : Nat) (b : Sl) (t : Nat) (f : Int) (may : Bool) (w : World) (h : Inr w p b t f) (hm : b.n ≤ 1000000) :
  Calls Tryz.prog 136 #[.pointer (some ⟨p, 0, none⟩), .bool may] w fun e w' => e = .returned (.int .i64 (endE (rEnd (b.l.drop t) f) may)) ∧ ∃ k, w' = w.drewN k := by
 have hD := iDone_any p b t f w h (by omega)
 clear h
 generalize rEnd (b.l.drop t) f = r at *
 by_cases hr : r = 0
 ·subst hr
  cases may with
  | true =>
   have HL : Hid (endE 0 true = 0) := aA rfl
   rw [unhide HL]
   exact sh99
  | false =>
   have HL : Hid (endE 0 false = 90) := aA rfl
   rw [unhide HL]
   exact sh99
 ·have HL : Hid (endE r may = 90) := by unfold endE; rw [if_neg (fun h => hr h.1)]; exact aA rfl
  rw [unhide HL]
  clear HL
  exact sh99
theorem pN {dom : Int} {F : FdS} {l : List Int} {x : Nat → Int} {r : List Int} {f : Int} (h0 : (spl l).2.2 = 0) (h1 : (spl l).1 = dom) (h : Grd (F.get (fun _ => 0) (spl l).2.1) x r f) : decL dom F l = if endE (rEnd r f) (F.fit x) = 0 then (x, 0) else (fun _ => 0, 90) := by
 unfold decL
 rw [if_pos h0, if_pos h1]
 cases hD : F.get (fun _ => 0) (spl l).2.1 with
 | none =>
  rw [hD] at h
  have hr : rEnd r f ≠ 0 := by
   unfold rEnd
   split
   ·decide
   ·exact h
  have he : endE (rEnd r f) (F.fit x) = 90 := by unfold endE; rw [if_neg (fun h => hr h.1)]
  rw [he, if_neg (by decide)]
 | some q =>
  obtain ⟨y, s⟩ := q
  rw [hD] at h
  obtain ⟨rfl, rfl, rfl⟩ := h
  cases r with
  | nil =>
   have hr : rEnd [] 0 = 0 := rfl
   rw [hr]
   cases hf : F.fit x <;> simp [endE, hf]
  | cons a t =>
   have hr : rEnd (a :: t) 0 = 90 := by simp [rEnd]
   rw [hr]
   simp [endE]
theorem spl_drop {l : List Int} (h0 : (spl l).2.2 = 0) : (spl l).2.1 = l.drop 4 := by
 unfold spl at *
 by_cases hn : 1024 < l.length
 ·rw [if_pos hn] at h0; simp at h0
 ·rw [if_neg hn] at h0 ⊢
  by_cases hr : (rdH l).2.2 = 0
  ·rw [if_pos hr]
  ·rw [if_neg hr] at h0; simp at h0
end Go.Proofs.YtejagcngbgnogaaGreat

set_option linter.unusedSimpArgs false
set_option linter.unusedVariables false
namespace Go.Proofs.YtejagcngbgnogaaGreat
open Go.RowKit
theorem iV {p : Nat} {w W : World} (h : But p w W) (hp : w.heap.size ≤ p) : Below w.heap.size w W := ⟨h.os, h.tape, h.output, h.size, fun k hk => h.block k hk (by omega)⟩
theorem below_but {w W : World} (h : Below w.heap.size w W) (p : Nat) : But p w W := ⟨h.os, h.tape, h.output, h.size, fun k hk _ => h.block k hk⟩
theorem nE (F : FdS) (s : List Int) : stp (bR 0 F) (some (fun _ => 0, s)) = F.get (fun _ => 0) s := by
 simp only [stp, bR]
 rw [bF]
 cases F.get (fun _ => 0) s with
 | none => rfl
 | some q => simp only [ins_zero]
theorem RdS.first {w w1 w2 : World} {ty : TypeId} {sh : Nat → Kd} {N p t : Nat} {f : Int} {b : Sl} {Z : List Value} {D : Option ((Nat → Int) × List Int)} {y : Nat → Int} (hA : Arr w1 w.heap.size ty Z) (hb : Below w.heap.size w w1) (hp : w.heap.size < p) (hB : But p w1 w2) (hI : Inr w2 p b t f) (hG : Grd D y (b.l.drop t) f)
  (hok : ∀ i, i < N → (sh i).ok (y i)) (hbo : b.Ok w) (hm : b.n ≤ 1000000) (hZ : Z.length = N) (n1 : ty ≠ 460) (n2 : ty ≠ 452) (n3 : ty ≠ 5) :
  RdS w ty sh N w2.heap.size p b Z D y ((w2.alloc (.cells Z.toArray ty)).setRow w2.heap.size (cl sh N y).toArray) := by
 have hplt := hI.arr.lt
 have hs1 := hA.lt
 have b3 : Below w2.heap.size w2 (w2.alloc (.cells Z.toArray ty)) := aJ _ _
 have A3 := Arr.new w2 ty Z
 have b4 : But w2.heap.size (w2.alloc (.cells Z.toArray ty)) ((w2.alloc (.cells Z.toArray ty)).setRow w2.heap.size (cl sh N y).toArray) := (But.refl _ _).setRow _
 have bl : But p w w2 := (below_but hb p).trans hB
 have hlt3 : w2.heap.size ≤ (w2.alloc (.cells Z.toArray ty)).heap.size := b3.size
 have hres : Arr w2 w.heap.size ty Z := (hB.block _ hs1 (by omega)).trans hA
 have hsz := hres.lt
 refine ⟨⟨A3.setRow (cl sh N y), hok, n1, n2, n3⟩, ⟨t, f, ?_, hG⟩, ?_, ?_, hsz, by omega, by omega, fun hl z hz => ?_, hm⟩
 ·exact (hI.later b3).keep (S := (· = w2.heap.size)) ⟨b4.os, b4.tape, b4.output, b4.size, b4.block⟩ (by omega) (fun hl z hz e => by have := (hI.off hl z hz).2; omega)
 ·exact (b4.block _ (by omega) (by omega)).trans ((b3.block _ hsz).trans hres)
 ·exact ⟨b4.os.trans (b3.os.trans bl.os), b4.tape.trans (b3.tape.trans bl.tape), b4.output.trans (b3.output.trans bl.output), Nat.le_trans bl.size (Nat.le_trans b3.size b4.size), fun k hk hkp => (b4.block k (by have := bl.size; omega) (by have := bl.size; omega)).trans ((b3.block k (by have := bl.size; omega)).trans (bl.block k hk hkp))⟩
 ·have := hbo.lt hl z hz; have := bl.size; omega
theorem RdS.later {w W W' : World} {ty : TypeId} {sh : Nat → Kd} {N q p : Nat} {b : Sl} {Z : List Value} {D : Option ((Nat → Int) × List Int)} {x : Nat → Int} (h : RdS w ty sh N q p b Z D x W) (hb : Below W.heap.size W W') : RdS w ty sh N q p b Z D x W' := by
 obtain ⟨t, f, hI, hG⟩ := h.inr
 exact ⟨h.trm.later hb, ⟨t, f, hI.later hb, hG⟩, h.res.later hb, h.but.trans (below_but hb p), h.hq, h.pq, h.pw, h.off, h.mx⟩
theorem kI (r : Int) (m : Bool) : endE r m = 0 ∨ endE r m = 90 := by unfold endE; split <;> simp
theorem kG {D : Option ((Nat → Int) × List Int)} {x : Nat → Int} {r r' : List Int} {f f' : Int} {m : Bool} (h : Grd D x r f) (h' : Grd D x r' f') : endE (rEnd r f) m = endE (rEnd r' f') m := by
 cases D with
 | some q => obtain ⟨y, s⟩ := q; obtain ⟨rfl, rfl, rfl⟩ := h; obtain ⟨rfl, -, rfl⟩ := h'; rfl
 | none =>
  have e : ∀ (r : List Int) (f : Int), f ≠ 0 → endE (rEnd r f) m = 90 := fun r f hf => by
   have : rEnd r f ≠ 0 := by unfold rEnd; rw [if_neg (fun h => hf h.1)]; exact hf
   unfold endE; rw [if_neg (fun h => this h.1)]
  rw [e r f h, e r' f' h']
end Go.Proofs.YtejagcngbgnogaaGreat
