import Derived.Test.YtejagcngbgnogaaGreatQShr
import Derived.Test.YtejagcngbgnogaaGreatQGbjZ
import Derived.Test.YtejagcngbgnogaaGreatQGakZ
import Derived.Test.YtejagcngbgnogaaGreatQAccX
import Derived.Test.YtejagcngbgnogaaGreatQGalZ
set_option maxHeartbeats 4000000
set_option maxRecDepth 100000
set_option linter.unusedSimpArgs false
set_option linter.unusedVariables false
namespace Go.Proofs.YtejagcngbgnogaaGreat
open Go.RowKit
theorem padd_step {L : List Int} {n k : Nat} (hk : k < L.length) (hn : L.length ≤ n) : (cQ n (L.take k)).set k (L.getD k 0) = cQ n (L.take (k + 1)) := by
 apply List.ext_getElem?
 intro i
 unfold cQ
 rw [List.getElem?_set]
 have h1 : (L.take k).length = k := by rw [List.length_take]; omega
 have h2 : (L.take (k + 1)).length = k + 1 := by rw [List.length_take]; omega
 by_cases hi : k = i
 ·subst hi
  rw [if_pos rfl, if_pos (by simp; omega), List.getElem?_append_left (by omega), List.getElem?_take_of_lt (by omega), List.getElem?_eq_getElem hk]
  simp [List.getD_eq_getElem?_getD, List.getElem?_eq_getElem hk]
 ·rw [if_neg hi]
  by_cases hl : i < k
  ·rw [List.getElem?_append_left (by omega), List.getElem?_append_left (by omega), List.getElem?_take_of_lt (by omega), List.getElem?_take_of_lt (by omega)]
  ·rw [List.getElem?_append_right (by omega), List.getElem?_append_right (by omega), h1, h2, List.getElem?_replicate, List.getElem?_replicate]
   by_cases h3 : i < n
   ·rw [if_pos (by omega), if_pos (by omega)]
   ·rw [if_neg (by omega), if_neg (by omega)]
theorem padd_isB {L : List Int} {n : Nat} (h : IsB L) : IsB (cQ n L) := fun y hy => by
 unfold cQ at hy
 rcases List.mem_append.1 hy with h1 | h1
 ·exact h y h1
 ·have := List.eq_of_mem_replicate h1; subst this; exact ⟨by decide, by decide⟩
def FxP (n p : Nat) (b : Sl) (r : List Int) (f : Int) (w : World) (e : Ending) (w' : World) : Prop :=
 But p w w' ∧ ∃ L t, e = .returned (.agg (U8 L).toArray) ∧ L.length = n ∧ IsB L ∧ L = cQ n (face [] (bX n) (r, f)).1 ∧ Inr w' p b t (face [] (bX n) (r, f)).2.2 ∧ b.l.drop t = (face [] (bX n) (r, f)).2.1
theorem zeroHashU : ∀ w, (zeroValue 28).run Tryz.prog w = .ok (.agg (U8 (cQ 32 [])).toArray) w := by
 have h : (Tryz.prog.info? 28).bind (·.zero) = some (.agg (U8 (cQ 32 [])).toArray) := by kernel_rfl
 cases hit : Tryz.prog.info? 28 with
 | none => rw [hit] at h; simp at h
 | some it =>
  rw [hit] at h
  have hz : it.zero = some (.agg (U8 (cQ 32 [])).toArray) := h
  exact fun w => by simp [zeroValue, run_typeInfo w hit, hz]
theorem rHash_any (p : Nat) (b : Sl) (t : Nat) (f : Int) (w : World) (h : Inr w p b t f) (hm : b.n ≤ 1000000) :
  Calls Tryz.prog 139 #[.pointer (some ⟨p, 0, none⟩)] w (FxP 32 p b (b.l.drop t) f w) := by
 have hzv := zeroHashU
 have hp := h.arr.lt
 have hlen := kH 32 (b.l.drop t, f)
 have h0 : (cQ 32 []).length = 32 := iK (by decide)
 have s0 : (w.alloc (.cells (U8 (cQ 32 [])).toArray 28)).heap.size = w.heap.size + 1 := by simp
 have A0 : Arr ((w.alloc (.cells (U8 (cQ 32 [])).toArray 28)).alloc (.cells (U8 (cQ 32 [])).toArray 28)) w.heap.size 28 (U8 (cQ 32 [])) := (Arr.new w 28 _).alloc _
 have A1 := Arr.new (w.alloc (.cells (U8 (cQ 32 [])).toArray 28)) 28 (U8 (cQ 32 []))
 rw [s0] at A1
 have b1 : Below w.heap.size w ((w.alloc (.cells (U8 (cQ 32 [])).toArray 28)).alloc (.cells (U8 (cQ 32 [])).toArray 28)) := bV (aJ w _) _ (by rw [s0]; omega)
 have HOF := aA (fun hl y hy => (h.off hl y hy).2)
 have hF := oC p b t f 32 _ (h.later b1) (by omega)
 have hSz : ∀ L : List Int, L.length = 32 → (Tryz.prog.info? 28).map (·.size) = some (U8 L).length := fun L hL => by rw [U8_length, hL]; exact Tryz.szKHash
 unfold FxP
 generalize face [] (bX ((32 : Nat) : Int)) (b.l.drop t, f) = Q at *
 obtain ⟨L, st⟩ := Q
 have hlen : L.length ≤ 32 := by simp only at hlen; omega
 simp only
 have HA0 := aA A0
 have HA1 := aA A1
 have HB1 := aA b1
 have HZ0 := aA h0
 have HSZ := aA hSz
 clear h A0 A1 b1 s0 h0 hSz
 generalize hZ : cQ 32 [] = Z at *
 have HZE := aA hZ
 clear hZ
 go_enter Tryz.func139, Tryz.ntmps139
 go_wp2_with fail
 generalize (w.alloc (.cells (U8 Z).toArray 28)).alloc (.cells (U8 Z).toArray 28) = W at *
 refine hF.mono ?_
 rintro e w1 ⟨hB, v, t1, rfl, hV, hI, hr⟩
 clear hF
 simp only at hV hI hr
 obtain ⟨d, rfl, hd, hdl, hdn, hda⟩ := iH hV.1 hV.2
 have hLB : IsB L := hV.2
 have a0 : Arr w1 w.heap.size 28 (U8 Z) := (hB.block _ (unhide HA0).lt (by omega)).trans (unhide HA0)
 have a1 : Arr w1 (w.heap.size + 1) 28 (U8 Z) := (hB.block _ (unhide HA1).lt (by omega)).trans (unhide HA1)
 have hWs : w.heap.size + 1 < W.heap.size := (unhide HA1).lt
 have hdv : d.v = .slice d.a d.n d.c := rfl
 rw [hdv]
 have hdb : d.n ≤ 32 := by omega
 have hz0 : cQ 32 (L.take 0) = Z := by rw [List.take_zero]; exact unhide HZE
 have hb1 : But p w w1 := ⟨hB.os.trans (unhide HB1).os, hB.tape.trans (unhide HB1).tape, hB.output.trans (unhide HB1).output, Nat.le_trans (unhide HB1).size hB.size, fun k hk hkp => (hB.block k (Nat.lt_of_lt_of_le hk (unhide HB1).size) hkp).trans ((unhide HB1).block k hk)⟩
 have HDL := aA hdl
 have HDN := aA hdn
 have HD := aA hd
 have HDA := aA hda
 have HI := aA hI
 have HR := aA hr
 have HA0 := aA a0
 have HB := aA hb1
 have HW := aA hWs
 have HLE := aA hlen
 have hA1 := aA a1
 have HZZ := aA hz0
 clear hV hdv hdl hdn hd hda hI hr a0 a1 hB hWs hlen hb1 hz0 HA1 HB1
 go_wp2_with fail
 go_loopw [5] (fun i wr => ∃ k : Nat, k ≤ d.n ∧ i = .int .i64 k ∧ Hid (Arr wr (w.heap.size + 1) 28 (U8 (cQ 32 (L.take k)))) ∧ Hid (But (w.heap.size + 1) w1 wr)) (fun i _ => d.n - (intOf i).toNat)
 case atStart => exact ⟨0, by omega, rfl, by rw [unhide HZZ]; exact hA1, aA (But.refl _ _)⟩
 case round =>
  obtain ⟨k, hk, rfl, HA, HBw⟩ := hrel
  by_cases hlt : k < d.n
  ·obtain ⟨ab, ao, haa, hab, hac⟩ := (unhide HD).lies (by rw [unhide HDL]; have := unhide HDN; omega)
   have hne : ab ≠ w.heap.size + 1 := by have := unhide HDA _ haa; have := unhide HW; simp only at *; omega
   have ca : wr.cell? ⟨ab, ao + k, none⟩ = some (.int .u8 (L.getD k 0)) := by
    rw [World.cell?_of_block ((unhide HBw).block _ hab hne), ← unhide HDL]; exact hac k (by rw [unhide HDL]; have := unhide HDN; omega)
   have hkL : k < L.length := by have := unhide HDN; omega
   have hkl : k < (U8 (cQ 32 (L.take k))).length := by rw [U8_length, iK (by rw [List.length_take]; have := unhide HLE; omega)]; have := unhide HLE; omega
   have cc : ∃ u : Value, wr.cell? ⟨w.heap.size + 1, k, none⟩ = some u := ⟨_, by rw [(unhide HA).cell, List.getElem?_eq_getElem hkl]⟩
   obtain ⟨u, cc⟩ := cc
   have fz := (unhide HA).frozen k
   have HN : Hid (∀ W2, W2 = wr.setCell ⟨w.heap.size + 1, k, none⟩ (.int .u8 (L.getD k 0)) → Arr W2 (w.heap.size + 1) 28 (U8 (cQ 32 (L.take (k + 1)))) ∧ But (w.heap.size + 1) w1 W2) := aA (by
    rintro W2 rfl
    refine ⟨?_, (unhide HBw).setCell k _⟩
    rw [← padd_step hkL (unhide HLE), ← lH]
    exact (unhide HA).set k _)
   generalize L.getD k 0 = c at *
   have k32 : (k : Int) < 32 := by omega
   exact sh110
  ·have hkd : decide ((k : Int) < (d.n : Int)) = false := by simp; omega
   have hkk : L.take k = L := List.take_of_length_le (by have := unhide HDN; omega)
   rw [hkk] at HA
   have hLl : (cQ 32 L).length = 32 := iK (unhide HLE)
   have HPB := aA (padd_isB (n := 32) hLB)
   have HPL := aA hLl
   generalize hM : cQ 32 L = M at *
   have HME := aA hM
   have rg := aA (Arr.range (unhide HA))
   have a0 : Arr wr w.heap.size 28 (U8 Z) := ((unhide HBw).block _ (unhide HA0).lt (by omega)).trans (unhide HA0)
   have HAR := aA a0
   have HSA : Hid ((Tryz.prog.info? 28).map (·.size) = some (U8 M).toArray.size) := aA (by rw [List.size_toArray]; exact unhide HSZ M hLl)
   have HSS : Hid ((U8 Z).toArray.size = (U8 M).toArray.size) := aA (by rw [List.size_toArray, List.size_toArray, U8_length, U8_length, unhide HZ0, hLl])
   have HOC : Hid ((U8 M).toArray.all (·.oneCell') = true) := aA (all_oneCell_toArray (fun v hv => by simp only [U8, List.mem_map] at hv; obtain ⟨y, -, rfl⟩ := hv; rfl))
   have HEND : Hid (∀ W2, W2 = wr.setRow w.heap.size (U8 M).toArray → But p w W2 ∧ Inr W2 p b t1 st.2) := aA (by
    rintro W2 rfl
    have hs1 := (unhide HA0).lt
    have b2 : But w.heap.size wr (wr.setRow w.heap.size (U8 M).toArray) := (But.refl _ wr).setRow _
    have hb := unhide HB
    have hbw := unhide HBw
    refine ⟨⟨b2.os.trans (hbw.os.trans hb.os), b2.tape.trans (hbw.tape.trans hb.tape), b2.output.trans (hbw.output.trans hb.output), Nat.le_trans hb.size (Nat.le_trans hbw.size b2.size), fun i hi hip => ?_⟩, ?_⟩
    ·exact sh175
    ·have hoff : ∀ y, 0 < b.l.length → b.a = some y → y.block < w.heap.size := fun y hl hy => unhide HOF hl y hy
     refine ((unhide HI).keep (S := (· = w.heap.size + 1)) ⟨hbw.os, hbw.tape, hbw.output, hbw.size, hbw.block⟩ (by omega) (fun hl y hy e => by have := hoff y hl hy; omega)).keep (S := (· = w.heap.size)) ⟨b2.os, b2.tape, b2.output, b2.size, b2.block⟩ (by omega) (fun hl y hy e => by have := hoff y hl hy; omega))
   have hsz := unhide HSZ M hLl
   have HSM := aA hsz
   clear hM hkk hLl hsz HA HBw HI HB a0
   go_upto_region 7 with fail
   refine wp_region_lit ?_
   refine wpList_load_mid rfl 28 (.tmp 3) rfl (w.heap.size + 1) 0 rfl (U8 M) _ (unhide rg) Tryz.underlying28 rfl (unhide HSM) ?_
   simp only [Act.put]
   refine wpList_store_row rfl 28 (.tmp 2) (.tmp 20) rfl w.heap.size (U8 M).toArray rfl rfl 28 (U8 Z).toArray (unhide HAR) (unhide HSA) (unhide HSS) (unhide HOC) ?_
   refine wpList_nil ?_
   go_wp2
   refine bodyPost_ret (results_cell_row rfl _ _ w.heap.size 28 (U8 M).toArray (0, 0) _ rfl (setRow_heap _ w.heap.size _ _ _ _ (unhide HAR)) Tryz.underlying28 rfl (unhide HSA)) rfl ?_
   have hE := unhide HEND _ rfl
   exact ⟨hE.1, M, t1, rfl, unhide HPL, unhide HPB, (unhide HME).symm, hE.2, unhide HR⟩
theorem zeroSigU : ∀ w, (zeroValue 30).run Tryz.prog w = .ok (.agg (U8 (cQ 64 [])).toArray) w := by
 have h : (Tryz.prog.info? 30).bind (·.zero) = some (.agg (U8 (cQ 64 [])).toArray) := by kernel_rfl
 cases hit : Tryz.prog.info? 30 with
 | none => rw [hit] at h; simp at h
 | some it =>
  rw [hit] at h
  have hz : it.zero = some (.agg (U8 (cQ 64 [])).toArray) := h
  exact fun w => by simp [zeroValue, run_typeInfo w hit, hz]
theorem rSig_any (p : Nat) (b : Sl) (t : Nat) (f : Int) (w : World) (h : Inr w p b t f) (hm : b.n ≤ 1000000) :
  Calls Tryz.prog 142 #[.pointer (some ⟨p, 0, none⟩)] w (FxP 64 p b (b.l.drop t) f w) := by
 have hzv := zeroSigU
 have hp := h.arr.lt
 have hlen := kH 64 (b.l.drop t, f)
 have h0 : (cQ 64 []).length = 64 := iK (by decide)
 have s0 : (w.alloc (.cells (U8 (cQ 64 [])).toArray 30)).heap.size = w.heap.size + 1 := by simp
 have A0 : Arr ((w.alloc (.cells (U8 (cQ 64 [])).toArray 30)).alloc (.cells (U8 (cQ 64 [])).toArray 30)) w.heap.size 30 (U8 (cQ 64 [])) := (Arr.new w 30 _).alloc _
 have A1 := Arr.new (w.alloc (.cells (U8 (cQ 64 [])).toArray 30)) 30 (U8 (cQ 64 []))
 rw [s0] at A1
 have b1 : Below w.heap.size w ((w.alloc (.cells (U8 (cQ 64 [])).toArray 30)).alloc (.cells (U8 (cQ 64 [])).toArray 30)) := bV (aJ w _) _ (by rw [s0]; omega)
 have HOF := aA (fun hl y hy => (h.off hl y hy).2)
 have hF := oC p b t f 64 _ (h.later b1) (by omega)
 have hSz : ∀ L : List Int, L.length = 64 → (Tryz.prog.info? 30).map (·.size) = some (U8 L).length := fun L hL => by rw [U8_length, hL]; exact Tryz.szKSig
 unfold FxP
 generalize face [] (bX ((64 : Nat) : Int)) (b.l.drop t, f) = Q at *
 obtain ⟨L, st⟩ := Q
 have hlen : L.length ≤ 64 := by simp only at hlen; omega
 simp only
 have HA0 := aA A0
 have HA1 := aA A1
 have HB1 := aA b1
 have HZ0 := aA h0
 have HSZ := aA hSz
 clear h A0 A1 b1 s0 h0 hSz
 generalize hZ : cQ 64 [] = Z at *
 have HZE := aA hZ
 clear hZ
 go_enter Tryz.func142, Tryz.ntmps142
 go_wp2_with fail
 generalize (w.alloc (.cells (U8 Z).toArray 30)).alloc (.cells (U8 Z).toArray 30) = W at *
 refine hF.mono ?_
 rintro e w1 ⟨hB, v, t1, rfl, hV, hI, hr⟩
 clear hF
 simp only at hV hI hr
 obtain ⟨d, rfl, hd, hdl, hdn, hda⟩ := iH hV.1 hV.2
 have hLB : IsB L := hV.2
 have a0 : Arr w1 w.heap.size 30 (U8 Z) := (hB.block _ (unhide HA0).lt (by omega)).trans (unhide HA0)
 have a1 : Arr w1 (w.heap.size + 1) 30 (U8 Z) := (hB.block _ (unhide HA1).lt (by omega)).trans (unhide HA1)
 have hWs : w.heap.size + 1 < W.heap.size := (unhide HA1).lt
 have hdv : d.v = .slice d.a d.n d.c := rfl
 rw [hdv]
 have hdb : d.n ≤ 64 := by omega
 have hz0 : cQ 64 (L.take 0) = Z := by rw [List.take_zero]; exact unhide HZE
 have hb1 : But p w w1 := ⟨hB.os.trans (unhide HB1).os, hB.tape.trans (unhide HB1).tape, hB.output.trans (unhide HB1).output, Nat.le_trans (unhide HB1).size hB.size, fun k hk hkp => (hB.block k (Nat.lt_of_lt_of_le hk (unhide HB1).size) hkp).trans ((unhide HB1).block k hk)⟩
 have HDL := aA hdl
 have HDN := aA hdn
 have HD := aA hd
 have HDA := aA hda
 have HI := aA hI
 have HR := aA hr
 have HA0 := aA a0
 have HB := aA hb1
 have HW := aA hWs
 have HLE := aA hlen
 have hA1 := aA a1
 have HZZ := aA hz0
 clear hV hdv hdl hdn hd hda hI hr a0 a1 hB hWs hlen hb1 hz0 HA1 HB1
 go_wp2_with fail
 go_loopw [5] (fun i wr => ∃ k : Nat, k ≤ d.n ∧ i = .int .i64 k ∧ Hid (Arr wr (w.heap.size + 1) 30 (U8 (cQ 64 (L.take k)))) ∧ Hid (But (w.heap.size + 1) w1 wr)) (fun i _ => d.n - (intOf i).toNat)
 case atStart => exact ⟨0, by omega, rfl, by rw [unhide HZZ]; exact hA1, aA (But.refl _ _)⟩
 case round =>
  obtain ⟨k, hk, rfl, HA, HBw⟩ := hrel
  by_cases hlt : k < d.n
  ·obtain ⟨ab, ao, haa, hab, hac⟩ := (unhide HD).lies (by rw [unhide HDL]; have := unhide HDN; omega)
   have hne : ab ≠ w.heap.size + 1 := by have := unhide HDA _ haa; have := unhide HW; simp only at *; omega
   have ca : wr.cell? ⟨ab, ao + k, none⟩ = some (.int .u8 (L.getD k 0)) := by
    rw [World.cell?_of_block ((unhide HBw).block _ hab hne), ← unhide HDL]; exact hac k (by rw [unhide HDL]; have := unhide HDN; omega)
   have hkL : k < L.length := by have := unhide HDN; omega
   have hkl : k < (U8 (cQ 64 (L.take k))).length := by rw [U8_length, iK (by rw [List.length_take]; have := unhide HLE; omega)]; have := unhide HLE; omega
   have cc : ∃ u : Value, wr.cell? ⟨w.heap.size + 1, k, none⟩ = some u := ⟨_, by rw [(unhide HA).cell, List.getElem?_eq_getElem hkl]⟩
   obtain ⟨u, cc⟩ := cc
   have fz := (unhide HA).frozen k
   have HN : Hid (∀ W2, W2 = wr.setCell ⟨w.heap.size + 1, k, none⟩ (.int .u8 (L.getD k 0)) → Arr W2 (w.heap.size + 1) 30 (U8 (cQ 64 (L.take (k + 1)))) ∧ But (w.heap.size + 1) w1 W2) := aA (by
    rintro W2 rfl
    refine ⟨?_, (unhide HBw).setCell k _⟩
    rw [← padd_step hkL (unhide HLE), ← lH]
    exact (unhide HA).set k _)
   generalize L.getD k 0 = c at *
   have k32 : (k : Int) < 64 := by omega
   exact sh110
  ·have hkd : decide ((k : Int) < (d.n : Int)) = false := by simp; omega
   have hkk : L.take k = L := List.take_of_length_le (by have := unhide HDN; omega)
   rw [hkk] at HA
   have hLl : (cQ 64 L).length = 64 := iK (unhide HLE)
   have HPB := aA (padd_isB (n := 64) hLB)
   have HPL := aA hLl
   generalize hM : cQ 64 L = M at *
   have HME := aA hM
   have rg := aA (Arr.range (unhide HA))
   have a0 : Arr wr w.heap.size 30 (U8 Z) := ((unhide HBw).block _ (unhide HA0).lt (by omega)).trans (unhide HA0)
   have HAR := aA a0
   have HSA : Hid ((Tryz.prog.info? 30).map (·.size) = some (U8 M).toArray.size) := aA (by rw [List.size_toArray]; exact unhide HSZ M hLl)
   have HSS : Hid ((U8 Z).toArray.size = (U8 M).toArray.size) := aA (by rw [List.size_toArray, List.size_toArray, U8_length, U8_length, unhide HZ0, hLl])
   have HOC : Hid ((U8 M).toArray.all (·.oneCell') = true) := aA (all_oneCell_toArray (fun v hv => by simp only [U8, List.mem_map] at hv; obtain ⟨y, -, rfl⟩ := hv; rfl))
   have HEND : Hid (∀ W2, W2 = wr.setRow w.heap.size (U8 M).toArray → But p w W2 ∧ Inr W2 p b t1 st.2) := aA (by
    rintro W2 rfl
    have hs1 := (unhide HA0).lt
    have b2 : But w.heap.size wr (wr.setRow w.heap.size (U8 M).toArray) := (But.refl _ wr).setRow _
    have hb := unhide HB
    have hbw := unhide HBw
    refine ⟨⟨b2.os.trans (hbw.os.trans hb.os), b2.tape.trans (hbw.tape.trans hb.tape), b2.output.trans (hbw.output.trans hb.output), Nat.le_trans hb.size (Nat.le_trans hbw.size b2.size), fun i hi hip => ?_⟩, ?_⟩
    ·exact sh175
    ·have hoff : ∀ y, 0 < b.l.length → b.a = some y → y.block < w.heap.size := fun y hl hy => unhide HOF hl y hy
     refine ((unhide HI).keep (S := (· = w.heap.size + 1)) ⟨hbw.os, hbw.tape, hbw.output, hbw.size, hbw.block⟩ (by omega) (fun hl y hy e => by have := hoff y hl hy; omega)).keep (S := (· = w.heap.size)) ⟨b2.os, b2.tape, b2.output, b2.size, b2.block⟩ (by omega) (fun hl y hy e => by have := hoff y hl hy; omega))
   have hsz := unhide HSZ M hLl
   have HSM := aA hsz
   clear hM hkk hLl hsz HA HBw HI HB a0
   go_upto_region 7 with fail
   refine wp_region_lit ?_
   refine wpList_load_mid rfl 30 (.tmp 3) rfl (w.heap.size + 1) 0 rfl (U8 M) _ (unhide rg) Tryz.underlying30 rfl (unhide HSM) ?_
   simp only [Act.put]
   refine wpList_store_row rfl 30 (.tmp 2) (.tmp 20) rfl w.heap.size (U8 M).toArray rfl rfl 30 (U8 Z).toArray (unhide HAR) (unhide HSA) (unhide HSS) (unhide HOC) ?_
   refine wpList_nil ?_
   go_wp2
   refine bodyPost_ret (results_cell_row rfl _ _ w.heap.size 30 (U8 M).toArray (0, 0) _ rfl (setRow_heap _ w.heap.size _ _ _ _ (unhide HAR)) Tryz.underlying30 rfl (unhide HSA)) rfl ?_
   have hE := unhide HEND _ rfl
   exact ⟨hE.1, M, t1, rfl, unhide HPL, unhide HPB, (unhide HME).symm, hE.2, unhide HR⟩
set_option maxHeartbeats 2000000
theorem Tryz.szTCert : (Tryz.prog.info? 32).map (·.size) = some 99 := by kernel_rfl
section
open Go.Proofs.YtejagcngbgnogaaGreat renaming nq32 → z57a, aD → z57b, nq99 → z57c, iF → z57aQ, dI → z57cQ
theorem eW : ∃ (Z : List Value) (it : TypeInfo), Z = cl aD 99 (fun _ => 0) ∧ Z.length = 99 ∧ Tryz.prog.info? 32 = some it ∧ it.zero = some (.agg Z.toArray) ∧ ∀ w, (zeroValue 32).run Tryz.prog w = .ok (.agg Z.toArray) w := sh57
theorem rs11 {G : Prop} (h : G := by
 have hfk : aF.take 5 = aF := rfl
 rw [hfk] at hG
 have c2 : w2.cell? ⟨w.heap.size, 2, none⟩ = some (.slice (some ⟨g, 0, none⟩) 5 5) := hSt2.a0.cell 2
 have ST2 := aA hSt2
 have HK2 := aA hK2
 have HNS := aA hnS
 have HSL := aA (hsl.trans (unhide HL1))
 have HP : Hid (w.heap.size + 3 < p) := aA (by omega)
 clear hR hRd hsl hpw hsx hB2 hSt2 hlt hK2 hnS hTr hfk ST c0 HL1
 go_wp2_with fail
 refine hG.mono ?_
 rintro e w3 ⟨rfl, t, fl, x, hR3⟩
 have hSt3 := (unhide ST2).got hR3.but (unhide HP) hR3.trm.arr
 have hK3 : Kept S w0 w3 := (unhide HK2).buts hR3.but (fun i hi hs => by
  rcases hs with rfl | rfl
  ·exact unhide HNS _ (by have := unhide HP; omega) hi
  ·exact unhide HNS _ (by omega) hi)
 have hDn := fS p t fl w3 hR3.rdr
 have hF := nD (n := 5) (c := 5) (unhide HT) (by rw [unhide HN]; decide) (Nat.le_refl _) (by decide) w3 (w.heap.size + 3) 32 aD 99 x 0 hK3 hR3.trm ⟨by omega, fun j hj => by rw [Nat.zero_add]⟩
 have hfk : aF.take 5 = aF := rfl
 exact sh2) : G := h
open Go.Proofs.YtejagcngbgnogaaGreat renaming nq5 → z2a, aD → z2b, nq99 → z2c, nq32 → z2d, aF → z2f, iF → z2dQ, nq32 → z8a, iF → z8aQ, aF → z24a, nq32 → z24b, iF → z24bQ, aF → z113a, eW → z133a, nq158 → z133b, nq32 → z133c, nq5 → z133d, aF → z133h, aD → z133i, nq99 → z133j, qS → z133k, iF → z133cQ, nqe5 → z133dQ, dI → z133jQ, rs11 → z133rr
open Go.Proofs.YtejagcngbgnogaaGreat.Tryz renaming szTCert → z2e, szTCert → z133e
open Go.Proofs.Tryz renaming underlying32 → z2g, underlying32 → z8b, underlying32 → z24c, func133 → z133f, ntmps133 → z133g
theorem nB {S : Nat → Prop} {w0 : World} {tyF : TypeId} {g : Nat} {vs : List FV} (hTab : Tab S w0 aD 99 aF tyF g vs) (w : World) (dom sgn : Int) (b : Sl) (hbo : b.Ok w) (hb : Kept S w0 w) :
  Calls Tryz.prog 133 #[.agg #[.int .i64 dom, .int .i64 sgn, .slice (some ⟨g, 0, none⟩) 5 5], b.v] w (bU dom (aB aF) aD 99 b.l w) := kP
theorem rs36 {G : Prop} (h : G := by
 refine (fW W).mono ?_
 rintro e w1 ⟨g, vs, rfl, hTab, hB1⟩
 have hfl : aF.length = 5 := rfl
 exact sh14) : G := h
open Go.Proofs.YtejagcngbgnogaaGreat renaming nq32 → z14a, eW → z137a, nq32 → z137b, aD → z137c, nq99 → z137d, aF → z137e, nq241 → z137f, nB → z137g, nq1 → z137h, nq4 → z137i, dI → z137dQ, jZ → z137fQ, fQ → z137hQ, nqe4 → z137iQ, rs36 → z137rr
open Go.Proofs.YtejagcngbgnogaaGreat.Tryz renaming szTCert → z14b
open Go.Proofs.Tryz renaming underlying32 → z14c, func63 → z137j, ntmps63 → z137k
theorem nQ (b : Sl) (w : World) (hbo : b.Ok w) :
  Calls Tryz.prog 63 #[b.v] w (bU 1 (aB aF) aD 99 b.l w) := kO
end
end Go.Proofs.YtejagcngbgnogaaGreat
