import Derived.Test.YteijlppmgkdieaaDoorQGrB
import Derived.Test.YteijlppmgkdieaaDoorQGrA
import Derived.Laws.CopyOwn
import Derived.Test.YteijlppmgkdieaaDoorQGrC
import Derived.Test.YteijlppmgkdieaaDoorQGrD
import Derived.Laws.Cover3
namespace Go.Proofs.YteijlppmgkdieaaDoor
open Go.RowKit

/-! What stands behind a message. -/
def padLen (n : Nat) : Nat := if 64 - n % 64 < 9 then 128 - n % 64 else 64 - n % 64
theorem padLen_bd (n : Nat) : 9 ≤ padLen n ∧ padLen n ≤ 72 := by unfold padLen; split <;> omega
theorem padLen_mod (n : Nat) : (n + padLen n) % 64 = 0 := by unfold padLen; split <;> omega
def padB (n : Nat) : List Int := (leB 8 (8 * (n : Int) % 18446744073709551616)).reverse
@[simp] theorem padB_length (n : Nat) : (padB n).length = 8 := by simp [padB]
def padZ (n : Nat) : List Int := 128 :: (List.replicate (padLen n - 9) 0 ++ padB n)
theorem padZ_length (n : Nat) : (padZ n).length = padLen n := by
  have := padLen_bd n
  simp [padZ]; omega
theorem padZ_isB (n : Nat) : IsB (padZ n) := by
  intro x hx
  simp only [padZ, List.mem_cons, List.mem_append] at hx
  rcases hx with rfl | hx | hx
  · omega
  · have := List.eq_of_mem_replicate hx; omega
  · exact leB_isB 8 _ x (List.mem_reverse.1 hx)
theorem padZ_splice (n : Nat) : splice (U8 (128 :: List.replicate (padLen n - 1) 0)) (padLen n - 8) (U8 (padB n)) = U8 (padZ n) := by
  have h := padLen_bd n
  obtain ⟨k, hk⟩ : ∃ k, padLen n = k + 9 := ⟨padLen n - 9, by omega⟩
  unfold splice padZ
  rw [hk, U8_length, padB_length]
  have e1 : k + 9 - 8 = k + 1 := by omega
  have e2 : k + 9 - 1 = k + 8 := by omega
  have e3 : k + 9 - 9 = k := by omega
  rw [e1, e2, e3]
  have d0 : (U8 (128 :: List.replicate (k + 8) 0)).drop (k + 1 + 8) = [] := List.drop_eq_nil_of_le (by simp)
  rw [d0, List.append_nil]
  have t0 : (U8 (128 :: List.replicate (k + 8) 0)).take (k + 1) = U8 (128 :: List.replicate k 0) := by
    simp [U8, List.take_replicate]
  rw [t0, ← U8_append]
  rfl
end Go.Proofs.YteijlppmgkdieaaDoor

namespace Go.Proofs.YteijlppmgkdieaaDoor
open Go.RowKit

theorem Tryd.sz1u : (Tryd.prog.info? 5).map (·.size) = some 1 := by kernel_rfl

theorem pad_src (n g : Nat) (w : World) {X : Int} (h : Arr w g 5 (U8 (leB 8 X).reverse)) : X = 8 * (n : Int) % 18446744073709551616 → ∀ j v, (U8 (padB n))[j]? = some v → w.cell? ((⟨g, 0, none⟩ : Addr).add j) = some v := by
  rintro rfl j v hv
  rw [addr_add, Nat.zero_add, h.cell]; exact hv

set_option maxHeartbeats 2000000 in
set_option maxRecDepth 10000 in
theorem pad_any (n : Nat) (w : World) :
    Calls Tryd.prog 25 #[.int .u64 n] w fun e w' => e = .returned (.slice (some ⟨w.heap.size, 0, none⟩) (padLen n) (padLen n)) ∧
      Arr w' w.heap.size 5 (U8 (padZ n)) ∧ Below w.heap.size w w' := by
  obtain ⟨i0, hi, hz0, hz1, hz2⟩ := info_parts Tryd.infoB
  have hpl := padLen_bd n
  obtain ⟨u, hu⟩ : ∃ u : Nat, (n : Int) % 64 = u := ⟨n % 64, by omega⟩
  have hu64 : u < 64 := by omega
  have hdef : padLen n = if 64 - u < 9 then 128 - u else 64 - u := by
    have : n % 64 = u := by omega
    unfold padLen; rw [this]
  obtain ⟨L, hL⟩ : ∃ L, L = padLen n := ⟨_, rfl⟩
  rw [← hL] at hpl hdef ⊢
  have HL := hide hL
  have HD := hide hdef
  have hbs : i0.bytes * L ≤ 281474976710656 := by rw [hz2]; omega
  have hp9 := hpl.1
  have hp72 := hpl.2
  clear hL hdef hpl
  have HB8 := hide (show 0 ≤ (8 * (n : Int)) % 18446744073709551616 by omega)
  go_enter Tryd.func25, Tryd.ntmps25
  go_wp2_with (first
    | (at_make; refine wpList_make_full _ rfl _ _ 31 rfl w.heap.size 5 i0 (.int .u8 0) 1 Tryd.underlying31 hi hz0 hz1 .i64 .i64 _ _ L rfl rfl (by have := unhide HD; split at this <;> omega) (by have := unhide HD; split at this <;> omega) hbs (by unfold maxLen; omega) (Nat.le_refl _) ?_))
  all_goals
    intro w1 hown hgrow
    have hb1 : Below w.heap.size w w1 := (Below.refl _ _).grown hgrow (Nat.le_refl _) (fun _ h => by cases h)
    have ha1 : Arr w1 w.heap.size 5 (U8 (List.replicate L 0)) := by
      have := own_arr hown; rwa [made_U8'] at this
    clear hown hgrow
    have hf0 := ha1.frozen 0
    have hc0 : w1.cell? ⟨w.heap.size, 0, none⟩ = some (.int .u8 0) := by
      rw [ha1.cell8 0 (by simp; omega), rep_getD]
    have hl0 : (0 : Int) < (L : Int) := by omega
    have ha2 : Arr (w1.setCell ⟨w.heap.size, 0, none⟩ (.int .u8 128)) w.heap.size 5 (U8 (128 :: List.replicate (L - 1) 0)) := by
      have := ha1.set8 0 128
      obtain ⟨k, rfl⟩ : ∃ k, L = k + 1 := ⟨L - 1, by omega⟩
      exact this
    have hb2 : Below w.heap.size w (w1.setCell ⟨w.heap.size, 0, none⟩ (.int .u8 128)) := hb1.setCell (Nat.le_refl _) _
    have HA2 := hide ha2
    have HB2 := hide hb2
    clear ha1 ha2 hb1 hb2
    go_wp2_with fail
    have ha2 := unhide HA2
    have hb2 := unhide HB2
    generalize w1.setCell ⟨w.heap.size, 0, none⟩ (.int .u8 128) = W2 at ha2 hb2 ⊢
    have hlt := ha2.lt
    first
      | (rw [show 64 - (u : Int) + 64 = (L : Int) by have := unhide HD; split at this <;> omega])
      | (rw [show 64 - (u : Int) = (L : Int) by have := unhide HD; split at this <;> omega])
    obtain ⟨m, hm⟩ : ∃ m : Nat, L = m + 8 := ⟨L - 8, by omega⟩
    have wm : IntKind.i64.wrap ((L : Int) - 8) = (m : Int) := by rw [IntKind.wrap_i64]; omega
    have wm0 : (0 : Int) ≤ (m : Int) := by omega
    have wm1 : (m : Int) ≤ (L : Int) := by omega
    have hlm : (m : Int) < (L : Int) := by omega
    have hne1 : ¬ L = m := by omega
    have hne2 : ¬ m = L := by omega
    have HM := hide hm
    clear hm HA2 HB2
    go_region_held3 (fun _ => True) (trivial)
      (first
        | (go_at_call 45
           refine (storebe64_any _ _ (unhide HB8)).mono ?_
           rintro e w3 ⟨rfl, hown3, hb3⟩
           have ha3 := hide (Arr.later (w := W2.drew) ha2 hb3)
           have hb3' := hide (hb2.trans ((show Below W2.heap.size W2 w3 from ⟨hb3.os, hb3.tape, hb3.output, hb3.size, hb3.block⟩).mono (by omega)))
           have hs3 := hide (pad_src n W2.heap.size w3 (own_arr hown3) (IntKind.wrap_u64 _))
           clear hown3 hb3)
        | (refine step_copy_splice rfl (.tmp 22) (.tmp 25) 31 31 rfl 5 Tryd.underlying31 Tryd.sz1u _ _ _ _ _ _ rfl rfl w.heap.size m (U8 (128 :: List.replicate (L - 1) 0)) 5 (unhide ha3) (U8 (padB n)) (by have h := unhide HM; rw [U8_length, padB_length, show L - m = 8 by omega]; rfl) (fun _ => ⟨rfl, _, rfl, unhide hs3⟩) (by have := unhide HM; simp; omega) (U8_one _) w.heap.size w (unhide hb3') (Nat.le_refl _) ?_
           intro w4 hg4 hb4))
    go_wp2
    go_ret
    refine ⟨rfl, ?_, hb4⟩
    have hg := unhide hg4
    have hL := unhide HL
    rw [show m = L - 8 by have := unhide HM; omega, hL, padZ_splice n] at hg
    exact hg
end Go.Proofs.YteijlppmgkdieaaDoor

namespace Go.Proofs.YteijlppmgkdieaaDoor
open Go.RowKit

/-! The chain of blocks, and what a Digest holds. -/
def led (s m : List Int) : Nat → List Int
  | 0 => s
  | k + 1 => blockZ (led s m k) ((m.drop (64 * k)).take 64)
theorem led_length (s m : List Int) (h : s.length = 8) : ∀ k, (led s m k).length = 8
  | 0 => h
  | k + 1 => blockZ_length _ _ (led_length s m h k)
theorem led_isW (s m : List Int) (h : IsW s) : ∀ k, IsW (led s m k)
  | 0 => h
  | _ + 1 => blockZ_isW _ _
theorem led_append (s m x : List Int) : ∀ k, 64 * k ≤ m.length → led s (m ++ x) k = led s m k
  | 0, _ => rfl
  | k + 1, h => by
    rw [led, led, led_append s m x k (by omega)]
    congr 1
    rw [List.drop_append_of_le_length (by omega), List.take_append_of_le_length (by simp; omega)]

/-- a Digest's cells -/
def digL (st held : List Int) (n : Int) : List Value := U32 st ++ (U8 held ++ [.int .u64 n])
structure DgR (w : World) (g : Nat) (st held : List Int) (n : Int) : Prop where
  arr : Arr w g 55 (digL st held n)
  stl : st.length = 8
  hdl : held.length = 64
  stW : IsW st
  hdB : IsB held
theorem DgR.but {w w' : World} {g g' : Nat} {st held : List Int} {n : Int} (h : DgR w g st held n) (hb : But g' w w') (hg : g ≠ g') : DgR w' g st held n := ⟨hb.arr h.arr hg, h.stl, h.hdl, h.stW, h.hdB⟩
theorem DgR.later {w w' : World} {g : Nat} {st held : List Int} {n : Int} (h : DgR w g st held n) (hb : Below w.heap.size w w') : DgR w' g st held n := ⟨h.arr.later hb, h.stl, h.hdl, h.stW, h.hdB⟩
theorem digL_length {st held : List Int} {n : Int} (h1 : st.length = 8) (h2 : held.length = 64) : (digL st held n).length = 73 := by simp [digL, h1, h2]
theorem DgR.cellN {w : World} {g : Nat} {st held : List Int} {n : Int} (h : DgR w g st held n) : w.cell? ⟨g, 72, none⟩ = some (.int .u64 n) := by
  rw [h.arr.cell, digL, List.getElem?_append_right (by simp [h.stl]), List.getElem?_append_right (by simp [h.stl, h.hdl])]
  simp [h.stl, h.hdl]
theorem DgR.cellS {w : World} {g : Nat} {st held : List Int} {n : Int} (h : DgR w g st held n) (i : Nat) (hi : i < 8) : w.cell? ⟨g, i, none⟩ = some (.int .u32 (st.getD i 0)) := by
  rw [h.arr.cell, digL, List.getElem?_append_left (by simp [h.stl, hi]), U32_at st i (by rw [h.stl]; exact hi)]
theorem DgR.rangeH {w : World} {g : Nat} {st held : List Int} {n : Int} (h : DgR w g st held n) : w.rangeAt g 8 (U8 held) := fun j v hv => by
  have hj : j < 64 := by have := List.getElem?_eq_some_iff.1 hv; obtain ⟨hh, -⟩ := this; simpa [h.hdl] using hh
  rw [h.arr.cell, digL, List.getElem?_append_right (by simp [h.stl]), List.getElem?_append_left (by simp [h.stl, h.hdl]; omega)]
  simpa [h.stl] using hv
theorem DgR.rangeS {w : World} {g : Nat} {st held : List Int} {n : Int} (h : DgR w g st held n) : w.rangeAt g 0 (U32 st) := fun j v hv => by
  have hj : j < 8 := by have := List.getElem?_eq_some_iff.1 hv; obtain ⟨hh, -⟩ := this; simpa [h.stl] using hh
  rw [Nat.zero_add, h.arr.cell, digL, List.getElem?_append_left (by simp [h.stl, hj])]
  exact hv
theorem digL_setN {st held : List Int} {n m : Int} (h1 : st.length = 8) (h2 : held.length = 64) : (digL st held n).set 72 (.int .u64 m) = digL st held m := by
  unfold digL
  rw [List.set_append_right _ _ (by simp [h1]), List.set_append_right _ _ (by simp [h1, h2])]
  simp [h1, h2]
theorem DgR.setN {w : World} {g : Nat} {st held : List Int} {n : Int} (h : DgR w g st held n) (m : Int) : DgR (w.setCell ⟨g, 72, none⟩ (.int .u64 m)) g st held m := by
  refine ⟨?_, h.stl, h.hdl, h.stW, h.hdB⟩
  have := h.arr.set 72 (.int .u64 m)
  rwa [digL_setN h.stl h.hdl] at this
theorem splice_dig {st held cs : List Int} {n : Int} {r : Nat} (h1 : st.length = 8) (h2 : held.length = 64) (h : r + cs.length ≤ 64) : splice (digL st held n) (8 + r) (U8 cs) = digL st (splice held r cs) n := by
  have hl : (U32 st).length = 8 := by simp [h1]
  have hl2 : (U8 held).length = 64 := by simp [h2]
  unfold splice digL
  rw [List.take_append, List.take_of_length_le (by omega), hl, show 8 + r - 8 = r by omega, List.take_append, hl2, show r - 64 = 0 by omega, List.take_zero, List.append_nil,
    List.drop_append, List.drop_eq_nil_of_le (by simp; omega), List.nil_append, hl, U8_length, show 8 + r + cs.length - 8 = r + cs.length by omega, List.drop_append, hl2, show r + cs.length - 64 = 0 by omega, List.drop_zero]
  simp [U8, List.map_take, List.map_drop]
/-- the message M was written to the Digest at g -/
def Dg (w : World) (g : Nat) (M : List Int) : Prop := ∃ st held, DgR w g st held ((M.length : Int) % 18446744073709551616) ∧ st = led FZ M (M.length / 64) ∧ held.take (M.length % 64) = M.drop (64 * (M.length / 64)) ∧ IsB M
theorem Dg.but {w w' : World} {g g' : Nat} {M : List Int} (h : Dg w g M) (hb : But g' w w') (hg : g ≠ g') : Dg w' g M := by
  obtain ⟨st, held, h1, h2⟩ := h; exact ⟨st, held, h1.but hb hg, h2⟩
theorem Dg.later {w w' : World} {g : Nat} {M : List Int} (h : Dg w g M) (hb : Below w.heap.size w w') : Dg w' g M := by
  obtain ⟨st, held, h1, h2⟩ := h; exact ⟨st, held, h1.later hb, h2⟩
theorem Dg.lt {w : World} {g : Nat} {M : List Int} (h : Dg w g M) : g < w.heap.size := by obtain ⟨st, held, h1, -⟩ := h; exact h1.arr.lt
end Go.Proofs.YteijlppmgkdieaaDoor

namespace Go.Proofs.YteijlppmgkdieaaDoor
open Go.RowKit

/-- at the loop: p bytes of the piece are taken, the whole is blocks -/
structure WI (w : World) (g : Nat) (M l : List Int) (N : Int) (b : Option Addr) (k cp : Nat) (p : Nat) (st held : List Int) (wr : World) : Prop where
  hp : p ≤ l.length
  hk : k = l.length - p
  hmod : (M.length + p) % 64 = 0
  lies : Lies wr b (l.drop p)
  blk : 0 < (l.drop p).length → ∀ x, b = some x → x.block ≠ g
  hcp : k ≤ cp
  hmx : cp ≤ 9223372036854775807
  dig : DgR wr g st held N
  hst : st = led FZ (M ++ l) ((M.length + p) / 64)
  but : But g w wr
  kon : KLaid wr
theorem KLaid.but {w w' : World} {g : Nat} (h : KLaid w) (hb : But g w w') (hg : 1 ≠ g) : KLaid w' := fun i hi => (hb.cell (p := ⟨1, i, none⟩) h.lt hg).trans (h i hi)

theorem WI.start {w W : World} {g : Nat} {M l : List Int} {N : Int} {a : Option Addr} {len cap : Nat} {st held : List Int} (hD : DgR W g st held N) (hst : st = led FZ M (M.length / 64)) (hr : M.length % 64 = 0) (hl : l.length = len)
    (hlies : Lies w a l) (hblk : 0 < l.length → ∀ x, a = some x → x.block ≠ g) (h2 : len ≤ cap) (h3 : cap ≤ 9223372036854775807) (hb : But g w W) (hK : KLaid w) (hgK : 1 ≠ g) : WI w g M l N a len cap 0 st held W :=
  ⟨by omega, by omega, by omega, hb.lies hlies hblk, hblk, h2, h3, hD, by rw [hst, led_append _ _ _ _ (by omega)]; rfl, hb, hK.but hb hgK⟩

theorem held_block {M l held : List Int} {r c : Nat} (hr : M.length % 64 = r) (hh : held.take r = M.drop (64 * (M.length / 64))) (hd : held.length = 64) (hc : c ≤ l.length) (hf : r + c = 64) :
    splice held r (l.take c) = ((M ++ l).drop (64 * (M.length / 64))).take 64 := by
  have hq : 64 * (M.length / 64) ≤ M.length := by omega
  have hdl : (M.drop (64 * (M.length / 64))).length = r := by simp; omega
  unfold splice
  have hcl : (l.take c).length = c := by simp; omega
  have h0 : held.drop (r + (l.take c).length) = [] := List.drop_eq_nil_of_le (by omega)
  have h1 := take_app (M.drop (64 * (M.length / 64))) l r c hdl
  rw [hf] at h1
  rw [h0, List.append_nil, hh, List.drop_append_of_le_length hq, h1]
theorem WI.full {w W : World} {g : Nat} {M l : List Int} {N : Int} {a b : Option Addr} {len cap r c : Nat} {st held st0 held0 : List Int} (hD : DgR W g st held N) (hst : st = blockZ st0 held) (hst0 : st0 = led FZ M (M.length / 64))
    (hhd : held = splice held0 r (l.take c)) (hr : M.length % 64 = r) (hh0 : held0.take r = M.drop (64 * (M.length / 64))) (hd0 : held0.length = 64) (hl : l.length = len) (hc : c ≤ len) (hf : r + c = 64)
    (hb0 : b = if cap = c then a else a.map (·.add c))
    (hlies : Lies w a l) (hblk : 0 < l.length → ∀ x, a = some x → x.block ≠ g) (h2 : len ≤ cap) (h3 : cap ≤ 9223372036854775807) (hb : But g w W) (hK : KLaid w) (hgK : 1 ≠ g) : WI w g M l N b (len - c) (cap - c) c st held W := by
  refine ⟨by omega, by omega, by omega, Lies.from (hb.lies hlies hblk) hb0 (by omega), fun hp => from_block hb0 (hblk (by rw [List.length_drop] at hp; omega)), by omega, by omega, hD, ?_, hb, hK.but hb hgK⟩
  have e : (M.length + c) / 64 = M.length / 64 + 1 := by omega
  rw [e, led, led_append _ _ _ _ (by omega), ← hst0, hst, hhd, held_block hr hh0 hd0 (by omega) hf]
theorem WI.step {w wr W : World} {g : Nat} {M l : List Int} {N : Int} {b b' : Option Addr} {k cp p : Nat} {st held st' : List Int} (I : WI w g M l N b k cp p st held wr) (hk : 64 ≤ k) (hD : DgR W g st' held N)
    (hst : st' = blockZ st ((l.drop p).take 64)) (hb' : b' = if cp = 64 then b else b.map (·.add 64)) (hb : But g wr W) (hgK : 1 ≠ g) : WI w g M l N b' (k - 64) (cp - 64) (p + 64) st' held W := by
  have h1 := I.hp
  have h2 := I.hk
  have h3 := I.hmod
  have h4 := I.hcp
  have h5 := I.hmx
  have hl : Lies W b' ((l.drop p).drop 64) := Lies.from (hb.lies I.lies I.blk) hb' (by simp; omega)
  rw [List.drop_drop] at hl
  refine ⟨by omega, by omega, by omega, hl, fun hp => from_block hb' (I.blk (by rw [List.length_drop] at hp ⊢; omega)), by omega, by omega, hD, ?_, I.but.trans hb, I.kon.but hb hgK⟩
  have e : (M.length + (p + 64)) / 64 = (M.length + p) / 64 + 1 := by omega
  have e2 : 64 * ((M.length + p) / 64) = M.length + p := by omega
  rw [e, led, ← I.hst, hst, e2, drop_app]
theorem WI.done {w wr W : World} {g : Nat} {M l : List Int} {N : Int} {b : Option Addr} {k cp p : Nat} {st held held' : List Int} (I : WI w g M l N b k cp p st held wr) (hk : k < 64) (hD : DgR W g st held' N)
    (hh : held' = splice held 0 (l.drop p)) (hN : N = ((M.length : Int) + l.length) % 18446744073709551616) (hMB : IsB M) (hB : IsB l) : Dg W g (M ++ l) := by
  have h1 := I.hp
  have h2 := I.hk
  have h3 := I.hmod
  have hlen : (M ++ l).length = M.length + l.length := by simp
  have e1 : (M.length + l.length) / 64 = (M.length + p) / 64 := by omega
  have e2 : (M.length + l.length) % 64 = k := by omega
  have e3 : 64 * ((M.length + p) / 64) = M.length + p := by omega
  have hdl : (l.drop p).length = k := by simp; omega
  refine ⟨st, held', ?_, ?_, ?_, fun x hx => ?_⟩
  · have : (((M ++ l).length : Nat) : Int) % 18446744073709551616 = N := by rw [hN, hlen]; omega
    rw [this]; exact hD
  · rw [hlen, e1]; exact I.hst
  · rw [hlen, e1, e2, e3, hh]
    unfold splice
    have h0 := take_app (l.drop p) (held.drop (0 + (l.drop p).length)) k 0 hdl
    rw [Nat.add_zero, List.take_zero, List.append_nil] at h0
    rw [List.take_zero, List.nil_append, h0, drop_app]
  · rcases List.mem_append.1 hx with h | h
    · exact hMB x h
    · exact hB x h
theorem dg_short {W : World} {g : Nat} {M l : List Int} {N : Int} {r : Nat} {st held held0 : List Int} (hD : DgR W g st held N) (hst : st = led FZ M (M.length / 64))
    (hhd : held = splice held0 r l) (hr : M.length % 64 = r) (hh0 : held0.take r = M.drop (64 * (M.length / 64))) (hd0 : held0.length = 64) (hf : r + l.length < 64) (hN : N = ((M.length : Int) + l.length) % 18446744073709551616) (hMB : IsB M) (hB : IsB l) : Dg W g (M ++ l) := by
  have hlen : (M ++ l).length = M.length + l.length := by simp
  have e1 : (M.length + l.length) / 64 = M.length / 64 := by omega
  have e2 : (M.length + l.length) % 64 = r + l.length := by omega
  have hdl : (M.drop (64 * (M.length / 64))).length = r := by simp; omega
  refine ⟨st, held, ?_, ?_, ?_, fun x hx => ?_⟩
  · have : (((M ++ l).length : Nat) : Int) % 18446744073709551616 = N := by rw [hN, hlen]; omega
    rw [this]; exact hD
  · rw [hlen, e1, led_append _ _ _ _ (by omega)]; exact hst
  · rw [hlen, e1, e2, hhd]
    unfold splice
    have ht : (held0.take r).length = r := by simp; omega
    have h0 := take_app (held0.take r) (l ++ held0.drop (r + l.length)) r l.length ht
    have h1 := take_app l (held0.drop (r + l.length)) l.length 0 rfl
    rw [Nat.add_zero, List.take_zero, List.append_nil] at h1
    rw [h0, h1, hh0, List.drop_append_of_le_length (by omega)]
  · rcases List.mem_append.1 hx with h | h
    · exact hMB x h
    · exact hB x h
theorem WI.here {w wr : World} {g : Nat} {M l : List Int} {N : Int} {b : Option Addr} {k cp p : Nat} {st held : List Int} (I : WI w g M l N b k cp p st held wr) (hk : 64 ≤ k) :
    ∃ bk off, b = some ⟨bk, off, none⟩ ∧ bk ≠ g ∧ bk < wr.heap.size ∧ wr.rangeAt bk off (U8 ((l.drop p).take 64)) ∧ ((l.drop p).take 64).length = 64 := by
  have h1 := I.hp
  have h2 := I.hk
  have hl : (l.drop p).length = k := by simp; omega
  obtain ⟨bk, off, hb, hlt, hc⟩ := I.lies (by omega)
  refine ⟨bk, off, hb, I.blk (by omega) _ hb, hlt, fun j v hv => ?_, by simp; omega⟩
  have hj : j < ((l.drop p).take 64).length := by
    by_cases hj : j < ((l.drop p).take 64).length
    · exact hj
    · rw [List.getElem?_eq_none (by rw [U8_length]; omega)] at hv; simp at hv
  rw [U8_at _ j hj] at hv
  simp only [Option.some.injEq] at hv
  subst hv
  have hj2 : j < (l.drop p).length ∧ j < 64 := by rw [List.length_take] at hj; omega
  rw [hc j hj2.1]
  congr 2
  simp only [List.getD_eq_getElem?_getD, List.getElem?_take, hj2.2, if_true]
theorem toArr8 (l : List Int) (h : l.length = 8) : (U32 l).toArray = #[.int .u32 (St.ofL l).a, .int .u32 (St.ofL l).b, .int .u32 (St.ofL l).c, .int .u32 (St.ofL l).d, .int .u32 (St.ofL l).e, .int .u32 (St.ofL l).f, .int .u32 (St.ofL l).g, .int .u32 (St.ofL l).h] := by
  match l, h with
  | [a, b, c, d, e, f, g, h], _ => rfl
theorem toL_ofL (l : List Int) (h : l.length = 8) : (St.ofL l).toL = l := by
  match l, h with
  | [a, b, c, d, e, f, g, h], _ => rfl
theorem DgR.drew {w : World} {g : Nat} {st held : List Int} {n : Int} (h : DgR w g st held n) : DgR w.drew g st held n := ⟨h.arr, h.stl, h.hdl, h.stW, h.hdB⟩
theorem DgR.set8 {w : World} {g : Nat} {st held : List Int} {n : Int} (h : DgR w g st held n) (l : List Int) (hl : l.length = 8) (hW : IsW l) :
    DgR ((((((((w.setCell ⟨g, 0, none⟩ (.int .u32 (St.ofL l).a)).setCell ⟨g, 1, none⟩ (.int .u32 (St.ofL l).b)).setCell ⟨g, 2, none⟩ (.int .u32 (St.ofL l).c)).setCell ⟨g, 3, none⟩ (.int .u32 (St.ofL l).d)).setCell ⟨g, 4, none⟩ (.int .u32 (St.ofL l).e)).setCell ⟨g, 5, none⟩ (.int .u32 (St.ofL l).f)).setCell ⟨g, 6, none⟩ (.int .u32 (St.ofL l).g)).setCell ⟨g, 7, none⟩ (.int .u32 (St.ofL l).h)) g l held n := by
  refine ⟨?_, hl, h.hdl, hW, h.hdB⟩
  have h1 := h.stl
  have h0 := h.arr
  match st, h1, h0 with
  | [a, b, c, d, e, f, g', i], _, h0 =>
    have := (((((((h0.set 0 (.int .u32 (St.ofL l).a)).set 1 (.int .u32 (St.ofL l).b)).set 2 (.int .u32 (St.ofL l).c)).set 3 (.int .u32 (St.ofL l).d)).set 4 (.int .u32 (St.ofL l).e)).set 5 (.int .u32 (St.ofL l).f)).set 6 (.int .u32 (St.ofL l).g)).set 7 (.int .u32 (St.ofL l).h)
    have e : digL l held n = digL (St.ofL l).toL held n := by rw [toL_ofL l hl]
    rw [e]
    exact this
theorem But.set8 {g : Nat} {a w : World} (h : But g a w) (T : St) :
    But g a ((((((((w.setCell ⟨g, 0, none⟩ (.int .u32 T.a)).setCell ⟨g, 1, none⟩ (.int .u32 T.b)).setCell ⟨g, 2, none⟩ (.int .u32 T.c)).setCell ⟨g, 3, none⟩ (.int .u32 T.d)).setCell ⟨g, 4, none⟩ (.int .u32 T.e)).setCell ⟨g, 5, none⟩ (.int .u32 T.f)).setCell ⟨g, 6, none⟩ (.int .u32 T.g)).setCell ⟨g, 7, none⟩ (.int .u32 T.h)) :=
  (((((((h.setCell 0 _).setCell 1 _).setCell 2 _).setCell 3 _).setCell 4 _).setCell 5 _).setCell 6 _).setCell 7 _
end Go.Proofs.YteijlppmgkdieaaDoor

namespace Go.Proofs.YteijlppmgkdieaaDoor
open Go.RowKit

theorem Tryd.sz1v : (Tryd.prog.info? 5).map (·.size) = some 1 := by kernel_rfl

theorem lies_src {w : World} {a : Option Addr} {l : List Int} (h : Lies w a l) (c : Nat) : 0 < (U8 (l.take c)).length → ∃ ad, a = some ad ∧ ∀ j v, (U8 (l.take c))[j]? = some v → w.cell? (ad.add j) = some v := by
  intro hp
  have hp' : 0 < l.length := by simp at hp; omega
  obtain ⟨b, off, rfl, _, hc⟩ := h hp'
  refine ⟨_, rfl, fun j v hv => ?_⟩
  have hj : j < (l.take c).length := by
    by_cases hj : j < (l.take c).length
    · exact hj
    · rw [List.getElem?_eq_none (by simp; simp at hj; omega)] at hv; simp at hv
  rw [U8_at _ j hj] at hv
  simp only [Option.some.injEq] at hv
  subst hv
  have hj2 : j < l.length ∧ j < c := by simp at hj; omega
  rw [addr_add, hc j hj2.1]
  congr 2
  simp [hj2.2]

set_option maxHeartbeats 2000000 in
set_option maxRecDepth 100000 in
theorem write_any (g : Nat) (M l : List Int) (a : Option Addr) (len cap : Nat) (w : World) (hD : Dg w g M) (hK : KLaid w) (hgK : 1 ≠ g)
    (hl : l.length = len) (hB : IsB l) (hlies : Lies w a l) (hblk : 0 < l.length → ∀ x, a = some x → x.block ≠ g) (h2 : len ≤ cap) (h3 : cap ≤ maxLen) :
    Calls Tryd.prog 9 #[.pointer (some ⟨g, 0, none⟩), .slice a len cap] w fun e w' => e = .returned (.tuple #[]) ∧ Dg w' g (M ++ l) ∧ But g w w' := by
  unfold maxLen at h3
  obtain ⟨st, held, hR, hst, hhd, hMB⟩ := hD
  have hmx : cap ≤ 9223372036854775807 := by omega
  clear h3
  obtain ⟨n, hn⟩ : ∃ n : Int, n = (M.length : Int) % 18446744073709551616 := ⟨_, rfl⟩
  rw [← hn] at hR
  obtain ⟨r, hr, hr64, hrM⟩ : ∃ r : Nat, n % 64 = r ∧ r < 64 ∧ M.length % 64 = r := ⟨M.length % 64, by omega, by omega, rfl⟩
  have hn0 : 0 ≤ n := by omega
  have hn1 : n < 18446744073709551616 := by omega
  have HN := hide hn
  have HRM := hide hrM
  have HL := hide hl
  have HHD := hide hhd
  have HST := hide hst
  clear hn hrM hl hhd hst
  have cn := hR.cellN
  have fn := hR.arr.frozen 72
  obtain ⟨N, hN⟩ : ∃ N, N = IntKind.u64.wrap (n + len) := ⟨_, rfl⟩
  have HNN := hide hN
  by_cases hr0 : r = 0
  · subst hr0
    have hrz : n % 64 = 0 := hr
    clear hr
    have I0 := WI.start (w := w) (M := M) (hR.setN (IntKind.u64.wrap (n + len))) (unhide HST) (unhide HRM) (unhide HL) hlies hblk h2 hmx ((But.refl g w).setCell 72 _) hK hgK
    have HI0 := hide I0
    clear I0 hN
    go_enter Tryd.func9, Tryd.ntmps9
    go_wp2_with fail
    rw [hrz]
    clear hrz
    have I0 := unhide HI0
    clear HI0
    generalize w.setCell ⟨g, 72, none⟩ (.int .u64 (IntKind.u64.wrap (n + len))) = W1 at I0 ⊢
    generalize hNX : IntKind.u64.wrap (n + len) = N' at *
    have HNX := hide hNX.symm
    clear hNX
    go_loopw [1] (fun v wr => ∃ b k cp p st held, v = .slice b k cp ∧ WI w g M l N' b k cp p st held wr) (fun v _ => slLen v)
    case atStart => exact ⟨_, _, _, _, _, _, rfl, I0⟩
    case round =>
      clear I0
      obtain ⟨bb, k, cp, p, st1, held1, rfl, I⟩ := hrel
      by_cases hk : 64 ≤ k
      · obtain ⟨bk, off, hbe, hbg, hbl, hrg, hXl⟩ := I.here hk
        subst hbe
        have hkz : (64 : Int) ≤ (k : Int) := by omega
        have hXB : IsB ((l.drop p).take 64) := fun x hx => hB x (List.mem_of_mem_drop (List.mem_of_mem_take hx))
        obtain ⟨X, hX⟩ : ∃ X, X = (l.drop p).take 64 := ⟨_, rfl⟩
        rw [← hX] at hrg hXl hXB
        have hD := I.dig
        have hz8 : (Tryd.prog.info? 51).map (·.size) = some (U32 st1).length := by rw [Tryd.sz8w]; simp [hD.stl]
        have hzb : (Tryd.prog.info? 52).map (·.size) = some (U8 X).length := by rw [Tryd.sz64b]; simp [hXl]
        obtain ⟨R, hRR⟩ : ∃ R, R = blockZ st1 X := ⟨_, rfl⟩
        have hRl : R.length = 8 := by rw [hRR]; exact blockZ_length _ _ hD.stl
        have hRW : IsW R := by rw [hRR]; exact blockZ_isW _ _
        have hK4 := I.kon
        have HRR := hide hRR
        have HRl := hide hRl
        have HXl := hide hXl
        have HX4 := hide hX
        have HI := hide I
        clear hRR hRl hXl hX I
        go_wp2_with fail
        refine wp_region_noPanic ?_
        refine wp_region_held_drew (S := fun w' => w'.rangeAt bk off (U8 X)) (by kernel_rfl) hrg (fun hHeld => ?_)
        refine wpAnyH_take (i := 0) (oi := _) (v := (.pointer (some ⟨g, 0, none⟩))) rfl (by kernel_rfl) (by kernel_rfl) (by kernel_rfl) (fun _ _ _ h => h) (Or.inl ⟨by rfl, fun w hSw => by go_simp⟩) hHeld ?_
        simp [Act.put]
        refine wpAnyH_take (i := 1) (oi := _) (v := (.pointer (some ⟨g, 0, none⟩))) rfl (by kernel_rfl) (by kernel_rfl) (by kernel_rfl) (fun _ _ _ h => h) (Or.inl ⟨by rfl, fun w hSw => by go_simp⟩) hHeld ?_
        simp [Act.put]
        refine wpAnyH_take (i := 2) (oi := _) (v := (.pointer (some ⟨g, 0, none⟩))) rfl (by kernel_rfl) (by kernel_rfl) (by kernel_rfl) (fun _ _ _ h => h) (Or.inl ⟨by rfl, fun w hSw => by go_simp⟩) hHeld ?_
        simp [Act.put]
        refine wpAnyH_take (i := 3) (oi := _) (v := (.pointer (some ⟨g, 0, none⟩))) rfl (by kernel_rfl) (by kernel_rfl) (by kernel_rfl) (fun _ _ _ h => h) (Or.inl ⟨by rfl, fun w hSw => by go_simp⟩) hHeld ?_
        simp [Act.put]
        refine wpAnyH_take (i := 5) (oi := _) (v := (.slice (some ⟨bk, off, none⟩) k cp)) rfl (by kernel_rfl) (by kernel_rfl) (by kernel_rfl) (fun _ _ _ h => h) (Or.inl ⟨by rfl, fun w hSw => by go_simp⟩) hHeld ?_
        simp [Act.put]
        refine wpAnyH_take (i := 6) (oi := _) (v := (.pointer (some ⟨bk, off, none⟩))) rfl (by kernel_rfl) (by kernel_rfl) (by kernel_rfl) (fun _ _ _ h => h) (Or.inl ⟨by rfl, fun w hSw => by have har := run_arrayAt w 52 5 64 (some ⟨bk, off, none⟩) k cp Tryd.underlying52 hk; go_simp⟩) hHeld ?_
        simp [Act.put]
        refine wpAnyH_take (i := 7) (oi := _) (v := _) rfl (by kernel_rfl) (by kernel_rfl) (by kernel_rfl) (fun _ _ _ h => h) (yieldsIf_load_mid (by rfl) _ _ rfl _ _ rfl _ _ (fun _ h => h) Tryd.underlying52 rfl hzb) hHeld ?_
        simp [Act.put]
        refine wpAnyH_ready (rs := [4]) (by kernel_rfl) (by simp) ?_
        refine AllReadyH.cons rfl (fun K hK => ?_) AllReadyH.nil
        rw [if_pos (by rfl)]
        refine wp_load_mid _ _ rfl _ _ rfl _ _ hD.drew.rangeS Tryd.underlying51 rfl hz8 ?_
        simp [Act.put]
        refine hK.out _ _ hHeld (fun hHeld => ?_)
        clear hK K
        refine wpAnyH_ready (rs := [8]) (by kernel_rfl) (by simp) ?_
        refine AllReadyH.cons rfl (fun K hK => ?_) AllReadyH.nil
        go_simp
        refine (block_any st1 X wr.drew hD.stl hD.stW (unhide HXl) hXB hK4).mono ?_
        rintro e w9 ⟨rfl, hb9⟩
        have D9 := DgR.later (w := wr.drew) hD.drew hb9
        have b9 : But g wr w9 := But.undrew (But.of_below hb9)
        have hlt9 : bk < w9.heap.size := Nat.lt_of_lt_of_le hbl b9.size
        have r9 := range_but hrg b9 hbg hbl
        have B9 := hide b9
        rw [← unhide HRR, toArr8 R (unhide HRl)]
        clear hb9 b9
        refine hK.out _ _ r9 (fun hHeld => ?_)
        clear hK K
        refine wpAnyH_take (i := 9) (oi := _) (v := (.pointer (some ⟨g, 0, none⟩))) rfl (by kernel_rfl) (by kernel_rfl) (by kernel_rfl) (fun _ _ _ h => h) (Or.inl ⟨by rfl, fun w hSw => by go_simp⟩) hHeld ?_
        simp [Act.put]
        refine wpAnyH_take (i := 10) (oi := _) (v := (.pointer (some ⟨g, 0, none⟩))) rfl (by kernel_rfl) (by kernel_rfl) (by kernel_rfl) (fun _ _ _ h => h) (Or.inl ⟨by rfl, fun w hSw => by go_simp⟩) hHeld ?_
        simp [Act.put]
        refine wpAnyH_ready (rs := [11]) (by kernel_rfl) (by simp) ?_
        refine AllReadyH.cons rfl (fun K hK => ?_) AllReadyH.nil
        have z0 := D9.cellS 0 (by omega)
        have z1 := D9.cellS 1 (by omega)
        have z2 := D9.cellS 2 (by omega)
        have z3 := D9.cellS 3 (by omega)
        have z4 := D9.cellS 4 (by omega)
        have z5 := D9.cellS 5 (by omega)
        have z6 := D9.cellS 6 (by omega)
        have z7 := D9.cellS 7 (by omega)
        have fz : ∀ i, w9.frozen? ⟨g, i, none⟩ = false := D9.arr.frozen
        go_simp
        refine hK.out _ _ (range_but r9 ((But.refl g w9).set8 (St.ofL R)) hbg hlt9) (fun hHeld => ?_)
        clear hK K
        refine wpAnyH_done (by kernel_rfl) ?_ _
        unfold NoPanic
        clear z0 z1 z2 z3 z4 z5 z6 z7 fz
        go_wp2_with (refine wpList_slice_from rfl 31 (.tmp 64) (.const (.int .i64 64)) rfl 5 Tryd.underlying31 Tryd.sz1v _ _ _ rfl .i64 _ 64 rfl rfl hk ?_; intro b5 hb5)
        go_roundw
        case rel => exact ⟨_, _, _, _, _, _, rfl, WI.step (unhide HI) hk (D9.set8 R (unhide HRl) hRW) (by rw [unhide HRR, unhide HX4]) (unhide hb5) ((unhide B9).set8 (St.ofL R)) hgK⟩
        case measure => simp [slLen]; omega
      · have hkz : ¬ ((64 : Int) ≤ (k : Int)) := by omega
        have hkd : decide ((64 : Int) ≤ (k : Int)) = false := by simpa using hkz
        have hD := I.dig
        have HI := hide I
        obtain ⟨X, hX⟩ : ∃ X, X = U8 (l.drop p) := ⟨_, rfl⟩
        have hXl : X.length = k := by rw [hX, U8_length, List.length_drop, I.hk]
        have hXm : X.length = Nat.min k 64 := by rw [hXl]; exact (Nat.min_eq_left (by omega)).symm
        have hXs : 0 < X.length → ∃ ad, bb = some ad ∧ ∀ j v, X[j]? = some v → wr.cell? (ad.add j) = some v := by
          intro h
          have := lies_src I.lies k (by rw [List.take_of_length_le (by rw [List.length_drop, I.hk]; omega), ← hX]; exact h)
          rwa [List.take_of_length_le (by rw [List.length_drop, I.hk]; omega), ← hX] at this
        have HX := hide hX
        have HXm := hide hXm
        have HXs := hide hXs
        have HXl := hide hXl
        clear hX hXl hXm hXs I hkz
        go_wp2_with (refine wpList_copy_but rfl (.tmp 69) (.tmp 70) 31 31 rfl 5 Tryd.underlying31 Tryd.sz1v _ _ _ _ _ _ rfl rfl g 8 (digL st1 held1 N') 55 hD.arr X (unhide HXm) (fun h => ⟨rfl, unhide HXs h⟩) (by rw [digL_length hD.stl hD.hdl, unhide HXl]; omega) (by rw [unhide HX]; exact U8_one _) ?_; intro w6 hg6 hb6)
        go_end0
        have I := unhide HI
        have hg := unhide hg6
        have hlD : (l.drop p).length = k := by rw [List.length_drop, I.hk]
        rw [unhide HX, show (8 : Nat) = 8 + 0 from rfl, splice_dig hD.stl hD.hdl (by rw [hlD]; omega)] at hg
        refine ⟨rfl, WI.done I (by omega) ⟨hg, hD.stl, ?_, hD.stW, hD.hdB.splice (fun x hx => hB x (List.mem_of_mem_drop hx))⟩ rfl ?_ hMB hB, I.but.trans (unhide hb6)⟩
        · rw [length_splice _ _ _ (by rw [hlD, hD.hdl]; omega), hD.hdl]
        · have h1 := unhide HNX; rw [h1, IntKind.wrap_u64, unhide HN, unhide HL]; omega
  · have hrp : (0 : Int) < (r : Int) := by omega
    have hr1 : (r : Int) ≤ 64 := by omega
    have hne1 : ¬ r = 64 := by omega
    have hne2 : ¬ 64 = r := by omega
    have hR1 := hR.setN (IntKind.u64.wrap (n + len))
    have hbt1 : But g w (w.setCell ⟨g, 72, none⟩ (.int .u64 (IntKind.u64.wrap (n + len)))) := (But.refl g w).setCell 72 _
    have HR1 := hide hR1
    have HBT1 := hide hbt1
    obtain ⟨c, hc⟩ : ∃ c, c = Nat.min len (64 - r) := ⟨_, rfl⟩
    have hc1 : c ≤ len := by rw [hc]; exact Nat.min_le_left _ _
    have hc2 : c + r ≤ 64 := by have : c ≤ 64 - r := by rw [hc]; exact Nat.min_le_right _ _
                                omega
    have hcl : (U8 (l.take c)).length = c := by simp [unhide HL]; omega
    have HC := hide hc
    have HCL := hide hcl
    clear hc hR1 hbt1 hcl hN
    obtain ⟨X, hX⟩ : ∃ X, X = U8 (l.take c) := ⟨_, rfl⟩
    have HX := hide hX
    clear hX
    by_cases hf : r + c < 64
    · have hfz : (r : Int) + (c : Int) < 64 := by omega
      go_enter Tryd.func9, Tryd.ntmps9
      go_wp2_with (first
        | (refine wpList_copy_but rfl (.tmp 27) (.tmp 28) 31 31 rfl 5 Tryd.underlying31 Tryd.sz1v _ _ _ _ _ _ rfl rfl g (8 + r) (digL st held (IntKind.u64.wrap (n + len))) 55 (unhide HR1).arr X (by rw [unhide HX, unhide HCL]; exact unhide HC) (fun h => ⟨rfl, by rw [unhide HX] at h ⊢; exact lies_src ((unhide HBT1).lies hlies hblk) c h⟩) (by rw [digL_length hR.stl hR.hdl, unhide HX, unhide HCL]; omega) (by rw [unhide HX]; exact U8_one _) ?_; intro w3 hg3 hb3; rw [unhide HX, unhide HCL])
        | (refine wpList_slice_from rfl 31 (.tmp 30) (.tmp 31) rfl 5 Tryd.underlying31 Tryd.sz1v _ _ _ rfl .i64 _ c rfl rfl hc1 ?_; intro b hb0))
      refine bodyPost_ret (results_none rfl _ _ _) rfl ?_
      have hcl : c = len := by
        have := unhide HC
        by_cases h : len ≤ 64 - r
        · rw [this]; exact Nat.min_eq_left h
        · have h' : Nat.min len (64 - r) = 64 - r := Nat.min_eq_right (by omega)
          omega
      have hll : l.take c = l := List.take_of_length_le (by rw [unhide HL]; omega)
      have hg := unhide hg3
      rw [unhide HX, hll, splice_dig hR.stl hR.hdl (by rw [unhide HL]; omega)] at hg
      refine ⟨rfl, dg_short (held := splice held r l) ⟨hg, hR.stl, ?_, hR.stW, hR.hdB.splice hB⟩ (unhide HST) rfl (unhide HRM) ?_ hR.hdl (by rw [unhide HL]; omega) ?_ hMB hB, (unhide HBT1).trans (unhide hb3)⟩
      · rw [length_splice _ _ _ (by rw [unhide HL, hR.hdl]; omega), hR.hdl]
      · rw [← unhide HRM]; exact unhide HHD
      · rw [IntKind.wrap_u64, unhide HN, unhide HL]; omega
    · have hfz : ¬ ((r : Int) + (c : Int) < 64) := by omega
      have hfd : decide ((r : Int) + (c : Int) < 64) = false := by simpa using hfz
      have hfe : r + c = 64 := by omega
      have HFE := hide hfe
      clear hfe hfz
      go_enter Tryd.func9, Tryd.ntmps9
      go_wp2_with (first
        | (refine wpList_copy_but rfl (.tmp 27) (.tmp 28) 31 31 rfl 5 Tryd.underlying31 Tryd.sz1v _ _ _ _ _ _ rfl rfl g (8 + r) (digL st held (IntKind.u64.wrap (n + len))) 55 (unhide HR1).arr X (by rw [unhide HX, unhide HCL]; exact unhide HC) (fun h => ⟨rfl, by rw [unhide HX] at h ⊢; exact lies_src ((unhide HBT1).lies hlies hblk) c h⟩) (by rw [digL_length hR.stl hR.hdl, unhide HX, unhide HCL]; omega) (by rw [unhide HX]; exact U8_one _) ?_; intro w3 hg3 hb3; rw [unhide HX, unhide HCL])
        | (refine wpList_slice_from rfl 31 (.tmp 30) (.tmp 31) rfl 5 Tryd.underlying31 Tryd.sz1v _ _ _ rfl .i64 _ c rfl rfl hc1 ?_; intro b hb0))
      have hg := unhide hg3
      have hcL : (l.take c).length = c := by simp [unhide HL]; omega
      rw [unhide HX, splice_dig hR.stl hR.hdl (by rw [hcL]; omega)] at hg
      obtain ⟨H, hH⟩ : ∃ H, H = splice held r (l.take c) := ⟨_, rfl⟩
      rw [← hH] at hg
      have hHl : H.length = 64 := by rw [hH, length_splice _ _ _ (by rw [hcL, hR.hdl]; omega), hR.hdl]
      have hHB : IsB H := by rw [hH]; exact hR.hdB.splice (fun x hx => hB x (List.mem_of_mem_take hx))
      have hD3 : DgR w3 g st H (IntKind.u64.wrap (n + len)) := ⟨hg, hR.stl, hHl, hR.stW, hHB⟩
      have hB3 : But g w w3 := (unhide HBT1).trans (unhide hb3)
      have HH := hide hH
      have hK3 : KLaid w3 := hK.but hB3 hgK
      clear hg hcL hH hg3 hb3 HX HCL HR1 HBT1 cn fn
      generalize hNX : IntKind.u64.wrap (n + len) = N' at *
      have HNX := hide hNX.symm
      clear hNX
      have hz8 : (Tryd.prog.info? 51).map (·.size) = some (U32 st).length := by rw [Tryd.sz8w]; simp [hR.stl]
      have hzb : (Tryd.prog.info? 52).map (·.size) = some (U8 H).length := by rw [Tryd.sz64b]; simp [hHl]
      obtain ⟨R, hRR⟩ : ∃ R, R = blockZ st H := ⟨_, rfl⟩
      have hRl : R.length = 8 := by rw [hRR]; exact blockZ_length _ _ hR.stl
      have hRW : IsW R := by rw [hRR]; exact blockZ_isW _ _
      have HRR := hide hRR
      have HRl := hide hRl
      have HHl := hide hHl
      clear hRR hRl hHl
      refine wp_region_noPanic ?_
      refine wp_region_held_drew (S := fun w' => w'.rangeAt g 8 (U8 H)) (by kernel_rfl) hD3.drew.rangeH (fun hHeld => ?_)
      refine wpAnyH_take (i := 0) (oi := _) (v := (.pointer (some ⟨g, 0, none⟩))) rfl (by kernel_rfl) (by kernel_rfl) (by kernel_rfl) (fun _ _ _ h => h) (Or.inl ⟨by rfl, fun w hSw => by go_simp⟩) hHeld ?_
      simp [Act.put]
      refine wpAnyH_take (i := 1) (oi := _) (v := (.pointer (some ⟨g, 0, none⟩))) rfl (by kernel_rfl) (by kernel_rfl) (by kernel_rfl) (fun _ _ _ h => h) (Or.inl ⟨by rfl, fun w hSw => by go_simp⟩) hHeld ?_
      simp [Act.put]
      refine wpAnyH_take (i := 2) (oi := _) (v := (.pointer (some ⟨g, 0, none⟩))) rfl (by kernel_rfl) (by kernel_rfl) (by kernel_rfl) (fun _ _ _ h => h) (Or.inl ⟨by rfl, fun w hSw => by go_simp⟩) hHeld ?_
      simp [Act.put]
      refine wpAnyH_take (i := 3) (oi := _) (v := (.pointer (some ⟨g, 0, none⟩))) rfl (by kernel_rfl) (by kernel_rfl) (by kernel_rfl) (fun _ _ _ h => h) (Or.inl ⟨by rfl, fun w hSw => by go_simp⟩) hHeld ?_
      simp [Act.put]
      refine wpAnyH_take (i := 5) (oi := _) (v := (.pointer (some ⟨g, 0, none⟩))) rfl (by kernel_rfl) (by kernel_rfl) (by kernel_rfl) (fun _ _ _ h => h) (Or.inl ⟨by rfl, fun w hSw => by go_simp⟩) hHeld ?_
      simp [Act.put]
      refine wpAnyH_take (i := 6) (oi := _) (v := (.pointer (some ⟨g, 0, none⟩))) rfl (by kernel_rfl) (by kernel_rfl) (by kernel_rfl) (fun _ _ _ h => h) (Or.inl ⟨by rfl, fun w hSw => by go_simp⟩) hHeld ?_
      simp [Act.put]
      refine wpAnyH_take (i := 7) (oi := _) (v := (.pointer (some ⟨g, 8, none⟩))) rfl (by kernel_rfl) (by kernel_rfl) (by kernel_rfl) (fun _ _ _ h => h) (Or.inl ⟨by rfl, fun w hSw => by go_simp⟩) hHeld ?_
      simp [Act.put]
      refine wpAnyH_take (i := 8) (oi := _) (v := _) rfl (by kernel_rfl) (by kernel_rfl) (by kernel_rfl) (fun _ _ _ h => h) (yieldsIf_load_mid (by rfl) _ _ rfl _ _ rfl _ _ (fun _ h => h) Tryd.underlying52 rfl hzb) hHeld ?_
      simp [Act.put]
      refine wpAnyH_ready (rs := [4]) (by kernel_rfl) (by simp) ?_
      refine AllReadyH.cons rfl (fun K hK => ?_) AllReadyH.nil
      rw [if_pos (by rfl)]
      refine wp_load_mid _ _ rfl _ _ rfl _ _ hD3.drew.rangeS Tryd.underlying51 rfl hz8 ?_
      simp [Act.put]
      refine hK.out _ _ hHeld (fun hHeld => ?_)
      clear hK K
      refine wpAnyH_ready (rs := [9]) (by kernel_rfl) (by simp) ?_
      refine AllReadyH.cons rfl (fun K hK => ?_) AllReadyH.nil
      go_simp
      refine (block_any st H w3.drew hR.stl hR.stW (unhide HHl) hHB hK3).mono ?_
      rintro e w9 ⟨rfl, hb9⟩
      have D9 := DgR.later (w := w3.drew) hD3.drew hb9
      have B9 := hide (hB3.trans (But.undrew (But.of_below hb9)))
      rw [← unhide HRR, toArr8 R (unhide HRl)]
      clear hb9
      refine hK.out _ _ D9.rangeH (fun hHeld => ?_)
      clear hK K
      refine wpAnyH_take (i := 10) (oi := _) (v := (.pointer (some ⟨g, 0, none⟩))) rfl (by kernel_rfl) (by kernel_rfl) (by kernel_rfl) (fun _ _ _ h => h) (Or.inl ⟨by rfl, fun w hSw => by go_simp⟩) hHeld ?_
      simp [Act.put]
      refine wpAnyH_take (i := 11) (oi := _) (v := (.pointer (some ⟨g, 0, none⟩))) rfl (by kernel_rfl) (by kernel_rfl) (by kernel_rfl) (fun _ _ _ h => h) (Or.inl ⟨by rfl, fun w hSw => by go_simp⟩) hHeld ?_
      simp [Act.put]
      refine wpAnyH_ready (rs := [12]) (by kernel_rfl) (by simp) ?_
      refine AllReadyH.cons rfl (fun K hK => ?_) AllReadyH.nil
      have z0 := D9.cellS 0 (by omega)
      have z1 := D9.cellS 1 (by omega)
      have z2 := D9.cellS 2 (by omega)
      have z3 := D9.cellS 3 (by omega)
      have z4 := D9.cellS 4 (by omega)
      have z5 := D9.cellS 5 (by omega)
      have z6 := D9.cellS 6 (by omega)
      have z7 := D9.cellS 7 (by omega)
      have fz : ∀ i, w9.frozen? ⟨g, i, none⟩ = false := D9.arr.frozen
      go_simp
      refine hK.out _ _ (D9.set8 R (unhide HRl) hRW).rangeH (fun hHeld => ?_)
      clear hK K
      refine wpAnyH_done (by kernel_rfl) ?_ _
      unfold NoPanic
      clear z0 z1 z2 z3 z4 z5 z6 z7 fz
      have I0 := WI.full (w := w) (M := M) (D9.set8 R (unhide HRl) hRW) (unhide HRR) (unhide HST) (unhide HH) (unhide HRM) (by rw [← unhide HRM]; exact unhide HHD) hR.hdl (unhide HL) hc1 (unhide HFE) (unhide hb0) hlies hblk h2 hmx ((unhide B9).set8 (St.ofL R)) hK hgK
      have HI0 := hide I0
      clear I0
      go_wp2_with fail
      have I0 := unhide HI0
      clear HI0
      go_loopw [1] (fun v wr => ∃ b k cp p st held, v = .slice b k cp ∧ WI w g M l N' b k cp p st held wr) (fun v _ => slLen v)
      case atStart => exact ⟨_, _, _, _, _, _, rfl, I0⟩
      case round =>
        clear I0
        obtain ⟨bb, k, cp, p, st1, held1, rfl, I⟩ := hrel
        by_cases hk : 64 ≤ k
        · obtain ⟨bk, off, hbe, hbg, hbl, hrg, hXl⟩ := I.here hk
          subst hbe
          have hkz : (64 : Int) ≤ (k : Int) := by omega
          have hXB : IsB ((l.drop p).take 64) := fun x hx => hB x (List.mem_of_mem_drop (List.mem_of_mem_take hx))
          obtain ⟨X, hX⟩ : ∃ X, X = (l.drop p).take 64 := ⟨_, rfl⟩
          rw [← hX] at hrg hXl hXB
          have hD := I.dig
          have hz8 : (Tryd.prog.info? 51).map (·.size) = some (U32 st1).length := by rw [Tryd.sz8w]; simp [hD.stl]
          have hzb : (Tryd.prog.info? 52).map (·.size) = some (U8 X).length := by rw [Tryd.sz64b]; simp [hXl]
          obtain ⟨R, hRR⟩ : ∃ R, R = blockZ st1 X := ⟨_, rfl⟩
          have hRl : R.length = 8 := by rw [hRR]; exact blockZ_length _ _ hD.stl
          have hRW : IsW R := by rw [hRR]; exact blockZ_isW _ _
          have hK4 := I.kon
          have HRR := hide hRR
          have HRl := hide hRl
          have HXl := hide hXl
          have HX4 := hide hX
          have HI := hide I
          clear hRR hRl hXl hX I
          go_wp2_with fail
          refine wp_region_noPanic ?_
          refine wp_region_held_drew (S := fun w' => w'.rangeAt bk off (U8 X)) (by kernel_rfl) hrg (fun hHeld => ?_)
          refine wpAnyH_take (i := 0) (oi := _) (v := (.pointer (some ⟨g, 0, none⟩))) rfl (by kernel_rfl) (by kernel_rfl) (by kernel_rfl) (fun _ _ _ h => h) (Or.inl ⟨by rfl, fun w hSw => by go_simp⟩) hHeld ?_
          simp [Act.put]
          refine wpAnyH_take (i := 1) (oi := _) (v := (.pointer (some ⟨g, 0, none⟩))) rfl (by kernel_rfl) (by kernel_rfl) (by kernel_rfl) (fun _ _ _ h => h) (Or.inl ⟨by rfl, fun w hSw => by go_simp⟩) hHeld ?_
          simp [Act.put]
          refine wpAnyH_take (i := 2) (oi := _) (v := (.pointer (some ⟨g, 0, none⟩))) rfl (by kernel_rfl) (by kernel_rfl) (by kernel_rfl) (fun _ _ _ h => h) (Or.inl ⟨by rfl, fun w hSw => by go_simp⟩) hHeld ?_
          simp [Act.put]
          refine wpAnyH_take (i := 3) (oi := _) (v := (.pointer (some ⟨g, 0, none⟩))) rfl (by kernel_rfl) (by kernel_rfl) (by kernel_rfl) (fun _ _ _ h => h) (Or.inl ⟨by rfl, fun w hSw => by go_simp⟩) hHeld ?_
          simp [Act.put]
          refine wpAnyH_take (i := 5) (oi := _) (v := (.slice (some ⟨bk, off, none⟩) k cp)) rfl (by kernel_rfl) (by kernel_rfl) (by kernel_rfl) (fun _ _ _ h => h) (Or.inl ⟨by rfl, fun w hSw => by go_simp⟩) hHeld ?_
          simp [Act.put]
          refine wpAnyH_take (i := 6) (oi := _) (v := (.pointer (some ⟨bk, off, none⟩))) rfl (by kernel_rfl) (by kernel_rfl) (by kernel_rfl) (fun _ _ _ h => h) (Or.inl ⟨by rfl, fun w hSw => by have har := run_arrayAt w 52 5 64 (some ⟨bk, off, none⟩) k cp Tryd.underlying52 hk; go_simp⟩) hHeld ?_
          simp [Act.put]
          refine wpAnyH_take (i := 7) (oi := _) (v := _) rfl (by kernel_rfl) (by kernel_rfl) (by kernel_rfl) (fun _ _ _ h => h) (yieldsIf_load_mid (by rfl) _ _ rfl _ _ rfl _ _ (fun _ h => h) Tryd.underlying52 rfl hzb) hHeld ?_
          simp [Act.put]
          refine wpAnyH_ready (rs := [4]) (by kernel_rfl) (by simp) ?_
          refine AllReadyH.cons rfl (fun K hK => ?_) AllReadyH.nil
          rw [if_pos (by rfl)]
          refine wp_load_mid _ _ rfl _ _ rfl _ _ hD.drew.rangeS Tryd.underlying51 rfl hz8 ?_
          simp [Act.put]
          refine hK.out _ _ hHeld (fun hHeld => ?_)
          clear hK K
          refine wpAnyH_ready (rs := [8]) (by kernel_rfl) (by simp) ?_
          refine AllReadyH.cons rfl (fun K hK => ?_) AllReadyH.nil
          go_simp
          refine (block_any st1 X wr.drew hD.stl hD.stW (unhide HXl) hXB hK4).mono ?_
          rintro e w9 ⟨rfl, hb9⟩
          have D9 := DgR.later (w := wr.drew) hD.drew hb9
          have b9 : But g wr w9 := But.undrew (But.of_below hb9)
          have hlt9 : bk < w9.heap.size := Nat.lt_of_lt_of_le hbl b9.size
          have r9 := range_but hrg b9 hbg hbl
          have B9 := hide b9
          rw [← unhide HRR, toArr8 R (unhide HRl)]
          clear hb9 b9
          refine hK.out _ _ r9 (fun hHeld => ?_)
          clear hK K
          refine wpAnyH_take (i := 9) (oi := _) (v := (.pointer (some ⟨g, 0, none⟩))) rfl (by kernel_rfl) (by kernel_rfl) (by kernel_rfl) (fun _ _ _ h => h) (Or.inl ⟨by rfl, fun w hSw => by go_simp⟩) hHeld ?_
          simp [Act.put]
          refine wpAnyH_take (i := 10) (oi := _) (v := (.pointer (some ⟨g, 0, none⟩))) rfl (by kernel_rfl) (by kernel_rfl) (by kernel_rfl) (fun _ _ _ h => h) (Or.inl ⟨by rfl, fun w hSw => by go_simp⟩) hHeld ?_
          simp [Act.put]
          refine wpAnyH_ready (rs := [11]) (by kernel_rfl) (by simp) ?_
          refine AllReadyH.cons rfl (fun K hK => ?_) AllReadyH.nil
          have z0 := D9.cellS 0 (by omega)
          have z1 := D9.cellS 1 (by omega)
          have z2 := D9.cellS 2 (by omega)
          have z3 := D9.cellS 3 (by omega)
          have z4 := D9.cellS 4 (by omega)
          have z5 := D9.cellS 5 (by omega)
          have z6 := D9.cellS 6 (by omega)
          have z7 := D9.cellS 7 (by omega)
          have fz : ∀ i, w9.frozen? ⟨g, i, none⟩ = false := D9.arr.frozen
          go_simp
          refine hK.out _ _ (range_but r9 ((But.refl g w9).set8 (St.ofL R)) hbg hlt9) (fun hHeld => ?_)
          clear hK K
          refine wpAnyH_done (by kernel_rfl) ?_ _
          unfold NoPanic
          clear z0 z1 z2 z3 z4 z5 z6 z7 fz
          go_wp2_with (refine wpList_slice_from rfl 31 (.tmp 64) (.const (.int .i64 64)) rfl 5 Tryd.underlying31 Tryd.sz1v _ _ _ rfl .i64 _ 64 rfl rfl hk ?_; intro b5 hb5)
          go_roundw
          case rel => exact ⟨_, _, _, _, _, _, rfl, WI.step (unhide HI) hk (D9.set8 R (unhide HRl) hRW) (by rw [unhide HRR, unhide HX4]) (unhide hb5) ((unhide B9).set8 (St.ofL R)) hgK⟩
          case measure => simp [slLen]; omega
        · have hkz : ¬ ((64 : Int) ≤ (k : Int)) := by omega
          have hkd : decide ((64 : Int) ≤ (k : Int)) = false := by simpa using hkz
          have hD := I.dig
          have HI := hide I
          obtain ⟨X, hX⟩ : ∃ X, X = U8 (l.drop p) := ⟨_, rfl⟩
          have hXl : X.length = k := by rw [hX, U8_length, List.length_drop, I.hk]
          have hXm : X.length = Nat.min k 64 := by rw [hXl]; exact (Nat.min_eq_left (by omega)).symm
          have hXs : 0 < X.length → ∃ ad, bb = some ad ∧ ∀ j v, X[j]? = some v → wr.cell? (ad.add j) = some v := by
            intro h
            have := lies_src I.lies k (by rw [List.take_of_length_le (by rw [List.length_drop, I.hk]; omega), ← hX]; exact h)
            rwa [List.take_of_length_le (by rw [List.length_drop, I.hk]; omega), ← hX] at this
          have HX := hide hX
          have HXm := hide hXm
          have HXs := hide hXs
          have HXl := hide hXl
          clear hX hXl hXm hXs I hkz
          go_wp2_with (refine wpList_copy_but rfl (.tmp 69) (.tmp 70) 31 31 rfl 5 Tryd.underlying31 Tryd.sz1v _ _ _ _ _ _ rfl rfl g 8 (digL st1 held1 N') 55 hD.arr X (unhide HXm) (fun h => ⟨rfl, unhide HXs h⟩) (by rw [digL_length hD.stl hD.hdl, unhide HXl]; omega) (by rw [unhide HX]; exact U8_one _) ?_; intro w6 hg6 hb6)
          go_end0
          have I := unhide HI
          have hg := unhide hg6
          have hlD : (l.drop p).length = k := by rw [List.length_drop, I.hk]
          rw [unhide HX, show (8 : Nat) = 8 + 0 from rfl, splice_dig hD.stl hD.hdl (by rw [hlD]; omega)] at hg
          refine ⟨rfl, WI.done I (by omega) ⟨hg, hD.stl, ?_, hD.stW, hD.hdB.splice (fun x hx => hB x (List.mem_of_mem_drop hx))⟩ rfl ?_ hMB hB, I.but.trans (unhide hb6)⟩
          · rw [length_splice _ _ _ (by rw [hlD, hD.hdl]; omega), hD.hdl]
          · have h1 := unhide HNX; rw [h1, IntKind.wrap_u64, unhide HN, unhide HL]; omega
end Go.Proofs.YteijlppmgkdieaaDoor

namespace Go.Proofs.YteijlppmgkdieaaDoor
open Go.RowKit

/-- the first state lies in its variable -/
def FLaid (w : World) : Prop := ∀ i, i < 8 → w.cell? ⟨0, i, none⟩ = some (.int .u32 (FZ.getD i 0))
theorem FLaid.lt {w : World} (h : FLaid w) : 0 < w.heap.size := cell_lt (h 0 (by decide))
theorem FLaid.later {w w' : World} (h : FLaid w) (hb : Below w.heap.size w w') : FLaid w' := fun i hi => (hb.cell (p := ⟨0, i, none⟩) h.lt).trans (h i hi)
theorem FLaid.but {w w' : World} {g : Nat} (h : FLaid w) (hb : But g w w') (hg : 0 ≠ g) : FLaid w' := fun i hi => (hb.cell (p := ⟨0, i, none⟩) h.lt hg).trans (h i hi)
theorem FLaid.range {w : World} (h : FLaid w) : w.rangeAt 0 0 (U32 FZ) := fun j v hv => by
  have hj : j < 8 := by have := List.getElem?_eq_some_iff.1 hv; obtain ⟨hh, -⟩ := this; simpa [FZ_length] using hh
  rw [Nat.zero_add, h j hj, ← hv, U32_at FZ j hj]

theorem Tryd.szD : (Tryd.prog.info? 55).map (·.size) = some 73 := by kernel_rfl
theorem sz8F : (Tryd.prog.info? 51).map (·.size) = some (U32 FZ).length := Tryd.sz8w
theorem Dg.new {w : World} {g : Nat} (h : Arr w g 55 (digL FZ (List.replicate 64 0) 0)) : Dg w g [] :=
  ⟨FZ, List.replicate 64 0, ⟨h, rfl, by simp, FZ_isW, fun x hx => by have := List.eq_of_mem_replicate hx; omega⟩, rfl, rfl, fun x hx => by simp at hx⟩

set_option maxHeartbeats 1000000 in
set_option maxRecDepth 100000 in
theorem new_any (w : World) (hF : FLaid w) :
    Calls Tryd.prog 8 #[] w fun e w' => e = .returned (.pointer (some ⟨w.heap.size, 0, none⟩)) ∧ Dg w' w.heap.size [] ∧ Below w.heap.size w w' := by
  go_enter Tryd.func8, Tryd.ntmps8
  go_wp2_with (first
    | refine wpList_load_mid rfl 51 (.global 0) rfl _ _ rfl _ _ hF.range Tryd.underlying51 rfl sz8F ?_
    | refine wpList_build_to rfl 55 _ rfl (digL FZ (List.replicate 64 0) 0).toArray (by kernel_rfl) ?_)
  go_ret
  exact ⟨rfl, Dg.new (Arr.new _ _ _), (Below.refl _ _).alloc (Nat.le_refl _) _⟩

theorem zeroD : (Tryd.prog.info? 55).map (fun i => (i.zero, i.size)) = some (some (.agg (digL (List.replicate 8 0) (List.replicate 64 0) 0).toArray), 73) := by kernel_rfl

set_option maxHeartbeats 1000000 in
set_option maxRecDepth 100000 in
theorem clone_any (g : Nat) (M : List Int) (w : World) (hD : Dg w g M) :
    Calls Tryd.prog 24 #[.pointer (some ⟨g, 0, none⟩)] w fun e w' => e = .returned (.pointer (some ⟨w.heap.size, 0, none⟩)) ∧ Dg w' w.heap.size M ∧ Below w.heap.size w w' := by
  obtain ⟨st, held, hR, hrest⟩ := hD
  obtain ⟨L, hL⟩ : ∃ L, L = digL st held ((M.length : Int) % 18446744073709551616) := ⟨_, rfl⟩
  have hLl : L.length = 73 := by rw [hL]; exact digL_length hR.stl hR.hdl
  have hA := hR.arr
  rw [← hL] at hA
  have hone : ∀ v ∈ L, v.oneCell' = true := by
    rw [hL]
    intro v hv
    simp only [digL, List.mem_append, List.mem_singleton] at hv
    rcases hv with h | h | rfl
    · exact U32_one _ v h
    · exact U8_one _ v h
    · rfl
  have hz : (Tryd.prog.info? 55).map (·.size) = some L.toArray.size := by rw [Tryd.szD]; simp [hLl]
  obtain ⟨Z, hZ⟩ : ∃ Z : List Value, Z = digL (List.replicate 8 0) (List.replicate 64 0) 0 := ⟨_, rfl⟩
  have hZl : Z.toArray.size = L.toArray.size := by rw [hZ]; simp [hLl, digL]
  have hzv : ∀ w, (zeroValue 55).run Tryd.prog w = .ok (.agg Z.toArray) w := by rw [hZ]; exact (zero_of_info zeroD).1
  have HL := hide hL
  have HR := hide hR
  clear hL hLl hR hZ
  go_enter Tryd.func24, Tryd.ntmps24
  go_wp2_with (first
    | refine wpList_load_row rfl 55 (.tmp 5) rfl g rfl 55 _ (0, 0) _ hA Tryd.underlying55 rfl hz ?_
    | (refine wpList_store_row rfl 55 (.tmp 3) (.tmp 6) rfl w.heap.size _ rfl rfl 55 _ (heap_alloc_last w _) hz hZl (all_one hone) ?_; rw [World.setRow_alloc_new]))
  go_ret
  have hR := unhide HR
  refine ⟨rfl, ⟨st, held, ⟨?_, hR.stl, hR.hdl, hR.stW, hR.hdB⟩, hrest⟩, (Below.refl _ _).alloc (Nat.le_refl _) _⟩
  rw [← unhide HL]
  exact Arr.new _ _ _

end Go.Proofs.YteijlppmgkdieaaDoor

namespace Go.Proofs.YteijlppmgkdieaaDoor
open Go.RowKit

/-! The hash of a message. -/
def be4 (x : Int) : List Int := (leB 4 x).reverse
@[simp] theorem be4_length (x : Int) : (be4 x).length = 4 := by simp [be4]
def wordsB : List Int → List Int
  | [] => []
  | x :: l => be4 x ++ wordsB l
theorem wordsB_length : ∀ l : List Int, (wordsB l).length = 4 * l.length
  | [] => rfl
  | x :: l => by simp [wordsB, wordsB_length l]; omega
theorem wordsB_append : ∀ a b : List Int, wordsB (a ++ b) = wordsB a ++ wordsB b
  | [], b => rfl
  | x :: a, b => by simp [wordsB, wordsB_append a b]
theorem wordsB_isB : ∀ l : List Int, IsB (wordsB l)
  | [] => fun x hx => by simp [wordsB] at hx
  | y :: l => fun x hx => by
    simp only [wordsB, List.mem_append] at hx
    rcases hx with h | h
    · exact leB_isB 4 y x (List.mem_reverse.1 h)
    · exact wordsB_isB l x h
/-- the bytes of the first i words, then zeros -/
def sumTo (st : List Int) (i : Nat) : List Int := wordsB (st.take i) ++ List.replicate (32 - 4 * i) 0
theorem sumTo_length (st : List Int) (i : Nat) (h : st.length = 8) (hi : i ≤ 8) : (sumTo st i).length = 32 := by
  simp [sumTo, wordsB_length, h]; omega
theorem sumTo_zero (st : List Int) : sumTo st 0 = List.replicate 32 0 := rfl
theorem sumTo_all (st : List Int) (h : st.length = 8) : sumTo st 8 = wordsB st := by
  simp [sumTo, List.take_of_length_le (by omega : st.length ≤ 8)]
theorem sumTo_step (st : List Int) (i : Nat) (h : st.length = 8) (hi : i < 8) : splice (U8 (sumTo st i)) (4 * i) (U8 (be4 (st.getD i 0))) = U8 (sumTo st (i + 1)) := by
  have hl : (wordsB (st.take i)).length = 4 * i := by rw [wordsB_length]; simp [h]; omega
  have e : splice (sumTo st i) (4 * i) (be4 (st.getD i 0)) = sumTo st (i + 1) := by
    have hg : st.getD i 0 = st[i] := by simp [h, hi]
    unfold splice sumTo
    rw [List.take_append_of_le_length (by omega), List.take_of_length_le (by omega), be4_length, List.drop_append, List.drop_eq_nil_of_le (by omega), List.nil_append, hl, List.drop_replicate,
      List.take_succ_eq_append_getElem (by omega), wordsB_append, hg]
    simp [wordsB]
    omega
  rw [← e]
  simp [splice, U8, List.map_take, List.map_drop]
/-- P2.4 -/
def sumZ (M : List Int) : List Int := wordsB (led FZ (M ++ padZ M.length) ((M ++ padZ M.length).length / 64))
theorem sumZ_length (M : List Int) : (sumZ M).length = 32 := by rw [sumZ, wordsB_length, led_length _ _ rfl]
theorem sumZ_isB (M : List Int) : IsB (sumZ M) := wordsB_isB _
theorem padZ_mod (m : Nat) : padZ (m % 18446744073709551616) = padZ m := by
  have h1 : m % 18446744073709551616 % 64 = m % 64 := Nat.mod_mod_of_dvd m (by decide)
  have e1 : padLen (m % 18446744073709551616) = padLen m := by unfold padLen; rw [h1]
  have e2 : padB (m % 18446744073709551616) = padB m := by
    unfold padB
    congr 2
    omega
  unfold padZ; rw [e1, e2]
end Go.Proofs.YteijlppmgkdieaaDoor

namespace Go.Proofs.YteijlppmgkdieaaDoor
open Go.RowKit

theorem Tryd.szH : (Tryd.prog.info? 28).map (·.size) = some 32 := by kernel_rfl
theorem be4_src (x : Int) (g : Nat) (w : World) (h : Arr w g 5 (U8 (leB 4 x).reverse)) : ∀ j v, (U8 (be4 x))[j]? = some v → w.cell? ((⟨g, 0, none⟩ : Addr).add j) = some v := by
  intro j v hv
  rw [addr_add, Nat.zero_add, h.cell]; exact hv

theorem Z32 : (#[Value.int .u8 0, .int .u8 0, .int .u8 0, .int .u8 0, .int .u8 0, .int .u8 0, .int .u8 0, .int .u8 0, .int .u8 0, .int .u8 0, .int .u8 0, .int .u8 0, .int .u8 0, .int .u8 0, .int .u8 0, .int .u8 0, .int .u8 0, .int .u8 0, .int .u8 0, .int .u8 0, .int .u8 0, .int .u8 0, .int .u8 0, .int .u8 0, .int .u8 0, .int .u8 0, .int .u8 0, .int .u8 0, .int .u8 0, .int .u8 0, .int .u8 0, .int .u8 0] : Array Value) = (U8 (List.replicate 32 0)).toArray := rfl

set_option maxHeartbeats 2000000 in
set_option maxRecDepth 100000 in
theorem digSum_any (g : Nat) (M : List Int) (w : World) (hD : Dg w g M) (hK : KLaid w) :
    Calls Tryd.prog 10 #[.pointer (some ⟨g, 0, none⟩)] w fun e w' => e = .returned (.agg (U8 (sumZ M)).toArray) ∧ Below w.heap.size w w' := by
  obtain ⟨W, hW, hA, hbW, hsW⟩ := arr1 w 28 (U8 (List.replicate 32 0))
  have HW := hide hW
  have hsW1 : w.heap.size < W.heap.size := by omega
  clear hW hsW
  have hD1 := hD.later hbW
  have hK1 := hK.later hbW
  go_enter Tryd.func10, Tryd.ntmps10
  go_wp2_with fail
  rw [Z32, ← unhide HW]
  clear HW hD
  refine (clone_any g M W hD1).mono ?_
  rintro e w1 ⟨rfl, hDc, hb1⟩
  obtain ⟨N, hN⟩ : ∃ N : Nat, (M.length : Int) % 18446744073709551616 = N := ⟨M.length % 18446744073709551616, by omega⟩
  have hNM : N = M.length % 18446744073709551616 := by omega
  have cn : w1.cell? ⟨g, 72, none⟩ = some (.int .u64 N) := by
    obtain ⟨st, held, hR, -⟩ := hD1.later hb1
    rw [← hN]; exact hR.cellN
  have hK2 := hK1.later hb1
  have hs1 := hb1.size
  have hltg := hDc.lt
  have HNM := hide hNM
  clear hN hNM hD1
  go_wp2_with fail
  refine (pad_any N w1).mono ?_
  rintro e w2 ⟨rfl, hAp, hb2⟩
  clear cn
  have hK3 := hK2.later hb2
  have hgk : 1 ≠ W.heap.size := by have := hK1.lt; omega
  have hDc2 := hDc.later hb2
  have hpl := padLen_bd N
  go_wp2_with fail
  refine (write_any W.heap.size M (padZ N) (some ⟨w1.heap.size, 0, none⟩) (padLen N) (padLen N) w2 hDc2 hK3 hgk (padZ_length N) (padZ_isB N) hAp.lies (by rintro - x hx; simp only [Option.some.injEq] at hx; subst hx; show w1.heap.size ≠ W.heap.size; omega) (Nat.le_refl _) (by unfold maxLen; omega)).mono ?_
  rintro e w3 ⟨rfl, hDw, hbut⟩
  have hb3 : Below (w.heap.size + 1) W w3 := ((hb1.mono (by omega)).trans (hb2.mono (by omega))).trans (hbut.below (by have := hb2.size; omega) (by omega))
  rw [unhide HNM, padZ_mod] at hDw
  obtain ⟨st, held, hR, hst, -⟩ := hDw
  have hsum : wordsB st = sumZ M := by unfold sumZ; rw [hst]
  have HSUM := hide hsum
  have hltc := hR.arr.lt
  have hs3 : w.heap.size + 1 ≤ w3.heap.size := by have := hb3.size; omega
  have HSZ := hide (show w.heap.size + 1 ≤ W.heap.size by omega)
  have HA := hide hA
  have HBW := hide hbW
  clear hst hsum hAp hDc hDc2 hK3 hK2 hbut hb2 hb1 hA hbW hK1 hpl
  have hz8 : (Tryd.prog.info? 51).map (·.size) = some (U32 st).length := by rw [Tryd.sz8w]; simp [hR.stl]
  generalize ((M ++ padZ M.length).length : Int) % 18446744073709551616 = n at hR
  generalize W.heap.size = gc at hsW1 hs1 hltg hgk hltc hR ⊢
  go_wp2_with (refine wpList_load_mid rfl 51 (.tmp 18) rfl _ _ rfl _ _ (World.rangeAt_alloc hR.rangeS _) Tryd.underlying51 rfl hz8 ?_)
  rw [Z32]
  obtain ⟨W4, hW4, hS4, hb4, -⟩ := arr1 w3 28 (U8 (List.replicate 32 0))
  rw [← hW4]
  have hb5 : Below (w.heap.size + 1) W W4 := hb3.trans (hb4.mono (by omega))
  have hstl := hide hR.stl
  have hstW := hR.stW
  clear hW4 hb4 hb3 hR hltc hz8 hltg hs1
  generalize w3.heap.size = gs at *
  go_loopw [20] (fun i wr => ∃ j : Nat, j ≤ 8 ∧ i = .int .i64 j ∧ Arr wr gs 28 (U8 (sumTo st j)) ∧ Below (w.heap.size + 1) W wr) (fun i _ => 8 - (intOf i).toNat)
  case atStart => exact ⟨0, by omega, rfl, by rw [sumTo_zero]; exact hS4, hb5⟩
  case round =>
    clear hS4 hb5
    obtain ⟨j, hj, rfl, hS, hbl⟩ := hrel
    by_cases hjl : j < 8
    · have tj : (U32 st).toArray[j]? = some (.int .u32 (st.getD j 0)) := by
        have := U32_at st j (by rw [unhide hstl]; exact hjl)
        simpa using this
      have bx := hstW.at j
      have hstep := hide (sumTo_step st j (unhide hstl) hjl)
      have hslen := hide (sumTo_length st j (unhide hstl) (by omega))
      generalize st.getD j 0 = x at tj bx hstep
      obtain ⟨bx0, bx1⟩ := bx
      have hix := run_index8 st j wr x hjl tj
      have q0 : (0 : Int) ≤ 4 * (j : Int) := by omega
      have q1 : 4 * (j : Int) ≤ 32 := by omega
      have q2 : IntKind.i64.wrap (4 * (j : Int)) = ((4 * j : Nat) : Int) := by rw [IntKind.wrap_i64]; omega
      have q3 : ((4 * j : Nat) : Int) ≤ 32 := by omega
      have q4 : ¬ 4 * j = 32 := by omega
      have q5 : ¬ 32 = 4 * j := by omega
      obtain ⟨m, hm⟩ : ∃ m, 4 * j = m := ⟨_, rfl⟩
      rw [hm] at q2 q3 q4 q5 hstep
      have q6 : m + 4 ≤ 32 := by omega
      have HM := hide hm
      clear hm tj q0 q1
      go_wp2_with fail
      go_region_held3 (fun _ => True) (trivial)
        (first
          | (go_at_call 26
             refine (storebe32_any x _ bx0).mono ?_
             rintro e w6 ⟨rfl, hown6, hb6⟩
             have hS6 := hide (Arr.later (w := wr.drew) hS hb6)
             have hB6 := hide (hbl.trans ((show Below wr.heap.size wr w6 from ⟨hb6.os, hb6.tape, hb6.output, hb6.size, hb6.block⟩).mono (Nat.le_trans (unhide HSZ) hbl.size)))
             have hs6 := hide (be4_src x wr.heap.size w6 (own_arr hown6))
             clear hown6 hb6)
          | (refine step_copy_splice rfl (.tmp 26) (.tmp 28) 31 31 rfl 5 Tryd.underlying31 Tryd.sz1u _ _ _ _ _ _ rfl rfl gs m (U8 (sumTo st j)) 28 (unhide hS6) (U8 (be4 x)) (by rw [U8_length, be4_length]; exact (Nat.min_eq_left (by omega)).symm) (fun _ => ⟨rfl, _, rfl, unhide hs6⟩) (by rw [U8_length, U8_length, be4_length, unhide hslen]; omega) (U8_one _) (w.heap.size + 1) W (unhide hB6) (by omega) ?_
             intro w7 hg7 hb7))
      go_wp2
      go_roundw
      case rel =>
        refine ⟨j + 1, by omega, by go_num, ?_, hb7⟩
        have hg := unhide hg7
        rw [unhide hstep] at hg
        exact hg
      case measure => simp [intOf]; omega
    · have e8 : j = 8 := by omega
      have hS8 : Arr wr gs 28 (U8 (sumZ M)) := by
        rw [e8, sumTo_all st (unhide hstl), unhide HSUM] at hS; exact hS
      have hA : Arr wr w.heap.size 28 (U8 (List.replicate 32 0)) := (unhide HA).below hbl (by omega)
      have hlen := sumZ_length M
      clear e8 hS
      generalize hRR : sumZ M = R at hS8 hlen
      have HRR := hide hRR
      clear hRR
      have hzr : (Tryd.prog.info? 28).map (·.size) = some (U8 R).toArray.size := by rw [Tryd.szH]; simp [hlen]
      have hzo : (U8 (List.replicate 32 0)).toArray.size = (U8 R).toArray.size := by simp [hlen]
      clear hlen
      go_wp2_with (first
        | refine wpList_load_row rfl 28 (.tmp 4) rfl gs rfl 28 _ (0, 0) _ hS8 Tryd.underlying28 rfl hzr ?_
        | refine wpList_store_row rfl 28 (.tmp 2) (.tmp 31) rfl w.heap.size _ rfl rfl 28 _ hA hzr hzo (all_one (U8_one _)) ?_)
      refine bodyPost_ret (results_cell_row rfl _ _ w.heap.size 28 _ (0, 0) _ rfl (Arr.setRow hA (U8 R)) Tryd.underlying28 rfl hzr) rfl ?_
      refine ⟨by rw [unhide HRR], below_setRow ((unhide HBW).trans (hbl.mono (by omega))) (Nat.le_refl _) _⟩

set_option maxHeartbeats 2000000 in
set_option maxRecDepth 100000 in
theorem sum_any (l : List Int) (a : Option Addr) (len cap : Nat) (w : World) (hK : KLaid w) (hF : FLaid w)
    (hl : l.length = len) (hB : IsB l) (hlies : Lies w a l) (hlt : 0 < l.length → ∀ x, a = some x → x.block < w.heap.size) (h2 : len ≤ cap) (h3 : cap ≤ maxLen) :
    Calls Tryd.prog 58 #[.slice a len cap] w fun e w' => e = .returned (.agg (U8 (sumZ l)).toArray) ∧ Below w.heap.size w w' := by
  obtain ⟨W, hW, hA, hbW, hsW⟩ := arr1 w 28 (U8 (List.replicate 32 0))
  have HW := hide hW
  have hsW1 : w.heap.size < W.heap.size := by omega
  have HL := hide hl
  clear hW hsW hl
  have hK1 := hK.later hbW
  have hF1 := hF.later hbW
  have hl1 := hlies.later hbW
  go_enter Tryd.func58, Tryd.ntmps58
  go_wp2_with fail
  rw [Z32, ← unhide HW]
  refine (new_any W hF1).mono ?_
  rintro e w1 ⟨rfl, hD1, hb1⟩
  have hgk : 1 ≠ W.heap.size := by have := hK1.lt; omega
  have hs1 := hb1.size
  go_wp2_with fail
  refine (write_any W.heap.size [] l a len cap w1 hD1 (hK1.later hb1) hgk (unhide HL) hB (hl1.later hb1) (fun hp x hx => by have := hlt hp x hx; omega) h2 h3).mono ?_
  rintro e w2 ⟨rfl, hD2, hbut⟩
  have hb2 : Below (w.heap.size + 1) W w2 := (hb1.mono (by omega)).trans (hbut.below (by omega) (by omega))
  have hK2 : KLaid w2 := (hK1.later hb1).but hbut hgk
  go_wp2_with fail
  refine (digSum_any W.heap.size ([] ++ l) w2 hD2 hK2).mono ?_
  rintro e w3 ⟨rfl, hb3⟩
  rw [List.nil_append]
  have hb4 : Below (w.heap.size + 1) W w3 := hb2.trans (hb3.mono (by have := hb2.size; omega))
  have hA4 := hA.below hb4 (by omega)
  have hlen := sumZ_length l
  generalize hRR : sumZ l = R at hlen
  have HRR := hide hRR
  clear hRR
  have hzr : (Tryd.prog.info? 28).map (·.size) = some (U8 R).toArray.size := by rw [Tryd.szH]; simp [hlen]
  have hzo : (U8 (List.replicate 32 0)).toArray.size = (U8 R).toArray.size := by simp [hlen]
  clear hlen
  go_wp2_with (refine wpList_store_row rfl 28 (.tmp 2) (.tmp 9) rfl w.heap.size _ rfl rfl 28 _ hA4 hzr hzo (all_one (U8_one _)) ?_)
  refine bodyPost_ret (results_cell_row rfl _ _ w.heap.size 28 _ (0, 0) _ rfl (Arr.setRow hA4 (U8 R)) Tryd.underlying28 rfl hzr) rfl ?_
  exact ⟨by rw [unhide HRR], below_setRow (hbW.trans (hb4.mono (by omega))) (Nat.le_refl _) _⟩
end Go.Proofs.YteijlppmgkdieaaDoor
