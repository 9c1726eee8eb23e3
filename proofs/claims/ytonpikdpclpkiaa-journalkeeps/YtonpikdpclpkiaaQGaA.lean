import Derived.Test.YtonpikdpclpkiaaQFlM
import Derived.Deep.QuietTactic
import Derived.BigQuiet
import Derived.Deep.RegionHeld3
import Derived.Deep.RegionLaw
import Derived.Lib.SliceRun
namespace Go.Proofs.Ytonpikdpclpkiaa
open Go.RowKit

set_option maxHeartbeats 1000000 in
set_option maxRecDepth 100000 in
theorem beginning_any (d : Sl) (n : Nat) (w : World) (hd : d.Ok w) (hn : n ≤ 1048576) :
    Calls Try.prog 31 #[d.v, .int .i64 n] w (BPost (d.l.take n) w) := by
  obtain ⟨i0, hi, hz0, hz1, hz2⟩ := info_parts Try.infoB
  obtain ⟨da, dn, dc, dl⟩ := d
  have hlen : dl.length = dn := hd.len
  have hm : dn ≤ 9223372036854775807 := by have := hd.le; have := hd.mx; unfold maxLen at this; simp only at *; omega
  simp only [Sl.v]
  have HD := hide hd
  clear hd
  by_cases h : n < dn
  · have hbs : i0.bytes * n ≤ 281474976710656 := by rw [hz2]; omega
    have hmx : n ≤ maxLen := by unfold maxLen; omega
    obtain ⟨T, hT⟩ : ∃ T, T = dl.take n := ⟨_, rfl⟩
    rw [← hT]
    have HT := hide hT
    have HC : Hid (dl.take n = T) := hide (by rw [hT]; skip)
    clear hT
    obtain ⟨X, hX⟩ : ∃ X, X = U8 (dl.take n) := ⟨_, rfl⟩
    have hkl : (dl.take n).length = n := by rw [List.length_take]; omega
    have HKL := hide hkl
    have HMN : Hid (X.length = Nat.min dn n) := hide (by rw [hX, U8_length, hkl]; exact (Nat.min_eq_right (by omega)).symm)
    have HXl : Hid (X.length = n) := hide (by rw [hX, U8_length, hkl])
    have HX1 : Hid (∀ v ∈ X, v.oneCell' = true) := hide (by rw [hX]; exact U8_one _)
    have HX := hide hX
    clear hkl hX
    go_enter Try.func31, Try.ntmps31
    go_wp2_with (first
      | (at_make; refine wpList_make_full _ rfl _ _ 22 rfl 0 5 i0 (.int .u8 0) 1 Try.underlying22 hi hz0 hz1 .i64 .i64 n n n rfl rfl rfl rfl hbs hmx (Nat.zero_le _) ?_
         intro w1 hown hgrow
         have hb1 : Hid (Below w.heap.size w w1) := hide ((Below.refl _ _).grown hgrow (Nat.le_refl _) (fun _ h => by cases h))
         have hA1 : Hid (Arr w1 w.heap.size 5 (U8 (List.replicate n 0))) := hide (own_arr (by rw [made_U8] at hown; exact hown))
         have hsz1 : Hid (w.heap.size < w1.heap.size) := hide ((unhide hA1).lt)
         have hs1 : Hid (0 < X.length → ∃ ad, da = some ad ∧ ∀ j v, X[j]? = some v → w1.cell? (ad.add j) = some v) := hide (fun h => by
            have hd1 := (unhide HD).later (unhide hb1)
            obtain ⟨bk, off, e1, -, -⟩ := hd1.lies (by simp only; have := unhide HXl; omega)
            have e2 : da = some ⟨bk, off, none⟩ := e1
            exact ⟨_, e2, fun j v hv => hd1.cells _ e2 j v (by rw [unhide HX] at hv; simp only [U8] at hv ⊢; rw [List.map_take, List.getElem?_take] at hv; split at hv; exact hv; cases hv)⟩)
         clear hown hgrow)
      | (refine wpList_copy_but rfl (.tmp 11) (.tmp 12) 22 22 rfl 5 Try.underlying22 Try.sz1b _ _ _ _ _ _ rfl rfl w.heap.size 0 (U8 (List.replicate n 0)) 5 (unhide hA1) X (unhide HMN) (fun h => ⟨rfl, unhide hs1 h⟩) (by rw [U8_length, unhide HXl, List.length_replicate]; omega) (unhide HX1) ?_
         intro w2 hA2 hB2))
    go_ret
    have hb2 : Below w.heap.size w w2 := (unhide hb1).trans ((unhide hB2).below (Nat.le_of_lt (unhide hsz1)) (Nat.le_refl _))
    have e3 : splice (U8 (List.replicate n 0)) 0 X = U8 T := by
      rw [← unhide HC, unhide HX]; simp only [splice, List.take_zero, List.nil_append, Nat.zero_add, U8_length]; rw [unhide HKL, List.drop_of_length_le (by simp), List.append_nil]
    have hA3 := unhide hA2
    rw [e3] at hA3
    have hl3 : T.length = n := by rw [← unhide HC]; exact unhide HKL
    refine ⟨_, rfl, ⟨?_, fun x hx => (unhide HD).isB x (List.mem_of_mem_take (by rw [unhide HT] at hx; exact hx))⟩, fun g hg => by simp [Value.ownBlock] at hg; omega, hb2⟩
    show w2.ownsRow 0 5 1 (.slice (some ⟨w.heap.size, 0, none⟩) n n) T.length (U8 T)
    rw [hl3]
    exact ⟨by rw [U8_length, hl3, Nat.mul_one], .inr ⟨w.heap.size, n, _, rfl, Nat.zero_le _, hA3, Nat.le_refl _, hmx, by simp [U8_length, hl3], by rw [Nat.mul_one]; exact List.take_of_length_le (by simp [U8_length]; omega)⟩⟩
  · have hbs : i0.bytes * dn ≤ 281474976710656 := by rw [hz2]; omega
    have hmx : dn ≤ maxLen := by unfold maxLen; omega
    obtain ⟨T, hT⟩ : ∃ T, T = dl.take n := ⟨_, rfl⟩
    rw [← hT]
    have HT := hide hT
    have HC : Hid (dl.take dn = T) := hide (by rw [hT]; rw [List.take_of_length_le (by omega), List.take_of_length_le (by omega)])
    clear hT
    obtain ⟨X, hX⟩ : ∃ X, X = U8 (dl.take dn) := ⟨_, rfl⟩
    have hkl : (dl.take dn).length = dn := by rw [List.length_take]; omega
    have HKL := hide hkl
    have HMN : Hid (X.length = Nat.min dn dn) := hide (by rw [hX, U8_length, hkl]; exact (Nat.min_self _).symm)
    have HXl : Hid (X.length = dn) := hide (by rw [hX, U8_length, hkl])
    have HX1 : Hid (∀ v ∈ X, v.oneCell' = true) := hide (by rw [hX]; exact U8_one _)
    have HX := hide hX
    clear hkl hX
    go_enter Try.func31, Try.ntmps31
    go_wp2_with (first
      | (at_make; refine wpList_make_full _ rfl _ _ 22 rfl 0 5 i0 (.int .u8 0) 1 Try.underlying22 hi hz0 hz1 .i64 .i64 dn dn dn rfl rfl rfl rfl hbs hmx (Nat.zero_le _) ?_
         intro w1 hown hgrow
         have hb1 : Hid (Below w.heap.size w w1) := hide ((Below.refl _ _).grown hgrow (Nat.le_refl _) (fun _ h => by cases h))
         have hA1 : Hid (Arr w1 w.heap.size 5 (U8 (List.replicate dn 0))) := hide (own_arr (by rw [made_U8] at hown; exact hown))
         have hsz1 : Hid (w.heap.size < w1.heap.size) := hide ((unhide hA1).lt)
         have hs1 : Hid (0 < X.length → ∃ ad, da = some ad ∧ ∀ j v, X[j]? = some v → w1.cell? (ad.add j) = some v) := hide (fun h => by
            have hd1 := (unhide HD).later (unhide hb1)
            obtain ⟨bk, off, e1, -, -⟩ := hd1.lies (by simp only; have := unhide HXl; omega)
            have e2 : da = some ⟨bk, off, none⟩ := e1
            exact ⟨_, e2, fun j v hv => hd1.cells _ e2 j v (by rw [unhide HX] at hv; simp only [U8] at hv ⊢; rw [List.map_take, List.getElem?_take] at hv; split at hv; exact hv; cases hv)⟩)
         clear hown hgrow)
      | (refine wpList_copy_but rfl (.tmp 11) (.tmp 12) 22 22 rfl 5 Try.underlying22 Try.sz1b _ _ _ _ _ _ rfl rfl w.heap.size 0 (U8 (List.replicate dn 0)) 5 (unhide hA1) X (unhide HMN) (fun h => ⟨rfl, unhide hs1 h⟩) (by rw [U8_length, unhide HXl, List.length_replicate]; omega) (unhide HX1) ?_
         intro w2 hA2 hB2))
    go_ret
    have hb2 : Below w.heap.size w w2 := (unhide hb1).trans ((unhide hB2).below (Nat.le_of_lt (unhide hsz1)) (Nat.le_refl _))
    have e3 : splice (U8 (List.replicate dn 0)) 0 X = U8 T := by
      rw [← unhide HC, unhide HX]; simp only [splice, List.take_zero, List.nil_append, Nat.zero_add, U8_length]; rw [unhide HKL, List.drop_of_length_le (by simp), List.append_nil]
    have hA3 := unhide hA2
    rw [e3] at hA3
    have hl3 : T.length = dn := by rw [← unhide HC]; exact unhide HKL
    refine ⟨_, rfl, ⟨?_, fun x hx => (unhide HD).isB x (List.mem_of_mem_take (by rw [unhide HT] at hx; exact hx))⟩, fun g hg => by simp [Value.ownBlock] at hg; omega, hb2⟩
    show w2.ownsRow 0 5 1 (.slice (some ⟨w.heap.size, 0, none⟩) dn dn) T.length (U8 T)
    rw [hl3]
    exact ⟨by rw [U8_length, hl3, Nat.mul_one], .inr ⟨w.heap.size, dn, _, rfl, Nat.zero_le _, hA3, Nat.le_refl _, hmx, by simp [U8_length, hl3], by rw [Nat.mul_one]; exact List.take_of_length_le (by simp [U8_length]; omega)⟩⟩
end Go.Proofs.Ytonpikdpclpkiaa

namespace Go.Proofs.Ytonpikdpclpkiaa
open Go.RowKit

def szZ (z : Int) : Nat := (min (max z 0) 1048576).toNat
theorem szZ_le (z : Int) : szZ z ≤ 1048576 := by unfold szZ; omega
def fsLoad (z : Int) (a b : List Int) : FlS := ⟨szZ z, a.take (szZ z), b.take (szZ z), [], false, 0⟩
/-- a flash in new memory -/
def NPost (s : FlS) (w : World) (e : Ending) (w' : World) : Prop :=
  ∃ p S, e = .returned (.pointer (some ⟨p, 0, none⟩)) ∧ Fl w' p S s ∧ (∀ k, S k → w.heap.size ≤ k) ∧ Below w.heap.size w w'

theorem below_one (w : World) (o : Obj) : Below w.heap.size w (w.alloc o) := (Below.refl _ _).alloc (Nat.le_refl _) _
theorem load_box {w w2 w3 : World} {v0 v1 : Value} {l0 l1 : List Int} {n : Nat} (hn : n ≤ 1048576) (h0 : OwB w2 v0 l0) (a0 : ∀ k, v0.ownBlock = some k → w.heap.size ≤ k) (b2 : Below w.heap.size w w2) (h1 : OwB w3 v1 l1) (a1 : ∀ k, v1.ownBlock = some k → w2.heap.size ≤ k) (b3 : Below w2.heap.size w2 w3) (z0 : l0.length ≤ n) (z1 : l1.length ≤ n) (k : Nat) :
    NPost ⟨n, l0, l1, [], false, 0⟩ w (.returned (.pointer (some ⟨w3.heap.size, 0, none⟩))) ((w3.drewN k).alloc (.cells #[.int .i64 n, v0, v1, .slice none 0 0, .bool false, .int .i64 0] 73)) := by
  have hb : Below w3.heap.size w3 ((w3.drewN k).alloc (.cells #[.int .i64 n, v0, v1, .slice none 0 0, .bool false, .int .i64 0] 73)) := (below_drewN (Below.refl _ w3) k).alloc (Nat.le_refl _) _
  have h23 := b3.size
  have h12 := b2.size
  refine ⟨_, FSet w3.heap.size v0 v1 (.slice none 0 0), rfl, ⟨v0, v1, .slice none 0 0, ⟨Arr.new (w3.drewN k) _ [.int .i64 n, v0, v1, .slice none 0 0, .bool false, .int .i64 0], ((h0.later b3).later hb).1, (h1.later hb).1, World.ownsRow_nil _ _ _ _, ?_, ⟨h0.2, h1.2, z0, z1, hn, by simp, by simp⟩⟩, rfl⟩, ?_, ?_⟩
  · intro g hg hg'
    have := h0.lt g hg
    have := a1 g hg'
    omega
  · rintro g (rfl | hg | hg | hg)
    · omega
    · exact a0 g hg
    · have := a1 g hg; omega
    · simp [Value.ownBlock] at hg
  · exact (b2.trans (b3.mono (by omega))).trans (hb.mono (by omega))
set_option maxHeartbeats 1000000 in
set_option maxRecDepth 100000 in
theorem load_any (z : Int) (d1 d2 : Sl) (w : World) (h1 : d1.Ok w) (h2 : d2.Ok w) :
    Calls Try.prog 7 #[.int .i64 z, d1.v, d2.v] w (NPost (fsLoad z d1.l d2.l) w) := by
  obtain ⟨n, hn⟩ : ∃ n, n = szZ z := ⟨_, rfl⟩
  have hn1 : n ≤ 1048576 := by rw [hn]; exact szZ_le z
  have hB := beginning_any d1 n w h1 hn1
  have HL : Hid (fsLoad z d1.l d2.l = ⟨n, d1.l.take n, d2.l.take n, [], false, 0⟩) := hide (by unfold fsLoad; rw [hn])
  rw [unhide HL]
  have H2 := hide h2
  obtain ⟨T1, hT1⟩ : ∃ T, T = d1.l.take n := ⟨_, rfl⟩
  obtain ⟨T2, hT2⟩ : ∃ T, T = d2.l.take n := ⟨_, rfl⟩
  have hz1 : Hid (T1.length ≤ n) := hide (by rw [hT1, List.length_take]; omega)
  have hz2 : Hid (T2.length ≤ n) := hide (by rw [hT2, List.length_take]; omega)
  rw [← hT1, ← hT2]
  rw [← hT1] at hB
  have HT2 := hide hT2
  clear hT1 hT2 HL h2 h1
  have hm : (n : Int) = if 1048576 < z then 1048576 else if z < 0 then 0 else z := by
    rw [hn]; unfold szZ; split
    · omega
    · split <;> omega
  have key : ∀ M : Int, M = (if 1048576 < z then 1048576 else if z < 0 then 0 else z) → (n : Int) = M := fun M h => by rw [h]; exact hm
  clear hm
  by_cases c1 : 1048576 < z
  · have e : (n : Int) = 1048576 := key _ (by rw [if_pos c1])
    rw [e] at hB
    clear key hn
    go_enter Try.func7, Try.ntmps7
    go_wp2_with (first
      | (go_at_call 31; refine hC.mono ?_; rintro e1 w3 ⟨u1, rfl, o1, a1, b3⟩; obtain ⟨x1, y1, rfl⟩ := own_parts o1.1; clear hC)
      | (go_at_call 31; refine hB.mono ?_; rintro e1 w2 ⟨u0, rfl, o0, a0, b2⟩; have hC := beginning_any d2 n w2 ((unhide H2).later b2) hn1; rw [e, ← unhide HT2] at hC; obtain ⟨x0, y0, rfl⟩ := own_parts o0.1; clear hB))
    go_ret
    have R := load_box hn1 o0 a0 b2 o1 a1 b3 (unhide hz1) (unhide hz2) 0
    rw [e] at R
    exact R
  by_cases c2 : z < 0
  · have e : (n : Int) = 0 := key _ (by rw [if_neg c1, if_pos c2])
    rw [e] at hB
    clear key hn
    go_enter Try.func7, Try.ntmps7
    go_wp2_with (first
      | (go_at_call 31; refine hC.mono ?_; rintro e1 w3 ⟨u1, rfl, o1, a1, b3⟩; obtain ⟨x1, y1, rfl⟩ := own_parts o1.1; clear hC)
      | (go_at_call 31; refine hB.mono ?_; rintro e1 w2 ⟨u0, rfl, o0, a0, b2⟩; have hC := beginning_any d2 n w2 ((unhide H2).later b2) hn1; rw [e, ← unhide HT2] at hC; obtain ⟨x0, y0, rfl⟩ := own_parts o0.1; clear hB))
    go_ret
    have R := load_box hn1 o0 a0 b2 o1 a1 b3 (unhide hz1) (unhide hz2) 0
    rw [e] at R
    exact R
  · have e : (n : Int) = z := key _ (by rw [if_neg c1, if_neg c2])
    rw [e] at hB
    clear key hn
    go_enter Try.func7, Try.ntmps7
    go_wp2_with (first
      | (go_at_call 31; refine hC.mono ?_; rintro e1 w3 ⟨u1, rfl, o1, a1, b3⟩; obtain ⟨x1, y1, rfl⟩ := own_parts o1.1; clear hC)
      | (go_at_call 31; refine hB.mono ?_; rintro e1 w2 ⟨u0, rfl, o0, a0, b2⟩; have hC := beginning_any d2 n w2 ((unhide H2).later b2) hn1; rw [e, ← unhide HT2] at hC; obtain ⟨x0, y0, rfl⟩ := own_parts o0.1; clear hB))
    go_ret
    have R := load_box hn1 o0 a0 b2 o1 a1 b3 (unhide hz1) (unhide hz2) 0
    rw [e] at R
    exact R

set_option maxHeartbeats 1000000 in
set_option maxRecDepth 100000 in
theorem new_any (z : Int) (w : World) : Calls Try.prog 16 #[.int .i64 z] w (NPost (fsLoad z [] []) w) := by
  have hN : Sl.Ok w ⟨none, 0, 0, []⟩ := ⟨rfl, Nat.le_refl _, by unfold maxLen; simp, fun _ => ⟨rfl, rfl⟩, fun x hx => by simp at hx, Lies.nil _ _⟩
  have hL := load_any z _ _ w hN hN
  simp only [Sl.v] at hL
  go_enter Try.func16, Try.ntmps16
  go_wp2_with (go_at_call 7; refine hL.mono ?_; rintro e w' ⟨p, S, rfl, h1, h2, h3⟩)
  go_ret
  exact ⟨p, S, rfl, h1, h2, h3⟩
theorem Fls.cs {w : World} {p : Nat} {v0 v1 qv : Value} {s : FlS} (h : Fls w p v0 v1 qv s) : w.cell? ⟨p, 0, none⟩ = some (.int .i64 s.size) ∧ w.cell? ⟨p, 1, none⟩ = some v0 ∧ w.cell? ⟨p, 2, none⟩ = some v1 ∧ w.cell? ⟨p, 3, none⟩ = some qv ∧ w.cell? ⟨p, 4, none⟩ = some (.bool s.down) ∧ w.cell? ⟨p, 5, none⟩ = some (.int .i64 s.wr) :=
  ⟨by simpa using h.arr.cell 0, by simpa using h.arr.cell 1, by simpa using h.arr.cell 2, by simpa using h.arr.cell 3, by simpa using h.arr.cell 4, by simpa using h.arr.cell 5⟩
set_option maxHeartbeats 1000000 in
set_option maxRecDepth 100000 in
theorem refuses_any (p : Nat) (S : Nat → Prop) (s : FlS) (bank : Int) (w : World) (h : Fl w p S s) :
    Calls Try.prog 120 #[.pointer (some ⟨p, 0, none⟩), .int .i64 bank] w fun e w' => e = .returned (.int .i64 (s.ref bank)) ∧ w' = w := by
  obtain ⟨v0, v1, qv, hf, rfl⟩ := h
  obtain ⟨-, -, -, -, c4, -⟩ := hf.cs
  clear hf
  obtain ⟨r, hr⟩ : ∃ r, r = s.ref bank := ⟨_, rfl⟩
  rw [← hr]
  have HR := hide hr
  clear hr
  obtain ⟨dn, hdn⟩ : ∃ d, d = s.down := ⟨_, rfl⟩
  rw [← hdn] at c4
  have HDN := hide hdn
  clear hdn
  by_cases b0 : bank < 0
  · go_enter Try.func120, Try.ntmps120
    go_wp2
    go_ret
    exact ⟨by rw [unhide HR]; unfold FlS.ref; rw [if_pos (.inl b0)]; rfl, rfl⟩
  by_cases b2 : 2 ≤ bank
  · go_enter Try.func120, Try.ntmps120
    go_wp2
    go_ret
    exact ⟨by rw [unhide HR]; unfold FlS.ref; rw [if_pos (.inr b2)]; rfl, rfl⟩
  cases dn
  · go_enter Try.func120, Try.ntmps120
    go_wp2
    go_ret
    exact ⟨by rw [unhide HR]; unfold FlS.ref; rw [if_neg (by omega), ← unhide HDN]; rfl, rfl⟩
  · go_enter Try.func120, Try.ntmps120
    go_wp2
    go_ret
    exact ⟨by rw [unhide HR]; unfold FlS.ref; rw [if_neg (by omega), ← unhide HDN]; rfl, rfl⟩
end Go.Proofs.Ytonpikdpclpkiaa

namespace Go.Proofs.Ytonpikdpclpkiaa
open Go.RowKit

theorem ok_drewN {w : World} {d : Sl} (h : d.Ok w) (k : Nat) : d.Ok (w.drewN k) := h.later (below_drewN (Below.refl _ _) k)
theorem below_undrewN {w w' : World} {k : Nat} (h : Below (w.drewN k).heap.size (w.drewN k) w') : Below w.heap.size w w' := ⟨h.os, h.tape, h.output, h.size, h.block⟩
theorem BPost.undrewN {l : List Int} {w w' : World} {e : Ending} {k : Nat} (h : BPost l (w.drewN k) e w') : BPost l w e w' := by
  obtain ⟨v, h1, h2, h3, h4⟩ := h
  exact ⟨v, h1, h2, h3, below_undrewN h4⟩

set_option maxHeartbeats 1000000 in
set_option maxRecDepth 100000 in
theorem room_0 (p : Nat) (S : Nat → Prop) (s : FlS) (w : World) (h : Fl w p S s) :
    Calls Try.prog 121 #[.pointer (some ⟨p, 0, none⟩), .int .i64 0] w fun e w' => e = .returned (.int .i64 (s.size - s.l0.length)) ∧ ∃ k, w' = w.drewN k := by
  obtain ⟨v0, v1, qv, hf, rfl⟩ := h
  obtain ⟨a0, b0, rfl⟩ := own_parts hf.o0
  obtain ⟨c0, c1, -, -, -, -⟩ := hf.cs
  have z0 := hf.ok.z0
  have mx := hf.ok.mx
  have e0 : (s.size : Int) - s.l0.length ≤ 9223372036854775807 := by omega
  clear hf
  go_enter Try.func121, Try.ntmps121
  go_wp2_with fail
  go_quiet (fail)
  go_wp2
  go_ret
  exact ⟨rfl, _, rfl⟩
set_option maxHeartbeats 1000000 in
set_option maxRecDepth 100000 in
theorem told_0 (p : Nat) (S : Nat → Prop) (s : FlS) (w : World) (h : Fl w p S s) :
    Calls Try.prog 57 #[.pointer (some ⟨p, 0, none⟩), .int .i64 0] w (BPost s.l0 w) := by
  obtain ⟨v0, v1, qv, hf, rfl⟩ := h
  obtain ⟨d, hd, hdo, hdl, hdn, -⟩ := OwB.sl ⟨hf.o0, hf.ok.b0⟩
  subst hd
  obtain ⟨c0, c1, -, -, -, -⟩ := hf.cs
  have HB : Hid (∀ k, Calls Try.prog 31 #[.slice d.a d.n d.c, .int .i64 s.size] (w.drewN k) (BPost s.l0 w)) := hide (fun k => by
    have hB := beginning_any d s.size (w.drewN k) (ok_drewN hdo k) hf.ok.mx
    rw [hdl, List.take_of_length_le hf.ok.z0] at hB
    exact hB.mono (fun e w' h => h.undrewN))
  have HA := hide hf.arr
  clear hf hdo hdl hdn
  simp only [Sl.v] at *
  go_enter Try.func57, Try.ntmps57
  go_wp2_with fail
  go_region_held3 (fun w' => w'.cell? ⟨p, 0, none⟩ = some (.int .i64 s.size) ∧ w'.cell? ⟨p, 1, none⟩ = some (.slice d.a d.n d.c)) (go_keep) (first | (go_at_call 31; refine (unhide HB 1).mono ?_; rintro e w1 ⟨v, rfl, h1, h2, h3⟩; have A1 := (unhide HA).later h3; have c0' : w1.cell? ⟨p, 0, none⟩ = some (.int .i64 s.size) := (by simpa using A1.cell 0); have c1' : w1.cell? ⟨p, 1, none⟩ = some (.slice d.a d.n d.c) := (by simpa using A1.cell 1)))
  go_wp2
  go_ret
  exact ⟨v, rfl, h1, h2, h3⟩

set_option maxHeartbeats 1000000 in
set_option maxRecDepth 100000 in
theorem room_1 (p : Nat) (S : Nat → Prop) (s : FlS) (w : World) (h : Fl w p S s) :
    Calls Try.prog 121 #[.pointer (some ⟨p, 0, none⟩), .int .i64 1] w fun e w' => e = .returned (.int .i64 (s.size - s.l1.length)) ∧ ∃ k, w' = w.drewN k := by
  obtain ⟨v0, v1, qv, hf, rfl⟩ := h
  obtain ⟨a0, b0, rfl⟩ := own_parts hf.o1
  obtain ⟨c0, -, c1, -, -, -⟩ := hf.cs
  have z0 := hf.ok.z1
  have mx := hf.ok.mx
  have e0 : (s.size : Int) - s.l1.length ≤ 9223372036854775807 := by omega
  clear hf
  go_enter Try.func121, Try.ntmps121
  go_wp2_with fail
  go_quiet (fail)
  go_wp2
  go_ret
  exact ⟨rfl, _, rfl⟩
set_option maxHeartbeats 1000000 in
set_option maxRecDepth 100000 in
theorem told_1 (p : Nat) (S : Nat → Prop) (s : FlS) (w : World) (h : Fl w p S s) :
    Calls Try.prog 57 #[.pointer (some ⟨p, 0, none⟩), .int .i64 1] w (BPost s.l1 w) := by
  obtain ⟨v0, v1, qv, hf, rfl⟩ := h
  obtain ⟨d, hd, hdo, hdl, hdn, -⟩ := OwB.sl ⟨hf.o1, hf.ok.b1⟩
  subst hd
  obtain ⟨c0, -, c1, -, -, -⟩ := hf.cs
  have HB : Hid (∀ k, Calls Try.prog 31 #[.slice d.a d.n d.c, .int .i64 s.size] (w.drewN k) (BPost s.l1 w)) := hide (fun k => by
    have hB := beginning_any d s.size (w.drewN k) (ok_drewN hdo k) hf.ok.mx
    rw [hdl, List.take_of_length_le hf.ok.z1] at hB
    exact hB.mono (fun e w' h => h.undrewN))
  have HA := hide hf.arr
  clear hf hdo hdl hdn
  simp only [Sl.v] at *
  go_enter Try.func57, Try.ntmps57
  go_wp2_with fail
  go_region_held3 (fun w' => w'.cell? ⟨p, 0, none⟩ = some (.int .i64 s.size) ∧ w'.cell? ⟨p, 2, none⟩ = some (.slice d.a d.n d.c)) (go_keep) (first | (go_at_call 31; refine (unhide HB 1).mono ?_; rintro e w1 ⟨v, rfl, h1, h2, h3⟩; have A1 := (unhide HA).later h3; have c0' : w1.cell? ⟨p, 0, none⟩ = some (.int .i64 s.size) := (by simpa using A1.cell 0); have c1' : w1.cell? ⟨p, 2, none⟩ = some (.slice d.a d.n d.c) := (by simpa using A1.cell 2)))
  go_wp2
  go_ret
  exact ⟨v, rfl, h1, h2, h3⟩
end Go.Proofs.Ytonpikdpclpkiaa

namespace Go.Proofs.Ytonpikdpclpkiaa
open Go.RowKit

theorem Try.infoC : (Try.prog.info? 75).map (fun i => (i.zero, i.size, i.bytes)) = some (some (.agg #[.int .i64 0, .int .i64 0]), 2, 16) := by kernel_rfl
theorem step_append_fits {P : Program} {ops : Array Oper} {o : Oper} {a : Act} {w : World} {K : Act → World → Prop} {Q : Exit → Act → World → Prop} {E : Prop} (hgd : o.guard = none) (s x : Operand) (t : TypeId)
    (ho : o.op = .call { callee := .builtin .append, args := #[s, x], argTypes := #[t, t] })
    (base : Nat) (e : TypeId) (i : TypeInfo) (size : Nat) (ht : P.underlying t = some (.slice e)) (hi : P.info? e = some i) (hsize : i.size = size)
    (g n cap : Nat) (xs : List Value) (hs : a.eval s = .slice (some ⟨g, 0, none⟩) n cap) (hown : w.ownsRow base e size (.slice (some ⟨g, 0, none⟩) n cap) n xs)
    (ad : Addr) (m c : Nat) (news : List Value) (hx : a.eval x = .slice (some ad) m c) (hl : news.length = m * size) (hnews : ∀ j u, news[j]? = some u → w.cell? (ad.add j) = some u) (h1 : ∀ u ∈ news, u.oneCell' = true)
    (hroom : n + m ≤ cap)
    (h : ∀ w', Hid (w'.ownsRow base e size (.slice (some ⟨g, 0, none⟩) (n + m) cap) (n + m) (xs ++ news)) → Hid (w.grownBy w' (some g)) → K (a.put o.dst (.slice (some ⟨g, 0, none⟩) (n + m) cap)) w') :
    if Region.wanted o (yielded ops a.tmps) = true then Oper.wp P o a w K Q else E := by
  have hw : Region.wanted o (yielded ops a.tmps) = true := by simp [Region.wanted, hgd]
  rw [if_pos hw]
  obtain ⟨w', hr, r1, r2⟩ := run_append_fits (P := P) w base t o.type e i size ht hi hsize g n cap xs hown ad m c news hl hnews h1 hroom
  unfold Oper.wp
  simp [execOp, ho, resolve, invoke, builtin, hs, hx, hr, Result.andThen]
  exact h w' r1 r2
theorem own_row {w : World} {base e sz g n cap : Nat} {xs : List Value} (h : w.ownsRow base e sz (.slice (some ⟨g, 0, none⟩) n cap) n xs) : ∃ cur, w.heap[g]? = some (.cells cur e (0, 0)) ∧ n ≤ cap ∧ cap ≤ maxLen ∧ cur.size = cap * sz ∧ cur.toList.take (n * sz) = xs := by
  rcases h.2 with ⟨h', _⟩ | ⟨g', cap', cur, h', -, h1, h2, h3, h4, h5⟩
  · simp at h'
  · simp only [Value.slice.injEq, Option.some.injEq, Addr.mk.injEq, and_true, true_and] at h'
    obtain ⟨rfl, rfl⟩ := h'
    exact ⟨cur, h1, h2, h3, h4, h5⟩
theorem own_none {w : World} {base e sz g n cap : Nat} {xs : List Value} (h : w.ownsRow base e sz (.slice (some ⟨g, 0, none⟩) n cap) n xs) : w.ownsRow base e sz (.slice (some ⟨g, 0, none⟩) 0 cap) 0 [] := by
  obtain ⟨cur, h1, h2, h3, h4, h5⟩ := own_row h
  exact ⟨by simp, .inr ⟨g, cap, cur, rfl, (h.lt g rfl).1, h1, Nat.zero_le _, h3, h4, by simp⟩⟩
/-- what lies behind the first of a row may be turned -/
theorem own_front {w : World} {base e sz g n cap m : Nat} {xs : List Value} (h : w.ownsRow base e sz (.slice (some ⟨g, 0, none⟩) n cap) n xs) (v : Value) (hm : n * sz ≤ m) : (w.setCell ⟨g, m, none⟩ v).ownsRow base e sz (.slice (some ⟨g, 0, none⟩) n cap) n xs := by
  have h2 := (h.stored m v).1
  rwa [List.set_eq_of_length_le (by rw [h.1]; exact hm)] at h2
theorem run_clear_two {P : Program} (w : World) (t e ty : TypeId) (ht : P.underlying t = some (.slice e)) (hv : ∀ w, (zeroValue e).run P w = .ok (.agg #[.int .i64 0, .int .i64 0]) w) (b o c : Nat)
    (h0 : (w.cell? ⟨b, o, none⟩).isSome = true) (h1 : (w.cell? ⟨b, o + 1, none⟩).isSome = true) (hf : ∀ j, w.frozen? ⟨b, j, none⟩ = false) :
    (Builtin.clear_ #[t] ty #[.slice (some ⟨b, o, none⟩) 1 c]).run P w = .ok (.tuple #[]) ((w.setCell ⟨b, o, none⟩ (.int .i64 0)).setCell ⟨b, o + 1, none⟩ (.int .i64 0)) := by
  have hzc : (Builtin.zeroCells (Value.agg #[.int .i64 0, .int .i64 0]).cells 1).toList = [.int .i64 0, .int .i64 0] := by
    simp [Builtin.zeroCells, Value.cells, Array.range, Array.ofFn]
    rfl
  have hst := run_storeCells_cells (P := P) b o [.int .i64 0, .int .i64 0] 0 w (fun j hj => by simp at hj; rcases (by omega : j = 0 ∨ j = 1) with rfl | rfl; exact h0; exact h1) (fun j hj => hf _) (by intro v hv'; simp at hv'; subst hv'; rfl)
  simp only [Nat.add_zero] at hst
  simp [Builtin.clear_, run_underlying ht, hv, hzc, hst]
  rfl
set_option maxHeartbeats 2000000 in
set_option maxRecDepth 100000 in
theorem delete_any (g cap : Nat) (x : Int × Int) (r : List (Int × Int)) (w : World) (h : w.ownsRow 0 75 2 (.slice (some ⟨g, 0, none⟩) (r.length + 1) cap) (r.length + 1) (Cr (x :: r))) (hr : r.length ≤ 64) :
    Calls Try.prog 126 #[.slice (some ⟨g, 0, none⟩) (r.length + 1) cap, .int .i64 0, .int .i64 1] w fun e w' => e = .returned (.slice (some ⟨g, 0, none⟩) r.length cap) ∧ w'.ownsRow 0 75 2 (.slice (some ⟨g, 0, none⟩) r.length cap) r.length (Cr r) ∧ Buts (· = g) w w' := by
  obtain ⟨i0, hi, hz0, hz1, hz2⟩ := info_parts Try.infoC
  obtain ⟨cur, k1, k2, k3, k4, k5⟩ := own_row h
  have hcm : cap ≤ 9223372036854775807 := by unfold maxLen at k3; exact k3
  obtain ⟨n, hn⟩ : ∃ n, n = r.length := ⟨_, rfl⟩
  rw [← hn] at h hr k2 ⊢
  obtain ⟨news, hnews⟩ : ∃ news, news = Cr r := ⟨_, rfl⟩
  have s1 : Hid (news.length = n * 2) := hide (by rw [hnews, Cr_len, hn])
  have s2 : Hid (∀ u ∈ news, u.oneCell' = true) := hide (by rw [hnews]; exact Cr_one _)
  obtain ⟨A, hA, hsrc⟩ : ∃ A : Addr, (if cap = 1 then some (⟨g, 0, none⟩ : Addr) else some ⟨g, 2, none⟩) = some A ∧ Hid (∀ t u, news[t]? = some u → w.drew.cell? (A.add t) = some u) := by
    by_cases hc : cap = 1
    · refine ⟨⟨g, 0, none⟩, by simp [hc], hide (fun t u hu => ?_)⟩
      have h0 : news.length = 0 := by rw [unhide s1]; omega
      rw [List.length_eq_zero_iff.1 h0] at hu
      simp at hu
    · refine ⟨⟨g, 2, none⟩, by simp [hc], hide (fun t u hu => ?_)⟩
      have ht : t < news.length := (List.getElem?_eq_some_iff.1 hu).1
      rw [unhide s1] at ht
      rw [addr_add]
      show w.cell? ⟨g, 2 + t, none⟩ = some u
      rw [h.cellAt (2 + t) (by omega), Cr_cons, ← hu, hnews, Nat.add_comm 2 t]
      rfl
  have HN := hide hnews
  have HO : Hid (w.drew.ownsRow 0 75 2 (.slice (some ⟨g, 0, none⟩) 0 cap) 0 []) := hide (own_none h)
  have HZ : ∀ w, (zeroValue 75).run Try.prog w = .ok (.agg #[.int .i64 0, .int .i64 0]) w := fun w => by simp [zeroValue, run_typeInfo w hi, hz0]
  have HG := hide k1
  have hle : (1 : Int) ≤ (n : Int) + 1 := by omega
  have HNR := hide hn
  clear k1 k4 k5 k3 hnews hn
  go_enter Try.func126, Try.ntmps126
  go_wp2_with fail
  go_region_law (refine step_append_fits rfl (.tmp 22) (.tmp 25) 71 rfl 0 75 i0 2 Try.underlying71 hi hz1 g 0 cap [] (by simp [Act.eval, Act.put]) (unhide HO) A n (cap - 1) news (by simp [Act.eval, Act.put]) (unhide s1) (unhide hsrc) (unhide s2) (by omega) ?_; intro w1 ho1 hg1)
  have ho2 : w1.ownsRow 0 75 2 (.slice (some ⟨g, 0, none⟩) n cap) n news := by have := unhide ho1; simpa using this
  have hg2 := unhide hg1
  obtain ⟨cur1, j1, j2, j3, j4, j5⟩ := own_row ho2
  have hcl : ∀ ty, (Builtin.clear_ #[71] ty #[.slice (some ⟨g, n * 2, none⟩) 1 (cap - n)]).run Try.prog w1 = .ok (.tuple #[]) ((w1.setCell ⟨g, n * 2, none⟩ (.int .i64 0)).setCell ⟨g, n * 2 + 1, none⟩ (.int .i64 0)) := fun ty =>
    run_clear_two w1 _ _ ty Try.underlying71 HZ g (n * 2) (cap - n) (by rw [cell_of_row w1 g (n * 2) cur1 _ _ j1, Array.getElem?_eq_getElem (by omega)]; rfl) (by rw [cell_of_row w1 g (n * 2 + 1) cur1 _ _ j1, Array.getElem?_eq_getElem (by omega)]; rfl) (fun j => frozen_of_row w1 g j cur1 _ j1)
  obtain ⟨w2, hw2⟩ : ∃ w2, w2 = (w1.setCell ⟨g, n * 2, none⟩ (.int .i64 0)).setCell ⟨g, n * 2 + 1, none⟩ (.int .i64 0) := ⟨_, rfl⟩
  rw [← hw2] at hcl
  have HO2 := hide ho2
  have HG2 := hide hg2
  have HW2 := hide hw2
  clear ho1 ho2 hg1 hg2 hw2 j1 j4 j5 HO h
  go_wp2
  go_ret
  have ho2 := unhide HO2
  rw [unhide HN] at ho2
  refine ⟨rfl, ?_, ?_⟩
  · rw [unhide HW2]
    exact own_front (own_front ho2 _ (Nat.le_refl _)) _ (by omega)
  · have hg2 := unhide HG2
    have hb : Buts (· = g) w w1 := ⟨hg2.os, hg2.tape, hg2.output, hg2.size, fun k hk hs => hg2.block k hk (fun e => hs (by simpa using e))⟩
    rw [unhide HW2]
    exact (hb.setCell rfl _ _).setCell rfl _ _
end Go.Proofs.Ytonpikdpclpkiaa
