import Derived.Test.YtaidncibndcbfaaDoorMidM
import Derived.Laws.MakeOwn
import Derived.Deep.Cut
set_option linter.unusedVariables false
namespace Go.Proofs.YtaidncibndcbfaaDoor
open Go.RowKit

theorem made_there (w : World) (N : Nat) (z : Array Value) (hz : z.size = 32) (i : Nat) (hi : i < N) : (w.alloc (.cells (madeCells z (N * 32)) 27)).there w.heap.size (i * 32) 32 := by
  have hr : (w.alloc (.cells (madeCells z (N * 32)) 27)).heap[w.heap.size]? = some (.cells (madeCells z (N * 32)) 27 (0, 0)) := heap_alloc_last w _
  refine fun j hj => ⟨?_, frozen_of_row _ _ _ _ _ hr⟩
  have hlt : i * 32 + j < (madeCells z (N * 32)).size := by rw [size_madeCells]; omega
  simp only [World.cell?, hr]
  simp [Array.getElem?_eq_getElem hlt]
/-- a list made, its first hash written -/
theorem made_one (w : World) (N : Nat) (z : Array Value) (hz : z.size = 32) (hN : 1 ≤ N) (x : List Int) (hx : Hs x) :
    ∃ W, W = (w.alloc (.cells (madeCells z (N * 32)) 27)).setCells w.heap.size 0 (U8 x) ∧ W.rangeAt w.heap.size 0 (U8 x) ∧ w.heap.size < W.heap.size ∧ Below w.heap.size w W := by
  refine ⟨_, rfl, ?_, ?_, ?_⟩
  · exact World.rangeAt_setCells_same _ _ _ _ (by have := made_there w N z hz 0 (by omega); simpa [hx.len] using this)
  · have := (but_setCells (U8 x) 0 _ _ (But.refl w.heap.size (w.alloc (.cells (madeCells z (N * 32)) 27)))).size
    simp at this ⊢; omega
  · have h1 : Below w.heap.size w (w.alloc (.cells (madeCells z (N * 32)) 27)) := (Below.refl _ _).alloc (Nat.le_refl _) _
    exact h1.trans ((but_setCells (U8 x) 0 _ _ (But.refl w.heap.size _)).below (by simp) (Nat.le_refl _))

set_option maxHeartbeats 8000000 in
set_option maxRecDepth 100000 in
theorem long_law (more : Int) (x : List Int) (w : World) (hx : Hs x) (hL : Ld w) :
    Calls Tryd.prog 6 #[.int .i64 more, hV x] w fun e w' => e = .returned (.bool true) ∧ Below w.heap.size w w' := by
  obtain ⟨W, hW, hH, hb⟩ := hold1 w x
  have HW := hide hW
  clear hW
  cases g1 : decide (more < 1)
  · cases g2 : decide (40 < more)
    · have h1 := of_decide_eq_false g1
      have h2 := of_decide_eq_false g2
      obtain ⟨k, hk⟩ := Int.eq_ofNat_of_zero_le (show 0 ≤ more by omega)
      obtain ⟨N, hN⟩ : ∃ N, N = 65536 + k := ⟨_, rfl⟩
      have HN : Hid (65537 ≤ N ∧ N ≤ 65576) := hide (by omega)
      have hwr : IntKind.i64.wrap (65536 + more) = (N : Int) := by rw [IntKind.wrap_i64]; omega
      obtain ⟨i0, hi0, h0, hs0, hb0⟩ := infoH
      obtain ⟨Zc, hZc⟩ : ∃ Z : Array Value, Z = (U8 (List.replicate 32 0)).toArray := ⟨_, rfl⟩
      have hZs : Zc.size = 32 := by rw [hZc]; simp
      have hmk : ∀ w1 : World, (Instr.makeSlice 30 (.int .i64 (N : Int)) (.int .i64 (N : Int))).run Tryd.prog w1 = .ok (.slice (some ⟨w1.heap.size, 0, none⟩) N N) (w1.alloc (.cells (madeCells Zc (N * 32)) 27)) := fun w1 => by
        have hr := run_make (P := Tryd.prog) w1 30 27 i0 _ Tryd.underlying30 hi0 h0 .i64 .i64 N N (by omega) (Int.le_refl _) (by rw [hb0]; have := unhide HN; omega) (by have := unhide HN; omega)
        simp only [Int.toNat_natCast, hs0, Value.cells] at hr
        rw [← hZc] at hr
        exact hr
      obtain ⟨W1, hW1, hX, hlt, hbl⟩ := made_one W N Zc hZs (by have := unhide HN; omega) x hx
      have hthere := made_there W N Zc hZs 0 (by have := unhide HN; omega)
      have HW1 := hide hW1
      clear hW1 h1 h2 hk hN h0 hs0 hb0 hi0 hZc
      have g3 : (0 : Int) < (N : Int) := by have := unhide HN; omega
      unfold hV
      go_enter Tryd.func6, Tryd.ntmps6
      go_upto_region 1 with fail
      rw [show Value.agg (U8 x).toArray = hV x from rfl, ← unhide HW]
      have hH0 := hH
      replace hH := hH.later hbl
      have hLW := (hL.later hb).later hbl
      replace hb := bnext hb hb.size hbl
      have hroot : ∀ w0, Calls Tryd.prog 15 #[.slice (some ⟨W.heap.size, 0, none⟩) N N] w0 _ := fun w0 => root_no ⟨some ⟨W.heap.size, 0, none⟩, N, N, []⟩ w0 (by have := unhide HN; show 65536 < N; omega)
      have hinc : ∀ w0, Calls Tryd.prog 22 #[.slice (some ⟨W.heap.size, 0, none⟩) N N, .int .i64 0] w0 _ := fun w0 => incl_no ⟨some ⟨W.heap.size, 0, none⟩, N, N, []⟩ 0 w0 (inT_no (by have := unhide HN; show ¬ ((N : Int) ≤ 65536 ∧ _); omega))
      have hcon : ∀ w0, Calls Tryd.prog 23 #[.slice (some ⟨W.heap.size, 0, none⟩) N N, .int .i64 N] w0 _ := fun w0 => cons_no ⟨some ⟨W.heap.size, 0, none⟩, N, N, []⟩ N w0 (isBg_no (by have := unhide HN; show ¬ ((N : Int) ≤ 65536 ∧ _); omega))
      have hone : (Hl.mk (some ⟨W.heap.size, 0, none⟩) 1 N [x]).Ok W1 := ⟨rfl, by have := unhide HN; show 1 ≤ N; omega, by have := unhide HN; show N ≤ maxLen; unfold maxLen; omega, (fun e => by cases e), (fun l hl => by simp at hl; subst hl; exact hx), fun _ => ⟨W.heap.size, 0, rfl, hlt, fun i l hi => by
        cases i with
        | zero => simp at hi; subst hi; simpa using hX
        | succ i => simp at hi⟩⟩
      have hroot1 : ∀ w0, Below W1.heap.size W1 w0 → Calls Tryd.prog 15 #[.slice (some ⟨W.heap.size, 0, none⟩) 1 N] w0 fun e w' => e = .returned (.tuple #[hV x, .bool true]) ∧ Below w0.heap.size w0 w' := fun w0 hb0 => by
        have h9 := root_ok ⟨some ⟨W.heap.size, 0, none⟩, 1, N, [x]⟩ w0 (hone.later hb0) (hLW.later hb0) (by show 1 ≤ 65536; omega)
        rw [rootZ16_one] at h9; exact h9
      have hck1 : ckC N N x x nilH.ls = false := by
        unfold ckC; rw [isBg_no (by have := unhide HN; omega), Bool.false_and]
      have hck2 : ckC 65536 65536 x x nilH.ls = true := by
        unfold ckC
        rw [isBg_iff.2 (by omega), if_neg (by omega)]
        have e1 : (nilH.ls).length = mblen (65536 : Int).toNat (65536 : Int).toNat true := by rw [mblen_all]; rfl
        rw [decide_eq_true e1, crossZ_all, eqB_self]; rfl
      have hbr : Below W1.heap.size W1 W1 := Below.refl _ _
      have hcc1 : ∀ w0, Ld w0 → Calls Tryd.prog 24 #[.int .i64 N, .int .i64 N, hV x, hV x, .slice none 0 0] w0 fun e w' => e = .returned (.bool false) ∧ Below w0.heap.size w0 w' := fun w0 h => by
        have := checkC_any N N x x nilH w0 hx hx (nilH_ok _) h
        rw [hck1] at this; exact this
      have hcc2 : ∀ w0, Ld w0 → Calls Tryd.prog 24 #[.int .i64 65536, .int .i64 65536, hV x, hV x, .slice none 0 0] w0 fun e w' => e = .returned (.bool true) ∧ Below w0.heap.size w0 w' := fun w0 h => by
        have := checkC_any 65536 65536 x x nilH w0 hx hx (nilH_ok _) h
        rw [hck2] at this; exact this
      clear hck1 hck2 hone hX hlt
      have hHm : Hold [(w.heap.size, x)] (W.alloc (.cells (madeCells Zc (N * 32)) 27)) := hH0.later ((Below.refl _ _).alloc (Nat.le_refl _) _)
      go_upto_region 5 with (first
        | refine wpList_load_hs hHm (.tmp 3) rfl (by kernel_rfl) w.heap.size x (by simp) hx.len rfl ?_
        | (refine wpList_store_hm rfl (.tmp 25) (.tmp 24) rfl W.heap.size 0 x hx.len (by simpa using hthere) rfl rfl ?_; rw [← unhide HW1]))
      clear hHm hH0 hthere hmk
      go_wp2_with (first
        | (go_at_call 15; refine (hroot _).mono ?_; rintro e w2 ⟨rfl, hb2⟩; rw [show List.replicate 32 (0 : Int) = zeroH from rfl]; replace hH := hH.later hb2; replace hb := bnext hb hb.size hb2; replace hLW := hLW.later hb2; replace hbr := bnext hbr hbr.size hb2; clear hb2 hroot)
        | (refine wpList_store_al rfl (.tmp 6) (.tmp 29) rfl hH zeroH zeroH_hs.len _ rfl rfl rfl rfl ?_; intro w3 hH3 hb3; replace hH := hH3; replace hb := bnext hb hb.size hb3; replace hLW := hLW.later hb3; replace hbr := bnext hbr hbr.size hb3; clear hb3 hH3)
        | (go_at_call 22; refine (hinc _).mono ?_; rintro e w4 ⟨rfl, hw4⟩; obtain rfl := hw4.symm)
        | (go_at_call 23; refine (hcon _).mono ?_; rintro e w5 ⟨rfl, hw5⟩; obtain rfl := hw5.symm)
        | refine wpList_load_hs hH (.tmp 6) rfl (by kernel_rfl) w2.heap.size zeroH (by simp) zeroH_hs.len rfl ?_
        | refine wpList_zero (by kernel_rfl) rfl ?_
        | refine wpList_neH (by kernel_rfl) (.tmp 51) (.tmp 52) rfl zeroH zeroH zeroH_hs.len zeroH_hs.len true (by simp) rfl rfl ?_
        | (go_at_call 15; refine (hroot1 _ hbr).mono ?_; rintro e w6 ⟨rfl, hb6⟩; replace hH := hH.later hb6; replace hb := bnext hb hb.size hb6; replace hLW := hLW.later hb6; clear hb6)
        | (refine wpList_store_al rfl (.tmp 12) (.tmp 69) rfl hH x hx.len _ rfl rfl rfl rfl ?_; intro w7 hH7 hb7; replace hH := hH7; replace hb := bnext hb hb.size hb7; replace hLW := hLW.later hb7; clear hb7 hH7)
        | refine wpList_load_hs hH (.tmp 12) rfl (by kernel_rfl) w6.heap.size x (by simp) hx.len rfl ?_
        | refine wpList_load_hs hH (.tmp 3) rfl (by kernel_rfl) w.heap.size x (by simp) hx.len rfl ?_
        | refine wpList_eqH (by kernel_rfl) (.tmp 73) (.tmp 74) rfl x x hx.len hx.len true (by simp) rfl rfl ?_
        | (go_at_call 24; refine (hcc1 _ hLW).mono ?_; rintro e w8 ⟨rfl, hb8⟩; clear hcc1; replace hH := hH.later hb8; replace hb := bnext hb hb.size hb8; replace hLW := hLW.later hb8; clear hb8)
        | (go_at_call 24; refine (hcc2 _ hLW).mono ?_; rintro e w9 ⟨rfl, hb9⟩; replace hH := hH.later hb9; replace hb := bnext hb hb.size hb9; replace hLW := hLW.later hb9; clear hb9))
      go_ret
      exact ⟨rfl, hb⟩
    · unfold hV
      go_enter Tryd.func6, Tryd.ntmps6
      go_upto_region 1 with fail
      rw [show Value.agg (U8 x).toArray = hV x from rfl, ← unhide HW]
      go_wp2
      go_ret
      exact ⟨rfl, hb⟩
  · unfold hV
    go_enter Tryd.func6, Tryd.ntmps6
    go_upto_region 1 with fail
    rw [show Value.agg (U8 x).toArray = hV x from rfl, ← unhide HW]
    go_wp2
    go_ret
    exact ⟨rfl, hb⟩
end Go.Proofs.YtaidncibndcbfaaDoor
