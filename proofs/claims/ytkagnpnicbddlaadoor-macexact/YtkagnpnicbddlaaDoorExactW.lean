import Derived.Test.YtkagnpnicbddlaaDoorOpenX
import Derived.Test.YtkagnpnicbddlaaDoorGrS
import Derived.Test.YtkagnpnicbddlaaDoorPl0
import Derived.Test.YtkagnpnicbddlaaDoorPl1
import Derived.Test.YtkagnpnicbddlaaDoorPl2
import Derived.Test.YtkagnpnicbddlaaDoorPl3
import Derived.Test.YtkagnpnicbddlaaDoorPl4a
import Derived.Test.YtkagnpnicbddlaaDoorPl4b
import Derived.Test.YtkagnpnicbddlaaDoorPl5a
import Derived.Test.YtkagnpnicbddlaaDoorPl5b
namespace Go.Proofs.YtkagnpnicbddlaaDoor
open Go.RowKit

theorem plays_any {w : World} {gS N : Nat} {P Q : Nat → Sl} {lv wv : Value} (o : OpQ) (w0 : World) (h0 : Shf w gS N P Q lv wv w0) (hL : Lay6 w) (ho : o.Ok w) (hkn : o.key.n ≤ 2048) (htn : o.text.n ≤ 2048) (hN : N ≤ 3000000000000) :
    Calls Tryd.prog 18 #[.pointer (some ⟨gS, 0, none⟩), .agg o.cells.toArray] w0 fun e w' => e = .returned (.bool true) ∧ ∃ N' P' Q' lv' wv', N' ≤ N + 1 ∧ Shf w gS N' P' Q' lv' wv' w' := by
  by_cases k1 : o.kd = 1
  · exact plays_k1 o w0 h0 hL ho hkn htn hN k1
  by_cases k2 : o.kd = 2
  · exact plays_k2 o w0 h0 hL ho hkn htn hN k2
  by_cases k3 : o.kd = 3
  · exact plays_k3 o w0 h0 hL ho hkn htn hN k3
  by_cases k4 : o.kd = 4
  · by_cases hn : 0 ≤ o.n ∧ o.n ≤ 8160
    · exact plays_k4a o w0 h0 hL ho hkn htn hN ⟨k4, hn⟩
    · exact plays_k4b o w0 h0 hL ho hkn htn hN ⟨k4, by omega⟩
  by_cases k5 : o.kd = 5
  · by_cases hn : o.lab.size ≤ 32 ∧ 0 ≤ o.n ∧ o.n ≤ 2147483647
    · exact plays_k5a o w0 h0 hL ho hkn htn hN ⟨k5, hn⟩
    · exact plays_k5b o w0 h0 hL ho hkn htn hN ⟨k5, by omega⟩
  exact plays_k0 o w0 h0 hL ho hkn htn hN ⟨k1, k2, k3, k4, k5⟩

set_option maxHeartbeats 2000000 in
set_option maxRecDepth 100000 in
theorem short_yes (o : OpQ) (w : World) (hl : o.hash.length = 32) (hk : o.key.n ≤ 2048) (ht : o.text.n ≤ 2048) :
    Calls Tryd.prog 17 #[.agg o.cells.toArray] w fun e w' => e = .returned (.bool true) ∧ Below w.heap.size w w' := by
  obtain ⟨W, hW, hBx, hbW, -⟩ := arr1 w 49 o.cells
  have HW := hide hW
  obtain ⟨b0, b1, b2, b35, b36, bH⟩ := box_all hBx hl
  have y1 : (o.key.n : Int) ≤ 2048 := by omega
  have y2 : (o.text.n : Int) ≤ 2048 := by omega
  simp only [Sl.v] at b1 b2
  generalize o.cells = CL at *
  clear hW
  go_enter Tryd.func17, Tryd.ntmps17
  go_wp2_with (rw [show Obj.cells CL.toArray 49 = Obj.cells CL.toArray 49 (0, 0) from rfl, ← unhide HW])
  go_ret
  exact ⟨rfl, hbW⟩
set_option maxHeartbeats 2000000 in
set_option maxRecDepth 100000 in
theorem short_no (o : OpQ) (w : World) (hl : o.hash.length = 32) (h : 2048 < o.key.n ∨ 2048 < o.text.n) :
    Calls Tryd.prog 17 #[.agg o.cells.toArray] w fun e w' => e = .returned (.bool false) ∧ Below w.heap.size w w' := by
  obtain ⟨W, hW, hBx, hbW, -⟩ := arr1 w 49 o.cells
  have HW := hide hW
  obtain ⟨b0, b1, b2, b35, b36, bH⟩ := box_all hBx hl
  simp only [Sl.v] at b1 b2
  generalize o.cells = CL at *
  clear hW
  go_enter Tryd.func17, Tryd.ntmps17
  by_cases hk : o.key.n ≤ 2048
  · have y1 : (o.key.n : Int) ≤ 2048 := by omega
    have y2 : ¬ ((o.text.n : Int) ≤ 2048) := by omega
    have d2 : decide ((o.text.n : Int) ≤ 2048) = false := by simpa using y2
    go_wp2_with (rw [show Obj.cells CL.toArray 49 = Obj.cells CL.toArray 49 (0, 0) from rfl, ← unhide HW])
    go_ret
    exact ⟨rfl, hbW⟩
  · have y1 : ¬ ((o.key.n : Int) ≤ 2048) := by omega
    have d1 : decide ((o.key.n : Int) ≤ 2048) = false := by simpa using y1
    go_wp2_with (rw [show Obj.cells CL.toArray 49 = Obj.cells CL.toArray 49 (0, 0) from rfl, ← unhide HW])
    go_ret
    exact ⟨rfl, hbW⟩

/-- a whole struct loaded where a guard lets it -/
theorem wpList_load_mid_if {P : Program} {ops : Array Oper} {rest : List Oper} {o : Oper} {a : Act} {w : World} {Q : Exit → Act → World → Prop} (ty : TypeId) (x : Operand) (ho : o.op = .load ty x) (hw : Region.wanted o (yielded ops a.tmps) = true)
    (b off : Nat) (hx : a.eval x = .pointer (some ⟨b, off, none⟩)) (cs : List Value) (d : TypeDesc) (hr : w.rangeAt b off cs) (hu : P.underlying ty = some d) (hd : d.isRow = true) (hi : (P.info? ty).map (·.size) = some cs.length)
    (h : wpList P ops Q rest (a.put o.dst (.agg cs.toArray)) w) : wpList P ops Q (o :: rest) a w := by
  unfold wpList
  rw [if_pos hw]
  exact Or.inl (wp_load_mid ty x ho b off hx cs d hr hu hd hi h)
theorem first_der : tZ (List.replicate 32 0) (infoZ (strL ⟨#[97]⟩) ((0 : Nat) : Int)) 1 = MC.ddSum := by
  show mac6 (List.replicate 32 0) ([] ++ (infoZ (strL ⟨#[97]⟩) ((0 : Nat) : Int) ++ [((0 + 1 : Nat) : Int)])) = _
  rw [show ([] ++ (infoZ (strL ⟨#[97]⟩) ((0 : Nat) : Int) ++ [((0 + 1 : Nat) : Int)]) : List Int) = 97 :: List.replicate 9 0 ++ [1] from by kernel_rfl]
  exact mac6_first
theorem der_named : ∃ D : List Int, tZ (List.replicate 32 0) (infoZ (strL ⟨#[97]⟩) ((0 : Nat) : Int)) 1 = D ∧ D.length = 32 ∧ (∀ w, (Op.equalIn 10000 23 (.agg (U8 D).toArray) (.agg #[Value.int IntKind.u8 0, Value.int IntKind.u8 0, Value.int IntKind.u8 0, Value.int IntKind.u8 0, Value.int IntKind.u8 0, Value.int IntKind.u8 0, Value.int IntKind.u8 0, Value.int IntKind.u8 0, Value.int IntKind.u8 0, Value.int IntKind.u8 0, Value.int IntKind.u8 0, Value.int IntKind.u8 0, Value.int IntKind.u8 0, Value.int IntKind.u8 0, Value.int IntKind.u8 0, Value.int IntKind.u8 0, Value.int IntKind.u8 0, Value.int IntKind.u8 0, Value.int IntKind.u8 0, Value.int IntKind.u8 0, Value.int IntKind.u8 0, Value.int IntKind.u8 0, Value.int IntKind.u8 0, Value.int IntKind.u8 0, Value.int IntKind.u8 0, Value.int IntKind.u8 0, Value.int IntKind.u8 0, Value.int IntKind.u8 0, Value.int IntKind.u8 0, Value.int IntKind.u8 0, Value.int IntKind.u8 0, Value.int IntKind.u8 0])).run Tryd.prog w = .ok false w) := by
  refine ⟨MC.ddSum, first_der, by kernel_rfl, fun w => ?_⟩
  rw [Z32, eqH32 _ _ (by kernel_rfl) (by simp), decide_eq_false ddSum_ne]

set_option maxHeartbeats 8000000 in
set_option maxRecDepth 100000 in
theorem exact_any (pa : Option Addr) (pc : Nat) (ps : List OpQ) (w : World) (hat : OpsAt w pa ps) (hok : ∀ o ∈ ps, o.Ok w) (hL : Lay6 w) (hlen : ps.length * 112 ≤ 140737488351232) :
    Calls Tryd.prog 7 #[.slice pa ps.length pc] w fun e w' => e = .returned (.bool true) ∧ Below w.heap.size w w' := by
  obtain ⟨D, hD, hDl, E0⟩ := der_named
  have HD := hide hD
  have HDL := hide hDl
  clear hD hDl
  obtain ⟨M, hM⟩ : ∃ M, M = ps.length := ⟨_, rfl⟩
  have HM := hide hM
  have hM2 : 2 * M ≤ 3000000000000 := by omega
  rw [← hM]
  clear hM
  obtain ⟨W, hW, hS0, hbW, -⟩ := arr1 w 46 [.slice none 0 0, .slice none 0 0]
  have HW := hide hW
  clear hW
  have hSh : Shf w w.heap.size 0 (fun _ => ⟨none, 0, 0, []⟩) (fun _ => ⟨none, 0, 0, []⟩) (.slice none 0 0) (.slice none 0 0) W :=
    ⟨hS0, Nat.le_refl _, World.ownsRow_nil _ _ _ _, World.ownsRow_nil _ _ _ _, .inl rfl, fun i hi => by omega, fun i hi => by omega, fun i hi => by omega, fun i hi => by omega, fun i j hi => by omega, fun i j hi => by omega, fun i hi => by omega, fun i hi => by omega, fun i hi => by omega, hbW⟩
  obtain ⟨Z, hZ⟩ : ∃ Z, Z = List.replicate 32 (0 : Int) := ⟨_, rfl⟩
  have HZ := hide hZ
  clear hZ
  go_enter Tryd.func7, Tryd.ntmps7
  go_wp2_with (first
    | rw [show Obj.cells #[Value.slice none 0 0, Value.slice none 0 0] 46 = Obj.cells ([Value.slice none 0 0, Value.slice none 0 0] : List Value).toArray 46 (0, 0) from rfl, ← unhide HW]
    | refine wpList_build_to rfl 23 _ rfl (U8 Z).toArray (by rw [unhide HZ]; kernel_rfl) ?_)
  rw [unhide HZ]
  have hK6 := (hL.l.k6).later hbW
  have hF6 := (hL.l.f6).later hbW
  refine (derive_ok (List.replicate 32 0) ⟨#[97]⟩ 0 W (by simp) (IsB.replicate0 _) (by decide) (by omega) hK6 hF6).mono ?_
  rintro e w1 ⟨rfl, hb1⟩
  rw [unhide HD]
  have hSh1 := hSh.later hb1
  clear hSh hS0 hK6 hF6
  have hzr : (Tryd.prog.info? 23).map (·.size) = some (U8 D).toArray.size := by rw [Tryd.szL32]; simp [unhide HDL]
  obtain ⟨W2, hW2, hH, hbH, -⟩ := arr1 w1 23 (U8 D)
  have HW2 := hide hW2
  clear hW2
  have hzo : (#[Value.int IntKind.u8 0, Value.int IntKind.u8 0, Value.int IntKind.u8 0, Value.int IntKind.u8 0, Value.int IntKind.u8 0, Value.int IntKind.u8 0, Value.int IntKind.u8 0, Value.int IntKind.u8 0, Value.int IntKind.u8 0, Value.int IntKind.u8 0, Value.int IntKind.u8 0, Value.int IntKind.u8 0, Value.int IntKind.u8 0, Value.int IntKind.u8 0, Value.int IntKind.u8 0, Value.int IntKind.u8 0, Value.int IntKind.u8 0, Value.int IntKind.u8 0, Value.int IntKind.u8 0, Value.int IntKind.u8 0, Value.int IntKind.u8 0, Value.int IntKind.u8 0, Value.int IntKind.u8 0, Value.int IntKind.u8 0, Value.int IntKind.u8 0, Value.int IntKind.u8 0, Value.int IntKind.u8 0, Value.int IntKind.u8 0, Value.int IntKind.u8 0, Value.int IntKind.u8 0, Value.int IntKind.u8 0, Value.int IntKind.u8 0] : Array Value).size = (U8 D).toArray.size := by simp [unhide HDL]
  have h1r : (U8 D).toArray.all (·.oneCell') = true := all_one (U8_one _)
  have hSh2 := hSh1.later hbH
  clear hSh1
  go_wp2_with (first
    | (refine wpList_store_row rfl 23 (.tmp 4) (.tmp 13) rfl w1.heap.size _ rfl rfl 23 _ (heap_alloc_last w1 _) hzr hzo h1r ?_; rw [World.setRow_alloc_new, ← unhide HW2])
    | (refine wpList_load_row_if 23 (.tmp 4) rfl rfl w1.heap.size rfl 23 _ (0, 0) _ hH Tryd.underlying23 rfl hzr ?_))
  clear hH h1r hzo hzr E0
  go_loopw [6] (fun i wr => ∃ (k N : Nat) (P Q : Nat → Sl) (lv wv : Value), k ≤ 2 * M ∧ N ≤ k ∧ i = .int .i64 k ∧ Shf w w.heap.size N P Q lv wv wr) (fun i _ => 2 * M - (intOf i).toNat)
  case atStart => exact ⟨0, 0, _, _, _, _, by omega, by omega, rfl, hSh2⟩
  case round =>
    clear hSh2
    obtain ⟨k, N, P, Q, lv, wv, hk, hNk, rfl, hS⟩ := hrel
    by_cases hlt : k < 2 * M
    · obtain ⟨i, hi⟩ : ∃ i, i = k % M := ⟨_, rfl⟩
      have him : i < M := by rw [hi]; exact Nat.mod_lt _ (by omega)
      have hit : (k : Int).tmod (M : Int) = (i : Int) := by rw [hi]; exact (Int.ofNat_tmod k M)
      have hie : (k : Int) % (M : Int) = (i : Int) := by rw [hi]; simp
      have hltz : (k : Int) < 2 * (M : Int) := by omega
      have hM0 : ¬ ((M : Int) = 0) := by omega
      have himz : (i : Int) < (M : Int) := by omega
      obtain ⟨o, ho⟩ : ∃ o, ps[i]? = some o := ⟨_, List.getElem?_eq_getElem (by rw [← unhide HM]; exact him)⟩
      have hoo := hok o (List.mem_of_getElem? ho)
      obtain ⟨ob, oo, hsa, hol, hoc⟩ := hat (by rw [← unhide HM]; omega)
      subst hsa
      have hr0 := hoc i o ho
      have hr : wr.rangeAt ob (oo + i * 37) o.cells := fun j v hv => (hS.bel.cell (p := ⟨ob, oo + i * 37 + j, none⟩) hol).trans (hr0 j v hv)
      have hcl : (Tryd.prog.info? 49).map (·.size) = some o.cells.length := by
        rw [show o.cells.length = 37 from by simp [OpQ.cells, hoo.hl]]; kernel_rfl
      clear hi
      go_wp2_with (refine wpList_load_mid rfl 49 (.tmp 35) rfl _ _ rfl _ _ hr Tryd.underlying49 rfl hcl ?_)
      by_cases hshort : o.key.n ≤ 2048 ∧ o.text.n ≤ 2048
      · refine (short_yes o wr hoo.hl hshort.1 hshort.2).mono ?_
        rintro e w2 ⟨rfl, hb2⟩
        have hS2 := hS.later hb2
        clear hS
        have hr2 : w2.rangeAt ob (oo + i * 37) o.cells := fun j v hv => (hS2.bel.cell (p := ⟨ob, oo + i * 37 + j, none⟩) hol).trans (hr0 j v hv)
        go_wp2_with (refine wpList_load_mid_if 49 (.tmp 42) rfl rfl _ _ rfl _ _ hr2 Tryd.underlying49 rfl hcl ?_)
        refine (plays_any o w2 hS2 hL hoo hshort.1 hshort.2 (by omega)).mono ?_
        rintro e w3 ⟨rfl, N', P', Q', lv', wv', hN', hS3⟩
        go_wp2_with fail
        refine ⟨⟨k + 1, N', P', Q', lv', wv', by omega, by omega, by simp, hS3⟩, ?_⟩
        simp [intOf]
        omega
      · refine (short_no o wr hoo.hl (by omega)).mono ?_
        rintro e w2 ⟨rfl, hb2⟩
        have hS2 := hS.later hb2
        clear hS
        go_wp2_with fail
        refine ⟨⟨k + 1, N, P, Q, lv, wv, by omega, by omega, by simp, hS2⟩, ?_⟩
        simp [intOf]
        omega
    · have hltz : ¬ ((k : Int) < 2 * (M : Int)) := by omega
      have hk2 : k = 2 * M := by omega
      go_wp2_with fail
      refine (held_any hS (by omega)).mono ?_
      rintro e w2 ⟨rfl, hb2⟩
      go_wp2_with fail
      go_ret
      exact ⟨rfl, hb2⟩
end Go.Proofs.YtkagnpnicbddlaaDoor
