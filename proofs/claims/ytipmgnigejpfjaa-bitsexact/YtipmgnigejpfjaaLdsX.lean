import Derived.Test.YtipmgnigejpfjaaRotsX
namespace Go.Proofs.Ytipmgnigejpfjaa
open Go.RowKit

theorem Sl.Ok.cut {w : World} {a : Option Addr} {n c : Nat} {l : List Int} (h : Sl.Ok w ⟨a, n, c, l⟩) (q : Nat) (hq : q ≤ n) (ha : a ≠ none) : Sl.Ok w ⟨a, q, c, l.take q⟩ := by
  have hl : l.length = n := h.len
  have hle : n ≤ c := h.le
  exact ⟨(by show (l.take q).length = q; rw [List.length_take]; omega), (by show q ≤ c; omega), h.mx, fun h0 => absurd h0 ha, fun x hx => h.isB x (List.mem_of_mem_take hx), lies_take h.lies q⟩
theorem own_prefix {w : World} {B g n c : Nat} {l : List Int} (h : w.ownsRow B 5 1 (.slice (some ⟨g, 0, none⟩) (n + 70) c) (n + 70) (U8 (l ++ marks2))) (hl : l.length = n) (hB : IsB l) : Sl.Ok w ⟨some ⟨g, 0, none⟩, n, c, l⟩ := by
  have ok := Sl.Ok.of_own h (IsB.app hB marks2_isB)
  have h2 := ok.cut n (by omega) (by simp)
  rwa [List.take_append_of_le_length (by omega), List.take_of_length_le (by omega)] at h2
theorem turnTo_marks (l : List Int) (n : Nat) (h : l.length = n) : turnTo (l ++ marks2) n = xorC 5 l ++ marks2 := by
  unfold turnTo
  rw [List.take_append_of_le_length (by omega), List.take_of_length_le (by omega), List.drop_append_of_le_length (by omega), List.drop_eq_nil_of_le (by omega), List.nil_append]
set_option maxHeartbeats 4000000 in
set_option maxRecDepth 100000 in
theorem loads_any (o : OpV) (w : World) (ho : o.Ok w) (ht : o.A.n ≤ 4096) :
    Calls Try.prog 9 #[.agg o.cells.toArray] w fun e w' => e = .returned (.bool true) ∧ Below w.heap.size w w' := by
  obtain ⟨hn0, hn1⟩ := ho.n
  have hA := ho.A
  obtain ⟨W, hW, hBx, hbW, hsW⟩ := arr1 w 33 o.cells
  have HW := hide hW
  have HS := hide hsW
  have hAW := hA.later hbW
  obtain ⟨-, -, -, b3, b4, -⟩ := box_all hBx
  obtain ⟨kd, ow, ol, n, ⟨aa, an, ac, al⟩, B, pa, pc, ps, txt⟩ := o
  simp only [Sl.v] at hn0 hn1 b3 b4 ht hAW
  have hal : al.length = an := hAW.len
  have HAL := hide hal
  obtain ⟨CL, hCL⟩ : ∃ CL, CL = OpV.cells ⟨kd, ow, ol, n, ⟨aa, an, ac, al⟩, B, pa, pc, ps, txt⟩ := ⟨_, rfl⟩
  rw [← hCL] at HW hBx ⊢
  clear hW ho hsW hA hal hCL
  go_enter Try.func9, Try.ntmps9
  go_wp2_with (rw [show Obj.cells CL.toArray 33 = Obj.cells CL.toArray 33 (0, 0) from rfl, ← unhide HW])
  refine (roomy_any ⟨aa, an, ac, al⟩ W hAW (by show an ≤ _; omega)).mono ?_
  rintro e w1 ⟨gf, fc, rfl, hf1, hb1⟩
  replace b3 := (hb1.cell (cell_lt b3)).trans b3
  replace b4 := (hb1.cell (cell_lt b4)).trans b4
  have okA := hAW.later hb1
  have okF := own_prefix hf1 (unhide HAL) hAW.isB
  have hfc : an + 70 ≤ fc := (Sl.Ok.of_own hf1 (IsB.app hAW.isB marks2_isB)).le
  have hbw : Below w.heap.size w w1 := hbW.trans (hb1.mono hbW.size)
  simp only at okF
  have kz : (an : Int) ≤ (fc : Int) := by omega
  have HA := hide okA
  have HF := hide okF
  have HO := hide hf1
  have HB := hide hbw
  clear okA okF hf1 hbw hb1 hAW hbW hBx HW
  go_wp2_with fail
  refine (loadbe32_u ⟨some ⟨gf, 0, none⟩, an, fc, al⟩ n _ (unhide HF)).mono ?_
  rintro e w' ⟨rfl, rfl⟩
  go_wp2_with fail
  refine (refloadbe32_any ⟨aa, an, ac, al⟩ n _ (unhide HA) hn1).mono ?_
  rintro e w' ⟨rfl, rfl⟩
  simp only
  generalize ldBE al n 4 = E0
  generalize ldOk al n 4 = q0
  have hq0 : (q0 == q0) = true := beq_self_eq_true _
  go_wp2_with fail
  refine (loadle32_u ⟨some ⟨gf, 0, none⟩, an, fc, al⟩ n _ (unhide HF)).mono ?_
  rintro e w' ⟨rfl, rfl⟩
  go_wp2_with fail
  refine (refloadle32_any ⟨aa, an, ac, al⟩ n _ (unhide HA) hn1).mono ?_
  rintro e w' ⟨rfl, rfl⟩
  simp only
  generalize ldLE al n 4 = E1
  generalize ldOk al n 4 = q1
  have hq1 : (q1 == q1) = true := beq_self_eq_true _
  go_wp2_with fail
  refine (loadbe64_u ⟨some ⟨gf, 0, none⟩, an, fc, al⟩ n _ (unhide HF)).mono ?_
  rintro e w' ⟨rfl, rfl⟩
  go_wp2_with fail
  refine (refloadbe64_any ⟨aa, an, ac, al⟩ n _ (unhide HA) hn1).mono ?_
  rintro e w' ⟨rfl, rfl⟩
  simp only
  generalize ldBE al n 8 = E2
  generalize ldOk al n 8 = q2
  have hq2 : (q2 == q2) = true := beq_self_eq_true _
  go_wp2_with fail
  refine (loadle64_u ⟨some ⟨gf, 0, none⟩, an, fc, al⟩ n _ (unhide HF)).mono ?_
  rintro e w' ⟨rfl, rfl⟩
  go_wp2_with fail
  refine (refloadle64_any ⟨aa, an, ac, al⟩ n _ (unhide HA) hn1).mono ?_
  rintro e w' ⟨rfl, rfl⟩
  simp only
  generalize ldLE al n 8 = E3
  generalize ldOk al n 8 = q3
  have hq3 : (q3 == q3) = true := beq_self_eq_true _
  go_wp2_with fail
  refine (still_any ⟨some ⟨gf, 0, none⟩, an + 70, fc, al ++ marks2⟩ ⟨aa, an, ac, al⟩ _ (Sl.Ok.of_own (unhide HO) (IsB.app (unhide HA).isB marks2_isB)) (unhide HA) rfl (by show an ≤ _; omega)).mono ?_
  rintro e w2 ⟨rfl, hb2⟩
  have hf2 := own_later (unhide HO) hb2
  have hbw2 := (unhide HB).trans (hb2.mono (unhide HB).size)
  replace b3 := (hb2.cell (cell_lt b3)).trans b3
  clear b4 hb2
  go_wp2_with fail
  refine (turn_any gf an (an + 70) fc fc W.heap.size (al ++ marks2) w2 hf2 (by omega) (by omega)).mono ?_
  rintro e w3 ⟨rfl, hof, hbu⟩
  rw [turnTo_marks al an (unhide HAL)] at hof
  have okT := own_prefix hof (by rw [xorC_length]; exact unhide HAL) (xorC_isB 5 al)
  have hgf := (hf2.lt gf rfl).1
  have hsz := unhide HS
  have hbw3 : Below w.heap.size w w3 := hbw2.trans (hbu.below hbw2.size (by omega))
  replace b3 := (World.cell?_of_block (w := w2) (a := ⟨w.heap.size, 3, none⟩) (hbu.block w.heap.size (cell_lt b3) (by omega))).trans b3
  have HT := hide okT
  have HB3 := hide hbw3
  clear hof hbu hf2 hbw2 okT hbw3 hgf hsz HO HF HA HB HS
  go_wp2_with fail
  refine (loadbe64_u ⟨some ⟨gf, 0, none⟩, an, fc, xorC 5 al⟩ n _ (unhide HT)).mono ?_
  rintro e w' ⟨rfl, rfl⟩
  go_wp2_with fail
  refine (refloadbe64_any ⟨some ⟨gf, 0, none⟩, an, fc, xorC 5 al⟩ n _ (unhide HT) hn1).mono ?_
  rintro e w' ⟨rfl, rfl⟩
  simp only
  generalize ldBE (xorC 5 al) n 8 = E5
  generalize ldOk (xorC 5 al) n 8 = q5
  have hq5 : (q5 == q5) = true := beq_self_eq_true _
  go_wp2_with fail
  go_ret
  exact ⟨rfl, unhide HB3⟩
end Go.Proofs.Ytipmgnigejpfjaa
