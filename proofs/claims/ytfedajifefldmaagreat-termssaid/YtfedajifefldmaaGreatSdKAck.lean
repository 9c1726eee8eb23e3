import Derived.Test.YtfedajifefldmaaGreatSdTyAck
import Derived.Test.YtfedajifefldmaaGreatSdPlaW
import Derived.Test.YtfedajifefldmaaGreatSdGsM
import Derived.Deep.MidRow
import Derived.Deep.RegionHeld3
import Derived.Test.YtfedajifefldmaaGreatSdAccX
set_option linter.unusedSimpArgs false
set_option linter.unusedVariables false
namespace Go.Proofs.YtfedajifefldmaaGreat
open Go.RowKit
set_option maxHeartbeats 1000000 in
set_option maxRecDepth 100000 in
theorem ackForm_any (w : World) : Calls Tryz.prog 66 #[] w (FrmPost 5 4 sAck 99 fAck 270 w) := by
  obtain ⟨i0, hi, hsz, hzr⟩ : ∃ i0, Tryz.prog.info? 270 = some i0 ∧ i0.size = 3 ∧ i0.zero = some (.agg #[.nilFunc, .nilFunc, .nilFunc]) := ⟨_, rfl, rfl, rfl⟩
  go_enter Tryz.func66, Tryz.ntmps66
  go_wp2_with fail
  have h1 := number_Ack (S := noS) (sT := sAck) (nT := 99) (a := 0) (least := 1) (most := 65535) (w.alloc (.cells #[.int .i64 0, .int .i64 0, .slice none 0 0] 143)) _ (noS_lt _) ack1_pl (by decide) rfl
  refine h1.mono ?_
  rintro e w1 ⟨v1, rfl, f1, c1⟩
  have F1 := hide f1
  have B1 := hide c1
  clear h1 f1 c1
  go_wp2_with fail
  have h2 := number_Ack (S := noS) (sT := sAck) (nT := 99) (a := 1) (least := 1) (most := 16) w1 _ (noS_lt _) ack2_pl (by decide) rfl
  refine h2.mono ?_
  rintro e w2 ⟨v2, rfl, f2, c2⟩
  have F2 := hide f2
  have B2 := hide c2
  clear h2 f2 c2
  go_wp2_with fail
  have h3 := number_Ack (S := noS) (sT := sAck) (nT := 99) (a := 2) (least := 0) (most := 4096) w2 _ (noS_lt _) ack3_pl (by decide) rfl
  refine h3.mono ?_
  rintro e w3 ⟨v3, rfl, f3, c3⟩
  have F3 := hide f3
  have B3 := hide c3
  clear h3 f3 c3
  go_wp2_with fail
  have h4 := fixed_Ack (S := noS) (sT := sAck) (nT := 99) (a := 3) (n := 32) w3 _ (noS_lt _) ack4_pl (by decide) (fun i hi => by unfold sAck; rw [if_neg (by omega)]) (by decide) (by decide)
  refine h4.mono ?_
  rintro e w4 ⟨v4, rfl, f4, c4⟩
  have F4 := hide f4
  have B4 := hide c4
  clear h4 f4 c4
  go_wp2_with fail
  have h5 := fixed_Ack (S := noS) (sT := sAck) (nT := 99) (a := 35) (n := 64) w4 _ (noS_lt _) ack5_pl (by decide) (fun i hi => by unfold sAck; rw [if_neg (by omega)]) (by decide) (by decide)
  refine h5.mono ?_
  rintro e w5 ⟨v5, rfl, f5, c5⟩
  have F5 := hide f5
  have B5 := hide c5
  clear h5 f5 c5
  simp only []
  go_at_K
  rename_i hK
  refine hK _ _ ?_
  have hrun := run_bs w5 141 270 i0 [v1, v2, v3, v4, v5] Tryz.underlying141 hi hsz hzr (by simp) (by simp)
  refine wpList_bs rfl 141 5 _ rfl (.slice (some ⟨w5.heap.size, 0, none⟩) 5 5) (w5.alloc (.cells (List.flatMap FV.l [v1, v2, v3, v4, v5]).toArray 270)) (by simpa [Act.eval, parts] using hrun) ?_
  clear hK hrun
  generalize hL : (List.flatMap FV.l [v1, v2, v3, v4, v5]).toArray = L
  have HL := hide hL
  clear hL
  simp only [Act.put]
  have M5 : Mades sAck 99 (w.alloc (.cells #[.int .i64 0, .int .i64 0, .slice none 0 0] 143)) w5 fAck [v1, v2, v3, v4, v5] :=
    .cons (unhide F1) (unhide B1) (.cons (unhide F2) (unhide B2) (.cons (unhide F3) (unhide B3) (.cons (unhide F4) (unhide B4) (.cons (unhide F5) (unhide B5) (.nil w5)))))
  have A0 : Arr (w5.alloc (.cells L 270)) w.heap.size 143 [.int .i64 0, .int .i64 0, .slice none 0 0] := ((Arr.new w _ _).later M5.bel).alloc _
  have HD := hide (fun W => frm_done (W := W) (dom := 5) (sgn := 4) (tyF := 270) (by simp) (below_one w _) M5)
  rw [unhide HL] at HD
  clear F1 B1 F2 B2 F3 B3 F4 B4 F5 B5 M5 HL hi hsz hzr
  generalize w5.alloc (.cells L 270) = W at *
  have c0 : W.cell? ⟨w.heap.size, 0, none⟩ = some (.int .i64 0) := by simpa using A0.cell 0
  have c1 : W.cell? ⟨w.heap.size, 1, none⟩ = some (.int .i64 0) := by simpa using A0.cell 1
  have c2 : W.cell? ⟨w.heap.size, 2, none⟩ = some (.slice none 0 0) := by simpa using A0.cell 2
  have z0 := A0.frozen 0
  have z1 := A0.frozen 1
  have z2 := A0.frozen 2
  go_wp2
  have A3 := ((A0.set 0 (.int .i64 5)).set 1 (.int .i64 4)).set 2 (.slice (some ⟨w5.heap.size, 0, none⟩) 5 5)
  refine bodyPost_ret (results_cell_row rfl _ _ w.heap.size 143 _ (0, 0) _ rfl A3 Tryz.underlying143 rfl (by kernel_rfl)) rfl ?_
  exact unhide HD _ ((((Buts.refl (fun b => b = w.heap.size) W).setCell (g := w.heap.size) rfl 0 _).setCell (g := w.heap.size) rfl 1 _).setCell (g := w.heap.size) rfl 2 _)
end Go.Proofs.YtfedajifefldmaaGreat
namespace Go.Proofs.YtfedajifefldmaaGreat
open Go.RowKit
set_option maxHeartbeats 1000000 in
set_option maxRecDepth 100000 in
theorem tell_Ack {S : Nat → Prop} {w0 : World} {sT : Nat → Kd} {nT : Nat} {fs : List FdS} {tyF : TypeId} {g n c : Nat} {vs : List FV} (hTab : Tab S w0 sT nT fs tyF g vs) (hn : n ≤ vs.length) (hc : n ≤ c) (hc2 : c ≤ 1000)
    (w : World) (dom : Int) (q : Nat) (ty : TypeId) (sh : Nat → Kd) (N : Nat) (x : Nat → Int) (o : Nat) (hb : Kept S w0 w) (hT : Trm w q ty sh N x) (hSg : Seg sT nT sh N o) (hl : ((fsAll (fs.take n)).enc (sft o x)).length ≤ 100000) :
    Calls Tryz.prog 168 #[.int .i64 dom, .slice (some ⟨g, 0, none⟩) n c, .pointer (some ⟨q, o, none⟩)] w (TPost (tellL dom (fsAll (fs.take n)) (sft o x)) w) := by
  have hA := allFit_Ack hTab hn hc hc2 w q ty sh N x o hb hT hSg
  cases hR : (fsAll (fs.take n)).fit (sft o x) with
  | false =>
    rw [hR] at hA
    have HL : Hid (tellL dom (fsAll (fs.take n)) (sft o x) = []) := by
      show _ = _
      unfold tellL; rw [hR]; rfl
    rw [unhide HL]
    clear hR hTab hb hT hSg hl
    go_enter Tryz.func168, Tryz.ntmps168
    go_wp2_with (go_at_call 167; refine hA.mono ?_; rintro e w1 ⟨rfl, hB⟩)
    go_ret
    exact TPost.nil hB
  | true =>
    rw [hR] at hA
    have HL : Hid (tellL dom (fsAll (fs.take n)) (sft o x) = hdL dom ++ (fsAll (fs.take n)).enc (sft o x)) := by
      show _ = _
      unfold tellL; rw [hR]; rfl
    rw [unhide HL]
    clear hR
    have hP := fun W base p lv l => putAll_Ack hTab hn hc hc2 W base p lv l q ty sh N x o
    have HB := hide hb
    have HT := hide hT
    have HS := hide hSg
    have HH := hide hl
    clear hTab hb hT hSg hl
    go_enter Tryz.func168, Tryz.ntmps168
    go_wp2_with fail
    refine hA.mono ?_
    rintro e w1 ⟨rfl, hB1⟩
    clear hA
    have B1 := hide hB1
    clear hB1
    go_wp2_with fail
    refine (newWriter_any w1).mono ?_
    rintro e w2 ⟨rfl, hW2, hB2, -⟩
    have W2 := hide hW2
    have B2 := hide hB2
    clear hW2 hB2
    go_wp2_with fail
    refine (head_any dom w2).mono ?_
    rintro e w3 ⟨s, rfl, hs3, hsl, hB3, -⟩
    have hsn : s.n ≤ 4 := by rw [← hs3.len, hsl]; unfold hdL; split <;> simp
    have hF := wFixed_any w1.heap.size w1.heap.size (.slice none 0 0) [] 0 s w3 ((unhide W2).later hB3) hs3 (by simp; omega) (Nat.le_trans (unhide B2).size hB3.size)
    rw [hsl] at hF
    have hsv : s.v = .slice s.a s.n s.c := rfl
    rw [hsv] at hF ⊢
    have B3 := hide hB3
    clear hsl hsn hsv hs3 hB3
    go_wp2_with fail
    refine hF.mono ?_
    rintro e w4 ⟨rfl, lv4, hW4⟩
    clear hF
    have hst4 : Wst w1.heap.size w1.heap.size (.slice none 0 0) (hdL dom) 0 w3 w4 lv4 := by
      have : wLay (hdL dom) ([], 0) = (hdL dom, 0) := by simp [wLay]
      rw [this] at hW4
      exact hW4
    clear hW4
    have hE := tell_mid (unhide HB) (unhide HT) (unhide B1) (unhide W2) (unhide B2) (unhide B3) hst4
    have hU := hP w4 w1.heap.size w1.heap.size lv4 (hdL dom) hE.1 hst4.wtr hE.2.1 hE.2.2.1 hE.2.2.2.1 hE.2.2.2.2 (unhide HS) (by have := unhide HH; have := hdL_le dom; omega)
    have S4 := hide hst4
    clear hP hst4 hE
    go_wp2_with fail
    refine hU.mono ?_
    rintro e w5 ⟨rfl, lv5, hW5⟩
    clear hU
    simp only at hW5
    have hD := wDone_any w1.heap.size w1.heap.size lv5 _ 0 w5 hW5.wtr (by have := unhide HH; have := hdL_le dom; rw [List.length_append]; omega)
    have HW : Hid (Below w.heap.size w w5 ∧ IsB (hdL dom ++ (fsAll (fs.take n)).enc (sft o x))) := hide ⟨tell_bel (unhide B1) (unhide B2) (unhide B3) (unhide S4) hW5, hW5.wtr.isB⟩
    clear hW5 S4
    have hw0 : wOut (hdL dom ++ (fsAll (fs.take n)).enc (sft o x)) 0 = hdL dom ++ (fsAll (fs.take n)).enc (sft o x) := by simp [wOut]
    rw [hw0] at hD
    clear hw0
    go_wp2_with fail
    refine hD.mono ?_
    rintro e w6 ⟨hB6, v, rfl, hown⟩
    obtain ⟨av, cv, rfl⟩ := own_parts hown
    have HE := hide (TPost.of (unhide HW).1 hB6 hown (unhide HW).2)
    clear hD hown HW hB6
    generalize (hdL dom ++ (fsAll (fs.take n)).enc (sft o x)).length = m at HE ⊢
    go_wp2
    go_ret
    exact unhide HE
set_option maxHeartbeats 2000000 in
set_option maxRecDepth 100000 in
theorem say_Ack {S : Nat → Prop} {w0 : World} {sT : Nat → Kd} {nT : Nat} {fs : List FdS} {tyF : TypeId} {g n c : Nat} {vs : List FV} (hTab : Tab S w0 sT nT fs tyF g vs) (hn : n ≤ vs.length) (hc : n ≤ c) (hc2 : c ≤ 1000) (w : World) (dom : Int) (sgn : Nat) (x : Nat → Int) (hb : Kept S w0 w) (hok : ∀ i, i < nT → (sT i).ok (x i)) (hsn : sgn ≤ n) (hl : ((fsAll (fs.take sgn)).enc x).length ≤ 100000) :
    Calls Tryz.prog 216 #[.agg #[.int .i64 dom, .int .i64 sgn, .slice (some ⟨g, 0, none⟩) n c], .agg (cl sT nT x).toArray] w (TPost (tellL dom (fsAll (fs.take sgn)) x) w) := by
  have b2 : Below w.heap.size w ((w.alloc (.cells #[.int .i64 dom, .int .i64 sgn, .slice (some ⟨g, 0, none⟩) n c] 143)).alloc (.cells (cl sT nT x).toArray 75)) := below_more (below_one w _) _ (by simp)
  have A1 := (Arr.new w 143 [.int .i64 dom, .int .i64 sgn, .slice (some ⟨g, 0, none⟩) n c]).alloc (.cells (cl sT nT x).toArray 75)
  have A2 : Arr ((w.alloc (.cells #[.int .i64 dom, .int .i64 sgn, .slice (some ⟨g, 0, none⟩) n c] 143)).alloc (.cells (cl sT nT x).toArray 75)) (w.heap.size + 1) 75 (cl sT nT x) := by
    have := Arr.new (w.alloc (.cells #[.int .i64 dom, .int .i64 sgn, .slice (some ⟨g, 0, none⟩) n c] 143)) 75 (cl sT nT x)
    have s1 : (w.alloc (.cells #[.int .i64 dom, .int .i64 sgn, .slice (some ⟨g, 0, none⟩) n c] 143)).heap.size = w.heap.size + 1 := by simp
    rw [s1] at this
    exact this
  have hT2 : Trm _ _ _ _ _ _ := ⟨A2, hok, by decide, by decide, by decide⟩
  have hU := fun W (h : Below _ _ W) => tell_Ack hTab (Nat.le_trans hsn hn) (Nat.le_trans hsn hc) hc2 W dom (w.heap.size + 1) 75 sT nT x 0 ((hb.below b2).below h) (hT2.later h) ⟨by omega, fun j hj => by rw [Nat.zero_add]⟩ (by rw [sft_zero]; exact hl)
  simp only [sft_zero] at hU
  have c0 : ((w.alloc (.cells #[.int .i64 dom, .int .i64 sgn, .slice (some ⟨g, 0, none⟩) n c] 143)).alloc (.cells (cl sT nT x).toArray 75)).cell? ⟨w.heap.size, 0, none⟩ = some (.int .i64 dom) := A1.cell 0
  have c1 : ((w.alloc (.cells #[.int .i64 dom, .int .i64 sgn, .slice (some ⟨g, 0, none⟩) n c] 143)).alloc (.cells (cl sT nT x).toArray 75)).cell? ⟨w.heap.size, 1, none⟩ = some (.int .i64 sgn) := A1.cell 1
  have c2 : ((w.alloc (.cells #[.int .i64 dom, .int .i64 sgn, .slice (some ⟨g, 0, none⟩) n c] 143)).alloc (.cells (cl sT nT x).toArray 75)).cell? ⟨w.heap.size, 2, none⟩ = some (.slice (some ⟨g, 0, none⟩) n c) := A1.cell 2
  have hsc : sgn ≤ c := Nat.le_trans hsn hc
  have HB := hide b2
  clear hTab hb hok hl A1 A2 hT2 b2
  generalize hM : tellL dom (fsAll (fs.take sgn)) x = L at *
  clear hM
  generalize hN : cl sT nT x = X at *
  clear hN
  go_enter Tryz.func216, Tryz.ntmps216
  go_wp2
  generalize ((w.alloc (.cells #[.int .i64 dom, .int .i64 sgn, .slice (some ⟨g, 0, none⟩) n c] 143)).alloc (.cells X.toArray 75)) = W at *
  have hU := hU W.drew (bel_drewN (Below.refl _ _) 1)
  refine wp_region_noPanic ?_
  refine wp_region_held_drew (S := fun w' => w'.cell? ⟨w.heap.size, 0, none⟩ = some (.int .i64 dom) ∧ w'.cell? ⟨w.heap.size, 1, none⟩ = some (.int .i64 sgn) ∧ w'.cell? ⟨w.heap.size, 2, none⟩ = some (.slice (some ⟨g, 0, none⟩) n c)) (by kernel_rfl) ⟨c0, c1, c2⟩ (fun hHeld => ?_)
  refine wpAnyH_take (i := 0) (v := (.pointer (some ⟨w.heap.size, 0, none⟩))) rfl (by kernel_rfl) (by kernel_rfl) (by kernel_rfl) (fun _ _ _ h => h) (Or.inl ⟨by rfl, fun w hSw => by go_simp⟩) hHeld ?_
  simp [Act.put]
  refine wpAnyH_take (i := 1) (v := (.int .i64 dom)) rfl (by kernel_rfl) (by kernel_rfl) (by kernel_rfl) (fun _ _ _ h => h) (Or.inl ⟨by rfl, fun w hSw => by obtain ⟨h1, h2, h3⟩ := hSw; go_simp⟩) hHeld ?_
  simp [Act.put]
  refine wpAnyH_take (i := 2) (v := (.pointer (some ⟨w.heap.size, 2, none⟩))) rfl (by kernel_rfl) (by kernel_rfl) (by kernel_rfl) (fun _ _ _ h => h) (Or.inl ⟨by rfl, fun w hSw => by go_simp⟩) hHeld ?_
  simp [Act.put]
  refine wpAnyH_take (i := 3) (v := (.slice (some ⟨g, 0, none⟩) n c)) rfl (by kernel_rfl) (by kernel_rfl) (by kernel_rfl) (fun _ _ _ h => h) (Or.inl ⟨by rfl, fun w hSw => by obtain ⟨h1, h2, h3⟩ := hSw; go_simp⟩) hHeld ?_
  simp [Act.put]
  refine wpAnyH_take (i := 4) (v := (.pointer (some ⟨w.heap.size, 1, none⟩))) rfl (by kernel_rfl) (by kernel_rfl) (by kernel_rfl) (fun _ _ _ h => h) (Or.inl ⟨by rfl, fun w hSw => by go_simp⟩) hHeld ?_
  simp [Act.put]
  refine wpAnyH_take (i := 5) (v := (.int .i64 sgn)) rfl (by kernel_rfl) (by kernel_rfl) (by kernel_rfl) (fun _ _ _ h => h) (Or.inl ⟨by rfl, fun w hSw => by obtain ⟨h1, h2, h3⟩ := hSw; go_simp⟩) hHeld ?_
  simp [Act.put]
  refine wpAnyH_take (i := 6) (v := (.slice (some ⟨g, 0, none⟩) sgn c)) rfl (by kernel_rfl) (by kernel_rfl) (by kernel_rfl) (fun _ _ _ h => h) (Or.inl ⟨by rfl, fun w hSw => by go_simp⟩) hHeld ?_
  simp [Act.put]
  refine wpAnyH_ready (rs := [7]) (by kernel_rfl) (by simp) ?_
  refine AllReadyH.cons rfl (fun K hK => ?_) AllReadyH.nil
  go_simp
  refine hU.mono ?_
  rintro e w1 ⟨av, cv, rfl, hown, hLB, hB1⟩
  refine hK.out _ _ ?_ (fun hHeld => ?_)
  · exact ⟨by rw [← hHeld.1]; exact World.cell?_of_block (hB1.block _ (cell_lt hHeld.1)), by rw [← hHeld.2.1]; exact World.cell?_of_block (hB1.block _ (cell_lt hHeld.2.1)), by rw [← hHeld.2.2]; exact World.cell?_of_block (hB1.block _ (cell_lt hHeld.2.2))⟩
  clear hK K
  refine wpAnyH_take (i := 8) (v := (.slice av L.length cv)) rfl (by kernel_rfl) (by kernel_rfl) (by kernel_rfl) (fun _ _ _ h => h) (Or.inl ⟨by rfl, fun w hSw => by go_simp⟩) hHeld ?_
  simp [Act.put]
  refine wpAnyH_done (by kernel_rfl) ?_ _
  unfold NoPanic
  clear hHeld
  go_wp2
  go_ret
  exact ⟨av, cv, rfl, own_mono hown (unhide HB).size, hLB, (unhide HB).trans (undrew_bel hB1 (unhide HB).size)⟩
theorem Tryz.szJAck : (Tryz.prog.info? 75).map (·.size) = some 99 := by kernel_rfl
set_option maxHeartbeats 2000000 in
set_option maxRecDepth 100000 in
theorem sayAck_any (w : World) (x : Nat → Int) (hok : ∀ i, i < 99 → (sAck i).ok (x i)) :
    Calls Tryz.prog 97 #[.agg (cl sAck 99 x).toArray] w (TPost (tellL 5 (fsAll (fAck.take 4)) x) w) := by
  have b1 : Below w.heap.size w (w.alloc (.cells (cl sAck 99 x).toArray 75)) := below_one w _
  have A1 := Arr.new w 75 (cl sAck 99 x)
  have r1 : (w.alloc (.cells (cl sAck 99 x).toArray 75)).rangeAt w.heap.size 0 (cl sAck 99 x) := fun j v hj => by rw [Nat.zero_add, A1.cell, hj]
  have hlt := A1.lt
  have hZ : (Tryz.prog.info? 75).map (·.size) = some (cl sAck 99 x).length := by rw [cl_length]; exact Tryz.szJAck
  have hSay := fun W w1 g vs (h : Tab (New noS W w1) w1 sAck 99 fAck 270 g vs) (hb : W.heap.size ≤ w1.heap.size) => say_Ack (n := 5) (c := 5) h (by rw [h.len]; decide) (Nat.le_refl _) (by decide) w1 5 4 x (Kept.refl (New.lt (noS_lt _) hb)) hok (by decide) (encAck_le x)
  have HB := hide b1
  clear hok A1 b1
  generalize tellL 5 (fsAll (fAck.take 4)) x = L at *
  generalize cl sAck 99 x = X at *
  go_enter Tryz.func97, Tryz.ntmps97
  go_wp2
  generalize w.alloc (.cells X.toArray 75) = W at *
  have hC := ackForm_any W.drew
  refine wp_region_noPanic ?_
  refine wp_region_held_drew (S := fun w' => w'.rangeAt w.heap.size 0 X) (by kernel_rfl) r1 (fun hHeld => ?_)
  refine wpAnyH_take (i := 1) (v := _) rfl (by kernel_rfl) (by kernel_rfl) (by kernel_rfl) (fun _ _ _ h => h) (yieldsIf_load_mid (by rfl) _ _ rfl _ _ rfl _ _ (fun _ h => h) Tryz.underlying75 rfl hZ) hHeld ?_
  simp [Act.put]
  refine wpAnyH_ready (rs := [0]) (by kernel_rfl) (by simp) ?_
  refine AllReadyH.cons rfl (fun K hK => ?_) AllReadyH.nil
  go_simp
  refine hC.mono ?_
  rintro e w1 ⟨g, vs, rfl, hTab, hB1⟩
  have hfl : fAck.length = 5 := rfl
  rw [hfl]
  clear hfl
  have hU := hSay _ _ _ _ hTab hB1.size
  refine hK.out _ _ (fun j v hj => (World.cell?_of_block (hB1.block _ hlt)).trans (hHeld j v hj)) (fun hHeld => ?_)
  have hlt1 : w.heap.size < w1.heap.size := Nat.lt_of_lt_of_le hlt hB1.size
  clear hK K hTab hC hSay
  refine wpAnyH_ready (rs := [2]) (by kernel_rfl) (by simp) ?_
  refine AllReadyH.cons rfl (fun K hK => ?_) AllReadyH.nil
  go_simp
  refine hU.mono ?_
  rintro e w2 ⟨av, cv, rfl, hown, hLB, hB2⟩
  refine hK.out _ _ (fun j v hj => (World.cell?_of_block (hB2.block _ hlt1)).trans (hHeld j v hj)) (fun hHeld => ?_)
  clear hK K hU
  refine wpAnyH_take (i := 3) (v := (.slice av L.length cv)) rfl (by kernel_rfl) (by kernel_rfl) (by kernel_rfl) (fun _ _ _ h => h) (Or.inl ⟨by rfl, fun w hSw => by go_simp⟩) hHeld ?_
  simp [Act.put]
  refine wpAnyH_done (by kernel_rfl) ?_ _
  unfold NoPanic
  clear hHeld
  go_wp2
  go_ret
  have hb1 := unhide HB
  exact ⟨av, cv, rfl, own_mono hown (Nat.le_trans hb1.size hB1.size), hLB, (hb1.trans (undrew_bel hB1 hb1.size)).trans (hB2.mono (Nat.le_trans hb1.size hB1.size))⟩
end Go.Proofs.YtfedajifefldmaaGreat
namespace Go.Proofs.YtfedajifefldmaaGreat
open Go.RowKit
set_option maxHeartbeats 2000000 in
set_option maxRecDepth 100000 in
theorem decode_Ack {S : Nat → Prop} {w0 : World} {tyF : TypeId} {g : Nat} {vs : List FV} (hTab : Tab S w0 sAck 99 fAck tyF g vs) (w : World) (dom sgn : Int) (b : Sl) (hbo : b.Ok w) (hb : Kept S w0 w) :
    Calls Tryz.prog 67 #[.agg #[.int .i64 dom, .int .i64 sgn, .slice (some ⟨g, 0, none⟩) 5 5], b.v] w (DPost dom (fsAll fAck) sAck 99 b.l w) := by
  obtain ⟨Z, it, hZ, hZl, hit, hz, hzv⟩ := zeroAck_named
  have hD := DSt.new w 143 75 [.int .i64 dom, .int .i64 sgn, .slice (some ⟨g, 0, none⟩) 5 5] Z
  have hvl : vs.length = 5 := hTab.len
  have hsz : (Tryz.prog.info? 75).map (·.size) = some Z.length := by rw [hZl]; exact Tryz.szTAck
  have hsa : (Tryz.prog.info? 75).map (·.size) = some Z.toArray.size := by rw [List.size_toArray, hZl]; exact Tryz.szTAck
  have hoc : Z.toArray.all (·.oneCell') = true := by rw [hZ]; exact all_oneCell_toArray (cl_oc _ _ _)
  have HSZ := hide hsz
  have HSAZ := hide hsa
  have HOCZ := hide hoc
  have HZE := hide hZ
  have hSp := fun W (h : Below w.heap.size w W) => split_any b W (hbo.later h)
  have HB := hide hb
  have HT := hide hTab
  have HN := hide hvl
  have HZL := hide hZl
  clear hit hz hsz hsa hoc hZ hbo hb hTab hvl hZl
  have hbv : b.v = .slice b.a b.n b.c := rfl
  rw [hbv] at hSp ⊢
  generalize b.a = ba at *
  generalize b.n = bn at *
  generalize b.c = bc at *
  generalize b.l = bl at *
  clear hbv b
  go_enter Tryz.func67, Tryz.ntmps67
  go_wp2_with fail
  have hC := hSp _ hD.bel
  clear hSp
  have S0 := hide hD
  clear hD
  generalize ((((w.alloc (.cells ([.int .i64 dom, .int .i64 sgn, .slice (some ⟨g, 0, none⟩) 5 5]).toArray 143)).alloc (.cells Z.toArray 75)).alloc (.cells Z.toArray 75)).alloc (.cells Z.toArray 75)) = W at *
  refine hC.mono ?_
  rintro e w1 ⟨⟨s1, rfl, hs1, hsl1⟩, hB1⟩
  have hSt := (unhide S0).later hB1
  have hs1 := hs1.later hB1
  have ST := hide hSt
  clear hC S0 hB1
  have c0 : w1.cell? ⟨w.heap.size, 0, none⟩ = some (.int .i64 dom) := (unhide ST).a0.cell 0
  by_cases h0 : (spl bl).2.2 = 0
  · by_cases h1 : (spl bl).1 = dom
    · have hle := spl_le bl
      have hR := newReader_any s1 w1 hs1 (by rw [← hs1.len, hsl1]; omega)
      have hDF := fun (p q N : Nat) (s t : Sl) (fl : Int) (ty : TypeId) (sh : Nat → Kd) (x : Nat → Int) (w w' : World) => dec_form (f := fsAll fAck) (l := bl) (p := p) (q := q) (N := N) (s := s) (t := t) (fl := fl) (ty := ty) (sh := sh) (x := x) (w := w) (w' := w') h0 h1
      have hDE := fun (p q N : Nat) (s t : Sl) (fl : Int) (ty : TypeId) (sh : Nat → Kd) (x : Nat → Int) (w w' : World) => dec_end (f := fsAll fAck) (l := bl) (p := p) (q := q) (N := N) (s := s) (t := t) (fl := fl) (ty := ty) (sh := sh) (x := x) (w := w) (w' := w') h0 h1
      have HDF := hide hDF
      have HDE := hide hDE
      have hsv : s1.v = .slice s1.a s1.n s1.c := rfl
      rw [h0, h1, hsv]
      rw [hsv] at hR
      have HLE := hide hle
      have HL1 := hide hsl1
      clear hDF hDE hle hsl1 hs1 hsv h0 h1
      generalize s1.a = sa at *
      generalize s1.n = sn at *
      generalize s1.c = sc at *
      go_wp2_with fail
      refine hR.mono ?_
      rintro e w2 ⟨p, s, rfl, hRd, hsl, hpw, hsx, hB2⟩
      have hSt2 := (unhide ST).later hB2
      have hlt := (unhide ST).lt
      have hK2 : Kept S w0 w2 := (unhide HB).below hSt2.bel
      have hnS : ∀ k, w.heap.size ≤ k → ¬ S k := fun k hk hS => by have := (unhide HB).lt k hS; have := (unhide HB).size; omega
      have hTr : Trm w2 (w.heap.size + 3) 75 sAck 99 (fun _ => 0) := ⟨by rw [← unhide HZE]; exact hSt2.a3, fun i _ => kd_zero _, by decide, by decide, by decide⟩
      have hG := getAll_Ack (n := 5) (c := 5) (unhide HT) (by rw [unhide HN]; decide) (Nat.le_refl _) (by decide) w2 p s 0 (w.heap.size + 3) 75 sAck 99 (fun _ => 0) 0 hK2 hRd (hnS p (by omega)) (hnS _ (by omega)) hTr ⟨by omega, fun j hj => by rw [Nat.zero_add]⟩ (fun y hy e => by have := hsx y hy; omega) (by rw [← hRd.ok.len, hsl, unhide HL1]; have := unhide HLE; omega)
      have hfk : fAck.take 5 = fAck := rfl
      rw [hfk] at hG
      have c2 : w2.cell? ⟨w.heap.size, 2, none⟩ = some (.slice (some ⟨g, 0, none⟩) 5 5) := hSt2.a0.cell 2
      have ST2 := hide hSt2
      have HK2 := hide hK2
      have HNS := hide hnS
      have HSL := hide (hsl.trans (unhide HL1))
      have HP : Hid (w.heap.size + 3 < p) := hide (by omega)
      clear hR hRd hsl hpw hsx hB2 hSt2 hlt hK2 hnS hTr hfk ST c0 HL1
      go_wp2_with fail
      refine hG.mono ?_
      rintro e w3 ⟨rfl, t, fl, x, hR3⟩
      have hSt3 := (unhide ST2).got hR3.but (unhide HP) hR3.trm.arr
      have hK3 : Kept S w0 w3 := (unhide HK2).buts hR3.but (fun i hi hs => by
        rcases hs with rfl | rfl
        · exact unhide HNS _ (by have := unhide HP; omega) hi
        · exact unhide HNS _ (by omega) hi)
      have hDn := rDone_any p t fl w3 hR3.rdr
      have hF := allFit_Ack (n := 5) (c := 5) (unhide HT) (by rw [unhide HN]; decide) (Nat.le_refl _) (by decide) w3 (w.heap.size + 3) 75 sAck 99 x 0 hK3 hR3.trm ⟨by omega, fun j hj => by rw [Nat.zero_add]⟩
      have hfk : fAck.take 5 = fAck := rfl
      rw [hfk, sft_zero] at hF
      have c3 : w3.cell? ⟨w.heap.size, 2, none⟩ = some (.slice (some ⟨g, 0, none⟩) 5 5) := hSt3.a0.cell 2
      have hEr := fun h => unhide HDF _ _ _ _ _ _ _ _ _ _ _ (unhide HSL) hR3 h
      have hEe := fun h => unhide HDE _ _ _ _ _ _ _ _ _ _ _ (unhide HSL) hR3 h
      have hMok := hR3.trm.ok
      have HME : Hid (cl sAck 99 x = cl sAck 99 x) := rfl
      have hsM : (Tryz.prog.info? 75).map (·.size) = some (cl sAck 99 x).length := by rw [cl_length]; exact Tryz.szTAck
      have hsaM : (Tryz.prog.info? 75).map (·.size) = some (cl sAck 99 x).toArray.size := by rw [List.size_toArray, cl_length]; exact Tryz.szTAck
      have hlM : Z.toArray.size = (cl sAck 99 x).toArray.size := by rw [List.size_toArray, List.size_toArray, cl_length, unhide HZL]
      have hocM : (cl sAck 99 x).toArray.all (·.oneCell') = true := all_oneCell_toArray (cl_oc _ _ _)
      have HSM := hide hsM
      have HSAM := hide hsaM
      have HLM := hide hlM
      have HOCM := hide hocM
      have HOK := hide hMok
      have ST := hide hSt3
      have HER := hide hEr
      have HEE := hide hEe
      clear hG hR3 hSt3 hK3 hfk hEr hEe hMok hsM hsaM hlM hocM HT HN HB ST2 HK2 HNS HDF HDE HSL HP c2
      generalize hRE : rEnd t.l fl = re at *
      clear hRE
      generalize hFX : (fsAll fAck).fit x = fx at *
      have HFX := hide hFX
      clear hFX
      by_cases hre : re = 0
      · have HX := hide (unhide HEE hre)
        subst hre
        clear HER HEE
        go_wp2_with fail
        refine hDn.mono ?_
        rintro e w4 ⟨rfl, rfl⟩
        clear hDn
        go_wp2_with fail
        refine hF.mono ?_
        rintro e w5 ⟨rfl, hB5⟩
        have ST := hide ((unhide ST).later hB5)
        clear hF hB5 c3
        cases fx with
        | true =>
          rw [if_pos rfl] at HX
          generalize hMM : cl sAck 99 x = M at *
          have HME := hide hMM.symm
          clear hMM
          go_upto_region 11 with fail
          refine wp_region_lit ?_
          refine wpList_load_mid rfl 75 (.tmp 7) rfl (w.heap.size + 3) 0 rfl M _ (unhide ST).a3.range Tryz.underlying75 rfl (unhide HSM) ?_
          simp only [Act.put]
          refine wpList_store_row rfl 75 (.tmp 4) (.tmp 43) rfl (w.heap.size + 1) M.toArray rfl rfl 75 Z.toArray (unhide ST).a1 (unhide HSAM) (unhide HLM) (unhide HOCM) ?_
          refine wpList_plain rfl fun K1 h => ?_; go_simp; refine h _ _ ?_; clear h K1
          refine wpList_nil ?_
          go_wp2
          refine bodyPost_ret (results_row_tmp rfl _ _ (w.heap.size + 1) 75 M.toArray (0, 0) _ rfl (.int .i64 0) rfl (setRow_heap _ (w.heap.size + 1) _ _ _ _ (unhide ST).a1) Tryz.underlying75 rfl (unhide HSAM)) rfl ?_
          exact DPost.of (unhide HX) (unhide HME) (unhide HOK) (below_setRow (unhide ST).bel (Nat.le_succ _) _)
        | false =>
          rw [if_neg Bool.false_ne_true] at HX
          go_upto_region 10 with fail
          refine wp_region_lit ?_
          refine wpList_load_mid rfl 75 (.tmp 6) rfl (w.heap.size + 2) 0 rfl Z _ (unhide ST).a2.range Tryz.underlying75 rfl (unhide HSZ) ?_
          simp only [Act.put]
          refine wpList_store_row rfl 75 (.tmp 4) (.tmp 42) rfl (w.heap.size + 1) Z.toArray rfl rfl 75 Z.toArray (unhide ST).a1 (unhide HSAZ) rfl (unhide HOCZ) ?_
          refine wpList_plain rfl fun K1 h => ?_; go_simp; refine h _ _ ?_; clear h K1
          refine wpList_nil ?_
          go_wp2
          refine bodyPost_ret (results_row_tmp rfl _ _ (w.heap.size + 1) 75 Z.toArray (0, 0) _ rfl (.int .i64 90) rfl (setRow_heap _ (w.heap.size + 1) _ _ _ _ (unhide ST).a1) Tryz.underlying75 rfl (unhide HSAZ)) rfl ?_
          exact DPost.of (unhide HX) (unhide HZE) (fun i _ => kd_zero _) (below_setRow (unhide ST).bel (Nat.le_succ _) _)
      · have HX := hide (unhide HER hre)
        clear HER HEE hF
        go_wp2_with fail
        refine hDn.mono ?_
        rintro e w4 ⟨rfl, rfl⟩
        clear hDn
        go_upto_region 10 with fail
        refine wp_region_lit ?_
        refine wpList_load_mid rfl 75 (.tmp 6) rfl (w.heap.size + 2) 0 rfl Z _ (unhide ST).a2.range Tryz.underlying75 rfl (unhide HSZ) ?_
        simp only [Act.put]
        refine wpList_store_row rfl 75 (.tmp 4) (.tmp 42) rfl (w.heap.size + 1) Z.toArray rfl rfl 75 Z.toArray (unhide ST).a1 (unhide HSAZ) rfl (unhide HOCZ) ?_
        refine wpList_plain rfl fun K1 h => ?_; go_simp; refine h _ _ ?_; clear h K1
        refine wpList_nil ?_
        go_wp2
        refine bodyPost_ret (results_row_tmp rfl _ _ (w.heap.size + 1) 75 Z.toArray (0, 0) _ rfl (.int .i64 90) rfl (setRow_heap _ (w.heap.size + 1) _ _ _ _ (unhide ST).a1) Tryz.underlying75 rfl (unhide HSAZ)) rfl ?_
        exact DPost.of (unhide HX) (unhide HZE) (fun i _ => kd_zero _) (below_setRow (unhide ST).bel (Nat.le_succ _) _)
    · have HX := hide (dec_dom (f := fsAll fAck) h0 h1)
      rw [h0]
      generalize (spl bl).1 = d at *
      generalize (spl bl).2.1 = r at *
      obtain ⟨sa, sn, sc, sl⟩ := s1
      simp only [Sl.v] at *
      clear hs1 hsl1 h0
      go_upto_region 6 with fail
      refine wp_region_lit ?_
      refine wpList_load_mid rfl 75 (.tmp 6) rfl (w.heap.size + 2) 0 rfl Z _ (unhide ST).a2.range Tryz.underlying75 rfl (unhide HSZ) ?_
      simp only [Act.put]
      refine wpList_store_row rfl 75 (.tmp 4) (.tmp 26) rfl (w.heap.size + 1) Z.toArray rfl rfl 75 Z.toArray (unhide ST).a1 (unhide HSAZ) rfl (unhide HOCZ) ?_
      refine wpList_plain rfl fun K1 h => ?_; go_simp; refine h _ _ ?_; clear h K1
      refine wpList_nil ?_
      go_wp2
      refine bodyPost_ret (results_row_tmp rfl _ _ (w.heap.size + 1) 75 Z.toArray (0, 0) _ rfl (.int .i64 91) rfl (setRow_heap _ (w.heap.size + 1) _ _ _ _ (unhide ST).a1) Tryz.underlying75 rfl (unhide HSAZ)) rfl ?_
      exact DPost.of (unhide HX) (unhide HZE) (fun i _ => kd_zero _) (below_setRow (unhide ST).bel (Nat.le_succ _) _)
  · have HX := hide (dec_far (dom := dom) (f := fsAll fAck) h0)
    generalize (spl bl).1 = d at *
    generalize (spl bl).2.2 = k at *
    generalize (spl bl).2.1 = r at *
    obtain ⟨sa, sn, sc, sl⟩ := s1
    simp only [Sl.v] at *
    clear hs1 hsl1
    go_upto_region 4 with fail
    refine wp_region_lit ?_
    refine wpList_load_mid rfl 75 (.tmp 6) rfl (w.heap.size + 2) 0 rfl Z _ (unhide ST).a2.range Tryz.underlying75 rfl (unhide HSZ) ?_
    simp only [Act.put]
    refine wpList_plain rfl fun K1 h => ?_; go_simp; refine h _ _ ?_; clear h K1
    refine wpList_store_row rfl 75 (.tmp 4) (.tmp 20) rfl (w.heap.size + 1) Z.toArray rfl rfl 75 Z.toArray (unhide ST).a1 (unhide HSAZ) rfl (unhide HOCZ) ?_
    refine wpList_plain rfl fun K1 h => ?_; go_simp; refine h _ _ ?_; clear h K1
    refine wpList_nil ?_
    go_wp2
    refine bodyPost_ret (results_row_tmp rfl _ _ (w.heap.size + 1) 75 Z.toArray (0, 0) _ rfl (.int .i64 k) rfl (setRow_heap _ (w.heap.size + 1) _ _ _ _ (unhide ST).a1) Tryz.underlying75 rfl (unhide HSAZ)) rfl ?_
    exact DPost.of (unhide HX) (unhide HZE) (fun i _ => kd_zero _) (below_setRow (unhide ST).bel (Nat.le_succ _) _)
end Go.Proofs.YtfedajifefldmaaGreat
namespace Go.Proofs.YtfedajifefldmaaGreat
open Go.RowKit
set_option maxHeartbeats 2000000 in
set_option maxRecDepth 100000 in
theorem encode_Ack {S : Nat → Prop} {w0 : World} {sT : Nat → Kd} {nT : Nat} {fs : List FdS} {tyF : TypeId} {g n c : Nat} {vs : List FV} (hTab : Tab S w0 sT nT fs tyF g vs) (hn : n ≤ vs.length) (hc : n ≤ c) (hc2 : c ≤ 1000) (w : World) (dom sgn : Int) (x : Nat → Int) (hb : Kept S w0 w) (hok : ∀ i, i < nT → (sT i).ok (x i)) (hl : ((fsAll (fs.take n)).enc x).length ≤ 100000) :
    Calls Tryz.prog 68 #[.agg #[.int .i64 dom, .int .i64 sgn, .slice (some ⟨g, 0, none⟩) n c], .agg (cl sT nT x).toArray] w (EPost (tellL dom (fsAll (fs.take n)) x) w) := by
  have b2 : Below w.heap.size w ((w.alloc (.cells #[.int .i64 dom, .int .i64 sgn, .slice (some ⟨g, 0, none⟩) n c] 143)).alloc (.cells (cl sT nT x).toArray 75)) := below_more (below_one w _) _ (by simp)
  have A1 := (Arr.new w 143 [.int .i64 dom, .int .i64 sgn, .slice (some ⟨g, 0, none⟩) n c]).alloc (.cells (cl sT nT x).toArray 75)
  have A2 : Arr ((w.alloc (.cells #[.int .i64 dom, .int .i64 sgn, .slice (some ⟨g, 0, none⟩) n c] 143)).alloc (.cells (cl sT nT x).toArray 75)) (w.heap.size + 1) 75 (cl sT nT x) := by
    have := Arr.new (w.alloc (.cells #[.int .i64 dom, .int .i64 sgn, .slice (some ⟨g, 0, none⟩) n c] 143)) 75 (cl sT nT x)
    have s1 : (w.alloc (.cells #[.int .i64 dom, .int .i64 sgn, .slice (some ⟨g, 0, none⟩) n c] 143)).heap.size = w.heap.size + 1 := by simp
    rw [s1] at this
    exact this
  have hT2 : Trm _ _ _ _ _ _ := ⟨A2, hok, by decide, by decide, by decide⟩
  have hU := tell_Ack hTab hn hc hc2 _ dom (w.heap.size + 1) 75 sT nT x 0 (hb.below b2) hT2 ⟨by omega, fun j hj => by rw [Nat.zero_add]⟩ (by rw [sft_zero]; exact hl)
  simp only [sft_zero] at hU
  have c0 : ((w.alloc (.cells #[.int .i64 dom, .int .i64 sgn, .slice (some ⟨g, 0, none⟩) n c] 143)).alloc (.cells (cl sT nT x).toArray 75)).cell? ⟨w.heap.size, 0, none⟩ = some (.int .i64 dom) := A1.cell 0
  have c2 : ((w.alloc (.cells #[.int .i64 dom, .int .i64 sgn, .slice (some ⟨g, 0, none⟩) n c] 143)).alloc (.cells (cl sT nT x).toArray 75)).cell? ⟨w.heap.size, 2, none⟩ = some (.slice (some ⟨g, 0, none⟩) n c) := A1.cell 2
  have HB := hide b2
  clear hTab hb hok hl A1 A2 hT2 b2 hn hc hc2
  generalize tellL dom (fsAll (fs.take n)) x = L at *
  generalize cl sT nT x = X at *
  by_cases hL : L = []
  · subst hL
    go_enter Tryz.func68, Tryz.ntmps68
    go_wp2_with fail
    generalize ((w.alloc (.cells #[.int .i64 dom, .int .i64 sgn, .slice (some ⟨g, 0, none⟩) n c] 143)).alloc (.cells X.toArray 75)) = W at *
    refine hU.mono ?_
    rintro e w1 ⟨av, cv, rfl, -, hLB, hB1⟩
    have HE : Hid (EPost [] w (.returned (.tuple #[.slice none 0 0, .int .i64 2])) w1) := hide ⟨none, 0, rfl, ⟨rfl, .inl ⟨rfl, rfl⟩⟩, hLB, (unhide HB).trans (hB1.mono (unhide HB).size)⟩
    clear hU hLB hB1 c0 c2
    rw [List.length_nil]
    go_wp2
    go_ret2
    exact unhide HE
  · have hlen : 0 < L.length := List.length_pos_iff.2 hL
    go_enter Tryz.func68, Tryz.ntmps68
    go_wp2_with fail
    generalize ((w.alloc (.cells #[.int .i64 dom, .int .i64 sgn, .slice (some ⟨g, 0, none⟩) n c] 143)).alloc (.cells X.toArray 75)) = W at *
    refine hU.mono ?_
    rintro e w1 ⟨av, cv, rfl, hown, hLB, hB1⟩
    have hlt : L.length ≤ 9223372036854775807 := by
      rcases hown.2 with ⟨-, h⟩ | ⟨g, cap, cur, -, -, -, h1, h2, -⟩
      · omega
      · unfold maxLen at h2; omega
    have HE : Hid (EPost L w (.returned (.tuple #[.slice av L.length cv, .int .i64 0])) w1) := hide ⟨av, cv, by rw [if_neg hL], own_mono hown (unhide HB).size, hLB, (unhide HB).trans (hB1.mono (unhide HB).size)⟩
    clear hU hLB hB1 c0 c2 hown hL
    generalize L.length = m at HE hlen hlt ⊢
    go_wp2
    go_ret2
    exact unhide HE
theorem Tryz.szEAck : (Tryz.prog.info? 75).map (·.size) = some 99 := by kernel_rfl
theorem encAllAck_le (x : Nat → Int) : ((fsAll (fAck.take 5)).enc x).length ≤ 100000 := by simp [fsAll, fAck, fsNum, fsMon, fsFix, fsMrk, fsIn, beB, leB, run, fCert]
set_option maxHeartbeats 2000000 in
set_option maxRecDepth 100000 in
theorem encodeAck_any (w : World) (x : Nat → Int) (hok : ∀ i, i < 99 → (sAck i).ok (x i)) :
    Calls Tryz.prog 26 #[.agg (cl sAck 99 x).toArray] w (EPost (tellL 5 (fsAll fAck) x) w) := by
  have b1 : Below w.heap.size w (w.alloc (.cells (cl sAck 99 x).toArray 75)) := below_one w _
  have A1 := Arr.new w 75 (cl sAck 99 x)
  have r1 : (w.alloc (.cells (cl sAck 99 x).toArray 75)).rangeAt w.heap.size 0 (cl sAck 99 x) := fun j v hj => by rw [Nat.zero_add, A1.cell, hj]
  have hlt := A1.lt
  have hZ : (Tryz.prog.info? 75).map (·.size) = some (cl sAck 99 x).length := by rw [cl_length]; exact Tryz.szEAck
  have hSay := fun W w1 g vs (h : Tab (New noS W w1) w1 sAck 99 fAck 270 g vs) (hb : W.heap.size ≤ w1.heap.size) => encode_Ack (n := 5) (c := 5) h (by rw [h.len]; decide) (Nat.le_refl _) (by decide) w1 5 4 x (Kept.refl (New.lt (noS_lt _) hb)) hok (encAllAck_le x)
  have hfk : fAck.take 5 = fAck := rfl
  rw [hfk] at hSay
  have HB := hide b1
  clear hok A1 b1 hfk
  generalize tellL 5 (fsAll fAck) x = L at *
  generalize cl sAck 99 x = X at *
  go_enter Tryz.func26, Tryz.ntmps26
  go_wp2
  generalize w.alloc (.cells X.toArray 75) = W at *
  have hC := ackForm_any W.drew
  refine wp_region_noPanic ?_
  refine wp_region_held_drew (S := fun w' => w'.rangeAt w.heap.size 0 X) (by kernel_rfl) r1 (fun hHeld => ?_)
  refine wpAnyH_take (i := 1) (v := _) rfl (by kernel_rfl) (by kernel_rfl) (by kernel_rfl) (fun _ _ _ h => h) (yieldsIf_load_mid (by rfl) _ _ rfl _ _ rfl _ _ (fun _ h => h) Tryz.underlying75 rfl hZ) hHeld ?_
  simp [Act.put]
  refine wpAnyH_ready (rs := [0]) (by kernel_rfl) (by simp) ?_
  refine AllReadyH.cons rfl (fun K hK => ?_) AllReadyH.nil
  go_simp
  refine hC.mono ?_
  rintro e w1 ⟨g, vs, rfl, hTab, hB1⟩
  have hfl : fAck.length = 5 := rfl
  rw [hfl]
  clear hfl
  have hU := hSay _ _ _ _ hTab hB1.size
  refine hK.out _ _ (fun j v hj => (World.cell?_of_block (hB1.block _ hlt)).trans (hHeld j v hj)) (fun hHeld => ?_)
  have hlt1 : w.heap.size < w1.heap.size := Nat.lt_of_lt_of_le hlt hB1.size
  clear hK K hTab hC hSay
  refine wpAnyH_ready (rs := [2]) (by kernel_rfl) (by simp) ?_
  refine AllReadyH.cons rfl (fun K hK => ?_) AllReadyH.nil
  go_simp
  refine hU.mono ?_
  rintro e w2 ⟨av, cv, rfl, hown, hLB, hB2⟩
  refine hK.out _ _ (fun j v hj => (World.cell?_of_block (hB2.block _ hlt1)).trans (hHeld j v hj)) (fun hHeld => ?_)
  clear hK K hU
  have hb1 := unhide HB
  have HE : Hid (EPost L w (.returned (.tuple #[.slice av L.length cv, .int .i64 (if L = [] then 2 else 0)])) w2) := hide ⟨av, cv, rfl, own_mono hown (Nat.le_trans hb1.size hB1.size), hLB, (hb1.trans (undrew_bel hB1 hb1.size)).trans (hB2.mono (Nat.le_trans hb1.size hB1.size))⟩
  clear hown hLB hb1 hB1 hB2 hlt hlt1
  generalize (if L = [] then (2 : Int) else 0) = ee at HE ⊢
  refine wpAnyH_take (i := 3) (v := (.slice av L.length cv)) rfl (by kernel_rfl) (by kernel_rfl) (by kernel_rfl) (fun _ _ _ h => h) (Or.inl ⟨by rfl, fun w hSw => by go_simp⟩) hHeld ?_
  simp [Act.put]
  refine wpAnyH_take (i := 4) (v := (.int .i64 ee)) rfl (by kernel_rfl) (by kernel_rfl) (by kernel_rfl) (fun _ _ _ h => h) (Or.inl ⟨by rfl, fun w hSw => by go_simp⟩) hHeld ?_
  simp [Act.put]
  refine wpAnyH_take (i := 5) (v := (.slice av L.length cv)) rfl (by kernel_rfl) (by kernel_rfl) (by kernel_rfl) (fun _ _ _ h => h) (Or.inl ⟨by rfl, fun w hSw => by go_simp⟩) hHeld ?_
  simp [Act.put]
  refine wpAnyH_take (i := 6) (v := (.int .i64 ee)) rfl (by kernel_rfl) (by kernel_rfl) (by kernel_rfl) (fun _ _ _ h => h) (Or.inl ⟨by rfl, fun w hSw => by go_simp⟩) hHeld ?_
  simp [Act.put]
  refine wpAnyH_done (by kernel_rfl) ?_ _
  unfold NoPanic
  clear hHeld
  go_wp2
  go_ret2
  exact unhide HE
end Go.Proofs.YtfedajifefldmaaGreat
