import Derived.Test.YthpnfbgobpfdgaaGreatFrmReceipt
import Derived.Test.YthpnfbgobpfdgaaGreatTelM
import Derived.Deep.MidRow
import Derived.Deep.RegionHeld3
namespace Go.Proofs.YthpnfbgobpfdgaaGreat
open Go.RowKit
set_option maxHeartbeats 1000000 in
set_option maxRecDepth 100000 in
theorem tell_Receipt {S : Nat → Prop} {w0 : World} {sT : Nat → Kd} {nT : Nat} {fs : List FdS} {tyF : TypeId} {g n c : Nat} {vs : List FV} (hTab : Tab S w0 sT nT fs tyF g vs) (hn : n ≤ vs.length) (hc : n ≤ c) (hc2 : c ≤ 1000)
    (w : World) (dom : Int) (q : Nat) (ty : TypeId) (sh : Nat → Kd) (N : Nat) (x : Nat → Int) (o : Nat) (hb : Kept S w0 w) (hT : Trm w q ty sh N x) (hSg : Seg sT nT sh N o) (hl : ((fsAll (fs.take n)).enc (sft o x)).length ≤ 100000) :
    Calls Tryz.prog 76 #[.int .i64 dom, .slice (some ⟨g, 0, none⟩) n c, .pointer (some ⟨q, o, none⟩)] w (TPost (tellL dom (fsAll (fs.take n)) (sft o x)) w) := by
  have hA := allFit_Receipt hTab hn hc hc2 w q ty sh N x o hb hT hSg
  cases hR : (fsAll (fs.take n)).fit (sft o x) with
  | false =>
    rw [hR] at hA
    have HL : Hid (tellL dom (fsAll (fs.take n)) (sft o x) = []) := by
      show _ = _
      unfold tellL; rw [hR]; rfl
    rw [unhide HL]
    clear hR hTab hb hT hSg hl
    go_enter Tryz.func76, Tryz.ntmps76
    go_wp2_with (go_at_call 139; refine hA.mono ?_; rintro e w1 ⟨rfl, hB⟩)
    go_ret
    exact TPost.nil hB
  | true =>
    rw [hR] at hA
    have HL : Hid (tellL dom (fsAll (fs.take n)) (sft o x) = hdL dom ++ (fsAll (fs.take n)).enc (sft o x)) := by
      show _ = _
      unfold tellL; rw [hR]; rfl
    rw [unhide HL]
    clear hR
    have hP := fun W base p lv l => putAll_Receipt hTab hn hc hc2 W base p lv l q ty sh N x o
    have HB := hide hb
    have HT := hide hT
    have HS := hide hSg
    have HH := hide hl
    clear hTab hb hT hSg hl
    go_enter Tryz.func76, Tryz.ntmps76
    go_wp2_with fail
    refine hA.mono ?_
    rintro e w1 ⟨rfl, hB1⟩
    clear hA
    have B1 := hide hB1
    clear hB1
    go_wp2_with fail
    refine (newWriter_any w1).mono ?_
    rintro e w2 ⟨rfl, hW2, hB2, -⟩
    have W2 := hide hW2
    have B2 := hide hB2
    clear hW2 hB2
    go_wp2_with fail
    refine (head_any dom w2).mono ?_
    rintro e w3 ⟨s, rfl, hs3, hsl, hB3, -⟩
    have hsn : s.n ≤ 4 := by rw [← hs3.len, hsl]; unfold hdL; split <;> simp
    have hF := wFixed_any w1.heap.size w1.heap.size (.slice none 0 0) [] 0 s w3 ((unhide W2).later hB3) hs3 (by simp; omega) (Nat.le_trans (unhide B2).size hB3.size)
    rw [hsl] at hF
    have hsv : s.v = .slice s.a s.n s.c := rfl
    rw [hsv] at hF ⊢
    have B3 := hide hB3
    clear hsl hsn hsv hs3 hB3
    go_wp2_with fail
    refine hF.mono ?_
    rintro e w4 ⟨rfl, lv4, hW4⟩
    clear hF
    have hst4 : Wst w1.heap.size w1.heap.size (.slice none 0 0) (hdL dom) 0 w3 w4 lv4 := by
      have : wLay (hdL dom) ([], 0) = (hdL dom, 0) := by simp [wLay]
      rw [this] at hW4
      exact hW4
    clear hW4
    have hE := tell_mid (unhide HB) (unhide HT) (unhide B1) (unhide W2) (unhide B2) (unhide B3) hst4
    have hU := hP w4 w1.heap.size w1.heap.size lv4 (hdL dom) hE.1 hst4.wtr hE.2.1 hE.2.2.1 hE.2.2.2.1 hE.2.2.2.2 (unhide HS) (by have := unhide HH; have := hdL_le dom; omega)
    have S4 := hide hst4
    clear hP hst4 hE
    go_wp2_with fail
    refine hU.mono ?_
    rintro e w5 ⟨rfl, lv5, hW5⟩
    clear hU
    simp only at hW5
    have hD := wDone_any w1.heap.size w1.heap.size lv5 _ 0 w5 hW5.wtr (by have := unhide HH; have := hdL_le dom; rw [List.length_append]; omega)
    have HW : Hid (Below w.heap.size w w5 ∧ IsB (hdL dom ++ (fsAll (fs.take n)).enc (sft o x))) := hide ⟨tell_bel (unhide B1) (unhide B2) (unhide B3) (unhide S4) hW5, hW5.wtr.isB⟩
    clear hW5 S4
    have hw0 : wOut (hdL dom ++ (fsAll (fs.take n)).enc (sft o x)) 0 = hdL dom ++ (fsAll (fs.take n)).enc (sft o x) := by simp [wOut]
    rw [hw0] at hD
    clear hw0
    go_wp2_with fail
    refine hD.mono ?_
    rintro e w6 ⟨hB6, v, rfl, hown⟩
    obtain ⟨av, cv, rfl⟩ := own_parts hown
    have HE := hide (TPost.of (unhide HW).1 hB6 hown (unhide HW).2)
    clear hD hown HW hB6
    generalize (hdL dom ++ (fsAll (fs.take n)).enc (sft o x)).length = m at HE ⊢
    go_wp2
    go_ret
    exact unhide HE

set_option maxHeartbeats 2000000 in
set_option maxRecDepth 100000 in
theorem say_Receipt {S : Nat → Prop} {w0 : World} {sT : Nat → Kd} {nT : Nat} {fs : List FdS} {tyF : TypeId} {g n c : Nat} {vs : List FV} (hTab : Tab S w0 sT nT fs tyF g vs) (hn : n ≤ vs.length) (hc : n ≤ c) (hc2 : c ≤ 1000) (w : World) (dom : Int) (sgn : Nat) (x : Nat → Int) (hb : Kept S w0 w) (hok : ∀ i, i < nT → (sT i).ok (x i)) (hsn : sgn ≤ n) (hl : ((fsAll (fs.take sgn)).enc x).length ≤ 100000) :
    Calls Tryz.prog 34 #[.agg #[.int .i64 dom, .int .i64 sgn, .slice (some ⟨g, 0, none⟩) n c], .agg (cl sT nT x).toArray] w (TPost (tellL dom (fsAll (fs.take sgn)) x) w) := by
  have b2 : Below w.heap.size w ((w.alloc (.cells #[.int .i64 dom, .int .i64 sgn, .slice (some ⟨g, 0, none⟩) n c] 83)).alloc (.cells (cl sT nT x).toArray 55)) := below_more (below_one w _) _ (by simp)
  have A1 := (Arr.new w 83 [.int .i64 dom, .int .i64 sgn, .slice (some ⟨g, 0, none⟩) n c]).alloc (.cells (cl sT nT x).toArray 55)
  have A2 : Arr ((w.alloc (.cells #[.int .i64 dom, .int .i64 sgn, .slice (some ⟨g, 0, none⟩) n c] 83)).alloc (.cells (cl sT nT x).toArray 55)) (w.heap.size + 1) 55 (cl sT nT x) := by
    have := Arr.new (w.alloc (.cells #[.int .i64 dom, .int .i64 sgn, .slice (some ⟨g, 0, none⟩) n c] 83)) 55 (cl sT nT x)
    have s1 : (w.alloc (.cells #[.int .i64 dom, .int .i64 sgn, .slice (some ⟨g, 0, none⟩) n c] 83)).heap.size = w.heap.size + 1 := by simp
    rw [s1] at this
    exact this
  have hT2 : Trm _ _ _ _ _ _ := ⟨A2, hok, by decide, by decide, by decide⟩
  have hU := fun W (h : Below _ _ W) => tell_Receipt hTab (Nat.le_trans hsn hn) (Nat.le_trans hsn hc) hc2 W dom (w.heap.size + 1) 55 sT nT x 0 ((hb.below b2).below h) (hT2.later h) ⟨by omega, fun j hj => by rw [Nat.zero_add]⟩ (by rw [sft_zero]; exact hl)
  simp only [sft_zero] at hU
  have c0 : ((w.alloc (.cells #[.int .i64 dom, .int .i64 sgn, .slice (some ⟨g, 0, none⟩) n c] 83)).alloc (.cells (cl sT nT x).toArray 55)).cell? ⟨w.heap.size, 0, none⟩ = some (.int .i64 dom) := A1.cell 0
  have c1 : ((w.alloc (.cells #[.int .i64 dom, .int .i64 sgn, .slice (some ⟨g, 0, none⟩) n c] 83)).alloc (.cells (cl sT nT x).toArray 55)).cell? ⟨w.heap.size, 1, none⟩ = some (.int .i64 sgn) := A1.cell 1
  have c2 : ((w.alloc (.cells #[.int .i64 dom, .int .i64 sgn, .slice (some ⟨g, 0, none⟩) n c] 83)).alloc (.cells (cl sT nT x).toArray 55)).cell? ⟨w.heap.size, 2, none⟩ = some (.slice (some ⟨g, 0, none⟩) n c) := A1.cell 2
  have hsc : sgn ≤ c := Nat.le_trans hsn hc
  have HB := hide b2
  clear hTab hb hok hl A1 A2 hT2 b2
  generalize hM : tellL dom (fsAll (fs.take sgn)) x = L at *
  clear hM
  generalize hN : cl sT nT x = X at *
  clear hN
  go_enter Tryz.func34, Tryz.ntmps34
  go_wp2
  generalize ((w.alloc (.cells #[.int .i64 dom, .int .i64 sgn, .slice (some ⟨g, 0, none⟩) n c] 83)).alloc (.cells X.toArray 55)) = W at *
  have hU := hU W.drew (bel_drewN (Below.refl _ _) 1)
  refine wp_region_noPanic ?_
  refine wp_region_held_drew (S := fun w' => w'.cell? ⟨w.heap.size, 0, none⟩ = some (.int .i64 dom) ∧ w'.cell? ⟨w.heap.size, 1, none⟩ = some (.int .i64 sgn) ∧ w'.cell? ⟨w.heap.size, 2, none⟩ = some (.slice (some ⟨g, 0, none⟩) n c)) (by kernel_rfl) ⟨c0, c1, c2⟩ (fun hHeld => ?_)
  refine wpAnyH_take (i := 0) (oi := _) (v := (.pointer (some ⟨w.heap.size, 0, none⟩))) rfl (by kernel_rfl) (by kernel_rfl) (by kernel_rfl) (fun _ _ _ h => h) (Or.inl ⟨by rfl, fun w hSw => by go_simp⟩) hHeld ?_
  simp [Act.put]
  refine wpAnyH_take (i := 1) (oi := _) (v := (.int .i64 dom)) rfl (by kernel_rfl) (by kernel_rfl) (by kernel_rfl) (fun _ _ _ h => h) (Or.inl ⟨by rfl, fun w hSw => by obtain ⟨h1, h2, h3⟩ := hSw; go_simp⟩) hHeld ?_
  simp [Act.put]
  refine wpAnyH_take (i := 2) (oi := _) (v := (.pointer (some ⟨w.heap.size, 2, none⟩))) rfl (by kernel_rfl) (by kernel_rfl) (by kernel_rfl) (fun _ _ _ h => h) (Or.inl ⟨by rfl, fun w hSw => by go_simp⟩) hHeld ?_
  simp [Act.put]
  refine wpAnyH_take (i := 3) (oi := _) (v := (.slice (some ⟨g, 0, none⟩) n c)) rfl (by kernel_rfl) (by kernel_rfl) (by kernel_rfl) (fun _ _ _ h => h) (Or.inl ⟨by rfl, fun w hSw => by obtain ⟨h1, h2, h3⟩ := hSw; go_simp⟩) hHeld ?_
  simp [Act.put]
  refine wpAnyH_take (i := 4) (oi := _) (v := (.pointer (some ⟨w.heap.size, 1, none⟩))) rfl (by kernel_rfl) (by kernel_rfl) (by kernel_rfl) (fun _ _ _ h => h) (Or.inl ⟨by rfl, fun w hSw => by go_simp⟩) hHeld ?_
  simp [Act.put]
  refine wpAnyH_take (i := 5) (oi := _) (v := (.int .i64 sgn)) rfl (by kernel_rfl) (by kernel_rfl) (by kernel_rfl) (fun _ _ _ h => h) (Or.inl ⟨by rfl, fun w hSw => by obtain ⟨h1, h2, h3⟩ := hSw; go_simp⟩) hHeld ?_
  simp [Act.put]
  refine wpAnyH_take (i := 6) (oi := _) (v := (.slice (some ⟨g, 0, none⟩) sgn c)) rfl (by kernel_rfl) (by kernel_rfl) (by kernel_rfl) (fun _ _ _ h => h) (Or.inl ⟨by rfl, fun w hSw => by go_simp⟩) hHeld ?_
  simp [Act.put]
  refine wpAnyH_ready (rs := [7]) (by kernel_rfl) (by simp) ?_
  refine AllReadyH.cons rfl (fun K hK => ?_) AllReadyH.nil
  go_simp
  refine hU.mono ?_
  rintro e w1 ⟨av, cv, rfl, hown, hLB, hB1⟩
  refine hK.out _ _ ?_ (fun hHeld => ?_)
  · exact ⟨by rw [← hHeld.1]; exact World.cell?_of_block (hB1.block _ (cell_lt hHeld.1)), by rw [← hHeld.2.1]; exact World.cell?_of_block (hB1.block _ (cell_lt hHeld.2.1)), by rw [← hHeld.2.2]; exact World.cell?_of_block (hB1.block _ (cell_lt hHeld.2.2))⟩
  clear hK K
  refine wpAnyH_take (i := 8) (oi := _) (v := (.slice av L.length cv)) rfl (by kernel_rfl) (by kernel_rfl) (by kernel_rfl) (fun _ _ _ h => h) (Or.inl ⟨by rfl, fun w hSw => by go_simp⟩) hHeld ?_
  simp [Act.put]
  refine wpAnyH_done (by kernel_rfl) ?_ _
  unfold NoPanic
  clear hHeld
  go_wp2
  go_ret
  exact ⟨av, cv, rfl, own_mono hown (unhide HB).size, hLB, (unhide HB).trans (undrew_bel hB1 (unhide HB).size)⟩

theorem Tryz.szJReceipt : (Tryz.prog.info? 55).map (·.size) = some 67 := by kernel_rfl
set_option maxHeartbeats 2000000 in
set_option maxRecDepth 100000 in
theorem sayReceipt_any (w : World) (x : Nat → Int) (hok : ∀ i, i < 67 → (sReceipt i).ok (x i)) :
    Calls Tryz.prog 19 #[.agg (cl sReceipt 67 x).toArray] w (TPost (tellL 8 (fsAll (fReceipt.take 3)) x) w) := by
  have b1 : Below w.heap.size w (w.alloc (.cells (cl sReceipt 67 x).toArray 55)) := below_one w _
  have A1 := Arr.new w 55 (cl sReceipt 67 x)
  have r1 : (w.alloc (.cells (cl sReceipt 67 x).toArray 55)).rangeAt w.heap.size 0 (cl sReceipt 67 x) := fun j v hj => by rw [Nat.zero_add, A1.cell, hj]
  have hlt := A1.lt
  have hZ : (Tryz.prog.info? 55).map (·.size) = some (cl sReceipt 67 x).length := by rw [cl_length]; exact Tryz.szJReceipt
  have hSay := fun W w1 g vs (h : Tab (New noS W w1) w1 sReceipt 67 fReceipt 152 g vs) (hb : W.heap.size ≤ w1.heap.size) => say_Receipt (n := 4) (c := 4) h (by rw [h.len]; decide) (Nat.le_refl _) (by decide) w1 8 3 x (Kept.refl (New.lt (noS_lt _) hb)) hok (by decide) (encReceipt_le x)
  have HB := hide b1
  clear hok A1 b1
  generalize tellL 8 (fsAll (fReceipt.take 3)) x = L at *
  generalize cl sReceipt 67 x = X at *
  go_enter Tryz.func19, Tryz.ntmps19
  go_wp2
  generalize w.alloc (.cells X.toArray 55) = W at *
  have hC := receiptForm_any W.drew
  refine wp_region_noPanic ?_
  refine wp_region_held_drew (S := fun w' => w'.rangeAt w.heap.size 0 X) (by kernel_rfl) r1 (fun hHeld => ?_)
  refine wpAnyH_take (i := 1) (oi := _) (v := _) rfl (by kernel_rfl) (by kernel_rfl) (by kernel_rfl) (fun _ _ _ h => h) (yieldsIf_load_mid (by rfl) _ _ rfl _ _ rfl _ _ (fun _ h => h) Tryz.underlying55 rfl hZ) hHeld ?_
  simp [Act.put]
  refine wpAnyH_ready (rs := [0]) (by kernel_rfl) (by simp) ?_
  refine AllReadyH.cons rfl (fun K hK => ?_) AllReadyH.nil
  go_simp
  refine hC.mono ?_
  rintro e w1 ⟨g, vs, rfl, hTab, hB1⟩
  have hfl : fReceipt.length = 4 := rfl
  rw [hfl]
  clear hfl
  have hU := hSay _ _ _ _ hTab hB1.size
  refine hK.out _ _ (fun j v hj => (World.cell?_of_block (hB1.block _ hlt)).trans (hHeld j v hj)) (fun hHeld => ?_)
  have hlt1 : w.heap.size < w1.heap.size := Nat.lt_of_lt_of_le hlt hB1.size
  clear hK K hTab hC hSay
  refine wpAnyH_ready (rs := [2]) (by kernel_rfl) (by simp) ?_
  refine AllReadyH.cons rfl (fun K hK => ?_) AllReadyH.nil
  go_simp
  refine hU.mono ?_
  rintro e w2 ⟨av, cv, rfl, hown, hLB, hB2⟩
  refine hK.out _ _ (fun j v hj => (World.cell?_of_block (hB2.block _ hlt1)).trans (hHeld j v hj)) (fun hHeld => ?_)
  clear hK K hU
  refine wpAnyH_take (i := 3) (oi := _) (v := (.slice av L.length cv)) rfl (by kernel_rfl) (by kernel_rfl) (by kernel_rfl) (fun _ _ _ h => h) (Or.inl ⟨by rfl, fun w hSw => by go_simp⟩) hHeld ?_
  simp [Act.put]
  refine wpAnyH_done (by kernel_rfl) ?_ _
  unfold NoPanic
  clear hHeld
  go_wp2
  go_ret
  have hb1 := unhide HB
  exact ⟨av, cv, rfl, own_mono hown (Nat.le_trans hb1.size hB1.size), hLB, (hb1.trans (undrew_bel hB1 hb1.size)).trans (hB2.mono (Nat.le_trans hb1.size hB1.size))⟩
end Go.Proofs.YthpnfbgobpfdgaaGreat
