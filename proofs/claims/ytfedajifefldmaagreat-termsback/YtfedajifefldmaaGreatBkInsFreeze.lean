import Derived.Test.YtfedajifefldmaaGreatBkTyCert
import Derived.Test.YtfedajifefldmaaGreatBkGsM
namespace Go.Proofs.YtfedajifefldmaaGreat
open Go.RowKit

set_option maxHeartbeats 2000000 in
set_option maxRecDepth 100000 in
theorem inPut_Freeze {S : Nat → Prop} {w0 : World} {sT sP : Nat → Kd} {nT nP a bf bp g n c : Nat} {fs : List FdS} {tyF ty0 ty1 : TypeId} {vs : List FV} {pv : Value} (hp : PlOk S w0 a pv) (hTab : Tab S w0 sP nP fs tyF g vs) (hn : n = vs.length) (hc : n ≤ c) (hc2 : c ≤ 1000) (hF : Arr w0 bf ty0 [.slice (some ⟨g, 0, none⟩) n c]) (hA : Arr w0 bp ty1 [pv]) (hbf : S bf) (hbp : S bp) (ha : a + nP ≤ nT) (hs : ∀ j, j < nP → sT (a + j) = sP j) :
    PutOk S w0 sT nT (fsIn a (fsAll fs)) (.func (.func 261) #[] #[.pointer (some ⟨bf, 0, none⟩), .pointer (some ⟨bp, 0, none⟩)]) := by
  subst hn
  obtain ⟨k, caps, rfl, eg, hp⟩ := hp
  refine ⟨_, _, rfl, enters_of Tryz.func261 (by kernel_rfl) rfl, ?_⟩
  intro w base p lv l q ty sh N x o hb hW hKp hKl hbs hT hSg hl
  have cb : w.cell? ⟨bp, 0, none⟩ = some (.func (.func k) #[] caps) := by simpa using (hb.arr hA hbp).cell 0
  have cf : w.cell? ⟨bf, 0, none⟩ = some (.slice (some ⟨g, 0, none⟩) vs.length c) := by simpa using (hb.arr hF hbf).cell 0
  have hC := hp w.drew q o (hb.drewN 1)
  have hSP : Seg sP nP sh N (o + a) := hSg.in ha hs
  have hlen := hTab.len
  have htk : fs.take vs.length = fs := by rw [hlen]; exact List.take_length
  have hl' : l.length + ((fsAll (fs.take vs.length)).enc (sft (o + a) x)).length ≤ 1000000 := by rw [htk, ← sft_sft]; exact hl
  have hU := putAll_Cert hTab (Nat.le_refl _) hc hc2 w.drew base p lv l q ty sh N x (o + a) (hb.drewN 1) (hW.later (bel_drewN (Below.refl _ _) 1)) hKp hKl hbs (hT.drewN 1) hSP hl'
  have HP : Hid (l ++ (fsAll (fs.take vs.length)).enc (sft (o + a) x) = l ++ (fsIn a (fsAll fs)).enc (sft o x)) := by
    show _ = _
    simp only [fsIn, htk, sft_sft]
  rw [unhide HP] at hU
  clear hp hl hl' HP htk hlen
  simp only [Enters] at eg
  go_enter Tryz.func261, Tryz.ntmps261
  refine wp_region_noPanic ?_
  refine wp_region_held_drew (S := fun w' => w'.cell? ⟨bp, 0, none⟩ = some (.func (.func k) #[] caps) ∧ w'.cell? ⟨bf, 0, none⟩ = some (.slice (some ⟨g, 0, none⟩) vs.length c)) (by kernel_rfl) ⟨cb, cf⟩ (fun hHeld => ?_)
  refine wpAnyH_take (i := 0) (oi := _) (v := (.pointer (some ⟨p, 0, none⟩))) rfl (by kernel_rfl) (by kernel_rfl) (by kernel_rfl) (fun _ _ _ h => h) (Or.inl ⟨by rfl, fun w hSw => by go_simp⟩) hHeld ?_
  simp [Act.put]
  refine wpAnyH_take (i := 1) (oi := _) (v := (.slice (some ⟨g, 0, none⟩) vs.length c)) rfl (by kernel_rfl) (by kernel_rfl) (by kernel_rfl) (fun _ _ _ h => h) (Or.inl ⟨by rfl, fun w hSw => by obtain ⟨h1, h2⟩ := hSw; go_simp⟩) hHeld ?_
  simp [Act.put]
  refine wpAnyH_take (i := 2) (oi := _) (v := (.func (.func k) #[] caps)) rfl (by kernel_rfl) (by kernel_rfl) (by kernel_rfl) (fun _ _ _ h => h) (Or.inl ⟨by rfl, fun w hSw => by obtain ⟨h1, h2⟩ := hSw; go_simp⟩) hHeld ?_
  simp [Act.put]
  refine wpAnyH_take (i := 3) (oi := _) (v := (.pointer (some ⟨q, o, none⟩))) rfl (by kernel_rfl) (by kernel_rfl) (by kernel_rfl) (fun _ _ _ h => h) (Or.inl ⟨by rfl, fun w hSw => by go_simp⟩) hHeld ?_
  simp [Act.put]
  refine wpAnyH_ready (rs := [4]) (by kernel_rfl) (by simp) ?_
  refine AllReadyH.cons rfl (fun K hK => ?_) AllReadyH.nil
  go_simp
  refine hC.mono ?_
  rintro e w1 ⟨rfl, hw⟩
  have hw := hw.symm; subst hw
  refine hK.out _ _ hHeld (fun hHeld => ?_)
  clear hK K
  refine wpAnyH_ready (rs := [5]) (by kernel_rfl) (by simp) ?_
  refine AllReadyH.cons rfl (fun K hK => ?_) AllReadyH.nil
  go_simp
  refine hU.mono ?_
  rintro e w1 ⟨rfl, lv1, hW1⟩
  refine hK.out _ _ ?_ (fun hHeld => ?_)
  · have hbt := hW1.but
    have hlt1 := cell_lt hHeld.1
    have hlt2 := cell_lt hHeld.2
    refine ⟨?_, ?_⟩
    · rw [← hHeld.1]; exact World.cell?_of_block (hbt.block bp hlt1 (fun h => by rcases h with rfl | h; exact hKp hbp; exact hKl _ h hbp))
    · rw [← hHeld.2]; exact World.cell?_of_block (hbt.block bf hlt2 (fun h => by rcases h with rfl | h; exact hKp hbf; exact hKl _ h hbf))
  refine wpAnyH_done (by kernel_rfl) ?_ _
  unfold NoPanic
  clear hHeld hK
  go_end0
  exact ⟨rfl, lv1, hW1.later (bel_drewN (Below.refl _ _) 1)⟩

set_option maxHeartbeats 2000000 in
set_option maxRecDepth 100000 in
theorem inGet_Freeze {S : Nat → Prop} {w0 : World} {sT sP : Nat → Kd} {nT nP a bf bp g n c : Nat} {fs : List FdS} {tyF ty0 ty1 : TypeId} {vs : List FV} {pv : Value} (hp : PlOk S w0 a pv) (hTab : Tab S w0 sP nP fs tyF g vs) (hn : n = vs.length) (hc : n ≤ c) (hc2 : c ≤ 1000) (hF : Arr w0 bf ty0 [.slice (some ⟨g, 0, none⟩) n c]) (hA : Arr w0 bp ty1 [pv]) (hbf : S bf) (hbp : S bp) (ha : a + nP ≤ nT) (hs : ∀ j, j < nP → sT (a + j) = sP j) :
    GetOk S w0 sT nT (fsIn a (fsAll fs)) (.func (.func 262) #[] #[.pointer (some ⟨bf, 0, none⟩), .pointer (some ⟨bp, 0, none⟩)]) := by
  subst hn
  obtain ⟨k, caps, rfl, eg, hp⟩ := hp
  refine ⟨_, _, rfl, enters_of Tryz.func262 (by kernel_rfl) rfl, ?_⟩
  intro w p s fl q ty sh N x o hb hR hKp hKq hT hSg hsq hsn
  have cb : w.cell? ⟨bp, 0, none⟩ = some (.func (.func k) #[] caps) := by simpa using (hb.arr hA hbp).cell 0
  have cf : w.cell? ⟨bf, 0, none⟩ = some (.slice (some ⟨g, 0, none⟩) vs.length c) := by simpa using (hb.arr hF hbf).cell 0
  have hC := hp w.drew q o (hb.drewN 1)
  have hSP : Seg sP nP sh N (o + a) := hSg.in ha hs
  have hlen := hTab.len
  have htk : fs.take vs.length = fs := by rw [hlen]; exact List.take_length
  have hU := getAll_Cert hTab (Nat.le_refl _) hc hc2 w.drew p s fl q ty sh N x (o + a) (hb.drewN 1) (hR.later (bel_drewN (Below.refl _ _) 1)) hKp hKq (hT.drewN 1) hSP hsq hsn
  rw [htk] at hU
  clear hp htk hlen
  simp only [Enters] at eg
  go_enter Tryz.func262, Tryz.ntmps262
  refine wp_region_noPanic ?_
  refine wp_region_held_drew (S := fun w' => w'.cell? ⟨bp, 0, none⟩ = some (.func (.func k) #[] caps) ∧ w'.cell? ⟨bf, 0, none⟩ = some (.slice (some ⟨g, 0, none⟩) vs.length c)) (by kernel_rfl) ⟨cb, cf⟩ (fun hHeld => ?_)
  refine wpAnyH_take (i := 0) (oi := _) (v := (.pointer (some ⟨p, 0, none⟩))) rfl (by kernel_rfl) (by kernel_rfl) (by kernel_rfl) (fun _ _ _ h => h) (Or.inl ⟨by rfl, fun w hSw => by go_simp⟩) hHeld ?_
  simp [Act.put]
  refine wpAnyH_take (i := 1) (oi := _) (v := (.slice (some ⟨g, 0, none⟩) vs.length c)) rfl (by kernel_rfl) (by kernel_rfl) (by kernel_rfl) (fun _ _ _ h => h) (Or.inl ⟨by rfl, fun w hSw => by obtain ⟨h1, h2⟩ := hSw; go_simp⟩) hHeld ?_
  simp [Act.put]
  refine wpAnyH_take (i := 2) (oi := _) (v := (.func (.func k) #[] caps)) rfl (by kernel_rfl) (by kernel_rfl) (by kernel_rfl) (fun _ _ _ h => h) (Or.inl ⟨by rfl, fun w hSw => by obtain ⟨h1, h2⟩ := hSw; go_simp⟩) hHeld ?_
  simp [Act.put]
  refine wpAnyH_take (i := 3) (oi := _) (v := (.pointer (some ⟨q, o, none⟩))) rfl (by kernel_rfl) (by kernel_rfl) (by kernel_rfl) (fun _ _ _ h => h) (Or.inl ⟨by rfl, fun w hSw => by go_simp⟩) hHeld ?_
  simp [Act.put]
  refine wpAnyH_ready (rs := [4]) (by kernel_rfl) (by simp) ?_
  refine AllReadyH.cons rfl (fun K hK => ?_) AllReadyH.nil
  go_simp
  refine hC.mono ?_
  rintro e w1 ⟨rfl, hw⟩
  have hw := hw.symm; subst hw
  refine hK.out _ _ hHeld (fun hHeld => ?_)
  clear hK K
  refine wpAnyH_ready (rs := [5]) (by kernel_rfl) (by simp) ?_
  refine AllReadyH.cons rfl (fun K hK => ?_) AllReadyH.nil
  go_simp
  refine hU.mono ?_
  rintro e w1 ⟨rfl, t1, fl1, x1, hG⟩
  refine hK.out _ _ ?_ (fun hHeld => ?_)
  · have hbt := hG.but
    have hlt1 := cell_lt hHeld.1
    have hlt2 := cell_lt hHeld.2
    refine ⟨?_, ?_⟩
    · rw [← hHeld.1]; exact World.cell?_of_block (hbt.block bp hlt1 (fun h => by rcases h with rfl | rfl; exact hKp hbp; exact hKq hbp))
    · rw [← hHeld.2]; exact World.cell?_of_block (hbt.block bf hlt2 (fun h => by rcases h with rfl | rfl; exact hKp hbf; exact hKq hbf))
  refine wpAnyH_done (by kernel_rfl) ?_ _
  unfold NoPanic
  clear hHeld hK
  go_end0
  exact ⟨rfl, t1, fl1, x1, hG.in.undrew⟩

set_option maxHeartbeats 2000000 in
set_option maxRecDepth 100000 in
theorem inFit_Freeze {S : Nat → Prop} {w0 : World} {sT sP : Nat → Kd} {nT nP a bf bp g n c : Nat} {fs : List FdS} {tyF ty0 ty1 : TypeId} {vs : List FV} {pv : Value} (hp : PlOk S w0 a pv) (hTab : Tab S w0 sP nP fs tyF g vs) (hn : n = vs.length) (hc : n ≤ c) (hc2 : c ≤ 1000) (hF : Arr w0 bf ty0 [.slice (some ⟨g, 0, none⟩) n c]) (hA : Arr w0 bp ty1 [pv]) (hbf : S bf) (hbp : S bp) (ha : a + nP ≤ nT) (hs : ∀ j, j < nP → sT (a + j) = sP j) :
    FitOk S w0 sT nT (fsIn a (fsAll fs)) (.func (.func 263) #[] #[.pointer (some ⟨bf, 0, none⟩), .pointer (some ⟨bp, 0, none⟩)]) := by
  subst hn
  obtain ⟨k, caps, rfl, eg, hp⟩ := hp
  refine ⟨_, _, rfl, enters_of Tryz.func263 (by kernel_rfl) rfl, ?_⟩
  intro w q ty sh N x o hb hT hSg
  have cb : w.cell? ⟨bp, 0, none⟩ = some (.func (.func k) #[] caps) := by simpa using (hb.arr hA hbp).cell 0
  have cf : w.cell? ⟨bf, 0, none⟩ = some (.slice (some ⟨g, 0, none⟩) vs.length c) := by simpa using (hb.arr hF hbf).cell 0
  have hC := hp w.drew q o (hb.drewN 1)
  have hSP : Seg sP nP sh N (o + a) := hSg.in ha hs
  have hlen := hTab.len
  have htk : fs.take vs.length = fs := by rw [hlen]; exact List.take_length
  have hU := allFit_Cert hTab (Nat.le_refl _) hc hc2 w.drew q ty sh N x (o + a) (hb.drewN 1) (hT.drewN 1) hSP
  rw [htk] at hU
  have HP : Hid ((fsIn a (fsAll fs)).fit (sft o x) = (fsAll fs).fit (sft (o + a) x)) := by
    show _ = _
    simp only [fsIn, sft_sft]
  generalize (fsIn a (fsAll fs)).fit (sft o x) = R at *
  generalize (fsAll fs).fit (sft (o + a) x) = R2 at *
  clear hp htk hlen
  simp only [Enters] at eg
  go_enter Tryz.func263, Tryz.ntmps263
  go_wp2
  refine wp_region_noPanic ?_
  refine wp_region_held_drew (S := fun w' => w'.cell? ⟨bp, 0, none⟩ = some (.func (.func k) #[] caps) ∧ w'.cell? ⟨bf, 0, none⟩ = some (.slice (some ⟨g, 0, none⟩) vs.length c)) (by kernel_rfl) ⟨cb, cf⟩ (fun hHeld => ?_)
  refine wpAnyH_take (i := 0) (oi := _) (v := (.slice (some ⟨g, 0, none⟩) vs.length c)) rfl (by kernel_rfl) (by kernel_rfl) (by kernel_rfl) (fun _ _ _ h => h) (Or.inl ⟨by rfl, fun w hSw => by obtain ⟨h1, h2⟩ := hSw; go_simp⟩) hHeld ?_
  simp [Act.put]
  refine wpAnyH_take (i := 1) (oi := _) (v := (.func (.func k) #[] caps)) rfl (by kernel_rfl) (by kernel_rfl) (by kernel_rfl) (fun _ _ _ h => h) (Or.inl ⟨by rfl, fun w hSw => by obtain ⟨h1, h2⟩ := hSw; go_simp⟩) hHeld ?_
  simp [Act.put]
  refine wpAnyH_take (i := 2) (oi := _) (v := (.pointer (some ⟨q, o, none⟩))) rfl (by kernel_rfl) (by kernel_rfl) (by kernel_rfl) (fun _ _ _ h => h) (Or.inl ⟨by rfl, fun w hSw => by go_simp⟩) hHeld ?_
  simp [Act.put]
  refine wpAnyH_ready (rs := [3]) (by kernel_rfl) (by simp) ?_
  refine AllReadyH.cons rfl (fun K hK => ?_) AllReadyH.nil
  go_simp
  refine hC.mono ?_
  rintro e w1 ⟨rfl, hw⟩
  have hw := hw.symm; subst hw
  refine hK.out _ _ hHeld (fun hHeld => ?_)
  clear hK K
  refine wpAnyH_ready (rs := [4]) (by kernel_rfl) (by simp) ?_
  refine AllReadyH.cons rfl (fun K hK => ?_) AllReadyH.nil
  go_simp
  refine hU.mono ?_
  rintro e w1 ⟨rfl, hB1⟩
  refine hK.out _ _ ?_ (fun hHeld => ?_)
  · have hlt1 := cell_lt hHeld.1
    have hlt2 := cell_lt hHeld.2
    exact ⟨by rw [← hHeld.1]; exact World.cell?_of_block (hB1.block bp hlt1), by rw [← hHeld.2]; exact World.cell?_of_block (hB1.block bf hlt2)⟩
  clear hK K
  refine wpAnyH_take (i := 5) (oi := _) (v := .bool R2) rfl (by kernel_rfl) (by kernel_rfl) (by kernel_rfl) (fun _ _ _ h => h) (Or.inl ⟨by rfl, fun w hSw => by go_simp⟩) hHeld ?_
  simp [Act.put]
  refine wpAnyH_done (by kernel_rfl) ?_ _
  unfold NoPanic
  clear hHeld
  go_wp2
  go_ret
  exact ⟨by rw [unhide HP]; rfl, (bel_drewN (Below.refl _ _) 1).trans (hB1.mono (Nat.le_refl _))⟩

theorem Tryz.szIFreeze : (Tryz.prog.info? 257).map (·.size) = some 3 := by kernel_rfl
theorem Tab.new {S : Nat → Prop} {w w' : World} {sT : Nat → Kd} {nT : Nat} {fs : List FdS} {tyF : TypeId} {g : Nat} {vs : List FV} (h : Tab S w sT nT fs tyF g vs) (hS : ∀ k, S k → k < w.heap.size) (hb : Below w.heap.size w w') : Tab (New S w w') w' sT nT fs tyF g vs := h.later (fun _ h => .inl h) (New.kept hS hb)
set_option maxHeartbeats 1000000 in
set_option maxRecDepth 100000 in
theorem inside_Freeze {S : Nat → Prop} {sT sP : Nat → Kd} {nT nP a g n c : Nat} {fs : List FdS} {tyF : TypeId} {vs : List FV} (w : World) (pv : Value) (hS : ∀ k, S k → k < w.heap.size) (hp : PlOk S w a pv) (hTab : Tab S w sP nP fs tyF g vs) (hn : n = vs.length) (hc : n ≤ c) (hc2 : c ≤ 1000) (ha : a + nP ≤ nT) (hs : ∀ j, j < nP → sT (a + j) = sP j) :
    Calls Tryz.prog 152 #[pv, .slice (some ⟨g, 0, none⟩) n c] w (MkPost S sT nT (fsIn a (fsAll fs)) w) := by
  have hmf : ∀ (fn : Fn) (first cap : Array Value) (w : World), (Instr.makeFunc fn first cap).run Tryz.prog w = .ok (.func fn first cap) w := fun _ _ _ _ => rfl
  have hp' := hp
  obtain ⟨k, caps, rfl, -, -⟩ := hp
  have Hp := hide hp'
  have Ht := hide hTab
  have Hn := hide hn
  clear hp' hTab hn
  go_enter Tryz.func152, Tryz.ntmps152
  go_wp2
  refine bodyPost_ret (results_new3 rfl _ _ _ _ _ _ _ (by simp) Tryz.underlying257 rfl Tryz.szIFreeze) rfl ?_
  have b3 : Below w.heap.size w ((w.alloc (.cells #[.func (.func k) #[] caps] 260)).alloc (.cells #[.slice (some ⟨g, 0, none⟩) n c] 125)) := below_more (below_one w _) _ (by simp)
  have P3 := (Arr.new w 260 [.func (.func k) #[] caps]).alloc (.cells #[.slice (some ⟨g, 0, none⟩) n c] 125)
  have L3 := Arr.new (w.alloc (.cells #[.func (.func k) #[] caps] 260)) 125 [.slice (some ⟨g, 0, none⟩) n c]
  have s1 : (w.alloc (.cells #[.func (.func k) #[] caps] 260)).heap.size = w.heap.size + 1 := by simp
  rw [s1] at L3
  generalize (w.alloc (.cells #[.func (.func k) #[] caps] 260)).alloc (.cells #[.slice (some ⟨g, 0, none⟩) n c] 125) = w3 at *
  refine ⟨⟨_, _, _, _, _, _⟩, rfl, ?_, below_more b3 _ b3.size⟩
  have P4 := P3.alloc (.cells #[.func (.func 261) #[] #[.pointer (some ⟨w.heap.size + 1, 0, none⟩), .pointer (some ⟨w.heap.size, 0, none⟩)], .func (.func 262) #[] #[.pointer (some ⟨w.heap.size + 1, 0, none⟩), .pointer (some ⟨w.heap.size, 0, none⟩)], .func (.func 263) #[] #[.pointer (some ⟨w.heap.size + 1, 0, none⟩), .pointer (some ⟨w.heap.size, 0, none⟩)]] 257)
  have L4 := L3.alloc (.cells #[.func (.func 261) #[] #[.pointer (some ⟨w.heap.size + 1, 0, none⟩), .pointer (some ⟨w.heap.size, 0, none⟩)], .func (.func 262) #[] #[.pointer (some ⟨w.heap.size + 1, 0, none⟩), .pointer (some ⟨w.heap.size, 0, none⟩)], .func (.func 263) #[] #[.pointer (some ⟨w.heap.size + 1, 0, none⟩), .pointer (some ⟨w.heap.size, 0, none⟩)]] 257)
  have b4 := below_more b3 (.cells #[.func (.func 261) #[] #[.pointer (some ⟨w.heap.size + 1, 0, none⟩), .pointer (some ⟨w.heap.size, 0, none⟩)], .func (.func 262) #[] #[.pointer (some ⟨w.heap.size + 1, 0, none⟩), .pointer (some ⟨w.heap.size, 0, none⟩)], .func (.func 263) #[] #[.pointer (some ⟨w.heap.size + 1, 0, none⟩), .pointer (some ⟨w.heap.size, 0, none⟩)]] 257) b3.size
  have hp2 := (unhide Hp).new hS b4
  have ht2 := (unhide Ht).new hS b4
  have hn := unhide Hn
  exact ⟨inPut_Freeze hp2 ht2 hn hc hc2 L4 P4 (New.at (by omega) L4.lt) (New.at (Nat.le_refl _) P4.lt) ha hs, inGet_Freeze hp2 ht2 hn hc hc2 L4 P4 (New.at (by omega) L4.lt) (New.at (Nat.le_refl _) P4.lt) ha hs, inFit_Freeze hp2 ht2 hn hc hc2 L4 P4 (New.at (by omega) L4.lt) (New.at (Nat.le_refl _) P4.lt) ha hs⟩
end Go.Proofs.YtfedajifefldmaaGreat
