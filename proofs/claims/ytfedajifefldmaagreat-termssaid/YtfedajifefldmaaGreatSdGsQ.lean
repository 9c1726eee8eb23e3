import Derived.Test.YtfedajifefldmaaGreatSdGsP
import Derived.Test.YtfedajifefldmaaGreatSdKCert
import Derived.Test.YtfedajifefldmaaGreatSdKTicket
import Derived.Test.YtfedajifefldmaaGreatSdKEntry
import Derived.Test.YtfedajifefldmaaGreatSdKFreeze
import Derived.Deep.MidRow
import Derived.Test.YtfedajifefldmaaGreatSdKAck
import Derived.Test.YtfedajifefldmaaGreatSdKRevocation
import Derived.Test.YtfedajifefldmaaGreatSdKFloor
import Derived.Test.YtfedajifefldmaaGreatSdKReceipt
import Derived.Test.YtfedajifefldmaaGreatSdKOrder
import Derived.Test.YtfedajifefldmaaGreatSdKHead
set_option linter.unusedSimpArgs false
set_option linter.unusedVariables false
namespace Go.Proofs.YtfedajifefldmaaGreat
open Go.RowKit
def QPost (E : List (List Int × List Int)) (w : World) (e : Ending) (w' : World) : Prop := ∃ v ps, e = .returned (.tuple #[v, .int .i64 0]) ∧ Prts w' w.heap.size v ps ∧ ps.map (fun p => (p.l, p.g)) = E ∧ Below w.heap.size w w'
end Go.Proofs.YtfedajifefldmaaGreat
namespace Go.Proofs.YtfedajifefldmaaGreat
open Go.RowKit
set_option maxHeartbeats 4000000 in
set_option maxRecDepth 100000 in
theorem partsOf_Cert {S : Nat → Prop} {w0 : World} {tyF : TypeId} {g : Nat} {vs : List FV} (hTab : Tab S w0 sCert 99 fCert tyF g vs) (w : World) (b : Sl) (hbo : b.Ok w) (hb : Kept S w0 w) (z x : Nat → Int) (hz : decL 1 (fsAll fCert) b.l = (z, 0)) (hzx : ∀ i, i < 99 → z i = x i) (hokm : ∀ i, i < 99 → (sCert i).ok (x i)) :
    Calls Tryz.prog 87 #[.agg #[.int .i64 1, .int .i64 4, .slice (some ⟨g, 0, none⟩) 5 5], .func (.func 88) #[] #[], b.v] w (QPost ([certE x]) w) := by
  obtain ⟨Z, it, -, hZl, hit, hzz, hzv⟩ := zeroCert_named
  have b1 : Below w.heap.size w (w.alloc (.cells #[.int .i64 1, .int .i64 4, .slice (some ⟨g, 0, none⟩) 5 5] 127)) := below_one w _
  have A1 := Arr.new w 127 [.int .i64 1, .int .i64 4, .slice (some ⟨g, 0, none⟩) 5 5]
  have c0 : (w.alloc (.cells #[.int .i64 1, .int .i64 4, .slice (some ⟨g, 0, none⟩) 5 5] 127)).cell? ⟨w.heap.size, 0, none⟩ = some (.int .i64 1) := A1.cell 0
  have c1 : (w.alloc (.cells #[.int .i64 1, .int .i64 4, .slice (some ⟨g, 0, none⟩) 5 5] 127)).cell? ⟨w.heap.size, 1, none⟩ = some (.int .i64 4) := A1.cell 1
  have c2 : (w.alloc (.cells #[.int .i64 1, .int .i64 4, .slice (some ⟨g, 0, none⟩) 5 5] 127)).cell? ⟨w.heap.size, 2, none⟩ = some (.slice (some ⟨g, 0, none⟩) 5 5) := A1.cell 2
  have hD := decode_Cert hTab _ 1 4 b (hbo.later b1) (hb.below b1)
  have HM : Hid (∀ e w1, DPost 1 (fsAll fCert) sCert 99 b.l (w.alloc (.cells #[.int .i64 1, .int .i64 4, .slice (some ⟨g, 0, none⟩) 5 5] 127)) e w1 → e = .returned (.tuple #[.agg (cl sCert 99 x).toArray, .int .i64 0]) ∧ Below w.heap.size w w1) := by
    rintro e w1 ⟨rfl, -, hB⟩
    rw [hz]
    exact ⟨by rw [cl_ext hzx], b1.trans (hB.mono b1.size)⟩
  have hF := fun W => certParts_any W x hokm
  have hML : (cl sCert 99 x).length = 99 := cl_length _ _ _
  have hOC := cl_oc sCert 99 x
  have eg := enters_of Tryz.func88 (by kernel_rfl) rfl
  simp only [Enters] at eg
  have HZL := hide hZl
  clear hit hzz hZl hbo hb hTab hz hzx hokm A1 b1
  have hbv : b.v = .slice b.a b.n b.c := rfl
  rw [hbv] at hD ⊢
  generalize b.a = ba at *
  generalize b.n = bn at *
  generalize b.c = bc at *
  generalize b.l = bl at *
  clear hbv b
  generalize cl sCert 99 x = M at *
  have HML := hide hML
  have HOC := hide hOC
  have HSA : Hid ((Tryz.prog.info? 39).map (·.size) = some M.toArray.size) := by
    show _ = _
    rw [List.size_toArray, hML]; exact Tryz.szTCert
  have HSM : Hid ((Tryz.prog.info? 39).map (·.size) = some M.length) := by
    show _ = _
    rw [hML]; exact Tryz.szTCert
  have HLL : Hid (Z.toArray.size = M.toArray.size) := by
    show _ = _
    rw [List.size_toArray, List.size_toArray, hML, unhide HZL]
  clear hML hOC
  go_enter Tryz.func87, Tryz.ntmps87
  go_wp2_with fail
  refine hD.mono ?_
  intro e w1 hP
  obtain ⟨rfl, hB1⟩ := unhide HM _ _ hP
  clear hD hP HM c0 c1 c2
  simp only []
  go_at_K
  rename_i hK
  refine hK _ _ ?_
  clear hK
  refine wpList_plain rfl fun K1 h => ?_; go_simp; refine h _ _ ?_; clear h K1
  refine wpList_plain rfl fun K1 h => ?_; go_simp; refine h _ _ ?_; clear h K1
  refine wpList_plain rfl fun K1 h => ?_; go_simp; refine h _ _ ?_; clear h K1
  refine wpList_plain rfl fun K1 h => ?_; go_simp; refine h _ _ ?_; clear h K1
  have HA := hide (Arr.new w1 39 Z)
  have HA2 : Arr ((w1.alloc (.cells Z.toArray 39)).setRow w1.heap.size M.toArray) w1.heap.size 39 M := setRow_heap _ _ _ _ _ _ (unhide HA)
  have HB2 : Hid (Below w.heap.size w ((w1.alloc (.cells Z.toArray 39)).setRow w1.heap.size M.toArray)) := hide (below_setRow (hB1.alloc hB1.size _) hB1.size _)
  refine wpList_store_row rfl 39 (.tmp 8) (.tmp 14) rfl w1.heap.size M.toArray rfl rfl 39 Z.toArray (unhide HA) (unhide HSA) (unhide HLL) (all_oneCell_toArray (unhide HOC)) ?_
  have RM := hide HA2.range
  clear HA HA2 hB1
  generalize (w1.alloc (.cells Z.toArray 39)).setRow w1.heap.size M.toArray = W at *
  refine wpList_plain rfl fun K1 h => ?_; go_simp; refine h _ _ ?_; clear h K1
  refine wpList_nil ?_
  have hC := hF W
  clear hF
  go_upto_region 4 with fail
  refine wp_region_lit ?_
  refine wpList_plain rfl fun K1 h => ?_; go_simp; refine h _ _ ?_; clear h K1
  refine wpList_load_mid rfl 39 (.tmp 8) rfl w1.heap.size 0 rfl M _ (unhide RM) Tryz.underlying39 rfl (unhide HSM) ?_
  simp only [Act.put]
  refine wpList_plain rfl fun K1 hK1 => ?_
  go_simp
  refine hC.mono ?_
  rintro e w3 ⟨v, ps, rfl, hPr, hE, hB3⟩
  obtain ⟨av, cv, rfl⟩ := own_parts hPr.own
  have HE : Hid (QPost ([certE x]) w (.returned (.tuple #[.slice av ps.length cv, .int .i64 0])) w3) := hide ⟨_, ps, rfl, hPr.mono (unhide HB2).size, hE, (unhide HB2).trans (hB3.mono (unhide HB2).size)⟩
  clear hC hPr hE hB3
  generalize ps.length = nn at *
  refine hK1 _ _ ?_
  clear hK1 K1
  go_wp2
  go_ret2
  exact unhide HE
set_option maxHeartbeats 4000000 in
set_option maxRecDepth 100000 in
theorem parts_Cert (w : World) (b : Sl) (hbo : b.Ok w) (z x : Nat → Int) (hz : decL 1 (fsAll fCert) b.l = (z, 0)) (hzx : ∀ i, i < 99 → z i = x i) (hokm : ∀ i, i < 99 → (sCert i).ok (x i)) :
    Calls Tryz.prog 48 #[.int .i64 1, b.v] w (QPost ([certE x]) w) := by
  have hU := fun w1 g vs (h : Tab (New noS w w1) w1 sCert 99 fCert 201 g vs) (hB : Below w.heap.size w w1) => partsOf_Cert h w1 b (hbo.later hB) (Kept.refl (New.lt (noS_lt _) hB.size)) z x hz hzx hokm
  have hbv : b.v = .slice b.a b.n b.c := rfl
  rw [hbv] at hU ⊢
  generalize b.a = ba at *
  generalize b.n = bn at *
  generalize b.c = bc at *
  clear hbo hz hzx hokm hbv
  go_enter Tryz.func48, Tryz.ntmps48
  go_wp2_with fail
  refine (certForm_any w).mono ?_
  rintro e w1 ⟨g, vs, rfl, hTab, hB1⟩
  have hfl : fCert.length = 5 := rfl
  rw [hfl]
  have hC := hU _ _ _ hTab hB1
  clear hU hTab hfl
  go_wp2_with fail
  refine hC.mono ?_
  rintro e w3 ⟨v, ps, rfl, hPr, hE, hB3⟩
  obtain ⟨av, cv, rfl⟩ := own_parts hPr.own
  have HE : Hid (QPost ([certE x]) w (.returned (.tuple #[.slice av ps.length cv, .int .i64 0])) w3) := hide ⟨_, ps, rfl, hPr.mono hB1.size, hE, hB1.trans (hB3.mono hB1.size)⟩
  clear hC hPr hE hB3 hB1
  generalize ps.length = nn at *
  go_wp2
  go_ret2
  exact unhide HE
set_option maxHeartbeats 4000000 in
set_option maxRecDepth 100000 in
theorem partsOf_Ticket {S : Nat → Prop} {w0 : World} {tyF : TypeId} {g : Nat} {vs : List FV} (hTab : Tab S w0 sTicket 132 fTicket tyF g vs) (w : World) (b : Sl) (hbo : b.Ok w) (hb : Kept S w0 w) (z x : Nat → Int) (hz : decL 2 (fsAll fTicket) b.l = (z, 0)) (hzx : ∀ i, i < 132 → z i = x i) (hokm : ∀ i, i < 132 → (sTicket i).ok (x i)) :
    Calls Tryz.prog 89 #[.agg #[.int .i64 2, .int .i64 0, .slice (some ⟨g, 0, none⟩) 3 3], .func (.func 90) #[] #[], b.v] w (QPost ([certE x]) w) := by
  obtain ⟨Z, it, -, hZl, hit, hzz, hzv⟩ := zeroTicket_named
  have b1 : Below w.heap.size w (w.alloc (.cells #[.int .i64 2, .int .i64 0, .slice (some ⟨g, 0, none⟩) 3 3] 131)) := below_one w _
  have A1 := Arr.new w 131 [.int .i64 2, .int .i64 0, .slice (some ⟨g, 0, none⟩) 3 3]
  have c0 : (w.alloc (.cells #[.int .i64 2, .int .i64 0, .slice (some ⟨g, 0, none⟩) 3 3] 131)).cell? ⟨w.heap.size, 0, none⟩ = some (.int .i64 2) := A1.cell 0
  have c1 : (w.alloc (.cells #[.int .i64 2, .int .i64 0, .slice (some ⟨g, 0, none⟩) 3 3] 131)).cell? ⟨w.heap.size, 1, none⟩ = some (.int .i64 0) := A1.cell 1
  have c2 : (w.alloc (.cells #[.int .i64 2, .int .i64 0, .slice (some ⟨g, 0, none⟩) 3 3] 131)).cell? ⟨w.heap.size, 2, none⟩ = some (.slice (some ⟨g, 0, none⟩) 3 3) := A1.cell 2
  have hD := decode_Ticket hTab _ 2 0 b (hbo.later b1) (hb.below b1)
  have HM : Hid (∀ e w1, DPost 2 (fsAll fTicket) sTicket 132 b.l (w.alloc (.cells #[.int .i64 2, .int .i64 0, .slice (some ⟨g, 0, none⟩) 3 3] 131)) e w1 → e = .returned (.tuple #[.agg (cl sTicket 132 x).toArray, .int .i64 0]) ∧ Below w.heap.size w w1) := by
    rintro e w1 ⟨rfl, -, hB⟩
    rw [hz]
    exact ⟨by rw [cl_ext hzx], b1.trans (hB.mono b1.size)⟩
  have hF := fun W => partsTicket_any W x hokm
  have hML : (cl sTicket 132 x).length = 132 := cl_length _ _ _
  have hOC := cl_oc sTicket 132 x
  have eg := enters_of Tryz.func90 (by kernel_rfl) rfl
  simp only [Enters] at eg
  have HZL := hide hZl
  clear hit hzz hZl hbo hb hTab hz hzx hokm A1 b1
  have hbv : b.v = .slice b.a b.n b.c := rfl
  rw [hbv] at hD ⊢
  generalize b.a = ba at *
  generalize b.n = bn at *
  generalize b.c = bc at *
  generalize b.l = bl at *
  clear hbv b
  generalize cl sTicket 132 x = M at *
  have HML := hide hML
  have HOC := hide hOC
  have HSA : Hid ((Tryz.prog.info? 60).map (·.size) = some M.toArray.size) := by
    show _ = _
    rw [List.size_toArray, hML]; exact Tryz.szTTicket
  have HSM : Hid ((Tryz.prog.info? 60).map (·.size) = some M.length) := by
    show _ = _
    rw [hML]; exact Tryz.szTTicket
  have HLL : Hid (Z.toArray.size = M.toArray.size) := by
    show _ = _
    rw [List.size_toArray, List.size_toArray, hML, unhide HZL]
  clear hML hOC
  go_enter Tryz.func89, Tryz.ntmps89
  go_wp2_with fail
  refine hD.mono ?_
  intro e w1 hP
  obtain ⟨rfl, hB1⟩ := unhide HM _ _ hP
  clear hD hP HM c0 c1 c2
  simp only []
  go_at_K
  rename_i hK
  refine hK _ _ ?_
  clear hK
  refine wpList_plain rfl fun K1 h => ?_; go_simp; refine h _ _ ?_; clear h K1
  refine wpList_plain rfl fun K1 h => ?_; go_simp; refine h _ _ ?_; clear h K1
  refine wpList_plain rfl fun K1 h => ?_; go_simp; refine h _ _ ?_; clear h K1
  refine wpList_plain rfl fun K1 h => ?_; go_simp; refine h _ _ ?_; clear h K1
  have HA := hide (Arr.new w1 60 Z)
  have HA2 : Arr ((w1.alloc (.cells Z.toArray 60)).setRow w1.heap.size M.toArray) w1.heap.size 60 M := setRow_heap _ _ _ _ _ _ (unhide HA)
  have HB2 : Hid (Below w.heap.size w ((w1.alloc (.cells Z.toArray 60)).setRow w1.heap.size M.toArray)) := hide (below_setRow (hB1.alloc hB1.size _) hB1.size _)
  refine wpList_store_row rfl 60 (.tmp 8) (.tmp 14) rfl w1.heap.size M.toArray rfl rfl 60 Z.toArray (unhide HA) (unhide HSA) (unhide HLL) (all_oneCell_toArray (unhide HOC)) ?_
  have RM := hide HA2.range
  clear HA HA2 hB1
  generalize (w1.alloc (.cells Z.toArray 60)).setRow w1.heap.size M.toArray = W at *
  refine wpList_plain rfl fun K1 h => ?_; go_simp; refine h _ _ ?_; clear h K1
  refine wpList_nil ?_
  have hC := hF W
  clear hF
  go_upto_region 4 with fail
  refine wp_region_lit ?_
  refine wpList_plain rfl fun K1 h => ?_; go_simp; refine h _ _ ?_; clear h K1
  refine wpList_load_mid rfl 60 (.tmp 8) rfl w1.heap.size 0 rfl M _ (unhide RM) Tryz.underlying60 rfl (unhide HSM) ?_
  simp only [Act.put]
  refine wpList_plain rfl fun K1 hK1 => ?_
  go_simp
  refine hC.mono ?_
  rintro e w3 ⟨v, ps, rfl, hPr, hE, hB3⟩
  obtain ⟨av, cv, rfl⟩ := own_parts hPr.own
  have HE : Hid (QPost ([certE x]) w (.returned (.tuple #[.slice av ps.length cv, .int .i64 0])) w3) := hide ⟨_, ps, rfl, hPr.mono (unhide HB2).size, hE, (unhide HB2).trans (hB3.mono (unhide HB2).size)⟩
  clear hC hPr hE hB3
  generalize ps.length = nn at *
  refine hK1 _ _ ?_
  clear hK1 K1
  go_wp2
  go_ret2
  exact unhide HE
set_option maxHeartbeats 4000000 in
set_option maxRecDepth 100000 in
theorem parts_Ticket (w : World) (b : Sl) (hbo : b.Ok w) (z x : Nat → Int) (hz : decL 2 (fsAll fTicket) b.l = (z, 0)) (hzx : ∀ i, i < 132 → z i = x i) (hokm : ∀ i, i < 132 → (sTicket i).ok (x i)) :
    Calls Tryz.prog 48 #[.int .i64 2, b.v] w (QPost ([certE x]) w) := by
  have hU := fun w1 g vs (h : Tab (New noS w w1) w1 sTicket 132 fTicket 220 g vs) (hB : Below w.heap.size w w1) => partsOf_Ticket h w1 b (hbo.later hB) (Kept.refl (New.lt (noS_lt _) hB.size)) z x hz hzx hokm
  have hbv : b.v = .slice b.a b.n b.c := rfl
  rw [hbv] at hU ⊢
  generalize b.a = ba at *
  generalize b.n = bn at *
  generalize b.c = bc at *
  clear hbo hz hzx hokm hbv
  go_enter Tryz.func48, Tryz.ntmps48
  go_wp2_with fail
  refine (ticketForm_any w).mono ?_
  rintro e w1 ⟨g, vs, rfl, hTab, hB1⟩
  have hfl : fTicket.length = 3 := rfl
  rw [hfl]
  have hC := hU _ _ _ hTab hB1
  clear hU hTab hfl
  go_wp2_with fail
  refine hC.mono ?_
  rintro e w3 ⟨v, ps, rfl, hPr, hE, hB3⟩
  obtain ⟨av, cv, rfl⟩ := own_parts hPr.own
  have HE : Hid (QPost ([certE x]) w (.returned (.tuple #[.slice av ps.length cv, .int .i64 0])) w3) := hide ⟨_, ps, rfl, hPr.mono hB1.size, hE, hB1.trans (hB3.mono hB1.size)⟩
  clear hC hPr hE hB3 hB1
  generalize ps.length = nn at *
  go_wp2
  go_ret2
  exact unhide HE
set_option maxHeartbeats 4000000 in
set_option maxRecDepth 100000 in
theorem partsOf_Entry {S : Nat → Prop} {w0 : World} {tyF : TypeId} {g : Nat} {vs : List FV} (hTab : Tab S w0 sEntry 262 fEntry tyF g vs) (w : World) (b : Sl) (hbo : b.Ok w) (hb : Kept S w0 w) (z x : Nat → Int) (hz : decL 3 (fsAll fEntry) b.l = (z, 0)) (hzx : ∀ i, i < 262 → z i = x i) (hokm : ∀ i, i < 262 → (sEntry i).ok (x i)) :
    Calls Tryz.prog 91 #[.agg #[.int .i64 3, .int .i64 0, .slice (some ⟨g, 0, none⟩) 5 5], .func (.func 92) #[] #[], b.v] w (QPost (entE x) w) := by
  obtain ⟨Z, it, -, hZl, hit, hzz, hzv⟩ := zeroEntry_named
  have b1 : Below w.heap.size w (w.alloc (.cells #[.int .i64 3, .int .i64 0, .slice (some ⟨g, 0, none⟩) 5 5] 135)) := below_one w _
  have A1 := Arr.new w 135 [.int .i64 3, .int .i64 0, .slice (some ⟨g, 0, none⟩) 5 5]
  have c0 : (w.alloc (.cells #[.int .i64 3, .int .i64 0, .slice (some ⟨g, 0, none⟩) 5 5] 135)).cell? ⟨w.heap.size, 0, none⟩ = some (.int .i64 3) := A1.cell 0
  have c1 : (w.alloc (.cells #[.int .i64 3, .int .i64 0, .slice (some ⟨g, 0, none⟩) 5 5] 135)).cell? ⟨w.heap.size, 1, none⟩ = some (.int .i64 0) := A1.cell 1
  have c2 : (w.alloc (.cells #[.int .i64 3, .int .i64 0, .slice (some ⟨g, 0, none⟩) 5 5] 135)).cell? ⟨w.heap.size, 2, none⟩ = some (.slice (some ⟨g, 0, none⟩) 5 5) := A1.cell 2
  have hD := decode_Entry hTab _ 3 0 b (hbo.later b1) (hb.below b1)
  have HM : Hid (∀ e w1, DPost 3 (fsAll fEntry) sEntry 262 b.l (w.alloc (.cells #[.int .i64 3, .int .i64 0, .slice (some ⟨g, 0, none⟩) 5 5] 135)) e w1 → e = .returned (.tuple #[.agg (cl sEntry 262 x).toArray, .int .i64 0]) ∧ Below w.heap.size w w1) := by
    rintro e w1 ⟨rfl, -, hB⟩
    rw [hz]
    exact ⟨by rw [cl_ext hzx], b1.trans (hB.mono b1.size)⟩
  have hF := fun W => partsEntry_any W x hokm
  have hML : (cl sEntry 262 x).length = 262 := cl_length _ _ _
  have hOC := cl_oc sEntry 262 x
  have eg := enters_of Tryz.func92 (by kernel_rfl) rfl
  simp only [Enters] at eg
  have HZL := hide hZl
  clear hit hzz hZl hbo hb hTab hz hzx hokm A1 b1
  have hbv : b.v = .slice b.a b.n b.c := rfl
  rw [hbv] at hD ⊢
  generalize b.a = ba at *
  generalize b.n = bn at *
  generalize b.c = bc at *
  generalize b.l = bl at *
  clear hbv b
  generalize cl sEntry 262 x = M at *
  have HML := hide hML
  have HOC := hide hOC
  have HSA : Hid ((Tryz.prog.info? 65).map (·.size) = some M.toArray.size) := by
    show _ = _
    rw [List.size_toArray, hML]; exact Tryz.szTEntry
  have HSM : Hid ((Tryz.prog.info? 65).map (·.size) = some M.length) := by
    show _ = _
    rw [hML]; exact Tryz.szTEntry
  have HLL : Hid (Z.toArray.size = M.toArray.size) := by
    show _ = _
    rw [List.size_toArray, List.size_toArray, hML, unhide HZL]
  clear hML hOC
  go_enter Tryz.func91, Tryz.ntmps91
  go_wp2_with fail
  refine hD.mono ?_
  intro e w1 hP
  obtain ⟨rfl, hB1⟩ := unhide HM _ _ hP
  clear hD hP HM c0 c1 c2
  simp only []
  go_at_K
  rename_i hK
  refine hK _ _ ?_
  clear hK
  refine wpList_plain rfl fun K1 h => ?_; go_simp; refine h _ _ ?_; clear h K1
  refine wpList_plain rfl fun K1 h => ?_; go_simp; refine h _ _ ?_; clear h K1
  refine wpList_plain rfl fun K1 h => ?_; go_simp; refine h _ _ ?_; clear h K1
  refine wpList_plain rfl fun K1 h => ?_; go_simp; refine h _ _ ?_; clear h K1
  have HA := hide (Arr.new w1 65 Z)
  have HA2 : Arr ((w1.alloc (.cells Z.toArray 65)).setRow w1.heap.size M.toArray) w1.heap.size 65 M := setRow_heap _ _ _ _ _ _ (unhide HA)
  have HB2 : Hid (Below w.heap.size w ((w1.alloc (.cells Z.toArray 65)).setRow w1.heap.size M.toArray)) := hide (below_setRow (hB1.alloc hB1.size _) hB1.size _)
  refine wpList_store_row rfl 65 (.tmp 8) (.tmp 14) rfl w1.heap.size M.toArray rfl rfl 65 Z.toArray (unhide HA) (unhide HSA) (unhide HLL) (all_oneCell_toArray (unhide HOC)) ?_
  have RM := hide HA2.range
  clear HA HA2 hB1
  generalize (w1.alloc (.cells Z.toArray 65)).setRow w1.heap.size M.toArray = W at *
  refine wpList_plain rfl fun K1 h => ?_; go_simp; refine h _ _ ?_; clear h K1
  refine wpList_nil ?_
  have hC := hF W
  clear hF
  go_upto_region 4 with fail
  refine wp_region_lit ?_
  refine wpList_plain rfl fun K1 h => ?_; go_simp; refine h _ _ ?_; clear h K1
  refine wpList_load_mid rfl 65 (.tmp 8) rfl w1.heap.size 0 rfl M _ (unhide RM) Tryz.underlying65 rfl (unhide HSM) ?_
  simp only [Act.put]
  refine wpList_plain rfl fun K1 hK1 => ?_
  go_simp
  refine hC.mono ?_
  rintro e w3 ⟨v, ps, rfl, hPr, hE, hB3⟩
  obtain ⟨av, cv, rfl⟩ := own_parts hPr.own
  have HE : Hid (QPost (entE x) w (.returned (.tuple #[.slice av ps.length cv, .int .i64 0])) w3) := hide ⟨_, ps, rfl, hPr.mono (unhide HB2).size, hE, (unhide HB2).trans (hB3.mono (unhide HB2).size)⟩
  clear hC hPr hE hB3
  generalize ps.length = nn at *
  refine hK1 _ _ ?_
  clear hK1 K1
  go_wp2
  go_ret2
  exact unhide HE
set_option maxHeartbeats 4000000 in
set_option maxRecDepth 100000 in
theorem parts_Entry (w : World) (b : Sl) (hbo : b.Ok w) (z x : Nat → Int) (hz : decL 3 (fsAll fEntry) b.l = (z, 0)) (hzx : ∀ i, i < 262 → z i = x i) (hokm : ∀ i, i < 262 → (sEntry i).ok (x i)) :
    Calls Tryz.prog 48 #[.int .i64 3, b.v] w (QPost (entE x) w) := by
  have hU := fun w1 g vs (h : Tab (New noS w w1) w1 sEntry 262 fEntry 236 g vs) (hB : Below w.heap.size w w1) => partsOf_Entry h w1 b (hbo.later hB) (Kept.refl (New.lt (noS_lt _) hB.size)) z x hz hzx hokm
  have hbv : b.v = .slice b.a b.n b.c := rfl
  rw [hbv] at hU ⊢
  generalize b.a = ba at *
  generalize b.n = bn at *
  generalize b.c = bc at *
  clear hbo hz hzx hokm hbv
  go_enter Tryz.func48, Tryz.ntmps48
  go_wp2_with fail
  refine (entryForm_any w).mono ?_
  rintro e w1 ⟨g, vs, rfl, hTab, hB1⟩
  have hfl : fEntry.length = 5 := rfl
  rw [hfl]
  have hC := hU _ _ _ hTab hB1
  clear hU hTab hfl
  go_wp2_with fail
  refine hC.mono ?_
  rintro e w3 ⟨v, ps, rfl, hPr, hE, hB3⟩
  obtain ⟨av, cv, rfl⟩ := own_parts hPr.own
  have HE : Hid (QPost (entE x) w (.returned (.tuple #[.slice av ps.length cv, .int .i64 0])) w3) := hide ⟨_, ps, rfl, hPr.mono hB1.size, hE, hB1.trans (hB3.mono hB1.size)⟩
  clear hC hPr hE hB3 hB1
  generalize ps.length = nn at *
  go_wp2
  go_ret2
  exact unhide HE
set_option maxHeartbeats 4000000 in
set_option maxRecDepth 100000 in
theorem partsOf_Freeze {S : Nat → Prop} {w0 : World} {tyF : TypeId} {g : Nat} {vs : List FV} (hTab : Tab S w0 sFreeze 163 fFreeze tyF g vs) (w : World) (b : Sl) (hbo : b.Ok w) (hb : Kept S w0 w) (z x : Nat → Int) (hz : decL 4 (fsAll fFreeze) b.l = (z, 0)) (hzx : ∀ i, i < 163 → z i = x i) (hokm : ∀ i, i < 163 → (sFreeze i).ok (x i)) :
    Calls Tryz.prog 93 #[.agg #[.int .i64 4, .int .i64 1, .slice (some ⟨g, 0, none⟩) 2 2], .func (.func 94) #[] #[], b.v] w (QPost ([certE x, (tellL 4 (fsAll (fFreeze.take 1)) x, run x 99 64)]) w) := by
  obtain ⟨Z, it, -, hZl, hit, hzz, hzv⟩ := zeroFreeze_named
  have b1 : Below w.heap.size w (w.alloc (.cells #[.int .i64 4, .int .i64 1, .slice (some ⟨g, 0, none⟩) 2 2] 139)) := below_one w _
  have A1 := Arr.new w 139 [.int .i64 4, .int .i64 1, .slice (some ⟨g, 0, none⟩) 2 2]
  have c0 : (w.alloc (.cells #[.int .i64 4, .int .i64 1, .slice (some ⟨g, 0, none⟩) 2 2] 139)).cell? ⟨w.heap.size, 0, none⟩ = some (.int .i64 4) := A1.cell 0
  have c1 : (w.alloc (.cells #[.int .i64 4, .int .i64 1, .slice (some ⟨g, 0, none⟩) 2 2] 139)).cell? ⟨w.heap.size, 1, none⟩ = some (.int .i64 1) := A1.cell 1
  have c2 : (w.alloc (.cells #[.int .i64 4, .int .i64 1, .slice (some ⟨g, 0, none⟩) 2 2] 139)).cell? ⟨w.heap.size, 2, none⟩ = some (.slice (some ⟨g, 0, none⟩) 2 2) := A1.cell 2
  have hD := decode_Freeze hTab _ 4 1 b (hbo.later b1) (hb.below b1)
  have HM : Hid (∀ e w1, DPost 4 (fsAll fFreeze) sFreeze 163 b.l (w.alloc (.cells #[.int .i64 4, .int .i64 1, .slice (some ⟨g, 0, none⟩) 2 2] 139)) e w1 → e = .returned (.tuple #[.agg (cl sFreeze 163 x).toArray, .int .i64 0]) ∧ Below w.heap.size w w1) := by
    rintro e w1 ⟨rfl, -, hB⟩
    rw [hz]
    exact ⟨by rw [cl_ext hzx], b1.trans (hB.mono b1.size)⟩
  have hF := fun W => partsFreeze_any W x hokm
  have hML : (cl sFreeze 163 x).length = 163 := cl_length _ _ _
  have hOC := cl_oc sFreeze 163 x
  have eg := enters_of Tryz.func94 (by kernel_rfl) rfl
  simp only [Enters] at eg
  have HZL := hide hZl
  clear hit hzz hZl hbo hb hTab hz hzx hokm A1 b1
  have hbv : b.v = .slice b.a b.n b.c := rfl
  rw [hbv] at hD ⊢
  generalize b.a = ba at *
  generalize b.n = bn at *
  generalize b.c = bc at *
  generalize b.l = bl at *
  clear hbv b
  generalize cl sFreeze 163 x = M at *
  have HML := hide hML
  have HOC := hide hOC
  have HSA : Hid ((Tryz.prog.info? 70).map (·.size) = some M.toArray.size) := by
    show _ = _
    rw [List.size_toArray, hML]; exact Tryz.szTFreeze
  have HSM : Hid ((Tryz.prog.info? 70).map (·.size) = some M.length) := by
    show _ = _
    rw [hML]; exact Tryz.szTFreeze
  have HLL : Hid (Z.toArray.size = M.toArray.size) := by
    show _ = _
    rw [List.size_toArray, List.size_toArray, hML, unhide HZL]
  clear hML hOC
  go_enter Tryz.func93, Tryz.ntmps93
  go_wp2_with fail
  refine hD.mono ?_
  intro e w1 hP
  obtain ⟨rfl, hB1⟩ := unhide HM _ _ hP
  clear hD hP HM c0 c1 c2
  simp only []
  go_at_K
  rename_i hK
  refine hK _ _ ?_
  clear hK
  refine wpList_plain rfl fun K1 h => ?_; go_simp; refine h _ _ ?_; clear h K1
  refine wpList_plain rfl fun K1 h => ?_; go_simp; refine h _ _ ?_; clear h K1
  refine wpList_plain rfl fun K1 h => ?_; go_simp; refine h _ _ ?_; clear h K1
  refine wpList_plain rfl fun K1 h => ?_; go_simp; refine h _ _ ?_; clear h K1
  have HA := hide (Arr.new w1 70 Z)
  have HA2 : Arr ((w1.alloc (.cells Z.toArray 70)).setRow w1.heap.size M.toArray) w1.heap.size 70 M := setRow_heap _ _ _ _ _ _ (unhide HA)
  have HB2 : Hid (Below w.heap.size w ((w1.alloc (.cells Z.toArray 70)).setRow w1.heap.size M.toArray)) := hide (below_setRow (hB1.alloc hB1.size _) hB1.size _)
  refine wpList_store_row rfl 70 (.tmp 8) (.tmp 14) rfl w1.heap.size M.toArray rfl rfl 70 Z.toArray (unhide HA) (unhide HSA) (unhide HLL) (all_oneCell_toArray (unhide HOC)) ?_
  have RM := hide HA2.range
  clear HA HA2 hB1
  generalize (w1.alloc (.cells Z.toArray 70)).setRow w1.heap.size M.toArray = W at *
  refine wpList_plain rfl fun K1 h => ?_; go_simp; refine h _ _ ?_; clear h K1
  refine wpList_nil ?_
  have hC := hF W
  clear hF
  go_upto_region 4 with fail
  refine wp_region_lit ?_
  refine wpList_plain rfl fun K1 h => ?_; go_simp; refine h _ _ ?_; clear h K1
  refine wpList_load_mid rfl 70 (.tmp 8) rfl w1.heap.size 0 rfl M _ (unhide RM) Tryz.underlying70 rfl (unhide HSM) ?_
  simp only [Act.put]
  refine wpList_plain rfl fun K1 hK1 => ?_
  go_simp
  refine hC.mono ?_
  rintro e w3 ⟨v, ps, rfl, hPr, hE, hB3⟩
  obtain ⟨av, cv, rfl⟩ := own_parts hPr.own
  have HE : Hid (QPost ([certE x, (tellL 4 (fsAll (fFreeze.take 1)) x, run x 99 64)]) w (.returned (.tuple #[.slice av ps.length cv, .int .i64 0])) w3) := hide ⟨_, ps, rfl, hPr.mono (unhide HB2).size, hE, (unhide HB2).trans (hB3.mono (unhide HB2).size)⟩
  clear hC hPr hE hB3
  generalize ps.length = nn at *
  refine hK1 _ _ ?_
  clear hK1 K1
  go_wp2
  go_ret2
  exact unhide HE
set_option maxHeartbeats 4000000 in
set_option maxRecDepth 100000 in
theorem parts_Freeze (w : World) (b : Sl) (hbo : b.Ok w) (z x : Nat → Int) (hz : decL 4 (fsAll fFreeze) b.l = (z, 0)) (hzx : ∀ i, i < 163 → z i = x i) (hokm : ∀ i, i < 163 → (sFreeze i).ok (x i)) :
    Calls Tryz.prog 48 #[.int .i64 4, b.v] w (QPost ([certE x, (tellL 4 (fsAll (fFreeze.take 1)) x, run x 99 64)]) w) := by
  have hU := fun w1 g vs (h : Tab (New noS w w1) w1 sFreeze 163 fFreeze 257 g vs) (hB : Below w.heap.size w w1) => partsOf_Freeze h w1 b (hbo.later hB) (Kept.refl (New.lt (noS_lt _) hB.size)) z x hz hzx hokm
  have hbv : b.v = .slice b.a b.n b.c := rfl
  rw [hbv] at hU ⊢
  generalize b.a = ba at *
  generalize b.n = bn at *
  generalize b.c = bc at *
  clear hbo hz hzx hokm hbv
  go_enter Tryz.func48, Tryz.ntmps48
  go_wp2_with fail
  refine (freezeForm_any w).mono ?_
  rintro e w1 ⟨g, vs, rfl, hTab, hB1⟩
  have hfl : fFreeze.length = 2 := rfl
  rw [hfl]
  have hC := hU _ _ _ hTab hB1
  clear hU hTab hfl
  go_wp2_with fail
  refine hC.mono ?_
  rintro e w3 ⟨v, ps, rfl, hPr, hE, hB3⟩
  obtain ⟨av, cv, rfl⟩ := own_parts hPr.own
  have HE : Hid (QPost ([certE x, (tellL 4 (fsAll (fFreeze.take 1)) x, run x 99 64)]) w (.returned (.tuple #[.slice av ps.length cv, .int .i64 0])) w3) := hide ⟨_, ps, rfl, hPr.mono hB1.size, hE, hB1.trans (hB3.mono hB1.size)⟩
  clear hC hPr hE hB3 hB1
  generalize ps.length = nn at *
  go_wp2
  go_ret2
  exact unhide HE
end Go.Proofs.YtfedajifefldmaaGreat
namespace Go.Proofs.YtfedajifefldmaaGreat
open Go.RowKit
set_option maxHeartbeats 4000000 in
set_option maxRecDepth 100000 in
theorem partsOf_Ack {S : Nat → Prop} {w0 : World} {tyF : TypeId} {g : Nat} {vs : List FV} (hTab : Tab S w0 sAck 99 fAck tyF g vs) (w : World) (b : Sl) (hbo : b.Ok w) (hb : Kept S w0 w) (z x : Nat → Int) (hz : decL 5 (fsAll fAck) b.l = (z, 0)) (hzx : ∀ i, i < 99 → z i = x i) (hokm : ∀ i, i < 99 → (sAck i).ok (x i)) :
    Calls Tryz.prog 95 #[.agg #[.int .i64 5, .int .i64 4, .slice (some ⟨g, 0, none⟩) 5 5], .func (.func 96) #[] #[], b.v] w (QPost ([(tellL 5 (fsAll (fAck.take 4)) x, run x 35 64)]) w) := by
  obtain ⟨Z, it, -, hZl, hit, hzz, hzv⟩ := zeroAck_named
  have b1 : Below w.heap.size w (w.alloc (.cells #[.int .i64 5, .int .i64 4, .slice (some ⟨g, 0, none⟩) 5 5] 143)) := below_one w _
  have A1 := Arr.new w 143 [.int .i64 5, .int .i64 4, .slice (some ⟨g, 0, none⟩) 5 5]
  have c0 : (w.alloc (.cells #[.int .i64 5, .int .i64 4, .slice (some ⟨g, 0, none⟩) 5 5] 143)).cell? ⟨w.heap.size, 0, none⟩ = some (.int .i64 5) := A1.cell 0
  have c1 : (w.alloc (.cells #[.int .i64 5, .int .i64 4, .slice (some ⟨g, 0, none⟩) 5 5] 143)).cell? ⟨w.heap.size, 1, none⟩ = some (.int .i64 4) := A1.cell 1
  have c2 : (w.alloc (.cells #[.int .i64 5, .int .i64 4, .slice (some ⟨g, 0, none⟩) 5 5] 143)).cell? ⟨w.heap.size, 2, none⟩ = some (.slice (some ⟨g, 0, none⟩) 5 5) := A1.cell 2
  have hD := decode_Ack hTab _ 5 4 b (hbo.later b1) (hb.below b1)
  have HM : Hid (∀ e w1, DPost 5 (fsAll fAck) sAck 99 b.l (w.alloc (.cells #[.int .i64 5, .int .i64 4, .slice (some ⟨g, 0, none⟩) 5 5] 143)) e w1 → e = .returned (.tuple #[.agg (cl sAck 99 x).toArray, .int .i64 0]) ∧ Below w.heap.size w w1) := by
    rintro e w1 ⟨rfl, -, hB⟩
    rw [hz]
    exact ⟨by rw [cl_ext hzx], b1.trans (hB.mono b1.size)⟩
  have hF := fun W => partsAck_any W x hokm
  have hML : (cl sAck 99 x).length = 99 := cl_length _ _ _
  have hOC := cl_oc sAck 99 x
  have eg := enters_of Tryz.func96 (by kernel_rfl) rfl
  simp only [Enters] at eg
  have HZL := hide hZl
  clear hit hzz hZl hbo hb hTab hz hzx hokm A1 b1
  have hbv : b.v = .slice b.a b.n b.c := rfl
  rw [hbv] at hD ⊢
  generalize b.a = ba at *
  generalize b.n = bn at *
  generalize b.c = bc at *
  generalize b.l = bl at *
  clear hbv b
  generalize cl sAck 99 x = M at *
  have HML := hide hML
  have HOC := hide hOC
  have HSA : Hid ((Tryz.prog.info? 75).map (·.size) = some M.toArray.size) := by
    show _ = _
    rw [List.size_toArray, hML]; exact Tryz.szTAck
  have HSM : Hid ((Tryz.prog.info? 75).map (·.size) = some M.length) := by
    show _ = _
    rw [hML]; exact Tryz.szTAck
  have HLL : Hid (Z.toArray.size = M.toArray.size) := by
    show _ = _
    rw [List.size_toArray, List.size_toArray, hML, unhide HZL]
  clear hML hOC
  go_enter Tryz.func95, Tryz.ntmps95
  go_wp2_with fail
  refine hD.mono ?_
  intro e w1 hP
  obtain ⟨rfl, hB1⟩ := unhide HM _ _ hP
  clear hD hP HM c0 c1 c2
  simp only []
  go_at_K
  rename_i hK
  refine hK _ _ ?_
  clear hK
  refine wpList_plain rfl fun K1 h => ?_; go_simp; refine h _ _ ?_; clear h K1
  refine wpList_plain rfl fun K1 h => ?_; go_simp; refine h _ _ ?_; clear h K1
  refine wpList_plain rfl fun K1 h => ?_; go_simp; refine h _ _ ?_; clear h K1
  refine wpList_plain rfl fun K1 h => ?_; go_simp; refine h _ _ ?_; clear h K1
  have HA := hide (Arr.new w1 75 Z)
  have HA2 : Arr ((w1.alloc (.cells Z.toArray 75)).setRow w1.heap.size M.toArray) w1.heap.size 75 M := setRow_heap _ _ _ _ _ _ (unhide HA)
  have HB2 : Hid (Below w.heap.size w ((w1.alloc (.cells Z.toArray 75)).setRow w1.heap.size M.toArray)) := hide (below_setRow (hB1.alloc hB1.size _) hB1.size _)
  refine wpList_store_row rfl 75 (.tmp 8) (.tmp 14) rfl w1.heap.size M.toArray rfl rfl 75 Z.toArray (unhide HA) (unhide HSA) (unhide HLL) (all_oneCell_toArray (unhide HOC)) ?_
  have RM := hide HA2.range
  clear HA HA2 hB1
  generalize (w1.alloc (.cells Z.toArray 75)).setRow w1.heap.size M.toArray = W at *
  refine wpList_plain rfl fun K1 h => ?_; go_simp; refine h _ _ ?_; clear h K1
  refine wpList_nil ?_
  have hC := hF W
  clear hF
  go_upto_region 4 with fail
  refine wp_region_lit ?_
  refine wpList_plain rfl fun K1 h => ?_; go_simp; refine h _ _ ?_; clear h K1
  refine wpList_load_mid rfl 75 (.tmp 8) rfl w1.heap.size 0 rfl M _ (unhide RM) Tryz.underlying75 rfl (unhide HSM) ?_
  simp only [Act.put]
  refine wpList_plain rfl fun K1 hK1 => ?_
  go_simp
  refine hC.mono ?_
  rintro e w3 ⟨v, ps, rfl, hPr, hE, hB3⟩
  obtain ⟨av, cv, rfl⟩ := own_parts hPr.own
  have HE : Hid (QPost ([(tellL 5 (fsAll (fAck.take 4)) x, run x 35 64)]) w (.returned (.tuple #[.slice av ps.length cv, .int .i64 0])) w3) := hide ⟨_, ps, rfl, hPr.mono (unhide HB2).size, hE, (unhide HB2).trans (hB3.mono (unhide HB2).size)⟩
  clear hC hPr hE hB3
  generalize ps.length = nn at *
  refine hK1 _ _ ?_
  clear hK1 K1
  go_wp2
  go_ret2
  exact unhide HE
set_option maxHeartbeats 4000000 in
set_option maxRecDepth 100000 in
theorem parts_Ack (w : World) (b : Sl) (hbo : b.Ok w) (z x : Nat → Int) (hz : decL 5 (fsAll fAck) b.l = (z, 0)) (hzx : ∀ i, i < 99 → z i = x i) (hokm : ∀ i, i < 99 → (sAck i).ok (x i)) :
    Calls Tryz.prog 48 #[.int .i64 5, b.v] w (QPost ([(tellL 5 (fsAll (fAck.take 4)) x, run x 35 64)]) w) := by
  have hU := fun w1 g vs (h : Tab (New noS w w1) w1 sAck 99 fAck 270 g vs) (hB : Below w.heap.size w w1) => partsOf_Ack h w1 b (hbo.later hB) (Kept.refl (New.lt (noS_lt _) hB.size)) z x hz hzx hokm
  have hbv : b.v = .slice b.a b.n b.c := rfl
  rw [hbv] at hU ⊢
  generalize b.a = ba at *
  generalize b.n = bn at *
  generalize b.c = bc at *
  clear hbo hz hzx hokm hbv
  go_enter Tryz.func48, Tryz.ntmps48
  go_wp2_with fail
  refine (ackForm_any w).mono ?_
  rintro e w1 ⟨g, vs, rfl, hTab, hB1⟩
  have hfl : fAck.length = 5 := rfl
  rw [hfl]
  have hC := hU _ _ _ hTab hB1
  clear hU hTab hfl
  go_wp2_with fail
  refine hC.mono ?_
  rintro e w3 ⟨v, ps, rfl, hPr, hE, hB3⟩
  obtain ⟨av, cv, rfl⟩ := own_parts hPr.own
  have HE : Hid (QPost ([(tellL 5 (fsAll (fAck.take 4)) x, run x 35 64)]) w (.returned (.tuple #[.slice av ps.length cv, .int .i64 0])) w3) := hide ⟨_, ps, rfl, hPr.mono hB1.size, hE, hB1.trans (hB3.mono hB1.size)⟩
  clear hC hPr hE hB3 hB1
  generalize ps.length = nn at *
  go_wp2
  go_ret2
  exact unhide HE
set_option maxHeartbeats 4000000 in
set_option maxRecDepth 100000 in
theorem partsOf_Revocation {S : Nat → Prop} {w0 : World} {tyF : TypeId} {g : Nat} {vs : List FV} (hTab : Tab S w0 sRevocation 163 fRevocation tyF g vs) (w : World) (b : Sl) (hbo : b.Ok w) (hb : Kept S w0 w) (z x : Nat → Int) (hz : decL 6 (fsAll fRevocation) b.l = (z, 0)) (hzx : ∀ i, i < 163 → z i = x i) (hokm : ∀ i, i < 163 → (sRevocation i).ok (x i)) :
    Calls Tryz.prog 98 #[.agg #[.int .i64 6, .int .i64 1, .slice (some ⟨g, 0, none⟩) 2 2], .func (.func 99) #[] #[], b.v] w (QPost ([certE x, (tellL 6 (fsAll (fRevocation.take 1)) x, run x 99 64)]) w) := by
  obtain ⟨Z, it, -, hZl, hit, hzz, hzv⟩ := zeroRevocation_named
  have b1 : Below w.heap.size w (w.alloc (.cells #[.int .i64 6, .int .i64 1, .slice (some ⟨g, 0, none⟩) 2 2] 147)) := below_one w _
  have A1 := Arr.new w 147 [.int .i64 6, .int .i64 1, .slice (some ⟨g, 0, none⟩) 2 2]
  have c0 : (w.alloc (.cells #[.int .i64 6, .int .i64 1, .slice (some ⟨g, 0, none⟩) 2 2] 147)).cell? ⟨w.heap.size, 0, none⟩ = some (.int .i64 6) := A1.cell 0
  have c1 : (w.alloc (.cells #[.int .i64 6, .int .i64 1, .slice (some ⟨g, 0, none⟩) 2 2] 147)).cell? ⟨w.heap.size, 1, none⟩ = some (.int .i64 1) := A1.cell 1
  have c2 : (w.alloc (.cells #[.int .i64 6, .int .i64 1, .slice (some ⟨g, 0, none⟩) 2 2] 147)).cell? ⟨w.heap.size, 2, none⟩ = some (.slice (some ⟨g, 0, none⟩) 2 2) := A1.cell 2
  have hD := decode_Revocation hTab _ 6 1 b (hbo.later b1) (hb.below b1)
  have HM : Hid (∀ e w1, DPost 6 (fsAll fRevocation) sRevocation 163 b.l (w.alloc (.cells #[.int .i64 6, .int .i64 1, .slice (some ⟨g, 0, none⟩) 2 2] 147)) e w1 → e = .returned (.tuple #[.agg (cl sRevocation 163 x).toArray, .int .i64 0]) ∧ Below w.heap.size w w1) := by
    rintro e w1 ⟨rfl, -, hB⟩
    rw [hz]
    exact ⟨by rw [cl_ext hzx], b1.trans (hB.mono b1.size)⟩
  have hF := fun W => partsRevocation_any W x hokm
  have hML : (cl sRevocation 163 x).length = 163 := cl_length _ _ _
  have hOC := cl_oc sRevocation 163 x
  have eg := enters_of Tryz.func99 (by kernel_rfl) rfl
  simp only [Enters] at eg
  have HZL := hide hZl
  clear hit hzz hZl hbo hb hTab hz hzx hokm A1 b1
  have hbv : b.v = .slice b.a b.n b.c := rfl
  rw [hbv] at hD ⊢
  generalize b.a = ba at *
  generalize b.n = bn at *
  generalize b.c = bc at *
  generalize b.l = bl at *
  clear hbv b
  generalize cl sRevocation 163 x = M at *
  have HML := hide hML
  have HOC := hide hOC
  have HSA : Hid ((Tryz.prog.info? 79).map (·.size) = some M.toArray.size) := by
    show _ = _
    rw [List.size_toArray, hML]; exact Tryz.szTRevocation
  have HSM : Hid ((Tryz.prog.info? 79).map (·.size) = some M.length) := by
    show _ = _
    rw [hML]; exact Tryz.szTRevocation
  have HLL : Hid (Z.toArray.size = M.toArray.size) := by
    show _ = _
    rw [List.size_toArray, List.size_toArray, hML, unhide HZL]
  clear hML hOC
  go_enter Tryz.func98, Tryz.ntmps98
  go_wp2_with fail
  refine hD.mono ?_
  intro e w1 hP
  obtain ⟨rfl, hB1⟩ := unhide HM _ _ hP
  clear hD hP HM c0 c1 c2
  simp only []
  go_at_K
  rename_i hK
  refine hK _ _ ?_
  clear hK
  refine wpList_plain rfl fun K1 h => ?_; go_simp; refine h _ _ ?_; clear h K1
  refine wpList_plain rfl fun K1 h => ?_; go_simp; refine h _ _ ?_; clear h K1
  refine wpList_plain rfl fun K1 h => ?_; go_simp; refine h _ _ ?_; clear h K1
  refine wpList_plain rfl fun K1 h => ?_; go_simp; refine h _ _ ?_; clear h K1
  have HA := hide (Arr.new w1 79 Z)
  have HA2 : Arr ((w1.alloc (.cells Z.toArray 79)).setRow w1.heap.size M.toArray) w1.heap.size 79 M := setRow_heap _ _ _ _ _ _ (unhide HA)
  have HB2 : Hid (Below w.heap.size w ((w1.alloc (.cells Z.toArray 79)).setRow w1.heap.size M.toArray)) := hide (below_setRow (hB1.alloc hB1.size _) hB1.size _)
  refine wpList_store_row rfl 79 (.tmp 8) (.tmp 14) rfl w1.heap.size M.toArray rfl rfl 79 Z.toArray (unhide HA) (unhide HSA) (unhide HLL) (all_oneCell_toArray (unhide HOC)) ?_
  have RM := hide HA2.range
  clear HA HA2 hB1
  generalize (w1.alloc (.cells Z.toArray 79)).setRow w1.heap.size M.toArray = W at *
  refine wpList_plain rfl fun K1 h => ?_; go_simp; refine h _ _ ?_; clear h K1
  refine wpList_nil ?_
  have hC := hF W
  clear hF
  go_upto_region 4 with fail
  refine wp_region_lit ?_
  refine wpList_plain rfl fun K1 h => ?_; go_simp; refine h _ _ ?_; clear h K1
  refine wpList_load_mid rfl 79 (.tmp 8) rfl w1.heap.size 0 rfl M _ (unhide RM) Tryz.underlying79 rfl (unhide HSM) ?_
  simp only [Act.put]
  refine wpList_plain rfl fun K1 hK1 => ?_
  go_simp
  refine hC.mono ?_
  rintro e w3 ⟨v, ps, rfl, hPr, hE, hB3⟩
  obtain ⟨av, cv, rfl⟩ := own_parts hPr.own
  have HE : Hid (QPost ([certE x, (tellL 6 (fsAll (fRevocation.take 1)) x, run x 99 64)]) w (.returned (.tuple #[.slice av ps.length cv, .int .i64 0])) w3) := hide ⟨_, ps, rfl, hPr.mono (unhide HB2).size, hE, (unhide HB2).trans (hB3.mono (unhide HB2).size)⟩
  clear hC hPr hE hB3
  generalize ps.length = nn at *
  refine hK1 _ _ ?_
  clear hK1 K1
  go_wp2
  go_ret2
  exact unhide HE
set_option maxHeartbeats 4000000 in
set_option maxRecDepth 100000 in
theorem parts_Revocation (w : World) (b : Sl) (hbo : b.Ok w) (z x : Nat → Int) (hz : decL 6 (fsAll fRevocation) b.l = (z, 0)) (hzx : ∀ i, i < 163 → z i = x i) (hokm : ∀ i, i < 163 → (sRevocation i).ok (x i)) :
    Calls Tryz.prog 48 #[.int .i64 6, b.v] w (QPost ([certE x, (tellL 6 (fsAll (fRevocation.take 1)) x, run x 99 64)]) w) := by
  have hU := fun w1 g vs (h : Tab (New noS w w1) w1 sRevocation 163 fRevocation 283 g vs) (hB : Below w.heap.size w w1) => partsOf_Revocation h w1 b (hbo.later hB) (Kept.refl (New.lt (noS_lt _) hB.size)) z x hz hzx hokm
  have hbv : b.v = .slice b.a b.n b.c := rfl
  rw [hbv] at hU ⊢
  generalize b.a = ba at *
  generalize b.n = bn at *
  generalize b.c = bc at *
  clear hbo hz hzx hokm hbv
  go_enter Tryz.func48, Tryz.ntmps48
  go_wp2_with fail
  refine (revocationForm_any w).mono ?_
  rintro e w1 ⟨g, vs, rfl, hTab, hB1⟩
  have hfl : fRevocation.length = 2 := rfl
  rw [hfl]
  have hC := hU _ _ _ hTab hB1
  clear hU hTab hfl
  go_wp2_with fail
  refine hC.mono ?_
  rintro e w3 ⟨v, ps, rfl, hPr, hE, hB3⟩
  obtain ⟨av, cv, rfl⟩ := own_parts hPr.own
  have HE : Hid (QPost ([certE x, (tellL 6 (fsAll (fRevocation.take 1)) x, run x 99 64)]) w (.returned (.tuple #[.slice av ps.length cv, .int .i64 0])) w3) := hide ⟨_, ps, rfl, hPr.mono hB1.size, hE, hB1.trans (hB3.mono hB1.size)⟩
  clear hC hPr hE hB3 hB1
  generalize ps.length = nn at *
  go_wp2
  go_ret2
  exact unhide HE
set_option maxHeartbeats 4000000 in
set_option maxRecDepth 100000 in
theorem partsOf_Floor {S : Nat → Prop} {w0 : World} {tyF : TypeId} {g : Nat} {vs : List FV} (hTab : Tab S w0 sFloor 65 fFloor tyF g vs) (w : World) (b : Sl) (hbo : b.Ok w) (hb : Kept S w0 w) (z x : Nat → Int) (hz : decL 7 (fsAll fFloor) b.l = (z, 0)) (hzx : ∀ i, i < 65 → z i = x i) (hokm : ∀ i, i < 65 → (sFloor i).ok (x i)) :
    Calls Tryz.prog 100 #[.agg #[.int .i64 7, .int .i64 1, .slice (some ⟨g, 0, none⟩) 2 2], .func (.func 101) #[] #[], b.v] w (QPost ([(tellL 7 (fsAll (fFloor.take 1)) x, run x 1 64)]) w) := by
  obtain ⟨Z, it, -, hZl, hit, hzz, hzv⟩ := zeroFloor_named
  have b1 : Below w.heap.size w (w.alloc (.cells #[.int .i64 7, .int .i64 1, .slice (some ⟨g, 0, none⟩) 2 2] 102)) := below_one w _
  have A1 := Arr.new w 102 [.int .i64 7, .int .i64 1, .slice (some ⟨g, 0, none⟩) 2 2]
  have c0 : (w.alloc (.cells #[.int .i64 7, .int .i64 1, .slice (some ⟨g, 0, none⟩) 2 2] 102)).cell? ⟨w.heap.size, 0, none⟩ = some (.int .i64 7) := A1.cell 0
  have c1 : (w.alloc (.cells #[.int .i64 7, .int .i64 1, .slice (some ⟨g, 0, none⟩) 2 2] 102)).cell? ⟨w.heap.size, 1, none⟩ = some (.int .i64 1) := A1.cell 1
  have c2 : (w.alloc (.cells #[.int .i64 7, .int .i64 1, .slice (some ⟨g, 0, none⟩) 2 2] 102)).cell? ⟨w.heap.size, 2, none⟩ = some (.slice (some ⟨g, 0, none⟩) 2 2) := A1.cell 2
  have hD := decode_Floor hTab _ 7 1 b (hbo.later b1) (hb.below b1)
  have HM : Hid (∀ e w1, DPost 7 (fsAll fFloor) sFloor 65 b.l (w.alloc (.cells #[.int .i64 7, .int .i64 1, .slice (some ⟨g, 0, none⟩) 2 2] 102)) e w1 → e = .returned (.tuple #[.agg (cl sFloor 65 x).toArray, .int .i64 0]) ∧ Below w.heap.size w w1) := by
    rintro e w1 ⟨rfl, -, hB⟩
    rw [hz]
    exact ⟨by rw [cl_ext hzx], b1.trans (hB.mono b1.size)⟩
  have hF := fun W => partsFloor_any W x hokm
  have hML : (cl sFloor 65 x).length = 65 := cl_length _ _ _
  have hOC := cl_oc sFloor 65 x
  have eg := enters_of Tryz.func101 (by kernel_rfl) rfl
  simp only [Enters] at eg
  have HZL := hide hZl
  clear hit hzz hZl hbo hb hTab hz hzx hokm A1 b1
  have hbv : b.v = .slice b.a b.n b.c := rfl
  rw [hbv] at hD ⊢
  generalize b.a = ba at *
  generalize b.n = bn at *
  generalize b.c = bc at *
  generalize b.l = bl at *
  clear hbv b
  generalize cl sFloor 65 x = M at *
  have HML := hide hML
  have HOC := hide hOC
  have HSA : Hid ((Tryz.prog.info? 34).map (·.size) = some M.toArray.size) := by
    show _ = _
    rw [List.size_toArray, hML]; exact Tryz.szTFloor
  have HSM : Hid ((Tryz.prog.info? 34).map (·.size) = some M.length) := by
    show _ = _
    rw [hML]; exact Tryz.szTFloor
  have HLL : Hid (Z.toArray.size = M.toArray.size) := by
    show _ = _
    rw [List.size_toArray, List.size_toArray, hML, unhide HZL]
  clear hML hOC
  go_enter Tryz.func100, Tryz.ntmps100
  go_wp2_with fail
  refine hD.mono ?_
  intro e w1 hP
  obtain ⟨rfl, hB1⟩ := unhide HM _ _ hP
  clear hD hP HM c0 c1 c2
  simp only []
  go_at_K
  rename_i hK
  refine hK _ _ ?_
  clear hK
  refine wpList_plain rfl fun K1 h => ?_; go_simp; refine h _ _ ?_; clear h K1
  refine wpList_plain rfl fun K1 h => ?_; go_simp; refine h _ _ ?_; clear h K1
  refine wpList_plain rfl fun K1 h => ?_; go_simp; refine h _ _ ?_; clear h K1
  refine wpList_plain rfl fun K1 h => ?_; go_simp; refine h _ _ ?_; clear h K1
  have HA := hide (Arr.new w1 34 Z)
  have HA2 : Arr ((w1.alloc (.cells Z.toArray 34)).setRow w1.heap.size M.toArray) w1.heap.size 34 M := setRow_heap _ _ _ _ _ _ (unhide HA)
  have HB2 : Hid (Below w.heap.size w ((w1.alloc (.cells Z.toArray 34)).setRow w1.heap.size M.toArray)) := hide (below_setRow (hB1.alloc hB1.size _) hB1.size _)
  refine wpList_store_row rfl 34 (.tmp 8) (.tmp 14) rfl w1.heap.size M.toArray rfl rfl 34 Z.toArray (unhide HA) (unhide HSA) (unhide HLL) (all_oneCell_toArray (unhide HOC)) ?_
  have RM := hide HA2.range
  clear HA HA2 hB1
  generalize (w1.alloc (.cells Z.toArray 34)).setRow w1.heap.size M.toArray = W at *
  refine wpList_plain rfl fun K1 h => ?_; go_simp; refine h _ _ ?_; clear h K1
  refine wpList_nil ?_
  have hC := hF W
  clear hF
  go_upto_region 4 with fail
  refine wp_region_lit ?_
  refine wpList_plain rfl fun K1 h => ?_; go_simp; refine h _ _ ?_; clear h K1
  refine wpList_load_mid rfl 34 (.tmp 8) rfl w1.heap.size 0 rfl M _ (unhide RM) Tryz.underlying34 rfl (unhide HSM) ?_
  simp only [Act.put]
  refine wpList_plain rfl fun K1 hK1 => ?_
  go_simp
  refine hC.mono ?_
  rintro e w3 ⟨v, ps, rfl, hPr, hE, hB3⟩
  obtain ⟨av, cv, rfl⟩ := own_parts hPr.own
  have HE : Hid (QPost ([(tellL 7 (fsAll (fFloor.take 1)) x, run x 1 64)]) w (.returned (.tuple #[.slice av ps.length cv, .int .i64 0])) w3) := hide ⟨_, ps, rfl, hPr.mono (unhide HB2).size, hE, (unhide HB2).trans (hB3.mono (unhide HB2).size)⟩
  clear hC hPr hE hB3
  generalize ps.length = nn at *
  refine hK1 _ _ ?_
  clear hK1 K1
  go_wp2
  go_ret2
  exact unhide HE
set_option maxHeartbeats 4000000 in
set_option maxRecDepth 100000 in
theorem parts_Floor (w : World) (b : Sl) (hbo : b.Ok w) (z x : Nat → Int) (hz : decL 7 (fsAll fFloor) b.l = (z, 0)) (hzx : ∀ i, i < 65 → z i = x i) (hokm : ∀ i, i < 65 → (sFloor i).ok (x i)) :
    Calls Tryz.prog 48 #[.int .i64 7, b.v] w (QPost ([(tellL 7 (fsAll (fFloor.take 1)) x, run x 1 64)]) w) := by
  have hU := fun w1 g vs (h : Tab (New noS w w1) w1 sFloor 65 fFloor 165 g vs) (hB : Below w.heap.size w w1) => partsOf_Floor h w1 b (hbo.later hB) (Kept.refl (New.lt (noS_lt _) hB.size)) z x hz hzx hokm
  have hbv : b.v = .slice b.a b.n b.c := rfl
  rw [hbv] at hU ⊢
  generalize b.a = ba at *
  generalize b.n = bn at *
  generalize b.c = bc at *
  clear hbo hz hzx hokm hbv
  go_enter Tryz.func48, Tryz.ntmps48
  go_wp2_with fail
  refine (floorForm_any w).mono ?_
  rintro e w1 ⟨g, vs, rfl, hTab, hB1⟩
  have hfl : fFloor.length = 2 := rfl
  rw [hfl]
  have hC := hU _ _ _ hTab hB1
  clear hU hTab hfl
  go_wp2_with fail
  refine hC.mono ?_
  rintro e w3 ⟨v, ps, rfl, hPr, hE, hB3⟩
  obtain ⟨av, cv, rfl⟩ := own_parts hPr.own
  have HE : Hid (QPost ([(tellL 7 (fsAll (fFloor.take 1)) x, run x 1 64)]) w (.returned (.tuple #[.slice av ps.length cv, .int .i64 0])) w3) := hide ⟨_, ps, rfl, hPr.mono hB1.size, hE, hB1.trans (hB3.mono hB1.size)⟩
  clear hC hPr hE hB3 hB1
  generalize ps.length = nn at *
  go_wp2
  go_ret2
  exact unhide HE
end Go.Proofs.YtfedajifefldmaaGreat
namespace Go.Proofs.YtfedajifefldmaaGreat
open Go.RowKit
set_option maxHeartbeats 4000000 in
set_option maxRecDepth 100000 in
theorem partsOf_Receipt {S : Nat → Prop} {w0 : World} {tyF : TypeId} {g : Nat} {vs : List FV} (hTab : Tab S w0 sReceipt 67 fReceipt tyF g vs) (w : World) (b : Sl) (hbo : b.Ok w) (hb : Kept S w0 w) (z x : Nat → Int) (hz : decL 8 (fsAll fReceipt) b.l = (z, 0)) (hzx : ∀ i, i < 67 → z i = x i) (hokm : ∀ i, i < 67 → (sReceipt i).ok (x i)) :
    Calls Tryz.prog 103 #[.agg #[.int .i64 8, .int .i64 3, .slice (some ⟨g, 0, none⟩) 4 4], .func (.func 104) #[] #[], b.v] w (QPost ([(tellL 8 (fsAll (fReceipt.take 3)) x, run x 3 64)]) w) := by
  obtain ⟨Z, it, -, hZl, hit, hzz, hzv⟩ := zeroReceipt_named
  have b1 : Below w.heap.size w (w.alloc (.cells #[.int .i64 8, .int .i64 3, .slice (some ⟨g, 0, none⟩) 4 4] 151)) := below_one w _
  have A1 := Arr.new w 151 [.int .i64 8, .int .i64 3, .slice (some ⟨g, 0, none⟩) 4 4]
  have c0 : (w.alloc (.cells #[.int .i64 8, .int .i64 3, .slice (some ⟨g, 0, none⟩) 4 4] 151)).cell? ⟨w.heap.size, 0, none⟩ = some (.int .i64 8) := A1.cell 0
  have c1 : (w.alloc (.cells #[.int .i64 8, .int .i64 3, .slice (some ⟨g, 0, none⟩) 4 4] 151)).cell? ⟨w.heap.size, 1, none⟩ = some (.int .i64 3) := A1.cell 1
  have c2 : (w.alloc (.cells #[.int .i64 8, .int .i64 3, .slice (some ⟨g, 0, none⟩) 4 4] 151)).cell? ⟨w.heap.size, 2, none⟩ = some (.slice (some ⟨g, 0, none⟩) 4 4) := A1.cell 2
  have hD := decode_Receipt hTab _ 8 3 b (hbo.later b1) (hb.below b1)
  have HM : Hid (∀ e w1, DPost 8 (fsAll fReceipt) sReceipt 67 b.l (w.alloc (.cells #[.int .i64 8, .int .i64 3, .slice (some ⟨g, 0, none⟩) 4 4] 151)) e w1 → e = .returned (.tuple #[.agg (cl sReceipt 67 x).toArray, .int .i64 0]) ∧ Below w.heap.size w w1) := by
    rintro e w1 ⟨rfl, -, hB⟩
    rw [hz]
    exact ⟨by rw [cl_ext hzx], b1.trans (hB.mono b1.size)⟩
  have hF := fun W => partsReceipt_any W x hokm
  have hML : (cl sReceipt 67 x).length = 67 := cl_length _ _ _
  have hOC := cl_oc sReceipt 67 x
  have eg := enters_of Tryz.func104 (by kernel_rfl) rfl
  simp only [Enters] at eg
  have HZL := hide hZl
  clear hit hzz hZl hbo hb hTab hz hzx hokm A1 b1
  have hbv : b.v = .slice b.a b.n b.c := rfl
  rw [hbv] at hD ⊢
  generalize b.a = ba at *
  generalize b.n = bn at *
  generalize b.c = bc at *
  generalize b.l = bl at *
  clear hbv b
  generalize cl sReceipt 67 x = M at *
  have HML := hide hML
  have HOC := hide hOC
  have HSA : Hid ((Tryz.prog.info? 86).map (·.size) = some M.toArray.size) := by
    show _ = _
    rw [List.size_toArray, hML]; exact Tryz.szTReceipt
  have HSM : Hid ((Tryz.prog.info? 86).map (·.size) = some M.length) := by
    show _ = _
    rw [hML]; exact Tryz.szTReceipt
  have HLL : Hid (Z.toArray.size = M.toArray.size) := by
    show _ = _
    rw [List.size_toArray, List.size_toArray, hML, unhide HZL]
  clear hML hOC
  go_enter Tryz.func103, Tryz.ntmps103
  go_wp2_with fail
  refine hD.mono ?_
  intro e w1 hP
  obtain ⟨rfl, hB1⟩ := unhide HM _ _ hP
  clear hD hP HM c0 c1 c2
  simp only []
  go_at_K
  rename_i hK
  refine hK _ _ ?_
  clear hK
  refine wpList_plain rfl fun K1 h => ?_; go_simp; refine h _ _ ?_; clear h K1
  refine wpList_plain rfl fun K1 h => ?_; go_simp; refine h _ _ ?_; clear h K1
  refine wpList_plain rfl fun K1 h => ?_; go_simp; refine h _ _ ?_; clear h K1
  refine wpList_plain rfl fun K1 h => ?_; go_simp; refine h _ _ ?_; clear h K1
  have HA := hide (Arr.new w1 86 Z)
  have HA2 : Arr ((w1.alloc (.cells Z.toArray 86)).setRow w1.heap.size M.toArray) w1.heap.size 86 M := setRow_heap _ _ _ _ _ _ (unhide HA)
  have HB2 : Hid (Below w.heap.size w ((w1.alloc (.cells Z.toArray 86)).setRow w1.heap.size M.toArray)) := hide (below_setRow (hB1.alloc hB1.size _) hB1.size _)
  refine wpList_store_row rfl 86 (.tmp 8) (.tmp 14) rfl w1.heap.size M.toArray rfl rfl 86 Z.toArray (unhide HA) (unhide HSA) (unhide HLL) (all_oneCell_toArray (unhide HOC)) ?_
  have RM := hide HA2.range
  clear HA HA2 hB1
  generalize (w1.alloc (.cells Z.toArray 86)).setRow w1.heap.size M.toArray = W at *
  refine wpList_plain rfl fun K1 h => ?_; go_simp; refine h _ _ ?_; clear h K1
  refine wpList_nil ?_
  have hC := hF W
  clear hF
  go_upto_region 4 with fail
  refine wp_region_lit ?_
  refine wpList_plain rfl fun K1 h => ?_; go_simp; refine h _ _ ?_; clear h K1
  refine wpList_load_mid rfl 86 (.tmp 8) rfl w1.heap.size 0 rfl M _ (unhide RM) Tryz.underlying86 rfl (unhide HSM) ?_
  simp only [Act.put]
  refine wpList_plain rfl fun K1 hK1 => ?_
  go_simp
  refine hC.mono ?_
  rintro e w3 ⟨v, ps, rfl, hPr, hE, hB3⟩
  obtain ⟨av, cv, rfl⟩ := own_parts hPr.own
  have HE : Hid (QPost ([(tellL 8 (fsAll (fReceipt.take 3)) x, run x 3 64)]) w (.returned (.tuple #[.slice av ps.length cv, .int .i64 0])) w3) := hide ⟨_, ps, rfl, hPr.mono (unhide HB2).size, hE, (unhide HB2).trans (hB3.mono (unhide HB2).size)⟩
  clear hC hPr hE hB3
  generalize ps.length = nn at *
  refine hK1 _ _ ?_
  clear hK1 K1
  go_wp2
  go_ret2
  exact unhide HE
set_option maxHeartbeats 4000000 in
set_option maxRecDepth 100000 in
theorem parts_Receipt (w : World) (b : Sl) (hbo : b.Ok w) (z x : Nat → Int) (hz : decL 8 (fsAll fReceipt) b.l = (z, 0)) (hzx : ∀ i, i < 67 → z i = x i) (hokm : ∀ i, i < 67 → (sReceipt i).ok (x i)) :
    Calls Tryz.prog 48 #[.int .i64 8, b.v] w (QPost ([(tellL 8 (fsAll (fReceipt.take 3)) x, run x 3 64)]) w) := by
  have hU := fun w1 g vs (h : Tab (New noS w w1) w1 sReceipt 67 fReceipt 298 g vs) (hB : Below w.heap.size w w1) => partsOf_Receipt h w1 b (hbo.later hB) (Kept.refl (New.lt (noS_lt _) hB.size)) z x hz hzx hokm
  have hbv : b.v = .slice b.a b.n b.c := rfl
  rw [hbv] at hU ⊢
  generalize b.a = ba at *
  generalize b.n = bn at *
  generalize b.c = bc at *
  clear hbo hz hzx hokm hbv
  go_enter Tryz.func48, Tryz.ntmps48
  go_wp2_with fail
  refine (receiptForm_any w).mono ?_
  rintro e w1 ⟨g, vs, rfl, hTab, hB1⟩
  have hfl : fReceipt.length = 4 := rfl
  rw [hfl]
  have hC := hU _ _ _ hTab hB1
  clear hU hTab hfl
  go_wp2_with fail
  refine hC.mono ?_
  rintro e w3 ⟨v, ps, rfl, hPr, hE, hB3⟩
  obtain ⟨av, cv, rfl⟩ := own_parts hPr.own
  have HE : Hid (QPost ([(tellL 8 (fsAll (fReceipt.take 3)) x, run x 3 64)]) w (.returned (.tuple #[.slice av ps.length cv, .int .i64 0])) w3) := hide ⟨_, ps, rfl, hPr.mono hB1.size, hE, hB1.trans (hB3.mono hB1.size)⟩
  clear hC hPr hE hB3 hB1
  generalize ps.length = nn at *
  go_wp2
  go_ret2
  exact unhide HE
set_option maxHeartbeats 4000000 in
set_option maxRecDepth 100000 in
theorem partsOf_Order {S : Nat → Prop} {w0 : World} {tyF : TypeId} {g : Nat} {vs : List FV} (hTab : Tab S w0 sOrder 34 fOrder tyF g vs) (w : World) (b : Sl) (hbo : b.Ok w) (hb : Kept S w0 w) (z x : Nat → Int) (hz : decL 9 (fsAll fOrder) b.l = (z, 0)) (hzx : ∀ i, i < 34 → z i = x i) (hokm : ∀ i, i < 34 → (sOrder i).ok (x i)) :
    Calls Tryz.prog 106 #[.agg #[.int .i64 9, .int .i64 0, .slice (some ⟨g, 0, none⟩) 3 3], .func (.func 107) #[] #[], b.v] w (QPost ([]) w) := by
  obtain ⟨Z, it, -, hZl, hit, hzz, hzv⟩ := zeroOrder_named
  have b1 : Below w.heap.size w (w.alloc (.cells #[.int .i64 9, .int .i64 0, .slice (some ⟨g, 0, none⟩) 3 3] 155)) := below_one w _
  have A1 := Arr.new w 155 [.int .i64 9, .int .i64 0, .slice (some ⟨g, 0, none⟩) 3 3]
  have c0 : (w.alloc (.cells #[.int .i64 9, .int .i64 0, .slice (some ⟨g, 0, none⟩) 3 3] 155)).cell? ⟨w.heap.size, 0, none⟩ = some (.int .i64 9) := A1.cell 0
  have c1 : (w.alloc (.cells #[.int .i64 9, .int .i64 0, .slice (some ⟨g, 0, none⟩) 3 3] 155)).cell? ⟨w.heap.size, 1, none⟩ = some (.int .i64 0) := A1.cell 1
  have c2 : (w.alloc (.cells #[.int .i64 9, .int .i64 0, .slice (some ⟨g, 0, none⟩) 3 3] 155)).cell? ⟨w.heap.size, 2, none⟩ = some (.slice (some ⟨g, 0, none⟩) 3 3) := A1.cell 2
  have hD := decode_Order hTab _ 9 0 b (hbo.later b1) (hb.below b1)
  have HM : Hid (∀ e w1, DPost 9 (fsAll fOrder) sOrder 34 b.l (w.alloc (.cells #[.int .i64 9, .int .i64 0, .slice (some ⟨g, 0, none⟩) 3 3] 155)) e w1 → e = .returned (.tuple #[.agg (cl sOrder 34 x).toArray, .int .i64 0]) ∧ Below w.heap.size w w1) := by
    rintro e w1 ⟨rfl, -, hB⟩
    rw [hz]
    exact ⟨by rw [cl_ext hzx], b1.trans (hB.mono b1.size)⟩
  have hF := fun W => partsOrder_any W x
  have hML : (cl sOrder 34 x).length = 34 := cl_length _ _ _
  have hOC := cl_oc sOrder 34 x
  have eg := enters_of Tryz.func107 (by kernel_rfl) rfl
  simp only [Enters] at eg
  have HZL := hide hZl
  clear hit hzz hZl hbo hb hTab hz hzx hokm A1 b1
  have hbv : b.v = .slice b.a b.n b.c := rfl
  rw [hbv] at hD ⊢
  generalize b.a = ba at *
  generalize b.n = bn at *
  generalize b.c = bc at *
  generalize b.l = bl at *
  clear hbv b
  generalize cl sOrder 34 x = M at *
  have HML := hide hML
  have HOC := hide hOC
  have HSA : Hid ((Tryz.prog.info? 91).map (·.size) = some M.toArray.size) := by
    show _ = _
    rw [List.size_toArray, hML]; exact Tryz.szTOrder
  have HSM : Hid ((Tryz.prog.info? 91).map (·.size) = some M.length) := by
    show _ = _
    rw [hML]; exact Tryz.szTOrder
  have HLL : Hid (Z.toArray.size = M.toArray.size) := by
    show _ = _
    rw [List.size_toArray, List.size_toArray, hML, unhide HZL]
  clear hML hOC
  go_enter Tryz.func106, Tryz.ntmps106
  go_wp2_with fail
  refine hD.mono ?_
  intro e w1 hP
  obtain ⟨rfl, hB1⟩ := unhide HM _ _ hP
  clear hD hP HM c0 c1 c2
  simp only []
  go_at_K
  rename_i hK
  refine hK _ _ ?_
  clear hK
  refine wpList_plain rfl fun K1 h => ?_; go_simp; refine h _ _ ?_; clear h K1
  refine wpList_plain rfl fun K1 h => ?_; go_simp; refine h _ _ ?_; clear h K1
  refine wpList_plain rfl fun K1 h => ?_; go_simp; refine h _ _ ?_; clear h K1
  refine wpList_plain rfl fun K1 h => ?_; go_simp; refine h _ _ ?_; clear h K1
  have HA := hide (Arr.new w1 91 Z)
  have HA2 : Arr ((w1.alloc (.cells Z.toArray 91)).setRow w1.heap.size M.toArray) w1.heap.size 91 M := setRow_heap _ _ _ _ _ _ (unhide HA)
  have HB2 : Hid (Below w.heap.size w ((w1.alloc (.cells Z.toArray 91)).setRow w1.heap.size M.toArray)) := hide (below_setRow (hB1.alloc hB1.size _) hB1.size _)
  refine wpList_store_row rfl 91 (.tmp 8) (.tmp 14) rfl w1.heap.size M.toArray rfl rfl 91 Z.toArray (unhide HA) (unhide HSA) (unhide HLL) (all_oneCell_toArray (unhide HOC)) ?_
  have RM := hide HA2.range
  clear HA HA2 hB1
  generalize (w1.alloc (.cells Z.toArray 91)).setRow w1.heap.size M.toArray = W at *
  refine wpList_plain rfl fun K1 h => ?_; go_simp; refine h _ _ ?_; clear h K1
  refine wpList_nil ?_
  have hC := hF W
  clear hF
  go_upto_region 4 with fail
  refine wp_region_lit ?_
  refine wpList_plain rfl fun K1 h => ?_; go_simp; refine h _ _ ?_; clear h K1
  refine wpList_load_mid rfl 91 (.tmp 8) rfl w1.heap.size 0 rfl M _ (unhide RM) Tryz.underlying91 rfl (unhide HSM) ?_
  simp only [Act.put]
  refine wpList_plain rfl fun K1 hK1 => ?_
  go_simp
  refine hC.mono ?_
  rintro e w3 ⟨v, ps, rfl, hPr, hE, hB3⟩
  obtain ⟨av, cv, rfl⟩ := own_parts hPr.own
  have HE : Hid (QPost ([]) w (.returned (.tuple #[.slice av ps.length cv, .int .i64 0])) w3) := hide ⟨_, ps, rfl, hPr.mono (unhide HB2).size, hE, (unhide HB2).trans (hB3.mono (unhide HB2).size)⟩
  clear hC hPr hE hB3
  generalize ps.length = nn at *
  refine hK1 _ _ ?_
  clear hK1 K1
  go_wp2
  go_ret2
  exact unhide HE
set_option maxHeartbeats 4000000 in
set_option maxRecDepth 100000 in
theorem parts_Order (w : World) (b : Sl) (hbo : b.Ok w) (z x : Nat → Int) (hz : decL 9 (fsAll fOrder) b.l = (z, 0)) (hzx : ∀ i, i < 34 → z i = x i) (hokm : ∀ i, i < 34 → (sOrder i).ok (x i)) :
    Calls Tryz.prog 48 #[.int .i64 9, b.v] w (QPost ([]) w) := by
  have hU := fun w1 g vs (h : Tab (New noS w w1) w1 sOrder 34 fOrder 313 g vs) (hB : Below w.heap.size w w1) => partsOf_Order h w1 b (hbo.later hB) (Kept.refl (New.lt (noS_lt _) hB.size)) z x hz hzx hokm
  have hbv : b.v = .slice b.a b.n b.c := rfl
  rw [hbv] at hU ⊢
  generalize b.a = ba at *
  generalize b.n = bn at *
  generalize b.c = bc at *
  clear hbo hz hzx hokm hbv
  go_enter Tryz.func48, Tryz.ntmps48
  go_wp2_with fail
  refine (orderForm_any w).mono ?_
  rintro e w1 ⟨g, vs, rfl, hTab, hB1⟩
  have hfl : fOrder.length = 3 := rfl
  rw [hfl]
  have hC := hU _ _ _ hTab hB1
  clear hU hTab hfl
  go_wp2_with fail
  refine hC.mono ?_
  rintro e w3 ⟨v, ps, rfl, hPr, hE, hB3⟩
  obtain ⟨av, cv, rfl⟩ := own_parts hPr.own
  have HE : Hid (QPost ([]) w (.returned (.tuple #[.slice av ps.length cv, .int .i64 0])) w3) := hide ⟨_, ps, rfl, hPr.mono hB1.size, hE, hB1.trans (hB3.mono hB1.size)⟩
  clear hC hPr hE hB3 hB1
  generalize ps.length = nn at *
  go_wp2
  go_ret2
  exact unhide HE
set_option maxHeartbeats 4000000 in
set_option maxRecDepth 100000 in
theorem partsOf_Head {S : Nat → Prop} {w0 : World} {tyF : TypeId} {g : Nat} {vs : List FV} (hTab : Tab S w0 sHead 97 fHead tyF g vs) (w : World) (b : Sl) (hbo : b.Ok w) (hb : Kept S w0 w) (z x : Nat → Int) (hz : decL 10 (fsAll fHead) b.l = (z, 0)) (hzx : ∀ i, i < 97 → z i = x i) (hokm : ∀ i, i < 97 → (sHead i).ok (x i)) :
    Calls Tryz.prog 108 #[.agg #[.int .i64 10, .int .i64 2, .slice (some ⟨g, 0, none⟩) 3 3], .func (.func 109) #[] #[], b.v] w (QPost ([(tellL 10 (fsAll (fHead.take 2)) x, run x 33 64)]) w) := by
  obtain ⟨Z, it, -, hZl, hit, hzz, hzv⟩ := zeroHead_named
  have b1 : Below w.heap.size w (w.alloc (.cells #[.int .i64 10, .int .i64 2, .slice (some ⟨g, 0, none⟩) 3 3] 159)) := below_one w _
  have A1 := Arr.new w 159 [.int .i64 10, .int .i64 2, .slice (some ⟨g, 0, none⟩) 3 3]
  have c0 : (w.alloc (.cells #[.int .i64 10, .int .i64 2, .slice (some ⟨g, 0, none⟩) 3 3] 159)).cell? ⟨w.heap.size, 0, none⟩ = some (.int .i64 10) := A1.cell 0
  have c1 : (w.alloc (.cells #[.int .i64 10, .int .i64 2, .slice (some ⟨g, 0, none⟩) 3 3] 159)).cell? ⟨w.heap.size, 1, none⟩ = some (.int .i64 2) := A1.cell 1
  have c2 : (w.alloc (.cells #[.int .i64 10, .int .i64 2, .slice (some ⟨g, 0, none⟩) 3 3] 159)).cell? ⟨w.heap.size, 2, none⟩ = some (.slice (some ⟨g, 0, none⟩) 3 3) := A1.cell 2
  have hD := decode_Head hTab _ 10 2 b (hbo.later b1) (hb.below b1)
  have HM : Hid (∀ e w1, DPost 10 (fsAll fHead) sHead 97 b.l (w.alloc (.cells #[.int .i64 10, .int .i64 2, .slice (some ⟨g, 0, none⟩) 3 3] 159)) e w1 → e = .returned (.tuple #[.agg (cl sHead 97 x).toArray, .int .i64 0]) ∧ Below w.heap.size w w1) := by
    rintro e w1 ⟨rfl, -, hB⟩
    rw [hz]
    exact ⟨by rw [cl_ext hzx], b1.trans (hB.mono b1.size)⟩
  have hF := fun W => partsHead_any W x hokm
  have hML : (cl sHead 97 x).length = 97 := cl_length _ _ _
  have hOC := cl_oc sHead 97 x
  have eg := enters_of Tryz.func109 (by kernel_rfl) rfl
  simp only [Enters] at eg
  have HZL := hide hZl
  clear hit hzz hZl hbo hb hTab hz hzx hokm A1 b1
  have hbv : b.v = .slice b.a b.n b.c := rfl
  rw [hbv] at hD ⊢
  generalize b.a = ba at *
  generalize b.n = bn at *
  generalize b.c = bc at *
  generalize b.l = bl at *
  clear hbv b
  generalize cl sHead 97 x = M at *
  have HML := hide hML
  have HOC := hide hOC
  have HSA : Hid ((Tryz.prog.info? 96).map (·.size) = some M.toArray.size) := by
    show _ = _
    rw [List.size_toArray, hML]; exact Tryz.szTHead
  have HSM : Hid ((Tryz.prog.info? 96).map (·.size) = some M.length) := by
    show _ = _
    rw [hML]; exact Tryz.szTHead
  have HLL : Hid (Z.toArray.size = M.toArray.size) := by
    show _ = _
    rw [List.size_toArray, List.size_toArray, hML, unhide HZL]
  clear hML hOC
  go_enter Tryz.func108, Tryz.ntmps108
  go_wp2_with fail
  refine hD.mono ?_
  intro e w1 hP
  obtain ⟨rfl, hB1⟩ := unhide HM _ _ hP
  clear hD hP HM c0 c1 c2
  simp only []
  go_at_K
  rename_i hK
  refine hK _ _ ?_
  clear hK
  refine wpList_plain rfl fun K1 h => ?_; go_simp; refine h _ _ ?_; clear h K1
  refine wpList_plain rfl fun K1 h => ?_; go_simp; refine h _ _ ?_; clear h K1
  refine wpList_plain rfl fun K1 h => ?_; go_simp; refine h _ _ ?_; clear h K1
  refine wpList_plain rfl fun K1 h => ?_; go_simp; refine h _ _ ?_; clear h K1
  have HA := hide (Arr.new w1 96 Z)
  have HA2 : Arr ((w1.alloc (.cells Z.toArray 96)).setRow w1.heap.size M.toArray) w1.heap.size 96 M := setRow_heap _ _ _ _ _ _ (unhide HA)
  have HB2 : Hid (Below w.heap.size w ((w1.alloc (.cells Z.toArray 96)).setRow w1.heap.size M.toArray)) := hide (below_setRow (hB1.alloc hB1.size _) hB1.size _)
  refine wpList_store_row rfl 96 (.tmp 8) (.tmp 14) rfl w1.heap.size M.toArray rfl rfl 96 Z.toArray (unhide HA) (unhide HSA) (unhide HLL) (all_oneCell_toArray (unhide HOC)) ?_
  have RM := hide HA2.range
  clear HA HA2 hB1
  generalize (w1.alloc (.cells Z.toArray 96)).setRow w1.heap.size M.toArray = W at *
  refine wpList_plain rfl fun K1 h => ?_; go_simp; refine h _ _ ?_; clear h K1
  refine wpList_nil ?_
  have hC := hF W
  clear hF
  go_upto_region 4 with fail
  refine wp_region_lit ?_
  refine wpList_plain rfl fun K1 h => ?_; go_simp; refine h _ _ ?_; clear h K1
  refine wpList_load_mid rfl 96 (.tmp 8) rfl w1.heap.size 0 rfl M _ (unhide RM) Tryz.underlying96 rfl (unhide HSM) ?_
  simp only [Act.put]
  refine wpList_plain rfl fun K1 hK1 => ?_
  go_simp
  refine hC.mono ?_
  rintro e w3 ⟨v, ps, rfl, hPr, hE, hB3⟩
  obtain ⟨av, cv, rfl⟩ := own_parts hPr.own
  have HE : Hid (QPost ([(tellL 10 (fsAll (fHead.take 2)) x, run x 33 64)]) w (.returned (.tuple #[.slice av ps.length cv, .int .i64 0])) w3) := hide ⟨_, ps, rfl, hPr.mono (unhide HB2).size, hE, (unhide HB2).trans (hB3.mono (unhide HB2).size)⟩
  clear hC hPr hE hB3
  generalize ps.length = nn at *
  refine hK1 _ _ ?_
  clear hK1 K1
  go_wp2
  go_ret2
  exact unhide HE
set_option maxHeartbeats 4000000 in
set_option maxRecDepth 100000 in
theorem parts_Head (w : World) (b : Sl) (hbo : b.Ok w) (z x : Nat → Int) (hz : decL 10 (fsAll fHead) b.l = (z, 0)) (hzx : ∀ i, i < 97 → z i = x i) (hokm : ∀ i, i < 97 → (sHead i).ok (x i)) :
    Calls Tryz.prog 48 #[.int .i64 10, b.v] w (QPost ([(tellL 10 (fsAll (fHead.take 2)) x, run x 33 64)]) w) := by
  have hU := fun w1 g vs (h : Tab (New noS w w1) w1 sHead 97 fHead 328 g vs) (hB : Below w.heap.size w w1) => partsOf_Head h w1 b (hbo.later hB) (Kept.refl (New.lt (noS_lt _) hB.size)) z x hz hzx hokm
  have hbv : b.v = .slice b.a b.n b.c := rfl
  rw [hbv] at hU ⊢
  generalize b.a = ba at *
  generalize b.n = bn at *
  generalize b.c = bc at *
  clear hbo hz hzx hokm hbv
  go_enter Tryz.func48, Tryz.ntmps48
  go_wp2_with fail
  refine (headForm_any w).mono ?_
  rintro e w1 ⟨g, vs, rfl, hTab, hB1⟩
  have hfl : fHead.length = 3 := rfl
  rw [hfl]
  have hC := hU _ _ _ hTab hB1
  clear hU hTab hfl
  go_wp2_with fail
  refine hC.mono ?_
  rintro e w3 ⟨v, ps, rfl, hPr, hE, hB3⟩
  obtain ⟨av, cv, rfl⟩ := own_parts hPr.own
  have HE : Hid (QPost ([(tellL 10 (fsAll (fHead.take 2)) x, run x 33 64)]) w (.returned (.tuple #[.slice av ps.length cv, .int .i64 0])) w3) := hide ⟨_, ps, rfl, hPr.mono hB1.size, hE, hB1.trans (hB3.mono hB1.size)⟩
  clear hC hPr hE hB3 hB1
  generalize ps.length = nn at *
  go_wp2
  go_ret2
  exact unhide HE
end Go.Proofs.YtfedajifefldmaaGreat
