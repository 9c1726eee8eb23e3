import Derived.Test.YtiloacnjgaoceabWtrW
import Derived.Test.YtiloacnjgaoceabLstM
namespace Go.Proofs.Ytiloacnjgaoceab
open Go.RowKit

theorem cat_one' (s : Sl) : cat [s] = s.l := by simp [cat]
/-- what is joined is new -/
theorem joins_one (s : Sl) (w : World) (hs : s.Ok w) (hm : s.n ≤ 1099511627776) :
    Calls Try.prog 28 #[.slice (some ⟨w.heap.size, 0, none⟩) 1 1] (w.alloc (.cells #[s.v] 23)) fun e w' => ∃ v, e = .returned v ∧ w'.ownsRow (w.heap.size + 1) 5 1 v s.l.length (U8 s.l) ∧ Below w.heap.size w w' := by
  have hb := below_one w (.cells #[s.v] 23)
  have hA : Arr (w.alloc (.cells #[s.v] 23)) w.heap.size 23 [s.v] := Arr.new w _ [s.v]
  have hsz : (w.alloc (.cells #[s.v] 23)).heap.size = w.heap.size + 1 := by simp
  refine (join_any (some ⟨w.heap.size, 0, none⟩) 1 [s] (w.alloc (.cells #[s.v] 23)) ?_ ?_ (by simp) (by rw [cat_one', hs.len]; exact hm)).mono ?_
  · intro _
    refine ⟨w.heap.size, 0, rfl, by omega, fun i v hi => ?_⟩
    rw [Nat.zero_add, hA.cell i]
    simpa using hi
  · intro t ht
    simp at ht; subst ht
    exact hs.later hb
  · rintro e w' ⟨rfl, hown, hbel⟩
    rw [cat_one', hsz] at hown
    exact ⟨_, by rw [cat_one', hsz], hown, hb.trans (hbel.mono (by omega))⟩

/-- what Done of a Writer tells -/
def wOut (l : List Int) (f : Int) : List Int := if f = 0 then l else []

set_option maxHeartbeats 1000000 in
set_option maxRecDepth 100000 in
theorem wDone_any (base p : Nat) (lv : Value) (l : List Int) (f : Int) (w : World) (h : Wtr w base p lv l f) (hm : l.length ≤ 1099511627776) :
    Calls Try.prog 18 #[.pointer (some ⟨p, 0, none⟩)] w fun e w' => Below w.heap.size w w' ∧ ∃ v, e = .returned (.tuple #[v, .int .i64 f]) ∧ w'.ownsRow w.heap.size 5 1 v (wOut l f).length (U8 (wOut l f)) := by
  have c0 : w.cell? ⟨p, 0, none⟩ = some lv := by simpa using h.arr.cell 0
  have c1 : w.cell? ⟨p, 1, none⟩ = some (.int .i64 f) := by simpa using h.arr.cell 1
  by_cases hf : f = 0
  · subst hf
    have HL : Hid (wOut l 0 = l) := hide rfl
    rw [unhide HL]
    obtain ⟨s, rfl, hok, hsl, hsn, -⟩ := own_sl h.own h.isB
    have hJ := joins_one s w hok (by omega)
    rw [hsl] at hJ
    have hsv : s.v = .slice s.a s.n s.c := rfl
    rw [hsv] at c0 hJ
    clear hsl hsn hsv
    go_enter Try.func18, Try.ntmps18
    go_wp2_with (go_at_call 28; refine hJ.mono ?_; rintro e w' ⟨v, rfl, hown, hbel⟩)
    go_ret2
    exact ⟨hbel, v, rfl, own_mono hown (by omega)⟩
  · have HL : Hid (wOut l f = []) := by unfold wOut; rw [if_neg hf]; exact hide rfl
    rw [unhide HL]
    go_enter Try.func18, Try.ntmps18
    go_wp2
    go_region
    go_wp2
    go_ret2
    exact ⟨below_drewN (Below.refl _ _) 1, .slice none 0 0, rfl, rfl, .inl ⟨rfl, rfl⟩⟩

set_option maxHeartbeats 1000000 in
set_option maxRecDepth 100000 in
theorem newWriter_any (w : World) :
    Calls Try.prog 7 #[] w fun e w' => e = .returned (.pointer (some ⟨w.heap.size, 0, none⟩)) ∧ Wtr w' w.heap.size w.heap.size (.slice none 0 0) [] 0 ∧ Below w.heap.size w w' ∧ w.heap.size < w'.heap.size := by
  go_enter Try.func7, Try.ntmps7
  go_wp2
  go_ret
  exact ⟨rfl, ⟨Arr.new w _ [.slice none 0 0, .int .i64 0], ⟨rfl, .inl ⟨rfl, rfl⟩⟩, fun x hx => by simp at hx⟩, below_one _ _, by simp⟩

set_option maxHeartbeats 1000000 in
set_option maxRecDepth 100000 in
theorem put1_any (base p : Nat) (lv : Value) (l : List Int) (f : Int) (x : Nat) (w : World) (h : Wtr w base p lv l f) (hx : x < 18446744073709551616) (hm : l.length + (sho x).length ≤ 1099511627776) (hbase : base ≤ w.heap.size) :
    Calls Try.prog 36 #[.pointer (some ⟨p, 0, none⟩), .int .u64 x] w (WPost base p lv (wLay (sho x) (l, f)) w) := by
  have hU := wUint_any base p lv l f x w h hx hm hbase
  go_enter Try.func36, Try.ntmps36
  go_wp2_with (go_at_call 32; refine hU.mono ?_; rintro e w' ⟨rfl, lv', hW⟩)
  go_end0
  exact ⟨rfl, lv', hW⟩

/-- the first k numbers laid down -/
def wNums (L : List Int) (st : List Int × Int) : List Int × Int := L.foldl (fun st x => wLay (sho x.toNat) st) st
theorem wNums_stuck (L : List Int) (st : List Int × Int) (h : st.2 ≠ 0) : wNums L st = st := by
  induction L with
  | nil => rfl
  | cons x r ih =>
    have : wLay (sho x.toNat) st = st := by unfold wLay; rw [if_neg h]
    unfold wNums at *
    simp only [List.foldl_cons, this]; exact ih
theorem wNums_snoc (L : List Int) (k : Nat) (h : k < L.length) (st : List Int × Int) : wNums (L.take (k + 1)) st = wLay (sho (L.getD k 0).toNat) (wNums (L.take k) st) := by
  rw [take_succ_getD L k h]; simp [wNums]
theorem wNums_split (L : List Int) (k : Nat) (st : List Int × Int) : wNums L st = wNums (L.drop k) (wNums (L.take k) st) := by
  unfold wNums; rw [← List.foldl_append, List.take_append_drop]

set_option maxHeartbeats 2000000 in
set_option maxRecDepth 100000 in
theorem wList_any (base p : Nat) (lv : Value) (l : List Int) (f : Int) (s : Sq) (most : Int) (w : World) (h : Wtr w base p lv l f) (hs : s.Ok w) (ho : 0 < s.l.length → ∀ y, s.a = some y → ¬ Wset p lv y.block)
    (hm : l.length + 10 + 10 * s.n ≤ 1099511627776) (hbase : base ≤ w.heap.size) :
    Calls Try.prog 35 #[.pointer (some ⟨p, 0, none⟩), s.v, .int .i64 most, .func (.func 36) #[] #[]] w (WPost base p lv (wList s.l most (l, f)) w) := by
  have hp := h.arr.lt
  have hsl := sho_len10 (x := s.n) (by omega)
  have hC := wCount_any base p lv l f s.n most w h (by omega) (by omega) hbase
  have hcl := wCount_len s.n most (l, f)
  have HB : Hid (wList s.l most (l, f) = wNums s.l (wCount s.n most (l, f))) := by unfold wList; rw [hs.len]; exact hide rfl
  rw [unhide HB]
  obtain ⟨st0, hst⟩ : ∃ st, wCount s.n most (l, f) = st := ⟨_, rfl⟩
  rw [hst] at hC hcl ⊢
  have HM : Hid (st0.1.length + 10 * s.n ≤ 1099511627776) := by simp only at hcl; exact hide (by omega)
  have hsv : s.v = .slice s.a s.n s.c := rfl
  have hmx := hs.mx
  have hle := hs.le
  have hlen := hs.len
  unfold maxLen at hmx
  clear hcl hm hst hsl HB
  rw [hsv]
  go_enter Try.func35, Try.ntmps35
  go_wp2_with (go_at_call 38; refine hC.mono ?_; rintro e w1 ⟨rfl, lv1, hW⟩)
  clear hC
  go_loopw [17] (fun j wr => ∃ (k : Nat) (lv2 : Value), k ≤ s.n ∧ j = .int .i64 k ∧ Wst base p lv (wNums (s.l.take k) st0).1 (wNums (s.l.take k) st0).2 w wr lv2 ∧ Hid ((wNums (s.l.take k) st0).1.length ≤ st0.1.length + 10 * k))
    (fun j _ => s.n - (intOf j).toNat)
  case atStart => exact ⟨0, lv1, by omega, rfl, by simpa [wNums] using hW, hide (by simp [wNums])⟩
  case round =>
    obtain ⟨k, lv2, hk, rfl, hWk, HLk⟩ := hrel
    clear hW
    by_cases hlt : k < s.n
    · have hsk := hs.keep hWk.but ho
      obtain ⟨bk, off, ha, hbl, hc⟩ := hsk.lies (by omega)
      have hck := hc k (by omega)
      have hq := hs.isQ.at k
      have hsnoc := wNums_snoc s.l k (by omega) st0
      obtain ⟨x, hx⟩ : ∃ x : Nat, s.l.getD k 0 = x := ⟨(s.l.getD k 0).toNat, by omega⟩
      rw [hx] at hck hq hsnoc
      rw [Int.toNat_natCast] at hsnoc
      have hxl : x < 18446744073709551616 := by omega
      have hsx := sho_len10 hxl
      obtain ⟨⟨l3, f3⟩, hst⟩ : ∃ st, wNums (s.l.take k) st0 = st := ⟨_, rfl⟩
      have HSP : Hid (wNums s.l st0 = wNums (s.l.drop k) (l3, f3)) := by rw [wNums_split s.l k st0, hst]; exact hide rfl
      rw [hst] at hWk HLk hsnoc
      have c1 : wr.cell? ⟨p, 1, none⟩ = some (.int .i64 f3) := by simpa using hWk.wtr.arr.cell 1
      have HSN := hide hsnoc
      have hlm := unhide HM
      have hlk := unhide HLk
      simp only at hlk
      have hP := put1_any base p lv2 l3 f3 x wr hWk.wtr hxl (by omega) (Nat.le_trans hbase hWk.but.size)
      rw [ha]
      clear hsk hc hq hx hst hsnoc hlm hlk hs ho hsv h
      by_cases hf : f3 = 0
      · subst hf
        go_wp2_with (go_at_call 36; refine hP.mono ?_; rintro e w' ⟨rfl, lv', hW'⟩)
        go_roundw
        case rel =>
          refine ⟨k + 1, lv', by omega, by go_num, ?_, ?_⟩
          · rw [unhide HSN]; exact hWk.trans hp hW'
          · have h1 := wLay_len (sho x) (l3, 0)
            have h2 := unhide HLk
            rw [unhide HSN]
            simp only at h1 h2
            exact hide (by omega)
        case measure => simp [intOf]; omega
      · go_wp2
        refine bodyPost_ret (results_none rfl _ _ _) rfl ?_
        rw [unhide HSP, wNums_stuck _ _ hf]
        exact ⟨rfl, lv2, hWk⟩
    · have : k = s.n := by omega
      subst this
      have HT : Hid (s.l.take s.n = s.l) := hide (List.take_of_length_le (by omega))
      rw [unhide HT] at hWk
      go_wp2
      go_end0
      exact ⟨rfl, lv2, hWk⟩
end Go.Proofs.Ytiloacnjgaoceab
