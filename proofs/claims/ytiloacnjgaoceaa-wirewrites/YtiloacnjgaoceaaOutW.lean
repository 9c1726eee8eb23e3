import Derived.Test.YtiloacnjgaoceaaNumW
namespace Go.Proofs.Ytiloacnjgaoceaa
open Go.RowKit

/-! The calls of the document's Writer. -/

set_option maxHeartbeats 1000000 in
set_option maxRecDepth 100000 in
theorem oByte_any (base p : Nat) (lv : Value) (l : List Int) (f x : Int) (w : World) (h : Otr w base p lv l f) (hx0 : 0 ≤ x) (hx1 : x ≤ 255) (hm : l.length + 1 ≤ 1099511627776) (hbase : base ≤ w.heap.size) :
    Calls Try.prog 48 #[.pointer (some ⟨p, 0, none⟩), .int .u8 x] w (OPost base p lv (wLay [x] (l, f)) w) := by
  have hb := below_one w (.cells #[.int .u8 x] 5)
  have hL := oPut_any base p lv l f _ _ (h.later hb) (one_ok w x hx0 hx1) hm (Nat.le_trans hbase hb.size)
  simp only [Sl.v] at hL
  go_enter Try.func48, Try.ntmps48
  go_wp2_with (go_at_call 69; refine hL.mono ?_; rintro e w' ⟨rfl, lv', hW⟩)
  go_end0
  exact ⟨rfl, lv', hW.later hb⟩

set_option maxHeartbeats 1000000 in
set_option maxRecDepth 100000 in
theorem oU32_any (base p : Nat) (lv : Value) (l : List Int) (f : Int) (x : Int) (w : World) (h : Otr w base p lv l f) (hx0 : 0 ≤ x) (hx1 : x < 4294967296) (hm : l.length + (beB 4 x).length ≤ 1099511627776) (hbase : base ≤ w.heap.size) :
    Calls Try.prog 49 #[.pointer (some ⟨p, 0, none⟩), .int .u32 x] w (OPost base p lv (wLay (beB 4 x) (l, f)) w) := by
  have hS := oU32_form x w hx0 hx1
  unfold Told at hS
  have hB : IsB (beB 4 x) := beB_isB 4 x
  obtain ⟨L, hL⟩ : ∃ L, beB 4 x = L := ⟨_, rfl⟩
  rw [hL] at hS hB hm ⊢
  clear hL
  have HM := hide hm
  clear hm
  go_enter Try.func49, Try.ntmps49
  go_wp2_with fail
  refine hS.mono ?_
  rintro e w1 ⟨v1, rfl, hown, hb⟩
  obtain ⟨d, rfl, hd, hdl, hdn, -⟩ := own_sl hown hB
  have hP := oPut_any base p lv l f d w1 (h.later hb) hd (by have := unhide HM; omega) (Nat.le_trans hbase hb.size)
  rw [hdl] at hP
  clear hS hown hdl hdn hd
  have hdv : d.v = .slice d.a d.n d.c := rfl
  rw [hdv] at hP ⊢
  clear hdv
  go_wp2_with fail
  refine hP.mono ?_
  rintro e w' ⟨rfl, lv', hW⟩
  go_wp2
  go_end0
  exact ⟨rfl, lv', hW.later hb⟩

set_option maxHeartbeats 1000000 in
set_option maxRecDepth 100000 in
theorem oU64_any (base p : Nat) (lv : Value) (l : List Int) (f : Int) (x : Int) (w : World) (h : Otr w base p lv l f) (hx0 : 0 ≤ x) (hx1 : x < 18446744073709551616) (hm : l.length + (beB 8 x).length ≤ 1099511627776) (hbase : base ≤ w.heap.size) :
    Calls Try.prog 50 #[.pointer (some ⟨p, 0, none⟩), .int .u64 x] w (OPost base p lv (wLay (beB 8 x) (l, f)) w) := by
  have hS := oU64_form x w hx0 hx1
  unfold Told at hS
  have hB : IsB (beB 8 x) := beB_isB 8 x
  obtain ⟨L, hL⟩ : ∃ L, beB 8 x = L := ⟨_, rfl⟩
  rw [hL] at hS hB hm ⊢
  clear hL
  have HM := hide hm
  clear hm
  go_enter Try.func50, Try.ntmps50
  go_wp2_with fail
  refine hS.mono ?_
  rintro e w1 ⟨v1, rfl, hown, hb⟩
  obtain ⟨d, rfl, hd, hdl, hdn, -⟩ := own_sl hown hB
  have hP := oPut_any base p lv l f d w1 (h.later hb) hd (by have := unhide HM; omega) (Nat.le_trans hbase hb.size)
  rw [hdl] at hP
  clear hS hown hdl hdn hd
  have hdv : d.v = .slice d.a d.n d.c := rfl
  rw [hdv] at hP ⊢
  clear hdv
  go_wp2_with fail
  refine hP.mono ?_
  rintro e w' ⟨rfl, lv', hW⟩
  go_wp2
  go_end0
  exact ⟨rfl, lv', hW.later hb⟩

set_option maxHeartbeats 1000000 in
set_option maxRecDepth 100000 in
theorem oUint_any (base p : Nat) (lv : Value) (l : List Int) (f : Int) (x : Nat) (w : World) (h : Otr w base p lv l f) (hx : x < 18446744073709551616) (hm : l.length + (sho x).length ≤ 1099511627776) (hbase : base ≤ w.heap.size) :
    Calls Try.prog 51 #[.pointer (some ⟨p, 0, none⟩), .int .u64 x] w (OPost base p lv (wLay (sho x) (l, f)) w) := by
  have hS := oUint_form x w hx
  unfold Told at hS
  have hB : IsB (sho x) := sho_isB x
  obtain ⟨L, hL⟩ : ∃ L, sho x = L := ⟨_, rfl⟩
  rw [hL] at hS hB hm ⊢
  clear hL
  have HM := hide hm
  clear hm
  go_enter Try.func51, Try.ntmps51
  go_wp2_with fail
  refine hS.mono ?_
  rintro e w1 ⟨v1, rfl, hown, hb⟩
  obtain ⟨d, rfl, hd, hdl, hdn, -⟩ := own_sl hown hB
  have hP := oPut_any base p lv l f d w1 (h.later hb) hd (by have := unhide HM; omega) (Nat.le_trans hbase hb.size)
  rw [hdl] at hP
  clear hS hown hdl hdn hd
  have hdv : d.v = .slice d.a d.n d.c := rfl
  rw [hdv] at hP ⊢
  clear hdv
  go_wp2_with fail
  refine hP.mono ?_
  rintro e w' ⟨rfl, lv', hW⟩
  go_wp2
  go_end0
  exact ⟨rfl, lv', hW.later hb⟩

set_option maxHeartbeats 1000000 in
set_option maxRecDepth 100000 in
theorem oBool_any (base p : Nat) (lv : Value) (l : List Int) (f : Int) (x : Bool) (w : World) (h : Otr w base p lv l f)  (hm : l.length + ([if x then (1 : Int) else 0]).length ≤ 1099511627776) (hbase : base ≤ w.heap.size) :
    Calls Try.prog 52 #[.pointer (some ⟨p, 0, none⟩), .bool x] w (OPost base p lv (wLay ([if x then (1 : Int) else 0]) (l, f)) w) := by
  have hS := oBool_form x w
  unfold Told at hS
  have hB : IsB ([if x then (1 : Int) else 0]) := (fun y hy => by simp at hy; subst hy; split <;> omega)
  obtain ⟨L, hL⟩ : ∃ L, [if x then (1 : Int) else 0] = L := ⟨_, rfl⟩
  rw [hL] at hS hB hm ⊢
  clear hL
  have HM := hide hm
  clear hm
  go_enter Try.func52, Try.ntmps52
  go_wp2_with fail
  refine hS.mono ?_
  rintro e w1 ⟨v1, rfl, hown, hb⟩
  obtain ⟨d, rfl, hd, hdl, hdn, -⟩ := own_sl hown hB
  have hP := oPut_any base p lv l f d w1 (h.later hb) hd (by have := unhide HM; omega) (Nat.le_trans hbase hb.size)
  rw [hdl] at hP
  clear hS hown hdl hdn hd
  have hdv : d.v = .slice d.a d.n d.c := rfl
  rw [hdv] at hP ⊢
  clear hdv
  go_wp2_with fail
  refine hP.mono ?_
  rintro e w' ⟨rfl, lv', hW⟩
  go_wp2
  go_end0
  exact ⟨rfl, lv', hW.later hb⟩

set_option maxHeartbeats 1000000 in
set_option maxRecDepth 100000 in
theorem oFixed_any (base p : Nat) (lv : Value) (l : List Int) (f : Int) (d : Sl) (w : World) (h : Otr w base p lv l f) (hd : d.Ok w) (hm : l.length + d.n ≤ 1099511627776) (hbase : base ≤ w.heap.size) :
    Calls Try.prog 53 #[.pointer (some ⟨p, 0, none⟩), d.v] w (OPost base p lv (wLay d.l (l, f)) w) := by
  have hL := oPut_any base p lv l f d w h hd hm hbase
  go_enter Try.func53, Try.ntmps53
  go_wp2_with (go_at_call 69; refine hL.mono ?_; rintro e w' ⟨rfl, lv', hW⟩)
  go_end0
  exact ⟨rfl, lv', hW⟩

/-- the one fault that writing has -/
def Ok1 (f : Int) : Prop := f = 0 ∨ f = 1

set_option maxHeartbeats 1000000 in
set_option maxRecDepth 100000 in
theorem oFail_any (base p : Nat) (lv : Value) (l : List Int) (f : Int) (w : World) (h : Otr w base p lv l f) (hf : Ok1 f) :
    Calls Try.prog 74 #[.pointer (some ⟨p, 0, none⟩), .int .i64 1] w (OPost base p lv (l, 1) w) := by
  have c1 : w.cell? ⟨p, 1, none⟩ = some (.int .i64 f) := by simpa using h.arr.cell 1
  have f1 := h.arr.frozen 1
  rcases hf with rfl | rfl
  · go_enter Try.func74, Try.ntmps74
    go_wp2
    go_end0
    have hb : Buts (· = p) w (w.setCell ⟨p, 1, none⟩ (.int .i64 1)) := Buts.of_but ((But.refl p w).setCell 1 _)
    refine ⟨rfl, lv, ⟨by simpa using h.arr.set 1 (.int .i64 1), hb.own h.own (fun g hg e => h.ne (by rw [hg, e])), h.isB⟩, hb.mono (fun k _ e => .inl e), fun k hk => .inl hk⟩
  · go_enter Try.func74, Try.ntmps74
    go_wp2
    go_end0
    exact ⟨rfl, lv, Ost.refl h⟩

set_option maxHeartbeats 1000000 in
set_option maxRecDepth 100000 in
theorem oCount_any (base p : Nat) (lv : Value) (l : List Int) (f : Int) (n : Nat) (most : Int) (w : World) (h : Otr w base p lv l f) (hf : Ok1 f) (hn : n < 9223372036854775808) (hm : l.length + (sho n).length ≤ 1099511627776) (hbase : base ≤ w.heap.size) :
    Calls Try.prog 55 #[.pointer (some ⟨p, 0, none⟩), .int .i64 n, .int .i64 most] w (OPost base p lv (wCount n most (l, f)) w) := by
  by_cases hlt : most < (n : Int)
  · have HS : Hid (wCount n most (l, f) = (l, 1)) := by unfold wCount; rw [if_pos hlt]; exact hide rfl
    rw [unhide HS]
    have hF := oFail_any base p lv l f w h hf
    go_enter Try.func55, Try.ntmps55
    go_wp2_with fail
    refine hF.mono ?_
    rintro e w' ⟨rfl, lv', hW⟩
    go_wp2
    refine bodyPost_ret (results_none rfl _ _ _) rfl ?_
    exact ⟨rfl, lv', hW⟩
  · have HS : Hid (wCount n most (l, f) = wLay (sho n) (l, f)) := by unfold wCount; rw [if_neg hlt]; exact hide rfl
    rw [unhide HS]
    have hU := oUint_any base p lv l f n w h (by omega) hm hbase
    go_enter Try.func55, Try.ntmps55
    go_wp2_with fail
    refine hU.mono ?_
    rintro e w' ⟨rfl, lv', hW⟩
    go_wp2
    go_end0
    exact ⟨rfl, lv', hW⟩

set_option maxHeartbeats 1000000 in
set_option maxRecDepth 100000 in
theorem oBytes_any (base p : Nat) (lv : Value) (l : List Int) (f : Int) (d : Sl) (most : Int) (w : World) (h : Otr w base p lv l f) (hf : Ok1 f) (hd : d.Ok w) (ho : 0 < d.l.length → ∀ y, d.a = some y → ¬ Wset p lv y.block)
    (hm : l.length + (sho d.n).length + d.n ≤ 1099511627776) (hbase : base ≤ w.heap.size) :
    Calls Try.prog 54 #[.pointer (some ⟨p, 0, none⟩), d.v, .int .i64 most] w (OPost base p lv (wBytes d.l most (l, f)) w) := by
  have hp := h.arr.lt
  have hC := oCount_any base p lv l f d.n most w h hf (by omega) (by omega) hbase
  have hcl := wCount_len d.n most (l, f)
  have HB : Hid (wBytes d.l most (l, f) = wLay d.l (wCount d.n most (l, f))) := by unfold wBytes; rw [hd.len]; exact hide rfl
  rw [unhide HB]
  obtain ⟨⟨l1, f1⟩, hst⟩ : ∃ st, wCount d.n most (l, f) = st := ⟨_, rfl⟩
  rw [hst] at hC hcl ⊢
  have hdv : d.v = .slice d.a d.n d.c := rfl
  have HM : Hid (l1.length + d.n ≤ 1099511627776) := by simp only at hcl; exact hide (by omega)
  clear hcl hm hst
  rw [hdv]
  go_enter Try.func54, Try.ntmps54
  go_wp2_with (first
    | (go_at_call 55; refine hC.mono ?_; rintro e w1 ⟨rfl, lv1, hW⟩)
    | (have hL := oPut_any base p lv1 l1 f1 d w1 hW.wtr (hW.ok hd ho) (unhide HM) (Nat.le_trans hbase hW.but.size)
       rw [hdv] at hL
       go_at_call 69; refine hL.mono ?_; rintro e w' ⟨rfl, lv', hW'⟩))
  go_end0
  exact ⟨rfl, lv', hW.trans hp hW'⟩

set_option maxHeartbeats 1000000 in
set_option maxRecDepth 100000 in
theorem oDone_any (base p : Nat) (lv : Value) (l : List Int) (f : Int) (w : World) (h : Otr w base p lv l f) :
    Calls Try.prog 24 #[.pointer (some ⟨p, 0, none⟩)] w fun e w' => Below w.heap.size w w' ∧ ∃ s : Sl, e = .returned (.tuple #[s.v, .int .i64 f]) ∧ s.Ok w' ∧ s.l = wOut l f ∧ (∀ x, s.a = some x → lv.ownBlock = some x.block) := by
  have c0 : w.cell? ⟨p, 0, none⟩ = some lv := by simpa using h.arr.cell 0
  have c1 : w.cell? ⟨p, 1, none⟩ = some (.int .i64 f) := by simpa using h.arr.cell 1
  by_cases hf : f = 0
  · subst hf
    have HL : Hid (wOut l 0 = l) := hide rfl
    rw [unhide HL]
    have HO := hide h.own
    obtain ⟨s, rfl, hok, hsl, hsn, -⟩ := own_sl h.own h.isB
    have hat : ∀ x, s.a = some x → s.v.ownBlock = some x.block := by
      intro x hx
      rcases (unhide HO).2 with ⟨h1, -⟩ | ⟨g, cap, cur, h1, -⟩
      · simp only [Sl.v, Value.slice.injEq] at h1; rw [h1.1] at hx; simp at hx
      · rw [h1]; simp only [Sl.v, Value.slice.injEq] at h1; rw [h1.1] at hx; simp at hx; subst hx; rfl
    have hsv : s.v = .slice s.a s.n s.c := rfl
    rw [hsv] at c0
    clear hsv hsn
    go_enter Try.func24, Try.ntmps24
    go_wp2
    go_ret2
    exact ⟨Below.refl _ _, s, rfl, hok, hsl, hat⟩
  · have HL : Hid (wOut l f = []) := by unfold wOut; rw [if_neg hf]; exact hide rfl
    rw [unhide HL]
    go_enter Try.func24, Try.ntmps24
    go_wp2
    go_region
    go_wp2
    go_ret2
    exact ⟨below_drewN (Below.refl _ _) 1, ⟨none, 0, 0, []⟩, rfl, ⟨rfl, Nat.le_refl _, Nat.zero_le _, fun _ => ⟨rfl, rfl⟩, fun x hx => by simp at hx, Lies.nil _ _⟩, rfl, fun _ h => by cases h⟩
end Go.Proofs.Ytiloacnjgaoceaa
