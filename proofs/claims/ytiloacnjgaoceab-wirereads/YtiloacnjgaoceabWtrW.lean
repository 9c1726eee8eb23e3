import Derived.Test.YtiloacnjgaoceabWtrM
namespace Go.Proofs.Ytiloacnjgaoceab
open Go.RowKit

set_option maxHeartbeats 1000000 in
set_option maxRecDepth 100000 in
theorem lay_any (base p : Nat) (lv : Value) (l : List Int) (f : Int) (d : Sl) (w : World) (h : Wtr w base p lv l f) (hd : d.Ok w) (hm : l.length + d.n ≤ 1099511627776) (hbase : base ≤ w.heap.size) :
    Calls Try.prog 39 #[.pointer (some ⟨p, 0, none⟩), d.v] w (WPost base p lv (wLay d.l (l, f)) w) := by
  obtain ⟨i0, hi, hz0, hz1, hz2⟩ := info_parts Try.infoB
  have c0 : w.cell? ⟨p, 0, none⟩ = some lv := by simpa using h.arr.cell 0
  have c1 : w.cell? ⟨p, 1, none⟩ = some (.int .i64 f) := by simpa using h.arr.cell 1
  have hdv : d.v = .slice d.a d.n d.c := rfl
  have hlt := h.arr.lt
  rw [hdv]
  by_cases hf : f = 0
  · subst hf
    have HL : Hid (wLay d.l (l, 0) = (l ++ d.l, 0)) := hide rfl
    rw [unhide HL]
    have hown := h.own
    obtain ⟨la, lc, rfl⟩ := own_parts hown
    have HO := hide hown
    clear hown
    go_enter Try.func39, Try.ntmps39
    go_wp2_with (at_builtin; refine wpList_append_slat rfl _ _ 23 rfl base 5 i0 (.int .u8 0) Try.underlying23 hi hz0 hz1 hz2 rfl (.slice la l.length lc) l.length (U8 l) rfl (unhide HO) d hd rfl (by omega) hbase ?_; intro v' w' hown' hgrow hat; obtain ⟨a', c', rfl⟩ := own_parts (unhide hown'); have Ap : Arr w' p 61 [.slice la l.length lc, .int .i64 0] := (hgrow.out.block p hlt (fun e => h.ne e.symm)).trans h.arr; have fp := Ap.frozen 0; have cp : w'.cell? ⟨p, 0, none⟩ = some (.slice la l.length lc) := by simpa using Ap.cell 0)
    go_end0
    have hown' := unhide hown'
    have hgrow := unhide hgrow
    have hat := unhide hat
    have Ap2 := Ap.set 0 (.slice a' (l.length + d.n) c')
    have hne : (Value.slice a' (l.length + d.n) c').ownBlock ≠ some p := own_arr_ne hown' Ap (by decide)
    have hbp : Buts (· = p) w' (w'.setCell ⟨p, 0, none⟩ (.slice a' (l.length + d.n) c')) := Buts.of_but ((But.refl p w').setCell 0 _)
    refine ⟨rfl, .slice a' (l.length + d.n) c', ⟨by simpa using Ap2, ?_, h.isB.append hd.isB⟩, ?_, fun k hk => ?_⟩
    · have := hbp.own hown' (fun g hg e => hne (by rw [hg, e]))
      rw [U8_append, List.length_append, hd.len]; exact this
    · have h1 : Buts (Wset p (.slice la l.length lc)) w w' := ⟨hgrow.os, hgrow.tape, hgrow.output, hgrow.size, fun k hk hs => hgrow.block k hk (fun e => hs (.inr e.symm))⟩
      exact h1.trans' hbp (fun k _ e => .inl e)
    · rcases hat with hat | hat
      · left; rw [← hat]; exact hk
      · right; rw [hat] at hk; simp at hk; omega
  · have HL : Hid (wLay d.l (l, f) = (l, f)) := by unfold wLay; rw [if_neg hf]; exact hide rfl
    rw [unhide HL]
    go_enter Try.func39, Try.ntmps39
    go_wp2
    go_end0
    exact ⟨rfl, lv, Wst.refl h⟩

set_option maxHeartbeats 1000000 in
set_option maxRecDepth 100000 in
theorem wByte_any (base p : Nat) (lv : Value) (l : List Int) (f x : Int) (w : World) (h : Wtr w base p lv l f) (hx0 : 0 ≤ x) (hx1 : x ≤ 255) (hm : l.length + 1 ≤ 1099511627776) (hbase : base ≤ w.heap.size) :
    Calls Try.prog 29 #[.pointer (some ⟨p, 0, none⟩), .int .u8 x] w (WPost base p lv (wLay [x] (l, f)) w) := by
  have hb := below_one w (.cells #[.int .u8 x] 5)
  have hL := lay_any base p lv l f _ _ (h.later hb) (one_ok w x hx0 hx1) hm (Nat.le_trans hbase hb.size)
  simp only [Sl.v] at hL
  go_enter Try.func29, Try.ntmps29
  go_wp2_with (go_at_call 39; refine hL.mono ?_; rintro e w' ⟨rfl, lv', hW⟩)
  go_end0
  exact ⟨rfl, lv', hW.later hb⟩

/-- the bytes of a number, the highest first -/
def beB (n : Nat) (x : Int) : List Int := (leB n x).reverse

set_option maxHeartbeats 1000000 in
set_option maxRecDepth 100000 in
theorem wU32_any (base p : Nat) (lv : Value) (l : List Int) (f x : Int) (w : World) (h : Wtr w base p lv l f) (hx0 : 0 ≤ x) (hm : l.length + 4 ≤ 1099511627776) (hbase : base ≤ w.heap.size) :
    Calls Try.prog 30 #[.pointer (some ⟨p, 0, none⟩), .int .u32 x] w (WPost base p lv (wLay (beB 4 x) (l, f)) w) := by
  have hS := storebe32_any x w hx0
  go_enter Try.func30, Try.ntmps30
  go_wp2_with (first
    | (go_at_call 61; refine hS.mono ?_; rintro e w1 ⟨rfl, hown, hb⟩)
    | (have hd := Sl.Ok.of_own hown (leB_isB 4 x).reverse
       have hL := lay_any base p lv l f _ _ (h.later hb) hd hm (Nat.le_trans hbase hb.size)
       simp only [Sl.v] at hL
       go_at_call 39; refine hL.mono ?_; rintro e w' ⟨rfl, lv', hW⟩))
  go_end0
  exact ⟨rfl, lv', hW.later hb⟩

set_option maxHeartbeats 1000000 in
set_option maxRecDepth 100000 in
theorem wU64_any (base p : Nat) (lv : Value) (l : List Int) (f x : Int) (w : World) (h : Wtr w base p lv l f) (hx0 : 0 ≤ x) (hm : l.length + 8 ≤ 1099511627776) (hbase : base ≤ w.heap.size) :
    Calls Try.prog 31 #[.pointer (some ⟨p, 0, none⟩), .int .u64 x] w (WPost base p lv (wLay (beB 8 x) (l, f)) w) := by
  have hS := storebe64_any x w hx0
  go_enter Try.func31, Try.ntmps31
  go_wp2_with (first
    | (go_at_call 62; refine hS.mono ?_; rintro e w1 ⟨rfl, hown, hb⟩)
    | (have hd := Sl.Ok.of_own hown (leB_isB 8 x).reverse
       have hL := lay_any base p lv l f _ _ (h.later hb) hd hm (Nat.le_trans hbase hb.size)
       simp only [Sl.v] at hL
       go_at_call 39; refine hL.mono ?_; rintro e w' ⟨rfl, lv', hW⟩))
  go_end0
  exact ⟨rfl, lv', hW.later hb⟩

set_option maxHeartbeats 1000000 in
set_option maxRecDepth 100000 in
theorem wBool_any (base p : Nat) (lv : Value) (l : List Int) (f : Int) (x : Bool) (w : World) (h : Wtr w base p lv l f) (hm : l.length + 1 ≤ 1099511627776) (hbase : base ≤ w.heap.size) :
    Calls Try.prog 33 #[.pointer (some ⟨p, 0, none⟩), .bool x] w (WPost base p lv (wLay [if x then 1 else 0] (l, f)) w) := by
  cases x
  · have hb := below_one w (.cells #[.int .u8 0] 5)
    have hL := lay_any base p lv l f _ _ (h.later hb) (one_ok w 0 (by omega) (by omega)) hm (Nat.le_trans hbase hb.size)
    simp only [Sl.v] at hL
    go_enter Try.func33, Try.ntmps33
    go_wp2_with (go_at_call 39; refine hL.mono ?_; rintro e w' ⟨rfl, lv', hW⟩)
    go_end0
    exact ⟨rfl, lv', hW.later hb⟩
  · have hb := below_one w (.cells #[.int .u8 1] 5)
    have hL := lay_any base p lv l f _ _ (h.later hb) (one_ok w 1 (by omega) (by omega)) hm (Nat.le_trans hbase hb.size)
    simp only [Sl.v] at hL
    go_enter Try.func33, Try.ntmps33
    go_wp2_with (go_at_call 39; refine hL.mono ?_; rintro e w' ⟨rfl, lv', hW⟩)
    go_end0
    exact ⟨rfl, lv', hW.later hb⟩

set_option maxHeartbeats 1000000 in
set_option maxRecDepth 100000 in
theorem wFixed_any (base p : Nat) (lv : Value) (l : List Int) (f : Int) (d : Sl) (w : World) (h : Wtr w base p lv l f) (hd : d.Ok w) (hm : l.length + d.n ≤ 1099511627776) (hbase : base ≤ w.heap.size) :
    Calls Try.prog 34 #[.pointer (some ⟨p, 0, none⟩), d.v] w (WPost base p lv (wLay d.l (l, f)) w) := by
  have hL := lay_any base p lv l f d w h hd hm hbase
  go_enter Try.func34, Try.ntmps34
  go_wp2_with (go_at_call 39; refine hL.mono ?_; rintro e w' ⟨rfl, lv', hW⟩)
  go_end0
  exact ⟨rfl, lv', hW⟩

set_option maxHeartbeats 1000000 in
set_option maxRecDepth 100000 in
theorem wUint_any (base p : Nat) (lv : Value) (l : List Int) (f : Int) (x : Nat) (w : World) (h : Wtr w base p lv l f) (hx : x < 18446744073709551616) (hm : l.length + (sho x).length ≤ 1099511627776) (hbase : base ≤ w.heap.size) :
    Calls Try.prog 32 #[.pointer (some ⟨p, 0, none⟩), .int .u64 x] w (WPost base p lv (wLay (sho x) (l, f)) w) := by
  have hp := h.arr.lt
  go_enter Try.func32, Try.ntmps32
  go_wp2
  go_loopw [1] (fun v wr => ∃ (y : Nat) (lv1 : Value) (st : List Int × Int), v = .int .u64 y ∧ y ≤ x ∧ Hid (wLay (sho x) (l, f) = wLay (sho y) st ∧ st.1.length + (sho y).length ≤ 1099511627776) ∧ Wst base p lv st.1 st.2 w wr lv1)
    (fun v _ => (intOf v).toNat)
  case atStart => exact ⟨x, lv, (l, f), rfl, Nat.le_refl _, hide ⟨rfl, hm⟩, Wst.refl h⟩
  case round =>
    obtain ⟨y, lv1, ⟨l1, f1⟩, rfl, hy, HS, hW⟩ := hrel
    have hsz := hW.but.size
    by_cases hlt : 128 ≤ y
    · have e : sho y = ((y : Int) % 128 + 128) :: sho (y / 128) := by rw [sho_ge hlt]; simp
      have hS1 := (unhide HS).1
      have hlen := (unhide HS).2
      rw [e, List.length_cons] at hlen
      rw [e] at hS1
      have hb := below_one wr (.cells #[.int .u8 ((y : Int) % 128 + 128)] 5)
      have hL := lay_any base p lv1 l1 f1 _ _ (hW.wtr.later hb) (one_ok wr ((y : Int) % 128 + 128) (by omega) (by omega)) (by simp only at hlen ⊢; omega) (Nat.le_trans (Nat.le_trans hbase hsz) hb.size)
      simp only [Sl.v] at hL
      have HS' : Hid (wLay (sho x) (l, f) = wLay (sho (y / 128)) (wLay [(y : Int) % 128 + 128] (l1, f1)) ∧ (wLay [(y : Int) % 128 + 128] (l1, f1)).1.length + (sho (y / 128)).length ≤ 1099511627776) := by
        refine hide ⟨by rw [wLay_lay]; exact hS1, ?_⟩
        have := wLay_len [(y : Int) % 128 + 128] (l1, f1)
        simp only [List.length_singleton] at this hlen
        omega
      clear HS e hlen hS1
      go_wp2_with (go_at_call 39; refine hL.mono ?_; rintro e w' ⟨rfl, lv', hW'⟩)
      go_roundw
      case rel => exact ⟨y / 128, lv', wLay [(y : Int) % 128 + 128] (l1, f1), by go_num, by omega, HS', hW.trans hp (hW'.later hb)⟩
      case measure => simp [intOf]; omega
    · have e : sho y = [(y : Int)] := sho_lt (by omega)
      have hS1 := (unhide HS).1
      have hlen := (unhide HS).2
      rw [e] at hlen hS1
      have hb := below_one wr (.cells #[.int .u8 (y : Int)] 5)
      have hL := lay_any base p lv1 l1 f1 _ _ (hW.wtr.later hb) (one_ok wr (y : Int) (by omega) (by omega)) hlen (Nat.le_trans (Nat.le_trans hbase hsz) hb.size)
      simp only [Sl.v] at hL
      have HS' := hide hS1
      clear HS e hlen hS1
      go_wp2_with (go_at_call 39; refine hL.mono ?_; rintro e w' ⟨rfl, lv', hW'⟩)
      go_end0
      rw [unhide HS']
      exact ⟨rfl, lv', hW.trans hp (hW'.later hb)⟩

theorem wCount_len (n : Nat) (most : Int) (st : List Int × Int) : (wCount n most st).1.length ≤ st.1.length + (sho n).length := by
  unfold wCount
  split
  · simp
  · exact wLay_len _ _

set_option maxHeartbeats 1000000 in
set_option maxRecDepth 100000 in
theorem wCount_any (base p : Nat) (lv : Value) (l : List Int) (f : Int) (n : Nat) (most : Int) (w : World) (h : Wtr w base p lv l f) (hn : n < 9223372036854775808) (hm : l.length + (sho n).length ≤ 1099511627776) (hbase : base ≤ w.heap.size) :
    Calls Try.prog 38 #[.pointer (some ⟨p, 0, none⟩), .int .i64 n, .int .i64 most] w (WPost base p lv (wCount n most (l, f)) w) := by
  by_cases hlt : most < (n : Int)
  · have HS : Hid (wCount n most (l, f) = (l, 1)) := by unfold wCount; rw [if_pos hlt]; exact hide rfl
    rw [unhide HS]
    have c1 : w.cell? ⟨p, 1, none⟩ = some (.int .i64 f) := by simpa using h.arr.cell 1
    have f1 := h.arr.frozen 1
    go_enter Try.func38, Try.ntmps38
    go_wp2
    refine bodyPost_ret (results_none rfl _ _ _) rfl ?_
    have hb : Buts (· = p) w (w.setCell ⟨p, 1, none⟩ (.int .i64 1)) := Buts.of_but ((But.refl p w).setCell 1 _)
    refine ⟨rfl, lv, ⟨by simpa using h.arr.set 1 (.int .i64 1), hb.own h.own (fun g hg e => h.ne (by rw [hg, e])), h.isB⟩, hb.mono (fun k _ e => .inl e), fun k hk => .inl hk⟩
  · have HS : Hid (wCount n most (l, f) = wLay (sho n) (l, f)) := by unfold wCount; rw [if_neg hlt]; exact hide rfl
    rw [unhide HS]
    have hU := wUint_any base p lv l f n w h (by omega) hm hbase
    go_enter Try.func38, Try.ntmps38
    go_wp2_with (go_at_call 32; refine hU.mono ?_; rintro e w' ⟨rfl, lv', hW⟩)
    go_end0
    exact ⟨rfl, lv', hW⟩

/-- a slice that a Writer does not write -/
theorem Wst.ok {base p : Nat} {lv lv' : Value} {l : List Int} {f : Int} {w w' : World} (h : Wst base p lv l f w w' lv') {d : Sl} (hd : d.Ok w) (ho : 0 < d.l.length → ∀ y, d.a = some y → ¬ Wset p lv y.block) : d.Ok w' := h.but.ok hd ho

set_option maxHeartbeats 1000000 in
set_option maxRecDepth 100000 in
theorem wBytes_any (base p : Nat) (lv : Value) (l : List Int) (f : Int) (d : Sl) (most : Int) (w : World) (h : Wtr w base p lv l f) (hd : d.Ok w) (ho : 0 < d.l.length → ∀ y, d.a = some y → ¬ Wset p lv y.block)
    (hm : l.length + (sho d.n).length + d.n ≤ 1099511627776) (hbase : base ≤ w.heap.size) :
    Calls Try.prog 12 #[.pointer (some ⟨p, 0, none⟩), d.v, .int .i64 most] w (WPost base p lv (wBytes d.l most (l, f)) w) := by
  have hp := h.arr.lt
  have hC := wCount_any base p lv l f d.n most w h (by omega) (by omega) hbase
  have hcl := wCount_len d.n most (l, f)
  have HB : Hid (wBytes d.l most (l, f) = wLay d.l (wCount d.n most (l, f))) := by unfold wBytes; rw [hd.len]; exact hide rfl
  rw [unhide HB]
  obtain ⟨⟨l1, f1⟩, hst⟩ : ∃ st, wCount d.n most (l, f) = st := ⟨_, rfl⟩
  rw [hst] at hC hcl ⊢
  have hdv : d.v = .slice d.a d.n d.c := rfl
  have HM : Hid (l1.length + d.n ≤ 1099511627776) := by simp only at hcl; exact hide (by omega)
  clear hcl hm hst
  rw [hdv]
  go_enter Try.func12, Try.ntmps12
  go_wp2_with (first
    | (go_at_call 38; refine hC.mono ?_; rintro e w1 ⟨rfl, lv1, hW⟩)
    | (have hL := lay_any base p lv1 l1 f1 d w1 hW.wtr (hW.ok hd ho) (unhide HM) (Nat.le_trans hbase hW.but.size)
       rw [hdv] at hL
       go_at_call 39; refine hL.mono ?_; rintro e w' ⟨rfl, lv', hW'⟩))
  go_end0
  exact ⟨rfl, lv', hW.trans hp hW'⟩
end Go.Proofs.Ytiloacnjgaoceab
