import Derived.Test.YtonpikdpclpkiaaQGaD
import Derived.Test.YtonpikdpclpkiaaQIsJ
import Derived.Test.YtonpikdpclpkiaaQJnF
set_option linter.unusedVariables false
namespace Go.Proofs.Ytonpikdpclpkiaa
open Go.RowKit

theorem FSt.belJ {B p : Nat} {S S' : Nat → Prop} {s : FlS} {w0 w w' : World} (h : FSt p S s w w' S') (hb : Below B w0 w) (hB : B ≤ w.heap.size) (hS : ∀ k, S k → B ≤ k) : Below B w0 w' := hb.trans (h.but.below hB hS)
theorem FSt.aboveJ {B p : Nat} {S S' : Nat → Prop} {s : FlS} {w w' : World} (h : FSt p S s w w' S') (hB : B ≤ w.heap.size) (hS : ∀ k, S k → B ≤ k) : ∀ k, S' k → B ≤ k := fun k hk => (h.at_ k hk).elim (hS k) (fun h1 => Nat.le_trans hB h1)
theorem JSt.belJ {B p jp : Nat} {S S' : Nat → Prop} {s : FlS} {o : Option JS} {w0 w w' : World} (h : JSt p jp S s o w w' S') (hb : Below B w0 w) (hB : B ≤ w.heap.size) (hS : ∀ k, S k → B ≤ k) (hj : B ≤ jp) : Below B w0 w' := hb.trans (h.but.below hB (fun k hk => hk.elim (hS k) (fun e => e ▸ hj)))
theorem JSt.aboveJ {B p jp : Nat} {S S' : Nat → Prop} {s : FlS} {o : Option JS} {w w' : World} (h : JSt p jp S s o w w' S') (hB : B ≤ w.heap.size) (hS : ∀ k, S k → B ≤ k) : ∀ k, S' k → B ≤ k := fun k hk => (h.at_ k hk).elim (hS k) (fun h1 => Nat.le_trans hB h1)
/-- Open -/
theorem jopen_any (p : Nat) (S : Nat → Prop) (s : FlS) (w : World) (hf : Fl w p S s) (hw : s.wr + 3 < 4000000000000000000) :
    Calls Try.prog 10 #[.pointer (some ⟨p, 0, none⟩)] w (OPost p S s w) := by
  by_cases hu : s.down = true
  · exact jopen_down p S s w hf hu
  · have hu' : s.down = false := by simpa using hu
    by_cases h0 : s.pickC.e = 0
    · exact jopen_blank p S s w hf hu' h0
    · exact jopen_up p S s w hf hu' h0 hw
/-- Open of a flash without crashes to come -/
theorem open_quiet {s : FlS} {j : JS} {sn : List Int} {rs : List (List Int)} (h : JI s j sn rs) (hq : s.q = []) (ho : s.Ok) : ∃ s', s.jopen = (s', 0) ∧ JI s' j sn rs ∧ s'.q = [] ∧ s'.wr ≤ s.wr + 3 ∧ s'.size = s.size := by
  rcases opens (h.fnd (Nat.le_refl _)) h.e2 h.up ho with ⟨s', e, hi, -, hw, hl, hs⟩ | ⟨s', -, -, -, -, hl, -⟩
  · rw [h.openJ] at hi
    rw [hq] at hl
    exact ⟨s', e, hi, List.length_eq_zero_iff.1 (by simpa using hl), hw, hs⟩
  · rw [hq] at hl; simp at hl
/-- the outcome of Open where the Journal's state is known -/
theorem jopen_quiet (p : Nat) (S : Nat → Prop) (s : FlS) (j : JS) (sn : List Int) (rs : List (List Int)) (w : World) (hf : Fl w p S s) (hi : JI s j sn rs) (hq : s.q = []) (hw : s.wr + 3 < 4000000000000000000) :
    Calls Try.prog 10 #[.pointer (some ⟨p, 0, none⟩)] w fun e w' => ∃ s' S' jp a n c ra rc xs l, e = .returned (.tuple #[.pointer (some ⟨jp, 0, none⟩), .agg #[.int .i64 j.ep, .slice a n c, .slice ra rs.length rc, .int .i64 0], .int .i64 0]) ∧
      FSt p S s' w w' S' ∧ Jn w' jp p (some j) ∧ w.heap.size ≤ jp ∧ ¬ S' jp ∧ RecS w.heap.size S' ⟨j.ep, sn, rs, []⟩ w' ⟨a, n, c, l⟩ (.slice ra rs.length rc) xs ∧ JI s' j sn rs ∧ s'.q = [] ∧ s'.wr ≤ s.wr + 3 ∧ s'.size = s.size := by
  obtain ⟨s', e, hi', hq', hw', hs'⟩ := open_quiet hi hq hf.ok
  refine (jopen_any p S s w hf hw).mono ?_
  rintro r w' ⟨S', hF, h⟩
  rw [e] at hF h
  rcases h with ⟨h, -⟩ | ⟨-, jp, sn', rv, xs, hr, hJ, hjp, hjs, hR⟩
  · exact absurd rfl h
  · rw [hi.openJ] at hr hJ
    rw [hi.pick.2] at hr hR
    obtain ⟨ra, rc, hrv⟩ := own_parts hR.rr.row
    have hxl := congrArg List.length hR.rl
    rw [List.length_map] at hxl
    simp only at hxl
    rw [hxl] at hrv
    subst hrv
    obtain ⟨a, n, c, l⟩ := sn'
    exact ⟨s', S', jp, a, n, c, ra, rc, xs, l, hr, hF, hJ, hjp, hjs, hR, hi', hq', hw', hs'⟩
theorem new512 : fsLoad 512 [] [] = ⟨512, [], [], [], false, 0⟩ := by rfl
theorem fmt7 : ∃ s', (fsLoad 512 [] []).format [7] = (s', 0) ∧ JI s' ⟨0, 1, 0⟩ [7] [] ∧ s'.q = [] ∧ s'.wr ≤ 3 ∧ s'.size = 512 := by
  rcases formats (s := fsLoad 512 [] []) (sn := [7]) rfl rfl rfl rfl (by intro x hx; simp at hx; omega) with ⟨h, -⟩ | ⟨s', e, h1, h2, h3, h4⟩
  · rw [new512] at h; simp at h
  · exact ⟨s', e, h1, h2, h3, h4⟩
theorem app3 {s : FlS} (h : JI s ⟨0, 1, 0⟩ [7] []) (ho : s.Ok) (hq : s.q = []) (hs : s.size = 512) : ∃ s', s.jappend (some ⟨0, 1, 0⟩) [1, 2, 3] = (s', some ⟨0, 1, 1⟩, 0) ∧ JI s' ⟨0, 1, 1⟩ [7] [[1, 2, 3]] ∧ s'.q = [] ∧ s'.wr ≤ s.wr + 1 := by
  obtain ⟨m, hb, -, -⟩ := h.by_
  have hl : (s.bk 0).length = 23 := by
    simp only at hb
    rw [hb, List.length_append, hdr_length]; rfl
  rcases appends (r := [1, 2, 3]) h (by intro x hx; simp at hx; omega) ho with ⟨c, -⟩ | ⟨-, c, -⟩ | ⟨-, -, s', e, h1, -, -, h2, h3⟩ | ⟨s', -, -, -, -, h3⟩
  · simp at c
  · simp only at c; rw [hl, hs] at c; simp at c
  · rw [hq] at h3
    exact ⟨s', e, h1, List.length_eq_zero_iff.1 (by simpa using h3), h2⟩
  · rw [hq] at h3; simp at h3
set_option maxHeartbeats 4000000 in
set_option maxRecDepth 100000 in
theorem works_any (w : World) : Calls Try.prog 12 #[] w fun e w' => e = .returned (.bool true) ∧ Below w.heap.size w w' := by
  have hN := new_any 512 w
  obtain ⟨s1, f1, i1, q1, r1, z1⟩ := fmt7
  have HF1 : Hid ((fsLoad 512 [] []).format [7] = (s1, 0) ∧ JI s1 ⟨0, 1, 0⟩ [7] [] ∧ s1.q = [] ∧ s1.wr ≤ 3 ∧ s1.size = 512) := hide ⟨f1, i1, q1, r1, z1⟩
  have HB7 : Hid (IsB [7]) := hide (by intro x hx; simp at hx; omega)
  have HB3 : Hid (IsB [1, 2, 3]) := hide (by intro x hx; simp at hx; omega)
  clear f1 i1 q1 r1 z1
  go_enter Try.func12, Try.ntmps12
  go_wp2_with (first
    | (go_at_call 11; refine hIs.mono ?_; rintro e w6 ⟨rfl, b6⟩; clear hIs
       have B5 := (unhide HA5).later b6
       have d0 := B5.cell 0
       have d3 := B5.cell 3
       simp at d0 d3
       have HB6 := hide (bel_then (unhide HB5) (unhide HB5).size b6)
       clear B5 b6)
    | (go_at_call 10; refine hO2.mono ?_; rintro e w5 ⟨s5, S5, jp2, sb, sm, sd, rb, rd, ys, tl, rfl, k5, -, -, -, hR5, -, -, -, -⟩; clear hO2
       have u1 := below_alloc w5 (.cells #[.int .i64 1, .slice sb sm sd, .slice rb 1 rd, .int .i64 0] 33)
       have u2 := bel_then u1 u1.size (below_alloc (w5.alloc (.cells #[.int .i64 1, .slice sb sm sd, .slice rb 1 rd, .int .i64 0] 33)) (.cells #[.int .u8 7] 5))
       have u3 := bel_then u2 u2.size (below_alloc ((w5.alloc (.cells #[.int .i64 1, .slice sb sm sd, .slice rb 1 rd, .int .i64 0] 33)).alloc (.cells #[.int .u8 7] 5)) (.cells #[.int .u8 1, .int .u8 2, .int .u8 3] 5))
       have u4 := bel_then u3 u3.size (below_alloc (((w5.alloc (.cells #[.int .i64 1, .slice sb sm sd, .slice rb 1 rd, .int .i64 0] 33)).alloc (.cells #[.int .u8 7] 5)).alloc (.cells #[.int .u8 1, .int .u8 2, .int .u8 3] 5)) (.cells #[.slice (some ⟨w5.heap.size + 2, 0, none⟩) 3 3] 22))
       have l7 : Sl.Ok ((((w5.alloc (.cells #[.int .i64 1, .slice sb sm sd, .slice rb 1 rd, .int .i64 0] 33)).alloc (.cells #[.int .u8 7] 5)).alloc (.cells #[.int .u8 1, .int .u8 2, .int .u8 3] 5)).alloc (.cells #[.slice (some ⟨w5.heap.size + 2, 0, none⟩) 3 3] 22)) ⟨some ⟨w5.heap.size + 1, 0, none⟩, 1, 1, [7]⟩ := (by have h := lit_ok (w5.alloc (.cells #[.int .i64 1, .slice sb sm sd, .slice rb 1 rd, .int .i64 0] 33)) [7] (unhide HB7) (by decide); have h2 := (h.later (below_alloc _ (.cells #[.int .u8 1, .int .u8 2, .int .u8 3] 5))).later (below_alloc _ (.cells #[.slice (some ⟨w5.heap.size + 2, 0, none⟩) 3 3] 22)); simpa [U8] using h2)
       have l3 : Sl.Ok ((((w5.alloc (.cells #[.int .i64 1, .slice sb sm sd, .slice rb 1 rd, .int .i64 0] 33)).alloc (.cells #[.int .u8 7] 5)).alloc (.cells #[.int .u8 1, .int .u8 2, .int .u8 3] 5)).alloc (.cells #[.slice (some ⟨w5.heap.size + 2, 0, none⟩) 3 3] 22)) ⟨some ⟨w5.heap.size + 2, 0, none⟩, 3, 3, [1, 2, 3]⟩ := (by have h := lit_ok ((w5.alloc (.cells #[.int .i64 1, .slice sb sm sd, .slice rb 1 rd, .int .i64 0] 33)).alloc (.cells #[.int .u8 7] 5)) [1, 2, 3] (unhide HB3) (by decide); have h2 := h.later (below_alloc _ (.cells #[.slice (some ⟨w5.heap.size + 2, 0, none⟩) 3 3] 22)); simpa [U8] using h2)
       have lv : LiesV ((((w5.alloc (.cells #[.int .i64 1, .slice sb sm sd, .slice rb 1 rd, .int .i64 0] 33)).alloc (.cells #[.int .u8 7] 5)).alloc (.cells #[.int .u8 1, .int .u8 2, .int .u8 3] 5)).alloc (.cells #[.slice (some ⟨w5.heap.size + 2, 0, none⟩) 3 3] 22)) (some ⟨w5.heap.size + 3, 0, none⟩) [.slice (some ⟨w5.heap.size + 2, 0, none⟩) 3 3] := (by have h := liesV_new (((w5.alloc (.cells #[.int .i64 1, .slice sb sm sd, .slice rb 1 rd, .int .i64 0] 33)).alloc (.cells #[.int .u8 7] 5)).alloc (.cells #[.int .u8 1, .int .u8 2, .int .u8 3] 5)) 22 [.slice (some ⟨w5.heap.size + 2, 0, none⟩) 3 3]; simpa using h)
       have hIs := is_any 1 0 ⟨some ⟨w5.heap.size + 1, 0, none⟩, 1, 1, [7]⟩ ⟨sb, sm, sd, tl⟩ (some ⟨w5.heap.size + 3, 0, none⟩) rb 1 rd [⟨some ⟨w5.heap.size + 2, 0, none⟩, 3, 3, [1, 2, 3]⟩] (ys.map Rx.sl) ((((w5.alloc (.cells #[.int .i64 1, .slice sb sm sd, .slice rb 1 rd, .int .i64 0] 33)).alloc (.cells #[.int .u8 7] 5)).alloc (.cells #[.int .u8 1, .int .u8 2, .int .u8 3] 5)).alloc (.cells #[.slice (some ⟨w5.heap.size + 2, 0, none⟩) 3 3] 22)) l7 (hR5.sok.later u4) ⟨lv, fun q hq => by rw [List.mem_singleton.1 hq]; exact l3⟩ (hR5.rr.sls.later u4) (.inl (show 1 ≤ 1099511627776 by decide)) (.inl (fun q hq => by rw [List.mem_singleton.1 hq]; show 3 ≤ 1099511627776; decide)) (by simp) (by rw [List.length_map]; have h := congrArg List.length hR5.rl; rw [List.length_map] at h; rw [h]; simp)
       have hDt : decide ((⟨some ⟨w5.heap.size + 1, 0, none⟩, 1, 1, [7]⟩ : Sl).l = (⟨sb, sm, sd, tl⟩ : Sl).l ∧ [(⟨some ⟨w5.heap.size + 2, 0, none⟩, 3, 3, [1, 2, 3]⟩ : Sl)].map Sl.l = (ys.map Rx.sl).map Sl.l) = true := decide_eq_true ⟨hR5.sl.symm, by rw [rx_map, hR5.rl]; rfl⟩
       rw [hDt] at hIs
       have hyl : ys.length = 1 := (by have h := congrArg List.length hR5.rl; rw [List.length_map] at h; simpa using h)
       simp only [Sl.v, List.length_cons, List.length_nil, List.length_map, hyl, Nat.zero_add] at hIs
       have A5 := ((Arr.new w5 33 [.int .i64 1, .slice sb sm sd, .slice rb 1 rd, .int .i64 0]).later (below_alloc _ (.cells #[.int .u8 7] 5))).later (below_alloc _ (.cells #[.int .u8 1, .int .u8 2, .int .u8 3] 5))
       have HA5 := hide (A5.later (below_alloc _ (.cells #[.slice (some ⟨w5.heap.size + 2, 0, none⟩) 3 3] 22)))
       have b5 := k5.belJ (unhide HB4) (unhide HB4).size (unhide HS4)
       have HB5 := hide (bel_then b5 b5.size u4)
       clear k5 hR5 u1 u2 u3 u4 l7 l3 lv hDt hyl A5 b5)
    | (go_at_call 16; refine hN.mono ?_; rintro e w1 ⟨p, S, rfl, h1, h2, h3⟩; clear hN
       have hM := format_any p S _ ⟨some ⟨w1.heap.size, 0, none⟩, 1, 1, [7]⟩ (w1.alloc (.cells #[.int .u8 7] 5)) (h1.later (below_alloc w1 _)) (lit_ok w1 [7] (unhide HB7) (by decide)) (show 1 ≤ 140737488351232 by decide) (by rw [new512]; decide)
       simp only [Sl.v] at hM
       rw [(unhide HF1).1] at hM
       have HB1 := hide (bel_then h3 h3.size (below_alloc w1 (.cells #[.int .u8 7] 5)))
       have HS := hide h2
       clear h1 h2 h3)
    | (go_at_call 17; refine hM.mono ?_; rintro e w2 ⟨rfl, S2, k2⟩; clear hM
       have hO := jopen_quiet p S2 s1 ⟨0, 1, 0⟩ [7] [] w2 k2.fl (unhide HF1).2.1 (unhide HF1).2.2.1 (by have := (unhide HF1).2.2.2.1; omega)
       simp only [List.length_nil, Int.cast_ofNat_Int] at hO
       have HB2 := hide (k2.belJ (unhide HB1) (unhide HB1).size (unhide HS))
       have HS2 := hide (k2.aboveJ (unhide HB1).size (unhide HS))
       clear k2)
    | (go_at_call 10; refine hO.mono ?_; rintro e w3 ⟨s3, S3, jp, sa, sn, sc, ra, rc, xs, sl, rfl, k3, hJ3, hjp, hjs, hR3, i3, q3, r3, z3⟩; clear hO
       obtain ⟨s4, e4, i4, q4, r4⟩ := app3 i3 k3.fl.ok q3 (by rw [z3]; exact (unhide HF1).2.2.2.2)
       have bx := below_alloc w3 (.cells #[.int .i64 1, .slice sa sn sc, .slice ra 0 rc, .int .i64 0] 33)
       have by_ := bel_then bx bx.size (below_alloc (w3.alloc (.cells #[.int .i64 1, .slice sa sn sc, .slice ra 0 rc, .int .i64 0] 33)) (.cells #[.int .u8 1, .int .u8 2, .int .u8 3] 5))
       have hA := jappend_any p jp S3 s3 (some ⟨0, 1, 0⟩) ⟨some ⟨w3.heap.size + 1, 0, none⟩, 3, 3, [1, 2, 3]⟩ ((w3.alloc (.cells #[.int .i64 1, .slice sa sn sc, .slice ra 0 rc, .int .i64 0] 33)).alloc (.cells #[.int .u8 1, .int .u8 2, .int .u8 3] 5)) (k3.fl.later by_) ((by_.block jp hJ3.lt).trans hJ3) hjs (i3.jok k3.fl.ok) (by have h := lit_ok (w3.alloc (.cells #[.int .i64 1, .slice sa sn sc, .slice ra 0 rc, .int .i64 0] 33)) [1, 2, 3] (unhide HB3) (by decide); simpa [U8] using h) (by have := (unhide HF1).2.2.2.1; omega)
       simp only [Sl.v] at hA
       rw [e4] at hA
       have b3 := k3.belJ (unhide HB2) (unhide HB2).size (unhide HS2)
       have HB3' := hide (bel_then b3 b3.size by_)
       have HS3 := hide (k3.aboveJ (unhide HB2).size (unhide HS2))
       have HI4 : Hid (JI s4 ⟨0, 1, 1⟩ [7] [[1, 2, 3]] ∧ s4.q = [] ∧ s4.wr ≤ 20) := hide ⟨i4, q4, by have := (unhide HF1).2.2.2.1; omega⟩
       have HJP : Hid (w.heap.size ≤ jp) := hide (Nat.le_trans (unhide HB2).size hjp)
       clear k3 hJ3 hjs hR3 i3 q3 r3 z3 e4 i4 q4 r4 bx by_ b3 hjp)
    | (go_at_call 21; refine hA.mono ?_; rintro e w4 ⟨rfl, S4, k4⟩; clear hA
       have hO2 := jopen_quiet p S4 s4 ⟨0, 1, 1⟩ [7] [[1, 2, 3]] w4 k4.fl (unhide HI4).1 (unhide HI4).2.1 (by have := (unhide HI4).2.2; omega)
       simp only [List.length_cons, List.length_nil, Int.cast_ofNat_Int, Nat.zero_add] at hO2
       have HB4 := hide (k4.belJ (unhide HB3') (unhide HB3').size (unhide HS3) (unhide HJP))
       have HS4 := hide (k4.aboveJ (unhide HB3').size (unhide HS3))
       clear k4))
  go_ret
  exact ⟨rfl, unhide HB6⟩
end Go.Proofs.Ytonpikdpclpkiaa
