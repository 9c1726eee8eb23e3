import Derived.Test.YtonpikdpclpkiaaQGaB
set_option linter.unusedVariables false
namespace Go.Proofs.Ytonpikdpclpkiaa
open Go.RowKit

theorem freshJ {w : World} {Z : Nat → Prop} {c : Sl} (hc : c.Ok w) (hz : Sepd Z c) : (⟨c, none, 0, []⟩ : Hd).Ok w Z :=
  ⟨hc, ⟨fun h => absurd h (by simp), fun s hs => absurd hs (by simp)⟩, fun _ => rfl, hz, fun h => absurd h (by simp), fun p hp => absurd hp (by simp)⟩
set_option maxHeartbeats 4000000 in
set_option maxRecDepth 100000 in
/-- a Compact that is done -/
theorem kept_compact_ok (p jp : Nat) (S : Nat → Prop) (s s' : FlS) (j : JS) (o' : Option JS) (h : Hd) (x y : Int) (d c : Sl) (w : World) (hf : Fl w p S s) (hj : Jn w jp p (some j)) (he : j.ep ≤ 9223372036854775807) (hjS : ¬ S jp) (hjo : JOk s (some j)) (hd : c.Ok w) (hdn : c.n ≤ 140737488351232) (hdz : Sepd (fun k => S k ∨ k = jp) c) (hw : s.wr + 1 < 4000000000000000000) (hh : h.Ok w (fun k => S k ∨ k = jp)) (hA : s.jcompact (some j) c.l 0 = (s', o', 0)) :
    Calls Try.prog 24 #[.pointer (some ⟨jp, 0, none⟩), h.v, .agg #[.int .i64 4, d.v, c.v, .int .i64 x, .int .i64 y]] w fun e w' => ∃ mv S', e = .returned (.tuple #[mv, .bool false]) ∧ KpM w (fun k => S' k ∨ k = jp) mv [⟨c, none, 0, []⟩] w' ∧ JSt p jp S s' o' w w' S' := by
  have hlt : ∀ k, (S k ∨ k = jp) → k < w.heap.size := by
    rintro k (hk | rfl)
    · obtain ⟨v0, v1, qv, hF, rfl⟩ := hf; exact hF.lt k hk
    · exact hj.lt
  obtain ⟨⟨sa, sn, sc, sl⟩, ra, rc, ps⟩ := h
  obtain ⟨da, dn, dc, dl⟩ := d
  obtain ⟨ca, cn, cc, cl⟩ := c
  obtain ⟨n, hn⟩ : ∃ n, n = ps.length := ⟨_, rfl⟩
  simp only [Hd.v, Sl.v]
  rw [← hn]
  obtain ⟨W0, hW0⟩ : ∃ W, W = (w.alloc (.cells #[.slice sa sn sc, .slice ra n rc] 39)).alloc (.cells #[.int .i64 4, .slice da dn dc, .slice ca cn cc, .int .i64 x, .int .i64 y] 29) := ⟨_, rfl⟩
  have B0 : Below w.heap.size w W0 := by rw [hW0]; exact bel_then (below_alloc w _) (below_alloc w _).size (below_alloc _ _)
  have A1 : Arr W0 w.heap.size 39 [.slice sa sn sc, .slice ra n rc] := by rw [hW0]; exact (Arr.new w _ [.slice sa sn sc, .slice ra n rc]).later (below_alloc _ _)
  have A2 : Arr W0 (w.heap.size + 1) 29 [.int .i64 4, .slice da dn dc, .slice ca cn cc, .int .i64 x, .int .i64 y] := by
    have h := Arr.new (w.alloc (.cells #[.slice sa sn sc, .slice ra n rc] 39)) 29 [.int .i64 4, .slice da dn dc, .slice ca cn cc, .int .i64 x, .int .i64 y]
    rw [hW0]
    simpa using h
  obtain ⟨W1, hW1⟩ : ∃ W, W = W0.alloc (.cells #[.slice sa sn sc, .slice ra n rc] 39) := ⟨_, rfl⟩
  have B01 : Below W0.heap.size W0 W1 := by rw [hW1]; exact below_alloc _ _
  have B1 : Below w.heap.size w W1 := bel_then B0 B0.size B01
  have hE := jepoch_any jp p j W0 ((B0.block jp hj.lt).trans hj) he
  have hP := jCompact_any p jp S s (some j) ⟨ca, cn, cc, cl⟩ W1 (hf.later B1) ((B1.block jp hj.lt).trans hj) hjS hjo (hd.later B1) hdn hw
  rw [hA] at hP
  have HA1 := hide (A1.later B01)
  have HA2 := hide (A2.later B01)
  have HW0 := hide hW0
  have HW1 := hide hW1
  have HB1 := hide B1
  have HN := hide hn
  have HH := hide (hh.later B1)
  have HD := hide (hd.later B1)
  have HZ := hide hdz
  have HL := hide hlt
  have HJ0 := hide (JSt.below hf hj B1)
  clear hW0 hW1 B0 B01 B1 A1 A2 hn hh hf hj hlt hA hd hdz hjo
  go_enter Try.func24, Try.ntmps24
  go_wp2_with (first
    | (go_at_call 19; rw [← unhide HW0]; refine hE.mono ?_; rintro e w' ⟨rfl, hw'⟩; subst hw'; rw [unhide HW0]; clear hE)
    | (go_at_call 22; rw [← unhide HW0, ← unhide HW1]; refine hP.mono ?_; rintro e w2 ⟨rfl, S2, k2⟩; clear hP
       have k2 : JSt p jp S s' o' W1 w2 S2 := k2
       have hz2 : ∀ k, (S2 k ∨ k = jp) → (S k ∨ k = jp) ∨ W1.heap.size ≤ k := fun k hk => hk.elim (fun h => (k2.at_ k h).imp .inl id) (fun h => .inl (.inr h))
       have A1' := k2.but.arr (unhide HA1) (fun hz => absurd (unhide HL _ hz) (by omega))
       have A2' := k2.but.arr (unhide HA2) (fun hz => absurd (unhide HL _ hz) (by omega))
       have c0 := A1'.cell 0
       have c1 := A1'.cell 1
       have d1 := A2'.cell 2
       simp at c0 c1 d1
       have ok2 := (unhide HH).keep k2.but hz2
       have HK2 := hide k2
       have HO2 := hide ok2
       have HZ2 := hide hz2
       clear k2 A1' A2' ok2 hz2))
  go_ret2
  have k2 := unhide HK2
  have hlt2 := fl_ltJ k2.fl k2.jn
  have hx := kp_one (w := w) (w3 := w2) (Z := fun k => S2 k ∨ k = jp) ⟨⟨ca, cn, cc, cl⟩, none, 0, []⟩ hlt2 (Nat.le_trans (unhide HB1).size k2.but.size) (freshJ (k2.but.ok (unhide HD) (unhide HZ)) ((unhide HZ).to (unhide HD) (unhide HZ2)))
  exact ⟨_, S2, rfl, hx, ((unhide HJ0).trans k2).trans (JSt.below k2.fl k2.jn (below_alloc _ _))⟩
set_option maxHeartbeats 4000000 in
set_option maxRecDepth 100000 in
/-- a Compact that is not done: refused, or cut off -/
theorem kept_compact_no (p jp : Nat) (S : Nat → Prop) (s s' : FlS) (j : JS) (o' : Option JS) (h : Hd) (r x y : Int) (d c : Sl) (w : World) (hf : Fl w p S s) (hj : Jn w jp p (some j)) (he : j.ep ≤ 9223372036854775807) (hjS : ¬ S jp) (hjo : JOk s (some j)) (hd : c.Ok w) (hdn : c.n ≤ 140737488351232) (hdz : Sepd (fun k => S k ∨ k = jp) c) (hw : s.wr + 1 < 4000000000000000000) (hh : h.Ok w (fun k => S k ∨ k = jp)) (hA : s.jcompact (some j) c.l 0 = (s', o', r)) (hr : r ≠ 0) :
    Calls Try.prog 24 #[.pointer (some ⟨jp, 0, none⟩), h.v, .agg #[.int .i64 4, d.v, c.v, .int .i64 x, .int .i64 y]] w fun e w' => ∃ mv S', e = .returned (.tuple #[mv, .bool (r == 121)]) ∧ KpM w (fun k => S' k ∨ k = jp) mv [h, ⟨c, none, 0, []⟩] w' ∧ JSt p jp S s' o' w w' S' := by
  obtain ⟨i1, hi1, hy0, hy1, hy2⟩ := info_parts Try.infoHj
  have hlt := fl_ltJ hf hj
  obtain ⟨⟨sa, sn, sc, sl⟩, ra, rc, ps⟩ := h
  obtain ⟨da, dn, dc, dl⟩ := d
  obtain ⟨ca, cn, cc, cl⟩ := c
  obtain ⟨n, hn⟩ : ∃ n, n = ps.length := ⟨_, rfl⟩
  simp only [Hd.v, Sl.v]
  rw [← hn]
  obtain ⟨W0, hW0⟩ : ∃ W, W = (w.alloc (.cells #[.slice sa sn sc, .slice ra n rc] 39)).alloc (.cells #[.int .i64 4, .slice da dn dc, .slice ca cn cc, .int .i64 x, .int .i64 y] 29) := ⟨_, rfl⟩
  have B0 : Below w.heap.size w W0 := by rw [hW0]; exact bel_then (below_alloc w _) (below_alloc w _).size (below_alloc _ _)
  have A1 : Arr W0 w.heap.size 39 [.slice sa sn sc, .slice ra n rc] := by rw [hW0]; exact (Arr.new w _ [.slice sa sn sc, .slice ra n rc]).later (below_alloc _ _)
  have A2 : Arr W0 (w.heap.size + 1) 29 [.int .i64 4, .slice da dn dc, .slice ca cn cc, .int .i64 x, .int .i64 y] := by
    have h := Arr.new (w.alloc (.cells #[.slice sa sn sc, .slice ra n rc] 39)) 29 [.int .i64 4, .slice da dn dc, .slice ca cn cc, .int .i64 x, .int .i64 y]
    rw [hW0]
    simpa using h
  obtain ⟨W1, hW1⟩ : ∃ W, W = W0.alloc (.cells #[.slice sa sn sc, .slice ra n rc] 39) := ⟨_, rfl⟩
  have B01 : Below W0.heap.size W0 W1 := by rw [hW1]; exact below_alloc _ _
  have B1 : Below w.heap.size w W1 := bel_then B0 B0.size B01
  have z0 : W0.heap.size = w.heap.size + 1 + 1 := by rw [hW0]; simp
  have z1 : W1.heap.size = w.heap.size + 1 + 1 + 1 := by rw [hW1]; simp [z0]
  have R1 : W1.ownsRow w.heap.size 39 2 (.slice (some ⟨w.heap.size + 1 + 1, 0, none⟩) 1 1) 1 [.slice sa sn sc, .slice ra n rc] := by
    have h := row_oneJ (B := w.heap.size) (W := W0) ⟨⟨sa, sn, sc, sl⟩, ra, rc, ps⟩ B0.size
    simp only [Sl.v, Hd.cells, z0] at h
    rw [← hn, ← hW1] at h
    exact h
  have hE := jepoch_any jp p j W0 ((B0.block jp hj.lt).trans hj) he
  have hP := jCompact_any p jp S s (some j) ⟨ca, cn, cc, cl⟩ W1 (hf.later B1) ((B1.block jp hj.lt).trans hj) hjS hjo (hd.later B1) hdn hw
  rw [hA] at hP
  have hup : ∀ k, ((S k ∨ k = jp) ∨ w.heap.size ≤ k ∧ k < W1.heap.size) → (S k ∨ k = jp) ∨ w.heap.size ≤ k := fun k hk => hk.imp id And.left
  have HA1 := hide (A1.later B01)
  have HA2 := hide (A2.later B01)
  have HW0 := hide hW0
  have HW1 := hide hW1
  have HB1 := hide B1
  have HN := hide hn
  have HR1 := hide R1
  have HS1 := hide z1
  have HH := hide ((hh.keep (Buts.refl _ _) hup).later B1)
  have HD := hide (hd.later B1)
  have HZ := hide (hdz.to hd hup)
  have HL := hide hlt
  have HJ0 := hide (JSt.below hf hj B1)
  clear hW0 hW1 B0 B01 B1 A1 A2 R1 z0 z1 hn hh hf hj hlt hA hd hdz hjo hup
  go_enter Try.func24, Try.ntmps24
  go_wp2_with (first
    | (at_builtin; refine wpList_append_own_at rfl _ _ 50 rfl w.heap.size 39 i1 (.agg #[.slice none 0 0, .slice none 0 0]) 2 48 Try.underlying50 hi1 hy0 hy1 hy2 rfl (by decide) (.slice (some ⟨w.heap.size + 1 + 1, 0, none⟩) 1 1) 1 [.slice sa sn sc, .slice ra n rc] rfl (unhide HR4) ⟨w2.heap.size, 0, none⟩ 1 1 [.slice ca cn cc, .slice none 0 0] rfl rfl (unhide HNW) (by intro u hu; simp at hu; rcases hu with rfl | rfl <;> rfl) (by unfold maxLen; omega) (by omega) (unhide HSZ) ?_; intro v4 w4 hown4 hgrow4 hat4)
    | (go_at_call 19; rw [← unhide HW0]; refine hE.mono ?_; rintro e w' ⟨rfl, hw'⟩; subst hw'; rw [unhide HW0]; clear hE)
    | (go_at_call 22; rw [← unhide HW0, ← unhide HW1]; refine hP.mono ?_; rintro e w2 ⟨rfl, S2, k2⟩; clear hP
       have k2 : JSt p jp S s' o' W1 w2 S2 := k2
       have hS1 := unhide HS1
       have hz2 : ∀ k, ((S2 k ∨ k = jp) ∨ w.heap.size ≤ k ∧ k < W1.heap.size) → ((S k ∨ k = jp) ∨ w.heap.size ≤ k ∧ k < W1.heap.size) ∨ W1.heap.size ≤ k := fun k hk => hk.elim (fun h => h.elim (fun h => (k2.at_ k h).imp (fun h => .inl (.inl h)) id) (fun h => .inl (.inl (.inr h)))) (fun h => .inl (.inr h))
       have hb2 := k2.but.mono (T := fun k => (S k ∨ k = jp) ∨ w.heap.size ≤ k ∧ k < W1.heap.size) (fun k _ h => .inl h)
       have A1' := k2.but.arr (unhide HA1) (fun hz => absurd (unhide HL _ hz) (by omega))
       have A2' := k2.but.arr (unhide HA2) (fun hz => absurd (unhide HL _ hz) (by omega))
       have R2 := k2.but.own (unhide HR1) (fun k hk hz => absurd (unhide HL _ hz) (by simp only [Value.ownBlock, Option.some.injEq] at hk; omega))
       have c0 := A1'.cell 0
       have c1 := A1'.cell 1
       have d1 := A2'.cell 2
       simp at c0 c1 d1
       have ok2 := (unhide HH).keep hb2 hz2
       have HK2 := hide k2
       have HO2 := hide ok2
       have HD2 := hide (hb2.ok (unhide HD) (unhide HZ))
       have HZ2 := hide ((unhide HZ).to (unhide HD) hz2)
       have HR2 := hide R2
       clear k2 A1' A2' ok2 hz2 hb2 R2 hS1
       have HR4 : Hid ((w2.alloc (.cells #[.slice ca cn cc, .slice none 0 0] 39)).ownsRow w.heap.size 39 2 (.slice (some ⟨w.heap.size + 1 + 1, 0, none⟩) 1 1) 1 [.slice sa sn sc, .slice ra n rc]) := hide (own_laterG (unhide HR2) (below_alloc w2 _))
       have HNW : Hid (∀ j u, [Value.slice ca cn cc, .slice none 0 0][j]? = some u → (w2.alloc (.cells #[.slice ca cn cc, .slice none 0 0] 39)).cell? ((⟨w2.heap.size, 0, none⟩ : Addr).add j) = some u) := hide (fun j u hu => by
         have A : Arr (w2.alloc (.cells #[.slice ca cn cc, .slice none 0 0] 39)) w2.heap.size 39 [.slice ca cn cc, .slice none 0 0] := Arr.new w2 _ _
         rw [addr_add, Nat.zero_add, A.cell j, hu])
       have HSZ : Hid (w.heap.size ≤ (w2.alloc (.cells #[.slice ca cn cc, .slice none 0 0] 39)).heap.size) := hide (Nat.le_trans (Nat.le_trans (unhide HB1).size (unhide HK2).but.size) (below_alloc w2 _).size)))
  go_ret2
  have k2 := unhide HK2
  have hS1 := unhide HS1
  have hN := unhide HN
  have hlt2 := fl_ltJ k2.fl k2.jn
  have hjl := unhide HL jp (.inr rfl)
  have hlt3 : ∀ k, ((S2 k ∨ k = jp) ∨ w.heap.size ≤ k ∧ k < W1.heap.size) → k < w2.heap.size := fun k hk => hk.elim (hlt2 k) (fun h => Nat.lt_of_lt_of_le h.2 k2.but.size)
  have bw := below_alloc w2 (.cells #[.slice ca cn cc, .slice none 0 0] 39)
  have okA := (unhide HO2).later bw
  have okB := (freshJ (unhide HD2) (unhide HZ2)).later bw
  have hfar : ¬ (S2 (w.heap.size + 1 + 1) ∨ w.heap.size + 1 + 1 = jp) := by
    rintro (h | h)
    · rcases k2.at_ _ h with h1 | h1
      · have := unhide HL _ (.inl h1); omega
      · omega
    · omega
  have hv : ∀ k, v4.ownBlock = some k → ¬ (S2 k ∨ k = jp) := by
    intro k hk hz
    rcases unhide hat4 with h | h
    · rw [h] at hk
      simp only [Value.ownBlock, Option.some.injEq] at hk
      subst hk
      exact hfar hz
    · rw [h] at hk
      have h1 := hlt2 k hz
      have h2 := bw.size
      simp only [Option.some.injEq] at hk
      omega
  have hx := kp_app (w := w) (Z := fun k => S2 k ∨ k = jp) (Z2 := fun k => (S2 k ∨ k = jp) ∨ w.heap.size ≤ k ∧ k < W1.heap.size) (hs := [⟨⟨sa, sn, sc, sl⟩, ra, rc, ps⟩, ⟨⟨ca, cn, cc, cl⟩, none, 0, []⟩]) (by simpa [Hd.cells, Hd.more, Sl.v, ← hN] using unhide hown4) (unhide hgrow4) (fun k hk => .inr (by simp only [Value.ownBlock, Option.some.injEq] at hk; omega)) (by intro h hm; simp only [List.mem_cons, List.not_mem_nil, or_false] at hm; rcases hm with rfl | rfl; exact okA; exact okB) (fun k h => .inl h) hv
  exact ⟨_, S2, rfl, hx, (((unhide HJ0).trans k2).trans (JSt.below k2.fl k2.jn bw)).grown (unhide hgrow4) (fun k hk => by simp only [Value.ownBlock, Option.some.injEq] at hk; subst hk; exact ⟨by omega, hfar⟩)⟩
end Go.Proofs.Ytonpikdpclpkiaa

set_option linter.unusedVariables false
namespace Go.Proofs.Ytonpikdpclpkiaa
open Go.RowKit

set_option maxHeartbeats 4000000 in
set_option maxRecDepth 100000 in
/-- a Keep that is done, in the same epoch -/
theorem kept_keep_same (p jp : Nat) (S : Nat → Prop) (s s' : FlS) (j : JS) (j' : JS) (h : Hd) (x y : Int) (d c : Sl) (w : World) (hf : Fl w p S s) (hj : Jn w jp p (some j)) (he : j.ep ≤ 9223372036854775807) (hjS : ¬ S jp) (hjo : JOk s (some j)) (hd : d.Ok w) (hdz : Sepd (fun k => S k ∨ k = jp) d) (hc : c.Ok w) (hcn : c.n ≤ 140737488351232) (hcz : Sepd (fun k => S k ∨ k = jp) c) (hjc : j.cnt < 1000000000) (hw : s.wr + 4 < 4000000000000000000) (hl : h.ps.length ≤ 200000) (hh : h.Ok w (fun k => S k ∨ k = jp)) (hA : s.jkeep (some j) d.l c.l = (s', some j', 0)) (he' : j'.ep ≤ 9223372036854775807) (hep : j'.ep = j.ep) :
    Calls Try.prog 24 #[.pointer (some ⟨jp, 0, none⟩), h.v, .agg #[.int .i64 5, d.v, c.v, .int .i64 x, .int .i64 y]] w fun e w' => ∃ mv S' g c, e = .returned (.tuple #[mv, .bool false]) ∧ KpM w (fun k => S' k ∨ k = jp) mv [h.more g c d] w' ∧ JSt p jp S s' (some j') w w' S' ∧ w.heap.size ≤ g := by
  have hlt : ∀ k, (S k ∨ k = jp) → k < w.heap.size := by
    rintro k (hk | rfl)
    · obtain ⟨v0, v1, qv, hF, rfl⟩ := hf; exact hF.lt k hk
    · exact hj.lt
  obtain ⟨⟨sa, sn, sc, sl⟩, ra, rc, ps⟩ := h
  obtain ⟨da, dn, dc, dl⟩ := d
  obtain ⟨ca, cn, cc, cl⟩ := c
  obtain ⟨n, hn⟩ : ∃ n, n = ps.length := ⟨_, rfl⟩
  simp only [Hd.v, Sl.v]
  rw [← hn]
  obtain ⟨W0, hW0⟩ : ∃ W, W = (w.alloc (.cells #[.slice sa sn sc, .slice ra n rc] 39)).alloc (.cells #[.int .i64 5, .slice da dn dc, .slice ca cn cc, .int .i64 x, .int .i64 y] 29) := ⟨_, rfl⟩
  have B0 : Below w.heap.size w W0 := by rw [hW0]; exact bel_then (below_alloc w _) (below_alloc w _).size (below_alloc _ _)
  have A1 : Arr W0 w.heap.size 39 [.slice sa sn sc, .slice ra n rc] := by rw [hW0]; exact (Arr.new w _ [.slice sa sn sc, .slice ra n rc]).later (below_alloc _ _)
  have A2 : Arr W0 (w.heap.size + 1) 29 [.int .i64 5, .slice da dn dc, .slice ca cn cc, .int .i64 x, .int .i64 y] := by
    have h := Arr.new (w.alloc (.cells #[.slice sa sn sc, .slice ra n rc] 39)) 29 [.int .i64 5, .slice da dn dc, .slice ca cn cc, .int .i64 x, .int .i64 y]
    rw [hW0]
    simpa using h
  obtain ⟨W1, hW1⟩ : ∃ W, W = W0.alloc (.cells #[.slice sa sn sc, .slice ra n rc] 39) := ⟨_, rfl⟩
  have B01 : Below W0.heap.size W0 W1 := by rw [hW1]; exact below_alloc _ _
  have B1 : Below w.heap.size w W1 := bel_then B0 B0.size B01
  have hE := jepoch_any jp p j W0 ((B0.block jp hj.lt).trans hj) he
  have hP := jkeep_any p jp S s (some j) ⟨da, dn, dc, dl⟩ ⟨ca, cn, cc, cl⟩ W1 (hf.later B1) ((B1.block jp hj.lt).trans hj) hjS hjo (fun j0 e => by cases e; exact hjc) (hd.later B1) (hc.later B1) hcn hdz hcz hw
  rw [hA] at hP
  have HA1 := hide (A1.later B01)
  have HA2 := hide (A2.later B01)
  have HW0 := hide hW0
  have HW1 := hide hW1
  have HB1 := hide B1
  have HN := hide hn
  have HH := hide (hh.later B1)
  have HD := hide (hd.later B1)
  have HZ := hide hdz
  have HC := hide (hc.later B1)
  have HCZ := hide hcz
  have HL := hide hlt
  have HJ0 := hide (JSt.below hf hj B1)
  clear hc hcz hW0 hW1 B0 B01 B1 A1 A2 hn hh hf hj hlt hA hd hdz hjo
  go_enter Try.func24, Try.ntmps24
  go_wp2_with (first
    | (go_at_call 19; first
       | (rw [← unhide HW0]; refine hE.mono ?_; rintro e w' ⟨rfl, hw'⟩; subst hw'; rw [unhide HW0]; clear hE)
       | (refine hE2.mono ?_; rintro e w5 ⟨rfl, hw5⟩; subst hw5; clear hE2))
    | (go_at_call 23; rw [← unhide HW0, ← unhide HW1]; refine hP.mono ?_; rintro e w2 ⟨rfl, S2, k2⟩; clear hP
       have k2 : JSt p jp S s' (some j') W1 w2 S2 := k2
       have hz2 : ∀ k, (S2 k ∨ k = jp) → (S k ∨ k = jp) ∨ W1.heap.size ≤ k := fun k hk => hk.elim (fun h => (k2.at_ k h).imp .inl id) (fun h => .inl (.inr h))
       have A1' := k2.but.arr (unhide HA1) (fun hz => absurd (unhide HL _ hz) (by omega))
       have A2' := k2.but.arr (unhide HA2) (fun hz => absurd (unhide HL _ hz) (by omega))
       have c0 := A1'.cell 0
       have c1 := A1'.cell 1
       have d1 := A2'.cell 1
       have d2 := A2'.cell 2
       simp at c0 c1 d1 d2
       have ok2 := (unhide HH).keep k2.but hz2
       have bn := below_alloc w2 (.cells #[.slice ca cn cc, .slice none 0 0] 39)
       have e0 := (A1'.later bn).cell 0
       have e1 := (A1'.later bn).cell 1
       have g1 := (A2'.later bn).cell 1
       simp at e0 e1 g1
       have hE2 := jepoch_any jp p j' (w2.alloc (.cells #[.slice ca cn cc, .slice none 0 0] 39)) ((bn.block jp k2.jn.lt).trans k2.jn) he'
       rw [hep] at hE2
       have dk2 := k2.but.ok (unhide HD) (unhide HZ)
       have ck2 := k2.but.ok (unhide HC) (unhide HCZ)
       have hWt := with_any ⟨sa, sn, sc, sl⟩ ra rc ps ⟨da, dn, dc, dl⟩ (w2.alloc (.cells #[.slice ca cn cc, .slice none 0 0] 39)) (ok2.later bn).s (ok2.later bn).r ok2.n (dk2.later bn) hl
       simp only [Sl.v] at hWt
       rw [← unhide HN] at hWt
       have HD2 := hide (dk2.later bn)
       have HC2 := hide (ck2.later bn)
       have HDZ2 := hide ((unhide HZ).to (unhide HD) hz2)
       have HCZ2 := hide ((unhide HCZ).to (unhide HC) hz2)
       have HBN := hide bn
       have HK2 := hide k2
       have HO2 := hide ok2
       have HZ2 := hide hz2
       clear k2 A1' A2' ok2 hz2 dk2 ck2 bn)
    | (go_at_call 47; refine hWt.mono ?_; rintro e w3 ⟨g, c3, rfl, o3, b3⟩; clear hWt; have HO3 := hide o3; have HB3 := hide b3; clear o3 b3))
  go_ret2
  have hb3 := unhide HB3
  have hbn := unhide HBN
  have k2 := unhide HK2
  have hlt2 : ∀ k, (S2 k ∨ k = jp) → k < (w2.alloc (.cells #[.slice ca cn cc, .slice none 0 0] 39)).heap.size := fun k hk => Nat.lt_of_lt_of_le (fl_ltJ k2.fl k2.jn k hk) hbn.size
  have hx := kp_one (w := w) (w3 := w3) (Z := fun k => S2 k ∨ k = jp) ((⟨⟨sa, sn, sc, sl⟩, ra, rc, ps⟩ : Hd).more g c3 ⟨da, dn, dc, dl⟩) (fun k hk => Nat.lt_of_lt_of_le (hlt2 k hk) hb3.size) (Nat.le_trans (unhide HB1).size (Nat.le_trans k2.but.size (Nat.le_trans hbn.size hb3.size))) (((unhide HO2).later hbn).more (unhide HD2) (unhide HDZ2) (by simp only; rw [← unhide HN]; exact unhide HO3) hb3 hlt2)
  simp only [Hd.more, Sl.v, List.length_append, List.length_singleton] at hx
  rw [← unhide HN] at hx
  exact ⟨_, S2, g, c3, rfl, hx, ((unhide HJ0).trans k2).trans (JSt.below k2.fl k2.jn (bel_then (bel_then hbn hbn.size hb3) (Nat.le_trans hbn.size hb3.size) (below_alloc _ _))), Nat.le_trans (unhide HB1).size (Nat.le_trans k2.but.size (Nat.le_trans hbn.size ((unhide HO3).lt g rfl).1))⟩
set_option maxHeartbeats 4000000 in
set_option maxRecDepth 100000 in
/-- a Keep that is done, in a new epoch -/
theorem kept_keep_new (p jp : Nat) (S : Nat → Prop) (s s' : FlS) (j : JS) (j' : JS) (h : Hd) (x y : Int) (d c : Sl) (w : World) (hf : Fl w p S s) (hj : Jn w jp p (some j)) (he : j.ep ≤ 9223372036854775807) (hjS : ¬ S jp) (hjo : JOk s (some j)) (hd : d.Ok w) (hdz : Sepd (fun k => S k ∨ k = jp) d) (hc : c.Ok w) (hcn : c.n ≤ 140737488351232) (hcz : Sepd (fun k => S k ∨ k = jp) c) (hjc : j.cnt < 1000000000) (hw : s.wr + 4 < 4000000000000000000) (hl : h.ps.length ≤ 200000) (hh : h.Ok w (fun k => S k ∨ k = jp)) (hA : s.jkeep (some j) d.l c.l = (s', some j', 0)) (he' : j'.ep ≤ 9223372036854775807) (hep : j'.ep ≠ j.ep) :
    Calls Try.prog 24 #[.pointer (some ⟨jp, 0, none⟩), h.v, .agg #[.int .i64 5, d.v, c.v, .int .i64 x, .int .i64 y]] w fun e w' => ∃ mv S' g c2, e = .returned (.tuple #[mv, .bool false]) ∧ KpM w (fun k => S' k ∨ k = jp) mv [(⟨c, none, 0, []⟩ : Hd).more g c2 d] w' ∧ JSt p jp S s' (some j') w w' S' ∧ w.heap.size ≤ g := by
  have hlt : ∀ k, (S k ∨ k = jp) → k < w.heap.size := by
    rintro k (hk | rfl)
    · obtain ⟨v0, v1, qv, hF, rfl⟩ := hf; exact hF.lt k hk
    · exact hj.lt
  obtain ⟨⟨sa, sn, sc, sl⟩, ra, rc, ps⟩ := h
  obtain ⟨da, dn, dc, dl⟩ := d
  obtain ⟨ca, cn, cc, cl⟩ := c
  obtain ⟨n, hn⟩ : ∃ n, n = ps.length := ⟨_, rfl⟩
  simp only [Hd.v, Sl.v]
  rw [← hn]
  obtain ⟨W0, hW0⟩ : ∃ W, W = (w.alloc (.cells #[.slice sa sn sc, .slice ra n rc] 39)).alloc (.cells #[.int .i64 5, .slice da dn dc, .slice ca cn cc, .int .i64 x, .int .i64 y] 29) := ⟨_, rfl⟩
  have B0 : Below w.heap.size w W0 := by rw [hW0]; exact bel_then (below_alloc w _) (below_alloc w _).size (below_alloc _ _)
  have A1 : Arr W0 w.heap.size 39 [.slice sa sn sc, .slice ra n rc] := by rw [hW0]; exact (Arr.new w _ [.slice sa sn sc, .slice ra n rc]).later (below_alloc _ _)
  have A2 : Arr W0 (w.heap.size + 1) 29 [.int .i64 5, .slice da dn dc, .slice ca cn cc, .int .i64 x, .int .i64 y] := by
    have h := Arr.new (w.alloc (.cells #[.slice sa sn sc, .slice ra n rc] 39)) 29 [.int .i64 5, .slice da dn dc, .slice ca cn cc, .int .i64 x, .int .i64 y]
    rw [hW0]
    simpa using h
  obtain ⟨W1, hW1⟩ : ∃ W, W = W0.alloc (.cells #[.slice sa sn sc, .slice ra n rc] 39) := ⟨_, rfl⟩
  have B01 : Below W0.heap.size W0 W1 := by rw [hW1]; exact below_alloc _ _
  have B1 : Below w.heap.size w W1 := bel_then B0 B0.size B01
  have hE := jepoch_any jp p j W0 ((B0.block jp hj.lt).trans hj) he
  have hP := jkeep_any p jp S s (some j) ⟨da, dn, dc, dl⟩ ⟨ca, cn, cc, cl⟩ W1 (hf.later B1) ((B1.block jp hj.lt).trans hj) hjS hjo (fun j0 e => by cases e; exact hjc) (hd.later B1) (hc.later B1) hcn hdz hcz hw
  rw [hA] at hP
  have HA1 := hide (A1.later B01)
  have HA2 := hide (A2.later B01)
  have HW0 := hide hW0
  have HW1 := hide hW1
  have HB1 := hide B1
  have HN := hide hn
  have HH := hide (hh.later B1)
  have HD := hide (hd.later B1)
  have HZ := hide hdz
  have HC := hide (hc.later B1)
  have HCZ := hide hcz
  have HL := hide hlt
  have HJ0 := hide (JSt.below hf hj B1)
  clear hc hcz hW0 hW1 B0 B01 B1 A1 A2 hn hh hf hj hlt hA hd hdz hjo
  have hepz : ¬ ((j'.ep : Int) = (j.ep : Int)) := by omega
  go_enter Try.func24, Try.ntmps24
  go_wp2_with (first
    | (go_at_call 19; first
       | (rw [← unhide HW0]; refine hE.mono ?_; rintro e w' ⟨rfl, hw'⟩; subst hw'; rw [unhide HW0]; clear hE)
       | (refine hE2.mono ?_; rintro e w5 ⟨rfl, hw5⟩; subst hw5; clear hE2))
    | (go_at_call 23; rw [← unhide HW0, ← unhide HW1]; refine hP.mono ?_; rintro e w2 ⟨rfl, S2, k2⟩; clear hP
       have k2 : JSt p jp S s' (some j') W1 w2 S2 := k2
       have hz2 : ∀ k, (S2 k ∨ k = jp) → (S k ∨ k = jp) ∨ W1.heap.size ≤ k := fun k hk => hk.elim (fun h => (k2.at_ k h).imp .inl id) (fun h => .inl (.inr h))
       have A1' := k2.but.arr (unhide HA1) (fun hz => absurd (unhide HL _ hz) (by omega))
       have A2' := k2.but.arr (unhide HA2) (fun hz => absurd (unhide HL _ hz) (by omega))
       have c0 := A1'.cell 0
       have c1 := A1'.cell 1
       have d1 := A2'.cell 1
       have d2 := A2'.cell 2
       simp at c0 c1 d1 d2
       have ok2 := (unhide HH).keep k2.but hz2
       have bn := below_alloc w2 (.cells #[.slice ca cn cc, .slice none 0 0] 39)
       have e0 := (A1'.later bn).cell 0
       have e1 := (A1'.later bn).cell 1
       have g1 := (A2'.later bn).cell 1
       simp at e0 e1 g1
       have hE2 := jepoch_any jp p j' (w2.alloc (.cells #[.slice ca cn cc, .slice none 0 0] 39)) ((bn.block jp k2.jn.lt).trans k2.jn) he'
       have dk2 := k2.but.ok (unhide HD) (unhide HZ)
       have ck2 := k2.but.ok (unhide HC) (unhide HCZ)
       have hfr := freshJ ck2 ((unhide HCZ).to (unhide HC) hz2)
       have hWt := with_any ⟨ca, cn, cc, cl⟩ none 0 [] ⟨da, dn, dc, dl⟩ (w2.alloc (.cells #[.slice ca cn cc, .slice none 0 0] 39)) (hfr.later bn).s (hfr.later bn).r hfr.n (dk2.later bn) (by simp)
       simp only [Sl.v, List.length_nil, List.map_nil, List.nil_append, Nat.zero_add] at hWt
       clear hfr
       have HD2 := hide (dk2.later bn)
       have HC2 := hide (ck2.later bn)
       have HDZ2 := hide ((unhide HZ).to (unhide HD) hz2)
       have HCZ2 := hide ((unhide HCZ).to (unhide HC) hz2)
       have HBN := hide bn
       have HK2 := hide k2
       have HO2 := hide ok2
       have HZ2 := hide hz2
       clear k2 A1' A2' ok2 hz2 dk2 ck2 bn)
    | (go_at_call 47; refine hWt.mono ?_; rintro e w3 ⟨g, c3, rfl, o3, b3⟩; clear hWt; have HO3 := hide o3; have HB3 := hide b3; clear o3 b3))
  go_ret2
  have hb3 := unhide HB3
  have hbn := unhide HBN
  have k2 := unhide HK2
  have hlt2 : ∀ k, (S2 k ∨ k = jp) → k < (w2.alloc (.cells #[.slice ca cn cc, .slice none 0 0] 39)).heap.size := fun k hk => Nat.lt_of_lt_of_le (fl_ltJ k2.fl k2.jn k hk) hbn.size
  have hx := kp_one (w := w) (w3 := w3) (Z := fun k => S2 k ∨ k = jp) ((⟨⟨ca, cn, cc, cl⟩, none, 0, []⟩ : Hd).more g c3 ⟨da, dn, dc, dl⟩) (fun k hk => Nat.lt_of_lt_of_le (hlt2 k hk) hb3.size) (Nat.le_trans (unhide HB1).size (Nat.le_trans k2.but.size (Nat.le_trans hbn.size hb3.size))) ((freshJ (unhide HC2) (unhide HCZ2)).more (unhide HD2) (unhide HDZ2) (by simpa [Sl.v] using unhide HO3) hb3 hlt2)
  simp only [Hd.more, Sl.v, List.nil_append, List.length_singleton] at hx
  exact ⟨_, S2, g, c3, rfl, hx, ((unhide HJ0).trans k2).trans (JSt.below k2.fl k2.jn (bel_then (bel_then hbn hbn.size hb3) (Nat.le_trans hbn.size hb3.size) (below_alloc _ _))), Nat.le_trans (unhide HB1).size (Nat.le_trans k2.but.size (Nat.le_trans hbn.size ((unhide HO3).lt g rfl).1))⟩
end Go.Proofs.Ytonpikdpclpkiaa
