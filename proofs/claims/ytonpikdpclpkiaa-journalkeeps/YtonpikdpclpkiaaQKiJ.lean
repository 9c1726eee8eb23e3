import Derived.Test.YtonpikdpclpkiaaQGaC
import Derived.Deep.RegionHeld3
import Derived.Deep.MidRow
set_option linter.unusedVariables false
namespace Go.Proofs.Ytonpikdpclpkiaa
open Go.RowKit

theorem blk_rangeJ {w : World} {g : Nat} {l : List Value} {t : TypeId} (h : Arr w g t l) : w.rangeAt g 0 l := by
  intro j v hv
  rw [cell_of_row w g (0 + j) _ t _ h]
  simpa using hv
theorem step_append_own_atJ {P : Program} {ops : Array Oper} {o : Oper} {a : Act} {w : World} {K : Act → World → Prop} {Q : Exit → Act → World → Prop} {E : Prop} (hgd : o.guard = none) (s x : Operand) (t : TypeId)
    (ho : o.op = .call { callee := .builtin .append, args := #[s, x], argTypes := #[t, t] })
    (base : Nat) (e : TypeId) (i : TypeInfo) (z : Value) (size bytes : Nat) (ht : P.underlying t = some (.slice e)) (hi : P.info? e = some i) (hz : i.zero = some z)
    (hsize : i.size = size) (hby : i.bytes = bytes) (hzs : z.cells.size = size) (hsz : 0 < size)
    (v : Value) (n : Nat) (xs : List Value) (hs : a.eval s = v) (hown : w.ownsRow base e size v n xs)
    (ad : Addr) (m c : Nat) (news : List Value) (hx : a.eval x = .slice (some ad) m c) (hl : news.length = m * size) (hnews : ∀ j u, news[j]? = some u → w.cell? (ad.add j) = some u) (h1 : ∀ u ∈ news, u.oneCell' = true)
    (h63 : n + m ≤ maxLen) (hbytes : (n + m) * bytes ≤ 140737488355328) (hbase : base ≤ w.heap.size)
    (h : ∀ v' w', w'.ownsRow base e size v' (n + m) (xs ++ news) → w.grownBy w' v.ownBlock → (v'.ownBlock = v.ownBlock ∨ v'.ownBlock = some w.heap.size) → K (a.put o.dst v') w') :
    if Region.wanted o (yielded ops a.tmps) = true then Oper.wp P o a w K Q else E := by
  have hw : Region.wanted o (yielded ops a.tmps) = true := by simp [Region.wanted, hgd]
  rw [if_pos hw]
  obtain ⟨v', w', hr, h2, h3, h4⟩ := run_append_own_at (P := P) w base t o.type e i z size bytes ht hi hz hsize hby hzs hsz v n xs hown ad m c news hl hnews h1 h63 hbytes hbase
  unfold Oper.wp execOp
  simp only [ho, resolve, invoke, builtin, Sem.run_bind, Sem.run_pure, Result.andThen_ok, List.map_toArray, List.map_cons, List.map_nil, hs, hx, hr]
  first | exact h v' w' h2 h3 h4 | exact h v' w' h2 h3 h4.2
set_option maxHeartbeats 4000000 in
set_option maxRecDepth 100000 in
/-- a Keep that is not done: refused, or cut off -/
theorem kept_keep_no (p jp : Nat) (S : Nat → Prop) (s s' : FlS) (j : JS) (o' : Option JS) (h : Hd) (r x y : Int) (d c : Sl) (w : World) (hf : Fl w p S s) (hj : Jn w jp p (some j)) (he : j.ep ≤ 9223372036854775807) (hjS : ¬ S jp) (hjo : JOk s (some j)) (hd : d.Ok w) (hdz : Sepd (fun k => S k ∨ k = jp) d) (hc : c.Ok w) (hcn : c.n ≤ 140737488351232) (hcz : Sepd (fun k => S k ∨ k = jp) c) (hjc : j.cnt < 1000000000) (hw : s.wr + 4 < 4000000000000000000) (hl : h.ps.length ≤ 200000) (hh : h.Ok w (fun k => S k ∨ k = jp)) (hA : s.jkeep (some j) d.l c.l = (s', o', r)) (hr : r ≠ 0) :
    Calls Try.prog 24 #[.pointer (some ⟨jp, 0, none⟩), h.v, .agg #[.int .i64 5, d.v, c.v, .int .i64 x, .int .i64 y]] w fun e w' => ∃ mv S' g1 c1 g2 c2, e = .returned (.tuple #[mv, .bool (r == 121)]) ∧ KpM w (fun k => S' k ∨ k = jp) mv [h, h.more g1 c1 d, ⟨c, none, 0, []⟩, (⟨c, none, 0, []⟩ : Hd).more g2 c2 d] w' ∧ JSt p jp S s' o' w w' S' ∧ w.heap.size ≤ g1 ∧ w.heap.size ≤ g2 := by
  obtain ⟨i1, hi1, hy0, hy1, hy2⟩ := info_parts Try.infoHj
  have hlt := fl_ltJ hf hj
  obtain ⟨⟨sa, sn, sc, sl⟩, ra, rc, ps⟩ := h
  obtain ⟨da, dn, dc, dl⟩ := d
  obtain ⟨ca, cn, cc, cl⟩ := c
  obtain ⟨n, hn⟩ : ∃ n, n = ps.length := ⟨_, rfl⟩
  simp only [Hd.v, Sl.v]
  rw [← hn]
  obtain ⟨W0, hW0⟩ : ∃ W, W = (w.alloc (.cells #[.slice sa sn sc, .slice ra n rc] 39)).alloc (.cells #[.int .i64 5, .slice da dn dc, .slice ca cn cc, .int .i64 x, .int .i64 y] 29) := ⟨_, rfl⟩
  have B0 : Below w.heap.size w W0 := by rw [hW0]; exact bel_then (below_alloc w _) (below_alloc w _).size (below_alloc _ _)
  have A1 : Arr W0 w.heap.size 39 [.slice sa sn sc, .slice ra n rc] := by rw [hW0]; exact (Arr.new w _ [.slice sa sn sc, .slice ra n rc]).later (below_alloc _ _)
  have A2 : Arr W0 (w.heap.size + 1) 29 [.int .i64 5, .slice da dn dc, .slice ca cn cc, .int .i64 x, .int .i64 y] := by
    have h := Arr.new (w.alloc (.cells #[.slice sa sn sc, .slice ra n rc] 39)) 29 [.int .i64 5, .slice da dn dc, .slice ca cn cc, .int .i64 x, .int .i64 y]
    rw [hW0]
    simpa using h
  obtain ⟨W1, hW1⟩ : ∃ W, W = W0.alloc (.cells #[.slice sa sn sc, .slice ra n rc] 39) := ⟨_, rfl⟩
  have B01 : Below W0.heap.size W0 W1 := by rw [hW1]; exact below_alloc _ _
  have B1 : Below w.heap.size w W1 := bel_then B0 B0.size B01
  have z0 : W0.heap.size = w.heap.size + 1 + 1 := by rw [hW0]; simp
  have z1 : W1.heap.size = w.heap.size + 1 + 1 + 1 := by rw [hW1]; simp [z0]
  have R1 : W1.ownsRow w.heap.size 39 2 (.slice (some ⟨w.heap.size + 1 + 1, 0, none⟩) 1 1) 1 [.slice sa sn sc, .slice ra n rc] := by
    have h := row_oneJ (B := w.heap.size) (W := W0) ⟨⟨sa, sn, sc, sl⟩, ra, rc, ps⟩ B0.size
    simp only [Sl.v, Hd.cells, z0] at h
    rw [← hn, ← hW1] at h
    exact h
  have hE := jepoch_any jp p j W0 ((B0.block jp hj.lt).trans hj) he
  have hP := jkeep_any p jp S s (some j) ⟨da, dn, dc, dl⟩ ⟨ca, cn, cc, cl⟩ W1 (hf.later B1) ((B1.block jp hj.lt).trans hj) hjS hjo (fun j0 e => by cases e; exact hjc) (hd.later B1) (hc.later B1) hcn hdz hcz hw
  rw [hA] at hP
  have hup : ∀ k, ((S k ∨ k = jp) ∨ w.heap.size ≤ k ∧ k < W1.heap.size) → (S k ∨ k = jp) ∨ w.heap.size ≤ k := fun k hk => hk.imp id And.left
  have HA1 := hide (A1.later B01)
  have HA2 := hide (A2.later B01)
  have HW0 := hide hW0
  have HW1 := hide hW1
  have HB1 := hide B1
  have HN := hide hn
  have HR1 := hide R1
  have HS1 := hide z1
  have HH := hide ((hh.keep (Buts.refl _ _) hup).later B1)
  have HD := hide (hd.later B1)
  have HZ := hide (hdz.to hd hup)
  have HC := hide (hc.later B1)
  have HCZ := hide (hcz.to hc hup)
  have HL := hide hlt
  have HJ0 := hide (JSt.below hf hj B1)
  clear hc hcz hW0 hW1 B0 B01 B1 A1 A2 R1 z0 z1 hn hh hf hj hlt hA hd hdz hjo hup
  go_enter Try.func24, Try.ntmps24
  go_wp2_with (first
    | (go_at_call 19; rw [← unhide HW0]; refine hE.mono ?_; rintro e w' ⟨rfl, hw'⟩; subst hw'; rw [unhide HW0]; clear hE)
    | (go_at_call 23; rw [← unhide HW0, ← unhide HW1]; refine hP.mono ?_; rintro e w2 ⟨rfl, S2, k2⟩; clear hP
       have k2 : JSt p jp S s' o' W1 w2 S2 := k2
       have hS1 := unhide HS1
       have hz2 : ∀ k, ((S2 k ∨ k = jp) ∨ w.heap.size ≤ k ∧ k < W1.heap.size) → ((S k ∨ k = jp) ∨ w.heap.size ≤ k ∧ k < W1.heap.size) ∨ W1.heap.size ≤ k := fun k hk => hk.elim (fun h => h.elim (fun h => (k2.at_ k h).imp (fun h => .inl (.inl h)) id) (fun h => .inl (.inl (.inr h)))) (fun h => .inl (.inr h))
       have hb2 := k2.but.mono (T := fun k => (S k ∨ k = jp) ∨ w.heap.size ≤ k ∧ k < W1.heap.size) (fun k _ h => .inl h)
       have A1' := k2.but.arr (unhide HA1) (fun hz => absurd (unhide HL _ hz) (by omega))
       have A2' := k2.but.arr (unhide HA2) (fun hz => absurd (unhide HL _ hz) (by omega))
       have R2 := k2.but.own (unhide HR1) (fun k hk hz => absurd (unhide HL _ hz) (by simp only [Value.ownBlock, Option.some.injEq] at hk; omega))
       have c0 := A1'.cell 0
       have c1 := A1'.cell 1
       have d1 := A2'.cell 1
       have d2 := A2'.cell 2
       simp at c0 c1 d1 d2
       have ok2 := (unhide HH).keep hb2 hz2
       have bn := below_alloc w2 (.cells #[.slice ca cn cc, .slice none 0 0] 39)
       have A3 := A1'.later bn
       have A4 := A2'.later bn
       have A5 : Arr (w2.alloc (.cells #[.slice ca cn cc, .slice none 0 0] 39)) w2.heap.size 39 [.slice ca cn cc, .slice none 0 0] := Arr.new w2 _ _
       have hlt3 : ∀ k, ((S2 k ∨ k = jp) ∨ w.heap.size ≤ k ∧ k < W1.heap.size) → k < w2.heap.size := fun k hk => hk.elim (fl_ltJ k2.fl k2.jn k) (fun h => Nat.lt_of_lt_of_le h.2 k2.but.size)
       have dk2 := (hb2.ok (unhide HD) (unhide HZ)).later bn
       have dz2 := (unhide HZ).to (unhide HD) hz2
       have okA := ok2.later bn
       have okF := (freshJ (hb2.ok (unhide HC) (unhide HCZ)) ((unhide HCZ).to (unhide HC) hz2)).later bn
       have HCA : Hid (∀ W, Below (w2.alloc (.cells #[.slice ca cn cc, .slice none 0 0] 39)).heap.size (w2.alloc (.cells #[.slice ca cn cc, .slice none 0 0] 39)) W → Calls Try.prog 47 #[.agg #[.slice sa sn sc, .slice ra n rc], .slice da dn dc] W fun e w' => ∃ g c, e = .returned (.agg #[.slice sa sn sc, .slice (some ⟨g, 0, none⟩) (n + 1) c]) ∧ ((⟨⟨sa, sn, sc, sl⟩, ra, rc, ps⟩ : Hd).more g c ⟨da, dn, dc, dl⟩).Ok w' (fun k => (S2 k ∨ k = jp) ∨ w.heap.size ≤ k ∧ k < W1.heap.size) ∧ Below W.heap.size W w' ∧ w.heap.size ≤ g) := hide (fun W hW => by
         have h := with_any ⟨sa, sn, sc, sl⟩ ra rc ps ⟨da, dn, dc, dl⟩ W (okA.later hW).s (okA.later hW).r okA.n (dk2.later hW) hl
         simp only [Sl.v] at h
         rw [← unhide HN] at h
         refine h.mono ?_
         rintro e w' ⟨g, c, rfl, o, b⟩
         exact ⟨g, c, rfl, (okA.later hW).more (dk2.later hW) dz2 (by simp only; rw [← unhide HN]; exact o) b (fun k hk => Nat.lt_of_lt_of_le (hlt3 k hk) (Nat.le_trans bn.size hW.size)), b, Nat.le_trans (unhide HB1).size (Nat.le_trans k2.but.size (Nat.le_trans bn.size (Nat.le_trans hW.size (o.lt g rfl).1)))⟩)
       have HCB : Hid (∀ W, Below (w2.alloc (.cells #[.slice ca cn cc, .slice none 0 0] 39)).heap.size (w2.alloc (.cells #[.slice ca cn cc, .slice none 0 0] 39)) W → Calls Try.prog 47 #[.agg #[.slice ca cn cc, .slice none 0 0], .slice da dn dc] W fun e w' => ∃ g c, e = .returned (.agg #[.slice ca cn cc, .slice (some ⟨g, 0, none⟩) 1 c]) ∧ ((⟨⟨ca, cn, cc, cl⟩, none, 0, []⟩ : Hd).more g c ⟨da, dn, dc, dl⟩).Ok w' (fun k => (S2 k ∨ k = jp) ∨ w.heap.size ≤ k ∧ k < W1.heap.size) ∧ Below W.heap.size W w' ∧ w.heap.size ≤ g) := hide (fun W hW => by
         have h := with_any ⟨ca, cn, cc, cl⟩ none 0 [] ⟨da, dn, dc, dl⟩ W (okF.later hW).s (okF.later hW).r okF.n (dk2.later hW) (by simp)
         simp only [Sl.v, List.length_nil, List.map_nil, List.nil_append, Nat.zero_add] at h
         refine h.mono ?_
         rintro e w' ⟨g, c, rfl, o, b⟩
         exact ⟨g, c, rfl, (okF.later hW).more (dk2.later hW) dz2 (by simpa [Sl.v] using o) b (fun k hk => Nat.lt_of_lt_of_le (hlt3 k hk) (Nat.le_trans bn.size hW.size)), b, Nat.le_trans (unhide HB1).size (Nat.le_trans k2.but.size (Nat.le_trans bn.size (Nat.le_trans hW.size (o.lt g rfl).1)))⟩)
       have HSS : Hid (∀ W, Below (w2.alloc (.cells #[.slice ca cn cc, .slice none 0 0] 39)).heap.size (w2.alloc (.cells #[.slice ca cn cc, .slice none 0 0] 39)) W → W.rangeAt w.heap.size 0 [.slice sa sn sc, .slice ra n rc] ∧ W.rangeAt w2.heap.size 0 [.slice ca cn cc, .slice none 0 0] ∧ W.cell? ⟨w.heap.size + 1, 1, none⟩ = some (.slice da dn dc)) := hide (fun W hW => ⟨blk_rangeJ (A3.later hW), blk_rangeJ (A5.later hW), by simpa using (A4.later hW).cell 1⟩)
       have HA3 := hide A3
       have HA4 := hide A4
       have HA5 := hide A5
       have HR3 := hide (own_laterG R2 bn)
       have HOA := hide okA
       have HOF := hide okF
       have HBN := hide bn
       have e0 := A3.cell 0
       have e1 := A3.cell 1
       have g1 := A4.cell 1
       have n0 := A5.cell 0
       have n1 := A5.cell 1
       simp at e0 e1 g1 n0 n1
       have HK2 := hide k2
       have HO2 := hide ok2
       have HD2 := hide (hb2.ok (unhide HD) (unhide HZ))
       have HZ2 := hide ((unhide HZ).to (unhide HD) hz2)
       have HR2 := hide R2
       clear k2 A1' A2' ok2 hz2 hb2 R2 hS1 A3 A4 A5 dk2 dz2 okA okF hlt3 bn))
  go_wp2_with fail
  refine wp_region_held_drew (S := fun w' => w'.rangeAt w.heap.size 0 [.slice sa sn sc, .slice ra n rc] ∧ w'.rangeAt w2.heap.size 0 [.slice ca cn cc, .slice none 0 0] ∧ w'.cell? ⟨w.heap.size + 1, 1, none⟩ = some (.slice da dn dc)) (by kernel_rfl) (unhide HSS _ (below_drewN (Below.refl _ _) 1)) (fun hHeld => ?_)
  refine wpAnyH_take (i := 0) (oi := _) (v := .slice (some ⟨w.heap.size + 1 + 1, 0, none⟩) 1 1) rfl (by kernel_rfl) (by kernel_rfl) (by kernel_rfl) (fun _ _ _ h => h) (Or.inl ⟨by rfl, fun w hSw => by go_simp⟩) hHeld ?_
  simp [Act.put]
  refine wpAnyH_take (i := 1) (oi := _) (v := .agg #[.slice sa sn sc, .slice ra n rc]) rfl (by kernel_rfl) (by kernel_rfl) (by kernel_rfl) (fun _ _ _ h => h) (yieldsIf_load_mid (by rfl) _ _ rfl _ _ rfl _ _ (fun _ h => h.1) Try.underlying39 rfl (by simpa using Try.szH)) hHeld ?_
  simp [Act.put]
  refine wpAnyH_take (i := 2) (oi := _) (v := .pointer (some ⟨w.heap.size + 1, 1, none⟩)) rfl (by kernel_rfl) (by kernel_rfl) (by kernel_rfl) (fun _ _ _ h => h) (Or.inl ⟨by rfl, fun w hSw => by go_simp⟩) hHeld ?_
  simp [Act.put]
  refine wpAnyH_take (i := 3) (oi := _) (v := .slice da dn dc) rfl (by kernel_rfl) (by kernel_rfl) (by kernel_rfl) (fun _ _ _ h => h) (Or.inl ⟨by rfl, fun w hSw => by have h9 := hSw.2.2; go_simp⟩) hHeld ?_
  simp [Act.put]
  refine wpAnyH_take (i := 5) (oi := _) (v := .agg #[.slice ca cn cc, .slice none 0 0]) rfl (by kernel_rfl) (by kernel_rfl) (by kernel_rfl) (fun _ _ _ h => h) (yieldsIf_load_mid (by rfl) _ _ rfl _ _ rfl _ _ (fun _ h => h.2.1) Try.underlying39 rfl (by simpa using Try.szH)) hHeld ?_
  simp [Act.put]
  refine wpAnyH_take (i := 6) (oi := _) (v := .agg #[.slice ca cn cc, .slice none 0 0]) rfl (by kernel_rfl) (by kernel_rfl) (by kernel_rfl) (fun _ _ _ h => h) (yieldsIf_load_mid (by rfl) _ _ rfl _ _ rfl _ _ (fun _ h => h.2.1) Try.underlying39 rfl (by simpa using Try.szH)) hHeld ?_
  simp [Act.put]
  refine wpAnyH_take (i := 7) (oi := _) (v := .pointer (some ⟨w.heap.size + 1, 1, none⟩)) rfl (by kernel_rfl) (by kernel_rfl) (by kernel_rfl) (fun _ _ _ h => h) (Or.inl ⟨by rfl, fun w hSw => by go_simp⟩) hHeld ?_
  simp [Act.put]
  refine wpAnyH_take (i := 8) (oi := _) (v := .slice da dn dc) rfl (by kernel_rfl) (by kernel_rfl) (by kernel_rfl) (fun _ _ _ h => h) (Or.inl ⟨by rfl, fun w hSw => by have h9 := hSw.2.2; go_simp⟩) hHeld ?_
  simp [Act.put]
  refine wpAnyH_ready (rs := [4]) (by kernel_rfl) (by simp) ?_
  refine AllReadyH.cons rfl (fun K hK => ?_) AllReadyH.nil
  · skip
    have hWA := unhide HCA _ (below_drewN (Below.refl _ _) 1)
    go_simp
    refine hWA.mono ?_
    rintro e w5 ⟨gA, cA, rfl, okA, bA, hgA⟩
    clear hWA
    have bxA := bel_then (below_drewN (Below.refl _ _) 1) (below_drewN (Below.refl _ _) 1 : Below (w2.alloc (.cells #[.slice ca cn cc, .slice none 0 0] 39)).heap.size (w2.alloc (.cells #[.slice ca cn cc, .slice none 0 0] 39)) _).size bA
    refine hK.out _ _ (unhide HSS _ bxA) (fun hHeld => ?_)
    clear hK K
    refine wpAnyH_ready (rs := [9]) (by kernel_rfl) (by simp) ?_
    refine AllReadyH.cons rfl (fun K hK => ?_) AllReadyH.nil
    have hWB := unhide HCB w5 (bxA)
    go_simp
    refine hWB.mono ?_
    rintro e w6 ⟨gB, cB, rfl, okB, bB, hgB⟩
    clear hWB
    have bxB := bel_then (bxA) (bxA : Below (w2.alloc (.cells #[.slice ca cn cc, .slice none 0 0] 39)).heap.size (w2.alloc (.cells #[.slice ca cn cc, .slice none 0 0] 39)) _).size bB
    refine hK.out _ _ (unhide HSS _ bxB) (fun hHeld => ?_)
    clear hK K
    have okX := okA.later bB
    refine wpAnyH_ready (rs := [10]) (by kernel_rfl) (by simp) ?_
    refine AllReadyH.cons rfl (fun K hK => ?_) AllReadyH.nil
    go_simp
    refine hK.out _ _ (unhide HSS _ (bel_then bxB bxB.size (below_alloc w6 _))) (fun hHeld => ?_)
    clear hK K
    refine wpAnyH_ready (rs := [11]) (by kernel_rfl) (by simp) ?_
    refine AllReadyH.cons rfl (fun K hK => ?_) AllReadyH.nil
    have hS1 := unhide HS1
    have hz26 := bxB.size
    have hz20 := (unhide HBN).size
    have hz12 := (unhide HK2).but.size
    have HR7 : (w6.alloc (.cells #[.slice sa sn sc, .slice (some ⟨gA, 0, none⟩) (n + 1) cA, .slice ca cn cc, .slice none 0 0, .slice ca cn cc, .slice (some ⟨gB, 0, none⟩) 1 cB] 39)).ownsRow w.heap.size 39 2 (.slice (some ⟨w.heap.size + 1 + 1, 0, none⟩) 1 1) 1 [.slice sa sn sc, .slice ra n rc] := own_laterG (own_laterG (unhide HR3) bxB) (below_alloc w6 _)
    have HNW : ∀ j u, ([.slice sa sn sc, .slice (some ⟨gA, 0, none⟩) (n + 1) cA, .slice ca cn cc, .slice none 0 0, .slice ca cn cc, .slice (some ⟨gB, 0, none⟩) 1 cB] : List Value)[j]? = some u → (w6.alloc (.cells #[.slice sa sn sc, .slice (some ⟨gA, 0, none⟩) (n + 1) cA, .slice ca cn cc, .slice none 0 0, .slice ca cn cc, .slice (some ⟨gB, 0, none⟩) 1 cB] 39)).cell? ((⟨w6.heap.size, 0, none⟩ : Addr).add j) = some u := (fun j u hu => by
      have A : Arr (w6.alloc (.cells #[.slice sa sn sc, .slice (some ⟨gA, 0, none⟩) (n + 1) cA, .slice ca cn cc, .slice none 0 0, .slice ca cn cc, .slice (some ⟨gB, 0, none⟩) 1 cB] 39)) w6.heap.size 39 [.slice sa sn sc, .slice (some ⟨gA, 0, none⟩) (n + 1) cA, .slice ca cn cc, .slice none 0 0, .slice ca cn cc, .slice (some ⟨gB, 0, none⟩) 1 cB] := Arr.new w6 _ _
      rw [addr_add, Nat.zero_add, A.cell j, hu])
    have bw7 := bel_then bxB bxB.size (below_alloc w6 (.cells #[.slice sa sn sc, .slice (some ⟨gA, 0, none⟩) (n + 1) cA, .slice ca cn cc, .slice none 0 0, .slice ca cn cc, .slice (some ⟨gB, 0, none⟩) 1 cB] 39))
    have hz7 := bw7.size
    have hz1 := (unhide HB1).size
    refine step_append_own_atJ rfl (.tmp 95) (.tmp 105) 50 rfl w.heap.size 39 i1 (.agg #[.slice none 0 0, .slice none 0 0]) 2 48 Try.underlying50 hi1 hy0 hy1 hy2 rfl (by decide) (.slice (some ⟨w.heap.size + 1 + 1, 0, none⟩) 1 1) 1 [.slice sa sn sc, .slice ra n rc] (by simp [Act.eval]) HR7 ⟨w6.heap.size, 0, none⟩ 3 3 [.slice sa sn sc, .slice (some ⟨gA, 0, none⟩) (n + 1) cA, .slice ca cn cc, .slice none 0 0, .slice ca cn cc, .slice (some ⟨gB, 0, none⟩) 1 cB] (by simp [Act.eval]) rfl HNW (by intro u hu; simp at hu; rcases hu with rfl | rfl | rfl | rfl | rfl | rfl <;> rfl) (by unfold maxLen; omega) (by omega) (by omega) ?_
    intro v4 w7 hown4 hgrow4 hat4
    have bg7 := buts_grownJ hgrow4
    have hS7 : w7.rangeAt w.heap.size 0 [.slice sa sn sc, .slice ra n rc] ∧ w7.rangeAt w2.heap.size 0 [.slice ca cn cc, .slice none 0 0] ∧ w7.cell? ⟨w.heap.size + 1, 1, none⟩ = some (.slice da dn dc) := ⟨blk_rangeJ (bg7.arr ((unhide HA3).later bw7) (fun e => by simp only [Value.ownBlock, Option.some.injEq] at e; omega)), blk_rangeJ (bg7.arr ((unhide HA5).later bw7) (fun e => by simp only [Value.ownBlock, Option.some.injEq] at e; omega)), by simpa using (bg7.arr ((unhide HA4).later bw7) (fun e => by simp only [Value.ownBlock, Option.some.injEq] at e; omega)).cell 1⟩
    simp [Act.put]
    refine hK.out _ _ hS7 (fun hHeld => ?_)
    clear hK K
    refine wpAnyH_take (i := 12) (oi := _) (v := v4) rfl (by kernel_rfl) (by kernel_rfl) (by kernel_rfl) (fun _ _ _ h => h) (Or.inl ⟨by rfl, fun w hSw => by go_simp⟩) hHeld ?_
    simp [Act.put]
    refine wpAnyH_done (by kernel_rfl) ?_ _
    go_wp2
    go_ret2
    have k2 := unhide HK2
    have hlt2 := fl_ltJ k2.fl k2.jn
    have hjl := unhide HL jp (.inr rfl)
    have hbn := unhide HBN
    have bw := bel_then hbn hbn.size bw7
    have hfar : ¬ (S2 (w.heap.size + 1 + 1) ∨ w.heap.size + 1 + 1 = jp) := by
      rintro (h | h)
      · rcases k2.at_ _ h with h1 | h1
        · have := unhide HL _ (.inl h1); omega
        · omega
      · omega
    have hv : ∀ k, v4.ownBlock = some k → ¬ (S2 k ∨ k = jp) := by
      intro k hk hz
      rcases hat4 with h | h
      · rw [h] at hk
        simp only [Value.ownBlock, Option.some.injEq] at hk
        subst hk
        exact hfar hz
      · rw [h] at hk
        have h1 := hlt2 k hz
        have h2 := bw.size
        simp only [Option.some.injEq] at hk
        omega
    have hN := unhide HN
    have oA := (unhide HOA).later bw7
    have oF := (unhide HOF).later bw7
    have oA1 := (okA.later bB).later (below_alloc w6 (.cells #[.slice sa sn sc, .slice (some ⟨gA, 0, none⟩) (n + 1) cA, .slice ca cn cc, .slice none 0 0, .slice ca cn cc, .slice (some ⟨gB, 0, none⟩) 1 cB] 39))
    have oB1 := okB.later (below_alloc w6 (.cells #[.slice sa sn sc, .slice (some ⟨gA, 0, none⟩) (n + 1) cA, .slice ca cn cc, .slice none 0 0, .slice ca cn cc, .slice (some ⟨gB, 0, none⟩) 1 cB] 39))
    have hx := kp_app (w := w) (Z := fun k => S2 k ∨ k = jp) (Z2 := fun k => (S2 k ∨ k = jp) ∨ w.heap.size ≤ k ∧ k < W1.heap.size) (hs := [⟨⟨sa, sn, sc, sl⟩, ra, rc, ps⟩, (⟨⟨sa, sn, sc, sl⟩, ra, rc, ps⟩ : Hd).more gA cA ⟨da, dn, dc, dl⟩, ⟨⟨ca, cn, cc, cl⟩, none, 0, []⟩, (⟨⟨ca, cn, cc, cl⟩, none, 0, []⟩ : Hd).more gB cB ⟨da, dn, dc, dl⟩]) (by simpa [Hd.cells, Hd.more, Sl.v, ← hN] using hown4) hgrow4 (fun k hk => .inr (by simp only [Value.ownBlock, Option.some.injEq] at hk; omega)) (by intro h hm; simp only [List.mem_cons, List.not_mem_nil, or_false] at hm; rcases hm with rfl | rfl | rfl | rfl; exact oA; exact oA1; exact oF; exact oB1) (fun k h => .inl h) hv
    exact ⟨_, S2, gA, cA, gB, cB, rfl, hx, (((unhide HJ0).trans k2).trans (JSt.below k2.fl k2.jn bw)).grown hgrow4 (fun k hk => by simp only [Value.ownBlock, Option.some.injEq] at hk; subst hk; exact ⟨by omega, hfar⟩), hgA, hgB⟩
end Go.Proofs.Ytonpikdpclpkiaa
