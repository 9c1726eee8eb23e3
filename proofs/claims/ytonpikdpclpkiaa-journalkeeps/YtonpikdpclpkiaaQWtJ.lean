import Derived.Test.YtonpikdpclpkiaaQIsJ
import Derived.Laws.AppendOwnNone
set_option linter.unusedVariables false
namespace Go.Proofs.Ytonpikdpclpkiaa
open Go.RowKit

theorem slv_onesJ (ps : List Sl) : ∀ u ∈ ps.map Sl.v, u.oneCell' = true := by intro u hu; simp at hu; obtain ⟨s, -, rfl⟩ := hu; rfl
/-- append of a list of slices that came from anywhere, nil too, to a row of one's own -/
theorem wpList_append_partsJ {P : Program} {w : World} {ops : Array Oper} {rest : List Oper} {o : Oper} {a : Act} {Q : Exit → Act → World → Prop} (hgd : o.guard = none) (s x : Operand) (t : TypeId)
    (ho : o.op = .call { callee := .builtin .append, args := #[s, x], argTypes := #[t, t] })
    (base : Nat) (e : TypeId) (i : TypeInfo) (z : Value) (ht : P.underlying t = some (.slice e)) (hi : P.info? e = some i) (hz : i.zero = some z) (hsize : i.size = 1) (hby : i.bytes = 24) (hzs : z.cells.size = 1)
    (v : Value) (n : Nat) (xs : List Value) (hs : a.eval s = v) (hown : w.ownsRow base e 1 v n xs) (pa : Option Addr) (pc : Nat) (ps : List Sl) (hv : LiesV w pa (ps.map Sl.v)) (hpn : pa = none → pc = 0) (hx : a.eval x = .slice pa ps.length pc)
    (hb : n + ps.length ≤ 1000000) (hbase : base ≤ w.heap.size)
    (h : ∀ v' w', Hid (w'.ownsRow base e 1 v' (n + ps.length) (xs ++ ps.map Sl.v)) → Hid (w.grownBy w' v.ownBlock) → wpList P ops Q rest (a.put o.dst v') w') : wpList P ops Q (o :: rest) a w := by
  cases hda : pa with
  | none =>
    have h0 : ps.length = 0 := by
      by_cases hp : 0 < ps.length
      · obtain ⟨b, off, e1, -⟩ := hv (by simpa using hp); rw [hda] at e1; cases e1
      · omega
    have hl0 : ps = [] := List.eq_nil_of_length_eq_zero h0
    refine wpList_append_own_none hgd s x t ho base e i 1 ht hi v n xs hs hown (by rw [hx, hda, h0, hpn hda]) ?_
    refine h v w (show _ from ?_) (show _ from World.grownBy.refl w _)
    have h2 : w.ownsRow base e 1 v (n + ps.length) (xs ++ ps.map Sl.v) := by rw [hl0]; simpa using hown
    exact h2
  | some ad =>
    refine wpList_append_own w hgd s x t ho base e i z 1 24 ht hi hz hsize hby hzs (by decide) v n xs hs hown ad ps.length pc (ps.map Sl.v) (by rw [hx, hda]) (by simp) (fun j u hu => ?_) (slv_onesJ ps) (by unfold maxLen; omega) (by omega) hbase ?_
    · have hj : j < ps.length := by have := (List.getElem?_eq_some_iff.1 hu).1; simpa using this
      obtain ⟨b, off, e1, -, hc⟩ := hv (by simp; omega)
      rw [hda] at e1; cases e1
      rw [addr_add]; exact hc j u hu
    · intro v' w' h1 h2 _
      exact h v' w' h1 h2
theorem Try.szH : (Try.prog.info? 39).map (·.size) = some 2 := by kernel_rfl
theorem own_setJ {W : World} {B off base e sz n : Nat} {v u : Value} {xs : List Value} (h : W.ownsRow base e sz u n xs) (hne : u.ownBlock ≠ some B) : (W.setCell ⟨B, off, none⟩ v).ownsRow base e sz u n xs := by
  obtain ⟨h1, h2⟩ := h
  refine ⟨h1, ?_⟩
  rcases h2 with h2 | ⟨b, cap, cur, r1, r2, r3, r4⟩
  · exact .inl h2
  · exact .inr ⟨b, cap, cur, r1, r2, (Below.heap_setCell _ _ _ b (fun e => hne (by rw [r1, e]; rfl))).trans r3, r4⟩
theorem arr2J {W : World} {g ty : Nat} {x0 x1 : Value} (y0 y1 : Value) (h : Arr W g ty [x0, x1]) : Arr ((W.setCell ⟨g, 0, none⟩ y0).setCell ⟨g, 1, none⟩ y1) g ty [y0, y1] := (h.set 0 y0).set 1 y1
set_option maxHeartbeats 2000000 in
set_option maxRecDepth 100000 in
theorem with_any (s : Sl) (ra : Option Addr) (rc : Nat) (ps : List Sl) (d : Sl) (w : World) (hs : s.Ok w) (hp : SlsOk w ra ps) (hpn : ra = none → rc = 0) (hd : d.Ok w) (hl : ps.length ≤ 200000) :
    Calls Try.prog 47 #[.agg #[s.v, .slice ra ps.length rc], d.v] w fun e w' => ∃ g c, e = .returned (.agg #[s.v, .slice (some ⟨g, 0, none⟩) (ps.length + 1) c]) ∧ w'.ownsRow w.heap.size 22 1 (.slice (some ⟨g, 0, none⟩) (ps.length + 1) c) (ps.length + 1) (ps.map Sl.v ++ [d.v]) ∧ Below w.heap.size w w' := by
  obtain ⟨i0, hi0, hz0, hz1, hz2⟩ := info_parts Try.infoSj
  obtain ⟨n, hn⟩ : ∃ n, n = ps.length := ⟨_, rfl⟩
  obtain ⟨sa, sn, sc, sl⟩ := s
  obtain ⟨da, dn, dc, dl⟩ := d
  simp only [Sl.v]
  rw [← hn]
  obtain ⟨W0, hW0⟩ : ∃ W, W = (w.alloc (.cells #[.slice sa sn sc, .slice ra n rc] 39)).alloc (.cells #[.slice none 0 0, .slice none 0 0] 39) := ⟨_, rfl⟩
  have B0 : Below w.heap.size w W0 := by rw [hW0]; exact bel_then (below_alloc w _) (below_alloc w _).size (below_alloc _ _)
  have A1 : Arr W0 w.heap.size 39 [.slice sa sn sc, .slice ra n rc] := by rw [hW0]; exact (Arr.new w _ [.slice sa sn sc, .slice ra n rc]).later (below_alloc _ _)
  have A2 : Arr W0 (w.heap.size + 1) 39 [.slice none 0 0, .slice none 0 0] := by
    have h := Arr.new (w.alloc (.cells #[.slice sa sn sc, .slice ra n rc] 39)) 39 [.slice none 0 0, .slice none 0 0]
    rw [hW0]
    simpa using h
  have HPL := hide (hp.later B0)
  have HW0 := hide hW0
  have HB0 := hide B0
  have HA1 := hide A1
  have HA2 := hide A2
  have HN := hide hn
  have hn2 : n ≤ 200000 := by omega
  have HPN := hide hpn
  clear hW0 B0 A1 A2 hs hp hd hn hl hpn
  go_enter Try.func47, Try.ntmps47
  go_wp2_with (first
    | (at_builtin; refine wpList_append_own_at rfl _ _ 31 rfl w.heap.size 22 i0 (.slice none 0 0) 1 24 Try.underlying31 hi0 hz0 hz1 hz2 rfl (by decide) (.slice va n vc) n (ps.map Sl.v) rfl (unhide HROW) ⟨w1.heap.size, 0, none⟩ 1 1 [.slice da dn dc] rfl rfl (cell1_new w1 (.slice da dn dc) 22) (by intro u hu; simp at hu; rw [hu]; rfl) (by unfold maxLen; omega) (by omega) (unhide HSZ) ?_; intro v2 w2 hown2 hgrow2 hat2
       obtain ⟨g2, c2, hv2⟩ := own_parts (unhide hown2)
       subst hv2
       obtain ⟨g3, hg3⟩ := own_some14 (unhide hown2) (by omega)
       subst hg3
       have AA1 := (unhide HA11).later (below_alloc w1 (.cells #[.slice da dn dc] 22))
       have AA2 := (unhide HA21).later (below_alloc w1 (.cells #[.slice da dn dc] 22))
       have hne1 := own_typ14 (unhide HROW) AA1 (by decide)
       have hne2 := own_typ14 (unhide HROW) AA2 (by decide)
       have A1' : Arr w2 w.heap.size 39 [.slice sa sn sc, .slice ra n rc] := ((unhide hgrow2).block _ AA1.lt (fun e => hne1 e.symm)).trans AA1
       have A2' : Arr w2 (w.heap.size + 1) 39 [.slice none 0 0, .slice none 0 0] := ((unhide hgrow2).block _ AA2.lt (fun e => hne2 e.symm)).trans AA2
       have HB2 : Hid (Below w.heap.size w w2) := hide ((bel_then (unhide HB1) (unhide HB1).size (below_alloc w1 _)).grown (unhide hgrow2) (unhide HSZ) (fun k e => ((unhide HROW).lt k e).1))
       have c0 := A1'.cell 0
       have c1 := A1'.cell 1
       have d0 := A2'.cell 0
       have d1 := A2'.cell 1
       have f0 := A2'.frozen 0
       have f1 := A2'.frozen 1
       simp at c0 c1 d0 d1
       have HA2' := hide A2'
       clear AA1 AA2 hne1 hne2 A1' A2' hgrow2 hat2 HROW HSZ HA11 HA21 HB1)
    | (at_builtin; rw [← unhide HW0]; refine wpList_append_partsJ rfl _ _ 31 rfl w.heap.size 22 i0 (.slice none 0 0) Try.underlying31 hi0 hz0 hz1 hz2 rfl (.slice none 0 0) 0 [] rfl (World.ownsRow_nil W0 w.heap.size _ 1) ra rc ps (unhide HPL).1 (unhide HPN) (by rw [← unhide HN]; rfl) (by rw [← unhide HN]; omega) (unhide HB0).size ?_; intro v1 w1 hown1 hgrow1
       have ho := unhide hown1
       rw [Nat.zero_add, ← unhide HN, List.nil_append] at ho
       obtain ⟨va, vc, hv1⟩ := own_parts ho
       subst hv1
       have hb1 : Below w.heap.size w w1 := (unhide HB0).grown (unhide hgrow1) (unhide HB0).size (fun k e => by simp [Value.ownBlock] at e)
       have hb01 : Below W0.heap.size W0 w1 := (Below.refl _ _).grown (unhide hgrow1) (Nat.le_refl _) (fun k e => by simp [Value.ownBlock] at e)
       have HROW : Hid ((w1.alloc (.cells #[.slice da dn dc] 22)).ownsRow w.heap.size 22 1 (.slice va n vc) n (ps.map Sl.v)) := hide (own_laterG ho (below_alloc w1 _))
       have HSZ : Hid (w.heap.size ≤ (w1.alloc (.cells #[.slice da dn dc] 22)).heap.size) := hide (Nat.le_trans hb1.size (below_alloc w1 _).size)
       have HB1 := hide hb1
       have HA11 := hide ((unhide HA1).later hb01)
       have HA21 := hide ((unhide HA2).later hb01)
       clear hown1 hgrow1 ho hb1 hb01))
  have hne := own_typ14 (unhide hown2) (unhide HA2') (by decide)
  refine bodyPost_ret (results_cell_row rfl _ _ (w.heap.size + 1) 39 _ (0, 0) _ rfl (arr2J (.slice sa sn sc) (.slice (some ⟨g3, 0, none⟩) (n + 1) c2) (unhide HA2')) Try.underlying39 rfl Try.szH) rfl ?_
  exact ⟨g3, c2, rfl, own_setJ (own_setJ (unhide hown2) hne) hne, ((unhide HB2).setCell (Nat.le_succ _) _).setCell (Nat.le_succ _) _⟩
end Go.Proofs.Ytonpikdpclpkiaa
