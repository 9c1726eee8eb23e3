import Derived.Test.YtjedgkcpkieaeaaStW21
import Derived.Deep.DeepCutAuto
import Derived.Deep.QuietTactic
import Derived.BigQuiet
set_option linter.unusedSimpArgs false
set_option linter.unusedVariables false
namespace Go.Proofs.Ytjedgkcpkieaeaa
open Go.RowKit

/-- a step with its acknowledgements -/
structure Stq where (a b : Int) (jn : Bool) (s r g : Int) (o : Sx Akn)
def tqC (x : Stq) : List Value := tC ⟨x.a, x.b, x.jn, x.s, x.r, x.g, x.o.v⟩
theorem tqC_len (x : Stq) : (tqC x).length = 7 := rfl
structure Sq (w : World) (s : Sx Stq) : Prop where
  ok : Sx.Ok tqC 7 w s
  e : ∀ x ∈ s.xs, Sk w x.o
theorem Sq.old {w w' : World} {s : Sx Stq} (h : Sq w s) (ho : Old w w') : Sq w' s := ⟨h.ok.old ho, fun x hx => (h.e x hx).old ho⟩
theorem Sq.at_ {w : World} {s : Sx Stq} (h : Sq w s) {k : Nat} (hk : k < s.n) : ∃ x b off, s.xs[k]? = some x ∧ s.a = some ⟨b, off, none⟩ ∧ b < w.heap.size ∧ w.rangeAt b (off + k * 7) (tqC x) ∧ Sk w x.o := by
  have hl : k < s.xs.length := by rw [h.ok.len]; exact hk
  obtain ⟨b, off, h1, h2, h3⟩ := Sx.Ok.at_ h.ok (List.getElem?_eq_getElem hl)
  exact ⟨_, b, off, List.getElem?_eq_getElem hl, h1, h2, h3, h.e _ (List.getElem_mem hl)⟩
theorem yl_loadR {ops : Array Oper} {o : Oper} {a : Act} {S : World → Prop} (hw : Region.wanted o (yielded ops a.tmps) = true) (t : TypeId) (x : Operand) (ho : o.op = .load t x) (g off : Nat) (hx : a.eval x = .pointer (some ⟨g, off, none⟩)) (p : List Value) (hr : ∀ w, S w → w.rangeAt g off p) {d : TypeDesc} (hu : Try.prog.underlying t = some d) (hd : d.isRow = true) (hz : (Try.prog.info? t).map (·.size) = some p.length) : YieldsIf Try.prog ops S o (aV p) a :=
  .inl ⟨hw, fun w hS => ex_loadR t x ho g off hx p (hr w hS) hu hd hz⟩
set_option maxHeartbeats 8000000 in
set_option maxRecDepth 100000 in
theorem exact21_law (s0 r0 g0 : Int) (z : Sx Stq) (w : World) (hz : Sq w z) :
    Calls Try.prog 8 #[.int .i64 s0, .int .i64 r0, .int .i64 g0, z.v] w fun e w' => e = .returned (.bool true) ∧ Below w.heap.size w w' := by
  obtain ⟨za, zn, zc, zx⟩ := z
  simp only [Sx.v] at *
  have hS := Hs17.begin w (fun w => Sq w ⟨za, zn, zc, zx⟩) (fun w' ho => hz.old ho)
  clear hz
  by_cases hmany : 300 < (zn : Int)
  · go_enter Try.func8, Try.ntmps8
    go_wp2_with fail
    go_ret
    exact ⟨rfl, hS.bel⟩
  · by_cases hbg : s0 < 1 ∨ r0 < 1 ∨ 4096 < r0 ∨ g0 < 1 ∨ 16 < g0
    · skip
      go_enter Try.func8, Try.ntmps8
      go_upto_region 3 with fail
      clear hmany
      refine wp_region_lit ?_
      refine wl (by kernel_rfl) fun kQ hkQ => ?_
      go_simp
      refine hkQ _ _ ?_
      clear hkQ kQ
      refine wl (by kernel_rfl) fun kQ hkQ => ?_
      go_simp
      refine hkQ _ _ ?_
      clear hkQ kQ
      refine wl (by kernel_rfl) fun kQ hkQ => ?_
      go_simp
      refine hkQ _ _ ?_
      clear hkQ kQ
      refine wl (by kernel_rfl) fun kQ hkQ => ?_
      go_simp
      refine (begin_no s0 r0 g0 _ hbg).mono ?_
      rintro e w1 ⟨rfl, hb1⟩
      replace hS := hS.later hb1
      refine hkQ _ _ ?_
      clear hkQ kQ hb1
      rw [show zRf = (⟨0, 0, .slice none 0 0, 0⟩ : Rfd) from rfl]
      refine wl (by kernel_rfl) fun kQ hkQ => ?_
      go_simp
      refine hkQ _ _ ?_
      clear hkQ kQ
      refine wl (by kernel_rfl) fun kQ hkQ => ?_
      go_simp
      refine hkQ _ _ ?_
      clear hkQ kQ
      refine wl (by kernel_rfl) fun kQ hkQ => ?_
      go_simp
      refine hkQ _ _ ?_
      clear hkQ kQ
      refine wl_alloc (by kernel_rfl) 27 rfl (rC (⟨0, 0, (.slice none 0 0), 0⟩ : Rfd)) Try.inR hS ?_
      clear hS
      intro g2 w2 hS
      simp [Act.put]
      refine wl_store (by kernel_rfl) 27 (.tmp 9) (.tmp 24) rfl 0 rfl 0 rfl (rC (⟨0, 0, (.slice none 0 0), 0⟩ : Rfd)) (rC (⟨0, 0, (.slice none 0 0), 0⟩ : Rfd)) (pt_r (⟨0, 0, (.slice none 0 0), 0⟩ : Rfd) (⟨0, 0, (.slice none 0 0), 0⟩ : Rfd)) rfl (szR _) (one_r _ _ _ _ _ _) hS ?_
      clear hS
      intro w3 hS
      change Hs17 w [(g2, 27, (rC (⟨0, 0, (.slice none 0 0), 0⟩ : Rfd)))] _ w3 at hS
      simp [Act.put]
      refine wl (by kernel_rfl) fun kQ hkQ => ?_
      go_simp
      refine hkQ _ _ ?_
      clear hkQ kQ
      refine wpList_nil ?_
      go_upto_region 4 with fail
      refine wp_region_lit ?_
      refine wl (by kernel_rfl) fun kQ hkQ => ?_
      go_simp
      refine hkQ _ _ ?_
      clear hkQ kQ
      refine wl (by kernel_rfl) fun kQ hkQ => ?_
      go_simp
      refine hkQ _ _ ?_
      clear hkQ kQ
      refine wl (by kernel_rfl) fun kQ hkQ => ?_
      go_simp
      refine hkQ _ _ ?_
      clear hkQ kQ
      refine wl (by kernel_rfl) fun kQ hkQ => ?_
      go_simp
      refine (rbegin_no s0 r0 g0 _ hbg).mono ?_
      rintro e w4 ⟨rfl, hb1⟩
      replace hS := hS.later hb1
      refine hkQ _ _ ?_
      clear hkQ kQ hb1
      rw [show zRf = (⟨0, 0, .slice none 0 0, 0⟩ : Rfd) from rfl]
      refine wl (by kernel_rfl) fun kQ hkQ => ?_
      go_simp
      refine hkQ _ _ ?_
      clear hkQ kQ
      refine wl (by kernel_rfl) fun kQ hkQ => ?_
      go_simp
      refine hkQ _ _ ?_
      clear hkQ kQ
      refine wl (by kernel_rfl) fun kQ hkQ => ?_
      go_simp
      refine hkQ _ _ ?_
      clear hkQ kQ
      refine wl_alloc (by kernel_rfl) 27 rfl (rC (⟨0, 0, (.slice none 0 0), 0⟩ : Rfd)) Try.inR hS ?_
      clear hS
      intro g5 w5 hS
      simp [Act.put]
      refine wl_store (by kernel_rfl) 27 (.tmp 11) (.tmp 31) rfl 0 rfl 0 rfl (rC (⟨0, 0, (.slice none 0 0), 0⟩ : Rfd)) (rC (⟨0, 0, (.slice none 0 0), 0⟩ : Rfd)) (pt_r (⟨0, 0, (.slice none 0 0), 0⟩ : Rfd) (⟨0, 0, (.slice none 0 0), 0⟩ : Rfd)) rfl (szR _) (one_r _ _ _ _ _ _) hS ?_
      clear hS
      intro w6 hS
      change Hs17 w [(g5, 27, (rC (⟨0, 0, (.slice none 0 0), 0⟩ : Rfd))), (g2, 27, (rC (⟨0, 0, (.slice none 0 0), 0⟩ : Rfd)))] _ w6 at hS
      simp [Act.put]
      refine wl (by kernel_rfl) fun kQ hkQ => ?_
      go_simp
      refine hkQ _ _ ?_
      clear hkQ kQ
      refine wpList_nil ?_
      go_upto_region 5 with fail
      refine wp_region_lit ?_
      refine wl (by kernel_rfl) fun kQ hkQ => ?_
      go_simp
      refine hkQ _ _ ?_
      clear hkQ kQ
      refine wl (by kernel_rfl) fun kQ hkQ => ?_
      go_simp
      refine hkQ _ _ ?_
      clear hkQ kQ
      refine wl (by kernel_rfl) fun kQ hkQ => ?_
      go_simp
      refine hkQ _ _ ?_
      clear hkQ kQ
      refine wl (by kernel_rfl) fun kQ hkQ => ?_
      go_simp
      refine hkQ _ _ ?_
      clear hkQ kQ
      refine wl_load (by kernel_rfl) 27 (.tmp 9) rfl 1 rfl 0 rfl (rC (⟨0, 0, (.slice none 0 0), 0⟩ : Rfd)) (At.self _) Try.underlying27 rfl (szR _) hS ?_
      simp [Act.put]
      refine wl_load (by kernel_rfl) 27 (.tmp 11) rfl 0 rfl 0 rfl (rC (⟨0, 0, (.slice none 0 0), 0⟩ : Rfd)) (At.self _) Try.underlying27 rfl (szR _) hS ?_
      simp [Act.put]
      refine wl (by kernel_rfl) fun kQ hkQ => ?_
      go_simp
      refine (same_t 0 0 0 none 0 0 [] none 0 _ (sb_nil _) (sb_nil _) (by omega)).mono ?_
      rintro e w7 ⟨rfl, hb1⟩
      replace hS := hS.later hb1
      refine hkQ _ _ ?_
      clear hkQ kQ hb1
      refine wl (by kernel_rfl) fun kQ hkQ => ?_
      go_simp
      refine hkQ _ _ ?_
      clear hkQ kQ
      refine wl (by kernel_rfl) fun kQ hkQ => ?_
      go_simp
      refine hkQ _ _ ?_
      clear hkQ kQ
      refine wpList_nil ?_
      go_wp2_with fail
      go_ret
      exact ⟨rfl, hS.bel⟩
    · obtain ⟨gn, rfl⟩ : ∃ n : Nat, g0 = (n : Int) := ⟨g0.toNat, by omega⟩
      have h1 : 1 ≤ s0 := by omega
      have h2 : 1 ≤ r0 := by omega
      have h3 : r0 ≤ 4096 := by omega
      have h4 : 1 ≤ gn := by omega
      have h5 : gn ≤ 16 := by omega
      have hgn : gn ≤ 1048576 := by omega
      have hzn : zn ≤ 300 := by omega
      clear hbg
      obtain ⟨N0, hN0⟩ : ∃ N, N = List.replicate gn false := ⟨_, rfl⟩
      have HN0 := hide hN0
      clear hN0
      go_enter Try.func8, Try.ntmps8
      go_upto_region 3 with fail
      clear hmany
      refine wp_region_lit ?_
      refine wl (by kernel_rfl) fun kQ hkQ => ?_
      go_simp
      refine hkQ _ _ ?_
      clear hkQ kQ
      refine wl (by kernel_rfl) fun kQ hkQ => ?_
      go_simp
      refine hkQ _ _ ?_
      clear hkQ kQ
      refine wl (by kernel_rfl) fun kQ hkQ => ?_
      go_simp
      refine hkQ _ _ ?_
      clear hkQ kQ
      refine wl (by kernel_rfl) fun kQ hkQ => ?_
      go_simp
      refine (begin_ok s0 r0 gn _ h1 h2 h3 h4 h5).mono ?_
      rintro e w1 ⟨u, rfl, hR9, hb1⟩
      rw [← unhide HN0] at hR9; obtain ⟨hl9, xb, rfl, hg9, hA9⟩ := hR9; replace hS := hS.keepS hb1 (sb_arr hA9 hl9 (by omega)) (fun x hx => by cases hx; exact hg9); clear hg9 hA9 hl9
      refine hkQ _ _ ?_
      clear hkQ kQ hb1
      refine wl (by kernel_rfl) fun kQ hkQ => ?_
      go_simp
      refine hkQ _ _ ?_
      clear hkQ kQ
      refine wl (by kernel_rfl) fun kQ hkQ => ?_
      go_simp
      refine hkQ _ _ ?_
      clear hkQ kQ
      refine wl (by kernel_rfl) fun kQ hkQ => ?_
      go_simp
      refine hkQ _ _ ?_
      clear hkQ kQ
      refine wl_alloc (by kernel_rfl) 27 rfl (rC (⟨0, 0, (.slice none 0 0), 0⟩ : Rfd)) Try.inR hS ?_
      clear hS
      intro g2 w2 hS
      simp [Act.put]
      refine wl_store (by kernel_rfl) 27 (.tmp 9) (.tmp 24) rfl 0 rfl 0 rfl (rC (⟨s0, r0, (.slice (some ⟨xb, 0, none⟩) gn gn), 0⟩ : Rfd)) (rC (⟨s0, r0, (.slice (some ⟨xb, 0, none⟩) gn gn), 0⟩ : Rfd)) (pt_r (⟨0, 0, (.slice none 0 0), 0⟩ : Rfd) (⟨s0, r0, (.slice (some ⟨xb, 0, none⟩) gn gn), 0⟩ : Rfd)) rfl (szR _) (one_r _ _ _ _ _ _) hS ?_
      clear hS
      intro w3 hS
      change Hs17 w [(g2, 27, (rC (⟨s0, r0, (.slice (some ⟨xb, 0, none⟩) gn gn), 0⟩ : Rfd)))] _ w3 at hS
      simp [Act.put]
      refine wl (by kernel_rfl) fun kQ hkQ => ?_
      go_simp
      refine hkQ _ _ ?_
      clear hkQ kQ
      refine wpList_nil ?_
      go_upto_region 4 with fail
      refine wp_region_lit ?_
      refine wl (by kernel_rfl) fun kQ hkQ => ?_
      go_simp
      refine hkQ _ _ ?_
      clear hkQ kQ
      refine wl (by kernel_rfl) fun kQ hkQ => ?_
      go_simp
      refine hkQ _ _ ?_
      clear hkQ kQ
      refine wl (by kernel_rfl) fun kQ hkQ => ?_
      go_simp
      refine hkQ _ _ ?_
      clear hkQ kQ
      refine wl (by kernel_rfl) fun kQ hkQ => ?_
      go_simp
      refine (rbegin_ok s0 r0 gn _ h1 h2 h3 h4 h5).mono ?_
      rintro e w4 ⟨u, rfl, hR9, hb1⟩
      rw [← unhide HN0] at hR9; obtain ⟨xa, xc, rfl, hsb, hbk⟩ := hR9; replace hS := hS.keepS hb1 hsb hbk; clear hsb hbk
      refine hkQ _ _ ?_
      clear hkQ kQ hb1
      refine wl (by kernel_rfl) fun kQ hkQ => ?_
      go_simp
      refine hkQ _ _ ?_
      clear hkQ kQ
      refine wl (by kernel_rfl) fun kQ hkQ => ?_
      go_simp
      refine hkQ _ _ ?_
      clear hkQ kQ
      refine wl (by kernel_rfl) fun kQ hkQ => ?_
      go_simp
      refine hkQ _ _ ?_
      clear hkQ kQ
      refine wl_alloc (by kernel_rfl) 27 rfl (rC (⟨0, 0, (.slice none 0 0), 0⟩ : Rfd)) Try.inR hS ?_
      clear hS
      intro g5 w5 hS
      simp [Act.put]
      refine wl_store (by kernel_rfl) 27 (.tmp 11) (.tmp 31) rfl 0 rfl 0 rfl (rC (⟨s0, r0, (.slice xa gn xc), 0⟩ : Rfd)) (rC (⟨s0, r0, (.slice xa gn xc), 0⟩ : Rfd)) (pt_r (⟨0, 0, (.slice none 0 0), 0⟩ : Rfd) (⟨s0, r0, (.slice xa gn xc), 0⟩ : Rfd)) rfl (szR _) (one_r _ _ _ _ _ _) hS ?_
      clear hS
      intro w6 hS
      change Hs17 w [(g5, 27, (rC (⟨s0, r0, (.slice xa gn xc), 0⟩ : Rfd))), (g2, 27, (rC (⟨s0, r0, (.slice (some ⟨xb, 0, none⟩) gn gn), 0⟩ : Rfd)))] _ w6 at hS
      simp [Act.put]
      refine wl (by kernel_rfl) fun kQ hkQ => ?_
      go_simp
      refine hkQ _ _ ?_
      clear hkQ kQ
      refine wpList_nil ?_
      go_upto_region 5 with fail
      refine wp_region_lit ?_
      refine wl (by kernel_rfl) fun kQ hkQ => ?_
      go_simp
      refine hkQ _ _ ?_
      clear hkQ kQ
      refine wl (by kernel_rfl) fun kQ hkQ => ?_
      go_simp
      refine hkQ _ _ ?_
      clear hkQ kQ
      refine wl (by kernel_rfl) fun kQ hkQ => ?_
      go_simp
      refine hkQ _ _ ?_
      clear hkQ kQ
      refine wl (by kernel_rfl) fun kQ hkQ => ?_
      go_simp
      refine hkQ _ _ ?_
      clear hkQ kQ
      refine wl_load (by kernel_rfl) 27 (.tmp 9) rfl 1 rfl 0 rfl (rC (⟨s0, r0, (.slice (some ⟨xb, 0, none⟩) gn gn), 0⟩ : Rfd)) (At.self _) Try.underlying27 rfl (szR _) hS ?_
      simp [Act.put]
      refine wl_load (by kernel_rfl) 27 (.tmp 11) rfl 0 rfl 0 rfl (rC (⟨s0, r0, (.slice xa gn xc), 0⟩ : Rfd)) (At.self _) Try.underlying27 rfl (szR _) hS ?_
      simp [Act.put]
      refine wl (by kernel_rfl) fun kQ hkQ => ?_
      go_simp
      refine (same_t s0 r0 0 (some ⟨xb, 0, none⟩) gn gn N0 xa xc _ hS.K.1.2 hS.K.2 hgn).mono ?_
      rintro e w7 ⟨rfl, hb1⟩
      replace hS := hS.later hb1
      refine hkQ _ _ ?_
      clear hkQ kQ hb1
      refine wl (by kernel_rfl) fun kQ hkQ => ?_
      go_simp
      refine hkQ _ _ ?_
      clear hkQ kQ
      refine wl (by kernel_rfl) fun kQ hkQ => ?_
      go_simp
      refine hkQ _ _ ?_
      clear hkQ kQ
      refine wpList_nil ?_
      go_upto_region 9 with fail
      refine wp_region_lit ?_
      refine wl_load (by kernel_rfl) 27 (.tmp 11) rfl 0 rfl 0 rfl (rC (⟨s0, r0, (.slice xa gn xc), 0⟩ : Rfd)) (At.self _) Try.underlying27 rfl (szR _) hS ?_
      simp [Act.put]
      refine wl (by kernel_rfl) fun kQ hkQ => ?_
      go_simp
      refine (told_t s0 r0 0 xa gn xc N0 _ hS.K.2 hgn).mono ?_
      rintro e w8 ⟨rfl, hb1⟩
      replace hS := hS.later hb1
      refine hkQ _ _ ?_
      clear hkQ kQ hb1
      refine wl (by kernel_rfl) fun kQ hkQ => ?_
      go_simp
      refine hkQ _ _ ?_
      clear hkQ kQ
      refine wpList_nil ?_
      go_wp2_with fail
      go_loopw [13, 14, 15] (fun vi _ _ wr => ∃ (k : Nat) (s r t : Int) (a : Option Addr) (n c : Nat) (l : List Bool), k ≤ zn ∧ n ≤ 1048576 ∧ vi = .int .i64 k ∧ Hs17 w [(g5, 27, (rC (⟨s, r, (.slice a n c), t⟩ : Rfd))), (g2, 27, (rC (⟨s0, r0, (.slice (some ⟨xb, 0, none⟩) gn gn), 0⟩ : Rfd)))] (fun w => (Sq w ⟨za, zn, zc, zx⟩ ∧ Sb w ⟨a, n, c, l⟩)) wr) (fun vi _ _ _ => zn - (intOf vi).toNat)
      case atStart => exact ⟨0, s0, r0, 0, xa, gn, xc, N0, by omega, hgn, rfl, hS.weak (fun w h => ⟨h.1.1, h.2⟩)⟩
      case round =>
        clear hS
        obtain ⟨k, s, r, t, a, n, c, l, hk, hn, rfl, hS⟩ := hrel
        by_cases hlt : k < zn
        · have hkz : (k : Int) < (zn : Int) := by omega
          obtain ⟨⟨sa, sb, jn, ss, sr, sg, ⟨oa, on, oc, ox⟩⟩, b, off, hxe, hza, hbs, hrg, hsk⟩ := hS.K.1.at_ (k := k) hlt
          simp only at hxe hza hsk
          subst hza
          have HCG : Hid (∀ w', Sq w' ⟨some ⟨b, off, none⟩, zn, zc, zx⟩ → w'.rangeAt b (off + k * 7) (tC ⟨sa, sb, jn, ss, sr, sg, .slice oa on oc⟩) ∧ Sk w' ⟨oa, on, oc, ox⟩) := hide (fun w' h => by
            obtain ⟨x2, b2, o2, e2, ea, -, hr, hs2⟩ := h.at_ (k := k) hlt
            simp only at e2 ea
            cases ea
            rw [hxe] at e2; cases e2
            exact ⟨hr, hs2⟩)
          have c6 : wr.cell? ⟨b, off + k * 7 + 6, none⟩ = some (.slice oa on oc) := by have := hrg 6 _ rfl; simpa [Sx.v] using this
          clear hxe hrg hsk
          by_cases hbig : 300 < (on : Int)
          · go_wp2_with fail
            go_ret
            exact ⟨rfl, hS.bel⟩
          · have hon : on ≤ 300 := by omega
            go_upto_region 16 with fail
            clear c6
            go_cut [14, 15] (fun v v' wx => ∃ (gy : Nat) (ps pr pt : Int) (pa : Option Addr) (pn pc : Nat) (pl : List Bool), v = .pointer (some ⟨gy, 0, none⟩) ∧ v' = .bool true ∧ pn ≤ 1048576 ∧ Hs17 w ((gy, 27, (rC (⟨ps, pr, (.slice pa pn pc), pt⟩ : Rfd))) :: [(g5, 27, (rC (⟨s, r, (.slice a n c), t⟩ : Rfd))), (g2, 27, (rC (⟨s0, r0, (.slice (some ⟨xb, 0, none⟩) gn gn), 0⟩ : Rfd)))]) (fun w => ((Sq w ⟨some ⟨b, off, none⟩, zn, zc, zx⟩ ∧ Sb w ⟨a, n, c, l⟩) ∧ Sb w ⟨pa, pn, pc, pl⟩)) wx)
            case first =>
              refine wp_region_noPanic ?_
              replace hS := hS.drew
              refine wp_region_held_drew (S := Hs17 w [(g5, 27, (rC (⟨s, r, (.slice a n c), t⟩ : Rfd))), (g2, 27, (rC (⟨s0, r0, (.slice (some ⟨xb, 0, none⟩) gn gn), 0⟩ : Rfd)))] (fun w => (Sq w ⟨some ⟨b, off, none⟩, zn, zc, zx⟩ ∧ Sb w ⟨a, n, c, l⟩))) (by kernel_rfl) (hS.sub (((List.Sublist.slnil).cons_cons _).cons_cons _)) (fun hHeld => ?_)
              generalize World.drew _ = w81 at hS hHeld ⊢
              refine wpAnyH_take (i := 0) (oi := _) (v := aV (rC (⟨s, r, (.slice a n c), t⟩ : Rfd))) rfl (by kernel_rfl) (by kernel_rfl) (by kernel_rfl) (fun _ _ _ h => h) (yl_load (by kernel_rfl) 27 (.tmp 11) rfl 0 rfl 0 rfl (rC (⟨s, r, (.slice a n c), t⟩ : Rfd)) (At.self _) Try.underlying27 rfl (szR _)) hHeld ?_
              simp [Act.put]
              refine wpAnyH_take (i := 1) (oi := _) (v := (.slice (some ⟨b, off, none⟩) zn zc)) rfl (by kernel_rfl) (by kernel_rfl) (by kernel_rfl) (fun _ _ _ h => h) (Or.inl ⟨by rfl, fun w hSw => by go_simp⟩) hHeld ?_
              simp [Act.put]
              refine wpAnyH_take (i := 2) (oi := _) (v := .int .i64 (k : Int)) rfl (by kernel_rfl) (by kernel_rfl) (by kernel_rfl) (fun _ _ _ h => h) (Or.inl ⟨by rfl, fun w hSw => by go_simp⟩) hHeld ?_
              simp [Act.put]
              refine wpAnyH_take (i := 3) (oi := _) (v := (.pointer (some ⟨b, off + k * 7, none⟩))) rfl (by kernel_rfl) (by kernel_rfl) (by kernel_rfl) (fun _ _ _ h => h) (Or.inl ⟨by rfl, fun w hSw => by go_simp⟩) hHeld ?_
              simp [Act.put]
              refine wpAnyH_take (i := 4) (oi := _) (v := aV (tC (⟨sa, sb, jn, ss, sr, sg, (.slice oa on oc)⟩ : Stp))) rfl (by kernel_rfl) (by kernel_rfl) (by kernel_rfl) (fun _ _ _ h => h) (yl_loadR (by kernel_rfl) 61 (.tmp 64) rfl b (off + k * 7) rfl (tC (⟨sa, sb, jn, ss, sr, sg, (.slice oa on oc)⟩ : Stp)) (fun w hSw => (unhide HCG _ hSw.K.1).1) Try.underlying61 rfl (szT _)) hHeld ?_
              simp [Act.put]
              refine wpAnyH_ready (rs := [5, 9]) (by kernel_rfl) (by simp) ?_
              refine (AllReadyH.cons rfl (fun kQ hkQ => ?_) (AllReadyH.cons rfl (fun kQ hkQ => ?_) AllReadyH.nil))
              · skip
                go_simp
                refine (stepped_t s r t a n c l sa sb jn ss sr sg oa on oc ox _ hS.K.2 (unhide HCG _ hS.K.1).2 hn hon).mono ?_
                rintro e w82 ⟨hU, hb1⟩
                obtain ⟨ps, pr, pt, pa, pn, pc, pl, rfl, hcase⟩ := hU
                obtain ⟨hpn, hS9⟩ := hS.keepO hb1 hcase (fun w h => h.2) hn
                replace hS := hS9
                clear hS9 hcase
                clear hHeld hb1
                refine hkQ.out _ _ ((hS.sub (((List.Sublist.slnil).cons_cons _).cons_cons _)).weak (fun _ h => h.1)) (fun hHeld => ?_)
                clear hkQ kQ
                refine wpAnyH_take (i := 6) (oi := _) (v := .tuple #[aV (rC (⟨ps, pr, (.slice pa pn pc), pt⟩ : Rfd)), .bool true]) rfl (by kernel_rfl) (by kernel_rfl) (by kernel_rfl) (fun _ _ _ h => h) (Or.inl ⟨by rfl, fun w hSw => by go_simp⟩) hHeld ?_
                simp [Act.put]
                refine wpAnyH_take (i := 7) (oi := _) (v := aV (rC (⟨ps, pr, (.slice pa pn pc), pt⟩ : Rfd))) rfl (by kernel_rfl) (by kernel_rfl) (by kernel_rfl) (fun _ _ _ h => h) (Or.inl ⟨by rfl, fun w hSw => by go_simp⟩) hHeld ?_
                simp [Act.put]
                refine wpAnyH_take (i := 8) (oi := _) (v := .bool true) rfl (by kernel_rfl) (by kernel_rfl) (by kernel_rfl) (fun _ _ _ h => h) (Or.inl ⟨by rfl, fun w hSw => by go_simp⟩) hHeld ?_
                simp [Act.put]
                refine wpAnyH_ready (rs := [9]) (by kernel_rfl) (by simp) ?_
                refine (AllReadyH.cons rfl (fun kQ hkQ => ?_) AllReadyH.nil)
                refine dw (by kernel_rfl) (op_alloc' 27 rfl (rC (⟨0, 0, (.slice none 0 0), 0⟩ : Rfd)) Try.inR hS ?_)
                clear hS hHeld
                intro g83 w83 hS
                refine hkQ.out _ _ ((hS.sub ((((List.Sublist.slnil).cons_cons _).cons_cons _).cons _)).weak (fun _ h => h.1)) (fun hHeld => ?_)
                clear hkQ kQ
                simp [Act.put]
                refine wpAnyH_ready (rs := [10]) (by kernel_rfl) (by simp) ?_
                refine (AllReadyH.cons rfl (fun kQ hkQ => ?_) AllReadyH.nil)
                refine dw (by kernel_rfl) (op_store 27 (.tmp 14) (.tmp 67) rfl 0 rfl 0 rfl (rC (⟨ps, pr, (.slice pa pn pc), pt⟩ : Rfd)) (rC (⟨ps, pr, (.slice pa pn pc), pt⟩ : Rfd)) (pt_r (⟨0, 0, (.slice none 0 0), 0⟩ : Rfd) (⟨ps, pr, (.slice pa pn pc), pt⟩ : Rfd)) rfl (szR _) (one_r _ _ _ _ _ _) hS ?_)
                clear hS hHeld
                intro w84 hS
                change Hs17 w [(g83, 27, (rC (⟨ps, pr, (.slice pa pn pc), pt⟩ : Rfd))), (g5, 27, (rC (⟨s, r, (.slice a n c), t⟩ : Rfd))), (g2, 27, (rC (⟨s0, r0, (.slice (some ⟨xb, 0, none⟩) gn gn), 0⟩ : Rfd)))] _ w84 at hS
                refine hkQ.out _ _ ((hS.sub ((((List.Sublist.slnil).cons_cons _).cons_cons _).cons _)).weak (fun _ h => h.1)) (fun hHeld => ?_)
                clear hkQ kQ
                simp [Act.put]
                refine wpAnyH_take (i := 11) (oi := _) (v := .bool true) rfl (by kernel_rfl) (by kernel_rfl) (by kernel_rfl) (fun _ _ _ h => h) (Or.inl ⟨by rfl, fun w hSw => by go_simp⟩) hHeld ?_
                simp [Act.put]
                refine wpAnyH_done (by kernel_rfl) ?_ _
                unfold NoPanic
                clear hHeld
                go_wp2
                go_meet
                case rel => exact ⟨_, ps, pr, pt, pa, pn, pc, pl, rfl, rfl, hpn, hS⟩
              · skip
                refine dw (by kernel_rfl) (op_alloc' 27 rfl (rC (⟨0, 0, (.slice none 0 0), 0⟩ : Rfd)) Try.inR hS ?_)
                clear hS hHeld
                intro g85 w85 hS
                refine hkQ.out _ _ (hS.sub ((((List.Sublist.slnil).cons_cons _).cons_cons _).cons _)) (fun hHeld => ?_)
                clear hkQ kQ
                simp [Act.put]
                refine wpAnyH_ready (rs := [5]) (by kernel_rfl) (by simp) ?_
                refine (AllReadyH.cons rfl (fun kQ hkQ => ?_) AllReadyH.nil)
                go_simp
                refine (stepped_t s r t a n c l sa sb jn ss sr sg oa on oc ox _ hS.K.2 (unhide HCG _ hS.K.1).2 hn hon).mono ?_
                rintro e w86 ⟨hU, hb1⟩
                obtain ⟨ps, pr, pt, pa, pn, pc, pl, rfl, hcase⟩ := hU
                obtain ⟨hpn, hS9⟩ := hS.keepO hb1 hcase (fun w h => h.2) hn
                replace hS := hS9
                clear hS9 hcase
                clear hHeld hb1
                refine hkQ.out _ _ ((hS.sub ((((List.Sublist.slnil).cons_cons _).cons_cons _).cons _)).weak (fun _ h => h.1)) (fun hHeld => ?_)
                clear hkQ kQ
                refine wpAnyH_take (i := 6) (oi := _) (v := .tuple #[aV (rC (⟨ps, pr, (.slice pa pn pc), pt⟩ : Rfd)), .bool true]) rfl (by kernel_rfl) (by kernel_rfl) (by kernel_rfl) (fun _ _ _ h => h) (Or.inl ⟨by rfl, fun w hSw => by go_simp⟩) hHeld ?_
                simp [Act.put]
                refine wpAnyH_take (i := 7) (oi := _) (v := aV (rC (⟨ps, pr, (.slice pa pn pc), pt⟩ : Rfd))) rfl (by kernel_rfl) (by kernel_rfl) (by kernel_rfl) (fun _ _ _ h => h) (Or.inl ⟨by rfl, fun w hSw => by go_simp⟩) hHeld ?_
                simp [Act.put]
                refine wpAnyH_take (i := 8) (oi := _) (v := .bool true) rfl (by kernel_rfl) (by kernel_rfl) (by kernel_rfl) (fun _ _ _ h => h) (Or.inl ⟨by rfl, fun w hSw => by go_simp⟩) hHeld ?_
                simp [Act.put]
                refine wpAnyH_ready (rs := [10]) (by kernel_rfl) (by simp) ?_
                refine (AllReadyH.cons rfl (fun kQ hkQ => ?_) AllReadyH.nil)
                refine dw (by kernel_rfl) (op_store 27 (.tmp 14) (.tmp 67) rfl 0 rfl 0 rfl (rC (⟨ps, pr, (.slice pa pn pc), pt⟩ : Rfd)) (rC (⟨ps, pr, (.slice pa pn pc), pt⟩ : Rfd)) (pt_r (⟨0, 0, (.slice none 0 0), 0⟩ : Rfd) (⟨ps, pr, (.slice pa pn pc), pt⟩ : Rfd)) rfl (szR _) (one_r _ _ _ _ _ _) hS ?_)
                clear hS hHeld
                intro w87 hS
                change Hs17 w [(g85, 27, (rC (⟨ps, pr, (.slice pa pn pc), pt⟩ : Rfd))), (g5, 27, (rC (⟨s, r, (.slice a n c), t⟩ : Rfd))), (g2, 27, (rC (⟨s0, r0, (.slice (some ⟨xb, 0, none⟩) gn gn), 0⟩ : Rfd)))] _ w87 at hS
                refine hkQ.out _ _ ((hS.sub ((((List.Sublist.slnil).cons_cons _).cons_cons _).cons _)).weak (fun _ h => h.1)) (fun hHeld => ?_)
                clear hkQ kQ
                simp [Act.put]
                refine wpAnyH_take (i := 11) (oi := _) (v := .bool true) rfl (by kernel_rfl) (by kernel_rfl) (by kernel_rfl) (fun _ _ _ h => h) (Or.inl ⟨by rfl, fun w hSw => by go_simp⟩) hHeld ?_
                simp [Act.put]
                refine wpAnyH_done (by kernel_rfl) ?_ _
                unfold NoPanic
                clear hHeld
                go_wp2
                go_meet
                case rel => exact ⟨_, ps, pr, pt, pa, pn, pc, pl, rfl, rfl, hpn, hS⟩
            case rest =>
              obtain ⟨gy, ps, pr, pt, pa, pn, pc, pl, rfl, rfl, hpn, hS⟩ := hcut
              go_upto_region 17 with fail
              refine wp_region_lit ?_
              refine wl (by kernel_rfl) fun kQ hkQ => ?_
              go_simp
              refine hkQ _ _ ?_
              clear hkQ kQ
              refine wl (by kernel_rfl) fun kQ hkQ => ?_
              go_simp
              refine hkQ _ _ ?_
              clear hkQ kQ
              refine wl (by kernel_rfl) fun kQ hkQ => ?_
              go_simp
              refine hkQ _ _ ?_
              clear hkQ kQ
              refine wl_load (by kernel_rfl) 27 (.tmp 14) rfl 0 rfl 0 rfl (rC (⟨ps, pr, (.slice pa pn pc), pt⟩ : Rfd)) (At.self _) Try.underlying27 rfl (szR _) hS ?_
              simp [Act.put]
              refine wl (by kernel_rfl) fun kQ hkQ => ?_
              go_simp
              refine (told_t ps pr pt pa pn pc pl _ hS.K.2 hpn).mono ?_
              rintro e w61 ⟨rfl, hb1⟩
              replace hS := hS.later hb1
              refine hkQ _ _ ?_
              clear hkQ kQ hb1
              refine wl (by kernel_rfl) fun kQ hkQ => ?_
              go_simp
              refine hkQ _ _ ?_
              clear hkQ kQ
              refine wl (by kernel_rfl) fun kQ hkQ => ?_
              go_simp
              refine hkQ _ _ ?_
              clear hkQ kQ
              refine wpList_nil ?_
              go_upto_region 19 with fail
              refine wp_region_lit ?_
              refine wl_load (by kernel_rfl) 27 (.tmp 14) rfl 0 rfl 0 rfl (rC (⟨ps, pr, (.slice pa pn pc), pt⟩ : Rfd)) (At.self _) Try.underlying27 rfl (szR _) hS ?_
              simp [Act.put]
              refine wl_store (by kernel_rfl) 27 (.tmp 11) (.tmp 76) rfl 1 rfl 0 rfl (rC (⟨ps, pr, (.slice pa pn pc), pt⟩ : Rfd)) (rC (⟨ps, pr, (.slice pa pn pc), pt⟩ : Rfd)) (pt_r (⟨s, r, (.slice a n c), t⟩ : Rfd) (⟨ps, pr, (.slice pa pn pc), pt⟩ : Rfd)) rfl (szR _) (one_r _ _ _ _ _ _) hS ?_
              clear hS
              intro w62 hS
              change Hs17 w [(gy, 27, (rC (⟨ps, pr, (.slice pa pn pc), pt⟩ : Rfd))), (g5, 27, (rC (⟨ps, pr, (.slice pa pn pc), pt⟩ : Rfd))), (g2, 27, (rC (⟨s0, r0, (.slice (some ⟨xb, 0, none⟩) gn gn), 0⟩ : Rfd)))] _ w62 at hS
              simp [Act.put]
              refine wpList_nil ?_
              go_wp2
              go_roundw
              case rel => exact ⟨k + 1, ps, pr, pt, pa, pn, pc, pl, by omega, hpn, by go_num, (hS.sub ((((List.Sublist.slnil).cons_cons _).cons_cons _).cons _)).weak (fun w h => ⟨h.1.1, h.2⟩)⟩
              case measure => simp [intOf]; omega
        · have hkz : ¬ (k : Int) < (zn : Int) := by omega
          go_wp2_with fail
          go_ret
          exact ⟨rfl, hS.bel⟩
end Go.Proofs.Ytjedgkcpkieaeaa
