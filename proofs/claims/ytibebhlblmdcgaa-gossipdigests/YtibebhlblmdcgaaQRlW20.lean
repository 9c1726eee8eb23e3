import Derived.Test.YtibebhlblmdcgaaQLkW
import Derived.Deep.QuietTactic
import Derived.BigQuiet
set_option linter.unusedSimpArgs false
set_option linter.unusedVariables false
namespace Go.Proofs.Ytibebhlblmdcgaa
open Go.RowKit

theorem filt_take {p : Ent → Bool} {l : List Ent} {k : Nat} {x : Ent} (h : l[k]? = some x) : (l.take (k + 1)).filter p = (l.take k).filter p ++ (if p x then [x] else []) := by
  rw [List.take_add_one, h, List.filter_append]
  simp only [Option.toList_some]
  cases hp : p x <;> simp [hp]
set_option maxHeartbeats 2000000 in
set_option maxRecDepth 100000 in
theorem rlacks_any (f : Flr) (acc : Int) (s : Sx Ent) (h : Sx Smy) (w : World) (hf : f.Ok) (hs : Es w s) (hh : Sy w h) (hn : h.n ≤ 100000000) (hb : (s.n + 1) * 296 ≤ 140737488355328) :
    Calls Try.prog 11 #[aV (gC f acc s.v), h.v] w fun r w' => ∃ v, r = .returned v ∧ Oe w' w.heap.size v (s.xs.filter fun e => lackB e h.xs) ∧ Below w.heap.size w w' := by
  obtain ⟨sa, sn, sc, sx⟩ := s
  obtain ⟨ha, hnn, hc, hx⟩ := h
  have hlen : sx.length = sn := hs.ok.len
  have hS := Hs17.begin w (fun w' => Es w' ⟨sa, sn, sc, sx⟩ ∧ Sy w' ⟨ha, hnn, hc, hx⟩) (fun w' ho => ⟨hs.old ho, Sy.old hh ho⟩)
  have HL := hide hlen
  have HBd := hide hb
  have HN := hide hn
  have hsm : sn ≤ 475464663362 := by simp only at hb; omega
  simp only [Sx.v]
  clear hs hh hlen hb hn
  go_enter Try.func11, Try.ntmps11
  go_upto_region 0 with fail
  refine wp_region_lit ?_
  refine wl_box (by kernel_rfl) 30 (.tmp 0) rfl (gC f acc (.slice sa sn sc)) rfl hS ?_
  clear hS
  intro g1 w1 hS
  simp [Act.put]
  refine wl (by kernel_rfl) fun kQ hkQ => ?_
  go_simp
  refine hkQ _ _ ?_
  clear hkQ kQ
  refine wpList_nil ?_
  have hA1 : Arr w1 g1 30 (gC f acc (.slice sa sn sc)) := hS.get 0 rfl
  have HE := hide hS.K.1
  have HH := hide hS.K.2
  have HBW := hide hS.bel
  have HA1 := hide hA1
  clear hS hA1
  go_wp2_with fail
  go_loopw [5, 6] (fun v i wr => ∃ k : Nat, k ≤ sn ∧ i = .int .i64 k ∧ Oe wr w1.heap.size v ((sx.take k).filter fun e => lackB e hx) ∧ Below w1.heap.size w1 wr) (fun _ i _ => sn - (intOf i).toNat)
  case atStart => exact ⟨0, by omega, rfl, by simpa using Oe.nil w1 w1.heap.size, Below.refl _ _⟩
  case round =>
    obtain ⟨k, hk, rfl, hO, hbl⟩ := hrel
    have c66 : wr.cell? ⟨g1, 66, none⟩ = some (.slice sa sn sc) := by have := (at_gr hf acc (.slice sa sn sc)).range ((unhide HA1).later hbl) 0 _ rfl; simpa using this
    have HB := hide hbl
    by_cases hlt : k < sn
    · obtain ⟨x, b, off, hge, hxo, hsa, hbs, hrg1⟩ := (unhide HE).at_ (k := k) hlt
      simp only at hge hsa
      subst hsa
      have hrg : wr.rangeAt b (off + k * 262) (eC x) := rangeAt_blk hrg1 (hbl.block b hbs)
      have hbs2 : b < wr.heap.size := Nat.lt_of_lt_of_le hbs hbl.size
      have hts := filt_take (p := fun e => lackB e hx) hge
      have hlenX : ((sx.take k).filter fun e => lackB e hx).length ≤ sn := by have := List.length_filter_le (fun e => lackB e hx) (sx.take k); rw [List.length_take] at this; omega
      have hkz : (k : Int) < (sn : Int) := by omega
      obtain ⟨Y, hY⟩ : ∃ Y, ((sx.take k).filter fun e => lackB e hx) = Y := ⟨_, rfl⟩
      rw [hY] at hO hlenX hts
      have HTS := hide hts
      have hA1 := (unhide HA1).later hbl
      have hS := Hs17.begin wr (fun w' => w'.rangeAt b (off + k * 262) (eC x) ∧ Oe w' w1.heap.size u5 Y ∧ Sy w' ⟨ha, hnn, hc, hx⟩ ∧ Arr w' g1 30 (gC f acc (.slice (some ⟨b, off, none⟩) sn sc))) (fun w' ho => ⟨rangeAt_old hrg hbs2 ho, hO.old ho, Sy.old ((unhide HH).later (unhide HB)) ho, hA1.old ho⟩)
      have HX := hide hlenX
      have HOK := hide hO
      clear hlenX hge hrg hO hbl hts hY hbs hbs2 hrg1 hA1
      go_upto_region 5 with fail
      refine wp_region_lit ?_
      refine wl (by kernel_rfl) fun kQ hkQ => ?_
      go_simp
      refine hkQ _ _ ?_
      clear hkQ kQ
      refine wl (by kernel_rfl) fun kQ hkQ => ?_
      go_simp
      refine hkQ _ _ ?_
      clear hkQ kQ
      refine wl (by kernel_rfl) fun kQ hkQ => ?_
      go_simp
      refine hkQ _ _ ?_
      clear hkQ kQ
      refine wl (by kernel_rfl) fun kQ hkQ => ?_
      go_simp
      refine hkQ _ _ ?_
      clear hkQ kQ
      refine wv (aV (eC x)) (by kernel_rfl) (ex_loadR 45 (.tmp 17) rfl (b) (off + k * 262) rfl (eC x) hS.K.1 Try.underlying45 rfl (szE hxo)) ?_
      simp [Act.put]
      refine wl (by kernel_rfl) fun kQ hkQ => ?_
      go_simp
      refine hkQ _ _ ?_
      clear hkQ kQ
      refine wl (by kernel_rfl) fun kQ hkQ => ?_
      go_simp
      refine (lacking_any x ⟨ha, hnn, hc, hx⟩ _ hxo hS.K.2.2.1 (unhide HN)).mono ?_
      rintro e w21 ⟨rfl, hb1⟩
      replace hS := hS.later hb1
      refine hkQ _ _ ?_
      clear hkQ kQ hb1
      refine wpList_nil ?_
      clear c66
      have c66 := (at_gr hf acc (.slice (some ⟨b, off, none⟩) sn sc)).range hS.K.2.2.2 0 _ rfl
      simp only [Nat.add_zero, Nat.zero_add] at c66
      cases hlb : lackB x hx with
      | false =>
        have HC : Hid ((sx.take (k + 1)).filter (fun e => lackB e hx) = Y) := hide (by rw [unhide HTS, hlb]; simp)
        clear hlb
        go_wp2
        go_roundw
        case rel => exact ⟨k + 1, by omega, by go_num, by rw [unhide HC]; exact hS.K.2.1, (unhide HB).trans (hS.bel.mono (unhide HB).size)⟩
        case measure => simp [intOf]; omega
      | true =>
        have HC : Hid ((sx.take (k + 1)).filter (fun e => lackB e hx) = Y ++ [x]) := hide (by rw [unhide HTS, hlb]; simp)
        clear hlb
        go_upto_region 6 with fail
        refine wp_region_lit ?_
        refine wl (by kernel_rfl) fun kQ hkQ => ?_
        go_simp
        refine hkQ _ _ ?_
        clear hkQ kQ
        refine wl (by kernel_rfl) fun kQ hkQ => ?_
        go_simp
        refine hkQ _ _ ?_
        clear hkQ kQ
        refine wl (by kernel_rfl) fun kQ hkQ => ?_
        go_simp
        refine hkQ _ _ ?_
        clear hkQ kQ
        refine wl (by kernel_rfl) fun kQ hkQ => ?_
        go_simp
        refine hkQ _ _ ?_
        clear hkQ kQ
        refine wl (by kernel_rfl) fun kQ hkQ => ?_
        go_simp
        refine hkQ _ _ ?_
        clear hkQ kQ
        refine wv (aV (eC x)) (by kernel_rfl) (ex_loadR 45 (.tmp 25) rfl (b) (off + k * 262) rfl (eC x) hS.K.1 Try.underlying45 rfl (szE hxo)) ?_
        simp [Act.put]
        refine wl (by kernel_rfl) fun k hk => ?_
        refine op_bs1 28 (.tmp 26) rfl x hxo rfl hS ?_
        clear hS
        intro g9 w9 hS
        refine hk _ _ ?_
        clear hk k
        simp [Act.put]
        refine wl_append (by kernel_rfl) (.tmp 21) (.tmp 27) rfl rfl hS.K.2.1 ⟨some ⟨g9, 0, none⟩, 1, 1, [x]⟩ (es_one hS hxo) rfl (by have := unhide HX; have := unhide HBd; simp only at *; omega) (Nat.le_trans (unhide HB).size hS.bel.size) ?_
        intro v' w' hO' hg9
        have hbw : Below w1.heap.size w1 w' := ((unhide HB).trans (hS.bel.mono (unhide HB).size)).trans ((hS.K.2.1).bel hg9 (Nat.le_refl _) (Nat.le_trans (unhide HB).size hS.bel.size))
        simp [Act.put]
        clear hS hg9
        refine wl (by kernel_rfl) fun kQ hkQ => ?_
        go_simp
        refine hkQ _ _ ?_
        clear hkQ kQ
        refine wpList_nil ?_
        clear c66
        go_wp2
        go_roundw
        case rel => exact ⟨k + 1, by omega, by go_num, by rw [unhide HC]; exact hO', hbw⟩
        case measure => simp [intOf]; omega
    · have hkd : decide ((k : Int) < (sn : Int)) = false := by simp; omega
      have hke : sx.take k = sx := List.take_of_length_le (by rw [unhide HL]; omega)
      rw [hke] at hO
      have HO := hide hO
      clear hO hbl hke
      go_wp2_with fail
      go_ret
      exact ⟨_, rfl, (unhide HO).mono (unhide HBW).size, (unhide HBW).trans ((unhide HB).mono (unhide HBW).size)⟩
end Go.Proofs.Ytibebhlblmdcgaa
