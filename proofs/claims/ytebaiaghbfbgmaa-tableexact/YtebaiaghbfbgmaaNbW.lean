import Derived.Test.YtebaiaghbfbgmaaMoM
set_option linter.unusedSimpArgs false
set_option linter.unusedVariables false
namespace Go.Proofs.Ytebaiaghbfbgmaa
open Go.RowKit

/-- the rows that are not below -/
def nbX (l : List Ent) (n : Int) : List Ent := l.filter fun e => decide (n ≤ e.cert.serial)
theorem nbX_take {l : List Ent} {k : Nat} {e : Ent} {n : Int} (h : l[k]? = some e) : nbX (l.take (k + 1)) n = nbX (l.take k) n ++ (if n ≤ e.cert.serial then [e] else []) := by
  rw [List.take_add_one, h]
  simp only [nbX, List.filter_append, Option.toList_some]
  congr 1
  by_cases hq : n ≤ e.cert.serial <;> simp [hq]
theorem nbX_len (l : List Ent) (n : Int) : (nbX l n).length ≤ l.length := List.length_filter_le _ _

set_option maxHeartbeats 2000000 in
set_option maxRecDepth 100000 in
theorem notBelow_any (s : Sx Ent) (n : Int) (w : World) (hs : Es w s) (hb : s.n * 296 ≤ 140737488355328) :
    Calls Try.prog 23 #[s.v, .int .i64 n] w fun e w' => ∃ v, e = .returned v ∧ Oe w' w.heap.size v (nbX s.xs n) ∧ Below w.heap.size w w' := by
  obtain ⟨sa, sn, sc, sx⟩ := s
  have hlen : sx.length = sn := hs.ok.len
  have hle : sn ≤ sc := hs.ok.le
  have hmx : sc ≤ maxLen := hs.ok.mx
  have HE := hide hs
  have HL := hide hlen
  have HBd := hide hb
  have hsm : sn ≤ 475464663362 := by simp only at hb; omega
  simp only [Sx.v]
  clear hs hlen hb hle hmx
  go_enter Try.func23, Try.ntmps23
  go_wp2_with fail
  go_loopw [5, 7, 10] (fun v r i wr => ∃ k : Nat, k ≤ sn ∧ i = .int .i64 k ∧ Oe wr w.heap.size v (nbX (sx.take k) n) ∧ Below w.heap.size w wr) (fun _ _ i _ => sn - (intOf i).toNat)
  case atStart => exact ⟨0, by omega, rfl, by simpa [nbX] using Oe.nil w w.heap.size, Below.refl _ _⟩
  case round =>
    obtain ⟨k, hk, rfl, hO, hbl⟩ := hrel
    have hEw := (unhide HE).later hbl
    have HB := hide hbl
    by_cases hlt : k < sn
    · obtain ⟨e, b, off, hge, heo, hsa, hbs, hrg⟩ := hEw.at_ (k := k) hlt
      simp only at hge hsa
      subst hsa
      have hcat := nbX_take (n := n) hge
      have hlenX : (nbX (sx.take k) n).length + 1 ≤ sn := by have := nbX_len (sx.take k) n; rw [List.length_take] at this; omega
      generalize hX : nbX (sx.take k) n = X at hO hcat hlenX
      have hS := Hs17.begin wr (fun w' => w'.rangeAt b (off + k * 262) (eC e) ∧ Oe w' w.heap.size u5 X) (fun w' ho => ⟨rangeAt_old hrg hbs ho, hO.old ho⟩)
      have HX := hide hlenX
      have hkz : (k : Int) < (sn : Int) := by omega
      clear hlenX hge hrg hEw hO hbl hX hbs
      by_cases hq : n ≤ e.cert.serial
      · rw [if_pos hq] at hcat
        have HC := hide hcat
        have d1 : decide (n ≤ e.cert.serial) = true := decide_eq_true hq
        clear hcat hq
        go_upto_region 4 with fail
        refine wp_region_lit ?_
        refine wl (by kernel_rfl) fun k hk => ?_
        go_simp
        refine hk _ _ ?_
        clear hk k
        refine wv (aV (eC e)) (by kernel_rfl) (ex_loadR 37 (.tmp 12) rfl (b) (off + k * 262) rfl (eC e) hS.K.1 Try.underlying37 rfl (szE heo)) ?_
        simp [Act.put]
        refine wl_alloc (by kernel_rfl) 37 rfl (eC zEnt) Try.inE' hS ?_
        clear hS
        intro g1 w1 hS
        simp [Act.put]
        refine wl_store (by kernel_rfl) 37 (.tmp 7) (.tmp 13) rfl 0 rfl 0 rfl (eC e) (eC e) (pt_e zEnt_ok heo) rfl (szE heo) (one_e _) hS ?_
        clear hS
        intro w2 hS
        change Hs17 wr [(g1, 37, (eC e))] _ w2 at hS
        simp [Act.put]
        refine wpList_nil ?_
        go_upto_region 5 with fail
        refine wp_region_lit ?_
        refine wl (by kernel_rfl) fun k hk => ?_
        go_simp
        refine hk _ _ ?_
        clear hk k
        refine wl (by kernel_rfl) fun k hk => ?_
        go_simp
        refine hk _ _ ?_
        clear hk k
        refine wl_load1 (by kernel_rfl) 3 (.tmp 15) rfl 0 rfl 0 rfl (.int .i64 e.cert.serial) ((at_cert e).trans (at_ser e.cert) rfl) Try.underlying3 rfl hS ?_
        simp [Act.put]
        refine wl (by kernel_rfl) fun k hk => ?_
        go_simp
        refine hk _ _ ?_
        clear hk k
        refine wl (by kernel_rfl) fun k hk => ?_
        go_simp
        refine hk _ _ ?_
        clear hk k
        refine wpList_nil ?_
        go_upto_region 6 with fail
        refine wp_region_lit ?_
        refine wl (by kernel_rfl) fun k hk => ?_
        go_simp
        refine hk _ _ ?_
        clear hk k
        refine wl_load (by kernel_rfl) 37 (.tmp 7) rfl 0 rfl 0 rfl (eC e) (At.self _) Try.underlying37 rfl (szE heo) hS ?_
        simp [Act.put]
        refine wl (by kernel_rfl) fun k hk => ?_
        refine op_bs1 27 (.tmp 20) rfl e heo rfl hS ?_
        clear hS
        intro g9 w9 hS
        refine hk _ _ ?_
        clear hk k
        simp [Act.put]
        refine wl_append (by kernel_rfl) (.tmp 19) (.tmp 21) rfl rfl hS.K.2 ⟨some ⟨g9, 0, none⟩, 1, 1, [e]⟩ (es_one hS heo) rfl (by have := unhide HX; have := unhide HBd; simp only at *; omega) (Nat.le_trans (unhide HB).size hS.bel.size) ?_
        intro v' w' hO' hg'
        have hbw : Below w.heap.size w w' := ((unhide HB).trans (hS.bel.mono (unhide HB).size)).trans (hS.K.2.bel hg' (Nat.le_refl _) (Nat.le_trans (unhide HB).size hS.bel.size))
        simp [Act.put]
        refine wl (by kernel_rfl) fun k hk => ?_
        go_simp
        refine hk _ _ ?_
        clear hk k
        refine wpList_nil ?_
        go_wp2
        go_roundw
        case rel => exact ⟨k + 1, by omega, by go_num, by rw [unhide HC]; exact hO', hbw⟩
        case measure => simp [intOf]; omega
      · rw [if_neg hq] at hcat
        have HC := hide hcat
        have d1 : decide (n ≤ e.cert.serial) = false := decide_eq_false hq
        clear hcat hq
        go_upto_region 4 with fail
        refine wp_region_lit ?_
        refine wl (by kernel_rfl) fun k hk => ?_
        go_simp
        refine hk _ _ ?_
        clear hk k
        refine wv (aV (eC e)) (by kernel_rfl) (ex_loadR 37 (.tmp 12) rfl (b) (off + k * 262) rfl (eC e) hS.K.1 Try.underlying37 rfl (szE heo)) ?_
        simp [Act.put]
        refine wl_alloc (by kernel_rfl) 37 rfl (eC zEnt) Try.inE' hS ?_
        clear hS
        intro g1 w1 hS
        simp [Act.put]
        refine wl_store (by kernel_rfl) 37 (.tmp 7) (.tmp 13) rfl 0 rfl 0 rfl (eC e) (eC e) (pt_e zEnt_ok heo) rfl (szE heo) (one_e _) hS ?_
        clear hS
        intro w2 hS
        change Hs17 wr [(g1, 37, (eC e))] _ w2 at hS
        simp [Act.put]
        refine wpList_nil ?_
        go_upto_region 5 with fail
        refine wp_region_lit ?_
        refine wl (by kernel_rfl) fun k hk => ?_
        go_simp
        refine hk _ _ ?_
        clear hk k
        refine wl (by kernel_rfl) fun k hk => ?_
        go_simp
        refine hk _ _ ?_
        clear hk k
        refine wl_load1 (by kernel_rfl) 3 (.tmp 15) rfl 0 rfl 0 rfl (.int .i64 e.cert.serial) ((at_cert e).trans (at_ser e.cert) rfl) Try.underlying3 rfl hS ?_
        simp [Act.put]
        refine wl (by kernel_rfl) fun k hk => ?_
        go_simp
        refine hk _ _ ?_
        clear hk k
        refine wl (by kernel_rfl) fun k hk => ?_
        go_simp
        refine hk _ _ ?_
        clear hk k
        refine wpList_nil ?_
        have hbw := (unhide HB).trans (hS.bel.mono (unhide HB).size)
        have hO' := hS.K.2
        go_wp2
        go_roundw
        case rel => exact ⟨k + 1, by omega, by go_num, by rw [unhide HC, List.append_nil]; exact hO', hbw⟩
        case measure => simp [intOf]; omega
    · have hkd : decide ((k : Int) < (sn : Int)) = false := by simp; omega
      have hke : sx.take k = sx := List.take_of_length_le (by rw [unhide HL]; omega)
      rw [hke] at hO
      have HO := hide hO
      clear hO hbl hEw hke
      go_wp2_with fail
      go_ret
      exact ⟨_, rfl, unhide HO, unhide HB⟩
end Go.Proofs.Ytebaiaghbfbgmaa
