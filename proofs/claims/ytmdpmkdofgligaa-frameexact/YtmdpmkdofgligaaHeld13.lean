import Derived.Test.YtmdpmkdofgligaaHeldM13
import Derived.Deep.QuietTactic
import Derived.BigQuiet
namespace Go.Proofs.Ytmdpmkdofgligaa
open Go.RowKit

theorem below_drew (w : World) : Below w.heap.size w w.drew := ⟨rfl, rfl, rfl, Nat.le_refl _, fun _ _ => rfl⟩

theorem own_form0 {w : World} {base e n : Nat} {v : Value} {xs : List Value} (h : w.ownsRow base e 1 v n xs) : ∃ a c, v = .slice a n c ∧ (0 < n → ∃ g, a = some ⟨g, 0, none⟩) := by
  rcases h.2 with ⟨rfl, rfl⟩ | ⟨g, cap, cur, rfl, -⟩
  · exact ⟨none, 0, rfl, fun h => by omega⟩
  · exact ⟨_, cap, rfl, fun _ => ⟨g, rfl⟩⟩
/-- what a look at a list reads -/
theorem row_at {w wr : World} {e N : Nat} {P : Nat → Sl} {g c : Nat} (h : wr.ownsRow w.heap.size e 1 (.slice (some ⟨g, 0, none⟩) N c) N (vsOf P N)) (i : Nat) (hi : i < N) : wr.cell? ⟨g, i, none⟩ = some (P i).v := by
  rw [h.cellAt i (by omega), vsOf_at P N i hi]

theorem same_yes (a b : Sl) (w : World) (ha : a.Ok w) (hb : b.Ok w) (hn : a.n ≤ 1099511627776) (h : a.l = b.l) :
    Calls Try.prog 15 #[a.v, b.v] w fun e w' => e = .returned (.bool true) ∧ ∃ k, w' = w.drewN k :=
  (same_any a b w ha hb hn).mono fun e w' ⟨e1, e2⟩ => ⟨by rw [e1, decide_eq_true h], e2⟩
set_option maxHeartbeats 8000000 in
set_option maxRecDepth 100000 in
theorem held_any {w : World} {gS N : Nat} {P Q : Nat → Sl} {lv wv : Value} {w0 : World} (h0 : Shf w gS N P Q lv wv w0) (hN : N ≤ 4000000000000) :
    Calls Try.prog 6 #[.pointer (some ⟨gS, 0, none⟩)] w0 fun e w' => e = .returned (.bool true) ∧ Below w.heap.size w w' := by
  obtain ⟨la, lc, rfl, hla⟩ := own_form0 h0.lrow
  obtain ⟨wa, wc, rfl, hwa⟩ := own_form0 h0.wrow
  go_enter Try.func6, Try.ntmps6
  go_wp2_with fail
  go_loopw [3] (fun i wr => ∃ j : Nat, j ≤ N ∧ i = .int .i64 j ∧ Shf w gS N P Q (.slice la N lc) (.slice wa N wc) wr) (fun i _ => N - (intOf i).toNat)
  case atStart => exact ⟨0, by omega, rfl, h0⟩
  case round =>
    clear h0
    obtain ⟨j, hj, rfl, hS⟩ := hrel
    have cl : wr.cell? ⟨gS, 0, none⟩ = some (.slice la N lc) := by rw [hS.s.cell]; rfl
    have cw : wr.cell? ⟨gS, 1, none⟩ = some (.slice wa N wc) := by rw [hS.s.cell]; rfl
    by_cases hlt : j < N
    · obtain ⟨gl, rfl⟩ := hla (by omega)
      obtain ⟨gw, rfl⟩ := hwa (by omega)
      have hjz : (j : Int) < (N : Int) := by omega
      have okp := (hS.p j hlt).ok
      have okq := hS.q j hlt
      have he := hS.eq j hlt
      have hsz := hS.sz j hlt
      have c1 := row_at hS.lrow j hlt
      have c2 := row_at hS.wrow j hlt
      generalize hp : P j = p at okp c1 he hsz
      generalize hq : Q j = q at okq c2 he
      obtain ⟨pa, pn, pc, pl⟩ := p
      obtain ⟨qa, qn, qc, ql⟩ := q
      simp only [Sl.v] at c1 c2
      have HS := hide hS
      clear hp hq hS
      go_wp2_with fail
      go_region_held3 (fun w' => w'.cell? ⟨gS, 0, none⟩ = some (.slice (some ⟨gl, 0, none⟩) N lc) ∧ w'.cell? ⟨gS, 1, none⟩ = some (.slice (some ⟨gw, 0, none⟩) N wc) ∧ w'.cell? ⟨gl, j, none⟩ = some (.slice pa pn pc) ∧ w'.cell? ⟨gw, j, none⟩ = some (.slice qa qn qc))
        (first | go_keep | exact ⟨cl, cw, c1, c2⟩)
        (first
          | (go_at_call 15
             refine (same_yes ⟨pa, pn, pc, pl⟩ ⟨qa, qn, qc, ql⟩ _ (Sl.Ok.later okp (below_drew _)) (Sl.Ok.later okq (below_drew _)) (by show pn ≤ _; have h : pn ≤ 100000 := hsz; omega) he).mono ?_
             rintro e w9 ⟨rfl, kk, rfl⟩))
      go_wp2
      go_roundw
      case rel => exact ⟨j + 1, by omega, by go_num, (unhide HS).later (below_drewN (Below.refl _ _) _)⟩
      case measure => simp [intOf]; omega
    · have hjN : j = N := by omega
      subst hjN
      have hH : Hd w gS j P (.slice la j lc) (.slice wa j wc) (overTo P 0 0) wr := (Hd.of hS).congr (fun x _ => overTo_zero P x)
      have hlen : ∀ x, x < j → (P x).l.length = (P x).n := fun x hx => (hS.p x hx).ok.len
      have HLEN := hide hlen
      have hxd : decide ((j : Int) < (j : Int)) = false := by simp
      clear hS hlen
      go_wp2_with fail
      clear cl cw hxd hlt hj
      go_loopw [4] (fun i wr => ∃ k : Nat, k ≤ j ∧ i = .int .i64 k ∧ Hd w gS j P (.slice la j lc) (.slice wa j wc) (overTo P k 0) wr) (fun i _ => j - (intOf i).toNat)
      case atStart => exact ⟨0, by omega, rfl, hH⟩
      case round =>
        clear hH
        obtain ⟨i, hi, rfl, hH⟩ := hrel
        have cl : wr.cell? ⟨gS, 0, none⟩ = some (.slice la j lc) := by rw [hH.s.cell]; rfl
        by_cases hlt : i < j
        · obtain ⟨gl, rfl⟩ := hla (by omega)
          have hiz : (i : Int) < (j : Int) := by omega
          go_wp2_with fail
          clear cl
          go_loopw [5] (fun kv wr => ∃ k : Nat, k ≤ (P i).n ∧ kv = .int .i64 k ∧ Hd w gS j P (.slice (some ⟨gl, 0, none⟩) j lc) (.slice wa j wc) (overTo P i k) wr) (fun kv _ => (P i).n - (intOf kv).toNat)
          case atStart => exact ⟨0, by omega, rfl, hH⟩
          case round =>
            clear hH
            obtain ⟨k, hk, rfl, hH⟩ := hrel
            have cl : wr.cell? ⟨gS, 0, none⟩ = some (.slice (some ⟨gl, 0, none⟩) j lc) := by rw [hH.s.cell]; rfl
            have c1 := row_at hH.lrow i hlt
            simp only [Sl.v] at c1
            by_cases hkn : k < (P i).n
            · obtain ⟨g, E, hg, -, hA⟩ := hH.rows i hlt (by omega)
              have hset := hH.set i hlt g k hg (by omega) hkn (mkB i) (mkB_bd i)
              have hH2 := hset.congr (fun x _ => overTo_set (by rw [unhide HLEN i hlt]; exact hkn) x)
              have ck := hA.cell8E k (by rw [hH.len i hlt]; exact hkn)
              have fz := hA.frozen k
              have hfull := hH.full i hlt
              have hsz := hH.sz i hlt
              rw [hg, hfull] at c1
              have hkz : (k : Int) < ((P i).n : Int) := by omega
              have hmk : (2 * (i : Int) + 1) % 256 = mkB i := rfl
              generalize (overTo P i k i).getD k 0 = z at ck
              have HM := hide hmk
              have H2 := hide hH2
              clear hset hH2 hH hA hfull hmk hg
              generalize (P i).n = n at *
              go_wp2
              go_roundw
              case rel => exact ⟨k + 1, by omega, by go_num, unhide H2⟩
              case measure => simp [intOf]; omega
            · have hkn2 : k = (P i).n := by omega
              have hH2 := hH.congr (C' := overTo P (i + 1) 0) (fun x _ => by rw [hkn2]; exact overTo_next (unhide HLEN i hlt) x)
              have hkz : ¬ ((k : Int) < ((P i).n : Int)) := by omega
              have hkd : decide ((k : Int) < ((P i).n : Int)) = false := by simpa using hkz
              have H2 := hide hH2
              clear hH2 hH hk hkn hkn2
              go_wp2_with fail
              go_roundw
              case rel => exact ⟨i + 1, by omega, by go_num, unhide H2⟩
              case measure => simp [intOf]; omega
        · have hij : i = j := by omega
          have hH2 := hH.congr (C' := markd P) (fun x hx => by rw [hij]; exact overTo_end P j x hx)
          have hiz : ¬ ((i : Int) < (j : Int)) := by omega
          have hid : decide ((i : Int) < (j : Int)) = false := by simpa using hiz
          have H2 := hide hH2
          clear hH2 hH hi hij hlt
          obtain ⟨i1, hi1, hy0, hy1, hy2⟩ := info_parts Try.infoB
          obtain ⟨i2, hi2, hx0, hx1, hx2⟩ := info_parts Try.infoS
          go_wp2_with fail
          clear cl hiz hid
          generalize (i : Int) = ii
          go_loopw [6, 7] (fun lgv iv wr => ∃ k : Nat, k ≤ j ∧ iv = .int .i64 k ∧ ∃ R, Hd w gS j P (.slice la j lc) (.slice wa j wc) (markd P) wr ∧ Lg w k P R (.slice la j lc) lgv wr) (fun _ iv _ => j - (intOf iv).toNat)
          case atStart => exact ⟨0, by omega, rfl, P, unhide H2, ⟨World.ownsRow_nil _ _ _ _, Apt.nil _, fun x hx => by omega, fun x hx => by omega, fun x hx => by omega⟩⟩
          case round =>
            clear H2
            obtain ⟨k, hk, rfl, R, hH, hLg⟩ := hrel
            have cl : wr.cell? ⟨gS, 0, none⟩ = some (.slice la j lc) := by rw [hH.s.cell]; rfl
            by_cases hlt : k < j
            · obtain ⟨gl, rfl⟩ := hla (by omega)
              have hkz : (k : Int) < (j : Int) := by omega
              have c1 := row_at hH.lrow k hlt
              simp only [Sl.v] at c1
              rw [hH.full k hlt] at c1
              have okP := hH.okP k hlt
              have hsz := hH.sz k hlt
              obtain ⟨cap, W1, hrun, okR, hbR, hltR⟩ := run_append_made (P := Try.prog) wr 29 3 29 5 i1 Try.underlying29 Try.underlying3 hi1 hy0 hy1 hy2 ⟨(P k).a, (P k).n, (P k).n, markd P k⟩ okP 70 (by omega) (by omega) rfl (by show (P k).n ≤ _; omega)
              simp only [Sl.v] at hrun
              have hH1 := hH.later hbR
              have hlg1 := own_later hLg.row hbR
              have hsz1 : w.heap.size ≤ W1.heap.size := Nat.le_trans hH.bel.size hbR.size
              have HH1 := hide hH1
              have HLG := hide hLg
              have HBR := hide hbR
              have HOK := hide okR
              clear hH hLg hbR okR hH1 okP
              generalize hpa : (P k).a = pa at c1 hrun
              generalize hpn : (P k).n = pn at c1 hrun HOK hsz
              have HRUN := hide hrun
              clear hrun
              go_wp2_with (first
                | (at_builtin
                   refine wpList_append_run rfl (.tmp 87) _ 29 3 rfl _ _ _ _ rfl rfl (unhide HRUN) ?_)
                | (at_builtin
                   refine wpList_append_own_at rfl (.tmp 80) (.tmp 89) 24 rfl w.heap.size 29 i2 (.slice none 0 0) 1 24 Try.underlying24 hi2 hx0 hx1 hx2 rfl (by decide) _ k (vsOf R k) rfl (hlg1.alloc _) ⟨W1.heap.size, 0, none⟩ 1 1 [.slice (some ⟨wr.heap.size, 0, none⟩) (pn + 70) cap] rfl rfl (cell_one_new _ _ _) (by intro u hu; simp at hu; subst hu; rfl) (by unfold maxLen; omega) (by omega) (by simp; omega) ?_
                   intro lg1 w3 hl3 hg3 ha3))
              have hput := Lg.put (unhide HLG) (unhide HBR) (unhide HH1) ⟨some ⟨wr.heap.size, 0, none⟩, pn + 70, cap, markd P k ++ List.replicate 70 0⟩ (unhide HOK) rfl (by intro x hx; cases hx; exact Nat.le_refl _) (unhide hg3) (unhide hl3) (unhide ha3)
              exact ⟨⟨k + 1, by omega, by go_num, _, hput.2, hput.1⟩, by simp [intOf]; omega⟩
            · have hkj : k = j := by omega
              have hkz : ¬ ((k : Int) < (j : Int)) := by omega
              have hkd : decide ((k : Int) < (j : Int)) = false := by simpa using hkz
              rw [hkj] at hLg
              clear hk hlt hkj
              obtain ⟨ga, gc, hgv, hga⟩ := own_form0 hLg.row
              subst hgv
              go_wp2_with fail
              clear hkz hkd
              obtain ⟨W, hWr⟩ : ∃ W, W = wr := ⟨_, rfl⟩
              rw [← hWr] at hH hLg cl
              have HWR := hide hWr
              clear hWr
              generalize (k : Int) = kk
              go_loopw [8] (fun iv wv => ∃ i : Nat, i ≤ j ∧ iv = .int .i64 i ∧ wv = W) (fun iv _ => j - (intOf iv).toNat)
              case atStart => exact ⟨0, by omega, rfl, (unhide HWR).symm⟩
              case round =>
                clear HWR
                obtain ⟨i, hi, rfl, hwv⟩ := hrel
                rw [hwv]
                clear hwv
                by_cases hlt : i < j
                · obtain ⟨gl, rfl⟩ := hla (by omega)
                  obtain ⟨gg, rfl⟩ := hga (by omega)
                  have hiz : (i : Int) < (j : Int) := by omega
                  have c1 := row_at hH.lrow i hlt
                  have c2 := row_at hLg.row i hlt
                  have hsz := hH.sz i hlt
                  have okR := hLg.ok i hlt
                  have hRl := hLg.l i hlt
                  have okP := hH.okP i hlt
                  simp only [Sl.v] at c1 c2
                  rw [hH.full i hlt] at c1
                  have hRn : (R i).n = (P i).n + 70 := by rw [← okR.len, hRl]; simp [markd]
                  obtain ⟨rb, ro, hra, -, hrc⟩ := okR.lies (by rw [okR.len, hRn]; omega)
                  rw [hra, hRn] at c2
                  rw [hRl] at hrc
                  have hPc := okP.lies
                  simp only at hPc
                  generalize (R i).c = rc at c2
                  have hmk : (2 * (i : Int) + 1) % 256 = mkB i := rfl
                  have HMK := hide hmk
                  have hml : (markd P i).length = (P i).n := by simp [markd]
                  have hmg : ∀ x, x < (P i).n → (markd P i).getD x 0 = mkB i := fun x hx => by simp [markd, hx]
                  generalize hC : markd P i = C at hrc hPc hml hmg
                  generalize hpa : (P i).a = pa at c1 hPc
                  generalize (P i).n = pn at c1 c2 hsz hml hmg
                  have HML := hide hml
                  have HMG := hide hmg
                  have HRC := hide hrc
                  have HPC := hide hPc
                  clear okR okP hRl hRn hra hrc hPc hmk hml hmg hC hpa
                  have hbel := hH.bel
                  clear hH hLg
                  go_wp2_with fail
                  go_loopw [10] (fun kv wv => ∃ k : Nat, k ≤ pn ∧ kv = .int .i64 k ∧ wv = W) (fun kv _ => pn - (intOf kv).toNat)
                  case atStart => exact ⟨0, by omega, rfl, rfl⟩
                  case round =>
                    obtain ⟨k, hk, rfl, hwv⟩ := hrel
                    rw [hwv]
                    clear hwv
                    by_cases hkn : k < pn
                    · obtain ⟨pb, po, hpa, -, hpc⟩ := unhide HPC (by rw [unhide HML]; omega)
                      have ca : W.cell? ⟨pb, po + k, none⟩ = some (.int .u8 ((2 * (i : Int) + 1) % 256)) := by
                        rw [hpc k (by rw [unhide HML]; exact hkn), unhide HMG k hkn]; rfl
                      have cb : W.cell? ⟨rb, ro + k, none⟩ = some (.int .u8 ((2 * (i : Int) + 1) % 256)) := by
                        rw [unhide HRC k (by rw [List.length_append, unhide HML]; omega)]
                        have hg := unhide HMG k hkn
                        rw [List.getD_eq_getElem?_getD] at hg ⊢
                        rw [List.getElem?_append_left (by rw [unhide HML]; exact hkn), hg]; rfl
                      rw [hpa] at c1
                      have hkz : (k : Int) < (pn : Int) := by omega
                      have hkz2 : (k : Int) < ((pn + 70 : Nat) : Int) := by omega
                      clear hpc hpa
                      go_wp2
                      go_roundw
                      case rel => exact ⟨k + 1, by omega, by go_num, trivial⟩
                      case measure => simp [intOf]; omega
                    · have hkn2 : k = pn := by omega
                      have hkz : ¬ ((k : Int) < (pn : Int)) := by omega
                      have hkd : decide ((k : Int) < (pn : Int)) = false := by simpa using hkz
                      clear hk hkn hkn2
                      go_wp2_with fail
                      clear hkz hkd
                      generalize (k : Int) = k0
                      go_loopw [11] (fun kv wv => ∃ k : Nat, pn ≤ k ∧ k ≤ pn + 70 ∧ kv = .int .i64 k ∧ wv = W) (fun kv _ => pn + 70 - (intOf kv).toNat)
                      case atStart => exact ⟨pn, Nat.le_refl _, by omega, rfl, rfl⟩
                      case round =>
                        obtain ⟨k, hk1, hk2, rfl, hwv⟩ := hrel
                        rw [hwv]
                        clear hwv
                        by_cases hkn : k < pn + 70
                        · have cb : W.cell? ⟨rb, ro + k, none⟩ = some (.int .u8 0) := by
                            rw [unhide HRC k (by rw [List.length_append, unhide HML]; simp; omega)]
                            rw [List.getD_eq_getElem?_getD, List.getElem?_append_right (by rw [unhide HML]; exact hk1), unhide HML, List.getElem?_replicate, if_pos (by omega)]
                            rfl
                          have hkz2 : (k : Int) < ((pn + 70 : Nat) : Int) := by omega
                          go_wp2
                          go_roundw
                          case rel => exact ⟨k + 1, by omega, by omega, by go_num, trivial⟩
                          case measure => simp [intOf]; omega
                        · have hkz : ¬ ((k : Int) < ((pn + 70 : Nat) : Int)) := by omega
                          have hkz3 : ¬ ((k : Int) < (pn : Int) + 70) := by omega
                          have hkd : decide ((k : Int) < (pn : Int) + 70) = false := by simpa using hkz3
                          go_wp2_with fail
                          go_roundw
                          case rel => exact ⟨i + 1, by omega, by go_num, trivial⟩
                          case measure => simp [intOf]; omega
                · have hiz : ¬ ((i : Int) < (j : Int)) := by omega
                  have hid : decide ((i : Int) < (j : Int)) = false := by simpa using hiz
                  have hbel := hH.bel
                  clear hH hLg
                  go_wp2
                  go_ret
                  exact ⟨rfl, hbel⟩
end Go.Proofs.Ytmdpmkdofgligaa
