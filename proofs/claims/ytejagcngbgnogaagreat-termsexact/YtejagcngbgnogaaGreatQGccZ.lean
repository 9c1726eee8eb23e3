import Derived.Test.YtejagcngbgnogaaGreatQShr
import Derived.Test.YtejagcngbgnogaaGreatQHelM
import Derived.Deep.QuietTactic
import Derived.BigQuiet
import Derived.Deep.RegionHeld3
import Derived.Test.YtejagcngbgnogaaGreatQPlyW
import Derived.Test.YtejagcngbgnogaaGreatQGauZ
import Derived.Deep.MidRow
import Derived.Deep.Cut
import Derived.Test.YtejagcngbgnogaaGreatQGacZ
set_option maxHeartbeats 8000000
set_option maxRecDepth 100000
set_option linter.unusedSimpArgs false
set_option linter.unusedVariables false
namespace Go.Proofs.YtejagcngbgnogaaGreat
open Go.RowKit
theorem qW (w : World) : Below w.heap.size w w.drew := ⟨rfl, rfl, rfl, Nat.le_refl _, fun _ _ => rfl⟩
theorem pC {w : World} {base e n : Nat} {v : Value} {xs : List Value} (h : w.ownsRow base e 1 v n xs) : ∃ a c, v = .slice a n c ∧ (0 < n → ∃ g, a = some ⟨g, 0, none⟩) := by
 rcases h.2 with ⟨rfl, rfl⟩ | ⟨g, cap, cur, rfl, -⟩
 ·exact ⟨none, 0, rfl, fun h => by omega⟩
 ·exact ⟨_, cap, rfl, fun _ => ⟨g, rfl⟩⟩
theorem nI {w wr : World} {e N : Nat} {P : Nat → Sl} {g c : Nat} (h : wr.ownsRow w.heap.size e 1 (.slice (some ⟨g, 0, none⟩) N c) N (gB P N)) (i : Nat) (hi : i < N) : wr.cell? ⟨g, i, none⟩ = some (P i).v := by
 rw [h.cellAt i (by omega), vsOf_at P N i hi]
theorem same_yes (a b : Sl) (w : World) (ha : a.Ok w) (hb : b.Ok w) (hl : a.l = b.l) (hn : a.n ≤ 1099511627776) :
  Calls Tryz.prog 16 #[a.v, b.v] w fun e w' => e = .returned (.bool true) ∧ ∃ k, w' = w.drewN k := by
 have := nV a b w ha hb hn
 rw [decide_eq_true hl] at this
 exact this
theorem held_any {w : World} {gS N : Nat} {P Q : Nat → Sl} {lv wv : Value} {w0 : World} (h0 : Shf w gS N P Q lv wv w0) (hN : N ≤ 5800000000000) :
    Calls Tryz.prog 5 #[.pointer (some ⟨gS, 0, none⟩)] w0 fun e w' => e = .returned (.bool true) ∧ Below w.heap.size w w' := by
  obtain ⟨la, lc, rfl, hla⟩ := pC h0.lrow
  obtain ⟨wa, wc, rfl, hwa⟩ := pC h0.wrow
  go_enter Tryz.func5, Tryz.ntmps5
  go_wp2_with fail
  go_loopw [3] (fun i wr => ∃ j : Nat, j ≤ N ∧ i = .int .i64 j ∧ Shf w gS N P Q (.slice la N lc) (.slice wa N wc) wr) (fun i _ => N - (intOf i).toNat)
  case atStart => exact ⟨0, by omega, rfl, h0⟩
  case round =>
    clear h0
    obtain ⟨j, hj, rfl, hS⟩ := hrel
    have cl : wr.cell? ⟨gS, 0, none⟩ = some (.slice la N lc) := by rw [hS.s.cell]; rfl
    have cw : wr.cell? ⟨gS, 1, none⟩ = some (.slice wa N wc) := by rw [hS.s.cell]; rfl
    by_cases hlt : j < N
    · obtain ⟨gl, rfl⟩ := hla (by omega)
      obtain ⟨gw, rfl⟩ := hwa (by omega)
      have hjz : (j : Int) < (N : Int) := by omega
      have okp := kE (hS.p j hlt) (hS.pn j hlt)
      have okq := hS.q j hlt
      have he := hS.eq j hlt
      have hsz := hS.sz j hlt
      have c1 := nI hS.lrow j hlt
      have c2 := nI hS.wrow j hlt
      generalize hp : P j = p at okp c1 he hsz
      generalize hq : Q j = q at okq c2 he
      obtain ⟨pa, pn, pc, pl⟩ := p
      obtain ⟨qa, qn, qc, ql⟩ := q
      simp only [Sl.v] at c1 c2
      have HS := aA hS
      clear hp hq hS
      go_wp2_with fail
      go_region_held3 (fun w' => w'.cell? ⟨gS, 0, none⟩ = some (.slice (some ⟨gl, 0, none⟩) N lc) ∧ w'.cell? ⟨gS, 1, none⟩ = some (.slice (some ⟨gw, 0, none⟩) N wc) ∧ w'.cell? ⟨gl, j, none⟩ = some (.slice pa pn pc) ∧ w'.cell? ⟨gw, j, none⟩ = some (.slice qa qn qc))
        (first | go_keep | exact ⟨cl, cw, c1, c2⟩)
        (first
          | (go_at_call 16
             refine (same_yes ⟨pa, pn, pc, pl⟩ ⟨qa, qn, qc, ql⟩ _ (Sl.Ok.later okp (qW _)) (Sl.Ok.later okq (qW _)) he (by show pn ≤ _; have h : pn ≤ 100000 := hsz; omega)).mono ?_
             rintro e w9 ⟨rfl, kk, rfl⟩))
      go_wp2
      go_roundw
      case rel => exact ⟨j + 1, by omega, by go_num, (unhide HS).later (cN (Below.refl _ _) _)⟩
      case measure => simp [intOf]; omega
    · have hjN : j = N := by omega
      subst hjN
      have hH : Hd w gS j P (.slice la j lc) (.slice wa j wc) (fH P 0 0) wr := (Hd.of hS).congr (fun x _ => overTo_zero P x)
      have hlen : ∀ x, x < j → (P x).l.length = (P x).n := fun x hx => (hS.pn x hx).symm
      have HLEN := aA hlen
      have hxd : decide ((j : Int) < (j : Int)) = false := by simp
      clear hS hlen
      go_wp2_with fail
      clear cl cw hxd hlt hj
      go_loopw [4] (fun i wr => ∃ k : Nat, k ≤ j ∧ i = .int .i64 k ∧ Hd w gS j P (.slice la j lc) (.slice wa j wc) (fH P k 0) wr) (fun i _ => j - (intOf i).toNat)
      case atStart => exact ⟨0, by omega, rfl, hH⟩
      case round =>
        clear hH
        obtain ⟨i, hi, rfl, hH⟩ := hrel
        have cl : wr.cell? ⟨gS, 0, none⟩ = some (.slice la j lc) := by rw [hH.s.cell]; rfl
        by_cases hlt : i < j
        · obtain ⟨gl, rfl⟩ := hla (by omega)
          have hiz : (i : Int) < (j : Int) := by omega
          go_wp2_with fail
          clear cl
          go_loopw [5] (fun kv wr => ∃ k : Nat, k ≤ (P i).n ∧ kv = .int .i64 k ∧ Hd w gS j P (.slice (some ⟨gl, 0, none⟩) j lc) (.slice wa j wc) (fH P i k) wr) (fun kv _ => (P i).n - (intOf kv).toNat)
          case atStart => exact ⟨0, by omega, rfl, hH⟩
          case round =>
            clear hH
            obtain ⟨k, hk, rfl, hH⟩ := hrel
            have cl : wr.cell? ⟨gS, 0, none⟩ = some (.slice (some ⟨gl, 0, none⟩) j lc) := by rw [hH.s.cell]; rfl
            have c1 := nI hH.lrow i hlt
            simp only [Sl.v] at c1
            by_cases hkn : k < (P i).n
            · obtain ⟨g, hg⟩ := hH.at i hlt (by omega)
              have hset := hH.set i hlt g k hg (mkB i) (mkB_bd i)
              have hA := (hH.own i hlt).1
              have hAv : (P i).v = .slice (some ⟨g, 0, none⟩) (P i).n (P i).c := by simp [Sl.v, hg]
              rw [hAv, hH.len i hlt] at hA
              have hH2 := hset.congr (fun x _ => overTo_set (by rw [unhide HLEN i hlt]; exact hkn) x)
              have ck := (hA.cellAt k (by omega)).trans (kV _ k (by rw [hH.len i hlt]; exact hkn))
              have fz := hA.frozenAt k
              have hle := hH.okP i hlt |>.le
              have hsz := hH.sz i hlt
              rw [hg] at c1
              have hkz : (k : Int) < ((P i).n : Int) := by omega
              have hmk : (2 * (i : Int) + 1) % 256 = mkB i := rfl
              generalize (fH P i k i).getD k 0 = z at ck
              have HM := aA hmk
              have H2 := aA hH2
              clear hset hH2 hH hA hmk hg hAv
              simp only at hle
              generalize (P i).n = n at *
              generalize (P i).c = pcc at *
              go_wp2
              go_roundw
              case rel => exact ⟨k + 1, by omega, by go_num, unhide H2⟩
              case measure => simp [intOf]; omega
            · have hkn2 : k = (P i).n := by omega
              have hH2 := hH.congr (C' := fH P (i + 1) 0) (fun x _ => by rw [hkn2]; exact overTo_next (unhide HLEN i hlt) x)
              have hkz : ¬ ((k : Int) < ((P i).n : Int)) := by omega
              have hkd : decide ((k : Int) < ((P i).n : Int)) = false := by simpa using hkz
              have H2 := aA hH2
              clear hH2 hH hk hkn hkn2
              go_wp2_with fail
              go_roundw
              case rel => exact ⟨i + 1, by omega, by go_num, unhide H2⟩
              case measure => simp [intOf]; omega
        · have hij : i = j := by omega
          have hH2 := hH.congr (C' := fB P) (fun x hx => by rw [hij]; exact overTo_end P j x hx)
          have hiz : ¬ ((i : Int) < (j : Int)) := by omega
          have hid : decide ((i : Int) < (j : Int)) = false := by simpa using hiz
          have H2 := aA hH2
          clear hH2 hH hi hij hlt
          obtain ⟨i1, hi1, hy0, hy1, hy2⟩ := info_parts Tryz.infoB
          obtain ⟨i2, hi2, hx0, hx1, hx2⟩ := info_parts Tryz.infoZ
          go_wp2_with fail
          clear cl hiz hid
          generalize (i : Int) = ii
          go_loopw [6, 7] (fun lgv iv wr => ∃ k : Nat, k ≤ j ∧ iv = .int .i64 k ∧ ∃ R, Hd w gS j P (.slice la j lc) (.slice wa j wc) (fB P) wr ∧ Lg w j k P R (.slice la j lc) lgv wr) (fun _ iv _ => j - (intOf iv).toNat)
          case atStart => exact ⟨0, by omega, rfl, P, unhide H2, ⟨World.ownsRow_nil _ _ _ _, Apt.nil _, fun x hx => by omega, fun x hx => by omega, fun x hx => by omega, fun x _ hx => by omega⟩⟩
          case round =>
            clear H2
            obtain ⟨k, hk, rfl, R, hH, hLg⟩ := hrel
            have cl : wr.cell? ⟨gS, 0, none⟩ = some (.slice la j lc) := by rw [hH.s.cell]; rfl
            by_cases hlt : k < j
            · obtain ⟨gl, rfl⟩ := hla (by omega)
              have hkz : (k : Int) < (j : Int) := by omega
              have c1 := nI hH.lrow k hlt
              simp only [Sl.v] at c1
              have hsz := hH.sz k hlt
              have hmk := hH.own k hlt
              have hml : (fB P k).length = (P k).n := hH.len k hlt
              obtain ⟨ad, cap, W1, hrun, okR, hgR, hst, hatR⟩ := rA (P := Tryz.prog) wr w.heap.size 33 3 33 5 i1 Tryz.underlying33 Tryz.underlying3 hi1 hy0 hy1 hy2 (P k).v (fB P k) hmk.1 300 (by omega) (by omega) (by omega) hH.bel.size
              have hH1 := hH.zeros k hlt hgR hst
              have hlg1 := eM hLg.row hgR (eJ hLg.row hmk.1 (by decide))
              have hsz1 : w.heap.size ≤ W1.heap.size := Nat.le_trans hH.bel.size hgR.size
              have hRB : IsB (fB P k ++ List.replicate 300 0) := hmk.2.append (zeros_isB 300)
              have HH0 := aA hH
              have HH1 := aA hH1
              have HLG := aA hLg
              have HGR := aA hgR
              have HOK : Hid (cI W1 w.heap.size (.slice (some ad) ((fB P k).length + 300) cap) (fB P k ++ List.replicate 300 0)) := aA ⟨by simpa using okR, hRB⟩
              have HAT := aA hatR
              have HML := aA hml
              rw [hml] at hrun
              simp only [Sl.v] at hrun
              clear hH hLg hgR okR hH1 hmk hst hatR hRB
              generalize hpa : (P k).a = pa at c1 hrun
              generalize hpn : (P k).n = pn at c1 hrun hsz HML hml
              generalize hpc : (P k).c = pcc at c1 hrun
              have HRUN := aA hrun
              clear hrun
              go_wp2_with (first
                | (at_builtin
                   refine pV rfl (.tmp 87) _ 33 3 rfl _ _ _ _ rfl rfl (unhide HRUN) ?_)
                | (at_builtin
                   refine eG rfl (.tmp 80) (.tmp 89) 24 rfl w.heap.size 33 i2 (.slice none 0 0) 1 24 Tryz.underlying24 hi2 hx0 hx1 hx2 rfl (by decide) _ k (gB R k) rfl (hlg1.alloc _) ⟨W1.heap.size, 0, none⟩ 1 1 [.slice (some ad) (pn + 300) cap] rfl rfl (fX (Arr.new _ 33 _)) (by intro u hu; simp at hu; subst hu; rfl) (by unfold maxLen; omega) (by omega) (by simp; omega) ?_
                   intro lg1 w3 hl3 hg3 ha3))
              have hok := unhide HOK
              rw [unhide HML] at hok
              have hat9 : (Sl.v ⟨some ad, pn + 300, cap, fB P k ++ List.replicate 300 0⟩).ownBlock = (P k).v.ownBlock ∨ (Sl.v ⟨some ad, pn + 300, cap, fB P k ++ List.replicate 300 0⟩).ownBlock = some wr.heap.size := (unhide HAT).imp (fun e => by simpa [Sl.v, Value.ownBlock] using e) (fun e => by simp [Sl.v, Value.ownBlock, e])
              have hput := Lg.put (unhide HLG) (unhide HH0) hlt (unhide HGR) (unhide HH1) ⟨some ad, pn + 300, cap, fB P k ++ List.replicate 300 0⟩ hok (by simp [unhide HML]) rfl hat9 (unhide hg3) (unhide hl3) (unhide ha3)
              exact ⟨⟨k + 1, by omega, by go_num, _, hput.2, hput.1⟩, by simp [intOf]; omega⟩
            · have hkj : k = j := by omega
              have hkz : ¬ ((k : Int) < (j : Int)) := by omega
              have hkd : decide ((k : Int) < (j : Int)) = false := by simpa using hkz
              rw [hkj] at hLg
              clear hk hlt hkj
              obtain ⟨ga, gc, hgv, hga⟩ := pC hLg.row
              subst hgv
              go_wp2_with fail
              clear hkz hkd
              obtain ⟨W, hWr⟩ : ∃ W, W = wr := ⟨_, rfl⟩
              rw [← hWr] at hH hLg cl
              have HWR := aA hWr
              clear hWr
              generalize (k : Int) = kk
              go_loopw [8] (fun iv wv => ∃ i : Nat, i ≤ j ∧ iv = .int .i64 i ∧ wv = W) (fun iv _ => j - (intOf iv).toNat)
              case atStart => exact ⟨0, by omega, rfl, (unhide HWR).symm⟩
              case round =>
                clear HWR
                obtain ⟨i, hi, rfl, hwv⟩ := hrel
                rw [hwv]
                clear hwv
                by_cases hlt : i < j
                · obtain ⟨gl, rfl⟩ := hla (by omega)
                  obtain ⟨gg, rfl⟩ := hga (by omega)
                  have hiz : (i : Int) < (j : Int) := by omega
                  have c1 := nI hH.lrow i hlt
                  have c2 := nI hLg.row i hlt
                  have hsz := hH.sz i hlt
                  have okR := kE (hLg.own i hlt) (hLg.rn i hlt)
                  have hRl := hLg.l i hlt
                  have okP := hH.okP i hlt
                  simp only [Sl.v] at c1 c2
                  have hRn : (R i).n = (P i).n + 300 := by rw [← okR.len, hRl]; simp [fB]
                  obtain ⟨rb, ro, hra, -, hrc⟩ := okR.lies (by rw [okR.len, hRn]; omega)
                  rw [hra, hRn] at c2
                  rw [hRl] at hrc
                  have hPc := okP.lies
                  simp only at hPc
                  generalize (R i).c = rc at c2
                  have hmk : (2 * (i : Int) + 1) % 256 = mkB i := rfl
                  have HMK := aA hmk
                  have hml : (fB P i).length = (P i).n := by simp [fB]
                  have hmg : ∀ x, x < (P i).n → (fB P i).getD x 0 = mkB i := fun x hx => by simp [fB, hx]
                  generalize hC : fB P i = C at hrc hPc hml hmg
                  have hle := okP.le
                  simp only at hle
                  generalize hpa : (P i).a = pa at c1 hPc
                  generalize (P i).n = pn at c1 c2 hsz hml hmg hle
                  generalize (P i).c = pcc at c1 hle
                  have HML := aA hml
                  have HMG := aA hmg
                  have HRC := aA hrc
                  have HPC := aA hPc
                  clear okR okP hRl hRn hra hrc hPc hmk hml hmg hC hpa
                  have hbel := hH.bel
                  clear hH hLg
                  go_wp2_with fail
                  go_loopw [10] (fun kv wv => ∃ k : Nat, k ≤ pn ∧ kv = .int .i64 k ∧ wv = W) (fun kv _ => pn - (intOf kv).toNat)
                  case atStart => exact ⟨0, by omega, rfl, rfl⟩
                  case round =>
                    obtain ⟨k, hk, rfl, hwv⟩ := hrel
                    rw [hwv]
                    clear hwv
                    by_cases hkn : k < pn
                    · obtain ⟨pb, po, hpa, -, hpc⟩ := unhide HPC (by rw [unhide HML]; omega)
                      have ca : W.cell? ⟨pb, po + k, none⟩ = some (.int .u8 ((2 * (i : Int) + 1) % 256)) := by
                        rw [hpc k (by rw [unhide HML]; exact hkn), unhide HMG k hkn]; rfl
                      have cb : W.cell? ⟨rb, ro + k, none⟩ = some (.int .u8 ((2 * (i : Int) + 1) % 256)) := by
                        rw [unhide HRC k (by rw [List.length_append, unhide HML]; omega)]
                        have hg := unhide HMG k hkn
                        rw [List.getD_eq_getElem?_getD] at hg ⊢
                        rw [List.getElem?_append_left (by rw [unhide HML]; exact hkn), hg]; rfl
                      rw [hpa] at c1
                      have hkz : (k : Int) < (pn : Int) := by omega
                      have hkz2 : (k : Int) < ((pn + 300 : Nat) : Int) := by omega
                      clear hpc hpa
                      go_wp2
                      go_roundw
                      case rel => exact ⟨k + 1, by omega, by go_num, trivial⟩
                      case measure => simp [intOf]; omega
                    · have hkn2 : k = pn := by omega
                      have hkz : ¬ ((k : Int) < (pn : Int)) := by omega
                      have hkd : decide ((k : Int) < (pn : Int)) = false := by simpa using hkz
                      clear hk hkn hkn2
                      go_wp2_with fail
                      clear hkz hkd
                      generalize (k : Int) = k0
                      go_loopw [11] (fun kv wv => ∃ k : Nat, pn ≤ k ∧ k ≤ pn + 300 ∧ kv = .int .i64 k ∧ wv = W) (fun kv _ => pn + 300 - (intOf kv).toNat)
                      case atStart => exact ⟨pn, Nat.le_refl _, by omega, rfl, rfl⟩
                      case round =>
                        obtain ⟨k, hk1, hk2, rfl, hwv⟩ := hrel
                        rw [hwv]
                        clear hwv
                        by_cases hkn : k < pn + 300
                        · have cb : W.cell? ⟨rb, ro + k, none⟩ = some (.int .u8 0) := by
                            rw [unhide HRC k (by rw [List.length_append, unhide HML]; simp; omega)]
                            rw [List.getD_eq_getElem?_getD, List.getElem?_append_right (by rw [unhide HML]; exact hk1), unhide HML, List.getElem?_replicate, if_pos (by omega)]
                            rfl
                          have hkz2 : (k : Int) < ((pn + 300 : Nat) : Int) := by omega
                          go_wp2
                          go_roundw
                          case rel => exact ⟨k + 1, by omega, by omega, by go_num, trivial⟩
                          case measure => simp [intOf]; omega
                        · have hkz : ¬ ((k : Int) < ((pn + 300 : Nat) : Int)) := by omega
                          have hkz3 : ¬ ((k : Int) < (pn : Int) + 300) := by omega
                          have hkd : decide ((k : Int) < (pn : Int) + 300) = false := by simpa using hkz3
                          go_wp2_with fail
                          go_roundw
                          case rel => exact ⟨i + 1, by omega, by go_num, trivial⟩
                          case measure => simp [intOf]; omega
                · have hiz : ¬ ((i : Int) < (j : Int)) := by omega
                  have hid : decide ((i : Int) < (j : Int)) = false := by simpa using hiz
                  have hbel := hH.bel
                  clear hH hLg
                  go_wp2
                  go_ret
                  exact ⟨rfl, hbel⟩
def ScrAt (w : World) (a : Option Addr) (ts : List ((Nat → Int) × Sl)) : Prop :=
 0 < ts.length → ∃ b off, a = some ⟨b, off, none⟩ ∧ b < w.heap.size ∧ ∀ i o, ts[i]? = some o → w.rangeAt b (off + i * 330) (tmC o.1 o.2.v)
theorem qY {P : Program} {ops : Array Oper} {rest : List Oper} {o : Oper} {a : Act} {w : World} {Q : Exit → Act → World → Prop} (ty : TypeId) (x : Operand) (ho : o.op = .load ty x) (hw : Region.wanted o (yielded ops a.tmps) = true)
  (b off : Nat) (hx : a.eval x = .pointer (some ⟨b, off, none⟩)) (cs : List Value) (d : TypeDesc) (hr : w.rangeAt b off cs) (hu : P.underlying ty = some d) (hd : d.isRow = true) (hi : (P.info? ty).map (·.size) = some cs.length)
  (h : wpList P ops Q rest (a.put o.dst (.agg cs.toArray)) w) : wpList P ops Q (o :: rest) a w := by
 unfold wpList
 rw [if_pos hw]
 exact Or.inl (wp_load_mid ty x ho b off hx cs d hr hu hd hi h)
theorem exactT_any (pa : Option Addr) (pc : Nat) (ps : List ((Nat → Int) × Sl)) (w : World) (hat : ScrAt w pa ps) (hok : ∀ o ∈ ps, (∀ i, i < 329 → (bM i).ok (o.1 i)) ∧ o.2.Ok w) (hlen : ps.length * 408 ≤ 140737488351232) :
  Calls Tryz.prog 3 #[.slice pa ps.length pc] w fun e w' => e = .returned (.bool true) ∧ Below w.heap.size w w' := by
 obtain ⟨M, hM⟩ : ∃ M, M = ps.length := ⟨_, rfl⟩
 have HM := aA hM
 have hM2 : 8 * (2 * M) ≤ 5799999999000 := by omega
 rw [← hM]
 clear hM hlen
 have HAT := aA hat
 have HOK := aA hok
 clear hat hok
 obtain ⟨Z, it, hZl, hit, hz, hzv⟩ := tI
 have HZL := aA hZl
 clear hZl
 obtain ⟨W, hW, hS0, hbW, -⟩ := arr1 w 26 [.slice none 0 0, .slice none 0 0]
 have HW := aA hW
 clear hW
 have hSh : Shf w w.heap.size 0 (fun _ => ⟨none, 0, 0, []⟩) (fun _ => ⟨none, 0, 0, []⟩) (.slice none 0 0) (.slice none 0 0) W :=
  ⟨hS0, Nat.le_refl _, World.ownsRow_nil _ _ _ _, World.ownsRow_nil _ _ _ _, .inl rfl, fun i hi => by omega, fun i hi => by omega, fun i hi => by omega, fun i hi => by omega, fun i hi => by omega, fun i j hi => by omega, fun i j hi => by omega, fun i hi => by omega, fun i hi => by omega, fun i hi => by omega, hbW⟩
 have HSH := aA hSh
 clear hSh hS0 hbW
 go_enter Tryz.func3, Tryz.ntmps3
 go_wp2_with (rw [show Obj.cells #[Value.slice none 0 0, Value.slice none 0 0] 26 = Obj.cells ([Value.slice none 0 0, Value.slice none 0 0] : List Value).toArray 26 (0, 0) from rfl, ← unhide HW])
 go_loopw [4] (fun i wr => ∃ (k N : Nat) (P Q : Nat → Sl) (lv wv : Value), k ≤ 2 * M ∧ N ≤ 8 * k ∧ i = .int .i64 k ∧ Hid (Shf w w.heap.size N P Q lv wv wr)) (fun i _ => 2 * M - (intOf i).toNat)
 case atStart => exact ⟨0, 0, _, _, _, _, by omega, by omega, rfl, HSH⟩
 case round =>
  clear HSH HW
  obtain ⟨k, N, P, Q, lv, wv, hk, hNk, rfl, HS⟩ := hrel
  by_cases hlt : k < 2 * M
  ·obtain ⟨i, hi⟩ : ∃ i, i = k % M := ⟨_, rfl⟩
   have him : i < M := by rw [hi]; exact Nat.mod_lt _ (by omega)
   have hit2 : (k : Int).tmod (M : Int) = (i : Int) := by rw [hi]; exact (Int.ofNat_tmod k M)
   have hie : (k : Int) % (M : Int) = (i : Int) := by rw [hi]; simp
   have hltz : (k : Int) < 2 * (M : Int) := by omega
   have hM0 : ¬ ((M : Int) = 0) := by omega
   have himz : (i : Int) < (M : Int) := by omega
   obtain ⟨o, ho⟩ : ∃ o, ps[i]? = some o := ⟨_, List.getElem?_eq_getElem (by rw [← unhide HM]; exact him)⟩
   have HOO := aA (unhide HOK o (List.mem_of_getElem? ho))
   obtain ⟨ob, oo, hsa, hol, hoc⟩ := unhide HAT (by rw [← unhide HM]; omega)
   subst hsa
   have hr0 := hoc i o ho
   have hr : wr.rangeAt ob (oo + i * 330) (tmC o.1 o.2.v) := fun j v hv => ((unhide HS).bel.cell (p := ⟨ob, oo + i * 330 + j, none⟩) hol).trans (hr0 j v hv)
   have hcl : (Tryz.prog.info? 35).map (·.size) = some (tmC o.1 o.2.v).length := by rw [fA]; exact Tryz.szTerm
   have hcs : (Tryz.prog.info? 35).map (·.size) = some (tmC o.1 o.2.v).toArray.size := by rw [List.size_toArray]; exact hcl
   have hzs : Z.toArray.size = (tmC o.1 o.2.v).toArray.size := by rw [List.size_toArray, List.size_toArray, fA, unhide HZL]
   have h1c : (tmC o.1 o.2.v).toArray.all (·.oneCell') = true := all_oneCell_toArray (tmC_oc o.1 o.2.v rfl)
   have hbx := Arr.new wr 35 (tmC o.1 o.2.v)
   have hbl : Below wr.heap.size wr (wr.alloc (.cells (tmC o.1 o.2.v).toArray 35)) := aJ wr _
   have cB : (wr.alloc (.cells (tmC o.1 o.2.v).toArray 35)).cell? ⟨wr.heap.size, 329, none⟩ = some (.slice o.2.a o.2.n o.2.c) := by
    rw [hbx.cell]; unfold tmC; rw [List.getElem?_append_right (by rw [aC]; omega), aC]; rfl
   have HS1 := aA ((unhide HS).later hbl)
   have HPL := aA (fun (W : World) (h : Shf w w.heap.size N P Q lv wv W) (hn : o.2.n ≤ 2048) => plays_any h o.1 o.2 (unhide HOO).1 ((unhide HOO).2.later h.bel) (fun hl x hx => (unhide HOO).2.lt hl x hx) hn (by omega))
   have HRG := aA (Arr.range hbx)
   clear hi hr0 hoc hbx hbl HS ho HOO
   generalize tmC o.1 o.2.v = X at *
   by_cases hn : o.2.n ≤ 2048
   ·have hnz : (o.2.n : Int) ≤ 2048 := by omega
    go_wp2_with (first
     | refine wpList_load_mid rfl 35 (.tmp 20) rfl _ _ rfl _ _ hr Tryz.underlying35 rfl hcl ?_
     | (refine wpList_store_row rfl 35 (.tmp 5) (.tmp 21) rfl wr.heap.size _ rfl rfl 35 _ (heap_alloc_last wr _) hcs hzs h1c ?_; rw [World.setRow_alloc_new])
     | refine qY 35 (.tmp 5) rfl rfl _ _ rfl _ _ (unhide HRG) Tryz.underlying35 rfl hcl ?_)
    refine (unhide HPL _ (unhide HS1) hn).mono ?_
    rintro e w3 ⟨rfl, N', P', Q', lv', wv', h1, h2, hS3, -⟩
    have HS3 := aA hS3
    clear hS3 HPL HS1 cB hr HRG
    go_wp2_with fail
    go_roundw
    case rel => exact ⟨k + 1, N', P', Q', lv', wv', by omega, by omega, by go_num, HS3⟩
    case measure => simp [intOf]; omega
   ·have hnz : ¬ ((o.2.n : Int) ≤ 2048) := by omega
    have hnd : decide ((o.2.n : Int) ≤ 2048) = false := by simpa using hnz
    go_wp2_with (first
     | refine wpList_load_mid rfl 35 (.tmp 20) rfl _ _ rfl _ _ hr Tryz.underlying35 rfl hcl ?_
     | (refine wpList_store_row rfl 35 (.tmp 5) (.tmp 21) rfl wr.heap.size _ rfl rfl 35 _ (heap_alloc_last wr _) hcs hzs h1c ?_; rw [World.setRow_alloc_new]))
    go_roundw
    case rel => exact ⟨k + 1, N, P, Q, lv, wv, by omega, by omega, by go_num, HS1⟩
    case measure => simp [intOf]; omega
  ·have hltz : ¬ ((k : Int) < 2 * (M : Int)) := by omega
   have hk2 : k = 2 * M := by omega
   have hC := held_any (unhide HS) (by omega)
   go_wp2_with fail
   refine hC.mono ?_
   rintro e w2 ⟨rfl, hb2⟩
   go_wp2_with fail
   go_ret
   exact ⟨rfl, hb2⟩
end Go.Proofs.YtejagcngbgnogaaGreat

namespace Go.Proofs.YtejagcngbgnogaaGreat
open Go.ChangeShapes Go.WideShapes Go.ChangeAt Go.WideMaps Go.WideElems Go.RowKit
def kindsB (P : Program) (fn : Func) (c : OpenClaim) : Bool := (c.kinds == (if c.domain.isEmpty then [] else fn.params.toList.map fun t => match P.underlying t with | some (.int k) => some k | _ => none))
theorem joined_of {P : Program} {f : FuncId} {fn : Func} {s : ChangeSpec} {c : OpenClaim}
  (h1 : c.wf (OpenSpec.ofChange s) = true) (h2 : laidOutB P = true) (h3 : mapsRowed P = true) (h4 : fn.params.all (P.readableRec ·) = true) (h5 : namedTie P c.named s.vars = true)
  (h6 : (c.stops == []) = true) (h7 : (P.stops == []) = true) (h8 : (c.knobs == []) = true) (h9 : (P.stopKnobs == []) = true)
  (h10 : (c.inPlace == P.inPlace f) = true) (h11 : (c.unfollowed == P.unfollowed f) = true) (h12 : (c.recurses == P.recurses f) = true) (h13 : (c.named == P.varsNamed f) = true)
  (h14 : (c.maps == (fn.params.toList ++ s.plain.varTypes P).any (P.mapsRec ·)) = true) (h15 : (c.ifaces == (fn.params.toList ++ s.plain.varTypes P).any (P.ifacesRec ·)) = true) (h16 : (c.mapsOut == P.mapsAmong fn.resultTypes.toList) = true)
  (h17 : (c.loops == (fn.params.toList ++ s.plain.varTypes P).any (P.loopsFrom ·)) = true) (h18 : (c.wideKeys == (fn.params.toList ++ s.plain.varTypes P ++ fn.resultTypes.toList).any (P.wideKeysFrom ·)) = true)
  (h19 : s.vars.all (P.varReadable ·) = true) (h20 : fn.resultTypes.all (fun t => P.readableRec t && decide (t < P.types.size)) = true) (h21 : (c.ifacesOut == fn.resultTypes.toList.any (P.ifacesRec ·)) = true) (h22 : (c.loopsOut == fn.resultTypes.toList.any (P.loopsFrom ·)) = true) (h23 : (c.plainKeys == P.plainKeys) = true) (h24 : c.shortTexts.isNone = true) (h25 : P.stopsHeard = true) (h26 : P.mayEnter = true) (h27 : (c.lifted == P.liftsFinal) = true) (h28 : (P.make == some c.make) = true)
  (h29 : kindsB P fn c = true) (h30 : (c.pinned == c.pinnedBy) = true)
  (h31 : (c.veiled == (fn.params.toList ++ s.plain.varTypes P ++ fn.resultTypes.toList).any (P.veiledRec ·)) = true) (h32 : c.veiledFits P fn.params.toList (fn.params.toList ++ s.plain.varTypes P ++ fn.resultTypes.toList) = true) : joinedFacts P f fn s c = true := by
 unfold joinedFacts
 simp only [Bool.and_eq_true]
 exact ⟨⟨⟨⟨⟨⟨⟨⟨⟨⟨⟨⟨⟨⟨⟨⟨⟨⟨⟨⟨⟨⟨⟨⟨⟨⟨⟨⟨⟨⟨⟨h1, h2⟩, h3⟩, h4⟩, h5⟩, h6⟩, h7⟩, h8⟩, h9⟩, h10⟩, h11⟩, h12⟩, h13⟩, h14⟩, h15⟩, h16⟩, h17⟩, h18⟩, h19⟩, h20⟩, h21⟩, h22⟩, h23⟩, h24⟩, h25⟩, h26⟩, h27⟩, h28⟩, h29⟩, h30⟩, h31⟩, h32⟩
end Go.Proofs.YtejagcngbgnogaaGreat
