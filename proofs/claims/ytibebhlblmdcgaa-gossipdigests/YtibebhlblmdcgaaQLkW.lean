import Derived.Test.YtibebhlblmdcgaaQSmG
import Derived.Deep.QuietTactic
import Derived.BigQuiet
set_option linter.unusedSimpArgs false
set_option linter.unusedVariables false
namespace Go.Proofs.Ytibebhlblmdcgaa
open Go.RowKit

/-! What somebody has of a serial, and whether a row is lacking: the document's way. -/
structure Lst where (th : Bool) (ix : Int) (fz rv : Bool)
def lstep (n : Int) (a : Lst) (h : Smy) : Lst := if h.ser = n then ⟨true, if !a.th || decide (a.ix < h.idx) then h.idx else a.ix, a.fz || h.fz, a.rv || h.rv⟩ else a
def lst (n : Int) (l : List Smy) : Lst := l.foldl (lstep n) ⟨false, 0, false, false⟩
theorem lst_take {n : Int} {l : List Smy} {k : Nat} {x : Smy} (h : l[k]? = some x) : lst n (l.take (k + 1)) = lstep n (lst n (l.take k)) x := by
  unfold lst
  rw [List.take_add_one, h, List.foldl_append]; rfl
def lackB (e : Ent) (l : List Smy) : Bool := !(lst e.cert.serial l).th || (decide ((lst e.cert.serial l).ix < e.idx) || ((e.fz && !(lst e.cert.serial l).fz) || (e.rv && !(lst e.cert.serial l).rv)))
set_option maxHeartbeats 2000000 in
set_option maxRecDepth 100000 in
theorem lacking_any (e : Ent) (h : Sx Smy) (w : World) (he : e.Ok) (hh : Sy w h) (hn : h.n ≤ 100000000) :
    Calls Try.prog 17 #[aV (eC e), h.v] w fun r w' => r = .returned (.bool (lackB e h.xs)) ∧ Below w.heap.size w w' := by
  obtain ⟨ha, hnn, hc, hx⟩ := h
  have hlen : hx.length = hnn := hh.len
  have hS := Hs17.begin w (fun w' => Sy w' ⟨ha, hnn, hc, hx⟩) (fun w' ho => Sy.old hh ho)
  have HL := hide hlen
  have hn' : hnn ≤ 100000000 := hn
  simp only [Sx.v]
  clear hh hlen hn
  go_enter Try.func17, Try.ntmps17
  go_upto_region 0 with fail
  refine wp_region_lit ?_
  refine wl_box (by kernel_rfl) 45 (.tmp 0) rfl (eC e) rfl hS ?_
  clear hS
  intro g1 w1 hS
  simp [Act.put]
  refine wl (by kernel_rfl) fun kQ hkQ => ?_
  go_simp
  refine hkQ _ _ ?_
  clear hkQ kQ
  refine wpList_nil ?_
  have hA1 : Arr w1 g1 45 (eC e) := hS.get 0 rfl
  have HE := hide hS.K
  have HBW := hide hS.bel
  have HA1 := hide hA1
  have HEC : Hid (∀ W, Below w1.heap.size w1 W → W.cell? ⟨g1, 0, none⟩ = some (.int .i64 e.cert.serial) ∧ W.cell? ⟨g1, 99, none⟩ = some (.int .i64 e.idx) ∧ W.cell? ⟨g1, 132, none⟩ = some (.bool e.fz) ∧ W.cell? ⟨g1, 197, none⟩ = some (.bool e.rv)) := hide (fun W hW => by
    have hA := hA1.later hW
    have q0 := (at_eser e).range hA 0 _ rfl
    have q1 := (at_idx he).range hA 0 _ rfl
    have q2 := (at_fz he).range hA 0 _ rfl
    have q3 := (at_rv he).range hA 0 _ rfl
    simp only [Nat.add_zero, Nat.zero_add] at q0 q1 q2 q3
    exact ⟨q0, q1, q2, q3⟩)
  obtain ⟨n, hne⟩ : ∃ n, n = e.cert.serial := ⟨_, rfl⟩
  obtain ⟨ei, hei⟩ : ∃ n, n = e.idx := ⟨_, rfl⟩
  obtain ⟨ef, hef⟩ : ∃ n, n = e.fz := ⟨_, rfl⟩
  obtain ⟨er, her⟩ : ∃ n, n = e.rv := ⟨_, rfl⟩
  rw [← hne, ← hei, ← hef, ← her] at HEC
  have HNN := hide (And.intro hne (And.intro hei (And.intro hef her)))
  clear hS hA1 hne hei hef her
  go_wp2_with fail
  go_loopw [5, 6, 7, 8, 9] (fun t x f r i wr => ∃ k : Nat, k ≤ hnn ∧ i = .int .i64 k ∧ t = .bool (lst n (hx.take k)).th ∧ x = .int .i64 (lst n (hx.take k)).ix ∧ f = .bool (lst n (hx.take k)).fz ∧ r = .bool (lst n (hx.take k)).rv ∧ Below w1.heap.size w1 wr) (fun _ _ _ _ i _ => hnn - (intOf i).toNat)
  case atStart => exact ⟨0, by omega, rfl, rfl, rfl, rfl, rfl, Below.refl _ _⟩
  case round =>
    obtain ⟨k, hk, rfl, rfl, rfl, rfl, rfl, hbl⟩ := hrel
    obtain ⟨q0, q1, q2, q3⟩ := unhide HEC _ hbl
    by_cases hlt : k < hnn
    · obtain ⟨x, b, off, hge, hsa, hbs, hrg1⟩ := Sy.at_ (unhide HE) (k := k) hlt
      simp only at hge hsa
      subst hsa
      have hrg : wr.rangeAt b (off + k * 4) (sC x) := rangeAt_blk hrg1 (hbl.block b hbs)
      have s0 := hrg 0 _ rfl
      have s1 := hrg 1 _ rfl
      have s2 := hrg 2 _ rfl
      have s3 := hrg 3 _ rfl
      rw [Nat.add_zero] at s0
      have hst := lst_take (n := n) hge
      generalize lst n (hx.take k) = A at hst ⊢
      obtain ⟨th, ix, fz, rv⟩ := A
      obtain ⟨xs, xi, xf, xr⟩ := x
      simp only at s0 s1 s2 s3
      have hkz : (k : Int) < (hnn : Int) := by omega
      have HST := hide hst
      clear hge hrg hrg1 hbs hst q1 q2 q3
      by_cases hq : xs = n
      · have d0 : (xs == n) = true := by simpa using hq
        obtain ⟨dd, hdd⟩ : ∃ d, decide (ix < xi) = d := ⟨_, rfl⟩
        have HS2 : Hid (lst n (hx.take (k + 1)) = ⟨true, if !th || dd then xi else ix, fz || xf, rv || xr⟩) := hide (by rw [unhide HST]; unfold lstep; rw [if_pos hq]; simp only [hdd])
        clear hq HST
        have hw : Below w1.heap.size w1 wr := hbl
        cases th <;> cases dd <;> cases fz <;> cases rv <;> (
          go_wp2_with fail
          go_quiet (fail)
          go_wp2
          go_roundw
          case rel => exact ⟨k + 1, by omega, by go_num, by rw [unhide HS2], by rw [unhide HS2]; rfl, by rw [unhide HS2]; rfl, by rw [unhide HS2]; rfl, hw.trans (below_drewN (Below.refl _ _) nq)⟩
          case measure => simp [intOf]; omega)
      · have d0 : (xs == n) = false := by simpa using hq
        have HS2 : Hid (lst n (hx.take (k + 1)) = ⟨th, ix, fz, rv⟩) := hide (by rw [unhide HST]; unfold lstep; rw [if_neg hq])
        clear hq HST
        go_wp2_with fail
        go_quiet (fail)
        go_wp2
        go_roundw
        case rel => exact ⟨k + 1, by omega, by go_num, by rw [unhide HS2], by rw [unhide HS2], by rw [unhide HS2], by rw [unhide HS2], hbl.trans (below_drewN (Below.refl _ _) nq)⟩
        case measure => simp [intOf]; omega
    · have hkd : decide ((k : Int) < (hnn : Int)) = false := by simp; omega
      have hke : hx.take k = hx := List.take_of_length_le (by rw [unhide HL]; omega)
      rw [hke]
      have HR : Hid (lackB e hx = (!(lst n hx).th || (decide ((lst n hx).ix < ei) || ((ef && !(lst n hx).fz) || (er && !(lst n hx).rv))))) := hide (by unfold lackB; rw [(unhide HNN).1, (unhide HNN).2.1, (unhide HNN).2.2.1, (unhide HNN).2.2.2])
      generalize lst n hx = A at HR ⊢
      obtain ⟨th, ix, fz, rv⟩ := A
      simp only at HR ⊢
      obtain ⟨dd, hdd⟩ : ∃ d, decide (ix < ei) = d := ⟨_, rfl⟩
      rw [hdd] at HR
      have HBF := hide ((unhide HBW).trans (hbl.mono (unhide HBW).size))
      clear hke hbl
      cases th
      · go_wp2
        go_ret
        exact ⟨by rw [unhide HR]; rfl, unhide HBF⟩
      · cases dd
        · cases ef <;> cases fz <;> cases er <;> cases rv <;> (
            go_wp2
            go_ret
            exact ⟨by rw [unhide HR]; rfl, unhide HBF⟩)
        · go_wp2
          go_ret
          exact ⟨by rw [unhide HR]; rfl, unhide HBF⟩
end Go.Proofs.Ytibebhlblmdcgaa
