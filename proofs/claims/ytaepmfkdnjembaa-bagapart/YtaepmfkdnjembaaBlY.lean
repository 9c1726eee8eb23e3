import Derived.Test.YtaepmfkdnjembaaBlX
import Derived.Deep.DeepCutAuto
import Derived.Deep.QuietTactic
import Derived.BigQuiet
set_option linter.unusedSimpArgs false
set_option linter.unusedVariables false
namespace Go.Proofs.Ytaepmfkdnjembaa
open Go.RowKit

set_option maxHeartbeats 4000000 in
set_option maxRecDepth 100000 in
theorem list_any (w0 : World) (rows : List Row) (B gb mb last : Nat) (ms ex : List Ms) (w : World) (hS : Hs17 w0 rows (BagW B gb mb ms ex last) w) (hn : NoB rows = true) (hw : w0.heap.size ≤ B) (hlast : last ≤ 1000000000) :
    Calls Try.prog 10 #[.pointer (some ⟨gb, 0, none⟩)] w fun e w' => ∃ q : Sx Ms, e = .returned q.v ∧ q.xs.map Ms.p = ms.map Ms.p ∧ ∃ R : List Row, RowG mC 4 32 q q.xs R ∧ Hs17 w0 (rows ++ R) (BagW B gb mb ms (q.xs ++ ex) last) w' := by
  have hle := hS.K.le
  have hmz : ∀ m ∈ ms, I64 m.i := fun m hm => by have := hS.K.id m hm; have h9 := hS.K.bl m hm; unfold I64; have := hlast; omega
  have HMZ := hide hmz
  clear hmz
  go_enter Try.func10, Try.ntmps10
  go_upto_region 1 with fail
  refine wp_region_lit ?_
  refine wl (by kernel_rfl) fun kQ hkQ => ?_
  go_simp
  refine hkQ _ _ ?_
  clear hkQ kQ
  refine wl (by kernel_rfl) fun kQ hkQ => ?_
  go_simp
  refine (lying_any gb _ _ _ hS.K.st).mono ?_
  rintro e w1 ⟨rfl, hb1⟩
  replace hS := hS.later hb1
  refine hkQ _ _ ?_
  clear hkQ kQ hb1
  refine wl (by kernel_rfl) fun kQ hkQ => ?_
  go_simp
  refine hkQ _ _ ?_
  clear hkQ kQ
  refine wpList_nil ?_
  go_upto_region 3 with fail
  refine wp_region_lit ?_
  refine wl (by kernel_rfl) fun kQ hkQ => ?_
  go_simp
  refine hkQ _ _ ?_
  clear hkQ kQ
  refine wl (by kernel_rfl) fun kQ hkQ => ?_
  go_simp
  refine (hS.K.g.mp.nums hS.K.g.up hS.K.le).mono ?_
  rintro e w2 ⟨v, rfl, hO, hb1⟩
  obtain ⟨sn, rfl, hsx, hsn, -⟩ := own_sx hO (fun x _ => iC_len x)
  have hln : (ms.map (·.i)).length = sn.n := by rw [← hsx]; exact hsn.len
  obtain ⟨Rn, hRn, hS'⟩ := hS.ownG (f := iC) hln hb1 hO
  replace hS := hS'
  clear hS' hO hsn
  refine hkQ _ _ ?_
  clear hkQ kQ hb1
  obtain ⟨na, nn, nc, nx⟩ := sn
  simp only at hsx hln
  subst hsx
  simp only [Sx.v]
  rw [List.length_map] at hln
  have hnn : nn ≤ 4096 := by omega
  have HLN := hide hln
  clear hln
  refine wl (by kernel_rfl) fun kQ hkQ => ?_
  go_simp
  refine hkQ _ _ ?_
  clear hkQ kQ
  refine wl (by kernel_rfl) fun kQ hkQ => ?_
  go_simp
  refine hkQ _ _ ?_
  clear hkQ kQ
  refine wpList_nil ?_
  have hRn0 := hRn
  go_wp2_with fail
  go_loopw [4, 12] (fun vt vi wr => ∃ (k : Nat) (q : Sx Ms) (R : List Row), k ≤ nn ∧ vt = q.v ∧ vi = .int .i64 k ∧ Hid (q.xs.map Ms.p = (ms.take k).map Ms.p ∧ q.xs.length = k) ∧ RowG mC 4 32 q q.xs R ∧ Hs17 w0 (rows ++ Rn ++ R) (BagW B gb mb ms (q.xs ++ ex) last) wr) (fun _ vi _ => nn - (intOf vi).toNat)
  case atStart => exact ⟨0, ⟨none, 0, 0, []⟩, [], by omega, rfl, rfl, hide ⟨rfl, rfl⟩, ⟨rfl, .inl ⟨rfl, rfl, rfl, rfl⟩⟩, by rw [List.append_nil]; exact hS⟩
  case round =>
    clear hS
    obtain ⟨k, q, R, hk, rfl, rfl, HQ, hR, hS⟩ := hrel
    by_cases hlt : k < nn
    · have hkz : (k : Int) < (nn : Int) := by omega
      obtain ⟨m, hm⟩ : ∃ m, ms[k]? = some m := ⟨_, List.getElem?_eq_getElem (by rw [unhide HLN]; exact hlt)⟩
      have hmm := List.mem_of_getElem? hm
      have hsx := RowG.sx24 hRn (fun x _ => iC_len x) (fun p hp => by simp [hp]) hS
      obtain ⟨b, off, ha, hbl, hrg⟩ := hsx.at_ (i := k) (x := m.i) (by show (ms.map (·.i))[k]? = _; rw [List.getElem?_map, hm]; rfl)
      simp only at ha
      subst ha
      have hci : ∀ v, Hs17 w0 (rows ++ Rn ++ R) (BagW B gb mb ms (q.xs ++ ex) last) v → v.cell? ⟨b, off + k, none⟩ = some (.int .i64 m.i) := fun v hv => by
        obtain ⟨b2, off2, ha2, -, hr2⟩ := (RowG.sx24 hRn (fun x _ => iC_len x) (fun p hp => by simp [hp]) hv).at_ (i := k) (x := m.i) (by show (ms.map (·.i))[k]? = _; rw [List.getElem?_map, hm]; rfl)
        simp only [Option.some.injEq, Addr.mk.injEq] at ha2
        obtain ⟨rfl, rfl, -⟩ := ha2
        have := hr2 0 _ rfl
        simpa using this
      have HMM := hide hmm
      have HM := hide hm
      clear hsx hrg hbl hmm hm
      obtain ⟨qa, qn, qc, qx⟩ := q
      simp only [Sx.v] at HQ hR hS hci ⊢
      go_upto_region 5 with fail
      clear hkz
      refine wp_region_lit ?_
      refine wl (by kernel_rfl) fun kQ hkQ => ?_
      go_simp
      refine hkQ _ _ ?_
      clear hkQ kQ
      refine wl_loadC (by kernel_rfl) 3 (.tmp 14) rfl b (off + k) rfl (.int .i64 m.i) (hci _ hS) Try.underlying3 rfl ?_
      simp [Act.put]
      refine wl (by kernel_rfl) fun kQ hkQ => ?_
      go_simp
      refine hkQ _ _ ?_
      clear hkQ kQ
      refine wpList_nil ?_
      clear hci
      have hnB : NoB (rows ++ Rn ++ R) = true := NoB.app (NoB.app hn (hRn.noB rfl)) (hR.noB rfl)
      have hql := (unhide HQ).2
      go_upto_region 6 with fail
      refine wp_region_lit ?_
      refine wl (by kernel_rfl) fun kQ hkQ => ?_
      go_simp
      refine hkQ _ _ ?_
      clear hkQ kQ
      refine wl (by kernel_rfl) fun kQ hkQ => ?_
      go_simp
      refine hkQ _ _ ?_
      clear hkQ kQ
      refine wl (by kernel_rfl) fun kQ hkQ => ?_
      go_simp
      refine hkQ _ _ ?_
      clear hkQ kQ
      refine wl_look1 (m := m) (by kernel_rfl) (.tmp 17) (.tmp 18) rfl rfl rfl hS.K.g.mp (unhide HMM) (unhide HMZ m (unhide HMM)) ?_
      simp [Act.put]
      refine wl (by kernel_rfl) fun kQ hkQ => ?_
      go_simp
      refine (apart_any _ _ _ m.s _ (Ou.ok (hS.K.g.bd m (List.mem_append.2 (.inl (unhide HMM))))) (by have h1 := hS.K.bl m (unhide HMM); have h2 := (Ou.ok (hS.K.g.bd m (List.mem_append.2 (.inl (unhide HMM))))).len; omega)).mono ?_
      rintro e w31 ⟨s, rfl, hx, hO, hb1⟩
      replace hS := hS.bag (hnB) hw (T := fun _ => False) (Buts.of_below hb1) (fun _ h9 => h9.elim) ((hS.K.more hb1 ⟨m.i, m.f, m.t, s⟩ hO).perm (perm_end _ _ _))
      clear hO
      refine hkQ _ _ ?_
      clear hkQ kQ hb1
      refine wl_bs1m (by kernel_rfl) (.tmp 20) rfl ⟨m.i, m.f, m.t, s⟩ rfl hS ?_
      clear hS
      intro g32 w32 hS
      simp [Act.put]
      refine wl_appm (by kernel_rfl) (.tmp 16) (.tmp 21) rfl rfl (RowG.own (f := mC) (rows := ((g32, 32, (mC ⟨m.i, m.f, m.t, s⟩)) :: (rows ++ Rn))) hR (fun x _ => mC_len x) hS) ⟨some ⟨g32, 0, none⟩, 1, 1, [⟨m.i, m.f, m.t, s⟩]⟩ (sx_one hS) rfl (by show (qx.length + 1) * 48 ≤ _; omega) hS.bel.size ?_
      intro v' w33 hO' hg' hov'
      obtain ⟨z', R33, rfl, hR', hS'⟩ := Hs17.regrow (f := mC) (rows := ((g32, 32, (mC ⟨m.i, m.f, m.t, s⟩)) :: (rows ++ Rn))) (s := ⟨qa, qn, qc, qx⟩) hS hR (fun x _ => mC_len x) hg' hO' hov'
      replace hS := hS'
      replace hR := hR'
      clear hS' hR' hO' hg' hov'
      obtain ⟨q2a, q2n, q2c, q2x⟩ := z'
      simp only [Sx.v]
      replace hS : Hs17 w0 ((rows ++ Rn) ++ R33) (BagW B gb mb ms (qx ++ [⟨m.i, m.f, m.t, s⟩] ++ ex) last) w33 := hS.sub ((List.Sublist.refl _).cons _)
      refine wl (by kernel_rfl) fun kQ hkQ => ?_
      go_simp
      refine hkQ _ _ ?_
      clear hkQ kQ
      refine wpList_nil ?_
      go_wp2_with fail
      go_roundw
      case rel =>
        refine ⟨k + 1, ⟨q2a, q2n, q2c, qx ++ [⟨m.i, m.f, m.t, s⟩]⟩, _, by omega, rfl, by go_num, hide ⟨?_, by simp; omega⟩, ⟨hR.1, hR.2⟩, hS⟩
        have h9 := (unhide HQ).1
        rw [List.take_add_one, unhide HM, List.map_append, List.map_append, h9]
        show _ ++ [Ms.p ⟨m.i, m.f, m.t, s⟩] = _ ++ [Ms.p m]
        unfold Ms.p
        rw [hx]
      case measure => simp [intOf]; omega
    · obtain rfl : nn = k := by omega
      have hkz : ¬ (nn : Int) < (nn : Int) := by omega
      go_wp2_with fail
      go_ret
      have h9 := (unhide HQ).1
      rw [← unhide HLN, List.take_length] at h9
      exact ⟨q, rfl, h9, R, hR, hS.sub (List.Sublist.append (List.sublist_append_left rows Rn) (List.Sublist.refl R))⟩
end Go.Proofs.Ytaepmfkdnjembaa
