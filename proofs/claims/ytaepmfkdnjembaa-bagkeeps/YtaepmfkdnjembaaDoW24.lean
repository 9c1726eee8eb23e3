import Derived.Test.YtaepmfkdnjembaaTaW24
import Derived.Test.YtaepmfkdnjembaaLaW24
import Derived.Deep.DeepCutAuto
import Derived.Deep.QuietTactic
import Derived.BigQuiet
set_option linter.unusedSimpArgs false
set_option linter.unusedVariables false
namespace Go.Proofs.Ytaepmfkdnjembaa
open Go.RowKit

set_option maxHeartbeats 4000000 in
set_option maxRecDepth 100000 in
theorem pdouble_any (w0 : World) (gb mb gp : Nat) (rows : List Row) (A : Sx Ms) (T : Sx Bool) (RA RT : List Row) (ms L : List Ms) (tk : List Bool) (last : Nat) (h : Int) (N : Nat) (z : Int) (w : World) (hP : PlS w0 gb mb gp rows A T RA RT ms L tk last h w) (hI : Inv24 ms L tk last h N) (hN : N ≤ 100000) (hn : NoB rows = true) (hz : I64 z) :
    Calls Try.prog 20 #[.pointer (some ⟨gp, 0, none⟩), .pointer (some ⟨gb, 0, none⟩), .int .i64 z] w fun e w' => e = .returned (.bool true) ∧ PlX w0 gb mb gp rows (N + 1) w' := by
  obtain ⟨hA, hT, hS⟩ := hP
  obtain ⟨Aa, An, Ac, Ax⟩ := A
  obtain ⟨Ta, Tn, Tc, Tx⟩ := T
  simp only [Sx.v] at hS
  have hAl : L.length = An := hA.1
  have hTl : tk.length = Tn := hT.1
  have hTA : tk.length = An := by rw [hI.tl]; exact hAl
  have hAn : An ≤ 10000000 := by have := hI.le; omega
  have hlk := hI.there z
  rw [hAl] at hlk
  have hhl := hI.he
  have hla := hI.la
  have hle := hI.le
  have hlb : last ≤ 1000000000 := by omega
  have HI := hide hI
  have HTL := hide hI.tl
  clear hI
  by_cases ha : 1 ≤ z ∧ z ≤ (An : Int) ∧ tk.getD (z - 1).toNat false = false
  case neg =>
    have hb : lkB ms z = false := by rw [hlk, decide_eq_false ha]
    have hd : decide (1 ≤ z ∧ z ≤ (An : Int) ∧ tk.getD (z - 1).toNat false = false) = false := decide_eq_false ha
    have hE : dbE (ms.map Ms.p) z = 240 := by unfold dbE; rw [lkB_p, hb]; rfl
    have hNn : dbN (ms.map Ms.p) last z = 0 := by unfold dbN; rw [hE]; rfl
    have hLn : dbL (ms.map Ms.p) last z = last := by unfold dbL; rw [hE]; rfl
    have hPn : dbP (ms.map Ms.p) last z = ms.map Ms.p := by unfold dbP; rw [hE]; rfl
    clear ha hb hlk hhl hla hle
    go_enter Try.func20, Try.ntmps20
    go_upto_region 1 with fail
    refine wp_region_lit ?_
    refine wl (by kernel_rfl) fun kQ hkQ => ?_
    go_simp
    refine hkQ _ _ ?_
    clear hkQ kQ
    refine wl (by kernel_rfl) fun kQ hkQ => ?_
    go_simp
    refine hkQ _ _ ?_
    clear hkQ kQ
    refine wl (by kernel_rfl) fun kQ hkQ => ?_
    go_simp
    refine (double_any w0 _ _ gb mb last ms L _ hS (NoB.cons rfl (plRows hn hA hT)) (Nat.le_refl _) z hz hlb).mono ?_
    clear hS
    rintro e w1 ⟨ms', rfl, hp, hS⟩
    refine hkQ _ _ ?_
    clear hkQ kQ
    rw [hE, hNn]
    rw [hLn] at hS
    rw [hPn] at hp
    refine wl (by kernel_rfl) fun kQ hkQ => ?_
    go_simp
    refine hkQ _ _ ?_
    clear hkQ kQ
    refine wl (by kernel_rfl) fun kQ hkQ => ?_
    go_simp
    refine hkQ _ _ ?_
    clear hkQ kQ
    refine wl (by kernel_rfl) fun kQ hkQ => ?_
    go_simp
    refine hkQ _ _ ?_
    clear hkQ kQ
    refine wl (by kernel_rfl) fun kQ hkQ => ?_
    go_simp
    refine hkQ _ _ ?_
    clear hkQ kQ
    refine wl (by kernel_rfl) fun kQ hkQ => ?_
    go_simp
    refine hkQ _ _ ?_
    clear hkQ kQ
    refine wpList_nil ?_
    have HI9 : Inv24 ms' L tk last h (N + 1) := by
      have k := unhide HI
      have hl9 : ms'.length = ms.length := by have := congrArg List.length hp; simpa using this
      exact ⟨k.nu, k.tl, by rw [hp]; exact k.eq, k.la, by rw [hl9]; exact k.he, by have := k.le; omega⟩
    clear hp
    go_upto_region 2 with fail
    refine wp_region_lit ?_
    refine wl (by kernel_rfl) fun kQ hkQ => ?_
    go_simp
    refine hkQ _ _ ?_
    clear hkQ kQ
    refine wl (by kernel_rfl) fun kQ hkQ => ?_
    go_simp
    refine hkQ _ _ ?_
    clear hkQ kQ
    refine wl (by kernel_rfl) fun kQ hkQ => ?_
    go_simp
    refine (there_any gp Aa Ta An Ac Tn Tc tk h z _ (hS.get 0 rfl) (sb_row hT (fun p hp => by simp [hp]) hS) hTA hAn).mono ?_
    rintro e w2 ⟨rfl, hb1⟩
    replace hS := hS.later hb1
    refine hkQ _ _ ?_
    clear hkQ kQ hb1
    rw [hd]
    refine wl (by kernel_rfl) fun kQ hkQ => ?_
    go_simp
    refine hkQ _ _ ?_
    clear hkQ kQ
    refine wpList_nil ?_
    go_wp2_with fail
    go_ret
    exact ⟨rfl, ⟨Aa, An, Ac, Ax⟩, ⟨Ta, Tn, Tc, Tx⟩, RA, RT, ms', L, tk, last, h, ⟨hA, hT, hS⟩, HI9⟩
  have hb : lkB ms z = true := by rw [hlk, decide_eq_true ha]
  have hd : decide (1 ≤ z ∧ z ≤ (An : Int) ∧ tk.getD (z - 1).toNat false = false) = true := decide_eq_true ha
  have hEb : dbE (ms.map Ms.p) z = putE ms.length 0 := by unfold dbE; rw [lkB_p, if_pos hb, List.length_map]
  by_cases hf : 4096 ≤ ms.length
  · have hE : dbE (ms.map Ms.p) z = 241 := by rw [hEb]; unfold putE; rw [if_neg (by omega), if_pos hf]
    have hNn : dbN (ms.map Ms.p) last z = 0 := by unfold dbN; rw [hE]; rfl
    have hLn : dbL (ms.map Ms.p) last z = last := by unfold dbL; rw [hE]; rfl
    have hPn : dbP (ms.map Ms.p) last z = ms.map Ms.p := by unfold dbP; rw [hE]; rfl
    have hms := hS.K.le
    obtain rfl : h = 4096 := by omega
    clear ha hb hlk hhl hla hle hf hEb hms
    go_enter Try.func20, Try.ntmps20
    go_upto_region 1 with fail
    refine wp_region_lit ?_
    refine wl (by kernel_rfl) fun kQ hkQ => ?_
    go_simp
    refine hkQ _ _ ?_
    clear hkQ kQ
    refine wl (by kernel_rfl) fun kQ hkQ => ?_
    go_simp
    refine hkQ _ _ ?_
    clear hkQ kQ
    refine wl (by kernel_rfl) fun kQ hkQ => ?_
    go_simp
    refine (double_any w0 _ _ gb mb last ms L _ hS (NoB.cons rfl (plRows hn hA hT)) (Nat.le_refl _) z hz hlb).mono ?_
    clear hS
    rintro e w1 ⟨ms', rfl, hp, hS⟩
    refine hkQ _ _ ?_
    clear hkQ kQ
    rw [hE, hNn]
    rw [hLn] at hS
    rw [hPn] at hp
    refine wl (by kernel_rfl) fun kQ hkQ => ?_
    go_simp
    refine hkQ _ _ ?_
    clear hkQ kQ
    refine wl (by kernel_rfl) fun kQ hkQ => ?_
    go_simp
    refine hkQ _ _ ?_
    clear hkQ kQ
    refine wl (by kernel_rfl) fun kQ hkQ => ?_
    go_simp
    refine hkQ _ _ ?_
    clear hkQ kQ
    refine wl (by kernel_rfl) fun kQ hkQ => ?_
    go_simp
    refine hkQ _ _ ?_
    clear hkQ kQ
    refine wl (by kernel_rfl) fun kQ hkQ => ?_
    go_simp
    refine hkQ _ _ ?_
    clear hkQ kQ
    refine wpList_nil ?_
    have HI9 : Inv24 ms' L tk last 4096 (N + 1) := by
      have k := unhide HI
      have hl9 : ms'.length = ms.length := by have := congrArg List.length hp; simpa using this
      exact ⟨k.nu, k.tl, by rw [hp]; exact k.eq, k.la, by rw [hl9]; exact k.he, by have := k.le; omega⟩
    clear hp
    go_upto_region 2 with fail
    refine wp_region_lit ?_
    refine wl (by kernel_rfl) fun kQ hkQ => ?_
    go_simp
    refine hkQ _ _ ?_
    clear hkQ kQ
    refine wl (by kernel_rfl) fun kQ hkQ => ?_
    go_simp
    refine hkQ _ _ ?_
    clear hkQ kQ
    refine wl (by kernel_rfl) fun kQ hkQ => ?_
    go_simp
    refine (there_any gp Aa Ta An Ac Tn Tc tk 4096 z _ (hS.get 0 rfl) (sb_row hT (fun p hp => by simp [hp]) hS) hTA hAn).mono ?_
    rintro e w2 ⟨rfl, hb1⟩
    replace hS := hS.later hb1
    refine hkQ _ _ ?_
    clear hkQ kQ hb1
    rw [hd]
    refine wl (by kernel_rfl) fun kQ hkQ => ?_
    go_simp
    refine hkQ _ _ ?_
    clear hkQ kQ
    refine wpList_nil ?_
    go_upto_region 4 with fail
    refine wp_region_lit ?_
    refine wl (by kernel_rfl) fun kQ hkQ => ?_
    go_simp
    refine hkQ _ _ ?_
    clear hkQ kQ
    refine wl (by kernel_rfl) fun kQ hkQ => ?_
    go_simp
    refine hkQ _ _ ?_
    clear hkQ kQ
    refine wl (by kernel_rfl) fun kQ hkQ => ?_
    go_simp
    refine hkQ _ _ ?_
    clear hkQ kQ
    refine wl_load1 (by kernel_rfl) 3 (.tmp 27) rfl 0 rfl 2 rfl (.int .i64 4096) (at_P2 (.slice Aa An Ac) (.slice Ta Tn Tc) 4096) Try.underlying3 rfl hS ?_
    simp [Act.put]
    refine wl (by kernel_rfl) fun kQ hkQ => ?_
    go_simp
    refine hkQ _ _ ?_
    clear hkQ kQ
    refine wpList_nil ?_
    go_wp2_with fail
    go_ret
    exact ⟨rfl, ⟨Aa, An, Ac, Ax⟩, ⟨Ta, Tn, Tc, Tx⟩, RA, RT, ms', L, tk, last, 4096, ⟨hA, hT, hS⟩, HI9⟩
  · have hE : dbE (ms.map Ms.p) z = 0 := by rw [hEb]; unfold putE; rw [if_neg (by omega), if_neg hf]
    have hNn : dbN (ms.map Ms.p) last z = ((last + 1 : Nat) : Int) := by unfold dbN; rw [hE]; rfl
    have hLn : dbL (ms.map Ms.p) last z = last + 1 := by unfold dbL; rw [hE]; rfl
    have hPn : dbP (ms.map Ms.p) last z = ms.map Ms.p ++ [⟨((last + 1 : Nat) : Int), (pV (ms.map Ms.p) z).f, (pV (ms.map Ms.p) z).t, (pV (ms.map Ms.p) z).l⟩] := by unfold dbP; rw [hE]; rfl
    have hne : ¬ h = 4096 := by omega
    have HZ : Hid (((last + 1 : Nat) : Int) = (L.length : Int) + 1) := hide (by omega)
    have HLM : Hid (L.length ≤ 1000000) := hide (by omega)
    have HHH : Hid (0 ≤ h ∧ h ≤ 4096) := hide (by have := hS.K.le; omega)
    obtain ⟨j, hj⟩ : ∃ j : Nat, z = (j : Int) + 1 := ⟨(z - 1).toNat, by omega⟩
    have hjq : j < An := by omega
    have hjz : (j : Int) < (An : Int) := by omega
    have htj : tk.getD j false = false := by
      have h9 := ha.2.2
      have e : (z - 1).toNat = j := by omega
      rw [e] at h9; exact h9
    have e3 : IntKind.i64.wrap (z - 1) = (j : Int) := by rw [show z - 1 = (j : Int) by omega]; exact wi_of24 (by omega) (by omega)
    obtain ⟨x, hx⟩ : ∃ x, L[j]? = some x := ⟨_, List.getElem?_eq_getElem (by omega)⟩
    have hxm := List.mem_of_getElem? hx
    have hvx : pV (ms.map Ms.p) z = x.p := by rw [lkV_p, hj]; exact (unhide HI).look hx htj
    have hxn : x.s.n ≤ 1048576 := by
      have h8 := (hS.K.body z).2.2
      have h7 : (lkV ms z).p.l = x.p.l := by rw [← lkV_p, hvx]
      have h6 := (Ou.ok (hS.K.g.bd x (by simp [hxm]))).len
      have h5 : (lkV ms z).s.xs = x.s.xs := h7
      rw [h5] at h8; omega
    rw [hvx] at hPn
    have HXM := hide hxm
    clear ha hb hlk hhl hla hle hf hEb hj htj hvx hxm
    go_enter Try.func20, Try.ntmps20
    go_upto_region 1 with fail
    refine wp_region_lit ?_
    refine wl (by kernel_rfl) fun kQ hkQ => ?_
    go_simp
    refine hkQ _ _ ?_
    clear hkQ kQ
    refine wl (by kernel_rfl) fun kQ hkQ => ?_
    go_simp
    refine hkQ _ _ ?_
    clear hkQ kQ
    refine wl (by kernel_rfl) fun kQ hkQ => ?_
    go_simp
    refine (double_any w0 _ _ gb mb last ms L _ hS (NoB.cons rfl (plRows hn hA hT)) (Nat.le_refl _) z hz hlb).mono ?_
    clear hS
    rintro e w1 ⟨ms', rfl, hp, hS⟩
    refine hkQ _ _ ?_
    clear hkQ kQ
    rw [hE, hNn]
    rw [hLn] at hS
    rw [hPn] at hp
    refine wl (by kernel_rfl) fun kQ hkQ => ?_
    go_simp
    refine hkQ _ _ ?_
    clear hkQ kQ
    refine wl (by kernel_rfl) fun kQ hkQ => ?_
    go_simp
    refine hkQ _ _ ?_
    clear hkQ kQ
    refine wl (by kernel_rfl) fun kQ hkQ => ?_
    go_simp
    refine hkQ _ _ ?_
    clear hkQ kQ
    refine wl (by kernel_rfl) fun kQ hkQ => ?_
    go_simp
    refine hkQ _ _ ?_
    clear hkQ kQ
    refine wl (by kernel_rfl) fun kQ hkQ => ?_
    go_simp
    refine hkQ _ _ ?_
    clear hkQ kQ
    refine wpList_nil ?_
    have HPP := hide hp
    clear hp
    go_upto_region 2 with fail
    refine wp_region_lit ?_
    refine wl (by kernel_rfl) fun kQ hkQ => ?_
    go_simp
    refine hkQ _ _ ?_
    clear hkQ kQ
    refine wl (by kernel_rfl) fun kQ hkQ => ?_
    go_simp
    refine hkQ _ _ ?_
    clear hkQ kQ
    refine wl (by kernel_rfl) fun kQ hkQ => ?_
    go_simp
    refine (there_any gp Aa Ta An Ac Tn Tc tk h z _ (hS.get 0 rfl) (sb_row hT (fun p hp => by simp [hp]) hS) hTA hAn).mono ?_
    rintro e w2 ⟨rfl, hb1⟩
    replace hS := hS.later hb1
    refine hkQ _ _ ?_
    clear hkQ kQ hb1
    rw [hd]
    refine wl (by kernel_rfl) fun kQ hkQ => ?_
    go_simp
    refine hkQ _ _ ?_
    clear hkQ kQ
    refine wpList_nil ?_
    clear hd
    go_upto_region 4 with fail
    refine wp_region_lit ?_
    refine wl (by kernel_rfl) fun kQ hkQ => ?_
    go_simp
    refine hkQ _ _ ?_
    clear hkQ kQ
    refine wl (by kernel_rfl) fun kQ hkQ => ?_
    go_simp
    refine hkQ _ _ ?_
    clear hkQ kQ
    refine wl (by kernel_rfl) fun kQ hkQ => ?_
    go_simp
    refine hkQ _ _ ?_
    clear hkQ kQ
    refine wl_load1 (by kernel_rfl) 3 (.tmp 27) rfl 0 rfl 2 rfl (.int .i64 h) (at_P2 (.slice Aa An Ac) (.slice Ta Tn Tc) h) Try.underlying3 rfl hS ?_
    simp [Act.put]
    refine wl (by kernel_rfl) fun kQ hkQ => ?_
    go_simp
    refine hkQ _ _ ?_
    clear hkQ kQ
    refine wpList_nil ?_
    go_upto_region 6 with fail
    clear hne
    obtain ⟨lb, lo, hqa, -, hlr⟩ := Sx.Ok.at_ (sm_row hA (fun p hp => by simp [hp]) hS) (i := j) hx
    have hqa' : Aa = some ⟨lb, lo, none⟩ := hqa
    subst hqa'
    have hfb : ∀ v, Hs17 w0 ((gp, 50, (plC (.slice (some ⟨lb, lo, none⟩) An Ac) (.slice Ta Tn Tc) h)) :: (rows ++ RT ++ RA)) (BagW w0.heap.size gb mb ms' L (last + 1)) v → v.rangeAt lb (lo + j * 4) (mC x) := fun v hv => by
      obtain ⟨b2, o2, e2, -, hr2⟩ := Sx.Ok.at_ (sm_row hA (fun p hp => by simp [hp]) hv) (i := j) hx
      simp only [Option.some.injEq, Addr.mk.injEq] at e2
      obtain ⟨rfl, rfl, -⟩ := e2
      exact hr2
    clear hqa hlr hx
    refine wp_region_lit ?_
    refine wl (by kernel_rfl) fun kQ hkQ => ?_
    go_simp
    refine hkQ _ _ ?_
    clear hkQ kQ
    refine wl (by kernel_rfl) fun kQ hkQ => ?_
    go_simp
    refine hkQ _ _ ?_
    clear hkQ kQ
    refine wl (by kernel_rfl) fun kQ hkQ => ?_
    go_simp
    refine hkQ _ _ ?_
    clear hkQ kQ
    refine wl (by kernel_rfl) fun kQ hkQ => ?_
    go_simp
    refine hkQ _ _ ?_
    clear hkQ kQ
    refine wl (by kernel_rfl) fun kQ hkQ => ?_
    go_simp
    refine hkQ _ _ ?_
    clear hkQ kQ
    refine wl (by kernel_rfl) fun kQ hkQ => ?_
    go_simp
    refine hkQ _ _ ?_
    clear hkQ kQ
    refine wl (by kernel_rfl) fun kQ hkQ => ?_
    go_simp
    refine hkQ _ _ ?_
    clear hkQ kQ
    refine wl (by kernel_rfl) fun kQ hkQ => ?_
    go_simp
    refine hkQ _ _ ?_
    clear hkQ kQ
    refine wl_load1 (by kernel_rfl) 33 (.tmp 43) rfl 0 rfl 0 rfl ((.slice (some ⟨lb, lo, none⟩) An Ac)) (at_P0 (.slice (some ⟨lb, lo, none⟩) An Ac) (.slice Ta Tn Tc) h) Try.underlying33 rfl hS ?_
    simp [Act.put]
    refine wl (by kernel_rfl) fun kQ hkQ => ?_
    go_simp
    refine hkQ _ _ ?_
    clear hkQ kQ
    refine wl (by kernel_rfl) fun kQ hkQ => ?_
    go_simp
    refine hkQ _ _ ?_
    clear hkQ kQ
    refine wl (by kernel_rfl) fun kQ hkQ => ?_
    go_simp
    refine hkQ _ _ ?_
    clear hkQ kQ
    refine wv (aV (msC x.i x.f x.t x.s.v)) (by kernel_rfl) (ex_loadR 32 (.tmp 47) rfl lb (lo + j * 4) rfl (msC x.i x.f x.t x.s.v) (hfb _ hS) Try.underlying32 rfl (sz_D _ _ _ _)) ?_
    simp [Act.put]
    refine wl (by kernel_rfl) fun kQ hkQ => ?_
    go_simp
    refine (laid_any w0 gb mb gp rows ⟨some ⟨lb, lo, none⟩, An, Ac, Ax⟩ ⟨Ta, Tn, Tc, Tx⟩ RA RT ms' L tk (last + 1) h x.f x.t x.s ((last + 1 : Nat) : Int) x.i _ ⟨hA, hT, hS⟩ hn (unhide HZ) (unhide HTL) (unhide HLM) (unhide HHH) (rb_ex (unhide HXM)) hxn).mono ?_
    clear hS
    rintro e w3 ⟨rfl, A', T', RA', RT', x', hx', hA', hT', hS⟩
    refine hkQ _ _ ?_
    clear hkQ kQ
    refine wl (by kernel_rfl) fun kQ hkQ => ?_
    go_simp
    refine hkQ _ _ ?_
    clear hkQ kQ
    refine wl (by kernel_rfl) fun kQ hkQ => ?_
    go_simp
    refine hkQ _ _ ?_
    clear hkQ kQ
    refine wpList_nil ?_
    go_wp2_with fail
    go_ret
    exact ⟨rfl, A', T', RA', RT', ms', L ++ [x'], tk ++ [false], last + 1, h + 1, ⟨hA', hT', hS⟩, (unhide HI).put (unhide HPP) x' hx'⟩
end Go.Proofs.Ytaepmfkdnjembaa
