import Derived.Test.YtaepmfkdnjembaaTaW24
import Derived.Test.YtaepmfkdnjembaaLaW24
import Derived.Deep.DeepCutAuto
import Derived.Deep.QuietTactic
import Derived.BigQuiet
set_option linter.unusedSimpArgs false
set_option linter.unusedVariables false
namespace Go.Proofs.Ytaepmfkdnjembaa
open Go.RowKit

set_option maxHeartbeats 4000000 in
set_option maxRecDepth 100000 in
theorem pput_any (w0 : World) (gb mb gp : Nat) (rows : List Row) (A : Sx Ms) (T : Sx Bool) (RA RT : List Row) (ms L : List Ms) (tk : List Bool) (last : Nat) (h : Int) (N : Nat) (i0 f t : Int) (y : Sx Int) (w : World) (hP : PlS w0 gb mb gp rows A T RA RT ms L tk last h w) (hI : Inv24 ms L tk last h N) (hN : N ≤ 100000) (hn : NoB rows = true) (hy : Su w0 y) (hyn : y.n ≤ 1048576) :
    Calls Try.prog 18 #[.pointer (some ⟨gp, 0, none⟩), .pointer (some ⟨gb, 0, none⟩), aV (msC i0 f t y.v)] w fun e w' => e = .returned (.bool true) ∧ PlX w0 gb mb gp rows (N + 1) w' := by
  obtain ⟨hA, hT, hS⟩ := hP
  obtain ⟨Aa, An, Ac, Ax⟩ := A
  obtain ⟨Ta, Tn, Tc, Tx⟩ := T
  simp only [Sx.v] at hS
  have hAl : L.length = An := hA.1
  have hTl : tk.length = Tn := hT.1
  have hyl := hy.len
  have hhl := hI.he
  have hla := hI.la
  have hle := hI.le
  have HI := hide hI
  have HTL := hide hI.tl
  have HY := hide hy
  clear hI hy
  have hlb : last ≤ 1000000000 := by omega
  rcases putE_cases ms.length y.xs.length with ⟨h1, hE⟩ | ⟨h1, h2, hE⟩ | ⟨h1, h2, hE⟩
  · have hNn : putN last ms.length y.xs.length = 0 := by unfold putN; rw [hE]; rfl
    have hLn : putL last ms.length y.xs.length = last := by unfold putL; rw [hE]; rfl
    have hc : (1024 : Int) < (y.n : Int) := by omega
    clear h1 hyl hhl hla hle
    go_enter Try.func18, Try.ntmps18
    go_upto_region 0 with fail
    refine wp_region_lit ?_
    refine wl_box (by kernel_rfl) 32 (.tmp 2) rfl (msC i0 f t y.v) rfl hS ?_
    clear hS
    intro g1 w1 hS
    simp [Act.put]
    refine wl (by kernel_rfl) fun kQ hkQ => ?_
    go_simp
    refine hkQ _ _ ?_
    clear hkQ kQ
    refine wpList_nil ?_
    go_upto_region 1 with fail
    refine wp_region_lit ?_
    refine wl (by kernel_rfl) fun kQ hkQ => ?_
    go_simp
    refine hkQ _ _ ?_
    clear hkQ kQ
    refine wl_load (by kernel_rfl) 32 (.tmp 5) rfl 0 rfl 0 rfl (msC i0 f t y.v) (At.self _) Try.underlying32 rfl (sz_D _ _ _ _) hS ?_
    simp [Act.put]
    refine wl (by kernel_rfl) fun kQ hkQ => ?_
    go_simp
    refine (put_any w0 _ _ gb mb last ms L _ hS (NoB.cons rfl (NoB.cons rfl (plRows hn hA hT))) (Nat.le_refl _) i0 f t y (rd_old (unhide HY)) hlb).mono ?_
    clear hS
    rintro e w2 ⟨ms', rfl, hp, hS⟩
    refine hkQ _ _ ?_
    clear hkQ kQ
    rw [hE, hNn]
    rw [hLn] at hS
    unfold putP at hp
    rw [List.length_map, hE] at hp
    refine wl (by kernel_rfl) fun kQ hkQ => ?_
    go_simp
    refine hkQ _ _ ?_
    clear hkQ kQ
    refine wl (by kernel_rfl) fun kQ hkQ => ?_
    go_simp
    refine hkQ _ _ ?_
    clear hkQ kQ
    refine wl (by kernel_rfl) fun kQ hkQ => ?_
    go_simp
    refine hkQ _ _ ?_
    clear hkQ kQ
    refine wl (by kernel_rfl) fun kQ hkQ => ?_
    go_simp
    refine hkQ _ _ ?_
    clear hkQ kQ
    refine wl (by kernel_rfl) fun kQ hkQ => ?_
    go_simp
    refine hkQ _ _ ?_
    clear hkQ kQ
    refine wpList_nil ?_
    rw [if_neg (by decide)] at hp
    have HI9 : Inv24 ms' L tk last h (N + 1) := by
      have k := unhide HI
      have hl9 : ms'.length = ms.length := by have := congrArg List.length hp; simpa using this
      exact ⟨k.nu, k.tl, by rw [hp]; exact k.eq, k.la, by rw [hl9]; exact k.he, by have := k.le; omega⟩
    clear hp
    go_upto_region 2 with fail
    refine wp_region_lit ?_
    refine wl (by kernel_rfl) fun kQ hkQ => ?_
    go_simp
    refine hkQ _ _ ?_
    clear hkQ kQ
    refine wl_load1 (by kernel_rfl) 27 (.tmp 15) rfl 0 rfl 3 rfl (y.v) (at_D3 i0 f t y.v) Try.underlying27 rfl hS ?_
    simp [Act.put]
    refine wl (by kernel_rfl) fun kQ hkQ => ?_
    go_simp
    refine hkQ _ _ ?_
    clear hkQ kQ
    refine wl (by kernel_rfl) fun kQ hkQ => ?_
    go_simp
    refine hkQ _ _ ?_
    clear hkQ kQ
    refine wpList_nil ?_
    go_wp2_with fail
    replace hS := hS.sub ((((List.Sublist.refl _)).cons_cons _).cons _)
    go_ret
    exact ⟨rfl, ⟨Aa, An, Ac, Ax⟩, ⟨Ta, Tn, Tc, Tx⟩, RA, RT, ms', L, tk, last, h, ⟨hA, hT, hS⟩, HI9⟩
  · have hNn : putN last ms.length y.xs.length = 0 := by unfold putN; rw [hE]; rfl
    have hLn : putL last ms.length y.xs.length = last := by unfold putL; rw [hE]; rfl
    have hc : ¬ (1024 : Int) < (y.n : Int) := by omega
    have hms := hS.K.le
    obtain rfl : h = 4096 := by omega
    clear h1 h2 hyl hhl hla hle hms
    go_enter Try.func18, Try.ntmps18
    go_upto_region 0 with fail
    refine wp_region_lit ?_
    refine wl_box (by kernel_rfl) 32 (.tmp 2) rfl (msC i0 f t y.v) rfl hS ?_
    clear hS
    intro g1 w1 hS
    simp [Act.put]
    refine wl (by kernel_rfl) fun kQ hkQ => ?_
    go_simp
    refine hkQ _ _ ?_
    clear hkQ kQ
    refine wpList_nil ?_
    go_upto_region 1 with fail
    refine wp_region_lit ?_
    refine wl (by kernel_rfl) fun kQ hkQ => ?_
    go_simp
    refine hkQ _ _ ?_
    clear hkQ kQ
    refine wl_load (by kernel_rfl) 32 (.tmp 5) rfl 0 rfl 0 rfl (msC i0 f t y.v) (At.self _) Try.underlying32 rfl (sz_D _ _ _ _) hS ?_
    simp [Act.put]
    refine wl (by kernel_rfl) fun kQ hkQ => ?_
    go_simp
    refine (put_any w0 _ _ gb mb last ms L _ hS (NoB.cons rfl (NoB.cons rfl (plRows hn hA hT))) (Nat.le_refl _) i0 f t y (rd_old (unhide HY)) hlb).mono ?_
    clear hS
    rintro e w2 ⟨ms', rfl, hp, hS⟩
    refine hkQ _ _ ?_
    clear hkQ kQ
    rw [hE, hNn]
    rw [hLn] at hS
    unfold putP at hp
    rw [List.length_map, hE] at hp
    refine wl (by kernel_rfl) fun kQ hkQ => ?_
    go_simp
    refine hkQ _ _ ?_
    clear hkQ kQ
    refine wl (by kernel_rfl) fun kQ hkQ => ?_
    go_simp
    refine hkQ _ _ ?_
    clear hkQ kQ
    refine wl (by kernel_rfl) fun kQ hkQ => ?_
    go_simp
    refine hkQ _ _ ?_
    clear hkQ kQ
    refine wl (by kernel_rfl) fun kQ hkQ => ?_
    go_simp
    refine hkQ _ _ ?_
    clear hkQ kQ
    refine wl (by kernel_rfl) fun kQ hkQ => ?_
    go_simp
    refine hkQ _ _ ?_
    clear hkQ kQ
    refine wpList_nil ?_
    rw [if_neg (by decide)] at hp
    have HI9 : Inv24 ms' L tk last 4096 (N + 1) := by
      have k := unhide HI
      have hl9 : ms'.length = ms.length := by have := congrArg List.length hp; simpa using this
      exact ⟨k.nu, k.tl, by rw [hp]; exact k.eq, k.la, by rw [hl9]; exact k.he, by have := k.le; omega⟩
    clear hp
    go_upto_region 2 with fail
    refine wp_region_lit ?_
    refine wl (by kernel_rfl) fun kQ hkQ => ?_
    go_simp
    refine hkQ _ _ ?_
    clear hkQ kQ
    refine wl_load1 (by kernel_rfl) 27 (.tmp 15) rfl 0 rfl 3 rfl (y.v) (at_D3 i0 f t y.v) Try.underlying27 rfl hS ?_
    simp [Act.put]
    refine wl (by kernel_rfl) fun kQ hkQ => ?_
    go_simp
    refine hkQ _ _ ?_
    clear hkQ kQ
    refine wl (by kernel_rfl) fun kQ hkQ => ?_
    go_simp
    refine hkQ _ _ ?_
    clear hkQ kQ
    refine wpList_nil ?_
    go_upto_region 4 with fail
    refine wp_region_lit ?_
    refine wl (by kernel_rfl) fun kQ hkQ => ?_
    go_simp
    refine hkQ _ _ ?_
    clear hkQ kQ
    refine wl (by kernel_rfl) fun kQ hkQ => ?_
    go_simp
    refine hkQ _ _ ?_
    clear hkQ kQ
    refine wl (by kernel_rfl) fun kQ hkQ => ?_
    go_simp
    refine hkQ _ _ ?_
    clear hkQ kQ
    refine wl_load1 (by kernel_rfl) 3 (.tmp 27) rfl 1 rfl 2 rfl (.int .i64 4096) (at_P2 (.slice Aa An Ac) (.slice Ta Tn Tc) 4096) Try.underlying3 rfl hS ?_
    simp [Act.put]
    refine wl (by kernel_rfl) fun kQ hkQ => ?_
    go_simp
    refine hkQ _ _ ?_
    clear hkQ kQ
    refine wpList_nil ?_
    go_wp2_with fail
    replace hS := hS.sub ((((List.Sublist.refl _)).cons_cons _).cons _)
    go_ret
    exact ⟨rfl, ⟨Aa, An, Ac, Ax⟩, ⟨Ta, Tn, Tc, Tx⟩, RA, RT, ms', L, tk, last, 4096, ⟨hA, hT, hS⟩, HI9⟩
  · have hNn : putN last ms.length y.xs.length = ((last + 1 : Nat) : Int) := by unfold putN; rw [hE]; rfl
    have hLn : putL last ms.length y.xs.length = last + 1 := by unfold putL; rw [hE]; rfl
    have hc : ¬ (1024 : Int) < (y.n : Int) := by omega
    have hne : ¬ h = 4096 := by omega
    have HZ : Hid (((last + 1 : Nat) : Int) = (L.length : Int) + 1) := hide (by omega)
    have HLM : Hid (L.length ≤ 1000000) := hide (by omega)
    have HHH : Hid (0 ≤ h ∧ h ≤ 4096) := hide (by have := hS.K.le; omega)
    clear h1 h2 hyl hhl hla hle
    go_enter Try.func18, Try.ntmps18
    go_upto_region 0 with fail
    refine wp_region_lit ?_
    refine wl_box (by kernel_rfl) 32 (.tmp 2) rfl (msC i0 f t y.v) rfl hS ?_
    clear hS
    intro g1 w1 hS
    simp [Act.put]
    refine wl (by kernel_rfl) fun kQ hkQ => ?_
    go_simp
    refine hkQ _ _ ?_
    clear hkQ kQ
    refine wpList_nil ?_
    go_upto_region 1 with fail
    refine wp_region_lit ?_
    refine wl (by kernel_rfl) fun kQ hkQ => ?_
    go_simp
    refine hkQ _ _ ?_
    clear hkQ kQ
    refine wl_load (by kernel_rfl) 32 (.tmp 5) rfl 0 rfl 0 rfl (msC i0 f t y.v) (At.self _) Try.underlying32 rfl (sz_D _ _ _ _) hS ?_
    simp [Act.put]
    refine wl (by kernel_rfl) fun kQ hkQ => ?_
    go_simp
    refine (put_any w0 _ _ gb mb last ms L _ hS (NoB.cons rfl (NoB.cons rfl (plRows hn hA hT))) (Nat.le_refl _) i0 f t y (rd_old (unhide HY)) hlb).mono ?_
    clear hS
    rintro e w2 ⟨ms', rfl, hp, hS⟩
    refine hkQ _ _ ?_
    clear hkQ kQ
    rw [hE, hNn]
    rw [hLn] at hS
    unfold putP at hp
    rw [List.length_map, hE] at hp
    refine wl (by kernel_rfl) fun kQ hkQ => ?_
    go_simp
    refine hkQ _ _ ?_
    clear hkQ kQ
    refine wl (by kernel_rfl) fun kQ hkQ => ?_
    go_simp
    refine hkQ _ _ ?_
    clear hkQ kQ
    refine wl (by kernel_rfl) fun kQ hkQ => ?_
    go_simp
    refine hkQ _ _ ?_
    clear hkQ kQ
    refine wl (by kernel_rfl) fun kQ hkQ => ?_
    go_simp
    refine hkQ _ _ ?_
    clear hkQ kQ
    refine wl (by kernel_rfl) fun kQ hkQ => ?_
    go_simp
    refine hkQ _ _ ?_
    clear hkQ kQ
    refine wpList_nil ?_
    rw [if_pos rfl] at hp
    have HPP := hide hp
    clear hp
    go_upto_region 2 with fail
    refine wp_region_lit ?_
    refine wl (by kernel_rfl) fun kQ hkQ => ?_
    go_simp
    refine hkQ _ _ ?_
    clear hkQ kQ
    refine wl_load1 (by kernel_rfl) 27 (.tmp 15) rfl 0 rfl 3 rfl (y.v) (at_D3 i0 f t y.v) Try.underlying27 rfl hS ?_
    simp [Act.put]
    refine wl (by kernel_rfl) fun kQ hkQ => ?_
    go_simp
    refine hkQ _ _ ?_
    clear hkQ kQ
    refine wl (by kernel_rfl) fun kQ hkQ => ?_
    go_simp
    refine hkQ _ _ ?_
    clear hkQ kQ
    refine wpList_nil ?_
    go_upto_region 4 with fail
    clear hc
    refine wp_region_lit ?_
    refine wl (by kernel_rfl) fun kQ hkQ => ?_
    go_simp
    refine hkQ _ _ ?_
    clear hkQ kQ
    refine wl (by kernel_rfl) fun kQ hkQ => ?_
    go_simp
    refine hkQ _ _ ?_
    clear hkQ kQ
    refine wl (by kernel_rfl) fun kQ hkQ => ?_
    go_simp
    refine hkQ _ _ ?_
    clear hkQ kQ
    refine wl_load1 (by kernel_rfl) 3 (.tmp 27) rfl 1 rfl 2 rfl (.int .i64 h) (at_P2 (.slice Aa An Ac) (.slice Ta Tn Tc) h) Try.underlying3 rfl hS ?_
    simp [Act.put]
    refine wl (by kernel_rfl) fun kQ hkQ => ?_
    go_simp
    refine hkQ _ _ ?_
    clear hkQ kQ
    refine wpList_nil ?_
    go_upto_region 6 with fail
    clear hne
    refine wp_region_lit ?_
    refine wl (by kernel_rfl) fun kQ hkQ => ?_
    go_simp
    refine hkQ _ _ ?_
    clear hkQ kQ
    refine wl (by kernel_rfl) fun kQ hkQ => ?_
    go_simp
    refine hkQ _ _ ?_
    clear hkQ kQ
    refine wl (by kernel_rfl) fun kQ hkQ => ?_
    go_simp
    refine hkQ _ _ ?_
    clear hkQ kQ
    refine wl (by kernel_rfl) fun kQ hkQ => ?_
    go_simp
    refine hkQ _ _ ?_
    clear hkQ kQ
    refine wl (by kernel_rfl) fun kQ hkQ => ?_
    go_simp
    refine hkQ _ _ ?_
    clear hkQ kQ
    refine wl_load (by kernel_rfl) 32 (.tmp 5) rfl 0 rfl 0 rfl (msC i0 f t y.v) (At.self _) Try.underlying32 rfl (sz_D _ _ _ _) hS ?_
    simp [Act.put]
    refine wl (by kernel_rfl) fun kQ hkQ => ?_
    go_simp
    refine (laid_any w0 gb mb gp ((g1, 32, (msC i0 f t y.v)) :: rows) ⟨Aa, An, Ac, Ax⟩ ⟨Ta, Tn, Tc, Tx⟩ RA RT ms' L tk (last + 1) h f t y ((last + 1 : Nat) : Int) i0 _ ⟨hA, hT, hS.two⟩ (NoB.cons rfl hn) (unhide HZ) (unhide HTL) (unhide HLM) (unhide HHH) (rb_old (unhide HY)) hyn).mono ?_
    clear hS
    rintro e w3 ⟨rfl, A', T', RA', RT', x', hx', hA', hT', hS⟩
    refine hkQ _ _ ?_
    clear hkQ kQ
    replace hS := hS.two
    refine wl (by kernel_rfl) fun kQ hkQ => ?_
    go_simp
    refine hkQ _ _ ?_
    clear hkQ kQ
    refine wl (by kernel_rfl) fun kQ hkQ => ?_
    go_simp
    refine hkQ _ _ ?_
    clear hkQ kQ
    refine wpList_nil ?_
    go_wp2_with fail
    replace hS := hS.sub ((List.Sublist.refl _).cons _)
    go_ret
    exact ⟨rfl, A', T', RA', RT', ms', L ++ [x'], tk ++ [false], last + 1, h + 1, ⟨hA', hT', hS⟩, (unhide HI).put (unhide HPP) x' hx'⟩
end Go.Proofs.Ytaepmfkdnjembaa
