import Derived.Test.YtoipofidogajkaaTorM
import Derived.Test.YtoipofidogajkaaLoW
set_option linter.unusedVariables false
namespace Go.Proofs.Ytoipofidogajkaa
open Go.RowKit

theorem crc0_ne : crc [0] ≠ 0 := by
  unfold crc
  have h : crcN [0] ≠ 0 := by decide +kernel
  omega
theorem zero1_isB : IsB [0] := fun x hx => by simp at hx; omega
theorem frs_ok : ∀ (ps : List Sl) (i : Nat), (∀ s ∈ ps, IsB s.l ∧ s.l.length ≤ 262144) → i + ps.length ≤ 256 → Okf (frs i ps)
  | [], _, _, _ => fun f hf => by simp [frs] at hf
  | s :: ps, i, h, hi => by
    intro f hf
    simp only [frs, List.mem_cons] at hf
    simp only [List.length_cons] at hi
    rcases hf with rfl | hf
    · exact ⟨by simp only; omega, (h s (by simp)).1, (h s (by simp)).2⟩
    · exact frs_ok ps (i + 1) (fun t ht => h t (List.mem_cons_of_mem _ ht)) (by omega) f hf
theorem flat_isB : ∀ (fs : List (Int × List Int)), Okf fs → IsB (flat fs)
  | [], _ => fun x hx => by simp [flat] at hx
  | f :: fs, h => (encL_isB (h f (by simp)).1 (h f (by simp)).2.1).append (flat_isB fs fun g hg => h g (List.mem_cons_of_mem _ hg))
theorem own_form {W : World} {B e sz n : Nat} {v : Value} {xs : List Value} (h : W.ownsRow B e sz v n xs) : ∃ a c, v = .slice a n c := by
  rcases h.2 with ⟨rfl, h2⟩ | ⟨g, cap, cur, rfl, _⟩
  · first | exact ⟨none, 0, by simp_all⟩ | exact ⟨none, 0, h2 ▸ rfl⟩
  · exact ⟨_, _, rfl⟩
theorem own_cap {W : World} {B e n c : Nat} {a : Option Addr} {xs : List Value} (h : W.ownsRow B e 1 (.slice a n c) n xs) : n ≤ c ∧ c ≤ 9223372036854775807 := by
  rcases h.2 with ⟨h1, h2⟩ | ⟨g, cap, cur, h1, _, _, h3, h4, _⟩
  · simp at h1; omega
  · simp at h1
    obtain ⟨_, rfl⟩ := h1
    unfold maxLen at h4
    omega
theorem Sl.Ok.cutAt {w : World} {a : Option Addr} {n c : Nat} {l : List Int} (h : Sl.Ok w ⟨a, n, c, l⟩) (k : Nat) (hk : k ≤ n) : Sl.Ok w ⟨a, k, k, l.take k⟩ := by
  have h1 := h.len
  have h2 := h.le
  have h3 := h.mx
  simp only at h1 h2 h3
  exact ⟨by simp only [List.length_take]; omega, Nat.le_refl _, by simp only; omega, (fun e => by have := h.nn e; simp only at this ⊢; omega), h.isB.take k, lies_take h.lies k⟩
theorem own_okb {w : World} {base n c : Nat} {a : Option Addr} {l : List Int} (h : w.ownsRow base 5 1 (.slice a n c) n (U8 l)) (hB : IsB l) : Sl.Ok w ⟨a, n, c, l⟩ := by
  obtain ⟨s, hs, so, sl, sn, sa⟩ := own_sl h hB
  obtain ⟨sa', sn', sc, sl'⟩ := s
  simp only [Sl.v, Value.slice.injEq] at hs
  obtain ⟨rfl, rfl, rfl⟩ := hs
  simp only at sl
  subst sl
  exact so
theorem Okf_take {fs : List (Int × List Int)} (h : Okf fs) (k : Nat) : Okf (fs.take k) := fun f hf => h f (List.mem_of_mem_take hf)
theorem pls_len {xs : List Fx} {fs : List (Int × List Int)} {k : Nat} (h : xs.map Fx.d = pls 0 (fs.take k)) (hk : k ≤ fs.length) : xs.length = k := by
  have e := congrArg List.length h
  rw [List.length_map, pls_length, List.length_take] at e
  omega
theorem fxC_at : ∀ (xs : List Fx) (j : Nat) (x : Fx), xs[j]? = some x → (fxC xs)[j * 2]? = some (.int .u8 x.k) ∧ (fxC xs)[j * 2 + 1]? = some (.slice x.a x.p.length x.p.length)
  | [], j, x, h => by simp at h
  | y :: xs, 0, x, h => by simp at h; subst h; exact ⟨rfl, rfl⟩
  | y :: xs, j + 1, x, h => by
    have ih := fxC_at xs j x (by simpa using h)
    rw [show (j + 1) * 2 = j * 2 + 1 + 1 by omega]
    simpa [fxC] using ih
theorem pls_at : ∀ (fs : List (Int × List Int)) (i j : Nat) (f : Int × List Int), fs[j]? = some f → ∃ o, (pls i fs)[j]? = some (o, f.1, f.2)
  | [], _, j, f, h => by simp at h
  | g :: fs, i, 0, f, h => by simp at h; subst h; exact ⟨i, rfl⟩
  | g :: fs, i, j + 1, f, h => by
    obtain ⟨o, ho⟩ := pls_at fs (i + g.2.length + 10) j f (by simpa using h)
    exact ⟨o, by simpa [pls] using ho⟩
theorem frs_at : ∀ (ps : List Sl) (i j : Nat) (s : Sl), ps[j]? = some s → (frs i ps)[j]? = some (((i + j : Nat) : Int), s.l)
  | [], _, j, s, h => by simp at h
  | t :: ps, i, 0, s, h => by simp at h; subst h; rfl
  | t :: ps, i, j + 1, s, h => by
    have ih := frs_at ps (i + 1) j s (by simpa using h)
    rw [show i + 1 + j = i + (j + 1) by omega] at ih
    simpa [frs] using ih
/-- the j-th frame that was scanned is the j-th payload's -/
theorem xs_at {xs : List Fx} {fs : List (Int × List Int)} {ps : List Sl} {k j : Nat} (h : xs.map Fx.d = pls 0 (fs.take k)) (hfs : fs = frs 0 ps) (hk : k ≤ fs.length) (hj : j < k) :
    ∃ x s, xs[j]? = some x ∧ ps[j]? = some s ∧ x.k = (j : Int) ∧ x.p = s.l := by
  have hpl : fs.length = ps.length := by rw [hfs, frs_length]
  obtain ⟨s, hs⟩ : ∃ s, ps[j]? = some s := ⟨_, List.getElem?_eq_getElem (by omega)⟩
  have h1 := frs_at ps 0 j s hs
  rw [← hfs, Nat.zero_add] at h1
  have h2 : (fs.take k)[j]? = some (((j : Nat) : Int), s.l) := by rw [List.getElem?_take, if_pos hj]; exact h1
  obtain ⟨o, ho⟩ := pls_at _ 0 j _ h2
  rw [← h, List.getElem?_map] at ho
  cases hx : xs[j]? with
  | none => rw [hx] at ho; simp at ho
  | some x =>
    rw [hx] at ho
    simp [Fx.d] at ho
    exact ⟨x, s, rfl, hs, ho.2.1, ho.2.2⟩
theorem same_q {W : World} {n : Nat} {a b : Option Addr} {m c c' : Nat} {l : List Int} (ha : Sl.Ok W ⟨a, m, c, l⟩) (hb : Sl.Ok W ⟨b, m, c', l⟩) (hm : m ≤ 1099511627776) : Calls Try.prog 12 #[.slice a m c, .slice b m c'] (W.drewN n) fun e w'' => e = .returned (.bool true) ∧ ∃ q, w'' = W.drewN q :=
  (same_t ⟨a, m, c, l⟩ ⟨b, m, c', l⟩ (W.drewN n) (ok_drewN ha n) (ok_drewN hb n) hm rfl).mono fun e w' ⟨h, k, hk⟩ => ⟨h, n + k, by rw [hk, World.drewN_drewN]⟩
theorem wpList_append_torn {W : World} {ops : Array Oper} {rest : List Oper} {o : Oper} {a : Act} {Q : Exit → Act → World → Prop} (hgd : o.guard = none) (s x : Operand)
    (ho : o.op = .call { callee := .builtin .append, args := #[s, x], argTypes := #[22, 22] }) (a_ : Option Addr) (t : Nat) (l : List Int) (hs : a.eval s = .slice a_ t t) (hd : Sl.Ok W ⟨a_, t, t, l⟩) (bh : Int) (hb : 0 ≤ bh ∧ bh ≤ 255)
    (hx : a.eval x = .slice (some ⟨W.heap.size, 0, none⟩) 1 1) (ht : t ≤ 100000)
    (h : ∀ a' c' w', Hid (Sl.Ok w' ⟨a', t + 1, c', l ++ [bh]⟩) → Hid (Below W.heap.size W w') → wpList Try.prog ops Q rest (a.put o.dst (.slice a' (t + 1) c')) w') : wpList Try.prog ops Q (o :: rest) a (W.alloc (.cells #[.int .u8 bh] 5)) := by
  obtain ⟨i0, hi, hz0, hz1, hz2⟩ := info_parts Try.infoB
  have hqB : IsB [bh] := fun y hy => by simp at hy; omega
  have hl : l.length = t := hd.len
  cases ha : a_ with
  | none =>
    have h0 := hd.nn ha
    simp only at h0
    obtain ⟨h0, -⟩ := h0
    subst h0
    have hl0 : l = [] := List.eq_nil_of_length_eq_zero hl
    subst hl0
    rw [ha] at hs
    refine wpList_append_lit (w0 := W) (W := W) hgd s x ho W.heap.size (.slice none 0 0) 0 [] [bh] hs (World.ownsRow_nil _ _ _ _) (Below.refl _ _) (Nat.le_refl _) hqB (by simp) hx (by simp) ?_
    intro v' w' h1 h2
    obtain ⟨a', c', rfl⟩ := own_form (unhide h1)
    exact h a' c' w' (hide (own_okb (unhide h1) hqB)) h2
  | some b =>
    rw [ha] at hs
    have hd2 := hd.later (below_alloc W (.cells #[.int .u8 bh] 5))
    refine wpList_append_new hgd s x 22 ho 5 i0 (.int .u8 0) Try.underlying22 hi hz0 hz1 hz2 b t t hs l hl hd.isB (hd2.cells b ha) ⟨_, _, _, [bh]⟩ (lit_ok W [bh] hqB (by simp)) hx (by simp) (by simp) (by simp; omega) ?_
    intro cap w' h1 h2 h3
    exact h _ _ w' h1 (hide (bel_then (below_alloc W _) (below_alloc W _).size (unhide h2)))
theorem sum0_any (w : World) : Calls Try.prog 9 #[.slice (some ⟨w.heap.size, 0, none⟩) 1 1] (w.alloc (.cells #[.int .u8 0] 5)) fun e w' => e = .returned (.int .u32 (crc [0])) ∧ w' = w.alloc (.cells #[.int .u8 0] 5) := sum_any _ _ (lit_ok w [0] zero1_isB (by simp))
theorem I64s_at (l : List Nat) (i : Nat) (h : i < l.length) : (I64s l)[i]? = some (.int .i64 (l.getD i 0 : Nat)) := by
  simp [I64s, List.getElem?_map, List.getElem?_eq_getElem h, List.getD]
set_option maxHeartbeats 4000000 in
set_option maxRecDepth 100000 in
theorem torn_law (pa : Option Addr) (pc : Nat) (ps : List Sl) (z bh : Int) (w : World) (hv : LiesV w pa (ps.map Sl.v)) (hok : ∀ s ∈ ps, s.Ok w) (hpn : ps.length ≤ 140737488351232) (hpz : ∀ s ∈ ps, s.c ≤ 140737488351232) (hbh : 0 ≤ bh ∧ bh ≤ 255) :
    Calls Try.prog 6 #[.slice pa ps.length pc, .int .i64 z, .int .u8 bh] w fun e w' => e = .returned (.bool true) ∧ Below w.heap.size w w' := by
  have hSm := small_any pa pc ps w hv hok hpn hpz
  go_enter Try.func6, Try.ntmps6
  go_wp2_with fail
  refine hSm.mono ?_
  rintro e w1 ⟨(rfl | ⟨rfl, htot, hpn2⟩), rfl⟩
  · go_wp2_with fail
    go_ret
    exact ⟨rfl, Below.refl _ _⟩
  have hJ := joined_any pa pc ps w1 hv hok hpn2 htot
  have hpl : ∀ s ∈ ps, IsB s.l ∧ s.l.length ≤ 262144 := fun s hs => ⟨(hok s hs).isB, by
    have : s.l.length ≤ (cat ps).length := by
      obtain ⟨k, hk⟩ := List.getElem?_of_mem hs
      have h1 := cat_take_succ ps k s hk
      have h2 := cat_take_le ps (k + 1)
      rw [h1, List.length_append] at h2
      omega
    omega⟩
  have hFok := frs_ok ps 0 hpl (by omega)
  have hFl := frs_length ps 0
  have hFn := flat_frs_len ps 0
  obtain ⟨fs, hfs⟩ : ∃ fs, fs = frs 0 ps := ⟨_, rfl⟩
  rw [← hfs] at hJ hFok hFl hFn
  obtain ⟨N, hN⟩ : ∃ N, N = (flat fs).length := ⟨_, rfl⟩
  obtain ⟨P, hP⟩ : ∃ P, P = ps.length := ⟨_, rfl⟩
  rw [← hN] at hJ hFn
  rw [← hP] at hJ hFl hFn hpn2 ⊢
  have HFS := hide hfs
  have HN := hide hN
  have HP := hide hP
  have HFL := hide hFl
  have HFO := hide hFok
  have HV := hide hv
  have HOK := hide hok
  have hNb : N ≤ 70000 := by omega
  clear hSm hfs hN hP hFl hFok hv hok hpn hpz hpl htot hFn
  have hc0 : (crc [0] != 0) = true := by rw [bne_iff_ne]; exact crc0_ne
  by_cases hz1 : z < 0
  · go_wp2_with (first | (go_at_call 16; refine hJ.mono ?_; rintro e w2 ⟨vb, ve, rfl, ob, oe, b2⟩; clear hJ; obtain ⟨ab, cb, rfl⟩ := own_form ob; obtain ⟨ae, ce, rfl⟩ := own_form oe; have hNc := own_cap ob; have hS0 := sum0_any w2) | (go_at_call 9; refine hS0.mono ?_; rintro e w9 ⟨rfl, rfl⟩))
    go_ret
    exact ⟨rfl, bel_then b2 b2.size (below_alloc w2 _)⟩
  by_cases hz2 : (N : Int) < z
  · go_wp2_with (first | (go_at_call 16; refine hJ.mono ?_; rintro e w2 ⟨vb, ve, rfl, ob, oe, b2⟩; clear hJ; obtain ⟨ab, cb, rfl⟩ := own_form ob; obtain ⟨ae, ce, rfl⟩ := own_form oe; have hNc := own_cap ob; have hS0 := sum0_any w2) | (go_at_call 9; refine hS0.mono ?_; rintro e w9 ⟨rfl, rfl⟩))
    go_ret
    exact ⟨rfl, bel_then b2 b2.size (below_alloc w2 _)⟩
  obtain ⟨C, hC⟩ : ∃ C : Nat, z = C := ⟨z.toNat, by omega⟩
  subst hC
  have hCN : C ≤ N := by omega
  go_wp2_with (go_at_call 16; refine hJ.mono ?_; rintro e w2 ⟨vb, ve, rfl, ob, oe, b2⟩; clear hJ; obtain ⟨ab, cb, rfl⟩ := own_form ob; obtain ⟨ae, ce, rfl⟩ := own_form oe; have hNc := own_cap ob; have hS0 := sum0_any w2)
  have HOB := hide ob
  have HOE := hide oe
  have HB2 := hide b2
  clear ob oe b2
  go_loop [10, 11] (fun a b => ∃ k t : Nat, k ≤ P ∧ a = .int .i64 k ∧ b = .int .i64 t ∧ Hid (t = (flat (fs.take k)).length ∧ ∀ j, j < k → (ens 0 fs).getD j 0 ≤ C)) (fun a _ => P - (intOf a).toNat)
  case atStart => exact ⟨0, 0, by omega, rfl, rfl, hide ⟨rfl, fun j hj => by omega⟩⟩
  case round =>
    obtain ⟨k, t, hk, rfl, rfl, HT⟩ := hrel
    by_cases hlt : k < P
    · obtain ⟨ge, cE, hae, -, -⟩ := (unhide HOE).form (by omega)
      simp only [Value.slice.injEq] at hae
      obtain ⟨rfl, -, rfl⟩ := hae
      have hce := ((unhide HOE).cellAt k (by omega)).trans (I64s_at _ k (by rw [ens_length]; have := unhide HFL; omega))
      have hnx := flat_take_len fs 0 k (by have := unhide HFL; omega)
      rw [Nat.zero_add] at hnx
      generalize hE : (ens 0 fs).getD k 0 = E at hce hnx
      have HE := hide hE
      have HNX := hide hnx
      clear hE hnx
      by_cases hle : (E : Int) ≤ (C : Int)
      · go_wp2_with fail
        go_round
        case rel => exact ⟨k + 1, E, by omega, by go_num, rfl, hide ⟨(unhide HNX).symm, fun j hj => by
            by_cases e : j = k
            · subst e; rw [unhide HE]; omega
            · exact (unhide HT).2 j (by omega)⟩⟩
        case measure => simp [intOf]; omega
      · have hCnt : cntF fs C = k := ens_cnt fs 0 C k (fun j hj => by rw [Nat.zero_add]; exact (unhide HT).2 j hj) (by have := unhide HFL; omega) (fun _ => by rw [Nat.zero_add, unhide HE]; omega)
        have okb := (own_okb (unhide HOB) (flat_isB fs (unhide HFO))).cutAt C hCN
        have hrm := rstF_mz fs C (unhide HFO)
        have htt : (flat fs).take C = flat (fs.take k) ++ rstF fs C := by rw [torn_take fs C (by have := unhide HN; omega), hCnt]
        have hSc := scan_any ⟨ab, C, C, (flat fs).take C⟩ (fs.take k) (rstF fs C) w2 okb htt (Okf_take (unhide HFO) k) (by rcases hrm with h | h <;> rw [h.2]) (by simp only; omega)
        rw [← (unhide HT).1] at hSc
        have htC : t + (rstF fs C).length = C := by
          have h := congrArg List.length htt
          rw [List.length_take, List.length_append, ← (unhide HT).1] at h
          have := unhide HN
          omega
        obtain ⟨T, hT, hTT⟩ : ∃ T : Int, (mz (rstF fs C)).2 = T ∧ ((t = C ∧ T = 0) ∨ (t ≠ C ∧ T = 1)) := by
          rcases hrm with h | h
          · exact ⟨0, by rw [h.2], .inl ⟨by rw [h.1] at htC; simpa using htC, rfl⟩⟩
          · refine ⟨1, by rw [h.2], .inr ⟨fun e => h.1 (List.eq_nil_of_length_eq_zero (by omega)), rfl⟩⟩
        rw [hT] at hSc
        simp only [Sl.v] at hSc
        have htle : t ≤ C := by omega
        have HTT := hide htt
        have hkf : k ≤ fs.length := by have := unhide HFL; omega
        clear hrm okb htt hT htC hCnt
        have hkk : ((k : Int) != (k : Int)) = false := by simp
        have htt2 : ((t : Int) != (t : Int)) = false := by simp
        rcases hTT with ⟨htC, rfl⟩ | ⟨htC, rfl⟩
        · subst htC
          go_wp2_with (go_at_call 17; refine hSc.mono ?_; rintro e w3 ⟨v, xs, rfl, o3, hxs, hli, b3⟩; clear hSc; obtain ⟨av, cv, rfl⟩ := own_form o3; have hxl := pls_len hxs hkf; have O3 := hide o3; have HXS := hide hxs; have HLI := hide hli; have HB3 := hide b3; rw [hxl]; clear o3 hxs hli b3)
          go_loopw [16] (fun i wr => ∃ j m : Nat, j ≤ k ∧ i = .int .i64 j ∧ wr = w3.drewN m) (fun i _ => k - (intOf i).toNat)
          case atStart => exact ⟨0, 0, by omega, rfl, rfl⟩
          case round =>
            obtain ⟨j, m, hj, rfl, hwr0⟩ := hrel
            have hwr := hide hwr0
            clear hwr0
            by_cases hjk : j < k
            · obtain ⟨x, s, hx, hs, hxk, hxp⟩ := xs_at (unhide HXS) (unhide HFS) hkf hjk
              have B13 := bel_then (unhide HB2) (unhide HB2).size (unhide HB3)
              have hso := (unhide HOK s (List.mem_of_getElem? hs)).later B13
              obtain ⟨pb, po, hpa, hpb, hpcell⟩ := (unhide HV).later B13 (by have := unhide HP; simp; omega)
              subst hpa
              have hpj := hpcell j s.v (by simp [hs])
              have hfc := fxC_at xs j x hx
              obtain ⟨gv, cg, hav, -, -⟩ := (unhide O3).form (by omega)
              simp only [Value.slice.injEq] at hav
              obtain ⟨rfl, -, rfl⟩ := hav
              have hk0 := ((unhide O3).cellAt (j * 2) (by omega)).trans hfc.1
              have hk1 := ((unhide O3).cellAt (j * 2 + 1) (by omega)).trans hfc.2
              have hxo := (own_cut (unhide HLI x (List.mem_of_getElem? hx)).1.choose_spec (unhide HLI x (List.mem_of_getElem? hx)).2.1).1
              have hxL := (unhide HLI x (List.mem_of_getElem? hx)).2.2.1
              obtain ⟨o_, xk, xa, xp⟩ := x
              obtain ⟨sa, sn, sc, sl⟩ := s
              simp only [Sl.v] at hxk hxp hk0 hk1 hpj hxo hxL
              subst hxk hxp
              have hsl := hso.len
              have hsc := hso.le
              simp only at hsl hsc
              rw [hsl] at hk1 hxo
              have hsn : sn ≤ 262144 := by rw [← hsl]; exact hxL
              have c0 : wr.cell? ⟨gv, j * 2, none⟩ = some (.int .u8 (j : Int)) := by rw [unhide hwr]; exact hk0
              have c1 : wr.cell? ⟨gv, j * 2 + 1, none⟩ = some (.slice xa sn sn) := by rw [unhide hwr]; exact hk1
              have c2 : wr.cell? ⟨pb, po + j, none⟩ = some (.slice sa sn sc) := by rw [unhide hwr]; exact hpj
              have q1 : Sl.Ok wr ⟨xa, sn, sn, xp⟩ := by rw [unhide hwr]; exact ok_drewN hxo m
              have q2 : Sl.Ok wr ⟨sa, sn, sc, xp⟩ := by rw [unhide hwr]; exact ok_drewN hso m
              have hjj : ((j : Int) != (j : Int)) = false := by simp
              have hjk2 : (j : Int) < (k : Int) := by omega
              have hjP : (j : Int) < (P : Int) := by omega
              clear hk0 hk1 hpj hpcell hfc hxo hso
              go_wp2_with fail
              go_quiet ((go_at_call 12; exact same_q q1 q2 (by omega)))
              go_wp2
              go_roundw
              case rel => exact ⟨j + 1, m + nq, by omega, by go_num, by rw [unhide hwr, World.drewN_drewN]⟩
              case measure => simp [intOf]; omega
            · have hjk2 : ¬ (j : Int) < (k : Int) := by omega
              have B13 := bel_then (unhide HB2) (unhide HB2).size (unhide HB3)
              have BW : Below w1.heap.size w1 wr := by rw [unhide hwr]; exact below_drewN B13 m
              have BW2 : Below w2.heap.size w2 wr := by rw [unhide hwr]; exact below_drewN (unhide HB3) m
              by_cases hb5 : bh = 165
              · subst hb5
                have hbb : ((165 : Int) == 165) = true := rfl
                have hS0 := sum0_any wr
                go_wp2_with (go_at_call 9; refine hS0.mono ?_; rintro e w9 ⟨rfl, rfl⟩; clear hS0)
                go_ret
                exact ⟨rfl, bel_then BW BW.size (below_alloc wr _)⟩
              · have hbb : (bh == 165) = false := by rw [beq_eq_false_iff_ne]; exact hb5
                have htN : t ≤ N := by omega
                have hft : (flat fs).take t = flat (fs.take k) := by
                  have h := congrArg (List.take t) (unhide HTT)
                  rw [List.take_take, Nat.min_eq_left (by omega), List.take_left' (unhide HT).1.symm] at h
                  exact h
                have okt := ((own_okb (unhide HOB) (flat_isB fs (unhide HFO))).cutAt t htN).later BW2
                rw [hft] at okt
                go_wp2_with (at_builtin; refine wpList_append_torn rfl _ _ rfl _ t _ rfl okt bh hbh rfl (by omega) ?_)
                intro a5 c5 w5 ok5 b5
                have hSc := scan_any ⟨a5, t + 1, c5, flat (fs.take k) ++ [bh]⟩ (fs.take k) [bh] w5 (unhide ok5) rfl (Okf_take (unhide HFO) k) (by rw [mz_byte bh hb5]) (by simp only; omega)
                rw [← (unhide HT).1, mz_byte bh hb5] at hSc
                simp only [Sl.v] at hSc
                have B5 := bel_then BW BW.size (unhide b5)
                clear ok5 b5 okt
                have hke : ((k : Int) == (k : Int)) = true := by simp
                have hte : ((t : Int) == (t : Int)) = true := by simp
                go_wp2_with (first
                  | (go_at_call 17; refine hSc.mono ?_; rintro e w6 ⟨v6, xs6, rfl, o6, hx6, hli6, b6⟩; clear hSc; obtain ⟨a6, c6, rfl⟩ := own_form o6; have hxl6 := pls_len hx6 hkf; have B6 := hide (bel_then B5 B5.size b6); have hS0 := sum0_any w6; rw [hxl6]; clear o6 hx6 hli6 b6 hxl6)
                  | (go_at_call 9; refine hS0.mono ?_; rintro e w9 ⟨rfl, rfl⟩; clear hS0))
                go_ret
                exact ⟨rfl, bel_then (unhide B6) (unhide B6).size (below_alloc w6 _)⟩
        · have hne : ((t : Int) == (C : Int)) = false := by rw [beq_eq_false_iff_ne]; omega
          go_wp2_with (go_at_call 17; refine hSc.mono ?_; rintro e w3 ⟨v, xs, rfl, o3, hxs, hli, b3⟩; clear hSc; obtain ⟨av, cv, rfl⟩ := own_form o3; have hxl := pls_len hxs hkf; have O3 := hide o3; have HXS := hide hxs; have HLI := hide hli; have HB3 := hide b3; rw [hxl]; clear o3 hxs hli b3)
          go_loopw [16] (fun i wr => ∃ j m : Nat, j ≤ k ∧ i = .int .i64 j ∧ wr = w3.drewN m) (fun i _ => k - (intOf i).toNat)
          case atStart => exact ⟨0, 0, by omega, rfl, rfl⟩
          case round =>
            obtain ⟨j, m, hj, rfl, hwr0⟩ := hrel
            have hwr := hide hwr0
            clear hwr0
            by_cases hjk : j < k
            · obtain ⟨x, s, hx, hs, hxk, hxp⟩ := xs_at (unhide HXS) (unhide HFS) hkf hjk
              have B13 := bel_then (unhide HB2) (unhide HB2).size (unhide HB3)
              have hso := (unhide HOK s (List.mem_of_getElem? hs)).later B13
              obtain ⟨pb, po, hpa, hpb, hpcell⟩ := (unhide HV).later B13 (by have := unhide HP; simp; omega)
              subst hpa
              have hpj := hpcell j s.v (by simp [hs])
              have hfc := fxC_at xs j x hx
              obtain ⟨gv, cg, hav, -, -⟩ := (unhide O3).form (by omega)
              simp only [Value.slice.injEq] at hav
              obtain ⟨rfl, -, rfl⟩ := hav
              have hk0 := ((unhide O3).cellAt (j * 2) (by omega)).trans hfc.1
              have hk1 := ((unhide O3).cellAt (j * 2 + 1) (by omega)).trans hfc.2
              have hxo := (own_cut (unhide HLI x (List.mem_of_getElem? hx)).1.choose_spec (unhide HLI x (List.mem_of_getElem? hx)).2.1).1
              have hxL := (unhide HLI x (List.mem_of_getElem? hx)).2.2.1
              obtain ⟨o_, xk, xa, xp⟩ := x
              obtain ⟨sa, sn, sc, sl⟩ := s
              simp only [Sl.v] at hxk hxp hk0 hk1 hpj hxo hxL
              subst hxk hxp
              have hsl := hso.len
              have hsc := hso.le
              simp only at hsl hsc
              rw [hsl] at hk1 hxo
              have hsn : sn ≤ 262144 := by rw [← hsl]; exact hxL
              have c0 : wr.cell? ⟨gv, j * 2, none⟩ = some (.int .u8 (j : Int)) := by rw [unhide hwr]; exact hk0
              have c1 : wr.cell? ⟨gv, j * 2 + 1, none⟩ = some (.slice xa sn sn) := by rw [unhide hwr]; exact hk1
              have c2 : wr.cell? ⟨pb, po + j, none⟩ = some (.slice sa sn sc) := by rw [unhide hwr]; exact hpj
              have q1 : Sl.Ok wr ⟨xa, sn, sn, xp⟩ := by rw [unhide hwr]; exact ok_drewN hxo m
              have q2 : Sl.Ok wr ⟨sa, sn, sc, xp⟩ := by rw [unhide hwr]; exact ok_drewN hso m
              have hjj : ((j : Int) != (j : Int)) = false := by simp
              have hjk2 : (j : Int) < (k : Int) := by omega
              have hjP : (j : Int) < (P : Int) := by omega
              clear hk0 hk1 hpj hpcell hfc hxo hso
              go_wp2_with fail
              go_quiet ((go_at_call 12; exact same_q q1 q2 (by omega)))
              go_wp2
              go_roundw
              case rel => exact ⟨j + 1, m + nq, by omega, by go_num, by rw [unhide hwr, World.drewN_drewN]⟩
              case measure => simp [intOf]; omega
            · have hjk2 : ¬ (j : Int) < (k : Int) := by omega
              have B13 := bel_then (unhide HB2) (unhide HB2).size (unhide HB3)
              have BW : Below w1.heap.size w1 wr := by rw [unhide hwr]; exact below_drewN B13 m
              have BW2 : Below w2.heap.size w2 wr := by rw [unhide hwr]; exact below_drewN (unhide HB3) m
              by_cases hb5 : bh = 165
              · subst hb5
                have hbb : ((165 : Int) == 165) = true := rfl
                have hS0 := sum0_any wr
                go_wp2_with (go_at_call 9; refine hS0.mono ?_; rintro e w9 ⟨rfl, rfl⟩; clear hS0)
                go_ret
                exact ⟨rfl, bel_then BW BW.size (below_alloc wr _)⟩
              · have hbb : (bh == 165) = false := by rw [beq_eq_false_iff_ne]; exact hb5
                have htN : t ≤ N := by omega
                have hft : (flat fs).take t = flat (fs.take k) := by
                  have h := congrArg (List.take t) (unhide HTT)
                  rw [List.take_take, Nat.min_eq_left (by omega), List.take_left' (unhide HT).1.symm] at h
                  exact h
                have okt := ((own_okb (unhide HOB) (flat_isB fs (unhide HFO))).cutAt t htN).later BW2
                rw [hft] at okt
                go_wp2_with (at_builtin; refine wpList_append_torn rfl _ _ rfl _ t _ rfl okt bh hbh rfl (by omega) ?_)
                intro a5 c5 w5 ok5 b5
                have hSc := scan_any ⟨a5, t + 1, c5, flat (fs.take k) ++ [bh]⟩ (fs.take k) [bh] w5 (unhide ok5) rfl (Okf_take (unhide HFO) k) (by rw [mz_byte bh hb5]) (by simp only; omega)
                rw [← (unhide HT).1, mz_byte bh hb5] at hSc
                simp only [Sl.v] at hSc
                have B5 := bel_then BW BW.size (unhide b5)
                clear ok5 b5 okt
                have hke : ((k : Int) == (k : Int)) = true := by simp
                have hte : ((t : Int) == (t : Int)) = true := by simp
                go_wp2_with (first
                  | (go_at_call 17; refine hSc.mono ?_; rintro e w6 ⟨v6, xs6, rfl, o6, hx6, hli6, b6⟩; clear hSc; obtain ⟨a6, c6, rfl⟩ := own_form o6; have hxl6 := pls_len hx6 hkf; have B6 := hide (bel_then B5 B5.size b6); have hS0 := sum0_any w6; rw [hxl6]; clear o6 hx6 hli6 b6 hxl6)
                  | (go_at_call 9; refine hS0.mono ?_; rintro e w9 ⟨rfl, rfl⟩; clear hS0))
                go_ret
                exact ⟨rfl, bel_then (unhide B6) (unhide B6).size (below_alloc w6 _)⟩
    · have hkP : k = P := by omega
      have hCnt : cntF fs C = k := ens_cnt fs 0 C k (fun j hj => by rw [Nat.zero_add]; exact (unhide HT).2 j hj) (by have := unhide HFL; omega) (fun h => by have := unhide HFL; omega)
      subst hkP
      have hkP2 : ¬ (k : Int) < (k : Int) := by omega
      have okb := (own_okb (unhide HOB) (flat_isB fs (unhide HFO))).cutAt C hCN
      have hrm := rstF_mz fs C (unhide HFO)
      have htt : (flat fs).take C = flat (fs.take k) ++ rstF fs C := by rw [torn_take fs C (by have := unhide HN; omega), hCnt]
      have hSc := scan_any ⟨ab, C, C, (flat fs).take C⟩ (fs.take k) (rstF fs C) w2 okb htt (Okf_take (unhide HFO) k) (by rcases hrm with h | h <;> rw [h.2]) (by simp only; omega)
      rw [← (unhide HT).1] at hSc
      have htC : t + (rstF fs C).length = C := by
        have h := congrArg List.length htt
        rw [List.length_take, List.length_append, ← (unhide HT).1] at h
        have := unhide HN
        omega
      obtain ⟨T, hT, hTT⟩ : ∃ T : Int, (mz (rstF fs C)).2 = T ∧ ((t = C ∧ T = 0) ∨ (t ≠ C ∧ T = 1)) := by
        rcases hrm with h | h
        · exact ⟨0, by rw [h.2], .inl ⟨by rw [h.1] at htC; simpa using htC, rfl⟩⟩
        · refine ⟨1, by rw [h.2], .inr ⟨fun e => h.1 (List.eq_nil_of_length_eq_zero (by omega)), rfl⟩⟩
      rw [hT] at hSc
      simp only [Sl.v] at hSc
      have htle : t ≤ C := by omega
      have HTT := hide htt
      have hkf : k ≤ fs.length := by have := unhide HFL; omega
      clear hrm okb htt hT htC hCnt
      have hkk : ((k : Int) != (k : Int)) = false := by simp
      have htt2 : ((t : Int) != (t : Int)) = false := by simp
      rcases hTT with ⟨htC, rfl⟩ | ⟨htC, rfl⟩
      · subst htC
        go_wp2_with (go_at_call 17; refine hSc.mono ?_; rintro e w3 ⟨v, xs, rfl, o3, hxs, hli, b3⟩; clear hSc; obtain ⟨av, cv, rfl⟩ := own_form o3; have hxl := pls_len hxs hkf; have O3 := hide o3; have HXS := hide hxs; have HLI := hide hli; have HB3 := hide b3; rw [hxl]; clear o3 hxs hli b3)
        go_loopw [16] (fun i wr => ∃ j m : Nat, j ≤ k ∧ i = .int .i64 j ∧ wr = w3.drewN m) (fun i _ => k - (intOf i).toNat)
        case atStart => exact ⟨0, 0, by omega, rfl, rfl⟩
        case round =>
          obtain ⟨j, m, hj, rfl, hwr0⟩ := hrel
          have hwr := hide hwr0
          clear hwr0
          by_cases hjk : j < k
          · obtain ⟨x, s, hx, hs, hxk, hxp⟩ := xs_at (unhide HXS) (unhide HFS) hkf hjk
            have B13 := bel_then (unhide HB2) (unhide HB2).size (unhide HB3)
            have hso := (unhide HOK s (List.mem_of_getElem? hs)).later B13
            obtain ⟨pb, po, hpa, hpb, hpcell⟩ := (unhide HV).later B13 (by have := unhide HP; simp; omega)
            subst hpa
            have hpj := hpcell j s.v (by simp [hs])
            have hfc := fxC_at xs j x hx
            obtain ⟨gv, cg, hav, -, -⟩ := (unhide O3).form (by omega)
            simp only [Value.slice.injEq] at hav
            obtain ⟨rfl, -, rfl⟩ := hav
            have hk0 := ((unhide O3).cellAt (j * 2) (by omega)).trans hfc.1
            have hk1 := ((unhide O3).cellAt (j * 2 + 1) (by omega)).trans hfc.2
            have hxo := (own_cut (unhide HLI x (List.mem_of_getElem? hx)).1.choose_spec (unhide HLI x (List.mem_of_getElem? hx)).2.1).1
            have hxL := (unhide HLI x (List.mem_of_getElem? hx)).2.2.1
            obtain ⟨o_, xk, xa, xp⟩ := x
            obtain ⟨sa, sn, sc, sl⟩ := s
            simp only [Sl.v] at hxk hxp hk0 hk1 hpj hxo hxL
            subst hxk hxp
            have hsl := hso.len
            have hsc := hso.le
            simp only at hsl hsc
            rw [hsl] at hk1 hxo
            have hsn : sn ≤ 262144 := by rw [← hsl]; exact hxL
            have c0 : wr.cell? ⟨gv, j * 2, none⟩ = some (.int .u8 (j : Int)) := by rw [unhide hwr]; exact hk0
            have c1 : wr.cell? ⟨gv, j * 2 + 1, none⟩ = some (.slice xa sn sn) := by rw [unhide hwr]; exact hk1
            have c2 : wr.cell? ⟨pb, po + j, none⟩ = some (.slice sa sn sc) := by rw [unhide hwr]; exact hpj
            have q1 : Sl.Ok wr ⟨xa, sn, sn, xp⟩ := by rw [unhide hwr]; exact ok_drewN hxo m
            have q2 : Sl.Ok wr ⟨sa, sn, sc, xp⟩ := by rw [unhide hwr]; exact ok_drewN hso m
            have hjj : ((j : Int) != (j : Int)) = false := by simp
            have hjk2 : (j : Int) < (k : Int) := by omega
            have hjP : (j : Int) < (k : Int) := by omega
            clear hk0 hk1 hpj hpcell hfc hxo hso
            go_wp2_with fail
            go_quiet ((go_at_call 12; exact same_q q1 q2 (by omega)))
            go_wp2
            go_roundw
            case rel => exact ⟨j + 1, m + nq, by omega, by go_num, by rw [unhide hwr, World.drewN_drewN]⟩
            case measure => simp [intOf]; omega
          · have hjk2 : ¬ (j : Int) < (k : Int) := by omega
            have B13 := bel_then (unhide HB2) (unhide HB2).size (unhide HB3)
            have BW : Below w1.heap.size w1 wr := by rw [unhide hwr]; exact below_drewN B13 m
            have BW2 : Below w2.heap.size w2 wr := by rw [unhide hwr]; exact below_drewN (unhide HB3) m
            by_cases hb5 : bh = 165
            · subst hb5
              have hbb : ((165 : Int) == 165) = true := rfl
              have hS0 := sum0_any wr
              go_wp2_with (go_at_call 9; refine hS0.mono ?_; rintro e w9 ⟨rfl, rfl⟩; clear hS0)
              go_ret
              exact ⟨rfl, bel_then BW BW.size (below_alloc wr _)⟩
            · have hbb : (bh == 165) = false := by rw [beq_eq_false_iff_ne]; exact hb5
              have htN : t ≤ N := by omega
              have hft : (flat fs).take t = flat (fs.take k) := by
                have h := congrArg (List.take t) (unhide HTT)
                rw [List.take_take, Nat.min_eq_left (by omega), List.take_left' (unhide HT).1.symm] at h
                exact h
              have okt := ((own_okb (unhide HOB) (flat_isB fs (unhide HFO))).cutAt t htN).later BW2
              rw [hft] at okt
              go_wp2_with (at_builtin; refine wpList_append_torn rfl _ _ rfl _ t _ rfl okt bh hbh rfl (by omega) ?_)
              intro a5 c5 w5 ok5 b5
              have hSc := scan_any ⟨a5, t + 1, c5, flat (fs.take k) ++ [bh]⟩ (fs.take k) [bh] w5 (unhide ok5) rfl (Okf_take (unhide HFO) k) (by rw [mz_byte bh hb5]) (by simp only; omega)
              rw [← (unhide HT).1, mz_byte bh hb5] at hSc
              simp only [Sl.v] at hSc
              have B5 := bel_then BW BW.size (unhide b5)
              clear ok5 b5 okt
              have hke : ((k : Int) == (k : Int)) = true := by simp
              have hte : ((t : Int) == (t : Int)) = true := by simp
              go_wp2_with (first
                | (go_at_call 17; refine hSc.mono ?_; rintro e w6 ⟨v6, xs6, rfl, o6, hx6, hli6, b6⟩; clear hSc; obtain ⟨a6, c6, rfl⟩ := own_form o6; have hxl6 := pls_len hx6 hkf; have B6 := hide (bel_then B5 B5.size b6); have hS0 := sum0_any w6; rw [hxl6]; clear o6 hx6 hli6 b6 hxl6)
                | (go_at_call 9; refine hS0.mono ?_; rintro e w9 ⟨rfl, rfl⟩; clear hS0))
              go_ret
              exact ⟨rfl, bel_then (unhide B6) (unhide B6).size (below_alloc w6 _)⟩
      · have hne : ((t : Int) == (C : Int)) = false := by rw [beq_eq_false_iff_ne]; omega
        go_wp2_with (go_at_call 17; refine hSc.mono ?_; rintro e w3 ⟨v, xs, rfl, o3, hxs, hli, b3⟩; clear hSc; obtain ⟨av, cv, rfl⟩ := own_form o3; have hxl := pls_len hxs hkf; have O3 := hide o3; have HXS := hide hxs; have HLI := hide hli; have HB3 := hide b3; rw [hxl]; clear o3 hxs hli b3)
        go_loopw [16] (fun i wr => ∃ j m : Nat, j ≤ k ∧ i = .int .i64 j ∧ wr = w3.drewN m) (fun i _ => k - (intOf i).toNat)
        case atStart => exact ⟨0, 0, by omega, rfl, rfl⟩
        case round =>
          obtain ⟨j, m, hj, rfl, hwr0⟩ := hrel
          have hwr := hide hwr0
          clear hwr0
          by_cases hjk : j < k
          · obtain ⟨x, s, hx, hs, hxk, hxp⟩ := xs_at (unhide HXS) (unhide HFS) hkf hjk
            have B13 := bel_then (unhide HB2) (unhide HB2).size (unhide HB3)
            have hso := (unhide HOK s (List.mem_of_getElem? hs)).later B13
            obtain ⟨pb, po, hpa, hpb, hpcell⟩ := (unhide HV).later B13 (by have := unhide HP; simp; omega)
            subst hpa
            have hpj := hpcell j s.v (by simp [hs])
            have hfc := fxC_at xs j x hx
            obtain ⟨gv, cg, hav, -, -⟩ := (unhide O3).form (by omega)
            simp only [Value.slice.injEq] at hav
            obtain ⟨rfl, -, rfl⟩ := hav
            have hk0 := ((unhide O3).cellAt (j * 2) (by omega)).trans hfc.1
            have hk1 := ((unhide O3).cellAt (j * 2 + 1) (by omega)).trans hfc.2
            have hxo := (own_cut (unhide HLI x (List.mem_of_getElem? hx)).1.choose_spec (unhide HLI x (List.mem_of_getElem? hx)).2.1).1
            have hxL := (unhide HLI x (List.mem_of_getElem? hx)).2.2.1
            obtain ⟨o_, xk, xa, xp⟩ := x
            obtain ⟨sa, sn, sc, sl⟩ := s
            simp only [Sl.v] at hxk hxp hk0 hk1 hpj hxo hxL
            subst hxk hxp
            have hsl := hso.len
            have hsc := hso.le
            simp only at hsl hsc
            rw [hsl] at hk1 hxo
            have hsn : sn ≤ 262144 := by rw [← hsl]; exact hxL
            have c0 : wr.cell? ⟨gv, j * 2, none⟩ = some (.int .u8 (j : Int)) := by rw [unhide hwr]; exact hk0
            have c1 : wr.cell? ⟨gv, j * 2 + 1, none⟩ = some (.slice xa sn sn) := by rw [unhide hwr]; exact hk1
            have c2 : wr.cell? ⟨pb, po + j, none⟩ = some (.slice sa sn sc) := by rw [unhide hwr]; exact hpj
            have q1 : Sl.Ok wr ⟨xa, sn, sn, xp⟩ := by rw [unhide hwr]; exact ok_drewN hxo m
            have q2 : Sl.Ok wr ⟨sa, sn, sc, xp⟩ := by rw [unhide hwr]; exact ok_drewN hso m
            have hjj : ((j : Int) != (j : Int)) = false := by simp
            have hjk2 : (j : Int) < (k : Int) := by omega
            have hjP : (j : Int) < (k : Int) := by omega
            clear hk0 hk1 hpj hpcell hfc hxo hso
            go_wp2_with fail
            go_quiet ((go_at_call 12; exact same_q q1 q2 (by omega)))
            go_wp2
            go_roundw
            case rel => exact ⟨j + 1, m + nq, by omega, by go_num, by rw [unhide hwr, World.drewN_drewN]⟩
            case measure => simp [intOf]; omega
          · have hjk2 : ¬ (j : Int) < (k : Int) := by omega
            have B13 := bel_then (unhide HB2) (unhide HB2).size (unhide HB3)
            have BW : Below w1.heap.size w1 wr := by rw [unhide hwr]; exact below_drewN B13 m
            have BW2 : Below w2.heap.size w2 wr := by rw [unhide hwr]; exact below_drewN (unhide HB3) m
            by_cases hb5 : bh = 165
            · subst hb5
              have hbb : ((165 : Int) == 165) = true := rfl
              have hS0 := sum0_any wr
              go_wp2_with (go_at_call 9; refine hS0.mono ?_; rintro e w9 ⟨rfl, rfl⟩; clear hS0)
              go_ret
              exact ⟨rfl, bel_then BW BW.size (below_alloc wr _)⟩
            · have hbb : (bh == 165) = false := by rw [beq_eq_false_iff_ne]; exact hb5
              have htN : t ≤ N := by omega
              have hft : (flat fs).take t = flat (fs.take k) := by
                have h := congrArg (List.take t) (unhide HTT)
                rw [List.take_take, Nat.min_eq_left (by omega), List.take_left' (unhide HT).1.symm] at h
                exact h
              have okt := ((own_okb (unhide HOB) (flat_isB fs (unhide HFO))).cutAt t htN).later BW2
              rw [hft] at okt
              go_wp2_with (at_builtin; refine wpList_append_torn rfl _ _ rfl _ t _ rfl okt bh hbh rfl (by omega) ?_)
              intro a5 c5 w5 ok5 b5
              have hSc := scan_any ⟨a5, t + 1, c5, flat (fs.take k) ++ [bh]⟩ (fs.take k) [bh] w5 (unhide ok5) rfl (Okf_take (unhide HFO) k) (by rw [mz_byte bh hb5]) (by simp only; omega)
              rw [← (unhide HT).1, mz_byte bh hb5] at hSc
              simp only [Sl.v] at hSc
              have B5 := bel_then BW BW.size (unhide b5)
              clear ok5 b5 okt
              have hke : ((k : Int) == (k : Int)) = true := by simp
              have hte : ((t : Int) == (t : Int)) = true := by simp
              go_wp2_with (first
                | (go_at_call 17; refine hSc.mono ?_; rintro e w6 ⟨v6, xs6, rfl, o6, hx6, hli6, b6⟩; clear hSc; obtain ⟨a6, c6, rfl⟩ := own_form o6; have hxl6 := pls_len hx6 hkf; have B6 := hide (bel_then B5 B5.size b6); have hS0 := sum0_any w6; rw [hxl6]; clear o6 hx6 hli6 b6 hxl6)
                | (go_at_call 9; refine hS0.mono ?_; rintro e w9 ⟨rfl, rfl⟩; clear hS0))
              go_ret
              exact ⟨rfl, bel_then (unhide B6) (unhide B6).size (below_alloc w6 _)⟩
end Go.Proofs.Ytoipofidogajkaa
