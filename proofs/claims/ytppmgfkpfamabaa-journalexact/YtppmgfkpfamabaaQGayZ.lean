import Derived.Test.YtppmgfkpfamabaaQGaxZ
import Derived.Test.YtppmgfkpfamabaaQGasZ
set_option maxHeartbeats 2000000
set_option maxRecDepth 100000
set_option linter.unusedVariables false
namespace Go.Proofs.Ytppmgfkpfamabaa
open Go.RowKit
def FlS.format (s : FlS) (sn : List Int) : FlS × Int :=
  if s.down then (s, 121) else if 262144 < sn.length + 12 then (s, 1) else if s.size < sn.length + 22 then (s, 122)
  else if (s.empty 1).2 ≠ 0 then s.empty 1 else (s.empty 1).1.refill 0 (hdr 1 0 sn)
theorem format_any (p : Nat) (S : Nat → Prop) (s : FlS) (d : Sl) (w : World) (hf : Fl w p S s) (hd : d.Ok w) (hdn : d.n ≤ 140737488351232) (hw : s.wr + 2 < 4000000000000000000) :
    Calls Try.prog 14 #[.pointer (some ⟨p, 0, none⟩), d.v] w (APost p S (s.format d.l) w) := by
  obtain ⟨da, dn, dc, dl⟩ := d
  have hdl : dl.length = dn := hd.len
  have hdn' : dn ≤ 140737488351232 := hdn
  simp only [Sl.v]
  have HF := hide hf
  have HD := hide hd
  have HDL := hide hdl
  by_cases hu : s.down = true
  · have HP : Hid (s.format dl = (s, 121)) := hide (by unfold FlS.format; rw [if_pos hu])
    rw [unhide HP]
    have hZ := bankSize_down p S s w hf hu
    unfold dev at hZ
    clear hf hd hdl hu HP
    go_enter Try.func14, Try.ntmps14
    go_wp2_with (go_at_call 28; refine hZ.mono ?_; rintro e w1 ⟨rfl, b1⟩; clear hZ; have HB1 := hide b1; clear b1)
    go_ret
    exact ⟨rfl, S, (FSt.refl (unhide HF)).then (unhide HB1)⟩
  have hu' : s.down = false := by simpa using hu
  have hZ := bankSize_up p S s w hf hu'
  unfold dev at hZ
  obtain ⟨z, hz⟩ : ∃ z, z = s.size := ⟨_, rfl⟩
  rw [← hz] at hZ
  have hz1 : z ≤ 1048576 := by rw [hz]; exact hf.ok.mx
  by_cases hlong : 262144 < dn + 12
  · have HP : Hid (s.format dl = (s, 1)) := hide (by unfold FlS.format; rw [if_neg hu, hdl, if_pos hlong])
    rw [unhide HP]
    clear hf hd hdl hu hu' HP hz
    go_enter Try.func14, Try.ntmps14
    go_wp2_with (first | (go_at_call 29; refine hH.mono ?_; rintro e w2 ⟨rfl, b2⟩; clear hH; have HB2 := hide b2; clear b2) | (go_at_call 28; refine hZ.mono ?_; rintro e w1 ⟨rfl, b1⟩; clear hZ; have hH := header_no 1 0 ⟨da, dn, dc, dl⟩ w1 ((unhide HD).later b1) (by omega) (by omega) hlong hdn'; simp only [Sl.v, Int.cast_ofNat_Int] at hH; have HB1 := hide b1; clear b1))
    go_ret
    exact ⟨rfl, S, (FSt.refl (unhide HF)).then (bel_then (unhide HB1) (unhide HB1).size (unhide HB2))⟩
  have hlong2 : dn + 12 ≤ 262144 := by omega
  obtain ⟨N, hN⟩ : ∃ N, N = dn + 12 + 10 := ⟨_, rfl⟩
  have HN := hide hN
  have HLG := hide hlong2
  have HEL : Hid (IsB (hdr 1 0 dl)) := hide (hdr_isB hd.isB)
  by_cases hfull : z < N
  · have HP : Hid (s.format dl = (s, 122)) := hide (by unfold FlS.format; rw [if_neg hu, hdl, if_neg hlong, ← hz, if_pos (by omega)])
    rw [unhide HP]
    have hc : (z : Int) < (N : Int) := by omega
    clear hf hd hdl hu hu' HP hz hN hlong hlong2 hfull
    go_enter Try.func14, Try.ntmps14
    go_wp2_with (first | (go_at_call 29; refine hH.mono ?_; rintro e w2 ⟨g, rfl, o2, b2⟩; clear hH; have HB2 := hide b2; clear b2 o2) | (go_at_call 28; refine hZ.mono ?_; rintro e w1 ⟨rfl, b1⟩; clear hZ; have hH := header_ok 1 0 ⟨da, dn, dc, dl⟩ w1 ((unhide HD).later b1) (by omega) (by omega) (unhide HLG); simp only [Sl.v, ← unhide HN, Int.cast_ofNat_Int] at hH; have HB1 := hide b1; clear b1))
    go_ret
    exact ⟨rfl, S, (FSt.refl (unhide HF)).then (bel_then (unhide HB1) (unhide HB1).size (unhide HB2))⟩
  have hc : ¬ (z : Int) < (N : Int) := by omega
  have hwr := s.empty_wr 1
  obtain ⟨⟨s1, r1⟩, hx1⟩ : ∃ x, x = s.empty 1 := ⟨_, rfl⟩
  have HX1 := hide hx1
  rw [← hx1] at hwr
  simp only at hwr
  by_cases h1 : r1 = 0
  · subst h1
    have HP : Hid (s.format dl = s1.refill 0 (hdr 1 0 dl)) := hide (by unfold FlS.format; rw [if_neg hu, hdl, if_neg hlong, ← hz, if_neg (by omega), ← hx1, if_neg (fun h => h rfl)])
    rw [unhide HP]
    obtain ⟨⟨s2, r2⟩, hx2⟩ : ∃ x, x = s1.refill 0 (hdr 1 0 dl) := ⟨_, rfl⟩
    rw [← hx2]
    have HX2 := hide hx2
    clear hf hd hdl hu hu' HP hz hN hlong hlong2 hfull hx1 hx2
    go_enter Try.func14, Try.ntmps14
    go_wp2_with (first | (go_at_call 31; refine hR.mono ?_; rintro e w4 ⟨rfl, S4, k4⟩; clear hR; have HK4 := hide k4; clear k4) | (go_at_call 30; refine hE.mono ?_; rintro e w3 ⟨rfl, S3, k3⟩; clear hE; have ok2 := Sl.Ok.of_own (unhide HO2) (unhide HEL); have hs2 : Sepd S ⟨some ⟨g, 0, none⟩, N, N, hdr 1 0 dl⟩ := (fun h0 x hx hs => by have h1 := (unhide HF).lt _ hs; have h2 := (unhide HB1).size; have h3 := ((unhide HO2).lt g rfl).1; simp only [Option.some.injEq] at hx; subst hx; simp only at h1; omega); have hR := refill_any p S3 s1 0 ⟨some ⟨g, 0, none⟩, N, N, hdr 1 0 dl⟩ w3 k3.fl (k3.but.ok ok2 hs2) (hs2.next ok2 k3) (by omega); simp only [Sl.v, dev] at hR; rw [← unhide HX2] at hR; have HK3 := hide k3; clear k3 ok2 hs2) | (go_at_call 29; refine hH.mono ?_; rintro e w2 ⟨g, rfl, o2, b2⟩; clear hH; have hE := empty_any p S s 1 w2 (((unhide HF).later (unhide HB1)).later b2) (by omega); rw [← unhide HX1] at hE; unfold dev at hE; have HB2 := hide b2; have HO2 := hide o2; clear b2 o2) | (go_at_call 28; refine hZ.mono ?_; rintro e w1 ⟨rfl, b1⟩; clear hZ; have hH := header_ok 1 0 ⟨da, dn, dc, dl⟩ w1 ((unhide HD).later b1) (by omega) (by omega) (unhide HLG); simp only [Sl.v, ← unhide HN, Int.cast_ofNat_Int] at hH; have HB1 := hide b1; clear b1))
    go_ret
    exact ⟨rfl, S4, ((unhide HK3).trans (unhide HK4)).later (bel_then (unhide HB1) (unhide HB1).size (unhide HB2))⟩
  · have HP : Hid (s.format dl = (s1, r1)) := hide (by unfold FlS.format; rw [if_neg hu, hdl, if_neg hlong, ← hz, if_neg (by omega), ← hx1, if_pos h1])
    rw [unhide HP]
    have hr3 : (r1 != 0) = true := by rw [bne_iff_ne]; exact h1
    have hr4 : (r1 == 0) = false := by rw [beq_eq_false_iff_ne]; exact h1
    clear hf hd hdl hu hu' HP hz hN hlong hlong2 hfull hx1 h1
    go_enter Try.func14, Try.ntmps14
    go_wp2_with (first | (go_at_call 30; refine hE.mono ?_; rintro e w3 ⟨rfl, S3, k3⟩; clear hE; have HK3 := hide k3; clear k3) | (go_at_call 29; refine hH.mono ?_; rintro e w2 ⟨g, rfl, o2, b2⟩; clear hH; have hE := empty_any p S s 1 w2 (((unhide HF).later (unhide HB1)).later b2) (by omega); rw [← unhide HX1] at hE; unfold dev at hE; have HB2 := hide b2; clear b2 o2) | (go_at_call 28; refine hZ.mono ?_; rintro e w1 ⟨rfl, b1⟩; clear hZ; have hH := header_ok 1 0 ⟨da, dn, dc, dl⟩ w1 ((unhide HD).later b1) (by omega) (by omega) (unhide HLG); simp only [Sl.v, ← unhide HN, Int.cast_ofNat_Int] at hH; have HB1 := hide b1; clear b1))
    go_ret
    exact ⟨rfl, S3, (unhide HK3).later (bel_then (unhide HB1) (unhide HB1).size (unhide HB2))⟩
theorem Try.infoSj : (Try.prog.info? 22).map (fun i => (i.zero, i.size, i.bytes)) = some (some (.slice none 0 0), 1, 24) := by kernel_rfl
structure Rx where
  a : Option Addr
  c : Nat
  p : List Int
def Rx.v (x : Rx) : Value := .slice x.a x.p.length x.p.length
def Rx.o (x : Rx) : Option Nat := (Value.slice x.a x.p.length x.c).ownBlock
def Rx.Own (B : Nat) (W : World) (x : Rx) : Prop := W.ownsRow B 5 1 (.slice x.a x.p.length x.c) x.p.length (U8 x.p) ∧ IsB x.p ∧ x.p.length ≤ 262144
structure RxR (B : Nat) (W : World) (v : Value) (xs : List Rx) : Prop where
  row : W.ownsRow B 22 1 v xs.length (xs.map Rx.v)
  own : ∀ x ∈ xs, x.Own B W
  pw : xs.Pairwise fun x y => ∀ b, x.o = some b → y.o ≠ some b
theorem Rx.Own.later {B : Nat} {W W' : World} {x : Rx} (h : x.Own B W) (hb : Below W.heap.size W W') : x.Own B W' := ⟨own_laterG h.1 hb, h.2⟩
theorem RxR.later {B : Nat} {W W' : World} {v : Value} {xs : List Rx} (h : RxR B W v xs) (hb : Below W.heap.size W W') : RxR B W' v xs :=
  ⟨own_laterG h.row hb, fun x hx => (h.own x hx).later hb, h.pw⟩
theorem Rx.Own.to {B B' : Nat} {W : World} {x : Rx} (h : x.Own B W) (hB : B' ≤ B) : x.Own B' W := ⟨⟨h.1.1, by
  rcases h.1.2 with h2 | ⟨g, cap, cur, h1, h2, h3, h4⟩
  · exact .inl h2
  · exact .inr ⟨g, cap, cur, h1, Nat.le_trans hB h2, h3, h4⟩⟩, h.2⟩
theorem RxR.push {B : Nat} {W W' : World} {v v' : Value} {xs : List Rx} {x : Rx} (h : RxR B W v xs) (hx : x.Own B W) (hn : ∀ y ∈ xs, ∀ b, y.o = some b → x.o ≠ some b)
    (ho : W'.ownsRow B 22 1 v' (xs.length + 1) (xs.map Rx.v ++ [x.v])) (hg : W.grownBy W' v.ownBlock) : RxR B W' v' (xs ++ [x]) := by
  have hk : ∀ y : Rx, y.Own B W → y.Own B W' := fun y hy => ⟨own_keepG hy.1 hg (own_neG hy.1 h.row (by decide)), hy.2⟩
  refine ⟨?_, ?_, ?_⟩
  · rw [List.length_append, List.map_append]; exact ho
  · intro y hy
    rcases List.mem_append.1 hy with hy | hy
    · exact hk y (h.own y hy)
    · rw [List.mem_singleton.1 hy]; exact hk x hx
  · rw [List.pairwise_append]
    exact ⟨h.pw, List.pairwise_singleton _ _, fun y hy z hz => by rw [List.mem_singleton.1 hz]; exact hn y hy⟩
theorem RxR.nil (B : Nat) (W : World) : RxR B W (.slice none 0 0) [] := ⟨World.ownsRow_nil W B _ 1, fun x hx => by simp at hx, List.Pairwise.nil⟩
theorem cell1_new (w : World) (x : Value) (t : TypeId) : ∀ j u, [x][j]? = some u → (w.alloc (.cells #[x] t)).cell? ((⟨w.heap.size, 0, none⟩ : Addr).add j) = some u := by
  intro j u hu
  have hA : Arr (w.alloc (.cells #[x] t)) w.heap.size t [x] := Arr.new w _ [x]
  rw [addr_add, Nat.zero_add, hA.cell j]; exact hu
def w2F (w : World) (k : Int) (a : Option Addr) (n : Nat) : World := (w.alloc (.cells #[.int .u8 k, .slice a n n] 136)).alloc (.cells #[.slice a n n] 22)
theorem w2F_below (w : World) (k : Int) (a : Option Addr) (n : Nat) : Below w.heap.size w (w2F w k a n) := bel_then (below_alloc w _) (below_alloc w _).size (below_alloc _ _)
theorem w2F_cell (w : World) (k : Int) (a : Option Addr) (n : Nat) : ∀ j u, [Value.slice a n n][j]? = some u → (w2F w k a n).cell? ((⟨w.heap.size + 1, 0, none⟩ : Addr).add j) = some u := by
  have h := cell1_new (w.alloc (.cells #[.int .u8 k, .slice a n n] 136)) (.slice a n n) 22
  simpa [w2F] using h
theorem w2F_size (w : World) (k : Int) (a : Option Addr) (n : Nat) : (w2F w k a n).heap.size = w.heap.size + 2 := by simp [w2F]
theorem mz_kind {l : List Int} (hl : IsB l) (h : (mz l).1 ≠ 0) : mz l = (lenL l + 10, 0) ∧ lenL l + 10 ≤ l.length ∧ lenL l ≤ 262144 := by
  obtain ⟨-, -, h2, h3, h4⟩ := enc_of_mz hl h
  exact ⟨h3, h4, h2⟩
theorem readRecords_any (d : Sl) (i : Nat) (rs : List (List Int)) (t : List Int) (w : World) (hd : d.Ok w) (hi : d.l.drop i = flatR rs ++ t) (hok : OkR rs) (ht : ¬ RecF t) (hin : i ≤ d.n) (hsz : d.n ≤ 1099511627776) :
    Calls Try.prog 83 #[d.v, .int .i64 i] w fun e w' => ∃ v xs, e = .returned (.tuple #[v, .int .i64 (i + (flatR rs).length : Nat)]) ∧ RxR w.heap.size w' v xs ∧ xs.map Rx.p = rs ∧ Below w.heap.size w w' := by
  obtain ⟨i0, hi0, hz0, hz1, hz2⟩ := info_parts Try.infoSj
  obtain ⟨a, m, c, L⟩ := d
  have hL : L.length = m := hd.len
  simp only at hi hin hsz
  simp only [Sl.v]
  have HD := hide hd
  have HLn := hide hL
  obtain ⟨fin, hfin⟩ : ∃ fin, fin = i + (flatR rs).length := ⟨_, rfl⟩
  rw [← hfin]
  have HT := hide ht
  have HST : Hid (L.drop i = flatR rs ++ t ∧ OkR rs ∧ i + (flatR rs).length = fin) := hide ⟨hi, hok, hfin.symm⟩
  have HRL : Hid (10 * rs.length ≤ m) := hide (by have := flatR_len rs; have h := congrArg List.length hi; rw [List.length_drop, List.length_append] at h; omega)
  clear hd hi hok ht hL hfin
  go_enter Try.func83, Try.ntmps83
  go_wp2
  go_loopw [1, 6] (fun at_ v wr => ∃ (pre : List Rx) (o : Nat) (rs' : List (List Int)), at_ = .int .i64 o ∧ o ≤ m ∧ Hid (L.drop o = flatR rs' ++ t ∧ pre.map Rx.p ++ rs' = rs ∧ OkR rs' ∧ o + (flatR rs').length = fin) ∧ RxR w.heap.size wr v pre ∧ Below w.heap.size w wr)
    (fun at_ _ _ => m - (intOf at_).toNat)
  case atStart => exact ⟨[], i, rs, rfl, hin, hide ⟨(unhide HST).1, rfl, (unhide HST).2.1, (unhide HST).2.2⟩, RxR.nil _ _, Below.refl _ _⟩
  case round =>
    obtain ⟨pre, o, rs', rfl, ho, HF, hR, hB⟩ := hrel
    have hdr : Sl.Ok wr ⟨a, m, c, L⟩ := (unhide HD).later hB
    obtain ⟨va, vc, hv⟩ := own_parts hR.row
    subst hv
    have HRX := hide hR
    have HBR := hide hB
    clear HST hR hB
    cases rs' with
    | nil =>
      have hdn := (unhide HF).1
      have hfo := (unhide HF).2.2.2
      have hrs := (unhide HF).2.1
      simp only [flatR, List.nil_append, List.length_nil, Nat.add_zero, List.append_nil] at hdn hfo hrs
      have HRS := hide hrs
      have HFO := hide hfo
      clear hrs hfo
      by_cases hz : (mz t).1 = 0
      · have hD := decode_none ⟨a, m, c, L⟩ o wr hdr ho (by simp only; rw [hdn]; exact hz)
        simp only [Sl.v, fr0, frV] at hD
        generalize (mz (L.drop o)).2 = tl at hD
        clear hdn hz hdr
        go_wp2_with (go_at_call 80; refine hD.mono ?_; rintro e w2 ⟨rfl, b2⟩; clear hD; have HB2 := hide b2; clear b2)
        go_ret2
        have b3 := bel_then (unhide HB2) (unhide HB2).size (below_alloc w2 (.cells #[.int .u8 0, .slice none 0 0] 136))
        exact ⟨_, pre, by rw [← unhide HFO]; rfl, (unhide HRX).later b3, unhide HRS, bel_then (unhide HBR) (unhide HBR).size b3⟩
      · have hisb : IsB t := by rw [← hdn]; exact hdr.isB.drop o
        obtain ⟨e1, e2, e3⟩ := mz_kind hisb hz
        have hlen : o + lenL t + 10 ≤ m := by
          have h := congrArg List.length hdn
          rw [List.length_drop, unhide HLn] at h
          omega
        have hk1 : L.getD (o + 1) 0 ≠ 82 := by
          intro h
          apply unhide HT
          refine ⟨hz, ?_⟩
          rw [← hdn]
          simpa [List.getD, List.getElem?_drop] using h
        have hD := decode_some ⟨a, m, c, L⟩ o (lenL t) wr hdr (by simp only; rw [hdn]; exact e1) hlen e3
        simp only [Sl.v, frV] at hD
        generalize L.getD (o + 1) 0 = kd at hD hk1
        generalize (L.drop (o + 6)).take (lenL t) = pl at hD
        generalize lenL t = N at hD
        have hk2 : (kd == 82) = false := by rw [beq_eq_false_iff_ne]; exact hk1
        have hk3 : (kd != 82) = true := by rw [bne_iff_ne]; exact hk1
        clear hdn hz hdr hisb e1 e2 e3 hlen hk1
        go_wp2_with (go_at_call 80; refine hD.mono ?_; rintro e w2 ⟨a2, c2, rfl, o2, b2⟩; clear hD o2; have HB2 := hide b2; clear b2)
        go_ret2
        have b3 := bel_then (unhide HB2) (unhide HB2).size (below_alloc w2 (.cells #[.int .u8 kd, .slice a2 N N] 136))
        exact ⟨_, pre, by rw [← unhide HFO]; rfl, (unhide HRX).later b3, unhide HRS, bel_then (unhide HBR) (unhide HBR).size b3⟩
    | cons r rs'' =>
      have hdn := (unhide HF).1
      simp only [flatR, List.append_assoc] at hdn
      obtain ⟨hfB, hfl⟩ := (unhide HF).2.2.1 r (by simp)
      have hmz := mz_enc 82 r (flatR rs'' ++ t) (by decide) hfB hfl
      have hlen : o + r.length + 10 ≤ m := by
        have h := congrArg List.length hdn
        rw [List.length_drop, List.length_append, encL_length, unhide HLn] at h
        omega
      have hD := decode_some ⟨a, m, c, L⟩ o r.length wr hdr (by simp only; rw [hdn]; exact hmz) hlen hfl
      have hk1 : L.getD (o + 1) 0 = 82 := by
        have h := enc_kind 82 r (flatR rs'' ++ t)
        rw [← hdn] at h
        simpa [List.getD, List.getElem?_drop] using h
      have hp1 : (L.drop (o + 6)).take r.length = r := by
        have h := enc_pay 82 r (flatR rs'' ++ t)
        rw [← hdn, List.drop_drop] at h
        exact h
      simp only [Sl.v, hk1, hp1, frV] at hD
      obtain ⟨N, hN⟩ : ∃ N, N = r.length := ⟨_, rfl⟩
      obtain ⟨q, hq⟩ : ∃ q, q = pre.length := ⟨_, rfl⟩
      have HF2 : Hid (L.drop (o + N + 10) = flatR rs'' ++ t) := hide (by
        have h := congrArg (List.drop (r.length + 10)) hdn
        rw [List.drop_drop, List.drop_left' (encL_length 82 r)] at h
        rw [hN, Nat.add_assoc]
        exact h)
      have hql : q ≤ 109951162777 := by
        have h1 := congrArg List.length (unhide HF).2.1
        rw [List.length_append, List.length_map, ← hq] at h1
        have := unhide HRL
        omega
      rw [← hN] at hD hlen hfl
      have HP : Hid (IsB r) := hide hfB
      have HNN := hide hN
      have HQ := hide hq
      have HW0 : Hid (w.heap.size ≤ wr.heap.size) := hide (unhide HBR).size
      rw [← hq]
      clear hdn hmz hk1 hp1 hN hfB hdr hq
      have HRX' : Hid (RxR w.heap.size wr (.slice va q vc) pre) := hide (by have := unhide HRX; rw [← unhide HQ] at this; exact this)
      go_wp2_with (first | (at_builtin; refine wpList_append_own_at rfl _ _ 77 rfl w.heap.size 22 i0 (.slice none 0 0) 1 24 Try.underlying77 hi0 hz0 hz1 hz2 rfl (by decide) (.slice va q vc) q (pre.map Rx.v) rfl (unhide HROW) ⟨w2.heap.size + 1, 0, none⟩ 1 1 [.slice a2 N N] rfl rfl (w2F_cell w2 82 a2 N) (by intro u hu; simp at hu; rw [hu]; rfl) (by unfold maxLen; omega) (by omega) (unhide HW3) ?_; intro v' w5 hown' hgrow hat; obtain ⟨a1, b1, hv'⟩ := own_parts (unhide hown'); subst hv') | (go_at_call 80; refine hD.mono ?_; rintro e w2 ⟨a2, c2, rfl, o2, b2⟩; clear hD; have HB2 := hide b2; have HO2 := hide o2; have HROW : Hid ((w2F w2 82 a2 N).ownsRow w.heap.size 22 1 (.slice va q vc) q (pre.map Rx.v)) := hide (by have h := own_laterG (own_laterG (unhide HRX').row b2) (w2F_below w2 82 a2 N); rw [← unhide HQ] at h; exact h); have HW3 : Hid (w.heap.size ≤ (w2F w2 82 a2 N).heap.size) := hide (by have h1 := b2.size; have h2 := unhide HW0; rw [w2F_size]; omega); clear o2 b2))
      go_roundw
      case rel =>
        have b3 := unhide HB2
        have b4 := w2F_below w2 82 a2 N
        have hR3 := ((unhide HRX).later b3).later b4
        have hX : Rx.Own w.heap.size (w2F w2 82 a2 N) ⟨a2, c2, r⟩ := by
          refine ⟨?_, unhide HP, by simp only; rw [← unhide HNN]; exact hfl⟩
          simp only
          rw [← unhide HNN]
          exact own_laterG (own_to' (unhide HO2) (Nat.le_refl _) (unhide HW0)) b4
        have hO := unhide hown'
        have hG := unhide hgrow
        have hR5 : RxR w.heap.size w5 (.slice a1 (q + 1) b1) (pre ++ [⟨a2, c2, r⟩]) := by
          refine RxR.push hR3 hX ?_ ?_ ?_
          · intro y hy b hb hb2
            have h1 := (((unhide HRX).own y hy).1.lt b hb).2
            have h2 : wr.heap.size ≤ b := ((unhide HO2).lt b (by rw [← hb2, Rx.o, unhide HNN])).1
            omega
          · rw [← unhide HQ]
            simp only [Rx.v]
            rw [← unhide HNN]
            exact hO
          · rw [← unhide HQ]; exact hG
        have hb5 : Below w.heap.size w w5 := (bel_then (bel_then (unhide HBR) (unhide HBR).size b3) (Nat.le_trans (unhide HBR).size b3.size) b4).grown hG (Nat.le_trans (unhide HW0) (Nat.le_trans b3.size b4.size)) (fun k e => ((unhide HROW).lt k e).1)
        refine ⟨pre ++ [⟨a2, c2, r⟩], o + N + 10, rs'', by simp, hlen, hide ⟨unhide HF2, ?_, fun x hx => (unhide HF).2.2.1 x (List.mem_cons_of_mem _ hx), ?_⟩, hR5, hb5⟩
        · have h := (unhide HF).2.1
          rw [List.map_append, List.append_assoc]
          exact h
        · have h := (unhide HF).2.2.2
          simp only [flatR, List.length_append, encL_length] at h
          rw [unhide HNN]
          omega
      case measure => simp [intOf]; omega
theorem hdB_parts {b : List Int} {c : Cts} (h : HdB b c) : (mz b).1 ≠ 0 ∧ b.getD 1 0 = 72 ∧ lenL b = c.s.length + 12 ∧ hdE (pay b) = c.e ∧ hdN (pay b) ≤ c.rs.length ∧ b.drop (lenL b + 10) = flatR c.rs ++ c.t := by
  obtain ⟨n, e1, h1, h2, h3, h4, h5, h6, h7, h8⟩ := h
  have hp : (hdP c.e n c.s).length ≤ 262144 := by rw [hdP_length]; omega
  have hl := enc_len 72 (hdP c.e n c.s) (flatR c.rs ++ c.t) hp
  have hy := enc_pay 72 (hdP c.e n c.s) (flatR c.rs ++ c.t)
  have hm := mz_enc 72 (hdP c.e n c.s) (flatR c.rs ++ c.t) (by decide) (hdP_isB h8) hp
  have hk := enc_kind 72 (hdP c.e n c.s) (flatR c.rs ++ c.t)
  have e2 : b = encL 72 (hdP c.e n c.s) ++ (flatR c.rs ++ c.t) := e1
  rw [← e2] at hl hy hm hk
  rw [hdP_length] at hl
  have hpay : pay b = hdP c.e n c.s := by unfold pay; rw [hl]; rw [hdP_length] at hy; exact hy
  refine ⟨by rw [hm]; simp, hk, hl, by rw [hpay]; exact hdP_E _ _ _ (by omega), by rw [hpay, hdP_N _ _ _ h4]; exact h3, ?_⟩
  have e3 : (encL 72 (hdP c.e n c.s)).length = lenL b + 10 := by rw [encL_length, hdP_length, hl]
  have := congrArg (List.drop (lenL b + 10)) e2
  rw [List.drop_left' e3] at this
  exact this
theorem look_mz {b : List Int} (h : (mz b).1 = 0) : look b = cts0 := look_no (fun ⟨c, hc⟩ => (hdB_parts hc).1 h)
theorem look_kind {b : List Int} (h : b.getD 1 0 ≠ 72) : look b = cts0 := look_no (fun ⟨c, hc⟩ => h (hdB_parts hc).2.1)
theorem look_short {b : List Int} (h : lenL b < 12) : look b = cts0 := look_no (fun ⟨c, hc⟩ => by have := (hdB_parts hc).2.2.1; omega)
theorem look_not {b : List Int} {rs : List (List Int)} {t : List Int} (hs : b.drop (lenL b + 10) = flatR rs ++ t) (hok : OkR rs) (ht : ¬ RecF t)
    (h : hdE (pay b) < 1 ∨ 9223372036854775807 < hdE (pay b) ∨ rs.length < hdN (pay b)) : look b = cts0 := look_no (fun ⟨c, hc⟩ => by
  obtain ⟨-, -, -, h1, h2, h3⟩ := hdB_parts hc
  obtain ⟨n, e1, k1, k2, k3, k4, k5, k6, k7, k8⟩ := hc
  rw [h3] at hs
  obtain ⟨q1, q2⟩ := flatR_inj _ _ _ _ hs k5 hok k6 ht
  rw [← q1] at h
  omega)
theorem look_is {b : List Int} {rs : List (List Int)} {t : List Int} (hb : IsB b) (h1 : (mz b).1 ≠ 0) (h2 : b.getD 1 0 = 72) (h3 : 12 ≤ lenL b) (hs : b.drop (lenL b + 10) = flatR rs ++ t) (hok : OkR rs) (ht : ¬ RecF t)
    (h : 1 ≤ hdE (pay b) ∧ hdE (pay b) ≤ 9223372036854775807 ∧ hdN (pay b) ≤ rs.length) : HdB b ⟨hdE (pay b), (pay b).drop 12, rs, t⟩ := by
  obtain ⟨e1, e2, e3, e4, e5⟩ := enc_of_mz hb h1
  have hpb : IsB (pay b) := (hb.drop 6).take _
  obtain ⟨p1, p2, p3⟩ := hdP_of hpb (by omega)
  refine ⟨hdN (pay b), ?_, h.1, h.2.1, h.2.2, p3, hok, ht, by simp only [List.length_drop]; omega, hpb.drop 12⟩
  unfold hdr
  simp only
  rw [← p1, ← hs, ← h2]
  exact e1
end Go.Proofs.Ytppmgfkpfamabaa
