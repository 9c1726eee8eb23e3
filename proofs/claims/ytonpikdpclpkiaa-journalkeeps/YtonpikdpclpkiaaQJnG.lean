import Derived.Test.YtonpikdpclpkiaaQJnB
import Derived.Test.YtonpikdpclpkiaaQDeW
set_option linter.unusedVariables false
namespace Go.Proofs.Ytonpikdpclpkiaa
open Go.RowKit

theorem Try.infoSj : (Try.prog.info? 22).map (fun i => (i.zero, i.size, i.bytes)) = some (some (.slice none 0 0), 1, 24) := by kernel_rfl
/-- a record as it is answered: in memory of its own, without room behind it -/
structure Rx where
  a : Option Addr
  c : Nat
  p : List Int
def Rx.v (x : Rx) : Value := .slice x.a x.p.length x.p.length
def Rx.o (x : Rx) : Option Nat := (Value.slice x.a x.p.length x.c).ownBlock
def Rx.Own (B : Nat) (W : World) (x : Rx) : Prop := W.ownsRow B 5 1 (.slice x.a x.p.length x.c) x.p.length (U8 x.p) ∧ IsB x.p ∧ x.p.length ≤ 262144
/-- a row of records -/
structure RxR (B : Nat) (W : World) (v : Value) (xs : List Rx) : Prop where
  row : W.ownsRow B 22 1 v xs.length (xs.map Rx.v)
  own : ∀ x ∈ xs, x.Own B W
  pw : xs.Pairwise fun x y => ∀ b, x.o = some b → y.o ≠ some b
theorem Rx.Own.later {B : Nat} {W W' : World} {x : Rx} (h : x.Own B W) (hb : Below W.heap.size W W') : x.Own B W' := ⟨own_laterG h.1 hb, h.2⟩
theorem RxR.later {B : Nat} {W W' : World} {v : Value} {xs : List Rx} (h : RxR B W v xs) (hb : Below W.heap.size W W') : RxR B W' v xs :=
  ⟨own_laterG h.row hb, fun x hx => (h.own x hx).later hb, h.pw⟩
theorem Rx.Own.to {B B' : Nat} {W : World} {x : Rx} (h : x.Own B W) (hB : B' ≤ B) : x.Own B' W := ⟨⟨h.1.1, by
  rcases h.1.2 with h2 | ⟨g, cap, cur, h1, h2, h3, h4⟩
  · exact .inl h2
  · exact .inr ⟨g, cap, cur, h1, Nat.le_trans hB h2, h3, h4⟩⟩, h.2⟩
theorem RxR.push {B : Nat} {W W' : World} {v v' : Value} {xs : List Rx} {x : Rx} (h : RxR B W v xs) (hx : x.Own B W) (hn : ∀ y ∈ xs, ∀ b, y.o = some b → x.o ≠ some b)
    (ho : W'.ownsRow B 22 1 v' (xs.length + 1) (xs.map Rx.v ++ [x.v])) (hg : W.grownBy W' v.ownBlock) : RxR B W' v' (xs ++ [x]) := by
  have hk : ∀ y : Rx, y.Own B W → y.Own B W' := fun y hy => ⟨own_keepG hy.1 hg (own_neG hy.1 h.row (by decide)), hy.2⟩
  refine ⟨?_, ?_, ?_⟩
  · rw [List.length_append, List.map_append]; exact ho
  · intro y hy
    rcases List.mem_append.1 hy with hy | hy
    · exact hk y (h.own y hy)
    · rw [List.mem_singleton.1 hy]; exact hk x hx
  · rw [List.pairwise_append]
    exact ⟨h.pw, List.pairwise_singleton _ _, fun y hy z hz => by rw [List.mem_singleton.1 hz]; exact hn y hy⟩
theorem RxR.nil (B : Nat) (W : World) : RxR B W (.slice none 0 0) [] := ⟨World.ownsRow_nil W B _ 1, fun x hx => by simp at hx, List.Pairwise.nil⟩
theorem cell1_new (w : World) (x : Value) (t : TypeId) : ∀ j u, [x][j]? = some u → (w.alloc (.cells #[x] t)).cell? ((⟨w.heap.size, 0, none⟩ : Addr).add j) = some u := by
  intro j u hu
  have hA : Arr (w.alloc (.cells #[x] t)) w.heap.size t [x] := Arr.new w _ [x]
  rw [addr_add, Nat.zero_add, hA.cell j]; exact hu
/-- the two boxes of a round -/
def w2F (w : World) (k : Int) (a : Option Addr) (n : Nat) : World := (w.alloc (.cells #[.int .u8 k, .slice a n n] 135)).alloc (.cells #[.slice a n n] 22)
theorem w2F_below (w : World) (k : Int) (a : Option Addr) (n : Nat) : Below w.heap.size w (w2F w k a n) := bel_then (below_alloc w _) (below_alloc w _).size (below_alloc _ _)
theorem w2F_cell (w : World) (k : Int) (a : Option Addr) (n : Nat) : ∀ j u, [Value.slice a n n][j]? = some u → (w2F w k a n).cell? ((⟨w.heap.size + 1, 0, none⟩ : Addr).add j) = some u := by
  have h := cell1_new (w.alloc (.cells #[.int .u8 k, .slice a n n] 135)) (.slice a n n) 22
  simpa [w2F] using h
theorem w2F_size (w : World) (k : Int) (a : Option Addr) (n : Nat) : (w2F w k a n).heap.size = w.heap.size + 2 := by simp [w2F]
theorem mz_kind {l : List Int} (hl : IsB l) (h : (mz l).1 ≠ 0) : mz l = (lenL l + 10, 0) ∧ lenL l + 10 ≤ l.length ∧ lenL l ≤ 262144 := by
  obtain ⟨-, -, h2, h3, h4⟩ := enc_of_mz hl h
  exact ⟨h3, h4, h2⟩

set_option maxHeartbeats 2000000 in
set_option maxRecDepth 100000 in
theorem readRecords_any (d : Sl) (i : Nat) (rs : List (List Int)) (t : List Int) (w : World) (hd : d.Ok w) (hi : d.l.drop i = flatR rs ++ t) (hok : OkR rs) (ht : ¬ RecF t) (hin : i ≤ d.n) (hsz : d.n ≤ 1099511627776) :
    Calls Try.prog 76 #[d.v, .int .i64 i] w fun e w' => ∃ v xs, e = .returned (.tuple #[v, .int .i64 (i + (flatR rs).length : Nat)]) ∧ RxR w.heap.size w' v xs ∧ xs.map Rx.p = rs ∧ Below w.heap.size w w' := by
  obtain ⟨i0, hi0, hz0, hz1, hz2⟩ := info_parts Try.infoSj
  obtain ⟨a, m, c, L⟩ := d
  have hL : L.length = m := hd.len
  simp only at hi hin hsz
  simp only [Sl.v]
  have HD := hide hd
  have HLn := hide hL
  obtain ⟨fin, hfin⟩ : ∃ fin, fin = i + (flatR rs).length := ⟨_, rfl⟩
  rw [← hfin]
  have HT := hide ht
  have HST : Hid (L.drop i = flatR rs ++ t ∧ OkR rs ∧ i + (flatR rs).length = fin) := hide ⟨hi, hok, hfin.symm⟩
  have HRL : Hid (10 * rs.length ≤ m) := hide (by have := flatR_len rs; have h := congrArg List.length hi; rw [List.length_drop, List.length_append] at h; omega)
  clear hd hi hok ht hL hfin
  go_enter Try.func76, Try.ntmps76
  go_wp2
  go_loopw [1, 6] (fun at_ v wr => ∃ (pre : List Rx) (o : Nat) (rs' : List (List Int)), at_ = .int .i64 o ∧ o ≤ m ∧ Hid (L.drop o = flatR rs' ++ t ∧ pre.map Rx.p ++ rs' = rs ∧ OkR rs' ∧ o + (flatR rs').length = fin) ∧ RxR w.heap.size wr v pre ∧ Below w.heap.size w wr)
    (fun at_ _ _ => m - (intOf at_).toNat)
  case atStart => exact ⟨[], i, rs, rfl, hin, hide ⟨(unhide HST).1, rfl, (unhide HST).2.1, (unhide HST).2.2⟩, RxR.nil _ _, Below.refl _ _⟩
  case round =>
    obtain ⟨pre, o, rs', rfl, ho, HF, hR, hB⟩ := hrel
    have hdr : Sl.Ok wr ⟨a, m, c, L⟩ := (unhide HD).later hB
    obtain ⟨va, vc, hv⟩ := own_parts hR.row
    subst hv
    have HRX := hide hR
    have HBR := hide hB
    clear HST hR hB
    cases rs' with
    | nil =>
      have hdn := (unhide HF).1
      have hfo := (unhide HF).2.2.2
      have hrs := (unhide HF).2.1
      simp only [flatR, List.nil_append, List.length_nil, Nat.add_zero, List.append_nil] at hdn hfo hrs
      have HRS := hide hrs
      have HFO := hide hfo
      clear hrs hfo
      by_cases hz : (mz t).1 = 0
      · have hD := decode_none ⟨a, m, c, L⟩ o wr hdr ho (by simp only; rw [hdn]; exact hz)
        simp only [Sl.v, fr0, frV] at hD
        generalize (mz (L.drop o)).2 = tl at hD
        clear hdn hz hdr
        go_wp2_with (go_at_call 73; refine hD.mono ?_; rintro e w2 ⟨rfl, b2⟩; clear hD; have HB2 := hide b2; clear b2)
        go_ret2
        have b3 := bel_then (unhide HB2) (unhide HB2).size (below_alloc w2 (.cells #[.int .u8 0, .slice none 0 0] 135))
        exact ⟨_, pre, by rw [← unhide HFO]; rfl, (unhide HRX).later b3, unhide HRS, bel_then (unhide HBR) (unhide HBR).size b3⟩
      · have hisb : IsB t := by rw [← hdn]; exact hdr.isB.drop o
        obtain ⟨e1, e2, e3⟩ := mz_kind hisb hz
        have hlen : o + lenL t + 10 ≤ m := by
          have h := congrArg List.length hdn
          rw [List.length_drop, unhide HLn] at h
          omega
        have hk1 : L.getD (o + 1) 0 ≠ 82 := by
          intro h
          apply unhide HT
          refine ⟨hz, ?_⟩
          rw [← hdn]
          simpa [List.getD, List.getElem?_drop] using h
        have hD := decode_some ⟨a, m, c, L⟩ o (lenL t) wr hdr (by simp only; rw [hdn]; exact e1) hlen e3
        simp only [Sl.v, frV] at hD
        generalize L.getD (o + 1) 0 = kd at hD hk1
        generalize (L.drop (o + 6)).take (lenL t) = pl at hD
        generalize lenL t = N at hD
        have hk2 : (kd == 82) = false := by rw [beq_eq_false_iff_ne]; exact hk1
        have hk3 : (kd != 82) = true := by rw [bne_iff_ne]; exact hk1
        clear hdn hz hdr hisb e1 e2 e3 hlen hk1
        go_wp2_with (go_at_call 73; refine hD.mono ?_; rintro e w2 ⟨a2, c2, rfl, o2, b2⟩; clear hD o2; have HB2 := hide b2; clear b2)
        go_ret2
        have b3 := bel_then (unhide HB2) (unhide HB2).size (below_alloc w2 (.cells #[.int .u8 kd, .slice a2 N N] 135))
        exact ⟨_, pre, by rw [← unhide HFO]; rfl, (unhide HRX).later b3, unhide HRS, bel_then (unhide HBR) (unhide HBR).size b3⟩
    | cons r rs'' =>
      have hdn := (unhide HF).1
      simp only [flatR, List.append_assoc] at hdn
      obtain ⟨hfB, hfl⟩ := (unhide HF).2.2.1 r (by simp)
      have hmz := mz_enc 82 r (flatR rs'' ++ t) (by decide) hfB hfl
      have hlen : o + r.length + 10 ≤ m := by
        have h := congrArg List.length hdn
        rw [List.length_drop, List.length_append, encL_length, unhide HLn] at h
        omega
      have hD := decode_some ⟨a, m, c, L⟩ o r.length wr hdr (by simp only; rw [hdn]; exact hmz) hlen hfl
      have hk1 : L.getD (o + 1) 0 = 82 := by
        have h := enc_kind 82 r (flatR rs'' ++ t)
        rw [← hdn] at h
        simpa [List.getD, List.getElem?_drop] using h
      have hp1 : (L.drop (o + 6)).take r.length = r := by
        have h := enc_pay 82 r (flatR rs'' ++ t)
        rw [← hdn, List.drop_drop] at h
        exact h
      simp only [Sl.v, hk1, hp1, frV] at hD
      obtain ⟨N, hN⟩ : ∃ N, N = r.length := ⟨_, rfl⟩
      obtain ⟨q, hq⟩ : ∃ q, q = pre.length := ⟨_, rfl⟩
      have HF2 : Hid (L.drop (o + N + 10) = flatR rs'' ++ t) := hide (by
        have h := congrArg (List.drop (r.length + 10)) hdn
        rw [List.drop_drop, List.drop_left' (encL_length 82 r)] at h
        rw [hN, Nat.add_assoc]
        exact h)
      have hql : q ≤ 109951162777 := by
        have h1 := congrArg List.length (unhide HF).2.1
        rw [List.length_append, List.length_map, ← hq] at h1
        have := unhide HRL
        omega
      rw [← hN] at hD hlen hfl
      have HP : Hid (IsB r) := hide hfB
      have HNN := hide hN
      have HQ := hide hq
      have HW0 : Hid (w.heap.size ≤ wr.heap.size) := hide (unhide HBR).size
      rw [← hq]
      clear hdn hmz hk1 hp1 hN hfB hdr hq
      have HRX' : Hid (RxR w.heap.size wr (.slice va q vc) pre) := hide (by have := unhide HRX; rw [← unhide HQ] at this; exact this)
      go_wp2_with (first | (at_builtin; refine wpList_append_own_at rfl _ _ 31 rfl w.heap.size 22 i0 (.slice none 0 0) 1 24 Try.underlying31 hi0 hz0 hz1 hz2 rfl (by decide) (.slice va q vc) q (pre.map Rx.v) rfl (unhide HROW) ⟨w2.heap.size + 1, 0, none⟩ 1 1 [.slice a2 N N] rfl rfl (w2F_cell w2 82 a2 N) (by intro u hu; simp at hu; rw [hu]; rfl) (by unfold maxLen; omega) (by omega) (unhide HW3) ?_; intro v' w5 hown' hgrow hat; obtain ⟨a1, b1, hv'⟩ := own_parts (unhide hown'); subst hv') | (go_at_call 73; refine hD.mono ?_; rintro e w2 ⟨a2, c2, rfl, o2, b2⟩; clear hD; have HB2 := hide b2; have HO2 := hide o2; have HROW : Hid ((w2F w2 82 a2 N).ownsRow w.heap.size 22 1 (.slice va q vc) q (pre.map Rx.v)) := hide (by have h := own_laterG (own_laterG (unhide HRX').row b2) (w2F_below w2 82 a2 N); rw [← unhide HQ] at h; exact h); have HW3 : Hid (w.heap.size ≤ (w2F w2 82 a2 N).heap.size) := hide (by have h1 := b2.size; have h2 := unhide HW0; rw [w2F_size]; omega); clear o2 b2))
      go_roundw
      case rel =>
        have b3 := unhide HB2
        have b4 := w2F_below w2 82 a2 N
        have hR3 := ((unhide HRX).later b3).later b4
        have hX : Rx.Own w.heap.size (w2F w2 82 a2 N) ⟨a2, c2, r⟩ := by
          refine ⟨?_, unhide HP, by simp only; rw [← unhide HNN]; exact hfl⟩
          simp only
          rw [← unhide HNN]
          exact own_laterG (own_to' (unhide HO2) (Nat.le_refl _) (unhide HW0)) b4
        have hO := unhide hown'
        have hG := unhide hgrow
        have hR5 : RxR w.heap.size w5 (.slice a1 (q + 1) b1) (pre ++ [⟨a2, c2, r⟩]) := by
          refine RxR.push hR3 hX ?_ ?_ ?_
          · intro y hy b hb hb2
            have h1 := (((unhide HRX).own y hy).1.lt b hb).2
            have h2 : wr.heap.size ≤ b := ((unhide HO2).lt b (by rw [← hb2, Rx.o, unhide HNN])).1
            omega
          · rw [← unhide HQ]
            simp only [Rx.v]
            rw [← unhide HNN]
            exact hO
          · rw [← unhide HQ]; exact hG
        have hb5 : Below w.heap.size w w5 := (bel_then (bel_then (unhide HBR) (unhide HBR).size b3) (Nat.le_trans (unhide HBR).size b3.size) b4).grown hG (Nat.le_trans (unhide HW0) (Nat.le_trans b3.size b4.size)) (fun k e => ((unhide HROW).lt k e).1)
        refine ⟨pre ++ [⟨a2, c2, r⟩], o + N + 10, rs'', by simp, hlen, hide ⟨unhide HF2, ?_, fun x hx => (unhide HF).2.2.1 x (List.mem_cons_of_mem _ hx), ?_⟩, hR5, hb5⟩
        · have h := (unhide HF).2.1
          rw [List.map_append, List.append_assoc]
          exact h
        · have h := (unhide HF).2.2.2
          simp only [flatR, List.length_append, encL_length] at h
          rw [unhide HNN]
          omega
      case measure => simp [intOf]; omega
end Go.Proofs.Ytonpikdpclpkiaa
