import Derived.Test.YtppmgfkpfamabaaQGaqZ
import Derived.Test.YtppmgfkpfamabaaQGabZ
import Derived.Test.YtppmgfkpfamabaaQGafZ
import Derived.Test.YtppmgfkpfamabaaQGacZ
import Derived.Deep.QuietTactic
import Derived.BigQuiet
import Derived.Deep.RegionHeld3
import Derived.Maps.AppendAt
set_option maxHeartbeats 2000000
set_option maxRecDepth 100000
namespace Go.Proofs.Ytppmgfkpfamabaa
open Go.RowKit
theorem regN_take_succ (r : Nat) (l : List Int) (k : Nat) (h : k < l.length) : regN r (l.take (k + 1)) = sNs 8 (regN r (l.take k) ^^^ (l.getD k 0).toNat) := by
  rw [take_succ_getD l k h, regN_append]; rfl
theorem sN_code (z : Nat) (hz : z < 4294967296) : bits .xor .u32 ((z : Int) / 2) (3988292384 * bits .and .u32 (z : Int) 1 % 4294967296) = (sN z : Int) := by
  have h1 : bits .and .u32 (z : Int) 1 = ((z % 2 : Nat) : Int) := by
    rw [u32_and _ _ (by omega) (by omega) (by omega) (by omega), Int.toNat_natCast]
    show ((z &&& 1 : Nat) : Int) = _
    rw [Nat.and_one_is_mod]
  rw [h1, u32_xor _ _ (by omega) (by omega) (by omega) (by omega)]
  unfold sN
  have h2 : ((z : Int) / 2).toNat = z / 2 := by omega
  rw [h2]
  split
  · next h => rw [h]; rfl
  · next h => rw [show z % 2 = 0 by omega]; simp
theorem crc_code (l : List Int) (r : Nat) (hr : regN 4294967295 l = r) (h : r < 4294967296) : bits .xor .u32 IntKind.u32.max (r : Int) = crc l := by
  rw [u32_xor _ _ (by decide) (by decide) (by omega) (by omega)]
  unfold crc crcN
  rw [hr, Int.toNat_natCast, Nat.xor_comm r]
  rfl
theorem sum_any (s : Sl) (w : World) (hs : s.Ok w) :
    Calls Try.prog 69 #[s.v] w fun e w' => e = .returned (.int .u32 (crc s.l)) ∧ w' = w := by
  obtain ⟨a, n, c, l⟩ := s
  have hl : l.length = n := hs.len
  have hn : n ≤ 9223372036854775807 := by have := hs.le; have := hs.mx; unfold maxLen at this; simp only at *; omega
  simp only [Sl.v]
  have HS := hide hs
  have HL := hide hl
  clear hs hl
  go_enter Try.func69, Try.ntmps69
  go_wp2
  go_loop [3, 9] (fun r i => ∃ k : Nat, k ≤ n ∧ i = .int .i64 k ∧ r = .int .u32 (regN 4294967295 (l.take k))) (fun _ i => n - (intOf i).toNat)
  case atStart => exact ⟨0, by omega, rfl, rfl⟩
  case round =>
    obtain ⟨k, hk, rfl, rfl⟩ := hrel
    have hR := regN_lt (l.take k) ((unhide HS).isB.take k) (r := 4294967295) (by decide)
    generalize hr : regN 4294967295 (l.take k) = r at *
    by_cases hlt : k < n
    · obtain ⟨ab, ao, haa, -, hac⟩ := (unhide HS).lies (by show 0 < l.length; rw [unhide HL]; omega)
      have haa' : a = some ⟨ab, ao, none⟩ := haa
      subst haa'
      have ca : w.cell? ⟨ab, ao + k, none⟩ = some (.int .u8 (l.getD k 0)) := hac k (by show k < l.length; rw [unhide HL]; omega)
      have hb := (unhide HS).isB.at k
      simp only at hb
      have hsu := regN_take_succ 4294967295 l k (by rw [unhide HL]; omega)
      rw [hr] at hsu
      generalize l.getD k 0 = x at *
      have hkz : (k : Int) < (n : Int) := by omega
      have HSU := hide hsu
      have HR := hide hr
      clear haa hac hsu hr
      go_wp2
      obtain ⟨y, hy⟩ : ∃ y, y = r ^^^ x.toNat := ⟨_, rfl⟩
      have hy1 : y < 4294967296 := by rw [hy]; exact Nat.xor_lt_two_pow (n := 32) hR (by omega)
      have hy2 : bits .xor .u32 (r : Int) x = (y : Int) := by rw [hy, u32_xor _ _ (by omega) (by omega) (by omega) (by omega), Int.toNat_natCast]
      have HY := hide hy
      clear hy
      go_loop [3, 17] (fun r i => ∃ k : Nat, k ≤ 8 ∧ i = .int .i64 k ∧ r = .int .u32 (sNs k y)) (fun _ i => 8 - (intOf i).toNat)
      case atStart => exact ⟨0, by omega, rfl, val_int hy2⟩
      case round =>
        obtain ⟨j, hj, rfl, rfl⟩ := hrel
        have hz := sNs_lt j hy1
        have hzs : sNs (j + 1) y = sN (sNs j y) := by rw [sNs_add]; rfl
        generalize hzz : sNs j y = z at *
        have HZ := hide hzz
        clear hzz
        by_cases hlt8 : j < 8
        · go_wp2
          go_round
          case rel => exact ⟨j + 1, by omega, by go_num, val_int ((sN_code z hz).trans (by rw [hzs]))⟩
          case measure => simp [intOf]; omega
        · have hj8 : j = 8 := by omega
          subst hj8
          go_wp2
          go_round
          case rel => exact ⟨k + 1, by omega, by go_num, by rw [unhide HSU, ← unhide HY, unhide HZ]⟩
          case measure => simp [intOf]; omega
    · have hkk : k = n := by omega
      subst hkk
      go_wp2
      go_ret
      refine ⟨?_, rfl⟩
      rw [List.take_of_length_le (by rw [unhide HL]; exact Nat.le_refl _)] at hr
      exact ret_int (crc_code l r hr hR)
set_option linter.unusedVariables false
theorem Sl.Ok.pre {w : World} {s : Sl} (h : s.Ok w) (k : Nat) (hk : k ≤ s.n) : Sl.Ok w ⟨s.a, k, s.c, s.l.take k⟩ := by
  have h1 := h.len
  have h2 := h.le
  exact ⟨by simp only [List.length_take]; omega, by simp only; omega, h.mx, (fun e => by have := h.nn e; simp only; omega), h.isB.take k, lies_take h.lies k⟩
theorem wpList_append_made {w0 : World} {ops : Array Oper} {rest : List Oper} {o : Oper} {a : Act} {Q : Exit → Act → World → Prop} (hgd : o.guard = none) (s x : Operand)
    (ho : o.op = .call { callee := .builtin .append, args := #[s, x], argTypes := #[22, 22] }) (hs : a.eval s = .slice (some ⟨w0.heap.size, 0, none⟩) 0 0)
    (d : Sl) (hd : d.Ok w0) (hx : a.eval x = .slice d.a d.n d.c) (hb : d.n ≤ 140737488355328)
    (h : ∀ v' w', Hid (w'.ownsRow w0.heap.size 5 1 v' d.n (U8 d.l)) → Hid (Below w0.heap.size w0 w') → wpList Try.prog ops Q rest (a.put o.dst v') w') : wpList Try.prog ops Q (o :: rest) a (w0.alloc (.cells #[] 5)) := by
  obtain ⟨i0, hi, hz0, hz1, hz2⟩ := info_parts Try.infoB
  have he : (w0.alloc (.cells #[] 5)).ownsRow w0.heap.size 5 1 (.slice (some ⟨w0.heap.size, 0, none⟩) 0 0) 0 (U8 ([] : List Int)) := World.ownsRow_made w0 #[] 0 (Nat.le_refl _) (by unfold maxLen; omega) rfl
  have hb1 := below_one w0 (.cells #[] 5)
  refine wpList_append_sl hgd s x 22 ho w0.heap.size 5 i0 (.int .u8 0) Try.underlying22 hi hz0 hz1 hz2 rfl _ 0 _ hs he d (hd.later hb1) hx (by omega) (by simp) ?_
  intro v' w' h1 h2
  have h3 := below_grown hb1 (Nat.le_refl _) he (unhide h2)
  have e : U8 ([] : List Int) ++ U8 d.l = U8 d.l := by simp [U8]
  have h4 := unhide h1
  rw [e, Nat.zero_add] at h4
  exact h v' w' h4 h3
theorem own_to' {w : World} {base base' e n : Nat} {v : Value} {xs : List Value} {s : Nat} (h : w.ownsRow s e 1 v n xs) (_ : base ≤ s) (hb : base' ≤ base) : w.ownsRow base' e 1 v n xs := by
  obtain ⟨h1, h2⟩ := h
  refine ⟨h1, ?_⟩
  rcases h2 with h2 | ⟨g, cap, cur, r1, r2, r3⟩
  · exact .inl h2
  · exact .inr ⟨g, cap, cur, r1, by omega, r3⟩
theorem below_alloc (w : World) (o : Obj) : Below w.heap.size w (w.alloc o) := (Below.refl _ _).alloc (Nat.le_refl _) _
theorem liesV_new (w : World) (ty : TypeId) (vs : List Value) : LiesV (w.alloc (.cells vs.toArray ty (0, 0))) (some ⟨w.heap.size, 0, none⟩) vs := by
  intro _
  refine ⟨w.heap.size, 0, rfl, by simp, fun i v hv => ?_⟩
  rw [Nat.zero_add, (Arr.new w ty vs).cell]; exact hv
theorem join_two (pa : Option Addr) (pc : Nat) (s t : Sl) (w : World) (J : List Int) (jn : Nat) (hs : s.Ok w) (ht : t.Ok w) (hJ : Hid (s.l ++ t.l = J)) (hj : Hid (J.length = jn)) (hv : LiesV w pa [s.v, t.v]) (hn : jn ≤ 1099511627776) :
    Calls Try.prog 50 #[.slice pa 2 pc] w fun e w' => e = .returned (.slice (some ⟨w.heap.size, 0, none⟩) jn jn) ∧
      w'.ownsRow w.heap.size 5 1 (.slice (some ⟨w.heap.size, 0, none⟩) jn jn) jn (U8 J) ∧ Below w.heap.size w w' := by
  have hc : cat [s, t] = J := by rw [← unhide hJ]; simp [cat]
  have h := join_any pa pc [s, t] w hv (by intro x hx; simp at hx; rcases hx with rfl | rfl <;> assumption) (by simp) (by rw [hc, unhide hj]; exact hn)
  rw [hc, unhide hj] at h
  exact h
theorem join_three (pa : Option Addr) (pc : Nat) (s t u : Sl) (w : World) (J : List Int) (jn : Nat) (hs : s.Ok w) (ht : t.Ok w) (hu : u.Ok w) (hJ : Hid (s.l ++ (t.l ++ u.l) = J)) (hj : Hid (J.length = jn)) (hv : LiesV w pa [s.v, t.v, u.v]) (hn : jn ≤ 1099511627776) :
    Calls Try.prog 50 #[.slice pa 3 pc] w fun e w' => e = .returned (.slice (some ⟨w.heap.size, 0, none⟩) jn jn) ∧
      w'.ownsRow w.heap.size 5 1 (.slice (some ⟨w.heap.size, 0, none⟩) jn jn) jn (U8 J) ∧ Below w.heap.size w w' := by
  have hc : cat [s, t, u] = J := by rw [← unhide hJ]; simp [cat]
  have h := join_any pa pc [s, t, u] w hv (by intro x hx; simp at hx; rcases hx with rfl | rfl | rfl <;> assumption) (by simp) (by rw [hc, unhide hj]; exact hn)
  rw [hc, unhide hj] at h
  exact h
def tolL (k : Int) (p : List Int) : List Int := k :: ((leB 4 p.length).reverse ++ p)
def encL (k : Int) (p : List Int) : List Int := 165 :: (tolL k p ++ leB 4 (crc (tolL k p)))
theorem tolL_length (k : Int) (p : List Int) : (tolL k p).length = p.length + 5 := by simp [tolL]; omega
theorem encL_length (k : Int) (p : List Int) : (encL k p).length = p.length + 10 := by simp [encL, tolL_length]
theorem tolL_isB {k : Int} {p : List Int} (hk : 0 ≤ k ∧ k ≤ 255) (hp : IsB p) : IsB (tolL k p) := by
  intro x hx
  rcases List.mem_cons.1 hx with rfl | hx
  · exact hk
  · exact (IsB.append (leB_isB 4 _).reverse hp) x hx
theorem encL_isB {k : Int} {p : List Int} (hk : 0 ≤ k ∧ k ≤ 255) (hp : IsB p) : IsB (encL k p) := by
  intro x hx
  rcases List.mem_cons.1 hx with rfl | hx
  · omega
  · exact (IsB.append (tolL_isB hk hp) (leB_isB 4 _)) x hx
theorem Sl.Ok.drop1 {w : World} {g n c : Nat} {x : Int} {l : List Int} (h : Sl.Ok w ⟨some ⟨g, 0, none⟩, n + 1, c + 1, x :: l⟩) : Sl.Ok w ⟨some ⟨g, 1, none⟩, n, c, l⟩ := by
  have h1 := h.len
  have h2 := h.le
  have h3 := h.mx
  simp only [List.length_cons] at h1 h2 h3
  have hl := Lies.sub 1 n h.lies (by simp only [List.length_cons]; omega)
  rw [List.drop_one, List.tail_cons, List.take_of_length_le (by omega)] at hl
  exact ⟨by simp only; omega, by simp only; omega, by simp only; omega, (fun h => by cases h), h.isB.tail, hl⟩
set_option maxHeartbeats 1000000
def lenL (l : List Int) : Nat := (leV ((l.drop 2).take 4).reverse).toNat
def mz (l : List Int) : Nat × Int :=
  if l.length = 0 then (0, 0) else if l.getD 0 0 ≠ 165 then (0, 4) else if l.length < 6 then (0, 1)
  else if 262144 < lenL l then (0, 2) else if l.length < lenL l + 10 then (0, 1)
  else if leV ((l.drop (lenL l + 6)).take 4) ≠ crc ((l.drop 1).take (lenL l + 5)) then (0, 3) else (lenL l + 10, 0)
theorem lenL_bd {l : List Int} (h : IsB l) : (lenL l : Int) = leV ((l.drop 2).take 4).reverse ∧ lenL l < 4294967296 := by
  have hb := leV_bd _ ((h.drop 2).take 4).reverse
  have hl : ((l.drop 2).take 4).reverse.length ≤ 4 := by simp; omega
  have h2 : (2 : Int) ^ (8 * ((l.drop 2).take 4).reverse.length) ≤ 2 ^ 32 := by
    have : (2 : Nat) ^ (8 * ((l.drop 2).take 4).reverse.length) ≤ 2 ^ 32 := Nat.pow_le_pow_right (by decide) (by omega)
    exact_mod_cast this
  unfold lenL
  omega
theorem Sl.Ok.mid {w : World} {b off n c : Nat} {l : List Int} (h : Sl.Ok w ⟨some ⟨b, off, none⟩, n, c, l⟩) (i m : Nat) (hm : i + m ≤ n) : Sl.Ok w ⟨some ⟨b, off + i, none⟩, m, c - i, (l.drop i).take m⟩ := by
  have h1 := h.len
  have h2 := h.le
  have h3 := h.mx
  simp only at h1 h2 h3
  exact ⟨by simp only [List.length_take, List.length_drop]; omega, by simp only; omega, by simp only; omega, (fun h => by cases h), (h.isB.drop i).take m, Lies.sub i m h.lies (by omega)⟩
theorem measure_any (d : Sl) (w : World) (hd : d.Ok w) :
    Calls Try.prog 85 #[d.v] w fun e w' => e = .returned (.tuple #[.int .i64 (mz d.l).1, .int .i64 (mz d.l).2]) ∧ w' = w := by
  obtain ⟨a, n, c, l⟩ := d
  have hl : l.length = n := hd.len
  have hle : n ≤ c := hd.le
  have hmx : c ≤ 9223372036854775807 := by have := hd.mx; unfold maxLen at this; exact this
  simp only [Sl.v]
  generalize hM : mz l = M
  unfold mz at hM
  rw [hl] at hM
  have HD := hide hd
  have HM := hide hM
  have HL := hide hl
  clear hd hM hl
  by_cases h0 : n = 0
  · subst h0
    have hM := unhide HM
    rw [if_pos rfl] at hM
    subst hM
    go_enter Try.func85, Try.ntmps85
    go_wp2_with fail
    go_ret2
    exact ⟨rfl, rfl⟩
  have hn0 : (0 : Int) < (n : Int) := by omega
  have hn0' : ((n : Int) == 0) = false := by rw [beq_eq_false_iff_ne]; omega
  obtain ⟨ab, ao, haa, -, hac⟩ := (unhide HD).lies (by show 0 < l.length; rw [unhide HL]; omega)
  have haa' : a = some ⟨ab, ao, none⟩ := haa
  subst haa'
  have c0 : w.cell? ⟨ab, ao, none⟩ = some (.int .u8 (l.getD 0 0)) := by have := hac 0 (by show 0 < l.length; rw [unhide HL]; omega); rw [Nat.add_zero] at this; exact this
  clear haa hac
  by_cases h1 : l.getD 0 0 = 165
  · rw [h1] at c0
    have hne1 : ((165 : Int) != 165) = false := rfl
    by_cases h2 : n < 6
    · have hM := unhide HM
      rw [if_neg h0, if_neg (fun h => h h1), if_pos h2] at hM
      subst hM
      have hz : (n : Int) < 6 := by omega
      clear h1
      go_enter Try.func85, Try.ntmps85
      go_wp2_with fail
      go_ret2
      exact ⟨rfl, rfl⟩
    · have hz : ¬ (n : Int) < 6 := by omega
      have hB := lenL_bd (unhide HD).isB
      simp only at hB
      have hLd := loadbe32_ok ab ao n c 2 l w (unhide HL) (unhide HD).isB (unhide HD).lies (by omega) hle (by unfold maxLen; omega)
      rw [← hB.1] at hLd
      obtain ⟨m, hm⟩ : ∃ m, m = lenL l := ⟨_, rfl⟩
      have HM2 := hide (unhide HM)
      rw [← hm] at hLd hB HM2
      have hm1 := hB.2
      have HM3 := HM2
      clear hB HM2 HM hm
      by_cases h3 : 262144 < m
      · have hM := unhide HM3
        rw [if_neg h0, if_neg (fun h => h h1), if_neg h2, if_pos h3] at hM
        subst hM
        have hz3 : (262144 : Int) < (m : Int) := by omega
        clear h1 HM3
        go_enter Try.func85, Try.ntmps85
        go_wp2_with (go_at_call 82; refine hLd.mono ?_; rintro e w' ⟨rfl, rfl⟩; clear hLd)
        go_ret2
        exact ⟨rfl, rfl⟩
      have hz3 : ¬ (262144 : Int) < (m : Int) := by omega
      by_cases h4 : n < m + 10
      · have hM := unhide HM3
        rw [if_neg h0, if_neg (fun h => h h1), if_neg h2, if_neg h3, if_pos h4] at hM
        subst hM
        have hz4 : (n : Int) < (m : Int) + 10 := by omega
        clear h1 HM3
        go_enter Try.func85, Try.ntmps85
        go_wp2_with (go_at_call 82; refine hLd.mono ?_; rintro e w' ⟨rfl, rfl⟩; clear hLd)
        go_ret2
        exact ⟨rfl, rfl⟩
      have hz4 : ¬ (n : Int) < (m : Int) + 10 := by omega
      have hLl := loadle32_ok ab ao n c (m + 6) l w (unhide HL) (unhide HD).isB (unhide HD).lies (by omega) hle (by unfold maxLen; omega)
      have hSu := sum_any _ w ((unhide HD).mid 1 (m + 5) (by omega))
      simp only [Sl.v] at hSu
      rw [Nat.add_comm m 5] at hSu
      have HX : Hid ((if leV ((l.drop (m + 6)).take 4) ≠ crc ((l.drop 1).take (5 + m)) then (0, 3) else (m + 10, 0)) = M) := hide (by
        have hM := unhide HM3
        rw [Nat.add_comm m 5] at hM
        rw [if_neg h0, if_neg (fun h => h h1), if_neg h2, if_neg h3, if_neg h4] at hM
        exact hM)
      generalize leV ((l.drop (m + 6)).take 4) = x at hLl HX
      generalize crc ((l.drop 1).take (5 + m)) = y at hSu HX
      rw [show ((m + 6 : Nat) : Int) = 6 + (m : Int) by omega] at hLl
      clear h1 HM3
      by_cases h5 : x = y
      · subst h5
        have hM := unhide HX
        rw [if_neg (fun h => h rfl)] at hM
        subst hM
        have hne : (x != x) = false := by simp
        go_enter Try.func85, Try.ntmps85
        go_wp2_with (first
          | (go_at_call 82; refine hLd.mono ?_; rintro e w' ⟨rfl, rfl⟩; clear hLd)
          | (go_at_call 89; refine hLl.mono ?_; rintro e w' ⟨rfl, rfl⟩; clear hLl)
          | (go_at_call 69; refine hSu.mono ?_; rintro e w' ⟨rfl, rfl⟩; clear hSu))
        go_ret2
        refine ⟨?_, rfl⟩
        rw [show (((m + 10 : Nat), (0 : Int)).1 : Int) = 6 + (m : Int) + 4 by simp only; omega]
        rfl
      · have hM := unhide HX
        rw [if_pos h5] at hM
        subst hM
        have hne : (x != y) = true := by rw [bne_iff_ne]; exact h5
        clear h5
        go_enter Try.func85, Try.ntmps85
        go_wp2_with (first
          | (go_at_call 82; refine hLd.mono ?_; rintro e w' ⟨rfl, rfl⟩; clear hLd)
          | (go_at_call 89; refine hLl.mono ?_; rintro e w' ⟨rfl, rfl⟩; clear hLl)
          | (go_at_call 69; refine hSu.mono ?_; rintro e w' ⟨rfl, rfl⟩; clear hSu))
        go_ret2
        exact ⟨rfl, rfl⟩
  · have hM := unhide HM
    rw [if_neg h0, if_pos h1] at hM
    subst hM
    have hne : (l.getD 0 0 != 165) = true := by rw [bne_iff_ne]; exact h1
    generalize l.getD 0 0 = x at *
    clear h1
    go_enter Try.func85, Try.ntmps85
    go_wp2_with fail
    go_ret2
    exact ⟨rfl, rfl⟩
theorem encL_parts (k : Int) (p r : List Int) : encL k p ++ r = 165 :: k :: ((leB 4 p.length).reverse ++ (p ++ (leB 4 (crc (tolL k p)) ++ r))) := by
  simp [encL, tolL]
theorem enc_len (k : Int) (p r : List Int) (hlen : p.length ≤ 262144) : lenL (encL k p ++ r) = p.length := by
  unfold lenL
  rw [encL_parts]
  have e : (List.drop 2 (165 :: k :: ((leB 4 p.length).reverse ++ (p ++ (leB 4 (crc (tolL k p)) ++ r))))).take 4 = (leB 4 p.length).reverse := by
    rw [show List.drop 2 (165 :: k :: ((leB 4 p.length).reverse ++ (p ++ (leB 4 (crc (tolL k p)) ++ r)))) = (leB 4 p.length).reverse ++ (p ++ (leB 4 (crc (tolL k p)) ++ r)) from rfl]
    exact List.take_left' (by simp)
  rw [e, List.reverse_reverse, leV_leB]
  omega
theorem enc_tol (k : Int) (p r : List Int) : ((encL k p ++ r).drop 1).take (p.length + 5) = tolL k p := by
  have e : (encL k p ++ r).drop 1 = tolL k p ++ (leB 4 (crc (tolL k p)) ++ r) := by simp [encL]
  rw [e]
  exact List.take_left' (tolL_length k p)
theorem enc_sum (k : Int) (p r : List Int) : ((encL k p ++ r).drop (p.length + 6)).take 4 = leB 4 (crc (tolL k p)) := by
  have e : encL k p ++ r = (165 :: tolL k p) ++ (leB 4 (crc (tolL k p)) ++ r) := by simp [encL]
  rw [e, List.drop_left' (by rw [List.length_cons, tolL_length])]
  exact List.take_left' (by simp)
theorem enc_pay (k : Int) (p r : List Int) : ((encL k p ++ r).drop 6).take p.length = p := by
  have e : encL k p ++ r = (165 :: k :: (leB 4 p.length).reverse) ++ (p ++ (leB 4 (crc (tolL k p)) ++ r)) := by simp [encL, tolL]
  rw [e, List.drop_left' (by simp)]
  exact List.take_left' rfl
theorem enc_kind (k : Int) (p r : List Int) : (encL k p ++ r).getD 1 0 = k := by rw [encL_parts]; rfl
theorem mz_enc (k : Int) (p r : List Int) (hk : 0 ≤ k ∧ k ≤ 255) (hp : IsB p) (hlen : p.length ≤ 262144) : mz (encL k p ++ r) = (p.length + 10, 0) := by
  have hl : (encL k p ++ r).length = p.length + 10 + r.length := by rw [List.length_append, encL_length]
  have hc := crc_bd (tolL_isB hk hp)
  unfold mz
  rw [enc_len k p r hlen, if_neg (by omega), if_neg (by rw [encL_parts]; simp), if_neg (by omega), if_neg (by omega), if_neg (by omega), enc_sum, enc_tol, leV_leB, if_neg (by omega)]
theorem sN_bit (r : Nat) (b : Bool) : sN (r ^^^ b.toNat) = if (decide (r % 2 = 1)) != b then r / 2 ^^^ 3988292384 else r / 2 := by
  have h1 := xor_mod2 r b.toNat
  have h2 := xor_div2 r b.toNat
  unfold sN
  rw [h1, h2]
  cases b
  · simp only [Bool.toNat_false, Nat.add_zero, Nat.zero_div, Nat.xor_zero]
    by_cases h : r % 2 = 1 <;> simp [h]
  · simp only [Bool.toNat_true, show 1 / 2 = 0 from rfl, Nat.xor_zero]
    by_cases h : r % 2 = 1
    · rw [if_neg (by omega)]; simp [h]
    · rw [if_pos (by omega)]; simp [h]
theorem rbit_any (r : Nat) (b : Bool) (w : World) (hr : r < 4294967296) :
    Calls Try.prog 79 #[.int .u32 r, .bool b] w fun e w' => e = .returned (.int .u32 (sN (r ^^^ b.toNat) : Nat)) ∧ w' = w := by
  have h1 : (((r : Int) % 2) == 1) = decide (r % 2 = 1) := by
    by_cases h : r % 2 = 1
    · rw [decide_eq_true h, beq_iff_eq]; omega
    · rw [decide_eq_false h, beq_eq_false_iff_ne]; omega
  have hx : bits .xor .u32 ((r : Int) / 2) 3988292384 = ((r / 2 ^^^ 3988292384 : Nat) : Int) := by
    rw [u32_xor _ _ (by omega) (by omega) (by omega) (by omega), show ((r : Int) / 2).toNat = r / 2 by omega]; rfl
  rw [sN_bit]
  generalize decide (r % 2 = 1) = d at h1 ⊢
  have hq : ((r / 2 : Nat) : Int) = (r : Int) / 2 := by omega
  have HX := hide hx
  clear hx
  cases d <;> cases b
  · go_enter Try.func79, Try.ntmps79
    go_wp2
    go_ret
    exact ⟨ret_int hq.symm, rfl⟩
  · go_enter Try.func79, Try.ntmps79
    go_wp2
    go_ret
    exact ⟨ret_int (unhide HX), rfl⟩
  · go_enter Try.func79, Try.ntmps79
    go_wp2
    go_ret
    exact ⟨ret_int (unhide HX), rfl⟩
  · go_enter Try.func79, Try.ntmps79
    go_wp2
    go_ret
    exact ⟨ret_int hq.symm, rfl⟩
theorem sN_half (r c : Nat) : sN (r ^^^ c % 2) ^^^ c / 2 = sN (r ^^^ c) := by
  have h : c = c % 2 ^^^ 2 * (c / 2) := by
    have h1 := add_xor 1 (c % 2) (c / 2) (by omega)
    rw [show (2 : Nat) ^ 1 = 2 from rfl] at h1
    omega
  conv => rhs; rw [h]
  rw [← Nat.xor_assoc, sN_xor (r ^^^ c % 2) (2 * (c / 2)), sN_dbl]
theorem sub_xor32 (r : Nat) (h : r < 4294967296) : 4294967295 - r = r ^^^ 4294967295 := by
  have h1 := congrArg BitVec.toNat (BitVec.xor_allOnes (x := BitVec.ofNat 32 r))
  rw [BitVec.toNat_not, BitVec.toNat_xor, BitVec.toNat_ofNat, BitVec.toNat_allOnes] at h1
  rw [Nat.mod_eq_of_lt (by simpa using h)] at h1
  simpa using h1.symm
theorem rsum_any (s : Sl) (w : World) (hs : s.Ok w) :
    Calls Try.prog 73 #[s.v] w fun e w' => e = .returned (.int .u32 (crc s.l)) ∧ w' = w := by
  obtain ⟨a, n, c, l⟩ := s
  have hl : l.length = n := hs.len
  have hn : n ≤ 9223372036854775807 := by have := hs.le; have := hs.mx; unfold maxLen at this; simp only at *; omega
  simp only [Sl.v]
  have HS := hide hs
  have HL := hide hl
  clear hs hl
  go_enter Try.func73, Try.ntmps73
  go_wp2
  go_loop [3, 4, 5, 6] (fun r i _ _ => ∃ k : Nat, k ≤ n ∧ i = .int .i64 k ∧ r = .int .u32 (regN 4294967295 (l.take k))) (fun _ i _ _ => n - (intOf i).toNat)
  case atStart => exact ⟨0, by omega, rfl, rfl⟩
  case round =>
    obtain ⟨k, hk, rfl, rfl⟩ := hrel
    have hR := regN_lt (l.take k) ((unhide HS).isB.take k) (r := 4294967295) (by decide)
    generalize hr : regN 4294967295 (l.take k) = r at *
    by_cases hlt : k < n
    · obtain ⟨ab, ao, haa, -, hac⟩ := (unhide HS).lies (by show 0 < l.length; rw [unhide HL]; omega)
      have haa' : a = some ⟨ab, ao, none⟩ := haa
      subst haa'
      have ca : w.cell? ⟨ab, ao + k, none⟩ = some (.int .u8 (l.getD k 0)) := hac k (by show k < l.length; rw [unhide HL]; omega)
      have hb := (unhide HS).isB.at k
      simp only at hb
      have hsu := regN_take_succ 4294967295 l k (by rw [unhide HL]; omega)
      rw [hr] at hsu
      generalize l.getD k 0 = x at *
      obtain ⟨y, rfl⟩ : ∃ y : Nat, x = y := ⟨x.toNat, by omega⟩
      rw [Int.toNat_natCast] at hsu
      have hkz : (k : Int) < (n : Int) := by omega
      have HSU := hide hsu
      have HR := hide hr
      clear haa hac hsu hr
      go_wp2
      go_loop [3, 5, 6] (fun r' c i => ∃ (j r1 : Nat), j ≤ 8 ∧ i = .int .i64 j ∧ c = .int .u8 ((y / 2 ^ j : Nat) : Int) ∧ r' = .int .u32 r1 ∧ r1 < 4294967296 ∧ Hid (r1 ^^^ y / 2 ^ j = sNs j (r ^^^ y))) (fun _ _ i => 8 - (intOf i).toNat)
      case atStart => exact ⟨0, r, by omega, rfl, by simp, rfl, hR, hide (by simp [sNs])⟩
      case round =>
        obtain ⟨j, r1, hj, rfl, rfl, rfl, hr1, HJ⟩ := hrel
        by_cases hlt8 : j < 8
        · obtain ⟨c1, hc1⟩ : ∃ c1, y / 2 ^ j = c1 := ⟨_, rfl⟩
          have hc2 : y / 2 ^ (j + 1) = c1 / 2 := by rw [← hc1, Nat.pow_succ, Nat.div_div_eq_div_mul]
          have hcb : c1 ≤ 255 := by rw [← hc1]; exact Nat.le_trans (Nat.div_le_self _ _) (by omega)
          rw [hc1] at HJ ⊢
          have hbt : (((c1 : Int) % 2) == 1) = decide (c1 % 2 = 1) := by
            by_cases h : c1 % 2 = 1
            · rw [decide_eq_true h, beq_iff_eq]; omega
            · rw [decide_eq_false h, beq_eq_false_iff_ne]; omega
          have hbn : (decide (c1 % 2 = 1)).toNat = c1 % 2 := by
            by_cases h : c1 % 2 = 1
            · rw [decide_eq_true h, h]; rfl
            · rw [decide_eq_false h, show c1 % 2 = 0 by omega]; rfl
          have hC := rbit_any r1 (decide (c1 % 2 = 1)) w hr1
          rw [hbn] at hC
          obtain ⟨r2, hr2⟩ : ∃ r2, sN (r1 ^^^ c1 % 2) = r2 := ⟨_, rfl⟩
          rw [hr2] at hC
          have hr3 : r2 < 4294967296 := by rw [← hr2]; exact sN_lt (Nat.xor_lt_two_pow (n := 32) hr1 (by omega))
          have HJ2 : Hid (r2 ^^^ y / 2 ^ (j + 1) = sNs (j + 1) (r ^^^ y)) := hide (by
            rw [hc2, ← hr2, sN_half, unhide HJ, sNs_add]; rfl)
          have hq : ((c1 : Int) / 2) = ((y / 2 ^ (j + 1) : Nat) : Int) := by rw [hc2]; omega
          have HQ := hide hq
          clear hc1 hr2 hbn HJ hq hc2
          generalize decide (c1 % 2 = 1) = d at hbt hC
          have hcz : (0 : Int) ≤ (c1 : Int) ∧ (c1 : Int) ≤ 255 := by omega
          go_wp2_with (go_at_call 79; refine hC.mono ?_; rintro e w' ⟨rfl, rfl⟩; clear hC)
          go_round
          case rel => exact ⟨j + 1, r2, by omega, by go_num, val_int (unhide HQ), rfl, hr3, HJ2⟩
          case measure => simp [intOf]; omega
        · have hj8 : j = 8 := by omega
          subst hj8
          have h8 : y / 2 ^ 8 = 0 := Nat.div_eq_of_lt (by omega)
          have hfin := unhide HJ
          rw [h8, Nat.xor_zero] at hfin
          clear HJ
          go_wp2
          go_round
          case rel => exact ⟨k + 1, by omega, by go_num, by rw [unhide HSU, ← hfin]⟩
          case measure => simp [intOf]; omega
    · have hkk : k = n := by omega
      subst hkk
      go_wp2
      go_ret
      refine ⟨?_, rfl⟩
      rw [List.take_of_length_le (by rw [unhide HL]; exact Nat.le_refl _)] at hr
      refine ret_int ?_
      unfold crc crcN
      rw [hr, ← sub_xor32 r hR]
      omega
end Go.Proofs.Ytppmgfkpfamabaa
