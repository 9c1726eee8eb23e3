import Derived.Test.YtipmgnigejpfjaaRefXorX
namespace Go.Proofs.Ytipmgnigejpfjaa
open Go.RowKit

theorem own_drewN {B e n size : Nat} {w : World} {v : Value} {xs : List Value} (h : w.ownsRow B e size v n xs) (q : Nat) : (w.drewN q).ownsRow B e size v n xs := h

theorem step_append_own {P : Program} {ops : Array Oper} {o : Oper} {a : Act} {w : World} {K : Act → World → Prop} {Q : Exit → Act → World → Prop} {E : Prop} (hgd : o.guard = none) (s x : Operand) (t : TypeId)
    (ho : o.op = .call { callee := .builtin .append, args := #[s, x], argTypes := #[t, t] })
    (base : Nat) (e : TypeId) (i : TypeInfo) (z : Value) (size bytes : Nat) (ht : P.underlying t = some (.slice e)) (hi : P.info? e = some i) (hz : i.zero = some z)
    (hsize : i.size = size) (hby : i.bytes = bytes) (hzs : z.cells.size = size) (hsz : 0 < size)
    (v : Value) (n : Nat) (xs : List Value) (hs : a.eval s = v) (hown : w.ownsRow base e size v n xs)
    (ad : Addr) (m c : Nat) (news : List Value) (hx : a.eval x = .slice (some ad) m c) (hl : news.length = m * size) (hnews : ∀ j u, news[j]? = some u → w.cell? (ad.add j) = some u) (h1 : ∀ u ∈ news, u.oneCell' = true)
    (h63 : n + m ≤ maxLen) (hbytes : (n + m) * bytes ≤ 140737488355328) (hbase : base ≤ w.heap.size)
    (h : ∀ v' w', w'.ownsRow base e size v' (n + m) (xs ++ news) → w.grownBy w' v.ownBlock → K (a.put o.dst v') w') :
    if Region.wanted o (yielded ops a.tmps) = true then Oper.wp P o a w K Q else E := by
  have hw : Region.wanted o (yielded ops a.tmps) = true := by simp [Region.wanted, hgd]
  rw [if_pos hw]
  exact wp_append_own w s x t ho base e i z size bytes ht hi hz hsize hby hzs hsz v n xs hs hown ad m c news hx hl hnews h1 h63 hbytes hbase fun v' w' h2 h3 _ => h v' w' h2 h3

set_option maxHeartbeats 1000000 in
set_option maxRecDepth 100000 in
theorem refequal_no (a b : Option Addr) (n m c d : Nat) (w : World) (h : n ≠ m) :
    Calls Try.prog 44 #[.slice a n c, .slice b m d] w fun e w' => e = .returned (.bool false) ∧ ∃ k, w' = w.drewN k := by
  have hb : ((n : Int) != (m : Int)) = true := by rw [bne_iff_ne]; omega
  go_enter Try.func44, Try.ntmps44
  go_wp2
  go_ret
  exact ⟨rfl, 0, rfl⟩

set_option maxHeartbeats 1000000 in
set_option maxRecDepth 100000 in
theorem refequal_ok (s t : Sl) (w : World) (hs : s.Ok w) (ht : t.Ok w) (hnm : s.n = t.n) (hn : s.n ≤ 1099511627776) :
    Calls Try.prog 44 #[s.v, t.v] w fun e w' => e = .returned (.bool (decide (s.l = t.l))) ∧ ∃ k, w' = w.drewN k := by
  obtain ⟨a, n, c, la⟩ := s
  obtain ⟨b, m, d, lb⟩ := t
  simp only [Sl.v] at hnm hn ⊢
  subst hnm
  have hla := hs.len
  have hlb := ht.len
  simp only at hla hlb
  have HA := hide hla
  have HB := hide hlb
  clear hla hlb
  have hne : ((n : Int) != (n : Int)) = false := by simp
  go_enter Try.func44, Try.ntmps44
  go_wp2
  go_loopw [5] (fun i wr => ∃ k q : Nat, k ≤ n ∧ i = .int .i64 k ∧ wr = w.drewN q ∧ ∀ j, j < k → la.getD j 0 = lb.getD j 0) (fun i _ => n - (intOf i).toNat)
  case atStart => exact ⟨0, 0, by omega, rfl, rfl, by omega⟩
  case round =>
    obtain ⟨k, q, hk, rfl, rfl, heq⟩ := hrel
    have HE := hide heq
    clear heq
    by_cases hlt : k < n
    · obtain ⟨ab, ao, rfl, hab, hac⟩ := hs.lies (by simp only; rw [unhide HA]; omega)
      obtain ⟨bb, bo, rfl, hbb, hbc⟩ := ht.lies (by simp only; rw [unhide HB]; omega)
      have ca := hac k (by simp only; rw [unhide HA]; omega)
      have cb := hbc k (by simp only; rw [unhide HB]; omega)
      simp only at ca cb
      have hkn' : (k : Int) < (n : Int) := by omega
      have HS := hide hs
      have HT := hide ht
      clear hac hbc hs ht
      generalize hx : la.getD k 0 = x at ca
      generalize hy : lb.getD k 0 = y at cb
      have HX := hide hx
      have HY := hide hy
      clear hx hy
      obtain ⟨W, hW⟩ : ∃ W, W = w.drewN q := ⟨_, rfl⟩
      have ca' : W.cell? ⟨ab, ao + k, none⟩ = some (.int .u8 x) := by rw [hW]; exact ca
      have cb' : W.cell? ⟨bb, bo + k, none⟩ = some (.int .u8 y) := by rw [hW]; exact cb
      rw [← hW]
      have HW := hide hW
      clear hW ca cb
      by_cases hxy : x = y
      · have hb : (x != y) = false := by simp [hxy]
        have HXY := hide hxy
        clear hxy
        go_wp2
        go_quiet (fail)
        go_wp2
        go_roundw
        case rel =>
          refine ⟨k + 1, q + nq, by omega, by go_num, by rw [unhide HW, World.drewN_drewN], fun j hj => ?_⟩
          by_cases hjk : j = k
          · subst hjk; rw [unhide HX, unhide HY]; exact unhide HXY
          · exact unhide HE j (by omega)
        case measure => simp [intOf]; omega
      · have hb : (x != y) = true := by simp [hxy]
        have HXY := hide hxy
        clear hxy
        go_wp2
        go_quiet (fail)
        go_wp2
        go_ret
        refine ⟨ret_bool ?_, q + nq, by rw [unhide HW, World.drewN_drewN]⟩
        symm; rw [decide_eq_false_iff_not]
        intro e; apply unhide HXY; rw [← unhide HX, ← unhide HY, e]
    · go_wp2
      go_ret
      refine ⟨ret_bool ?_, q, rfl⟩
      symm; rw [decide_eq_true_iff]
      apply Classical.byContradiction
      intro hne
      obtain ⟨i, hi, h1, h2⟩ := differ la lb (by rw [unhide HA, unhide HB]) hne
      exact h1 (unhide HE i (by rw [unhide HA] at hi; omega))

theorem xorL_take_succ (a b : List Int) (k : Nat) (h : k < a.length) : (xorL a b).take (k + 1) = (xorL a b).take k ++ [bits .xor .u8 (a.getD k 0) (b.getD k 0)] := by
  rw [take_succ_getD _ k (by simpa using h), getD_lt _ _ (by simpa using h)]; simp [xorL]

set_option maxHeartbeats 1000000 in
set_option maxRecDepth 100000 in
theorem refxor_no (a b : Option Addr) (n m c d : Nat) (w : World) (h : n ≠ m) :
    Calls Try.prog 42 #[.slice a n c, .slice b m d] w fun e w' => e = .returned (.tuple #[.slice none 0 0, .bool false]) ∧ w' = w := by
  have hb : ((n : Int) != (m : Int)) = true := by rw [bne_iff_ne]; omega
  go_enter Try.func42, Try.ntmps42
  go_wp2
  go_ret2
  exact ⟨rfl, rfl⟩

set_option maxHeartbeats 2000000 in
set_option maxRecDepth 100000 in
theorem refxor_ok (s t : Sl) (w : World) (hs : s.Ok w) (ht : t.Ok w) (hnm : s.n = t.n) (hn : s.n ≤ 1099511627776) :
    Calls Try.prog 42 #[s.v, t.v] w fun e w' => ∃ v, e = .returned (.tuple #[v, .bool true]) ∧
      w'.ownsRow w.heap.size 5 1 v s.n (U8 (xorL s.l t.l)) ∧ Below w.heap.size w w' := by
  obtain ⟨i0, hi, hz0, hz1, hz2⟩ := info_parts Try.infoB
  obtain ⟨a, n, c, la⟩ := s
  obtain ⟨b, m, d, lb⟩ := t
  simp only [Sl.v] at hnm hn ⊢
  subst hnm
  have hla := hs.len
  have hlb := ht.len
  simp only at hla hlb
  have HA := hide hla
  have HB := hide hlb
  have HS := hide hs
  have HT := hide ht
  have hne : ((n : Int) != (n : Int)) = false := by simp
  clear hla hlb hs ht
  go_enter Try.func42, Try.ntmps42
  go_wp2
  go_loopw [6, 7] (fun b i wr => ∃ k : Nat, k ≤ n ∧ i = .int .i64 k ∧ wr.ownsRow w.heap.size 5 1 b k (U8 ((xorL la lb).take k)) ∧ Below w.heap.size w wr)
    (fun _ i _ => n - (intOf i).toNat)
  case atStart => exact ⟨0, by omega, rfl, World.ownsRow_nil _ _ _ _, Below.refl _ _⟩
  case round =>
    obtain ⟨k, hk, rfl, hown, hbl⟩ := hrel
    by_cases hlt : k < n
    · obtain ⟨ab, ao, rfl, hab, hac⟩ := (unhide HS).lies (by simp only; rw [unhide HA]; omega)
      obtain ⟨bb, bo, rfl, hbb, hbc⟩ := (unhide HT).lies (by simp only; rw [unhide HB]; omega)
      have ca := hac k (by simp only; rw [unhide HA]; omega)
      have cb := hbc k (by simp only; rw [unhide HB]; omega)
      have ba := (unhide HS).isB.at k
      have bB := (unhide HT).isB.at k
      have hsn := xorL_take_succ la lb k (by rw [unhide HA]; omega)
      simp only at ca cb ba bB
      have CA := hide ca
      have CB := hide cb
      have ca := (hbl.cell (p := ⟨ab, ao + k, none⟩) hab).trans ca
      have cb := (hbl.cell (p := ⟨bb, bo + k, none⟩) hbb).trans cb
      have hsn' : Hid (U8 ((xorL la lb).take (k + 1)) = U8 ((xorL la lb).take k) ++ [.int .u8 (bits .xor .u8 (la.getD k 0) (lb.getD k 0))]) := hide (by rw [hsn, U8_snoc])
      have hkn' : (k : Int) < (n : Int) := by omega
      clear hac hbc hsn
      generalize la.getD k 0 = x at CA ca ba hsn'
      generalize lb.getD k 0 = y at CB cb bB hsn'
      go_wp2
      go_region_held3 (fun w' => w'.cell? ⟨ab, ao + k, none⟩ = some (.int .u8 x) ∧ w'.cell? ⟨bb, bo + k, none⟩ = some (.int .u8 y)) (first | go_keep | (refine ⟨?_, ?_⟩; exact (hb1.cell (p := ⟨ab, ao + k, none⟩) hab).trans (unhide CA); exact (hb1.cell (p := ⟨bb, bo + k, none⟩) hbb).trans (unhide CB)))
        (first
          | (go_at_call 56; refine (unlike_any x y _ ba.1 ba.2 bB.1 bB.2).mono ?_; rintro e w' ⟨rfl, q1, rfl⟩)
          | (refine step_append_own rfl (.tmp 19) (.tmp 29) 28 rfl w.heap.size 5 i0 (.int .u8 0) 1 1 Try.underlying28 hi hz0 hz1 hz2 rfl (by decide) _ k (U8 ((xorL la lb).take k)) rfl ((own_drewN hown _).alloc _) ⟨wr.heap.size, 0, none⟩ 1 1 [.int .u8 (bits .xor .u8 x y)] rfl rfl (cell_one_new _ _ _) (one_byte _) (by unfold maxLen; omega) (by omega) (by have := hbl.size; simp; omega) ?_; intro v1 w1 hown1 hgrow1; have hb1 : Below w.heap.size w w1 := by exact below_app (n := k) (e := 5) (xs := U8 ((xorL la lb).take k)) (below_drewN hbl (1 + q1)) (Nat.le_refl _) (own_drewN hown (1 + q1)) hgrow1))
      clear hgrow1 hown hbl ca cb
      go_wp2
      go_roundw
      case rel => exact ⟨k + 1, by omega, by go_num, by rw [unhide hsn']; exact hown1, hb1⟩
      case measure => simp [intOf]; omega
    · go_wp2
      go_ret2
      have : k = n := by omega
      subst this
      rw [List.take_of_length_le (by simp [unhide HA])] at hown
      exact ⟨_, rfl, hown, hbl⟩
end Go.Proofs.Ytipmgnigejpfjaa
