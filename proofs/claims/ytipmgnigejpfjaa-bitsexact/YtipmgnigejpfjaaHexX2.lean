import Derived.Test.YtipmgnigejpfjaaHexX
import Derived.Deep.RegionLaw
namespace Go.Proofs.Ytipmgnigejpfjaa
open Go.RowKit

theorem step_append_fits {P : Program} {ops : Array Oper} {o : Oper} {a : Act} {w : World} {K : Act → World → Prop} {Q : Exit → Act → World → Prop} {E : Prop}
    (hg : o.guard = none) (s x : Operand) (t : TypeId) (hop : o.op = Op.call { callee := Callee.builtin Builtin.append, args := #[s, x], argTypes := #[t, t] })
    (base : Nat) (e : TypeId) (i : TypeInfo) (size : Nat) (h1 : P.underlying t = some (.slice e)) (h2 : P.info? e = some i) (h4 : i.size = size)
    (g k cap : Nat) (xs : List Value) (hs : a.eval s = .slice (some ⟨g, 0, none⟩) k cap) (hown : w.ownsRow base e size (.slice (some ⟨g, 0, none⟩) k cap) k xs) (ad : Addr) (m c : Nat) (news : List Value) (hx : a.eval x = .slice (some ad) m c) (hn : news.length = m * size)
    (hc : ∀ j u, news[j]? = some u → w.cell? (ad.add j) = some u) (h1c : ∀ u ∈ news, u.oneCell' = true) (b1 : k + m ≤ cap)
    (hK : ∀ w', w'.ownsRow base e size (.slice (some ⟨g, 0, none⟩) (k + m) cap) (k + m) (xs ++ news) → w.grownBy w' (some g) → K (a.put o.dst (.slice (some ⟨g, 0, none⟩) (k + m) cap)) w') :
    if Region.wanted o (yielded ops a.tmps) = true then Oper.wp P o a w K Q else E := by
  have hw : Region.wanted o (yielded ops a.tmps) = true := by simp [Region.wanted, hg]
  rw [if_pos hw]
  obtain ⟨w', hrun, r1, r2⟩ := run_append_fits (P := P) w base t o.type e i size h1 h2 h4 g k cap xs hown ad m c news hn hc h1c b1
  unfold Oper.wp
  simp [execOp, hop, resolve, invoke, builtin, hs, hx, hrun, Result.andThen]
  exact hK w' r1 r2

def hexD (v : Int) : Int := if v < 10 then 48 + v else 87 + v
def hexL (l : List Int) : List Int := l.flatMap fun c => [hexD (c / 16), hexD (c % 16)]
theorem hexL_length (l : List Int) : (hexL l).length = 2 * l.length := by
  induction l with
  | nil => rfl
  | cons x r ih => simp only [hexL, List.flatMap_cons, List.length_append, List.length_cons] at ih ⊢; simp only [List.length_nil]; omega
theorem hexL_snoc (l : List Int) (c : Int) : hexL (l ++ [c]) = hexL l ++ [hexD (c / 16), hexD (c % 16)] := by simp [hexL]
theorem hexD_bd (v : Int) (h0 : 0 ≤ v) (h1 : v ≤ 15) : 0 ≤ hexD v ∧ hexD v ≤ 255 := by unfold hexD; split <;> omega
theorem hexL_isB (l : List Int) (h : IsB l) : IsB (hexL l) := by
  intro x hx; simp only [hexL, List.mem_flatMap, List.mem_cons, List.not_mem_nil, or_false] at hx
  obtain ⟨c, hc, hx⟩ := hx
  have := h c hc
  rcases hx with rfl | rfl
  · exact hexD_bd _ (by omega) (by omega)
  · exact hexD_bd _ (by omega) (by omega)

theorem index_digits (v : Int) (h0 : 0 ≤ v) (h1 : v ≤ 15) (w : World) :
    (Instr.index 9 (.string { data := #[48, 49, 50, 51, 52, 53, 54, 55, 56, 57, 97, 98, 99, 100, 101, 102] }) (.int .u8 v)).run Try.prog w = .ok (.int .u8 (hexD v)) w := by
  have : v = 0 ∨ v = 1 ∨ v = 2 ∨ v = 3 ∨ v = 4 ∨ v = 5 ∨ v = 6 ∨ v = 7 ∨ v = 8 ∨ v = 9 ∨ v = 10 ∨ v = 11 ∨ v = 12 ∨ v = 13 ∨ v = 14 ∨ v = 15 := by omega
  rcases this with rfl | rfl | rfl | rfl | rfl | rfl | rfl | rfl | rfl | rfl | rfl | rfl | rfl | rfl | rfl | rfl <;> (show _ = _; kernel_rfl)

theorem two_new (W : World) (p q : Int) : ∀ j u, (U8 [p, q])[j]? = some u → (W.alloc (.cells #[.int .u8 p, .int .u8 q] 5)).drew.cell? ((⟨W.heap.size, 0, none⟩ : Addr).add j) = some u := by
  intro j u hu
  rw [addr_add]
  match j, hu with
  | 0, hu => simp [U8] at hu; subst hu; go_simp
  | 1, hu => simp [U8] at hu; subst hu; go_simp

theorem u8_and15 (c : Int) (h0 : 0 ≤ c) (h1 : c ≤ 255) : bits .and .u8 c 15 = c % 16 := by
  rw [u8_and c 15 h0 (by omega) (by omega) (by omega)]
  obtain ⟨C, rfl⟩ := Int.eq_ofNat_of_zero_le h0
  have : (15 : Int).toNat = 2 ^ 4 - 1 := rfl
  rw [this, Int.toNat_natCast, Nat.and_two_pow_sub_one_eq_mod]; simp

set_option maxHeartbeats 2000000 in
set_option maxRecDepth 100000 in
theorem hex_any (s : Sl) (w : World) (hs : s.Ok w) (hn : s.n ≤ 1099511627776) :
    Calls Try.prog 4 #[s.v] w fun e w' => e = .returned (.string (strOfNums (hexL s.l))) ∧ Below w.heap.size w w' := by
  obtain ⟨i0, hi, hz0, hz1, hz2⟩ := info_parts Try.infoB
  obtain ⟨a, n, c, l⟩ := s
  have hl := hs.len
  simp only [Sl.v] at hl hn ⊢
  have HL := hide hl
  have HS := hide hs
  obtain ⟨T, hT⟩ : ∃ T, T = 2 * n := ⟨_, rfl⟩
  have hTi : (2 : Int) * (n : Int) = (T : Int) := by omega
  have HT := hide hT
  have hbs : i0.bytes * T ≤ 281474976710656 := by rw [hz2]; omega
  have hmx : T ≤ maxLen := by unfold maxLen; omega
  clear hl hs hT
  go_enter Try.func4, Try.ntmps4
  go_wp2_with (at_make; refine wpList_make_own _ rfl _ _ 28 rfl w.heap.size 5 i0 (.int .u8 0) 1 Try.underlying28 hi hz0 hz1 .i64 .i64 T T rfl rfl rfl hbs hmx (Nat.le_refl _) ?_)
  intro w1 hown hgrow
  have hb1 : Below w.heap.size w w1 := (Below.refl _ _).grown hgrow (Nat.le_refl _) (fun _ h => by cases h)
  clear hgrow
  go_wp2
  go_loopw [3, 12] (fun t i wr => ∃ k : Nat, k ≤ n ∧ i = .int .i64 k ∧ t = .slice (some ⟨w.heap.size, 0, none⟩) (2 * k) T ∧
      wr.ownsRow w.heap.size 5 1 (.slice (some ⟨w.heap.size, 0, none⟩) (2 * k) T) (2 * k) (U8 (hexL (l.take k))) ∧ Below w.heap.size w wr)
    (fun _ i _ => n - (intOf i).toNat)
  case atStart => exact ⟨0, by omega, rfl, rfl, hown, hb1⟩
  case round =>
    obtain ⟨k, hk, rfl, rfl, hown, hbl⟩ := hrel
    clear hb1
    by_cases hlt : k < n
    · obtain ⟨b, off, rfl, hbw, hc⟩ := ((unhide HS).later hbl).lies (by simp only; rw [unhide HL]; omega)
      have hck := hc k (by simp only; rw [unhide HL]; omega)
      have hby := (unhide HS).isB.at k
      simp only at hck hby
      clear hc
      generalize hx : l.getD k 0 = x at hck hby
      have HX := hide hx
      clear hx
      have h0 := hby.1
      have h1 := hby.2
      have i1 := index_digits (x / 16) (by omega) (by omega)
      have i2 := index_digits (x % 16) (by omega) (by omega)
      have hand := u8_and15 x h0 h1
      clear hby
      go_wp2
      go_region_law (refine step_append_fits rfl (.tmp 16) (.tmp 23) 28 rfl w.heap.size 5 i0 1 Try.underlying28 hi hz1 w.heap.size (2 * k) T (U8 (hexL (l.take k))) rfl (hown.alloc _).drew ⟨wr.heap.size, 0, none⟩ 2 2 (U8 [hexD (x / 16), hexD (x % 16)]) rfl rfl (two_new _ _ _) (U8_one _) (by have := unhide HT; omega) ?_; intro w2 hown2 hgrow2)
      all_goals
        have hb2 : Below w.heap.size w w2 := (((hbl.alloc hbl.size _).drew).grown hgrow2 (by have := hbl.size; simp; omega) (fun _ h => by cases h; exact Nat.le_refl _))
        clear hgrow2 hown hck i1 i2
        go_wp2
        go_roundw
        case rel =>
          have e : U8 (hexL (l.take (k + 1))) = U8 (hexL (l.take k)) ++ U8 [hexD (x / 16), hexD (x % 16)] := by
            rw [take_succ_getD l k (by rw [unhide HL]; omega), unhide HX, hexL_snoc]; simp [U8]
          exact ⟨k + 1, by omega, by go_num, rfl, by rw [e]; exact hown2, hb2⟩
        case measure => simp [intOf]; omega
    · have hkk : k = n := by omega
      subst hkk
      rw [List.take_of_length_le (by rw [unhide HL]; omega)] at hown
      have hcv := conv_str (Sl.Ok.of_own hown (hexL_isB l (unhide HS).isB))
      simp only [Sl.v] at hcv
      go_wp2
      go_ret
      exact ⟨rfl, hbl⟩
end Go.Proofs.Ytipmgnigejpfjaa
