import Derived.Test.YtipmgnigejpfjaaRefXor2X
namespace Go.Proofs.Ytipmgnigejpfjaa
open Go.RowKit

set_option maxHeartbeats 2000000 in
set_option maxRecDepth 100000 in
theorem refjoin_any (pa : Option Addr) (pc : Nat) (ps : List Sl) (w : World) (hv : LiesV w pa (ps.map Sl.v)) (hok : ∀ s ∈ ps, s.Ok w)
    (hn : ps.length ≤ 1099511627776) (htot : (cat ps).length ≤ 1099511627776) :
    Calls Try.prog 46 #[.slice pa ps.length pc] w fun e w' => ∃ v, e = .returned v ∧
      w'.ownsRow w.heap.size 5 1 v (cat ps).length (U8 (cat ps)) ∧ Below w.heap.size w w' := by
  obtain ⟨i0, hi, hz0, hz1, hz2⟩ := info_parts Try.infoB
  have HV := hide hv
  have HOK := hide hok
  clear hv hok
  go_enter Try.func46, Try.ntmps46
  go_wp2
  go_loopw [3, 4] (fun b i wr => ∃ k : Nat, k ≤ ps.length ∧ i = .int .i64 k ∧ wr.ownsRow w.heap.size 5 1 b (cat (ps.take k)).length (U8 (cat (ps.take k))) ∧ Below w.heap.size w wr)
    (fun _ i _ => ps.length - (intOf i).toNat)
  case atStart => exact ⟨0, by omega, rfl, World.ownsRow_nil _ _ _ _, Below.refl _ _⟩
  case round =>
    obtain ⟨k, hk, rfl, hown, hbl⟩ := hrel
    by_cases hlt : k < ps.length
    · obtain ⟨s, hs⟩ : ∃ s, ps[k]? = some s := ⟨_, List.getElem?_eq_getElem hlt⟩
      have hso := unhide HOK s (List.mem_of_getElem? hs)
      obtain ⟨b, off, rfl, hbw, hc⟩ := unhide HV (by simp; omega)
      have hck := hc k s.v (by simp [hs])
      have hlen := hso.len
      have hcs := cat_take_succ ps k s hs
      have hle2 := cat_take_le ps (k + 1)
      rw [hcs, List.length_append] at hle2
      have HC := hide hcs
      have HSO := hide hso
      have hsn : (cat (ps.take k)).length + s.n ≤ 1099511627776 := by omega
      have HL := hide hlen
      obtain ⟨sa, sn, sc, sl⟩ := s
      simp only [Sl.v] at hck hsn
      have HCK := hide hck
      clear hc hs hso hlen hcs hle2 hck
      generalize hq : cat (ps.take k) = L at HC hown hsn ⊢
      have HQ := hide hq
      clear hq
      obtain ⟨wo, hwo⟩ : ∃ wo : World, wo = wr := ⟨_, rfl⟩
      subst hwo
      go_wp2
      go_loopw [3, 5] (fun b j wr => ∃ m : Nat, m ≤ sn ∧ j = .int .i64 m ∧ wr.ownsRow w.heap.size 5 1 b (L.length + m) (U8 (L ++ sl.take m)) ∧ Below w.heap.size w wr)
        (fun _ j _ => sn - (intOf j).toNat)
      case atStart => exact ⟨0, by omega, rfl, by simpa using hown, hbl⟩
      case round =>
        obtain ⟨m, hm, rfl, hown', hbl'⟩ := hrel
        clear hown hbl
        have hck := (hbl'.cell (p := ⟨b, off + k, none⟩) hbw).trans (unhide HCK)
        by_cases hml : m < sn
        · obtain ⟨xb, xo, rfl, hxb, hxc⟩ := ((unhide HSO).later hbl').lies (by have : sl.length = sn := unhide HL; simp only; omega)
          have hcx := hxc m (by have : sl.length = sn := unhide HL; simp only; omega)
          simp only at hcx
          have hsn' : Hid (U8 (L ++ sl.take (m + 1)) = U8 (L ++ sl.take m) ++ [.int .u8 (sl.getD m 0)]) := hide (by
            rw [take_succ_getD sl m (by have : sl.length = sn := unhide HL; omega), ← List.append_assoc, U8_snoc])
          have hmn : (m : Int) < (sn : Int) := by omega
          have hkn : (k : Int) < (ps.length : Int) := by omega
          clear hxc
          generalize sl.getD m 0 = x at hcx hsn'
          go_wp2_with (at_builtin; refine wpList_append_own _ rfl _ _ 28 rfl w.heap.size 5 i0 (.int .u8 0) 1 1 Try.underlying28 hi hz0 hz1 hz2 rfl (by decide) _ (L.length + m) (U8 (L ++ sl.take m)) rfl (hown'.alloc _) ⟨wr.heap.size, 0, none⟩ 1 1 [.int .u8 x] rfl rfl (cell_one_new _ _ _) (one_byte _) (by unfold maxLen; omega) (by omega) (by have := hbl'.size; simp; omega) ?_)
          intro v1 w1 hown1 hgrow1 _
          have hb1 := below_app hbl' (Nat.le_refl _) hown' hgrow1
          clear hgrow1 hown' hbl' hck hcx
          go_wp2
          go_roundw
          case rel => exact ⟨m + 1, by omega, by go_num, by rw [unhide hsn']; exact hown1, hb1⟩
          case measure => simp [intOf]; omega
        · have hmm : m = sn := by omega
          subst hmm
          have hl : sl.length = m := unhide HL
          rw [List.take_of_length_le (by omega)] at hown'
          have hkn : (k : Int) < (ps.length : Int) := by omega
          have hfin : Hid (cat (ps.take (k + 1)) = L ++ sl) := HC
          clear hl
          go_wp2
          go_roundw
          case rel => exact ⟨k + 1, by omega, by go_num, by rw [unhide hfin, List.length_append, show sl.length = m from unhide HL]; exact hown', hbl'⟩
          case measure => simp [intOf]; omega
    · have hkk : k = ps.length := by omega
      subst hkk
      rw [List.take_length] at hown
      go_wp2
      go_ret
      exact ⟨_, rfl, hown, hbl⟩
end Go.Proofs.Ytipmgnigejpfjaa
