import Derived.Test.YtbjbfggbdolpcabDoorAppG
namespace Go.Proofs.YtbjbfggbdolpcabDoor.S5
open Go.RowKit

def marks : List Int := List.replicate 64 201
theorem marks_length : marks.length = 64 := by simp [marks]
theorem marks_isB : IsB marks := fun x hx => by have := List.eq_of_mem_replicate hx; omega

set_option maxHeartbeats 2000000 in
set_option maxRecDepth 10000 in
theorem roomy_any (d : Sl) (w : World) (hd : d.Ok w) (hdn : d.n ≤ 200000) :
    Calls Tryd.prog 13 #[d.v] w fun e w' => ∃ g c, e = .returned (.slice (some ⟨g, 0, none⟩) (d.n + 64) c) ∧ w'.ownsRow w.heap.size 5 1 (.slice (some ⟨g, 0, none⟩) (d.n + 64) c) (d.n + 64) (U8 (d.l ++ marks)) ∧ Below w.heap.size w w' := by
  obtain ⟨i0, hi, hz0, hz1, hz2⟩ := info_parts Tryd.infoB
  obtain ⟨da, dn, dc, l⟩ := d
  have hdn' : dn ≤ 200000 := hdn
  have hdl : l.length = dn := hd.len
  have HD := hide hd
  have HDL := hide hdl
  clear hd hdn hdl
  simp only [Sl.v]
  go_enter Tryd.func13, Tryd.ntmps13
  go_wp2_with fail
  go_loopw [3, 4] (fun v i wr => ∃ k : Nat, k ≤ dn ∧ i = .int .i64 k ∧ wr.ownsRow w.heap.size 5 1 v k (U8 (l.take k)) ∧ Below w.heap.size w wr) (fun _ i _ => dn - (intOf i).toNat)
  case atStart => exact ⟨0, by omega, rfl, World.ownsRow_nil _ _ _ _, Below.refl _ _⟩
  case round =>
    obtain ⟨k, hk, rfl, hown, hbl⟩ := hrel
    by_cases hlt : k < dn
    · obtain ⟨ab, ao, haa, hal, hac⟩ := (unhide HD).lies (by show 0 < l.length; rw [unhide HDL]; omega)
      have haa' : da = some ⟨ab, ao, none⟩ := haa
      subst haa'
      have ca := (hbl.cell (p := ⟨ab, ao + k, none⟩) hal).trans (hac k (by show k < l.length; rw [unhide HDL]; exact hlt))
      have ca' : wr.cell? ⟨ab, ao + k, none⟩ = some (.int .u8 (l.getD k 0)) := ca
      have htk := take_snoc l k (by rw [unhide HDL]; exact hlt)
      generalize l.getD k 0 = x at ca' htk
      have HTK := hide htk
      have hkz : (k : Int) < (dn : Int) := by omega
      clear ca haa hac htk hal
      go_wp2_with (at_builtin; refine wpList_append_own _ rfl _ _ 23 rfl w.heap.size 5 i0 (.int .u8 0) 1 1 Tryd.underlying23 hi hz0 hz1 hz2 rfl (by decide) _ k (U8 (l.take k)) rfl (hown.alloc _) ⟨wr.heap.size, 0, none⟩ 1 1 [.int .u8 x] rfl rfl (cell_one_new _ _ _) (one_byte _) (by unfold maxLen; omega) (by omega) (by have := hbl.size; simp; omega) ?_)
      intro v1 w1 hown1 hgrow1 _
      have hb1 := below_app hbl (Nat.le_refl _) hown hgrow1
      rw [U8_snoc2, ← unhide HTK] at hown1
      clear hgrow1 hown hbl
      go_wp2
      go_roundw
      case rel => exact ⟨k + 1, by omega, by go_num, hown1, hb1⟩
      case measure => simp [intOf]; omega
    · have hkn : k = dn := by omega
      have hown' : wr.ownsRow w.heap.size 5 1 u3 dn (U8 l) := by
        rw [hkn, List.take_of_length_le (by rw [unhide HDL]; omega)] at hown; exact hown
      have hkd : decide ((k : Int) < (dn : Int)) = false := by simp; omega
      clear hown
      go_wp2_with fail
      clear hk hlt hkn hkd
      generalize hk0 : (k : Int) = k0
      clear hk0
      go_loopw [3, 5] (fun v i wr => ∃ k : Nat, k ≤ 64 ∧ i = .int .i64 k ∧ wr.ownsRow w.heap.size 5 1 v (dn + k) (U8 (l ++ List.replicate k 201)) ∧ Below w.heap.size w wr) (fun _ i _ => 64 - (intOf i).toNat)
      case atStart => exact ⟨0, by omega, rfl, by simpa using hown', hbl⟩
      case round =>
        clear hown' hbl
        obtain ⟨k, hk, rfl, hown, hbl⟩ := hrel
        by_cases hlt : k < 64
        · go_wp2_with (at_builtin; refine wpList_append_own _ rfl _ _ 23 rfl w.heap.size 5 i0 (.int .u8 0) 1 1 Tryd.underlying23 hi hz0 hz1 hz2 rfl (by decide) _ (dn + k) (U8 (l ++ List.replicate k 201)) rfl (hown.alloc _) ⟨wr.heap.size, 0, none⟩ 1 1 [.int .u8 201] rfl rfl (cell_one_new _ _ _) (one_byte _) (by unfold maxLen; omega) (by omega) (by have := hbl.size; simp; omega) ?_)
          intro v2 w2 hown2 hgrow2 _
          have hb2 := below_app hbl (Nat.le_refl _) hown hgrow2
          rw [U8_snoc2, List.append_assoc, ← List.replicate_succ'] at hown2
          clear hgrow2 hown hbl
          go_wp2
          go_roundw
          case rel => exact ⟨k + 1, by omega, by go_num, hown2, hb2⟩
          case measure => simp [intOf]; omega
        · have hk8 : k = 64 := by omega
          subst hk8
          obtain ⟨g, c, rfl, -, -⟩ := hown.form (by omega)
          go_wp2
          go_ret
          exact ⟨g, c, rfl, hown, hbl⟩
end Go.Proofs.YtbjbfggbdolpcabDoor.S5
