import Derived.Test.YtgnignloababhaaDoorGrM
namespace Go.Proofs.YtgnignloababhaaDoor
open Go.RowKit

def marks : List Int := List.replicate 80 165
theorem marks_length : marks.length = 80 := by simp [marks]
theorem marks_isB : IsB marks := fun x hx => by have := List.eq_of_mem_replicate hx; omega

set_option maxHeartbeats 2000000 in
set_option maxRecDepth 100000 in
theorem marked_any (d : Sl) (w : World) (hd : d.Ok w) (hdn : d.n ≤ 140737488355248) :
    Calls Tryd.prog 7 #[d.v] w fun e w' => ∃ g c, e = .returned (.slice (some ⟨g, 0, none⟩) d.n c) ∧ w'.ownsRow w.heap.size 5 1 (.slice (some ⟨g, 0, none⟩) (d.n + 80) c) (d.n + 80) (U8 (d.l ++ marks)) ∧ Below w.heap.size w w' := by
  obtain ⟨i0, hi, hz0, hz1, hz2⟩ := info_parts Tryd.infoB
  have hzc : (Value.int .u8 0).cells.size = 1 := rfl
  obtain ⟨da, dn, dc, l⟩ := d
  have hdn' : dn ≤ 140737488355248 := hdn
  have HD := hide hd
  clear hd hdn
  simp only [Sl.v]
  go_enter Tryd.func7, Tryd.ntmps7
  go_wp2_with (at_builtin
               refine wpList_append_sl rfl (.tmp 5) (.tmp 6) 25 rfl w.heap.size 5 i0 (.int .u8 0) Tryd.underlying25 hi hz0 hz1 hz2 hzc (.slice none 0 0) 0 [] rfl (World.ownsRow_nil _ _ _ _) ⟨da, dn, dc, l⟩ (unhide HD) rfl (by show 0 + dn ≤ _; omega) (Nat.le_refl _) ?_
               intro v1 w1 own1 gr1
               have hb1 : Below w.heap.size w w1 := below_grown (Below.refl _ _) (Nat.le_refl _) (World.ownsRow_nil _ _ 5 _) (unhide gr1)
               clear gr1)
  have ho := unhide own1
  rw [List.nil_append, show 0 + dn = dn by omega] at ho
  clear own1
  go_loopw [3, 4] (fun v i wr => ∃ k : Nat, k ≤ 80 ∧ i = .int .i64 k ∧ wr.ownsRow w.heap.size 5 1 v (dn + k) (U8 (l ++ List.replicate k 165)) ∧ Below w.heap.size w wr) (fun _ i _ => 80 - (intOf i).toNat)
  case atStart => exact ⟨0, by omega, rfl, by simpa using ho, hb1⟩
  case round =>
    clear ho hb1
    obtain ⟨k, hk, rfl, hown, hbl⟩ := hrel
    by_cases hlt : k < 80
    · go_wp2_with (at_builtin; refine wpList_append_own _ rfl _ _ 25 rfl w.heap.size 5 i0 (.int .u8 0) 1 1 Tryd.underlying25 hi hz0 hz1 hz2 rfl (by decide) _ (dn + k) (U8 (l ++ List.replicate k 165)) rfl (hown.alloc _) ⟨wr.heap.size, 0, none⟩ 1 1 [.int .u8 165] rfl rfl (cell_one_new _ _ _) (one_byte _) (by unfold maxLen; omega) (by omega) (by have := hbl.size; simp; omega) ?_)
      intro v2 w2 hown2 hgrow2 _
      have hb2 := below_app hbl (Nat.le_refl _) hown hgrow2
      rw [U8_snoc2, List.append_assoc, ← List.replicate_succ'] at hown2
      clear hgrow2 hown hbl
      go_wp2
      go_roundw
      case rel => exact ⟨k + 1, by omega, by go_num, hown2, hb2⟩
      case measure => simp [intOf]; omega
    · have hk8 : k = 80 := by omega
      have hown' : wr.ownsRow w.heap.size 5 1 u3 (dn + 80) (U8 (l ++ marks)) := by rw [hk8] at hown; exact hown
      rcases hown'.2 with ⟨-, h0⟩ | ⟨g, c, cur, hv, h1, h2, h3, h4, h5⟩
      · omega
      · subst hv
        have hcz : (dn : Int) ≤ (c : Int) := by omega
        have hc0 : ¬ c = 0 := by omega
        have hd0 : (0 : Int) ≤ (dn : Int) := by omega
        clear hk8 hown h1 h2 h5
        go_wp2
        go_ret
        exact ⟨g, c, rfl, hown', hbl⟩

theorem own_lies {w : World} {base g n c k : Nat} {l : List Int} (h : w.ownsRow base 5 1 (.slice (some ⟨g, 0, none⟩) n c) n (U8 l)) : Lies w (some ⟨g, 0, none⟩) (l.take k) := lies_take (Lies.of_own h) k

set_option maxHeartbeats 2000000 in
set_option maxRecDepth 100000 in
theorem left_any (g c base : Nat) (d : Sl) (w : World) (hd : d.Ok w) (hdn : d.n ≤ 140737488355248)
    (hown : w.ownsRow base 5 1 (.slice (some ⟨g, 0, none⟩) (d.n + 80) c) (d.n + 80) (U8 (d.l ++ marks))) :
    Calls Tryd.prog 9 #[.slice (some ⟨g, 0, none⟩) d.n c, d.v] w fun e w' => e = .returned (.bool true) ∧ ∃ k, w' = w.drewN k := by
  obtain ⟨da, dn, dc, l⟩ := d
  have hdn' : dn ≤ 140737488355248 := hdn
  have hdl : l.length = dn := hd.len
  have hc80 : dn + 80 ≤ c ∧ c ≤ maxLen := by
    rcases hown.2 with ⟨hv, -⟩ | ⟨g', cap, cur, hv, -, -, h3, h4, -⟩
    · simp at hv
    · simp only [Value.slice.injEq] at hv; obtain ⟨-, -, rfl⟩ := hv; exact ⟨h3, h4⟩
  obtain ⟨hc1, hc2⟩ := hc80
  unfold maxLen at hc2
  have cellL : ∀ i, i < dn → w.cell? ⟨g, i, none⟩ = some (.int .u8 (l.getD i 0)) := fun i hi => by
    have := (hown.cellAt i (by show i < (dn + 80) * 1; omega)).trans (U8_at _ i (by rw [List.length_append, show l.length = dn from hdl, marks_length]; omega))
    rw [this]
    simp only [List.getD_eq_getElem?_getD]
    rw [List.getElem?_append_left (by omega)]
  have cellM : ∀ i, dn ≤ i → i < dn + 80 → w.cell? ⟨g, i, none⟩ = some (.int .u8 165) := fun i h1 h2 => by
    have := (hown.cellAt i (by show i < (dn + 80) * 1; omega)).trans (U8_at _ i (by rw [List.length_append, show l.length = dn from hdl, marks_length]; omega))
    rw [this]
    simp only [List.getD_eq_getElem?_getD]
    rw [List.getElem?_append_right (by omega)]
    simp only [marks, List.getElem?_replicate]
    rw [if_pos (by omega)]; rfl
  have CL := hide cellL
  have CM := hide cellM
  have HD := hide hd
  clear hown cellL cellM hdl hd hdn
  have hcz : (dn : Int) + 80 ≤ (c : Int) := by omega
  have hc0 : ¬ c = 0 := by omega
  simp only [Sl.v]
  go_enter Tryd.func9, Tryd.ntmps9
  go_wp2_with fail
  go_loopw [6] (fun i wr => ∃ k : Nat, k ≤ dn ∧ i = .int .i64 k ∧ ∃ m, wr = w.drewN m) (fun i _ => dn - (intOf i).toNat)
  case atStart => exact ⟨0, by omega, rfl, 0, rfl⟩
  case round =>
    obtain ⟨k, hk, rfl, m, hwr0⟩ := hrel
    have hwr := hide hwr0
    clear hwr0
    by_cases hlt : k < dn
    · obtain ⟨db, dof, hda, -, hdc⟩ := (unhide HD).lies (by show 0 < l.length; have : l.length = dn := (unhide HD).len; omega)
      have hda' : da = some ⟨db, dof, none⟩ := hda
      subst hda'
      have cb : wr.cell? ⟨db, dof + k, none⟩ = some (.int .u8 (l.getD k 0)) := by rw [unhide hwr]; exact hdc k (by show k < l.length; have : l.length = dn := (unhide HD).len; omega)
      have cl : wr.cell? ⟨g, k, none⟩ = some (.int .u8 (l.getD k 0)) := by rw [unhide hwr]; exact unhide CL k hlt
      generalize l.getD k 0 = x at cb cl
      have hkz : (k : Int) < (dn : Int) := by omega
      have hkz2 : (k : Int) < (dn : Int) + 80 := by omega
      clear hda hdc
      go_wp2_with fail
      go_quiet (fail)
      go_wp2
      go_roundw
      case rel => exact ⟨k + 1, by omega, by go_num, _, by rw [unhide hwr]; exact World.drewN_drewN _ _ _⟩
      case measure => simp [intOf]; omega
    · have hkd : decide ((k : Int) < (dn : Int)) = false := by simp; omega
      go_wp2_with fail
      go_loopw [7] (fun i wr => ∃ q : Nat, dn ≤ q ∧ q ≤ dn + 80 ∧ i = .int .i64 q ∧ ∃ m, wr = w.drewN m) (fun i _ => dn + 80 - (intOf i).toNat)
      case atStart => exact ⟨dn, by omega, by omega, rfl, m, unhide hwr⟩
      case round =>
        clear hwr
        obtain ⟨q, hq1, hq2, rfl, m2, hwr0⟩ := hrel
        have hwr := hide hwr0
        clear hwr0
        by_cases hql : q < dn + 80
        · have cl : wr.cell? ⟨g, q, none⟩ = some (.int .u8 165) := by rw [unhide hwr]; exact unhide CM q hq1 hql
          have hqz : (q : Int) < (dn : Int) + 80 := by omega
          go_wp2
          go_roundw
          case rel => exact ⟨q + 1, by omega, by omega, by go_num, m2, unhide hwr⟩
          case measure => simp [intOf]; omega
        · have hqd : decide ((q : Int) < (dn : Int) + 80) = false := by simp; omega
          go_wp2
          go_ret
          exact ⟨rfl, m2, unhide hwr⟩
end Go.Proofs.YtgnignloababhaaDoor
