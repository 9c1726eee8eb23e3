import Derived.Test.YtbjbfggbdolpcabDoorRefA5
namespace Go.Proofs.YtbjbfggbdolpcabDoor.S5
open Go.RowKit

theorem Tryd.infoW : (Tryd.prog.info? 31).map (fun i => (i.zero, i.size, i.bytes)) = some (some (.int .u64 0), 1, 8) := by kernel_rfl
theorem info_partsW {P : Program} {t : TypeId} {z : Value} {s b : Nat} (h : (P.info? t).map (fun i => (i.zero, i.size, i.bytes)) = some (some z, s, b)) : ∃ i, P.info? t = some i ∧ i.zero = some z ∧ i.size = s ∧ i.bytes = b := by
  cases hq : P.info? t with
  | none => simp [hq] at h
  | some i => simp [hq] at h; exact ⟨i, rfl, h.1, h.2.1, h.2.2⟩
theorem one_word (x : Int) : ∀ u ∈ [Value.int .u64 x], u.oneCell' = true := by intro u hu; simp at hu; subst hu; rfl
theorem U64_snoc2 (l : List Int) (x : Int) : U64 l ++ [.int .u64 x] = U64 (l ++ [x]) := by simp [U64]

set_option maxHeartbeats 2000000 in
set_option maxRecDepth 10000 in
theorem words_any (b off cap : Nat) (B : List Int) (w : World) (hl : B.length = 128) (hB : IsB B) (hlies : Lies w (some ⟨b, off, none⟩) B) (hc : 128 ≤ cap) :
    Calls Tryd.prog 30 #[.slice (some ⟨b, off, none⟩) 128 cap] w fun e w' => ∃ v, e = .returned v ∧ w'.ownsRow w.heap.size 31 1 v 80 (U64 (sched B 80)) ∧ Below w.heap.size w w' := by
  obtain ⟨i0, hi, hz0, hz1, hz2⟩ := info_partsW Tryd.infoW
  have HL := hide hl
  have HLI := hide hlies
  clear hl hlies
  go_enter Tryd.func30, Tryd.ntmps30
  go_wp2_with fail
  go_loopw [3, 4] (fun v i wr => ∃ k : Nat, k ≤ 16 ∧ i = .int .i64 k ∧ wr.ownsRow w.heap.size 31 1 v k (U64 (sched B k)) ∧ Below w.heap.size w wr) (fun _ i _ => 16 - (intOf i).toNat)
  case atStart => exact ⟨0, by omega, rfl, World.ownsRow_nil _ _ _ _, Below.refl _ _⟩
  case round =>
    obtain ⟨k, hk, rfl, hown, hbl⟩ := hrel
    by_cases hlt : k < 16
    · have hp : ((B.drop (8 * k)).take 8).length = 8 := by have := unhide HL; simp; omega
      have hpB : IsB ((B.drop (8 * k)).take 8) := (hB.drop _).take _
      have hpl := ((unhide HLI).later hbl).sub (8 * k) 8 (by rw [unhide HL]; omega)
      have hkz : (k : Int) < 16 := by omega
      have hne : ¬ cap = 8 * k := by omega
      go_wp2_with fail
      refine (refWord_any b (off + 8 * k) (cap - 8 * k) _ wr hp hpB hpl).mono ?_
      rintro e w' ⟨rfl, rfl⟩
      obtain ⟨X, hX⟩ : ∃ X, X = leV ((B.drop (8 * k)).take 8).reverse := ⟨_, rfl⟩
      rw [← hX]
      have HX : Hid (sched B (k + 1) = sched B k ++ [X]) := by show _ = _; rw [sched, if_pos hlt, hX]; rfl
      clear hX hp hpB hpl
      go_wp2_with (at_builtin; refine wpList_append_own _ rfl _ _ 58 rfl w.heap.size 31 i0 (.int .u64 0) 1 8 Tryd.underlying58 hi hz0 hz1 hz2 rfl (by decide) _ k (U64 (sched B k)) rfl (hown.alloc _) ⟨w'.heap.size, 0, none⟩ 1 1 [.int .u64 X] rfl rfl (cell_one_new _ _ _) (one_word _) (by unfold maxLen; omega) (by omega) (by have := hbl.size; simp; omega) ?_)
      intro v1 w1 hown1 hgrow1 _
      have hb1 := below_app hbl (Nat.le_refl _) hown hgrow1
      rw [U64_snoc2, ← unhide HX] at hown1
      clear hgrow1 hown hbl
      go_wp2
      go_roundw
      case rel => exact ⟨k + 1, by omega, by go_num, hown1, hb1⟩
      case measure => simp [intOf]; omega
    · have hk16 : k = 16 := by omega
      have hown16 := hown
      rw [hk16] at hown16
      have HO16 := hide hown16
      clear hown hown16 hk16
      go_wp2_with fail
      have hown := unhide HO16
      clear hk hlt HO16
      generalize hk0 : (k : Int) = k0
      clear hk0
      go_loopw [3, 5] (fun v i wr => ∃ t : Nat, 16 ≤ t ∧ t ≤ 80 ∧ i = .int .i64 t ∧ wr.ownsRow w.heap.size 31 1 v t (U64 (sched B t)) ∧ Below w.heap.size w wr) (fun _ i _ => 80 - (intOf i).toNat)
      case atStart => exact ⟨16, by omega, by omega, rfl, hown, hbl⟩
      case round =>
        clear hown hbl
        obtain ⟨t, ht0, ht, rfl, hown, hbl⟩ := hrel
        obtain ⟨g, cp, rfl, hgb, hgl⟩ := hown.form (by omega)
        by_cases hlt : t < 80
        · have hl : (sched B t).length = t := sched_length B t
          have hcell : ∀ j, j < t → wr.cell? ⟨g, j, none⟩ = some (.int .u64 ((sched B t).getD j 0)) := fun j hj => by rw [hown.cellAt j (by omega), U64_at _ j (by rw [hl]; exact hj)]
          have c2 := hcell (t - 2) (by omega)
          have c7 := hcell (t - 7) (by omega)
          have c15 := hcell (t - 15) (by omega)
          have c16 := hcell (t - 16) (by omega)
          have hW := sched_isW B t hB
          have b2 := hW.at (t - 2)
          have b15 := hW.at (t - 15)
          have HR : Hid (sched B (t + 1) = sched B t ++ [ad (ad (ad (s1Z ((sched B t).getD (t - 2) 0)) ((sched B t).getD (t - 7) 0)) (s0Z ((sched B t).getD (t - 15) 0))) ((sched B t).getD (t - 16) 0)]) := by
            show _ = _; rw [sched, if_neg (by omega)]; unfold nextW; rw [hl]
          have hx : ∀ j, j < t → (U64 (sched B t))[j]? = some (.int .u64 ((sched B t).getD j 0)) := fun j hj => U64_at _ j (by rw [hl]; exact hj)
          have y2 := hx (t - 2) (by omega)
          have y7 := hx (t - 7) (by omega)
          have y15 := hx (t - 15) (by omega)
          have y16 := hx (t - 16) (by omega)
          generalize (sched B t).getD (t - 2) 0 = x2 at c2 b2 HR y2
          generalize (sched B t).getD (t - 7) 0 = x7 at c7 HR y7
          generalize (sched B t).getD (t - 15) 0 = x15 at c15 b15 HR y15
          generalize (sched B t).getD (t - 16) 0 = x16 at c16 HR y16
          obtain ⟨m2, hm2, hn2⟩ : ∃ m, t - 2 = m ∧ (t : Int) - 2 = (m : Int) := ⟨t - 2, rfl, by omega⟩
          obtain ⟨m7, hm7, hn7⟩ : ∃ m, t - 7 = m ∧ (t : Int) - 7 = (m : Int) := ⟨t - 7, rfl, by omega⟩
          obtain ⟨m15, hm15, hn15⟩ : ∃ m, t - 15 = m ∧ (t : Int) - 15 = (m : Int) := ⟨t - 15, rfl, by omega⟩
          obtain ⟨m16, hm16, hn16⟩ : ∃ m, t - 16 = m ∧ (t : Int) - 16 = (m : Int) := ⟨t - 16, rfl, by omega⟩
          rw [hm2] at c2 y2
          rw [hm7] at c7 y7
          rw [hm15] at c15 y15
          rw [hm16] at c16 y16
          have d2 : (m2 : Int) < (t : Int) := by omega
          have p2 : (0 : Int) ≤ (m2 : Int) := by omega
          have w2 : IntKind.i64.wrap ((t : Int) - 2) = (m2 : Int) := by rw [IntKind.wrap_i64]; omega
          have d7 : (m7 : Int) < (t : Int) := by omega
          have p7 : (0 : Int) ≤ (m7 : Int) := by omega
          have w7 : IntKind.i64.wrap ((t : Int) - 7) = (m7 : Int) := by rw [IntKind.wrap_i64]; omega
          have d15 : (m15 : Int) < (t : Int) := by omega
          have p15 : (0 : Int) ≤ (m15 : Int) := by omega
          have w15 : IntKind.i64.wrap ((t : Int) - 15) = (m15 : Int) := by rw [IntKind.wrap_i64]; omega
          have d16 : (m16 : Int) < (t : Int) := by omega
          have p16 : (0 : Int) ≤ (m16 : Int) := by omega
          have w16 : IntKind.i64.wrap ((t : Int) - 16) = (m16 : Int) := by rw [IntKind.wrap_i64]; omega
          obtain ⟨b20, b21⟩ := b2
          obtain ⟨b150, b151⟩ := b15
          have B21 := hide b21
          have B151 := hide b151
          have l2 : m2 < t := by omega
          have l7 : m7 < t := by omega
          have l15 : m15 < t := by omega
          have l16 : m16 < t := by omega
          have HOWN := hide hown
          have HX2 := hide y2
          have HX7 := hide y7
          have HX15 := hide y15
          have HX16 := hide y16
          clear hn2 hn7 hn15 hn16 hm2 hm7 hm15 hm16 hW hcell hx hl b21 b151 hown y2 y7 y15 y16
          go_wp2_with fail
          go_region_held3 (fun w' => w'.cell? ⟨g, m2, none⟩ = some (.int .u64 x2) ∧ w'.cell? ⟨g, m7, none⟩ = some (.int .u64 x7) ∧ w'.cell? ⟨g, m15, none⟩ = some (.int .u64 x15) ∧ w'.cell? ⟨g, m16, none⟩ = some (.int .u64 x16))
            (first | exact ⟨(hkeep9 m2 l2).trans (unhide HX2), (hkeep9 m7 l7).trans (unhide HX7), (hkeep9 m15 l15).trans (unhide HX15), (hkeep9 m16 l16).trans (unhide HX16)⟩ | go_keep)
            (first
              | (go_at_call 38; refine (refs1_any x2 _ b20 (unhide B21)).mono ?_; rintro e w' ⟨rfl, rfl⟩)
              | (go_at_call 39; refine (refs0_any x15 _ b150 (unhide B151)).mono ?_; rintro e w' ⟨rfl, rfl⟩)
              | (refine step_append_keep rfl (.tmp 25) (.tmp 51) 58 rfl w.heap.size 31 i0 (.int .u64 0) 8 Tryd.underlying58 hi hz0 hz1 hz2 rfl g t cp (U64 (sched B t)) rfl ((unhide HOWN).alloc _).drew ⟨wr.heap.size, 0, none⟩ 1 1 [.int .u64 _] rfl rfl (cell_one_new _ _ _) (one_word _) (by omega) (by unfold maxLen; omega) (by omega) (by have := hbl.size; simp; omega) ?_
                 intro g9 cp9 w9 hown9 hgr9 hkeep9))
          have hb9 : Below w.heap.size w w9 := ((hbl.alloc hbl.size _).drew).grown hgr9 (by have := hbl.size; simp; omega) (fun _ h => by cases h; exact hgb)
          have hX : IntKind.u64.wrap (IntKind.u64.wrap (IntKind.u64.wrap (s1Z x2 + x7) + s0Z x15) + x16) = ad (ad (ad (s1Z x2) x7) (s0Z x15)) x16 := by simp only [IntKind.wrap_u64, ad]
          rw [U64_snoc2, hX, ← unhide HR] at hown9
          clear hgr9 hkeep9 hX
          go_wp2
          go_roundw
          case rel => exact ⟨t + 1, by omega, by omega, by go_num, hown9, hb9⟩
          case measure => simp [intOf]; omega
        · have ht80 : t = 80 := by omega
          subst ht80
          go_wp2
          go_ret
          exact ⟨_, rfl, hown, hbl⟩
end Go.Proofs.YtbjbfggbdolpcabDoor.S5
