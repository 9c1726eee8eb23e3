import Derived.Test.YtcdmomdajakocaaApM
set_option linter.unusedVariables false
set_option linter.unusedSimpArgs false
namespace Go.Proofs.Ytcdmomdajakocaa
open Go.RowKit

/-- one byte of a row of one's own turned -/
theorem OwB.put {w : World} {g n cap : Nat} {l : List Int} (h : OwB w (.slice (some ⟨g, 0, none⟩) n cap) l) (hn : n = l.length) (k : Nat) (x : Int) (hx : 0 ≤ x ∧ x ≤ 255) : OwB (w.setCell ⟨g, k, none⟩ (.int .u8 x)) (.slice (some ⟨g, 0, none⟩) n cap) (l.set k x) := by
  subst hn
  refine ⟨?_, ?_⟩
  · have := (h.1.stored k (.int .u8 x)).1
    rw [show (U8 l).set k (.int .u8 x) = U8 (l.set k x) by simp [U8, List.map_set]] at this
    rw [List.length_set]
    exact this
  · intro y hy
    rcases List.mem_or_eq_of_mem_set hy with hy | rfl
    · exact h.2 y hy
    · exact hx
set_option maxHeartbeats 4000000 in
set_option maxRecDepth 100000 in
theorem spoilt_any (ra : Option Addr) (rc : Nat) (l0 : List Int) (x : Int) (w : World) (h : OwB w (.slice ra l0.length rc) l0) (hx : 0 ≤ x ∧ x ≤ 255) (hl : l0.length ≤ 2097152) :
    Calls Try.prog 18 #[.slice ra l0.length rc, .int .u8 x] w fun e w' => e = .returned (.bool true) ∧ Buts (fun k => (Value.slice ra l0.length rc).ownBlock = some k) w w' := by
  obtain ⟨i0, hi, hz0, hz1, hz2⟩ := info_parts Try.infoB
  obtain ⟨n, hn⟩ : ∃ n, n = l0.length := ⟨_, rfl⟩
  rw [← hn] at h hl ⊢
  have hp : 0 < n → ∃ b, ra = some ⟨b, 0, none⟩ := fun hp => by
    rcases h.1.2 with ⟨h5, h6⟩ | ⟨b, c', cur, h5, _⟩
    · omega
    · simp only [Value.slice.injEq] at h5; exact ⟨b, h5.1⟩
  have HO := hide h
  have HNN := hide hn
  clear h hn
  go_enter Try.func18, Try.ntmps18
  go_wp2_with fail
  go_loopw [5] (fun i wr => ∃ (k : Nat) (l : List Int), k ≤ n ∧ i = .int .i64 k ∧ Hid (OwB wr (.slice ra n rc) l ∧ l.length = n) ∧ Hid (Buts (fun k => (Value.slice ra n rc).ownBlock = some k) w wr)) (fun i _ => n - (intOf i).toNat)
  case atStart => exact ⟨0, l0, by omega, rfl, hide ⟨unhide HO, (unhide HNN).symm⟩, hide (Buts.refl _ _)⟩
  case round =>
    obtain ⟨k, l, hk, rfl, HL, HB⟩ := hrel
    clear HO
    by_cases hlt : k < n
    · have hkz : (k : Int) < (n : Int) := by omega
      obtain ⟨rb, hra⟩ := hp (by omega)
      subst hra
      obtain ⟨ho, hl2⟩ := unhide HL
      have ho1 := ho.1
      rw [hl2] at ho1
      have c2 : wr.cell? ⟨rb, k, none⟩ = some (.int .u8 (l.getD k 0)) := by rw [ho1.cellAt k (by omega), U8_at _ _ (by omega)]
      have f2 := ho1.frozenAt k
      obtain ⟨xo, hxo⟩ : ∃ xo, l.getD k 0 = xo := ⟨_, rfl⟩
      rw [hxo] at c2
      have HL3 : Hid (OwB (wr.setCell ⟨rb, k, none⟩ (.int .u8 x)) (.slice (some ⟨rb, 0, none⟩) n rc) (l.set k x) ∧ (l.set k x).length = n) := hide ⟨ho.put hl2.symm k x hx, by rw [List.length_set]; exact hl2⟩
      have HB3 : Hid (Buts (fun k => (Value.slice (some ⟨rb, 0, none⟩) n rc).ownBlock = some k) w (wr.setCell ⟨rb, k, none⟩ (.int .u8 x))) := hide ((unhide HB).trans ((Buts.of_but ((But.refl rb wr).setCell k _)).mono (fun y _ e => by subst e; rfl)))
      clear ho ho1 hxo hl2 hp
      go_wp2
      go_roundw
      case rel => exact ⟨k + 1, _, by omega, by go_num, HL3, HB3⟩
      case measure => simp [intOf]; omega
    · have hkz : ¬ (k : Int) < (n : Int) := by omega
      obtain ⟨wA, hwA⟩ : ∃ wA, wA = wr := ⟨_, rfl⟩
      have HLA : Hid (OwB wA (.slice ra n rc) l ∧ l.length = n) := hide (by rw [hwA]; exact unhide HL)
      have HBA : Hid (Buts (fun k => (Value.slice ra n rc).ownBlock = some k) w wA) := hide (by rw [hwA]; exact unhide HB)
      have hbA : Below wA.heap.size wA wr := by rw [hwA]; exact Below.refl _ _
      clear HL HB hwA
      go_wp2_with fail
      go_loopw [6, 7] (fun v i wr => ∃ j : Nat, j ≤ 64 ∧ i = .int .i64 j ∧ wr.ownsRow wA.heap.size 5 1 v j (U8 (List.replicate j x)) ∧ Below wA.heap.size wA wr) (fun _ i _ => 64 - (intOf i).toNat)
      case atStart => exact ⟨0, by omega, rfl, ⟨rfl, .inl ⟨rfl, rfl⟩⟩, hbA⟩
      case round =>
        clear hbA
        obtain ⟨j, hj, rfl, hown, hbl⟩ := hrel
        by_cases hlt : j < 64
        · have hjz : (j : Int) < 64 := by omega
          go_wp2_with (at_builtin; refine wpList_append_own _ rfl _ _ 22 rfl wA.heap.size 5 i0 (.int .u8 0) 1 1 Try.underlying22 hi hz0 hz1 hz2 rfl (by decide) _ j (U8 (List.replicate j x)) rfl (hown.alloc _) ⟨_, 0, none⟩ 1 1 [.int .u8 x] rfl rfl (cell_new1 _ _ _) (one_byte _) (by unfold maxLen; omega) (by omega) (by have := hbl.size; simp; omega) ?_)
          intro v4 w4 hown4 hgrow4 _
          have hb4 := below_app hbl (Nat.le_refl _) hown hgrow4
          rw [U8_snoc2, ← List.replicate_succ'] at hown4
          clear hgrow4 hown hbl
          go_wp2
          go_roundw
          case rel => exact ⟨j + 1, by omega, by go_num, hown4, hb4⟩
          case measure => simp [intOf]; omega
        · have hjz : ¬ (j : Int) < 64 := by omega
          obtain rfl : j = 64 := by omega
          obtain ⟨tg, tc, hu24, -, -⟩ := hown.form (by omega)
          subst hu24
          have HTB : Hid (wA.heap.size ≤ tg) := hide (hown.lt tg rfl).1
          obtain ⟨T, hT⟩ : ∃ T : List Int, T = List.replicate 64 x := ⟨_, rfl⟩
          have HTo : Hid (Sl.Ok wr ⟨some ⟨tg, 0, none⟩, 64, tc, T⟩) := hide (by rw [hT]; exact Sl.Ok.of_own hown (fun y hy => by have := List.eq_of_mem_replicate hy; omega))
          have HT64 : Hid (T.length = 64) := hide (by rw [hT]; rfl)
          obtain ⟨hoA, hlA⟩ := unhide HLA
          have HOr : Hid (OwB wr (.slice ra n rc) l) := hide (hoA.later hbl)
          have HRL : Hid (∀ k, (Value.slice ra n rc).ownBlock = some k → k < wA.heap.size) := hide hoA.lt
          have HBr : Hid (Buts (fun k => (Value.slice ra n rc).ownBlock = some k) w wr) := hide ((unhide HBA).trans (Buts.of_below hbl))
          have HLn := hide hlA
          clear hown hbl hT hoA hlA HLA HBA
          go_wp2_with (first
            | (at_builtin; refine wpList_append_kept rfl _ _ rfl (.slice ra n rc) l rfl (unhide HOr) tg 64 tc T rfl (unhide HTo) (by rw [unhide HLn]; omega) ?_; intro v' wB oB bB kB; have oB1 := (unhide oB).1; rw [List.length_append, unhide HLn, unhide HT64] at oB1; obtain ⟨xB, yB, hvB⟩ := own_parts oB1; subst hvB; have hTB := hide ((unhide bB).ok (unhide HTo) (fun _ z9 hz9 e => by simp only [Option.some.injEq] at hz9; subst hz9; have := unhide HRL _ e; have := unhide HTB; simp only at *; omega)); have hokB : Sl.Ok wB ⟨xB, n + 64, yB, l ++ T⟩ := (by obtain ⟨s9, h1, h2, h3, h4, -⟩ := (unhide oB).sl; obtain ⟨sa9, sn9, sc9, sl9⟩ := s9; simp only [Sl.v, Value.slice.injEq] at h1 h3 h4; obtain ⟨e1, e2, e3⟩ := h1; subst e1 e3 h3; subst e2; exact h2); have hleB : n + 64 ≤ yB := hokB.le; have hmxB : yB ≤ 9223372036854775807 := (by have := hokB.mx; unfold maxLen at this; exact this); have hfr := hokB.from' n (by omega); obtain ⟨yy, hyy⟩ : ∃ yy, (if yB = n then xB else xB.map (·.add n)) = yy := ⟨_, rfl⟩; rw [hyy, show n + 64 - n = 64 by omega, show (l ++ T).drop n = T by rw [← unhide HLn]; exact List.drop_left] at hfr; have hS := same_t ⟨yy, 64, yB - n, T⟩ ⟨some ⟨tg, 0, none⟩, 64, tc, T⟩ wB hfr (unhide hTB) (by simp only; omega) rfl; clear hfr hokB oB1)
            | (go_at_call 12; refine hS.mono ?_; rintro e w' ⟨rfl, kS, hkS⟩; subst w'; clear hS))
          go_ret
          have hb := (unhide HBr).trans (unhide bB)
          exact ⟨rfl, ⟨hb.os, hb.tape, hb.output, hb.size, hb.block⟩⟩
end Go.Proofs.Ytcdmomdajakocaa
