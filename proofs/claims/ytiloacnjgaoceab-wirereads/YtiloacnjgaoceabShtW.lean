import Derived.Test.YtiloacnjgaoceabInM
namespace Go.Proofs.Ytiloacnjgaoceab
open Go.RowKit

theorem getD_drop (l : List Int) (t k : Nat) : (l.drop t).getD k 0 = l.getD (t + k) 0 := by
  simp [List.getD_eq_getElem?_getD, List.getElem?_drop]
theorem getD_take (l : List Int) (n k : Nat) (h : k < n) : (l.take n).getD k 0 = l.getD k 0 := by
  simp [List.getD_eq_getElem?_getD, h]

set_option maxHeartbeats 2000000 in
set_option maxRecDepth 100000 in
theorem begins_any (b d : Sl) (t : Nat) (w : World) (ha : b.Ok w) (hd : d.Ok w) (ht : t + d.n ≤ b.n) (hn : b.n ≤ 1099511627776) :
    Calls Try.prog 91 #[b.v, .int .i64 t, d.v] w fun e w' => e = .returned (.bool (decide ((b.l.drop t).take d.n = d.l))) ∧ ∃ k, w' = w.drewN k := by
  obtain ⟨aa, an, ac, al⟩ := b
  obtain ⟨ba, bn, bc, bl⟩ := d
  have ha1 : al.length = an := ha.len
  have hb1 : bl.length = bn := hd.len
  have hn' : an ≤ 1099511627776 := hn
  have ht' : t + bn ≤ an := ht
  simp only [Sl.v]
  have HA := hide ha
  have HB := hide hd
  have HL := hide ha1
  have HL2 := hide hb1
  clear ha hd ha1 hb1 hn ht
  generalize hD : decide ((al.drop t).take bn = bl) = D
  have HD := hide hD
  clear hD
  go_enter Try.func91, Try.ntmps91
  go_wp2_with fail
  go_loopw [7] (fun i wr => ∃ k : Nat, k ≤ bn ∧ i = .int .i64 k ∧ Hid ((al.drop t).take k = bl.take k) ∧ ∃ m, wr = w.drewN m) (fun i _ => bn - (intOf i).toNat)
  case atStart => exact ⟨0, by omega, rfl, hide rfl, 0, rfl⟩
  case round =>
    obtain ⟨k, hk, rfl, HT, m, hwr0⟩ := hrel
    have hwr := hide hwr0
    clear hwr0
    by_cases hlt : k < bn
    · obtain ⟨ab, ao, haa, -, hac⟩ := (unhide HA).lies (by show 0 < al.length; rw [unhide HL]; omega)
      obtain ⟨bb, bo, hba, -, hbc⟩ := (unhide HB).lies (by show 0 < bl.length; rw [unhide HL2]; omega)
      have haa' : aa = some ⟨ab, ao, none⟩ := haa
      have hba' : ba = some ⟨bb, bo, none⟩ := hba
      subst haa' hba'
      obtain ⟨u, hu⟩ : ∃ u : Nat, (t : Int) + (k : Int) = (u : Int) := ⟨t + k, by omega⟩
      have huk : t + k = u := by omega
      have hua : u < an := by omega
      have ca : wr.cell? ⟨ab, ao + u, none⟩ = some (.int .u8 (al.getD (t + k) 0)) := by rw [unhide hwr, ← huk]; exact hac (t + k) (by show t + k < al.length; rw [unhide HL]; omega)
      have cb : wr.cell? ⟨bb, bo + k, none⟩ = some (.int .u8 (bl.getD k 0)) := by rw [unhide hwr]; exact hbc k (by show k < bl.length; rw [unhide HL2]; omega)
      obtain ⟨x, hx⟩ : ∃ x, al.getD (t + k) 0 = x := ⟨_, rfl⟩
      obtain ⟨y, hy⟩ : ∃ y, bl.getD k 0 = y := ⟨_, rfl⟩
      rw [hx] at ca
      rw [hy] at cb
      have HX := hide hx
      have HY := hide hy
      have hkz : (k : Int) < (bn : Int) := by omega
      clear haa hba hac hbc hx hy huk
      by_cases hxy : x = y
      · subst hxy
        have HT' : Hid ((al.drop t).take (k + 1) = bl.take (k + 1)) := hide (take_eq_succ (by rw [List.length_drop, unhide HL]; omega) (by rw [unhide HL2]; omega) (unhide HT) (by rw [getD_drop]; exact (unhide HX).trans (unhide HY).symm))
        go_wp2_with fail
        go_quiet (fail)
        go_wp2
        go_roundw
        case rel => exact ⟨k + 1, by omega, by go_num, HT', _, by rw [unhide hwr]; exact World.drewN_drewN _ _ _⟩
        case measure => simp [intOf]; omega
      · have HF : Hid (D = false) := by
          rw [← unhide HD]
          refine hide (decide_eq_false (fun e => hxy ?_))
          rw [← unhide HX, ← unhide HY, ← e, getD_take _ _ _ hlt, getD_drop]
        go_wp2_with fail
        go_quiet (fail)
        go_wp2
        go_ret
        rw [unhide HF]
        exact ⟨rfl, _, by rw [unhide hwr]; exact World.drewN_drewN _ _ _⟩
    · have hkd : decide ((k : Int) < (bn : Int)) = false := by simp; omega
      have HF : Hid (D = true) := by
        rw [← unhide HD]
        refine hide (decide_eq_true ?_)
        have h := unhide HT
        have : k = bn := by omega
        rw [this] at h
        rw [h, List.take_of_length_le (by rw [unhide HL2]; omega)]
      go_wp2
      go_ret
      rw [unhide HF]
      exact ⟨rfl, m, unhide hwr⟩

set_option maxHeartbeats 2000000 in
set_option maxRecDepth 100000 in
theorem rmeant_any (b : Sl) (t n : Nat) (w : World) (ha : b.Ok w) (ht : t + n ≤ b.n) (hn : b.n ≤ 1099511627776) :
    Calls Try.prog 89 #[b.v, .int .i64 t, .int .i64 n] w fun e w' => e = .returned (.int .u64 (mt ((b.l.drop t).take n))) ∧ w' = w := by
  obtain ⟨aa, an, ac, al⟩ := b
  have ha1 : al.length = an := ha.len
  have hn' : an ≤ 1099511627776 := hn
  have ht' : t + n ≤ an := ht
  simp only [Sl.v]
  have HA := hide ha
  have HL := hide ha1
  clear ha ha1 hn ht
  have HBB : Hid (IsB al) := hide (unhide HA).isB
  go_enter Try.func89, Try.ntmps89
  go_wp2_with fail
  go_loopw [7, 8] (fun x i wr => ∃ k : Nat, k ≤ n ∧ i = .int .i64 ((k : Int) - 1) ∧ x = .int .u64 (mt (((al.drop t).take n).drop k)) ∧ wr = w) (fun _ i _ => (intOf i + 1).toNat)
  case atStart => exact ⟨n, by omega, rfl, by rw [List.drop_of_length_le (by rw [List.length_take]; omega)]; rfl, rfl⟩
  case round =>
    obtain ⟨k, hk, rfl, rfl, rfl⟩ := hrel
    cases k with
    | zero =>
      rw [List.drop_zero]
      go_wp2
      go_ret
      exact ⟨rfl, rfl⟩
    | succ j =>
      have ej : (((j + 1 : Nat) : Int) - 1) = (j : Int) := by omega
      rw [ej]
      clear ej
      obtain ⟨ab, ao, haa, -, hac⟩ := (unhide HA).lies (by show 0 < al.length; rw [unhide HL]; omega)
      have haa' : aa = some ⟨ab, ao, none⟩ := haa
      subst haa'
      obtain ⟨u, hu⟩ : ∃ u : Nat, (t : Int) + (j : Int) = (u : Int) := ⟨t + j, by omega⟩
      have huk : t + j = u := by omega
      have hua : u < an := by omega
      have ca : wr.cell? ⟨ab, ao + u, none⟩ = some (.int .u8 (al.getD (t + j) 0)) := by rw [← huk]; exact hac (t + j) (by show t + j < al.length; rw [unhide HL]; omega)
      obtain ⟨x, hx⟩ : ∃ x, al.getD (t + j) 0 = x := ⟨_, rfl⟩
      have hxb : 0 ≤ x ∧ x ≤ 255 := by rw [← hx]; exact (unhide HBB).at _
      have hX0 := hxb.1
      have hX1 := hxb.2
      rw [hx] at ca
      have HM : Hid (mt (((al.drop t).take n).drop j) = (mt (((al.drop t).take n).drop (j + 1)) * 128 + x.toNat % 128) % 18446744073709551616) := by
        have hj : j < ((al.drop t).take n).length := by rw [List.length_take, List.length_drop, unhide HL]; omega
        have e : ((al.drop t).take n).drop j = ((al.drop t).take n).getD j 0 :: ((al.drop t).take n).drop (j + 1) := by
          rw [List.drop_eq_getElem_cons hj, List.getD_eq_getElem?_getD, List.getElem?_eq_getElem hj]; rfl
        rw [getD_take _ _ _ (by omega), getD_drop, hx] at e
        rw [e]; exact hide rfl
      have hml := mt_lt (((al.drop t).take n).drop (j + 1))
      generalize mt (((al.drop t).take n).drop (j + 1)) = M at *
      clear haa hac hx hxb huk
      go_wp2
      go_roundw
      case rel => 
        refine ⟨j, by omega, rfl, ?_, by trivial⟩
        rw [unhide HM]; simp only [IntKind.wrap_u64]; congr 1; omega
      case measure => simp [intOf]

/-- what Short answers -/
def SoS (L : List Int) (x n : Nat) : Prop := (shoD L = none ∧ x = 0 ∧ n = 0) ∨ (1 ≤ n ∧ n ≤ L.length ∧ x < 18446744073709551616 ∧ shoD L = some (x, L.drop n))

set_option maxHeartbeats 2000000 in
set_option maxRecDepth 100000 in
theorem short_any (b : Sl) (t : Nat) (w : World) (ha : b.Ok w) (ht : t ≤ b.n) (hn : b.n ≤ 1099511627776) :
    Calls Try.prog 77 #[b.v, .int .i64 t] w fun e w' => ∃ x n : Nat, e = .returned (.tuple #[.int .u64 x, .int .i64 n]) ∧ SoS (b.l.drop t) x n ∧ Below w.heap.size w w' := by
  have hBL : IsB (b.l.drop t) := fun c hc => ha.isB c (List.mem_of_mem_drop hc)
  have hLl : (b.l.drop t).length = b.n - t := by rw [List.length_drop, ha.len]
  have hbv : b.v = .slice b.a b.n b.c := rfl
  rw [hbv]
  have hme := fun (n : Nat) (W : World) (hW : Below w.heap.size w W) (h : t + n ≤ b.n) => rmeant_any b t n W (ha.later hW) h hn
  have hbe := fun (d : Sl) (W : World) (hW : Below w.heap.size w W) (hd : d.Ok W) (h : t + d.n ≤ b.n) => begins_any b d t W (ha.later hW) hd h hn
  rw [hbv] at hme hbe
  generalize b.l.drop t = L at *
  obtain ⟨aa, an, ac, al⟩ := b
  simp only at *
  have HBL := hide hBL
  have HLl := hide hLl
  clear hBL hLl ha hbv
  go_enter Try.func77, Try.ntmps77
  go_wp2_with fail
  go_loopw [6] (fun i wr => ∃ k : Nat, 1 ≤ k ∧ k ≤ 11 ∧ i = .int .i64 k ∧ Hid (∀ m, 1 ≤ m → m < k → NoS L m) ∧ Below w.heap.size w wr) (fun i _ => 11 - (intOf i).toNat)
  case atStart => exact ⟨1, by omega, by omega, rfl, hide (fun m h1 h2 => by omega), Below.refl _ _⟩
  case round =>
    obtain ⟨k, hk1, hk11, rfl, HT, hbr⟩ := hrel
    by_cases hk10 : k ≤ 10
    · by_cases hkn : k ≤ an - t
      · have h1 := hme k wr hbr (by omega)
        have hml := mt_lt (L.take k)
        have HN : Hid (NoS L k ↔ sho (mt (L.take k)) ≠ L.take k) := hide Iff.rfl
        have HY : Hid (¬ NoS L k → shoD L = some (mt (L.take k), L.drop k)) := hide short_yes
        obtain ⟨LT, hLT⟩ : ∃ LT, L.take k = LT := ⟨_, rfl⟩
        have hlt : LT.length = k := by rw [← hLT, List.length_take, unhide HLl]; omega
        rw [hLT] at h1 hml HN HY
        generalize mt LT = M at *
        have h2 := iUint_form M wr hml
        unfold ToldI at h2
        have HS : Hid (IsB (sho M)) := hide (sho_isB M)
        obtain ⟨F, hF⟩ : ∃ F, sho M = F := ⟨_, rfl⟩
        rw [hF] at h2 HS HN
        have hd1 : decide ((k : Int) ≤ 10) = true := by simp; omega
        have hd2 : decide ((k : Int) ≤ (an : Int) - (t : Int)) = true := by simp; omega
        have HLT := hide hLT
        have Hlt := hide hlt
        clear hLT hlt hF
        go_wp2_with fail
        refine h1.mono ?_
        rintro e w1 ⟨rfl, rfl⟩
        clear h1
        go_wp2_with fail
        refine h2.mono ?_
        rintro e w2 ⟨v2, rfl, hown2, hb2⟩
        clear h2
        have hbr2 := hbr.trans (hb2.mono hbr.size)
        obtain ⟨d, rfl, hd, hdl, hdn, -⟩ := own_sl hown2 (unhide HS)
        have hdv : d.v = .slice d.a d.n d.c := rfl
        rw [hdv]
        have hdm : d.n ≤ 9223372036854775807 := by have := hd.le; have := hd.mx; unfold maxLen at this; omega
        by_cases hlen : d.n = k
        · have h3 := hbe d w2 hbr2 hd (by omega)
          rw [hdv] at h3
          have hd3 : (((d.n : Nat) : Int) == (k : Int)) = true := by simp; omega
          by_cases hy : LT = F
          · have h4 : decide (L.take d.n = d.l) = true := by rw [hlen, unhide HLT, hdl, hy]; simp
            rw [h4] at h3
            have hno : ¬ NoS L k := fun h => (unhide HN).1 h hy.symm
            have hYY := hide ((unhide HY) hno)
            clear hdl hdn hlen hown2 hy hno h4 HN HY hdv hme hbe
            go_wp2_with fail
            refine h3.mono ?_
            rintro e w3 ⟨rfl, j, rfl⟩
            clear h3
            go_wp2
            go_ret2
            exact ⟨M, k, rfl, .inr ⟨hk1, by rw [unhide HLl]; exact hkn, hml, unhide hYY⟩, below_drewN hbr2 j⟩
          · have h4 : decide (L.take d.n = d.l) = false := by rw [hlen, unhide HLT, hdl]; simp [hy]
            rw [h4] at h3
            have hno : Hid (∀ m, 1 ≤ m → m < k + 1 → NoS L m) := hide (fun m hm1 hm2 => by
              by_cases h : m = k
              · subst h; exact (unhide HN).2 (fun e => hy e.symm)
              · exact unhide HT m hm1 (by omega))
            clear hdl hdn hlen hown2 h4 HN HY hdv hme hbe hy
            go_wp2_with fail
            refine h3.mono ?_
            rintro e w3 ⟨rfl, j, rfl⟩
            clear h3
            go_wp2
            go_roundw
            case rel => exact ⟨k + 1, by omega, by omega, by go_num, hno, below_drewN hbr2 j⟩
            case measure => simp [intOf]; omega
        · have hd3 : (((d.n : Nat) : Int) == (k : Int)) = false := by simp; omega
          have hno : Hid (∀ m, 1 ≤ m → m < k + 1 → NoS L m) := hide (fun m hm1 hm2 => by
              by_cases h : m = k
              · subst h; exact (unhide HN).2 (fun e => hlen (by rw [hdn, e, unhide Hlt]))
              · exact unhide HT m hm1 (by omega))
          clear hdl hdn hlen hown2 HN HY hdv hme hbe
          go_wp2
          go_roundw
          case rel => exact ⟨k + 1, by omega, by omega, by go_num, hno, hbr2⟩
          case measure => simp [intOf]; omega
      · have hd1 : decide ((k : Int) ≤ 10) = true := by simp; omega
        have hd2 : decide ((k : Int) ≤ (an : Int) - (t : Int)) = false := by simp; omega
        have hsn := hide (short_no (unhide HBL) (fun m h1 _ h3 => unhide HT m h1 (by rw [unhide HLl] at h3; omega)))
        clear hme hbe
        go_wp2
        go_ret2
        exact ⟨0, 0, rfl, .inl ⟨unhide hsn, rfl, rfl⟩, hbr⟩
    · have hd1 : decide ((k : Int) ≤ 10) = false := by simp; omega
      have hsn := hide (short_no (unhide HBL) (fun m h1 h2 _ => unhide HT m h1 (by omega)))
      clear hme hbe
      go_wp2
      go_ret2
      exact ⟨0, 0, rfl, .inl ⟨unhide hsn, rfl, rfl⟩, hbr⟩
end Go.Proofs.Ytiloacnjgaoceab
