import Derived.Test.YtoipofidogajkaaScaW
import Derived.Test.YtoipofidogajkaaEnW
set_option linter.unusedVariables false
namespace Go.Proofs.Ytoipofidogajkaa
open Go.RowKit

set_option maxHeartbeats 2000000 in
set_option maxRecDepth 100000 in
theorem small_any (pa : Option Addr) (pc : Nat) (ps : List Sl) (w : World) (hv : LiesV w pa (ps.map Sl.v)) (hok : ∀ s ∈ ps, s.Ok w) (hpn : ps.length ≤ 140737488351232) (hpz : ∀ s ∈ ps, s.c ≤ 140737488351232) :
    Calls Try.prog 15 #[.slice pa ps.length pc] w fun e w' => (e = .returned (.bool false) ∨ (e = .returned (.bool true) ∧ (cat ps).length ≤ 65536 ∧ ps.length ≤ 256)) ∧ w' = w := by
  obtain ⟨P, hP⟩ : ∃ P, P = ps.length := ⟨_, rfl⟩
  rw [← hP] at hpn ⊢
  have HP := hide hP
  have HV := hide hv
  have HOK := hide hok
  have HZ := hide hpz
  clear hP hv hok hpz
  go_enter Try.func15, Try.ntmps15
  go_wp2_with fail
  go_loop [3, 4] (fun t i => ∃ k q : Nat, k ≤ P ∧ i = .int .i64 k ∧ t = .int .i64 q ∧ q ≤ 65536 ∧ k ≤ 256 ∧ Hid (q = (cat (ps.take k)).length)) (fun _ i => P - (intOf i).toNat)
  case atStart => exact ⟨0, 0, by omega, rfl, rfl, by omega, by omega, hide (by simp [cat])⟩
  case round =>
    obtain ⟨k, q, hk, rfl, rfl, hq, hk2, HQ⟩ := hrel
    by_cases hlt : k < P
    · obtain ⟨s, hs⟩ : ∃ s, ps[k]? = some s := ⟨_, List.getElem?_eq_getElem (by have := unhide HP; omega)⟩
      have hmem : s ∈ ps := List.mem_of_getElem? hs
      have hso := unhide HOK s hmem
      obtain ⟨b, off, hpa, hbl, hc⟩ := unhide HV (by have := unhide HP; simp; omega)
      subst hpa
      have hck := hc k s.v (by simp [hs])
      have hcs := cat_take_succ ps k s hs
      have hle := hso.le
      have hzz := unhide HZ s hmem
      have HLn := hide hso.len
      obtain ⟨sa, sn, sc, sl⟩ := s
      simp only [Sl.v] at hck hle hzz
      have HC := hide hcs
      clear hc hs hmem hso hcs
      by_cases h1 : (65536 : Int) < (q : Int) + (sn : Int)
      · go_wp2_with fail
        go_ret
        exact ⟨.inl rfl, rfl⟩
      · by_cases h2 : (256 : Int) ≤ (k : Int)
        · go_wp2_with fail
          go_ret
          exact ⟨.inl rfl, rfl⟩
        · go_wp2_with fail
          go_round
          case rel => exact ⟨k + 1, q + sn, by omega, by go_num, by go_num, by omega, by omega, hide (by rw [unhide HC, List.length_append, ← unhide HQ, unhide HLn])⟩
          case measure => simp [intOf]; omega
    · have hkP : k = P := by omega
      subst hkP
      go_wp2_with fail
      go_ret
      have h := unhide HQ
      rw [List.take_of_length_le (by have := unhide HP; omega)] at h
      exact ⟨.inr ⟨rfl, by omega⟩, rfl⟩
/-- the frames of payloads, each of the kind of its number -/
def frs : Nat → List Sl → List (Int × List Int)
  | _, [] => []
  | i, s :: ps => ((i : Int), s.l) :: frs (i + 1) ps
theorem frs_length : ∀ (ps : List Sl) (i : Nat), (frs i ps).length = ps.length
  | [], _ => rfl
  | s :: ps, i => by simp only [frs, List.length_cons, frs_length ps]
theorem frs_snoc : ∀ (ps : List Sl) (i : Nat) (s : Sl), frs i (ps ++ [s]) = frs i ps ++ [(((i + ps.length : Nat) : Int), s.l)]
  | [], i, s => rfl
  | t :: ps, i, s => by
    simp only [List.cons_append, frs, frs_snoc ps, List.length_cons, List.cons_append]
    rw [show i + 1 + ps.length = i + (ps.length + 1) by omega]
theorem flat_append : ∀ (a b : List (Int × List Int)), flat (a ++ b) = flat a ++ flat b
  | [], b => rfl
  | f :: a, b => by simp only [List.cons_append, flat, flat_append a b, List.append_assoc]
theorem flat_one (f : Int × List Int) : flat [f] = encL f.1 f.2 := by simp [flat]
/-- where each frame ends -/
def ens : Nat → List (Int × List Int) → List Nat
  | _, [] => []
  | i, f :: fs => (i + f.2.length + 10) :: ens (i + f.2.length + 10) fs
theorem ens_length : ∀ (fs : List (Int × List Int)) (i : Nat), (ens i fs).length = fs.length
  | [], _ => rfl
  | f :: fs, i => by simp only [ens, List.length_cons, ens_length fs]
theorem ens_snoc : ∀ (fs : List (Int × List Int)) (i : Nat) (f : Int × List Int), ens i (fs ++ [f]) = ens i fs ++ [i + (flat fs).length + f.2.length + 10]
  | [], i, f => by simp [ens, flat]
  | g :: fs, i, f => by
    simp only [List.cons_append, ens, ens_snoc fs, flat, List.length_append, encL_length]
    rw [show i + g.2.length + 10 + (flat fs).length + f.2.length + 10 = i + (g.2.length + 10 + (flat fs).length) + f.2.length + 10 by omega]
theorem flat_frs_len : ∀ (ps : List Sl) (i : Nat), (flat (frs i ps)).length = (cat ps).length + 10 * ps.length
  | [], _ => by simp [flat, frs, cat]
  | s :: ps, i => by
    have h := flat_frs_len ps (i + 1)
    have e : cat (s :: ps) = s.l ++ cat ps := by simp [cat]
    simp only [frs, flat, List.length_append, encL_length, h, e, List.length_cons]
    omega
theorem Try.infoI : (Try.prog.info? 3).map (fun i => (i.zero, i.size, i.bytes)) = some (some (.int .i64 0), 1, 8) := by kernel_rfl
theorem own_two {W W' : World} {b e sz n b' e' sz' m : Nat} {v u : Value} {xs ys : List Value} (h : W.ownsRow b e sz v n xs) (hg : W.grownBy W' u.ownBlock) (hu : W.ownsRow b' e' sz' u m ys) (hne : e ≠ e') : W'.ownsRow b e sz v n xs := by
  obtain ⟨h1, h2⟩ := h
  refine ⟨h1, ?_⟩
  rcases h2 with h2 | ⟨g, cap, cur, r1, r2, r3, r4⟩
  · exact .inl h2
  · exact .inr ⟨g, cap, cur, r1, r2, (hg.block g (Array.getElem?_eq_some_iff.1 r3).1 (fun e2 => own_typ hu r3 hne e2.symm)).trans r3, r4⟩
def I64s (l : List Nat) : List Value := l.map fun (x : Nat) => Value.int .i64 x
theorem I64s_append (a b : List Nat) : I64s (a ++ b) = I64s a ++ I64s b := by simp [I64s]
set_option maxHeartbeats 4000000 in
set_option maxRecDepth 100000 in
theorem joined_any (pa : Option Addr) (pc : Nat) (ps : List Sl) (w : World) (hv : LiesV w pa (ps.map Sl.v)) (hok : ∀ s ∈ ps, s.Ok w) (hpn : ps.length ≤ 256) (htot : (cat ps).length ≤ 65536) :
    Calls Try.prog 16 #[.slice pa ps.length pc] w fun e w' => ∃ vb ve, e = .returned (.tuple #[vb, ve, .bool true]) ∧ w'.ownsRow w.heap.size 5 1 vb (flat (frs 0 ps)).length (U8 (flat (frs 0 ps))) ∧
      w'.ownsRow w.heap.size 3 1 ve ps.length (I64s (ens 0 (frs 0 ps))) ∧ Below w.heap.size w w' := by
  obtain ⟨i0, hi, hz0, hz1, hz2⟩ := info_parts Try.infoB
  obtain ⟨i1, hi1, hy0, hy1, hy2⟩ := info_parts Try.infoI
  obtain ⟨P, hP⟩ : ∃ P, P = ps.length := ⟨_, rfl⟩
  rw [← hP] at hpn ⊢
  have HP := hide hP
  have HV := hide hv
  have HOK := hide hok
  have HT := hide htot
  clear hP hv hok htot
  go_enter Try.func16, Try.ntmps16
  go_wp2_with fail
  go_loopw [5, 6, 7] (fun vb ve i wr => ∃ k : Nat, k ≤ P ∧ i = .int .i64 k ∧ wr.ownsRow w.heap.size 5 1 vb (flat (frs 0 (ps.take k))).length (U8 (flat (frs 0 (ps.take k)))) ∧
      wr.ownsRow w.heap.size 3 1 ve k (I64s (ens 0 (frs 0 (ps.take k)))) ∧ Below w.heap.size w wr) (fun _ _ i _ => P - (intOf i).toNat)
  case atStart => exact ⟨0, by omega, rfl, World.ownsRow_nil _ _ _ _, World.ownsRow_nil _ _ _ _, Below.refl _ _⟩
  case round =>
    obtain ⟨k, hk, rfl, ob, oe, hbl⟩ := hrel
    by_cases hlt : k < P
    · obtain ⟨s, hs⟩ : ∃ s, ps[k]? = some s := ⟨_, List.getElem?_eq_getElem (by have := unhide HP; omega)⟩
      have hmem : s ∈ ps := List.mem_of_getElem? hs
      have hso := (unhide HOK s hmem).later hbl
      obtain ⟨b, off, hpa, hbw, hc⟩ := (unhide HV).later hbl (by have := unhide HP; simp; omega)
      subst hpa
      have hck := hc k s.v (by simp [hs])
      have htk : ps.take (k + 1) = ps.take k ++ [s] := by
        rw [List.take_add_one, hs]; rfl
      have hfl := flat_frs_len (ps.take k) 0
      have hle1 := cat_take_le ps k
      have hle2 := cat_take_le ps (k + 1)
      rw [cat_take_succ ps k s hs, List.length_append] at hle2
      have hln := hso.len
      have htt := unhide HT
      have hkl : (ps.take k).length = k := by rw [List.length_take]; have := unhide HP; omega
      have hsn : s.n ≤ 65536 := by omega
      have hbd : (flat (frs 0 (ps.take k))).length ≤ 70000 := by omega
      have HB : Hid (flat (frs 0 (ps.take (k + 1))) = flat (frs 0 (ps.take k)) ++ encL (k : Int) s.l) := hide (by rw [htk, frs_snoc, hkl, Nat.zero_add, flat_append, flat_one])
      have HE : Hid (ens 0 (frs 0 (ps.take (k + 1))) = ens 0 (frs 0 (ps.take k)) ++ [(flat (frs 0 (ps.take k))).length + (s.n + 10)]) := hide (by rw [htk, frs_snoc, hkl, Nat.zero_add, ens_snoc, Nat.zero_add, hln, Nat.add_assoc])
      have hEn := encode_ok (k : Int) s wr hso (by omega) (by omega)
      have HSB := hide hso.isB
      have HSL := hide hln
      obtain ⟨sa, sn, sc, sl⟩ := s
      simp only [Sl.v] at hck hEn hsn HB HE HSB HSL
      generalize flat (frs 0 (ps.take k)) = FB at ob HB HE hbd
      generalize ens 0 (frs 0 (ps.take k)) = EB at oe HE
      clear hc hs hmem hso htk hfl hle1 hle2 hln htt hkl
      go_wp2_with (first | (go_at_call 10; refine hEn.mono ?_; rintro e w2 ⟨g, rfl, o2, b2⟩; clear hEn
                            have ob2 := own_later ob b2
                            have oe2 := own_later oe b2
                            have hs2 := Nat.le_trans hbl.size b2.size
                            have hB2 := bel_then hbl hbl.size b2
                            have okf := Sl.Ok.of_own o2 (encL_isB (k := (k : Int)) (by omega) (unhide HSB))) | (at_builtin; refine wpList_append_sl rfl _ _ 22 rfl w.heap.size 5 i0 (.int .u8 0) Try.underlying22 hi hz0 hz1 hz2 rfl _ _ _ rfl ob2 ⟨_, _, _, _⟩ okf rfl (by simp only; omega) hs2 ?_))
      intro v3 w3 o3 g3
      have O3 := unhide o3
      have hB3 := below_grown hB2 (Nat.le_refl _) ob2 (unhide g3)
      have oe3 := own_two oe2 (unhide g3) ob2 (by decide)
      obtain ⟨gb, cb, hv3, -, -⟩ := O3.form (by omega)
      subst hv3
      rw [← U8_append, ← unhide HB] at O3
      clear o3 g3 ob2 oe2 okf ob oe o2
      go_wp2_with (at_builtin; refine wpList_append_own _ rfl _ _ 40 rfl w.heap.size 3 i1 (.int .i64 0) 1 8 Try.underlying40 hi1 hy0 hy1 hy2 rfl (by decide) _ _ _ rfl (oe3.alloc _) ⟨_, 0, none⟩ 1 1 [.int .i64 ((FB.length + (sn + 10) : Nat) : Int)] rfl rfl (cell_one_new _ _ _) (fun u hu => by simp at hu; subst hu; rfl) (by unfold maxLen; omega) (by omega) (by have := hB3.size; simp; omega) ?_)
      intro v4 w4 o4 g4 _
      have hB4 := below_app hB3 (Nat.le_refl _) oe3 g4
      have O4 : w4.ownsRow w.heap.size 5 1 (.slice (some ⟨gb, 0, none⟩) (FB.length + (sn + 10)) cb) (FB.length + (sn + 10)) _ := own_two (O3.alloc _) g4 (oe3.alloc _) (by decide)
      go_wp2_with fail
      go_roundw
      case rel =>
        have hLn : (flat (frs 0 (ps.take (k + 1)))).length = FB.length + (sn + 10) := by rw [unhide HB, List.length_append, encL_length]; have := unhide HSL; omega
        refine ⟨k + 1, by omega, by go_num, by rw [hLn]; exact O4, ?_, hB4⟩
        rw [unhide HE, I64s_append]
        exact o4
      case measure => simp [intOf]; omega
    · have hkP : k = P := by omega
      subst hkP
      have htk : ps.take k = ps := List.take_of_length_le (by have := unhide HP; omega)
      rw [htk] at ob oe
      go_wp2_with fail
      go_ret3
      exact ⟨_, _, rfl, ob, oe, hbl⟩
end Go.Proofs.Ytoipofidogajkaa
