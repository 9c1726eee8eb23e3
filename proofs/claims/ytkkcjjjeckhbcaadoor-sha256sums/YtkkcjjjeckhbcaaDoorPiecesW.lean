import Derived.Test.YtkkcjjjeckhbcaaDoorKnownW
import Derived.Test.YtkkcjjjeckhbcaaDoorJoinW
namespace Go.Proofs.YtkkcjjjeckhbcaaDoor
open Go.RowKit

/-- a Digest of one's own, and all that was there -/
structure PS (w : World) (g : Nat) (M : List Int) (wr : World) : Prop where
  dg : Dg wr g M
  bel : Below w.heap.size w wr
  kon : KLaid wr
  fir : FLaid wr
theorem PS.later {w : World} {g : Nat} {M : List Int} {wr w' : World} (h : PS w g M wr) (hb : Below wr.heap.size wr w') : PS w g M w' :=
  ⟨h.dg.later hb, h.bel.trans (hb.mono h.bel.size), h.kon.later hb, h.fir.later hb⟩
theorem PS.drew {w : World} {g : Nat} {M : List Int} {wr : World} (h : PS w g M wr) : PS w g M wr.drew :=
  h.later ((Below.refl _ wr).drew)
theorem PS.wrote {w : World} {g : Nat} {M M' : List Int} {wr w' : World} (h : PS w g M wr) (hd : Dg w' g M') (hb : But g wr w') (hg : w.heap.size ≤ g) (hk : 0 ≠ g) (hf : 1 ≠ g) : PS w g M' w' :=
  ⟨hd, h.bel.trans (hb.below h.bel.size hg), h.kon.but hb hk, h.fir.but hb hf⟩
theorem Sl.Ok.blk {w : World} {s : Sl} (h : s.Ok w) : 0 < s.l.length → ∀ x, s.a = some x → x.block < w.heap.size := by
  intro hp x hx
  obtain ⟨b, off, ha, hlt, -⟩ := h.lies hp
  rw [ha] at hx; simp at hx; subst hx; exact hlt
theorem take_to (l : List Int) (a e : Nat) (h : a ≤ e) : l.take a ++ (l.drop a).take (e - a) = l.take e := by
  obtain ⟨k, rfl⟩ : ∃ k, e = a + k := ⟨e - a, by omega⟩
  rw [show a + k - a = k by omega, List.take_add]
theorem eqHash_t (l : List Int) (h : l.length = 32) (w : World) : (Op.equalIn 10000 34 (.agg (U8 l).toArray) (.agg (U8 l).toArray)).run Tryd.prog w = .ok true w := by
  rw [eqHash l l h h w]; simp

theorem lies_take {w : World} {a : Option Addr} {l : List Int} (h : Lies w a l) (k : Nat) : Lies w a (l.take k) := by
  intro hp
  obtain ⟨b, off, ha, hlt, hc⟩ := h (by simp at hp; omega)
  refine ⟨b, off, ha, hlt, fun i hi => ?_⟩
  have hi2 : i < l.length ∧ i < k := by simp at hi; omega
  rw [hc i hi2.1]
  simp [hi2.2]

set_option maxHeartbeats 4000000 in
set_option maxRecDepth 100000 in
theorem pieces_any (d q : Sl) (w : World) (hd : d.Ok w) (hq : q.Ok w) (hK : KLaid w) (hF : FLaid w) (hdc : d.c ≤ 140737488355328) (hqc : q.c ≤ 140737488355328) :
    Calls Tryd.prog 5 #[d.v, q.v] w fun e w' => e = .returned (.bool true) ∧ Below w.heap.size w w' := by
  obtain ⟨da, dn, dc, l⟩ := d
  obtain ⟨qa, qn, qc, ql⟩ := q
  have hdl : l.length = dn := hd.len
  have hdle : dn ≤ dc := hd.le
  have hql : ql.length = qn := hq.len
  have hqle : qn ≤ qc := hq.le
  have hdc' : dc ≤ 140737488355328 := hdc
  have hqc' : qc ≤ 140737488355328 := hqc
  have hgk : 0 ≠ w.heap.size := by have := hK.lt; omega
  have hgf : 1 ≠ w.heap.size := by have := hF.lt; omega
  have HDL := hide hdl
  have HQL := hide hql
  have HGK := hide hgk
  have HGF := hide hgf
  clear hdl hql hgk hgf hdc hqc
  simp only [Sl.v]
  go_enter Tryd.func5, Tryd.ntmps5
  go_wp2_with fail
  refine (new_any w hF).mono ?_
  rintro e w1 ⟨rfl, hD1, hb1⟩
  have P1 : PS w w.heap.size [] w1 := ⟨hD1, hb1, hK.later hb1, hF.later hb1⟩
  clear hD1 hb1
  go_wp2_with fail
  go_loopw [6, 7] (fun a i wr => ∃ at_ j : Nat, a = .int .i64 at_ ∧ i = .int .i64 j ∧ at_ ≤ dn ∧ j ≤ qn ∧ PS w w.heap.size (l.take at_) wr) (fun _ i _ => qn - (intOf i).toNat)
  case atStart => exact ⟨0, 0, rfl, rfl, by omega, by omega, P1⟩
  case round =>
    clear P1
    obtain ⟨at_, j, rfl, rfl, hat, hj, PS1⟩ := hrel
    by_cases hgo : j < qn ∧ at_ < dn
    · obtain ⟨hjl, hal⟩ := hgo
      have hjz : (j : Int) < (qn : Int) := by omega
      have haz : (at_ : Int) < (dn : Int) := by omega
      obtain ⟨qb, qo, rfl, hqlt, hqcell⟩ := hq.lies (by rw [show (Sl.mk qa qn qc ql).l = ql from rfl, unhide HQL]; omega)
      obtain ⟨db, dof, rfl, hdlt, hdcell⟩ := hd.lies (by rw [show (Sl.mk da dn dc l).l = l from rfl, unhide HDL]; omega)
      have hdlies : Lies w (some ⟨db, dof, none⟩) l := hd.lies
      have hcl : wr.cell? ⟨qb, qo + j, none⟩ = some (.int .u8 (ql.getD j 0)) := (PS1.bel.cell (p := ⟨qb, qo + j, none⟩) hqlt).trans (hqcell j (by rw [show (Sl.mk (some ⟨qb, qo, none⟩) qn qc ql).l = ql from rfl, unhide HQL]; exact hjl))
      have hcb : 0 ≤ ql.getD j 0 ∧ ql.getD j 0 ≤ 255 := hq.isB.at j
      generalize ql.getD j 0 = c at hcl hcb
      obtain ⟨hc0, hc1⟩ := hcb
      clear hdcell hqcell
      obtain ⟨e0, he0, heq0⟩ : ∃ e0 : Nat, (at_ : Int) + c % 200 = e0 ∧ at_ ≤ e0 := ⟨(at_ + c % 200).toNat, by omega, by omega⟩
      have hwe : IntKind.i64.wrap ((at_ : Int) + c % 200) = (e0 : Int) := by rw [IntKind.wrap_i64]; omega
      have hlB : IsB l := hd.isB
      have HE0 := hide he0
      clear he0
      by_cases hov : dn < e0
      · have hovz : (dn : Int) < (e0 : Int) := by omega
        go_wp2_with fail
        have hE1 : at_ ≤ dn := by omega
        have hE2 : dn ≤ dn := by omega
        have hpl : ((l.drop at_).take (dn - at_)).length = dn - at_ := by rw [List.length_take, List.length_drop, unhide HDL]; omega
        have hsub : Lies wr (some ⟨db, dof + at_, none⟩) ((l.drop at_).take (dn - at_)) := (hdlies.later PS1.bel).sub at_ (dn - at_) (by rw [unhide HDL]; omega)
        have hkk := PS1.kon
        have hDD := PS1.dg
        refine (write_any w.heap.size (l.take at_) ((l.drop at_).take (dn - at_)) (some ⟨db, dof + at_, none⟩) (dn - at_) (dc - at_) wr hDD hkk (unhide HGK) hpl (fun x hx => hlB x (List.mem_of_mem_drop (List.mem_of_mem_take hx))) hsub (by rintro - x hx; simp only [Option.some.injEq] at hx; subst hx; show db ≠ w.heap.size; omega) (by omega) (by unfold maxLen; omega)).mono ?_
        rintro e w2 ⟨rfl, hD2, hbut⟩
        rw [take_to l at_ dn hE1] at hD2
        have PS2 := PS1.wrote hD2 hbut (Nat.le_refl _) (unhide HGK) (unhide HGF)
        have hEz : (((dn : Nat) : Int)) ≤ (dc : Int) := by omega
        have hE0 : (0 : Int) ≤ ((dn : Nat) : Int) := by omega
        have HPS := hide PS2
        clear hD2 hbut hsub hpl hkk hDD PS1 hcl PS2
        obtain ⟨R, hRR⟩ : ∃ R, R = sumZ (l.take dn) := ⟨_, rfl⟩
        have E1 := eqHash_t R (by rw [hRR]; exact sumZ_length _)
        have HRR := hide hRR
        clear hRR
        by_cases h20 : j < 20
        · have h20z : (j : Int) < 20 := by omega
          go_wp2_with fail
          go_region_held3 (fun w' => PS w w.heap.size (l.take dn) w')
            (first
              | exact (unhide HPS).drew
              | exact PS.later (by assumption) hb9)
            (first
              | (go_at_call 18
                 refine (digSum_any w.heap.size (l.take dn) _ (PS.dg (by assumption)) (PS.kon (by assumption))).mono ?_
                 rintro e w9 ⟨rfl, hb9⟩
                 rw [← unhide HRR])
              | (go_at_call 14
                 refine (sum_any (l.take dn) (some ⟨db, dof, none⟩) dn dc _ (PS.kon (by assumption)) (PS.fir (by assumption)) (by rw [List.length_take, unhide HDL]; omega) (fun x hx => hlB x (List.mem_of_mem_take hx)) (by have h9 : PS w w.heap.size (l.take dn) _ := (by assumption); exact lies_take (hdlies.later h9.bel) dn) (by have h9 : PS w w.heap.size (l.take dn) _ := (by assumption); rintro - x hx; simp only [Option.some.injEq] at hx; subst hx; exact Nat.lt_of_lt_of_le hdlt h9.bel.size) (by omega) (by unfold maxLen; omega)).mono ?_
                 rintro e w9 ⟨rfl, hb9⟩
                 rw [← unhide HRR]))
          go_wp2
          go_roundw
          case rel => exact ⟨_, j + 1, rfl, by go_num, hE2, by omega, by assumption⟩
          case measure => simp [intOf]; omega
        · have h20z : ¬ ((j : Int) < 20) := by omega
          have h20d : decide ((j : Int) < 20) = false := by simpa using h20z
          go_wp2_with fail
          go_quiet (fail)
          go_wp2
          go_roundw
          case rel => exact ⟨_, j + 1, rfl, by go_num, hE2, by omega, (unhide HPS).later (below_drewN (Below.refl _ _) _)⟩
          case measure => simp [intOf]; omega
      · have hovz : ¬ ((dn : Int) < (e0 : Int)) := by omega
        have hovd : decide ((dn : Int) < (e0 : Int)) = false := by simpa using hovz
        go_wp2_with fail
        have hE1 : at_ ≤ e0 := by omega
        have hE2 : e0 ≤ dn := by omega
        have hpl : ((l.drop at_).take (e0 - at_)).length = e0 - at_ := by rw [List.length_take, List.length_drop, unhide HDL]; omega
        have hsub : Lies wr (some ⟨db, dof + at_, none⟩) ((l.drop at_).take (e0 - at_)) := (hdlies.later PS1.bel).sub at_ (e0 - at_) (by rw [unhide HDL]; omega)
        have hkk := PS1.kon
        have hDD := PS1.dg
        refine (write_any w.heap.size (l.take at_) ((l.drop at_).take (e0 - at_)) (some ⟨db, dof + at_, none⟩) (e0 - at_) (dc - at_) wr hDD hkk (unhide HGK) hpl (fun x hx => hlB x (List.mem_of_mem_drop (List.mem_of_mem_take hx))) hsub (by rintro - x hx; simp only [Option.some.injEq] at hx; subst hx; show db ≠ w.heap.size; omega) (by omega) (by unfold maxLen; omega)).mono ?_
        rintro e w2 ⟨rfl, hD2, hbut⟩
        rw [take_to l at_ e0 hE1] at hD2
        have PS2 := PS1.wrote hD2 hbut (Nat.le_refl _) (unhide HGK) (unhide HGF)
        have hEz : (((e0 : Nat) : Int)) ≤ (dc : Int) := by omega
        have hE0 : (0 : Int) ≤ ((e0 : Nat) : Int) := by omega
        have HPS := hide PS2
        clear hD2 hbut hsub hpl hkk hDD PS1 hcl PS2
        obtain ⟨R, hRR⟩ : ∃ R, R = sumZ (l.take e0) := ⟨_, rfl⟩
        have E1 := eqHash_t R (by rw [hRR]; exact sumZ_length _)
        have HRR := hide hRR
        clear hRR
        by_cases h20 : j < 20
        · have h20z : (j : Int) < 20 := by omega
          go_wp2_with fail
          go_region_held3 (fun w' => PS w w.heap.size (l.take e0) w')
            (first
              | exact (unhide HPS).drew
              | exact PS.later (by assumption) hb9)
            (first
              | (go_at_call 18
                 refine (digSum_any w.heap.size (l.take e0) _ (PS.dg (by assumption)) (PS.kon (by assumption))).mono ?_
                 rintro e w9 ⟨rfl, hb9⟩
                 rw [← unhide HRR])
              | (go_at_call 14
                 refine (sum_any (l.take e0) (some ⟨db, dof, none⟩) e0 dc _ (PS.kon (by assumption)) (PS.fir (by assumption)) (by rw [List.length_take, unhide HDL]; omega) (fun x hx => hlB x (List.mem_of_mem_take hx)) (by have h9 : PS w w.heap.size (l.take e0) _ := (by assumption); exact lies_take (hdlies.later h9.bel) e0) (by have h9 : PS w w.heap.size (l.take e0) _ := (by assumption); rintro - x hx; simp only [Option.some.injEq] at hx; subst hx; exact Nat.lt_of_lt_of_le hdlt h9.bel.size) (by omega) (by unfold maxLen; omega)).mono ?_
                 rintro e w9 ⟨rfl, hb9⟩
                 rw [← unhide HRR]))
          go_wp2
          go_roundw
          case rel => exact ⟨_, j + 1, rfl, by go_num, hE2, by omega, by assumption⟩
          case measure => simp [intOf]; omega
        · have h20z : ¬ ((j : Int) < 20) := by omega
          have h20d : decide ((j : Int) < 20) = false := by simpa using h20z
          go_wp2_with fail
          go_quiet (fail)
          go_wp2
          go_roundw
          case rel => exact ⟨_, j + 1, rfl, by go_num, hE2, by omega, (unhide HPS).later (below_drewN (Below.refl _ _) _)⟩
          case measure => simp [intOf]; omega
    · by_cases hjl : j < qn
      · have hal : ¬ (at_ < dn) := fun h => hgo ⟨hjl, h⟩
        have hjz : (j : Int) < (qn : Int) := by omega
        have haz : ¬ ((at_ : Int) < (dn : Int)) := by omega
        have had : decide ((at_ : Int) < (dn : Int)) = false := by simpa using haz
        clear hgo
        go_wp2_with (refine wpList_slice_from rfl 29 (.tmp 57) (.tmp 58) rfl 5 Tryd.underlying29 Tryd.sz1v _ _ _ rfl .i64 _ at_ rfl rfl hat ?_; intro b5 hb5)
        have hdlies : Lies w da l := hd.lies
        have hlB : IsB l := hd.isB
        have hblk : 0 < l.length → ∀ x, da = some x → x.block < w.heap.size := hd.blk
        refine (write_any w.heap.size (l.take at_) (l.drop at_) b5 (dn - at_) (dc - at_) wr PS1.dg PS1.kon (unhide HGK) (by rw [List.length_drop, unhide HDL]) (fun x hx => hlB x (List.mem_of_mem_drop hx)) (Lies.from (hdlies.later PS1.bel) (unhide hb5) (by rw [unhide HDL]; exact hdle)) (fun hp => from_block (unhide hb5) (fun x hx => by have := hblk (by rw [List.length_drop] at hp; omega) x hx; omega)) (by omega) (by unfold maxLen; omega)).mono ?_
        rintro e w2 ⟨rfl, hD2, hbut⟩
        rw [List.take_append_drop] at hD2
        have PS2 := PS1.wrote hD2 hbut (Nat.le_refl _) (unhide HGK) (unhide HGF)
        clear hD2 hbut PS1
        obtain ⟨R, hRR⟩ : ∃ R, R = sumZ l := ⟨_, rfl⟩
        have E1 := eqHash_t R (by rw [hRR]; exact sumZ_length _)
        have HRR := hide hRR
        clear hRR
        go_wp2_with fail
        refine (digSum_any w.heap.size l w2 PS2.dg PS2.kon).mono ?_
        rintro e w3 ⟨rfl, hb3⟩
        rw [← unhide HRR]
        have PS3 := PS2.later hb3
        clear hb3 PS2
        go_wp2_with fail
        refine (sum_any l da dn dc w3 PS3.kon PS3.fir (unhide HDL) hlB (hdlies.later PS3.bel) (fun hp x hx => Nat.lt_of_lt_of_le (hblk hp x hx) PS3.bel.size) hdle (by unfold maxLen; omega)).mono ?_
        rintro e w4 ⟨rfl, hb4⟩
        rw [← unhide HRR]
        have PS4 := PS3.later hb4
        clear hb4 PS3
        go_wp2_with fail
        refine (len_any w.heap.size l w4 PS4.dg).mono ?_
        rintro e w5 ⟨rfl, rfl⟩
        rw [unhide HDL]
        have hmod : (dn : Int) % 18446744073709551616 = (dn : Int) := by omega
        rw [hmod]
        clear hmod
        go_wp2_with fail
        refine (known_any w5 PS4.kon PS4.fir).mono ?_
        rintro e w6 ⟨rfl, hb6⟩
        go_wp2
        go_ret
        exact ⟨rfl, PS4.bel.trans (hb6.mono PS4.bel.size)⟩
      · have hjz : ¬ ((j : Int) < (qn : Int)) := by omega
        have hjd : decide ((j : Int) < (qn : Int)) = false := by simpa using hjz
        clear hgo
        go_wp2_with (refine wpList_slice_from rfl 29 (.tmp 57) (.tmp 58) rfl 5 Tryd.underlying29 Tryd.sz1v _ _ _ rfl .i64 _ at_ rfl rfl hat ?_; intro b5 hb5)
        have hdlies : Lies w da l := hd.lies
        have hlB : IsB l := hd.isB
        have hblk : 0 < l.length → ∀ x, da = some x → x.block < w.heap.size := hd.blk
        refine (write_any w.heap.size (l.take at_) (l.drop at_) b5 (dn - at_) (dc - at_) wr PS1.dg PS1.kon (unhide HGK) (by rw [List.length_drop, unhide HDL]) (fun x hx => hlB x (List.mem_of_mem_drop hx)) (Lies.from (hdlies.later PS1.bel) (unhide hb5) (by rw [unhide HDL]; exact hdle)) (fun hp => from_block (unhide hb5) (fun x hx => by have := hblk (by rw [List.length_drop] at hp; omega) x hx; omega)) (by omega) (by unfold maxLen; omega)).mono ?_
        rintro e w2 ⟨rfl, hD2, hbut⟩
        rw [List.take_append_drop] at hD2
        have PS2 := PS1.wrote hD2 hbut (Nat.le_refl _) (unhide HGK) (unhide HGF)
        clear hD2 hbut PS1
        obtain ⟨R, hRR⟩ : ∃ R, R = sumZ l := ⟨_, rfl⟩
        have E1 := eqHash_t R (by rw [hRR]; exact sumZ_length _)
        have HRR := hide hRR
        clear hRR
        go_wp2_with fail
        refine (digSum_any w.heap.size l w2 PS2.dg PS2.kon).mono ?_
        rintro e w3 ⟨rfl, hb3⟩
        rw [← unhide HRR]
        have PS3 := PS2.later hb3
        clear hb3 PS2
        go_wp2_with fail
        refine (sum_any l da dn dc w3 PS3.kon PS3.fir (unhide HDL) hlB (hdlies.later PS3.bel) (fun hp x hx => Nat.lt_of_lt_of_le (hblk hp x hx) PS3.bel.size) hdle (by unfold maxLen; omega)).mono ?_
        rintro e w4 ⟨rfl, hb4⟩
        rw [← unhide HRR]
        have PS4 := PS3.later hb4
        clear hb4 PS3
        go_wp2_with fail
        refine (len_any w.heap.size l w4 PS4.dg).mono ?_
        rintro e w5 ⟨rfl, rfl⟩
        rw [unhide HDL]
        have hmod : (dn : Int) % 18446744073709551616 = (dn : Int) := by omega
        rw [hmod]
        clear hmod
        go_wp2_with fail
        refine (known_any w5 PS4.kon PS4.fir).mono ?_
        rintro e w6 ⟨rfl, hb6⟩
        go_wp2
        go_ret
        exact ⟨rfl, PS4.bel.trans (hb6.mono PS4.bel.size)⟩
end Go.Proofs.YtkkcjjjeckhbcaaDoor
