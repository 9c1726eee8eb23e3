import Derived.Test.YtjedgkcpkieaeaaMsW
import Derived.Deep.QuietTactic
import Derived.BigQuiet
set_option linter.unusedSimpArgs false
set_option linter.unusedVariables false
namespace Go.Proofs.Ytjedgkcpkieaeaa
open Go.RowKit

theorem yl_loadC {ops : Array Oper} {o : Oper} {a : Act} {S : World → Prop} (hw : Region.wanted o (yielded ops a.tmps) = true) (t : TypeId) (x : Operand) (ho : o.op = .load t x) (b off : Nat) (hx : a.eval x = .pointer (some ⟨b, off, none⟩)) (v : Value) (hc : ∀ w, S w → w.cell? ⟨b, off, none⟩ = some v) {d : TypeDesc} (hu : Try.prog.underlying t = some d) (hd : d.isRow = false) : YieldsIf Try.prog ops S o v a := by
  refine .inl ⟨hw, fun w hS => ?_⟩
  have hA : (isAgg t).run Try.prog w = .ok false w := by
    unfold isAgg
    rw [Sem.run_bind, run_underlying hu w]
    cases d <;> simp_all [TypeDesc.isRow]
  have hl : (loadVar t ⟨b, off, none⟩).run Try.prog w = .ok v w := by
    simp [loadVar, Sem.run_bind, hA, run_load, hc w hS]
  unfold execOp
  simp only [ho, hx, Instr.loadAt, Instr.sureAddr, Sem.run_bind, Sem.run_pure, Result.andThen_ok, hl]
theorem at_b {l : List Bool} {k : Nat} {q : Bool} (hk : k < l.length) (hq : l.getD k false = q) : At (l.flatMap bC) k [.bool q] := by
  have := (pt_b hk q).at_
  have e : l.set k q = l := by
    subst hq
    apply List.ext_getElem
    · simp
    · intro i h1 h2
      rw [List.getElem_set]; split
      · rename_i e; subst e; simp [hk]
      · rfl
  rw [e] at this; exact this
/-- the one or the other, up to k -/
def orK (l m : List Bool) (k : Nat) : List Bool := (List.range l.length).map fun i => if i < k then l.getD i false || m.getD i false else l.getD i false
def orL (l m : List Bool) : List Bool := orK l m l.length
theorem orK_len (l m : List Bool) (k : Nat) : (orK l m k).length = l.length := by simp [orK]
theorem orK_zero (l m : List Bool) : orK l m 0 = l := by
  apply List.ext_getElem
  · simp [orK]
  · intro i h1 h2; simp [orK, h2]
theorem orK_at (l m : List Bool) (k : Nat) (hk : k < l.length) : (orK l m k).getD k false = l.getD k false := by simp [orK, hk]
theorem orK_set (l m : List Bool) (k : Nat) (hk : k < l.length) (q : Bool) (hq : q = (l.getD k false || m.getD k false)) : (orK l m k).set k q = orK l m (k + 1) := by
  subst hq
  apply List.ext_getElem
  · simp [orK]
  · intro i h1 h2
    rw [List.getElem_set]
    simp only [orK, List.getElem_map, List.getElem_range]
    split
    · rename_i e; subst e; rw [if_pos (by omega)]
    · by_cases h : i < k
      · rw [if_pos h, if_pos (by omega)]
      · rw [if_neg h, if_neg (by omega)]
set_option maxHeartbeats 2000000 in
set_option maxRecDepth 100000 in
theorem join_ok (s r t t' : Int) (xa : Option Addr) (n xc : Nat) (l : List Bool) (ya : Option Addr) (yc : Nat) (m : List Bool) (w : World) (hx : Sb w ⟨xa, n, xc, l⟩) (hy : Sb w ⟨ya, n, yc, m⟩) (hn : n ≤ 1048576) :
    Calls Try.prog 24 #[aV (rC ⟨s, r, .slice xa n xc, t⟩), aV (rC ⟨s, r, .slice ya n yc, t'⟩)] w fun e w' => ∃ u, e = .returned (.tuple #[u, .int .i64 0]) ∧ Rn w' w.heap.size s r n (orL l m) (mxZ t t') u ∧ Below w.heap.size w w' := by
  have hS := Hs17.begin w (fun w => Sb w ⟨xa, n, xc, l⟩ ∧ Sb w ⟨ya, n, yc, m⟩) (fun w' ho => ⟨hx.old ho, hy.old ho⟩)
  have HL : Hid (l.length = n) := hide hx.len
  have HM : Hid (m.length = n) := hide hy.len
  clear hx hy
  go_enter Try.func24, Try.ntmps24
  go_upto_region 0 with fail
  refine wp_region_lit ?_
  refine wl_box (by kernel_rfl) 27 (.tmp 0) rfl (rC (⟨s, r, (.slice xa n xc), t⟩ : Rfd)) rfl hS ?_
  clear hS
  intro g1 w1 hS
  simp [Act.put]
  refine wl_box (by kernel_rfl) 27 (.tmp 1) rfl (rC (⟨s, r, (.slice ya n yc), t'⟩ : Rfd)) rfl hS ?_
  clear hS
  intro g2 w2 hS
  simp [Act.put]
  refine wl_alloc (by kernel_rfl) 27 rfl (rC (⟨0, 0, (.slice none 0 0), 0⟩ : Rfd)) Try.inR hS ?_
  clear hS
  intro g3 w3 hS
  simp [Act.put]
  refine wl (by kernel_rfl) fun kQ hkQ => ?_
  go_simp
  refine hkQ _ _ ?_
  clear hkQ kQ
  refine wpList_nil ?_
  have cx0 : w3.cell? ⟨g1, 0, none⟩ = some (.int .i64 s) := by have := (at_rs (⟨s, r, (.slice xa n xc), t⟩ : Rfd)).range (hS.get 2 rfl) 0 _ rfl; simpa using this
  have cx1 : w3.cell? ⟨g1, 1, none⟩ = some (.int .i64 r) := by have := (at_rr (⟨s, r, (.slice xa n xc), t⟩ : Rfd)).range (hS.get 2 rfl) 0 _ rfl; simpa using this
  have cx2 : w3.cell? ⟨g1, 2, none⟩ = some (.slice xa n xc) := by have := (at_rv (⟨s, r, (.slice xa n xc), t⟩ : Rfd)).range (hS.get 2 rfl) 0 _ rfl; simpa using this
  have cy0 : w3.cell? ⟨g2, 0, none⟩ = some (.int .i64 s) := by have := (at_rs (⟨s, r, (.slice ya n yc), t'⟩ : Rfd)).range (hS.get 1 rfl) 0 _ rfl; simpa using this
  have cy1 : w3.cell? ⟨g2, 1, none⟩ = some (.int .i64 r) := by have := (at_rr (⟨s, r, (.slice ya n yc), t'⟩ : Rfd)).range (hS.get 1 rfl) 0 _ rfl; simpa using this
  have cy2 : w3.cell? ⟨g2, 2, none⟩ = some (.slice ya n yc) := by have := (at_rv (⟨s, r, (.slice ya n yc), t'⟩ : Rfd)).range (hS.get 1 rfl) 0 _ rfl; simpa using this
  go_upto_region 3 with fail
  clear cx0 cx1 cx2 cy0 cy1 cy2
  refine wp_region_lit ?_
  refine wl_load (by kernel_rfl) 27 (.tmp 2) rfl 2 rfl 0 rfl (rC (⟨s, r, (.slice xa n xc), t⟩ : Rfd)) (At.self _) Try.underlying27 rfl (szR _) hS ?_
  simp [Act.put]
  refine wl (by kernel_rfl) fun kQ hkQ => ?_
  go_simp
  refine (apart_any s r t xa n xc l _ hS.K.1 hn).mono ?_
  rintro e w4 ⟨u, rfl, ⟨hl9, g9, rfl, hg9, hA9⟩, hb1⟩
  replace hS := hS.newRow hb1 hg9 hA9
  refine hkQ _ _ ?_
  clear hkQ kQ hb1
  clear hg9 hA9 hl9
  refine wl_alloc (by kernel_rfl) 27 rfl (rC (⟨0, 0, (.slice none 0 0), 0⟩ : Rfd)) Try.inR hS ?_
  clear hS
  intro g5 w5 hS
  simp [Act.put]
  refine wl_store (by kernel_rfl) 27 (.tmp 6) (.tmp 31) rfl 0 rfl 0 rfl (rC (⟨s, r, (.slice (some ⟨g9, 0, none⟩) n n), t⟩ : Rfd)) (rC (⟨s, r, (.slice (some ⟨g9, 0, none⟩) n n), t⟩ : Rfd)) (pt_r (⟨0, 0, (.slice none 0 0), 0⟩ : Rfd) (⟨s, r, (.slice (some ⟨g9, 0, none⟩) n n), t⟩ : Rfd)) rfl (szR _) (one_r _ _ _ _ _ _) hS ?_
  clear hS
  intro w6 hS
  change Hs17 w [(g5, 27, (rC (⟨s, r, (.slice (some ⟨g9, 0, none⟩) n n), t⟩ : Rfd))), (g9, 4, (l.flatMap bC)), (g3, 27, (rC (⟨0, 0, (.slice none 0 0), 0⟩ : Rfd))), (g2, 27, (rC (⟨s, r, (.slice ya n yc), t'⟩ : Rfd))), (g1, 27, (rC (⟨s, r, (.slice xa n xc), t⟩ : Rfd)))] (fun w => Sb w ⟨xa, n, xc, l⟩ ∧ Sb w ⟨ya, n, yc, m⟩) w6 at hS
  simp [Act.put]
  refine wpList_nil ?_
  go_upto_region 4 with fail
  refine wp_region_lit ?_
  refine wl (by kernel_rfl) fun kQ hkQ => ?_
  go_simp
  refine hkQ _ _ ?_
  clear hkQ kQ
  refine wl_load1 (by kernel_rfl) 25 (.tmp 32) rfl 0 rfl 2 rfl ((.slice (some ⟨g9, 0, none⟩) n n)) (at_rv (⟨s, r, (.slice (some ⟨g9, 0, none⟩) n n), t⟩ : Rfd)) Try.underlying25 rfl hS ?_
  simp [Act.put]
  refine wl (by kernel_rfl) fun kQ hkQ => ?_
  go_simp
  refine hkQ _ _ ?_
  clear hkQ kQ
  refine wl (by kernel_rfl) fun kQ hkQ => ?_
  go_simp
  refine hkQ _ _ ?_
  clear hkQ kQ
  refine wpList_nil ?_
  go_wp2_with fail
  go_loopw [7, 35] (fun _ i wr => ∃ k : Nat, k ≤ n ∧ i = .int .i64 k ∧ Hs17 w [(g5, 27, (rC (⟨s, r, (.slice (some ⟨g9, 0, none⟩) n n), t⟩ : Rfd))), (g9, 4, ((orK l m k).flatMap bC)), (g3, 27, (rC (⟨0, 0, (.slice none 0 0), 0⟩ : Rfd))), (g2, 27, (rC (⟨s, r, (.slice ya n yc), t'⟩ : Rfd))), (g1, 27, (rC (⟨s, r, (.slice xa n xc), t⟩ : Rfd)))] (fun w => Sb w ⟨xa, n, xc, l⟩ ∧ Sb w ⟨ya, n, yc, m⟩) wr) (fun _ i _ => n - (intOf i).toNat)
  case atStart => exact ⟨0, by omega, rfl, by rw [orK_zero]; exact hS⟩
  case round =>
    clear hS
    obtain ⟨k, hk, rfl, hS⟩ := hrel
    by_cases hlt : k < n
    · have hkz : (k : Int) < (n : Int) := by omega
      have hkl : k < (orK l m k).length := by rw [orK_len, unhide HL]; exact hlt
      obtain ⟨b, off, hya, hbs, -⟩ := hS.K.2.at_ (k := k) hlt
      simp only at hya
      subst hya
      obtain ⟨q, hqe⟩ : ∃ q, l.getD k false = q := ⟨_, rfl⟩
      obtain ⟨q2, hqe2⟩ : ∃ q2, m.getD k false = q2 := ⟨_, rfl⟩
      have HQ := hide hqe
      have HQ2 := hide hqe2
      have HKL := hide hkl
      clear hqe hqe2 hkl
      cases q with
      | true =>
      go_upto_region 7 with fail
      refine wp_region_noPanic ?_
      replace hS := hS.drew
      refine wp_region_held_drew (S := Hs17 w [(g5, 27, (rC (⟨s, r, (.slice (some ⟨g9, 0, none⟩) n n), t⟩ : Rfd))), (g3, 27, (rC (⟨0, 0, (.slice none 0 0), 0⟩ : Rfd))), (g2, 27, (rC (⟨s, r, (.slice (some ⟨b, off, none⟩) n yc), t'⟩ : Rfd))), (g1, 27, (rC (⟨s, r, (.slice xa n xc), t⟩ : Rfd)))] (fun w => Sb w ⟨xa, n, xc, l⟩ ∧ Sb w ⟨some ⟨b, off, none⟩, n, yc, m⟩)) (by kernel_rfl) (hS.sub ((((((List.Sublist.slnil).cons_cons _).cons_cons _).cons_cons _).cons _).cons_cons _)) (fun hHeld => ?_)
      generalize World.drew _ = w41 at hS hHeld ⊢
      refine wpAnyH_take (i := 0) (oi := _) (v := .pointer (some ⟨g5, 2, none⟩)) rfl (by kernel_rfl) (by kernel_rfl) (by kernel_rfl) (fun _ _ _ h => h) (Or.inl ⟨by rfl, fun w hSw => by go_simp⟩) hHeld ?_
      simp [Act.put]
      refine wpAnyH_take (i := 1) (oi := _) (v := (.slice (some ⟨g9, 0, none⟩) n n)) rfl (by kernel_rfl) (by kernel_rfl) (by kernel_rfl) (fun _ _ _ h => h) (yl_load1 (by kernel_rfl) 25 (.tmp 38) rfl 0 rfl 2 rfl ((.slice (some ⟨g9, 0, none⟩) n n)) (at_rv (⟨s, r, (.slice (some ⟨g9, 0, none⟩) n n), t⟩ : Rfd)) Try.underlying25 rfl) hHeld ?_
      simp [Act.put]
      refine wpAnyH_take (i := 2) (oi := _) (v := .int .i64 (k : Int)) rfl (by kernel_rfl) (by kernel_rfl) (by kernel_rfl) (fun _ _ _ h => h) (Or.inl ⟨by rfl, fun w hSw => by go_simp⟩) hHeld ?_
      simp [Act.put]
      refine wpAnyH_take (i := 3) (oi := _) (v := .pointer (some ⟨g5, 2, none⟩)) rfl (by kernel_rfl) (by kernel_rfl) (by kernel_rfl) (fun _ _ _ h => h) (Or.inl ⟨by rfl, fun w hSw => by go_simp⟩) hHeld ?_
      simp [Act.put]
      refine wpAnyH_take (i := 4) (oi := _) (v := (.slice (some ⟨g9, 0, none⟩) n n)) rfl (by kernel_rfl) (by kernel_rfl) (by kernel_rfl) (fun _ _ _ h => h) (yl_load1 (by kernel_rfl) 25 (.tmp 41) rfl 0 rfl 2 rfl ((.slice (some ⟨g9, 0, none⟩) n n)) (at_rv (⟨s, r, (.slice (some ⟨g9, 0, none⟩) n n), t⟩ : Rfd)) Try.underlying25 rfl) hHeld ?_
      simp [Act.put]
      refine wpAnyH_take (i := 5) (oi := _) (v := .int .i64 (k : Int)) rfl (by kernel_rfl) (by kernel_rfl) (by kernel_rfl) (fun _ _ _ h => h) (Or.inl ⟨by rfl, fun w hSw => by go_simp⟩) hHeld ?_
      simp [Act.put]
      refine wpAnyH_take (i := 6) (oi := _) (v := (.pointer (some ⟨g9, k, none⟩))) rfl (by kernel_rfl) (by kernel_rfl) (by kernel_rfl) (fun _ _ _ h => h) (Or.inl ⟨by rfl, fun w hSw => by go_simp⟩) hHeld ?_
      simp [Act.put]
      
      refine wpAnyH_ready (rs := [7]) (by kernel_rfl) (by simp) ?_
      refine (AllReadyH.cons rfl (fun kQ hkQ => ?_) AllReadyH.nil)
      refine dw (by kernel_rfl) (op_val (.bool true) (ex_load1 4 (.tmp 44) rfl 1 rfl k rfl (.bool true) (at_b (unhide HKL) ((orK_at l m k (by rw [unhide HL]; exact hlt)).trans (unhide HQ))) Try.underlying4 rfl hS) ?_)
      refine hkQ.out _ _ (hS.sub ((((((List.Sublist.slnil).cons_cons _).cons_cons _).cons_cons _).cons _).cons_cons _)) (fun hHeld => ?_)
      clear hkQ kQ
      simp [Act.put]
      refine wpAnyH_take (i := 8) (oi := _) (v := .bool true) rfl (by kernel_rfl) (by kernel_rfl) (by kernel_rfl) (fun _ _ _ h => h) (Or.inl ⟨by rfl, fun w hSw => by go_simp⟩) hHeld ?_
      simp [Act.put]
      refine wpAnyH_take (i := 9) (oi := _) (v := undef) rfl (by kernel_rfl) (by kernel_rfl) (by kernel_rfl) (fun _ _ _ h => h) (Or.inr ⟨by rfl, rfl⟩) hHeld ?_
      simp [Act.put]
      refine wpAnyH_take (i := 10) (oi := _) (v := undef) rfl (by kernel_rfl) (by kernel_rfl) (by kernel_rfl) (fun _ _ _ h => h) (Or.inr ⟨by rfl, rfl⟩) hHeld ?_
      simp [Act.put]
      refine wpAnyH_take (i := 11) (oi := _) (v := undef) rfl (by kernel_rfl) (by kernel_rfl) (by kernel_rfl) (fun _ _ _ h => h) (Or.inr ⟨by rfl, rfl⟩) hHeld ?_
      simp [Act.put]
      refine wpAnyH_take (i := 12) (oi := _) (v := undef) rfl (by kernel_rfl) (by kernel_rfl) (by kernel_rfl) (fun _ _ _ h => h) (Or.inr ⟨by rfl, rfl⟩) hHeld ?_
      simp [Act.put]
      refine wpAnyH_take (i := 13) (oi := _) (v := undef) rfl (by kernel_rfl) (by kernel_rfl) (by kernel_rfl) (fun _ _ _ h => h) (Or.inr ⟨by rfl, rfl⟩) hHeld ?_
      simp [Act.put]
      refine wpAnyH_take (i := 14) (oi := _) (v := .bool true) rfl (by kernel_rfl) (by kernel_rfl) (by kernel_rfl) (fun _ _ _ h => h) (Or.inl ⟨by rfl, fun w hSw => by go_simp⟩) hHeld ?_
      simp [Act.put]
      refine wpAnyH_take (i := 15) (oi := _) (v := (.pointer (some ⟨g9, k, none⟩))) rfl (by kernel_rfl) (by kernel_rfl) (by kernel_rfl) (fun _ _ _ h => h) (Or.inl ⟨by rfl, fun w hSw => by go_simp⟩) hHeld ?_
      simp [Act.put]
      refine wpAnyH_ready (rs := [16]) (by kernel_rfl) (by simp) ?_
      refine (AllReadyH.cons rfl (fun kQ hkQ => ?_) AllReadyH.nil)
      refine dw (by kernel_rfl) (op_store 4 (.tmp 53) (.tmp 52) rfl 1 rfl k rfl [.bool true] (((orK l m k).set k true).flatMap bC) (pt_b (unhide HKL) true) rfl Try.in1b (one_one rfl) hS ?_)
      clear hS hHeld
      intro w42 hS
      change Hs17 w [(g5, 27, (rC (⟨s, r, (.slice (some ⟨g9, 0, none⟩) n n), t⟩ : Rfd))), (g9, 4, (((orK l m k).set k true).flatMap bC)), (g3, 27, (rC (⟨0, 0, (.slice none 0 0), 0⟩ : Rfd))), (g2, 27, (rC (⟨s, r, (.slice (some ⟨b, off, none⟩) n yc), t'⟩ : Rfd))), (g1, 27, (rC (⟨s, r, (.slice xa n xc), t⟩ : Rfd)))] (fun w => Sb w ⟨xa, n, xc, l⟩ ∧ Sb w ⟨some ⟨b, off, none⟩, n, yc, m⟩) w42 at hS
      refine hkQ.out _ _ (hS.sub ((((((List.Sublist.slnil).cons_cons _).cons_cons _).cons_cons _).cons _).cons_cons _)) (fun hHeld => ?_)
      clear hkQ kQ
      simp [Act.put]
      refine wpAnyH_done (by kernel_rfl) ?_ _
      unfold NoPanic
      clear hHeld
      rw [orK_set l m k (by rw [unhide HL]; exact hlt) true (by rw [unhide HQ, unhide HQ2]; rfl)] at hS
      go_wp2
      go_roundw
      case rel => exact ⟨k + 1, by omega, by go_num, hS⟩
      case measure => simp [intOf]; omega
      | false =>
      go_upto_region 7 with fail
      refine wp_region_noPanic ?_
      replace hS := hS.drew
      refine wp_region_held_drew (S := Hs17 w [(g5, 27, (rC (⟨s, r, (.slice (some ⟨g9, 0, none⟩) n n), t⟩ : Rfd))), (g3, 27, (rC (⟨0, 0, (.slice none 0 0), 0⟩ : Rfd))), (g2, 27, (rC (⟨s, r, (.slice (some ⟨b, off, none⟩) n yc), t'⟩ : Rfd))), (g1, 27, (rC (⟨s, r, (.slice xa n xc), t⟩ : Rfd)))] (fun w => Sb w ⟨xa, n, xc, l⟩ ∧ Sb w ⟨some ⟨b, off, none⟩, n, yc, m⟩)) (by kernel_rfl) (hS.sub ((((((List.Sublist.slnil).cons_cons _).cons_cons _).cons_cons _).cons _).cons_cons _)) (fun hHeld => ?_)
      generalize World.drew _ = w41 at hS hHeld ⊢
      refine wpAnyH_take (i := 0) (oi := _) (v := .pointer (some ⟨g5, 2, none⟩)) rfl (by kernel_rfl) (by kernel_rfl) (by kernel_rfl) (fun _ _ _ h => h) (Or.inl ⟨by rfl, fun w hSw => by go_simp⟩) hHeld ?_
      simp [Act.put]
      refine wpAnyH_take (i := 1) (oi := _) (v := (.slice (some ⟨g9, 0, none⟩) n n)) rfl (by kernel_rfl) (by kernel_rfl) (by kernel_rfl) (fun _ _ _ h => h) (yl_load1 (by kernel_rfl) 25 (.tmp 38) rfl 0 rfl 2 rfl ((.slice (some ⟨g9, 0, none⟩) n n)) (at_rv (⟨s, r, (.slice (some ⟨g9, 0, none⟩) n n), t⟩ : Rfd)) Try.underlying25 rfl) hHeld ?_
      simp [Act.put]
      refine wpAnyH_take (i := 2) (oi := _) (v := .int .i64 (k : Int)) rfl (by kernel_rfl) (by kernel_rfl) (by kernel_rfl) (fun _ _ _ h => h) (Or.inl ⟨by rfl, fun w hSw => by go_simp⟩) hHeld ?_
      simp [Act.put]
      refine wpAnyH_take (i := 3) (oi := _) (v := .pointer (some ⟨g5, 2, none⟩)) rfl (by kernel_rfl) (by kernel_rfl) (by kernel_rfl) (fun _ _ _ h => h) (Or.inl ⟨by rfl, fun w hSw => by go_simp⟩) hHeld ?_
      simp [Act.put]
      refine wpAnyH_take (i := 4) (oi := _) (v := (.slice (some ⟨g9, 0, none⟩) n n)) rfl (by kernel_rfl) (by kernel_rfl) (by kernel_rfl) (fun _ _ _ h => h) (yl_load1 (by kernel_rfl) 25 (.tmp 41) rfl 0 rfl 2 rfl ((.slice (some ⟨g9, 0, none⟩) n n)) (at_rv (⟨s, r, (.slice (some ⟨g9, 0, none⟩) n n), t⟩ : Rfd)) Try.underlying25 rfl) hHeld ?_
      simp [Act.put]
      refine wpAnyH_take (i := 5) (oi := _) (v := .int .i64 (k : Int)) rfl (by kernel_rfl) (by kernel_rfl) (by kernel_rfl) (fun _ _ _ h => h) (Or.inl ⟨by rfl, fun w hSw => by go_simp⟩) hHeld ?_
      simp [Act.put]
      refine wpAnyH_take (i := 6) (oi := _) (v := (.pointer (some ⟨g9, k, none⟩))) rfl (by kernel_rfl) (by kernel_rfl) (by kernel_rfl) (fun _ _ _ h => h) (Or.inl ⟨by rfl, fun w hSw => by go_simp⟩) hHeld ?_
      simp [Act.put]
      
      refine wpAnyH_ready (rs := [7]) (by kernel_rfl) (by simp) ?_
      refine (AllReadyH.cons rfl (fun kQ hkQ => ?_) AllReadyH.nil)
      refine dw (by kernel_rfl) (op_val (.bool false) (ex_load1 4 (.tmp 44) rfl 1 rfl k rfl (.bool false) (at_b (unhide HKL) ((orK_at l m k (by rw [unhide HL]; exact hlt)).trans (unhide HQ))) Try.underlying4 rfl hS) ?_)
      refine hkQ.out _ _ (hS.sub ((((((List.Sublist.slnil).cons_cons _).cons_cons _).cons_cons _).cons _).cons_cons _)) (fun hHeld => ?_)
      clear hkQ kQ
      simp [Act.put]
      refine wpAnyH_take (i := 8) (oi := _) (v := .bool false) rfl (by kernel_rfl) (by kernel_rfl) (by kernel_rfl) (fun _ _ _ h => h) (Or.inl ⟨by rfl, fun w hSw => by go_simp⟩) hHeld ?_
      simp [Act.put]
      refine wpAnyH_take (i := 9) (oi := _) (v := .pointer (some ⟨g2, 2, none⟩)) rfl (by kernel_rfl) (by kernel_rfl) (by kernel_rfl) (fun _ _ _ h => h) (Or.inl ⟨by rfl, fun w hSw => by go_simp⟩) hHeld ?_
      simp [Act.put]
      refine wpAnyH_take (i := 10) (oi := _) (v := (.slice (some ⟨b, off, none⟩) n yc)) rfl (by kernel_rfl) (by kernel_rfl) (by kernel_rfl) (fun _ _ _ h => h) (yl_load1 (by kernel_rfl) 25 (.tmp 47) rfl 2 rfl 2 rfl ((.slice (some ⟨b, off, none⟩) n yc)) (at_rv (⟨s, r, (.slice (some ⟨b, off, none⟩) n yc), t'⟩ : Rfd)) Try.underlying25 rfl) hHeld ?_
      simp [Act.put]
      refine wpAnyH_take (i := 11) (oi := _) (v := .int .i64 (k : Int)) rfl (by kernel_rfl) (by kernel_rfl) (by kernel_rfl) (fun _ _ _ h => h) (Or.inl ⟨by rfl, fun w hSw => by go_simp⟩) hHeld ?_
      simp [Act.put]
      refine wpAnyH_take (i := 12) (oi := _) (v := (.pointer (some ⟨b, off + k, none⟩))) rfl (by kernel_rfl) (by kernel_rfl) (by kernel_rfl) (fun _ _ _ h => h) (Or.inl ⟨by rfl, fun w hSw => by go_simp⟩) hHeld ?_
      simp [Act.put]
      refine wpAnyH_take (i := 13) (oi := _) (v := .bool q2) rfl (by kernel_rfl) (by kernel_rfl) (by kernel_rfl) (fun _ _ _ h => h) (yl_loadC (by kernel_rfl) 4 (.tmp 50) rfl (b) (off + k) rfl (.bool q2) (fun w hSw => by obtain ⟨b1, o1, e1, -, hc1⟩ := hSw.K.2.at_ (k := k) hlt; simp only at e1; cases e1; rw [← unhide HQ2]; exact hc1) Try.underlying4 rfl) hHeld ?_
      simp [Act.put]
      refine wpAnyH_take (i := 14) (oi := _) (v := .bool q2) rfl (by kernel_rfl) (by kernel_rfl) (by kernel_rfl) (fun _ _ _ h => h) (Or.inl ⟨by rfl, fun w hSw => by go_simp⟩) hHeld ?_
      simp [Act.put]
      refine wpAnyH_take (i := 15) (oi := _) (v := (.pointer (some ⟨g9, k, none⟩))) rfl (by kernel_rfl) (by kernel_rfl) (by kernel_rfl) (fun _ _ _ h => h) (Or.inl ⟨by rfl, fun w hSw => by go_simp⟩) hHeld ?_
      simp [Act.put]
      refine wpAnyH_ready (rs := [16]) (by kernel_rfl) (by simp) ?_
      refine (AllReadyH.cons rfl (fun kQ hkQ => ?_) AllReadyH.nil)
      refine dw (by kernel_rfl) (op_store 4 (.tmp 53) (.tmp 52) rfl 1 rfl k rfl [.bool q2] (((orK l m k).set k q2).flatMap bC) (pt_b (unhide HKL) q2) rfl Try.in1b (one_one rfl) hS ?_)
      clear hS hHeld
      intro w42 hS
      change Hs17 w [(g5, 27, (rC (⟨s, r, (.slice (some ⟨g9, 0, none⟩) n n), t⟩ : Rfd))), (g9, 4, (((orK l m k).set k q2).flatMap bC)), (g3, 27, (rC (⟨0, 0, (.slice none 0 0), 0⟩ : Rfd))), (g2, 27, (rC (⟨s, r, (.slice (some ⟨b, off, none⟩) n yc), t'⟩ : Rfd))), (g1, 27, (rC (⟨s, r, (.slice xa n xc), t⟩ : Rfd)))] (fun w => Sb w ⟨xa, n, xc, l⟩ ∧ Sb w ⟨some ⟨b, off, none⟩, n, yc, m⟩) w42 at hS
      refine hkQ.out _ _ (hS.sub ((((((List.Sublist.slnil).cons_cons _).cons_cons _).cons_cons _).cons _).cons_cons _)) (fun hHeld => ?_)
      clear hkQ kQ
      simp [Act.put]
      refine wpAnyH_done (by kernel_rfl) ?_ _
      unfold NoPanic
      clear hHeld
      rw [orK_set l m k (by rw [unhide HL]; exact hlt) q2 (by rw [unhide HQ, unhide HQ2]; rfl)] at hS
      go_wp2
      go_roundw
      case rel => exact ⟨k + 1, by omega, by go_num, hS⟩
      case measure => simp [intOf]; omega
    · obtain rfl : n = k := by omega
      go_upto_region 9 with fail
      refine wp_region_lit ?_
      refine wl (by kernel_rfl) fun kQ hkQ => ?_
      go_simp
      refine hkQ _ _ ?_
      clear hkQ kQ
      refine wl_load1 (by kernel_rfl) 3 (.tmp 55) rfl 4 rfl 3 rfl (.int .i64 t) (at_rt (⟨s, r, (.slice xa n xc), t⟩ : Rfd)) Try.underlying3 rfl hS ?_
      simp [Act.put]
      refine wl (by kernel_rfl) fun kQ hkQ => ?_
      go_simp
      refine hkQ _ _ ?_
      clear hkQ kQ
      refine wl_load1 (by kernel_rfl) 3 (.tmp 57) rfl 3 rfl 3 rfl (.int .i64 t') (at_rt (⟨s, r, (.slice ya n yc), t'⟩ : Rfd)) Try.underlying3 rfl hS ?_
      simp [Act.put]
      refine wl (by kernel_rfl) fun kQ hkQ => ?_
      go_simp
      refine hkQ _ _ ?_
      clear hkQ kQ
      rw [show (if t < t' then t' else t) = mxZ t t' from rfl]
      refine wl (by kernel_rfl) fun kQ hkQ => ?_
      go_simp
      refine hkQ _ _ ?_
      clear hkQ kQ
      refine wl_store (by kernel_rfl) 3 (.tmp 60) (.tmp 59) rfl 0 rfl 3 rfl [.int .i64 (mxZ t t')] (rC (⟨s, r, (.slice (some ⟨g9, 0, none⟩) n n), (mxZ t t')⟩ : Rfd)) (pt_rt (⟨s, r, (.slice (some ⟨g9, 0, none⟩) n n), t⟩ : Rfd) ((mxZ t t'))) rfl Try.in1 (one_one rfl) hS ?_
      clear hS
      intro w81 hS
      change Hs17 w [(g5, 27, (rC (⟨s, r, (.slice (some ⟨g9, 0, none⟩) n n), (mxZ t t')⟩ : Rfd))), (g9, 4, ((orK l m n).flatMap bC)), (g3, 27, (rC (⟨0, 0, (.slice none 0 0), 0⟩ : Rfd))), (g2, 27, (rC (⟨s, r, (.slice ya n yc), t'⟩ : Rfd))), (g1, 27, (rC (⟨s, r, (.slice xa n xc), t⟩ : Rfd)))] (fun w => Sb w ⟨xa, n, xc, l⟩ ∧ Sb w ⟨ya, n, yc, m⟩) w81 at hS
      simp [Act.put]
      refine wpList_nil ?_
      go_upto_region 10 with fail
      refine wp_region_lit ?_
      refine wl_load (by kernel_rfl) 27 (.tmp 6) rfl 0 rfl 0 rfl (rC (⟨s, r, (.slice (some ⟨g9, 0, none⟩) n n), (mxZ t t')⟩ : Rfd)) (At.self _) Try.underlying27 rfl (szR _) hS ?_
      simp [Act.put]
      refine wl_store (by kernel_rfl) 27 (.tmp 4) (.tmp 61) rfl 2 rfl 0 rfl (rC (⟨s, r, (.slice (some ⟨g9, 0, none⟩) n n), (mxZ t t')⟩ : Rfd)) (rC (⟨s, r, (.slice (some ⟨g9, 0, none⟩) n n), (mxZ t t')⟩ : Rfd)) (pt_r (⟨0, 0, (.slice none 0 0), 0⟩ : Rfd) (⟨s, r, (.slice (some ⟨g9, 0, none⟩) n n), (mxZ t t')⟩ : Rfd)) rfl (szR _) (one_r _ _ _ _ _ _) hS ?_
      clear hS
      intro w82 hS
      change Hs17 w [(g5, 27, (rC (⟨s, r, (.slice (some ⟨g9, 0, none⟩) n n), (mxZ t t')⟩ : Rfd))), (g9, 4, ((orK l m n).flatMap bC)), (g3, 27, (rC (⟨s, r, (.slice (some ⟨g9, 0, none⟩) n n), (mxZ t t')⟩ : Rfd))), (g2, 27, (rC (⟨s, r, (.slice ya n yc), t'⟩ : Rfd))), (g1, 27, (rC (⟨s, r, (.slice xa n xc), t⟩ : Rfd)))] (fun w => Sb w ⟨xa, n, xc, l⟩ ∧ Sb w ⟨ya, n, yc, m⟩) w82 at hS
      simp [Act.put]
      refine wl (by kernel_rfl) fun kQ hkQ => ?_
      go_simp
      refine hkQ _ _ ?_
      clear hkQ kQ
      refine wpList_nil ?_
      go_wp2_with fail
      refine bodyPost_ret (res_ct rfl hS 2 rfl rfl Try.underlying27 rfl (szR _) _ rfl) rfl ?_
      exact ⟨_, rfl, ⟨by rw [orL, orK_len]; exact unhide HL, _, rfl, hS.old _ (List.mem_of_getElem? (i := 1) rfl), by have := hS.get 1 rfl; rw [orL, unhide HL]; exact this⟩, hS.bel⟩
end Go.Proofs.Ytjedgkcpkieaeaa
