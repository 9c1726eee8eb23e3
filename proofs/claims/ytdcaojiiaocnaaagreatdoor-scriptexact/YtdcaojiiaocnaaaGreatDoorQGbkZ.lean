import Derived.Test.YtdcaojiiaocnaaaGreatDoorQGbjZ
import Derived.Deep.DeepCutAuto
import Derived.Deep.QuietTactic
import Derived.BigQuiet
set_option linter.unusedVariables false
set_option linter.unusedSimpArgs false
namespace Go.Proofs.YtdcaojiiaocnaaaGreatDoor
open Go.RowKit

theorem perm_l {α : Type} (s : α) (A B C D : List α) : (s :: (A ++ (B ++ (C ++ D)))).Perm ((s :: (A ++ (B ++ D))) ++ C) := by
  have h : (A ++ (B ++ (C ++ D))).Perm (A ++ (B ++ (D ++ C))) := List.Perm.append_left A (List.Perm.append_left B List.perm_append_comm)
  have e : A ++ (B ++ (D ++ C)) = (A ++ (B ++ D)) ++ C := by simp [List.append_assoc]
  rw [e] at h
  exact h.cons s
theorem perm_w {α : Type} (s : α) (A B C D : List α) : (s :: (A ++ (B ++ (C ++ D)))) = ((s :: (A ++ (B ++ C))) ++ D) := by simp [List.append_assoc]
/-- what a call made and will not be written to again -/
theorem Hs17.ownS {α : Type} {f : α → List Value} {sz : Nat} {e : TypeId} {w0 w w' : World} {rows : List Row} {K : World → Prop} {v : Value} {xs : List α} (hS : Hs17 w0 rows K w) (hb : Below w.heap.size w w') (hO : w'.ownsRow w.heap.size e sz v xs.length (xs.flatMap f)) (hf : ∀ x ∈ xs, (f x).length = sz) :
    ∃ s : Sx α, v = s.v ∧ s.xs = xs ∧ Hs17 w0 rows (fun w => K w ∧ Sx.Ok f sz w s) w' := by
  obtain ⟨s, hv, hx, hok, ha⟩ := own_sx hO hf
  refine ⟨s, hv, hx, (hS.later hb).also (fun w'' h1 h2 => hok.keep h1 (fun _ x hx hlt => h2 _ hlt (fun p hp e => ?_)))⟩
  have h3 := (hS.arr p hp).lt
  have h4 := (ha x hx).1
  omega
section
variable {o : Oper} {a : Act} {w w0 : World} {k : Act → World → Prop} {Q : Exit → Act → World → Prop} {K : World → Prop}
/-- a slice of one slice -/
theorem op_bsS {rows : List Row} (x : Operand) (ho : o.op = .buildSlice 24 1 #[(0, x)]) (p : (Sx Int)) (hx : a.eval x = p.v) (hS : Hs17 w0 rows K w)
    (h : ∀ g w', Hs17 w0 ((g, 28, sV p) :: rows) K w' → k (a.put o.dst (.slice (some ⟨g, 0, none⟩) 1 1)) w') : o.wp Tryz.prog a w k Q :=
  op_bs1G 24 28 x ho Tryz.underlying24 Tryz.infoSH p.v (sV p) hx rfl rfl (by omega) (by omega) hS h
/-- one slice more -/
theorem op_appS {rows R : List Row} {S : Sx (Sx Int)} {l : List (Sx Int)} (s x : Operand) (ho : o.op = .call { callee := .builtin .append, args := #[s, x], argTypes := #[24, 24] })
    (hR : RowG sV 1 28 S l R) (hS : Hs17 w0 (rows ++ R) K w) (hs : a.eval s = S.v) (g : Nat) (p : (Sx Int)) (hx : a.eval x = .slice (some ⟨g, 0, none⟩) 1 1) (hg : (g, 28, sV p) ∈ rows) (hb : l.length ≤ 5000000000000)
    (h : ∀ S' R' w', RowG sV 1 28 S' (l ++ [p]) R' → Hs17 w0 (rows ++ R') K w' → k (a.put o.dst S'.v) w') : o.wp Tryz.prog a w k Q := by
  have hA := hS.arr _ (List.mem_append_left R hg)
  have hy : Sx.Ok sV 1 w (⟨some ⟨g, 0, none⟩, 1, 1, [p]⟩ : Sx (Sx Int)) := by
    refine ⟨rfl, Nat.le_refl _, by show 1 ≤ maxLen; unfold maxLen; omega, (fun h => by cases h), fun _ => ⟨g, 0, rfl, hA.lt, fun i y hi => ?_⟩⟩
    cases i with
    | zero => simp at hi; subst hi; simpa using (At.self _).range hA
    | succ i => simp at hi
  refine op_appendL s x 24 ho Tryz.underlying24 Tryz.infoSH rfl (by omega) hs (hR.own (fun z _ => sV_len z) hS) (⟨some ⟨g, 0, none⟩, 1, 1, [p]⟩ : Sx (Sx Int)) hy (fun z _ => sV_len z) (fun z _ => one_sV z) hx (by simp only; omega) (by omega) hS.bel.size ?_
  intro v' w' h1 h2 h3
  obtain ⟨S', R', rfl, hR', hS'⟩ := hS.regrow hR (fun z _ => sV_len z) h2 h1 h3
  exact h S' R' w' hR' hS'
/-- a copy -/
theorem op_cpy {rows : List Row} (s x : Operand) (ho : o.op = .call { callee := .builtin .append, args := #[s, x], argTypes := #[28, 28] }) (hs : a.eval s = .slice none 0 0) (p : (Sx Int)) (hx : a.eval x = p.v) (hp : Sx.Ok uC 1 w p) (hh : ∀ l ∈ p.xs, Hb25 l) (hn : p.n ≤ 100000) (hS : Hs17 w0 rows K w)
    (h : ∀ q w', q.xs = p.xs → Hs17 w0 rows (fun w => K w ∧ Sx.Ok uC 1 w q) w' → k (a.put o.dst q.v) w') : o.wp Tryz.prog a w k Q := by
  have hN := own_nil (f := uC) (sz := 1) w w.heap.size 5
  refine op_appendL s x 28 ho Tryz.underlying28 Tryz.infoBy rfl (by omega) hs hN p hp (fun z _ => uC_len z) (fun z _ => one_u z) hx (by simp only [List.length_nil]; omega) (by omega) (Nat.le_refl _) ?_
  intro v' w' h1 h2 h3
  have hb : Below w.heap.size w w' := own_belG (row := none) hN h2 (Nat.le_refl _) (Nat.le_refl _)
  rw [List.nil_append] at h1
  obtain ⟨q, rfl, hq, hS'⟩ := hS.ownS hb h1 (fun z _ => uC_len z)
  exact h q w' hq hS'
end

/-- what a put leaves -/
def PutE (w0 : World) (gS : Nat) (its : List It) (p : (Sx Int)) (ls : List Int) (RP rest : List Row) (K : World → Prop) (e : Ending) (w' : World) : Prop :=
  e = .returned (.tuple #[]) ∧ ∃ L' W' RL' RW' q, ShS w0 gS (its ++ [⟨p, q, ls, RP⟩]) rest K L' W' RL' RW' w'
theorem put_fin {w0 : World} {gS : Nat} {its : List It} {rest RP : List Row} {K : World → Prop} {L' W' : Sx (Sx Int)} {RL' RW' : List Row} {p q : (Sx Int)} {ls : List Int} {w : World} (hL : RowG sV 1 28 L' (its.map It.p ++ [p]) RL') (hW : RowG sV 1 28 W' (its.map It.q ++ [q]) RW')
    (hS : Hs17 w0 ((gS, 26, shC L'.v W'.v) :: (((RP ++ rest) ++ (itRs its ++ RL')) ++ RW')) (fun w' => (K w' ∧ ∀ it ∈ its, Sx.Ok uC 1 w' it.q) ∧ Sx.Ok uC 1 w' q) w)
    (hp : RowG uC 1 5 p ls RP) (hq : q.xs = ls) (hh : ∀ l ∈ ls, Hb25 l) (hz : ls.length ≤ 100000) (hok : ∀ it ∈ its, it.Ok) : ShS w0 gS (its ++ [⟨p, q, ls, RP⟩]) rest K L' W' RL' RW' w := by
  refine ⟨by rw [List.map_append]; exact hL, by rw [List.map_append]; exact hW, ?_, fun it hit => ?_⟩
  · have h1 : ((gS, 26, shC L'.v W'.v) :: (((RP ++ rest) ++ (itRs its ++ RL')) ++ RW')).Perm ((gS, 26, shC L'.v W'.v) :: (rest ++ (itRs (its ++ [⟨p, q, ls, RP⟩]) ++ (RL' ++ RW')))) := by
      refine List.Perm.cons _ ?_
      have e1 : itRs (its ++ [⟨p, q, ls, RP⟩]) = itRs its ++ RP := by simp [itRs]
      rw [e1]
      have e2 : ((RP ++ rest) ++ (itRs its ++ RL')) ++ RW' = RP ++ (rest ++ (itRs its ++ (RL' ++ RW'))) := by simp [List.append_assoc]
      have e3 : rest ++ ((itRs its ++ RP) ++ (RL' ++ RW')) = (rest ++ itRs its) ++ (RP ++ (RL' ++ RW')) := by simp [List.append_assoc]
      have e4 : RP ++ (rest ++ (itRs its ++ (RL' ++ RW'))) = RP ++ ((rest ++ itRs its) ++ (RL' ++ RW')) := by simp [List.append_assoc]
      rw [e2, e3, e4, ← List.append_assoc, ← List.append_assoc (rest ++ itRs its)]
      exact List.Perm.append_right _ List.perm_append_comm
    refine (hS.swap h1).weak (fun w h => ⟨h.1.1, fun it hit => ?_⟩)
    rcases List.mem_append.1 hit with h2 | h2
    · exact h.1.2 it h2
    · simp at h2; subst h2; exact h.2
  · rcases List.mem_append.1 hit with h2 | h2
    · exact hok it h2
    · simp at h2; subst h2; exact ⟨hp, hq, hh, hz⟩
set_option maxHeartbeats 4000000 in
set_option maxRecDepth 100000 in
theorem putH_any (w0 : World) (gS : Nat) (its : List It) (rest RP : List Row) (K : World → Prop) (L W : Sx (Sx Int)) (RL RW : List Row) (p : (Sx Int)) (ls : List Int) (w : World) (hSh : ShS w0 gS its (RP ++ rest) K L W RL RW w) (hp : RowG uC 1 5 p ls RP) (hh : ∀ l ∈ ls, Hb25 l) (hz : ls.length ≤ 100000) (hN : its.length ≤ 4000000000000) :
    Calls Tryz.prog 13 #[.pointer (some ⟨gS, 0, none⟩), p.v] w fun e w' => PutE w0 gS its p ls RP rest K e w' := by
  obtain ⟨hL, hW, hS, hok⟩ := hSh
  have HOK := hide hok
  have HP := hide hp
  have HH := hide hh
  have HZ := hide hz
  have HN := hide hN
  have HPn : Hid (p.n ≤ 100000) := hide (by have := hp.1; omega)
  have HPs : Hid (∀ (rows : List Row) (K : World → Prop) (w : World), (∀ r ∈ RP, r ∈ rows) → Hs17 w0 rows K w → Sx.Ok uC 1 w (⟨p.a, p.n, p.c, ls⟩ : (Sx Int))) := hide (fun rows K w h1 h2 => hp.sx (fun x _ => uC_len x) h1 h2)
  replace hS := hS.swap (perm_l _ _ _ _ _)
  obtain ⟨Ls, hLs⟩ : ∃ l, l = its.map It.p := ⟨_, rfl⟩
  obtain ⟨Ws, hWs⟩ : ∃ l, l = its.map It.q := ⟨_, rfl⟩
  rw [← hLs] at hL
  rw [← hWs] at hW
  have HLs := hide (And.intro hLs hWs)
  have HLn : Hid (Ls.length ≤ 5000000000000 ∧ Ws.length ≤ 5000000000000) := hide (by rw [hLs, hWs]; simp; omega)
  clear hok hp hh hz hN hLs hWs
  obtain ⟨pa, pn, pc, px⟩ := p
  simp only [Sx.v] at *
  go_enter Tryz.func13, Tryz.ntmps13
  go_upto_region 1 with fail
  refine wp_region_lit ?_
  refine wl (by kernel_rfl) fun kQ hkQ => ?_
  go_simp
  refine hkQ _ _ ?_
  clear hkQ kQ
  refine wl (by kernel_rfl) fun kQ hkQ => ?_
  go_simp
  refine hkQ _ _ ?_
  clear hkQ kQ
  refine wl (by kernel_rfl) fun kQ hkQ => ?_
  go_simp
  refine hkQ _ _ ?_
  clear hkQ kQ
  refine wl (by kernel_rfl) fun kQ hkQ => ?_
  go_simp
  refine hkQ _ _ ?_
  clear hkQ kQ
  refine wl_load1 (by kernel_rfl) 24 (.tmp 8) rfl 0 rfl 0 rfl (.slice L.a L.n L.c) (at_s0 _ _) Tryz.underlying24 rfl hS ?_
  simp [Act.put]
  refine wl (by kernel_rfl) fun kQ hkQ => ?_
  go_simp
  refine hkQ _ _ ?_
  clear hkQ kQ
  refine wl (by kernel_rfl) fun kQ hkQ => op_bsS (.tmp 10) rfl ⟨pa, pn, pc, px⟩ rfl hS ?_
  clear hS
  intro g1 w1 hS
  refine hkQ _ _ ?_
  clear hkQ kQ
  simp [Act.put]
  replace hS := hS.swap (List.Perm.swap _ _ _)
  refine wl (by kernel_rfl) fun kQ hkQ => op_appS (rows := (gS, 26, shC (.slice L.a L.n L.c) (.slice W.a W.n W.c)) :: (g1, 28, sV ⟨pa, pn, pc, px⟩) :: ((RP ++ rest) ++ (itRs its ++ RW))) (.tmp 9) (.tmp 11) rfl hL hS rfl g1 ⟨pa, pn, pc, px⟩ rfl (by simp) (unhide HLn).1 ?_
  clear hS hL
  intro L' RL' w2 hL hS
  refine hkQ _ _ ?_
  clear hkQ kQ
  simp [Act.put]
  refine wl (by kernel_rfl) fun kQ hkQ => ?_
  go_simp
  refine hkQ _ _ ?_
  clear hkQ kQ
  refine wl (by kernel_rfl) fun kQ hkQ => ?_
  go_simp
  refine hkQ _ _ ?_
  clear hkQ kQ
  obtain ⟨La, Ln, Lc, Lx⟩ := L'
  simp only [Sx.v] at *
  refine wl_store (by kernel_rfl) 24 (.tmp 14) (.tmp 12) rfl 0 rfl 0 rfl [.slice La Ln Lc] (shC (.slice La Ln Lc) (.slice W.a W.n W.c)) (pt_s0 _ _ _) rfl Tryz.in1SS (one_one rfl) hS ?_
  clear hS
  intro w3 hS
  change Hs17 w0 ((gS, 26, shC (.slice La Ln Lc) (.slice W.a W.n W.c)) :: (g1, 28, sV ⟨pa, pn, pc, px⟩) :: (((RP ++ rest) ++ (itRs its ++ RW)) ++ RL')) _ w3 at hS
  simp [Act.put]
  refine wpList_nil ?_
  replace hS := hS.sub (((List.Sublist.refl _).cons _).cons_cons _)
  replace hS : Hs17 w0 ((gS, 26, shC (.slice La Ln Lc) (.slice W.a W.n W.c)) :: (((RP ++ rest) ++ (itRs its ++ RL')) ++ RW)) (fun w' => K w' ∧ ∀ it ∈ its, Sx.Ok uC 1 w' it.q) w3 := hS.swap (List.Perm.cons _ (by
    have e1 : ((RP ++ rest) ++ (itRs its ++ RW)) ++ RL' = ((RP ++ rest) ++ itRs its) ++ (RW ++ RL') := by simp [List.append_assoc]
    have e2 : ((RP ++ rest) ++ (itRs its ++ RL')) ++ RW = ((RP ++ rest) ++ itRs its) ++ (RL' ++ RW) := by simp [List.append_assoc]
    rw [e1, e2]
    exact List.Perm.append_left _ List.perm_append_comm))
  go_upto_region 2 with fail
  refine wp_region_noPanic ?_
  replace hS := hS.drew
  refine wp_region_held_drew (S := fun _ => True) (by kernel_rfl) trivial (fun hHeld => ?_)
  generalize World.drew _ = w4 at hS ⊢
  refine wpAnyH_take (i := 0) (oi := _) (v := .pointer (some ⟨gS, 0, none⟩)) rfl (by kernel_rfl) (by kernel_rfl) (by kernel_rfl) (fun _ _ _ h => h) (Or.inl ⟨by rfl, fun w hSw => by go_simp⟩) hHeld ?_
  simp [Act.put]
  refine wpAnyH_take (i := 1) (oi := _) (v := .pointer (some ⟨gS, 0, none⟩)) rfl (by kernel_rfl) (by kernel_rfl) (by kernel_rfl) (fun _ _ _ h => h) (Or.inl ⟨by rfl, fun w hSw => by go_simp⟩) hHeld ?_
  simp [Act.put]
  refine wpAnyH_take (i := 2) (oi := _) (v := .pointer (some ⟨gS, 0, none⟩)) rfl (by kernel_rfl) (by kernel_rfl) (by kernel_rfl) (fun _ _ _ h => h) (Or.inl ⟨by rfl, fun w hSw => by go_simp⟩) hHeld ?_
  simp [Act.put]
  refine wpAnyH_take (i := 3) (oi := _) (v := .pointer (some ⟨gS, 1, none⟩)) rfl (by kernel_rfl) (by kernel_rfl) (by kernel_rfl) (fun _ _ _ h => h) (Or.inl ⟨by rfl, fun w hSw => by go_simp⟩) hHeld ?_
  simp [Act.put]
  refine wpAnyH_take (i := 5) (oi := _) (v := .slice none 0 0) rfl (by kernel_rfl) (by kernel_rfl) (by kernel_rfl) (fun _ _ _ h => h) (Or.inl ⟨by rfl, fun w hSw => by go_simp⟩) hHeld ?_
  simp [Act.put]
  refine wpAnyH_take (i := 6) (oi := _) (v := .slice pa pn pc) rfl (by kernel_rfl) (by kernel_rfl) (by kernel_rfl) (fun _ _ _ h => h) (Or.inl ⟨by rfl, fun w hSw => by go_simp⟩) hHeld ?_
  simp [Act.put]
  refine wpAnyH_ready (rs := [4, 7]) (by kernel_rfl) (by simp) ?_
  refine (AllReadyH.cons rfl (fun kQ hkQ => ?_) (AllReadyH.cons rfl (fun kQ hkQ => ?_) AllReadyH.nil))
  · skip
    refine dw (by kernel_rfl) (op_val (.slice W.a W.n W.c) (ex_load1 24 (.tmp 18) rfl 0 rfl 1 rfl (.slice W.a W.n W.c) (at_s1 _ _) Tryz.underlying24 rfl hS) ?_)
    refine hkQ.out _ _ trivial (fun hHeld => ?_)
    clear hkQ kQ
    try simp [Act.put]
    refine wpAnyH_ready (rs := [7]) (by kernel_rfl) (by simp) ?_
    refine (AllReadyH.cons rfl (fun kQ hkQ => ?_) AllReadyH.nil)
    refine dw (by kernel_rfl) (op_cpy (.tmp 20) (.tmp 21) rfl rfl ⟨pa, pn, pc, ls⟩ rfl ((unhide HPs) _ _ _ (fun r hr => by simp [hr]) hS) (unhide HH) (unhide HPn) hS ?_)
    clear hS hHeld
    intro q w12 hq hS
    obtain ⟨qa, qn, qc, qx⟩ := q
    simp only [Sx.v] at *
    refine hkQ.out _ _ trivial (fun hHeld => ?_)
    clear hkQ kQ
    try simp [Act.put]
    refine wpAnyH_ready (rs := [8]) (by kernel_rfl) (by simp) ?_
    refine (AllReadyH.cons rfl (fun kQ hkQ => ?_) AllReadyH.nil)
    refine dw (by kernel_rfl) (op_bsS (.tmp 22) rfl ⟨qa, qn, qc, qx⟩ rfl hS ?_)
    clear hS hHeld
    intro g2 w13 hS
    replace hS := hS.swap (List.Perm.swap _ _ _)
    refine hkQ.out _ _ trivial (fun hHeld => ?_)
    clear hkQ kQ
    try simp [Act.put]
    refine wpAnyH_ready (rs := [9]) (by kernel_rfl) (by simp) ?_
    refine (AllReadyH.cons rfl (fun kQ hkQ => ?_) AllReadyH.nil)
    refine dw (by kernel_rfl) (op_appS (rows := (gS, 26, shC (.slice La Ln Lc) (.slice W.a W.n W.c)) :: (g2, 28, sV ⟨qa, qn, qc, qx⟩) :: ((RP ++ rest) ++ (itRs its ++ RL'))) (.tmp 19) (.tmp 23) rfl hW hS rfl g2 ⟨qa, qn, qc, qx⟩ rfl (by simp) (unhide HLn).2 ?_)
    clear hS hHeld
    intro W' RW' w14 hW2 hS
    obtain ⟨Wa, Wn, Wc, Wx⟩ := W'
    simp only [Sx.v] at *
    refine hkQ.out _ _ trivial (fun hHeld => ?_)
    clear hkQ kQ
    try simp [Act.put]
    refine wpAnyH_take (i := 10) (oi := _) (v := .pointer (some ⟨gS, 0, none⟩)) rfl (by kernel_rfl) (by kernel_rfl) (by kernel_rfl) (fun _ _ _ h => h) (Or.inl ⟨by rfl, fun w hSw => by go_simp⟩) hHeld ?_
    simp [Act.put]
    refine wpAnyH_take (i := 11) (oi := _) (v := .pointer (some ⟨gS, 1, none⟩)) rfl (by kernel_rfl) (by kernel_rfl) (by kernel_rfl) (fun _ _ _ h => h) (Or.inl ⟨by rfl, fun w hSw => by go_simp⟩) hHeld ?_
    simp [Act.put]
    refine wpAnyH_ready (rs := [12]) (by kernel_rfl) (by simp) ?_
    refine (AllReadyH.cons rfl (fun kQ hkQ => ?_) AllReadyH.nil)
    refine dw (by kernel_rfl) (op_store 24 (.tmp 26) (.tmp 24) rfl 0 rfl 1 rfl [.slice Wa Wn Wc] (shC (.slice La Ln Lc) (.slice Wa Wn Wc)) (pt_s1 _ _ _) rfl Tryz.in1SS (one_one rfl) hS ?_)
    clear hS hHeld
    intro w15 hS
    change Hs17 w0 ((gS, 26, shC (.slice La Ln Lc) (.slice Wa Wn Wc)) :: (g2, 28, sV ⟨qa, qn, qc, qx⟩) :: (((RP ++ rest) ++ (itRs its ++ RL')) ++ RW')) _ w15 at hS
    refine hkQ.out _ _ trivial (fun hHeld => ?_)
    clear hkQ kQ
    try simp [Act.put]
    refine wpAnyH_done (by kernel_rfl) ?_ _
    unfold NoPanic
    replace hS := hS.sub (((List.Sublist.refl _).cons _).cons_cons _)
    go_wp2_with fail
    refine bodyPost_ret (results_none rfl _ _ _) rfl ?_
    refine ⟨rfl, ⟨La, Ln, Lc, Lx⟩, ⟨Wa, Wn, Wc, Wx⟩, RL', RW', ⟨qa, qn, qc, qx⟩, put_fin (by rw [← (unhide HLs).1]; exact hL) (by rw [← (unhide HLs).2]; exact hW2) hS (unhide HP) hq (unhide HH) (unhide HZ) (unhide HOK)⟩
  · skip
    refine dw (by kernel_rfl) (op_cpy (.tmp 20) (.tmp 21) rfl rfl ⟨pa, pn, pc, ls⟩ rfl ((unhide HPs) _ _ _ (fun r hr => by simp [hr]) hS) (unhide HH) (unhide HPn) hS ?_)
    clear hS hHeld
    intro q w16 hq hS
    obtain ⟨qa, qn, qc, qx⟩ := q
    simp only [Sx.v] at *
    refine hkQ.out _ _ trivial (fun hHeld => ?_)
    clear hkQ kQ
    try simp [Act.put]
    refine wpAnyH_ready (rs := [4, 8]) (by kernel_rfl) (by simp) ?_
    refine (AllReadyH.cons rfl (fun kQ hkQ => ?_) (AllReadyH.cons rfl (fun kQ hkQ => ?_) AllReadyH.nil))
    · skip
      refine dw (by kernel_rfl) (op_val (.slice W.a W.n W.c) (ex_load1 24 (.tmp 18) rfl 0 rfl 1 rfl (.slice W.a W.n W.c) (at_s1 _ _) Tryz.underlying24 rfl hS) ?_)
      refine hkQ.out _ _ trivial (fun hHeld => ?_)
      clear hkQ kQ
      try simp [Act.put]
      refine wpAnyH_ready (rs := [8]) (by kernel_rfl) (by simp) ?_
      refine (AllReadyH.cons rfl (fun kQ hkQ => ?_) AllReadyH.nil)
      refine dw (by kernel_rfl) (op_bsS (.tmp 22) rfl ⟨qa, qn, qc, qx⟩ rfl hS ?_)
      clear hS hHeld
      intro g2 w18 hS
      replace hS := hS.swap (List.Perm.swap _ _ _)
      refine hkQ.out _ _ trivial (fun hHeld => ?_)
      clear hkQ kQ
      try simp [Act.put]
      refine wpAnyH_ready (rs := [9]) (by kernel_rfl) (by simp) ?_
      refine (AllReadyH.cons rfl (fun kQ hkQ => ?_) AllReadyH.nil)
      refine dw (by kernel_rfl) (op_appS (rows := (gS, 26, shC (.slice La Ln Lc) (.slice W.a W.n W.c)) :: (g2, 28, sV ⟨qa, qn, qc, qx⟩) :: ((RP ++ rest) ++ (itRs its ++ RL'))) (.tmp 19) (.tmp 23) rfl hW hS rfl g2 ⟨qa, qn, qc, qx⟩ rfl (by simp) (unhide HLn).2 ?_)
      clear hS hHeld
      intro W' RW' w19 hW2 hS
      obtain ⟨Wa, Wn, Wc, Wx⟩ := W'
      simp only [Sx.v] at *
      refine hkQ.out _ _ trivial (fun hHeld => ?_)
      clear hkQ kQ
      try simp [Act.put]
      refine wpAnyH_take (i := 10) (oi := _) (v := .pointer (some ⟨gS, 0, none⟩)) rfl (by kernel_rfl) (by kernel_rfl) (by kernel_rfl) (fun _ _ _ h => h) (Or.inl ⟨by rfl, fun w hSw => by go_simp⟩) hHeld ?_
      simp [Act.put]
      refine wpAnyH_take (i := 11) (oi := _) (v := .pointer (some ⟨gS, 1, none⟩)) rfl (by kernel_rfl) (by kernel_rfl) (by kernel_rfl) (fun _ _ _ h => h) (Or.inl ⟨by rfl, fun w hSw => by go_simp⟩) hHeld ?_
      simp [Act.put]
      refine wpAnyH_ready (rs := [12]) (by kernel_rfl) (by simp) ?_
      refine (AllReadyH.cons rfl (fun kQ hkQ => ?_) AllReadyH.nil)
      refine dw (by kernel_rfl) (op_store 24 (.tmp 26) (.tmp 24) rfl 0 rfl 1 rfl [.slice Wa Wn Wc] (shC (.slice La Ln Lc) (.slice Wa Wn Wc)) (pt_s1 _ _ _) rfl Tryz.in1SS (one_one rfl) hS ?_)
      clear hS hHeld
      intro w20 hS
      change Hs17 w0 ((gS, 26, shC (.slice La Ln Lc) (.slice Wa Wn Wc)) :: (g2, 28, sV ⟨qa, qn, qc, qx⟩) :: (((RP ++ rest) ++ (itRs its ++ RL')) ++ RW')) _ w20 at hS
      refine hkQ.out _ _ trivial (fun hHeld => ?_)
      clear hkQ kQ
      try simp [Act.put]
      refine wpAnyH_done (by kernel_rfl) ?_ _
      unfold NoPanic
      replace hS := hS.sub (((List.Sublist.refl _).cons _).cons_cons _)
      go_wp2_with fail
      refine bodyPost_ret (results_none rfl _ _ _) rfl ?_
      refine ⟨rfl, ⟨La, Ln, Lc, Lx⟩, ⟨Wa, Wn, Wc, Wx⟩, RL', RW', ⟨qa, qn, qc, qx⟩, put_fin (by rw [← (unhide HLs).1]; exact hL) (by rw [← (unhide HLs).2]; exact hW2) hS (unhide HP) hq (unhide HH) (unhide HZ) (unhide HOK)⟩
    · skip
      refine dw (by kernel_rfl) (op_bsS (.tmp 22) rfl ⟨qa, qn, qc, qx⟩ rfl hS ?_)
      clear hS hHeld
      intro g2 w21 hS
      replace hS := hS.swap (List.Perm.swap _ _ _)
      refine hkQ.out _ _ trivial (fun hHeld => ?_)
      clear hkQ kQ
      try simp [Act.put]
      refine wpAnyH_ready (rs := [4]) (by kernel_rfl) (by simp) ?_
      refine (AllReadyH.cons rfl (fun kQ hkQ => ?_) AllReadyH.nil)
      refine dw (by kernel_rfl) (op_val (.slice W.a W.n W.c) (ex_load1 24 (.tmp 18) rfl 0 rfl 1 rfl (.slice W.a W.n W.c) (at_s1 _ _) Tryz.underlying24 rfl hS) ?_)
      refine hkQ.out _ _ trivial (fun hHeld => ?_)
      clear hkQ kQ
      try simp [Act.put]
      refine wpAnyH_ready (rs := [9]) (by kernel_rfl) (by simp) ?_
      refine (AllReadyH.cons rfl (fun kQ hkQ => ?_) AllReadyH.nil)
      refine dw (by kernel_rfl) (op_appS (rows := (gS, 26, shC (.slice La Ln Lc) (.slice W.a W.n W.c)) :: (g2, 28, sV ⟨qa, qn, qc, qx⟩) :: ((RP ++ rest) ++ (itRs its ++ RL'))) (.tmp 19) (.tmp 23) rfl hW hS rfl g2 ⟨qa, qn, qc, qx⟩ rfl (by simp) (unhide HLn).2 ?_)
      clear hS hHeld
      intro W' RW' w23 hW2 hS
      obtain ⟨Wa, Wn, Wc, Wx⟩ := W'
      simp only [Sx.v] at *
      refine hkQ.out _ _ trivial (fun hHeld => ?_)
      clear hkQ kQ
      try simp [Act.put]
      refine wpAnyH_take (i := 10) (oi := _) (v := .pointer (some ⟨gS, 0, none⟩)) rfl (by kernel_rfl) (by kernel_rfl) (by kernel_rfl) (fun _ _ _ h => h) (Or.inl ⟨by rfl, fun w hSw => by go_simp⟩) hHeld ?_
      simp [Act.put]
      refine wpAnyH_take (i := 11) (oi := _) (v := .pointer (some ⟨gS, 1, none⟩)) rfl (by kernel_rfl) (by kernel_rfl) (by kernel_rfl) (fun _ _ _ h => h) (Or.inl ⟨by rfl, fun w hSw => by go_simp⟩) hHeld ?_
      simp [Act.put]
      refine wpAnyH_ready (rs := [12]) (by kernel_rfl) (by simp) ?_
      refine (AllReadyH.cons rfl (fun kQ hkQ => ?_) AllReadyH.nil)
      refine dw (by kernel_rfl) (op_store 24 (.tmp 26) (.tmp 24) rfl 0 rfl 1 rfl [.slice Wa Wn Wc] (shC (.slice La Ln Lc) (.slice Wa Wn Wc)) (pt_s1 _ _ _) rfl Tryz.in1SS (one_one rfl) hS ?_)
      clear hS hHeld
      intro w24 hS
      change Hs17 w0 ((gS, 26, shC (.slice La Ln Lc) (.slice Wa Wn Wc)) :: (g2, 28, sV ⟨qa, qn, qc, qx⟩) :: (((RP ++ rest) ++ (itRs its ++ RL')) ++ RW')) _ w24 at hS
      refine hkQ.out _ _ trivial (fun hHeld => ?_)
      clear hkQ kQ
      try simp [Act.put]
      refine wpAnyH_done (by kernel_rfl) ?_ _
      unfold NoPanic
      replace hS := hS.sub (((List.Sublist.refl _).cons _).cons_cons _)
      go_wp2_with fail
      refine bodyPost_ret (results_none rfl _ _ _) rfl ?_
      refine ⟨rfl, ⟨La, Ln, Lc, Lx⟩, ⟨Wa, Wn, Wc, Wx⟩, RL', RW', ⟨qa, qn, qc, qx⟩, put_fin (by rw [← (unhide HLs).1]; exact hL) (by rw [← (unhide HLs).2]; exact hW2) hS (unhide HP) hq (unhide HH) (unhide HZ) (unhide HOK)⟩
end Go.Proofs.YtdcaojiiaocnaaaGreatDoor
