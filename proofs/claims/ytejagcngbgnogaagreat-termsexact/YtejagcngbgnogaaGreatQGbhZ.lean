import Derived.Test.YtejagcngbgnogaaGreatQShr
import Derived.Test.YtejagcngbgnogaaGreatQGbgZ
import Derived.Test.YtejagcngbgnogaaGreatQGalZ
import Derived.Deep.MidRow
import Derived.Deep.Cut
import Derived.Test.YtejagcngbgnogaaGreatQGafZ
import Derived.Test.YtejagcngbgnogaaGreatQGaeZ
import Derived.Test.YtejagcngbgnogaaGreatQGaxZ
set_option linter.unusedSimpArgs false
set_option linter.unusedVariables false
namespace Go.Proofs.YtejagcngbgnogaaGreat
open Go.RowKit
theorem Prts.keep {w w' : World} {base base' e sz n : Nat} {v v' : Value} {ps : List Prt} {xs : List Value} (h : Prts w base v ps) (h' : w.ownsRow base' e sz v' n xs) (he1 : 232 ≠ e) (he2 : 5 ≠ e) (hg : w.grownBy w' v'.ownBlock) : Prts w' base v ps :=
 ⟨eM h.own hg (eJ h.own h' he1), fun p hp => ⟨(h.each p hp).1.keep h' he2 hg, (h.each p hp).2⟩, h.apart⟩
structure Sads (w : World) (base : Nat) (v1 v2 : Value) (vs : List Value) (E : List (List Int × List Int)) : Prop where
 l1 : w.ownsRow base 33 1 v1 E.length vs
 l2 : w.ownsRow base 30 64 v2 E.length (E.flatMap fun p => U8 p.2)
 each : ∀ (i : Nat) (p : List Int × List Int), E[i]? = some p → ∃ v, vs[i]? = some v ∧ cI w base v p.1 ∧ p.2.length = 64 ∧ IsB p.2
 apart : vs.Pairwise fun u v => ∀ g, u.ownBlock = some g → v.ownBlock ≠ some g
theorem Sads.nil (w : World) (base : Nat) : Sads w base (.slice none 0 0) (.slice none 0 0) [] [] := ⟨⟨rfl, .inl ⟨rfl, rfl⟩⟩, ⟨rfl, .inl ⟨rfl, rfl⟩⟩, fun i p h => by simp at h, List.Pairwise.nil⟩
theorem Sads.later {w w' : World} {base : Nat} {v1 v2 : Value} {vs : List Value} {E : List (List Int × List Int)} (h : Sads w base v1 v2 vs E) (hb : Below w.heap.size w w') : Sads w' base v1 v2 vs E :=
 ⟨eK h.l1 hb, eK h.l2 hb, fun i p hp => by obtain ⟨v, h1, h2, h3⟩ := h.each i p hp; exact ⟨v, h1, h2.later hb, h3⟩, h.apart⟩
theorem Sads.mono {w : World} {base base' : Nat} {v1 v2 : Value} {vs : List Value} {E : List (List Int × List Int)} (h : Sads w base v1 v2 vs E) (hb : base' ≤ base) : Sads w base' v1 v2 vs E :=
 ⟨gI h.l1 hb, gI h.l2 hb, fun i p hp => by obtain ⟨v, h1, h2, h3⟩ := h.each i p hp; exact ⟨v, h1, h2.mono hb, h3⟩, h.apart⟩
structure Half (w : World) (base : Nat) (v1 v2 : Value) (vs : List Value) (E : List (List Int × List Int)) (p : List Int × List Int) : Prop where
 l1 : w.ownsRow base 33 1 v1 (E.length + 1) vs
 l2 : w.ownsRow base 30 64 v2 E.length (E.flatMap fun p => U8 p.2)
 each : ∀ (i : Nat) (q : List Int × List Int), (E ++ [p])[i]? = some q → ∃ v, vs[i]? = some v ∧ cI w base v q.1 ∧ q.2.length = 64 ∧ IsB q.2
 apart : vs.Pairwise fun u v => ∀ g, u.ownBlock = some g → v.ownBlock ≠ some g
theorem Half.later {w w' : World} {base : Nat} {v1 v2 : Value} {vs : List Value} {E : List (List Int × List Int)} {q : List Int × List Int} (h : Half w base v1 v2 vs E q) (hb : Below w.heap.size w w') : Half w' base v1 v2 vs E q :=
 ⟨eK h.l1 hb, eK h.l2 hb, fun i p hp => by obtain ⟨v, h1, h2, h3⟩ := h.each i p hp; exact ⟨v, h1, h2.later hb, h3⟩, h.apart⟩
theorem Sads.half {w w' : World} {base : Nat} {v1 v2 v1' v : Value} {vs : List Value} {E : List (List Int × List Int)} {p : List Int × List Int} (h : Sads w base v1 v2 vs E) (ho : w'.ownsRow base 33 1 v1' (E.length + 1) (vs ++ [v])) (hg : w.grownBy w' v1.ownBlock) (hp : cI w base v p.1) (hl : p.2.length = 64) (hB : IsB p.2) (hne : ∀ u ∈ vs, ∀ g, u.ownBlock = some g → v.ownBlock ≠ some g) : Half w' base v1' v2 (vs ++ [v]) E p := by
 have hvl : vs.length = E.length := by have := h.l1.1; omega
 refine ⟨ho, eM h.l2 hg (eJ h.l2 h.l1 (by decide)), fun i q hq => ?_, List.pairwise_append.2 ⟨h.apart, List.pairwise_singleton _ _, fun a ha b hb => by simp at hb; subst hb; exact hne a ha⟩⟩
 by_cases hi : i < E.length
 ·rw [List.getElem?_append_left hi] at hq
  obtain ⟨u, h1, h2, h3⟩ := h.each i q hq
  exact ⟨u, by rw [List.getElem?_append_left (by omega)]; exact h1, h2.keep h.l1 (by decide) hg, h3⟩
 ·rw [List.getElem?_append_right (by omega)] at hq
  have hi0 : i - E.length = 0 := by
   by_cases h0 : i - E.length = 0
   ·exact h0
   ·rw [List.getElem?_eq_none (by simp; omega)] at hq; cases hq
  rw [hi0] at hq
  simp at hq
  subst hq
  exact ⟨v, by rw [List.getElem?_append_right (by omega), hvl, hi0]; rfl, hp.keep h.l1 (by decide) hg, hl, hB⟩
theorem Half.full {w w' : World} {base : Nat} {v1 v2 v2' : Value} {vs : List Value} {E : List (List Int × List Int)} {p : List Int × List Int} (h : Half w base v1 v2 vs E p) (ho : w'.ownsRow base 30 64 v2' (E.length + 1) ((E.flatMap fun p => U8 p.2) ++ U8 p.2)) (hg : w.grownBy w' v2.ownBlock) : Sads w' base v1 v2' vs (E ++ [p]) := by
 refine ⟨?_, ?_, fun i q hq => ?_, h.apart⟩
 ·rw [List.length_append]; exact eM h.l1 hg (eJ h.l1 h.l2 (by decide))
 ·rw [List.length_append, List.flatMap_append]; simpa using ho
 ·obtain ⟨u, h1, h2, h3⟩ := h.each i q hq
  exact ⟨u, h1, h2.keep h.l2 (by decide) hg, h3⟩
def SPost (E : List (List Int × List Int)) (w : World) (e : Ending) (w' : World) : Prop := ∃ v1 v2 vs, e = .returned (.tuple #[v1, v2, .int .i64 0]) ∧ Sads w' w.heap.size v1 v2 vs E ∧ Below w.heap.size w w'
theorem slZ : ∃ (it : TypeInfo), Tryz.prog.info? 33 = some it ∧ it.zero = some (.slice none 0 0) ∧ it.size = 1 ∧ it.bytes = 24 := by
 have h : (Tryz.prog.info? 33).bind (·.zero) = some (.slice none 0 0) := by kernel_rfl
 have h2 : (Tryz.prog.info? 33).map (fun i => (i.size, i.bytes)) = some (1, 24) := by kernel_rfl
 cases hit : Tryz.prog.info? 33 with
 | none => rw [hit] at h; simp at h
 | some it =>
  rw [hit] at h h2
  simp at h h2
  exact ⟨it, rfl, h, h2.1, h2.2⟩
theorem sigZ : ∃ (it : TypeInfo) (Z : List Value), Tryz.prog.info? 30 = some it ∧ it.zero = some (.agg Z.toArray) ∧ Z.length = 64 ∧ it.size = 64 ∧ it.bytes = 64 := by
 have h : (Tryz.prog.info? 30).bind (·.zero) = some (.agg (U8 (List.replicate 64 0)).toArray) := by kernel_rfl
 have h2 : (Tryz.prog.info? 30).map (fun i => (i.size, i.bytes)) = some (64, 64) := by kernel_rfl
 have h3 : (U8 (List.replicate 64 0)).length = 64 := by rw [U8_length, List.length_replicate]
 generalize (U8 (List.replicate 64 0)) = Z at h h3
 cases hit : Tryz.prog.info? 30 with
 | none => rw [hit] at h; simp at h
 | some it =>
  rw [hit] at h h2
  simp at h h2
  exact ⟨it, Z, rfl, h, h3, h2.1, h2.2⟩
theorem sl_slice (w : World) (v : Value) (hv : v.cells = #[v]) : (Instr.buildSlice 24 1 #[(0, v)]).run Tryz.prog w = .ok (.slice (some ⟨w.heap.size, 0, none⟩) 1 1) (w.alloc (.cells #[v] 33)) := by
 obtain ⟨it, hi, hz, hs, -⟩ := slZ
 have := run_bsG w 24 33 it _ [v] 1 Tryz.underlying24 hi hs hz (by intro u hu; simp at hu; subst hu; rw [hv]; rfl) (by simp) (by simp)
 have e1 : bY v = [v] := by unfold bY; rw [hv]
 simp only [List.flatMap_cons, List.flatMap_nil, e1, List.append_nil] at this
 exact this
theorem sig_slice (w : World) (g : List Int) (hg : g.length = 64) : (Instr.buildSlice 151 1 #[(0, .agg (U8 g).toArray)]).run Tryz.prog w = .ok (.slice (some ⟨w.heap.size, 0, none⟩) 1 1) (w.alloc (.cells (U8 g).toArray 30)) := by
 obtain ⟨it, Z, hi, hz, hZ, hs, -⟩ := sigZ
 have := run_bsG w 151 30 it _ [.agg (U8 g).toArray] 64 Tryz.underlying151 hi hs hz (by intro u hu; simp at hu; subst hu; show (U8 g).toArray.size = 64; rw [List.size_toArray, U8_length, hg]) (by simp) (by simp)
 simp only [List.flatMap_cons, List.flatMap_nil, gO, List.append_nil] at this
 exact this
theorem Prts.range {w : World} {base : Nat} {g n c : Nat} {ps : List Prt} (h : Prts w base (.slice (some ⟨g, 0, none⟩) n c) ps) (j : Nat) (p : Prt) (hj : ps[j]? = some p) : w.rangeAt g (j * 65) p.cells := by
 have hlen : ∀ (l : List Prt), (∀ q ∈ l, q.g.length = 64) → (l.flatMap Prt.cells).length = l.length * 65 := by
  intro l
  induction l with
  | nil => intro _; rfl
  | cons a t ih => intro hq; rw [List.flatMap_cons, List.length_append, ih (fun q h => hq q (by simp [h])), Prt.len (hq a (by simp)), List.length_cons]; omega
 have hg64 : ∀ q ∈ ps, q.g.length = 64 := fun q hq => (h.each q hq).2.1
 have hjl : j < ps.length := (List.getElem?_eq_some_iff.1 hj).1
 have hsplit : ps.flatMap Prt.cells = (ps.take j).flatMap Prt.cells ++ (p.cells ++ (ps.drop (j + 1)).flatMap Prt.cells) := by
  have hp : ps[j] = p := (List.getElem?_eq_some_iff.1 hj).2
  conv => lhs; rw [← List.take_append_drop j ps, List.flatMap_append, List.drop_eq_getElem_cons hjl, List.flatMap_cons, hp]
 have ht : ((ps.take j).flatMap Prt.cells).length = j * 65 := by
  rw [hlen _ (fun q hq => hg64 q (List.mem_of_mem_take hq)), List.length_take, Nat.min_eq_left (by omega)]
 intro i v hi
 have hil : i < 65 := by have := (List.getElem?_eq_some_iff.1 hi).1; rw [Prt.len (hg64 p (List.mem_of_getElem? hj))] at this; exact this
 rcases h.own.2 with ⟨h1, -⟩ | ⟨g', cap, cur, h1, -, h3, h4, -, h5, h6⟩
 ·simp at h1
 ·simp at h1
  obtain ⟨rfl, -, -⟩ := h1
  have e : cur.toList[j * 65 + i]? = some v := by
   have hb : j * 65 + i < ps.length * 65 := by omega
   have h7 : (cur.toList.take (ps.length * 65))[j * 65 + i]? = cur.toList[j * 65 + i]? := by rw [List.getElem?_take, if_pos hb]
   rw [← h7, h6, hsplit, List.getElem?_append_right (by omega), ht, Nat.add_sub_cancel_left, List.getElem?_append_left (by rw [Prt.len (hg64 p (List.mem_of_getElem? hj))]; exact hil)]
   exact hi
  rw [Array.getElem?_toList] at e
  simp [World.cell?, h3, e]
set_option maxHeartbeats 8000000
set_option maxRecDepth 100000
theorem cF {w : World} {base e sz n q : Nat} {ty : TypeId} {v : Value} {xs l : List Value} (h : w.ownsRow base e sz v n xs) (hA : Arr w q ty l) (hne : ty ≠ e) : some q ≠ v.ownBlock := by
 intro hv
 rcases h.2 with ⟨rfl, -⟩ | ⟨g, cap, cur, rfl, -, h3, -⟩
 ·simp [Value.ownBlock] at hv
 ·simp only [Value.ownBlock, Option.some.injEq] at hv
  subst hv
  have hA' : w.heap[q]? = some (.cells l.toArray ty) := hA
  rw [h3] at hA'
  simp at hA'
  exact hne hA'.2.symm
theorem take_map {ps : List Prt} {j : Nat} {p : Prt} (h : ps[j]? = some p) : (ps.take j).map (·.v) ++ [p.v] = (ps.take (j + 1)).map (·.v) := by
 have hj : j < ps.length := (List.getElem?_eq_some_iff.1 h).1
 rw [List.take_succ_eq_append_getElem hj, List.map_append, (List.getElem?_eq_some_iff.1 h).2]; rfl
theorem pw_take {ps : List Prt} {j : Nat} {p : Prt} {vs : List Value} (h : ps.Pairwise fun p q => ∀ g, p.v.ownBlock = some g → q.v.ownBlock ≠ some g) (hp : ps[j]? = some p) (hv : vs = (ps.take j).map (·.v)) : ∀ u ∈ vs, ∀ g, u.ownBlock = some g → p.v.ownBlock ≠ some g := by
 subst hv
 intro u hu
 rw [List.mem_map] at hu
 obtain ⟨q, hq, rfl⟩ := hu
 obtain ⟨i, hi, rfl⟩ := List.getElem_of_mem hq
 have hj : j < ps.length := (List.getElem?_eq_some_iff.1 hp).1
 rw [List.length_take] at hi
 rw [List.getElem_take]
 have := List.pairwise_iff_getElem.1 h i j (by omega) hj (by omega)
 rw [(List.getElem?_eq_some_iff.1 hp).2] at this
 exact this
theorem said_all (b : Sl) (w : World) (hb : b.Ok w) (k : Int) (E : List (List Int × List Int)) (hE3 : E.length ≤ 10) (hd : domL b.l = (k, 0)) (hQ : ∀ W, Below w.heap.size w W → Calls Tryz.prog 151 #[.int .i64 k, b.v] W (cS E W)) :
  Calls Tryz.prog 83 #[b.v] w (SPost E w) := by
 have hDm := lT b w hb
 rw [hd] at hDm
 have hbv : b.v = .slice b.a b.n b.c := rfl
 rw [hbv] at hDm hQ ⊢
 generalize b.a = ba at *
 generalize b.n = bn at *
 generalize b.c = bc at *
 clear hb hd hbv
 obtain ⟨itP, ZP, hiP, hzP, hZPl, hsP, hbP⟩ := partZ
 obtain ⟨itL, hiL, hzL, hsL, hbL⟩ := slZ
 obtain ⟨itS, ZS, hiS, hzS, hZSl, hsS, hbS⟩ := sigZ
 have hzvP : ∀ w, (zeroValue 232).run Tryz.prog w = .ok (.agg ZP.toArray) w := fun w => by simp [zeroValue, run_typeInfo w hiP, hzP]
 go_enter Tryz.func83, Tryz.ntmps83
 go_wp2_with fail
 refine hDm.mono ?_
 rintro e w1 ⟨rfl, hB1⟩
 have hC := hQ w1 hB1
 clear hDm hQ
 go_wp2_with fail
 refine hC.mono ?_
 rintro e w2 ⟨vP, ps, rfl, hP0, hE, hB2⟩
 obtain ⟨aP, cP, rfl⟩ := bK hP0.own
 have hP := hP0.mono hB1.size
 have hBw : Below w.heap.size w w2 := hB1.trans (hB2.mono hB1.size)
 have hlE : ps.length = E.length := by rw [← hE, List.length_map]
 clear hC hP0 hB1 hB2
 generalize hn : ps.length = n at *
 have hn10 : n ≤ 10 := by omega
 have HLE := aA hlE
 clear hlE hE3
 go_wp2
 go_loopw [8, 9, 31] (fun s8 s9 s31 wr => ∃ (j : Nat) (a1 a2 : Option Addr) (c1 c2 : Nat) (vs : List Value), s31 = .int .i64 j ∧ j ≤ n ∧ s8 = .slice a1 j c1 ∧ s9 = .slice a2 j c2 ∧ Hid (Sads wr w.heap.size (.slice a1 j c1) (.slice a2 j c2) vs (E.take j)) ∧ Hid (vs = (ps.take j).map (·.v)) ∧ Hid (Prts wr w.heap.size (.slice aP n cP) ps) ∧ Hid (Below w.heap.size w wr)) (fun _ _ j _ => n - (intOf j).toNat)
 case atStart => exact ⟨0, none, none, 0, 0, [], rfl, by omega, rfl, rfl, aA (Sads.nil _ _), aA rfl, aA hP, aA hBw⟩
 case round =>
  obtain ⟨j, a1, a2, c1, c2, vs, rfl, hj, rfl, rfl, HS, HVS, HP, HB⟩ := hrel
  clear hP hBw
  by_cases hjn : j < n
  ·obtain ⟨p, hp⟩ : ∃ p, ps[j]? = some p := ⟨ps[j]'(by omega), List.getElem?_eq_getElem (by omega)⟩
   obtain ⟨g, rfl⟩ : ∃ g, aP = some ⟨g, 0, none⟩ := by
    rcases (unhide HP).own.2 with ⟨h1, h2⟩ | ⟨g, cap, cur, h1, -⟩
    ·omega
    ·simp at h1; exact ⟨g, h1.1⟩
   have hpm := (unhide HP).each p (List.mem_of_getElem? hp)
   have hq : E[j]? = some (p.l, p.g) := by rw [← hE, List.getElem?_map, hp]; rfl
   have hEt : E.take (j + 1) = E.take j ++ [(p.l, p.g)] := by
    have hjl : j < E.length := by have := unhide HLE; omega
    rw [List.take_succ_eq_append_getElem hjl]
    congr 1
    rw [List.getElem?_eq_getElem hjl] at hq
    simpa using hq
   have hEl : (E.take j).length = j := by rw [List.length_take]; have := unhide HLE; omega
   have HNE : Hid (∀ u ∈ vs, ∀ g, u.ownBlock = some g → p.v.ownBlock ≠ some g) := aA (pw_take (unhide HP).apart hp (unhide HVS))
   have HVN : Hid (vs ++ [p.v] = (ps.take (j + 1)).map (·.v)) := aA (by rw [unhide HVS]; exact take_map hp)
   have R := aA ((unhide HP).range j p hp)
   have hpl : p.cells.length = 65 := Prt.len hpm.2.1
   have hsz : (Tryz.prog.info? 232).map (·.size) = some p.cells.length := by rw [hpl, hiP]; simp [hsP]
   have hsza : (Tryz.prog.info? 232).map (·.size) = some p.cells.toArray.size := by rw [List.size_toArray]; exact hsz
   have hll : ZP.toArray.size = p.cells.toArray.size := by rw [List.size_toArray, List.size_toArray, hpl, hZPl]
   go_upto_region 11 with fail
   refine eI ?_
   refine wpList_load_mid rfl 232 (.tmp 33) rfl g (j * 65) rfl p.cells _ (unhide R) Tryz.underlying232 rfl hsz ?_
   simp only [Act.put]
   refine cV ?_
   have A0 := Arr.new wr 232 ZP
   refine wpList_store_row rfl 232 (.tmp 11) (.tmp 34) rfl wr.heap.size p.cells.toArray rfl rfl 232 ZP.toArray A0 hsza hll (all_oneCell_toArray (nM hpm.1)) ?_
   refine wpList_nil ?_
   have A1 : Arr ((wr.alloc (.cells ZP.toArray 232)).setRow wr.heap.size p.cells.toArray) wr.heap.size 232 p.cells := A0.setRow p.cells
   have b1 : Below wr.heap.size wr ((wr.alloc (.cells ZP.toArray 232)).setRow wr.heap.size p.cells.toArray) := bJ (aJ wr _) (Nat.le_refl _) _
   obtain ⟨pv, pl, pg⟩ := p
   obtain ⟨av, cv, hpv⟩ := bK hpm.1.1
   simp only at hpv hpm hEt
   subst hpv
   have c0 : ((wr.alloc (.cells ZP.toArray 232)).setRow wr.heap.size (Prt.cells ⟨.slice av pl.length cv, pl, pg⟩).toArray).cell? ⟨wr.heap.size, 0, none⟩ = some (.slice av pl.length cv) := by rw [A1.cell]; rfl
   have HS1 := aA ((unhide HS).later b1)
   have HP1 := aA ((unhide HP).later b1)
   have hpm1 := hpm.1.later b1
   have hB1 := (unhide HB).trans (b1.mono (unhide HB).size)
   have hAl := A1.lt
   have HX := aA A1
   clear A0 A1 HS HP HB b1 R
   generalize hC : (Prt.cells ⟨.slice av pl.length cv, pl, pg⟩) = C at *
   generalize (wr.alloc (.cells ZP.toArray 232)).setRow wr.heap.size C.toArray = W1 at *
   go_upto_region 12 with fail
   refine rgY3 ?_
   have b2 := aJ W1 (.cells #[.slice av pl.length cv] 33)
   have hS2 := (unhide HS1).later b2
   have hP2 := (unhide HP1).later b2
   have hpm2 := hpm1.later b2
   have hA2 := (unhide HX).later b2
   have hB2 := hB1.trans (b2.mono hB1.size)
   have hn2 := fX (Arr.new W1 33 [.slice av pl.length cv])
   refine lR rfl _ _ _ rfl _ _ (by simpa [Act.eval] using sl_slice W1 (.slice av pl.length cv) rfl) ?_
   simp only [Act.put]
   clear HS1 HP1 hpm1 HX b2 hB1 c0
   have hsz2 : (W1.alloc (.cells #[.slice av pl.length cv] 33)).heap.size = W1.heap.size + 1 := by simp
   generalize hW2 : W1.alloc (.cells #[.slice av pl.length cv] 33) = W2 at *
   have hn2' := hn2
   have hown2 := hS2.l1
   rw [hEl] at hown2
   have HS2 := aA hS2
   have HP2 := aA hP2
   have HPM2 := aA hpm2
   have HA2 := aA hA2
   clear hS2 hP2 hpm2 hA2 hn2 hW2
   refine qJ rfl (.tmp 35) (.tmp 38) 24 rfl w.heap.size 33 itL (.slice none 0 0) 1 24 Tryz.underlying24 hiL hzL hsL hbL rfl (by decide) (.slice a1 j c1) j vs rfl hown2 ⟨W1.heap.size, 0, none⟩ 1 1 [.slice av pl.length cv] rfl rfl hn2' (by intro u hu; simp at hu; subst hu; rfl) (by unfold maxLen; omega) (by omega) hB2.size (fun v3 W3 ho3 hg3 => ?_)
   have hH3 := Sads.half (p := (pl, pg)) (unhide HS2) (by rw [hEl]; exact ho3) hg3 (unhide HPM2) hpm.2.1 hpm.2.2 (unhide HNE)
   have hP3 := (unhide HP2).keep hown2 (by decide) (by decide) hg3
   have hA3 : Arr W3 wr.heap.size 232 C := (hg3.block wr.heap.size (by omega) (cF hown2 (unhide HA2) (by decide))).trans (unhide HA2)
   have hB3 : Below w.heap.size w W3 := hB2.trans (iR (row := none) hown2 hg3 (Nat.le_refl _) hB2.size)
   obtain ⟨a3, c3, rfl⟩ := bK ho3
   clear HS2 HP2 HPM2 HA2 ho3 hg3 hown2 hn2' hB2
   simp only [Act.put]
   refine dO ?_
   have r3 : W3.rangeAt wr.heap.size 1 (U8 pg) := by
    intro i u hu
    rw [hA3.cell, ← hC]
    have : (Prt.cells ⟨.slice av pl.length cv, pl, pg⟩) = .slice av pl.length cv :: U8 pg := rfl
    rw [this, Nat.add_comm, List.getElem?_cons_succ]; exact hu
   have R3 := aA r3
   have hsg : (Tryz.prog.info? 30).map (·.size) = some (U8 pg).length := by rw [U8_length, hpm.2.1]; exact Tryz.szPSig
   have HH3 := aA hH3
   have HP3 := aA hP3
   clear hH3 hP3 hA3 r3
   go_upto_region 13 with fail
   refine rgY2 ?_
   refine wpList_load_mid rfl 30 (.tmp 41) rfl wr.heap.size 1 rfl (U8 pg) _ (unhide R3) Tryz.underlying30 rfl hsg ?_
   simp only [Act.put]
   have b4 := aJ W3 (.cells (U8 pg).toArray 30)
   have hH4 := (unhide HH3).later b4
   have hP4 := (unhide HP3).later b4
   have hB4 := hB3.trans (b4.mono hB3.size)
   have hn4 := fX (Arr.new W3 30 (U8 pg))
   refine lR rfl _ _ _ rfl _ _ (by simpa [Act.eval] using sig_slice W3 pg hpm.2.1) ?_
   simp only [Act.put]
   generalize hW4 : W3.alloc (.cells (U8 pg).toArray 30) = W4 at *
   have hown4 := hH4.l2
   rw [hEl] at hown4
   have hoc4 := u8_oc pg
   have hl4 : (U8 pg).length = 1 * 64 := by rw [U8_length, hpm.2.1]
   clear HH3 HP3 b4 hB3 R3 hW4
   refine qJ rfl (.tmp 40) (.tmp 43) 151 rfl w.heap.size 30 itS (.agg ZS.toArray) 64 64 Tryz.underlying151 hiS hzS hsS hbS (by simp [Value.cells, hZSl]) (by decide) (.slice a2 j c2) j _ rfl hown4 ⟨W3.heap.size, 0, none⟩ 1 1 (U8 pg) rfl hl4 hn4 hoc4 (by unfold maxLen; omega) (by omega) hB4.size (fun v5 W5 ho5 hg5 => ?_)
   have hF5 := Half.full hH4 (by rw [hEl]; exact ho5) hg5
   have hP5 := hP4.keep hown4 (by decide) (by decide) hg5
   have hB5 : Below w.heap.size w W5 := hB4.trans (iR (row := none) hown4 hg5 (Nat.le_refl _) hB4.size)
   obtain ⟨a5, c5, rfl⟩ := bK ho5
   rw [← hEt] at hF5
   have HF5 := aA hF5
   have HP5 := aA hP5
   have HB5 := aA hB5
   clear hH4 hP4 hB4 hn4 hown4 hoc4 hl4 hF5 hP5 hB5 ho5 hg5
   simp only [Act.put]
   refine dO ?_
   go_wp2
   go_roundw
   case rel => exact ⟨j + 1, a3, a5, c3, c5, _, by go_num, by omega, rfl, rfl, HF5, HVN, HP5, HB5⟩
   case measure => simp [intOf]; omega
  ·obtain rfl : j = n := by omega
   have hEt : E.take j = E := List.take_of_length_le (by have := unhide HLE; omega)
   rw [hEt] at HS
   go_wp2
   go_ret3
   exact ⟨_, _, vs, rfl, unhide HS, unhide HB⟩
theorem own_but {p : Nat} {w w' : World} (hB : But p w w') {base e n : Nat} {v : Value} {xs l : List Value} {ty : TypeId} (h : w.ownsRow base e 1 v n xs) (hA : Arr w p ty l) (ht : ty ≠ e) : w'.ownsRow base e 1 v n xs :=
 (Buts.of_but hB).own h (fun g hg e1 => gJ h hA ht (by rw [hg, e1]))
def bit (b : Bool) : Int := if b then 1 else 0
structure Gt where
 x : Int
 b : List Int
 l : List Int
 n : Int
def gt0 : Gt := ⟨0, [], [], 0⟩
def rStep (kind n most : Int) (st : List Int × Int) : Gt × List Int × Int :=
 if kind = 1 then let q := face 0 pByte st; (⟨q.1, [], [], 0⟩, q.2)
 else if kind = 2 then let q := face 0 dV st; (⟨q.1, [], [], 0⟩, q.2)
 else if kind = 3 then let q := face 0 eP st; (⟨q.1, [], [], 0⟩, q.2)
 else if kind = 4 then let q := face 0 pUint st; (⟨q.1, [], [], 0⟩, q.2)
 else if kind = 5 then let q := face false cH st; (⟨bit q.1, [], [], 0⟩, q.2)
 else if kind = 6 then let q := face [] (bX n) st; (⟨0, q.1, [], 0⟩, q.2)
 else if kind = 7 then let q := face [] (pBytes most) st; (⟨0, q.1, [], 0⟩, q.2)
 else if kind = 8 then let q := gList most st; (⟨0, [], q.1, 0⟩, q.2)
 else if kind = 9 then (⟨0, [], [], st.1.length⟩, st)
 else (gt0, st)
def GPost (p : Nat) (s : Sl) (q : Gt × List Int × Int) (w : World) (e : Ending) (w' : World) : Prop :=
 But p w w' ∧ ∃ vb vq t, e = .returned (.agg #[.int .u64 q.1.x, vb, vq, .int .i64 q.1.n]) ∧ isL q.1.b vb w w' ∧ isQ8 q.1.l vq w w' ∧ Rdr w' p t q.2.2 ∧ t.l = q.2.1 ∧ s.Same t
theorem face_bd {α : Type} {z : α} {P : List Int → eC α} {C : α → Prop} {st : List Int × Int} (hz : C z) (hP : ∀ x r, P st.1 = .ok (x, r) → C x) : C (face z P st).1 := by
 unfold face
 split
 ·exact hz
 ·split
  ·rename_i x r h; exact hP x r h
  ·exact hz
theorem pU32_bd {l : List Int} (hB : IsB l) {x : Int} {r : List Int} (h : dV l = .ok (x, r)) : 0 ≤ x ∧ x < 4294967296 := by
 unfold dV at h
 split at h
 ·simp at h
 ·simp only [Except.ok.injEq, Prod.mk.injEq] at h
  obtain ⟨rfl, rfl⟩ := h
  have := kA _ (hB.take 4).reverse
  rw [List.length_reverse, List.length_take, Nat.min_eq_left (by omega)] at this
  exact this
theorem pU64_bd {l : List Int} (hB : IsB l) {x : Int} {r : List Int} (h : eP l = .ok (x, r)) : 0 ≤ x ∧ x < 18446744073709551616 := by
 unfold eP at h
 split at h
 ·simp at h
 ·simp only [Except.ok.injEq, Prod.mk.injEq] at h
  obtain ⟨rfl, rfl⟩ := h
  have := kA _ (hB.take 8).reverse
  rw [List.length_reverse, List.length_take, Nat.min_eq_left (by omega)] at this
  exact this
def ToldI (L : List Int) (w : World) (e : Ending) (w' : World) : Prop := ∃ v, e = .returned v ∧ w'.ownsRow w.heap.size 5 1 v L.length (U8 L) ∧ Below w.heap.size w w'
def mt : List Int → Nat
 | [] => 0
 | c :: r => (mt r * 128 + c.toNat % 128) % 18446744073709551616
def NoS (L : List Int) (m : Nat) : Prop := sho (mt (L.take m)) ≠ L.take m
structure Inr (w : World) (p : Nat) (b : Sl) (t : Nat) (f : Int) : Prop where
 arr : Arr w p 380 [b.v, .int .i64 t, .int .i64 f]
 ok : b.Ok w
 le : t ≤ b.n
 off : 0 < b.l.length → ∀ x, b.a = some x → x.block ≠ p ∧ x.block < w.heap.size
theorem Inr.later {w w' : World} {p : Nat} {b : Sl} {t : Nat} {f : Int} (h : Inr w p b t f) (hb : Below w.heap.size w w') : Inr w' p b t f :=
 ⟨h.arr.later hb, h.ok.later hb, h.le, fun hl x hx => ⟨(h.off hl x hx).1, Nat.lt_of_lt_of_le (h.off hl x hx).2 hb.size⟩⟩
theorem Inr.keep {S : Nat → Prop} {w w' : World} {p : Nat} {b : Sl} {t : Nat} {f : Int} (h : Inr w p b t f) (hb : Buts S w w') (hp : ¬ S p) (hs : 0 < b.l.length → ∀ x, b.a = some x → ¬ S x.block) : Inr w' p b t f :=
 ⟨hb.arr h.arr hp, hb.ok h.ok hs, h.le, fun hl x hx => ⟨(h.off hl x hx).1, Nat.lt_of_lt_of_le (h.off hl x hx).2 hb.size⟩⟩
theorem Inr.setAt {w : World} {p : Nat} {b : Sl} {t : Nat} {f : Int} (h : Inr w p b t f) (t' : Nat) (ht : t' ≤ b.n) : Inr (w.setCell ⟨p, 1, none⟩ (.int .i64 t')) p b t' f := by
 have hB : But p w (w.setCell ⟨p, 1, none⟩ (.int .i64 t')) := (But.refl p w).setCell 1 _
 exact ⟨by simpa using h.arr.set 1 (.int .i64 t'), hB.ok h.ok (fun hl x hx => (h.off hl x hx).1), ht, fun hl x hx => ⟨(h.off hl x hx).1, Nat.lt_of_lt_of_le (h.off hl x hx).2 hB.size⟩⟩
theorem Inr.setE {w : World} {p : Nat} {b : Sl} {t : Nat} {f : Int} (h : Inr w p b t f) (f' : Int) : Inr (w.setCell ⟨p, 2, none⟩ (.int .i64 f')) p b t f' := by
 have hB : But p w (w.setCell ⟨p, 2, none⟩ (.int .i64 f')) := (But.refl p w).setCell 2 _
 exact ⟨by simpa using h.arr.set 2 (.int .i64 f'), hB.ok h.ok (fun hl x hx => (h.off hl x hx).1), h.le, fun hl x hx => ⟨(h.off hl x hx).1, Nat.lt_of_lt_of_le (h.off hl x hx).2 hB.size⟩⟩
def fR {α : Type} (V : α → Value → World → World → Prop) (p : Nat) (b : Sl) (q : α × List Int × Int) (w : World) (e : Ending) (w' : World) : Prop :=
 But p w w' ∧ ∃ v t, e = .returned v ∧ V q.1 v w w' ∧ Inr w' p b t q.2.2 ∧ b.l.drop t = q.2.1
theorem fR.ret {α : Type} {V : α → Value → World → World → Prop} {p : Nat} {b : Sl} {q : α × List Int × Int} {w w' : World} {e : Ending} (h : fR V p b q w e w') : ∃ v, e = .returned v := by
 obtain ⟨-, v, -, he, -⟩ := h; exact ⟨v, he⟩
def SoS (L : List Int) (x n : Nat) : Prop := (shoD L = none ∧ x = 0 ∧ n = 0) ∨ (1 ≤ n ∧ n ≤ L.length ∧ x < 18446744073709551616 ∧ shoD L = some (x, L.drop n))
end Go.Proofs.YtejagcngbgnogaaGreat
