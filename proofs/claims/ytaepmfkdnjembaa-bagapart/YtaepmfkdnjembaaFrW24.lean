import Derived.Test.YtaepmfkdnjembaaHxM
import Derived.Deep.DeepCutAuto
import Derived.Deep.QuietTactic
import Derived.BigQuiet
set_option linter.unusedSimpArgs false
set_option linter.unusedVariables false
namespace Go.Proofs.Ytaepmfkdnjembaa
open Go.RowKit

/-! A second bag, empty, beside the first. -/
def JC (gc mc : Nat) (w : World) : Prop := Arr w gc 67 (gbC 0 (.map (some mc))) ∧ MW w mc []
theorem JC.keep {gc mc : Nat} {w w' : World} (h : JC gc mc w) (h1 : w'.heap[gc]? = w.heap[gc]?) (h2 : w'.heap[mc]? = w.heap[mc]?) : JC gc mc w' := ⟨h1.trans h.1, h.2.blk h2⟩
def BgJ (gc mc B mb : Nat) (ms ex : List Ms) (w : World) : Prop := Bgm B mb ms ex w ∧ JC gc mc w ∧ mc ≠ mb
def BagJ (gc mc B gb mb : Nat) (ms ex : List Ms) (last : Nat) (w : World) : Prop := BagW B gb mb ms ex last w ∧ JC gc mc w ∧ gc ≠ gb ∧ mc ≠ mb
theorem Hs17.noJ {w0 w : World} {rows : List Row} {K : World → Prop} {gc mc : Nat} (hS : Hs17 w0 rows K w) (hK : ∀ w, K w → JC gc mc w) : ∀ p ∈ rows, p.1 ≠ gc ∧ p.1 ≠ mc := by
  have key : ∀ (o : Obj) (p : Row), p ∈ rows → K { w with heap := w.heap.set! p.1 o } := fun o p hp =>
    hS.keep _ (by simp) (fun k hk hq => by
      have := hq p hp
      simp [Array.getElem?_setIfInBounds, this])
  have at_ : ∀ (o : Obj) (p : Row), p ∈ rows → ({ w with heap := w.heap.set! p.1 o } : World).heap[p.1]? = some o := fun o p hp => by
    have := (hS.arr p hp).lt
    simp [Array.getElem?_setIfInBounds, this]
  intro p hp
  refine ⟨fun hk => ?_, fun hk => ?_⟩
  · have h := (hK _ (key (.map #[] 0) p hp)).1
    unfold Arr at h
    rw [← hk, at_ _ p hp] at h
    cases h
  · obtain ⟨D, ⟨es, clock, hb1, -⟩, -⟩ := (hK _ (key (.cells #[] 0 (0, 0)) p hp)).2
    rw [← hk, at_ _ p hp] at hb1
    cases hb1
theorem JC.lt {gc mc : Nat} {w : World} (h : JC gc mc w) : gc < w.heap.size ∧ mc < w.heap.size := ⟨h.1.lt, h.2.lt⟩
theorem Hs17.bgmJ {w0 w w' : World} {rows : List Row} {T : Nat → Prop} {B mb gc mc : Nat} {ms ex ms' ex' : List Ms} (hS : Hs17 w0 rows (BgJ gc mc B mb ms ex) w) (hn : NoU rows = true) (hw : w0.heap.size ≤ B) (hb : Buts T w w') (hT : ∀ k, T k → BkM mb ms ex k) (hG : Bgm B mb ms' ex' w') : Hs17 w0 rows (BgJ gc mc B mb ms' ex') w' := by
  have hR := (hS.weak (K' := Bgm B mb ms ex) (fun _ h => h.1)).bgm hn hw hb hT hG
  have hJ := hS.noJ (fun _ h => h.2.1)
  obtain ⟨hK1, hJ0, hne⟩ := hS.K
  have hlt := hJ0.lt
  have n1 : ¬ T gc := fun ht => by
    rcases hT _ ht with e | ⟨m, hm, hk⟩
    · exact hK1.mp.ne hJ0.1 e
    · exact own_arr_ne (hK1.bd m hm) hJ0.1 (by decide) hk
  have n2 : ¬ T mc := fun ht => by
    rcases hT _ ht with e | ⟨m, hm, hk⟩
    · exact hne e
    · exact hJ0.2.neO (hK1.bd m hm) hk
  have hJ' : JC gc mc w' := hJ0.keep (hb.block _ hlt.1 n1) (hb.block _ hlt.2 n2)
  have hlt' := hJ'.lt
  exact (hR.also (N := fun w => JC gc mc w ∧ mc ≠ mb) (fun w'' h1 h2 => ⟨hJ'.keep (h2 _ hlt'.1 (fun p hp => (hJ p hp).1)) (h2 _ hlt'.2 (fun p hp => (hJ p hp).2)), hne⟩)).weak (fun _ h => h)
theorem Hs17.bopenJ {w0 w : World} {rows : List Row} {B gb mb last gc mc : Nat} {ms ex : List Ms} (hS : Hs17 w0 rows (BagJ gc mc B gb mb ms ex last) w) (hn : NoB rows = true) (hw : w0.heap.size ≤ B) : Hs17 w0 ((gb, 67, gbC last (.map (some mb))) :: rows) (BgJ gc mc B mb ms ex) w := by
  have hR := (hS.weak (K' := BagW B gb mb ms ex last) (fun _ h => h.1)).bopen hn hw
  have hJ := hS.noJ (fun _ h => h.2.1)
  obtain ⟨hK1, hJ0, hne1, hne2⟩ := hS.K
  have hlt := hJ0.lt
  have hmg : gb ≠ mc := hJ0.2.ne hK1.st
  refine (hR.also (N := fun w => JC gc mc w ∧ mc ≠ mb) (fun w'' h1 h2 => ⟨hJ0.keep (h2 _ hlt.1 (fun p hp => ?_)) (h2 _ hlt.2 (fun p hp => ?_)), hne2⟩)).weak (fun _ h => h)
  · rcases List.mem_cons.1 hp with rfl | hp
    · exact fun e => hne1 e.symm
    · exact (hJ p hp).1
  · rcases List.mem_cons.1 hp with rfl | hp
    · exact hmg
    · exact (hJ p hp).2
theorem Hs17.bcloseJ {w0 w : World} {rows : List Row} {B gb mb last gc mc : Nat} {ms ex : List Ms} (hS : Hs17 w0 ((gb, 67, gbC last (.map (some mb))) :: rows) (BgJ gc mc B mb ms ex) w) (hlo : B ≤ gb) (hle : ms.length ≤ 4096) (hid : ∀ m ∈ ms, 1 ≤ m.i ∧ m.i ≤ last) (hbl : ∀ m ∈ ms, m.s.xs.length ≤ 1024) : Hs17 w0 rows (BagJ gc mc B gb mb ms ex last) w := by
  have hR := (hS.weak (K' := Bgm B mb ms ex) (fun _ h => h.1)).bclose hlo hle hid hbl
  have hJ := hS.noJ (fun _ h => h.2.1)
  obtain ⟨hK1, hJ0, hne⟩ := hS.K
  have hlt := hJ0.lt
  have hg := (hJ _ (List.mem_cons_self ..)).1
  exact (hR.also (N := fun w => JC gc mc w ∧ gc ≠ gb ∧ mc ≠ mb) (fun w'' h1 h2 => ⟨hJ0.keep (h2 _ hlt.1 (fun p hp => (hJ p (List.mem_cons_of_mem _ hp)).1)) (h2 _ hlt.2 (fun p hp => (hJ p (List.mem_cons_of_mem _ hp)).2)), fun e => hg e.symm, hne⟩)).weak (fun _ h => h)
/-- the second bag is made -/
theorem Hs17.secJ {w0 w w' : World} {rows : List Row} {B gb mb last gc mc : Nat} {ms ex : List Ms} (hS : Hs17 w0 rows (BagW B gb mb ms ex last) w) (hG : BagW w.heap.size gc mc [] [] 0 w') (hb : Below w.heap.size w w') : Hs17 w0 rows (BagJ gc mc B gb mb ms ex last) w' := by
  have hK := hS.K
  have h1 := hK.st.lt
  have h2 := hK.g.mp.lt
  have h3 := hG.lo
  have h4 := hG.g.lo
  have hJ : JC gc mc w' := ⟨hG.st, hG.g.mp⟩
  have hlt := hJ.lt
  refine ((hS.later hb).also (N := fun w => JC gc mc w ∧ gc ≠ gb ∧ mc ≠ mb) (fun w'' q1 q2 => ⟨hJ.keep (q2 _ hlt.1 (fun p hp e => ?_)) (q2 _ hlt.2 (fun p hp e => ?_)), by omega, by omega⟩)).weak (fun _ h => h)
  · have := (hS.arr p hp).lt; omega
  · have := (hS.arr p hp).lt; omega
section
variable {ops : Array Oper} {rest : List Oper} {o : Oper} {a : Act} {w w0 : World} {Q : Exit → Act → World → Prop} {rows : List Row} {K : World → Prop} {k : Act → World → Prop}
theorem op_mputJ (x y u : Operand) (ho : o.op = .mapUpdate 65 x y u) {B b gc mc : Nat} {m : Ms} {ms ex : List Ms} (hx : a.eval x = .map (some b)) (hy : a.eval y = .int .i64 m.i) (hu : a.eval u = aV (mC m)) (hS : Hs17 w0 rows (BgJ gc mc B b ms (m :: ex)) w) (hn : NoU rows = true) (hB : w0.heap.size ≤ B) (hz : I64 m.i) (hlo : ∀ x ∈ ms, x.i < m.i) (hle : ms.length ≤ 4096)
    (h : ∀ w', Hs17 w0 rows (BgJ gc mc B b (ms ++ [m]) ex) w' → k (a.put o.dst undef) w') : o.wp Try.prog a w k Q := by
  have hG := hS.K.1
  have hno : lkB ms m.i = false := by
    cases hq : lkB ms m.i with
    | false => rfl
    | true =>
      obtain ⟨q1, q2⟩ := lkB_yes hq
      have := hlo _ q1
      omega
  obtain ⟨w', hr, hM, hb⟩ := hG.mp.put m hz hno hle
  have hp : ∀ x, x ∈ ms ++ [m] ++ ex ↔ x ∈ ms ++ (m :: ex) := fun x => by simp [or_assoc]
  have hG' : Bgm B b (ms ++ [m]) ex w' := by
    refine ⟨hM, hG.lo, fun x hx => ?_, ?_, ?_⟩
    · have hO := hG.bd x ((hp x).1 hx)
      refine own_blk hO (fun g hg => hb.block g (own_lt hO hg).2 (fun e => ?_))
      subst e
      exact hG.mp.neO hO hg
    · rw [List.append_assoc]; exact hG.ap
    · unfold Up
      rw [List.pairwise_append]
      exact ⟨hG.up, by simp, fun p9 hp9 q hq => by rw [List.mem_singleton] at hq; rw [hq]; exact hlo p9 hp9⟩
  unfold Oper.wp
  simp [execOp, ho, hx, hy, hu, hr, Result.andThen]
  exact h w' (hS.bgmJ hn hB (Buts.of_but hb) (fun k hk => .inl hk) hG')
end
set_option maxHeartbeats 4000000 in
set_option maxRecDepth 100000 in
theorem put_fr (w0 : World) (rows : List Row) (gc mc B gb mb last : Nat) (ms ex : List Ms) (w : World) (hS : Hs17 w0 rows (BagJ gc mc B gb mb ms ex last) w) (hn : NoB rows = true) (hw : w0.heap.size ≤ B) (i f t : Int) (y : Sx Int) (hy : Rd24 w0 rows B mb ms ex y) (hl : last ≤ 1000000000) (h1 : y.xs.length ≤ 1024) (h2 : ms.length < 4096) :
    Calls Try.prog 9 #[.pointer (some ⟨gb, 0, none⟩), aV (msC i f t y.v)] w fun e w' => ∃ ms', e = .returned (.tuple #[.int .i64 ((last + 1 : Nat) : Int), .int .i64 0]) ∧ ms'.map Ms.p = ms.map Ms.p ++ [⟨((last + 1 : Nat) : Int), f, t, y.xs⟩] ∧ Hs17 w0 rows (BagJ gc mc B gb mb ms' ex (last + 1)) w' := by
  have hBsz := hS.K.1.size
  have hK := hS.K.1
  have hlo := hK.lo
  have hle := hK.le
  have hid := hK.id
  have hbl := hK.bl
  clear hK
  replace hS := hS.bopenJ hn hw
  replace hn := NoB.u hn
  have hyl := (hy _ ((hS.sub ((List.Sublist.refl _).cons _)).weak (fun _ h => h.1))).len
  have hc : ¬ (1024 : Int) < (y.n : Int) := by omega
  have hr : ¬ ((4096 - ms.length : Nat) : Int) = 0 := by omega
  have hyn : y.n ≤ 1048576 := by omega
  have e1 : IntKind.i64.wrap ((last : Int) + 1) = ((last + 1 : Nat) : Int) := by rw [show (last : Int) + 1 = ((last + 1 : Nat) : Int) by omega]; exact wi_of24 (by omega) (by omega)
  have hI : I64 ((last + 1 : Nat) : Int) := by unfold I64; omega
  have hlo2 : ∀ x ∈ ms, x.i < ((last + 1 : Nat) : Int) := fun x hx => by have := (hid x hx).2; omega
  obtain ⟨r, hrr⟩ : ∃ r : Int, ((4096 - ms.length : Nat) : Int) = r := ⟨_, rfl⟩
  rw [hrr] at hr
  have HRR := hide hrr
  obtain ⟨nx, hnx⟩ : ∃ nx : Int, ((last + 1 : Nat) : Int) = nx := ⟨_, rfl⟩
  have HNX := hide hnx
  rw [hnx] at e1 hI hlo2
  have HI := hide hI
  have HLO2 := hide hlo2
  have HB := hide hbl
  have HID := hide hid
  have H2 := hide h2
  have H1 := hide h1
  have HYL := hide hyl
  have HLE := hide hle
  have HYN := hide hyn
  clear h1 hyl h2 hrr hnx hlo2 hbl hid hI hle hl hyn
  rw [show (((last + 1 : Nat) : Int)) = nx from unhide HNX]
  go_enter Try.func9, Try.ntmps9
  go_upto_region 0 with fail
  refine wp_region_lit ?_
  refine wl_box (by kernel_rfl) 32 (.tmp 1) rfl (msC i f t y.v) rfl hS ?_
  clear hS
  intro g1 w1 hS
  simp [Act.put]
  refine wl (by kernel_rfl) fun kQ hkQ => ?_
  go_simp
  refine hkQ _ _ ?_
  clear hkQ kQ
  refine wl (by kernel_rfl) fun kQ hkQ => ?_
  go_simp
  refine hkQ _ _ ?_
  clear hkQ kQ
  refine wpList_nil ?_
  go_upto_region 1 with fail
  refine wp_region_lit ?_
  refine wl (by kernel_rfl) fun kQ hkQ => ?_
  go_simp
  refine hkQ _ _ ?_
  clear hkQ kQ
  refine wl_load1 (by kernel_rfl) 27 (.tmp 6) rfl 0 rfl 3 rfl (y.v) (at_D3 i f t y.v) Try.underlying27 rfl hS ?_
  simp [Act.put]
  refine wl (by kernel_rfl) fun kQ hkQ => ?_
  go_simp
  refine hkQ _ _ ?_
  clear hkQ kQ
  refine wl (by kernel_rfl) fun kQ hkQ => ?_
  go_simp
  refine hkQ _ _ ?_
  clear hkQ kQ
  refine wpList_nil ?_
  go_upto_region 3 with fail
  clear hc
  refine wp_region_lit ?_
  refine wl (by kernel_rfl) fun kQ hkQ => ?_
  go_simp
  refine hkQ _ _ ?_
  clear hkQ kQ
  refine wl (by kernel_rfl) fun kQ hkQ => ?_
  go_simp
  refine (room_any gb mb last ms _ (hS.get 1 rfl) hS.K.1.mp (unhide HLE)).mono ?_
  rintro e w2 ⟨rfl, hb1⟩
  replace hS := hS.later hb1
  refine hkQ _ _ ?_
  clear hkQ kQ hb1
  rw [unhide HRR]
  refine wl (by kernel_rfl) fun kQ hkQ => ?_
  go_simp
  refine hkQ _ _ ?_
  clear hkQ kQ
  refine wpList_nil ?_
  go_upto_region 5 with fail
  clear hr
  refine wp_region_lit ?_
  refine wl (by kernel_rfl) fun kQ hkQ => ?_
  go_simp
  refine hkQ _ _ ?_
  clear hkQ kQ
  refine wl (by kernel_rfl) fun kQ hkQ => ?_
  go_simp
  refine hkQ _ _ ?_
  clear hkQ kQ
  refine wl (by kernel_rfl) fun kQ hkQ => ?_
  go_simp
  refine hkQ _ _ ?_
  clear hkQ kQ
  refine wl_load1 (by kernel_rfl) 3 (.tmp 15) rfl 1 rfl 0 rfl (.int .i64 (last : Int)) (at_G0 (last : Int) (.map (some mb))) Try.underlying3 rfl hS ?_
  simp [Act.put]
  refine wl (by kernel_rfl) fun kQ hkQ => ?_
  go_simp
  refine hkQ _ _ ?_
  clear hkQ kQ
  refine wl (by kernel_rfl) fun kQ hkQ => ?_
  go_simp
  refine hkQ _ _ ?_
  clear hkQ kQ
  refine wl (by kernel_rfl) fun kQ hkQ => ?_
  go_simp
  refine hkQ _ _ ?_
  clear hkQ kQ
  refine wl_store (by kernel_rfl) 3 (.tmp 19) (.tmp 17) rfl 1 rfl 0 rfl [.int .i64 nx] (gbC nx (.map (some mb))) (pt_G0 (last : Int) (.map (some mb)) nx) rfl Try.j1i (one_one rfl) hS ?_
  clear hS
  intro w3 hS
  change Hs17 w0 ((g1, 32, (msC i f t y.v)) :: (gb, 67, (gbC nx (.map (some mb)))) :: rows) (BgJ gc mc B mb ms ex) w3 at hS
  simp [Act.put]
  refine wpList_nil ?_
  clear e1
  go_upto_region 6 with fail
  refine wp_region_lit ?_
  refine wl_load (by kernel_rfl) 32 (.tmp 3) rfl 0 rfl 0 rfl (msC i f t y.v) (At.self _) Try.underlying32 rfl (sz_D _ _ _ _) hS ?_
  simp [Act.put]
  refine wl (by kernel_rfl) fun kQ hkQ => ?_
  go_simp
  refine (apart_any i f t y _ (hy _ ((hS.sub (((List.Sublist.refl _).cons _).cons _)).weak (fun _ h => h.1))) (unhide HYN)).mono ?_
  rintro e w4 ⟨s, rfl, hx, hO, hb1⟩
  replace hS := hS.bgmJ (NoU.cons rfl (NoU.cons rfl hn)) hw (T := fun _ => False) (Buts.of_below hb1) (fun _ h9 => h9.elim) (hS.K.1.more (by have h8 := hS.bel.size; have h9 := (hS.get 1 rfl).lt; omega) hb1 ⟨nx, f, t, s⟩ hO)
  clear hO
  refine hkQ _ _ ?_
  clear hkQ kQ hb1
  refine wl_store (by kernel_rfl) 32 (.tmp 3) (.tmp 21) rfl 0 rfl 0 rfl (msC i f t s.v) (msC i f t s.v) (pt_D i f t y.v i f t s.v) rfl (sz_D _ _ _ _) (one_D _ _ _ rfl) hS ?_
  clear hS
  intro w5 hS
  change Hs17 w0 ((g1, 32, (msC i f t s.v)) :: (gb, 67, (gbC nx (.map (some mb)))) :: rows) (BgJ gc mc B mb ms (⟨nx, f, t, s⟩ :: ex)) w5 at hS
  simp [Act.put]
  refine wpList_nil ?_
  go_upto_region 7 with fail
  refine wp_region_lit ?_
  refine wl (by kernel_rfl) fun kQ hkQ => ?_
  go_simp
  refine hkQ _ _ ?_
  clear hkQ kQ
  refine wl (by kernel_rfl) fun kQ hkQ => ?_
  go_simp
  refine hkQ _ _ ?_
  clear hkQ kQ
  refine wl (by kernel_rfl) fun kQ hkQ => ?_
  go_simp
  refine hkQ _ _ ?_
  clear hkQ kQ
  refine wl_load1 (by kernel_rfl) 3 (.tmp 24) rfl 1 rfl 0 rfl (.int .i64 nx) (at_G0 nx (.map (some mb))) Try.underlying3 rfl hS ?_
  simp [Act.put]
  refine wl (by kernel_rfl) fun kQ hkQ => ?_
  go_simp
  refine hkQ _ _ ?_
  clear hkQ kQ
  refine wl_store (by kernel_rfl) 3 (.tmp 26) (.tmp 25) rfl 0 rfl 0 rfl [.int .i64 nx] (msC nx f t s.v) (pt_D0 i f t s.v nx) rfl Try.j1i (one_one rfl) hS ?_
  clear hS
  intro w6 hS
  change Hs17 w0 ((g1, 32, (msC nx f t s.v)) :: (gb, 67, (gbC nx (.map (some mb)))) :: rows) (BgJ gc mc B mb ms (⟨nx, f, t, s⟩ :: ex)) w6 at hS
  simp [Act.put]
  refine wpList_nil ?_
  go_upto_region 8 with fail
  refine wp_region_noPanic ?_
  replace hS := hS.drew
  refine wp_region_held_drew (S := Hs17 w0 ((g1, 32, (msC nx f t s.v)) :: (gb, 67, (gbC nx (.map (some mb)))) :: rows) (fun _ => True)) (by kernel_rfl) (hS.weak (fun _ _ => trivial)) (fun hHeld => ?_)
  generalize World.drew _ = w7 at hS hHeld ⊢
  refine wpAnyH_take (i := 0) (oi := _) (v := .pointer (some ⟨gb, 0, none⟩)) rfl (by kernel_rfl) (by kernel_rfl) (by kernel_rfl) (fun _ _ _ h => h) (Or.inl ⟨by rfl, fun w hSw => by go_simp⟩) hHeld ?_
  simp [Act.put]
  refine wpAnyH_take (i := 1) (oi := _) (v := .pointer (some ⟨gb, 0, none⟩)) rfl (by kernel_rfl) (by kernel_rfl) (by kernel_rfl) (fun _ _ _ h => h) (Or.inl ⟨by rfl, fun w hSw => by go_simp⟩) hHeld ?_
  simp [Act.put]
  refine wpAnyH_take (i := 2) (oi := _) (v := .pointer (some ⟨gb, 1, none⟩)) rfl (by kernel_rfl) (by kernel_rfl) (by kernel_rfl) (fun _ _ _ h => h) (Or.inl ⟨by rfl, fun w hSw => by go_simp⟩) hHeld ?_
  simp [Act.put]
  refine wpAnyH_take (i := 3) (oi := _) (v := (.map (some mb))) rfl (by kernel_rfl) (by kernel_rfl) (by kernel_rfl) (fun _ _ _ h => h) (yl_load1 (by kernel_rfl) 65 (.tmp 29) rfl 1 rfl 1 rfl ((.map (some mb))) (at_G1 nx (.map (some mb))) Try.underlying65 rfl) hHeld ?_
  simp [Act.put]
  refine wpAnyH_take (i := 4) (oi := _) (v := .pointer (some ⟨g1, 0, none⟩)) rfl (by kernel_rfl) (by kernel_rfl) (by kernel_rfl) (fun _ _ _ h => h) (Or.inl ⟨by rfl, fun w hSw => by go_simp⟩) hHeld ?_
  simp [Act.put]
  refine wpAnyH_take (i := 5) (oi := _) (v := .int .i64 nx) rfl (by kernel_rfl) (by kernel_rfl) (by kernel_rfl) (fun _ _ _ h => h) (yl_load1 (by kernel_rfl) 3 (.tmp 31) rfl 0 rfl 0 rfl (.int .i64 nx) (at_D0 nx f t s.v) Try.underlying3 rfl) hHeld ?_
  simp [Act.put]
  refine wpAnyH_take (i := 6) (oi := _) (v := aV (msC nx f t s.v)) rfl (by kernel_rfl) (by kernel_rfl) (by kernel_rfl) (fun _ _ _ h => h) (yl_load (by kernel_rfl) 32 (.tmp 3) rfl 0 rfl 0 rfl (msC nx f t s.v) (At.self _) Try.underlying32 rfl (sz_D _ _ _ _)) hHeld ?_
  simp [Act.put]
  refine wpAnyH_ready (rs := [7]) (by kernel_rfl) (by simp) ?_
  refine (AllReadyH.cons rfl (fun kQ hkQ => ?_) AllReadyH.nil)
  refine dw (by kernel_rfl) (op_mputJ (m := ⟨nx, f, t, s⟩) (.tmp 30) (.tmp 32) (.tmp 33) rfl rfl rfl rfl hS (NoU.cons rfl (NoU.cons rfl hn)) hw (unhide HI) (unhide HLO2) (unhide HLE) ?_)
  clear hS hHeld
  intro w8 hS
  refine hkQ.out _ _ (hS.weak (fun _ _ => trivial)) (fun hHeld => ?_)
  clear hkQ kQ
  simp [Act.put]
  refine wpAnyH_done (by kernel_rfl) ?_ _
  unfold NoPanic
  clear hHeld
  go_upto_region 9 with fail
  refine wp_region_lit ?_
  refine wl (by kernel_rfl) fun kQ hkQ => ?_
  go_simp
  refine hkQ _ _ ?_
  clear hkQ kQ
  refine wl_load1 (by kernel_rfl) 3 (.tmp 34) rfl 0 rfl 0 rfl (.int .i64 nx) (at_D0 nx f t s.v) Try.underlying3 rfl hS ?_
  simp [Act.put]
  refine wl (by kernel_rfl) fun kQ hkQ => ?_
  go_simp
  refine hkQ _ _ ?_
  clear hkQ kQ
  refine wl (by kernel_rfl) fun kQ hkQ => ?_
  go_simp
  refine hkQ _ _ ?_
  clear hkQ kQ
  refine wpList_nil ?_
  go_wp2_with fail
  replace hS := hS.sub ((((List.Sublist.refl _)).cons_cons _).cons _)
  have hid' : ∀ m ∈ ms ++ [(⟨nx, f, t, s⟩ : Ms)], 1 ≤ m.i ∧ m.i ≤ ((last + 1 : Nat) : Int) := fun m hm => by
    have e := unhide HNX
    rcases List.mem_append.1 hm with hm | hm
    · have := unhide HID m hm; omega
    · rw [List.mem_singleton] at hm; subst hm; show 1 ≤ nx ∧ nx ≤ _; omega
  have hbl' : ∀ m ∈ ms ++ [(⟨nx, f, t, s⟩ : Ms)], m.s.xs.length ≤ 1024 := fun m hm => by
    rcases List.mem_append.1 hm with hm | hm
    · exact unhide HB m hm
    · rw [List.mem_singleton] at hm; subst hm; show s.xs.length ≤ 1024; rw [hx]; exact unhide H1
  have hle' : (ms ++ [(⟨nx, f, t, s⟩ : Ms)]).length ≤ 4096 := by have := unhide H2; simp; omega
  rw [← unhide HNX] at hS hid' hbl' hle' ⊢
  refine bodyPost_ret (results_tmp2 rfl _ _ _) rfl ?_
  refine ⟨ms ++ [⟨_, f, t, s⟩], rfl, ?_, hS.bcloseJ hlo hle' hid' hbl'⟩
  rw [List.map_append, ← hx]; rfl
set_option maxHeartbeats 4000000 in
set_option maxRecDepth 100000 in
theorem double_fr (w0 : World) (rows : List Row) (gc mc B gb mb last : Nat) (ms ex : List Ms) (w : World) (hS : Hs17 w0 rows (BagJ gc mc B gb mb ms ex last) w) (hn : NoB rows = true) (hw : w0.heap.size ≤ B) (z : Int) (hz : I64 z) (hl : last ≤ 1000000000) (hq : lkB ms z = true) (h2 : ms.length < 4096) :
    Calls Try.prog 14 #[.pointer (some ⟨gb, 0, none⟩), .int .i64 z] w fun e w' => ∃ ms', e = .returned (.tuple #[.int .i64 ((last + 1 : Nat) : Int), .int .i64 0]) ∧ ms'.map Ms.p = ms.map Ms.p ++ [⟨((last + 1 : Nat) : Int), (lkV ms z).f, (lkV ms z).t, (lkV ms z).s.xs⟩] ∧ Hs17 w0 rows (BagJ gc mc B gb mb ms' ex (last + 1)) w' := by
  have hb := (hS.K.1.body z).2.2
  have hm := (lkB_yes hq).1
  have HM := hide hm
  clear hm
  go_enter Try.func14, Try.ntmps14
  go_upto_region 1 with fail
  refine wp_region_lit ?_
  refine wl (by kernel_rfl) fun kQ hkQ => ?_
  go_simp
  refine hkQ _ _ ?_
  clear hkQ kQ
  refine wl (by kernel_rfl) fun kQ hkQ => ?_
  go_simp
  refine (lying_any gb _ _ _ hS.K.1.st).mono ?_
  rintro e w1 ⟨rfl, hb1⟩
  replace hS := hS.later hb1
  refine hkQ _ _ ?_
  clear hkQ kQ hb1
  refine wl (by kernel_rfl) fun kQ hkQ => ?_
  go_simp
  refine hkQ _ _ ?_
  clear hkQ kQ
  refine wl_look (by kernel_rfl) (.tmp 10) (.tmp 11) rfl rfl rfl hS.K.1.g.mp hz ?_
  simp [Act.put]
  refine wl (by kernel_rfl) fun kQ hkQ => ?_
  go_simp
  refine hkQ _ _ ?_
  clear hkQ kQ
  refine wl (by kernel_rfl) fun kQ hkQ => ?_
  go_simp
  refine hkQ _ _ ?_
  clear hkQ kQ
  refine wl (by kernel_rfl) fun kQ hkQ => ?_
  go_simp
  refine hkQ _ _ ?_
  clear hkQ kQ
  refine wl_alloc (by kernel_rfl) 32 rfl (msC 0 0 0 (.slice none 0 0)) Try.inD hS ?_
  clear hS
  intro g2 w2 hS
  simp [Act.put]
  refine wl_store (by kernel_rfl) 32 (.tmp 6) (.tmp 13) rfl 0 rfl 0 rfl (msC ((lkV ms z).i) ((lkV ms z).f) ((lkV ms z).t) ((lkV ms z).s.v)) (msC ((lkV ms z).i) ((lkV ms z).f) ((lkV ms z).t) ((lkV ms z).s.v)) (pt_D 0 0 0 (.slice none 0 0) ((lkV ms z).i) ((lkV ms z).f) ((lkV ms z).t) ((lkV ms z).s.v)) rfl (sz_D _ _ _ _) (one_D _ _ _ rfl) hS ?_
  clear hS
  intro w3 hS
  change Hs17 w0 ((g2, 32, (msC ((lkV ms z).i) ((lkV ms z).f) ((lkV ms z).t) ((lkV ms z).s.v))) :: rows) (BagJ gc mc B gb mb ms ex last) w3 at hS
  simp [Act.put]
  refine wl (by kernel_rfl) fun kQ hkQ => ?_
  go_simp
  refine hkQ _ _ ?_
  clear hkQ kQ
  refine wpList_nil ?_
  go_upto_region 4 with fail
  clear hq
  refine wp_region_lit ?_
  refine wl (by kernel_rfl) fun kQ hkQ => ?_
  go_simp
  refine hkQ _ _ ?_
  clear hkQ kQ
  refine wl_load (by kernel_rfl) 32 (.tmp 6) rfl 0 rfl 0 rfl (msC ((lkV ms z).i) ((lkV ms z).f) ((lkV ms z).t) ((lkV ms z).s.v)) (At.self _) Try.underlying32 rfl (sz_D _ _ _ _) hS ?_
  simp [Act.put]
  refine wl (by kernel_rfl) fun kQ hkQ => ?_
  go_simp
  refine (put_fr w0 _ gc mc B gb mb last ms ex _ hS (NoB.cons rfl hn) hw _ _ _ (lkV ms z).s (fun w' h => Ou.ok (h.K.bd _ (List.mem_append.2 (.inl (unhide HM))))) hl hb h2).mono ?_
  clear hS
  rintro e w4 ⟨ms', rfl, hp, hS⟩
  refine hkQ _ _ ?_
  clear hkQ kQ
  refine wl (by kernel_rfl) fun kQ hkQ => ?_
  go_simp
  refine hkQ _ _ ?_
  clear hkQ kQ
  refine wl (by kernel_rfl) fun kQ hkQ => ?_
  go_simp
  refine hkQ _ _ ?_
  clear hkQ kQ
  refine wl (by kernel_rfl) fun kQ hkQ => ?_
  go_simp
  refine hkQ _ _ ?_
  clear hkQ kQ
  refine wl (by kernel_rfl) fun kQ hkQ => ?_
  go_simp
  refine hkQ _ _ ?_
  clear hkQ kQ
  refine wpList_nil ?_
  go_wp2_with fail
  replace hS := hS.sub (((List.Sublist.refl _)).cons _)
  refine bodyPost_ret (results_tmp2 rfl _ _ _) rfl ?_
  exact ⟨ms', rfl, hp, hS⟩
end Go.Proofs.Ytaepmfkdnjembaa
