import Derived.Test.YtmdpmkdofgligaaShP13
import Derived.Test.YtmdpmkdofgligaaFrT
set_option linter.unusedSimpArgs false
set_option linter.unusedVariables false
namespace Go.Proofs.Ytmdpmkdofgligaa
open Go.RowKit

theorem slv_one (v : Value) (h : v.oneCell' = true) : ∀ u ∈ [v], u.oneCell' = true := by intro u hu; simp at hu; subst hu; exact h
theorem step_append_own13 {P : Program} {ops : Array Oper} {o : Oper} {a : Act} {w : World} {K : Act → World → Prop} {Q : Exit → Act → World → Prop} {E : Prop} (hgd : o.guard = none) (s x : Operand) (t : TypeId)
    (ho : o.op = .call { callee := .builtin .append, args := #[s, x], argTypes := #[t, t] })
    (base : Nat) (e : TypeId) (i : TypeInfo) (z : Value) (size bytes : Nat) (ht : P.underlying t = some (.slice e)) (hi : P.info? e = some i) (hz : i.zero = some z)
    (hsize : i.size = size) (hby : i.bytes = bytes) (hzs : z.cells.size = size) (hsz : 0 < size)
    (v : Value) (n : Nat) (xs : List Value) (hs : a.eval s = v) (hown : w.ownsRow base e size v n xs)
    (ad : Addr) (m c : Nat) (news : List Value) (hx : a.eval x = .slice (some ad) m c) (hl : news.length = m * size) (hnews : ∀ j u, news[j]? = some u → w.cell? (ad.add j) = some u) (h1 : ∀ u ∈ news, u.oneCell' = true)
    (h63 : n + m ≤ maxLen) (hbytes : (n + m) * bytes ≤ 140737488355328) (hbase : base ≤ w.heap.size)
    (h : ∀ v' w', w'.ownsRow base e size v' (n + m) (xs ++ news) → w.grownBy w' v.ownBlock → (v'.ownBlock = v.ownBlock ∨ v'.ownBlock = some w.heap.size) → K (a.put o.dst v') w') :
    if Region.wanted o (yielded ops a.tmps) = true then Oper.wp P o a w K Q else E := by
  have hw : Region.wanted o (yielded ops a.tmps) = true := by simp [Region.wanted, hgd]
  rw [if_pos hw]
  obtain ⟨v', w', hr, h2, h3, h4⟩ := run_append_own_at (P := P) w base t o.type e i z size bytes ht hi hz hsize hby hzs hsz v n xs hown ad m c news hl hnews h1 h63 hbytes hbase
  unfold Oper.wp execOp
  simp only [ho, resolve, invoke, builtin, Sem.run_bind, Sem.run_pure, Result.andThen_ok, List.map_toArray, List.map_cons, List.map_nil, hs, hx, hr]
  first | exact h v' w' h2 h3 h4 | exact h v' w' h2 h3 h4.2
theorem ex_loadC {P : Program} {o : Oper} {a : Act} {w : World} (t : TypeId) (x : Operand) (ho : o.op = .load t x) (g off : Nat) (hx : a.eval x = .pointer (some ⟨g, off, none⟩)) (v : Value) (hc : w.cell? ⟨g, off, none⟩ = some v) {d : TypeDesc} (hu : P.underlying t = some d) (hd : d.isRow = false) :
    (execOp a.eval o).run P w = .ok (.value v) w := by
  have hA : (isAgg t).run P w = .ok false w := by
    unfold isAgg
    rw [Sem.run_bind, run_underlying hu w]
    cases d <;> simp_all [TypeDesc.isRow]
  have hl : (loadVar t ⟨g, off, none⟩).run P w = .ok v w := by
    simp [loadVar, Sem.run_bind, hA, run_load, hc]
  unfold execOp
  simp only [ho, hx, Instr.loadAt, Instr.sureAddr, Sem.run_bind, Sem.run_pure, Result.andThen_ok, hl]
def PutQ (w : World) (gS N : Nat) (P Q : Nat → Sl) (lv wv : Value) (p : Sl) (wr w' : World) : Prop :=
  ∃ q lv' wv', Shf w gS (N + 1) (fun i => if i = N then p else P i) (fun i => if i = N then q else Q i) lv' wv' w' ∧
    (∀ g, g < wr.heap.size → Clr N P Q g → p.Off (some g) → Clr (N + 1) (fun i => if i = N then p else P i) (fun i => if i = N then q else Q i) g) ∧ But3 lv.ownBlock wv.ownBlock gS wr w' ∧
    (lv'.ownBlock = lv.ownBlock ∨ ∃ k, lv'.ownBlock = some k ∧ wr.heap.size ≤ k) ∧ (wv'.ownBlock = wv.ownBlock ∨ ∃ k, wv'.ownBlock = some k ∧ wr.heap.size ≤ k)
theorem put_end {w : World} {gS N : Nat} {P Q : Nat → Sl} {lv wv : Value} {wr w5 W6 w7 W8 : World} {pa : Option Addr} {pn pc : Nat} {pl : List Int} {g1 c1 g7 c7 : Nat} {qa : Option Addr} {qc : Nat}
    (h : Shf w gS N P Q lv wv wr) (hp : Ans w.heap.size ⟨pa, pn, pc, pl⟩ wr) (hn : (⟨pa, pn, pc, pl⟩ : Sl).n ≤ 100000) (hpc : 0 < (⟨pa, pn, pc, pl⟩ : Sl).l.length → ∀ x, (⟨pa, pn, pc, pl⟩ : Sl).a = some x → Clr N P Q x.block)
    (hgl : some gS ≠ lv.ownBlock) (hgw : some gS ≠ wv.ownBlock)
    (hlb : (Value.slice (some ⟨g1, 0, none⟩) (N + 1) c1).ownBlock = lv.ownBlock ∨ ∃ k, (Value.slice (some ⟨g1, 0, none⟩) (N + 1) c1).ownBlock = some k ∧ wr.heap.size ≤ k)
    (ha1 : Apt (.slice (some ⟨g1, 0, none⟩) (N + 1) c1) wv) (hb5 : But3 lv.ownBlock wv.ownBlock gS wr w5) (ho5 : w5.ownsRow wr.heap.size 5 1 (.slice qa pn qc) pn (U8 pl)) (hq5 : Sl.Ok w5 ⟨qa, pn, qc, pl⟩)
    (hl5 : w5.ownsRow w.heap.size 29 1 (.slice (some ⟨g1, 0, none⟩) (N + 1) c1) (N + 1) (vsOf P N ++ [.slice pa pn pc])) (b6 : Below w5.heap.size w5 W6)
    (hl7 : w7.ownsRow w.heap.size 29 1 (.slice (some ⟨g7, 0, none⟩) (N + 1) c7) (N + 1) (vsOf Q N ++ [.slice qa pn qc])) (hg7 : W6.grownBy w7 wv.ownBlock)
    (ha7 : (Value.slice (some ⟨g7, 0, none⟩) (N + 1) c7).ownBlock = wv.ownBlock ∨ (Value.slice (some ⟨g7, 0, none⟩) (N + 1) c7).ownBlock = some W6.heap.size) (hw5 : w5.ownsRow w.heap.size 29 1 wv N (vsOf Q N))
    (hA7 : Arr w7 gS 26 [.slice (some ⟨g1, 0, none⟩) (N + 1) c1, wv]) (hs5 : wr.heap.size ≤ w5.heap.size) (hW8 : W8 = w7.setCell ⟨gS, 1, none⟩ (.slice (some ⟨g7, 0, none⟩) (N + 1) c7)) :
    Ending.returned (.tuple #[]) = Ending.returned (.tuple #[]) ∧ PutQ w gS N P Q lv wv ⟨pa, pn, pc, pl⟩ wr W8 := by
  subst hW8
  have hs6 := b6.size
  have hs7 := hg7.size
  have ho6 := own_later ho5 b6
  have ho7 : w7.ownsRow wr.heap.size 5 1 (.slice qa pn qc) pn (U8 pl) := by
    refine own_blk ho6 (fun g hg => hg7.block g (ho6.lt g hg).2 (fun e => ?_))
    have h1 := (ho6.lt g hg).1
    have h2 := (h.wrow.lt g e.symm).2
    omega
  have ho8 : (w7.setCell ⟨gS, 1, none⟩ (.slice (some ⟨g7, 0, none⟩) (N + 1) c7)).ownsRow wr.heap.size 5 1 (.slice qa pn qc) pn (U8 pl) := ownsRow_setCell_other ho7 (fun e => own_ne_arr ho7 hA7 (by decide) e.symm) _
  have hl8 : (w7.setCell ⟨gS, 1, none⟩ (.slice (some ⟨g7, 0, none⟩) (N + 1) c7)).ownsRow w.heap.size 29 1 (.slice (some ⟨g1, 0, none⟩) (N + 1) c1) (N + 1) (vsOf P N ++ [.slice pa pn pc]) := by
    have h1 := (own_later hl5 b6).kept hg7 ha1
    exact ownsRow_setCell_other h1 (fun e => own_ne_arr h1 hA7 (by decide) e.symm) _
  have hw8 : (w7.setCell ⟨gS, 1, none⟩ (.slice (some ⟨g7, 0, none⟩) (N + 1) c7)).ownsRow w.heap.size 29 1 (.slice (some ⟨g7, 0, none⟩) (N + 1) c7) (N + 1) (vsOf Q N ++ [.slice qa pn qc]) := ownsRow_setCell_other hl7 (fun e => own_ne_arr hl7 hA7 (by decide) e.symm) _
  have hB8 : But3 lv.ownBlock wv.ownBlock gS wr (w7.setCell ⟨gS, 1, none⟩ (.slice (some ⟨g7, 0, none⟩) (N + 1) c7)) := by
    refine ⟨hg7.os.trans (b6.os.trans hb5.os), hg7.tape.trans (b6.tape.trans hb5.tape), hg7.output.trans (b6.output.trans hb5.output), by simp; omega, fun k hk h1 h2 h3 => ?_⟩
    rw [heap_setCell_other w7 ⟨gS, 1, none⟩ k _ h3, hg7.block k (by omega) h2, b6.block k (by omega)]
    exact hb5.block k hk h1 h2 h3
  have hq8 : Sl.Ok (w7.setCell ⟨gS, 1, none⟩ (.slice (some ⟨g7, 0, none⟩) (N + 1) c7)) ⟨qa, pn, qc, pl⟩ := by
    obtain ⟨q, hqv, okq, hql, hqn, -⟩ := own_sl ho8 hq5.isB
    obtain ⟨qa', qn, qc', ql⟩ := q
    simp only [Sl.v, Value.slice.injEq] at hqv hql hqn
    obtain ⟨rfl, rfl, rfl⟩ := hqv
    subst hql
    exact okq
  have hwb : (Value.slice (some ⟨g7, 0, none⟩) (N + 1) c7).ownBlock = wv.ownBlock ∨ ∃ k, (Value.slice (some ⟨g7, 0, none⟩) (N + 1) c7).ownBlock = some k ∧ wr.heap.size ≤ k := by
    rcases ha7 with e | e
    · exact .inl e
    · exact .inr ⟨_, e, by omega⟩
  have hap : Apt (.slice (some ⟨g1, 0, none⟩) (N + 1) c1) (.slice (some ⟨g7, 0, none⟩) (N + 1) c7) := (Apt.grown ha1.symm (own_later hl5 b6) ha7).symm
  have hr := Shf.putG h ⟨pa, pn, pc, pl⟩ ⟨qa, pn, qc, pl⟩ hp rfl hn hpc hq8 ho8 hB8 (hA7.set 1 _) hl8 hw8 hap hlb hwb
  exact ⟨rfl, _, _, _, hr.1, hr.2, hB8, hlb, hwb⟩
set_option maxHeartbeats 4000000 in
set_option maxRecDepth 100000 in
theorem put_any {w : World} {gS N : Nat} {P Q : Nat → Sl} {lv wv : Value} {wr : World} (h : Shf w gS N P Q lv wv wr) (p : Sl)
    (hp : Ans w.heap.size p wr) (hn : p.n ≤ 100000) (hpc : 0 < p.l.length → ∀ x, p.a = some x → Clr N P Q x.block) (hN : N ≤ 4000000000000) :
    Calls Try.prog 16 #[.pointer (some ⟨gS, 0, none⟩), p.v] wr fun e w' => e = .returned (.tuple #[]) ∧ PutQ w gS N P Q lv wv p wr w' := by
  obtain ⟨i0, hii, hz0, hz1, hz2⟩ := info_parts Try.infoS
  have cl : wr.cell? ⟨gS, 0, none⟩ = some lv := by rw [h.s.cell]; rfl
  have fz0 := h.s.frozen 0
  have hlr := h.lrow
  have hwr := h.wrow
  have hsz := h.bel.size
  have HS := hide h.s
  have HAP := hide h.apt
  have HP := hide hp
  have HH := hide h
  have HPC := hide hpc
  clear h hpc
  have hgl : some gS ≠ lv.ownBlock := own_ne_arr hlr (unhide HS) (by decide)
  have hgw : some gS ≠ wv.ownBlock := own_ne_arr hwr (unhide HS) (by decide)
  have hlt : gS < wr.heap.size := (unhide HS).lt
  obtain ⟨pa, pn, pc, pl⟩ := p
  have hn' : pn ≤ 100000 := hn
  have HN := hide hn
  clear hn
  simp only [Sl.v]
  go_enter Try.func16, Try.ntmps16
  go_wp2_with (first
    | (at_builtin
       refine wpList_append_own_at rfl (.tmp 9) (.tmp 11) 24 rfl w.heap.size 29 i0 (.slice none 0 0) 1 24 Try.underlying24 hii hz0 hz1 hz2 rfl (by decide) lv N (vsOf P N) rfl (hlr.alloc _) ⟨wr.heap.size, 0, none⟩ 1 1 [.slice pa pn pc] rfl rfl (cell_one_new _ _ _) (slv_one _ rfl) (by unfold maxLen; omega) (by omega) (by simp; omega) ?_
       intro lv1 w1 hl1 hg1 ha1
       obtain ⟨g1, c1, rfl, -, -⟩ := (unhide hl1).form (by omega)
       have hA1 : Arr w1 gS 26 [lv, wv] := ((unhide hg1).block gS (by simp; omega) hgl).trans ((unhide HS).alloc _)
       have k1 : w1.cell? ⟨gS, 0, none⟩ = some lv := by rw [hA1.cell]; rfl
       have f1 := hA1.frozen 0
       obtain ⟨W2, hW2⟩ : ∃ W2, W2 = w1.setCell ⟨gS, 0, none⟩ (.slice (some ⟨g1, 0, none⟩) (N + 1) c1) := ⟨_, rfl⟩
       have hA2 : Arr W2 gS 26 [.slice (some ⟨g1, 0, none⟩) (N + 1) c1, wv] := by rw [hW2]; exact hA1.set 0 _
       have hw2 : W2.ownsRow w.heap.size 29 1 wv N (vsOf Q N) := by
         rw [hW2]; exact ownsRow_setCell_other ((hwr.alloc _).kept (unhide hg1) (unhide HAP).symm) (Ne.symm hgw) _
       have hl2 : W2.ownsRow w.heap.size 29 1 (.slice (some ⟨g1, 0, none⟩) (N + 1) c1) (N + 1) (vsOf P N ++ [.slice pa pn pc]) := by
         rw [hW2]; exact ownsRow_setCell_other (unhide hl1) (fun e => own_ne_arr (unhide hl1) hA1 (by decide) e.symm) _
       have hs2 : wr.heap.size ≤ W2.heap.size := by rw [hW2]; have := (unhide hg1).size; simp at this ⊢; omega
       have HB2 : Hid (But3 lv.ownBlock wv.ownBlock gS wr W2) := by
         show But3 _ _ _ _ _
         refine ⟨by rw [hW2]; exact (unhide hg1).os, by rw [hW2]; exact (unhide hg1).tape, by rw [hW2]; exact (unhide hg1).output, hs2, fun k hk h1 _ h3 => ?_⟩
         rw [hW2, heap_setCell_other w1 ⟨gS, 0, none⟩ k _ h3, (unhide hg1).block k (by simp; omega) h1]
         exact Below.heap_alloc wr _ k hk
       have HA1 : Hid (Apt (.slice (some ⟨g1, 0, none⟩) (N + 1) c1) wv) := Apt.grown (unhide HAP) (hwr.alloc _) (unhide ha1)
       have HLB : Hid ((Value.slice (some ⟨g1, 0, none⟩) (N + 1) c1).ownBlock = lv.ownBlock ∨ ∃ k, (Value.slice (some ⟨g1, 0, none⟩) (N + 1) c1).ownBlock = some k ∧ wr.heap.size ≤ k) := by
         rcases unhide ha1 with e | e
         · exact Or.inl e
         · exact Or.inr ⟨_, e, by simp⟩
       have HW2 := hide hW2
       have HA2 := hide hA2
       have HL2 := hide hl2
       have HWR2 := hide hw2
       clear hl1 hg1 ha1 hA1 hA2 hW2 hl2 hw2)
    | rw [← unhide HW2])
  clear cl fz0 k1 f1 HW2 w1
  have okp : Sl.Ok W2 ⟨pa, pn, pc, pl⟩ := by
    have hA := unhide HP
    exact (unhide HB2).ok hA.ok (fun hpos x hx e => by obtain ⟨g, E, hg, -, ha⟩ := hA.row hpos; rw [hg] at hx; cases hx; exact own_ne_arr hlr ha (by decide) e) (fun hpos x hx e => by obtain ⟨g, E, hg, -, ha⟩ := hA.row hpos; rw [hg] at hx; cases hx; exact own_ne_arr hwr ha (by decide) e) (fun hpos x hx e => by obtain ⟨g, E, hg, -, ha⟩ := hA.row hpos; rw [hg] at hx; cases hx; simp only [Option.some.injEq] at e; exact arr_ne_arr ha (unhide HS) (by decide) e)
  refine wp_region_noPanic ?_
  refine wp_region_held_drew (S := fun _ => True) (by kernel_rfl) trivial (fun hHeld => ?_)
  obtain ⟨W3, hW3⟩ : ∃ W3, W3 = W2.drew := ⟨_, rfl⟩
  rw [← hW3]
  have b3 : Below W2.heap.size W2 W3 := by rw [hW3]; exact below_drewN (Below.refl _ _) 1
  clear hW3
  have hide2 : ∀ {v5 : Value} {w5 : World}, w5.ownsRow W3.heap.size 5 1 v5 (0 + (⟨pa, pn, pc, pl⟩ : Sl).n) ([] ++ U8 (⟨pa, pn, pc, pl⟩ : Sl).l) → W3.grownBy w5 nilB.ownBlock →
      ∃ qa qc, v5 = .slice qa pn qc ∧ Hid (w5.ownsRow wr.heap.size 5 1 (.slice qa pn qc) pn (U8 pl)) ∧ Hid (Sl.Ok w5 ⟨qa, pn, qc, pl⟩) ∧ Hid (But3 lv.ownBlock wv.ownBlock gS wr w5) ∧ Hid (Arr w5 gS 26 [.slice (some ⟨g1, 0, none⟩) (N + 1) c1, wv]) ∧
        Hid (w5.ownsRow w.heap.size 29 1 wv N (vsOf Q N)) ∧ Hid (w5.ownsRow w.heap.size 29 1 (.slice (some ⟨g1, 0, none⟩) (N + 1) c1) (N + 1) (vsOf P N ++ [.slice pa pn pc])) ∧ wr.heap.size ≤ w5.heap.size := by
    intro v5 w5 hO5 hg5
    have b5 := below_nil hg5
    rw [Nat.zero_add, List.nil_append] at hO5
    simp only at hO5
    obtain ⟨q, hqv, okq, hql, hqn, -⟩ := own_sl hO5 okp.isB
    obtain ⟨qa, qn, qc, ql⟩ := q
    simp only [Sl.v] at hqv hql hqn
    subst hqv
    subst hql
    subst hqn
    have b35 := bel_then b3 b3.size b5
    have hb2 := unhide HB2
    exact ⟨qa, qc, rfl, hide (own_low hO5 (Nat.le_trans hs2 b3.size)), hide okq, hide ⟨b35.os.trans hb2.os, b35.tape.trans hb2.tape, b35.output.trans hb2.output, Nat.le_trans hb2.size b35.size, fun k hk h1 h2 h3 => (b35.block k (Nat.lt_of_lt_of_le hk hb2.size)).trans (hb2.block k hk h1 h2 h3)⟩, hide ((unhide HA2).later b35), hide (own_later (unhide HWR2) b35), hide (own_later (unhide HL2) b35), Nat.le_trans hs2 b35.size⟩
  refine wpAnyH_take (i := 0) (oi := _) (v := .pointer (some ⟨gS, 0, none⟩)) rfl (by kernel_rfl) (by kernel_rfl) (by kernel_rfl) (fun _ _ _ h => h) (Or.inl ⟨by rfl, fun w hSw => by go_simp⟩) hHeld ?_
  simp [Act.put]
  refine wpAnyH_take (i := 1) (oi := _) (v := .pointer (some ⟨gS, 0, none⟩)) rfl (by kernel_rfl) (by kernel_rfl) (by kernel_rfl) (fun _ _ _ h => h) (Or.inl ⟨by rfl, fun w hSw => by go_simp⟩) hHeld ?_
  simp [Act.put]
  refine wpAnyH_take (i := 2) (oi := _) (v := .pointer (some ⟨gS, 0, none⟩)) rfl (by kernel_rfl) (by kernel_rfl) (by kernel_rfl) (fun _ _ _ h => h) (Or.inl ⟨by rfl, fun w hSw => by go_simp⟩) hHeld ?_
  simp [Act.put]
  refine wpAnyH_take (i := 3) (oi := _) (v := .pointer (some ⟨gS, 1, none⟩)) rfl (by kernel_rfl) (by kernel_rfl) (by kernel_rfl) (fun _ _ _ h => h) (Or.inl ⟨by rfl, fun w hSw => by go_simp⟩) hHeld ?_
  simp [Act.put]
  refine wpAnyH_take (i := 5) (oi := _) (v := .slice none 0 0) rfl (by kernel_rfl) (by kernel_rfl) (by kernel_rfl) (fun _ _ _ h => h) (Or.inl ⟨by rfl, fun w hSw => by go_simp⟩) hHeld ?_
  simp [Act.put]
  refine wpAnyH_take (i := 6) (oi := _) (v := .slice pa pn pc) rfl (by kernel_rfl) (by kernel_rfl) (by kernel_rfl) (fun _ _ _ h => h) (Or.inl ⟨by rfl, fun w hSw => by go_simp⟩) hHeld ?_
  simp [Act.put]
  refine wpAnyH_ready (rs := [4, 7]) (by kernel_rfl) (by simp) ?_
  refine (AllReadyH.cons rfl (fun kQ hkQ => ?_) (AllReadyH.cons rfl (fun kQ hkQ => ?_) AllReadyH.nil))
  · have cq : World.cell? W3 ⟨gS, 1, none⟩ = some wv := by rw [((unhide HA2).later b3).cell]; rfl
    refine dw (by kernel_rfl) (op_val wv (ex_loadC 24 (.tmp 18) rfl gS 1 rfl wv cq Try.underlying24 rfl) ?_)
    clear hHeld cq
    refine hkQ.out _ _ trivial (fun hHeld => ?_)
    clear hkQ kQ
    try simp [Act.put]
    refine wpAnyH_ready (rs := [7]) (by kernel_rfl) (by simp) ?_
    refine (AllReadyH.cons rfl (fun kQ hkQ => ?_) AllReadyH.nil)
    refine dw (by kernel_rfl) (op_appB (.tmp 20) (.tmp 21) rfl (base := W3.heap.size) (n := 0) (v := nilB) (xs := []) rfl (World.ownsRow_nil _ _ _ _) ⟨pa, pn, pc, pl⟩ (okp.later b3) rfl (by simp only; omega) (Nat.le_refl _) ?_)
    intro v5 w5 hO5 hg5 _
    obtain ⟨qa, qc, rfl, HO5, HOQ, HB5, HA5, HW5, HL5, hs5⟩ := hide2 hO5 hg5
    clear hO5 hg5 hHeld
    refine hkQ.out _ _ trivial (fun hHeld => ?_)
    clear hkQ kQ
    try simp [Act.put]
    refine wpAnyH_ready (rs := [8]) (by kernel_rfl) (by simp) ?_
    refine (AllReadyH.cons rfl (fun kQ hkQ => ?_) AllReadyH.nil)
    refine dw (by kernel_rfl) ?_
    go_simp
    clear hHeld
    obtain ⟨W6, hW6⟩ : ∃ W6, W6 = w5.alloc (.cells #[.slice qa pn qc] 29) := ⟨_, rfl⟩
    rw [← hW6]
    refine hkQ.out _ _ trivial (fun hHeld => ?_)
    clear hkQ kQ
    try simp [Act.put]
    refine wpAnyH_ready (rs := [9]) (by kernel_rfl) (by simp) ?_
    refine (AllReadyH.cons rfl (fun kQ hkQ => ?_) AllReadyH.nil)
    have b6 : Below w5.heap.size w5 W6 := by rw [hW6]; exact below_alloc w5 _
    have c6 : ∀ j u, [Value.slice qa pn qc][j]? = some u → W6.cell? ((⟨w5.heap.size, 0, none⟩ : Addr).add j) = some u := by rw [hW6]; exact cell_one_new _ _ _
    have hs6 : w5.heap.size ≤ W6.heap.size := b6.size
    have HB6 := hide b6
    clear hW6 b6
    refine step_append_own13 rfl (.tmp 19) (.tmp 23) 24 rfl w.heap.size 29 i0 (.slice none 0 0) 1 24 Try.underlying24 hii hz0 hz1 hz2 rfl (by decide) wv N (vsOf Q N) rfl (own_later (unhide HW5) (unhide HB6)) ⟨w5.heap.size, 0, none⟩ 1 1 [.slice qa pn qc] rfl rfl c6 (slv_one _ rfl) (by unfold maxLen; omega) (by omega) (by omega) ?_
    intro wv1 w7 hl7 hg7 ha7
    obtain ⟨g7, c7, rfl, -, -⟩ := hl7.form (by omega)
    have HL7 := hide hl7
    have HG7 := hide hg7
    have HA7 := hide ha7
    clear hl7 hg7 ha7 hHeld
    refine hkQ.out _ _ trivial (fun hHeld => ?_)
    clear hkQ kQ
    try simp [Act.put]
    refine wpAnyH_take (i := 10) (oi := _) (v := .pointer (some ⟨gS, 0, none⟩)) rfl (by kernel_rfl) (by kernel_rfl) (by kernel_rfl) (fun _ _ _ h => h) (Or.inl ⟨by rfl, fun w hSw => by go_simp⟩) hHeld ?_
    simp [Act.put]
    refine wpAnyH_take (i := 11) (oi := _) (v := .pointer (some ⟨gS, 1, none⟩)) rfl (by kernel_rfl) (by kernel_rfl) (by kernel_rfl) (fun _ _ _ h => h) (Or.inl ⟨by rfl, fun w hSw => by go_simp⟩) hHeld ?_
    simp [Act.put]
    refine wpAnyH_ready (rs := [12]) (by kernel_rfl) (by simp) ?_
    refine (AllReadyH.cons rfl (fun kQ hkQ => ?_) AllReadyH.nil)
    have hA7 : Arr w7 gS 26 [.slice (some ⟨g1, 0, none⟩) (N + 1) c1, wv] := ((unhide HG7).block gS (by omega) hgw).trans ((unhide HA5).later (unhide HB6))
    have c7' : w7.cell? ⟨gS, 1, none⟩ = some wv := by rw [hA7.cell]; rfl
    have f7 := hA7.frozen 1
    refine dw (by kernel_rfl) ?_
    go_simp
    clear hHeld
    refine hkQ.out _ _ trivial (fun hHeld => ?_)
    clear hkQ kQ c7' f7
    try simp [Act.put]
    refine wpAnyH_done (by kernel_rfl) ?_ _
    unfold NoPanic
    go_wp2
    go_end0
    exact put_end (unhide HH) (unhide HP) (unhide HN) (unhide HPC) hgl hgw (unhide HLB) (unhide HA1) (unhide HB5) (unhide HO5) (unhide HOQ) (unhide HL5) (unhide HB6) (unhide HL7) (unhide HG7) (unhide HA7) (unhide HW5) hA7 hs5 rfl
  · refine dw (by kernel_rfl) (op_appB (.tmp 20) (.tmp 21) rfl (base := W3.heap.size) (n := 0) (v := nilB) (xs := []) rfl (World.ownsRow_nil _ _ _ _) ⟨pa, pn, pc, pl⟩ (okp.later b3) rfl (by simp only; omega) (Nat.le_refl _) ?_)
    intro v5 w5 hO5 hg5 _
    obtain ⟨qa, qc, rfl, HO5, HOQ, HB5, HA5, HW5, HL5, hs5⟩ := hide2 hO5 hg5
    clear hO5 hg5 hHeld
    refine hkQ.out _ _ trivial (fun hHeld => ?_)
    clear hkQ kQ
    try simp [Act.put]
    refine wpAnyH_ready (rs := [4, 8]) (by kernel_rfl) (by simp) ?_
    refine (AllReadyH.cons rfl (fun kQ hkQ => ?_) (AllReadyH.cons rfl (fun kQ hkQ => ?_) AllReadyH.nil))
    · have cq : World.cell? w5 ⟨gS, 1, none⟩ = some wv := by rw [(unhide HA5).cell]; rfl
      refine dw (by kernel_rfl) (op_val wv (ex_loadC 24 (.tmp 18) rfl gS 1 rfl wv cq Try.underlying24 rfl) ?_)
      clear hHeld cq
      refine hkQ.out _ _ trivial (fun hHeld => ?_)
      clear hkQ kQ
      try simp [Act.put]
      refine wpAnyH_ready (rs := [8]) (by kernel_rfl) (by simp) ?_
      refine (AllReadyH.cons rfl (fun kQ hkQ => ?_) AllReadyH.nil)
      refine dw (by kernel_rfl) ?_
      go_simp
      clear hHeld
      obtain ⟨W6, hW6⟩ : ∃ W6, W6 = w5.alloc (.cells #[.slice qa pn qc] 29) := ⟨_, rfl⟩
      rw [← hW6]
      refine hkQ.out _ _ trivial (fun hHeld => ?_)
      clear hkQ kQ
      try simp [Act.put]
      refine wpAnyH_ready (rs := [9]) (by kernel_rfl) (by simp) ?_
      refine (AllReadyH.cons rfl (fun kQ hkQ => ?_) AllReadyH.nil)
      have b6 : Below w5.heap.size w5 W6 := by rw [hW6]; exact below_alloc w5 _
      have c6 : ∀ j u, [Value.slice qa pn qc][j]? = some u → W6.cell? ((⟨w5.heap.size, 0, none⟩ : Addr).add j) = some u := by rw [hW6]; exact cell_one_new _ _ _
      have hs6 : w5.heap.size ≤ W6.heap.size := b6.size
      have HB6 := hide b6
      clear hW6 b6
      refine step_append_own13 rfl (.tmp 19) (.tmp 23) 24 rfl w.heap.size 29 i0 (.slice none 0 0) 1 24 Try.underlying24 hii hz0 hz1 hz2 rfl (by decide) wv N (vsOf Q N) rfl (own_later (unhide HW5) (unhide HB6)) ⟨w5.heap.size, 0, none⟩ 1 1 [.slice qa pn qc] rfl rfl c6 (slv_one _ rfl) (by unfold maxLen; omega) (by omega) (by omega) ?_
      intro wv1 w7 hl7 hg7 ha7
      obtain ⟨g7, c7, rfl, -, -⟩ := hl7.form (by omega)
      have HL7 := hide hl7
      have HG7 := hide hg7
      have HA7 := hide ha7
      clear hl7 hg7 ha7 hHeld
      refine hkQ.out _ _ trivial (fun hHeld => ?_)
      clear hkQ kQ
      try simp [Act.put]
      refine wpAnyH_take (i := 10) (oi := _) (v := .pointer (some ⟨gS, 0, none⟩)) rfl (by kernel_rfl) (by kernel_rfl) (by kernel_rfl) (fun _ _ _ h => h) (Or.inl ⟨by rfl, fun w hSw => by go_simp⟩) hHeld ?_
      simp [Act.put]
      refine wpAnyH_take (i := 11) (oi := _) (v := .pointer (some ⟨gS, 1, none⟩)) rfl (by kernel_rfl) (by kernel_rfl) (by kernel_rfl) (fun _ _ _ h => h) (Or.inl ⟨by rfl, fun w hSw => by go_simp⟩) hHeld ?_
      simp [Act.put]
      refine wpAnyH_ready (rs := [12]) (by kernel_rfl) (by simp) ?_
      refine (AllReadyH.cons rfl (fun kQ hkQ => ?_) AllReadyH.nil)
      have hA7 : Arr w7 gS 26 [.slice (some ⟨g1, 0, none⟩) (N + 1) c1, wv] := ((unhide HG7).block gS (by omega) hgw).trans ((unhide HA5).later (unhide HB6))
      have c7' : w7.cell? ⟨gS, 1, none⟩ = some wv := by rw [hA7.cell]; rfl
      have f7 := hA7.frozen 1
      refine dw (by kernel_rfl) ?_
      go_simp
      clear hHeld
      refine hkQ.out _ _ trivial (fun hHeld => ?_)
      clear hkQ kQ c7' f7
      try simp [Act.put]
      refine wpAnyH_done (by kernel_rfl) ?_ _
      unfold NoPanic
      go_wp2
      go_end0
      exact put_end (unhide HH) (unhide HP) (unhide HN) (unhide HPC) hgl hgw (unhide HLB) (unhide HA1) (unhide HB5) (unhide HO5) (unhide HOQ) (unhide HL5) (unhide HB6) (unhide HL7) (unhide HG7) (unhide HA7) (unhide HW5) hA7 hs5 rfl
    · refine dw (by kernel_rfl) ?_
      go_simp
      clear hHeld
      obtain ⟨W6, hW6⟩ : ∃ W6, W6 = w5.alloc (.cells #[.slice qa pn qc] 29) := ⟨_, rfl⟩
      rw [← hW6]
      refine hkQ.out _ _ trivial (fun hHeld => ?_)
      clear hkQ kQ
      try simp [Act.put]
      refine wpAnyH_ready (rs := [4]) (by kernel_rfl) (by simp) ?_
      refine (AllReadyH.cons rfl (fun kQ hkQ => ?_) AllReadyH.nil)
      have cq : World.cell? W6 ⟨gS, 1, none⟩ = some wv := by rw [hW6, ((unhide HA5).alloc _).cell]; rfl
      refine dw (by kernel_rfl) (op_val wv (ex_loadC 24 (.tmp 18) rfl gS 1 rfl wv cq Try.underlying24 rfl) ?_)
      clear hHeld cq
      refine hkQ.out _ _ trivial (fun hHeld => ?_)
      clear hkQ kQ
      try simp [Act.put]
      refine wpAnyH_ready (rs := [9]) (by kernel_rfl) (by simp) ?_
      refine (AllReadyH.cons rfl (fun kQ hkQ => ?_) AllReadyH.nil)
      have b6 : Below w5.heap.size w5 W6 := by rw [hW6]; exact below_alloc w5 _
      have c6 : ∀ j u, [Value.slice qa pn qc][j]? = some u → W6.cell? ((⟨w5.heap.size, 0, none⟩ : Addr).add j) = some u := by rw [hW6]; exact cell_one_new _ _ _
      have hs6 : w5.heap.size ≤ W6.heap.size := b6.size
      have HB6 := hide b6
      clear hW6 b6
      refine step_append_own13 rfl (.tmp 19) (.tmp 23) 24 rfl w.heap.size 29 i0 (.slice none 0 0) 1 24 Try.underlying24 hii hz0 hz1 hz2 rfl (by decide) wv N (vsOf Q N) rfl (own_later (unhide HW5) (unhide HB6)) ⟨w5.heap.size, 0, none⟩ 1 1 [.slice qa pn qc] rfl rfl c6 (slv_one _ rfl) (by unfold maxLen; omega) (by omega) (by omega) ?_
      intro wv1 w7 hl7 hg7 ha7
      obtain ⟨g7, c7, rfl, -, -⟩ := hl7.form (by omega)
      have HL7 := hide hl7
      have HG7 := hide hg7
      have HA7 := hide ha7
      clear hl7 hg7 ha7 hHeld
      refine hkQ.out _ _ trivial (fun hHeld => ?_)
      clear hkQ kQ
      try simp [Act.put]
      refine wpAnyH_take (i := 10) (oi := _) (v := .pointer (some ⟨gS, 0, none⟩)) rfl (by kernel_rfl) (by kernel_rfl) (by kernel_rfl) (fun _ _ _ h => h) (Or.inl ⟨by rfl, fun w hSw => by go_simp⟩) hHeld ?_
      simp [Act.put]
      refine wpAnyH_take (i := 11) (oi := _) (v := .pointer (some ⟨gS, 1, none⟩)) rfl (by kernel_rfl) (by kernel_rfl) (by kernel_rfl) (fun _ _ _ h => h) (Or.inl ⟨by rfl, fun w hSw => by go_simp⟩) hHeld ?_
      simp [Act.put]
      refine wpAnyH_ready (rs := [12]) (by kernel_rfl) (by simp) ?_
      refine (AllReadyH.cons rfl (fun kQ hkQ => ?_) AllReadyH.nil)
      have hA7 : Arr w7 gS 26 [.slice (some ⟨g1, 0, none⟩) (N + 1) c1, wv] := ((unhide HG7).block gS (by omega) hgw).trans ((unhide HA5).later (unhide HB6))
      have c7' : w7.cell? ⟨gS, 1, none⟩ = some wv := by rw [hA7.cell]; rfl
      have f7 := hA7.frozen 1
      refine dw (by kernel_rfl) ?_
      go_simp
      clear hHeld
      refine hkQ.out _ _ trivial (fun hHeld => ?_)
      clear hkQ kQ c7' f7
      try simp [Act.put]
      refine wpAnyH_done (by kernel_rfl) ?_ _
      unfold NoPanic
      go_wp2
      go_end0
      exact put_end (unhide HH) (unhide HP) (unhide HN) (unhide HPC) hgl hgw (unhide HLB) (unhide HA1) (unhide HB5) (unhide HO5) (unhide HOQ) (unhide HL5) (unhide HB6) (unhide HL7) (unhide HG7) (unhide HA7) (unhide HW5) hA7 hs5 rfl
end Go.Proofs.Ytmdpmkdofgligaa
