import Derived.Test.YtfedajifefldmaaGreatBkBckA
import Derived.Test.YtfedajifefldmaaGreatBkBckB
import Derived.Test.YtfedajifefldmaaGreatBkBckC
import Derived.Test.YtfedajifefldmaaGreatBkBakM
import Derived.Deep.RegionHeld3
import Derived.Laws.AppendOwnNone
set_option linter.unusedSimpArgs false
set_option linter.unusedVariables false
namespace Go.Proofs.YtfedajifefldmaaGreat
open Go.RowKit

/-! There and back. -/
theorem back_any (y : Nat → Int) (bv : Value) (w : World) (hP : Prop10 y) (b : Sl) (hb : b.Ok w) (hl : b.l = encL y) :
    Calls Tryz.prog 12 #[.agg (tmC y bv).toArray, b.v] w fun e w' => e = .returned (.bool true) ∧ Below w.heap.size w w' := by
  have hf := fit_proper hP
  have hk := hP.kind
  have hk : y 0 = 1 ∨ y 0 = 2 ∨ y 0 = 3 ∨ y 0 = 4 ∨ y 0 = 5 ∨ y 0 = 6 ∨ y 0 = 7 ∨ y 0 = 8 ∨ y 0 = 9 ∨ y 0 = 10 := by omega
  have ho := hP.ok
  have hle := (enc_278 (y 0) (mK y)).1
  unfold encL at hl
  rcases hk with hk | hk | hk | hk | hk | hk | hk | hk | hk | hk
  · have e1 : fK (y 0) = fsAll fCert := by unfold fK; simp [hk]
    have e2 : mK y = sft 1 y := by unfold mK; simp [hk]
    rw [e1, e2] at hf hl hle
    rw [hk] at hl
    obtain ⟨R, hG, hR, -⟩ := kin_Cert
    obtain ⟨z, h1, h2⟩ := dec_back (dom := 1) hG (hR _ (ok_Cert y ho) hf) hf (by decide) (by decide) (by omega)
    exact back_Cert y bv w ho hk b hb z (by rw [hl]; exact h1) h2
  · have e1 : fK (y 0) = fsAll fTicket := by unfold fK; simp [hk]
    have e2 : mK y = mTicket y := by unfold mK; simp [hk]
    rw [e1, e2] at hf hl hle
    rw [hk] at hl
    obtain ⟨R, hG, hR, -⟩ := kin_Ticket
    obtain ⟨z, h1, h2⟩ := dec_back (dom := 2) hG (hR _ (ok_Ticket y ho) hf) hf (by decide) (by decide) (by omega)
    exact back_Ticket y bv w ho hk b hb z (by rw [hl]; exact h1) h2
  · have e1 : fK (y 0) = fsAll fEntry := by unfold fK; simp [hk]
    have e2 : mK y = mEntry y := by unfold mK; simp [hk]
    rw [e1, e2] at hf hl hle
    rw [hk] at hl
    obtain ⟨R, hG, hR, -⟩ := kin_Entry
    obtain ⟨z, h1, h2⟩ := dec_back (dom := 3) hG (hR _ (ok_Entry y ho) hf) hf (by decide) (by decide) (by omega)
    exact back_Entry y bv w ho hk b hb z (by rw [hl]; exact h1) h2
  · have e1 : fK (y 0) = fsAll fFreeze := by unfold fK; simp [hk]
    have e2 : mK y = mFreeze y := by unfold mK; simp [hk]
    rw [e1, e2] at hf hl hle
    rw [hk] at hl
    obtain ⟨R, hG, hR, -⟩ := kin_Freeze
    obtain ⟨z, h1, h2⟩ := dec_back (dom := 4) hG (hR _ (ok_Freeze y ho) hf) hf (by decide) (by decide) (by omega)
    exact back_Freeze y bv w ho hk b hb z (by rw [hl]; exact h1) h2
  · have e1 : fK (y 0) = fsAll fAck := by unfold fK; simp [hk]
    have e2 : mK y = mAck y := by unfold mK; simp [hk]
    rw [e1, e2] at hf hl hle
    rw [hk] at hl
    obtain ⟨R, hG, hR, -⟩ := kin_Ack
    obtain ⟨z, h1, h2⟩ := dec_back (dom := 5) hG (hR _ (ok_Ack y ho) hf) hf (by decide) (by decide) (by omega)
    exact back_Ack y bv w ho hk b hb z (by rw [hl]; exact h1) h2
  · have e1 : fK (y 0) = fsAll fRevocation := by unfold fK; simp [hk]
    have e2 : mK y = mRevocation y := by unfold mK; simp [hk]
    rw [e1, e2] at hf hl hle
    rw [hk] at hl
    obtain ⟨R, hG, hR, -⟩ := kin_Revocation
    obtain ⟨z, h1, h2⟩ := dec_back (dom := 6) hG (hR _ (ok_Revocation y ho) hf) hf (by decide) (by decide) (by omega)
    exact back_Revocation y bv w ho hk b hb z (by rw [hl]; exact h1) h2
  · have e1 : fK (y 0) = fsAll fFloor := by unfold fK; simp [hk]
    have e2 : mK y = mFloor y := by unfold mK; simp [hk]
    rw [e1, e2] at hf hl hle
    rw [hk] at hl
    obtain ⟨R, hG, hR, -⟩ := kin_Floor
    obtain ⟨z, h1, h2⟩ := dec_back (dom := 7) hG (hR _ (ok_Floor y ho) hf) hf (by decide) (by decide) (by omega)
    exact back_Floor y bv w ho hk b hb z (by rw [hl]; exact h1) h2
  · have e1 : fK (y 0) = fsAll fReceipt := by unfold fK; simp [hk]
    have e2 : mK y = mReceipt y := by unfold mK; simp [hk]
    rw [e1, e2] at hf hl hle
    rw [hk] at hl
    obtain ⟨R, hG, hR, -⟩ := kin_Receipt
    obtain ⟨z, h1, h2⟩ := dec_back (dom := 8) hG (hR _ (ok_Receipt y ho) hf) hf (by decide) (by decide) (by omega)
    exact back_Receipt y bv w ho hk b hb z (by rw [hl]; exact h1) h2
  · have e1 : fK (y 0) = fsAll fOrder := by unfold fK; simp [hk]
    have e2 : mK y = mOrder y := by unfold mK; simp [hk]
    rw [e1, e2] at hf hl hle
    rw [hk] at hl
    obtain ⟨R, hG, hR, -⟩ := kin_Order
    obtain ⟨z, h1, h2⟩ := dec_back (dom := 9) hG (hR _ (ok_Order y ho) hf) hf (by decide) (by decide) (by omega)
    exact back_Order y bv w ho hk b hb z (by rw [hl]; exact h1) h2
  · have e1 : fK (y 0) = fsAll fHead := by unfold fK; simp [hk]
    have e2 : mK y = mHead y := by unfold mK; simp [hk]
    rw [e1, e2] at hf hl hle
    rw [hk] at hl
    obtain ⟨R, hG, hR, -⟩ := kin_Head
    obtain ⟨z, h1, h2⟩ := dec_back (dom := 10) hG (hR _ (ok_Head y ho) hf) hf (by decide) (by decide) (by omega)
    exact back_Head y bv w ho hk b hb z (by rw [hl]; exact h1) h2

/-- the first n, with no room behind them, at a step of a drawn region -/
def Sl.top (s : Sl) (n : Nat) : Sl := ⟨s.a, n, n, s.l.take n⟩
theorem Sl.Ok.top {w : World} {s : Sl} (h : s.Ok w) {n : Nat} (hn : n ≤ s.n) : (s.top n).Ok w := by
  have hlen := h.len
  have hle := h.le
  have hmx := h.mx
  refine ⟨by simp only [Sl.top, List.length_take]; omega, Nat.le_refl _, by simp only [Sl.top]; omega, fun ha => ?_, h.isB.take _, lies_take h.lies n⟩
  have := h.nn ha
  simp only [Sl.top]; omega
theorem yieldsIf_top {P : Program} {ops : Array Oper} {S : World → Prop} {o : Oper} {a : Act} (hw : Region.wanted o (yielded ops a.tmps) = true) (t : TypeId) (x y z : Operand) (ho : o.op = .slice t x none (some y) (some z))
    (e : TypeId) (hu : P.underlying t = some (.slice e)) (hsz : (P.info? e).map (·.size) = some 1) (sa : Option Addr) (sn sc n : Nat) (hx : a.eval x = .slice sa sn sc) (hy : a.eval y = .int .i64 n) (hz : a.eval z = .int .i64 n) (hh : n ≤ sc) :
    YieldsIf P ops S o (.slice sa n n) a := by
  refine .inl ⟨hw, fun w _ => ?_⟩
  have he : P.elem t = e := by simp [Program.elem, hu]
  have hu' : P.underlying t = some (.slice (P.elem t)) := by rw [he]; exact hu
  have hs : (sizeOf (P.elem t)).run P w = .ok 1 w := by
    rw [he]
    cases hq : P.info? e with
    | none => simp [hq] at hsz
    | some i => simp [hq] at hsz; simp [sizeOf, typeInfo, hq, hsz]
  have hrun : (Instr.sliceAt t (.slice sa sn sc) none (some (.int .i64 (n : Int))) (some (.int .i64 (n : Int)))).run P w = .ok (.slice sa n n) w := by
    rw [run_sliceAt_slice w t _ _ _ _ hu', run_slice_hm w t sa sn sc hu' .i64 .i64 n n (by omega) (by omega) (by omega), hs]
    simp [Result.andThen, sliced]
    intro _
    cases sa <;> simp [Addr.add]
  rw [← hx] at hrun
  simp [execOp, ho, hrun, hz, hy, Result.andThen]
/-- append to a row of one's own, at a step of a drawn region -/
theorem step_append_atB {P : Program} {ops : Array Oper} {o : Oper} {a : Act} {w : World} {K : Act → World → Prop} {Q : Exit → Act → World → Prop} {E : Prop} (hgd : o.guard = none) (s x : Operand) (t : TypeId)
    (ho : o.op = .call { callee := .builtin .append, args := #[s, x], argTypes := #[t, t] })
    (base : Nat) (e : TypeId) (i : TypeInfo) (z : Value) (size bytes : Nat) (ht : P.underlying t = some (.slice e)) (hi : P.info? e = some i) (hz : i.zero = some z)
    (hsize : i.size = size) (hby : i.bytes = bytes) (hzs : z.cells.size = size) (hsz : 0 < size)
    (v : Value) (n : Nat) (xs : List Value) (hs : a.eval s = v) (hown : w.ownsRow base e size v n xs)
    (ad : Addr) (m c : Nat) (news : List Value) (hx : a.eval x = .slice (some ad) m c) (hl : news.length = m * size) (hnews : ∀ j u, news[j]? = some u → w.cell? (ad.add j) = some u) (h1 : ∀ u ∈ news, u.oneCell' = true)
    (h63 : n + m ≤ maxLen) (hbytes : (n + m) * bytes ≤ 140737488355328) (hbase : base ≤ w.heap.size)
    (h : ∀ v' w', w'.ownsRow base e size v' (n + m) (xs ++ news) → w.grownBy w' v.ownBlock → (v'.ownBlock = v.ownBlock ∨ v'.ownBlock = some w.heap.size) → K (a.put o.dst v') w') :
    if Region.wanted o (yielded ops a.tmps) = true then Oper.wp P o a w K Q else E := by
  have hw : Region.wanted o (yielded ops a.tmps) = true := by simp [Region.wanted, hgd]
  rw [if_pos hw]
  obtain ⟨v', w', hr, r1, r2, r3⟩ := run_append_own_at (P := P) w base t o.type e i z size bytes ht hi hz hsize hby hzs hsz v n xs hown ad m c news hl hnews h1 h63 hbytes hbase
  unfold Oper.wp
  simp [execOp, ho, resolve, invoke, builtin, hs, hx, hr, Result.andThen]
  exact h v' w' r1 r2 r3

/-- append of a slice to a row of one's own, at a step of a drawn region -/
theorem step_append_slB {P : Program} {ops : Array Oper} {o : Oper} {a : Act} {w : World} {K : Act → World → Prop} {Q : Exit → Act → World → Prop} {E : Prop} (hgd : o.guard = none) (s x : Operand) (t : TypeId)
    (ho : o.op = .call { callee := .builtin .append, args := #[s, x], argTypes := #[t, t] })
    (base : Nat) (e : TypeId) (i : TypeInfo) (z : Value) (ht : P.underlying t = some (.slice e)) (hi : P.info? e = some i) (hz : i.zero = some z)
    (hsize : i.size = 1) (hby : i.bytes = 1) (hzs : z.cells.size = 1)
    (v : Value) (n : Nat) (xs : List Value) (hs : a.eval s = v) (hown : w.ownsRow base e 1 v n xs)
    (d : Sl) (hd : d.Ok w) (hx : a.eval x = .slice d.a d.n d.c)
    (h63 : n + d.n ≤ 140737488355328) (hbase : base ≤ w.heap.size)
    (h : ∀ v' w', w'.ownsRow base e 1 v' (n + d.n) (xs ++ U8 d.l) → w.grownBy w' v.ownBlock → K (a.put o.dst v') w') :
    if Region.wanted o (yielded ops a.tmps) = true then Oper.wp P o a w K Q else E := by
  cases hda : d.a with
  | none =>
    obtain ⟨h0, hc0⟩ := hd.nn hda
    have hl0 : d.l = [] := List.eq_nil_of_length_eq_zero (by rw [hd.len, h0])
    have hw : Region.wanted o (yielded ops a.tmps) = true := by simp [Region.wanted, hgd]
    rw [if_pos hw]
    have hrun := run_append_owned_none (P := P) (w := w) base t o.type e i 1 ht hi v n xs hown
    unfold Oper.wp
    rw [hda, h0, hc0] at hx
    simp [execOp, ho, resolve, invoke, builtin, hs, hx, hrun, Result.andThen]
    refine h v w ?_ (World.grownBy.refl w _)
    rw [h0, hl0]; simpa [U8] using hown
  | some ad =>
    exact step_append_atB hgd s x t ho base e i z 1 1 ht hi hz hsize hby hzs (by decide) v n xs hs hown ad d.n d.c (U8 d.l) (by rw [hx, hda]) (by rw [U8_length, hd.len, Nat.mul_one]) (hd.cells ad hda) (U8_one _) (by unfold maxLen; omega) (by omega) hbase (fun v' w' h1 h2 _ => h v' w' h1 h2)


theorem own_bound {w : World} {base e : Nat} {a : Option Addr} {n c : Nat} {xs : List Value} (h : w.ownsRow base e 1 (.slice a n c) n xs) : n ≤ c := by
  rcases h.2 with ⟨h1, h2⟩ | ⟨g, cap, cur, h1, -, -, h2, -⟩
  · simp at h1; omega
  · simp at h1; omega
set_option maxHeartbeats 8000000 in
set_option maxRecDepth 100000 in
theorem bak_law (x : Nat → Int) (bx : Value) (m : Int) (w : World) (hx : ∀ i, i < 329 → (sTerm i).ok (x i)) (hbx : bx.oneCell' = true) (hm : 0 ≤ m ∧ m ≤ 255) :
    Calls Tryz.prog 4 #[.agg (tmC x bx).toArray, .int .u8 m] w fun e w' => e = .returned (.bool true) ∧ Below w.heap.size w w' := by
  have A0 := Arr.new w 41 (tmC x bx)
  have b0 : Below w.heap.size w (w.alloc (.cells (tmC x bx).toArray 41)) := below_one w _
  go_enter Tryz.func4, Tryz.ntmps4
  go_upto_region 1 with fail
  generalize w.alloc (.cells (tmC x bx).toArray 41) = W0 at *
  refine wp_region_lit ?_
  refine wpList_load_mid rfl 41 (.tmp 2) rfl w.heap.size 0 rfl (tmC x bx) _ (tm_all A0) Tryz.underlying41 rfl (by rw [tmC_length]; exact Tryz.szTerm) ?_
  simp only [Act.put]
  refine wpList_plain rfl fun K1 hK1 => ?_
  go_simp
  refine (proper_any x bx _ hx hbx).mono ?_
  rintro e w1 ⟨⟨y, rfl, hP, -, -⟩, hB1⟩
  refine hK1 _ _ ?_
  clear hK1 K1
  have A1 : Arr w1 w.heap.size 41 (tmC x bx) := A0.later hB1
  refine wpList_store_row rfl 41 (.tmp 2) (.tmp 12) rfl w.heap.size (tmC y bx).toArray rfl rfl 41 (tmC x bx).toArray A1 (by rw [List.size_toArray, tmC_length]; exact Tryz.szTerm) (by rw [List.size_toArray, List.size_toArray, tmC_length, tmC_length]) (all_oneCell_toArray (tmC_oc y bx hbx)) ?_
  refine wpList_nil ?_
  simp only [Act.put]
  have A2 : Arr (w1.setRow w.heap.size (tmC y bx).toArray) w.heap.size 41 (tmC y bx) := A1.setRow (tmC y bx)
  have b2 : Below w.heap.size w (w1.setRow w.heap.size (tmC y bx).toArray) := below_setRow (b0.trans (hB1.mono b0.size)) (Nat.le_refl _) _
  clear A0 A1 hB1 b0
  generalize w1.setRow w.heap.size (tmC y bx).toArray = W1 at *
  generalize (tmC x bx).toArray = X0
  generalize hX1 : (tmC y bx).toArray = X1
  clear hX1
  go_upto_region 2 with fail
  refine wp_region_lit ?_
  refine wpList_load_mid rfl 41 (.tmp 2) rfl w.heap.size 0 rfl (tmC y bx) _ (tm_all A2) Tryz.underlying41 rfl (by rw [tmC_length]; exact Tryz.szTerm) ?_
  simp only [Act.put]
  refine wpList_plain rfl fun K1 hK1 => ?_
  go_simp
  refine (encoded_any y bx W1 hP.ok hP.kind).mono ?_
  rintro e w3 ⟨av, cv, rfl, hown3, hLB3, hB3⟩
  obtain ⟨l5, l282, lne⟩ := encL_len hP
  rw [if_neg lne]
  refine hK1 _ _ ?_
  clear hK1 K1
  obtain ⟨s, hsv, hsok, hsl, hsn, -⟩ := own_sl hown3 hLB3
  have A3 := A2.later hB3
  have hlt3 := A3.lt
  have b3 := b2.trans (hB3.mono b2.size)
  have c0 : w3.cell? ⟨w.heap.size, 0, none⟩ = some (.int .i64 (y 0)) := tm_cell A3 0 (by decide)
  have hown : Hid (w3.ownsRow W1.heap.size 5 1 (.slice av (encL y).length cv) (encL y).length (U8 (encL y))) := hide hown3
  have hW1le : W1.heap.size ≤ w3.heap.size := hB3.size
  have hltW : w.heap.size < W1.heap.size := A2.lt
  have hbk := fun W (h : Below w3.heap.size w3 W) => back_any y bx W hP s (hsok.later h) hsl
  have hdm := fun W (h : Below w3.heap.size w3 W) => domain_any s W (hsok.later h)
  have hrf := fun (k : Int) (h1 : 1 ≤ k) (h2 : k ≤ 10) W (h : Below w3.heap.size w3 W) => refusal_any k h1 h2 s W (hsok.later h)
  have hct := fun (n : Nat) (hn : n ≤ s.n) W (h : Below w3.heap.size w3 W) => refusal_any (y 0) hP.kind.1 hP.kind.2 (s.top n) W ((hsok.later h).top hn)
  have hmr := fun (t : Sl) W (h : t.Ok W) => refusal_any (y 0) hP.kind.1 hP.kind.2 t W h
  rw [← hsv] at hbk hdm hrf
  rw [hsl] at hdm hrf
  rw [encL_dom hP] at hdm
  simp only [Sl.top] at hct
  have hsa : s.a = av := by have := hsv; simp [Sl.v] at this; exact this.1.symm
  have hsc : s.c = cv := by have := hsv; simp [Sl.v] at this; exact this.2.2.symm
  have hcv : (encL y).length ≤ cv := own_bound hown3
  rw [hsn, hsl] at hct
  simp only [Sl.v] at hct
  rw [hsa] at hct
  have HP := hide hP
  have hkd := hP.kind
  have HLB := hide hLB3
  clear hsok hsl hsn hsv hown3 hLB3 hP hB3 b2 lne hsa hsc
  have HA3 := hide A3
  have HB3 := hide b3
  clear A2 A3 b3 s
  generalize hnn : (encL y).length = n at *
  refine wpList_plain rfl fun K1 hK1 => ?_
  go_simp
  refine hK1 _ _ ?_
  clear hK1 K1
  have R3 : Hid (w3.rangeAt w.heap.size 0 (tmC y bx)) := hide (tm_all (unhide HA3))
  have HZT : Hid ((Tryz.prog.info? 41).map (·.size) = some (tmC y bx).length) := hide (by rw [tmC_length]; exact Tryz.szTerm)
  have hb3 := hbk w3 (Below.refl _ _)
  clear hbk
  generalize hTT : tmC y bx = TC at *
  clear hTT
  have h5 : decide ((n : Int) < 5) = false := decide_eq_false (by omega)
  have h282 : decide ((282 : Int) < (n : Int)) = false := decide_eq_false (by omega)
  go_wp2_with (first
    | (refine wpList_yesM (by rfl) fun K1 hK1 => ?_
       refine wp_load_mid 41 (.tmp 2) rfl w.heap.size 0 rfl TC _ (unhide R3) Tryz.underlying41 rfl (unhide HZT) ?_
       refine hK1 _ _ ?_
       clear hK1 K1
       simp only [Act.put]))
  refine hb3.mono ?_
  rintro e w4 ⟨rfl, hB4⟩
  have c4 : w4.cell? ⟨w.heap.size, 0, none⟩ = some (.int .i64 (y 0)) := (World.cell?_of_block (hB4.block _ hlt3)).trans c0
  have h4 := hdm w4 hB4
  clear hb3 hdm R3 HZT HA3 c0
  go_wp2_with fail
  refine h4.mono ?_
  rintro e w5 ⟨rfl, hB5⟩
  have c5 : w5.cell? ⟨w.heap.size, 0, none⟩ = some (.int .i64 (y 0)) := (World.cell?_of_block (hB5.block _ (Nat.lt_of_lt_of_le hlt3 hB4.size))).trans c4
  have hB5' : Below w3.heap.size w3 w5 := hB4.trans (hB5.mono hB4.size)
  clear hB5 hB4 h4 c4
  go_wp2
  go_loopw [9] (fun s9 wr => ∃ (k : Nat), s9 = .int .i64 k ∧ 1 ≤ k ∧ k ≤ 11 ∧ Below w3.heap.size w3 wr ∧ wr.cell? ⟨w.heap.size, 0, none⟩ = some (.int .i64 (y 0))) (fun j _ => 11 - (intOf j).toNat)
  case atStart => exact ⟨1, rfl, by omega, by omega, hB5', c5⟩
  case round =>
    obtain ⟨k, rfl, hk1, hk2, hB, cr⟩ := hrel
    clear hB5' c5
    by_cases hlt : k ≤ 10
    · by_cases hky : (k : Int) = y 0
      · clear hrf hct hmr
        go_wp2
        go_roundw
        case rel => exact ⟨k + 1, by go_num, by omega, by omega, hB, cr⟩
        case measure => simp [intOf]; omega
      · have hC := hrf k (by omega) (by omega) wr hB
        rw [encL_other (unhide HP) hky] at hC
        clear hrf hct hmr
        go_wp2_with (go_at_call 13; refine hC.mono ?_; rintro e w6 ⟨rfl, hB6⟩; clear hC)
        go_roundw
        case rel => exact ⟨k + 1, by go_num, by omega, by omega, hB.trans (hB6.mono hB.size), (World.cell?_of_block (hB6.block _ (Nat.lt_of_lt_of_le hlt3 hB.size))).trans cr⟩
        case measure => simp [intOf]; omega
    · clear hrf hk1 hk2
      go_wp2
      go_loopw [10] (fun s10 wr => ∃ (j : Nat), s10 = .int .i64 j ∧ j ≤ n ∧ Below w3.heap.size w3 wr ∧ wr.cell? ⟨w.heap.size, 0, none⟩ = some (.int .i64 (y 0))) (fun jj _ => n - (intOf jj).toNat)
      case atStart => exact ⟨0, rfl, by omega, hB, cr⟩
      case round =>
        clear hB cr
        obtain ⟨j, rfl, hk, hB, cr⟩ := hrel
        have hsw := hB.size
        by_cases hkn : j < n
        · have hC := hct j hk wr.drew (bel_drewN hB 1)
          rw [encL_cut (unhide HP) (by rw [hnn]; exact hkn)] at hC
          clear hct hmr
          go_upto_region 16 with fail
          refine wp_region_noPanic ?_
          refine wp_region_held_drew (S := fun w' => w'.cell? ⟨w.heap.size, 0, none⟩ = some (.int .i64 (y 0))) (by kernel_rfl) cr (fun hHeld => ?_)
          refine wpAnyH_take (i := 0) (oi := _) (v := (.pointer (some ⟨w.heap.size, 0, none⟩))) rfl (by kernel_rfl) (by kernel_rfl) (by kernel_rfl) (fun _ _ _ h => h) (Or.inl ⟨by rfl, fun w hSw => by go_simp⟩) hHeld ?_
          simp [Act.put]
          refine wpAnyH_take (i := 1) (oi := _) (v := (.int .i64 (y 0))) rfl (by kernel_rfl) (by kernel_rfl) (by kernel_rfl) (fun _ _ _ h => h) (Or.inl ⟨by rfl, fun w hSw => by go_simp⟩) hHeld ?_
          simp [Act.put]
          refine wpAnyH_take (i := 2) (oi := _) (v := (.slice av n cv)) rfl (by kernel_rfl) (by kernel_rfl) (by kernel_rfl) (fun _ _ _ h => h) (Or.inl ⟨by rfl, fun w hSw => by go_simp⟩) hHeld ?_
          simp [Act.put]
          refine wpAnyH_take (i := 3) (oi := _) (v := (.int .i64 j)) rfl (by kernel_rfl) (by kernel_rfl) (by kernel_rfl) (fun _ _ _ h => h) (Or.inl ⟨by rfl, fun w hSw => by go_simp⟩) hHeld ?_
          simp [Act.put]
          refine wpAnyH_take (i := 4) (oi := _) (v := (.int .i64 j)) rfl (by kernel_rfl) (by kernel_rfl) (by kernel_rfl) (fun _ _ _ h => h) (Or.inl ⟨by rfl, fun w hSw => by go_simp⟩) hHeld ?_
          simp [Act.put]
          refine wpAnyH_take (i := 5) (oi := _) (v := (.slice av j j)) rfl (by kernel_rfl) (by kernel_rfl) (by kernel_rfl) (fun _ _ _ h => h) (yieldsIf_top (by rfl) _ _ _ _ rfl 5 Tryz.underlying22 Tryz.szB av n cv j rfl rfl rfl (by omega)) hHeld ?_
          simp [Act.put]
          refine wpAnyH_ready (rs := [6]) (by kernel_rfl) (by simp) ?_
          refine AllReadyH.cons rfl (fun K hK => ?_) AllReadyH.nil
          go_simp
          refine hC.mono ?_
          rintro e w6 ⟨rfl, hB6⟩
          refine hK.out _ _ ((World.cell?_of_block (hB6.block _ (Nat.lt_of_lt_of_le hlt3 hB.size))).trans hHeld) (fun hHeld => ?_)
          clear hK K hC
          refine wpAnyH_take (i := 7) (oi := _) (v := (.bool false)) rfl (by kernel_rfl) (by kernel_rfl) (by kernel_rfl) (fun _ _ _ h => h) (Or.inl ⟨by rfl, fun w hSw => by go_simp⟩) hHeld ?_
          simp [Act.put]
          refine wpAnyH_done (by kernel_rfl) ?_ _
          unfold NoPanic
          go_wp2
          go_roundw
          case rel => exact ⟨j + 1, by go_num, by omega, hB.trans (undrew_bel hB6 hB.size), hHeld⟩
          case measure => simp [intOf]; omega
        · obtain rfl : j = n := by omega
          have hown5 := own_later (unhide hown) hB
          have hbw : Below w.heap.size w wr := (unhide HB3).trans (hB.mono (Nat.le_of_lt hlt3))
          clear hct hkn
          go_upto_region 18 with fail
          refine wp_region_noPanic ?_
          refine wp_region_held_drew (S := fun w' => w'.cell? ⟨w.heap.size, 0, none⟩ = some (.int .i64 (y 0))) (by kernel_rfl) cr (fun hHeld => ?_)
          refine wpAnyH_take (i := 0) (oi := _) (v := (.pointer (some ⟨w.heap.size, 0, none⟩))) rfl (by kernel_rfl) (by kernel_rfl) (by kernel_rfl) (fun _ _ _ h => h) (Or.inl ⟨by rfl, fun w hSw => by go_simp⟩) hHeld ?_
          simp [Act.put]
          refine wpAnyH_take (i := 1) (oi := _) (v := (.int .i64 (y 0))) rfl (by kernel_rfl) (by kernel_rfl) (by kernel_rfl) (fun _ _ _ h => h) (Or.inl ⟨by rfl, fun w hSw => by go_simp⟩) hHeld ?_
          simp [Act.put]
          refine wpAnyH_take (i := 2) (oi := _) (v := (.slice av j cv)) rfl (by kernel_rfl) (by kernel_rfl) (by kernel_rfl) (fun _ _ _ h => h) (Or.inl ⟨by rfl, fun w hSw => by go_simp⟩) hHeld ?_
          simp [Act.put]
          refine wpAnyH_take (i := 3) (oi := _) (v := (.int .u8 m)) rfl (by kernel_rfl) (by kernel_rfl) (by kernel_rfl) (fun _ _ _ h => h) (Or.inl ⟨by rfl, fun w hSw => by go_simp⟩) hHeld ?_
          simp [Act.put]
          refine wpAnyH_ready (rs := [4]) (by kernel_rfl) (by simp) ?_
          refine AllReadyH.cons rfl (fun K hK => ?_) AllReadyH.nil
          go_simp
          have okd : Sl.Ok ((wr.alloc (.cells #[.int .u8 m] 5)).drew) ⟨some ⟨wr.heap.size, 0, none⟩, 1, 1, [m]⟩ := by
            have := one_ok wr m hm.1 hm.2
            exact ⟨this.len, this.le, this.mx, this.nn, this.isB, this.lies⟩
          have ba : Below wr.heap.size wr (wr.alloc (.cells #[.int .u8 m] 5)) := below_one wr _
          have hown6 : ((wr.alloc (.cells #[.int .u8 m] 5)).drew).ownsRow W1.heap.size 5 1 (.slice av j cv) j (U8 (encL y)) := own_later hown5 (bel_drewN ba 1)
          have hsz6 : ((wr.alloc (.cells #[.int .u8 m] 5)).drew).heap.size = wr.heap.size + 1 := by simp
          have hlt5 : w.heap.size < wr.heap.size := Nat.lt_of_lt_of_le hlt3 hB.size
          have hB7 : Below w.heap.size w ((wr.alloc (.cells #[.int .u8 m] 5)).drew) := bel_drewN (hbw.trans (ba.mono hbw.size)) 1
          refine hK.out _ _ ((World.cell?_of_block (ba.block _ hlt5)).trans cr) (fun hHeld => ?_)
          clear hK K ba hown5
          generalize (wr.alloc (.cells #[.int .u8 m] 5)).drew = W7 at *
          refine wpAnyH_ready (rs := [5]) (by kernel_rfl) (by simp) ?_
          refine AllReadyH.cons rfl (fun K hK => ?_) AllReadyH.nil
          obtain ⟨i8, hi8, hz8, hs8, hb8⟩ : ∃ i8, Tryz.prog.info? 5 = some i8 ∧ i8.zero = some (.int .u8 0) ∧ i8.size = 1 ∧ i8.bytes = 1 := ⟨_, rfl, rfl, rfl, rfl⟩
          refine step_append_slB rfl (.tmp 79) (.tmp 81) 22 rfl W1.heap.size 5 i8 (.int .u8 0) Tryz.underlying22 hi8 hz8 hs8 hb8 rfl (.slice av j cv) j (U8 (encL y)) rfl hown6 ⟨some ⟨wr.heap.size, 0, none⟩, 1, 1, [m]⟩ okd rfl (by simp only; omega) (by omega) (fun v8 w8 hown8 hg8 => ?_)
          have hne : some w.heap.size ≠ (Value.slice av j cv).ownBlock := fun e => by
            rcases hown6.2 with ⟨h1, h2⟩ | ⟨g, cap, cur, h1, hge, -⟩
            · omega
            · rw [h1] at e; simp [Value.ownBlock] at e; omega
          have hHeld8 : w8.cell? ⟨w.heap.size, 0, none⟩ = some (.int .i64 (y 0)) := (World.cell?_of_block (hg8.block w.heap.size (by omega) hne)).trans hHeld
          have hB8 : Below w.heap.size w w8 := below_grown hB7 (Nat.le_refl _) (own_mono hown6 (Nat.le_of_lt hltW)) hg8
          have hown8' : w8.ownsRow W1.heap.size 5 1 v8 (j + 1) (U8 (encL y ++ [m])) := by
            have e : U8 (encL y) ++ U8 [m] = U8 (encL y ++ [m]) := by simp [U8]
            rw [← e]; exact hown8
          have hLB8 : IsB (encL y ++ [m]) := fun c hc => by
            rcases List.mem_append.1 hc with h | h
            · exact unhide HLB c h
            · simp at h; omega
          obtain ⟨t, ht, okt, htl, -, -⟩ := own_sl hown8' hLB8
          have hC := hmr t w8 okt
          rw [htl, encL_more (unhide HP), ← ht] at hC
          obtain ⟨ta, tn, tc, tl⟩ := t
          simp only [Sl.v] at ht
          subst ht
          refine hK.out _ _ hHeld8 (fun hHeld => ?_)
          clear hK K hmr okt htl hown8 hown8' hg8 hown6 okd hHeld8
          refine wpAnyH_ready (rs := [6]) (by kernel_rfl) (by simp) ?_
          refine AllReadyH.cons rfl (fun K hK => ?_) AllReadyH.nil
          go_simp
          refine hC.mono ?_
          rintro e w9 ⟨rfl, hB9⟩
          have hlt8 : w.heap.size < w8.heap.size := cell_lt hHeld
          refine hK.out _ _ ((World.cell?_of_block (hB9.block _ hlt8)).trans hHeld) (fun hHeld => ?_)
          clear hK K hC
          refine wpAnyH_take (i := 7) (oi := _) (v := (.bool true)) rfl (by kernel_rfl) (by kernel_rfl) (by kernel_rfl) (fun _ _ _ h => h) (Or.inl ⟨by rfl, fun w hSw => by go_simp⟩) hHeld ?_
          simp [Act.put]
          refine wpAnyH_take (i := 8) (oi := _) (v := (.bool true)) rfl (by kernel_rfl) (by kernel_rfl) (by kernel_rfl) (fun _ _ _ h => h) (Or.inl ⟨by rfl, fun w hSw => by go_simp⟩) hHeld ?_
          simp [Act.put]
          refine wpAnyH_done (by kernel_rfl) ?_ _
          unfold NoPanic
          clear hHeld
          go_wp2
          go_ret
          exact ⟨rfl, hB8.trans (hB9.mono hB8.size)⟩
end Go.Proofs.YtfedajifefldmaaGreat
