import Derived.Test.YtppmgfkpfamabaaQGbiZ
import Derived.Test.YtppmgfkpfamabaaQGarZ
import Derived.Deep.QuietTactic
import Derived.BigQuiet
import Derived.Deep.DeepCutAuto
set_option maxHeartbeats 4000000
set_option maxRecDepth 100000
set_option linter.unusedSimpArgs false
set_option linter.unusedVariables false
namespace Go.Proofs.Ytppmgfkpfamabaa
open Go.RowKit
theorem leB8_wrap (x : Int) : leB 8 (IntKind.i64.wrap x) = leB 8 x := by
  unfold leB
  refine List.map_congr_left (fun i hi => ?_)
  have hi := List.mem_range.1 hi
  rw [IntKind.wrap_i64]
  have h : i = 0 ∨ i = 1 ∨ i = 2 ∨ i = 3 ∨ i = 4 ∨ i = 5 ∨ i = 6 ∨ i = 7 := by omega
  rcases h with rfl | rfl | rfl | rfl | rfl | rfl | rfl | rfl <;> simp only [Nat.reduceMul, Int.reducePow] <;> omega
def EnP (k : Int) (l : List Int) (w : World) (e : Ending) (w' : World) : Prop :=
  ∃ u, e = .returned (.tuple #[u, .bool (decide (l.length ≤ 262144))]) ∧ Rw w.heap.size u (if l.length ≤ 262144 then encL k l else []) w' ∧ Below w.heap.size w w'
theorem rencode_sl (d : Sl) (w : World) (hok : d.Ok w) (k : Int) (hk : 0 ≤ k ∧ k ≤ 255) :
    Calls Try.prog 56 #[.int .u8 k, d.v] w (EnP k d.l w) := by
  obtain ⟨a, n, c, l⟩ := d
  have hlen : l.length = n := hok.len
  by_cases hl : n ≤ 262144
  · refine (rencode_ok k _ w hok hk hl).mono ?_
    rintro e w' ⟨u, h1, h2, h3⟩
    refine ⟨u, ?_, ?_, h3⟩
    · rw [h1]; simp only; rw [hlen, decide_eq_true hl]
    · simp only; rw [hlen, if_pos hl]; exact h2
  · refine (rencode_no k a n c w (by omega)).mono ?_
    rintro e w' ⟨h1, h2⟩
    subst h2
    refine ⟨.slice none 0 0, ?_, ?_, Below.refl _ _⟩
    · rw [h1]; simp only; rw [hlen, decide_eq_false hl]
    · simp only; rw [hlen, if_neg hl]; exact Rw.nil _ _
theorem rencode_rw {B : Nat} {v : Value} {l : List Int} {w : World} (h : Rw B v l w) (k : Int) (hk : 0 ≤ k ∧ k ≤ 255) :
    Calls Try.prog 56 #[.int .u8 k, v] w (EnP k l w) := by
  obtain ⟨a, c, rfl, hok, -⟩ := h.form
  exact rencode_sl ⟨a, l.length, c, l⟩ w hok k hk
def HdP (E n : Nat) (l : List Int) (w : World) (e : Ending) (w' : World) : Prop :=
  ∃ u, e = .returned (.tuple #[u, .bool (decide (l.length + 12 ≤ 262144))]) ∧ Rw w.heap.size u (if l.length + 12 ≤ 262144 then hdr E n l else []) w' ∧ Below w.heap.size w w'
theorem qheader_any (v : Int) (E n : Nat) (d : Sl) (w : World) (hd : d.Ok w) (hv : -9223372036854775808 ≤ v ∧ v ≤ 9223372036854775807) (hE : leB 8 v = leB 8 (E : Int)) (hn : n < 4294967296) (hdn : d.n ≤ 140737488351232) :
    Calls Try.prog 33 #[.int .i64 v, .int .i64 n, d.v] w (HdP E n d.l w) := by
  obtain ⟨da, dn, dc, l⟩ := d
  have hlen : l.length = dn := hd.len
  have hdn' : dn ≤ 140737488351232 := hdn
  have hn' : -9223372036854775808 ≤ (n : Int) ∧ (n : Int) ≤ 9223372036854775807 := by omega
  simp only [Sl.v]
  obtain ⟨T, hT⟩ : ∃ T, hdP E n l = T := ⟨_, rfl⟩
  have HT : Hid ((leB 8 v).reverse ++ (leB 4 (n : Int)).reverse ++ l = T) := hide (by rw [← hT, hE]; simp [hdP])
  have hTl : T.length = l.length + 12 := by rw [← hT, hdP_length]
  have HD := hide hd
  have HL := hide hlen
  have HTL := hide hTl
  have HT2 := hide hT
  clear hd hlen hdn hT hTl hE
  go_enter Try.func33, Try.ntmps33
  go_wp2_with (first
    | (go_at_call 55
       have hguard := hv
       clear hguard
       refine (qnumber_any v 8 _ hv (by omega)).mono ?_
       rintro e w1 ⟨u1, rfl, R1, b1⟩
       have R1 := hide R1
       have B1 : Hid (Below w.heap.size w w1) := hide b1
       clear b1 hv)
    | (at_builtin
       refine wl_appRR rfl (.tmp 9) (.tmp 11) rfl rfl (Rw.nil w.heap.size _) (unhide R1) rfl (by simp) (unhide B1).size ?_
       intro v2 w2 R2 hg2
       have B2 : Hid (Below w.heap.size w w2) := hide ((Rw.nil w.heap.size _).bel (unhide B1) (Nat.le_refl _) (unhide hg2))
       clear hg2 R1 B1)
    | (go_at_call 55
       refine (qnumber_any (n : Int) 4 _ hn' (by omega)).mono ?_
       rintro e w3 ⟨u3, rfl, R3, b3⟩
       have R3 := hide R3
       have R3a : Hid (Rw w.heap.size v2 _ w3) := hide ((unhide R2).later b3)
       have B3 : Hid (Below w.heap.size w w3) := hide (bel_then (unhide B2) (unhide B2).size b3)
       have hs3 := hide b3.size
       have hs2 := hide (unhide B2).size
       clear b3 R2 B2)
    | (at_builtin
       refine wl_appRR rfl (.tmp 13) (.tmp 15) rfl rfl (unhide R3a) (unhide R3) rfl (by simp) (Nat.le_trans (unhide hs2) (unhide hs3)) ?_
       intro v4 w4 R4 hg4
       have B4 : Hid (Below w.heap.size w w4) := hide ((unhide R3a).bel (unhide B3) (Nat.le_refl _) (unhide hg4))
       clear hg4 R3 R3a B3 hs3 hs2)
    | (at_builtin
       refine wl_appR rfl (.tmp 17) (.tmp 18) rfl rfl (unhide R4) ⟨da, dn, dc, l⟩ ((unhide HD).later (unhide B4)) rfl (by simp; omega) (unhide B4).size ?_
       intro v5 w5 R5 hg5
       have B5 : Hid (Below w.heap.size w w5) := hide ((unhide R4).bel (unhide B4) (Nat.le_refl _) (unhide hg5))
       have R5' : Hid (Rw w.heap.size v5 T w5) := hide (by rw [← unhide HT]; exact unhide R5)
       clear hg5 R4 B4 R5)
    | (go_at_call 56
       refine (rencode_rw (unhide R5') 72 (by omega)).mono ?_
       rintro e w6 ⟨u6, rfl, R6, b6⟩
       have R6 := hide R6
       have B6 : Hid (Below w.heap.size w w6) := hide (bel_then (unhide B5) (unhide B5).size b6)
       have hs6 := hide (unhide B5).size
       clear b6 R5' B5)
    | fail)
  go_ret2
  have R := unhide R6
  have e1 : (T.length ≤ 262144) = (l.length + 12 ≤ 262144) := by rw [unhide HTL]
  have e2 : encL 72 T = hdr E n l := by rw [← unhide HT2]; rfl
  rw [e2] at R
  simp only [e1] at R ⊢
  exact ⟨u6, rfl, ⟨own_low R.1 (unhide hs6), R.2⟩, unhide B6⟩
structure Nb (B : Nat) (s : Sl) (w : World) : Prop where
  ok : s.Ok w
  new : ∀ x, s.a = some x → B ≤ x.block
  lt : ∀ x, s.a = some x → x.block < w.heap.size
theorem Rw.nb {B : Nat} {l : List Int} {a : Option Addr} {c : Nat} {w : World} (h : Rw B (.slice a l.length c) l w) : Nb B ⟨a, l.length, c, l⟩ w := by
  obtain ⟨a', c', hv, hok, ha⟩ := h.form
  simp only [Value.slice.injEq, true_and] at hv
  obtain ⟨rfl, rfl⟩ := hv
  exact ⟨hok, ha, fun x hx => (h.1.lt x.block (by have : a = some x := hx; rw [this]; rfl)).2⟩
theorem Rw.nb' {B : Nat} {v : Value} {l : List Int} {w : World} (h : Rw B v l w) : ∃ a c, v = .slice a l.length c ∧ Nb B ⟨a, l.length, c, l⟩ w := by
  obtain ⟨a, c, rfl, -, -⟩ := h.form
  exact ⟨a, c, rfl, h.nb⟩
theorem Nb.blk {B : Nat} {s : Sl} {w w' : World} (h : Nb B s w) (hs : w.heap.size ≤ w'.heap.size) (hb : ∀ x, s.a = some x → w'.heap[x.block]? = w.heap[x.block]?) : Nb B s w' :=
  ⟨slOk_blk h.ok hs hb, h.new, fun x hx => Nat.lt_of_lt_of_le (h.lt x hx) hs⟩
theorem Nb.low {B B' : Nat} {s : Sl} {w : World} (h : Nb B s w) (hb : B' ≤ B) : Nb B' s w := ⟨h.ok, fun x hx => Nat.le_trans hb (h.new x hx), h.lt⟩
theorem Nb.later {B : Nat} {s : Sl} {w w' : World} (h : Nb B s w) (hb : Below w.heap.size w w') : Nb B s w' := h.blk hb.size (fun x hx => hb.block _ (h.lt x hx))
theorem Hs17.keepN14 {w0 w w' : World} {rows : List Row} {K : World → Prop} {s : Sl} (hS : Hs17 w0 rows K w) (hb : Below w.heap.size w w') (h : Nb w.heap.size s w') :
    Hs17 w0 rows (fun w => K w ∧ Nb w0.heap.size s w) w' := by
  refine (hS.later hb).also (fun w'' h1 h2 => (h.low hS.bel.size).blk h1 (fun x hx => ?_))
  refine h2 _ (h.lt x hx) (fun p hp e => ?_)
  have h3 := (hS.arr p hp).lt
  have h4 := h.new x hx
  omega
def DcP (l : List Int) (i : Nat) (w : World) (e : Ending) (w' : World) : Prop :=
  ∃ k fa fc pl nx tl, e = .returned (.tuple #[aV (frC k (.slice fa pl.length fc)), .int .i64 nx, .int .i64 tl]) ∧ Nb w.heap.size ⟨fa, pl.length, fc, pl⟩ w' ∧ Below w.heap.size w w' ∧
    (((mz (l.drop i)).1 ≠ 0 ∧ tl = 0 ∧ k = l.getD (i + 1) 0 ∧ pl = pay (l.drop i) ∧ nx = ((i + lenL (l.drop i) + 10 : Nat) : Int)) ∨ ((mz (l.drop i)).1 = 0 ∧ nx = i ∧ pl = []))
theorem dec_one (d : Sl) (i : Nat) (w : World) (hd : d.Ok w) (hi : i ≤ d.n) :
    Calls Try.prog 84 #[d.v, .int .i64 i] w (DcP d.l i w) := by
  rcases rdecode_any d i w hd hi with ⟨h0, h⟩ | ⟨m, hm, him, hm2, h⟩
  · refine h.mono ?_
    rintro e w' ⟨rfl, hb⟩
    exact ⟨0, none, 0, [], i, _, rfl, (Rw.nil w.heap.size w').nb, hb, .inr ⟨h0, rfl, rfl⟩⟩
  · refine h.mono ?_
    rintro e w' ⟨v, rfl, ho, hb⟩
    have h1 : (mz (d.l.drop i)).1 ≠ 0 := by rw [hm]; simp
    have h2 := (mz_some h1)
    have h3 : m = lenL (d.l.drop i) := by have := h2.1; rw [hm] at this; simp at this; omega
    have hpl : pay (d.l.drop i) = (d.l.drop (i + 6)).take m := by unfold pay; rw [List.drop_drop, ← h3]
    have hlen : ((d.l.drop (i + 6)).take m).length = m := by rw [List.length_take, List.length_drop, hd.len]; omega
    have hR : Rw w.heap.size v ((d.l.drop (i + 6)).take m) w' := ⟨by rw [hlen]; exact ho, (hd.isB.drop _).take _⟩
    obtain ⟨a, c, rfl, hN⟩ := hR.nb'
    exact ⟨_, a, c, _, _, 0, rfl, hN, hb, .inl ⟨h1, rfl, rfl, hpl.symm, by rw [← h3]⟩⟩
def FaP (l : List Int) (i : Nat) (w : World) (e : Ending) (w' : World) : Prop :=
  ∃ k fa fc pl nx, e = .returned (.tuple #[aV (frC k (.slice fa pl.length fc)), .int .i64 nx, .bool (decide ((mz (l.drop i)).1 ≠ 0))]) ∧ Nb w.heap.size ⟨fa, pl.length, fc, pl⟩ w' ∧ Below w.heap.size w w' ∧
    ((mz (l.drop i)).1 ≠ 0 → k = l.getD (i + 1) 0 ∧ pl = pay (l.drop i) ∧ nx = ((i + lenL (l.drop i) + 10 : Nat) : Int))
def Sx.frm {α : Type} (s : Sx α) (sz i : Nat) : Sx α := ⟨if s.c = i then s.a else s.a.map (·.add (i * sz)), s.n - i, s.c - i, s.xs.drop i⟩
def Sx.upto {α : Type} (s : Sx α) (sz i : Nat) : Sx α := ⟨if s.c = 0 then s.a else s.a.map (·.add (0 * sz)), i - 0, s.c - 0, s.xs.take i⟩
section
variable {α : Type} {f : α → List Value} {sz : Nat} {w : World} {s : Sx α}
theorem Sx.Ok.frm (h : s.Ok f sz w) {i : Nat} (hi : i ≤ s.n) : (s.frm sz i).Ok f sz w := by
  have hl := h.len
  have hle := h.le
  refine ⟨by simp [Sx.frm]; omega, by simp [Sx.frm]; omega, Nat.le_trans (by simp [Sx.frm]) h.mx, fun e => ?_, fun h0 => ?_⟩
  · have : s.a = none := by
      simp only [Sx.frm] at e
      split at e
      · exact e
      · cases hs : s.a <;> simp [hs] at e ⊢
    have h1 := h.nn this
    simp only [Sx.frm]; omega
  · simp only [Sx.frm] at h0
    obtain ⟨b, off, e, hlt, hr⟩ := h.lies (by omega)
    refine ⟨b, off + i * sz, ?_, hlt, fun k x hk => ?_⟩
    · simp only [Sx.frm]; rw [if_neg (by omega), e]; simp [addr_add]
    · simp only [Sx.frm, List.getElem?_drop] at hk
      have := hr (i + k) x hk
      rwa [show off + (i + k) * sz = off + i * sz + k * sz by rw [Nat.add_mul]; omega] at this
theorem Sx.Ok.upto (h : s.Ok f sz w) {i : Nat} (hi : i ≤ s.n) : (s.upto sz i).Ok f sz w := by
  have hl := h.len
  have hle := h.le
  refine ⟨by simp [Sx.upto]; omega, by simp [Sx.upto]; omega, Nat.le_trans (by simp [Sx.upto]) h.mx, fun e => ?_, fun h0 => ?_⟩
  · have : s.a = none := by
      simp only [Sx.upto] at e
      split at e
      · exact e
      · cases hs : s.a <;> simp [hs] at e ⊢
    have h1 := h.nn this
    simp only [Sx.upto]; omega
  · simp only [Sx.upto] at h0
    obtain ⟨b, off, e, hlt, hr⟩ := h.lies (by omega)
    refine ⟨b, off, ?_, hlt, fun k x hk => ?_⟩
    · simp only [Sx.upto]; rw [if_neg (by omega), e]; simp [addr_add]
    · simp only [Sx.upto] at hk
      rw [List.getElem?_take] at hk
      split at hk
      · exact hr k x hk
      · cases hk
end
section
variable {P : Program} {o : Oper} {a : Act} {w w0 : World} {T e : TypeId} {sz : Nat} {α : Type}
theorem run_szG (hu : P.underlying T = some (.slice e)) (hi : (P.info? e).map (·.size) = some sz) (w : World) : (sizeOf (P.elem T)).run P w = .ok sz w := by
  have he : P.elem T = e := by simp [Program.elem, hu]
  rw [he]
  cases hq : P.info? e with
  | none => rw [hq] at hi; simp at hi
  | some i => rw [hq] at hi; simp at hi; simp [sizeOf, typeInfo, hq, hi]
theorem ex_frmG (hu : P.underlying T = some (.slice e)) (hz : (P.info? e).map (·.size) = some sz) (x y : Operand) (ho : o.op = .slice T x (some y) none none) (s : Sx α) (i : Nat) (hi : i ≤ s.n) (hx : a.eval x = s.v) (hy : a.eval y = .int .i64 i) : (execOp a.eval o).run P w = .ok (.value (s.frm sz i).v) w := by
  have hu' : P.underlying T = some (.slice (P.elem T)) := by simp [Program.elem, hu]
  have hrun : (Instr.sliceAt T s.v (some (.int .i64 (i : Int))) none none).run P w = .ok (s.frm sz i).v w := by
    unfold Sx.v
    rw [run_sliceAt_slice w _ _ _ _ _ hu', run_slice_l w _ s.a s.n s.c hu' .i64 i (by omega) (by omega), run_szG hu hz]
    simp only [Result.andThen, sliced, Int.toNat_natCast, Sx.frm]
  rw [← hx, ← hy] at hrun
  simp [execOp, ho, hrun, Result.andThen]
theorem ex_uptoG (hu : P.underlying T = some (.slice e)) (hz : (P.info? e).map (·.size) = some sz) (x y : Operand) (ho : o.op = .slice T x none (some y) none) (s : Sx α) (i : Nat) (hi : i ≤ s.c) (hx : a.eval x = s.v) (hy : a.eval y = .int .i64 i) : (execOp a.eval o).run P w = .ok (.value (s.upto sz i).v) w := by
  have hu' : P.underlying T = some (.slice (P.elem T)) := by simp [Program.elem, hu]
  have hrun : (Instr.sliceAt T s.v none (some (.int .i64 (i : Int))) none).run P w = .ok (s.upto sz i).v w := by
    unfold Sx.v
    rw [run_sliceAt_slice w _ _ _ _ _ hu', run_slice_h w _ s.a s.n s.c hu' .i64 i (by omega) (by omega), run_szG hu hz]
    simp only [Result.andThen, sliced, Int.toNat_natCast, Sx.upto]
  rw [← hx, ← hy] at hrun
  simp [execOp, ho, hrun, Result.andThen]
end
def slC (s : Sl) : List Value := [s.v]
theorem slC_len (s : Sl) : (slC s).length = 1 := rfl
theorem one_slC (s : Sl) : ∀ v ∈ slC s, v.oneCell' = true := by intro v hv; simp [slC, Sl.v] at hv; subst hv; rfl
theorem Try.infoSl : (Try.prog.info? 22).map (fun i => (i.zero, i.size, i.bytes)) = some (some nil1, 1, 24) := by kernel_rfl
section
variable {ops : Array Oper} {o : Oper} {rest : List Oper} {a : Act} {w w0 : World} {Q : Exit → Act → World → Prop} {rows : List Row} {K : World → Prop}
theorem wl_bs1s (hw : Region.wanted o (yielded ops a.tmps) = true) (x : Operand) (ho : o.op = .buildSlice 77 1 #[(0, x)]) (z : Sl) (hx : a.eval x = z.v) (hS : Hs17 w0 rows K w)
    (h : ∀ g w', Hs17 w0 ((g, 22, slC z) :: rows) K w' → wpList Try.prog ops Q rest (a.put o.dst (.slice (some ⟨g, 0, none⟩) 1 1)) w') : wpList Try.prog ops Q (o :: rest) a w :=
  wl hw fun k hk => op_bs1G 77 22 x ho Try.underlying77 Try.infoSl _ (slC z) hx rfl rfl (by omega) (by omega) hS (fun g w' h1 => hk _ _ (h g w' h1))
theorem wl_apps (hw : Region.wanted o (yielded ops a.tmps) = true) (s x : Operand) (ho : o.op = .call { callee := .builtin .append, args := #[s, x], argTypes := #[77, 77] })
    {base : Nat} {v : Value} {xs : List Sl} (hs : a.eval s = v) (hown : w.ownsRow base 22 1 v xs.length (xs.flatMap slC)) (y : Sx Sl) (hy : y.Ok slC 1 w) (hx : a.eval x = y.v) (hb : (xs.length + y.n) * 24 ≤ 140737488355328) (hbase : base ≤ w.heap.size)
    (h : ∀ v' w', w'.ownsRow base 22 1 v' (xs ++ y.xs).length ((xs ++ y.xs).flatMap slC) → w.grownBy w' v.ownBlock → (v'.ownBlock = v.ownBlock ∨ v'.ownBlock = some w.heap.size) → wpList Try.prog ops Q rest (a.put o.dst v') w') : wpList Try.prog ops Q (o :: rest) a w :=
  wl hw fun k hk => op_appendL s x 77 ho Try.underlying77 Try.infoSl rfl (by omega) hs hown y hy (fun z _ => slC_len z) (fun z _ => one_slC z) hx hb (by omega) hbase (fun v' w' h1 h2 h3 => hk _ _ (h v' w' h1 h2 h3))
end
structure Nbs (B : Nat) (q : Sx Sl) (w : World) : Prop where
  ok : q.Ok slC 1 w
  new : ∀ x, q.a = some x → B ≤ x.block
  lt : ∀ x, q.a = some x → x.block < w.heap.size
  all : ∀ s ∈ q.xs, Nb B s w
theorem Nbs.blk {B : Nat} {q : Sx Sl} {w w' : World} (h : Nbs B q w) (hs : w.heap.size ≤ w'.heap.size) (hb : ∀ x, q.a = some x → w'.heap[x.block]? = w.heap[x.block]?) (hb2 : ∀ s ∈ q.xs, ∀ x, s.a = some x → w'.heap[x.block]? = w.heap[x.block]?) : Nbs B q w' :=
  ⟨h.ok.keep hs (fun _ x hx _ => hb x hx), h.new, fun x hx => Nat.lt_of_lt_of_le (h.lt x hx) hs, fun s hs' => (h.all s hs').blk hs (hb2 s hs')⟩
theorem Nbs.low {B B' : Nat} {q : Sx Sl} {w : World} (h : Nbs B q w) (hb : B' ≤ B) : Nbs B' q w := ⟨h.ok, fun x hx => Nat.le_trans hb (h.new x hx), h.lt, fun s hs => (h.all s hs).low hb⟩
theorem Nbs.later {B : Nat} {q : Sx Sl} {w w' : World} (h : Nbs B q w) (hb : Below w.heap.size w w') : Nbs B q w' := h.blk hb.size (fun x hx => hb.block _ (h.lt x hx)) (fun s hs x hx => hb.block _ ((h.all s hs).lt x hx))
theorem told8 (s : Sl) (w : World) (hs : s.Ok w) (hn : 12 ≤ s.n) : Calls Try.prog 76 #[s.v, .int .i64 0, .int .i64 8] w fun e w' => e = .returned (.int .u64 (hdE s.l : Nat)) ∧ Below w.heap.size w w' := by
  have h := qtold_any s 0 8 w hs (by omega) (by omega)
  have hb := leV_bd _ ((hs.isB.take 8).reverse)
  have e : leV ((s.l.drop 0).take 8).reverse = ((hdE s.l : Nat) : Int) := by unfold hdE; rw [List.drop_zero]; omega
  rw [e] at h
  exact h
theorem told4 (s : Sl) (w : World) (hs : s.Ok w) (hn : 12 ≤ s.n) : Calls Try.prog 76 #[s.v, .int .i64 8, .int .i64 4] w fun e w' => e = .returned (.int .u64 (hdN s.l : Nat)) ∧ Below w.heap.size w w' := by
  have h := qtold_any s 8 4 w hs (by omega) (by omega)
  have hb := leV_bd _ (((hs.isB.drop 8).take 4).reverse)
  have e : leV ((s.l.drop 8).take 4).reverse = ((hdN s.l : Nat) : Int) := by unfold hdN; omega
  rw [e] at h
  exact h
structure LkI (l : List Int) (rs : List (List Int)) (t : List Int) (k g : Nat) : Prop where
  dr : l.drop g = flatR (rs.drop k) ++ t
  gl : g ≤ l.length
  ok : OkR rs
  nt : ¬ RecF t
theorem LkI.step {l : List Int} {rs : List (List Int)} {t : List Int} {k g : Nat} (h : LkI l rs t k g) (hk : k < rs.length) :
    (mz (l.drop g)).1 ≠ 0 ∧ l.getD (g + 1) 0 = 82 ∧ pay (l.drop g) = rs[k] ∧ LkI l rs t (k + 1) (g + lenL (l.drop g) + 10) := by
  have e1 : rs.drop k = rs[k] :: rs.drop (k + 1) := List.drop_eq_getElem_cons hk
  have hr := h.ok rs[k] (List.getElem_mem hk)
  have e2 : l.drop g = encL 82 rs[k] ++ (flatR (rs.drop (k + 1)) ++ t) := by rw [h.dr, e1]; simp only [flatR, List.append_assoc]
  have hf := recF_enc rs[k] (flatR (rs.drop (k + 1)) ++ t) hr
  rw [← e2] at hf
  obtain ⟨p1, p2⟩ := pay_enc 82 rs[k] (flatR (rs.drop (k + 1)) ++ t) hr.2
  rw [← e2] at p1 p2
  rw [List.drop_drop] at p2
  have hm := mz_some hf.1
  have hk2 : (l.drop g).getD 1 0 = l.getD (g + 1) 0 := by simp [List.getD, List.getElem?_drop]
  refine ⟨hf.1, by rw [← hk2]; exact hf.2, p1, ⟨by rw [Nat.add_assoc]; exact p2, ?_, h.ok, h.nt⟩⟩
  have := hm.2.1
  rw [List.length_drop] at this
  have := h.gl
  omega
theorem LkI.stop {l : List Int} {rs : List (List Int)} {t : List Int} {k g : Nat} (h : LkI l rs t k g) (hk : ¬ k < rs.length) : ¬ ((mz (l.drop g)).1 ≠ 0 ∧ l.getD (g + 1) 0 = 82) ∧ l.length - t.length = g := by
  have e1 : rs.drop k = [] := List.drop_eq_nil_of_le (by omega)
  have e2 : l.drop g = t := by rw [h.dr, e1]; rfl
  have hk2 : (l.drop g).getD 1 0 = l.getD (g + 1) 0 := by simp [List.getD, List.getElem?_drop]
  refine ⟨fun ⟨h1, h2⟩ => h.nt ?_, ?_⟩
  · rw [← e2]; exact ⟨h1, by rw [hk2]; exact h2⟩
  · rw [← e2, List.length_drop]; have := h.gl; omega
def LkP (l : List Int) (w : World) (e : Ending) (w' : World) : Prop :=
  ∃ hd ep sn q g, e = .returned (aV (kkC hd ep (Sl.v sn) (Sx.v q) g l.length)) ∧ Nb w.heap.size sn w' ∧ Nbs w.heap.size q w' ∧ Below w.heap.size w w' ∧
    hd = decide ((look l).e ≠ 0) ∧ (hd = true → ep = ((look l).e : Nat) ∧ sn.l = (look l).s ∧ q.xs.map Sl.l = (look l).rs ∧ g = ((l.length - (look l).t.length : Nat) : Int))
theorem Nb.nil (B : Nat) (w : World) : Nb B ⟨none, 0, 0, []⟩ w := ⟨⟨rfl, Nat.le_refl _, Nat.zero_le _, fun _ => ⟨rfl, rfl⟩, (fun x hx => by cases hx), (fun h => by simp at h)⟩, (fun x hx => by cases hx), (fun x hx => by cases hx)⟩
theorem Nbs.nil (B : Nat) (w : World) : Nbs B ⟨none, 0, 0, []⟩ w := ⟨Sx.Ok.nil w 0, (fun x hx => by cases hx), (fun x hx => by cases hx), (fun x hx => by cases hx)⟩
theorem LkP.not {l : List Int} {w w' : World} {ep g : Int} {sn : Sl} {q : Sx Sl} (h : look l = cts0) (hb : Below w.heap.size w w') (hn : Nb w.heap.size sn w') (hq : Nbs w.heap.size q w') :
    LkP l w (.returned (aV (kkC false ep sn.v q.v g l.length))) w' := by
  refine ⟨false, ep, sn, q, g, rfl, hn, hq, hb, ?_, fun h => by cases h⟩
  rw [h]; rfl
def Sl.from14 (s : Sl) (i : Nat) : Sl := ⟨if s.c = i then s.a else s.a.map (·.add (i * 1)), s.n - i, s.c - i, s.l.drop i⟩
theorem Nb.from14 {B : Nat} {s : Sl} {w : World} (h : Nb B s w) {i : Nat} (hi : i ≤ s.n) : Nb B (s.from14 i) w := by
  have hl := h.ok.len
  have hle := h.ok.le
  have hblk : ∀ x, (s.from14 i).a = some x → ∃ y, s.a = some y ∧ y.block = x.block := by
    intro x hx
    simp only [Sl.from14] at hx
    split at hx
    · exact ⟨x, hx, rfl⟩
    · cases hs : s.a with
      | none => rw [hs] at hx; cases hx
      | some y => rw [hs] at hx; simp at hx; subst hx; exact ⟨y, rfl, by unfold Addr.add; split <;> rfl⟩
  refine ⟨⟨by simp [Sl.from14]; omega, by simp [Sl.from14]; omega, Nat.le_trans (by simp [Sl.from14]) h.ok.mx, fun e => ?_, h.ok.isB.drop i, fun h0 => ?_⟩, fun x hx => ?_, fun x hx => ?_⟩
  · have : s.a = none := by
      simp only [Sl.from14] at e
      split at e
      · exact e
      · cases hs : s.a <;> simp [hs] at e ⊢
    have h1 := h.ok.nn this
    simp only [Sl.from14]; omega
  · simp only [Sl.from14, List.length_drop] at h0
    obtain ⟨b, off, e, hlt, hr⟩ := h.ok.lies (by omega)
    refine ⟨b, off + i, ?_, hlt, fun k hk => ?_⟩
    · simp only [Sl.from14]; rw [if_neg (by omega), e]; simp [addr_add]
    · simp only [Sl.from14, List.length_drop] at hk
      have := hr (i + k) (by omega)
      rw [show off + i + k = off + (i + k) by omega, this]
      simp [Sl.from14, List.getD, List.getElem?_drop]
  · obtain ⟨y, hy, e⟩ := hblk x hx
    rw [← e]; exact h.new y hy
  · obtain ⟨y, hy, e⟩ := hblk x hx
    rw [← e]; exact h.lt y hy
theorem ex_from14 {o : Oper} {a : Act} {w : World} (x y : Operand) (ho : o.op = .slice 22 x (some y) none none) (s : Sl) (i : Nat) (hi : i ≤ s.n) (hx : a.eval x = s.v) (hy : a.eval y = .int .i64 i) : (execOp a.eval o).run Try.prog w = .ok (.value (s.from14 i).v) w :=
  ex_frmG (sz := 1) (α := Int) Try.underlying22 (by kernel_rfl) x y ho ⟨s.a, s.n, s.c, []⟩ i hi hx hy
theorem ex_upto14 {o : Oper} {a : Act} {w : World} (x y : Operand) (ho : o.op = .slice 22 x none (some y) none) (g m c i : Nat) (hi : i ≤ c) (hc : 0 < c) (hx : a.eval x = .slice (some ⟨g, 0, none⟩) m c) (hy : a.eval y = .int .i64 i) : (execOp a.eval o).run Try.prog w = .ok (.value (.slice (some ⟨g, 0, none⟩) i c)) w := by
  have := ex_uptoG (sz := 1) (α := Int) (e := 5) (w := w) Try.underlying22 (by kernel_rfl) x y ho ⟨some ⟨g, 0, none⟩, m, c, []⟩ i hi hx hy
  have hc' : ¬ c = 0 := by omega
  simpa [Sx.upto, Sx.v, Addr.add, hc'] using this
set_option maxHeartbeats 2000000
theorem take_eq_succJ {a b : List Int} {k : Nat} (ha : k < a.length) (hb : k < b.length) (h : a.take k = b.take k) (e : a.getD k 0 = b.getD k 0) : a.take (k + 1) = b.take (k + 1) := by
  rw [take_succ_getD a k ha, take_succ_getD b k hb, h, e]
theorem sameJ_any (a b : Sl) (w : World) (ha : a.Ok w) (hb : b.Ok w) (hn : a.n ≤ 1099511627776 ∨ b.n ≤ 1099511627776) :
    Calls Try.prog 10 #[a.v, b.v] w fun e w' => e = .returned (.bool (decide (a.l = b.l))) ∧ ∃ k, w' = w.drewN k := by
  obtain ⟨aa, an, ac, al⟩ := a
  obtain ⟨ba, bn, bc, bl⟩ := b
  have ha1 : al.length = an := ha.len
  have hb1 : bl.length = bn := hb.len
  simp only at hn
  have hbm : bn ≤ 9223372036854775807 := by have := hb.le; have := hb.mx; unfold maxLen at this; simp only at *; omega
  simp only [Sl.v]
  by_cases hlen : an = bn
  · subst hlen
    have HA := hide ha
    have HB := hide hb
    have HL := hide ha1
    have HL2 := hide hb1
    have hn2 : an ≤ 1099511627776 := by omega
    clear ha hb ha1 hb1 hn
    generalize hD : decide (al = bl) = D
    have HD := hide hD
    clear hD
    go_enter Try.func10, Try.ntmps10
    go_wp2_with fail
    go_loopw [5] (fun i wr => ∃ k : Nat, k ≤ an ∧ i = .int .i64 k ∧ Hid (al.take k = bl.take k) ∧ ∃ m, wr = w.drewN m) (fun i _ => an - (intOf i).toNat)
    case atStart => exact ⟨0, by omega, rfl, hide rfl, 0, rfl⟩
    case round =>
      obtain ⟨k, hk, rfl, HT, m, hwr0⟩ := hrel
      have hwr := hide hwr0
      clear hwr0
      by_cases hlt : k < an
      · obtain ⟨ab, ao, haa, -, hac⟩ := (unhide HA).lies (by show 0 < al.length; rw [unhide HL]; omega)
        obtain ⟨bb, bo, hba, -, hbc⟩ := (unhide HB).lies (by show 0 < bl.length; rw [unhide HL2]; omega)
        have haa' : aa = some ⟨ab, ao, none⟩ := haa
        have hba' : ba = some ⟨bb, bo, none⟩ := hba
        subst haa' hba'
        have ca : wr.cell? ⟨ab, ao + k, none⟩ = some (.int .u8 (al.getD k 0)) := by rw [unhide hwr]; exact hac k (by show k < al.length; rw [unhide HL]; omega)
        have cb : wr.cell? ⟨bb, bo + k, none⟩ = some (.int .u8 (bl.getD k 0)) := by rw [unhide hwr]; exact hbc k (by show k < bl.length; rw [unhide HL2]; omega)
        obtain ⟨x, hx⟩ : ∃ x, al.getD k 0 = x := ⟨_, rfl⟩
        obtain ⟨y, hy⟩ : ∃ y, bl.getD k 0 = y := ⟨_, rfl⟩
        rw [hx] at ca
        rw [hy] at cb
        have HX := hide hx
        have HY := hide hy
        have hkz : (k : Int) < (an : Int) := by omega
        clear haa hba hac hbc hx hy
        by_cases hxy : x = y
        · subst hxy
          have HT' : Hid (al.take (k + 1) = bl.take (k + 1)) := hide (take_eq_succJ (by rw [unhide HL]; omega) (by rw [unhide HL2]; omega) (unhide HT) ((unhide HX).trans (unhide HY).symm))
          go_wp2_with fail
          go_quiet (fail)
          go_wp2
          go_roundw
          case rel => exact ⟨k + 1, by omega, by go_num, HT', _, by rw [unhide hwr]; exact World.drewN_drewN _ _ _⟩
          case measure => simp [intOf]; omega
        · have HF : Hid (D = false) := by
            rw [← unhide HD]
            refine hide (decide_eq_false (fun e => hxy ?_))
            rw [← unhide HX, ← unhide HY, e]
          go_wp2_with fail
          go_quiet (fail)
          go_wp2
          go_ret
          rw [unhide HF]
          exact ⟨rfl, _, by rw [unhide hwr]; exact World.drewN_drewN _ _ _⟩
      · have hkd : decide ((k : Int) < (an : Int)) = false := by simp; omega
        have HF : Hid (D = true) := by
          rw [← unhide HD]
          refine hide (decide_eq_true ?_)
          have h := unhide HT
          rw [List.take_of_length_le (by rw [unhide HL]; omega), List.take_of_length_le (by rw [unhide HL2]; omega)] at h
          exact h
        go_wp2
        go_ret
        rw [unhide HF]
        exact ⟨rfl, m, unhide hwr⟩
  · have HF : Hid (decide (al = bl) = false) := hide (decide_eq_false (fun e => hlen (by rw [← ha1, ← hb1, e])))
    rw [unhide HF]
    go_enter Try.func10, Try.ntmps10
    go_wp2
    go_ret
    exact ⟨rfl, 0, rfl⟩
def mk40 : List Int := List.replicate 40 195
theorem mk40_isB : IsB mk40 := fun x hx => by have := List.eq_of_mem_replicate hx; omega
def Mk (B g n c : Nat) (l : List Int) (w : World) : Prop := w.ownsRow B 5 1 (.slice (some ⟨g, 0, none⟩) (n + 40) c) (n + 40) (U8 (l ++ mk40)) ∧ IsB l ∧ l.length = n
theorem marked_any (d : Sl) (w : World) (hd : d.Ok w) (hdn : d.n ≤ 1048576) :
  Calls Try.prog 13 #[d.v] w fun e w' => ∃ g c, e = .returned (.slice (some ⟨g, 0, none⟩) d.n c) ∧ Mk w.heap.size g d.n c d.l w' ∧ Below w.heap.size w w' := by
 obtain ⟨i0, hii, hz0, hz1, hz2⟩ := info_parts Try.infoB
 obtain ⟨da, dn, dc, l⟩ := d
 have hdn' : dn ≤ 1048576 := hdn
 have hl : l.length = dn := hd.len
 have HD := hide hd
 have HL := hide hl
 clear hdn hd hl
 simp only [Sl.v]
 go_enter Try.func13, Try.ntmps13
 go_wp2_with (at_builtin; refine wl_appR rfl (.tmp 5) (.tmp 6) rfl rfl (Rw.nil w.heap.size _) ⟨da, dn, dc, l⟩ (unhide HD) rfl (by simp; omega) (Nat.le_refl _) ?_; intro v1 w1 R1 hg1; have B1 : Below w.heap.size w w1 := (Rw.nil w.heap.size _).bel (Below.refl _ _) (Nat.le_refl _) (unhide hg1); have O1 : w1.ownsRow w.heap.size 5 1 v1 (dn + 0) (U8 (l ++ List.replicate 0 195)) := (by have h := (unhide R1).1; simpa [unhide HL] using h); clear hg1 R1)
 go_loopw [3, 4] (fun v i wr => ∃ j : Nat, j ≤ 40 ∧ i = .int .i64 j ∧ wr.ownsRow w.heap.size 5 1 v (dn + j) (U8 (l ++ List.replicate j 195)) ∧ Below w.heap.size w wr) (fun _ i _ => 40 - (intOf i).toNat)
 case atStart => exact ⟨0, by omega, rfl, O1, B1⟩
 case round =>
  clear O1 B1
  obtain ⟨j, hj, rfl, hown, hbl⟩ := hrel
  by_cases hlt : j < 40
  ·go_wp2_with (at_builtin; refine wpList_append_own _ rfl _ _ 22 rfl w.heap.size 5 i0 (.int .u8 0) 1 1 Try.underlying22 hii hz0 hz1 hz2 rfl (by decide) _ (dn + j) (U8 (l ++ List.replicate j 195)) rfl (hown.alloc _) ⟨_, 0, none⟩ 1 1 [.int .u8 195] rfl rfl (cell_new _ _ _) (one_byte _) (by unfold maxLen; omega) (by omega) (by have := hbl.size; simp; omega) ?_)
   intro v4 w4 hown4 hgrow4 _
   have hb4 := below_app hbl (Nat.le_refl _) hown hgrow4
   rw [U8_snoc2, List.append_assoc, ← List.replicate_succ'] at hown4
   clear hgrow4 hown hbl
   go_wp2
   go_roundw
   case rel => exact ⟨j + 1, by omega, by go_num, hown4, hb4⟩
   case measure => simp [intOf]; omega
  ·have hk8 : j = 40 := by omega
   subst hk8
   obtain ⟨g, c, rfl, -, -⟩ := hown.form (by omega)
   have hc : dn + 40 ≤ c := by
    rcases hown.2 with ⟨h, -⟩ | ⟨g', cap, cur, h, h1, h2, h3, -⟩
    ·cases h
    ·simp only [Value.slice.injEq] at h
     obtain ⟨-, -, rfl⟩ := h
     exact h3
   have HO : Hid (Mk w.heap.size g dn c l wr) := hide ⟨hown, (unhide HD).isB, unhide HL⟩
   have HB := hide hbl
   clear hown hbl
   go_upto_region 7 with fail
   refine rgZ3 ?_
   refine vZ (.slice (some ⟨g, 0, none⟩) dn c) (ex_upto14 (.tmp 15) (.tmp 17) rfl g (dn + 40) c dn (by omega) (by omega) rfl rfl) ?_
   refine snZ1 ?_
   go_wp2_with fail
   go_ret
   exact ⟨g, c, rfl, unhide HO, unhide HB⟩
end Go.Proofs.Ytppmgfkpfamabaa
