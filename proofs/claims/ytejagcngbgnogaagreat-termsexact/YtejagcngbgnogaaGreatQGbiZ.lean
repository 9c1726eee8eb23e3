import Derived.Test.YtejagcngbgnogaaGreatQShr
import Derived.Test.YtejagcngbgnogaaGreatQGbhZ
namespace Go.Proofs.YtejagcngbgnogaaGreat
open Go.RowKit
def LiesS (w : World) (a : Option Addr) (ss : List Stp) : Prop :=
 0 < ss.length → ∃ b off, a = some ⟨b, off, none⟩ ∧ b < w.heap.size ∧ ∀ i q, ss[i]? = some q → ∀ j v, q.cells[j]? = some v → w.cell? ⟨b, off + i * 6 + j, none⟩ = some v
structure Sps where
 a : Option Addr
 n : Nat
 c : Nat
 ss : List Stp
def Sps.v (s : Sps) : Value := .slice s.a s.n s.c
structure Sps.Ok (w : World) (s : Sps) : Prop where
 len : s.ss.length = s.n
 le : s.n ≤ s.c
 mx : s.c ≤ maxLen
 lies : LiesS w s.a s.ss
 all : ∀ q ∈ s.ss, q.Ok w
theorem LiesS.keep {S : Nat → Prop} {w w' : World} {a : Option Addr} {ss : List Stp} (h : LiesS w a ss) (hb : Buts S w w') (hS : 0 < ss.length → ∀ y, a = some y → ¬ S y.block) : LiesS w' a ss := by
 intro hp
 obtain ⟨b, off, rfl, hlt, hc⟩ := h hp
 exact ⟨b, off, rfl, Nat.lt_of_lt_of_le hlt hb.size, fun i q hi j v hv => (World.cell?_of_block (w := w) (w' := w') (a := ⟨b, off + i * 6 + j, none⟩) (hb.block b hlt (hS hp _ rfl))).trans (hc i q hi j v hv)⟩
theorem Sps.Ok.keep {S : Nat → Prop} {w w' : World} {s : Sps} {B : Nat} (h : s.Ok w) (hl : ∀ q ∈ s.ss, q.Low B) (ha : 0 < s.ss.length → ∀ y, s.a = some y → y.block < B) (hb : Buts S w w') (hS : ∀ k, S k → B ≤ k) : s.Ok w' :=
 ⟨h.len, h.le, h.mx, h.lies.keep hb (fun hp y hy e => by have := ha hp y hy; have := hS _ e; omega), fun q hq => (h.all q hq).keep (hl q hq) hb hS⟩
theorem Sps.Ok.later {w w' : World} {s : Sps} (h : s.Ok w) (hb : Below w.heap.size w w') : s.Ok w' :=
 ⟨h.len, h.le, h.mx, h.lies.keep (Buts.of_below (S := fun _ => False) hb) (fun _ _ _ e => e), fun q hq => (h.all q hq).later hb⟩
theorem Sps.Ok.at_ {w : World} {s : Sps} (h : s.Ok w) {i : Nat} {q : Stp} (hi : s.ss[i]? = some q) : ∃ b off, s.a = some ⟨b, off, none⟩ ∧ b < w.heap.size ∧
  w.cell? ⟨b, off + i * 6, none⟩ = some (.int .i64 q.kind) ∧ w.cell? ⟨b, off + i * 6 + 1, none⟩ = some (.int .u64 q.x) ∧ w.cell? ⟨b, off + i * 6 + 2, none⟩ = some (.slice q.b.a q.b.n q.b.c) ∧
  w.cell? ⟨b, off + i * 6 + 3, none⟩ = some (.slice q.q.a q.q.n q.q.c) ∧ w.cell? ⟨b, off + i * 6 + 4, none⟩ = some (.int .i64 q.n) ∧ w.cell? ⟨b, off + i * 6 + 5, none⟩ = some (.int .i64 q.most) := by
 have hp : 0 < s.ss.length := by
  by_cases hl : i < s.ss.length
  ·omega
  ·rw [List.getElem?_eq_none (by omega)] at hi; simp at hi
 obtain ⟨b, off, ha, hlt, hc⟩ := h.lies hp
 have hc := hc i q hi
 exact ⟨b, off, ha, hlt, hc 0 _ rfl, hc 1 _ rfl, hc 2 _ rfl, hc 3 _ rfl, hc 4 _ rfl, hc 5 _ rfl⟩
def wAll (ss : List Stp) (st : List Int × Int) : List Int × Int := ss.foldl (fun st q => wStep q st) st
def flat (ss : List Stp) : List Value := ss.flatMap Stp.cells
theorem tK {P : Program} {ops : Array Oper} {o : Oper} {a : Act} {w : World} {K : Act → World → Prop} {Q : Exit → Act → World → Prop} {E : Prop} (hgd : o.guard = none) (s x : Operand) (t : TypeId)
  (ho : o.op = .call { callee := .builtin .append, args := #[s, x], argTypes := #[t, t] })
  (base : Nat) (e : TypeId) (i : TypeInfo) (z : Value) (size bytes : Nat) (ht : P.underlying t = some (.slice e)) (hi : P.info? e = some i) (hz : i.zero = some z)
  (hsize : i.size = size) (hby : i.bytes = bytes) (hzs : z.cells.size = size) (hsz : 0 < size)
  (v : Value) (n : Nat) (xs : List Value) (hs : a.eval s = v) (hown : w.ownsRow base e size v n xs)
  (ad : Addr) (m c : Nat) (news : List Value) (hx : a.eval x = .slice (some ad) m c) (hl : news.length = m * size) (hnews : ∀ j u, news[j]? = some u → w.cell? (ad.add j) = some u) (h1 : ∀ u ∈ news, u.oneCell' = true)
  (h63 : n + m ≤ maxLen) (hbytes : (n + m) * bytes ≤ 140737488355328) (hbase : base ≤ w.heap.size)
  (h : ∀ v' w', w'.ownsRow base e size v' (n + m) (xs ++ news) → w.grownBy w' v.ownBlock → (v'.ownBlock = v.ownBlock ∨ v'.ownBlock = some w.heap.size) → K (a.put o.dst v') w') :
  if Region.wanted o (yielded ops a.tmps) = true then Oper.wp P o a w K Q else E := by
 have hw : Region.wanted o (yielded ops a.tmps) = true := by simp [Region.wanted, hgd]
 rw [if_pos hw]
 obtain ⟨v', w', hr, r1, r2, r3⟩ := gT (P := P) w base t o.type e i z size bytes ht hi hz hsize hby hzs hsz v n xs hown ad m c news hl hnews h1 h63 hbytes hbase
 unfold Oper.wp
 simp [execOp, ho, resolve, invoke, builtin, hs, hx, hr, Result.andThen]
 exact h v' w' r1 r2 r3
def Oth (S : Nat → Prop) (w : World) : Prop := ∀ k, S k → ∃ cs ty fr, w.heap[k]? = some (.cells cs ty fr) ∧ ty ≠ 5 ∧ ty ≠ 215
theorem Oth.arr {w : World} {p : Nat} {ty : TypeId} {l : List Value} (h : Arr w p ty l) (h1 : ty ≠ 5) (h2 : ty ≠ 215) : Oth (· = p) w := fun k e => by subst e; exact ⟨_, _, _, h, h1, h2⟩
theorem Oth.own {w : World} {base e sz n : Nat} {v : Value} {xs : List Value} (h : w.ownsRow base e sz v n xs) (h1 : e ≠ 5) (h2 : e ≠ 215) : Oth (fun k => v.ownBlock = some k) w := fun k hk => by
 rcases h.2 with ⟨rfl, -⟩ | ⟨g, cap, cur, rfl, -, hg, -⟩
 ·simp [Value.ownBlock] at hk
 ·simp only [Value.ownBlock, Option.some.injEq] at hk
  subst hk
  exact ⟨_, _, _, hg, h1, h2⟩
theorem own_oth {S : Nat → Prop} {w w' : World} (hb : Buts S w w') (hS : Oth S w) {base e sz n : Nat} {v : Value} {xs : List Value} (h : w.ownsRow base e sz v n xs) (he : e = 5 ∨ e = 215) : w'.ownsRow base e sz v n xs := by
 refine hb.own h (fun g hg hs => ?_)
 obtain ⟨cs, ty, fr, h1, h2, h3⟩ := hS g hs
 rcases h.2 with ⟨rfl, -⟩ | ⟨g', cap, cur, rfl, -, h4, -⟩
 ·simp [Value.ownBlock] at hg
 ·simp only [Value.ownBlock, Option.some.injEq] at hg
  subst hg
  rw [h4] at h1
  simp only [Option.some.injEq, Obj.cells.injEq] at h1
  rcases he with rfl | rfl
  ·exact h2 h1.2.1.symm
  ·exact h3 h1.2.1.symm
structure QOwn (base : Nat) (w : World) (s : Stp) : Prop where
 b : w.ownsRow base 5 1 s.b.v s.b.n (U8 s.b.l)
 q : w.ownsRow base 215 1 s.q.v s.q.n (Q8 s.q.l)
 isB : IsB s.b.l
 isQ : IsQ s.q.l
 k0 : -9223372036854775808 ≤ s.kind
 k1 : s.kind ≤ 9223372036854775807
 x0 : 0 ≤ s.x
 x1 : s.x < 18446744073709551616
 n0 : -9223372036854775808 ≤ s.n
 n1 : s.n ≤ 9223372036854775807
 m0 : -9223372036854775808 ≤ s.most
 m1 : s.most ≤ 9223372036854775807
theorem QOwn.ok {base : Nat} {w : World} {q : Stp} (h : QOwn base w q) : q.Ok w := by
 refine ⟨h.k0, h.k1, h.x0, h.x1, ?_, ?_, h.n0, h.n1, h.m0, h.m1⟩
 ·obtain ⟨s', hs', oks, hsl, -, -⟩ := iH h.b h.isB
  generalize q.b = b at *
  obtain ⟨xa, xn, xc, xl⟩ := s'
  obtain ⟨ya, yn, yc, yl⟩ := b
  have hsl' : xl = yl := hsl
  simp only [Sl.v, Value.slice.injEq] at hs'
  obtain ⟨e1, e2, e3⟩ := hs'
  subst e1 e2 e3 hsl'; exact oks
 ·obtain ⟨s', hs', oks, hsl, -, -⟩ := ownq_sq h.q h.isQ
  generalize q.q = b at *
  obtain ⟨xa, xn, xc, xl⟩ := s'
  obtain ⟨ya, yn, yc, yl⟩ := b
  have hsl' : xl = yl := hsl
  simp only [Sq.v, Value.slice.injEq] at hs'
  obtain ⟨e1, e2, e3⟩ := hs'
  subst e1 e2 e3 hsl'; exact oks
theorem QOwn.keep {S : Nat → Prop} {base : Nat} {w w' : World} {q : Stp} (h : QOwn base w q) (hb : Buts S w w') (hS : Oth S w) : QOwn base w' q :=
 ⟨own_oth hb hS h.b (.inl rfl), own_oth hb hS h.q (.inr rfl), h.isB, h.isQ, h.k0, h.k1, h.x0, h.x1, h.n0, h.n1, h.m0, h.m1⟩
theorem QOwn.later {base : Nat} {w w' : World} {q : Stp} (h : QOwn base w q) (hb : Below w.heap.size w w') : QOwn base w' q :=
 h.keep (Buts.of_below (S := fun _ => False) hb) (fun _ e => e.elim)
set_option maxHeartbeats 2000000
set_option maxRecDepth 100000
set_option linter.unusedVariables false
theorem yieldsIf_cut {P : Program} {ops : Array Oper} {S : World → Prop} {o : Oper} {a : Act} (hw : Region.wanted o (yielded ops a.tmps) = true) (t : TypeId) (x y z : Operand) (ho : o.op = .slice t x (some y) (some z) none)
  (e : TypeId) (hu : P.underlying t = some (.slice e)) (hsz : (P.info? e).map (·.size) = some 1) (s d : Sl) (l m : Nat) (hdd : d = (s.cut l).pre m) (hx : a.eval x = .slice s.a s.n s.c) (yl zh : Int) (hy : a.eval y = .int .i64 yl) (hyl : yl = l) (hz : a.eval z = .int .i64 zh) (hzh : zh = ((l + m : Nat) : Int)) (hh : l + m ≤ s.c) :
  YieldsIf P ops S o (.slice d.a d.n d.c) a := by
 subst hyl hzh hdd
 refine .inl ⟨hw, fun w _ => ?_⟩
 have he : P.elem t = e := by simp [Program.elem, hu]
 have hu' : P.underlying t = some (.slice (P.elem t)) := by rw [he]; exact hu
 have hs : (sizeOf (P.elem t)).run P w = .ok 1 w := by
  rw [he]
  cases hq : P.info? e with
  | none => simp [hq] at hsz
  | some i => simp [hq] at hsz; simp [sizeOf, typeInfo, hq, hsz]
 have hrun : (Instr.sliceAt t (.slice s.a s.n s.c) (some (.int .i64 (l : Int))) (some (.int .i64 ((l + m : Nat) : Int))) none).run P w = .ok (.slice (if s.c = l then s.a else s.a.map (·.add l)) m (s.c - l)) w := by
  rw [run_sliceAt_slice w t _ _ _ _ hu', run_slice_lh w t s.a s.n s.c hu' .i64 .i64 l ((l + m : Nat) : Int) (by omega) (by omega) (by omega), hs]
  simp only [Result.andThen, sliced, Int.toNat_natCast, Nat.mul_one, Nat.add_sub_cancel_left]
 simp only [Sl.pre, Sl.cut]
 rw [← hx, ← hy, ← hz] at hrun
 simp [execOp, ho, hrun, Result.andThen]
theorem tJ {P : Program} {ops : Array Oper} {o : Oper} {a : Act} {w : World} {K : Act → World → Prop} {Q : Exit → Act → World → Prop} {E : Prop} (hgd : o.guard = none) (s x : Operand) (t : TypeId)
  (ho : o.op = .call { callee := .builtin .append, args := #[s, x], argTypes := #[t, t] })
  (base : Nat) (e : TypeId) (i : TypeInfo) (z : Value) (ht : P.underlying t = some (.slice e)) (hi : P.info? e = some i) (hz : i.zero = some z)
  (hsize : i.size = 1) (hby : i.bytes = 1) (hzs : z.cells.size = 1)
  (v : Value) (n : Nat) (xs : List Value) (hs : a.eval s = v) (hown : w.ownsRow base e 1 v n xs)
  (d : Sl) (hd : d.Ok w) (hx : a.eval x = .slice d.a d.n d.c)
  (h63 : n + d.n ≤ 140737488355328) (hbase : base ≤ w.heap.size)
  (h : ∀ v' w', w'.ownsRow base e 1 v' (n + d.n) (xs ++ U8 d.l) → w.grownBy w' v.ownBlock → K (a.put o.dst v') w') :
  if Region.wanted o (yielded ops a.tmps) = true then Oper.wp P o a w K Q else E := by
 cases hda : d.a with
 | none =>
  obtain ⟨h0, hc0⟩ := hd.nn hda
  have hl0 : d.l = [] := List.eq_nil_of_length_eq_zero (by rw [hd.len, h0])
  have hw : Region.wanted o (yielded ops a.tmps) = true := by simp [Region.wanted, hgd]
  rw [if_pos hw]
  have hrun := run_append_owned_none (P := P) (w := w) base t o.type e i 1 ht hi v n xs hown
  unfold Oper.wp
  rw [hda, h0, hc0] at hx
  simp [execOp, ho, resolve, invoke, builtin, hs, hx, hrun, Result.andThen]
  refine h v w ?_ (World.grownBy.refl w _)
  rw [h0, hl0]; simpa [U8] using hown
 | some ad =>
  exact tK hgd s x t ho base e i z 1 1 ht hi hz hsize hby hzs (by decide) v n xs hs hown ad d.n d.c (U8 d.l) (by rw [hx, hda]) (by rw [U8_length, hd.len, Nat.mul_one]) (hd.cells ad hda) (U8_one _) (by unfold maxLen; omega) (by omega) hbase (fun v' w' h1 h2 _ => h v' w' h1 h2)
theorem pJ (p : Nat) (b : Sl) (t : Nat) (c : Int) (w : World) (h : Inr w p b t 0) :
  Calls Tryz.prog 246 #[.pointer (some ⟨p, 0, none⟩), .int .i64 c] w fun e w' => e = .returned (.tuple #[]) ∧ But p w w' ∧ Inr w' p b t c := by
 have c2 : w.cell? ⟨p, 2, none⟩ = some (.int .i64 0) := by simpa using h.arr.cell 2
 have f2 := h.arr.frozen 2
 go_enter Tryz.func246, Tryz.ntmps246
 go_wp2
 go_end0
 exact ⟨rfl, (But.refl p w).setCell 2 _, h.setE c⟩
theorem Inr.cells {w : World} {p : Nat} {b : Sl} {t : Nat} {f : Int} (h : Inr w p b t f) : w.cell? ⟨p, 0, none⟩ = some (.slice b.a b.n b.c) ∧ w.cell? ⟨p, 1, none⟩ = some (.int .i64 t) ∧ w.cell? ⟨p, 2, none⟩ = some (.int .i64 f) ∧ w.frozen? ⟨p, 1, none⟩ = false :=
 ⟨by simpa [Sl.v] using h.arr.cell 0, by simpa using h.arr.cell 1, by simpa using h.arr.cell 2, h.arr.frozen 1⟩
theorem Inr.drewN {w : World} {p : Nat} {b : Sl} {t : Nat} {f : Int} (h : Inr w p b t f) (k : Nat) : Inr (w.drewN k) p b t f := h.later (cN (Below.refl _ _) k)
theorem But.undrewN {p k : Nat} {w w' : World} (h : But p (w.drewN k) w') : But p w w' := ⟨h.os, h.tape, h.output, h.size, h.block⟩
theorem fR.sticks {α : Type} {V : α → Value → World → World → Prop} {z : α} {zv : Value} {P : List Int → eC α} {p : Nat} {b : Sl} {t : Nat} {f : Int} {w w' : World} (h : Inr w p b t f) (hf : f ≠ 0) (hb : Below w.heap.size w w') (hz : V z zv w w') : fR V p b (face z P (b.l.drop t, f)) w (.returned zv) w' := by
 unfold face; rw [if_pos hf]
 exact ⟨But.of_below hb, zv, t, rfl, hz, h.later hb, rfl⟩
theorem fR.no {α : Type} {V : α → Value → World → World → Prop} {z : α} {zv : Value} {P : List Int → eC α} {p : Nat} {b : Sl} {t : Nat} {c : Int} {w w' : World} (hP : P (b.l.drop t) = .error c) (hB : But p w w') (h : Inr w' p b t c) (hz : V z zv w w') : fR V p b (face z P (b.l.drop t, 0)) w (.returned zv) w' := by
 unfold face; rw [if_neg (by simp)]; simp only; rw [hP]
 exact ⟨hB, zv, t, rfl, hz, h, rfl⟩
theorem fR.yes {α : Type} {V : α → Value → World → World → Prop} {z x : α} {v : Value} {P : List Int → eC α} {p : Nat} {b : Sl} {t t' : Nat} {r : List Int} {w w' : World} (hP : P (b.l.drop t) = .ok (x, r)) (hB : But p w w') (h : Inr w' p b t' 0) (hr : b.l.drop t' = r) (hV : V x v w w') : fR V p b (face z P (b.l.drop t, 0)) w (.returned v) w' := by
 unfold face; rw [if_neg (by simp)]; simp only; rw [hP]
 exact ⟨hB, v, t', rfl, hV, h, hr⟩
theorem oC (p : Nat) (b : Sl) (t : Nat) (f n : Int) (w : World) (h : Inr w p b t f) (hm : b.n ≤ 1099511627776) :
  Calls Tryz.prog 243 #[.pointer (some ⟨p, 0, none⟩), .int .i64 n] w (fR isL p b (face [] (bX n) (b.l.drop t, f)) w) := by
 obtain ⟨c0, c1, c2, f1⟩ := h.cells
 have hLl : (b.l.drop t).length = b.n - t := by rw [List.length_drop, h.ok.len]
 have hte := h.le
 by_cases hf : f = 0
 ·subst hf
  by_cases hn0 : n < 0
  ·have hP : bX n (b.l.drop t) = .error 90 := by unfold bX; rw [if_pos (.inl hn0)]
   have HP := aA hP
   have hF := fun k => pJ p b t 90 (w.drewN k) (h.drewN k)
   have hd1 : decide (n < 0) = true := by simp; omega
   exact sh106
  ·by_cases hn1 : (b.n : Int) - (t : Int) < n
   ·have hP : bX n (b.l.drop t) = .error 90 := by unfold bX; rw [if_pos (.inr (by rw [hLl]; omega))]
    have HP := aA hP
    have hF := fun k => pJ p b t 90 (w.drewN k) (h.drewN k)
    have hd1 : decide (n < 0) = false := by simp; omega
    have hd2 : decide ((b.n : Int) - (t : Int) < n) = true := by simp; omega
    exact sh106
   ·obtain ⟨m, rfl⟩ : ∃ m : Nat, n = m := ⟨n.toNat, by omega⟩
    have hP : bX m (b.l.drop t) = .ok ((b.l.drop t).take m, b.l.drop (t + m)) := by
     unfold bX; rw [if_neg (by rw [hLl]; omega), Int.toNat_natCast, List.drop_drop]
    have HP := aA hP
    have hd1 : decide ((m : Int) < 0) = false := by simp
    have hd2 : decide ((b.n : Int) - (t : Int) < (m : Int)) = false := by simp; omega
    have HH := aA h
    have hcle := h.ok.le
    clear hP hLl h
    go_enter Tryz.func243, Tryz.ntmps243
    go_wp2_with fail
    go_quiet (fail)
    go_wp2_with fail
    obtain ⟨i0, hi, hz0, hz1, hz2⟩ := info_parts Tryz.infoB
    obtain ⟨d, hd⟩ : ∃ d, d = (b.cut t).pre m := ⟨_, rfl⟩
    have hdok : d.Ok w := by rw [hd]; exact ((unhide HH).ok.cut hte).pre (by simp only [Sl.cut]; omega)
    have hdl : d.l = (b.l.drop t).take m := by rw [hd]; rfl
    have hdn : d.n = m := by rw [hd]; rfl
    have hdb : d.n ≤ 1099511627776 := by omega
    have hdok := hdok.later (cN (Below.refl _ w) (nq + 1))
    have HD := aA hd
    clear hdn
    have hwp : IntKind.i64.wrap ((t : Int) + (m : Int)) = (t : Int) + (m : Int) := by rw [IntKind.wrap_i64]; omega
    clear hd
    have htm2 : t + m ≤ b.n := by omega
    refine wp_region_noPanic ?_
    refine wp_region_held_drew (S := fun w' => w'.cell? ⟨p, 0, none⟩ = some (.slice b.a b.n b.c) ∧ w'.cell? ⟨p, 1, none⟩ = some (.int .i64 t)) (by kernel_rfl) ⟨c0, c1⟩ (fun hHeld => ?_)
    refine tkY 0 (.slice none 0 0) rfl (Or.inl ⟨by rfl, fun w hSw => by obtain ⟨s0, s1⟩ := hSw; go_simp⟩) hHeld ?_
    refine tkY 1 (.pointer (some ⟨p, 0, none⟩)) rfl (Or.inl ⟨by rfl, fun w hSw => by obtain ⟨s0, s1⟩ := hSw; go_simp⟩) hHeld ?_
    refine tkY 2 (.pointer (some ⟨p, 0, none⟩)) rfl (Or.inl ⟨by rfl, fun w hSw => by obtain ⟨s0, s1⟩ := hSw; go_simp⟩) hHeld ?_
    refine tkY 3 (.pointer (some ⟨p, 0, none⟩)) rfl (Or.inl ⟨by rfl, fun w hSw => by obtain ⟨s0, s1⟩ := hSw; go_simp⟩) hHeld ?_
    refine tkY 4 (.slice b.a b.n b.c) rfl (Or.inl ⟨by rfl, fun w hSw => by obtain ⟨s0, s1⟩ := hSw; go_simp⟩) hHeld ?_
    refine tkY 5 (.pointer (some ⟨p, 0, none⟩)) rfl (Or.inl ⟨by rfl, fun w hSw => by obtain ⟨s0, s1⟩ := hSw; go_simp⟩) hHeld ?_
    refine tkY 6 (.pointer (some ⟨p, 0, none⟩)) rfl (Or.inl ⟨by rfl, fun w hSw => by obtain ⟨s0, s1⟩ := hSw; go_simp⟩) hHeld ?_
    refine tkY 7 (.pointer (some ⟨p, 1, none⟩)) rfl (Or.inl ⟨by rfl, fun w hSw => by obtain ⟨s0, s1⟩ := hSw; go_simp⟩) hHeld ?_
    refine tkY 8 (.int .i64 t) rfl (Or.inl ⟨by rfl, fun w hSw => by obtain ⟨s0, s1⟩ := hSw; go_simp⟩) hHeld ?_
    refine tkY 9 (.pointer (some ⟨p, 0, none⟩)) rfl (Or.inl ⟨by rfl, fun w hSw => by obtain ⟨s0, s1⟩ := hSw; go_simp⟩) hHeld ?_
    refine tkY 10 (.pointer (some ⟨p, 0, none⟩)) rfl (Or.inl ⟨by rfl, fun w hSw => by obtain ⟨s0, s1⟩ := hSw; go_simp⟩) hHeld ?_
    refine tkY 11 (.pointer (some ⟨p, 1, none⟩)) rfl (Or.inl ⟨by rfl, fun w hSw => by obtain ⟨s0, s1⟩ := hSw; go_simp⟩) hHeld ?_
    refine tkY 12 (.int .i64 t) rfl (Or.inl ⟨by rfl, fun w hSw => by obtain ⟨s0, s1⟩ := hSw; go_simp⟩) hHeld ?_
    refine tkY 13 (.int .i64 m) rfl (Or.inl ⟨by rfl, fun w hSw => by obtain ⟨s0, s1⟩ := hSw; go_simp⟩) hHeld ?_
    refine tkY 14 (.int .i64 ((t : Int) + (m : Int))) rfl (Or.inl ⟨by rfl, fun w hSw => by obtain ⟨s0, s1⟩ := hSw; go_simp⟩) hHeld ?_
    refine tkY 15 (.slice d.a d.n d.c) rfl (yieldsIf_cut (by rfl) 33 (.tmp 33) (.tmp 37) (.tmp 43) rfl 5 Tryz.underlying33 Tryz.szB b d t m (unhide HD) rfl _ _ rfl rfl rfl (by omega) (by omega)) hHeld ?_
    refine rdY 16 rfl fun K hK => ?_
    refine tJ rfl (.tmp 29) (.tmp 44) 33 rfl w.heap.size 5 i0 (.int .u8 0) Tryz.underlying33 hi hz0 hz1 hz2 rfl (.slice none 0 0) 0 [] rfl ⟨rfl, .inl ⟨rfl, rfl⟩⟩ d hdok rfl (by omega) (Nat.le_refl _) ?_
    intro v' w1 hown hgrow
    have hb1 : Below w.heap.size w w1 := (cN (Below.refl _ w) (nq + 1)).grown hgrow (Nat.le_refl _) (fun _ e => by cases e)
    have hI1 := (unhide HH).later hb1
    obtain ⟨d0, d1, d2, g1⟩ := hI1.cells
    rw [Nat.zero_add, List.nil_append] at hown
    refine hK.out _ _ ⟨d0, d1⟩ (fun hHeld => ?_)
    clear hK K
    obtain ⟨la5, lc5, rfl⟩ := bK hown
    simp [Act.put]
    refine tkS 17 (.slice la5 d.n lc5) rfl hHeld ?_
    refine wpAnyH_done (by kernel_rfl) ?_ _
    unfold NoPanic
    have HOW := aA hown
    clear hown hgrow hHeld
    go_wp2_with fail
    go_ret
    have hset := hI1.setAt (t + m) htm2
    have hB2 : But p w1 (w1.setCell ⟨p, 1, none⟩ (.int .i64 ((t + m : Nat) : Int))) := (But.refl p w1).setCell 1 _
    have hown := unhide HOW
    rw [show ((t + m : Nat) : Int) = (t : Int) + (m : Int) from by omega] at hset hB2
    refine fR.yes (unhide HP) ((But.of_below hb1).trans hB2) hset rfl ⟨?_, ?_⟩
    ·have h1 := own_but hB2 hown hI1.arr (by decide)
     rw [← hdl, hdok.len]; exact h1
    ·rw [← hdl]; exact hdok.isB
 ·go_enter Tryz.func243, Tryz.ntmps243
  go_wp2
  go_ret
  exact fR.sticks h hf (Below.refl _ _) (isL_nil _ _)
theorem face_num {P : List Int → eC Int} (n : Int) (hP : ∀ l, P l = match bX n l with | .ok (x, r) => .ok (leV x.reverse, r) | .error c => .error c) (st : List Int × Int) : face 0 P st = (leV (face [] (bX n) st).1.reverse, (face [] (bX n) st).2) := by
 unfold face
 by_cases hf : st.2 = 0
 ·rw [if_neg (by simpa using hf), if_neg (by simpa using hf), hP]
  cases bX n st.1 with
  | error c => rfl
  | ok q => rfl
 ·rw [if_pos hf, if_pos hf]; rfl
theorem num4 (l : List Int) : dV l = match bX 4 l with | .ok (x, r) => .ok (leV x.reverse, r) | .error c => .error c := by
 unfold dV bX
 by_cases h : l.length < 4
 ·rw [if_pos h, if_pos (by omega)]
 ·rw [if_neg h, if_neg (by omega)]; rfl
theorem num8 (l : List Int) : eP l = match bX 8 l with | .ok (x, r) => .ok (leV x.reverse, r) | .error c => .error c := by
 unfold eP bX
 by_cases h : l.length < 8
 ·rw [if_pos h, if_pos (by omega)]
 ·rw [if_neg h, if_neg (by omega)]; rfl
theorem kH (n : Int) (st : List Int × Int) : ((face [] (bX n) st).1.length : Int) ≤ max n 0 := by
 unfold face
 split
 ·exact Int.le_max_right _ _
 ·unfold bX
  split
  ·rename_i x r h
   split at h
   ·simp at h
   ·simp only [Except.ok.injEq, Prod.mk.injEq] at h
    obtain ⟨rfl, rfl⟩ := h
    rw [List.length_take]; omega
  ·exact Int.le_max_right _ _
theorem pow8_le (k : Nat) (h : k ≤ 7) : (2 : Int) ^ (8 * (k + 1)) ≤ 18446744073709551616 := by
 rcases (by omega : k = 0 ∨ k = 1 ∨ k = 2 ∨ k = 3 ∨ k = 4 ∨ k = 5 ∨ k = 6 ∨ k = 7) with rfl | rfl | rfl | rfl | rfl | rfl | rfl | rfl <;> decide
theorem qR (p : Nat) (b : Sl) (t : Nat) (f n : Int) (w : World) (h : Inr w p b t f) (hm : b.n ≤ 1099511627776) (hn : n ≤ 8) :
  Calls Tryz.prog 242 #[.pointer (some ⟨p, 0, none⟩), .int .i64 n] w (fR (isI .u64) p b (leV (face [] (bX n) (b.l.drop t, f)).1.reverse, (face [] (bX n) (b.l.drop t, f)).2) w) := by
 have hF := oC p b t f n w h hm
 have hlen := kH n (b.l.drop t, f)
 generalize face [] (bX n) (b.l.drop t, f) = Q at *
 obtain ⟨L, st⟩ := Q
 have hlen : L.length ≤ 8 := by simp only at hlen; omega
 simp only
 clear h
 go_enter Tryz.func242, Tryz.ntmps242
 go_wp2_with fail
 refine hF.mono ?_
 rintro e w1 ⟨hB, v, t1, rfl, hV, hI, hr⟩
 clear hF
 obtain ⟨d, rfl, hd, hdl, hdn, -⟩ := iH hV.1 hV.2
 simp only at hdl hdn hI hr
 have hLB : IsB L := hV.2
 have hdv : d.v = .slice d.a d.n d.c := rfl
 rw [hdv]
 have hdb : d.n ≤ 8 := by omega
 have HDL := aA hdl
 have HDN := aA hdn
 have HD := aA hd
 clear hV hdv hdl hdn hd
 go_wp2_with fail
 go_loopw [6, 7] (fun x i wr => ∃ k : Nat, k ≤ d.n ∧ i = .int .i64 k ∧ x = .int .u64 (leV (L.take k).reverse) ∧ wr = w1) (fun _ i _ => d.n - (intOf i).toNat)
 case atStart => exact ⟨0, by omega, rfl, rfl, rfl⟩
 case round =>
  obtain ⟨k, hk, rfl, rfl, hwr0⟩ := hrel
  have HWR := aA hwr0
  clear hwr0
  by_cases hlt : k < d.n
  ·obtain ⟨ab, ao, haa, -, hac⟩ := (unhide HD).lies (by rw [unhide HDL]; have := unhide HDN; omega)
   have ca : wr.cell? ⟨ab, ao + k, none⟩ = some (.int .u8 (L.getD k 0)) := by rw [unhide HWR, ← unhide HDL]; exact hac k (by rw [unhide HDL]; have := unhide HDN; omega)
   have hbd := hLB.at k
   have e : (L.take (k + 1)).reverse = L.getD k 0 :: (L.take k).reverse := by
    rw [iX L k (by have := unhide HDN; omega), List.reverse_append]; rfl
   have hb0 := kA (L.take k).reverse (hLB.take k).reverse
   have hb1 := kA (L.take (k + 1)).reverse (hLB.take (k + 1)).reverse
   have hlk : (L.take (k + 1)).reverse.length = k + 1 := by rw [List.length_reverse, List.length_take]; have := unhide HDN; omega
   rw [hlk, e, leV] at hb1
   have hpow := pow8_le k (by omega)
   have HE : Hid (leV (L.take (k + 1)).reverse = L.getD k 0 + 256 * leV (L.take k).reverse) := by rw [e, leV]; exact aA rfl
   generalize leV (L.take k).reverse = X at *
   generalize L.getD k 0 = c at *
   have x0 := hb0.1
   have x1 : c + 256 * X < 18446744073709551616 := by have := hb1.2; omega
   have y0 := hbd.1
   have y1 := hbd.2
   rw [haa]
   clear haa hac e hb0 hb1 hpow hbd hlk
   go_wp2
   go_roundw
   case rel =>
    refine ⟨k + 1, by omega, by go_num, ?_, unhide HWR⟩
    rw [unhide HE]; go_num
   case measure => simp [intOf]; omega
  ·have hkd : decide ((k : Int) < (d.n : Int)) = false := by simp; omega
   have hkk : (L.take k) = L := List.take_of_length_le (by have := unhide HDN; omega)
   rw [hkk]
   go_wp2
   go_ret
   have hw := unhide HWR
   subst hw
   exact ⟨hB, _, t1, rfl, rfl, hI, hr⟩
theorem iU32_any (p : Nat) (b : Sl) (t : Nat) (f : Int) (w : World) (h : Inr w p b t f) (hm : b.n ≤ 1099511627776) :
  Calls Tryz.prog 138 #[.pointer (some ⟨p, 0, none⟩)] w (fR (isI .u32) p b (face 0 dV (b.l.drop t, f)) w) := by
 have hF := qR p b t f 4 w h hm (by omega)
 have hbd := face_bd (C := fun y : Int => 0 ≤ y ∧ y < 4294967296) (z := 0) (P := dV) (st := (b.l.drop t, f)) (by omega) (fun _ _ hh => pU32_bd (fun c hc => h.ok.isB c (List.mem_of_mem_drop hc)) hh)
 rw [← face_num 4 num4] at hF
 generalize face 0 dV (b.l.drop t, f) = Q at *
 obtain ⟨x, st⟩ := Q
 simp only at hbd
 have h0 := hbd.1
 have h1 := hbd.2
 go_enter Tryz.func138, Tryz.ntmps138
 exact sh176
theorem iU64_any (p : Nat) (b : Sl) (t : Nat) (f : Int) (w : World) (h : Inr w p b t f) (hm : b.n ≤ 1099511627776) :
  Calls Tryz.prog 148 #[.pointer (some ⟨p, 0, none⟩)] w (fR (isI .u64) p b (face 0 eP (b.l.drop t, f)) w) := by
 have hF := qR p b t f 8 w h hm (by omega)
 have hbd := face_bd (C := fun y : Int => 0 ≤ y ∧ y < 18446744073709551616) (z := 0) (P := eP) (st := (b.l.drop t, f)) (by omega) (fun _ _ hh => pU64_bd (fun c hc => h.ok.isB c (List.mem_of_mem_drop hc)) hh)
 rw [← face_num 8 num8] at hF
 generalize face 0 eP (b.l.drop t, f) = Q at *
 obtain ⟨x, st⟩ := Q
 simp only at hbd
 have h0 := hbd.1
 have h1 := hbd.2
 go_enter Tryz.func148, Tryz.ntmps148
 exact sh176
end Go.Proofs.YtejagcngbgnogaaGreat
