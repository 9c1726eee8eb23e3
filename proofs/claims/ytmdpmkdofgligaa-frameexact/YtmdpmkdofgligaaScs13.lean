import Derived.Test.YtmdpmkdofgligaaScM13
import Derived.Test.YtmdpmkdofgligaaRIn
import Derived.Maps.AppendAt
set_option linter.unusedSimpArgs false
set_option linter.unusedVariables false
namespace Go.Proofs.Ytmdpmkdofgligaa
open Go.RowKit Go.Shelf
attribute [local go_sem] Oper.semAt_some

/-- between two rounds -/
structure ScI (w : World) (gS : Nat) (lv wv : Value) (W0 : World) (X Z : Nat → Prop) (N b3 b5 b6 b7 b10 b13 b14 bx B nf : Nat) (o5 : List Value) (lV mV : Value) (xs : List Fx) (ys : List Ry) (d : Sl) (pre : List Fx) (W : World) : Prop where
  sh : ShM w gS lv wv W0 X Z (N + pre.length) W
  ev : ScE gS b3 b5 b6 b7 b10 B nf o5 lV mV xs ys W
  n : Arr W b13 3 [.int .i64 pre.length]
  at_ : Arr W b14 3 [.int .i64 (endF pre)]
  bx : Arr W bx 29 [d.v]
  ok : d.Ok W
theorem ScI.own {w : World} {gS : Nat} {lv wv : Value} {W0 : World} {X Z : Nat → Prop} {N b3 b5 b6 b7 b10 b13 b14 bx B nf : Nat} {o5 : List Value} {lV mV : Value} {xs : List Fx} {ys : List Ry} {d : Sl} {Bq : Nat} (hB : W0.heap.size ≤ Bq) (hw : w.heap.size ≤ Bq) : OwnFrom Bq (ScI w gS lv wv W0 X Z N b3 b5 b6 b7 b10 b13 b14 bx B nf o5 lV mV xs ys d) := by
  intro pre W W' row h hg hr
  have hk := KC.of_grown hg (fun r e => (hr r e).2)
  exact ⟨h.sh.own hB hw hg hr, h.ev.kt (KT.of_kc hk), hk.arr h.n, hk.arr h.at_, hk.arr h.bx, hk.ok h.ok⟩
theorem ScI.later {w : World} {gS : Nat} {lv wv : Value} {W0 : World} {X Z : Nat → Prop} {N b3 b5 b6 b7 b10 b13 b14 bx B nf : Nat} {o5 : List Value} {lV mV : Value} {xs : List Fx} {ys : List Ry} {d : Sl} {pre : List Fx} {W W' : World} (h : ScI w gS lv wv W0 X Z N b3 b5 b6 b7 b10 b13 b14 bx B nf o5 lV mV xs ys d pre W) (hb : Below W.heap.size W W') : ScI w gS lv wv W0 X Z N b3 b5 b6 b7 b10 b13 b14 bx B nf o5 lV mV xs ys d pre W' :=
  ⟨h.sh.later hb, h.ev.kt (KT.of_below hb), h.n.later hb, h.at_.later hb, h.bx.later hb, h.ok.later hb⟩
/-- the payload's blocks of a list of frames -/
def FxB (xs : List Fx) (g : Nat) : Prop := ∃ x ∈ xs, ∃ a, x.a = some a ∧ a.block = g
/-- in the midst of a round: what was handed on lies clear -/
structure ScA (w : World) (gS : Nat) (lv wv : Value) (W0 : World) (X Z : Nat → Prop) (M B B' : Nat) (x : Fx) (W : World) : Prop where
  sh : ShM w gS lv wv W0 (fun g => X g ∨ ∃ a, x.a = some a ∧ a.block = g) Z M W
  lies : x.Lies B W
  f : Arr W B' 39 [.int .u8 x.k, .slice x.a x.p.length x.p.length]
theorem ScA.own {w : World} {gS : Nat} {lv wv : Value} {W0 : World} {X Z : Nat → Prop} {M B B' : Nat} {x : Fx} {Bq : Nat} (hB : W0.heap.size ≤ Bq) (hw : w.heap.size ≤ Bq) {W W' : World} {row : Option Nat} (h : ScA w gS lv wv W0 X Z M B B' x W) (hg : W.grownBy W' row) (hr : ∀ r, row = some r → Bq ≤ r ∧ ∃ o : Obj, W.heap[r]? = some o ∧ o.isCells = false) : ScA w gS lv wv W0 X Z M B B' x W' := by
  have hk := KC.of_grown hg (fun r e => (hr r e).2)
  exact ⟨h.sh.own hB hw hg hr, (KT.of_kc hk).lies h.lies, hk.arr h.f⟩
section
variable {w : World} {gS : Nat} {lv wv : Value} {W0 : World} {X Z : Nat → Prop} {N b3 b5 b6 b7 b10 b13 b14 bx B nf : Nat} {o5 : List Value} {lV mV : Value} {xs : List Fx} {ys : List Ry} {d : Sl} {pre : List Fx} {x : Fx} {B' : Nat} {W : World}
/-- in a round, the place told on -/
structure ScM (w : World) (gS : Nat) (lv wv : Value) (W0 : World) (X Z : Nat → Prop) (M b3 b5 b6 b7 b10 b13 b14 bx B nf : Nat) (o5 : List Value) (lV mV : Value) (xs : List Fx) (ys : List Ry) (d : Sl) (j e : Nat) (W : World) : Prop where
  sh : ShM w gS lv wv W0 X Z M W
  ev : ScE gS b3 b5 b6 b7 b10 B nf o5 lV mV xs ys W
  n : Arr W b13 3 [.int .i64 j]
  at_ : Arr W b14 3 [.int .i64 e]
  bx : Arr W bx 29 [d.v]
  ok : d.Ok W
theorem below_keeps {W W' : World} (h : Below W.heap.size W W') : KeepsOthers W W' := ⟨h.size, fun k o hk _ => (h.block k (Array.getElem?_eq_some_iff.1 hk).1).trans hk⟩
theorem arr_but {W : World} {g : Nat} {ty : TypeId} {l : List Value} (h : Arr W g ty l) (i : Nat) (v : Value) : But g W (W.setCell ⟨g, i, none⟩ v) := ⟨rfl, rfl, rfl, by simp, fun k _ hk => Below.heap_setCell _ _ _ k (fun e => hk (by rw [e]))⟩
theorem ok_but {W W' : World} {g : Nat} {s : Sl} (hb : But g W W') (hs : s.Ok W) (ho : s.Off (some g)) : s.Ok W' := ⟨hs.len, hs.le, hs.mx, hs.nn, hs.isB, hb.lies hs.lies (fun hp x hx e => ho hp x hx (by rw [e]))⟩
/-- a number of the call's own is stored -/
theorem ScM.store {M j e j' e' : Nat} {W : World} (h : ScM w gS lv wv W0 X Z M b3 b5 b6 b7 b10 b13 b14 bx B nf o5 lV mV xs ys d j e W) (hX : X b13 ∧ X b14) (hZ : Z b13 ∧ Z b14) (hw : w.heap.size ≤ b13 ∧ w.heap.size ≤ b14) (hne : b13 ≠ b14) (hd : 0 < d.l.length → ∀ x, d.a = some x → x.block ≠ b13 ∧ x.block ≠ b14) {g : Nat} {v : Int}
    (hg : (g = b13 ∧ v = (j' : Int) ∧ e' = e) ∨ (g = b14 ∧ v = (e' : Int) ∧ j' = j)) : ScM w gS lv wv W0 X Z M b3 b5 b6 b7 b10 b13 b14 bx B nf o5 lV mV xs ys d j' e' (W.setCell ⟨g, 0, none⟩ (.int .i64 v)) := by
  have hbx : bx ≠ b13 ∧ bx ≠ b14 := ⟨fun q => arr_ne_arr h.bx h.n (by decide) q, fun q => arr_ne_arr h.bx h.at_ (by decide) q⟩
  rcases hg with ⟨rfl, rfl, rfl⟩ | ⟨rfl, rfl, rfl⟩
  · have hb := arr_but h.n 0 (.int .i64 j')
    exact ⟨h.sh.but hb hX.1 (fun _ => hZ.1) hw.1 h.n (by decide), h.ev.kt (KT.of_int h.n 0), h.n.set 0 _, hb.arr h.at_ (fun q => hne q.symm), hb.arr h.bx hbx.1, ok_but hb h.ok (fun hp x hx q => (hd hp x hx).1 (by simpa using q))⟩
  · have hb := arr_but h.at_ 0 (.int .i64 e')
    exact ⟨h.sh.but hb hX.2 (fun _ => hZ.2) hw.2 h.at_ (by decide), h.ev.kt (KT.of_int h.at_ 0), hb.arr h.n hne, h.at_.set 0 _, hb.arr h.bx hbx.2, ok_but hb h.ok (fun hp x hx q => (hd hp x hx).2 (by simpa using q))⟩
/-- a list is put on the shelf -/
theorem ScM.put {M j e : Nat} {W : World} (h : ScM w gS lv wv W0 X Z M b3 b5 b6 b7 b10 b13 b14 bx B nf o5 lV mV xs ys d j e W) (p : Sl) (hp : Ans w.heap.size p W) (hn : p.n ≤ 100000) (hpX : 0 < p.l.length → ∀ x, p.a = some x → X x.block) (hM : M ≤ 4000000000000)
    (hbx : bx < W0.heap.size ∧ some bx ≠ lv.ownBlock ∧ some bx ≠ wv.ownBlock ∧ bx ≠ gS) (hd : 0 < d.l.length → ∀ x, d.a = some x → x.block < W0.heap.size ∧ some x.block ≠ lv.ownBlock ∧ some x.block ≠ wv.ownBlock ∧ x.block ≠ gS) :
    Calls Try.prog 16 #[.pointer (some ⟨gS, 0, none⟩), p.v] W fun r W' => r = .returned (.tuple #[]) ∧ ScM w gS lv wv W0 (fun g => X g ∧ p.Off (some g)) Z (M + 1) b3 b5 b6 b7 b10 b13 b14 bx B nf o5 lV mV xs ys d j e W' ∧ KeepsOthers W W' ∧
      (∀ (b : Nat) (cs : Array Value) (t : TypeId) (fr : Nat × Nat), W.heap[b]? = some (.cells cs t fr) → t ≠ 29 → t ≠ 26 → W'.heap[b]? = some (.cells cs t fr)) := by
  refine (h.sh.put p hp hn hpX hM).mono ?_
  rintro r W' ⟨rfl, hsh, hcl, hko, hbk⟩
  have kt : KT W W' := ⟨hko.size, fun b cs t fr q t1 t2 _ => hcl b cs t fr q t1 t2⟩
  refine ⟨rfl, ⟨hsh, h.ev.kt kt, hcl _ _ _ _ h.n (by decide) (by decide), hcl _ _ _ _ h.at_ (by decide) (by decide), (hbk bx hbx.1 hbx.2.1 hbx.2.2.1 hbx.2.2.2).trans h.bx, ?_⟩, hko, hcl⟩
  refine ⟨h.ok.len, h.ok.le, h.ok.mx, h.ok.nn, h.ok.isB, fun hpos => ?_⟩
  obtain ⟨b, off, ha, hlt, hc⟩ := h.ok.lies hpos
  obtain ⟨q1, q2, q3, q4⟩ := hd hpos _ ha
  refine ⟨b, off, ha, Nat.lt_of_lt_of_le hlt hko.size, fun i hi => ?_⟩
  rw [World.cell?_of_block (w := W) (a := ⟨b, off + i, none⟩) (hbk b q1 q2 q3 q4)]
  exact hc i hi
theorem ScM.later {M j e : Nat} {W W' : World} (h : ScM w gS lv wv W0 X Z M b3 b5 b6 b7 b10 b13 b14 bx B nf o5 lV mV xs ys d j e W) (hb : Below W.heap.size W W') : ScM w gS lv wv W0 X Z M b3 b5 b6 b7 b10 b13 b14 bx B nf o5 lV mV xs ys d j e W' :=
  ⟨h.sh.later hb, h.ev.kt (KT.of_below hb), h.n.later hb, h.at_.later hb, h.bx.later hb, h.ok.later hb⟩
theorem ScM.weak {M j e : Nat} {W : World} {Y : Nat → Prop} (h : ScM w gS lv wv W0 X Z M b3 b5 b6 b7 b10 b13 b14 bx B nf o5 lV mV xs ys d j e W) (hY : ∀ g, Y g → X g) : ScM w gS lv wv W0 Y Z M b3 b5 b6 b7 b10 b13 b14 bx B nf o5 lV mV xs ys d j e W :=
  ⟨h.sh.weak hY, h.ev, h.n, h.at_, h.bx, h.ok⟩
theorem ScI.mid (h : ScI w gS lv wv W0 X Z N b3 b5 b6 b7 b10 b13 b14 bx B nf o5 lV mV xs ys d pre W) (hA : ScA w gS lv wv W0 X Z (N + pre.length) W0.heap.size B' x W) : ScM w gS lv wv W0 (fun g => X g ∨ ∃ a, x.a = some a ∧ a.block = g) Z (N + pre.length) b3 b5 b6 b7 b10 b13 b14 bx B nf o5 lV mV xs ys d pre.length (endF pre) W :=
  ⟨hA.sh, h.ev, h.n, h.at_, h.bx, h.ok⟩
theorem ScM.kp {d : Sl} {M M' j e j' e' : Nat} {X' X'' : Nat → Prop} {W W' : World} (h : ScM w gS lv wv W0 X' Z M b3 b5 b6 b7 b10 b13 b14 bx B nf o5 lV mV xs ys d j e W) (h' : ScM w gS lv wv W0 X'' Z M' b3 b5 b6 b7 b10 b13 b14 bx B nf o5 lV mV xs ys d j' e' W') (hz : W.heap.size ≤ W'.heap.size) : KpN d bx W W' :=
  ⟨hz, fun _ => h'.ok, fun cs fr q => by
    have h1 := h.bx
    unfold Arr at h1
    rw [q] at h1
    rw [h1]
    exact h'.bx⟩
end
theorem results_cellv {P : Program} {fn : Func} {p : Tmp} {ty : TypeId} (h : fn.results = #[.cell p ty]) (tmps : Array Value) (w : World) (g : Nat) (hp : tmps.getD p undef = .pointer (some ⟨g, 0, none⟩)) (v : Value) (hc : w.cell? ⟨g, 0, none⟩ = some v) {d : TypeDesc} (hu : P.underlying ty = some d) (hd : d.isRow = false) : (results fn tmps).run P w = .ok v w := by
  have hA : (isAgg ty).run P w = .ok false w := by
    unfold isAgg
    rw [Sem.run_bind, run_underlying hu w]
    cases d <;> simp_all [TypeDesc.isRow]
  have hp' : tmps[p]?.getD undef = .pointer (some ⟨g, 0, none⟩) := by simpa using hp
  simp only [results, h]
  simp [Sem.run_bind, Result.andThen, hp', asAddr, loadVar, hA, run_load, hc]
theorem ScM.toI {w : World} {gS : Nat} {lv wv : Value} {W0 : World} {X Z : Nat → Prop} {N M b3 b5 b6 b7 b10 b13 b14 bx B nf : Nat} {o5 : List Value} {lV mV : Value} {xs : List Fx} {ys : List Ry} {d : Sl} {pre : List Fx} {W : World} {j e : Nat} (h : ScM w gS lv wv W0 X Z M b3 b5 b6 b7 b10 b13 b14 bx B nf o5 lV mV xs ys d j e W) (hM : M = N + pre.length) (hj : j = pre.length) (he : e = endF pre) : ScI w gS lv wv W0 X Z N b3 b5 b6 b7 b10 b13 b14 bx B nf o5 lV mV xs ys d pre W := by
  subst hM hj he
  exact ⟨h.sh, h.ev, h.n, h.at_, h.bx, h.ok⟩
theorem only_go {K : Act → World → Prop} {a : Act} {w : World} (h : K a w) : Only K .normal a w := h
theorem flat_mem : ∀ {fs : List (Int × List Int)} {j : Nat} {f : Int × List Int}, fs[j]? = some f → f.2.length + 10 ≤ (flat fs).length
  | [], j, f, h => by simp at h
  | g :: fs, 0, f, h => by simp at h; subst h; simp [flat, encL_length]
  | g :: fs, j + 1, f, h => by
    have := flat_mem (fs := fs) (j := j) (f := f) (by simpa using h)
    simp only [flat, List.length_append]; omega
theorem range_later {w w' : World} {g off : Nat} {c : List Value} (h : w.rangeAt g off c) (hb : Below w.heap.size w w') : w'.rangeAt g off c := fun i v hv => by
  have h1 := h i v hv
  rw [World.cell?_of_block (w := w) (a := ⟨g, off + i, none⟩) (hb.block g (World.block_lt_of_cell? w ⟨g, off + i, none⟩ h1))]
  exact h1
set_option maxHeartbeats 4000000 in
set_option maxRecDepth 100000 in
theorem scans_any {w : World} {gS N : Nat} {P Q : Nat → Sl} {lv wv : Value} {wq : World} (hS : Shf w gS N P Q lv wv wq) (X : Nat → Prop) (hX : ∀ g, X g → g < wq.heap.size ∧ Clr N P Q g) (d b : Sl) (hd : d.Ok wq) (hb : b.Ok wq) (hdb : b.l = d.l)
    (hdS : 0 < d.l.length → ∀ x, d.a = some x → some x.block ≠ lv.ownBlock ∧ some x.block ≠ wv.ownBlock ∧ x.block ≠ gS) (hdn : d.n ≤ 65536) (hN : N ≤ 3000000000000) (z k le : Int) (p : Sl) (hle : -9223372036854775808 ≤ le ∧ le ≤ 9223372036854775807) :
    Calls Try.prog 9 #[.pointer (some ⟨gS, 0, none⟩), d.v, .agg #[b.v, .int .i64 z, .int .u8 k, p.v, .int .i64 le]] wq fun e W' => e = .returned (.bool true) ∧ ∃ M, ShM w gS lv wv wq X (fun _ => False) M W' ∧ N ≤ M ∧ M ≤ N + 200000 := by
  obtain ⟨fs, r, hfr, hfs, hr⟩ := bytes_split d.l.length d.l (Nat.le_refl _) hd.isB
  obtain ⟨a, n, c, L⟩ := d
  obtain ⟨ba, bn, bc, bl⟩ := b
  obtain ⟨pa, pn, pc, pl⟩ := p
  simp only at hfr hdb hdn hdS
  obtain rfl := hdb.symm
  have hLn : L.length = n := hd.len
  have hbn : bn = n := by have h := hb.len; simp only at h; omega
  obtain rfl := hbn.symm
  simp only [Sl.v]
  obtain ⟨nf, hnf⟩ : ∃ nf, nf = fs.length := ⟨_, rfl⟩
  obtain ⟨E, hE⟩ : ∃ E, E = (flat fs).length := ⟨_, rfl⟩
  obtain ⟨t, ht⟩ : ∃ t, t = (mz r).2 := ⟨_, rfl⟩
  have HFS := hide (And.intro hnf (And.intro hE ht))
  obtain ⟨W1, hW1⟩ : ∃ W1, W1 = ((wq.alloc (.cells #[.pointer (some ⟨gS, 0, none⟩)] 23)).alloc (.cells #[.slice ba n bc, .int .i64 z, .int .u8 k, .slice pa pn pc, .int .i64 le] 31)).alloc (.cells #[.bool false] 4) := ⟨_, rfl⟩
  have B1 : Below wq.heap.size wq W1 := by rw [hW1]; exact (((Below.refl _ wq).alloc (Nat.le_refl _) _).alloc (by simp) _).alloc (by simp; omega) _
  have A51 : Hid (Arr W1 (wq.heap.size + 1) 31 [.slice ba n bc, .int .i64 z, .int .u8 k, .slice pa pn pc, .int .i64 le]) := hide (by
    rw [hW1]
    have h := (Arr.new (wq.alloc (.cells #[.pointer (some ⟨gS, 0, none⟩)] 23)) 31 [.slice ba n bc, .int .i64 z, .int .u8 k, .slice pa pn pc, .int .i64 le]).alloc (.cells #[.bool false] 4)
    rw [World.size_alloc] at h
    exact h)
  have hC1 := scan_anyN ⟨a, n, c, L⟩ fs r W1 (hd.later B1) hfr hfs hr (by simp only; omega)
  simp only [Sl.v] at hC1
  rw [← hE, ← ht] at hC1
  clear hE ht hnf
  have HD := hide hd
  have HFR := hide (And.intro hfr (And.intro hfs hr))
  have HBB := hide hb
  have HDS := hide hdS
  have HSH := hide hS
  have HXX := hide hX
  have HLN := hide hLn
  have HB1' := hide B1
  clear hd hfr hfs hr hb hdS hS hX hLn B1
  refine (callsIn_wide (n := 6)).1 ?_
  refine callsIn_of_wp_marks Try.func9 rfl trivial ?_ rfl
  simp only [Try.ntmps9, List.size_toArray, List.length_cons, List.length_nil, Nat.reduceAdd, Nat.reduceSub, Array.replicate_succ, Array.replicate_zero, List.push_toArray, List.append_toArray, List.nil_append, List.cons_append]
  gi_wp2_with (first
    | (refine ⟨trivial, ?_⟩
       gi_at_call 19
       rw [← hW1]
       refine (callsIn_wide.2 hC1).mono ?_
       rintro e w1 ⟨V, xs, rfl, ho1, hx1, hl1, hpw1, b1⟩
       obtain ⟨va, vc, rfl⟩ := own_form ho1
       have hxn : xs.length = nf := by have h := congrArg List.length hx1; rw [List.length_map, pls_length] at h; rw [h, (unhide HFS).1]
       rw [hxn] at ho1 ⊢
       have b1' := bel_then (unhide HB1') (unhide HB1').size b1
       have A5 : Hid (Arr w1 (wq.heap.size + 1) 31 [.slice ba n bc, .int .i64 z, .int .u8 k, .slice pa pn pc, .int .i64 le]) := hide ((unhide A51).later b1)
       have k5 : (w1.alloc (.cells #[.slice va nf vc] 48)).cell? ⟨wq.heap.size + 1, 0, none⟩ = some (.slice ba n bc) := by rw [((unhide A5).alloc _).cell]; rfl
       have HO1 := hide ho1
       have HX1 := hide (And.intro hx1 (And.intro hl1 (And.intro hpw1 hxn)))
       have HB1 := hide (And.intro b1 b1')
       clear hC1 ho1 hx1 hl1 hpw1 hxn b1 b1')
    | (refine ⟨trivial, ?_⟩
       gi_at_call 20
       refine (callsIn_wide.2 (rscan_any ⟨ba, n, bc, L⟩ fs r _ (((unhide HBB).later (unhide HB1).2).later (below_alloc _ _)) (unhide HFR).1 (unhide HFR).2.1 (unhide HFR).2.2 (by simp only; omega))).mono ?_
       rw [← (unhide HFS).2.1, ← (unhide HFS).2.2]
       rintro e w2 ⟨U, ys, rfl, ho2, hy2, hl2, b2⟩
       obtain ⟨ya, yc, rfl⟩ := own_form ho2
       have hyn : ys.length = nf := by have h := congrArg List.length hy2; rw [List.length_map] at h; rw [h, (unhide HFS).1]
       rw [hyn] at ho2 ⊢
       have hE0 : ((E : Int) != (E : Int)) = false := by simp
       have ht0 : ((t : Int) != (t : Int)) = false := by simp
       have hn0 : ((nf : Int) != (nf : Int)) = false := by simp
       clear k5
       have k7 : (w2.alloc (.cells #[.slice ya nf yc] 48)).cell? ⟨w1.heap.size, 0, none⟩ = some (.slice va nf vc) := by
         rw [(((Arr.new w1 48 [.slice va nf vc]).later b2).alloc _).cell]; rfl
       have HO2 := hide ho2
       have HY2 := hide (And.intro hy2 (And.intro hl2 hyn))
       have HB2 := hide b2
       clear ho2 hy2 hl2 hyn b2)
    | (refine ⟨trivial, ?_⟩
       gi_at_call 21
       refine (callsIn_wide.2 (all_any a n c _)).mono ?_
       rintro e w3 ⟨rfl, rfl⟩)
    | fail)
  have b2 := unhide HB2
  have B02 : Below w1.heap.size w1 w2 := bel_then (below_alloc w1 _) (below_alloc w1 _).size b2
  obtain ⟨W0, hW0⟩ : ∃ W0, W0 = ((((w2.alloc (.cells #[.slice ya nf yc] 48)).alloc (.cells #[.int .i64 0] 3)).alloc (.cells #[.int .i64 0] 3)).alloc (.cells #[.slice a n c] 29)) := ⟨_, rfl⟩
  have B20 : Below w2.heap.size w2 W0 := by rw [hW0]; exact ((((Below.refl _ w2).alloc (Nat.le_refl _) _).alloc (by simp) _).alloc (by simp; omega) _).alloc (by simp; omega) _
  have hs0 : W0.heap.size = w2.heap.size + 4 := by rw [hW0]; simp
  have A10 : Arr W0 w2.heap.size 48 [.slice ya nf yc] := by rw [hW0]; exact (((Arr.new w2 _ [.slice ya nf yc]).alloc _).alloc _).alloc _
  have A13 : Arr W0 (w2.heap.size + 1) 3 [.int .i64 0] := by
    have h := ((Arr.new (w2.alloc (.cells #[.slice ya nf yc] 48)) 3 [.int .i64 0]).alloc (.cells #[.int .i64 0] 3)).alloc (.cells #[.slice a n c] 29)
    rw [World.size_alloc] at h
    rw [hW0]; exact h
  have A14 : Arr W0 (w2.heap.size + 1 + 1) 3 [.int .i64 0] := by
    have h := (Arr.new ((w2.alloc (.cells #[.slice ya nf yc] 48)).alloc (.cells #[.int .i64 0] 3)) 3 [.int .i64 0]).alloc (.cells #[.slice a n c] 29)
    rw [World.size_alloc, World.size_alloc] at h
    rw [hW0]; exact h
  have AX : Arr W0 (w2.heap.size + 1 + 1 + 1) 29 [.slice a n c] := by
    have h := Arr.new (((w2.alloc (.cells #[.slice ya nf yc] 48)).alloc (.cells #[.int .i64 0] 3)).alloc (.cells #[.int .i64 0] 3)) 29 [.slice a n c]
    rw [World.size_alloc, World.size_alloc, World.size_alloc] at h
    rw [hW0]; exact h
  rw [← hW0]
  have hs1 := (unhide HB1).2.size
  have hs1' := (unhide HB1).1.size
  have hs12 := B02.size
  have hsW1 : W1.heap.size = wq.heap.size + 3 := by rw [hW1]; simp
  have B1r := (unhide HB1).2
  have B10' : Below w1.heap.size w1 W0 := bel_then B02 B02.size B20
  have Br0 : Below wq.heap.size wq W0 := bel_then B1r B1r.size B10'
  have A3 : Arr W0 wq.heap.size 23 [.pointer (some ⟨gS, 0, none⟩)] := by
    have h : Arr W1 wq.heap.size 23 [.pointer (some ⟨gS, 0, none⟩)] := by rw [hW1]; exact ((Arr.new wq _ _).alloc _).alloc _
    exact (h.later (unhide HB1).1).later B10'
  have A6 : Arr W0 (wq.heap.size + 1 + 1) 4 [.bool false] := by
    have h : Arr W1 (wq.heap.size + 1 + 1) 4 [.bool false] := by
      have h := Arr.new ((wq.alloc (.cells #[.pointer (some ⟨gS, 0, none⟩)] 23)).alloc (.cells #[.slice ba n bc, .int .i64 z, .int .u8 k, .slice pa pn pc, .int .i64 le] 31)) 4 [.bool false]
      rw [World.size_alloc, World.size_alloc] at h
      rw [hW1]; exact h
    exact (h.later (unhide HB1).1).later B10'
  have A7 : Arr W0 w1.heap.size 48 [.slice va nf vc] := ((Arr.new w1 _ [.slice va nf vc]).later b2).later B20
  have hE0 : ScE gS wq.heap.size (wq.heap.size + 1) (wq.heap.size + 1 + 1) w1.heap.size w2.heap.size W1.heap.size nf [.slice ba n bc, .int .i64 z, .int .u8 k, .slice pa pn pc, .int .i64 le] (.slice va nf vc) (.slice ya nf yc) xs ys W0 :=
    ⟨A3, (unhide A5).later B10', A6, A7, A10, own_laterG (unhide HO1) B10', own_low (own_laterG (unhide HO2) B20) (by simp; omega), fun x hx => (KT.of_below B10').lies ((unhide HX1).2.1 x hx), fun y hy => by
      have h := (unhide HY2).2.1 y hy
      exact (KT.of_below B20).rw ⟨own_low h.1 (by simp; omega), h.2⟩⟩
  have hsh0 : ShM w gS lv wv W0 (fun g => X g ∨ FxB xs g ∨ g = w2.heap.size + 1 ∨ g = w2.heap.size + 1 + 1 ∨ g = wq.heap.size + 1 + 1) (fun g => g = w2.heap.size + 1 ∨ g = w2.heap.size + 1 + 1 ∨ g = wq.heap.size + 1 + 1) N W0 := by
    have hS0 := (unhide HSH).later Br0
    refine ShM.start _ hS0 (fun g hg => ?_)
    rcases hg with h | ⟨x, hx, ad, ha, rfl⟩ | rfl | rfl | rfl
    · exact ⟨Nat.lt_of_lt_of_le (unhide HXX g h).1 Br0.size, (unhide HXX g h).2⟩
    · have h1 := lies_blk (hE0.lx x hx) ad ha
      exact ⟨h1.2, (unhide HSH).clrNew _ (by omega)⟩
    · exact ⟨by omega, (unhide HSH).clrNew _ (by omega)⟩
    · exact ⟨by omega, (unhide HSH).clrNew _ (by omega)⟩
    · exact ⟨by omega, (unhide HSH).clrNew _ (by omega)⟩
  have hwr : w.heap.size ≤ wq.heap.size := (unhide HSH).bel.size
  have hI0 : (ScI w gS lv wv W0 (fun g => X g ∨ FxB xs g ∨ g = w2.heap.size + 1 ∨ g = w2.heap.size + 1 + 1 ∨ g = wq.heap.size + 1 + 1) (fun g => g = w2.heap.size + 1 ∨ g = w2.heap.size + 1 + 1 ∨ g = wq.heap.size + 1 + 1) N wq.heap.size (wq.heap.size + 1) (wq.heap.size + 1 + 1) w1.heap.size w2.heap.size (w2.heap.size + 1) (w2.heap.size + 1 + 1) (w2.heap.size + 1 + 1 + 1) W1.heap.size nf [.slice ba n bc, .int .i64 z, .int .u8 k, .slice pa pn pc, .int .i64 le] (.slice va nf vc) (.slice ya nf yc) xs ys ⟨a, n, c, L⟩) [] W0 := ⟨hsh0, hE0, A13, A14, AX, (unhide HD).later Br0⟩
  have hlvn : ∀ g, wq.heap.size ≤ g → some g ≠ lv.ownBlock ∧ some g ≠ wv.ownBlock ∧ g ≠ gS := fun g hg => ⟨fun e => by have := ((unhide HSH).lrow.lt g e.symm).2; omega, fun e => by have := ((unhide HSH).wrow.lt g e.symm).2; omega, fun e => by have := (unhide HSH).s.lt; omega⟩
  have HI0 := hide hI0
  have HLV := hide hlvn
  have HBR := hide Br0
  have hsr0 : wq.heap.size + 3 ≤ W0.heap.size := by omega
  have hnfb : nf ≤ 65536 := by
    have h1 := flat_len fs
    have h2 := congrArg List.length (unhide HFR).1
    rw [List.length_append, unhide HLN] at h2
    rw [(unhide HFS).1]
    omega
  clear hI0 hsh0 hE0 A13 A14 AX A10 A3 A6 A7 hlvn b2 B02 B20 B1r B10' Br0 hW0 A5 A51 hs1 hs1' k7
  refine range_N2 rfl (by omega) (gf := 29) (lb := #[.pointer (some ⟨(w2.heap.size + 1 + 1 + 1), 0, none⟩)]) rfl trivial (enters_of Try.func29 (by kernel_rfl) rfl)
    (all1_seqN (6 - 1) (w2.heap.size + 1 + 1 + 1) (by omega) ⟨a, n, c, L⟩ fs r (unhide HFR).1 (unhide HFR).2.1 (unhide HFR).2.2 (by simp only; omega) W0 (unhide HI0).ok (unhide HI0).bx) (fun h k => KpN.trans h k)
    (fun W l o o' hl ho hc hw => kpN_put (by omega) ho hc) (Below.refl _ _) (fun _ => rfl)
    (ScI w gS lv wv W0 (fun g => X g ∨ FxB xs g ∨ g = w2.heap.size + 1 ∨ g = w2.heap.size + 1 + 1 ∨ g = wq.heap.size + 1 + 1) (fun g => g = w2.heap.size + 1 ∨ g = w2.heap.size + 1 + 1 ∨ g = wq.heap.size + 1 + 1) N wq.heap.size (wq.heap.size + 1) (wq.heap.size + 1 + 1) w1.heap.size w2.heap.size (w2.heap.size + 1) (w2.heap.size + 1 + 1) (w2.heap.size + 1 + 1 + 1) W1.heap.size nf [.slice ba n bc, .int .i64 z, .int .u8 k, .slice pa pn pc, .int .i64 le] (.slice va nf vc) (.slice ya nf yc) xs ys ⟨a, n, c, L⟩) (fun cc pre W => cc = .exit 0 ∧ (pre.length : Int) = le ∧ (ScI w gS lv wv W0 (fun g => X g ∨ FxB xs g ∨ g = w2.heap.size + 1 ∨ g = w2.heap.size + 1 + 1 ∨ g = wq.heap.size + 1 + 1) (fun g => g = w2.heap.size + 1 ∨ g = w2.heap.size + 1 + 1 ∨ g = wq.heap.size + 1 + 1) N wq.heap.size (wq.heap.size + 1) (wq.heap.size + 1 + 1) w1.heap.size w2.heap.size (w2.heap.size + 1) (w2.heap.size + 1 + 1) (w2.heap.size + 1 + 1 + 1) W1.heap.size nf [.slice ba n bc, .int .i64 z, .int .u8 k, .slice pa pn pc, .int .i64 le] (.slice va nf vc) (.slice ya nf yc) xs ys ⟨a, n, c, L⟩) pre W) (ScI.own (Nat.le_refl _) (by omega)) (fun cc pre W W' row h hg hr => ⟨h.1, h.2.1, ScI.own (Nat.le_refl _) (by omega) pre W W' row h.2.2 hg hr⟩) (unhide HI0)
    (fun pre x a' W => ∃ B', ScA w gS lv wv W0 (fun g => X g ∨ FxB xs g ∨ g = w2.heap.size + 1 ∨ g = w2.heap.size + 1 + 1 ∨ g = wq.heap.size + 1 + 1) (fun g => g = w2.heap.size + 1 ∨ g = w2.heap.size + 1 + 1 ∨ g = wq.heap.size + 1 + 1) (N + pre.length) W0.heap.size B' x W ∧ a' = { tmps := #[.pointer (some ⟨gS, 0, none⟩), .slice a n c, .agg #[.slice ba n bc, .int .i64 z, .int .u8 k, .slice pa pn pc, .int .i64 le], .pointer (some ⟨wq.heap.size, 0, none⟩), undef, .pointer (some ⟨(wq.heap.size + 1), 0, none⟩), .pointer (some ⟨(wq.heap.size + 1 + 1), 0, none⟩), .pointer (some ⟨w1.heap.size, 0, none⟩), .int .i64 (E : Int), .int .i64 t, .pointer (some ⟨w2.heap.size, 0, none⟩), .int .i64 (E : Int), .int .i64 t, .pointer (some ⟨(w2.heap.size + 1), 0, none⟩), .pointer (some ⟨(w2.heap.size + 1 + 1), 0, none⟩), .int .i64 (x.at_ : Int), .pointer (some ⟨B', 0, none⟩), undef, undef, .tuple #[.slice va nf vc, .int .i64 (E : Int), .int .i64 t], .slice a n c, .tuple #[.slice va nf vc, .int .i64 (E : Int), .int .i64 t], .slice va nf vc, .int .i64 (E : Int), .int .i64 t, .tuple #[.slice ya nf yc, .int .i64 (E : Int), .int .i64 t], .pointer (some ⟨(wq.heap.size + 1), 0, none⟩), .slice ba n bc, .tuple #[.slice ya nf yc, .int .i64 (E : Int), .int .i64 t], .slice ya nf yc, .int .i64 (E : Int), .int .i64 t, .slice va nf vc, .int .i64 (nf : Int), .slice ya nf yc, .int .i64 (nf : Int), .bool false, .bool false, .int .i64 (E : Int), .int .i64 (E : Int), .bool false, .bool false, .bool false, .int .i64 t, .int .i64 t, .bool false, .bool false, .slice a n c, .func (.func 29) #[] #[.pointer (some ⟨(w2.heap.size + 1 + 1 + 1), 0, none⟩)], .int .i64 (x.at_ : Int), .agg #[.int .u8 x.k, .slice x.a x.p.length x.p.length], undef, undef, undef, undef, undef, undef, undef, undef, undef, undef, undef, undef, undef, undef, undef, undef, undef, undef, undef, undef, undef, undef, undef, undef, undef, undef, undef, undef, undef, undef, undef, undef, undef, undef, undef, undef, undef, undef, undef, undef, undef, undef, undef, undef, undef, undef, undef, undef, undef, undef, undef, undef, undef, undef, undef, undef, undef, undef, undef, undef, undef, undef, undef, undef, undef, undef, undef, undef, undef, undef, undef, undef, undef, undef, undef, undef, undef, undef, undef, undef, undef, undef, undef, undef, undef], defers := [] })
    ?hAx ?assign ?body (fun pre W => (ScI w gS lv wv W0 (fun g => X g ∨ FxB xs g ∨ g = w2.heap.size + 1 ∨ g = w2.heap.size + 1 + 1 ∨ g = wq.heap.size + 1 + 1) (fun g => g = w2.heap.size + 1 ∨ g = w2.heap.size + 1 + 1 ∨ g = wq.heap.size + 1 + 1) N wq.heap.size (wq.heap.size + 1) (wq.heap.size + 1 + 1) w1.heap.size w2.heap.size (w2.heap.size + 1) (w2.heap.size + 1 + 1) (w2.heap.size + 1 + 1 + 1) W1.heap.size nf [.slice ba n bc, .int .i64 z, .int .u8 k, .slice pa pn pc, .int .i64 le] (.slice va nf vc) (.slice ya nf yc) xs ys ⟨a, n, c, L⟩) pre W ∧ ((pre.length = nf) ∨ (pre.length : Int) = le) ∧ pre.length ≤ nf) ?hS ?hSp ?hQ ?hend
  case hAx =>
    rintro pre x a' _ W W' row ⟨B', hA, e⟩ hg hr
    exact ⟨B', hA.own (Nat.le_refl _) (by omega) hg hr, e⟩
  case hS =>
    intro xs' W hS hI
    have h := congrArg List.length hS
    rw [List.length_map, pls_length, ← (unhide HFS).1] at h
    exact ⟨hI, .inl h, by omega⟩
  case hSp =>
    rintro c pre W ⟨q, hq⟩ ⟨-, h1, h2⟩
    have h := congrArg List.length hq
    rw [List.length_append, List.length_map, pls_length, ← (unhide HFS).1] at h
    exact ⟨h2, .inr h1, by omega⟩
  case hQ =>
    rintro c pre a' W ⟨rfl, -⟩ hq
    exact wpIn_exit hq
  case assign =>
    intro l pre x V0 W K hi0 hi hx hK
    obtain ⟨at_, k9, xa, px⟩ := x
    dsimp only [Fx.enc]
    gi_wp2
    refine hK _ _ ((KeepsOthers.alloc _ _).from _) (KpN.of_below (below_alloc W _)) (hi.later (below_alloc W _)) ⟨W.heap.size, ⟨?_, ?_, ?_⟩, rfl⟩
    · refine hi0.sh.fresh (bel_then hx.2 hx.2.size (below_alloc W _)) (fun g hg => ?_)
      rcases hg with h | ⟨ad, ha, rfl⟩
      · exact .inl h
      · have h1 := lies_blk hx.1 ad ha
        exact .inr ⟨h1.1, by simp; omega⟩
    · exact (KT.of_below (below_alloc W _)).lies (lies_low hx.1 hi0.sh.size)
    · exact Arr.new W _ _
  case body =>
    rintro l pre x a' W hlB hI ⟨B', hA, rfl⟩ ⟨q, hq⟩
    have hq' : pre.map Fx.d ++ x.d :: q = pls 0 fs := by rw [← hq, List.map_append, List.append_assoc]; rfl
    obtain ⟨hat, hfj⟩ := pls_next fs 0 pre x q hq'
    have hat2 : x.at_ = endF pre := by
      rw [hat]
      by_cases e : pre = []
      · rw [if_pos e, e]; rfl
      · rw [if_neg e]
    have hM := hI.mid hA
    have hend := endF_snoc pre x
    have hlx := hA.lies
    have hfx := hA.f
    obtain ⟨at_, k9, xa, px⟩ := x
    simp only at hat2 hfj hend hlx hfx hM ⊢
    subst hat2
    obtain ⟨gl, cl, gm, cm, xl, ym, yc', hlV, hmV, -, rl, rm, okl, okm⟩ := hI.ev.at_ (unhide HX1).1 (unhide HY2).1 (unhide HFS).1 hfj
    simp only at rl rm okl okm
    simp only [Value.slice.injEq, true_and] at hlV hmV
    obtain ⟨rfl, rfl⟩ := hlV
    obtain ⟨rfl, rfl⟩ := hmV
    have hjn : pre.length < nf := by rw [(unhide HFS).1]; exact (List.getElem?_eq_some_iff.1 hfj).1
    obtain ⟨m9, hm9⟩ : ∃ m, m = px.length := ⟨_, rfl⟩
    have okx := (lies_ans hlx (Nat.le_refl _)).ok
    have hm9b : m9 ≤ 65536 := by
      have h1 := flat_mem hfj
      simp only at h1
      have h2 := congrArg List.length (unhide HFR).1
      rw [List.length_append, unhide HLN] at h2
      omega
    simp only at okx
    rw [← hm9] at rl rm okl okm okx hend hfx ⊢
    have hcs : ∀ w', Below W.heap.size W w' → w'.cell? ⟨w2.heap.size + 1, 0, none⟩ = some (.int .i64 (pre.length : Int)) ∧ w'.cell? ⟨w2.heap.size + 1 + 1, 0, none⟩ = some (.int .i64 (endF pre : Int)) ∧ w'.cell? ⟨w2.heap.size, 0, none⟩ = some (.slice (some ⟨gm, 0, none⟩) nf yc) ∧ w'.cell? ⟨w1.heap.size, 0, none⟩ = some (.slice (some ⟨gl, 0, none⟩) nf vc) ∧
        w'.cell? ⟨B', 0, none⟩ = some (.int .u8 k9) ∧ w'.cell? ⟨B', 1, none⟩ = some (.slice xa m9 m9) ∧ w'.cell? ⟨gm, pre.length * 2, none⟩ = some (.int .u8 k9) ∧ w'.cell? ⟨gm, pre.length * 2 + 1, none⟩ = some (.slice ym m9 yc') ∧ w'.cell? ⟨gl, pre.length * 2, none⟩ = some (.int .u8 k9) ∧ w'.cell? ⟨gl, pre.length * 2 + 1, none⟩ = some (.slice xl m9 m9) := fun w' hb => by
      have r1 := (range_later rm hb) 0 _ rfl
      have r2 := (range_later rm hb) 1 _ rfl
      have r3 := (range_later rl hb) 0 _ rfl
      have r4 := (range_later rl hb) 1 _ rfl
      exact ⟨by rw [(hI.n.later hb).cell]; rfl, by rw [(hI.at_.later hb).cell]; rfl, by rw [(hI.ev.c10.later hb).cell]; rfl, by rw [(hI.ev.c7.later hb).cell]; rfl, by rw [(hfx.later hb).cell]; rfl, by rw [(hfx.later hb).cell]; rfl, r1, r2, r3, r4⟩
    have hal1 : ∀ w', Below W.heap.size W w' → Calls Try.prog 12 #[.agg #[.int .u8 k9, .slice xa m9 m9], .agg #[.int .u8 k9, .slice ym m9 yc']] w' fun e w'' => e = .returned (.bool true) ∧ Below w'.heap.size w' w'' := fun w' hb => alike_t k9 xa ym m9 m9 yc' px w' (okx.later hb) (okm.later hb) (by omega)
    have hal2 : ∀ w', Below W.heap.size W w' → Calls Try.prog 12 #[.agg #[.int .u8 k9, .slice xl m9 m9], .agg #[.int .u8 k9, .slice ym m9 yc']] w' fun e w'' => e = .returned (.bool true) ∧ Below w'.heap.size w' w'' := fun w' hb => alike_t k9 xl ym m9 m9 yc' px w' (okl.later hb) (okm.later hb) (by omega)
    have HM := hide hM
    have HEND := hide hend
    have HLX := hide hlx
    have HFX := hide hfx
    have HM9 := hide hm9
    have HI := hide hI
    obtain ⟨e9, he9⟩ : ∃ e, e = endF pre := ⟨_, rfl⟩
    obtain ⟨j, hj⟩ : ∃ j, j = pre.length := ⟨_, rfl⟩
    rw [← hj] at hcs hjn
    rw [← he9] at hcs ⊢
    have HJE := hide (And.intro hj he9)
    clear hA hq hq' hat hfj hI hM hend hlx hfx rl rm okl okm okx hm9 hj he9
    have hjz : (j : Int) < (nf : Int) := by omega
    have hjd : decide ((nf : Int) ≤ (j : Int)) = false := decide_eq_false (by omega)
    have hee : ((e9 : Int) != (e9 : Int)) = false := by simp
    gi_wp2_with fail
    refine regIn (S := fun w' => Below W.heap.size W w') (by kernel_rfl) (by kernel_rfl) (below_drewN (Below.refl _ _) 1) (fun hHeld => ?_)
    generalize W.drew = wD at hHeld ⊢
    refine wpAnyH_take (i := 0) (oi := _) (v := .int .i64 (j : Int)) rfl (by kernel_rfl) (by kernel_rfl) (by kernel_rfl) (fun _ _ _ h => h) (Or.inl ⟨by rfl, fun w hSw => by obtain ⟨c13, c14, c10, c7, f0, f1, m0, m1, l0, l1⟩ := hcs w hSw; go_simp⟩) hHeld ?_
    try simp [Act.put]
    refine wpAnyH_take (i := 1) (oi := _) (v := .slice (some ⟨gm, 0, none⟩) nf yc) rfl (by kernel_rfl) (by kernel_rfl) (by kernel_rfl) (fun _ _ _ h => h) (Or.inl ⟨by rfl, fun w hSw => by obtain ⟨c13, c14, c10, c7, f0, f1, m0, m1, l0, l1⟩ := hcs w hSw; go_simp⟩) hHeld ?_
    try simp [Act.put]
    refine wpAnyH_take (i := 2) (oi := _) (v := .int .i64 (nf : Int)) rfl (by kernel_rfl) (by kernel_rfl) (by kernel_rfl) (fun _ _ _ h => h) (Or.inl ⟨by rfl, fun w hSw => by go_simp⟩) hHeld ?_
    try simp [Act.put]
    refine wpAnyH_take (i := 3) (oi := _) (v := .bool false) rfl (by kernel_rfl) (by kernel_rfl) (by kernel_rfl) (fun _ _ _ h => h) (Or.inl ⟨by rfl, fun w hSw => by go_simp⟩) hHeld ?_
    try simp [Act.put]
    refine wpAnyH_take (i := 4) (oi := _) (v := .bool false) rfl (by kernel_rfl) (by kernel_rfl) (by kernel_rfl) (fun _ _ _ h => h) (Or.inl ⟨by rfl, fun w hSw => by go_simp⟩) hHeld ?_
    try simp [Act.put]
    refine wpAnyH_take (i := 5) (oi := _) (v := .int .i64 (e9 : Int)) rfl (by kernel_rfl) (by kernel_rfl) (by kernel_rfl) (fun _ _ _ h => h) (Or.inl ⟨by rfl, fun w hSw => by go_simp⟩) hHeld ?_
    try simp [Act.put]
    refine wpAnyH_take (i := 6) (oi := _) (v := .int .i64 (e9 : Int)) rfl (by kernel_rfl) (by kernel_rfl) (by kernel_rfl) (fun _ _ _ h => h) (Or.inl ⟨by rfl, fun w hSw => by obtain ⟨c13, c14, c10, c7, f0, f1, m0, m1, l0, l1⟩ := hcs w hSw; go_simp⟩) hHeld ?_
    try simp [Act.put]
    refine wpAnyH_take (i := 7) (oi := _) (v := .bool false) rfl (by kernel_rfl) (by kernel_rfl) (by kernel_rfl) (fun _ _ _ h => h) (Or.inl ⟨by rfl, fun w hSw => by go_simp⟩) hHeld ?_
    try simp [Act.put]
    refine wpAnyH_take (i := 8) (oi := _) (v := .bool false) rfl (by kernel_rfl) (by kernel_rfl) (by kernel_rfl) (fun _ _ _ h => h) (Or.inl ⟨by rfl, fun w hSw => by go_simp⟩) hHeld ?_
    try simp [Act.put]
    refine wpAnyH_take (i := 9) (oi := _) (v := .bool false) rfl (by kernel_rfl) (by kernel_rfl) (by kernel_rfl) (fun _ _ _ h => h) (Or.inl ⟨by rfl, fun w hSw => by go_simp⟩) hHeld ?_
    try simp [Act.put]
    refine wpAnyH_take (i := 10) (oi := _) (v := .agg #[.int .u8 k9, .slice xa m9 m9]) rfl (by kernel_rfl) (by kernel_rfl) (by kernel_rfl) (fun _ _ _ h => h) (Or.inl ⟨by rfl, fun w hSw => by obtain ⟨c13, c14, c10, c7, f0, f1, m0, m1, l0, l1⟩ := hcs w hSw; go_simp⟩) hHeld ?_
    try simp [Act.put]
    refine wpAnyH_take (i := 11) (oi := _) (v := .slice (some ⟨gm, 0, none⟩) nf yc) rfl (by kernel_rfl) (by kernel_rfl) (by kernel_rfl) (fun _ _ _ h => h) (Or.inl ⟨by rfl, fun w hSw => by obtain ⟨c13, c14, c10, c7, f0, f1, m0, m1, l0, l1⟩ := hcs w hSw; go_simp⟩) hHeld ?_
    try simp [Act.put]
    refine wpAnyH_take (i := 12) (oi := _) (v := .int .i64 (j : Int)) rfl (by kernel_rfl) (by kernel_rfl) (by kernel_rfl) (fun _ _ _ h => h) (Or.inl ⟨by rfl, fun w hSw => by obtain ⟨c13, c14, c10, c7, f0, f1, m0, m1, l0, l1⟩ := hcs w hSw; go_simp⟩) hHeld ?_
    try simp [Act.put]
    refine wpAnyH_take (i := 13) (oi := _) (v := .pointer (some ⟨gm, j * 2, none⟩)) rfl (by kernel_rfl) (by kernel_rfl) (by kernel_rfl) (fun _ _ _ h => h) (Or.inl ⟨by rfl, fun w hSw => by go_simp⟩) hHeld ?_
    try simp [Act.put]
    refine wpAnyH_take (i := 14) (oi := _) (v := .agg #[.int .u8 k9, .slice ym m9 yc']) rfl (by kernel_rfl) (by kernel_rfl) (by kernel_rfl) (fun _ _ _ h => h) (Or.inl ⟨by rfl, fun w hSw => by obtain ⟨c13, c14, c10, c7, f0, f1, m0, m1, l0, l1⟩ := hcs w hSw; go_simp⟩) hHeld ?_
    try simp [Act.put]
    refine wpAnyH_ready (rs := [15]) (by kernel_rfl) (by simp) ?_
    refine (AllReadyH.cons rfl (fun kQ hkQ => ?_) AllReadyH.nil)
    go_simp
    refine (hal1 _ hHeld).mono ?_
    rintro e wN ⟨rfl, bN⟩
    have hH2 := bel_then hHeld hHeld.size bN
    clear hHeld bN hal1
    refine hkQ.out _ _ hH2 (fun hHeld => ?_)
    clear hkQ kQ hH2
    try simp [Act.put]
    refine wpAnyH_take (i := 16) (oi := _) (v := .bool false) rfl (by kernel_rfl) (by kernel_rfl) (by kernel_rfl) (fun _ _ _ h => h) (Or.inl ⟨by rfl, fun w hSw => by go_simp⟩) hHeld ?_
    try simp [Act.put]
    refine wpAnyH_take (i := 17) (oi := _) (v := .bool false) rfl (by kernel_rfl) (by kernel_rfl) (by kernel_rfl) (fun _ _ _ h => h) (Or.inl ⟨by rfl, fun w hSw => by go_simp⟩) hHeld ?_
    try simp [Act.put]
    refine wpAnyH_take (i := 18) (oi := _) (v := .bool false) rfl (by kernel_rfl) (by kernel_rfl) (by kernel_rfl) (fun _ _ _ h => h) (Or.inl ⟨by rfl, fun w hSw => by go_simp⟩) hHeld ?_
    try simp [Act.put]
    refine wpAnyH_take (i := 19) (oi := _) (v := .slice (some ⟨gl, 0, none⟩) nf vc) rfl (by kernel_rfl) (by kernel_rfl) (by kernel_rfl) (fun _ _ _ h => h) (Or.inl ⟨by rfl, fun w hSw => by obtain ⟨c13, c14, c10, c7, f0, f1, m0, m1, l0, l1⟩ := hcs w hSw; go_simp⟩) hHeld ?_
    try simp [Act.put]
    refine wpAnyH_take (i := 20) (oi := _) (v := .int .i64 (j : Int)) rfl (by kernel_rfl) (by kernel_rfl) (by kernel_rfl) (fun _ _ _ h => h) (Or.inl ⟨by rfl, fun w hSw => by obtain ⟨c13, c14, c10, c7, f0, f1, m0, m1, l0, l1⟩ := hcs w hSw; go_simp⟩) hHeld ?_
    try simp [Act.put]
    refine wpAnyH_take (i := 21) (oi := _) (v := .pointer (some ⟨gl, j * 2, none⟩)) rfl (by kernel_rfl) (by kernel_rfl) (by kernel_rfl) (fun _ _ _ h => h) (Or.inl ⟨by rfl, fun w hSw => by go_simp⟩) hHeld ?_
    try simp [Act.put]
    refine wpAnyH_take (i := 22) (oi := _) (v := .agg #[.int .u8 k9, .slice xl m9 m9]) rfl (by kernel_rfl) (by kernel_rfl) (by kernel_rfl) (fun _ _ _ h => h) (Or.inl ⟨by rfl, fun w hSw => by obtain ⟨c13, c14, c10, c7, f0, f1, m0, m1, l0, l1⟩ := hcs w hSw; go_simp⟩) hHeld ?_
    try simp [Act.put]
    refine wpAnyH_take (i := 23) (oi := _) (v := .slice (some ⟨gm, 0, none⟩) nf yc) rfl (by kernel_rfl) (by kernel_rfl) (by kernel_rfl) (fun _ _ _ h => h) (Or.inl ⟨by rfl, fun w hSw => by obtain ⟨c13, c14, c10, c7, f0, f1, m0, m1, l0, l1⟩ := hcs w hSw; go_simp⟩) hHeld ?_
    try simp [Act.put]
    refine wpAnyH_take (i := 24) (oi := _) (v := .int .i64 (j : Int)) rfl (by kernel_rfl) (by kernel_rfl) (by kernel_rfl) (fun _ _ _ h => h) (Or.inl ⟨by rfl, fun w hSw => by obtain ⟨c13, c14, c10, c7, f0, f1, m0, m1, l0, l1⟩ := hcs w hSw; go_simp⟩) hHeld ?_
    try simp [Act.put]
    refine wpAnyH_take (i := 25) (oi := _) (v := .pointer (some ⟨gm, j * 2, none⟩)) rfl (by kernel_rfl) (by kernel_rfl) (by kernel_rfl) (fun _ _ _ h => h) (Or.inl ⟨by rfl, fun w hSw => by go_simp⟩) hHeld ?_
    try simp [Act.put]
    refine wpAnyH_take (i := 26) (oi := _) (v := .agg #[.int .u8 k9, .slice ym m9 yc']) rfl (by kernel_rfl) (by kernel_rfl) (by kernel_rfl) (fun _ _ _ h => h) (Or.inl ⟨by rfl, fun w hSw => by obtain ⟨c13, c14, c10, c7, f0, f1, m0, m1, l0, l1⟩ := hcs w hSw; go_simp⟩) hHeld ?_
    try simp [Act.put]
    refine wpAnyH_ready (rs := [27]) (by kernel_rfl) (by simp) ?_
    refine (AllReadyH.cons rfl (fun kQ hkQ => ?_) AllReadyH.nil)
    go_simp
    refine (hal2 _ hHeld).mono ?_
    rintro e wN ⟨rfl, bN⟩
    have hH2 := bel_then hHeld hHeld.size bN
    clear hHeld bN hal2
    refine hkQ.out _ _ hH2 (fun hHeld => ?_)
    clear hkQ kQ hH2
    try simp [Act.put]
    refine wpAnyH_take (i := 28) (oi := _) (v := .bool false) rfl (by kernel_rfl) (by kernel_rfl) (by kernel_rfl) (fun _ _ _ h => h) (Or.inl ⟨by rfl, fun w hSw => by go_simp⟩) hHeld ?_
    try simp [Act.put]
    refine wpAnyH_take (i := 29) (oi := _) (v := .bool false) rfl (by kernel_rfl) (by kernel_rfl) (by kernel_rfl) (fun _ _ _ h => h) (Or.inl ⟨by rfl, fun w hSw => by go_simp⟩) hHeld ?_
    try simp [Act.put]
    refine wpAnyH_done (by kernel_rfl) ?_ _
    refine only_go ?_
    have hM1 := (unhide HM).later hHeld
    rw [← (unhide HJE).1, ← (unhide HJE).2] at hM1
    have he9 : e9 ≤ 1099511627776 := by rw [(unhide HJE).2]; exact (unhide HLX).2.2.2
    obtain ⟨e2, he2⟩ : ∃ e, e = e9 + m9 + 10 := ⟨_, rfl⟩
    have hbs : w.heap.size ≤ w2.heap.size + 1 ∧ w.heap.size ≤ w2.heap.size + 1 + 1 := by omega
    have hdd : 0 < L.length → ∀ y, a = some y → y.block ≠ w2.heap.size + 1 ∧ y.block ≠ w2.heap.size + 1 + 1 := fun hp y hy => by
      have h := (unhide HD).blk hp y hy
      omega
    have hM2 := ScM.store (j' := j) (e' := e2) (g := w2.heap.size + 1 + 1) (v := (e2 : Int)) hM1 ⟨.inl (.inr (.inr (.inl rfl))), .inl (.inr (.inr (.inr (.inl rfl))))⟩ ⟨.inl rfl, .inr (.inl rfl)⟩ hbs (by omega) hdd (.inr ⟨rfl, rfl, rfl⟩)
    have hX0 : ∀ g, (X g ∨ FxB xs g ∨ g = w2.heap.size + 1 ∨ g = w2.heap.size + 1 + 1 ∨ g = wq.heap.size + 1 + 1) → g < W0.heap.size := fun g hg => by
      obtain ⟨P0, Q0, l0, v0, -, h, -⟩ := (unhide HI0).sh.ex
      exact (h g hg).1
    have ktC : KT W (wN.setCell ⟨w2.heap.size + 1 + 1, 0, none⟩ (.int .i64 (e2 : Int))) := (KT.of_below hHeld).trans (KT.of_int hM1.at_ 0)
    have hlC := ktC.lies (unhide HLX)
    have hAns := lies_ans hlC (B0 := w.heap.size) (by omega)
    simp only at hAns
    rw [← unhide HM9] at hAns
    have hpX : 0 < px.length → ∀ y, xa = some y → ((X y.block ∨ FxB xs y.block ∨ y.block = w2.heap.size + 1 ∨ y.block = w2.heap.size + 1 + 1 ∨ y.block = wq.heap.size + 1 + 1) ∨ ∃ ad, xa = some ad ∧ ad.block = y.block) := fun _ y hy => .inr ⟨y, hy, rfl⟩
    have hbx9 : w2.heap.size + 1 + 1 + 1 < W0.heap.size ∧ some (w2.heap.size + 1 + 1 + 1) ≠ lv.ownBlock ∧ some (w2.heap.size + 1 + 1 + 1) ≠ wv.ownBlock ∧ w2.heap.size + 1 + 1 + 1 ≠ gS := ⟨by omega, unhide HLV _ (by omega)⟩
    have hds9 : 0 < L.length → ∀ y, a = some y → y.block < W0.heap.size ∧ some y.block ≠ lv.ownBlock ∧ some y.block ≠ wv.ownBlock ∧ y.block ≠ gS := fun hp y hy => ⟨by have h := (unhide HD).blk hp y hy; omega, unhide HDS hp y hy⟩
    have hPutC := ScM.put hM2 ⟨xa, m9, m9, px⟩ hAns (by simp only; omega) hpX (by omega) hbx9 hds9
    simp only [Sl.v] at hPutC
    have c14 : wN.cell? ⟨w2.heap.size + 1 + 1, 0, none⟩ = some (.int .i64 (e9 : Int)) := by rw [hM1.at_.cell]; rfl
    have z14 := hM1.at_.frozen 0
    have f1 : wN.cell? ⟨B', 1, none⟩ = some (.slice xa m9 m9) := by rw [((unhide HFX).later hHeld).cell]; rfl
    have c3 : (wN.setCell ⟨w2.heap.size + 1 + 1, 0, none⟩ (.int .i64 (e2 : Int))).cell? ⟨wq.heap.size, 0, none⟩ = some (.pointer (some ⟨gS, 0, none⟩)) := by rw [hM2.ev.c3.cell]; rfl
    have f1C : (wN.setCell ⟨w2.heap.size + 1 + 1, 0, none⟩ (.int .i64 (e2 : Int))).cell? ⟨B', 1, none⟩ = some (.slice xa m9 m9) := by rw [(ktC.arr (unhide HFX) (by decide) (by decide) (by decide)).cell]; rfl
    have wr1 : IntKind.i64.wrap ((e9 : Int) + (m9 : Int)) = (e9 : Int) + (m9 : Int) := by rw [IntKind.wrap_i64]; omega
    have wr2 : IntKind.i64.wrap ((e9 : Int) + (m9 : Int) + 10) = (e2 : Int) := by rw [IntKind.wrap_i64]; omega
    have wr3 : IntKind.i64.wrap ((j : Int) + 1) = (j : Int) + 1 := by rw [IntKind.wrap_i64]; omega
    have HE2 : Hid (e2 = endF (pre ++ [⟨e9, k9, xa, px⟩])) := hide (by rw [endF_snoc, he2]; simp only; rw [← unhide HM9])
    have HK1 : Hid (KeepsOthers W (wN.setCell ⟨w2.heap.size + 1 + 1, 0, none⟩ (.int .i64 (e2 : Int)))) := hide ((below_keeps hHeld).trans (KeepsOthers.setCell _ _ _))
    have HPUT := hide hPutC
    have HX0 := hide hX0
    have HDD := hide hdd
    have HLC := hide hlC
    clear hM1 hM2 hAns hpX hbx9 hds9 hPutC hcs hjd hee ktC hHeld hX0 he2 hdd hlC
    obtain ⟨b, hb⟩ : ∃ b, ((j : Int) + 1 == le) = b := ⟨_, rfl⟩
    have HB := hide hb
    gi_wp2_with (first
      | (refine ⟨trivial, ?_⟩
         gi_at_call 16
         refine (callsIn_wide.2 (unhide HPUT)).mono ?_
         rintro e wD ⟨rfl, hM3, hko, hcl⟩
         have c13 : wD.cell? ⟨w2.heap.size + 1, 0, none⟩ = some (.int .i64 (j : Int)) := by rw [hM3.n.cell]; rfl
         have z13 := hM3.n.frozen 0
         have hM4 := ScM.store (j' := j + 1) (e' := e2) (g := w2.heap.size + 1) (v := (j : Int) + 1) (hM3.weak (Y := fun g => X g ∨ FxB xs g ∨ g = w2.heap.size + 1 ∨ g = w2.heap.size + 1 + 1 ∨ g = wq.heap.size + 1 + 1) (fun g hg => ⟨.inl hg, fun hp y hy q => by
           have h1 := (lies_blk (unhide HLC) y hy).1
           have h2 := unhide HX0 g hg
           simp only [Option.some.injEq] at q
           omega⟩)) ⟨.inr (.inr (.inl rfl)), .inr (.inr (.inr (.inl rfl)))⟩ ⟨.inl rfl, .inr (.inl rfl)⟩ hbs (by omega) (unhide HDD) (.inl ⟨rfl, by simp, rfl⟩)
         have c13E : (wD.setCell ⟨w2.heap.size + 1, 0, none⟩ (.int .i64 ((j : Int) + 1))).cell? ⟨w2.heap.size + 1, 0, none⟩ = some (.int .i64 ((j : Int) + 1)) := by rw [hM4.n.cell]; simp
         have c5E : (wD.setCell ⟨w2.heap.size + 1, 0, none⟩ (.int .i64 ((j : Int) + 1))).cell? ⟨wq.heap.size + 1, 4, none⟩ = some (.int .i64 le) := by rw [hM4.ev.c5.cell]; rfl
         have HM4 := hide hM4
         have HKO := hide hko
         clear hM3 hcl hM4 hko)
      | fail)
    all_goals rename_i hbt
    · have hI4 := (unhide HM4).toI (pre := pre ++ [⟨e9, k9, xa, px⟩]) (N := N) (by rw [(unhide HJE).1]; simp; omega) (by rw [(unhide HJE).1]; simp) (unhide HE2)
      refine ⟨(((unhide HK1).trans (unhide HKO)).trans (KeepsOthers.setCell _ _ _)).from _, rfl, ?_, hI4⟩
      rw [hbt] at hb
      have h5 := eq_of_beq hb
      rw [List.length_append, ← (unhide HJE).1]
      simpa using h5
    · have hI4 := (unhide HM4).toI (pre := pre ++ [⟨e9, k9, xa, px⟩]) (N := N) (by rw [(unhide HJE).1]; simp; omega) (by rw [(unhide HJE).1]; simp) (unhide HE2)
      exact ⟨(((unhide HK1).trans (unhide HKO)).trans (KeepsOthers.setCell _ _ _)).from _, (unhide HM).kp (unhide HM4) (by have h1 := (unhide HK1).size; have h2 := (unhide HKO).size; simp at h1 h2 ⊢; omega), hI4⟩
  case hend =>
    rintro D pre W hD ⟨hI, hfin, hpn⟩ hDD
    have hM : ScM w gS lv wv W0 (fun g => X g ∨ FxB xs g ∨ g = w2.heap.size + 1 ∨ g = w2.heap.size + 1 + 1 ∨ g = wq.heap.size + 1 + 1) (fun g => g = w2.heap.size + 1 ∨ g = w2.heap.size + 1 + 1 ∨ g = wq.heap.size + 1 + 1) (N + pre.length) wq.heap.size (wq.heap.size + 1) (wq.heap.size + 1 + 1) w1.heap.size w2.heap.size (w2.heap.size + 1) (w2.heap.size + 1 + 1) (w2.heap.size + 1 + 1 + 1) W1.heap.size nf [.slice ba n bc, .int .i64 z, .int .u8 k, .slice pa pn pc, .int .i64 le] (.slice va nf vc) (.slice ya nf yc) xs ys ⟨a, n, c, L⟩ pre.length (endF pre) W := ⟨hI.sh, hI.ev, hI.n, hI.at_, hI.bx, hI.ok⟩
    obtain ⟨j, hj⟩ : ∃ j, j = pre.length := ⟨_, rfl⟩
    obtain ⟨e9, he9⟩ : ∃ e, e = endF pre := ⟨_, rfl⟩
    rw [← hj] at hM hfin hpn
    rw [← he9] at hM
    have c13 : W.cell? ⟨w2.heap.size + 1, 0, none⟩ = some (.int .i64 (j : Int)) := by rw [hM.n.cell]; rfl
    have c10 : W.cell? ⟨w2.heap.size, 0, none⟩ = some (.slice ya nf yc) := by rw [hM.ev.c10.cell]; rfl
    have c5 : W.cell? ⟨wq.heap.size + 1, 4, none⟩ = some (.int .i64 le) := by rw [hM.ev.c5.cell]; rfl
    clear hI hj he9
    have HM := hide hM
    have HDD := hide hDD
    clear hM hDD
    have hx : ((j : Int) != (nf : Int)) = false ∨ (((j : Int) != (nf : Int)) = true ∧ ((j : Int) != le) = false) := by
      by_cases e : j = nf
      · exact .inl (by rw [e]; simp)
      · exact .inr ⟨by rw [bne_iff_ne]; omega, by rw [hfin.resolve_left e]; simp⟩
    clear hfin
    rcases hx with h1 | ⟨h1, h2⟩ <;> gi_wp2_with fail
    all_goals (
      refine wpIn_wide.2 ?_
      clear c13 c10 c5
      go_loopw [17] (fun iv wr => ∃ i : Nat, i ≤ nf ∧ iv = .int .i64 i ∧ Below W.heap.size W wr) (fun iv _ => nf - (intOf iv).toNat)
      case atStart => exact ⟨0, by omega, rfl, Below.refl _ _⟩
      case round =>
        obtain ⟨i, hi, rfl, hb⟩ := hrel
        have hM1 := (unhide HM).later hb
        by_cases hlt : i < nf
        · skip
          obtain ⟨f, hf⟩ : ∃ f, fs[i]? = some f := ⟨_, List.getElem?_eq_getElem (by rw [← (unhide HFS).1]; exact hlt)⟩
          obtain ⟨gl, cl, gm, cm, xl, ym, yc', hlV, hmV, -, rl, rm, okl, okm⟩ := hM1.ev.at_ (unhide HX1).1 (unhide HY2).1 (unhide HFS).1 hf
          simp only [Value.slice.injEq, true_and] at hlV hmV
          obtain ⟨rfl, rfl⟩ := hlV
          obtain ⟨rfl, rfl⟩ := hmV
          obtain ⟨k9, px⟩ := f
          have hm9b : px.length ≤ 65536 := by
            have h1 := flat_mem hf
            simp only at h1
            have h2 := congrArg List.length (unhide HFR).1
            rw [List.length_append, unhide HLN] at h2
            omega
          simp only at rl rm okl okm
          obtain ⟨m9, hm9⟩ : ∃ m, m = px.length := ⟨_, rfl⟩
          rw [← hm9] at rl rm okl okm hm9b
          have c7 : wr.cell? ⟨w1.heap.size, 0, none⟩ = some (.slice (some ⟨gl, 0, none⟩) nf vc) := by rw [hM1.ev.c7.cell]; rfl
          have hcs : ∀ w', Below wr.heap.size wr w' → w'.cell? ⟨w2.heap.size, 0, none⟩ = some (.slice (some ⟨gm, 0, none⟩) nf yc) ∧ w'.cell? ⟨w1.heap.size, 0, none⟩ = some (.slice (some ⟨gl, 0, none⟩) nf vc) ∧ w'.cell? ⟨gm, i * 2, none⟩ = some (.int .u8 k9) ∧ w'.cell? ⟨gm, i * 2 + 1, none⟩ = some (.slice ym m9 yc') ∧ w'.cell? ⟨gl, i * 2, none⟩ = some (.int .u8 k9) ∧ w'.cell? ⟨gl, i * 2 + 1, none⟩ = some (.slice xl m9 m9) := fun w' hb => by
            have r1 := (range_later rm hb) 0 _ rfl
            have r2 := (range_later rm hb) 1 _ rfl
            have r3 := (range_later rl hb) 0 _ rfl
            have r4 := (range_later rl hb) 1 _ rfl
            exact ⟨by rw [(hM1.ev.c10.later hb).cell]; rfl, by rw [(hM1.ev.c7.later hb).cell]; rfl, r1, r2, r3, r4⟩
          have hal : ∀ w', Below wr.heap.size wr w' → Calls Try.prog 12 #[.agg #[.int .u8 k9, .slice xl m9 m9], .agg #[.int .u8 k9, .slice ym m9 yc']] w' fun e w'' => e = .returned (.bool true) ∧ Below w'.heap.size w' w'' := fun w' hb => alike_t k9 xl ym m9 m9 yc' px w' (okl.later hb) (okm.later hb) (by omega)
          clear hM1 rl rm okl okm hm9 hf
          have hiz : (i : Int) < (nf : Int) := by omega
          go_wp2_with fail
          refine wp_region_noPanic ?_
          refine wp_region_held_drew (S := fun w' => Below wr.heap.size wr w') (by kernel_rfl) (below_drewN (Below.refl _ _) 1) (fun hHeld => ?_)
          generalize wr.drew = wD at hHeld ⊢
          refine wpAnyH_take (i := 0) (oi := _) (v := .slice (some ⟨gl, 0, none⟩) nf vc) rfl (by kernel_rfl) (by kernel_rfl) (by kernel_rfl) (fun _ _ _ h => h) (Or.inl ⟨by rfl, fun w hSw => by obtain ⟨c10, c7, m0, m1, l0, l1⟩ := hcs w hSw; go_simp⟩) hHeld ?_
          try simp [Act.put]
          refine wpAnyH_take (i := 1) (oi := _) (v := .int .i64 (i : Int)) rfl (by kernel_rfl) (by kernel_rfl) (by kernel_rfl) (fun _ _ _ h => h) (Or.inl ⟨by rfl, fun w hSw => by go_simp⟩) hHeld ?_
          try simp [Act.put]
          refine wpAnyH_take (i := 2) (oi := _) (v := .pointer (some ⟨gl, i * 2, none⟩)) rfl (by kernel_rfl) (by kernel_rfl) (by kernel_rfl) (fun _ _ _ h => h) (Or.inl ⟨by rfl, fun w hSw => by go_simp⟩) hHeld ?_
          try simp [Act.put]
          refine wpAnyH_take (i := 3) (oi := _) (v := .agg #[.int .u8 k9, .slice xl m9 m9]) rfl (by kernel_rfl) (by kernel_rfl) (by kernel_rfl) (fun _ _ _ h => h) (Or.inl ⟨by rfl, fun w hSw => by obtain ⟨c10, c7, m0, m1, l0, l1⟩ := hcs w hSw; go_simp⟩) hHeld ?_
          try simp [Act.put]
          refine wpAnyH_take (i := 4) (oi := _) (v := .slice (some ⟨gm, 0, none⟩) nf yc) rfl (by kernel_rfl) (by kernel_rfl) (by kernel_rfl) (fun _ _ _ h => h) (Or.inl ⟨by rfl, fun w hSw => by obtain ⟨c10, c7, m0, m1, l0, l1⟩ := hcs w hSw; go_simp⟩) hHeld ?_
          try simp [Act.put]
          refine wpAnyH_take (i := 5) (oi := _) (v := .int .i64 (i : Int)) rfl (by kernel_rfl) (by kernel_rfl) (by kernel_rfl) (fun _ _ _ h => h) (Or.inl ⟨by rfl, fun w hSw => by go_simp⟩) hHeld ?_
          try simp [Act.put]
          refine wpAnyH_take (i := 6) (oi := _) (v := .pointer (some ⟨gm, i * 2, none⟩)) rfl (by kernel_rfl) (by kernel_rfl) (by kernel_rfl) (fun _ _ _ h => h) (Or.inl ⟨by rfl, fun w hSw => by go_simp⟩) hHeld ?_
          try simp [Act.put]
          refine wpAnyH_take (i := 7) (oi := _) (v := .agg #[.int .u8 k9, .slice ym m9 yc']) rfl (by kernel_rfl) (by kernel_rfl) (by kernel_rfl) (fun _ _ _ h => h) (Or.inl ⟨by rfl, fun w hSw => by obtain ⟨c10, c7, m0, m1, l0, l1⟩ := hcs w hSw; go_simp⟩) hHeld ?_
          try simp [Act.put]
          refine wpAnyH_ready (rs := [8]) (by kernel_rfl) (by simp) ?_
          refine (AllReadyH.cons rfl (fun kQ hkQ => ?_) AllReadyH.nil)
          go_simp
          refine (hal _ hHeld).mono ?_
          rintro e wN ⟨rfl, bN⟩
          have hH2 := bel_then hHeld hHeld.size bN
          clear hHeld bN hal
          refine hkQ.out _ _ hH2 (fun hHeld => ?_)
          clear hkQ kQ hH2
          try simp [Act.put]
          refine wpAnyH_take (i := 9) (oi := _) (v := .bool false) rfl (by kernel_rfl) (by kernel_rfl) (by kernel_rfl) (fun _ _ _ h => h) (Or.inl ⟨by rfl, fun w hSw => by go_simp⟩) hHeld ?_
          try simp [Act.put]
          refine wpAnyH_done (by kernel_rfl) ?_ _
          unfold NoPanic
          go_wp2_with fail
          go_roundw
          case rel => exact ⟨i + 1, by omega, by go_num, bel_then hb hb.size hHeld⟩
          case measure => simp [intOf]; omega
        · have hin : i = nf := by omega
          have hid : decide ((i : Int) < (nf : Int)) = false := decide_eq_false (by omega)
          have c7 : wr.cell? ⟨w1.heap.size, 0, none⟩ = some (.slice va nf vc) := by rw [hM1.ev.c7.cell]; rfl
          have hD1 : wr.heap[D]? = some (.deferred (some [])) := (hb.block D (Array.getElem?_eq_some_iff.1 (unhide HDD)).1).trans (unhide HDD)
          have HM1 := hide hM1
          have HD1 := hide hD1
          clear hM1 hD1 hb
          go_wp2_with fail
          gi_wp2_with fail
          refine wpIn_wide.2 ?_
          clear c7
          go_loopw [18] (fun iv wr => ∃ i : Nat, i ≤ nf ∧ iv = .int .i64 i ∧ ScM w gS lv wv W0 (fun g => (X g ∨ g = wq.heap.size + 1 + 1) ∨ FxB (xs.drop i) g) (fun g => g = w2.heap.size + 1 ∨ g = w2.heap.size + 1 + 1 ∨ g = wq.heap.size + 1 + 1) (N + j + i) wq.heap.size (wq.heap.size + 1) (wq.heap.size + 1 + 1) w1.heap.size w2.heap.size (w2.heap.size + 1) (w2.heap.size + 1 + 1) (w2.heap.size + 1 + 1 + 1) W1.heap.size nf [.slice ba n bc, .int .i64 z, .int .u8 k, .slice pa pn pc, .int .i64 le] (.slice va nf vc) (.slice ya nf yc) xs ys ⟨a, n, c, L⟩ j e9 wr ∧ wr.heap[D]? = some (.deferred (some []))) (fun iv _ => nf - (intOf iv).toNat)
          case atStart =>
            refine ⟨0, by omega, rfl, (unhide HM1).weak (fun g hg => ?_), unhide HD1⟩
            rcases hg with (h | h) | h
            · exact .inl h
            · exact .inr (.inr (.inr (.inr h)))
            · exact .inr (.inl h)
          case round =>
            clear HM1 HD1 hin hid hlt
            obtain ⟨i, hi, rfl, hM1, hD1⟩ := hrel
            have c7 : wr.cell? ⟨w1.heap.size, 0, none⟩ = some (.slice va nf vc) := by rw [hM1.ev.c7.cell]; rfl
            by_cases hlt : i < nf
            · skip
              obtain ⟨f, hf⟩ : ∃ f, fs[i]? = some f := ⟨_, List.getElem?_eq_getElem (by rw [← (unhide HFS).1]; exact hlt)⟩
              obtain ⟨gl, cl, gm, cm, xl, ym, yc', hlV, hmV, ⟨x, hxm, hxi, hxa, hxp⟩, rl, -, okl, -⟩ := hM1.ev.at_ (unhide HX1).1 (unhide HY2).1 (unhide HFS).1 hf
              simp only [Value.slice.injEq, true_and] at hlV
              obtain ⟨rfl, rfl⟩ := hlV
              clear hmV
              obtain ⟨k9, px⟩ := f
              have hm9b : px.length ≤ 65536 := by
                have h1 := flat_mem hf
                simp only at h1
                have h2 := congrArg List.length (unhide HFR).1
                rw [List.length_append, unhide HLN] at h2
                omega
              have hlx := hM1.ev.lx x hxm
              have hAns0 := lies_ans hlx (B0 := w.heap.size) (by omega)
              simp only at rl okl hxp
              rw [hxa, hxp] at hAns0
              obtain ⟨m9, hm9⟩ : ∃ m, m = px.length := ⟨_, rfl⟩
              rw [← hm9] at rl okl hm9b hAns0
              have hcR : ∀ W', ScE gS wq.heap.size (wq.heap.size + 1) (wq.heap.size + 1 + 1) w1.heap.size w2.heap.size W1.heap.size nf [.slice ba n bc, .int .i64 z, .int .u8 k, .slice pa pn pc, .int .i64 le] (.slice (some ⟨gl, 0, none⟩) nf vc) (.slice ya nf yc) xs ys W' → W'.cell? ⟨wq.heap.size, 0, none⟩ = some (.pointer (some ⟨gS, 0, none⟩)) ∧ W'.cell? ⟨w1.heap.size, 0, none⟩ = some (.slice (some ⟨gl, 0, none⟩) nf vc) ∧ W'.cell? ⟨gl, i * 2 + 1, none⟩ = some (.slice xl m9 m9) := fun W' h => by
                refine ⟨by rw [h.c3.cell]; rfl, by rw [h.c7.cell]; rfl, ?_⟩
                have h1 := (fxC_at xs i x hxi).2
                rw [h.l.cellAt (i * 2 + 1) (by omega), h1, hxa, hxp, hm9]
              have hxb : ∀ y, xl = some y → W1.heap.size ≤ y.block := fun y hy => (lies_blk hlx y (by rw [hxa, hy])).1
              have hpu : ∀ wD, Below wr.heap.size wr wD → Calls Try.prog 16 #[.pointer (some ⟨gS, 0, none⟩), .slice xl m9 m9] wD fun e w' => e = .returned (.tuple #[]) ∧ ScM w gS lv wv W0 (fun g => (X g ∨ g = wq.heap.size + 1 + 1) ∨ FxB (xs.drop (i + 1)) g) (fun g => g = w2.heap.size + 1 ∨ g = w2.heap.size + 1 + 1 ∨ g = wq.heap.size + 1 + 1) (N + j + i + 1) wq.heap.size (wq.heap.size + 1) (wq.heap.size + 1 + 1) w1.heap.size w2.heap.size (w2.heap.size + 1) (w2.heap.size + 1 + 1) (w2.heap.size + 1 + 1 + 1) W1.heap.size nf [.slice ba n bc, .int .i64 z, .int .u8 k, .slice pa pn pc, .int .i64 le] (.slice (some ⟨gl, 0, none⟩) nf vc) (.slice ya nf yc) xs ys ⟨a, n, c, L⟩ j e9 w' ∧ w'.heap[D]? = some (.deferred (some [])) := fun wD bD => by
                have hM2 := hM1.later bD
                have hdrop : xs.drop i = x :: xs.drop (i + 1) := by
                  have h := List.getElem?_eq_some_iff.1 hxi
                  rw [List.drop_eq_getElem_cons h.1, h.2]
                have h := ScM.put hM2 ⟨xl, m9, m9, px⟩ ⟨hAns0.ok.later bD, hAns0.full, fun hp => let ⟨g, E, h1, h2, h3⟩ := hAns0.row hp; ⟨g, E, h1, h2, h3.later bD⟩⟩ (by simp only; omega) (fun hp y hy => .inr ⟨x, by rw [hdrop]; simp, y, by rw [hxa]; exact hy, rfl⟩) (by omega) ⟨by omega, unhide HLV _ (by omega)⟩ (fun hp y hy => ⟨by have h := (unhide HD).blk hp y hy; omega, unhide HDS hp y hy⟩)
                simp only [Sl.v] at h
                refine h.mono fun e w' ⟨h1, h2, h3, h4⟩ => ⟨h1, h2.weak (fun g hg => ?_), h3.same D _ ((bD.block D (Array.getElem?_eq_some_iff.1 hD1).1).trans hD1) rfl⟩
                rcases hg with (hg | hg) | ⟨y, hy, ad, ha, rfl⟩
                · refine ⟨.inl (.inl hg), fun hp y hy q => ?_⟩
                  have h5 := hxb y hy
                  have h6 := (unhide HXX g hg).1
                  simp only [Option.some.injEq] at q
                  omega
                · refine ⟨.inl (.inr hg), fun hp y hy q => ?_⟩
                  have h5 := hxb y hy
                  simp only [Option.some.injEq] at q
                  omega
                · refine ⟨.inr ⟨y, by rw [hdrop]; exact List.mem_cons_of_mem _ hy, ad, ha, rfl⟩, fun hp y2 hy2 q => ?_⟩
                  have hpw := (unhide HX1).2.2.1
                  have hp2 : (xs.drop i).Pairwise Apf := hpw.drop
                  rw [hdrop] at hp2
                  have h7 := (List.pairwise_cons.1 hp2).1 y hy y2 ad (by rw [hxa]; exact hy2) ha
                  simp only [Option.some.injEq] at q
                  exact h7 q
              have hSt := hcR wr hM1.ev
              have hiz : (i : Int) < (nf : Int) := by omega
              have HPU := hide hpu
              have HCR := hide hcR
              have HMR := hide hM1
              clear hM1 rl okl hm9 hf hlx hAns0 hpu hxb hxm hxi hxa hxp hcR hD1
              go_wp2_with fail
              refine wp_region_noPanic ?_
              refine wp_region_held_drew (S := fun w' => w'.cell? ⟨wq.heap.size, 0, none⟩ = some (.pointer (some ⟨gS, 0, none⟩)) ∧ w'.cell? ⟨w1.heap.size, 0, none⟩ = some (.slice (some ⟨gl, 0, none⟩) nf vc) ∧ w'.cell? ⟨gl, i * 2 + 1, none⟩ = some (.slice xl m9 m9)) (by kernel_rfl) hSt (fun hHeld => ?_)
              have bD : Below wr.heap.size wr wr.drew := below_drewN (Below.refl _ _) 1
              generalize wr.drew = wD at hHeld bD ⊢
              refine wpAnyH_take (i := 0) (oi := _) (v := .pointer (some ⟨gS, 0, none⟩)) rfl (by kernel_rfl) (by kernel_rfl) (by kernel_rfl) (fun _ _ _ h => h) (Or.inl ⟨by rfl, fun w hSw => by obtain ⟨c3, c7, l1⟩ := hSw; go_simp⟩) hHeld ?_
              try simp [Act.put]
              refine wpAnyH_take (i := 1) (oi := _) (v := .slice (some ⟨gl, 0, none⟩) nf vc) rfl (by kernel_rfl) (by kernel_rfl) (by kernel_rfl) (fun _ _ _ h => h) (Or.inl ⟨by rfl, fun w hSw => by obtain ⟨c3, c7, l1⟩ := hSw; go_simp⟩) hHeld ?_
              try simp [Act.put]
              refine wpAnyH_take (i := 2) (oi := _) (v := .int .i64 (i : Int)) rfl (by kernel_rfl) (by kernel_rfl) (by kernel_rfl) (fun _ _ _ h => h) (Or.inl ⟨by rfl, fun w hSw => by go_simp⟩) hHeld ?_
              try simp [Act.put]
              refine wpAnyH_take (i := 3) (oi := _) (v := .pointer (some ⟨gl, i * 2, none⟩)) rfl (by kernel_rfl) (by kernel_rfl) (by kernel_rfl) (fun _ _ _ h => h) (Or.inl ⟨by rfl, fun w hSw => by go_simp⟩) hHeld ?_
              try simp [Act.put]
              refine wpAnyH_take (i := 4) (oi := _) (v := .pointer (some ⟨gl, i * 2 + 1, none⟩)) rfl (by kernel_rfl) (by kernel_rfl) (by kernel_rfl) (fun _ _ _ h => h) (Or.inl ⟨by rfl, fun w hSw => by go_simp⟩) hHeld ?_
              try simp [Act.put]
              refine wpAnyH_take (i := 5) (oi := _) (v := .slice xl m9 m9) rfl (by kernel_rfl) (by kernel_rfl) (by kernel_rfl) (fun _ _ _ h => h) (Or.inl ⟨by rfl, fun w hSw => by obtain ⟨c3, c7, l1⟩ := hSw; go_simp⟩) hHeld ?_
              try simp [Act.put]
              refine wpAnyH_ready (rs := [6]) (by kernel_rfl) (by simp) ?_
              refine (AllReadyH.cons rfl (fun kQ hkQ => ?_) AllReadyH.nil)
              go_simp
              refine (unhide HPU _ bD).mono ?_
              rintro e wP ⟨rfl, hM3, hD3⟩
              refine hkQ.out _ _ (unhide HCR _ hM3.ev) (fun hHeld => ?_)
              clear hkQ kQ
              try simp [Act.put]
              refine wpAnyH_done (by kernel_rfl) ?_ _
              unfold NoPanic
              have HM3 := hide hM3
              clear hM3
              go_wp2_with fail
              go_roundw
              case rel => exact ⟨i + 1, by omega, by go_num, unhide HM3, hD3⟩
              case measure => simp [intOf]; omega
            · have hin : i = nf := by omega
              have hid : decide ((i : Int) < (nf : Int)) = false := decide_eq_false (by omega)
              have c6 : wr.cell? ⟨wq.heap.size + 1 + 1, 0, none⟩ = some (.bool false) := by rw [hM1.ev.c6.cell]; rfl
              have z6 := hM1.ev.c6.frozen 0
              have HM1 := hide hM1
              have HD1 := hide hD1
              clear hM1 hD1
              go_wp2_with fail
              gi_wp2_with fail
              have hD6 : (wr.setCell ⟨wq.heap.size + 1 + 1, 0, none⟩ (.bool true)).heap[D]? = some (.deferred (some [])) := (Below.heap_setCell _ _ _ D (fun e => by simp only at e; omega)).trans (unhide HD1)
              refine ⟨by simp, .inl ⟨_, _, rfl, run_takeDeferred hD6, ?_⟩⟩
              have hb6 := arr_but (unhide HM1).ev.c6 0 (.bool true)
              have hs6 := (unhide HM1).sh.but hb6 (.inl (.inr rfl)) (fun _ => .inr (.inr rfl)) (by omega) (unhide HM1).ev.c6 (by decide)
              have hs7 := hs6.own (Nat.le_refl _) (by omega) (grownBy_putObj' _ D (.deferred none)) (fun r e => by cases e; exact ⟨hD, _, hD6, rfl⟩)
              have c6' : ((wr.setCell ⟨wq.heap.size + 1 + 1, 0, none⟩ (.bool true)).putObj D (.deferred none)).cell? ⟨wq.heap.size + 1 + 1, 0, none⟩ = some (.bool true) := by
                rw [World.cell?_of_block (w := wr.setCell ⟨wq.heap.size + 1 + 1, 0, none⟩ (.bool true)) (World.putObj_heap_other (by simp only; omega)), ((unhide HM1).ev.c6.set 0 _).cell]
                rfl
              refine ⟨_, results_cellv rfl _ _ (wq.heap.size + 1 + 1) rfl (.bool true) c6' Try.underlying4 rfl, rfl, N + j + i, ?_, by omega, by omega⟩
              exact (hs7.weak (Y := X) (fun g hg => .inl (.inl hg))).comp (unhide HBR).size (fun k hk _ _ _ _ => (unhide HBR).block k hk) (.inl rfl) (.inl rfl) (fun k hk hz => by rcases hz with h | h | h <;> omega))
end Go.Proofs.Ytmdpmkdofgligaa
