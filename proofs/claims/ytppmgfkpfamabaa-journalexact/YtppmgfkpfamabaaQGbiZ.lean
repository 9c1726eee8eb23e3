import Derived.Test.YtppmgfkpfamabaaQGaqZ
import Derived.Test.YtppmgfkpfamabaaQGauZ
import Derived.Test.YtppmgfkpfamabaaQGawZ
import Derived.Test.YtppmgfkpfamabaaQGayZ
import Derived.Test.YtppmgfkpfamabaaQGbgZ
import Derived.Test.YtppmgfkpfamabaaQSqM
set_option linter.unusedSimpArgs false
set_option linter.unusedVariables false
namespace Go.Proofs.Ytppmgfkpfamabaa
open Go.RowKit
structure Rq (O : Nat → Prop) (s : FlS) (c : List Value) (w : World) : Prop where
  rb : Rb w (aV c) s O
  ln : c.length = 7
  one : ∀ u ∈ c, u.oneCell' = true
theorem Rq.of {O : Nat → Prop} {s : FlS} {v : Value} {w : World} (h : Rb w v s O) : ∃ c, v = aV c ∧ Rq O s c w := by
  have h0 := h
  obtain ⟨fa, sa, va, fc, sc, vc, ar, cnt, rfl, -⟩ := h0
  refine ⟨[.int .i64 s.size, .slice fa s.l0.length fc, .slice sa s.l1.length sc, .slice va ar.length vc, .int .i64 cnt, .int .i64 s.wr, .bool s.down], rfl, h, rfl, ?_⟩
  intro u hu
  simp only [List.mem_cons, List.not_mem_nil, or_false] at hu
  rcases hu with rfl | rfl | rfl | rfl | rfl | rfl | rfl <;> rfl
theorem Rq.mono {O O' : Nat → Prop} {s : FlS} {c : List Value} {w : World} (h : Rq O s c w) (hO : ∀ k, O k → O' k) : Rq O' s c w := ⟨h.rb.mono hO, h.ln, h.one⟩
theorem Rq.keep {S O : Nat → Prop} {s : FlS} {c : List Value} {w w' : World} (h : Rq O s c w) (hb : Buts S w w') (hd : ∀ k, O k → ¬ S k) : Rq O s c w' := ⟨h.rb.keep hb hd, h.ln, h.one⟩
theorem Rq.later {O : Nat → Prop} {s : FlS} {c : List Value} {w w' : World} (h : Rq O s c w) (hb : Below w.heap.size w w') : Rq O s c w' := ⟨h.rb.later hb, h.ln, h.one⟩
theorem Rq.ok {O : Nat → Prop} {s : FlS} {c : List Value} {w : World} (h : Rq O s c w) : s.Ok := by
  obtain ⟨fa, sa, va, fc, sc, vc, ar, cnt, -, h2, -⟩ := h.rb
  exact h2.ok
theorem Rq.typ {O : Nat → Prop} {s : FlS} {c : List Value} {w w' : World} (h : Rq O s c w) (hk : ∀ k, k < w.heap.size → (∀ t cs fr, w.heap[k]? = some (.cells cs t fr) → t = 5 ∨ t = 89 → w'.heap[k]? = w.heap[k]?)) : Rq O s c w' := by
  refine ⟨?_, h.ln, h.one⟩
  obtain ⟨fa, sa, va, fc, sc, vc, ar, cnt, h1, h2, h3, h4⟩ := h.rb
  have hB : ∀ {sz n : Nat} {e : TypeId} {v : Value} {xs : List Value}, e = 5 ∨ e = 89 → w.ownsRow 0 e sz v n xs → w'.ownsRow 0 e sz v n xs := fun {sz n e v xs} he ho => by
    refine own_blk ho (fun g hg => ?_)
    rcases ho.2 with ⟨rfl, -⟩ | ⟨g1, cap, cur, rfl, -, h1, -⟩
    · cases hg
    · cases hg
      exact hk g1 (own_lt ho rfl).2 _ _ _ h1 he
  exact ⟨fa, sa, va, fc, sc, vc, ar, cnt, h1, ⟨⟨hB (.inl rfl) h2.f.1, h2.f.2⟩, ⟨hB (.inl rfl) h2.g.1, h2.g.2⟩, hB (.inr rfl) h2.a, h2.q, h2.c0, h2.cn, h2.ok⟩, h3, h4⟩
def NoB (rows : List Row) : Bool := rows.all fun p => p.2.1 != 5 && p.2.1 != 89
theorem NoB.typ {w0 w : World} {rows : List Row} {K : World → Prop} (hS : Hs17 w0 rows K w) (hr : NoB rows = true) : ∀ p ∈ rows, ∀ t cs fr, w.heap[p.1]? = some (.cells cs t fr) → t = 5 ∨ t = 89 → False := by
  intro p hp t cs fr h ht
  have hA := hS.arr p hp
  unfold Arr at hA
  rw [hA] at h
  unfold NoB at hr
  rw [List.all_eq_true] at hr
  have := hr p hp
  simp only [Bool.and_eq_true, bne_iff_ne, ne_eq] at this
  simp only [Option.some.injEq, Obj.cells.injEq] at h
  obtain ⟨-, h2, -⟩ := h
  rcases ht with h3 | h3
  · exact this.1 (by first | exact h3 | exact h2.trans h3)
  · exact this.2 (by first | exact h3 | exact h2.trans h3)
def On (O : Nat → Prop) (w : World) (k : Nat) : Prop := O k ∨ w.heap.size ≤ k
theorem Hs17.keepX {w0 w w' : World} {rows : List Row} {K : World → Prop} {O O1 : Nat → Prop} {s : FlS} {c : List Value} (hS : Hs17 w0 rows K w) (hr : NoB rows = true) (hb : Below w.heap.size w w') (h : Rq (On O1 w) s c w') (hO : ∀ k, O1 k → On O w0 k) :
    Hs17 w0 rows (fun w => K w ∧ Rq (On O w0) s c w) w' := by
  have hS' := hS.later hb
  refine hS'.also (fun w'' h1 h2 => ?_)
  refine (h.mono (O' := On O w0) (fun k hk => hk.elim (hO k) (fun hk => .inr (Nat.le_trans hS.bel.size hk)))).typ (fun k hk t cs fr he ht => h2 k hk (fun p hp e => ?_))
  subst e
  exact NoB.typ hS' hr p hp t cs fr he ht
theorem slOk_blk {w w' : World} {d : Sl} (h : d.Ok w) (hs : w.heap.size ≤ w'.heap.size) (hb : ∀ x, d.a = some x → w'.heap[x.block]? = w.heap[x.block]?) : d.Ok w' := by
  refine ⟨h.len, h.le, h.mx, h.nn, h.isB, ?_⟩
  intro h0
  obtain ⟨b, off, e, hlt, hc⟩ := h.lies h0
  refine ⟨b, off, e, Nat.lt_of_lt_of_le hlt hs, fun i hi => ?_⟩
  rw [World.cell?_of_block (w := w) (w' := w') (a := ⟨b, off + i, none⟩) (hb ⟨b, off, none⟩ e)]
  exact hc i hi
theorem slOk_old {w w' : World} {d : Sl} (h : d.Ok w) (ho : Old w w') : d.Ok w' := by
  refine ⟨h.len, h.le, h.mx, h.nn, h.isB, ?_⟩
  intro h0
  obtain ⟨b, off, e, hlt, hc⟩ := h.lies h0
  refine ⟨b, off, e, Nat.lt_of_lt_of_le hlt ho.size, fun i hi => ?_⟩
  rw [World.cell?_of_block (w := w) (w' := w') (a := ⟨b, off + i, none⟩) (ho.block _ hlt)]
  exact hc i hi
theorem Rq.old {O : Nat → Prop} {s : FlS} {c : List Value} {w w' : World} (h : Rq O s c w) (ho : Old w w') : Rq O s c w' := h.typ (fun k hk _ _ _ _ _ => ho.block k hk)
def yC (b e n : Int) (d : Bool) : List Value := [.int .i64 b, .int .i64 e, .int .i64 n, .bool d]
def kkC (h : Bool) (e : Int) (s r : Value) (g l : Int) : List Value := [.bool h, .int .i64 e, s, r, .int .i64 g, .int .i64 l]
def rvC (e : Int) (s r : Value) (c : Int) : List Value := [.int .i64 e, s, r, .int .i64 c]
def frC (k : Int) (p : Value) : List Value := [.int .u8 k, p]
def prC (f j : Value) (o : Bool) (x y : List Value) : List Value := f :: j :: .bool o :: (x ++ y)
def opC (k : Int) (d s : Value) (x y : Int) : List Value := [.int .i64 k, d, s, .int .i64 x, .int .i64 y]
def nil1 : Value := .slice none 0 0
theorem at_y0 (b e n : Int) (d : Bool) : At (yC b e n d) 0 [.int .i64 b] := ⟨[], _, rfl, rfl⟩
theorem at_y1 (b e n : Int) (d : Bool) : At (yC b e n d) 1 [.int .i64 e] := ⟨[.int .i64 b], _, rfl, rfl⟩
theorem at_y2 (b e n : Int) (d : Bool) : At (yC b e n d) 2 [.int .i64 n] := ⟨[.int .i64 b, .int .i64 e], _, rfl, rfl⟩
theorem at_y3 (b e n : Int) (d : Bool) : At (yC b e n d) 3 [.bool d] := ⟨[.int .i64 b, .int .i64 e, .int .i64 n], _, rfl, rfl⟩
theorem pt_y (b e n : Int) (d : Bool) (b' e' n' : Int) (d' : Bool) : Pt (yC b e n d) 0 (yC b' e' n' d') (yC b' e' n' d') := Pt.self rfl
theorem pt_y2 (b e n : Int) (d : Bool) (n' : Int) : Pt (yC b e n d) 2 [.int .i64 n'] (yC b e n' d) := ⟨[.int .i64 b, .int .i64 e], [.int .i64 n], [.bool d], rfl, rfl, rfl, rfl⟩
theorem pt_y3 (b e n : Int) (d d' : Bool) : Pt (yC b e n d) 3 [.bool d'] (yC b e n d') := ⟨[.int .i64 b, .int .i64 e, .int .i64 n], [.bool d], [], rfl, rfl, rfl, rfl⟩
theorem one_y (b e n : Int) (d : Bool) : ∀ v ∈ yC b e n d, v.oneCell' = true := by intro v hv; simp [yC] at hv; rcases hv with rfl | rfl | rfl | rfl <;> rfl
theorem at_k0 (h : Bool) (e : Int) (s r : Value) (g l : Int) : At (kkC h e s r g l) 0 [.bool h] := ⟨[], _, rfl, rfl⟩
theorem at_k1 (h : Bool) (e : Int) (s r : Value) (g l : Int) : At (kkC h e s r g l) 1 [.int .i64 e] := ⟨[.bool h], _, rfl, rfl⟩
theorem at_k2 (h : Bool) (e : Int) (s r : Value) (g l : Int) : At (kkC h e s r g l) 2 [s] := ⟨[.bool h, .int .i64 e], _, rfl, rfl⟩
theorem at_k3 (h : Bool) (e : Int) (s r : Value) (g l : Int) : At (kkC h e s r g l) 3 [r] := ⟨[.bool h, .int .i64 e, s], _, rfl, rfl⟩
theorem at_k4 (h : Bool) (e : Int) (s r : Value) (g l : Int) : At (kkC h e s r g l) 4 [.int .i64 g] := ⟨[.bool h, .int .i64 e, s, r], _, rfl, rfl⟩
theorem at_k5 (h : Bool) (e : Int) (s r : Value) (g l : Int) : At (kkC h e s r g l) 5 [.int .i64 l] := ⟨[.bool h, .int .i64 e, s, r, .int .i64 g], _, rfl, rfl⟩
theorem pt_k (h : Bool) (e : Int) (s r : Value) (g l : Int) (h' : Bool) (e' : Int) (s' r' : Value) (g' l' : Int) : Pt (kkC h e s r g l) 0 (kkC h' e' s' r' g' l') (kkC h' e' s' r' g' l') := Pt.self rfl
theorem pt_k0 (h : Bool) (e : Int) (s r : Value) (g l : Int) (h' : Bool) : Pt (kkC h e s r g l) 0 [.bool h'] (kkC h' e s r g l) := ⟨[], [.bool h], _, rfl, rfl, rfl, rfl⟩
theorem pt_k1 (h : Bool) (e : Int) (s r : Value) (g l : Int) (e' : Int) : Pt (kkC h e s r g l) 1 [.int .i64 e'] (kkC h e' s r g l) := ⟨[.bool h], [.int .i64 e], _, rfl, rfl, rfl, rfl⟩
theorem pt_k2 (h : Bool) (e : Int) (s r : Value) (g l : Int) (s' : Value) : Pt (kkC h e s r g l) 2 [s'] (kkC h e s' r g l) := ⟨[.bool h, .int .i64 e], [s], _, rfl, rfl, rfl, rfl⟩
theorem pt_k3 (h : Bool) (e : Int) (s r : Value) (g l : Int) (r' : Value) : Pt (kkC h e s r g l) 3 [r'] (kkC h e s r' g l) := ⟨[.bool h, .int .i64 e, s], [r], _, rfl, rfl, rfl, rfl⟩
theorem pt_k4 (h : Bool) (e : Int) (s r : Value) (g l : Int) (g' : Int) : Pt (kkC h e s r g l) 4 [.int .i64 g'] (kkC h e s r g' l) := ⟨[.bool h, .int .i64 e, s, r], [.int .i64 g], _, rfl, rfl, rfl, rfl⟩
theorem one_k (h : Bool) (e : Int) (a1 a2 : Option Addr) (n1 c1 n2 c2 : Nat) (g l : Int) : ∀ v ∈ kkC h e (.slice a1 n1 c1) (.slice a2 n2 c2) g l, v.oneCell' = true := by intro v hv; simp [kkC] at hv; rcases hv with rfl | rfl | rfl | rfl | rfl | rfl <;> rfl
theorem at_v1 (e : Int) (s r : Value) (c : Int) : At (rvC e s r c) 1 [s] := ⟨[.int .i64 e], _, rfl, rfl⟩
theorem at_v2 (e : Int) (s r : Value) (c : Int) : At (rvC e s r c) 2 [r] := ⟨[.int .i64 e, s], _, rfl, rfl⟩
theorem pt_v (e : Int) (s r : Value) (c : Int) (e' : Int) (s' r' : Value) (c' : Int) : Pt (rvC e s r c) 0 (rvC e' s' r' c') (rvC e' s' r' c') := Pt.self rfl
theorem one_rv (e : Int) (a1 a2 : Option Addr) (n1 c1 n2 c2 : Nat) (c : Int) : ∀ v ∈ rvC e (.slice a1 n1 c1) (.slice a2 n2 c2) c, v.oneCell' = true := by intro v hv; simp [rvC] at hv; rcases hv with rfl | rfl | rfl | rfl <;> rfl
theorem at_f0 (k : Int) (p : Value) : At (frC k p) 0 [.int .u8 k] := ⟨[], _, rfl, rfl⟩
theorem at_f1 (k : Int) (p : Value) : At (frC k p) 1 [p] := ⟨[.int .u8 k], _, rfl, rfl⟩
theorem pt_f (k : Int) (p : Value) (k' : Int) (p' : Value) : Pt (frC k p) 0 (frC k' p') (frC k' p') := Pt.self rfl
theorem one_f (k : Int) (a : Option Addr) (n c : Nat) : ∀ v ∈ frC k (.slice a n c), v.oneCell' = true := by intro v hv; simp [frC] at hv; rcases hv with rfl | rfl <;> rfl
theorem pt_x {c c' : List Value} (h : c.length = 7) (h' : c'.length = 7) : Pt c 0 c' c' := Pt.self (by rw [h, h'])
theorem at_p0 (f j : Value) (o : Bool) (x y : List Value) : At (prC f j o x y) 0 [f] := ⟨[], _, rfl, rfl⟩
theorem at_p1 (f j : Value) (o : Bool) (x y : List Value) : At (prC f j o x y) 1 [j] := ⟨[f], _, rfl, rfl⟩
theorem at_p2 (f j : Value) (o : Bool) (x y : List Value) : At (prC f j o x y) 2 [.bool o] := ⟨[f, j], _, rfl, rfl⟩
theorem at_p3 (f j : Value) (o : Bool) (x y : List Value) : At (prC f j o x y) 3 x := ⟨[f, j, .bool o], y, rfl, rfl⟩
theorem at_p4 (f j : Value) (o : Bool) {x : List Value} (hx : x.length = 7) (y : List Value) : At (prC f j o x y) 10 y := ⟨f :: j :: .bool o :: x, [], by simp [prC], by simp [hx]⟩
theorem pt_p {x x' : List Value} (hx : x.length = 7) (hx' : x'.length = 7) (f j : Value) (o : Bool) (b e n : Int) (d : Bool) (f' j' : Value) (o' : Bool) (b' e' n' : Int) (d' : Bool) : Pt (prC f j o x (yC b e n d)) 0 (prC f' j' o' x' (yC b' e' n' d')) (prC f' j' o' x' (yC b' e' n' d')) := Pt.self (by simp [prC, hx, hx', yC])
theorem pt_p1 (f j : Value) (o : Bool) (x y : List Value) (j' : Value) : Pt (prC f j o x y) 1 [j'] (prC f j' o x y) := ⟨[f], [j], _, rfl, rfl, rfl, rfl⟩
theorem pt_p2 (f j : Value) (o : Bool) (x y : List Value) (o' : Bool) : Pt (prC f j o x y) 2 [.bool o'] (prC f j o' x y) := ⟨[f, j], [.bool o], _, rfl, rfl, rfl, rfl⟩
theorem pt_p3 (f j : Value) (o : Bool) {x x' : List Value} (hx : x.length = 7) (hx' : x'.length = 7) (y : List Value) : Pt (prC f j o x y) 3 x' (prC f j o x' y) := ⟨[f, j, .bool o], x, y, rfl, rfl, rfl, by rw [hx, hx']⟩
theorem pt_p4 (f j : Value) (o : Bool) {x : List Value} (hx : x.length = 7) (b e n : Int) (d : Bool) (b' e' n' : Int) (d' : Bool) : Pt (prC f j o x (yC b e n d)) 10 (yC b' e' n' d') (prC f j o x (yC b' e' n' d')) := ⟨f :: j :: .bool o :: x, yC b e n d, [], by simp [prC], by simp [prC], by simp [hx], rfl⟩
theorem one_p {x : List Value} (hx : ∀ u ∈ x, u.oneCell' = true) (a1 a2 : Option Addr) (o : Bool) (b e n : Int) (d : Bool) : ∀ v ∈ prC (.pointer a1) (.pointer a2) o x (yC b e n d), v.oneCell' = true := by
  intro v hv
  simp only [prC, List.mem_cons, List.mem_append] at hv
  rcases hv with rfl | rfl | rfl | hv | hv
  · rfl
  · rfl
  · rfl
  · exact hx v hv
  · exact one_y b e n d v hv
theorem at_o0 (k : Int) (d s : Value) (x y : Int) : At (opC k d s x y) 0 [.int .i64 k] := ⟨[], _, rfl, rfl⟩
theorem at_o1 (k : Int) (d s : Value) (x y : Int) : At (opC k d s x y) 1 [d] := ⟨[.int .i64 k], _, rfl, rfl⟩
theorem at_o2 (k : Int) (d s : Value) (x y : Int) : At (opC k d s x y) 2 [s] := ⟨[.int .i64 k, d], _, rfl, rfl⟩
theorem at_o3 (k : Int) (d s : Value) (x y : Int) : At (opC k d s x y) 3 [.int .i64 x] := ⟨[.int .i64 k, d, s], _, rfl, rfl⟩
theorem at_o4 (k : Int) (d s : Value) (x y : Int) : At (opC k d s x y) 4 [.int .i64 y] := ⟨[.int .i64 k, d, s, .int .i64 x], _, rfl, rfl⟩
def x0C : List Value := [.int .i64 0, .slice none 0 0, .slice none 0 0, .slice none 0 0, .int .i64 0, .int .i64 0, .bool false]
theorem Try.jX : (Try.prog.info? 28).map (fun i => (i.zero, i.size)) = some (some (aV x0C), 7) := by kernel_rfl
theorem Try.jY : (Try.prog.info? 32).map (fun i => (i.zero, i.size)) = some (some (aV (yC 0 0 0 false)), 4) := by kernel_rfl
theorem Try.jK : (Try.prog.info? 124).map (fun i => (i.zero, i.size)) = some (some (aV (kkC false 0 nil1 nil1 0 0)), 6) := by kernel_rfl
theorem Try.jV : (Try.prog.info? 79).map (fun i => (i.zero, i.size)) = some (some (aV (rvC 0 nil1 nil1 0)), 4) := by kernel_rfl
theorem Try.jF : (Try.prog.info? 136).map (fun i => (i.zero, i.size)) = some (some (aV (frC 0 nil1)), 2) := by kernel_rfl
theorem Try.jP : (Try.prog.info? 34).map (fun i => (i.zero, i.size)) = some (some (aV (prC (.pointer none) (.pointer none) false x0C (yC 0 0 0 false))), 14) := by kernel_rfl
theorem Try.jO : (Try.prog.info? 38).map (fun i => (i.zero, i.size)) = some (some (aV (opC 0 nil1 nil1 0 0)), 5) := by kernel_rfl
theorem size_of_in {t : TypeId} {z : Value} {n : Nat} (h : (Try.prog.info? t).map (fun i => (i.zero, i.size)) = some (some z, n)) : (Try.prog.info? t).map (·.size) = some n := by
  cases hq : Try.prog.info? t with
  | none => rw [hq] at h; simp at h
  | some i => rw [hq] at h; simp at h ⊢; exact h.2
theorem szX {c : List Value} (h : c.length = 7) : (Try.prog.info? 28).map (·.size) = some c.length := by rw [h]; exact size_of_in Try.jX
theorem szY (b e n : Int) (d : Bool) : (Try.prog.info? 32).map (·.size) = some (yC b e n d).length := size_of_in Try.jY
theorem szK (h : Bool) (e : Int) (s r : Value) (g l : Int) : (Try.prog.info? 124).map (·.size) = some (kkC h e s r g l).length := size_of_in Try.jK
theorem szV (e : Int) (s r : Value) (c : Int) : (Try.prog.info? 79).map (·.size) = some (rvC e s r c).length := size_of_in Try.jV
theorem szF (k : Int) (p : Value) : (Try.prog.info? 136).map (·.size) = some (frC k p).length := size_of_in Try.jF
theorem szP (f j : Value) (o : Bool) {x : List Value} (hx : x.length = 7) (b e n : Int) (d : Bool) : (Try.prog.info? 34).map (·.size) = some (prC f j o x (yC b e n d)).length := by
  have : (prC f j o x (yC b e n d)).length = 14 := by simp [prC, hx, yC]
  rw [this]; exact size_of_in Try.jP
theorem szO (k : Int) (d s : Value) (x y : Int) : (Try.prog.info? 38).map (·.size) = some (opC k d s x y).length := size_of_in Try.jO
theorem Try.j1i : (Try.prog.info? 3).map (·.size) = some 1 := by kernel_rfl
theorem Try.j1b : (Try.prog.info? 4).map (·.size) = some 1 := by kernel_rfl
theorem Try.j1s : (Try.prog.info? 22).map (·.size) = some 1 := by kernel_rfl
theorem Try.j1ss : (Try.prog.info? 77).map (·.size) = some 1 := by kernel_rfl
theorem Try.j1q : (Try.prog.info? 30).map (·.size) = some 1 := by kernel_rfl
theorem x0_len : x0C.length = 7 := rfl
theorem Try.bY0 : Try.prog.built 32 [] = some (yC 0 0 0 false).toArray := by kernel_rfl
theorem Try.bV0 : Try.prog.built 79 [] = some (rvC 0 nil1 nil1 0).toArray := by kernel_rfl
section
variable {P : Program} {fn : Func} {tmps : Array Value} {w w0 : World} {rows : List Row} {K : World → Prop}
theorem res_cct {p p' u : Tmp} {ty ty' : TypeId} (h : fn.results = #[.cell p ty, .cell p' ty', .tmp u]) (hS : Hs17 w0 rows K w) (i : Nat) {g : Nat} {T : TypeId} {c : List Value} (hi : rows[i]? = some (g, T, c)) (hp : tmps.getD p undef = .pointer (some ⟨g, 0, none⟩)) {d : TypeDesc} (hu : P.underlying ty = some d) (hd : d.isRow = true) (hz : (P.info? ty).map (·.size) = some c.length)
    (i' : Nat) {g' : Nat} {T' : TypeId} {c' : List Value} (hi' : rows[i']? = some (g', T', c')) (hp' : tmps.getD p' undef = .pointer (some ⟨g', 0, none⟩)) {d' : TypeDesc} (hu' : P.underlying ty' = some d') (hd' : d'.isRow = true) (hz' : (P.info? ty').map (·.size) = some c'.length) (v : Value) (hv : tmps.getD u undef = v) :
    (results fn tmps).run P w = .ok (.tuple #[aV c, aV c', v]) w := by
  have h1 : tmps[p]?.getD undef = .pointer (some ⟨g, 0, none⟩) := by simpa using hp
  have h2 : tmps[p']?.getD undef = .pointer (some ⟨g', 0, none⟩) := by simpa using hp'
  have h3 : tmps[u]?.getD undef = v := by simpa using hv
  simp [results, h, h1, h2, h3, asAddr, run_loadVar_hs hS i hi hu hd hz, run_loadVar_hs hS i' hi' hu' hd' hz']
theorem res_ccct {p p' p'' u : Tmp} {ty ty' ty'' : TypeId} (h : fn.results = #[.cell p ty, .cell p' ty', .cell p'' ty'', .tmp u]) (hS : Hs17 w0 rows K w) (i : Nat) {g : Nat} {T : TypeId} {c : List Value} (hi : rows[i]? = some (g, T, c)) (hp : tmps.getD p undef = .pointer (some ⟨g, 0, none⟩)) {d : TypeDesc} (hu : P.underlying ty = some d) (hd : d.isRow = true) (hz : (P.info? ty).map (·.size) = some c.length)
    (i' : Nat) {g' : Nat} {T' : TypeId} {c' : List Value} (hi' : rows[i']? = some (g', T', c')) (hp' : tmps.getD p' undef = .pointer (some ⟨g', 0, none⟩)) {d' : TypeDesc} (hu' : P.underlying ty' = some d') (hd' : d'.isRow = true) (hz' : (P.info? ty').map (·.size) = some c'.length)
    (i'' : Nat) {g'' : Nat} {T'' : TypeId} {c'' : List Value} (hi'' : rows[i'']? = some (g'', T'', c'')) (hp'' : tmps.getD p'' undef = .pointer (some ⟨g'', 0, none⟩)) {d'' : TypeDesc} (hu'' : P.underlying ty'' = some d'') (hd'' : d''.isRow = true) (hz'' : (P.info? ty'').map (·.size) = some c''.length) (v : Value) (hv : tmps.getD u undef = v) :
    (results fn tmps).run P w = .ok (.tuple #[aV c, aV c', aV c'', v]) w := by
  have h1 : tmps[p]?.getD undef = .pointer (some ⟨g, 0, none⟩) := by simpa using hp
  have h2 : tmps[p']?.getD undef = .pointer (some ⟨g', 0, none⟩) := by simpa using hp'
  have h4 : tmps[p'']?.getD undef = .pointer (some ⟨g'', 0, none⟩) := by simpa using hp''
  have h3 : tmps[u]?.getD undef = v := by simpa using hv
  simp [results, h, h1, h2, h3, h4, asAddr, run_loadVar_hs hS i hi hu hd hz, run_loadVar_hs hS i' hi' hu' hd' hz', run_loadVar_hs hS i'' hi'' hu'' hd'' hz'']
end
theorem Rq.parts {O : Nat → Prop} {s : FlS} {c : List Value} {w : World} (h : Rq O s c w) : ∃ fa sa va fc sc vc ar cnt, aV c = .agg #[.int .i64 s.size, .slice fa s.l0.length fc, .slice sa s.l1.length sc, .slice va ar.length vc, .int .i64 cnt, .int .i64 s.wr, .bool s.down] ∧ RV w (.slice fa s.l0.length fc) (.slice sa s.l1.length sc) (.slice va ar.length vc) s ar cnt ∧ (∀ x ∈ ar, x.1 ≤ 1000000) ∧ ∀ k, RSet (.slice fa s.l0.length fc) (.slice sa s.l1.length sc) (.slice va ar.length vc) k → O k := h.rb
def QC (O : Nat → Prop) (r : FlS × Int) (w : World) (e : Ending) (w' : World) : Prop :=
  ∃ c, e = .returned (.tuple #[aV c, .int .i64 r.2]) ∧ Rq (On O w) r.1 c w' ∧ Below w.heap.size w w'
theorem RC.toQ {old O : Nat → Prop} {r : FlS × Int} {w w' : World} {e : Ending} (h : RC old r w e w') (hO : ∀ k, old k → O k) : QC O r w e w' := by
  obtain ⟨v, rfl, h2, h3⟩ := h
  obtain ⟨c, rfl, hq⟩ := Rq.of h2
  exact ⟨c, rfl, hq.mono (fun k hk => hk.imp (hO k) id), h3⟩
theorem q_append {O : Nat → Prop} {s : FlS} {c : List Value} {w : World} (h : Rq O s c w) (bank : Int) (d : Sl) (hd : d.Ok w) (hdn : d.n ≤ 140737488351232) (hw : s.wr ≤ 1000000000) :
    Calls Try.prog 36 #[aV c, .int .i64 bank, d.v] w (QC O (s.append bank d.l) w) := by
  obtain ⟨fa, sa, va, fc, sc, vc, ar, cnt, h1, h2, h3, h4⟩ := h.parts
  rw [h1]
  exact (rappend_any fa sa va fc sc vc s ar cnt w h2 h3 bank d hd hdn hw (h2.ok.append bank hd.isB)).mono (fun e w' hr => RC.toQ hr h4)
theorem FlS.Ok.erase' {s : FlS} (h : s.Ok) (b : Int) : (s.erase b).1.Ok := by
  by_cases hb : b = 0 ∨ b = 1
  · exact h.erase hb
  · have : s.ref b = 120 := by unfold FlS.ref; rw [if_pos (by omega)]
    unfold FlS.erase
    rw [if_pos (by omega)]; exact h
theorem q_erase {O : Nat → Prop} {s : FlS} {c : List Value} {w : World} (h : Rq O s c w) (bank : Int) (hw : s.wr ≤ 1000000000) :
    Calls Try.prog 57 #[aV c, .int .i64 bank] w (QC O (s.erase bank) w) := by
  obtain ⟨fa, sa, va, fc, sc, vc, ar, cnt, h1, h2, h3, h4⟩ := h.parts
  rw [h1]
  exact (rerase_any fa sa va fc sc vc s ar cnt w h2 h3 bank hw (h2.ok.erase' bank)).mono (fun e w' hr => RC.toQ hr h4)
theorem FlS.Ok.arm {s : FlS} (h : s.Ok) (x y : Int) : (s.arm x y).1.Ok := by
  unfold FlS.arm
  by_cases hb : x < 1 ∨ 1000000 < x ∨ y < 0 ∨ 1048576 < y
  · rw [if_pos hb]; exact h
  rw [if_neg hb]
  by_cases hl : 64 ≤ s.q.length
  · rw [if_pos hl]; exact h
  rw [if_neg hl]
  refine ⟨h.b0, h.b1, h.z0, h.z1, h.mx, by simp; omega, fun z hz => ?_⟩
  rcases List.mem_append.1 hz with hz | hz
  · exact h.qb z hz
  · simp at hz; subst hz; simp only; omega
theorem q_arm {O : Nat → Prop} {s : FlS} {c : List Value} {w : World} (h : Rq O s c w) (x y : Int) :
    Calls Try.prog 19 #[aV c, .int .i64 x, .int .i64 y] w (QC O (s.arm x y) w) := by
  obtain ⟨fa, sa, va, fc, sc, vc, ar, cnt, h1, h2, h3, h4⟩ := h.parts
  rw [h1]
  exact (rarm_any fa sa va fc sc vc s ar cnt w h2 h3 x y (h2.ok.arm x y)).mono (fun e w' hr => RC.toQ hr h4)
theorem FlS.Ok.restart' {s : FlS} (h : s.Ok) : s.restart.1.Ok := by
  unfold FlS.restart
  split
  · exact ⟨h.b0, h.b1, h.z0, h.z1, h.mx, h.ql, h.qb⟩
  · exact h
theorem q_restart {O : Nat → Prop} {s : FlS} {c : List Value} {w : World} (h : Rq O s c w) :
    Calls Try.prog 21 #[aV c] w (QC O s.restart w) := by
  obtain ⟨fa, sa, va, fc, sc, vc, ar, cnt, h1, h2, h3, h4⟩ := h.parts
  rw [h1]
  exact (rrestart_any fa sa va fc sc vc s ar cnt w h2 h3 h2.ok.restart').mono (fun e w' hr => RC.toQ hr h4)
theorem q_read {O : Nat → Prop} {s : FlS} {c : List Value} {w : World} (h : Rq O s c w) (bank : Int) :
    Calls Try.prog 32 #[aV c, .int .i64 bank] w fun e w' => ∃ v, e = .returned (.tuple #[v, .int .i64 (s.ref bank)]) ∧ Rw w.heap.size v (s.read bank) w' ∧ Below w.heap.size w w' := by
  obtain ⟨fa, sa, va, fc, sc, vc, ar, cnt, h1, h2, h3, h4⟩ := h.parts
  rw [h1]
  have up : ∀ {u : Value} {l : List Int} {w' : World}, OwB w' u l → (∀ k, u.ownBlock = some k → w.heap.size ≤ k) → Rw w.heap.size u l w' := fun {u l w'} h0 ha => by
    refine ⟨⟨h0.1.1, ?_⟩, h0.2⟩
    rcases h0.1.2 with hx | ⟨g, cap, cur, e1, e2, e3⟩
    · exact .inl hx
    · exact .inr ⟨g, cap, cur, e1, ha g (by rw [e1]; rfl), e3⟩
  by_cases hr : s.ref bank = 0
  · have e : s.read bank = s.bk bank := by unfold FlS.read; rw [if_pos hr]
    obtain ⟨hb, hdw⟩ := ref_zero hr
    rw [e, hr]
    rcases hb with rfl | rfl
    · refine (rread_0 fa sa va fc sc vc s ar cnt w h2 hr).mono ?_
      rintro e w' ⟨u, rfl, h5, h6, h7⟩
      exact ⟨u, rfl, up h5 h6, h7⟩
    · refine (rread_1 fa sa va fc sc vc s ar cnt w h2 hr).mono ?_
      rintro e w' ⟨u, rfl, h5, h6, h7⟩
      exact ⟨u, rfl, up h5 h6, h7⟩
  · have e : s.read bank = [] := by unfold FlS.read; rw [if_neg hr]
    rw [e]
    refine (rread_no fa sa va fc sc vc s ar cnt w h2 bank hr).mono ?_
    rintro e w' ⟨rfl, h7⟩
    exact ⟨_, rfl, Rw.nil _ _, h7⟩
theorem q_room {O : Nat → Prop} {s : FlS} {c : List Value} {w : World} (h : Rq O s c w) (bank : Int) :
    Calls Try.prog 48 #[aV c, .int .i64 bank] w fun e w' => e = .returned (.tuple #[.int .i64 (s.room bank), .int .i64 (s.ref bank)]) ∧ Below w.heap.size w w' := by
  obtain ⟨fa, sa, va, fc, sc, vc, ar, cnt, h1, h2, h3, h4⟩ := h.parts
  rw [h1]
  by_cases hr : s.ref bank = 0
  · have e : s.room bank = (s.size : Int) - ((s.bk bank).length : Int) := by unfold FlS.room; rw [if_pos hr]
    obtain ⟨hb, hdw⟩ := ref_zero hr
    rw [e, hr]
    rcases hb with rfl | rfl
    · exact rroom_0 fa sa va fc sc vc s ar cnt w h2 hr
    · exact rroom_1 fa sa va fc sc vc s ar cnt w h2 hr
  · have e : s.room bank = 0 := by unfold FlS.room; rw [if_neg hr]
    rw [e]
    exact rroom_no fa sa va fc sc vc s ar cnt w h2 bank hr
theorem q_load (z : Int) (d1 d2 : Sl) (w : World) (h1 : d1.Ok w) (h2 : d2.Ok w) :
    Calls Try.prog 5 #[.int .i64 z, d1.v, d2.v] w fun e w' => ∃ c, e = .returned (aV c) ∧ Rq (fun k => w.heap.size ≤ k) (fsLoad z d1.l d2.l) c w' ∧ Below w.heap.size w w' := by
  refine (rload_any z d1 d2 w h1 h2).mono ?_
  rintro e w' ⟨v, rfl, fv, sv, av, ar, cnt, rfl, hv, hO, hb⟩
  have h6 : ∀ x ∈ ar, x.1 ≤ 1000000 := fun x hx => by
    have hq := hv.q
    have : (fsLoad z d1.l d2.l).q = [] := rfl
    rw [this] at hq
    cases ar with
    | nil => cases hx
    | cons y t => simp [qOf] at hq
  have hb2 := rb_mk (O := fun k => w.heap.size ≤ k) hv.f hv.g hv.a hv.q hv.c0 hv.cn hv.ok h6 (fun k hk => (hO k hk).elim False.elim id) (dn := (fsLoad z d1.l d2.l).down) rfl
  obtain ⟨c, hc, hq⟩ := Rq.of hb2
  exact ⟨c, by rw [← hc]; rfl, hq, hb⟩
theorem q_files {O : Nat → Prop} {s : FlS} {c : List Value} {w : World} (h : Rq O s c w) :
    Calls Try.prog 9 #[aV c] w (FPost s.l0 s.l1 w) := by
  obtain ⟨fa, sa, va, fc, sc, vc, ar, cnt, h1, h2, h3, h4⟩ := h.parts
  rw [h1]
  exact rfiles_any fa sa va fc sc vc s ar cnt w h2
set_option maxHeartbeats 4000000
set_option maxRecDepth 100000
theorem leB_rev_take (n : Nat) (x : Int) (k : Nat) (hk : k < n) : (leB n x).reverse.take (k + 1) = (leB n x).reverse.take k ++ [x / 2 ^ (8 * (n - 1 - k)) % 256] := by
 have hl : k < (leB n x).reverse.length := by simp; omega
 rw [List.take_succ_eq_append_getElem hl]
 congr 2
 simp [leB, List.getElem_reverse]
theorem shr_u64 (v : Int) (i : Nat) (hi : i < 8) : IntKind.u64.wrap v / 2 ^ (8 * i) % 256 = v / 2 ^ (8 * i) % 256 := by
 rw [IntKind.wrap_u64]
 have h : i = 0 ∨ i = 1 ∨ i = 2 ∨ i = 3 ∨ i = 4 ∨ i = 5 ∨ i = 6 ∨ i = 7 := by omega
 rcases h with rfl | rfl | rfl | rfl | rfl | rfl | rfl | rfl <;> simp only [Nat.reduceMul, Int.reducePow] <;> omega
theorem qnumber_any (v : Int) (n : Nat) (w : World) (hv : -9223372036854775808 ≤ v ∧ v ≤ 9223372036854775807) (hn : n ≤ 8) :
  Calls Try.prog 55 #[.int .i64 v, .int .i64 n] w fun e w' => ∃ u, e = .returned u ∧ Rw w.heap.size u (leB n v).reverse w' ∧ Below w.heap.size w w' := by
 obtain ⟨i0, hii, hz0, hz1, hz2⟩ := info_parts Try.infoB
 go_enter Try.func55, Try.ntmps55
 go_wp2_with fail
 go_loopw [5, 6] (fun u i wr => ∃ k : Nat, k ≤ n ∧ i = .int .i64 ((n : Int) - 1 - k) ∧ wr.ownsRow w.heap.size 5 1 u k (U8 ((leB n v).reverse.take k)) ∧ Below w.heap.size w wr) (fun _ i _ => (intOf i + 1).toNat)
 case atStart => exact ⟨0, by omega, by go_num, ⟨rfl, .inl ⟨rfl, rfl⟩⟩, Below.refl _ _⟩
 case round =>
  obtain ⟨k, hk, rfl, hown, hbl⟩ := hrel
  by_cases hlt : k < n
  ·have h0 : (0 : Int) ≤ (n : Int) - 1 - k := by omega
   have HT := hide (leB_rev_take n v k hlt)
   have HX := hide (shr_u64 v (n - 1 - k) (by omega))
   generalize v / 2 ^ (8 * (n - 1 - k)) % 256 = x at HT HX
   go_wp2_with (at_builtin; refine wpList_append_own _ rfl _ _ 22 rfl w.heap.size 5 i0 (.int .u8 0) 1 1 Try.underlying22 hii hz0 hz1 hz2 rfl (by decide) _ k (U8 ((leB n v).reverse.take k)) rfl (hown.alloc _) ⟨wr.heap.size, 0, none⟩ 1 1 [.int .u8 x] rfl rfl (by rw [unhide HX]; exact cell_new _ _ _) (one_byte _) (by unfold maxLen; omega) (by omega) (by have := hbl.size; simp; omega) ?_)
   intro v4 w4 hown4 hgrow4 _
   rw [unhide HX] at hgrow4
   have hb4 := below_app hbl (Nat.le_refl _) hown hgrow4
   rw [U8_snoc2, ← unhide HT] at hown4
   clear hgrow4 hown hbl
   go_wp2
   go_roundw
   case rel => exact ⟨k + 1, by omega, by go_num, hown4, hb4⟩
   case measure => simp [intOf]; omega
  ·have hkn : k = n := by omega
   subst hkn
   go_wp2
   go_ret
   have ht : (leB k v).reverse.take k = (leB k v).reverse := List.take_of_length_le (by simp)
   rw [ht] at hown
   exact ⟨_, rfl, ⟨by simpa using hown, (leB_isB _ _).reverse⟩, hbl⟩
theorem leV_snoc (l : List Int) (at_ k : Nat) (hk : at_ + k < l.length) : leV ((l.drop at_).take (k + 1)).reverse = leV ((l.drop at_).take k).reverse * 256 + l.getD (at_ + k) 0 := by
 have h1 : k < (l.drop at_).length := by rw [List.length_drop]; omega
 rw [List.take_succ_eq_append_getElem h1, List.reverse_append]
 have e : (l.drop at_)[k] = l.getD (at_ + k) 0 := by
  rw [List.getElem_drop, List.getD_eq_getElem?_getD, List.getElem?_eq_getElem hk]; rfl
 rw [e]
 show leV (l.getD (at_ + k) 0 :: ((l.drop at_).take k).reverse) = _
 simp only [leV]
 omega
theorem qtold_any (d : Sl) (x n : Nat) (w : World) (hd : d.Ok w) (hn : n ≤ 8) (hx : x + n ≤ d.n) :
  Calls Try.prog 76 #[d.v, .int .i64 x, .int .i64 n] w fun e w' => e = .returned (.int .u64 (leV ((d.l.drop x).take n).reverse)) ∧ Below w.heap.size w w' := by
 obtain ⟨da, dn, dc, l⟩ := d
 have hlen : l.length = dn := hd.len
 have hmx : dc ≤ maxLen := hd.mx
 have hle : dn ≤ dc := hd.le
 unfold maxLen at hmx
 have hx' : x + n ≤ dn := hx
 simp only [Sl.v]
 have HD := hide hd
 have HL := hide hlen
 have HM := hide hmx
 have HE := hide hle
 clear hd hx
 go_enter Try.func76, Try.ntmps76
 go_wp2_with fail
 go_loopw [7, 8] (fun v i wr => ∃ k : Nat, k ≤ n ∧ i = .int .i64 k ∧ v = .int .u64 (leV ((l.drop x).take k).reverse) ∧ Below w.heap.size w wr) (fun _ i _ => n - (intOf i).toNat)
 case atStart => exact ⟨0, by omega, rfl, rfl, Below.refl _ _⟩
 case round =>
  obtain ⟨k, hk, rfl, rfl, hbl⟩ := hrel
  by_cases hlt : k < n
  ·obtain ⟨ab, ao, haa, habl, hac⟩ := (unhide HD).lies (by show 0 < l.length; rw [unhide HL]; omega)
   have haa' : da = some ⟨ab, ao, none⟩ := haa
   subst haa'
   have ca : wr.cell? ⟨ab, ao + (x + k), none⟩ = some (.int .u8 (l.getD (x + k) 0)) := (hbl.cell (p := ⟨ab, ao + (x + k), none⟩) habl).trans (hac (x + k) (by show x + k < l.length; rw [unhide HL]; omega))
   have hS := leV_snoc l x k (by omega)
   have hyb : 0 ≤ l.getD (x + k) 0 ∧ l.getD (x + k) 0 ≤ 255 := by
    have h1 : x + k < l.length := by rw [unhide HL]; omega
    rw [List.getD_eq_getElem?_getD, List.getElem?_eq_getElem h1]
    exact (unhide HD).isB _ (List.getElem_mem h1)
   have hvb := leV_bd _ ((((unhide HD).isB.drop x).take k).reverse)
   have hkl : ((l.drop x).take k).reverse.length = k := by rw [List.length_reverse, List.length_take, List.length_drop]; omega
   rw [hkl] at hvb
   have hp : (2 : Int) ^ (8 * k) ≤ 72057594037927936 := by
    have h7 : 8 * k ≤ 56 := by omega
    have h8 : (2 : Nat) ^ (8 * k) ≤ 2 ^ 56 := Nat.pow_le_pow_right (by decide) h7
    have h9 : (2 : Int) ^ (8 * k) = ((2 ^ (8 * k) : Nat) : Int) := by simp
    rw [h9]
    have h10 : (2 : Nat) ^ 56 = 72057594037927936 := by decide
    omega
   have HS := hide hS
   generalize leV ((l.drop x).take k).reverse = v at *
   generalize l.getD (x + k) 0 = y at *
   have hv2 : v < 72057594037927936 := by omega
   have hw1 : IntKind.u64.wrap (v * 256) = v * 256 := by rw [IntKind.wrap_u64]; omega
   have hw2 : IntKind.u64.wrap y = y := by rw [IntKind.wrap_u64]; omega
   have hw3 : IntKind.u64.wrap (v * 256 + y) = v * 256 + y := by rw [IntKind.wrap_u64]; omega
   have hw4 : IntKind.i64.wrap ((x : Int) + (k : Int)) = ((x + k : Nat) : Int) := by rw [IntKind.wrap_i64]; omega
   have hxk : x + k < dn := by omega
   clear hS hvb hkl hp haa hac habl
   go_wp2_with fail
   refine ⟨⟨k + 1, by omega, by go_num, by rw [unhide HS], hbl⟩, ?_⟩
   simp [intOf]; omega
  ·have hkn : k = n := by omega
   subst hkn
   go_wp2
   go_ret
   exact ⟨rfl, hbl⟩
end Go.Proofs.Ytppmgfkpfamabaa
