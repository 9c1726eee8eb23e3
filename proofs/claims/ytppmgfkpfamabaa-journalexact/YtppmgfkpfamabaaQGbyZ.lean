import Derived.Test.YtppmgfkpfamabaaQGbxZ
import Derived.Test.YtppmgfkpfamabaaQGbmZ
import Derived.Test.YtppmgfkpfamabaaQGbjZ
import Derived.Test.YtppmgfkpfamabaaQGbsZ
import Derived.Test.YtppmgfkpfamabaaQGbgZ
import Derived.Test.YtppmgfkpfamabaaQGbdZ
import Derived.Test.YtppmgfkpfamabaaQGaxZ
set_option linter.unusedSimpArgs false
set_option linter.unusedVariables false
namespace Go.Proofs.Ytppmgfkpfamabaa
open Go.RowKit
def TJ (w : World) (k : Nat) : Prop := ∃ cs t fr, w.heap[k]? = some (.cells cs t fr) ∧ TyJ t = true
def Unc (w w' : World) : Prop := ∀ k, k < w.heap.size → ¬ TJ w k → w'.heap[k]? = w.heap[k]?
structure SaU (B : Nat) (w0 w w' : World) : Prop extends Sam B w w' where
  un : Unc w0 w'
theorem Hs17.fresh14 {w0 wx w : World} {rows : List Row} {K : World → Prop} (hS : Hs17 w0 rows K w) (hU : ∀ w9, K w9 → Unc wx w9) : ∀ p ∈ rows, p.1 < wx.heap.size → TJ wx p.1 := by
  intro p hp hlt
  refine Classical.byContradiction fun hn => ?_
  have hA := hS.arr p hp
  have hl := hA.lt
  unfold Arr at hA
  have h1 := hU w hS.K p.1 hlt hn
  obtain ⟨X, hX⟩ : ∃ X : Obj, X = .cells #[] (p.2.1 + 1) (0, 0) := ⟨_, rfl⟩
  have h2 := hU { w with heap := w.heap.setIfInBounds p.1 X } (hS.keep _ (by simp) (fun k hk hne => by
    have := hne p hp
    simp only [Array.getElem?_setIfInBounds]
    rw [if_neg this])) p.1 hlt hn
  simp only [Array.getElem?_setIfInBounds, if_true] at h2
  rw [if_pos hl, ← h1, hA, hX] at h2
  simp only [Option.some.injEq, Obj.cells.injEq] at h2
  exact absurd h2.2.1 (Nat.succ_ne_self _)
theorem Hs17.mapK {w0 w : World} {rows : List Row} {K K' : World → Prop} (h : Hs17 w0 rows K w) (hK : ∀ w9, K w9 → K' w9) : Hs17 w0 rows K' w := ⟨h.nd, h.arr, h.old, h.bel, fun w' h1 h2 => hK w' (h.keep w' h1 h2)⟩
theorem Hs17.cutU {B : Nat} {w : World} (h : B ≤ w.heap.size) : Hs17 (wcut B w) [] (SaU B w w) w :=
  ((Hs17.cutB (K := Sam B w) h (fun _ h => h)).also (N := Unc w) (fun w'' h1 h2 k hk _ => h2 k hk (fun p hp => by cases hp))).mapK (fun _ h => ⟨h.1, h.2⟩)
theorem Hs17.goU {B : Nat} {wx w w' : World} {rows : List Row} {K K' : World → Prop} {T : Nat → Prop} (hB : B ≤ wx.heap.size) (hS : Hs17 (wcut B wx) rows K w) (hU : ∀ w9, K w9 → Unc wx w9) (hr : NoP rows = true) (hb : Buts T w w')
    (hT : ∀ k, T k → B ≤ k ∧ (k < w.heap.size → TJ w k)) (hK : ∀ w'', SaU B wx w' w'' → K' w'') : Hs17 (wcut B wx) rows K' w' := by
  have hn := hS.fresh14 hU
  have hu := hU w hS.K
  have hz : ∀ k, k < wx.heap.size → ¬ TJ wx k → k < w.heap.size := fun k hk hk2 => by
    have h1 := hu k hk hk2
    rw [Array.getElem?_eq_getElem hk] at h1
    exact (Array.getElem?_eq_some_iff.1 h1).1
  refine ((Hs17.goT (K' := Sam B w') hB hS hr hb hT (fun _ h => h)).also (N := Unc wx) (fun w'' h1 h2 k hk hk2 => ?_)).mapK (fun w'' h => hK w'' ⟨h.1, h.2⟩)
  have hkw := hz k hk hk2
  have h3 : w'.heap[k]? = w.heap[k]? := hb.block k hkw (fun ht => hk2 (by
    obtain ⟨cs, t, fr, h4, h5⟩ := (hT k ht).2 hkw
    exact ⟨cs, t, fr, (hu k hk hk2).symm.trans h4, h5⟩))
  exact (h2 k (Nat.lt_of_lt_of_le hkw hb.size) (fun p hp e => hk2 (by rw [← e]; exact hn p hp (by rw [e]; exact hk)))).trans (h3.trans (hu k hk hk2))
theorem Hs17.goB {B : Nat} {wx w w' : World} {rows : List Row} {K : World → Prop} (hB : B ≤ wx.heap.size) (hS : Hs17 (wcut B wx) rows K w) (hU : ∀ w9, K w9 → Unc wx w9) (hr : NoP rows = true) (hb : Below w.heap.size w w') : Hs17 (wcut B wx) rows (SaU B wx w') w' :=
  Hs17.goU (T := fun _ => False) hB hS hU hr (Buts.of_below hb) (fun _ h => h.elim) (fun _ h => h)
structure XY (B : Nat) (w0 w : World) (x y : Sl) : Prop where
  b : B ≤ w.heap.size
  z : w0.heap.size ≤ w.heap.size
  xo : x.Ok w
  yo : y.Ok w
  xl : 0 < x.n → ∀ a, x.a = some a → a.block < B
  yl : 0 < y.n → ∀ a, y.a = some a → a.block < B
  xn : x.n ≤ 1048576
  yn : y.n ≤ 1048576
theorem slOk_lowB {B : Nat} {w w' : World} {d : Sl} (h : d.Ok w) (hl : 0 < d.n → ∀ a, d.a = some a → a.block < B) (hs : w.heap.size ≤ w'.heap.size) (hb : ∀ k, k < B → w'.heap[k]? = w.heap[k]?) : d.Ok w' := by
  rcases Nat.eq_zero_or_pos d.n with h0 | h0
  · exact slOk_zero h h0
  · exact slOk_blk h hs (fun x hx => hb _ (hl h0 x hx))
theorem XY.sam {B : Nat} {w0 w w' : World} {x y : Sl} (h : XY B w0 w x y) (hs : Sam B w w') : XY B w0 w' x y :=
  ⟨Nat.le_trans h.b hs.size, Nat.le_trans h.z hs.size, slOk_lowB h.xo h.xl hs.size (fun k hk => hs.lo k hk (Nat.lt_of_lt_of_le hk h.b)), slOk_lowB h.yo h.yl hs.size (fun k hk => hs.lo k hk (Nat.lt_of_lt_of_le hk h.b)), h.xl, h.yl, h.xn, h.yn⟩
theorem XY.buts {B : Nat} {w0 w w' : World} {x y : Sl} {T : Nat → Prop} (h : XY B w0 w x y) (hb : Buts T w w') (hT : ∀ k, T k → B ≤ k) : XY B w0 w' x y :=
  ⟨Nat.le_trans h.b hb.size, Nat.le_trans h.z hb.size, slOk_lowB h.xo h.xl hb.size (fun k hk => hb.block k (Nat.lt_of_lt_of_le hk h.b) (fun ht => by have := hT k ht; omega)), slOk_lowB h.yo h.yl hb.size (fun k hk => hb.block k (Nat.lt_of_lt_of_le hk h.b) (fun ht => by have := hT k ht; omega)), h.xl, h.yl, h.xn, h.yn⟩
theorem Mk.buts {B g n c : Nat} {l : List Int} {w w' : World} {T : Nat → Prop} (h : Mk B g n c l w) (hb : Buts T w w') (hg : ¬ T g) : Mk B g n c l w' := by
  obtain ⟨ys, hA, -⟩ := h.arr
  refine ⟨own_blk h.1 (fun k hk => ?_), h.2⟩
  cases hk
  exact hb.block g hA.lt hg
def FrA (S O : Nat → Prop) (jb g : Nat) : Prop := ¬ S g ∧ ¬ O g ∧ g ≠ jb
theorem PSt.fresh {B N : Nat} {w : World} {p jb g : Nat} {S O : Nat → Prop} {s : FlS} {c : List Value} {op : Bool} {b e n : Int} {d : Bool} {ja : Option Addr} {o : Option JS} (h : PSt B N w p S s O c ja op b e n d) (hj : Jn w jb p o) (hg : w.heap.size ≤ g) : FrA S O jb g :=
  ⟨fun hs => by have := h.fl.lt g hs; omega, fun ho => by have := (h.oB g ho).2.1; omega, fun e => by have := hj.lt; omega⟩
theorem FrA.next {S O S' O' : Nat → Prop} {jb g p : Nat} {s' : FlS} {o' : Option JS} {w1 w2 : World} (h : FrA S O jb g) (hst : JSt p jb S s' o' w1 w2 S') (hO : ∀ k, O' k → O k ∨ w2.heap.size ≤ k) (hg : g < w1.heap.size) : FrA S' O' jb g :=
  ⟨fun hs => (hst.at_ g hs).elim h.1 (fun h1 => by omega), fun ho => (hO g ho).elim h.2.1 (fun h1 => by have := hst.but.size; omega), h.2.2⟩
theorem PSt.but {B N : Nat} {w w' : World} {p jb g : Nat} {S O : Nat → Prop} {s : FlS} {c : List Value} {b e n : Int} {d : Bool} (h : PSt B N w p S s O c (some ⟨jb, 0, none⟩) true b e n d) (hb : Buts (· = g) w w') (hg : FrA S O jb g) : PSt B N w' p S s O c (some ⟨jb, 0, none⟩) true b e n d := by
  refine ⟨h.fl.keep hb (fun k hk e => by subst e; exact hg.1 hk), h.rq.keep hb (fun k hk e => by subst e; exact hg.2.1 hk), h.pB, fun k hk => ?_, fun ho => ?_⟩
  · obtain ⟨h1, h2, h3, cs, t, fr, h4, h5⟩ := h.oB k hk
    exact ⟨h1, Nat.lt_of_lt_of_le h2 hb.size, h3, cs, t, fr, (hb.block k h2 (fun e => by subst e; exact hg.2.1 hk)).trans h4, h5⟩
  · obtain ⟨j2, o, h1, h2, h3⟩ := h.jn ho
    cases h1
    exact ⟨jb, o, rfl, (hb.block jb h2.lt (fun e => hg.2.2 e.symm)).trans h2, h3⟩
theorem PSt.mono {B N N' : Nat} {w : World} {p : Nat} {S O : Nat → Prop} {s : FlS} {c : List Value} {ja : Option Addr} {op : Bool} {b e n : Int} {d : Bool} (h : PSt B N w p S s O c ja op b e n d) (hN : N ≤ N') : PSt B N' w p S s O c ja op b e n d :=
  ⟨h.fl, h.rq, h.pB, h.oB, fun ho => by obtain ⟨jb, o, h1, h2, h3, h4, h5⟩ := h.jn ho; exact ⟨jb, o, h1, h2, h3, h4.mono hN, h5⟩⟩
def StP (B N W p : Nat) (w : World) (r : Ending) (w' : World) : Prop :=
  ∃ S s O c ja op b ep n d, r = .returned (.tuple #[aV (prC (.pointer (some ⟨p, 0, none⟩)) (.pointer ja) op c (yC b ep n d)), .bool true]) ∧ PSt B N w' p S s O c ja op b ep n d ∧ s.wr ≤ W ∧ Below B w w' ∧ Unc w w'
theorem Mk.ge {B g n c : Nat} {l : List Int} {w : World} (h : Mk B g n c l w) : B ≤ g := by obtain ⟨_, _, _, _, _, _, h1⟩ := h.arr; exact h1
theorem Mk.lt {B g n c : Nat} {l : List Int} {w : World} (h : Mk B g n c l w) : g < w.heap.size := by obtain ⟨_, h1, _⟩ := h.arr; exact h1.lt
theorem Mk.chT {B B' g n c : Nat} {l : List Int} {w : World} (h : Mk B' g n c l w) (hB : B ≤ g) : ∀ k, k = g → B ≤ k ∧ (k < w.heap.size → ∃ cs t fr, w.heap[k]? = some (.cells cs t fr) ∧ TyJ t = true) := by
  rintro k rfl
  obtain ⟨ys, h1, -⟩ := h.arr
  exact ⟨hB, fun _ => ⟨_, _, _, h1, by decide⟩⟩
theorem PSt.fresh' {B N : Nat} {w : World} {p jb g : Nat} {S O : Nat → Prop} {s : FlS} {c : List Value} {b e n : Int} {d : Bool} (h : PSt B N w p S s O c (some ⟨jb, 0, none⟩) true b e n d) (hg : w.heap.size ≤ g) : FrA S O jb g := by
  obtain ⟨j2, o, h1, h2, -⟩ := h.jn rfl
  cases h1
  exact h.fresh h2 hg
theorem PSt.jn' {B N : Nat} {w : World} {p jb : Nat} {S O : Nat → Prop} {s : FlS} {c : List Value} {b e n : Int} {d : Bool} (h : PSt B N w p S s O c (some ⟨jb, 0, none⟩) true b e n d) : ∃ o, Jn w jb p o ∧ DJ o b e n d ∧ JOkN N s o ∧ ¬ S jb ∧ B ≤ jb := by
  obtain ⟨j2, o, h1, h2, h3⟩ := h.jn rfl
  cases h1
  exact ⟨o, h2, h3⟩
theorem chS {S : Nat → Prop} {jb k : Nat} (h : S k ∨ k = jb) : ChJ S (some ⟨jb, 0, none⟩) true k := h.elim .inl (fun e => .inr ⟨rfl, _, rfl, e.symm⟩)
theorem FrA.ne {S O : Nat → Prop} {jb g : Nat} (h : FrA S O jb g) : ¬ (S g ∨ g = jb) := fun h1 => h1.elim h.1 h.2.2
theorem FrA.sep {S O : Nat → Prop} {jb g n c : Nat} {l : List Int} (h : FrA S O jb g) : Sepd (fun k => S k ∨ k = jb) ⟨some ⟨g, 0, none⟩, n, c, l⟩ := fun _ x hx hs => by cases hx; exact h.ne hs
theorem jcompact_okO {N : Nat} {s : FlS} {o : Option JS} {l : List Int} (h : JOkN N s o) (ho : s.Ok) (hl : IsB l) (more : Nat) : (s.jcompact o l more).1.Ok := by
  cases o with
  | none => exact ho
  | some j => exact ho.jcompact (h j rfl).2.1 hl more
theorem jopen_any (p : Nat) (S : Nat → Prop) (s : FlS) (w : World) (hf : Fl w p S s) (hw : s.wr + 3 < 4000000000000000000) :
    Calls Try.prog 37 #[.pointer (some ⟨p, 0, none⟩)] w (OPost p S s w) := by
  by_cases hu : s.down = true
  · exact jopen_down p S s w hf hu
  · have hu' : s.down = false := by simpa using hu
    by_cases h0 : s.pickC.e = 0
    · exact jopen_blank p S s w hf hu' h0
    · exact jopen_up p S s w hf hu' h0 hw
theorem own_arr14 {W : World} {B e a m cc : Nat} {xs : List Value} (h : W.ownsRow B e 1 (.slice (some ⟨a, 0, none⟩) m cc) m xs) : ∃ ys, Arr W a e ys ∧ m ≤ ys.length ∧ B ≤ a := by
  obtain ⟨h0, h1⟩ := h
  rcases h1 with ⟨h, -⟩ | ⟨g', cap, cur, h, h1, h2, h3, h4, h5, h6⟩
  · cases h
  · simp only [Value.slice.injEq, Option.some.injEq, Addr.mk.injEq, true_and, and_true] at h
    obtain ⟨rfl, rfl⟩ := h
    refine ⟨cur.toList, ?_, ?_, h1⟩
    · unfold Arr; simpa using h2
    · rw [Array.length_toList, h5]; omega
theorem Rx.Own.at14 {B : Nat} {W : World} {x : Rx} (h : x.Own B W) (h0 : 0 < x.p.length) : ∃ g ys, x.a = some ⟨g, 0, none⟩ ∧ x.o = some g ∧ B ≤ g ∧ Arr W g 5 ys ∧ x.p.length ≤ ys.length := by
  obtain ⟨g, hg⟩ := own_some14 h.1 h0
  have ho := h.1
  rw [hg] at ho
  obtain ⟨ys, h1, h2, h3⟩ := own_arr14 ho
  exact ⟨g, ys, hg, by unfold Rx.o; rw [hg]; rfl, h3, h1, h2⟩
structure Fo (B : Nat) (Z : Nat → Prop) (w : World) (s0 : Sl) (ra : Option Addr) (rn rc : Nat) (xs : List Rx) : Prop where
  cn : s0.c = s0.n
  ok : ∀ s ∈ s0 :: xs.map Rx.sl, Sl.Ok w s
  n : ∀ s ∈ s0 :: xs.map Rx.sl, s.c = s.n ∧ s.n ≤ 262144
  apt : AptJ (s0 :: xs.map Rx.sl)
  pcs : Pcs w (s0 :: xs.map Rx.sl) 0
  pb : ∀ k, PB (s0 :: xs.map Rx.sl) k → B ≤ k ∧ ¬ Z k
  row : w.ownsRow B 22 1 (.slice ra rn rc) rn (xs.map Rx.v)
  rl : xs.length = rn
  rm : rn ≤ 1000000
theorem Fo.pt {B : Nat} {Z : Nat → Prop} {w : World} {s0 : Sl} {ra : Option Addr} {rn rc : Nat} {xs : List Rx} (h : Fo B Z w s0 ra rn rc xs) {s : Sl} (hs : s ∈ s0 :: xs.map Rx.sl) (h0 : 0 < s.n) : ∃ b o ys, s.a = some ⟨b, o, none⟩ ∧ Arr w b 5 ys ∧ o + s.n ≤ ys.length := by
  obtain ⟨k, hk⟩ := List.getElem?_of_mem hs
  obtain ⟨b, o, ys, h1, h2, h3, -⟩ := h.pcs k s hk h0
  exact ⟨b, o, ys, h1, h2, h3⟩
theorem Fo.chT {B B' : Nat} {Z : Nat → Prop} {w : World} {s0 : Sl} {ra : Option Addr} {rn rc : Nat} {xs : List Rx} (h : Fo B Z w s0 ra rn rc xs) (hB : B' ≤ B) : ∀ k, PB (s0 :: xs.map Rx.sl) k → B' ≤ k ∧ (k < w.heap.size → ∃ cs t fr, w.heap[k]? = some (.cells cs t fr) ∧ TyJ t = true) := by
  intro k hk
  refine ⟨Nat.le_trans hB (h.pb k hk).1, fun _ => ?_⟩
  obtain ⟨s, hs, h0, x, hx, rfl⟩ := hk
  obtain ⟨b, o, ys, h1, h2, -⟩ := h.pt hs h0
  rw [h1] at hx
  cases hx
  exact ⟨_, _, _, h2, by decide⟩
theorem Fo.lt {B : Nat} {Z : Nat → Prop} {w : World} {s0 : Sl} {ra : Option Addr} {rn rc : Nat} {xs : List Rx} (h : Fo B Z w s0 ra rn rc xs) : ∀ k, PB (s0 :: xs.map Rx.sl) k → k < w.heap.size ∧ ∀ (t : Nat) (cs : List Value), Arr w k t cs → t = 5 := by
  rintro k ⟨s, hs, h0, x, hx, rfl⟩
  obtain ⟨b, o, ys, h1, h2, -⟩ := h.pt hs h0
  rw [h1] at hx
  cases hx
  refine ⟨h2.lt, fun t cs h3 => ?_⟩
  unfold Arr at h2 h3
  rw [h2] at h3
  simp only [Option.some.injEq, Obj.cells.injEq] at h3
  exact h3.2.1.symm
theorem Fo.sam {B B' : Nat} {Z : Nat → Prop} {w w' : World} {s0 : Sl} {ra : Option Addr} {rn rc : Nat} {xs : List Rx} (h : Fo B Z w s0 ra rn rc xs) (hs : Sam B' w w') : Fo B Z w' s0 ra rn rc xs := by
  refine ⟨h.cn, fun s hm => ?_, h.n, h.apt, fun k s hk => ?_, h.pb, own_sam h.row (by decide) hs, h.rl, h.rm⟩
  · rcases Nat.eq_zero_or_pos s.n with h0 | h0
    · exact slOk_zero (h.ok s hm) h0
    · obtain ⟨b, o, ys, h1, h2, -⟩ := h.pt hm h0
      refine slOk_blk (h.ok s hm) hs.size (fun x hx => ?_)
      rw [h1] at hx
      cases hx
      exact hs.ty b h2.lt _ _ _ h2 (by decide)
  · intro h0
    obtain ⟨b, o, ys, h1, h2, h3, h4⟩ := h.pcs k s hk h0
    exact ⟨b, o, ys, h1, arr_sam h2 (by decide) hs, h3, h4⟩
theorem RecS.fo {B : Nat} {Z : Nat → Prop} {c : Cts} {W : World} {sn : Sl} {ra : Option Addr} {rn rc : Nat} {xs : List Rx} (h : RecS B Z c W sn (.slice ra rn rc) xs) (hc : CtOk c) (hrn : xs.length = rn) : Fo B Z W sn ra rn rc xs := by
  have hat : ∀ x ∈ xs, 0 < x.p.length → ∃ g ys, x.a = some ⟨g, 0, none⟩ ∧ x.o = some g ∧ B ≤ g ∧ Arr W g 5 ys ∧ x.p.length ≤ ys.length := fun x hx h0 => (h.rr.own x hx).at14 h0
  refine ⟨h.cn, fun s hs => ?_, fun s hs => ?_, ?_, fun k s hk => ?_, ?_, ?_, hrn, ?_⟩
  · rcases List.mem_cons.1 hs with rfl | hs
    · exact h.sok
    · obtain ⟨x, hx, rfl⟩ := List.mem_map.1 hs
      exact (h.rr.own x hx).ok
  · rcases List.mem_cons.1 hs with rfl | hs
    · refine ⟨h.cn, ?_⟩
      have h1 := h.sok.len
      have h2 := hc.sl
      rw [h.sl] at h1
      omega
    · obtain ⟨x, hx, rfl⟩ := List.mem_map.1 hs
      exact ⟨rfl, (h.rr.own x hx).2.2⟩
  · refine List.Pairwise.cons (fun t ht => ?_) ?_
    · obtain ⟨x, hx, rfl⟩ := List.mem_map.1 ht
      intro h0 h1 y z hy hz
      obtain ⟨a, cc, pl, -, e, -, hne⟩ := h.own h0
      obtain ⟨g, ys, e1, e2, -⟩ := hat x hx h1
      have hz' : x.a = some z := hz
      rw [e] at hy
      rw [e1] at hz'
      cases hy
      cases hz'
      intro e3
      exact hne x hx (by rw [e2]; exact congrArg some e3.symm)
    · rw [List.pairwise_map]
      refine List.Pairwise.imp_of_mem (fun {x y} hx hy hp => ?_) h.rr.pw
      intro h0 h1 u z hu hz
      obtain ⟨g, ys, e1, e2, -⟩ := hat x hx h0
      obtain ⟨g', ys', e1', e2', -⟩ := hat y hy h1
      have hu' : x.a = some u := hu
      have hz' : y.a = some z := hz
      rw [e1] at hu'
      rw [e1'] at hz'
      cases hu'
      cases hz'
      intro e3
      exact hp g e2 (by rw [e2']; exact congrArg some e3.symm)
  · rw [if_neg (Nat.not_lt_zero k)]
    intro h0
    rcases List.mem_cons.1 (List.mem_of_getElem? hk) with rfl | hs
    · obtain ⟨a, cc, pl, ho, e, -⟩ := h.own h0
      obtain ⟨ys, h1, h2, -⟩ := own_arr14 ho
      exact ⟨a, 12, ys, e, h1, by omega, fun _ _ _ hz => by cases hz⟩
    · obtain ⟨x, hx, rfl⟩ := List.mem_map.1 hs
      obtain ⟨g, ys, e1, -, -, h1, h2⟩ := hat x hx h0
      exact ⟨g, 0, ys, e1, h1, by simp only [Rx.sl]; omega, fun _ _ _ hz => by cases hz⟩
  · rintro k ⟨s, hs, h0, x, hx, rfl⟩
    rcases List.mem_cons.1 hs with rfl | hs
    · exact ⟨h.snew x hx, h.sz h0 x hx⟩
    · obtain ⟨y, hy, rfl⟩ := List.mem_map.1 hs
      obtain ⟨g, ys, e1, e2, hB, -⟩ := hat y hy h0
      have hx' : y.a = some x := hx
      rw [e1] at hx'
      cases hx'
      exact ⟨hB, h.xz y hy g e2⟩
  · have h1 := h.rr.row
    rw [hrn] at h1
    exact h1
  · have h1 := congrArg List.length h.rl
    rw [List.length_map] at h1
    have h2 := hc.rl
    have h3 := flatR_len c.rs
    have h4 := hc.fl
    omega
theorem Fo.nil (B : Nat) (Z : Nat → Prop) (w : World) : Fo B Z w ⟨none, 0, 0, []⟩ none 0 0 [] := by
  refine ⟨rfl, fun s hs => ?_, fun s hs => ?_, ?_, fun k s hk => ?_, ?_, ?_, rfl, by omega⟩
  · cases List.mem_singleton.1 hs; exact sl0_ok w
  · cases List.mem_singleton.1 hs; exact ⟨rfl, by simp only; omega⟩
  · exact List.Pairwise.cons (fun t ht => by cases ht) List.Pairwise.nil
  · cases List.mem_singleton.1 (List.mem_of_getElem? hk); intro h0; exact absurd h0 (by simp)
  · rintro k ⟨s, hs, h0, -⟩
    cases List.mem_singleton.1 hs; exact absurd h0 (by simp)
  · exact ⟨rfl, .inl ⟨rfl, rfl⟩⟩
theorem tidy_wr14 (s : FlS) (b : Int) (c : Cts) : (s.tidy b c).1.wr ≤ s.wr + 3 := by
  unfold FlS.tidy
  split
  · have := s.empty_wr (1 - b); omega
  · split
    · simp
    · have h1 := s.refill_wr (1 - b) (hdr (c.e + 1) c.rs.length c.s ++ flatR c.rs)
      split
      · omega
      · have := (s.refill (1 - b) (hdr (c.e + 1) c.rs.length c.s ++ flatR c.rs)).1.erase_wr b
        omega
theorem jopen_wr14 (s : FlS) : s.jopen.1.wr ≤ s.wr + 3 := by
  unfold FlS.jopen
  split
  · simp
  · split
    · simp
    · exact tidy_wr14 _ _ _
theorem jopen_okN {s s' : FlS} (h : s.Ok) (e : s.jopen = (s', 0)) : JOkN 100000000 s' (some s.openJ) := by
  have hu : s.down = false := by
    cases hd : s.down with
    | false => rfl
    | true => unfold FlS.jopen at e; rw [if_pos hd] at e; have e9 := congrArg Prod.snd e; simp at e9
  have h0 : s.pickC.e ≠ 0 := fun hz => by
    unfold FlS.jopen at e
    rw [if_neg (by rw [hu]; simp), if_pos hz] at e
    have e9 := congrArg Prod.snd e; simp at e9
  have hc := pick_ct h h0
  have hb := pickB_01 s
  have hb1 : 1 - s.pickB = 0 ∨ 1 - s.pickB = 1 := by omega
  have he2 := hc.e2
  have hrl := hc.rl
  unfold FlS.jopen at e
  rw [if_neg (by rw [hu]; simp), if_neg h0] at e
  unfold FlS.tidy at e
  rintro j hj
  have hj' : j = s.openJ := (Option.some.inj hj).symm
  subst hj'
  unfold FlS.openJ tidyJ
  by_cases ht : s.pickC.t.length = 0
  · rw [if_pos ht] at e ⊢
    refine ⟨?_, hb, by simp only; omega, by simp only; omega⟩
    rcases FlS.empty_spec hb1 hu with ⟨t, q, p⟩ | ⟨t, l, q, p, -⟩
    · rw [q] at e; cases e; exact p.dn
    · rw [q] at e; cases e
  · rw [if_neg ht] at e ⊢
    by_cases hm : s.pickC.e = 9223372036854775807
    · rw [if_pos hm] at e; cases e
    · rw [if_neg hm] at e
      by_cases hr : (s.refill (1 - s.pickB) (hdr (s.pickC.e + 1) s.pickC.rs.length s.pickC.s ++ flatR s.pickC.rs)).2 = 0
      · rw [if_neg (fun hn => hn hr)] at e
        refine ⟨?_, hb1, by simp only; omega, by simp only; omega⟩
        have hd := FlS.refill_up hr
        rcases FlS.erase_spec hb hd with ⟨t, q, p⟩ | ⟨t, l, q, p, -⟩
        · rw [q] at e; cases e; exact p.dn
        · rw [q] at e; cases e
      · rw [if_pos hr] at e
        exact absurd (congrArg Prod.snd e) hr
theorem jopen_f (p : Nat) (S : Nat → Prop) (s : FlS) (w : World) (hf : Fl w p S s) (hw : s.wr + 3 < 4000000000000000000) :
    Calls Try.prog 37 #[.pointer (some ⟨p, 0, none⟩)] w fun e w' => ∃ S' jo ep sa sn sc sl ra rn rc xs cut er, e = .returned (.tuple #[.pointer jo, aV (rvC ep (.slice sa sn sc) (.slice ra rn rc) cut), .int .i64 er]) ∧ FSt p S s.jopen.1 w w' S' ∧ er = s.jopen.2 ∧ Fo w.heap.size S' w' ⟨sa, sn, sc, sl⟩ ra rn rc xs ∧
      ((er ≠ 0 ∧ jo = none ∧ ep = 0 ∧ cut = 0 ∧ sl = [] ∧ xs.map Rx.p = []) ∨
       (er = 0 ∧ (∃ jp, jo = some ⟨jp, 0, none⟩ ∧ Jn w' jp p (some s.openJ) ∧ w.heap.size ≤ jp ∧ ¬ S' jp) ∧ ep = (s.openJ.ep : Int) ∧ cut = (s.pickC.t.length : Nat) ∧ sl = s.pickC.s ∧ xs.map Rx.p = s.pickC.rs)) := by
  refine (jopen_any p S s w hf hw).mono ?_
  rintro e w' ⟨S', hF, h⟩
  rcases h with ⟨h0, rfl⟩ | ⟨h0, jp, sn, rv, xs, rfl, hJ, hjp, hjs, hR⟩
  · exact ⟨S', none, 0, none, 0, 0, [], none, 0, 0, [], 0, s.jopen.2, rfl, hF, rfl, Fo.nil _ _ _, .inl ⟨h0, rfl, rfl, rfl, rfl, rfl⟩⟩
  · obtain ⟨ra, rc, rfl⟩ := own_parts hR.rr.row
    obtain ⟨a, n, c, l⟩ := sn
    have hpe : s.pickC.e ≠ 0 := fun hz => by
      unfold FlS.jopen at h0
      split at h0
      · simp at h0
      · first | (rw [if_pos hz] at h0; simp at h0) | simp at h0 | (simp [hz] at h0)
    exact ⟨S', some ⟨jp, 0, none⟩, (s.openJ.ep : Int), a, n, c, l, ra, xs.length, rc, xs, (s.pickC.t.length : Nat), 0, rfl, hF, h0.symm, hR.fo (pick_ct hf.ok hpe) rfl, .inr ⟨rfl, ⟨jp, rfl, hJ, hjp, hjs⟩, rfl, rfl, hR.sl, hR.rl⟩⟩
theorem qopen_f (O : Nat → Prop) (s : FlS) (c : List Value) (w : World) (h : Rq O s c w) (hw : s.wr + 3 ≤ 1000000000) :
    Calls Try.prog 38 #[aV c] w fun e w' => ∃ (c' : List Value) (b en n ep : Int) (a1 : Option Addr) (n1 c1 : Nat) (l1 : List Int) (a2 : Option Addr) (n2 c2 : Nat) (x2 : List Sl) (cut er : Int),
      e = .returned (.tuple #[aV c', aV (yC b en n false), aV (rvC ep (.slice a1 n1 c1) (.slice a2 n2 c2) cut), .int .i64 er]) ∧ er = s.jopen.2 ∧ Rq (On O w) s.jopen.1 c' w' ∧ Nb w.heap.size ⟨a1, n1, c1, l1⟩ w' ∧ Nbs w.heap.size ⟨a2, n2, c2, x2⟩ w' ∧ Below w.heap.size w w' ∧
      ((er ≠ 0 ∧ ep = 0 ∧ cut = 0 ∧ l1 = [] ∧ x2.map Sl.l = []) ∨
       (er = 0 ∧ b = s.openJ.bank ∧ en = s.openJ.ep ∧ n = s.openJ.cnt ∧ ep = s.openJ.ep ∧ cut = (s.pickC.t.length : Nat) ∧ l1 = s.pickC.s ∧ x2.map Sl.l = s.pickC.rs)) := by
  refine (qopen_any O s c w h hw).mono ?_
  rintro e w' ⟨c', b, en, n, ep, ⟨a1, n1, c1, l1⟩, ⟨a2, n2, c2, x2⟩, cut, rfl, h1, h2, h3, h4, h5⟩
  refine ⟨c', b, en, n, ep, a1, n1, c1, l1, a2, n2, c2, x2, cut, _, rfl, rfl, h1, h2, h3, h4, h5.imp ?_ ?_⟩
  · rintro ⟨k1, k2, k3, k4, k5⟩
    simp only at k5
    exact ⟨k1, k2, k3, k4, by rw [k5]; rfl⟩
  · rintro ⟨k1, k2⟩
    exact ⟨k1, k2⟩
theorem slsOk_of_sx {w : World} {a : Option Addr} {n c : Nat} {xs : List Sl} (h : Sx.Ok slC 1 w ⟨a, n, c, xs⟩) (hx : ∀ s ∈ xs, s.Ok w) : SlsOk w a xs := by
  refine ⟨fun hp => ?_, hx⟩
  have hl := h.len
  simp only at hl
  rw [List.length_map] at hp
  obtain ⟨b, off, e, hlt, hr⟩ := h.lies (by simp only; omega)
  simp only at e
  refine ⟨b, off, e, hlt, fun i v hv => ?_⟩
  rw [List.getElem?_map] at hv
  obtain ⟨s, hs, rfl⟩ := Option.map_eq_some_iff.1 hv
  have := hr i s hs 0 s.v rfl
  simpa using this
theorem sls_of_row {B : Nat} {w : World} {a : Option Addr} {n c : Nat} {xs : List Rx} (h : w.ownsRow B 22 1 (.slice a n c) n (xs.map Rx.v)) (hx : ∀ s ∈ xs.map Rx.sl, s.Ok w) (hl : xs.length = n) : SlsOk w a (xs.map Rx.sl) ∧ Sx.Ok slC 1 w ⟨a, n, c, xs.map Rx.sl⟩ := by
  have hc : ∀ g, a = some ⟨g, 0, none⟩ → ∀ i v, (xs.map Rx.v)[i]? = some v → w.cell? ⟨g, i, none⟩ = some v := fun g hg i v hv => by
    subst hg
    have := h.cells (g := g) rfl i v hv
    simpa [addr_add] using this
  rcases h.2 with ⟨h1, h2⟩ | ⟨g, cap, cur, h1, h2, h3, h4, h5, h6⟩
  · simp only [Value.slice.injEq] at h1
    obtain ⟨rfl, h1, rfl⟩ := h1
    have hxs : xs = [] := List.length_eq_zero_iff.1 (by omega)
    subst hxs
    subst h1
    exact ⟨⟨fun hp => absurd hp (by simp), hx⟩, rfl, Nat.le_refl _, by simp only; unfold maxLen; omega, fun _ => ⟨rfl, rfl⟩, fun h0 => absurd h0 (by simp)⟩
  · simp only [Value.slice.injEq] at h1
    obtain ⟨rfl, -, rfl⟩ := h1
    have hlt := (h.lt g rfl).2
    refine ⟨⟨fun hp => ⟨g, 0, rfl, hlt, fun i v hv => ?_⟩, hx⟩, by simp [hl], h4, h5, fun h0 => by simp at h0, fun h0 => ⟨g, 0, rfl, hlt, fun i s hs j v hv => ?_⟩⟩
    · have hv' : (xs.map Rx.v)[i]? = some v := by rw [← hv, List.map_map]; rfl
      simpa using hc g rfl i v hv'
    · simp only at hs
      rw [List.getElem?_map] at hs
      obtain ⟨x, hx1, rfl⟩ := Option.map_eq_some_iff.1 hs
      cases j with
      | zero =>
        have hv' : v = x.v := by have e9 := hv.symm; simp [slC] at e9; exact e9
        subst hv'
        have := hc g rfl i x.v (by rw [List.getElem?_map, hx1]; rfl)
        simpa using this
      | succ j => simp [slC] at hv
theorem same_f (e0 c0 : Int) (B B' : Nat) (Z : Nat → Prop) (w : World) (sa : Option Addr) (sn sc : Nat) (sl : List Int) (ra : Option Addr) (rn rc : Nat) (xs : List Rx) (a1 : Option Addr) (n1 c1 : Nat) (l1 : List Int) (a2 : Option Addr) (n2 c2 : Nat) (x2 : List Sl)
    (h : Fo B Z w ⟨sa, sn, sc, sl⟩ ra rn rc xs) (hn : Nb B' ⟨a1, n1, c1, l1⟩ w) (hq : Nbs B' ⟨a2, n2, c2, x2⟩ w) (e1 : sl = l1) (e2 : xs.map Rx.p = x2.map Sl.l) :
    Calls Try.prog 39 #[aV (rvC e0 (.slice sa sn sc) (.slice ra rn rc) c0), aV (rvC e0 (.slice a1 n1 c1) (.slice a2 n2 c2) c0)] w fun e w' => e = .returned (.bool true) ∧ Below w.heap.size w w' := by
  have hrl := h.rl
  have hrm := h.rm
  have hsls : SlsOk w ra (xs.map Rx.sl) := (sls_of_row h.row (fun s hs => h.ok s (List.mem_cons_of_mem _ hs)) hrl).1
  have h1 := sameFound_any e0 c0 ⟨sa, sn, sc, sl⟩ ⟨a1, n1, c1, l1⟩ ra a2 rc c2 (xs.map Rx.sl) x2 w (h.ok _ (List.mem_cons_self ..)) hn.ok hsls (slsOk_of_sx hq.ok (fun s hs => (hq.all s hs).ok)) (.inl (by have := (h.n _ (List.mem_cons_self ..)).2; omega)) (.inl (fun s hs => by have := (h.n s (List.mem_cons_of_mem _ hs)).2; omega)) (by rw [List.length_map]; omega) (by have := congrArg List.length e2; rw [List.length_map, List.length_map] at this; omega)
  have hx2 : x2.length = n2 := hq.ok.len
  rw [List.length_map, hrl, hx2] at h1
  refine h1.mono ?_
  rintro e w' ⟨rfl, hb⟩
  refine ⟨?_, hb⟩
  rw [rx_map]
  simp only [e1, e2, and_self, decide_true]
theorem apart_f (e0 c0 : Int) (B : Nat) (Z : Nat → Prop) (w : World) (sa : Option Addr) (sn sc : Nat) (sl : List Int) (ra : Option Addr) (rn rc : Nat) (xs : List Rx) (h : Fo B Z w ⟨sa, sn, sc, sl⟩ ra rn rc xs) :
    Calls Try.prog 40 #[aV (rvC e0 (.slice sa sn sc) (.slice ra rn rc) c0)] w fun e w' => e = .returned (.bool true) ∧ Buts (PB (⟨sa, sn, sc, sl⟩ :: xs.map Rx.sl)) w w' :=
  apart_any e0 c0 ⟨sa, sn, sc, sl⟩ ra rn rc xs w (h.ok _ (List.mem_cons_self ..)) h.cn (sls_of_row h.row (fun s hs => h.ok s (List.mem_cons_of_mem _ hs)) h.rl).2 h.rm h.ok h.n h.apt h.pcs
theorem PSt.open {B N N' : Nat} {w1 w2 w3 : World} {p : Nat} {S S' O : Nat → Prop} {s s' : FlS} {c c' : List Value} {op op' : Bool} {b e n b' e' n' : Int} {d d' : Bool} {ja ja' : Option Addr} (h : PSt B N w1 p S s O c ja op b e n d) (hB : B ≤ w1.heap.size) (hF : FSt p S s' w1 w2 S')
    (hq : Rq (On O w2) s' c' w3) (hb : Sam B w2 w3) (hj : op' = true → ∃ jb o, ja' = some ⟨jb, 0, none⟩ ∧ Jn w2 jb p o ∧ DJ o b' e' n' d' ∧ JOkN N' s' o ∧ ¬ S' jb ∧ B ≤ jb) : ∃ O', PSt B N' w3 p S' s' O' c' ja' op' b' e' n' d' ∧ ∀ k, O' k → O k ∨ w2.heap.size ≤ k := by
  obtain ⟨O', hq', hO'⟩ := hq.tight
  have hs1 := hF.but.size
  refine ⟨O', ⟨hF.fl.sam hb, hq', fun k hk => ?_, fun k hk => ?_, fun ho => ?_⟩, fun k hk => (hO' k hk).1⟩
  · rcases hF.at_ k hk with h1 | h1
    · exact h.pB k h1
    · omega
  · obtain ⟨h1, h2, cs, t, fr, h3, h4⟩ := hO' k hk
    have hlt := hF.fl.lt
    rcases h1 with h1 | h1
    · obtain ⟨k1, k2, k3, -⟩ := h.oB k h1
      refine ⟨k1, h2, fun hs => ?_, cs, t, fr, h3, h4⟩
      rcases hF.at_ k hs with h5 | h5
      · exact k3 h5
      · omega
    · refine ⟨by omega, h2, fun hs => ?_, cs, t, fr, h3, h4⟩
      have := hlt k hs
      omega
  · obtain ⟨jb, o, h1, h2, h3⟩ := hj ho
    exact ⟨jb, o, h1, h2.sam hb, h3⟩
theorem PSt.butT {B N : Nat} {w w' : World} {p : Nat} {S O T : Nat → Prop} {s : FlS} {c : List Value} {ja : Option Addr} {op : Bool} {b e n : Int} {d : Bool} (h : PSt B N w p S s O c ja op b e n d) (hb : Buts T w w') (hT : ∀ k, T k → ¬ S k ∧ ¬ O k ∧ (op = true → ∀ x, ja = some x → x.block ≠ k)) : PSt B N w' p S s O c ja op b e n d := by
  refine ⟨h.fl.keep hb (fun k hk ht => (hT k ht).1 hk), h.rq.keep hb (fun k hk ht => (hT k ht).2.1 hk), h.pB, fun k hk => ?_, fun ho => ?_⟩
  · obtain ⟨h1, h2, h3, cs, t, fr, h4, h5⟩ := h.oB k hk
    exact ⟨h1, Nat.lt_of_lt_of_le h2 hb.size, h3, cs, t, fr, (hb.block k h2 (fun ht => (hT k ht).2.1 hk)).trans h4, h5⟩
  · obtain ⟨jb, o, h1, h2, h3⟩ := h.jn ho
    exact ⟨jb, o, h1, (hb.block jb h2.lt (fun ht => (hT jb ht).2.2 ho _ h1 rfl)).trans h2, h3⟩
theorem Hs17.goLk {B : Nat} {wx w w' : World} {rows : List Row} {K : World → Prop} {s : Sl} {q : Sx Sl} (hB : B ≤ wx.heap.size) (hS : Hs17 (wcut B wx) rows K w) (hU : ∀ w9, K w9 → Unc wx w9) (hr : NoP rows = true) (hb : Below w.heap.size w w') (h : Nb w.heap.size s w') (hq : Nbs w.heap.size q w') :
    Hs17 (wcut B wx) rows (fun w9 => SaU B wx w' w9 ∧ (Nb (wcut B wx).heap.size s w9 ∧ Nbs (wcut B wx).heap.size q w9)) w' :=
  (Hs17.goB hB hS hU hr hb).also (fun w'' h1 hk => ((hS.keepLk hb h hq).keep w'' h1 hk).2)
structure Bz (B : Nat) (w0 w : World) : Prop where
  b : B ≤ w.heap.size
  z : w0.heap.size ≤ w.heap.size
theorem Bz.sam {B : Nat} {w0 w w' : World} (h : Bz B w0 w) (hs : Sam B w w') : Bz B w0 w' := ⟨Nat.le_trans h.b hs.size, Nat.le_trans h.z hs.size⟩
theorem Bz.buts {B : Nat} {w0 w w' : World} {T : Nat → Prop} (h : Bz B w0 w) (hs : Buts T w w') : Bz B w0 w' := ⟨Nat.le_trans h.b hs.size, Nat.le_trans h.z hs.size⟩
theorem Sam.drew (B : Nat) (w : World) : Sam B w w.drew := ⟨Nat.le_refl _, fun _ _ _ _ _ _ _ => rfl, fun _ _ _ => rfl⟩
def PZ (B N : Nat) (w0 : World) (p : Nat) (S : Nat → Prop) (s : FlS) (O : Nat → Prop) (c : List Value) (ja : Option Addr) (op : Bool) (b e n : Int) (d : Bool) (w : World) : Prop := PSt B N w p S s O c ja op b e n d ∧ Bz B w0 w ∧ Unc w0 w
theorem PZ.sam {B N : Nat} {w0 w w' : World} {p : Nat} {S O : Nat → Prop} {s : FlS} {c : List Value} {ja : Option Addr} {op : Bool} {b e n : Int} {d : Bool} (h : PZ B N w0 p S s O c ja op b e n d w) (hs : SaU B w0 w w') : PZ B N w0 p S s O c ja op b e n d w' := ⟨h.1.sam hs.toSam, h.2.1.sam hs.toSam, hs.un⟩
theorem Hs17.goP {B N : Nat} {wx w w' : World} {rows : List Row} {K : World → Prop} {T : Nat → Prop} {p : Nat} {S O : Nat → Prop} {s : FlS} {c : List Value} {ja : Option Addr} {op : Bool} {b e n : Int} {d : Bool} (hB : B ≤ wx.heap.size) (hS : Hs17 (wcut B wx) rows K w) (hU : ∀ w9, K w9 → Unc wx w9) (hr : NoP rows = true) (hb : Buts T w w')
    (hT : ∀ k, T k → B ≤ k ∧ (k < w.heap.size → TJ w k)) (h : PSt B N w' p S s O c ja op b e n d) (hz : Bz B wx w') : Hs17 (wcut B wx) rows (PZ B N wx p S s O c ja op b e n d) w' :=
  Hs17.goU hB hS hU hr hb hT (fun _ hs => ⟨h.sam hs.toSam, hz.sam hs.toSam, hs.un⟩)
end Go.Proofs.Ytppmgfkpfamabaa
