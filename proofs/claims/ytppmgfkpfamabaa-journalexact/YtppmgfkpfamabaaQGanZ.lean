import Derived.Test.YtppmgfkpfamabaaQGamZ
import Derived.Test.YtppmgfkpfamabaaQGafZ
import Derived.Deep.RegionHeld3
set_option maxHeartbeats 2000000
set_option maxRecDepth 100000
set_option linter.unusedSimpArgs false
set_option linter.unusedVariables false
namespace Go.Proofs.Ytppmgfkpfamabaa
open Go.RowKit
theorem rarm_bad (fa sa va : Option Addr) (fc sc vc : Nat) (s : FlS) (ar : List (Int × Int)) (cnt : Int) (w : World) (h : RV w (.slice fa s.l0.length fc) (.slice sa s.l1.length sc) (.slice va ar.length vc) s ar cnt) (x y : Int) (hx : x < 1 ∨ 1000000 < x ∨ y < 0 ∨ 1048576 < y) :
    Calls Try.prog 19 #[.agg #[.int .i64 s.size, .slice fa s.l0.length fc, .slice sa s.l1.length sc, .slice va ar.length vc, .int .i64 cnt, .int .i64 s.wr, .bool s.down], .int .i64 x, .int .i64 y] w fun e w' => e = .returned (.tuple #[.agg #[.int .i64 s.size, .slice fa s.l0.length fc, .slice sa s.l1.length sc, .slice va ar.length vc, .int .i64 cnt, .int .i64 s.wr, .bool s.down], .int .i64 2]) ∧ Below w.heap.size w w' := by
  obtain ⟨W1, hW1⟩ : ∃ W1, (w.alloc (.cells #[.int .i64 s.size, .slice fa s.l0.length fc, .slice sa s.l1.length sc, .slice va ar.length vc, .int .i64 cnt, .int .i64 s.wr, .bool s.down] 28)).alloc (.cells #[.int .i64 0, .slice none 0 0, .slice none 0 0, .slice none 0 0, .int .i64 0, .int .i64 0, .bool false] 28) = W1 := ⟨_, rfl⟩
  obtain ⟨A1, A2, B1, Z1⟩ := two_new w 28 [.int .i64 s.size, .slice fa s.l0.length fc, .slice sa s.l1.length sc, .slice va ar.length vc, .int .i64 cnt, .int .i64 s.wr, .bool s.down] [.int .i64 0, .slice none 0 0, .slice none 0 0, .slice none 0 0, .int .i64 0, .int .i64 0, .bool false]
  rw [hW1] at A1 A2 B1 Z1
  obtain ⟨c0, c1, c2, c3, c4, c5, c6⟩ := cells7 A1
  have HA1 := hide A1
  have HA2 := hide A2
  have HB1 := hide B1
  have HH := hide h
  have HZ1 := hide Z1
  clear h A1 A2 B1 Z1
  have hc : x < 1 ∨ (¬ x < 1 ∧ 1000000 < x) ∨ (¬ x < 1 ∧ ¬ 1000000 < x ∧ y < 0) ∨ (¬ x < 1 ∧ ¬ 1000000 < x ∧ ¬ y < 0 ∧ 1048576 < y) := by omega
  clear hx
  rcases hc with k1 | ⟨k1, k2⟩ | ⟨k1, k2, k3⟩ | ⟨k1, k2, k3, k4⟩
  all_goals
    go_enter Try.func19, Try.ntmps19
    go_wp2_with (first
      | (refine wpList_store_row rfl 28 (.tmp 6) (.tmp 24) rfl (w.heap.size + 1) #[.int .i64 s.size, .slice fa s.l0.length fc, .slice sa s.l1.length sc, .slice va ar.length vc, .int .i64 cnt, .int .i64 s.wr, .bool s.down] rfl rfl 28 _ (unhide HA2) Try.szF rfl (rv_one _ _ _ _ _ _ _ _ _ _ _ _ _) ?_))
    refine bodyPost_ret (results_row_tmp rfl _ _ (w.heap.size + 1) 28 #[.int .i64 s.size, .slice fa s.l0.length fc, .slice sa s.l1.length sc, .slice va ar.length vc, .int .i64 cnt, .int .i64 s.wr, .bool s.down] (0, 0) _ rfl _ rfl (setRow_heap W1 (w.heap.size + 1) _ #[.int .i64 s.size, .slice fa s.l0.length fc, .slice sa s.l1.length sc, .slice va ar.length vc, .int .i64 cnt, .int .i64 s.wr, .bool s.down] 28 _ (unhide HA2)) Try.underlying28 rfl Try.szF) rfl ?_
    have bb : Buts (· = w.heap.size + 1) W1 (W1.setRow (w.heap.size + 1) #[.int .i64 s.size, .slice fa s.l0.length fc, .slice sa s.l1.length sc, .slice va ar.length vc, .int .i64 cnt, .int .i64 s.wr, .bool s.down]) := Buts.of_but ((But.refl (w.heap.size + 1) W1).setRow _)
    exact ⟨rfl, (unhide HB1).trans (bb.below (bel_sz (unhide HB1) (Nat.le_refl _)) (fun k e9 => by omega))⟩
theorem rarm_full (fa sa va : Option Addr) (fc sc vc : Nat) (s : FlS) (ar : List (Int × Int)) (cnt : Int) (w : World) (h : RV w (.slice fa s.l0.length fc) (.slice sa s.l1.length sc) (.slice va ar.length vc) s ar cnt) (x y : Int) (k1 : ¬ x < 1) (k2 : ¬ 1000000 < x) (k3 : ¬ y < 0) (k4 : ¬ 1048576 < y) (hl : (64 : Int) ≤ ar.length) :
    Calls Try.prog 19 #[.agg #[.int .i64 s.size, .slice fa s.l0.length fc, .slice sa s.l1.length sc, .slice va ar.length vc, .int .i64 cnt, .int .i64 s.wr, .bool s.down], .int .i64 x, .int .i64 y] w fun e w' => e = .returned (.tuple #[.agg #[.int .i64 s.size, .slice fa s.l0.length fc, .slice sa s.l1.length sc, .slice va ar.length vc, .int .i64 cnt, .int .i64 s.wr, .bool s.down], .int .i64 1]) ∧ Below w.heap.size w w' := by
  obtain ⟨W1, hW1⟩ : ∃ W1, (w.alloc (.cells #[.int .i64 s.size, .slice fa s.l0.length fc, .slice sa s.l1.length sc, .slice va ar.length vc, .int .i64 cnt, .int .i64 s.wr, .bool s.down] 28)).alloc (.cells #[.int .i64 0, .slice none 0 0, .slice none 0 0, .slice none 0 0, .int .i64 0, .int .i64 0, .bool false] 28) = W1 := ⟨_, rfl⟩
  obtain ⟨A1, A2, B1, Z1⟩ := two_new w 28 [.int .i64 s.size, .slice fa s.l0.length fc, .slice sa s.l1.length sc, .slice va ar.length vc, .int .i64 cnt, .int .i64 s.wr, .bool s.down] [.int .i64 0, .slice none 0 0, .slice none 0 0, .slice none 0 0, .int .i64 0, .int .i64 0, .bool false]
  rw [hW1] at A1 A2 B1 Z1
  obtain ⟨c0, c1, c2, c3, c4, c5, c6⟩ := cells7 A1
  have HA1 := hide A1
  have HA2 := hide A2
  have HB1 := hide B1
  have HH := hide h
  have HZ1 := hide Z1
  clear h A1 A2 B1 Z1
  all_goals
    go_enter Try.func19, Try.ntmps19
    go_wp2_with (first
      | (refine wpList_store_row rfl 28 (.tmp 6) (.tmp 29) rfl (w.heap.size + 1) #[.int .i64 s.size, .slice fa s.l0.length fc, .slice sa s.l1.length sc, .slice va ar.length vc, .int .i64 cnt, .int .i64 s.wr, .bool s.down] rfl rfl 28 _ (unhide HA2) Try.szF rfl (rv_one _ _ _ _ _ _ _ _ _ _ _ _ _) ?_))
    refine bodyPost_ret (results_row_tmp rfl _ _ (w.heap.size + 1) 28 #[.int .i64 s.size, .slice fa s.l0.length fc, .slice sa s.l1.length sc, .slice va ar.length vc, .int .i64 cnt, .int .i64 s.wr, .bool s.down] (0, 0) _ rfl _ rfl (setRow_heap W1 (w.heap.size + 1) _ #[.int .i64 s.size, .slice fa s.l0.length fc, .slice sa s.l1.length sc, .slice va ar.length vc, .int .i64 cnt, .int .i64 s.wr, .bool s.down] 28 _ (unhide HA2)) Try.underlying28 rfl Try.szF) rfl ?_
    have bb : Buts (· = w.heap.size + 1) W1 (W1.setRow (w.heap.size + 1) #[.int .i64 s.size, .slice fa s.l0.length fc, .slice sa s.l1.length sc, .slice va ar.length vc, .int .i64 cnt, .int .i64 s.wr, .bool s.down]) := Buts.of_but ((But.refl (w.heap.size + 1) W1).setRow _)
    exact ⟨rfl, (unhide HB1).trans (bb.below (bel_sz (unhide HB1) (Nat.le_refl _)) (fun k e9 => by omega))⟩
structure Stf where
  kind : Int
  bank : Int
  b : Sl
  x : Int
  y : Int
def Stf.cells (s : Stf) : List Value := [.int .i64 s.kind, .int .i64 s.bank, s.b.v, .int .i64 s.x, .int .i64 s.y]
def Stf.v (s : Stf) : Value := .agg #[.int .i64 s.kind, .int .i64 s.bank, s.b.v, .int .i64 s.x, .int .i64 s.y]
def FlS.step (s : FlS) (t : Stf) : FlS × Int :=
  if t.kind = 1 then s.append t.bank t.b.l else if t.kind = 2 then s.erase t.bank else if t.kind = 5 then s.arm t.x t.y
  else if t.kind = 6 then ({ s with q := [] }, 0) else if t.kind = 7 then s.restart else (s, 0)
def LiesS (w : World) (a : Option Addr) (ss : List Stf) : Prop :=
  0 < ss.length → ∃ b off, a = some ⟨b, off, none⟩ ∧ b < w.heap.size ∧ ∀ i q, ss[i]? = some q → ∀ j v, q.cells[j]? = some v → w.cell? ⟨b, off + i * 5 + j, none⟩ = some v
structure Spf where
  a : Option Addr
  n : Nat
  c : Nat
  ss : List Stf
def Spf.v (s : Spf) : Value := .slice s.a s.n s.c
structure Spf.Ok (w : World) (s : Spf) : Prop where
  len : s.ss.length = s.n
  le : s.n ≤ s.c
  mx : s.c ≤ maxLen
  lies : LiesS w s.a s.ss
  all : ∀ q ∈ s.ss, q.b.Ok w
theorem LiesS.keep {S : Nat → Prop} {w w' : World} {a : Option Addr} {ss : List Stf} (h : LiesS w a ss) (hb : Buts S w w') (hS : 0 < ss.length → ∀ y, a = some y → ¬ S y.block) : LiesS w' a ss := by
  intro hp
  obtain ⟨b, off, rfl, hlt, hc⟩ := h hp
  exact ⟨b, off, rfl, Nat.lt_of_lt_of_le hlt hb.size, fun i q hi j v hv => (World.cell?_of_block (w := w) (w' := w') (a := ⟨b, off + i * 5 + j, none⟩) (hb.block b hlt (hS hp _ rfl))).trans (hc i q hi j v hv)⟩
theorem Spf.Ok.later {w w' : World} {s : Spf} (h : s.Ok w) (hb : Below w.heap.size w w') : s.Ok w' :=
  ⟨h.len, h.le, h.mx, h.lies.keep (Buts.of_below (S := fun _ => False) hb) (fun _ _ _ e => e), fun q hq => (h.all q hq).later hb⟩
theorem Spf.Ok.blk {w : World} {s : Spf} (h : s.Ok w) : 0 < s.ss.length → ∀ y, s.a = some y → y.block < w.heap.size := by
  intro hp y hy
  obtain ⟨b, off, ha, hlt, -⟩ := h.lies hp
  rw [ha] at hy; simp at hy; subst hy; exact hlt
theorem Spf.Ok.at_ {w : World} {s : Spf} (h : s.Ok w) {i : Nat} {q : Stf} (hi : s.ss[i]? = some q) : ∃ b off, s.a = some ⟨b, off, none⟩ ∧ b < w.heap.size ∧
    w.cell? ⟨b, off + i * 5, none⟩ = some (.int .i64 q.kind) ∧ w.cell? ⟨b, off + i * 5 + 1, none⟩ = some (.int .i64 q.bank) ∧ w.cell? ⟨b, off + i * 5 + 2, none⟩ = some (.slice q.b.a q.b.n q.b.c) ∧
    w.cell? ⟨b, off + i * 5 + 3, none⟩ = some (.int .i64 q.x) ∧ w.cell? ⟨b, off + i * 5 + 4, none⟩ = some (.int .i64 q.y) := by
  have hp : 0 < s.ss.length := by
    by_cases hl : i < s.ss.length
    · omega
    · rw [List.getElem?_eq_none (by omega)] at hi; simp at hi
  obtain ⟨b, off, ha, hlt, hc⟩ := h.lies hp
  have hc := hc i q hi
  exact ⟨b, off, ha, hlt, hc 0 _ rfl, hc 1 _ rfl, hc 2 _ rfl, hc 3 _ rfl, hc 4 _ rfl⟩
def sizN (ss : List Stf) : Nat := (ss.map fun q => q.b.n).sum
def MayP (bk : Int) (u v : List Int) (t : Stf) (e : Int) (st : Bool) : Prop :=
  if t.kind = 1 ∧ t.bank = bk then (e = 0 ∧ v = u ++ t.b.l) ∨ (e = 121 ∧ st = true ∧ ∃ m, v = u ++ t.b.l.take m) ∨ (e ≠ 0 ∧ ¬ (e = 121 ∧ st = true) ∧ v = u)
  else if t.kind = 2 ∧ t.bank = bk then (e = 0 ∧ v = []) ∨ (e = 121 ∧ st = true ∧ (v = [] ∨ ∃ m, m ≤ u.length ∧ v = tearL u m)) ∨ (e ≠ 0 ∧ ¬ (e = 121 ∧ st = true) ∧ u = v)
  else u = v
structure Rs (w : World) (vs : List Value) (ls : List (List Int)) : Prop where
  len : vs.length = ls.length
  own : ∀ (i : Nat) v l, vs[i]? = some v → ls[i]? = some l → OwB w v l
  dis : ∀ (i j : Nat) v u, vs[i]? = some v → vs[j]? = some u → i ≠ j → ∀ k, v.ownBlock = some k → u.ownBlock ≠ some k
def Far (vs : List Value) (X : Nat → Prop) : Prop := ∀ v ∈ vs, ∀ k, v.ownBlock = some k → ¬ X k
theorem Rs.nil (w : World) : Rs w [] [] := ⟨rfl, fun i v l h => by simp at h, fun i j v u h => by simp at h⟩
theorem Rs.lt {w : World} {vs : List Value} {ls : List (List Int)} (h : Rs w vs ls) : ∀ v ∈ vs, ∀ k, v.ownBlock = some k → k < w.heap.size := by
  intro v hv k hk
  obtain ⟨i, hi⟩ := List.mem_iff_getElem?.1 hv
  have hl : i < ls.length := by rw [← h.len]; exact (List.getElem?_eq_some_iff.1 hi).1
  exact (h.own i v _ hi (List.getElem?_eq_getElem hl)).lt k hk
theorem Rs.keep {S : Nat → Prop} {w w' : World} {vs : List Value} {ls : List (List Int)} (h : Rs w vs ls) (hb : Buts S w w') (hf : Far vs S) : Rs w' vs ls :=
  ⟨h.len, fun i v l hi hl => (h.own i v l hi hl).keep hb (fun g hg => hf v (List.mem_of_getElem? hi) g hg), h.dis⟩
theorem Rs.later {w w' : World} {vs : List Value} {ls : List (List Int)} (h : Rs w vs ls) (hb : Below w.heap.size w w') : Rs w' vs ls :=
  h.keep (Buts.of_below (S := fun _ => False) hb) (fun _ _ _ _ h => h)
theorem Far.mono {vs : List Value} {X Y : Nat → Prop} (h : Far vs X) (hy : ∀ k, Y k → X k) : Far vs Y := fun v hv k hk hy' => h v hv k hk (hy k hy')
theorem Rs.put {w : World} {vs : List Value} {ls : List (List Int)} (h : Rs w vs ls) {i g n cap : Nat} {l : List Int} (hi : vs[i]? = some (.slice (some ⟨g, 0, none⟩) n cap)) (hl : ls[i]? = some l) (k : Nat) (x : Int) (hx : 0 ≤ x ∧ x ≤ 255) :
    Rs (w.setCell ⟨g, k, none⟩ (.int .u8 x)) vs (ls.set i (l.set k x)) ∧ Buts (· = g) w (w.setCell ⟨g, k, none⟩ (.int .u8 x)) := by
  have bb : Buts (· = g) w (w.setCell ⟨g, k, none⟩ (.int .u8 x)) := Buts.of_but ((But.refl g w).setCell k _)
  have hio := h.own i _ l hi hl
  have hil : i < ls.length := (List.getElem?_eq_some_iff.1 hl).1
  refine ⟨⟨by simp [h.len], fun j v m hj hm => ?_, h.dis⟩, bb⟩
  by_cases hji : j = i
  · subst hji
    rw [hi] at hj
    simp only [Option.some.injEq] at hj
    subst hj
    rw [List.getElem?_set_self hil] at hm
    simp only [Option.some.injEq] at hm
    subst hm
    have ho := hio.1
    have hln : n = l.length := by
      rcases ho.2 with ⟨h1, _⟩ | ⟨g', c', cur, h1, _⟩
      · simp at h1
      · simp at h1; omega
    subst hln
    refine ⟨?_, ?_⟩
    · have := (ho.stored k (.int .u8 x)).1
      rw [show (U8 l).set k (.int .u8 x) = U8 (l.set k x) by simp [U8, List.map_set]] at this
      rw [List.length_set]
      exact this
    · intro y hy
      rcases List.mem_or_eq_of_mem_set hy with hy | rfl
      · exact hio.2 y hy
      · exact hx
  · rw [List.getElem?_set_ne (fun e => hji e.symm)] at hm
    exact (h.own j v m hj hm).keep bb (fun g' hg' e => h.dis j i v _ hj hi hji g' hg' (by rw [e]; rfl))
structure Inv (w0 w : World) (p g ga : Nat) (Sf Sg : Nat → Prop) (sf sg : FlS) (vs : List Value) (ls : List (List Int)) : Prop where
  rs : Rs w vs ls
  n10 : vs.length = 10
  arr : Arr w ga 22 vs
  ff : Fl w p Sf sf
  fg : Fl w g Sg sg
  far : Far vs (fun k => Sf k ∨ Sg k ∨ k < w0.heap.size)
  bel : Below w0.heap.size w0 w
  sz : ∀ l ∈ ls, l.length ≤ 1048576
theorem Inv.own_ne {w0 w : World} {p g ga : Nat} {Sf Sg : Nat → Prop} {sf sg : FlS} {vs : List Value} {ls : List (List Int)} (h : Inv w0 w p g ga Sf Sg sf sg vs ls) {v : Value} (hv : v ∈ vs) : v.ownBlock ≠ some ga := by
  obtain ⟨i, hi⟩ := List.mem_iff_getElem?.1 hv
  have hl : i < ls.length := by rw [← h.rs.len]; exact (List.getElem?_eq_some_iff.1 hi).1
  exact own_arr_ne (h.rs.own i v _ hi (List.getElem?_eq_getElem hl)).1 h.arr (by decide)
theorem Inv.keep {w0 w w' : World} {p g ga : Nat} {Sf Sg : Nat → Prop} {sf sg : FlS} {vs : List Value} {ls ls' : List (List Int)} (h : Inv w0 w p g ga Sf Sg sf sg vs ls) {v : Value} (hv : v ∈ vs) (hb : Buts (fun k => v.ownBlock = some k) w w') (hr : Rs w' vs ls') (hs : ∀ l ∈ ls', l.length ≤ 1048576) : Inv w0 w' p g ga Sf Sg sf sg vs ls' :=
  ⟨hr, h.n10, hb.arr h.arr (h.own_ne hv), h.ff.keep hb (fun k hk e => h.far v hv k e (.inl hk)), h.fg.keep hb (fun k hk e => h.far v hv k e (.inr (.inl hk))), h.far,
    h.bel.trans (hb.below (bel_sz h.bel (Nat.le_refl _)) (fun k e => by have := h.far v hv k e; simp only [not_or] at this; omega)), hs⟩
theorem Inv.later {w0 w w' : World} {p g ga : Nat} {Sf Sg : Nat → Prop} {sf sg : FlS} {vs : List Value} {ls : List (List Int)} (h : Inv w0 w p g ga Sf Sg sf sg vs ls) (hb : Below w.heap.size w w') : Inv w0 w' p g ga Sf Sg sf sg vs ls :=
  ⟨h.rs.later hb, h.n10, h.arr.later hb, h.ff.later hb, h.fg.later hb, h.far, bel_then h.bel (bel_sz h.bel (Nat.le_refl _)) hb, h.sz⟩
theorem Inv.at_ {w0 w : World} {p g ga : Nat} {Sf Sg : Nat → Prop} {sf sg : FlS} {vs : List Value} {ls : List (List Int)} (h : Inv w0 w p g ga Sf Sg sf sg vs ls) {i : Nat} (hi : i < 10) : ∃ a l c, vs[i]? = some (.slice a l.length c) ∧ ls[i]? = some l ∧ OwB w (.slice a l.length c) l ∧ w.cell? ⟨ga, i, none⟩ = some (.slice a l.length c) ∧ (0 < l.length → ∃ b, a = some ⟨b, 0, none⟩) ∧ l.length ≤ 1048576 ∧ l.length ≤ c ∧ c ≤ 9223372036854775807 := by
  have h1 : i < vs.length := by rw [h.n10]; exact hi
  have h2 : i < ls.length := by rw [← h.rs.len]; exact h1
  have hv := List.getElem?_eq_getElem h1
  have hl := List.getElem?_eq_getElem h2
  have ho := h.rs.own i _ _ hv hl
  obtain ⟨a, c, e⟩ := own_parts ho.1
  rw [e] at hv ho
  have hc := h.arr.cell i
  rw [hv] at hc
  obtain ⟨s, hs, hk, h3, h4, -⟩ := ho.sl
  simp only [Sl.v, Value.slice.injEq] at hs
  have hle := hk.le
  have hmx := hk.mx
  unfold maxLen at hmx
  refine ⟨a, ls[i], c, hv, hl, ho, hc, fun hp => ?_, h.sz _ (List.mem_of_getElem? hl), by omega, by omega⟩
  rcases ho.1.2 with ⟨h5, h6⟩ | ⟨b, c', cur, h5, _⟩
  · omega
  · simp only [Value.slice.injEq] at h5; exact ⟨b, h5.1⟩
def Don (i : Nat) (ls : List (List Int)) : Prop := ∀ (j : Nat) l, j < i → ls[j]? = some l → l = List.replicate l.length ((j : Int) + 1)
theorem OwB.put {w : World} {g n cap : Nat} {l : List Int} (h : OwB w (.slice (some ⟨g, 0, none⟩) n cap) l) (hn : n = l.length) (k : Nat) (x : Int) (hx : 0 ≤ x ∧ x ≤ 255) : OwB (w.setCell ⟨g, k, none⟩ (.int .u8 x)) (.slice (some ⟨g, 0, none⟩) n cap) (l.set k x) := by
  subst hn
  refine ⟨?_, ?_⟩
  · have := (h.1.stored k (.int .u8 x)).1
    rw [show (U8 l).set k (.int .u8 x) = U8 (l.set k x) by simp [U8, List.map_set]] at this
    rw [List.length_set]
    exact this
  · intro y hy
    rcases List.mem_or_eq_of_mem_set hy with hy | rfl
    · exact h.2 y hy
    · exact hx
end Go.Proofs.Ytppmgfkpfamabaa
