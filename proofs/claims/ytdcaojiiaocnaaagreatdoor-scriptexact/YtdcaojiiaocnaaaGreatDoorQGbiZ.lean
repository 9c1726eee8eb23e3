import Derived.Test.YtdcaojiiaocnaaaGreatDoorQGbhZ
import Derived.Lib.IndexLaws
import Derived.Test.YtdcaojiiaocnaaaGreatDoorQGbbZ
set_option linter.unusedSimpArgs false
set_option linter.unusedVariables false
namespace Go.Proofs.YtdcaojiiaocnaaaGreatDoor
open Go.RowKit Go.Shelf

attribute [local go_sem] Oper.semAt_some

/-! bytes.SplitSeq at a line end: what comes. -/
def outL (ps : List (List Int)) : List (List Int) := ps.foldl flushL []
def T25 (z k : Nat) : Prop := k < z + 5 ∧ k ≠ z
/-- what lies where the iterator is gone through: the line end, what is left, the line end's box, a 0 -/
structure Its (z : Nat) (v : Value) (W : World) : Prop where
  sep : W.heap[z + 1]? = some (.cells #[.int .u8 10] 5 (0, 0))
  s : W.heap[z + 2]? = some (.cells #[v] 28 (0, 0))
  p : W.heap[z + 3]? = some (.cells #[.slice (some ⟨z + 1, 0, none⟩) 1 1] 28 (0, 0))
  n : W.heap[z + 4]? = some (.cells #[.int .i64 0] 3 (0, 0))
theorem Its.keep {z : Nat} {v : Value} {W W' : World} (h : Its z v W) (hk : ∀ k, T25 z k → W'.heap[k]? = W.heap[k]?) : Its z v W' :=
  ⟨(hk _ ⟨by omega, by omega⟩).trans h.sep, (hk _ ⟨by omega, by omega⟩).trans h.s, (hk _ ⟨by omega, by omega⟩).trans h.p, (hk _ ⟨by omega, by omega⟩).trans h.n⟩
theorem Its.set {z : Nat} {v : Value} {W : World} (h : Its z v W) (v' : Value) : Its z v' (W.setCell ⟨z + 2, 0, none⟩ v') := by
  have ho : ∀ k, k ≠ z + 2 → (W.setCell ⟨z + 2, 0, none⟩ v').heap[k]? = W.heap[k]? := fun k hk => Below.heap_setCell _ _ _ _ hk
  refine ⟨(ho _ (by omega)).trans h.sep, ?_, (ho _ (by omega)).trans h.p, (ho _ (by omega)).trans h.n⟩
  exact Boxed.set v' (W := W) (B := z + 2) (t := 28) h.s
def restN (z : Nat) (W : World) : Nat := match W.cell? ⟨z + 2, 0, none⟩ with | some (.slice _ n _) => n + 1 | _ => 0
theorem ix_spec {L : List Int} (hb : IsB L) : (Lib.indexByte (Lib.bytesOf L) 10 = -1 ∧ ∀ c ∈ L, c ≠ 10) ∨ (∃ i : Nat, Lib.indexByte (Lib.bytesOf L) 10 = i ∧ i < L.length ∧ (∀ c ∈ L.take i, c ≠ 10) ∧ L[i]? = some 10) := by
  have hat : ∀ (j : Nat) (c : Int), L[j]? = some c → (Lib.bytesOf L)[j]? = some (UInt8.ofNat c.toNat) := fun j c h => by
    unfold Lib.bytesOf; rw [List.getElem?_map, h]; rfl
  rcases (show Lib.indexByte (Lib.bytesOf L) 10 < 0 ∨ 0 ≤ Lib.indexByte (Lib.bytesOf L) 10 by omega) with h | h
  · have h1 := Lib.indexByte_ge (Lib.bytesOf L) 10
    have h2 : Lib.indexByte (Lib.bytesOf L) 10 = -1 := by omega
    refine .inl ⟨h2, fun c hc e => ?_⟩
    obtain ⟨j, hj, rfl⟩ := List.getElem_of_mem hc
    have h3 := Lib.indexByte_none h2 j
    rw [hat j _ (List.getElem?_eq_getElem hj), e] at h3
    exact h3 rfl
  · obtain ⟨i, hi⟩ := Int.eq_ofNat_of_zero_le h
    obtain ⟨h1, h2⟩ := Lib.indexByte_some hi
    have hil : i < L.length := by
      have := (List.getElem?_eq_some_iff.1 h1).1
      unfold Lib.bytesOf at this; rwa [List.length_map] at this
    have hB : ∀ (j : Nat) (hj : j < L.length), 0 ≤ L[j] ∧ L[j] ≤ 255 := fun j hj => hb _ (List.getElem_mem hj)
    refine .inr ⟨i, hi, hil, fun c hc e => ?_, ?_⟩
    · obtain ⟨j, hj, rfl⟩ := List.getElem_of_mem hc
      rw [List.length_take] at hj
      rw [List.getElem_take] at e
      have h3 := h2 j (by omega)
      rw [hat j _ (List.getElem?_eq_getElem (by omega)), e] at h3
      exact h3 rfl
    · rw [hat i _ (List.getElem?_eq_getElem hil)] at h1
      rw [List.getElem?_eq_getElem hil]
      have h4 := hB i hil
      have h5 : (UInt8.ofNat L[i].toNat).toNat = 10 := by rw [Option.some.inj h1]; rfl
      rw [UInt8.toNat_ofNat'] at h5
      congr 1; omega
set_option maxHeartbeats 4000000 in
set_option maxRecDepth 100000 in
theorem it_any (a : Option Addr) (n c : Nat) (l : List Int) (z : Nat) (w W0 : World) (hs : Su w ⟨a, n, c, l⟩) (hb : IsB l) (hz : w.heap.size = z) (hw : ∀ k, k < z → W0.heap[k]? = w.heap[k]?) (hz5 : W0.heap.size = z + 5) (hI : Its z (.slice a n c) W0) (n' : Nat) (hn' : 1 ≤ n') (G : Sx Int → Prop)
    (hG : ∀ (ca : Option Addr) (m d k : Nat), Su w ⟨ca, m, d, l.drop k⟩ → ∀ i, i ≤ m → G ⟨ca, i, i, (l.drop k).take i⟩) :
    ∀ (lp : Nat) (J : List (Sx Int) → World → Prop) (W : World), Below W0.heap.size W0 W → (∀ s X v, J s X → J s (X.setCell ⟨z + 2, 0, none⟩ v)) →
      (∀ pre x X, G x → J pre X → pre.length < n + 2 → YieldAt Fence.wide (n' - 1) Tryz.prog lp #[x.v] X fun e X' => e = .returned (.bool true) ∧ J (pre ++ [x]) X' ∧ ∀ k, T25 z k → X'.heap[k]? = X.heap[k]?) →
      J [] W → CallsIn Fence.wide n' Tryz.prog 68 (#[.func (.yield lp) #[] #[]] ++ #[.pointer (some ⟨z + 3, 0, none⟩), .pointer (some ⟨z + 2, 0, none⟩), .pointer (some ⟨z + 4, 0, none⟩)]) W fun e W' => (∃ v, e = .returned v) ∧ ∃ xs : List (Sx Int), outL (xs.map (·.xs)) = linesL l ∧ J xs W' := by
  intro lp J W hW hJs hY hJ0
  have hIW : Its z (.slice a n c) W := hI.keep (fun k hk => hW.block k (by have := hk.1; omega))
  have hwW : ∀ k, k < z → W.heap[k]? = w.heap[k]? := fun k hk => (hW.block k (by omega)).trans (hw k hk)
  clear hI hw hW
  have cp := Lib.cell_of_heap hIW.p 0
  have cs := Lib.cell_of_heap hIW.s 0
  simp at cp cs
  refine callsIn_of_wp Tryz.func68 rfl trivial ?_ rfl
  simp only [Tryz.ntmps68, List.size_toArray, List.length_cons, List.length_nil, Nat.reduceAdd, Nat.reduceSub, Array.replicate_succ, Array.replicate_zero, List.push_toArray, List.append_toArray, List.nil_append, List.cons_append]
  gi_wp2
  have hst0 : stLn ([] : List Int) = ([], []) := rfl
  gi_loopw [] (fun wr => ∃ (k m d : Nat) (ca : Option Addr) (pre : List (Sx Int)), Its z (.slice ca m d) wr ∧ (∀ j, j < z → wr.heap[j]? = w.heap[j]?) ∧ Su w ⟨ca, m, d, l.drop k⟩ ∧ k + m = n ∧ pre.length ≤ k ∧ stLn (l.take k) = (outL (pre.map (·.xs)), []) ∧ J pre wr) (fun wr => restN z wr)
  case atStart => exact ⟨0, n, c, a, [], hIW, hwW, hs, by omega, Nat.le_refl _, rfl, hJ0⟩
  case round =>
    clear hJ0 hIW hwW cp cs
    obtain ⟨k, m, d, ca, pre, hIr, hwr, hsr, hkm, hpl, hst, hJr⟩ := hrel
    have cp := Lib.cell_of_heap hIr.p 0
    have cs := Lib.cell_of_heap hIr.s 0
    have cn := Lib.cell_of_heap hIr.n 0
    have c1 := Lib.cell_of_heap hIr.sep 0
    simp at cp cs cn c1
    have hzs : z + 4 < wr.heap.size := (Array.getElem?_eq_some_iff.1 hIr.n).1
    have hsr' : Su wr ⟨ca, m, d, l.drop k⟩ := hsr.old ⟨by omega, fun j hj => hwr j (by omega)⟩
    have hlen : (l.drop k).length = m := hsr.len
    have hmd : m ≤ d := hsr.le
    have hmdz : (m : Int) ≤ (d : Int) := by omega
    have hd63 : (d : Int) ≤ 9223372036854775807 := by have := hsr.mx; simp only [maxLen] at this; omega
    obtain ⟨ix, hixe⟩ : ∃ ix, Lib.indexByte (Lib.bytesOf (l.drop k)) 10 = ix := ⟨_, rfl⟩
    have hix : Calls Tryz.prog 70 #[.slice ca m d, .slice (some ⟨z + 1, 0, none⟩) 1 1] wr fun e w' => e = .returned (.int .i64 ix) ∧ w' = wr := by
      rw [← hixe]
      cases ca with
      | none =>
        obtain ⟨rfl, rfl⟩ : m = 0 ∧ d = 0 := hsr.nn rfl
        have hnil : l.drop k = [] := List.eq_nil_of_length_eq_zero hlen
        rw [hnil]
        exact Tryz.bytes_Index_one_nil (z + 1) 0 1 10 wr c1
      | some ad =>
        refine Tryz.bytes_Index_one_at ad m d (z + 1) 0 1 (l.drop k) 10 wr hlen (fun i hi => ?_) c1
        obtain ⟨b, off, h1, -, h3⟩ := hsr'.lies (show 0 < m by omega)
        have h1' : ad = ⟨b, off, none⟩ := Option.some.inj h1
        subst h1'
        have hil : i < (l.drop k).length := by rw [hlen]; exact hi
        have h9 := h3 i ((l.drop k)[i]) (List.getElem?_eq_getElem hil) 0 _ rfl
        have h8 : (l.drop k).getD i 0 = (l.drop k)[i] := getD_lt _ _ hil
        rw [h8]
        simpa [addr_add] using h9
    have hsp := ix_spec (L := l.drop k) (fun c hc => hb c (List.mem_of_mem_drop hc))
    rw [hixe] at hsp
    clear hixe
    rcases hsp with ⟨rfl, hno⟩ | ⟨i, rfl, hil, hno, h10⟩
    · -- the last piece
      have hGx : G ⟨ca, m, m, l.drop k⟩ := by
        have := hG ca m d k hsr m (Nat.le_refl _)
        rwa [List.take_of_length_le (by omega)] at this
      obtain ⟨fn, tmps, assign, body, hy, hR⟩ := hY pre ⟨ca, m, m, l.drop k⟩ wr hGx hJr (by omega)
      simp only [Sx.v] at hy
      gi_wp2_with (refine ⟨trivial, ?_⟩; gi_at_call 70; refine (callsIn_wide.2 hix).mono ?_; rintro e w9 ⟨rfl, h9⟩; rw [h9]; clear h9)
      refine hR.mono ?_
      rintro e W3 ⟨rfl, hJ3, hk3⟩
      gi_wp2
      go_end0
      refine ⟨⟨_, rfl⟩, pre ++ [⟨ca, m, m, l.drop k⟩], ?_, hJ3⟩
      have e1 : stLn l = (outL (pre.map (·.xs)), l.drop k) := by
        have e2 : stLn l = (l.drop k).foldl stepLn (stLn (l.take k)) := by
          unfold stLn; rw [← List.foldl_append, List.take_append_drop]
        rw [e2, hst, fold_ln _ _ hno]; rfl
      unfold linesL
      rw [e1, List.map_append, List.map_cons, List.map_nil]
      unfold outL
      rw [List.foldl_append]; rfl
    · -- a piece, and more behind it
      rw [hlen] at hil
      have hGx : G ⟨ca, i, i, (l.drop k).take i⟩ := hG ca m d k hsr i (by omega)
      obtain ⟨fn, tmps, assign, body, hy, hR⟩ := hY pre ⟨ca, i, i, (l.drop k).take i⟩ wr hGx hJr (by omega)
      simp only [Sx.v] at hy
      have hiz : (i : Int) ≤ (d : Int) := by omega
      have hi1 : (i : Int) + 1 ≤ (m : Int) := by omega
      have hw0 : IntKind.i64.wrap (i : Int) = (i : Int) := wi_of24 (by omega) (by omega)
      have hw1 : IntKind.i64.wrap ((i : Int) + 1) = (i : Int) + 1 := wi_of24 (by omega) (by omega)
      obtain ⟨ad, rfl⟩ : ∃ ad, ca = some ad := by
        cases ca with
        | none => have := hsr.nn rfl; simp only at this; omega
        | some ad => exact ⟨ad, rfl⟩
      obtain ⟨b, off, h1, -, -⟩ := hsr.lies (show 0 < m by omega)
      have h1' : ad = ⟨b, off, none⟩ := Option.some.inj h1
      subst h1'
      clear h1
      gi_wp2_with (refine ⟨trivial, ?_⟩; gi_at_call 70; refine (callsIn_wide.2 hix).mono ?_; rintro e w9 ⟨rfl, h9⟩; rw [h9]; clear h9)
      refine hR.mono ?_
      rintro e W3 ⟨rfl, hJ3, hk3⟩
      have hI3 := hIr.keep hk3
      have cp3 := Lib.cell_of_heap hI3.p 0
      have cs3 := Lib.cell_of_heap hI3.s 0
      have fs3 := Lib.frozen_of_heap hI3.s 0
      simp at cp3 cs3 fs3
      have hcut : cutA (some ⟨b, off, none⟩) d (i + 1) = (if d = i + 1 then some ⟨b, off, none⟩ else some ⟨b, off + (i + 1), none⟩) := by
        unfold cutA
        split
        · rfl
        · simp [addr_add]
      have hsu := su_cutM hsr (i := i + 1) (e := m) (by omega) (Nat.le_refl _)
      rw [hcut, List.drop_drop, List.take_of_length_le (by rw [List.length_drop]; rw [List.length_drop] at hlen; omega)] at hsu
      have hpc : (l.drop k).take (i + 1) = (l.drop k).take i ++ [10] := by rw [List.take_add_one, h10]; rfl
      have hst' : stLn (l.take (k + (i + 1))) = (outL ((pre ++ [(⟨some ⟨b, off, none⟩, i, i, (l.drop k).take i⟩ : Sx Int)]).map (·.xs)), []) := by
        have e2 : stLn (l.take (k + (i + 1))) = ((l.drop k).take (i + 1)).foldl stepLn (stLn (l.take k)) := by
          unfold stLn; rw [← List.foldl_append, ← List.take_add]
        rw [e2, hst, hpc, List.foldl_append, fold_ln _ _ hno, List.map_append, List.map_cons, List.map_nil]
        unfold outL
        rw [List.foldl_append]; rfl
      clear hcut hpc hst
      gi_wp2
      go_roundw
      case rel =>
        refine ⟨k + (i + 1), m - (i + 1), d - (i + 1), _, pre ++ [⟨some ⟨b, off, none⟩, i, i, (l.drop k).take i⟩], hI3.set _, fun j hj => ?_, hsu, by omega, by rw [List.length_append, List.length_cons, List.length_nil]; omega, hst', hJs _ _ _ hJ3⟩
        exact (Below.heap_setCell _ _ _ _ (by show j ≠ z + 2; omega)).trans ((hk3 j ⟨by omega, by omega⟩).trans (hwr j hj))
      case measure =>
        have c9 := Lib.cell_of_heap (hI3.set (.slice (if d = i + 1 then some ⟨b, off, none⟩ else some ⟨b, off + (i + 1), none⟩) (m - (i + 1)) (d - (i + 1)))).s 0
        simp at c9
        unfold restN
        simp only [cs, c9]
        omega

/-! Lines: what has been told. -/
/-- a list of bytes each in memory of its own, from block B on -/
structure Osb (W : World) (B : Nat) (v : Value) (ss : List (Sx Int)) : Prop where
  own : W.ownsRow B 28 1 v ss.length (ss.map (·.v))
  el : ∀ s ∈ ss, Ou W B s.v s.xs
  ap : ss.Pairwise (fun s s' => ∀ k, s.v.ownBlock = some k → s'.v.ownBlock ≠ some k)
theorem own_cells {w : World} {base e sz n : Nat} {v : Value} {xs : List Value} (h : w.ownsRow base e sz v n xs) {k : Nat} (hk : v.ownBlock = some k) : base ≤ k ∧ k < w.heap.size ∧ ∃ cur, w.heap[k]? = some (.cells cur e (0, 0)) := by
  refine ⟨(h.lt k hk).1, (h.lt k hk).2, ?_⟩
  rcases h.2 with ⟨rfl, -⟩ | ⟨g, cap, cur, rfl, h2, h3, h4⟩
  · cases hk
  · obtain rfl : g = k := Option.some.inj hk
    exact ⟨cur, h3⟩
theorem Osb.keep {W W' : World} {B : Nat} {v : Value} {ss : List (Sx Int)} (h : Osb W B v ss) (hk : ∀ k o, W.heap[k]? = some o → o.isCells = true → B ≤ k → W'.heap[k]? = some o) : Osb W' B v ss := by
  refine ⟨own_blk h.own (fun g hg => ?_), fun s hs => own_blk (h.el s hs) (fun g hg => ?_), h.ap⟩
  · obtain ⟨h1, -, cur, h3⟩ := own_cells h.own hg
    rw [h3]; exact hk g _ h3 rfl h1
  · obtain ⟨h1, -, cur, h3⟩ := own_cells (h.el s hs) hg
    rw [h3]; exact hk g _ h3 rfl h1
theorem Osb.mono {W : World} {B B' : Nat} {v : Value} {ss : List (Sx Int)} (h : Osb W B v ss) (hB : B' ≤ B) : Osb W B' v ss := by
  refine ⟨⟨h.own.1, ?_⟩, fun s hs => own_mono25 (h.el s hs) hB, h.ap⟩
  rcases h.own.2 with h1 | ⟨g, cap, cur, h1, h2, h3⟩
  · exact .inl h1
  · exact .inr ⟨g, cap, cur, h1, Nat.le_trans hB h2, h3⟩
def LnI (z : Nat) (w : World) (out : List (List Int)) (X : World) : Prop := ∃ (tv : Value) (ss : List (Sx Int)), Boxed X z 24 tv ∧ Osb X (z + 5) tv ss ∧ ss.map (·.xs) = out ∧ Below z w X ∧ z + 5 ≤ X.heap.size
theorem LnI.keep {z : Nat} {w X X' : World} {out : List (List Int)} (h : LnI z w out X) (hb : Below z X X') (hk : ∀ k o, X.heap[k]? = some o → o.isCells = true → (k = z ∨ z + 5 ≤ k) → X'.heap[k]? = some o) (hsz : X.heap.size ≤ X'.heap.size) : LnI z w out X' := by
  obtain ⟨tv, ss, h1, h2, h3, h4, h5⟩ := h
  exact ⟨tv, ss, hk z _ h1 rfl (.inl rfl), h2.keep (fun k o hko ho hB => hk k o hko ho (.inr hB)), h3, h4.trans hb, Nat.le_trans h5 hsz⟩
theorem LnI.alloc {z : Nat} {w X : World} {out : List (List Int)} (h : LnI z w out X) (o : Obj) : LnI z w out (X.alloc o) := by
  have h5 : z + 5 ≤ X.heap.size := h.choose_spec.choose_spec.2.2.2.2
  exact h.keep ((Below.refl _ _).alloc (by omega) o) (fun k o' hk _ _ => (Below.heap_alloc X o k (Array.getElem?_eq_some_iff.1 hk).1).trans hk) (by simp)
theorem LnI.put {z : Nat} {w X : World} {out : List (List Int)} (h : LnI z w out X) {l : Nat} {o : Obj} (o' : Obj) (hl : z + 5 ≤ l) (hlo : X.heap[l]? = some o) (ho : o.isCells = false) : LnI z w out (X.putObj l o') := by
  refine h.keep ?_ (fun k o2 hk ho2 _ => ?_) ?_
  · exact (Below.refl z X).grown (grownBy_putObj' X l o') (by have := (Array.getElem?_eq_some_iff.1 hlo).1; omega) (fun k e => by cases e; omega)
  · refine (World.putObj_heap_other (fun e => ?_)).trans hk
    rw [e, hlo] at hk
    have := Option.some.inj hk
    rw [this, ho2] at ho; cases ho
  · exact (grownBy_putObj' X l o').size
theorem LnI.set {z : Nat} {w X : World} {out : List (List Int)} (h : LnI z w out X) (v : Value) : LnI z w out (X.setCell ⟨z + 2, 0, none⟩ v) := by
  refine h.keep ((Below.refl z X).setCell (p := ⟨z + 2, 0, none⟩) (by show z ≤ z + 2; omega) v) (fun k o hk _ hkz => ?_) ?_
  · exact (Below.heap_setCell _ _ _ _ (by show k ≠ z + 2; omega)).trans hk
  · simp [World.setCell]
/-- a line is told -/
theorem LnI.app {z : Nat} {w X X1 w1 : World} {out : List (List Int)} {tv v' : Value} {ss : List (Sx Int)} {cv : Sx Int} {tmp : Obj} (hbox : Boxed X z 24 tv) (hO : Osb X (z + 5) tv ss) (he : ss.map (·.xs) = out) (hb0 : Below z w X) (h5 : z + 5 ≤ X.heap.size)
    (hb1 : Below X.heap.size X X1) (hc : Ou X1 X.heap.size cv.v cv.xs) (hown' : w1.ownsRow (z + 5) 28 1 v' (ss.length + 1) (ss.map (·.v) ++ [cv.v])) (hgrow : (X1.alloc tmp).grownBy w1 tv.ownBlock) :
    KeepsOthers X (w1.setCell ⟨z, 0, none⟩ v') ∧ (∀ k, T25 z k → (w1.setCell ⟨z, 0, none⟩ v').heap[k]? = X.heap[k]?) ∧ LnI z w (out ++ [cv.xs]) (w1.setCell ⟨z, 0, none⟩ v') := by
  have hne : (24 : TypeId) ≠ 28 := by decide
  have hbox1 : Boxed X1 z 24 tv := (hb1.block z (by omega)).trans hbox
  have hO1 : Osb X1 (z + 5) tv ss := hO.keep (fun k o hk _ _ => (hb1.block k (Array.getElem?_eq_some_iff.1 hk).1).trans hk)
  have hboxw : Boxed w1 z 24 tv := (hbox1.alloc tmp).kept hgrow (hbox1.not_row hne hO1.own)
  have hset : ∀ k, k ≠ z → (w1.setCell ⟨z, 0, none⟩ v').heap[k]? = w1.heap[k]? := fun k hk => Below.heap_setCell _ _ _ _ hk
  have hX1 : ∀ k, k < X1.heap.size → tv.ownBlock ≠ some k → w1.heap[k]? = X1.heap[k]? := fun k hk hn => (hgrow.block k (by simp; omega) (fun e => hn e.symm)).trans (Below.heap_alloc _ _ _ hk)
  have htv : ∀ k, tv.ownBlock = some k → z + 5 ≤ k ∧ ∃ cur, X1.heap[k]? = some (.cells cur 28 (0, 0)) := fun k hk => by
    obtain ⟨h1, -, h3⟩ := own_cells hO1.own hk; exact ⟨h1, h3⟩
  have hsz1 := hb1.size
  have hszw : X1.heap.size ≤ w1.heap.size := by have := hgrow.size; simp at this; omega
  have hT : ∀ k, T25 z k → (w1.setCell ⟨z, 0, none⟩ v').heap[k]? = X.heap[k]? := fun k hk => by
    refine (hset k hk.2).trans ((hX1 k (by have := hk.1; omega) (fun e => ?_)).trans (hb1.block k (by have := hk.1; omega)))
    have := (htv k e).1; have := hk.1; omega
  have hel : ∀ (s : Sx Int) (B : Nat), B ≤ X1.heap.size → Ou X1 B s.v s.xs → z + 5 ≤ B → Ou (w1.setCell ⟨z, 0, none⟩ v') B s.v s.xs := fun s B hB hs hz => own_blk hs (fun g hg => by
    obtain ⟨h1, h2, cur, h3⟩ := own_cells hs hg
    refine (hset g (by omega)).trans (hX1 g h2 (fun e => ?_))
    obtain ⟨-, cur', h4⟩ := htv g e
    rw [h4] at h3
    have h9 := Option.some.inj h3
    simp only [Obj.cells.injEq] at h9
    exact absurd h9.2.1 (by decide))
  refine ⟨?_, hT, v', ss ++ [cv], hboxw.set v', ⟨?_, fun s hs => ?_, ?_⟩, by rw [List.map_append, he]; rfl, ?_, ?_⟩
  · refine ⟨by have : (w1.setCell ⟨z, 0, none⟩ v').heap.size = w1.heap.size := by simp [World.setCell]
               omega, fun k o hk ho => ?_⟩
    have hkl := (Array.getElem?_eq_some_iff.1 hk).1
    have h1 : X1.heap[k]? = some o := (hb1.block k hkl).trans hk
    have hkz : k ≠ z := fun e => by
      rw [e] at hk
      have := hk.symm.trans hbox
      have h9 := Option.some.inj this
      rw [h9] at ho; cases ho
    refine (hset k hkz).trans ((hX1 k (by omega) (fun e => ?_)).trans h1)
    obtain ⟨-, cur', h4⟩ := htv k e
    rw [h4] at h1
    have h9 := Option.some.inj h1
    rw [← h9] at ho; cases ho
  · have := hown'.kept (grownBy_setCell' w1 z v') (.inr (hboxw.not_row hne hown').symm)
    simpa using this
  · rcases List.mem_append.1 hs with hs | hs
    · exact hel s (z + 5) (by omega) (hO1.el s hs) (Nat.le_refl _)
    · obtain rfl : s = cv := by simpa using hs
      exact own_mono25 (hel s X.heap.size hsz1 hc h5) h5
  · refine List.pairwise_append.2 ⟨hO.ap, List.pairwise_singleton _ _, fun s hs s' hs' k hk hk' => ?_⟩
    obtain rfl : s' = cv := by simpa using hs'
    have h1 := (own_cells (hO.el s hs) hk).2.1
    have h2 := (own_cells hc hk').1
    omega
  · refine ⟨?_, ?_, ?_, ?_, fun k hk => ?_⟩
    · exact hgrow.os.trans (hb1.os.trans hb0.os)
    · exact hgrow.tape.trans (hb1.tape.trans hb0.tape)
    · exact hgrow.output.trans (hb1.output.trans hb0.output)
    · have : (w1.setCell ⟨z, 0, none⟩ v').heap.size = w1.heap.size := by simp [World.setCell]
      have := hb0.size; omega
    · exact (hT k ⟨by omega, by omega⟩).trans (hb0.block k hk)
  · have : (w1.setCell ⟨z, 0, none⟩ v').heap.size = w1.heap.size := by simp [World.setCell]
    omega
theorem su_upto25 {w : World} {a : Option Addr} {n c e : Nat} {l : List Int} (h : Su w ⟨a, n, c, l⟩) (he : e ≤ n) : Su w ⟨a, e, e, l.take e⟩ := by
  have h9 := su_take25 h he
  have h8 := h.le
  have h7 := h.mx
  simp only at h8 h7
  exact ⟨h9.len, Nat.le_refl _, by show e ≤ maxLen; omega, fun e0 => ⟨(h9.nn e0).1, (h9.nn e0).1⟩, h9.lies⟩
theorem Osb.put {z : Nat} {X : World} {tv : Value} {ss : List (Sx Int)} (h : Osb X (z + 5) tv ss) {l : Nat} {o : Obj} (o' : Obj) (hlo : X.heap[l]? = some o) (ho : o.isCells = false) : Osb (X.putObj l o') (z + 5) tv ss :=
  h.keep (fun k o2 hk ho2 _ => (World.putObj_heap_other (fun e => by
    rw [e, hlo] at hk
    have := Option.some.inj hk
    rw [this, ho2] at ho; cases ho)).trans hk)
theorem five25 (w : World) (o0 o1 o2 o3 o4 : Obj) : ∃ W0, W0 = ((((w.alloc o0).alloc o1).alloc o2).alloc o3).alloc o4 ∧ W0.heap.size = w.heap.size + 5 ∧ Below w.heap.size w W0 ∧ W0.heap[w.heap.size]? = some o0 ∧ W0.heap[w.heap.size + 1]? = some o1 ∧ W0.heap[w.heap.size + 2]? = some o2 ∧ W0.heap[w.heap.size + 3]? = some o3 ∧ W0.heap[w.heap.size + 4]? = some o4 := by
  have new : ∀ (W : World) (o : Obj) (k : Nat), W.heap.size = k → (W.alloc o).heap[k]? = some o := fun W o k h => by rw [← h]; exact World.alloc_heap_new W o
  have old : ∀ (W : World) (o : Obj) (k : Nat) (x : Option Obj), W.heap[k]? = x → k < W.heap.size → (W.alloc o).heap[k]? = x := fun W o k x h hk => (Below.heap_alloc W o k hk).trans h
  refine ⟨_, rfl, by simp, ?_, ?_, ?_, ?_, ?_, ?_⟩
  · exact (((((Below.refl _ _).alloc (Nat.le_refl _) _).alloc (by simp) _).alloc (by first | (simp; done) | (simp; omega)) _).alloc (by first | (simp; done) | (simp; omega)) _).alloc (by first | (simp; done) | (simp; omega)) _
  · exact old _ _ _ _ (old _ _ _ _ (old _ _ _ _ (old _ _ _ _ (new _ _ _ rfl) (by simp)) (by first | (simp; done) | (simp; omega))) (by first | (simp; done) | (simp; omega))) (by first | (simp; done) | (simp; omega))
  · exact old _ _ _ _ (old _ _ _ _ (old _ _ _ _ (new _ _ _ (by simp)) (by simp)) (by first | (simp; done) | (simp; omega))) (by first | (simp; done) | (simp; omega))
  · exact old _ _ _ _ (old _ _ _ _ (new _ _ _ (by simp)) (by simp)) (by first | (simp; done) | (simp; omega))
  · exact old _ _ _ _ (new _ _ _ (by simp)) (by simp)
  · exact new _ _ _ (by simp)
end Go.Proofs.YtdcaojiiaocnaaaGreatDoor
