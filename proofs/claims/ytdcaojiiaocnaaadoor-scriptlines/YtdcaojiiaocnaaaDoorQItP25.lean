import Derived.Test.YtdcaojiiaocnaaaDoorQGbeZ
import Derived.Lib.IndexLaws
set_option linter.unusedSimpArgs false
set_option linter.unusedVariables false
namespace Go.Proofs.YtdcaojiiaocnaaaDoor
open Go.RowKit Go.Shelf

attribute [local go_sem] Oper.semAt_some

/-! bytes.SplitSeq at a line end: what comes. -/
def outL (ps : List (List Int)) : List (List Int) := ps.foldl flushL []
def T25 (z k : Nat) : Prop := k < z + 5 ∧ k ≠ z
/-- what lies where the iterator is gone through: the line end, what is left, the line end's box, a 0 -/
structure Its (z : Nat) (v : Value) (W : World) : Prop where
  sep : W.heap[z + 1]? = some (.cells #[.int .u8 10] 5 (0, 0))
  s : W.heap[z + 2]? = some (.cells #[v] 28 (0, 0))
  p : W.heap[z + 3]? = some (.cells #[.slice (some ⟨z + 1, 0, none⟩) 1 1] 28 (0, 0))
  n : W.heap[z + 4]? = some (.cells #[.int .i64 0] 3 (0, 0))
theorem Its.keep {z : Nat} {v : Value} {W W' : World} (h : Its z v W) (hk : ∀ k, T25 z k → W'.heap[k]? = W.heap[k]?) : Its z v W' :=
  ⟨(hk _ ⟨by omega, by omega⟩).trans h.sep, (hk _ ⟨by omega, by omega⟩).trans h.s, (hk _ ⟨by omega, by omega⟩).trans h.p, (hk _ ⟨by omega, by omega⟩).trans h.n⟩
theorem Its.set {z : Nat} {v : Value} {W : World} (h : Its z v W) (v' : Value) : Its z v' (W.setCell ⟨z + 2, 0, none⟩ v') := by
  have ho : ∀ k, k ≠ z + 2 → (W.setCell ⟨z + 2, 0, none⟩ v').heap[k]? = W.heap[k]? := fun k hk => Below.heap_setCell _ _ _ _ hk
  refine ⟨(ho _ (by omega)).trans h.sep, ?_, (ho _ (by omega)).trans h.p, (ho _ (by omega)).trans h.n⟩
  exact Boxed.set v' (W := W) (B := z + 2) (t := 28) h.s
def restN (z : Nat) (W : World) : Nat := match W.cell? ⟨z + 2, 0, none⟩ with | some (.slice _ n _) => n + 1 | _ => 0
theorem ix_spec {L : List Int} (hb : IsB L) : (Lib.indexByte (Lib.bytesOf L) 10 = -1 ∧ ∀ c ∈ L, c ≠ 10) ∨ (∃ i : Nat, Lib.indexByte (Lib.bytesOf L) 10 = i ∧ i < L.length ∧ (∀ c ∈ L.take i, c ≠ 10) ∧ L[i]? = some 10) := by
  have hat : ∀ (j : Nat) (c : Int), L[j]? = some c → (Lib.bytesOf L)[j]? = some (UInt8.ofNat c.toNat) := fun j c h => by
    unfold Lib.bytesOf; rw [List.getElem?_map, h]; rfl
  rcases (show Lib.indexByte (Lib.bytesOf L) 10 < 0 ∨ 0 ≤ Lib.indexByte (Lib.bytesOf L) 10 by omega) with h | h
  · have h1 := Lib.indexByte_ge (Lib.bytesOf L) 10
    have h2 : Lib.indexByte (Lib.bytesOf L) 10 = -1 := by omega
    refine .inl ⟨h2, fun c hc e => ?_⟩
    obtain ⟨j, hj, rfl⟩ := List.getElem_of_mem hc
    have h3 := Lib.indexByte_none h2 j
    rw [hat j _ (List.getElem?_eq_getElem hj), e] at h3
    exact h3 rfl
  · obtain ⟨i, hi⟩ := Int.eq_ofNat_of_zero_le h
    obtain ⟨h1, h2⟩ := Lib.indexByte_some hi
    have hil : i < L.length := by
      have := (List.getElem?_eq_some_iff.1 h1).1
      unfold Lib.bytesOf at this; rwa [List.length_map] at this
    have hB : ∀ (j : Nat) (hj : j < L.length), 0 ≤ L[j] ∧ L[j] ≤ 255 := fun j hj => hb _ (List.getElem_mem hj)
    refine .inr ⟨i, hi, hil, fun c hc e => ?_, ?_⟩
    · obtain ⟨j, hj, rfl⟩ := List.getElem_of_mem hc
      rw [List.length_take] at hj
      rw [List.getElem_take] at e
      have h3 := h2 j (by omega)
      rw [hat j _ (List.getElem?_eq_getElem (by omega)), e] at h3
      exact h3 rfl
    · rw [hat i _ (List.getElem?_eq_getElem hil)] at h1
      rw [List.getElem?_eq_getElem hil]
      have h4 := hB i hil
      have h5 : (UInt8.ofNat L[i].toNat).toNat = 10 := by rw [Option.some.inj h1]; rfl
      rw [UInt8.toNat_ofNat'] at h5
      congr 1; omega
set_option maxHeartbeats 4000000 in
set_option maxRecDepth 100000 in
theorem it_any (a : Option Addr) (n c : Nat) (l : List Int) (z : Nat) (w W0 : World) (hs : Su w ⟨a, n, c, l⟩) (hb : IsB l) (hz : w.heap.size = z) (hw : ∀ k, k < z → W0.heap[k]? = w.heap[k]?) (hz5 : W0.heap.size = z + 5) (hI : Its z (.slice a n c) W0) (n' : Nat) (hn' : 1 ≤ n') (G : Sx Int → Prop)
    (hG : ∀ (ca : Option Addr) (m d k : Nat), Su w ⟨ca, m, d, l.drop k⟩ → ∀ i, i ≤ m → G ⟨ca, i, i, (l.drop k).take i⟩) :
    ∀ (lp : Nat) (J : List (Sx Int) → World → Prop) (W : World), Below W0.heap.size W0 W → (∀ s X v, J s X → J s (X.setCell ⟨z + 2, 0, none⟩ v)) →
      (∀ pre x X, G x → J pre X → pre.length < n + 2 → YieldAt Fence.wide (n' - 1) Tryd.prog lp #[x.v] X fun e X' => e = .returned (.bool true) ∧ J (pre ++ [x]) X' ∧ ∀ k, T25 z k → X'.heap[k]? = X.heap[k]?) →
      J [] W → CallsIn Fence.wide n' Tryd.prog 51 (#[.func (.yield lp) #[] #[]] ++ #[.pointer (some ⟨z + 3, 0, none⟩), .pointer (some ⟨z + 2, 0, none⟩), .pointer (some ⟨z + 4, 0, none⟩)]) W fun e W' => (∃ v, e = .returned v) ∧ ∃ xs : List (Sx Int), outL (xs.map (·.xs)) = linesL l ∧ J xs W' := by
  intro lp J W hW hJs hY hJ0
  have hIW : Its z (.slice a n c) W := hI.keep (fun k hk => hW.block k (by have := hk.1; omega))
  have hwW : ∀ k, k < z → W.heap[k]? = w.heap[k]? := fun k hk => (hW.block k (by omega)).trans (hw k hk)
  clear hI hw hW
  have cp := Lib.cell_of_heap hIW.p 0
  have cs := Lib.cell_of_heap hIW.s 0
  simp at cp cs
  refine callsIn_of_wp Tryd.func51 rfl trivial ?_ rfl
  simp only [Tryd.ntmps51, List.size_toArray, List.length_cons, List.length_nil, Nat.reduceAdd, Nat.reduceSub, Array.replicate_succ, Array.replicate_zero, List.push_toArray, List.append_toArray, List.nil_append, List.cons_append]
  gi_wp2
  have hst0 : stLn ([] : List Int) = ([], []) := rfl
  gi_loopw [] (fun wr => ∃ (k m d : Nat) (ca : Option Addr) (pre : List (Sx Int)), Its z (.slice ca m d) wr ∧ (∀ j, j < z → wr.heap[j]? = w.heap[j]?) ∧ Su w ⟨ca, m, d, l.drop k⟩ ∧ k + m = n ∧ pre.length ≤ k ∧ stLn (l.take k) = (outL (pre.map (·.xs)), []) ∧ J pre wr) (fun wr => restN z wr)
  case atStart => exact ⟨0, n, c, a, [], hIW, hwW, hs, by omega, Nat.le_refl _, rfl, hJ0⟩
  case round =>
    clear hJ0 hIW hwW cp cs
    obtain ⟨k, m, d, ca, pre, hIr, hwr, hsr, hkm, hpl, hst, hJr⟩ := hrel
    have cp := Lib.cell_of_heap hIr.p 0
    have cs := Lib.cell_of_heap hIr.s 0
    have cn := Lib.cell_of_heap hIr.n 0
    have c1 := Lib.cell_of_heap hIr.sep 0
    simp at cp cs cn c1
    have hzs : z + 4 < wr.heap.size := (Array.getElem?_eq_some_iff.1 hIr.n).1
    have hsr' : Su wr ⟨ca, m, d, l.drop k⟩ := hsr.old ⟨by omega, fun j hj => hwr j (by omega)⟩
    have hlen : (l.drop k).length = m := hsr.len
    have hmd : m ≤ d := hsr.le
    have hmdz : (m : Int) ≤ (d : Int) := by omega
    have hd63 : (d : Int) ≤ 9223372036854775807 := by have := hsr.mx; simp only [maxLen] at this; omega
    obtain ⟨ix, hixe⟩ : ∃ ix, Lib.indexByte (Lib.bytesOf (l.drop k)) 10 = ix := ⟨_, rfl⟩
    have hix : Calls Tryd.prog 53 #[.slice ca m d, .slice (some ⟨z + 1, 0, none⟩) 1 1] wr fun e w' => e = .returned (.int .i64 ix) ∧ w' = wr := by
      rw [← hixe]
      cases ca with
      | none =>
        obtain ⟨rfl, rfl⟩ : m = 0 ∧ d = 0 := hsr.nn rfl
        have hnil : l.drop k = [] := List.eq_nil_of_length_eq_zero hlen
        rw [hnil]
        exact Tryd.bytes_Index_one_nil (z + 1) 0 1 10 wr c1
      | some ad =>
        refine Tryd.bytes_Index_one_at ad m d (z + 1) 0 1 (l.drop k) 10 wr hlen (fun i hi => ?_) c1
        obtain ⟨b, off, h1, -, h3⟩ := hsr'.lies (show 0 < m by omega)
        have h1' : ad = ⟨b, off, none⟩ := Option.some.inj h1
        subst h1'
        have hil : i < (l.drop k).length := by rw [hlen]; exact hi
        have h9 := h3 i ((l.drop k)[i]) (List.getElem?_eq_getElem hil) 0 _ rfl
        have h8 : (l.drop k).getD i 0 = (l.drop k)[i] := getD_lt _ _ hil
        rw [h8]
        simpa [addr_add] using h9
    have hsp := ix_spec (L := l.drop k) (fun c hc => hb c (List.mem_of_mem_drop hc))
    rw [hixe] at hsp
    clear hixe
    rcases hsp with ⟨rfl, hno⟩ | ⟨i, rfl, hil, hno, h10⟩
    · -- the last piece
      have hGx : G ⟨ca, m, m, l.drop k⟩ := by
        have := hG ca m d k hsr m (Nat.le_refl _)
        rwa [List.take_of_length_le (by omega)] at this
      obtain ⟨fn, tmps, assign, body, hy, hR⟩ := hY pre ⟨ca, m, m, l.drop k⟩ wr hGx hJr (by omega)
      simp only [Sx.v] at hy
      gi_wp2_with (refine ⟨trivial, ?_⟩; gi_at_call 53; refine (callsIn_wide.2 hix).mono ?_; rintro e w9 ⟨rfl, h9⟩; rw [h9]; clear h9)
      refine hR.mono ?_
      rintro e W3 ⟨rfl, hJ3, hk3⟩
      gi_wp2
      go_end0
      refine ⟨⟨_, rfl⟩, pre ++ [⟨ca, m, m, l.drop k⟩], ?_, hJ3⟩
      have e1 : stLn l = (outL (pre.map (·.xs)), l.drop k) := by
        have e2 : stLn l = (l.drop k).foldl stepLn (stLn (l.take k)) := by
          unfold stLn; rw [← List.foldl_append, List.take_append_drop]
        rw [e2, hst, fold_ln _ _ hno]; rfl
      unfold linesL
      rw [e1, List.map_append, List.map_cons, List.map_nil]
      unfold outL
      rw [List.foldl_append]; rfl
    · -- a piece, and more behind it
      rw [hlen] at hil
      have hGx : G ⟨ca, i, i, (l.drop k).take i⟩ := hG ca m d k hsr i (by omega)
      obtain ⟨fn, tmps, assign, body, hy, hR⟩ := hY pre ⟨ca, i, i, (l.drop k).take i⟩ wr hGx hJr (by omega)
      simp only [Sx.v] at hy
      have hiz : (i : Int) ≤ (d : Int) := by omega
      have hi1 : (i : Int) + 1 ≤ (m : Int) := by omega
      have hw0 : IntKind.i64.wrap (i : Int) = (i : Int) := wi_of24 (by omega) (by omega)
      have hw1 : IntKind.i64.wrap ((i : Int) + 1) = (i : Int) + 1 := wi_of24 (by omega) (by omega)
      obtain ⟨ad, rfl⟩ : ∃ ad, ca = some ad := by
        cases ca with
        | none => have := hsr.nn rfl; simp only at this; omega
        | some ad => exact ⟨ad, rfl⟩
      obtain ⟨b, off, h1, -, -⟩ := hsr.lies (show 0 < m by omega)
      have h1' : ad = ⟨b, off, none⟩ := Option.some.inj h1
      subst h1'
      clear h1
      gi_wp2_with (refine ⟨trivial, ?_⟩; gi_at_call 53; refine (callsIn_wide.2 hix).mono ?_; rintro e w9 ⟨rfl, h9⟩; rw [h9]; clear h9)
      refine hR.mono ?_
      rintro e W3 ⟨rfl, hJ3, hk3⟩
      have hI3 := hIr.keep hk3
      have cp3 := Lib.cell_of_heap hI3.p 0
      have cs3 := Lib.cell_of_heap hI3.s 0
      have fs3 := Lib.frozen_of_heap hI3.s 0
      simp at cp3 cs3 fs3
      have hcut : cutA (some ⟨b, off, none⟩) d (i + 1) = (if d = i + 1 then some ⟨b, off, none⟩ else some ⟨b, off + (i + 1), none⟩) := by
        unfold cutA
        split
        · rfl
        · simp [addr_add]
      have hsu := su_cutM hsr (i := i + 1) (e := m) (by omega) (Nat.le_refl _)
      rw [hcut, List.drop_drop, List.take_of_length_le (by rw [List.length_drop]; rw [List.length_drop] at hlen; omega)] at hsu
      have hpc : (l.drop k).take (i + 1) = (l.drop k).take i ++ [10] := by rw [List.take_add_one, h10]; rfl
      have hst' : stLn (l.take (k + (i + 1))) = (outL ((pre ++ [(⟨some ⟨b, off, none⟩, i, i, (l.drop k).take i⟩ : Sx Int)]).map (·.xs)), []) := by
        have e2 : stLn (l.take (k + (i + 1))) = ((l.drop k).take (i + 1)).foldl stepLn (stLn (l.take k)) := by
          unfold stLn; rw [← List.foldl_append, ← List.take_add]
        rw [e2, hst, hpc, List.foldl_append, fold_ln _ _ hno, List.map_append, List.map_cons, List.map_nil]
        unfold outL
        rw [List.foldl_append]; rfl
      clear hcut hpc hst
      gi_wp2
      go_roundw
      case rel =>
        refine ⟨k + (i + 1), m - (i + 1), d - (i + 1), _, pre ++ [⟨some ⟨b, off, none⟩, i, i, (l.drop k).take i⟩], hI3.set _, fun j hj => ?_, hsu, by omega, by rw [List.length_append, List.length_cons, List.length_nil]; omega, hst', hJs _ _ _ hJ3⟩
        exact (Below.heap_setCell _ _ _ _ (by show j ≠ z + 2; omega)).trans ((hk3 j ⟨by omega, by omega⟩).trans (hwr j hj))
      case measure =>
        have c9 := Lib.cell_of_heap (hI3.set (.slice (if d = i + 1 then some ⟨b, off, none⟩ else some ⟨b, off + (i + 1), none⟩) (m - (i + 1)) (d - (i + 1)))).s 0
        simp at c9
        unfold restN
        simp only [cs, c9]
        omega
end Go.Proofs.YtdcaojiiaocnaaaDoor
