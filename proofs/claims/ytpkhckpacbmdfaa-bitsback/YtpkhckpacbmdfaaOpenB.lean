import Derived.Test.YtpkhckpacbmdfaaOpenOp
import Derived.Test.YtpkhckpacbmdfaaJoinW
import Derived.SizedLaws
import Derived.Deep.Slices
namespace Go.Proofs.Ytpkhckpacbmdfaa
open Go.ChangeShapes Go.WideShapes Go.ChangeAt Go.RowKit Go.Deep

def reachN : Nat := 140737488351232

section
variable {H : Type} {enc : TypeId × Value → H} {w : World} {held : Bool} {m : Nat}

theorem open_sl {v : Value} {y : DataW H × List MemPlace} (h : DataW.trod enc Try.prog w 0 (fun _ => true) held m 24 [v] = some y) :
    ∃ s : Sl, v = s.v ∧ s.Ok w ∧ ((∀ x ∈ y.1.weights Try.prog 24, x ≤ reachN) → s.c ≤ reachN) := by
  rcases open_ints Try.underlying24 Try.underlying5 (by kernel_rfl) h with ⟨hcs, _⟩ | ⟨x, l, c, zs, hcs, _, hl, hm, hz, hy, hcell, hwz⟩
  · simp at hcs
    exact ⟨⟨none, 0, 0, []⟩, hcs, ⟨rfl, Nat.le_refl _, by unfold maxLen; simp, fun _ => ⟨rfl, rfl⟩, (by intro x hx; cases hx), Lies.nil _ _⟩, fun _ => Nat.zero_le _⟩
  · simp at hcs
    simp only [if_true] at hz
    refine ⟨⟨some x, l, c, zs.take l⟩, hcs, ⟨by simp; omega, hl, hm, (fun h => by cases h), fun z hz' => ?_, fun hpos => ?_⟩, fun hw => ?_⟩
    · have := bounds_u8 (hwz z (List.mem_of_mem_take hz')); omega
    · simp only [List.length_take] at hpos
      have h0 := hcell 0 (by omega)
      obtain ⟨b, off, spot⟩ := x
      have hspot : spot = none := by simpa [Addr.add] using World.cell?_spot h0
      subst hspot
      refine ⟨b, off, rfl, cell_lt h0, fun i hi => ?_⟩
      simp only [List.length_take] at hi
      have := hcell i (by omega)
      rw [addr_add] at this
      rw [this]
      simp only [List.getD_eq_getElem?_getD, List.getElem?_take]
      rw [if_pos (by omega)]
    · have hwt := hw ((lits .u8 (zs.take l) : List (DataW H)).length + (lits .u8 (zs.drop l) : List (DataW H)).length) (by
        rw [hy]; unfold DataW.weights; rw [Try.underlying24]
        have hb : Try.prog.bytesOf 5 = 1 := by kernel_rfl
        simp [hb])
      simp only [lits, List.length_map, List.length_take, List.length_drop] at hwt
      show c ≤ reachN
      omega

theorem weights_all {P : Program} {e : TypeId} {x : Nat} {d : DataW H} : ∀ {ds : List (DataW H)}, d ∈ ds → x ∈ d.weights P e → x ∈ DataW.weightsAll P e ds
  | [], h, _ => by cases h
  | c :: r, h, hx => by
    unfold DataW.weightsAll
    rcases List.mem_cons.1 h with rfl | h
    · exact List.mem_append_left _ hx
    · exact List.mem_append_right _ (weights_all h hx)

theorem open_sls {v : Value} {y : DataW H × List MemPlace} (h : DataW.trod enc Try.prog w 0 (fun _ => true) held m 25 [v] = some y) :
    ∃ (pa : Option Addr) (pc : Nat) (ps : List Sl), v = .slice pa ps.length pc ∧ LiesV w pa (ps.map Sl.v) ∧ (∀ s ∈ ps, s.Ok w) ∧ ps.length ≤ pc ∧ pc ≤ maxLen ∧ (pa = none → ps.length = 0 ∧ pc = 0) ∧
      ((∀ x ∈ y.1.weights Try.prog 25, x ≤ reachN) → pc ≤ reachN ∧ ∀ s ∈ ps, s.c ≤ reachN) := by
  rcases open_slice1 Try.underlying25 (by kernel_rfl) h with ⟨hcs, _⟩ | ⟨a, len, cap, q, n, V, D, Pl, hcs, _, hl, hm, hq, hy, hx⟩
  · simp at hcs
    exact ⟨none, 0, [], hcs, fun h => absurd h (by simp), (fun s hs => by cases hs), Nat.le_refl _, by unfold maxLen; simp, fun _ => ⟨rfl, rfl⟩, fun _ => ⟨Nat.zero_le _, fun s hs => by cases hs⟩⟩
  · simp at hcs
    simp only [if_true] at hq
    subst hq
    have hS : ∀ i, i < len → ∃ s : Sl, V i = s.v ∧ s.Ok w ∧ ((∀ x ∈ (D i).weights Try.prog 24, x ≤ reachN) → s.c ≤ reachN) := fun i hi => open_sl (hx i (by omega)).2
    have : Inhabited Sl := ⟨⟨none, 0, 0, []⟩⟩
    obtain ⟨S, hS⟩ : ∃ S : Nat → Sl, ∀ i, i < len → V i = (S i).v ∧ (S i).Ok w ∧ ((∀ x ∈ (D i).weights Try.prog 24, x ≤ reachN) → (S i).c ≤ reachN) := choose_lt hS
    have hmem : ∀ s, s ∈ (List.range len).map S → ∃ i, i < len ∧ s = S i := by
      intro s hs; simp at hs; obtain ⟨i, hi, rfl⟩ := hs; exact ⟨i, hi, rfl⟩
    refine ⟨some a, q, (List.range len).map S, by simpa using hcs, fun hpos => ?_, fun s hs => ?_, by simpa using hl, hm, (fun h => by cases h), fun hw => ?_⟩
    · simp only [List.length_map, List.length_range] at hpos
      have h0 := (hx 0 (by omega)).1
      obtain ⟨b, off, spot⟩ := a
      have hspot : spot = none := by simpa [Addr.add] using World.cell?_spot h0
      subst hspot
      refine ⟨b, off, rfl, cell_lt h0, fun i v' hi => ?_⟩
      have hil : i < len := by
        by_cases hil : i < len
        · exact hil
        · rw [List.getElem?_eq_none (by simp; omega)] at hi; simp at hi
      have := (hx i (by omega)).1
      rw [addr_add] at this
      rw [this, (hS i hil).1]
      rw [← hi]; simp [hil]
    · obtain ⟨i, hi, rfl⟩ := hmem s hs
      exact (hS i hi).2.1
    · rw [hy] at hw
      unfold DataW.weights at hw
      rw [Try.underlying25] at hw
      have hb : Try.prog.bytesOf 24 = 24 := by kernel_rfl
      simp only [List.length_map, List.length_range, hb] at hw
      have h1 := hw _ (List.mem_cons_self ..)
      refine ⟨by omega, fun s hs => ?_⟩
      obtain ⟨i, hi, rfl⟩ := hmem s hs
      refine (hS i hi).2.2 fun x hx' => hw x (List.mem_cons_of_mem _ (List.mem_append_left _ ?_))
      exact weights_all (by simp; exact ⟨i, hi, rfl⟩) hx'

end

/-- one call of a play, read -/
structure OpV where
  kd : Int
  ow : Int
  ol : Int
  n : Int
  A : Sl
  B : Sl
  pa : Option Addr
  pc : Nat
  ps : List Sl
  txt : ByteArray
def OpV.v (o : OpV) : Value := .agg #[.int .i64 o.kd, .int .u32 o.ow, .int .u64 o.ol, .int .i64 o.n, o.A.v, o.B.v, .slice o.pa o.ps.length o.pc, .string o.txt]
structure OpV.Ok (w : World) (o : OpV) : Prop where
  kd : -9223372036854775808 ≤ o.kd ∧ o.kd ≤ 9223372036854775807
  ow : 0 ≤ o.ow ∧ o.ow < 4294967296
  ol : 0 ≤ o.ol ∧ o.ol < 18446744073709551616
  n : -9223372036854775808 ≤ o.n ∧ o.n ≤ 9223372036854775807
  A : o.A.Ok w
  B : o.B.Ok w
  pl : LiesV w o.pa (o.ps.map Sl.v)
  ps : ∀ s ∈ o.ps, s.Ok w
  pn : o.pa = none → o.ps.length = 0 ∧ o.pc = 0
  pcl : o.ps.length ≤ o.pc
  ra : o.A.c ≤ reachN
  rb : o.B.c ≤ reachN
  rp : o.pc ≤ reachN
  rs : ∀ s ∈ o.ps, s.c ≤ reachN
  rt : o.txt.size ≤ reachN

theorem open_opv {H : Type} {enc : TypeId × Value → H} {w : World} {b0 : Nat} {held : Bool} {r : Reach} {v : Value} {d : DataW H} {p : List MemPlace}
    (hv : Value.okWide Try.prog w r b0 27 v) (h : DataW.Trod enc Try.prog w 0 (fun _ => true) held 27 v d p)
    (hw : ∀ x ∈ d.weights Try.prog 27, x ≤ reachN) : ∃ o : OpV, v = o.v ∧ o.Ok w := by
  obtain ⟨kd, ow, ol, n, vA, vB, vP, vT, ys, m, rfl, hd, hyl, w0, w1, w2, w3, f4, f5, f6, f7⟩ := open_op hv h
  subst hd
  have hw' : ∀ (i : Nat) (t : TypeId) (y : DataW H × List MemPlace), ([3, 22, 23, 3, 24, 24, 25, 9] : List TypeId)[i]? = some t → ys[i]? = some y → ∀ x ∈ y.1.weights Try.prog t, x ≤ reachN := by
    intro i t y ht hy x hx
    refine hw x ?_
    unfold DataW.weights
    rw [Try.underlying27]
    refine DataW.weights_mem_each (j := i) (t := t) (d := y.1) ?_ (by simp [hy]) x hx
    rw [← ht]; rfl
  obtain ⟨sA, rfl, okA, rA⟩ := open_sl f4
  obtain ⟨sB, rfl, okB, rB⟩ := open_sl f5
  obtain ⟨pa, pc, ps, rfl, hl, hok, hle, _, hnn, rP⟩ := open_sls f6
  obtain ⟨txt, hc, hy, _⟩ := DataW.trod_string Try.underlying9 f7
  simp only [List.cons.injEq, and_true] at hc
  subst hc
  have b0' := bounds_i64 w0
  have b1 := bounds_u32 w1
  have b2 := bounds_u64 w2
  have b3 := bounds_i64 w3
  have g : ∀ i, i < 8 → ∀ (hi : i < ys.length), ys[i]? = some ys[i] := fun i _ hi => by simp
  have t1 := rP (hw' 6 _ _ rfl (g 6 (by omega) (by omega)))
  refine ⟨⟨kd, ow, ol, n, sA, sB, pa, pc, ps, txt⟩, rfl, ⟨b0', by simp only; omega, by simp only; omega, b3, okA, okB, hl, hok, hnn, hle, rA (hw' 4 _ _ rfl (g 4 (by omega) (by omega))), rB (hw' 5 _ _ rfl (g 5 (by omega) (by omega))), t1.1, t1.2, ?_⟩⟩
  have := hw' 7 _ _ rfl (g 7 (by omega) (by omega)) txt.data.toList.length (by rw [hy]; unfold DataW.weights; simp)
  rw [Array.length_toList] at this; exact this

theorem OpV.Ok.later {w w' : World} {o : OpV} (h : o.Ok w) (hb : Below w.heap.size w w') : o.Ok w' :=
  ⟨h.kd, h.ow, h.ol, h.n, h.A.later hb, h.B.later hb, h.pl.later hb, fun s hs => (h.ps s hs).later hb, h.pn, h.pcl, h.ra, h.rb, h.rp, h.rs, h.rt⟩
end Go.Proofs.Ytpkhckpacbmdfaa
