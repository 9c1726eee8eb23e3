import Derived.Test.YtdcaojiiaocnaaaDoorQGayZ
import Derived.Test.YtdcaojiiaocnaaaDoorQGawZ
import Derived.Test.YtdcaojiiaocnaaaDoorQGatZ
import Derived.Deep.DeepCutAuto
import Derived.Deep.QuietTactic
import Derived.BigQuiet
set_option linter.unusedSimpArgs false
set_option linter.unusedVariables false
namespace Go.Proofs.YtdcaojiiaocnaaaDoor
open Go.RowKit

/-! The program's read: what it answers, and what its walk needs. -/
def errV (z y : Int) : Value := if z = 0 then .nilIface else .iface 63 (aV (faC z y))
def RdP (l : List Int) (w : World) (e : Ending) (w' : World) : Prop :=
  ∃ v : Sx Int, e = .returned (.tuple #[aV (opC (parseL l).1.k (parseL l).1.n (parseL l).1.o (parseL l).1.c (parseL l).1.p v.v), errV (parseL l).2.1 (parseL l).2.2]) ∧ v.xs = (parseL l).1.b ∧ Ou w' w.heap.size v.v v.xs ∧ Below w.heap.size w w'
theorem rdP_no {l : List Int} {w w' : World} {e : Ending} {z y : Int} (h : parseL l = (zOp, z, y)) (hz : z ≠ 0) (he : e = .returned (.tuple #[aV (opC 0 0 0 0 0 (.slice none 0 0)), .iface 63 (aV (faC z y))])) (hb : Below w.heap.size w w') : RdP l w e w' := by
  unfold RdP
  rw [h]
  refine ⟨⟨none, 0, 0, []⟩, ?_, rfl, ou_nil25 _ _, hb⟩
  rw [he]; unfold errV; rw [if_neg hz]; rfl
theorem rdP_ok {l : List Int} {w w' : World} {e : Ending} {O : Opq} {v : Sx Int} (h : parseL l = (O, 0, 0)) (hv : v.xs = O.b) (he : e = .returned (.tuple #[aV (opC O.k O.n O.o O.c O.p v.v), .nilIface])) (hO : Ou w' w.heap.size v.v v.xs) (hb : Below w.heap.size w w') : RdP l w e w' := by
  unfold RdP
  rw [h]
  refine ⟨v, ?_, hv, hO, hb⟩
  rw [he]; rfl
theorem b_A (x y : Int) : Tryd.prog.built 63 [(0, .int .i64 x), (1, .int .i64 y)] = some (faC x y).toArray := by kernel_rfl
theorem b_z : Tryd.prog.built 30 [] = some (opC 0 0 0 0 0 (.slice none 0 0)).toArray := by kernel_rfl
theorem split_new (s : ByteArray) (w : World) (hs : s.size ≤ 1048576) (hm : MLn w) :
    Calls Tryd.prog 31 #[.string s, .string { data := #[32] }] w fun e w' => ∃ (g N : Nat) (s0 : ByteArray) (st : List ByteArray), (s0 :: st).map strL = splitB (strL s) ∧ st.length + 1 = N ∧ e = .returned (.slice (some ⟨g, 0, none⟩) N N) ∧ w.heap.size ≤ g ∧ Arr w' g 9 ((s0 :: st).map Value.string) ∧ Below w.heap.size w w' := by
  refine (split_any s w hs hm).mono ?_
  rintro e w' ⟨ss, h1, rfl, rfl⟩
  cases ss with
  | nil => exact absurd h1.symm (splitB_ne _)
  | cons s0 st => exact ⟨w.heap.size, _, s0, st, h1, rfl, rfl, Nat.le_refl _, Arr.new w 9 ((s0 :: st).map Value.string), (Below.refl _ _).alloc (Nat.le_refl _) _⟩
theorem split_le {l : List Int} {ss : List ByteArray} (h : ss.map strL = splitB l) : ∀ s ∈ ss, s.size ≤ l.length := fun s hs => by
  have h1 : strL s ∈ splitB l := by rw [← h]; exact List.mem_map.2 ⟨s, hs, rfl⟩
  have h9 := join_len (splitB l) (splitB_ne l)
  rw [join_split] at h9
  have : (strL s).length + 1 ≤ ((splitB l).map (fun f => f.length + 1)).sum := le_sum25 (List.mem_map.2 ⟨_, h1, rfl⟩)
  rw [strL_length] at this; omega
theorem mln_blk {w w' : World} (h : MLn w) (hk : ∀ k, k < w.heap.size → w'.heap[k]? = w.heap[k]?) : MLn w' := by
  obtain ⟨m, hm⟩ := h
  exact ⟨m, by rw [World.cell?_of_block (hk _ (cell_lt hm))]; exact hm⟩
theorem ety_blk {w w' : World} (h : ETy w) (hk : ∀ k, k < w.heap.size → w'.heap[k]? = w.heap[k]?) : ETy w' := by
  unfold ETy at *
  rw [World.cell?_of_block (hk _ (cell_lt h))]; exact h
/-- a row changed by a call that may make bytes anew: the bytes that are kept are the old ones or the new ones -/
theorem Hs17.chgOu {w0 w w' : World} {rows : List Row} {K : World → Prop} {vb v : Value} {lb l : List Int} (h : Hs17 w0 rows (fun u => K u ∧ Ou u w0.heap.size vb lb) w) (i : Nat) {g : Nat} {t : TypeId} {c c' : List Value} (hi : rows[i]? = some (g, t, c)) (hA' : Arr w' g t c') (hb : But g w w') (hv : (v = vb ∧ l = lb) ∨ Ou w' w.heap.size v l) : Hs17 w0 (rows.set i (g, t, c')) (fun u => K u ∧ Ou u w0.heap.size v l) w' := by
  rcases hv with ⟨rfl, rfl⟩ | hO
  · exact h.chg i hi hA' hb
  · refine ((h.chg i hi hA' hb).also (N := fun u => Ou u w0.heap.size v l) (fun w'' h1 h2 => ?_)).weak (fun _ h => ⟨h.1.1, h.2⟩)
    refine own_monoG (own_blk hO (fun k hk => h2 k (own_lt hO hk).2 (fun p hp e => ?_))) h.bel.size
    have h4 := (own_lt hO hk).1
    rcases List.mem_or_eq_of_mem_set hp with hp | rfl
    · have := (h.arr p hp).lt; omega
    · have := (h.get i hi).lt
      simp only at e; omega
theorem strs_at {w : World} {g : Nat} {ss : List ByteArray} (hA : Arr w g 9 (ss.map Value.string)) {k : Nat} {x : ByteArray} (hk : ss[k]? = some x) : w.cell? ⟨g, k, none⟩ = some (.string x) := by
  have := hA.cell k
  rw [this, List.getElem?_map, hk]; rfl
def rdNext (q : Option Opq) (P m : Nat) (F : List Int) (fs : List (List Int)) : Opq × Int × Int := match q with | none => (zOp, 252, (P : Int)) | some o' => readF F fs (P + m + 1) o'
theorem rd_next {l : Int} {ls : List Int} {f : List Int} {fs : List (List Int)} {P m : Nat} {o : Opq} {q : Option Opq} {r : Opq × Int × Int} (h : readF (l :: ls) (f :: fs) P o = r) (hq : putL o l f = q) (hm : f.length = m) : rdNext q P m ls fs = r := by
  rw [read_cons, hq, hm] at h
  exact h
theorem as_nilB (t : Value) (w : World) : Calls Tryd.prog 22 #[.nilIface, t] w fun e w' => e = .returned (.bool false) ∧ Below w.heap.size w w' := by
  refine (as_nil25 t w).mono ?_
  rintro e w' ⟨rfl, rfl⟩
  exact ⟨rfl, Below.refl _ _⟩
theorem read_y0 : ∀ (ls : List Int) (fs : List (List Int)) (at_ : Nat) (o : Opq), (readF ls fs at_ o).2.1 = 0 → (readF ls fs at_ o).2.2 = 0
  | [], fs, at_, o, _ => by cases fs <;> rfl
  | l :: ls, [], at_, o, _ => rfl
  | l :: ls, f :: fs, at_, o, h => by
    rw [read_cons] at *
    cases hq : putL o l f with
    | none => rw [hq] at h; simp at h
    | some o' => rw [hq] at h; exact read_y0 ls fs _ o' h
theorem parse_y0 {l : List Int} (h : (parseL l).2.1 = 0) : (parseL l).2.2 = 0 := by
  by_cases h1 : 2200 < l.length
  · rw [parse_long h1] at h; simp at h
  · obtain ⟨w, fs, hsp⟩ := split_exists l
    by_cases h2 : kindOf w = 0
    · rw [parse_word h1 hsp h2] at h; simp at h
    · by_cases h3 : l.count 32 = (cmdF (kindOf w)).length
      · rw [(parse_read h1 hsp h2 h3).1] at h ⊢; exact read_y0 _ _ _ _ h
      · rw [parse_fields h1 hsp h2 h3] at h; simp at h
end Go.Proofs.YtdcaojiiaocnaaaDoor
