import Derived.Test.YtdcaojiiaocnaaaDoorQGanZ
import Derived.Deep.DeepCutAuto
import Derived.Deep.QuietTactic
import Derived.BigQuiet
import Derived.Test.YtdcaojiiaocnaaaDoorQGamZ
set_option linter.unusedSimpArgs false
set_option linter.unusedVariables false
namespace Go.Proofs.YtdcaojiiaocnaaaDoor

/-! Parse, field by field: places. -/
theorem feL_split {l f : List Int} {gs : List (List Int)} (hs : splitB l = f :: gs) : feL l 0 = f.length ∧ l.take f.length = f ∧ (gs = [] → l = f) ∧ (gs ≠ [] → ∃ r, l = f ++ 32 :: r ∧ splitB r = gs) := by
  obtain ⟨h1, h2, h3⟩ := split_cons hs
  refine ⟨by unfold feL; rw [List.drop_zero, h1]; omega, ?_, h2, h3⟩
  by_cases h : gs = []
  · rw [h2 h]; exact List.take_length ..
  · obtain ⟨r, hr, -⟩ := h3 h
    rw [hr]; exact List.take_left
/-- what is left of a line: the fields behind a place -/
def Left (l pre : List Int) (fs : List (List Int)) : Prop := (fs = [] → l = pre) ∧ (fs ≠ [] → ∃ r, l = pre ++ 32 :: r ∧ splitB r = fs)
theorem left_first {l w : List Int} {fs : List (List Int)} (hs : splitB l = w :: fs) : Left l w fs := ⟨(feL_split hs).2.2.1, (feL_split hs).2.2.2⟩
theorem left_next {l pre f : List Int} {gs : List (List Int)} (h : Left l pre (f :: gs)) : pre.length + 1 ≤ l.length ∧ feL l (pre.length + 1) = pre.length + 1 + f.length ∧ (l.drop (pre.length + 1)).take f.length = f ∧ pre.length + 1 + f.length ≤ l.length ∧ Left l (pre ++ 32 :: f) gs := by
  obtain ⟨r, hr, hs⟩ := h.2 (by simp)
  have hd : l.drop (pre.length + 1) = r := by
    rw [hr, show pre ++ 32 :: r = (pre ++ [32]) ++ r by simp]
    exact List.drop_left' (by simp)
  obtain ⟨q1, q2, q3, q4⟩ := feL_split hs
  have hfl : f.length ≤ r.length := by rw [← q2, List.length_take]; omega
  have hll : l.length = pre.length + 1 + r.length := by rw [hr]; simp; omega
  refine ⟨by omega, ?_, by rw [hd]; exact q2, by omega, ⟨fun h0 => ?_, fun h0 => ?_⟩⟩
  · unfold feL at q1 ⊢
    rw [List.drop_zero] at q1
    rw [hd]; omega
  · rw [hr, q3 h0]
  · obtain ⟨r', hr', hs'⟩ := q4 h0
    exact ⟨r', by rw [hr, hr']; simp, hs'⟩
/-- the kind that a word is -/
theorem kindOf_iff {w : List Int} {k : Nat} (h1 : 1 ≤ k) (h2 : k < 22) : cmdW k = w ↔ kindOf w = k := by
  constructor
  · rintro rfl; exact kindOf_cmd k h1 h2
  · intro h
    have := kindOf_ne (w := w) (by omega)
    rw [h] at this; exact this.1
def kdL (w : List Int) (k : Nat) : Nat := if kindOf w < k then kindOf w else 0
theorem kd_start (w : List Int) : kdL w 1 = 0 := by unfold kdL; split <;> omega
theorem kd_yes {w : List Int} {k : Nat} (h1 : 1 ≤ k) (h2 : k < 22) (h : cmdW k = w) : kdL w (k + 1) = k := by
  have := (kindOf_iff h1 h2).1 h
  unfold kdL; rw [if_pos (by omega), this]
theorem kd_no {w : List Int} {k : Nat} (h1 : 1 ≤ k) (h2 : k < 22) (h : cmdW k ≠ w) : kdL w (k + 1) = kdL w k := by
  have : kindOf w ≠ k := fun e => h ((kindOf_iff h1 h2).2 e)
  unfold kdL
  by_cases hk : kindOf w < k
  · rw [if_pos hk, if_pos (by omega)]
  · rw [if_neg hk, if_neg (by omega)]
theorem kd_end (w : List Int) : kdL w 22 = kindOf w := by
  unfold kdL
  by_cases h : kindOf w = 0
  · rw [h]; rfl
  · rw [if_pos (kindOf_ne h).2.2]
theorem split_exists (l : List Int) : ∃ w fs, splitB l = w :: fs := by
  cases hq : splitB l with
  | nil => exact absurd hq (splitB_ne l)
  | cons w fs => exact ⟨w, fs, rfl⟩
theorem parse_long {l : List Int} (h : 2200 < l.length) : parseL l = (zOp, 1, 0) := by unfold parseL; rw [if_pos h]
theorem parse_word {l w : List Int} {fs : List (List Int)} (h : ¬ 2200 < l.length) (hs : splitB l = w :: fs) (hk : kindOf w = 0) : parseL l = (zOp, 250, 0) := by
  unfold parseL; rw [if_neg h, hs]; simp only; rw [if_pos hk]
theorem parse_fields {l w : List Int} {fs : List (List Int)} (h : ¬ 2200 < l.length) (hs : splitB l = w :: fs) (hk : kindOf w ≠ 0) (hf : l.count 32 ≠ (cmdF (kindOf w)).length) : parseL l = (zOp, 251, (l.length : Int)) := by
  have hl := split_len l
  rw [hs, List.length_cons] at hl
  unfold parseL; rw [if_neg h, hs]; simp only; rw [if_neg hk, if_pos (by omega)]
theorem parse_read {l w : List Int} {fs : List (List Int)} (h : ¬ 2200 < l.length) (hs : splitB l = w :: fs) (hk : kindOf w ≠ 0) (hf : l.count 32 = (cmdF (kindOf w)).length) : parseL l = readF (cmdF (kindOf w)) fs (w.length + 1) ⟨kindOf w, 0, 0, 0, 0, []⟩ ∧ fs.length = (cmdF (kindOf w)).length := by
  have hl := split_len l
  rw [hs, List.length_cons] at hl
  refine ⟨?_, by omega⟩
  unfold parseL; rw [if_neg h, hs]; simp only; rw [if_neg hk, if_neg (by omega)]
theorem read_cons {l : Int} {ls : List Int} {f : List Int} {fs : List (List Int)} {at_ : Nat} {o : Opq} : readF (l :: ls) (f :: fs) at_ o = (match putL o l f with | none => (zOp, 252, (at_ : Int)) | some o' => readF ls fs (at_ + f.length + 1) o') := rfl
end Go.Proofs.YtdcaojiiaocnaaaDoor

set_option linter.unusedSimpArgs false
set_option linter.unusedVariables false
namespace Go.Proofs.YtdcaojiiaocnaaaDoor
open Go.RowKit


/-- an operation in memory: its body the one that was there, or new -/
def PuP (O : Opq) (sb : Sx Int) (l : Int) (s : ByteArray) (w : World) (e : Ending) (w' : World) : Prop :=
  ∃ (o' : Opq) (v : Sx Int), e = .returned (.tuple #[aV (opC o'.k o'.n o'.o o'.c o'.p v.v), .bool (putL O l (strL s)).isSome]) ∧ (∀ o2, putL O l (strL s) = some o2 → o2 = o') ∧ v.xs = o'.b ∧ (v = sb ∨ Ou w' w.heap.size v.v v.xs) ∧ Below w.heap.size w w'



theorem su_take25 {w : World} {a : Option Addr} {n c e : Nat} {l : List Int} (h : Su w ⟨a, n, c, l⟩) (he : e ≤ n) : Su w ⟨a, e, c, l.take e⟩ := by
  have h9 := h.cut (i := 0) (j := e) (Nat.zero_le _) he
  have e2 : (Sx.cut (⟨a, n, c, l⟩ : Sx Int) 1 0 e) = ⟨a, e, c, l.take e⟩ := by
    unfold Sx.cut
    cases a with
    | none => simp
    | some x => simp
  rw [e2] at h9; exact h9
theorem elem_u8 : Tryd.prog.underlying 28 = some (.slice (Tryd.prog.elem 28)) := by
  simp [Program.elem, Tryd.underlying28]
theorem size_u8 (w : World) : (sizeOf (Tryd.prog.elem 28)).run Tryd.prog w = .ok 1 w := by
  have he : Tryd.prog.elem 28 = 5 := by simp [Program.elem, Tryd.underlying28]
  have hI := Tryd.infoBy
  rw [he]
  cases hi : Tryd.prog.info? 5 with
  | none => rw [hi] at hI; cases hI
  | some i =>
    rw [hi] at hI
    simp only [Option.map_some, Option.some.injEq, Prod.mk.injEq] at hI
    simp [sizeOf, typeInfo, hi, hI.2.1]
section
variable {o : Oper} {act : Act} {w : World}
theorem ex_cutT (x y : Operand) (ho : o.op = .slice 28 x none (some y) none) (a : Option Addr) (n c e : Nat) (he : e ≤ c) (hx : act.eval x = .slice a n c) (hy : act.eval y = .int .i64 e) : (execOp act.eval o).run Tryd.prog w = .ok (.value (.slice a e c)) w := by
  have hrun : (Instr.sliceAt 28 (.slice a n c) none (some (.int .i64 (e : Int))) none).run Tryd.prog w = .ok (.slice a e c) w := by
    rw [run_sliceAt_slice w _ _ _ _ _ elem_u8, run_slice_h w _ _ _ _ elem_u8 .i64 e (by omega) (by omega), size_u8]
    cases a with
    | none => simp [Result.andThen, sliced, Int.toNat_natCast]
    | some ad => simp [Result.andThen, sliced, Int.toNat_natCast, Addr.add]
  rw [← hx, ← hy] at hrun
  simp [execOp, ho, hrun, Result.andThen]
/-- from a place to another one -/
def cutA (a : Option Addr) (c i : Nat) : Option Addr := if c = i then a else a.map (·.add (i * 1))
theorem ex_cutM (x y z : Operand) (ho : o.op = .slice 28 x (some y) (some z) none) (a : Option Addr) (n c i e : Nat) (hi : i ≤ e) (he : e ≤ c) (hx : act.eval x = .slice a n c) (hy : act.eval y = .int .i64 i) (hz : act.eval z = .int .i64 e) : (execOp act.eval o).run Tryd.prog w = .ok (.value (.slice (cutA a c i) (e - i) (c - i))) w := by
  have hrun : (Instr.sliceAt 28 (.slice a n c) (some (.int .i64 (i : Int))) (some (.int .i64 (e : Int))) none).run Tryd.prog w = .ok (.slice (cutA a c i) (e - i) (c - i)) w := by
    rw [run_sliceAt_slice w _ _ _ _ _ elem_u8, run_slice_lh w _ _ _ _ elem_u8 .i64 .i64 i e (by omega) (by omega) (by omega), size_u8]
    simp [Result.andThen, sliced, Int.toNat_natCast, cutA]
  rw [← hx, ← hy, ← hz] at hrun
  simp [execOp, ho, hrun, Result.andThen]
end
theorem su_cutM {w : World} {b off n c i e : Nat} {l : List Int} (h : Su w ⟨some ⟨b, off, none⟩, n, c, l⟩) (hi : i ≤ e) (he : e ≤ n) : Su w ⟨cutA (some ⟨b, off, none⟩) c i, e - i, c - i, (l.drop i).take (e - i)⟩ := by
  have h9 := h.cut hi he
  have hnc : n ≤ c := h.le
  by_cases hci : c = i
  · have h0 : e - i = 0 := by omega
    have h1 : c - i = 0 := by omega
    unfold cutA
    rw [if_pos hci, h0, h1]
    refine ⟨by simp, Nat.le_refl _, Nat.zero_le _, (fun h => by cases h), fun h => absurd h (by simp)⟩
  · have e2 : (Sx.cut (⟨some ⟨b, off, none⟩, n, c, l⟩ : Sx Int) 1 i e) = ⟨cutA (some ⟨b, off, none⟩) c i, e - i, c - i, (l.drop i).take (e - i)⟩ := by
      unfold Sx.cut cutA
      rw [if_neg hci]
      simp only [Option.map_some, Nat.mul_one, Addr.add]
      by_cases h0 : i = 0
      · subst h0; simp
      · simp [h0]
    rw [e2] at h9; exact h9
theorem ex_cutMV {o : Oper} {act : Act} {w : World} (x y z : Operand) (ho : o.op = .slice 28 x (some y) (some z) none) (a : Option Addr) (n c i e m d : Nat) (ca : Option Addr) (hem : e = i + m) (hcd : c = i + d) (hmd : m ≤ d) (hca : cutA a c i = ca) (hx : act.eval x = .slice a n c) (hy : act.eval y = .int .i64 i) (hz : act.eval z = .int .i64 e) : (execOp act.eval o).run Tryd.prog w = .ok (.value (.slice ca m d)) w := by
  have h := ex_cutM (w := w) x y z ho a n c i e (by omega) (by omega) hx hy hz
  rw [hca, show e - i = m by omega, show c - i = d by omega] at h
  exact h
theorem su_cutMV {w : World} {b off n c i m d : Nat} {ca : Option Addr} {l f : List Int} (h : Su w ⟨some ⟨b, off, none⟩, n, c, l⟩) (he : i + m ≤ n) (hcd : c = i + d) (hca : cutA (some ⟨b, off, none⟩) c i = ca) (hf : (l.drop i).take m = f) : Su w ⟨ca, m, d, f⟩ := by
  have h9 := su_cutM (i := i) (e := i + m) h (by omega) he
  rw [hca, show i + m - i = m by omega, show c - i = d by omega, hf] at h9
  exact h9
theorem cmd_out (k : Nat) (w : List Int) (hw : IsB w) (hk : k < 22) : ((strOfNums (cmdW k)).toList == (strOfNums w).toList) = decide (cmdW k = w) := by
  rw [Bool.eq_iff_iff, beq_iff_eq, decide_eq_true_eq, ByteArray.toList_eq, ByteArray.toList_eq]
  constructor
  · intro h; exact (strOfNums_inj (cmdW_isB k hk) hw).1 (bytes_ext h)
  · intro h; rw [h]
theorem sub_isB {l : List Int} (h : IsB l) (i e : Nat) : IsB ((l.drop i).take e) := fun c hc => h c (List.mem_of_mem_drop (List.mem_of_mem_take hc))
end Go.Proofs.YtdcaojiiaocnaaaDoor
