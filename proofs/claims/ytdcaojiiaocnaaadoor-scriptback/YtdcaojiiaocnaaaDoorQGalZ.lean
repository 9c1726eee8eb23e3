import Derived.Test.YtdcaojiiaocnaaaDoorQGajZ
import Derived.Test.YtdcaojiiaocnaaaDoorQSfM
import Derived.Deep.DeepCutAuto
import Derived.Deep.QuietTactic
import Derived.BigQuiet
set_option linter.unusedSimpArgs false
set_option linter.unusedVariables false
namespace Go.Proofs.YtdcaojiiaocnaaaDoor
open Go.RowKit

/-- the first blank from a place on -/
def feL (l : List Int) (at_ : Nat) : Nat := at_ + ((l.drop at_).takeWhile (fun c => c != 32)).length
theorem feL_end {l : List Int} {k : Nat} (h : l.length ≤ k) : feL l k = k := by unfold feL; rw [List.drop_of_length_le h]; rfl
theorem drop_at {l : List Int} {k : Nat} (h : k < l.length) : l.drop k = l.getD k 0 :: l.drop (k + 1) := by
  rw [List.drop_eq_getElem_cons h]; congr 1; simp [h]
theorem feL_here {l : List Int} {k : Nat} (h : k < l.length) (e : l.getD k 0 = 32) : feL l k = k := by
  unfold feL; rw [drop_at h, e, List.takeWhile_cons]; rfl
theorem feL_next {l : List Int} {k : Nat} (h : k < l.length) (e : l.getD k 0 ≠ 32) : feL l k = feL l (k + 1) := by
  unfold feL; rw [drop_at h, List.takeWhile_cons]
  have : (l.getD k 0 != 32) = true := by simpa using e
  rw [this]; simp; omega
theorem feL_le {l : List Int} {k : Nat} (h : k ≤ l.length) : feL l k ≤ l.length := by
  unfold feL
  have := (List.takeWhile_prefix (fun c => c != 32) (l := l.drop k)).length_le
  rw [List.length_drop] at this; omega
theorem count_take {l : List Int} {k : Nat} (h : k < l.length) : (l.take (k + 1)).count 32 = (l.take k).count 32 + (if l.getD k 0 = 32 then 1 else 0) := by
  rw [List.take_add_one, List.getElem?_eq_getElem h, List.count_append]
  have : l.getD k 0 = l[k] := by simp [h]
  rw [this]
  by_cases e : l[k] = 32 <;> simp [e]
theorem count_le25 (l : List Int) : l.count 32 ≤ l.length := List.count_le_length ..
theorem joinB_snoc : ∀ (fs : List (List Int)) (f : List Int), fs ≠ [] → joinB (fs ++ [f]) = joinB fs ++ 32 :: f
  | [], _, h => absurd rfl h
  | [a], f, _ => rfl
  | a :: b :: r, f, _ => by
    show a ++ 32 :: joinB ((b :: r) ++ [f]) = (a ++ 32 :: joinB (b :: r)) ++ 32 :: f
    rw [joinB_snoc (b :: r) f (by simp)]; simp
theorem showL_snoc (e : Int) (ns : List Int) (n : Int) : showL e (ns ++ [n]) = showL e ns ++ 32 :: decL n := by
  unfold showL
  have : showF e (ns ++ [n]) = showF e ns ++ [decL n] := by unfold showF; rw [List.map_append, ← List.append_assoc]; rfl
  rw [this, joinB_snoc _ _ (showF_ne e ns)]
theorem showL_ok : showL 0 [] = okT := rfl
theorem showL_err {e : Int} (h : e ≠ 0) : showL e [] = errT ++ 32 :: decL e := by unfold showL showF; rw [if_neg h]; rfl
theorem decL_len {n : Int} (h : I64 n) : (decL n).length ≤ 20 := by
  have := dgL_len20 h
  unfold decL; split <;> simp <;> omega
theorem showL_len {e : Int} (he : I64 e) : ∀ (ns : List Int), (∀ n ∈ ns, I64 n) → (showL e ns).length ≤ 30 + 21 * ns.length := by
  have key : ∀ (k : Nat) (ns : List Int), ns.length = k → (∀ n ∈ ns, I64 n) → (showL e ns).length ≤ 30 + 21 * ns.length := by
    intro k
    induction k with
    | zero =>
      intro ns h0 _
      obtain rfl := List.eq_nil_of_length_eq_zero h0
      by_cases h : e = 0
      · subst h; rw [showL_ok]; decide
      · rw [showL_err h]
        have := decL_len he
        simp [errT]; omega
    | succ k ih =>
      intro ns hk h
      have hne : ns ≠ [] := by rintro rfl; simp at hk
      obtain ⟨l, n, rfl⟩ : ∃ l n, ns = l ++ [n] := ⟨ns.dropLast, ns.getLast hne, (List.dropLast_concat_getLast hne).symm⟩
      rw [showL_snoc]
      have h1 := ih l (by simpa using hk) (fun x hx => h x (by simp [hx]))
      have h2 := decL_len (h n (by simp))
      simp; omega
  exact fun ns h => key _ ns rfl h

/-! Structs. -/
def opC (k : Int) (n : Int) (o : Int) (c : Int) (p : Int) (v : Value) : List Value := [.int .i64 k, .int .i64 n, .int .i64 o, .int .i64 c, .int .i64 p, v]
theorem Tryd.inO : (Tryd.prog.info? 30).map (fun i => (i.zero, i.size)) = some (some (aV (opC 0 0 0 0 0 (.slice none 0 0))), 6) := by kernel_rfl
theorem sz_O (k : Int) (n : Int) (o : Int) (c : Int) (p : Int) (v : Value) : (Tryd.prog.info? 30).map (·.size) = some (opC k n o c p v).length := by show _ = some 6; kernel_rfl
theorem one_O (k : Int) (n : Int) (o : Int) (c : Int) (p : Int) {v : Value} (hv : v.oneCell' = true) : ∀ u9 ∈ opC k n o c p v, u9.oneCell' = true := by intro u9 hu9; simp [opC] at hu9; rcases hu9 with rfl | rfl | rfl | rfl | rfl | rfl <;> first | rfl | assumption
theorem pt_O (k : Int) (n : Int) (o : Int) (c : Int) (p : Int) (v : Value) (k9 : Int) (n9 : Int) (o9 : Int) (c9 : Int) (p9 : Int) (v9 : Value) : Pt (opC k n o c p v) 0 (opC k9 n9 o9 c9 p9 v9) (opC k9 n9 o9 c9 p9 v9) := Pt.self rfl
theorem at_O0 (k : Int) (n : Int) (o : Int) (c : Int) (p : Int) (v : Value) : At (opC k n o c p v) 0 [.int .i64 k] := ⟨[], [.int .i64 n, .int .i64 o, .int .i64 c, .int .i64 p, v], rfl, rfl⟩
theorem pt_O0 (k : Int) (n : Int) (o : Int) (c : Int) (p : Int) (v : Value) (z9 : Int) : Pt (opC k n o c p v) 0 [.int .i64 z9] (opC z9 n o c p v) := ⟨[], [.int .i64 k], [.int .i64 n, .int .i64 o, .int .i64 c, .int .i64 p, v], rfl, rfl, rfl, rfl⟩
theorem at_O1 (k : Int) (n : Int) (o : Int) (c : Int) (p : Int) (v : Value) : At (opC k n o c p v) 1 [.int .i64 n] := ⟨[.int .i64 k], [.int .i64 o, .int .i64 c, .int .i64 p, v], rfl, rfl⟩
theorem pt_O1 (k : Int) (n : Int) (o : Int) (c : Int) (p : Int) (v : Value) (z9 : Int) : Pt (opC k n o c p v) 1 [.int .i64 z9] (opC k z9 o c p v) := ⟨[.int .i64 k], [.int .i64 n], [.int .i64 o, .int .i64 c, .int .i64 p, v], rfl, rfl, rfl, rfl⟩
theorem at_O2 (k : Int) (n : Int) (o : Int) (c : Int) (p : Int) (v : Value) : At (opC k n o c p v) 2 [.int .i64 o] := ⟨[.int .i64 k, .int .i64 n], [.int .i64 c, .int .i64 p, v], rfl, rfl⟩
theorem pt_O2 (k : Int) (n : Int) (o : Int) (c : Int) (p : Int) (v : Value) (z9 : Int) : Pt (opC k n o c p v) 2 [.int .i64 z9] (opC k n z9 c p v) := ⟨[.int .i64 k, .int .i64 n], [.int .i64 o], [.int .i64 c, .int .i64 p, v], rfl, rfl, rfl, rfl⟩
theorem at_O3 (k : Int) (n : Int) (o : Int) (c : Int) (p : Int) (v : Value) : At (opC k n o c p v) 3 [.int .i64 c] := ⟨[.int .i64 k, .int .i64 n, .int .i64 o], [.int .i64 p, v], rfl, rfl⟩
theorem pt_O3 (k : Int) (n : Int) (o : Int) (c : Int) (p : Int) (v : Value) (z9 : Int) : Pt (opC k n o c p v) 3 [.int .i64 z9] (opC k n o z9 p v) := ⟨[.int .i64 k, .int .i64 n, .int .i64 o], [.int .i64 c], [.int .i64 p, v], rfl, rfl, rfl, rfl⟩
theorem at_O4 (k : Int) (n : Int) (o : Int) (c : Int) (p : Int) (v : Value) : At (opC k n o c p v) 4 [.int .i64 p] := ⟨[.int .i64 k, .int .i64 n, .int .i64 o, .int .i64 c], [v], rfl, rfl⟩
theorem pt_O4 (k : Int) (n : Int) (o : Int) (c : Int) (p : Int) (v : Value) (z9 : Int) : Pt (opC k n o c p v) 4 [.int .i64 z9] (opC k n o c z9 v) := ⟨[.int .i64 k, .int .i64 n, .int .i64 o, .int .i64 c], [.int .i64 p], [v], rfl, rfl, rfl, rfl⟩
theorem at_O5 (k : Int) (n : Int) (o : Int) (c : Int) (p : Int) (v : Value) : At (opC k n o c p v) 5 [v] := ⟨[.int .i64 k, .int .i64 n, .int .i64 o, .int .i64 c, .int .i64 p], [], rfl, rfl⟩
theorem pt_O5 (k : Int) (n : Int) (o : Int) (c : Int) (p : Int) (v : Value) (z9 : Value) : Pt (opC k n o c p v) 5 [z9] (opC k n o c p z9) := ⟨[.int .i64 k, .int .i64 n, .int .i64 o, .int .i64 c, .int .i64 p], [v], [], rfl, rfl, rfl, rfl⟩
def cmC (v : Value) (u : Value) : List Value := [v, u]
theorem one_C  {v : Value} {u : Value} (hv : v.oneCell' = true) (hu : u.oneCell' = true) : ∀ u9 ∈ cmC v u, u9.oneCell' = true := by intro u9 hu9; simp [cmC] at hu9; rcases hu9 with rfl | rfl <;> first | rfl | assumption
theorem pt_C (v : Value) (u : Value) (v9 : Value) (u9 : Value) : Pt (cmC v u) 0 (cmC v9 u9) (cmC v9 u9) := Pt.self rfl
theorem at_C0 (v : Value) (u : Value) : At (cmC v u) 0 [v] := ⟨[], [u], rfl, rfl⟩
theorem pt_C0 (v : Value) (u : Value) (z9 : Value) : Pt (cmC v u) 0 [z9] (cmC z9 u) := ⟨[], [v], [u], rfl, rfl, rfl, rfl⟩
theorem at_C1 (v : Value) (u : Value) : At (cmC v u) 1 [u] := ⟨[v], [], rfl, rfl⟩
theorem pt_C1 (v : Value) (u : Value) (z9 : Value) : Pt (cmC v u) 1 [z9] (cmC v z9) := ⟨[v], [u], [], rfl, rfl, rfl, rfl⟩
def reC (k : Int) (v : Value) : List Value := [.int .i64 k, v]
theorem Tryd.inY : (Tryd.prog.info? 25).map (fun i => (i.zero, i.size)) = some (some (aV (reC 0 (.slice none 0 0))), 2) := by kernel_rfl
theorem sz_Y (k : Int) (v : Value) : (Tryd.prog.info? 25).map (·.size) = some (reC k v).length := by show _ = some 2; kernel_rfl
theorem one_Y (k : Int) {v : Value} (hv : v.oneCell' = true) : ∀ u9 ∈ reC k v, u9.oneCell' = true := by intro u9 hu9; simp [reC] at hu9; rcases hu9 with rfl | rfl <;> first | rfl | assumption
theorem pt_Y (k : Int) (v : Value) (k9 : Int) (v9 : Value) : Pt (reC k v) 0 (reC k9 v9) (reC k9 v9) := Pt.self rfl
theorem at_Y0 (k : Int) (v : Value) : At (reC k v) 0 [.int .i64 k] := ⟨[], [v], rfl, rfl⟩
theorem pt_Y0 (k : Int) (v : Value) (z9 : Int) : Pt (reC k v) 0 [.int .i64 z9] (reC z9 v) := ⟨[], [.int .i64 k], [v], rfl, rfl, rfl, rfl⟩
theorem at_Y1 (k : Int) (v : Value) : At (reC k v) 1 [v] := ⟨[.int .i64 k], [], rfl, rfl⟩
theorem pt_Y1 (k : Int) (v : Value) (z9 : Value) : Pt (reC k v) 1 [z9] (reC k z9) := ⟨[.int .i64 k], [v], [], rfl, rfl, rfl, rfl⟩
theorem Tryd.j1ls : (Tryd.prog.info? 23).map (·.size) = some 1 := by kernel_rfl
theorem Tryd.j1e : (Tryd.prog.info? 22).map (·.size) = some 1 := by kernel_rfl
theorem b_k (k : Int) : Tryd.prog.built 30 [(0, .int .i64 k)] = some (opC k 0 0 0 0 (.slice none 0 0)).toArray := by kernel_rfl

/-! The law's sameOp: of equal operations. -/
theorem two25 (w : World) (a b : Obj) : Below w.heap.size w ((w.alloc a).alloc b) := ((Below.refl _ _).alloc (Nat.le_refl _) _).alloc (by simp) _
set_option maxHeartbeats 4000000 in
set_option maxRecDepth 100000 in
theorem sameOp_t (k n oo c p : Int) (a b : Sx Int) (w : World) (ha : Su w a) (hb : Su w b) (hn : a.n ≤ 1048576) (h : a.xs = b.xs) :
    Calls Tryd.prog 12 #[aV (opC k n oo c p a.v), aV (opC k n oo c p b.v)] w fun e w' => e = .returned (.bool true) ∧ Below w.heap.size w w' := by
  have hC : ∀ u, Below w.heap.size w u → Calls Tryd.prog 14 #[a.v, b.v] u fun e w' => e = .returned (.bool true) ∧ Below u.heap.size u w' := fun u hu => same_t (ha.later hu) (hb.later hu) hn h
  clear ha hb hn h
  obtain ⟨aa, an, ac, al⟩ := a
  obtain ⟨ba, bn, bc, bl⟩ := b
  simp only [Sx.v, aV, opC] at hC ⊢
  go_enter Tryd.func12, Tryd.ntmps12
  go_wp2_with (go_at_call 14; refine (hC _ (two25 _ _ _)).mono ?_; rintro e w1 ⟨rfl, hb1⟩)
  go_ret
  exact ⟨rfl, (two25 _ _ _).trans (hb1.mono (two25 _ _ _).size)⟩

theorem sl_of_su {w : World} {s : Sx Int} (h : Su w s) (hb : IsB s.xs) : Sl.Ok w ⟨s.a, s.n, s.c, s.xs⟩ := by
  refine ⟨h.len, h.le, h.mx, h.nn, hb, fun hp => ?_⟩
  have hp' : 0 < s.n := by rw [← h.len]; exact hp
  obtain ⟨b, off, h1, h2, h3⟩ := h.lies hp'
  refine ⟨b, off, h1, h2, fun i hi => ?_⟩
  have h9 := h3 i (s.xs[i]) (List.getElem?_eq_getElem hi) 0 _ rfl
  rw [Nat.mul_one, Nat.add_zero] at h9
  show _ = some (Value.int .u8 (s.xs.getD i 0))
  rw [getD_lt _ _ hi]; exact h9
theorem tell_some {O : Opq} {l v : Int} (hl : l ≠ 66) (hv : getL O l = v) {Z : Nat} (hZ : (decL v).length = Z) (h : Z ≤ 18 ∨ v < 0 ∧ Z = 19) : tellL O l = some (decL v) := by
  unfold tellL
  rw [if_neg hl, hv, if_pos ((dec_len18 v).1 (by rw [hZ]; exact h))]
theorem tell_none {O : Opq} {l v : Int} (hl : l ≠ 66) (hv : getL O l = v) {Z : Nat} (hZ : (decL v).length = Z) (h : ¬ (Z ≤ 18 ∨ v < 0 ∧ Z = 19)) : tellL O l = none := by
  unfold tellL
  rw [if_neg hl, hv, if_neg (fun h9 => h (by have := (dec_len18 v).2 h9; rw [hZ] at this; exact this))]
def TlP (O : Opq) (l : Int) (w : World) (e : Ending) (w' : World) : Prop := ∃ (T : ByteArray) (b : Bool), e = .returned (.tuple #[.string T, .bool b]) ∧ ((tellL O l = none ∧ b = false) ∨ (∃ f, tellL O l = some f ∧ T = strOfNums f ∧ b = true)) ∧ Below w.heap.size w w'

theorem cmdF_len : ∀ k, k < 22 → (cmdF k).length ≤ 3 := by decide
theorem cmdW_len : ∀ k, k < 22 → (cmdW k).length ≤ 7 := by decide
theorem cmdF_isB : ∀ k, k < 22 → ∀ c ∈ cmdF k, 0 ≤ c ∧ c ≤ 255 := by decide
theorem tellF_snoc {o : Opq} {l : Int} {f : List Int} (h2 : tellL o l = some f) : ∀ {ls : List Int} {fs : List (List Int)}, tellF o ls = some fs → tellF o (ls ++ [l]) = some (fs ++ [f])
  | [], fs, h => by
    simp [tellF] at h; subst h
    show tellF o [l] = _
    unfold tellF; rw [h2]; rfl
  | x :: ls, fs, h => by
    unfold tellF at h
    split at h
    · rename_i g gs h3 h4
      simp only [Option.some.injEq] at h
      subst h
      show tellF o (x :: (ls ++ [l])) = _
      unfold tellF
      rw [h3, tellF_snoc h2 h4]; rfl
    · cases h
theorem tellF_none {o : Opq} {l : Int} (h2 : tellL o l = none) : ∀ {ls : List Int}, l ∈ ls → tellF o ls = none
  | [], h => by simp at h
  | x :: ls, h => by
    unfold tellF
    rcases List.mem_cons.1 h with rfl | h
    · rw [h2]
    · rw [tellF_none h2 h]
      cases tellL o x <;> rfl
structure OkO (q : Opq) : Prop where
  n : I64 q.n
  o : I64 q.o
  c : I64 q.c
  p : I64 q.p
theorem tell_len {o : Opq} (h : OkO o) {l : Int} {f : List Int} (hl : okLt l) (hf : tellL o l = some f) : f.length ≤ 4400 := by
  unfold tellL at hf
  split at hf
  · split at hf
    · simp only [Option.some.injEq] at hf; subst hf; simp
    · split at hf
      · simp only [Option.some.injEq] at hf; subst hf; rw [hexL_length]; omega
      · cases hf
  · split at hf
    · simp only [Option.some.injEq] at hf; subst hf
      have : (decL (getL o l)).length ≤ 20 := by
        rcases hl with rfl | rfl | rfl | rfl | rfl
        · exact decL_len h.n
        · exact decL_len h.o
        · exact decL_len h.c
        · exact decL_len h.p
        · exact decL_len (show I64 0 by unfold I64; omega)
      omega
    · cases hf
theorem joinB_bound {w : List Int} {fs : List (List Int)} (hw : w.length ≤ 7) (hn : fs.length ≤ 3) (hf : ∀ f ∈ fs, f.length ≤ 4400) : (joinB (w :: fs)).length ≤ 20000 := by
  have h := join_len (w :: fs) (by simp)
  have e : ∀ (gs : List (List Int)), (∀ f ∈ gs, f.length ≤ 4400) → (gs.map (fun f => f.length + 1)).sum ≤ 4401 * gs.length := by
    intro gs
    induction gs with
    | nil => intro _; simp
    | cons g gs ih =>
      intro hg
      have := ih (fun x hx => hg x (by simp [hx]))
      have := hg g (by simp)
      simp only [List.map_cons, List.sum_cons, List.length_cons]; omega
  have := e fs hf
  simp only [List.map_cons, List.sum_cons] at h
  omega
theorem tellF_take {o : Opq} (ho : OkO o) {k j : Nat} (hk : k < 22) {fs : List (List Int)} (h : tellF o ((cmdF k).take j) = some fs) : (joinB (cmdW k :: fs)).length ≤ 20000 := by
  refine joinB_bound (cmdW_len k hk) ?_ (fun f hf => ?_)
  · rw [tellF_len h, List.length_take]; have := cmdF_len k hk; omega
  · obtain ⟨l, hl, ht⟩ := tellF_mem h f hf
    exact tell_len ho (cmdF_ok k hk l (List.mem_of_mem_take hl)) ht

def wq (m : Bool) (L : List Int) : Option Int := if okDg L ∧ (m = true → L.head? ≠ some 48) then some (if m = true then -(valL L : Int) else (valL L : Int)) else none
def okM (m : Bool) (L : List Int) : Prop := m = true → L.head? ≠ some 48
theorem whole_wq (L : List Int) : wholeL L = if L.head? = some 45 then wq true L.tail else wq false L := by
  unfold wholeL wq
  split
  · simp
  · simp
theorem wq_no {m : Bool} {L : List Int} (h : ¬ (okDg L ∧ (m = true → L.head? ≠ some 48))) : wq m L = none := by unfold wq; rw [if_neg h]
theorem wq_yes {m : Bool} {L : List Int} (h : okDg L ∧ (m = true → L.head? ≠ some 48)) : wq m L = some (if m = true then -(valL L : Int) else (valL L : Int)) := by unfold wq; rw [if_pos h]
theorem head_at {L : List Int} (h : 0 < L.length) : L.head? = some (L.getD 0 0) := by
  cases L with
  | nil => simp at h
  | cons a r => rfl
theorem val_take {L : List Int} {k : Nat} (h : k < L.length) : valL (L.take (k + 1)) = 10 * valL (L.take k) + (L.getD k 0 - 48).toNat := by
  rw [List.take_add_one, List.getElem?_eq_getElem h]
  have : L.getD k 0 = L[k] := by simp [h]
  rw [this]; exact valL_snoc _ _
theorem dig_take {L : List Int} {k : Nat} (h : k < L.length) (hd : ∀ c ∈ L.take k, isDg c) (hx : isDg (L.getD k 0)) : ∀ c ∈ L.take (k + 1), isDg c := by
  rw [List.take_add_one, List.getElem?_eq_getElem h]
  have : L.getD k 0 = L[k] := by simp [h]
  rw [this] at hx
  intro c hc
  rcases List.mem_append.1 hc with hc | hc
  · exact hd c hc
  · simp at hc; subst hc; exact hx
theorem mem_getD {L : List Int} {k : Nat} (h : k < L.length) : L.getD k 0 ∈ L := by
  have : L.getD k 0 = L[k] := by simp [h]
  rw [this]; exact List.getElem_mem h
theorem strL_tail (s : ByteArray) : strL (s.extract 1 s.size) = (strL s).tail := by
  unfold strL
  rw [← List.map_tail]
  congr 1
  simp [ByteArray.data_extract]
  refine List.take_of_length_le ?_
  rw [List.length_tail]; exact Nat.le_refl _

theorem u8_flat : ∀ l : List Int, U8 l = l.flatMap uC
  | [] => rfl
  | x :: l => by
    rw [List.flatMap_cons, ← u8_flat l]; rfl
def LsP (s : ByteArray) (w : World) (e : Ending) (w' : World) : Prop := ∃ v : Sx Int, e = .returned (.tuple #[v.v, .bool (bytesL (strL s)).isSome]) ∧ v.xs = (bytesL (strL s)).getD [] ∧ Ou w' w.heap.size v.v v.xs ∧ Below w.heap.size w w'
theorem ou_nil25 (w : World) (B : Nat) : Ou w B (⟨none, 0, 0, []⟩ : Sx Int).v [] := own_nil w B 5
end Go.Proofs.YtdcaojiiaocnaaaDoor
