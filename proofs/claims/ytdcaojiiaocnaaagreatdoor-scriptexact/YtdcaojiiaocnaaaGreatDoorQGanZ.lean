import Derived.Test.YtdcaojiiaocnaaaGreatDoorQGamZ
import Derived.Deep.DeepCutAuto
import Derived.Deep.QuietTactic
import Derived.BigQuiet
import Derived.Test.YtdcaojiiaocnaaaGreatDoorQSfM
import Derived.Test.YtdcaojiiaocnaaaGreatDoorQSqM
import Derived.Shelf.Strings.BuilderK
import Derived.Lib.ItoaNum
import Derived.Lib.LaidTab
set_option linter.unusedSimpArgs false
set_option linter.unusedVariables false
namespace Go.Proofs.YtdcaojiiaocnaaaGreatDoor
open Go.RowKit

theorem cmdF_len : ∀ k, k < 22 → (cmdF k).length ≤ 3 := by decide
theorem cmdW_len : ∀ k, k < 22 → (cmdW k).length ≤ 7 := by decide
theorem cmdF_isB : ∀ k, k < 22 → ∀ c ∈ cmdF k, 0 ≤ c ∧ c ≤ 255 := by decide
theorem tellF_snoc {o : Opq} {l : Int} {f : List Int} (h2 : tellL o l = some f) : ∀ {ls : List Int} {fs : List (List Int)}, tellF o ls = some fs → tellF o (ls ++ [l]) = some (fs ++ [f])
  | [], fs, h => by
    simp [tellF] at h; subst h
    show tellF o [l] = _
    unfold tellF; rw [h2]; rfl
  | x :: ls, fs, h => by
    unfold tellF at h
    split at h
    · rename_i g gs h3 h4
      simp only [Option.some.injEq] at h
      subst h
      show tellF o (x :: (ls ++ [l])) = _
      unfold tellF
      rw [h3, tellF_snoc h2 h4]; rfl
    · cases h
theorem tellF_none {o : Opq} {l : Int} (h2 : tellL o l = none) : ∀ {ls : List Int}, l ∈ ls → tellF o ls = none
  | [], h => by simp at h
  | x :: ls, h => by
    unfold tellF
    rcases List.mem_cons.1 h with rfl | h
    · rw [h2]
    · rw [tellF_none h2 h]
      cases tellL o x <;> rfl
structure OkO (q : Opq) : Prop where
  n : I64 q.n
  o : I64 q.o
  c : I64 q.c
  p : I64 q.p
theorem tell_len {o : Opq} (h : OkO o) {l : Int} {f : List Int} (hl : okLt l) (hf : tellL o l = some f) : f.length ≤ 4400 := by
  unfold tellL at hf
  split at hf
  · split at hf
    · simp only [Option.some.injEq] at hf; subst hf; simp
    · split at hf
      · simp only [Option.some.injEq] at hf; subst hf; rw [hexL_length]; omega
      · cases hf
  · split at hf
    · simp only [Option.some.injEq] at hf; subst hf
      have : (decL (getL o l)).length ≤ 20 := by
        rcases hl with rfl | rfl | rfl | rfl | rfl
        · exact decL_len h.n
        · exact decL_len h.o
        · exact decL_len h.c
        · exact decL_len h.p
        · exact decL_len (show I64 0 by unfold I64; omega)
      omega
    · cases hf
theorem joinB_bound {w : List Int} {fs : List (List Int)} (hw : w.length ≤ 7) (hn : fs.length ≤ 3) (hf : ∀ f ∈ fs, f.length ≤ 4400) : (joinB (w :: fs)).length ≤ 20000 := by
  have h := join_len (w :: fs) (by simp)
  have e : ∀ (gs : List (List Int)), (∀ f ∈ gs, f.length ≤ 4400) → (gs.map (fun f => f.length + 1)).sum ≤ 4401 * gs.length := by
    intro gs
    induction gs with
    | nil => intro _; simp
    | cons g gs ih =>
      intro hg
      have := ih (fun x hx => hg x (by simp [hx]))
      have := hg g (by simp)
      simp only [List.map_cons, List.sum_cons, List.length_cons]; omega
  have := e fs hf
  simp only [List.map_cons, List.sum_cons] at h
  omega
theorem tellF_take {o : Opq} (ho : OkO o) {k j : Nat} (hk : k < 22) {fs : List (List Int)} (h : tellF o ((cmdF k).take j) = some fs) : (joinB (cmdW k :: fs)).length ≤ 20000 := by
  refine joinB_bound (cmdW_len k hk) ?_ (fun f hf => ?_)
  · rw [tellF_len h, List.length_take]; have := cmdF_len k hk; omega
  · obtain ⟨l, hl, ht⟩ := tellF_mem h f hf
    exact tell_len ho (cmdF_ok k hk l (List.mem_of_mem_take hl)) ht

def wq (m : Bool) (L : List Int) : Option Int := if okDg L ∧ (m = true → L.head? ≠ some 48) then some (if m = true then -(valL L : Int) else (valL L : Int)) else none
def okM (m : Bool) (L : List Int) : Prop := m = true → L.head? ≠ some 48
theorem whole_wq (L : List Int) : wholeL L = if L.head? = some 45 then wq true L.tail else wq false L := by
  unfold wholeL wq
  split
  · simp
  · simp
theorem wq_no {m : Bool} {L : List Int} (h : ¬ (okDg L ∧ (m = true → L.head? ≠ some 48))) : wq m L = none := by unfold wq; rw [if_neg h]
theorem wq_yes {m : Bool} {L : List Int} (h : okDg L ∧ (m = true → L.head? ≠ some 48)) : wq m L = some (if m = true then -(valL L : Int) else (valL L : Int)) := by unfold wq; rw [if_pos h]
theorem head_at {L : List Int} (h : 0 < L.length) : L.head? = some (L.getD 0 0) := by
  cases L with
  | nil => simp at h
  | cons a r => rfl
theorem val_take {L : List Int} {k : Nat} (h : k < L.length) : valL (L.take (k + 1)) = 10 * valL (L.take k) + (L.getD k 0 - 48).toNat := by
  rw [List.take_add_one, List.getElem?_eq_getElem h]
  have : L.getD k 0 = L[k] := by simp [h]
  rw [this]; exact valL_snoc _ _
theorem dig_take {L : List Int} {k : Nat} (h : k < L.length) (hd : ∀ c ∈ L.take k, isDg c) (hx : isDg (L.getD k 0)) : ∀ c ∈ L.take (k + 1), isDg c := by
  rw [List.take_add_one, List.getElem?_eq_getElem h]
  have : L.getD k 0 = L[k] := by simp [h]
  rw [this] at hx
  intro c hc
  rcases List.mem_append.1 hc with hc | hc
  · exact hd c hc
  · simp at hc; subst hc; exact hx
theorem mem_getD {L : List Int} {k : Nat} (h : k < L.length) : L.getD k 0 ∈ L := by
  have : L.getD k 0 = L[k] := by simp [h]
  rw [this]; exact List.getElem_mem h
theorem strL_tail (s : ByteArray) : strL (s.extract 1 s.size) = (strL s).tail := by
  unfold strL
  rw [← List.map_tail]
  congr 1
  simp [ByteArray.data_extract]
  refine List.take_of_length_le ?_
  rw [List.length_tail]; exact Nat.le_refl _

theorem u8_flat : ∀ l : List Int, U8 l = l.flatMap uC
  | [] => rfl
  | x :: l => by
    rw [List.flatMap_cons, ← u8_flat l]; rfl
def LsP (s : ByteArray) (w : World) (e : Ending) (w' : World) : Prop := ∃ v : Sx Int, e = .returned (.tuple #[v.v, .bool (bytesL (strL s)).isSome]) ∧ v.xs = (bytesL (strL s)).getD [] ∧ Ou w' w.heap.size v.v v.xs ∧ Below w.heap.size w w'
theorem ou_nil25 (w : World) (B : Nat) : Ou w B (⟨none, 0, 0, []⟩ : Sx Int).v [] := own_nil w B 5
set_option maxHeartbeats 4000000 in
set_option maxRecDepth 100000 in
theorem reflist_any (s : ByteArray) (w : World) (hs : s.size ≤ 1048576) :
    Calls Tryz.prog 45 #[.string s] w (LsP s w) := by
  have hS := Hs17.start0 w
  by_cases h1 : strL s = [45]
  · have hse : s = { data := #[45] } := by rw [← strOfNums_strL s, h1]; kernel_rfl
    have hb : Hid (bytesL (strL s) = some []) := hide (by rw [h1]; rfl)
    subst hse
    clear h1
    go_enter Tryz.func45, Tryz.ntmps45
    go_wp2
    go_ret2
    exact ⟨⟨none, 0, 0, []⟩, by rw [unhide hb]; rfl, by rw [unhide hb]; rfl, ou_nil25 _ _, hS.bel⟩
  have hne : s ≠ { data := #[45] } := fun h => h1 (by rw [h]; kernel_rfl)
  have hq : (s.toList == ([45] : List UInt8)) = false := by
    rw [beq_eq_false_iff_ne, ByteArray.toList_eq]
    intro h
    exact h1 (by unfold strL; rw [h]; rfl)
  by_cases hodd : s.size % 2 = 1
  · have hb : Hid (bytesL (strL s) = none) := hide (by
      unfold bytesL
      rw [if_neg h1, if_neg (fun h => by have := h.2.1; rw [strL_length] at this; omega)])
    clear h1 hne
    go_enter Tryz.func45, Tryz.ntmps45
    go_wp2_with (go_at_call 61; refine (refunhex_odd s _ (by unfold maxLen; omega) hodd).mono ?_; rintro e w' ⟨rfl, rfl⟩)
    go_ret2
    exact ⟨⟨none, 0, 0, []⟩, by rw [unhide hb]; rfl, by rw [unhide hb]; rfl, ou_nil25 _ _, hS.bel⟩
  obtain ⟨n, hn⟩ : ∃ n, s.size = 2 * n := ⟨s.size / 2, by omega⟩
  by_cases hok : strL s ≠ [] ∧ OkHex (strL s)
  · have hb : Hid (bytesL (strL s) = some (unhexL (strL s))) := hide (by unfold bytesL; rw [if_neg h1, if_pos hok])
    have hpos : 0 < s.size := by
      rcases Nat.eq_zero_or_pos s.size with h0 | h0
      · exact absurd (List.eq_nil_of_length_eq_zero (by rw [strL_length]; exact h0)) hok.1
      · exact h0
    have hpz : (0 : Int) < (s.size : Int) := by omega
    have hpz2 : (0 : Int) < 2 * (n : Int) := by omega
    have HOK := hide hok.2
    have HU : Hid ((unhexL (strL s)).length = n) := hide (by rw [unhexL_length, strL_length, hn]; omega)
    clear h1 hne hodd hok
    go_enter Tryz.func45, Tryz.ntmps45
    go_wp2_with (go_at_call 61; refine (refunhex_even s _ (by omega) n hn).mono ?_; rintro e w' ⟨hb1, ⟨-, ⟨v0, rfl, hO⟩⟩ | ⟨hno, -⟩⟩; rotate_left; exact absurd (unhide HOK) hno; skip)
    go_ret2
    rw [u8_flat, ← unhide HU] at hO
    obtain ⟨v, rfl, hvx, -, -⟩ := own_sx hO (fun x _ => uC_len x)
    exact ⟨v, by rw [unhide hb]; rfl, by rw [unhide hb, hvx]; rfl, by rw [hvx]; exact hO, hb1⟩
  have hb : Hid (bytesL (strL s) = none) := hide (by unfold bytesL; rw [if_neg h1, if_neg hok])
  by_cases h0 : s.size = 0
  · have hpz : ¬ (0 : Int) < (s.size : Int) := by omega
    have hL : Hid (strL s = []) := hide (List.eq_nil_of_length_eq_zero (by rw [strL_length]; exact h0))
    obtain rfl : n = 0 := by omega
    clear h1 hne hodd hok
    go_enter Tryz.func45, Tryz.ntmps45
    go_wp2_with (go_at_call 61; refine (refunhex_even s _ (by omega) 0 hn).mono ?_; rintro e w' ⟨hb1, ⟨-, ⟨v0, rfl, hO⟩⟩ | ⟨hno, -⟩⟩; rotate_left; exact absurd (by rw [unhide hL]; exact ⟨rfl, fun j hj => by simp at hj⟩) hno; skip)
    go_ret2
    rw [unhide hL] at hO
    have hO' : Ou w' w.heap.size v0 [] := hO
    obtain ⟨v, rfl, hvx, -, -⟩ := own_sx hO' (fun x _ => uC_len x)
    exact ⟨v, by rw [unhide hb]; rfl, by rw [unhide hb, hvx]; rfl, by rw [hvx]; exact hO', hb1⟩
  have hnok : Hid (¬ OkHex (strL s)) := hide (fun h => hok ⟨fun h9 => h0 (by rw [← strL_length, h9]; rfl), h⟩)
  clear h1 hne hodd hok
  go_enter Tryz.func45, Tryz.ntmps45
  go_wp2_with (go_at_call 61; refine (refunhex_even s _ (by omega) n hn).mono ?_; rintro e w' ⟨hb1, ⟨hyes, -⟩ | ⟨-, rfl⟩⟩; exact absurd hyes (unhide hnok))
  go_ret2
  exact ⟨⟨none, 0, 0, []⟩, by rw [unhide hb]; rfl, by rw [unhide hb]; rfl, ou_nil25 _ _, hb1⟩

/-! A strings.Builder beside the rows of a call; numbers as the library tells them. -/
def Bld (B b : Nat) (s : ByteArray) (w : World) : Prop := Lib.IsBuilderF 77 5 B b (Lib.strCells s) w
theorem strCells_app (a b : ByteArray) : Lib.strCells (a ++ b) = Lib.strCells a ++ Lib.strCells b := by
  unfold Lib.strCells
  rw [ByteArray.data_append, Array.toList_append, List.map_append]
theorem Bld.blk {B b : Nat} {s : ByteArray} {w : World} (h : Bld B b s w) : B ≤ b ∧ b < w.heap.size ∧ ∃ c fz, w.heap[b]? = some (.cells c 77 fz) := by
  rcases h with h | h
  all_goals
    have hlt := h.lt
    obtain ⟨hB, v, hb, -, -⟩ := h
    exact ⟨hB, hlt, _, _, hb⟩
theorem ownF_lt {w : World} {B : Nat} {e : TypeId} {v : Value} {n : Nat} {xs : List Value} (h : w.ownsRowF B e 1 v n xs) {g : Nat} (hg : v.ownBlock = some g) : B ≤ g ∧ g < w.heap.size ∧ ∃ c fz, w.heap[g]? = some (.cells c e fz) := by
  have := h.lt g hg
  exact ⟨this.1, this.2, Lib.ownsRowF_kind h g hg⟩
/-- the blocks that it takes stand: it stands -/
theorem Bld.keep {B b : Nat} {s : ByteArray} {w w' : World} (h : Bld B b s w) (hk : ∀ k, k < w.heap.size → B ≤ k → (k = b ∨ ∃ c fz, w.heap[k]? = some (.cells c 5 fz)) → w'.heap[k]? = w.heap[k]?) (hsz : w.heap.size ≤ w'.heap.size) : Bld B b s w' := by
  have hbk := h.blk
  have go : ∀ p, Lib.BuilderAtF 77 5 B b p (Lib.strCells s) w → Lib.BuilderAtF 77 5 B b p (Lib.strCells s) w' := by
    rintro p ⟨hB, v, hb, hown, hne⟩
    refine ⟨hB, v, (hk b hbk.2.1 hB (.inl rfl)).trans hb, ?_, hne⟩
    refine ⟨hown.1, ?_⟩
    rcases hown.2 with hn | ⟨g, cap, cur, fz, rfl, hg0, hgg, rest⟩
    · exact .inl hn
    · refine .inr ⟨g, cap, cur, fz, rfl, hg0, ?_, rest⟩
      exact (hk g (Array.getElem?_eq_some_iff.1 hgg).1 hg0 (.inr ⟨_, _, hgg⟩)).trans hgg
  exact h.elim (fun x => .inl (go _ x)) (fun x => .inr (go _ x))
/-- rows that are no builder's and no bytes -/
def NoS (rows : List Row) : Bool := rows.all fun p => !(p.2.1 == 5) && !(p.2.1 == 77)
theorem NoS.ne {rows : List Row} (h : NoS rows = true) : ∀ p ∈ rows, p.2.1 ≠ 5 ∧ p.2.1 ≠ 77 := by
  intro p hp
  unfold NoS at h
  rw [List.all_eq_true] at h
  have := h p hp
  simpa using this
theorem Hs17.bldNe {w0 w : World} {rows : List Row} {K : World → Prop} {B b : Nat} {s : ByteArray} (hS : Hs17 w0 rows K w) (hn : NoS rows = true) (hG : Bld B b s w) : ∀ p ∈ rows, p.1 ≠ b ∧ ∀ c fz, w.heap[p.1]? ≠ some (.cells c 5 fz) := by
  intro p hp
  have hA := hS.arr p hp
  have hT := NoS.ne hn p hp
  obtain ⟨fz, hA⟩ : ∃ fz, w.heap[p.1]? = some (.cells p.2.2.toArray p.2.1 fz) := ⟨_, hA⟩
  refine ⟨fun e => ?_, fun c fz' h => ?_⟩
  · obtain ⟨c, fz', h⟩ := hG.blk.2.2
    rw [← e, hA] at h
    simp only [Option.some.injEq, Obj.cells.injEq] at h
    exact hT.2 h.2.1
  · rw [hA] at h
    simp only [Option.some.injEq, Obj.cells.injEq] at h
    exact hT.1 h.2.1
/-- a builder's call: what it holds turns, all else stands -/
theorem Hs17.bld {w0 w w' : World} {rows : List Row} {K : World → Prop} {b : Nat} {s s' : ByteArray} (hS : Hs17 w0 rows (fun v => K v ∧ Bld w0.heap.size b s v) w) (hK : ∀ v, Old w0 v → K v) (hn : NoS rows = true)
    (hb : Below w0.heap.size w w') (ho : Lib.OthersKept 5 (some b) w w') (hG : Bld w0.heap.size b s' w') : Hs17 w0 rows (fun v => K v ∧ Bld w0.heap.size b s' v) w' := by
  have hne := hS.bldNe hn hS.K.2
  have hbl := hS.bel
  have hbl' : Below w0.heap.size w0 w' := hbl.trans hb
  have hrow : ∀ p ∈ rows, w'.heap[p.1]? = w.heap[p.1]? := fun p hp => by
    have hlt := (hS.arr p hp).lt
    obtain ⟨o, hoo⟩ : ∃ o, w.heap[p.1]? = some o := ⟨_, Array.getElem?_eq_getElem hlt⟩
    rw [hoo]
    exact ho p.1 o hoo (fun e => (hne p hp).1 (Option.some.inj e)) (fun c fz e => (hne p hp).2 c fz (hoo.trans (congrArg some e)))
  have hS1 : Hs17 w0 rows (fun _ => True) w' := ⟨hS.nd, fun p hp => (hrow p hp).trans (hS.arr p hp), hS.old, hbl', fun _ _ _ => trivial⟩
  have hne' := hS1.bldNe hn hG
  refine ⟨hS.nd, hS1.arr, hS.old, hbl', fun w'' h1 h2 => ⟨hK w'' ⟨Nat.le_trans hbl'.size h1, fun k hk => ?_⟩, hG.keep (fun k hk _ hc => h2 k hk (fun p hp e => ?_)) h1⟩⟩
  · refine (h2 k (Nat.lt_of_lt_of_le hk hbl'.size) (fun p hp e => ?_)).trans (hbl'.block k hk)
    have := hS.old p hp; omega
  · rcases hc with hc | ⟨c, fz, hc⟩
    · exact (hne' p hp).1 (e.trans hc)
    · exact (hne' p hp).2 c fz (e ▸ hc)
/-- a new builder -/
theorem Hs17.bld0 {w0 w : World} {rows : List Row} {K : World → Prop} {g : Nat} (hS : Hs17 w0 ((g, 77, [.pointer none, .slice none 0 0]) :: rows) K w) (hK : ∀ v, Old w0 v → K v) (hn : NoS rows = true) : Hs17 w0 rows (fun v => K v ∧ Bld w0.heap.size g .empty v) w := by
  have hA := hS.arr _ (List.mem_cons_self ..)
  have hg := hS.old _ (List.mem_cons_self ..)
  have hG : Bld w0.heap.size g .empty w := .inl ⟨hg, .slice none 0 0, hA, World.ownsRowF_nil _ _ _ _, by simp [Value.ownBlock]⟩
  have h1 : Hs17 w0 rows K w := hS.sub (List.sublist_cons_self _ _)
  have hne := h1.bldNe hn hG
  refine h1.also (fun w'' h1 h2 => hG.keep (fun k hk _ hc => h2 k hk (fun p hp e => ?_)) h1)
  rcases hc with hc | ⟨c, fz, hc⟩
  · exact (hne p hp).1 (e.trans hc)
  · exact (hne p hp).2 c fz (e ▸ hc)
theorem dec_itoaN (n : Nat) : (dgL n).map (fun z => UInt8.ofNat z.toNat) = Lib.decDigits n := by
  induction n using Nat.strongRecOn with
  | _ n ih =>
    by_cases h : n < 10
    · rw [dgL_lt h, Lib.decDigits, dif_pos h]
      simp only [List.map_cons, List.map_nil]
      congr 2
    · rw [dgL_ge h, Lib.decDigits, dif_neg h, List.map_append, ih (n / 10) (by omega)]
      simp only [List.map_cons, List.map_nil]
      congr 2
theorem itoa_str (n : Int) : (⟨(Lib.itoa n).toArray⟩ : ByteArray) = strOfNums (decL n) := by
  unfold Lib.itoa decL strOfNums
  split
  · rw [List.map_cons, dec_itoaN]; rfl
  · rename_i h
    rw [dec_itoaN, show n.natAbs = n.toNat by omega]
end Go.Proofs.YtdcaojiiaocnaaaGreatDoor
