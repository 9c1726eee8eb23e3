import Derived.Test.YtdcaojiiaocnaaaDoorQSfM
import Derived.Test.YtdcaojiiaocnaaaDoorQSqM
import Derived.Shelf.Strings.BuilderK
import Derived.Lib.ItoaNum
import Derived.Lib.LaidTab
set_option linter.unusedSimpArgs false
set_option linter.unusedVariables false
namespace Go.Proofs.YtdcaojiiaocnaaaDoor
open Go.RowKit

/-! A strings.Builder beside the rows of a call; numbers as the library tells them. -/
def Bld (B b : Nat) (s : ByteArray) (w : World) : Prop := Lib.IsBuilderF 46 5 B b (Lib.strCells s) w
theorem strCells_app (a b : ByteArray) : Lib.strCells (a ++ b) = Lib.strCells a ++ Lib.strCells b := by
  unfold Lib.strCells
  rw [ByteArray.data_append, Array.toList_append, List.map_append]
theorem Bld.blk {B b : Nat} {s : ByteArray} {w : World} (h : Bld B b s w) : B ≤ b ∧ b < w.heap.size ∧ ∃ c fz, w.heap[b]? = some (.cells c 46 fz) := by
  rcases h with h | h
  all_goals
    have hlt := h.lt
    obtain ⟨hB, v, hb, -, -⟩ := h
    exact ⟨hB, hlt, _, _, hb⟩
theorem ownF_lt {w : World} {B : Nat} {e : TypeId} {v : Value} {n : Nat} {xs : List Value} (h : w.ownsRowF B e 1 v n xs) {g : Nat} (hg : v.ownBlock = some g) : B ≤ g ∧ g < w.heap.size ∧ ∃ c fz, w.heap[g]? = some (.cells c e fz) := by
  have := h.lt g hg
  exact ⟨this.1, this.2, Lib.ownsRowF_kind h g hg⟩
/-- the blocks that it takes stand: it stands -/
theorem Bld.keep {B b : Nat} {s : ByteArray} {w w' : World} (h : Bld B b s w) (hk : ∀ k, k < w.heap.size → B ≤ k → (k = b ∨ ∃ c fz, w.heap[k]? = some (.cells c 5 fz)) → w'.heap[k]? = w.heap[k]?) (hsz : w.heap.size ≤ w'.heap.size) : Bld B b s w' := by
  have hbk := h.blk
  have go : ∀ p, Lib.BuilderAtF 46 5 B b p (Lib.strCells s) w → Lib.BuilderAtF 46 5 B b p (Lib.strCells s) w' := by
    rintro p ⟨hB, v, hb, hown, hne⟩
    refine ⟨hB, v, (hk b hbk.2.1 hB (.inl rfl)).trans hb, ?_, hne⟩
    refine ⟨hown.1, ?_⟩
    rcases hown.2 with hn | ⟨g, cap, cur, fz, rfl, hg0, hgg, rest⟩
    · exact .inl hn
    · refine .inr ⟨g, cap, cur, fz, rfl, hg0, ?_, rest⟩
      exact (hk g (Array.getElem?_eq_some_iff.1 hgg).1 hg0 (.inr ⟨_, _, hgg⟩)).trans hgg
  exact h.elim (fun x => .inl (go _ x)) (fun x => .inr (go _ x))
/-- rows that are no builder's and no bytes -/
def NoS (rows : List Row) : Bool := rows.all fun p => !(p.2.1 == 5) && !(p.2.1 == 46)
theorem NoS.ne {rows : List Row} (h : NoS rows = true) : ∀ p ∈ rows, p.2.1 ≠ 5 ∧ p.2.1 ≠ 46 := by
  intro p hp
  unfold NoS at h
  rw [List.all_eq_true] at h
  have := h p hp
  simpa using this
theorem Hs17.bldNe {w0 w : World} {rows : List Row} {K : World → Prop} {B b : Nat} {s : ByteArray} (hS : Hs17 w0 rows K w) (hn : NoS rows = true) (hG : Bld B b s w) : ∀ p ∈ rows, p.1 ≠ b ∧ ∀ c fz, w.heap[p.1]? ≠ some (.cells c 5 fz) := by
  intro p hp
  have hA := hS.arr p hp
  have hT := NoS.ne hn p hp
  obtain ⟨fz, hA⟩ : ∃ fz, w.heap[p.1]? = some (.cells p.2.2.toArray p.2.1 fz) := ⟨_, hA⟩
  refine ⟨fun e => ?_, fun c fz' h => ?_⟩
  · obtain ⟨c, fz', h⟩ := hG.blk.2.2
    rw [← e, hA] at h
    simp only [Option.some.injEq, Obj.cells.injEq] at h
    exact hT.2 h.2.1
  · rw [hA] at h
    simp only [Option.some.injEq, Obj.cells.injEq] at h
    exact hT.1 h.2.1
/-- a builder's call: what it holds turns, all else stands -/
theorem Hs17.bld {w0 w w' : World} {rows : List Row} {K : World → Prop} {b : Nat} {s s' : ByteArray} (hS : Hs17 w0 rows (fun v => K v ∧ Bld w0.heap.size b s v) w) (hK : ∀ v, Old w0 v → K v) (hn : NoS rows = true)
    (hb : Below w0.heap.size w w') (ho : Lib.OthersKept 5 (some b) w w') (hG : Bld w0.heap.size b s' w') : Hs17 w0 rows (fun v => K v ∧ Bld w0.heap.size b s' v) w' := by
  have hne := hS.bldNe hn hS.K.2
  have hbl := hS.bel
  have hbl' : Below w0.heap.size w0 w' := hbl.trans hb
  have hrow : ∀ p ∈ rows, w'.heap[p.1]? = w.heap[p.1]? := fun p hp => by
    have hlt := (hS.arr p hp).lt
    obtain ⟨o, hoo⟩ : ∃ o, w.heap[p.1]? = some o := ⟨_, Array.getElem?_eq_getElem hlt⟩
    rw [hoo]
    exact ho p.1 o hoo (fun e => (hne p hp).1 (Option.some.inj e)) (fun c fz e => (hne p hp).2 c fz (hoo.trans (congrArg some e)))
  have hS1 : Hs17 w0 rows (fun _ => True) w' := ⟨hS.nd, fun p hp => (hrow p hp).trans (hS.arr p hp), hS.old, hbl', fun _ _ _ => trivial⟩
  have hne' := hS1.bldNe hn hG
  refine ⟨hS.nd, hS1.arr, hS.old, hbl', fun w'' h1 h2 => ⟨hK w'' ⟨Nat.le_trans hbl'.size h1, fun k hk => ?_⟩, hG.keep (fun k hk _ hc => h2 k hk (fun p hp e => ?_)) h1⟩⟩
  · refine (h2 k (Nat.lt_of_lt_of_le hk hbl'.size) (fun p hp e => ?_)).trans (hbl'.block k hk)
    have := hS.old p hp; omega
  · rcases hc with hc | ⟨c, fz, hc⟩
    · exact (hne' p hp).1 (e.trans hc)
    · exact (hne' p hp).2 c fz (e ▸ hc)
/-- a new builder -/
theorem Hs17.bld0 {w0 w : World} {rows : List Row} {K : World → Prop} {g : Nat} (hS : Hs17 w0 ((g, 46, [.pointer none, .slice none 0 0]) :: rows) K w) (hK : ∀ v, Old w0 v → K v) (hn : NoS rows = true) : Hs17 w0 rows (fun v => K v ∧ Bld w0.heap.size g .empty v) w := by
  have hA := hS.arr _ (List.mem_cons_self ..)
  have hg := hS.old _ (List.mem_cons_self ..)
  have hG : Bld w0.heap.size g .empty w := .inl ⟨hg, .slice none 0 0, hA, World.ownsRowF_nil _ _ _ _, by simp [Value.ownBlock]⟩
  have h1 : Hs17 w0 rows K w := hS.sub (List.sublist_cons_self _ _)
  have hne := h1.bldNe hn hG
  refine h1.also (fun w'' h1 h2 => hG.keep (fun k hk _ hc => h2 k hk (fun p hp e => ?_)) h1)
  rcases hc with hc | ⟨c, fz, hc⟩
  · exact (hne p hp).1 (e.trans hc)
  · exact (hne p hp).2 c fz (e ▸ hc)
theorem dec_itoaN (n : Nat) : (dgL n).map (fun z => UInt8.ofNat z.toNat) = Lib.decDigits n := by
  induction n using Nat.strongRecOn with
  | _ n ih =>
    by_cases h : n < 10
    · rw [dgL_lt h, Lib.decDigits, dif_pos h]
      simp only [List.map_cons, List.map_nil]
      congr 2
    · rw [dgL_ge h, Lib.decDigits, dif_neg h, List.map_append, ih (n / 10) (by omega)]
      simp only [List.map_cons, List.map_nil]
      congr 2
theorem itoa_str (n : Int) : (⟨(Lib.itoa n).toArray⟩ : ByteArray) = strOfNums (decL n) := by
  unfold Lib.itoa decL strOfNums
  split
  · rw [List.map_cons, dec_itoaN]; rfl
  · rename_i h
    rw [dec_itoaN, show n.natAbs = n.toNat by omega]
end Go.Proofs.YtdcaojiiaocnaaaDoor
