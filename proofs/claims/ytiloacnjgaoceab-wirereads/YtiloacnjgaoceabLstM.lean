import Derived.Test.YtiloacnjgaoceabWtrM
namespace Go.Proofs.Ytiloacnjgaoceab
open Go.RowKit

/-! Rows of numbers of 64 bits. -/

def Q8 (l : List Int) : List Value := l.map (Value.int .u64)
@[simp] theorem Q8_length (l : List Int) : (Q8 l).length = l.length := by simp [Q8]
theorem Q8_at (l : List Int) (i : Nat) (h : i < l.length) : (Q8 l)[i]? = some (.int .u64 (l.getD i 0)) := by
  simp only [Q8, List.getElem?_map, List.getD_eq_getElem?_getD, List.getElem?_eq_getElem h]; rfl
theorem Q8_one (l : List Int) : ∀ u ∈ Q8 l, u.oneCell' = true := by
  intro u hu; simp [Q8] at hu; obtain ⟨x, _, rfl⟩ := hu; rfl
theorem Q8_append (a b : List Int) : Q8 (a ++ b) = Q8 a ++ Q8 b := by simp [Q8]
theorem Q8_set (l : List Int) (i : Nat) (x : Int) : (Q8 l).set i (.int .u64 x) = Q8 (l.set i x) := by simp [Q8, List.map_set]
def IsQ (l : List Int) : Prop := ∀ x ∈ l, 0 ≤ x ∧ x < 18446744073709551616
theorem IsQ.at {l : List Int} (h : IsQ l) (i : Nat) : 0 ≤ l.getD i 0 ∧ l.getD i 0 < 18446744073709551616 := by
  rw [List.getD_eq_getElem?_getD]
  by_cases hi : i < l.length
  · rw [List.getElem?_eq_getElem hi]; exact h _ (List.getElem_mem hi)
  · rw [List.getElem?_eq_none (by omega)]; simp
theorem IsQ.append {a b : List Int} (h : IsQ a) (k : IsQ b) : IsQ (a ++ b) := fun x hx => by
  rcases List.mem_append.1 hx with h' | h'
  · exact h x h'
  · exact k x h'

/-- the numbers l lie at a, in w -/
def LiesQ (w : World) (a : Option Addr) (l : List Int) : Prop :=
  0 < l.length → ∃ b off, a = some ⟨b, off, none⟩ ∧ b < w.heap.size ∧ ∀ i, i < l.length → w.cell? ⟨b, off + i, none⟩ = some (.int .u64 (l.getD i 0))
structure Sq where
  a : Option Addr
  n : Nat
  c : Nat
  l : List Int
def Sq.v (s : Sq) : Value := .slice s.a s.n s.c
structure Sq.Ok (w : World) (s : Sq) : Prop where
  len : s.l.length = s.n
  le : s.n ≤ s.c
  mx : s.c ≤ maxLen
  nn : s.a = none → s.n = 0 ∧ s.c = 0
  isQ : IsQ s.l
  lies : LiesQ w s.a s.l
theorem LiesQ.buts {S : Nat → Prop} {a b : World} (x : Buts S a b) {ad : Option Addr} {l : List Int} (hl : LiesQ a ad l) (hg : 0 < l.length → ∀ y, ad = some y → ¬ S y.block) : LiesQ b ad l := by
  intro hp
  obtain ⟨bk, off, rfl, hlt, hc⟩ := hl hp
  exact ⟨bk, off, rfl, Nat.lt_of_lt_of_le hlt x.size, fun i hi => (World.cell?_of_block (w := a) (w' := b) (a := ⟨bk, off + i, none⟩) (x.block bk hlt (hg hp _ rfl))).trans (hc i hi)⟩
theorem Sq.Ok.keep {S : Nat → Prop} {a b : World} {s : Sq} (h : s.Ok a) (x : Buts S a b) (hg : 0 < s.l.length → ∀ y, s.a = some y → ¬ S y.block) : s.Ok b :=
  ⟨h.len, h.le, h.mx, h.nn, h.isQ, h.lies.buts x hg⟩
theorem Sq.Ok.later {w w' : World} {s : Sq} (h : s.Ok w) (hb : Below w.heap.size w w') : s.Ok w' :=
  h.keep (Buts.of_below (S := fun _ => False) hb) (fun _ _ _ h => h)
theorem Sq.Ok.cells {w : World} {s : Sq} (h : s.Ok w) : ∀ ad, s.a = some ad → ∀ j u, (Q8 s.l)[j]? = some u → w.cell? (ad.add j) = some u := by
  intro ad had j u hu
  have hj : j < s.l.length := by
    by_cases hj : j < s.l.length
    · exact hj
    · rw [List.getElem?_eq_none (by simp; omega)] at hu; simp at hu
  obtain ⟨b, off, ha, _, hc⟩ := h.lies (by omega)
  rw [ha] at had; simp at had; subst had
  rw [Q8_at s.l j hj] at hu; simp only [Option.some.injEq] at hu; subst hu
  rw [addr_add]; exact hc j hj
theorem Sq.Ok.blk {w : World} {s : Sq} (h : s.Ok w) : 0 < s.l.length → ∀ x, s.a = some x → x.block < w.heap.size := by
  intro hp x hx
  obtain ⟨b, off, ha, hlt, -⟩ := h.lies hp
  rw [ha] at hx; simp at hx; subst hx; exact hlt
/-- a row of one's own -/
theorem ownq_sq {w : World} {base n : Nat} {v : Value} {l : List Int} (h : w.ownsRow base 31 1 v n (Q8 l)) (hQ : IsQ l) : ∃ s : Sq, v = s.v ∧ s.Ok w ∧ s.l = l ∧ s.n = n ∧ (∀ x, s.a = some x → base ≤ x.block ∧ v.ownBlock = some x.block) := by
  have hl : l.length = n := by have := h.1; simpa using this
  rcases h.2 with ⟨rfl, rfl⟩ | ⟨g, cap, cur, rfl, hb, hg, hnc, hcm, -⟩
  · exact ⟨⟨none, 0, 0, l⟩, rfl, ⟨by simpa using hl, Nat.le_refl _, Nat.zero_le _, fun _ => ⟨rfl, rfl⟩, hQ, fun hp => by simp only at hp; omega⟩, rfl, rfl, fun _ h => by cases h⟩
  · refine ⟨⟨some ⟨g, 0, none⟩, n, cap, l⟩, rfl, ⟨hl, hnc, hcm, (fun h => by cases h), hQ, fun hp => ⟨g, 0, rfl, (h.lt g rfl).2, fun i hi => ?_⟩⟩, rfl, rfl, fun x hx => ?_⟩
    · rw [Nat.zero_add, h.cellAt i (by simp only at hi; omega), Q8_at l i hi]
    · simp at hx; subst hx; exact ⟨hb, rfl⟩

theorem Try.infoQ : (Try.prog.info? 31).map (fun i => (i.zero, i.size, i.bytes)) = some (some (.int .u64 0), 1, 8) := by kernel_rfl
end Go.Proofs.Ytiloacnjgaoceab
