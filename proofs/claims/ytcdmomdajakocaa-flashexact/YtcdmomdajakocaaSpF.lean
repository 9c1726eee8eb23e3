import Derived.Test.YtcdmomdajakocaaStF
namespace Go.Proofs.Ytcdmomdajakocaa
open Go.RowKit

/-- steps in memory -/
def LiesS (w : World) (a : Option Addr) (ss : List Stf) : Prop :=
  0 < ss.length → ∃ b off, a = some ⟨b, off, none⟩ ∧ b < w.heap.size ∧ ∀ i q, ss[i]? = some q → ∀ j v, q.cells[j]? = some v → w.cell? ⟨b, off + i * 5 + j, none⟩ = some v
structure Spf where
  a : Option Addr
  n : Nat
  c : Nat
  ss : List Stf
def Spf.v (s : Spf) : Value := .slice s.a s.n s.c
structure Spf.Ok (w : World) (s : Spf) : Prop where
  len : s.ss.length = s.n
  le : s.n ≤ s.c
  mx : s.c ≤ maxLen
  lies : LiesS w s.a s.ss
  all : ∀ q ∈ s.ss, q.b.Ok w
theorem LiesS.keep {S : Nat → Prop} {w w' : World} {a : Option Addr} {ss : List Stf} (h : LiesS w a ss) (hb : Buts S w w') (hS : 0 < ss.length → ∀ y, a = some y → ¬ S y.block) : LiesS w' a ss := by
  intro hp
  obtain ⟨b, off, rfl, hlt, hc⟩ := h hp
  exact ⟨b, off, rfl, Nat.lt_of_lt_of_le hlt hb.size, fun i q hi j v hv => (World.cell?_of_block (w := w) (w' := w') (a := ⟨b, off + i * 5 + j, none⟩) (hb.block b hlt (hS hp _ rfl))).trans (hc i q hi j v hv)⟩
theorem Spf.Ok.later {w w' : World} {s : Spf} (h : s.Ok w) (hb : Below w.heap.size w w') : s.Ok w' :=
  ⟨h.len, h.le, h.mx, h.lies.keep (Buts.of_below (S := fun _ => False) hb) (fun _ _ _ e => e), fun q hq => (h.all q hq).later hb⟩
theorem Spf.Ok.blk {w : World} {s : Spf} (h : s.Ok w) : 0 < s.ss.length → ∀ y, s.a = some y → y.block < w.heap.size := by
  intro hp y hy
  obtain ⟨b, off, ha, hlt, -⟩ := h.lies hp
  rw [ha] at hy; simp at hy; subst hy; exact hlt
/-- the cells of the i-th -/
theorem Spf.Ok.at_ {w : World} {s : Spf} (h : s.Ok w) {i : Nat} {q : Stf} (hi : s.ss[i]? = some q) : ∃ b off, s.a = some ⟨b, off, none⟩ ∧ b < w.heap.size ∧
    w.cell? ⟨b, off + i * 5, none⟩ = some (.int .i64 q.kind) ∧ w.cell? ⟨b, off + i * 5 + 1, none⟩ = some (.int .i64 q.bank) ∧ w.cell? ⟨b, off + i * 5 + 2, none⟩ = some (.slice q.b.a q.b.n q.b.c) ∧
    w.cell? ⟨b, off + i * 5 + 3, none⟩ = some (.int .i64 q.x) ∧ w.cell? ⟨b, off + i * 5 + 4, none⟩ = some (.int .i64 q.y) := by
  have hp : 0 < s.ss.length := by
    by_cases hl : i < s.ss.length
    · omega
    · rw [List.getElem?_eq_none (by omega)] at hi; simp at hi
  obtain ⟨b, off, ha, hlt, hc⟩ := h.lies hp
  have hc := hc i q hi
  exact ⟨b, off, ha, hlt, hc 0 _ rfl, hc 1 _ rfl, hc 2 _ rfl, hc 3 _ rfl, hc 4 _ rfl⟩
/-- how much the first steps hold -/
def sizN (ss : List Stf) : Nat := (ss.map fun q => q.b.n).sum
theorem sizN_snoc (ss : List Stf) (k : Nat) (q : Stf) (h : ss[k]? = some q) : sizN (ss.take (k + 1)) = sizN (ss.take k) + q.b.n := by
  have hk : k < ss.length := by
    by_cases hl : k < ss.length
    · exact hl
    · rw [List.getElem?_eq_none (by omega)] at h; simp at h
  rw [List.take_succ_eq_append_getElem hk]
  rw [List.getElem?_eq_getElem hk] at h; simp at h
  simp [sizN, h]
theorem sizN_mem (ss : List Stf) (q : Stf) (h : q ∈ ss) : q.b.n ≤ sizN ss := by
  induction ss with
  | nil => simp at h
  | cons p r ih =>
    rcases List.mem_cons.1 h with rfl | h
    · simp only [sizN, List.map_cons, List.sum_cons] at *; omega
    · have := ih h; simp only [sizN, List.map_cons, List.sum_cons] at *; omega
set_option maxHeartbeats 2000000 in
set_option maxRecDepth 100000 in
theorem size_any (s : Spf) (w : World) (hs : s.Ok w) (hr : ∀ q ∈ s.ss, q.b.n ≤ 140737488351232) :
    Calls Try.prog 4 #[s.v] w fun e w' => ∃ r : Nat, e = .returned (.int .i64 r) ∧ r ≤ 2000000000000000 ∧ (r ≤ 2097152 → r = sizN s.ss) ∧ w' = w := by
  have hsv : s.v = .slice s.a s.n s.c := rfl
  have hlen := hs.len
  have hle := hs.le
  have hmx := hs.mx
  unfold maxLen at hmx
  rw [hsv]
  go_enter Try.func4, Try.ntmps4
  go_wp2_with fail
  go_loopw [3, 4] (fun n i wr => ∃ k : Nat, k ≤ s.n ∧ i = .int .i64 k ∧ n = .int .i64 (sizN (s.ss.take k) : Nat) ∧ Hid (sizN (s.ss.take k) ≤ 2097152) ∧ wr = w) (fun _ i _ => s.n - (intOf i).toNat)
  case atStart => exact ⟨0, by omega, rfl, by simp [sizN], hide (by simp [sizN]), rfl⟩
  case round =>
    obtain ⟨k, hk, rfl, rfl, HB, rfl⟩ := hrel
    by_cases hlt : k < s.n
    · obtain ⟨q, hq⟩ : ∃ q, s.ss[k]? = some q := ⟨_, List.getElem?_eq_getElem (by omega)⟩
      have hmem : q ∈ s.ss := List.mem_of_getElem? hq
      obtain ⟨bk, off, ha, hbl, -, -, c2, -, -⟩ := hs.at_ hq
      have hb := hr q hmem
      have hsn := sizN_snoc s.ss k q hq
      have hBv := unhide HB
      have HS := hide hsn
      obtain ⟨kd, bank, b, x, y⟩ := q
      simp only at c2 hb
      obtain ⟨Z, hZ⟩ : ∃ Z, sizN (s.ss.take k) = Z := ⟨_, rfl⟩
      rw [hZ] at hBv ⊢
      have HZ := hide hZ
      obtain ⟨m, hm⟩ : ∃ m, b.n = m := ⟨_, rfl⟩
      rw [hm] at c2 hb
      have HM := hide hm
      have hkz : (k : Int) < (s.n : Int) := by omega
      have hlz : (s.n : Int) ≤ 9223372036854775807 := by omega
      have hsum : (Z : Int) + (m : Int) ≤ 9223372036854775807 := by omega
      have hsa := ha
      clear hs hr hq hmem hsn hZ hm HB
      by_cases hbig : 2097152 < Z + m
      · have hbz : (2097152 : Int) < (Z : Int) + (m : Int) := by omega
        go_wp2
        go_ret
        exact ⟨Z + m, by simp, by omega, by omega, rfl⟩
      · have hbz : ¬ (2097152 : Int) < (Z : Int) + (m : Int) := by omega
        go_wp2
        go_roundw
        case rel => exact ⟨k + 1, by omega, by go_num, by rw [unhide HS, unhide HZ]; simp only; rw [unhide HM]; go_num, hide (by rw [unhide HS, unhide HZ]; simp only; rw [unhide HM]; omega), trivial⟩
        case measure => simp [intOf]; omega
    · have hkz : ¬ (k : Int) < (s.n : Int) := by omega
      have hkz' : (s.n : Int) ≤ (k : Int) := by omega
      have hBv := unhide HB
      have HF : Hid (sizN (s.ss.take k) = sizN s.ss) := hide (by rw [List.take_of_length_le (by omega)])
      go_wp2
      go_ret
      exact ⟨_, rfl, by omega, fun _ => unhide HF, rfl⟩
end Go.Proofs.Ytcdmomdajakocaa
