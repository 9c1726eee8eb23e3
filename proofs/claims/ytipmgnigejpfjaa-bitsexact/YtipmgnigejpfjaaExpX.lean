import Derived.Test.YtipmgnigejpfjaaAppT
namespace Go.Proofs.Ytipmgnigejpfjaa
open Go.RowKit

theorem IsB.replicate0 (n : Nat) : IsB (List.replicate n 0) := by
  intro x hx; have := List.eq_of_mem_replicate hx; subst this; omega
theorem IsB.app {a b : List Int} (ha : IsB a) (hb : IsB b) : IsB (a ++ b) := by
  intro x hx; rcases List.mem_append.1 hx with h | h
  · exact ha x h
  · exact hb x h
theorem own_setRow {w : World} {base e n : Nat} {g0 cap : Nat} {xs : List Value} (h : w.ownsRow base e 1 (.slice (some ⟨g0, 0, none⟩) n cap) n xs) {g : Nat} (c : Array Value) (hg : g0 ≠ g) : (w.setRow g c).ownsRow base e 1 (.slice (some ⟨g0, 0, none⟩) n cap) n xs := by
  refine ⟨h.1, ?_⟩
  rcases h.2 with h2 | ⟨g', cap', cur, h1, h2, h3, h4⟩
  · exact .inl h2
  · refine .inr ⟨g', cap', cur, h1, h2, ?_, h4⟩
    simp at h1
    rw [setRow_other w g g' c (by omega)]; exact h3
theorem own_base {w : World} {B B' e n : Nat} {v : Value} {xs : List Value} (h : w.ownsRow B e 1 v n xs) (hB : B' ≤ B) : w.ownsRow B' e 1 v n xs := by
  refine ⟨h.1, ?_⟩
  rcases h.2 with h2 | ⟨g, cap, cur, h1, h2, h3⟩
  · exact .inl h2
  · exact .inr ⟨g, cap, cur, h1, by omega, h3⟩
theorem Lies.setRow {w : World} {a : Option Addr} {l : List Int} (h : Lies w a l) {g : Nat} (c : Array Value) (hg : 0 < l.length → ∀ x, a = some x → x.block < g) : Lies (w.setRow g c) a l := by
  intro hp
  obtain ⟨b, off, ha, hlt, hc⟩ := h hp
  have hb := hg hp _ ha
  simp only at hb
  refine ⟨b, off, ha, by simpa using hlt, fun i hi => ?_⟩
  rw [World.cell?_of_block (w := w) (setRow_other w g b c (by omega))]; exact hc i hi
theorem Sl.Ok.setRow {w : World} {s : Sl} (h : s.Ok w) {g : Nat} (c : Array Value) (hg : 0 < s.l.length → ∀ x, s.a = some x → x.block < g) : s.Ok (w.setRow g c) := ⟨h.len, h.le, h.mx, h.nn, h.isB, h.lies.setRow c hg⟩
theorem byte_at {w W : World} {x : Int} (h : w.alloc (.cells #[.int .u8 x] 5 (0, 0)) = W) (h0 : 0 ≤ x) (h1 : x ≤ 255) : Sl.Ok W ⟨some ⟨w.heap.size, 0, none⟩, 1, 1, [x]⟩ := by
  subst h
  refine ⟨rfl, Nat.le_refl _, (by show 1 ≤ maxLen; decide), (fun h => by cases h), (by intro y hy; simp at hy; subst hy; exact ⟨h0, h1⟩), ?_⟩
  exact (Arr.new w 5 (U8 [x])).lies
end Go.Proofs.Ytipmgnigejpfjaa
