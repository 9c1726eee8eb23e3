import Derived.Test.YtibebhlblmdcgaaQGaA
import Derived.Laws.Externs
import Derived.Lib.Bytealg
import Derived.Lib.BytesEntry
set_option linter.unusedSimpArgs false
set_option linter.unusedVariables false
namespace Go.Proofs.Ytibebhlblmdcgaa
open Go.RowKit

/-- what bytes.Compare says -/
def cmpZ (a b : List Int) : Int := Lib.compareBytes (Lib.bytesOf a) (Lib.bytesOf b)
theorem u8_lt {x y : Int} (hx : 0 ≤ x ∧ x ≤ 255) (hy : 0 ≤ y ∧ y ≤ 255) : x.toNat.toUInt8 < y.toNat.toUInt8 ↔ x < y := by
  rw [UInt8.lt_iff_toNat_lt]
  simp
  omega
theorem cmpZ_abv : ∀ {n : Nat} (a b : List Int), By n a → By n b → ((0 < cmpZ a b) ↔ abv a b = true)
  | 0, [], [], _, _ => by simp [cmpZ, Lib.bytesOf, Lib.compareBytes, abv]
  | 0, _ :: _, _, h, _ => by have := h.len; simp at this
  | 0, [], _ :: _, _, h => by have := h.len; simp at this
  | n + 1, [], _, h, _ => by have := h.len; simp at this
  | n + 1, _ :: _, [], _, h => by have := h.len; simp at this
  | n + 1, x :: a, y :: b, ha, hb => by
    have hx := ha.isB x (by simp)
    have hy := hb.isB y (by simp)
    have ih := cmpZ_abv (n := n) a b ⟨by have := ha.len; simpa using this, fun z hz => ha.isB z (by simp [hz])⟩ ⟨by have := hb.len; simpa using this, fun z hz => hb.isB z (by simp [hz])⟩
    have l1 := u8_lt hx hy
    have l2 := u8_lt hy hx
    unfold cmpZ Lib.bytesOf at *
    simp only [List.map_cons, Lib.compareBytes, abv]
    by_cases h1 : x < y
    · rw [if_pos (l1.2 h1), if_neg (by omega)]; simp; omega
    · rw [if_neg (fun q => h1 (l1.1 q))]
      by_cases h2 : y < x
      · rw [if_pos (l2.2 h2), if_neg (by omega)]; simp; omega
      · rw [if_neg (fun q => h2 (l2.1 q)), if_pos (by omega)]; exact ih
theorem run_loadBs {P : Program} (w : World) (l : List Int) (g o : Nat) (c : Nat) (hl : w.rangeAt g o (U8 l)) : (Extern.Bytes.bytesOf (.slice (some ⟨g, o, none⟩) l.length c)).run P w = .ok ⟨(Lib.bytesOf l).toArray⟩ w := by
  have := Lib.run_loadBytesX (P := P) w l ⟨g, o, none⟩ .empty (fun j x hj => by
    rw [addr_add]; exact hl j _ (by rw [U8_get, hj]; rfl))
  unfold Extern.Bytes.bytesOf
  rw [this]
  simp
theorem run_compareSl {P : Program} (w : World) (a b : List Int) (g o g' o' c c' : Nat) (ha : w.rangeAt g o (U8 a)) (hb : w.rangeAt g' o' (U8 b)) :
    (Extern.BytealgCompare.compare #[.slice (some ⟨g, o, none⟩) a.length c, .slice (some ⟨g', o', none⟩) b.length c']).run P w = .ok (.int .i64 (cmpZ a b)) w := by
  change Sem.run P (do pure (goInt (Extern.BytealgCompare.cmp (← Extern.Bytes.bytesOf (.slice (some ⟨g, o, none⟩) a.length c)) (← Extern.Bytes.bytesOf (.slice (some ⟨g', o', none⟩) b.length c'))))) w = _
  rw [Sem.run_bind, run_loadBs w a g o c ha, Result.andThen_ok, Sem.run_bind, run_loadBs w b g' o' c' hb, Result.andThen_ok, Lib.cmp_eq]
  rfl
end Go.Proofs.Ytibebhlblmdcgaa
