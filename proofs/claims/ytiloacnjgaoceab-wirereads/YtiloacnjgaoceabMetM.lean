import Derived.Test.YtiloacnjgaoceabFacM
namespace Go.Proofs.Ytiloacnjgaoceab
open Go.RowKit

theorem Fac.ret {α : Type} {V : α → Value → World → World → Prop} {z : Value} {p : Nat} {s : Sl} {f : Int} {D : Parse α} {w w' : World} {e : Ending} (h : Fac V z p s f D w e w') : ∃ v, e = .returned v := by
  obtain ⟨-, h⟩ := h
  split at h
  · exact ⟨z, h.1⟩
  · split at h
    · obtain ⟨v, _, rfl, -⟩ := h; exact ⟨v, rfl⟩
    · exact ⟨z, h.1⟩
theorem Rdr.later {w w' : World} {p : Nat} {s : Sl} {f : Int} (h : Rdr w p s f) (hb : Below w.heap.size w w') : Rdr w' p s f :=
  ⟨h.arr.later hb, h.ok.later hb, fun x hx => ⟨(h.off x hx).1, Nat.lt_of_lt_of_le (h.off x hx).2 hb.size⟩⟩
/-- a Reader stays while neither it nor what it reads is written -/
theorem Rdr.keep {S : Nat → Prop} {w w' : World} {p : Nat} {s : Sl} {f : Int} (h : Rdr w p s f) (hb : Buts S w w') (hp : ¬ S p) (hs : 0 < s.l.length → ∀ x, s.a = some x → ¬ S x.block) : Rdr w' p s f :=
  ⟨hb.arr h.arr hp, hb.ok h.ok hs, fun x hx => ⟨(h.off x hx).1, Nat.lt_of_lt_of_le (h.off x hx).2 hb.size⟩⟩
theorem Fac.early {α : Type} {V : α → Value → World → World → Prop} (hL : Lasts V) {z : Value} {p : Nat} {s : Sl} {f : Int} {D : Parse α} {w W w' : World} {e : Ending} (h : Fac V z p s f D W e w') (hb : Below w.heap.size w W) : Fac V z p s f D w e w' := by
  obtain ⟨hB, h⟩ := h
  refine ⟨⟨hB.os.trans hb.os, hB.tape.trans hb.tape, hB.output.trans hb.output, Nat.le_trans hb.size hB.size, fun k hk hp => (hB.block k (Nat.lt_of_lt_of_le hk hb.size) hp).trans (hb.block k hk)⟩, ?_⟩
  split at h
  · rename_i hf
    rw [if_pos hf]; exact h
  · rename_i hf
    rw [if_neg hf]
    split at h
    · obtain ⟨v, t, he, hV, hR, hr, hS⟩ := h
      exact ⟨v, t, he, hL _ _ w W w' w' p _ hV hb.size (But.refl _ _) hR.arr, hR, hr, hS⟩
    · exact h
end Go.Proofs.Ytiloacnjgaoceab
