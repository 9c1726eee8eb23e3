import Derived.Test.YtmdpmkdofgligaaStM
import Derived.Test.YtmdpmkdofgligaaDeW
import Derived.Test.YtmdpmkdofgligaaAppT
import Derived.Laws.AppendOwnNone
import Derived.Deep.Slices
set_option linter.unusedSimpArgs false
set_option linter.unusedVariables false
namespace Go.Proofs.Ytmdpmkdofgligaa
open Go.RowKit

/-- all below is as it was -/
structure Old (w w' : World) : Prop where
  size : w.heap.size ≤ w'.heap.size
  block : ∀ k, k < w.heap.size → w'.heap[k]? = w.heap[k]?
theorem Old.of {w w' : World} (h : Below w.heap.size w w') : Old w w' := ⟨h.size, h.block⟩
theorem Hs17.begin (w0 : World) (K : World → Prop) (h : ∀ w', Old w0 w' → K w') : Hs17 w0 [] K w0 :=
  ⟨by simp, (fun p hp => by cases hp), (fun p hp => by cases hp), Below.refl _ _, fun w' h1 h2 => h w' ⟨h1, fun k hk => h2 k hk (fun p hp => by cases hp)⟩⟩
theorem own_blk {w w' : World} {base e sz n : Nat} {v : Value} {xs : List Value} (h : w.ownsRow base e sz v n xs) (hb : ∀ g, v.ownBlock = some g → w'.heap[g]? = w.heap[g]?) : w'.ownsRow base e sz v n xs := by
  refine ⟨h.1, ?_⟩
  rcases h.2 with h2 | ⟨g, cap, cur, h1, h2, h3, h4⟩
  · exact .inl h2
  · exact .inr ⟨g, cap, cur, h1, h2, (hb g (by rw [h1]; rfl)).trans h3, h4⟩
theorem own_low {w : World} {B B' e sz n : Nat} {v : Value} {xs : List Value} (h : w.ownsRow B e sz v n xs) (hB : B' ≤ B) : w.ownsRow B' e sz v n xs := by
  refine ⟨h.1, ?_⟩
  rcases h.2 with h2 | ⟨g, cap, cur, h1, h2, h3⟩
  · exact .inl h2
  · exact .inr ⟨g, cap, cur, h1, Nat.le_trans hB h2, h3⟩
theorem own_old {w w' : World} {base e sz n : Nat} {v : Value} {xs : List Value} (h : w.ownsRow base e sz v n xs) (ho : Old w w') : w'.ownsRow base e sz v n xs := own_blk h (fun g hg => ho.block g (h.lt g hg).2)
theorem Sl.Ok.old {w w' : World} {s : Sl} (h : s.Ok w) (ho : Old w w') : s.Ok w' := by
  refine ⟨h.len, h.le, h.mx, h.nn, h.isB, fun hp => ?_⟩
  obtain ⟨b, off, ha, hlt, hc⟩ := h.lies hp
  refine ⟨b, off, ha, Nat.lt_of_lt_of_le hlt ho.size, fun i hi => ?_⟩
  rw [World.cell?_of_block (w := w) (a := ⟨b, off + i, none⟩) (ho.block b hlt)]
  exact hc i hi
/-- a call that makes a row -/
theorem Hs17.ownB {w0 w w' : World} {rows : List Row} {K : World → Prop} {e sz n : Nat} {v : Value} {xs : List Value} (hS : Hs17 w0 rows K w) (hb : Below w.heap.size w w') (hO : w'.ownsRow w.heap.size e sz v n xs) : Hs17 w0 rows (fun w => K w ∧ w.ownsRow w0.heap.size e sz v n xs) w' := by
  refine (hS.later hb).also (fun w'' h1 h2 => ?_)
  refine own_low (own_blk hO (fun g hg => h2 g (hO.lt g hg).2 (fun p hp e => ?_))) hS.bel.size
  have h3 := (hS.arr p hp).lt
  have h4 := (hO.lt g hg).1
  omega
/-! frames -/
def rC (k : Int) (v : Value) : List Value := [.int .u8 k, v]
def nilB : Value := .slice none 0 0
theorem Try.inR : (Try.prog.info? 39).map (fun i => (i.zero, i.size)) = some (some (aV (rC 0 nilB)), 2) := by kernel_rfl
theorem szR (k : Int) (v : Value) : (Try.prog.info? 39).map (·.size) = some (rC k v).length := by show _ = some 2; kernel_rfl
theorem Try.in1y : (Try.prog.info? 29).map (·.size) = some 1 := by kernel_rfl
theorem at_rk (k : Int) (v : Value) : At (rC k v) 0 [.int .u8 k] := ⟨[], _, rfl, rfl⟩
theorem at_rp (k : Int) (v : Value) : At (rC k v) 1 [v] := ⟨[.int .u8 k], [], rfl, rfl⟩
theorem pt_r (k k' : Int) (v v' : Value) : Pt (rC k v) 0 (rC k' v') (rC k' v') := Pt.self rfl
theorem pt_rp (k : Int) (v v' : Value) : Pt (rC k v) 1 [v'] (rC k v') := ⟨[.int .u8 k], [v], [], rfl, rfl, rfl, rfl⟩
theorem one_r (k : Int) {v : Value} (h : v.oneCell' = true) : ∀ u ∈ rC k v, u.oneCell' = true := by
  intro u hu; simp [rC] at hu; rcases hu with rfl | rfl
  · rfl
  · exact h
theorem one_v {v : Value} (h : v.oneCell' = true) : ∀ u ∈ [v], u.oneCell' = true := by intro u hu; simp at hu; subst hu; exact h
theorem b_rk (k : Int) : Try.prog.built 39 [(0, .int .u8 k)] = some (rC k nilB).toArray := by kernel_rfl
/-- append of bytes to a row of one's own, anywhere -/
theorem op_appB {o : Oper} {a : Act} {w : World} {k : Act → World → Prop} {Q : Exit → Act → World → Prop} (s x : Operand) (ho : o.op = .call { callee := .builtin .append, args := #[s, x], argTypes := #[29, 29] })
    {base n : Nat} {v : Value} {xs : List Value} (hs : a.eval s = v) (hown : w.ownsRow base 5 1 v n xs) (d : Sl) (hd : d.Ok w) (hx : a.eval x = .slice d.a d.n d.c) (hb : n + d.n ≤ 140737488355328) (hbase : base ≤ w.heap.size)
    (h : ∀ v' w', w'.ownsRow base 5 1 v' (n + d.n) (xs ++ U8 d.l) → w.grownBy w' v.ownBlock → (v'.ownBlock = v.ownBlock ∨ v'.ownBlock = some w.heap.size) → k (a.put o.dst v') w') : o.wp Try.prog a w k Q := by
  obtain ⟨i0, hii, hz0, hz1, hz2⟩ := info_parts Try.infoB
  cases hda : d.a with
  | none =>
    obtain ⟨h0, hc0⟩ := hd.nn hda
    have hl0 : d.l = [] := List.eq_nil_of_length_eq_zero (by rw [hd.len, h0])
    have hr := run_append_owned_none (P := Try.prog) (w := w) base 29 o.type 5 i0 1 Try.underlying29 hii v n xs hown
    unfold Oper.wp
    simp [execOp, ho, resolve, invoke, builtin, hs, hx, hda, h0, hc0, hr, Result.andThen]
    exact h v w (by rw [hl0, h0]; simpa [U8] using hown) (World.grownBy.refl w _) (.inl rfl)
  | some ad =>
    obtain ⟨v', w', hr, r1, r2, r3⟩ := run_append_own_at (P := Try.prog) w base 29 o.type 5 i0 (.int .u8 0) 1 1 Try.underlying29 hii hz0 hz1 hz2 rfl (by decide) v n xs hown ad d.n d.c (U8 d.l) (by rw [U8_length, hd.len, Nat.mul_one]) (hd.cells ad hda) (U8_one _) (by unfold maxLen; omega) (by omega) hbase
    unfold Oper.wp
    simp [execOp, ho, resolve, invoke, builtin, hs, hx, hda, hr, Result.andThen]
    exact h v' w' r1 r2 r3
theorem below_nil {w w' : World} (hg : w.grownBy w' (nilB : Value).ownBlock) : Below w.heap.size w w' := ⟨hg.os, hg.tape, hg.output, hg.size, fun k hk => hg.block k hk (by simp [nilB, Value.ownBlock])⟩
/-- a row that was just made -/
theorem own_new (w : World) (l : List Int) (hl : l.length ≤ maxLen) : (w.alloc (.cells (U8 l).toArray 5)).ownsRow w.heap.size 5 1 (.slice (some ⟨w.heap.size, 0, none⟩) l.length l.length) l.length (U8 l) :=
  ⟨by simp, .inr ⟨w.heap.size, l.length, (U8 l).toArray, rfl, Nat.le_refl _, heap_alloc_new w _, Nat.le_refl _, hl, by simp, by rw [Nat.mul_one]; exact List.take_of_length_le (by simp)⟩⟩
end Go.Proofs.Ytmdpmkdofgligaa
