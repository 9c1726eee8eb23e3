import Derived.Test.YtmdpmkdofgligaaEnW
import Derived.Test.YtmdpmkdofgligaaDeW
import Derived.Test.YtmdpmkdofgligaaEdM
import Derived.Test.YtmdpmkdofgligaaSaW
set_option linter.unusedVariables false
namespace Go.Proofs.Ytmdpmkdofgligaa
open Go.RowKit

theorem own_cut {w : World} {base n c : Nat} {a : Option Addr} {l : List Int} (h : w.ownsRow base 5 1 (.slice a n c) n (U8 l)) (hB : IsB l) : Sl.Ok w ⟨a, n, n, l⟩ ∧ ∀ x, a = some x → base ≤ x.block := by
  obtain ⟨s, hs, so, sl, sn, sa⟩ := own_sl h hB
  obtain ⟨sa', sn', sc, sl'⟩ := s
  simp only [Sl.v, Value.slice.injEq] at hs
  obtain ⟨rfl, rfl, rfl⟩ := hs
  simp only at sl sa
  subst sl
  have h1 := so.le
  have h2 := so.mx
  simp only at h1 h2
  exact ⟨⟨so.len, Nat.le_refl _, by simp only; omega, (fun e => by have := so.nn e; simp only at this ⊢; omega), so.isB, so.lies⟩, sa⟩
theorem same_t (a b : Sl) (w : World) (ha : a.Ok w) (hb : b.Ok w) (hn : a.n ≤ 1099511627776) (h : a.l = b.l) :
    Calls Try.prog 15 #[a.v, b.v] w fun e w' => e = .returned (.bool true) ∧ ∃ k, w' = w.drewN k := by
  have := same_any a b w ha hb hn
  rw [decide_eq_true h] at this
  exact this
def lonL (N : Nat) (c : Int) : List Int := (List.replicate N 0).set (N - 1) c
theorem lonL_length (N : Nat) (c : Int) : (lonL N c).length = N := by simp [lonL]
theorem lonL_isB (N : Nat) (c : Int) (h : 0 ≤ c ∧ c ≤ 255) : IsB (lonL N c) := by
  intro x hx
  rcases List.mem_or_eq_of_mem_set hx with h1 | h1
  · have := List.eq_of_mem_replicate h1; omega
  · rw [h1]; exact h
theorem long_len (N : Nat) (h1 : 262144 < N) (h2 : N < 16777216) : lenL [165, 1, (N : Int) / 16777216, (N : Int) / 65536, (N : Int) / 256 % 256, (N : Int) % 256] = N := by
  unfold lenL
  simp only [List.drop_succ_cons, List.drop_zero, List.take_succ_cons, List.take_zero, List.reverse_cons, List.reverse_nil, List.nil_append, List.cons_append, leV]
  omega
end Go.Proofs.Ytmdpmkdofgligaa
