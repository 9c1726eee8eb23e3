import Derived.Test.YtmdpmkdofgligaaTorW
import Derived.Deep.RegionHeld3
set_option linter.unusedVariables false
namespace Go.Proofs.Ytmdpmkdofgligaa
open Go.RowKit

set_option maxHeartbeats 1000000 in
set_option maxRecDepth 100000 in
theorem alike_t (k : Int) (a b : Option Addr) (m c c' : Nat) (l : List Int) (w : World) (ha : Sl.Ok w ⟨a, m, c, l⟩) (hb : Sl.Ok w ⟨b, m, c', l⟩) (hm : m ≤ 1099511627776) :
    Calls Try.prog 12 #[.agg #[.int .u8 k, .slice a m c], .agg #[.int .u8 k, .slice b m c']] w fun e w' => e = .returned (.bool true) ∧ Below w.heap.size w w' := by
  have hS := same_t ⟨a, m, c, l⟩ ⟨b, m, c', l⟩ ((w.alloc (.cells #[.int .u8 k, .slice a m c] 39)).alloc (.cells #[.int .u8 k, .slice b m c'] 39)) ((ha.later (below_alloc w _)).later (below_alloc _ _)) ((hb.later (below_alloc w _)).later (below_alloc _ _)) hm rfl
  simp only [Sl.v] at hS
  have hkk : (k == k) = true := by simp
  clear ha hb
  go_enter Try.func12, Try.ntmps12
  go_wp2_with (go_at_call 15; refine hS.mono ?_; rintro e w2 ⟨rfl, q, rfl⟩; clear hS)
  go_ret
  exact ⟨rfl, below_drewN (bel_then (below_alloc w _) (below_alloc w _).size (below_alloc _ _)) q⟩
theorem flat_drop : ∀ (fs : List (Int × List Int)) (j : Nat) (f : Int × List Int), fs[j]? = some f → (flat fs).drop (flat (fs.take j)).length = encL f.1 f.2 ++ flat (fs.drop (j + 1))
  | [], j, f, h => by simp at h
  | g :: fs, 0, f, h => by simp at h; subst h; simp [flat]
  | g :: fs, j + 1, f, h => by
    have ih := flat_drop fs j f (by simpa using h)
    simp only [List.take_succ_cons, flat, List.length_append, List.drop_succ_cons]
    rw [← List.drop_drop, List.drop_left, ih]
theorem decode_at (d : Sl) (i : Nat) (k : Int) (p r : List Int) (w : World) (hd : d.Ok w) (hL : d.l.drop i = encL k p ++ r) (hk : 0 ≤ k ∧ k ≤ 255) (hp : IsB p) (n : Nat) (hn : p.length = n) (hlen : n ≤ 262144) (hi : i ≤ d.n) :
    Calls Try.prog 10 #[d.v, .int .i64 i] w fun e w' => ∃ a c, e = .returned (.tuple #[.agg #[.int .u8 k, .slice a n n], .int .i64 (i + n + 10 : Nat), .int .i64 0]) ∧
      w'.ownsRow w.heap.size 5 1 (.slice a n c) n (U8 p) ∧ Below w.heap.size w w' := by
  subst hn
  have hmz := mz_enc k p r hk hp hlen
  have hl : i + p.length + 10 ≤ d.n := by
    have h := congrArg List.length hL
    rw [List.length_drop, List.length_append, encL_length, hd.len] at h
    omega
  have hD := decode_some d i p.length w hd (by rw [hL]; exact hmz) hl hlen
  have hk1 : d.l.getD (i + 1) 0 = k := by
    have h := enc_kind k p r
    rw [← hL] at h
    simpa [List.getD, List.getElem?_drop] using h
  have hp1 : (d.l.drop (i + 6)).take p.length = p := by
    have h := enc_pay k p r
    rw [← hL, List.drop_drop] at h
    exact h
  simp only [hk1, hp1, frV] at hD
  exact hD
end Go.Proofs.Ytmdpmkdofgligaa
