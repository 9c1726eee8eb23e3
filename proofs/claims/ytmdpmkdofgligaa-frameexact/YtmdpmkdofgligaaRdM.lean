import Derived.Test.YtmdpmkdofgligaaRdK
set_option linter.unusedSimpArgs false
set_option linter.unusedVariables false
namespace Go.Proofs.Ytmdpmkdofgligaa
open Go.RowKit

theorem leB_of_leV {q : List Int} {x : Int} (hq : IsB q) (hl : q.length = 4) (hx : 0 ≤ x ∧ x < 4294967296) : leV q = x ↔ q = leB 4 x := by
  have h1 := leV_leB 4 x
  rw [show (2 : Int) ^ (8 * 4) = 4294967296 from rfl, Int.emod_eq_of_lt hx.1 hx.2] at h1
  refine ⟨fun h => lvN_inj _ _ (by rw [hl]; simp) hq (leB_isB 4 x) ?_, fun h => by rw [h, h1]⟩
  have h2 := lvN_leV q hq
  have h3 := lvN_leV (leB 4 x) (leB_isB 4 x)
  omega
theorem rdecode_out (a : Option Addr) (n c : Nat) (z : Int) (w : World) (hz : z < 0 ∨ (n : Int) < z) :
    Calls Try.prog 11 #[.slice a n c, .int .i64 z] w fun e w' => e = .returned (.tuple #[fr0, .int .i64 z, .int .i64 1]) ∧ Below w.heap.size w w' := by
  rcases hz with h | h
  · exact rdec_neg a n c z w h
  · exact rdec_far a n c z w h
/-- what the front of bytes is, in the document's order -/
theorem rdecode_any (d : Sl) (i : Nat) (w : World) (hd : d.Ok w) (hi : i ≤ d.n) :
    ((mz (d.l.drop i)).1 = 0 ∧ Calls Try.prog 11 #[d.v, .int .i64 i] w fun e w' => e = .returned (.tuple #[fr0, .int .i64 i, .int .i64 (mz (d.l.drop i)).2]) ∧ Below w.heap.size w w') ∨
    (∃ m, mz (d.l.drop i) = (m + 10, 0) ∧ i + m + 10 ≤ d.n ∧ m ≤ 262144 ∧ Calls Try.prog 11 #[d.v, .int .i64 i] w fun e w' => ∃ v, e = .returned (.tuple #[frV (d.l.getD (i + 1) 0) v, .int .i64 (i + m + 10 : Nat), .int .i64 0]) ∧
      w'.ownsRow w.heap.size 5 1 v m (U8 ((d.l.drop (i + 6)).take m)) ∧ Below w.heap.size w w') := by
  obtain ⟨a, n, c, l⟩ := d
  have hlen : l.length = n := hd.len
  have hi' : i ≤ n := hi
  simp only [Sl.v] at hi ⊢
  have hql : (l.drop i).length = n - i := by rw [List.length_drop, hlen]
  have hg0 : (l.drop i).getD 0 0 = l.getD i 0 := by simp [List.getD, List.getElem?_drop]
  have hd2 : (l.drop i).drop 2 = l.drop (i + 2) := by rw [List.drop_drop]
  have hd1 : (l.drop i).drop 1 = l.drop (i + 1) := by rw [List.drop_drop]
  obtain ⟨m, hm⟩ : ∃ m, m = lenL (l.drop i) := ⟨_, rfl⟩
  have hmB := lenL_bd (hd.isB.drop i)
  simp only at hmB
  rw [← hm, hd2] at hmB
  unfold mz
  rw [← hm, hql, hg0, hd1]
  by_cases h0 : n - i = 0
  · rw [if_pos h0]
    exact .inl ⟨rfl, rdec_end a n c i l w hd hi' (by omega)⟩
  rw [if_neg h0]
  obtain ⟨ab, ao, haa, -, -⟩ := hd.lies (by show 0 < l.length; omega)
  have haa' : a = some ⟨ab, ao, none⟩ := haa
  subst haa'
  by_cases h1 : l.getD i 0 = 165
  · rw [if_neg (fun h => h h1)]
    by_cases h2 : n - i < 6
    · rw [if_pos h2]
      exact .inl ⟨rfl, rdec_short _ n c i l w hd hi' (by omega) h1 (by omega)⟩
    rw [if_neg h2]
    by_cases h3 : 262144 < m
    · rw [if_pos h3]
      exact .inl ⟨rfl, rdec_long _ n c i l w hd hi' m (by omega) h1 hmB.1.symm h3⟩
    rw [if_neg h3]
    by_cases h4 : n - i < m + 10
    · rw [if_pos h4]
      exact .inl ⟨rfl, rdec_cut _ n c i l w hd hi' m (by omega) h1 hmB.1.symm (by omega) (by omega)⟩
    rw [if_neg h4, List.drop_drop, show i + (m + 6) = i + 6 + m by omega]
    have hcb := crc_bd ((hd.isB.drop (i + 1)).take (m + 5))
    simp only at hcb
    have hq4 : ((l.drop (i + 6 + m)).take 4).length = 4 := by rw [List.length_take, List.length_drop]; omega
    have hiff := leB_of_leV (q := (l.drop (i + 6 + m)).take 4) ((hd.isB.drop (i + 6 + m)).take 4) hq4 hcb
    by_cases h5 : leV ((l.drop (i + 6 + m)).take 4) = crc ((l.drop (i + 1)).take (m + 5))
    · rw [if_neg (fun h => h h5)]
      exact .inr ⟨m, rfl, by omega, by omega, rdec_ok ab ao n c i m l w hd (by omega) h1 hmB.1.symm (by omega) _ rfl (hiff.1 h5)⟩
    · rw [if_pos h5]
      exact .inl ⟨rfl, rdec_sum ab ao n c i m l w hd (by omega) h1 hmB.1.symm (by omega) _ rfl (fun h => h5 (hiff.2 h))⟩
  · rw [if_pos h1]
    exact .inl ⟨rfl, rdec_mark _ n c i l w hd hi' (by omega) h1⟩
theorem rdecode_none (d : Sl) (i : Nat) (w : World) (hd : d.Ok w) (hi : i ≤ d.n) (hz : (mz (d.l.drop i)).1 = 0) :
    Calls Try.prog 11 #[d.v, .int .i64 i] w fun e w' => e = .returned (.tuple #[fr0, .int .i64 i, .int .i64 (mz (d.l.drop i)).2]) ∧ Below w.heap.size w w' := by
  rcases rdecode_any d i w hd hi with ⟨-, h⟩ | ⟨m, h, -⟩
  · exact h
  · rw [h] at hz; simp at hz
theorem rdecode_some (d : Sl) (i m : Nat) (w : World) (hd : d.Ok w) (hm : mz (d.l.drop i) = (m + 10, 0)) (him : i + m + 10 ≤ d.n) :
    Calls Try.prog 11 #[d.v, .int .i64 i] w fun e w' => ∃ v, e = .returned (.tuple #[frV (d.l.getD (i + 1) 0) v, .int .i64 (i + m + 10 : Nat), .int .i64 0]) ∧
      w'.ownsRow w.heap.size 5 1 v m (U8 ((d.l.drop (i + 6)).take m)) ∧ Below w.heap.size w w' := by
  rcases rdecode_any d i w hd (by omega) with ⟨h, -⟩ | ⟨m', h, -, -, h2⟩
  · rw [hm] at h; simp at h
  · rw [hm] at h
    simp only [Prod.mk.injEq, Nat.add_right_cancel_iff, and_true] at h
    subst h
    exact h2
end Go.Proofs.Ytmdpmkdofgligaa
