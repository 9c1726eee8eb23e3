import Derived.Test.YtmdpmkdofgligaaMeW
set_option linter.unusedVariables false
namespace Go.Proofs.Ytmdpmkdofgligaa
open Go.RowKit

theorem encL_parts (k : Int) (p r : List Int) : encL k p ++ r = 165 :: k :: ((leB 4 p.length).reverse ++ (p ++ (leB 4 (crc (tolL k p)) ++ r))) := by
  simp [encL, tolL]
theorem enc_len (k : Int) (p r : List Int) (hlen : p.length ≤ 262144) : lenL (encL k p ++ r) = p.length := by
  unfold lenL
  rw [encL_parts]
  have e : (List.drop 2 (165 :: k :: ((leB 4 p.length).reverse ++ (p ++ (leB 4 (crc (tolL k p)) ++ r))))).take 4 = (leB 4 p.length).reverse := by
    rw [show List.drop 2 (165 :: k :: ((leB 4 p.length).reverse ++ (p ++ (leB 4 (crc (tolL k p)) ++ r)))) = (leB 4 p.length).reverse ++ (p ++ (leB 4 (crc (tolL k p)) ++ r)) from rfl]
    exact List.take_left' (by simp)
  rw [e, List.reverse_reverse, leV_leB]
  omega
theorem enc_tol (k : Int) (p r : List Int) : ((encL k p ++ r).drop 1).take (p.length + 5) = tolL k p := by
  have e : (encL k p ++ r).drop 1 = tolL k p ++ (leB 4 (crc (tolL k p)) ++ r) := by simp [encL]
  rw [e]
  exact List.take_left' (tolL_length k p)
theorem enc_sum (k : Int) (p r : List Int) : ((encL k p ++ r).drop (p.length + 6)).take 4 = leB 4 (crc (tolL k p)) := by
  have e : encL k p ++ r = (165 :: tolL k p) ++ (leB 4 (crc (tolL k p)) ++ r) := by simp [encL]
  rw [e, List.drop_left' (by rw [List.length_cons, tolL_length])]
  exact List.take_left' (by simp)
theorem enc_pay (k : Int) (p r : List Int) : ((encL k p ++ r).drop 6).take p.length = p := by
  have e : encL k p ++ r = (165 :: k :: (leB 4 p.length).reverse) ++ (p ++ (leB 4 (crc (tolL k p)) ++ r)) := by simp [encL, tolL]
  rw [e, List.drop_left' (by simp)]
  exact List.take_left' rfl
theorem enc_kind (k : Int) (p r : List Int) : (encL k p ++ r).getD 1 0 = k := by rw [encL_parts]; rfl
theorem mz_enc (k : Int) (p r : List Int) (hk : 0 ≤ k ∧ k ≤ 255) (hp : IsB p) (hlen : p.length ≤ 262144) : mz (encL k p ++ r) = (p.length + 10, 0) := by
  have hl : (encL k p ++ r).length = p.length + 10 + r.length := by rw [List.length_append, encL_length]
  have hc := crc_bd (tolL_isB hk hp)
  unfold mz
  rw [enc_len k p r hlen, if_neg (by omega), if_neg (by rw [encL_parts]; simp), if_neg (by omega), if_neg (by omega), if_neg (by omega), enc_sum, enc_tol, leV_leB, if_neg (by omega)]
/-- a length above the limit -/
theorem mz_long {l : List Int} (h6 : 6 ≤ l.length) (h0 : l.getD 0 0 = 165) (hl : 262144 < lenL l) : mz l = (0, 2) := by
  unfold mz
  rw [if_neg (by omega), if_neg (fun h => h h0), if_neg (by omega), if_pos hl]
end Go.Proofs.Ytmdpmkdofgligaa
