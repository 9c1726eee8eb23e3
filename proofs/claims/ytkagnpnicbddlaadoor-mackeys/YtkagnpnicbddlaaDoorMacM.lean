import Derived.Test.YtkagnpnicbddlaaDoorMacC
import Derived.Test.YtkagnpnicbddlaaDoorMacA
namespace Go.Proofs.YtkagnpnicbddlaaDoor
open Go.RowKit

/-! Keyed hashes, as plain mathematics: over any hash. -/
/-- the key's bytes: the key, or its hash if it is too long -/
def keyH (H : List Int → List Int) (n : Nat) (k : List Int) : List Int := if n < k.length then H k else k
def frameH (H : List Int → List Int) (n : Nat) (k : List Int) : List Int := padTo n (keyH H n k)
def macH (H : List Int → List Int) (n : Nat) (k m : List Int) : List Int := H (xorC 92 (frameH H n k) ++ H (xorC 54 (frameH H n k) ++ m))
theorem keyH_pad (H : List Int → List Int) (n m : Nat) (k : List Int) (h : k.length + m ≤ n) : frameH H n (k ++ List.replicate m 0) = frameH H n k := by
  unfold frameH keyH
  rw [if_neg (by simp; omega), if_neg (by omega), padTo_pad n m k h]
theorem macH_pad (H : List Int → List Int) (n m : Nat) (k t : List Int) (h : k.length + m ≤ n) : macH H n (k ++ List.replicate m 0) t = macH H n k t := by
  unfold macH; rw [keyH_pad H n m k h]

def mac6 (k m : List Int) : List Int := macH sumZ 64 k m
theorem mac6_length (k m : List Int) : (mac6 k m).length = 32 := sumZ_length _
theorem mac6_isB (k m : List Int) : IsB (mac6 k m) := sumZ_isB _
theorem mac6_pad (m : Nat) (k t : List Int) (h : k.length + m ≤ 64) : mac6 (k ++ List.replicate m 0) t = mac6 k t := macH_pad _ _ _ _ _ h
theorem fr_nil : xorC 54 (padTo 64 []) = MC.kiB ∧ xorC 92 (padTo 64 []) = MC.koB := ⟨by kernel_rfl, by kernel_rfl⟩
theorem mac6_nil : mac6 [] [] = MC.noSum := by
  have h1 : frameH sumZ 64 [] = padTo 64 [] := rfl
  unfold mac6 macH
  rw [h1, fr_nil.1, fr_nil.2]
  have h2 : sumZ (MC.kiB ++ []) = MC.niSum := MC.ni_sum
  rw [h2]
  exact MC.no_sum
theorem mac6_first : mac6 (List.replicate 32 0) (97 :: List.replicate 9 0 ++ [1]) = MC.ddSum := by
  have h1 : frameH sumZ 64 (List.replicate 32 0) = padTo 64 [] := by kernel_rfl
  unfold mac6 macH
  rw [h1, fr_nil.1, fr_nil.2]
  have h2 : sumZ (MC.kiB ++ (97 :: List.replicate 9 0 ++ [1])) = MC.diSum := MC.di_sum
  rw [h2]
  exact MC.dd_sum
theorem noSum_ne : MC.noSum ≠ List.replicate 32 0 := by decide
theorem ddSum_ne : MC.ddSum ≠ List.replicate 32 0 := by decide

/-- T(i): P4.4 -/
def tZ (k info : List Int) : Nat → List Int
  | 0 => []
  | i + 1 => mac6 k (tZ k info i ++ (info ++ [((i + 1 : Nat) : Int)]))
def chZt (k info : List Int) : Nat → List Int
  | 0 => []
  | i + 1 => chZt k info i ++ tZ k info (i + 1)
theorem tZ_length (k info : List Int) (i : Nat) : (tZ k info (i + 1)).length = 32 := mac6_length _ _
theorem tZ_isB (k info : List Int) : ∀ i, IsB (tZ k info i)
  | 0 => fun x hx => by simp [tZ] at hx
  | _ + 1 => mac6_isB _ _
theorem chZt_length (k info : List Int) : ∀ i, (chZt k info i).length = 32 * i
  | 0 => rfl
  | i + 1 => by rw [chZt, List.length_append, chZt_length k info i, tZ_length]; omega
theorem chZt_isB (k info : List Int) : ∀ i, IsB (chZt k info i)
  | 0 => fun x hx => by simp [chZt] at hx
  | i + 1 => (chZt_isB k info i).app (tZ_isB k info (i + 1))
/-- what is expanded: the first n bytes -/
def expZ (k info : List Int) (n : Nat) : List Int := (chZt k info ((n + 31) / 32)).take n
theorem expZ_length (k info : List Int) (n : Nat) : (expZ k info n).length = n := by simp [expZ, chZt_length]; omega
theorem expZ_isB (k info : List Int) (n : Nat) : IsB (expZ k info n) := fun x hx => chZt_isB k info _ x (List.mem_of_mem_take hx)
theorem expZ_32 (k info : List Int) : expZ k info 32 = tZ k info 1 := by
  unfold expZ
  rw [show (32 + 31) / 32 = 1 from rfl, show chZt k info 1 = tZ k info 1 from rfl, List.take_of_length_le (by rw [tZ_length]; exact Nat.le_refl _)]
/-- P4.5: the info of a label and a number -/
def infoZ (label : List Int) (number : Int) : List Int := label ++ (0 :: (leB 8 number).reverse)
theorem infoZ_length (label : List Int) (number : Int) : (infoZ label number).length = label.length + 9 := by simp [infoZ]
theorem infoZ_isB {label : List Int} (number : Int) (h : IsB label) : IsB (infoZ label number) := by
  refine h.app (fun x hx => ?_)
  rcases List.mem_cons.1 hx with rfl | hx
  · omega
  · exact leB_isB 8 number x (List.mem_reverse.1 hx)
end Go.Proofs.YtkagnpnicbddlaaDoor
