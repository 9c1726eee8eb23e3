import Derived.Test.YthpnfbgobpfdgaaGreatQtN
import Derived.Test.YthpnfbgobpfdgaaGreatHdW
import Derived.Test.YthpnfbgobpfdgaaGreatFrmM
namespace Go.Proofs.YthpnfbgobpfdgaaGreat
open Go.RowKit

/-! What is told of a term. -/
def tellL (dom : Int) (f : FdS) (x : Nat → Int) : List Int := if f.fit x = true then hdL dom ++ f.enc x else []
theorem hdL_le (d : Int) : (hdL d).length ≤ 4 := by unfold hdL; split <;> simp
/-- new bytes -/
def TPost (L : List Int) (w : World) (e : Ending) (w' : World) : Prop := ∃ a c, e = .returned (.slice a L.length c) ∧ w'.ownsRow w.heap.size 5 1 (.slice a L.length c) L.length (U8 L) ∧ IsB L ∧ Below w.heap.size w w'
theorem TPost.nil {w w' : World} (h : Below w.heap.size w w') : TPost [] w (.returned (.slice none 0 0)) w' := ⟨none, 0, rfl, ⟨rfl, .inl ⟨rfl, rfl⟩⟩, fun x hx => by simp at hx, h⟩
theorem TPost.of {L : List Int} {w w5 w6 : World} {a : Option Addr} {c : Nat} (h : Below w.heap.size w w5) (h6 : Below w5.heap.size w5 w6) (hown : w6.ownsRow w5.heap.size 5 1 (.slice a L.length c) L.length (U8 L)) (hB : IsB L) : TPost L w (.returned (.slice a L.length c)) w6 :=
  ⟨a, c, rfl, own_mono hown h.size, hB, h.trans (h6.mono h.size)⟩
theorem tell_mid {S : Nat → Prop} {w0 w w1 w2 w3 w4 : World} {q : Nat} {ty : TypeId} {sh : Nat → Kd} {N : Nat} {x : Nat → Int} {lv4 : Value} {l : List Int} (hb : Kept S w0 w) (hT : Trm w q ty sh N x) (h1 : Below w.heap.size w w1) (hW : Wtr w2 w1.heap.size w1.heap.size (.slice none 0 0) [] 0) (h2 : Below w1.heap.size w1 w2) (h3 : Below w2.heap.size w2 w3)
    (h4 : Wst w1.heap.size w1.heap.size (.slice none 0 0) l 0 w3 w4 lv4) : Kept S w0 w4 ∧ ¬ S w1.heap.size ∧ (∀ k, lv4.ownBlock = some k → ¬ S k) ∧ w1.heap.size ≤ w4.heap.size ∧ Trm w4 q ty sh N x := by
  have hs := hb.size
  have s1 := h1.size
  have s2 := h2.size
  have s3 := h3.size
  have s4 := h4.but.size
  have hb3 : Kept S w0 w3 := ((hb.below h1).below h2).below h3
  have hnS : ∀ k, w.heap.size ≤ k → ¬ S k := fun k hk hS => by have := hb.lt k hS; omega
  have hW3 := hW.later h3
  have hT3 := ((hT.later h1).later h2).later h3
  have hlv : ∀ k, lv4.ownBlock = some k → ¬ S k := fun k hk => by
    rcases h4.at_ k hk with h | h
    · simp [Value.ownBlock] at h
    · exact hnS k (by omega)
  refine ⟨hb3.buts h4.but (fun i hi hs => ?_), hnS _ s1, hlv, by omega, hT3.keep h4.but (fun hs => ?_)⟩
  · rcases hs with rfl | h
    · exact hnS _ s1 hi
    · simp [Value.ownBlock] at h
  · rcases hs with h | h
    · exact (hT3.ne_w hW3).1 h
    · simp [Value.ownBlock] at h
theorem tell_bel {w w1 w2 w3 w4 w5 : World} {lv4 lv5 : Value} {l l' : List Int} {f' : Int} (h1 : Below w.heap.size w w1) (h2 : Below w1.heap.size w1 w2) (h3 : Below w2.heap.size w2 w3) (h4 : Wst w1.heap.size w1.heap.size (.slice none 0 0) l 0 w3 w4 lv4) (h5 : Wst w1.heap.size w1.heap.size lv4 l' f' w4 w5 lv5) : Below w.heap.size w w5 := by
  have s1 := h1.size
  have s2 := h2.size
  have s3 := h3.size
  have s4 := h4.but.size
  have b3 : Below w.heap.size w w3 := (h1.trans (h2.mono s1)).trans (h3.mono (by omega))
  have b4 : Below w.heap.size w3 w4 := h4.but.below (by omega) (fun k hk => by
    rcases hk with rfl | h
    · omega
    · simp [Value.ownBlock] at h)
  have b5 : Below w.heap.size w4 w5 := h5.but.below (by omega) (fun k hk => by
    rcases hk with rfl | h
    · omega
    · rcases h4.at_ k h with h6 | h6
      · simp [Value.ownBlock] at h6
      · omega)
  exact (b3.trans b4).trans b5
theorem undrew_bel {B : Nat} {w w' : World} (h : Below w.heap.size w.drew w') (hB : B ≤ w.heap.size) : Below B w w' := (⟨h.os, h.tape, h.output, h.size, h.block⟩ : Below w.heap.size w w').mono hB
set_option linter.unusedSimpArgs false
theorem encCert_le (x : Nat → Int) : ((fsAll (fCert.take 4)).enc x).length ≤ 100000 := by simp [fsAll, fCert, fsNum, fsMon, fsFix, fsIn, beB, leB, run]
theorem encFreeze_le (x : Nat → Int) : ((fsAll (fFreeze.take 1)).enc x).length ≤ 100000 := by simp [fsAll, fFreeze, fsNum, fsMon, fsFix, fsIn, beB, leB, run, fCert]
theorem encAck_le (x : Nat → Int) : ((fsAll (fAck.take 4)).enc x).length ≤ 100000 := by simp [fsAll, fAck, fsNum, fsMon, fsFix, fsIn, beB, leB, run]
theorem encRevocation_le (x : Nat → Int) : ((fsAll (fRevocation.take 1)).enc x).length ≤ 100000 := by simp [fsAll, fRevocation, fsNum, fsMon, fsFix, fsIn, beB, leB, run, fCert]
theorem encFloor_le (x : Nat → Int) : ((fsAll (fFloor.take 1)).enc x).length ≤ 100000 := by simp [fsAll, fFloor, fsNum, fsMon, fsFix, fsIn, beB, leB, run]
theorem encReceipt_le (x : Nat → Int) : ((fsAll (fReceipt.take 3)).enc x).length ≤ 100000 := by simp [fsAll, fReceipt, fsNum, fsMon, fsFix, fsIn, beB, leB, run]
theorem encHead_le (x : Nat → Int) : ((fsAll (fHead.take 2)).enc x).length ≤ 100000 := by simp [fsAll, fHead, fsNum, fsMon, fsFix, fsIn, beB, leB, run]
end Go.Proofs.YthpnfbgobpfdgaaGreat
