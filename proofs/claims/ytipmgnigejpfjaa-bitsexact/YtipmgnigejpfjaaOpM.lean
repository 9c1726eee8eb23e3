import Derived.Test.YtipmgnigejpfjaaPutX
import Derived.Test.YtipmgnigejpfjaaRoomX
import Derived.Test.YtipmgnigejpfjaaRefHex2X
import Derived.Test.YtipmgnigejpfjaaRefJoinX
import Derived.Test.YtipmgnigejpfjaaLdX
import Derived.Test.YtipmgnigejpfjaaRefRotW
namespace Go.Proofs.Ytipmgnigejpfjaa
open Go.RowKit

/-- one call of a play -/
structure OpV where
  kd : Int
  ow : Int
  ol : Int
  n : Int
  A : Sl
  B : Sl
  pa : Option Addr
  pc : Nat
  ps : List Sl
  txt : ByteArray
def OpV.cells (o : OpV) : List Value := [.int .i64 o.kd, .int .u32 o.ow, .int .u64 o.ol, .int .i64 o.n, o.A.v, o.B.v, .slice o.pa o.ps.length o.pc, .string o.txt]
structure OpV.Ok (w : World) (o : OpV) : Prop where
  kd : -9223372036854775808 ≤ o.kd ∧ o.kd ≤ 9223372036854775807
  ow : 0 ≤ o.ow ∧ o.ow < 4294967296
  ol : 0 ≤ o.ol ∧ o.ol < 18446744073709551616
  n : -9223372036854775808 ≤ o.n ∧ o.n ≤ 9223372036854775807
  A : o.A.Ok w
  B : o.B.Ok w
  pl : LiesV w o.pa (o.ps.map Sl.v)
  ps : ∀ s ∈ o.ps, s.Ok w
  ra : o.A.n ≤ 1048576
  rb : o.B.n ≤ 1048576
  rp : o.ps.length ≤ 1048576
  rs : ∀ s ∈ o.ps, s.n ≤ 1048576
  rt : o.txt.size ≤ 1048576
theorem OpV.Ok.later {w w' : World} {o : OpV} (h : o.Ok w) (hb : Below w.heap.size w w') : o.Ok w' :=
  ⟨h.kd, h.ow, h.ol, h.n, h.A.later hb, h.B.later hb, h.pl.later hb, fun s hs => (h.ps s hs).later hb, h.ra, h.rb, h.rp, h.rs, h.rt⟩
theorem box_all {wr : World} {gB : Nat} {ty : TypeId} {o : OpV} (h : Arr wr gB ty o.cells) :
    wr.cell? ⟨gB, 0, none⟩ = some (.int .i64 o.kd) ∧ wr.cell? ⟨gB, 1, none⟩ = some (.int .u32 o.ow) ∧ wr.cell? ⟨gB, 2, none⟩ = some (.int .u64 o.ol) ∧ wr.cell? ⟨gB, 3, none⟩ = some (.int .i64 o.n) ∧ wr.cell? ⟨gB, 4, none⟩ = some o.A.v ∧ wr.cell? ⟨gB, 5, none⟩ = some o.B.v ∧ wr.cell? ⟨gB, 6, none⟩ = some (.slice o.pa o.ps.length o.pc) ∧ wr.cell? ⟨gB, 7, none⟩ = some (.string o.txt) :=
  ⟨by rw [h.cell]; rfl, by rw [h.cell]; rfl, by rw [h.cell]; rfl, by rw [h.cell]; rfl, by rw [h.cell]; rfl, by rw [h.cell]; rfl, by rw [h.cell]; rfl, by rw [h.cell]; rfl⟩
def sumN (ps : List Sl) : Nat := (ps.map Sl.n).sum
theorem sumN_take_succ (ps : List Sl) (k : Nat) (s : Sl) (h : ps[k]? = some s) : sumN (ps.take (k + 1)) = sumN (ps.take k) + s.n := by
  have hk : k < ps.length := by
    by_cases hk : k < ps.length
    · exact hk
    · rw [List.getElem?_eq_none (by omega)] at h; simp at h
  rw [List.take_succ_eq_append_getElem hk]
  rw [List.getElem?_eq_getElem hk] at h; simp at h
  simp [sumN, h]
theorem sumN_take_le (ps : List Sl) (k : Nat) : sumN (ps.take k) ≤ sumN ps := by
  have h : sumN ps = sumN (ps.take k) + sumN (ps.drop k) := by
    unfold sumN; rw [← List.sum_append, ← List.map_append, List.take_append_drop]
  omega
def OpV.head (o : OpV) : Nat := o.A.n + o.B.n + o.txt.size + o.ps.length
def OpV.tot (o : OpV) : Nat := o.head + sumN o.ps
set_option maxHeartbeats 2000000 in
set_option maxRecDepth 100000 in
theorem small_any (o : OpV) (w : World) (ho : o.Ok w) :
    Calls Try.prog 7 #[.agg o.cells.toArray] w fun e w' => e = .returned (.bool (decide (o.tot ≤ 4096))) ∧ Below w.heap.size w w' := by
  have ra := ho.ra
  have rb := ho.rb
  have rp := ho.rp
  have rt := ho.rt
  have HO := hide ho
  have htd : Hid (o.head = o.A.n + o.B.n + o.txt.size + o.ps.length) := rfl
  have htt : Hid (o.tot = o.head + sumN o.ps) := rfl
  clear ho
  obtain ⟨kd, ow, ol, n, ⟨aa, an, ac, al⟩, ⟨ba, bn, bc, bl⟩, pa, pc, ps, txt⟩ := o
  simp only [OpV.cells, Sl.v] at *
  generalize hq0 : OpV.head _ = q0 at htd htt
  generalize OpV.tot _ = tt at htt ⊢
  have hq0b : q0 ≤ 562949953404928 := by have := unhide htd; omega
  have hq0i : (an : Int) + bn + txt.size + ps.length = q0 := by have := unhide htd; omega
  clear hq0 htd
  go_enter Try.func7, Try.ntmps7
  go_wp2
  generalize hWW : w.alloc _ = W
  have hb0 : Below w.heap.size w W := by subst hWW; exact (Below.refl _ _).alloc (Nat.le_refl _) _
  have hc6 : W.cell? ⟨w.heap.size, 6, none⟩ = some (.slice pa ps.length pc) := by subst hWW; go_simp
  clear hWW
  go_loop [3, 4] (fun t i => ∃ k q : Nat, k ≤ ps.length ∧ i = .int .i64 k ∧ q = q0 + sumN (ps.take k) ∧ q ≤ 4194304 + 1048576 * k ∧ t = .int .i64 q) (fun _ i => ps.length - (intOf i).toNat)
  case atStart => exact ⟨0, q0, by omega, rfl, by simp [sumN], by omega, rfl⟩
  case round =>
    obtain ⟨k, q, hk, rfl, hq, hqb, rfl⟩ := hrel
    have HQ := hide hq
    clear hq
    by_cases hlt : k < ps.length
    · obtain ⟨s, hs⟩ : ∃ s, ps[k]? = some s := ⟨_, List.getElem?_eq_getElem hlt⟩
      have hmem : s ∈ ps := List.mem_of_getElem? hs
      have hsr := (unhide HO).rs s hmem
      obtain ⟨b, off, rfl, hbl, hc⟩ := (unhide HO).pl.later hb0 (by simp; omega)
      have hck := hc k s.v (by simp [hs])
      have hcs := sumN_take_succ ps k s hs
      have hle := sumN_take_le ps (k + 1)
      have HC := hide hcs
      have HLE := hide hle
      obtain ⟨sa, sn, sc, sl⟩ := s
      simp only [Sl.v] at hck hsr
      clear hc hs hmem hcs hle
      by_cases hbig : 4096 < q + sn
      · have hbig' : (4096 : Int) < (q : Int) + sn := by omega
        go_wp2
        go_ret
        refine ⟨ret_bool ?_, hb0⟩
        symm; rw [decide_eq_false_iff_not]
        have h1 := unhide HQ
        have h2 := unhide HC
        have h3 := unhide HLE
        have h4 := unhide htt
        omega
      · have hbig' : ¬ (4096 : Int) < (q : Int) + sn := by omega
        go_wp2
        go_round
        case rel => exact ⟨k + 1, q + sn, by omega, by go_num, by have h1 := unhide HQ; have h2 : sumN (ps.take (k + 1)) = sumN (ps.take k) + sn := unhide HC; omega, by omega, by go_num⟩
        case measure => simp [intOf]; omega
    · have hkk : k = ps.length := by omega
      have hfin : q = tt := by have h1 := unhide HQ; have h2 := unhide htt; rw [hkk, List.take_length] at h1; omega
      have HF := hide hfin
      clear hfin
      go_wp2
      go_ret
      refine ⟨ret_bool ?_, hb0⟩
      rw [← unhide HF]; simp; omega
end Go.Proofs.Ytipmgnigejpfjaa
