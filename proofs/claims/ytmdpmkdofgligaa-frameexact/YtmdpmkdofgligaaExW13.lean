import Derived.Test.YtmdpmkdofgligaaPlW13
import Derived.Test.YtmdpmkdofgligaaHeld13
set_option linter.unusedSimpArgs false
set_option linter.unusedVariables false
namespace Go.Proofs.Ytmdpmkdofgligaa
open Go.RowKit

structure Opf where
  b : Sl
  z : Int
  k : Int
  p : Sl
  le : Int
def Opf.cells (o : Opf) : List Value := [.slice o.b.a o.b.n o.b.c, .int .i64 o.z, .int .u8 o.k, .slice o.p.a o.p.n o.p.c, .int .i64 o.le]
structure Opf.Ok (w : World) (o : Opf) : Prop where
  b : o.b.Ok w
  p : o.p.Ok w
  k : 0 ≤ o.k ∧ o.k ≤ 255
  le : -9223372036854775808 ≤ o.le ∧ o.le ≤ 9223372036854775807
/-- the script lies at a -/
def OpsAt (w : World) (a : Option Addr) (ops : List Opf) : Prop :=
  0 < ops.length → ∃ b off, a = some ⟨b, off, none⟩ ∧ b < w.heap.size ∧ ∀ i o, ops[i]? = some o → w.rangeAt b (off + i * 5) o.cells
theorem Try.opSz (o : Opf) : (Try.prog.info? 31).map (·.size) = some o.cells.length := by show _ = some 5; kernel_rfl
def PutE (w : World) (gS M : Nat) (W : World) : Prop := ∃ P Q lv wv, Shf w gS M P Q lv wv W
set_option maxHeartbeats 8000000 in
set_option maxRecDepth 100000 in
theorem exact13_law (pa : Option Addr) (pc : Nat) (ps : List Opf) (w : World) (hat : OpsAt w pa ps) (hok : ∀ o ∈ ps, o.Ok w) (hlen : ps.length ≤ 1048576) :
    Calls Try.prog 3 #[.slice pa ps.length pc] w fun e w' => e = .returned (.bool true) ∧ Below w.heap.size w w' := by
  obtain ⟨M, hM⟩ : ∃ M, M = ps.length := ⟨_, rfl⟩
  have HM := hide hM
  have hM2 : M ≤ 1048576 := by omega
  rw [← hM]
  clear hM
  obtain ⟨W, hW⟩ : ∃ W, W = w.alloc (.cells #[.slice none 0 0, .slice none 0 0] 26) := ⟨_, rfl⟩
  have hS0 : Arr W w.heap.size 26 [.slice none 0 0, .slice none 0 0] := by rw [hW]; exact Arr.new w _ _
  have hbW : Below w.heap.size w W := by rw [hW]; exact below_alloc w _
  have hSh : Shf w w.heap.size 0 (fun _ => ⟨none, 0, 0, []⟩) (fun _ => ⟨none, 0, 0, []⟩) (.slice none 0 0) (.slice none 0 0) W :=
    ⟨hS0, Nat.le_refl _, World.ownsRow_nil _ _ _ _, World.ownsRow_nil _ _ _ _, .inl rfl, fun i hi => by omega, fun i hi => by omega, fun i hi => by omega, fun i hi => by omega, fun i j hi => by omega, fun i j hi => by omega, fun i hi => by omega, fun i hi => by omega, fun i hi => by omega, hbW⟩
  have hSh1 := hSh.later (below_alloc W (.cells #[.int .u8 0] 5))
  have hx := sum0_any W
  obtain ⟨cr, hcr⟩ : ∃ cr, cr = crc [0] := ⟨_, rfl⟩
  rw [← hcr, show W.heap.size = w.heap.size + 1 by rw [hW]; simp] at hx
  have hcr0 : (cr == 0) = false := by rw [beq_eq_false_iff_ne, hcr]; exact crc0_ne
  have HSH := hide hSh1
  have HX := hide hx
  have HW := hide hW
  clear hSh hS0 hbW hSh1 hx hcr hW
  go_enter Try.func3, Try.ntmps3
  go_wp2_with (first
    | (go_at_call 4
       rw [← unhide HW]
       refine (unhide HX).mono ?_
       rintro e w1 ⟨rfl, rfl⟩)
    | fail)
  generalize hW1 : W.alloc (.cells #[.int .u8 0] 5) = W1 at HSH ⊢
  clear hW1 HX HW
  go_loopw [4, 5] (fun i _ wr => ∃ (k N : Nat), k ≤ 2 * M ∧ N ≤ 300000 * k ∧ i = .int .i64 k ∧ PutE w w.heap.size N wr) (fun i _ _ => 2 * M - (intOf i).toNat)
  case atStart => exact ⟨0, 0, by omega, by omega, rfl, _, _, _, _, unhide HSH⟩
  case round =>
    clear HSH
    obtain ⟨k, N, hk, hNk, rfl, P, Q, lv, wv, hS⟩ := hrel
    by_cases hlt : k < 2 * M
    · obtain ⟨i, hi⟩ : ∃ i, i = k % M := ⟨_, rfl⟩
      have him : i < M := by rw [hi]; exact Nat.mod_lt _ (by omega)
      have hit : (k : Int).tmod (M : Int) = (i : Int) := by rw [hi]; exact (Int.ofNat_tmod k M)
      have hie : (k : Int) % (M : Int) = (i : Int) := by rw [hi]; simp
      have hltz : (k : Int) < 2 * (M : Int) := by omega
      have hM0 : ¬ ((M : Int) = 0) := by omega
      have himz : (i : Int) < (M : Int) := by omega
      obtain ⟨o, ho⟩ : ∃ o, ps[i]? = some o := ⟨_, List.getElem?_eq_getElem (by rw [← unhide HM]; exact him)⟩
      have hoo := hok o (List.mem_of_getElem? ho)
      obtain ⟨ob, oo, hsa, hol, hoc⟩ := hat (by rw [← unhide HM]; omega)
      subst hsa
      have hr0 := hoc i o ho
      have hr : wr.rangeAt ob (oo + i * 5) o.cells := fun j v hv => (hS.bel.cell (p := ⟨ob, oo + i * 5 + j, none⟩) hol).trans (hr0 j v hv)
      have hcl := Try.opSz o
      obtain ⟨⟨ba, bn, bc, bl⟩, z, kk, ⟨qa, qn, qc, ql⟩, le⟩ := o
      simp only [Opf.cells] at hr hcl
      have HOO := hide hoo
      have HSS := hide hS
      clear hi hoo hr0 hoc hS
      by_cases hb : bn ≤ 65536
      · have d1 : decide ((bn : Int) ≤ 65536) = true := decide_eq_true (by omega)
        by_cases hq : qn ≤ 65536
        · have d2 : decide ((qn : Int) ≤ 65536) = true := decide_eq_true (by omega)
          have hS2 := (unhide HSS).later (below_alloc wr (.cells #[.slice ba bn bc, .int .i64 z, .int .u8 kk, .slice qa qn qc, .int .i64 le] 31))
          have hPl := plays_any hS2 ⟨ba, bn, bc, bl⟩ ⟨qa, qn, qc, ql⟩ (unhide HOO).b (unhide HOO).p hb hq z kk le (unhide HOO).k (unhide HOO).le (by omega)
          simp only [Sl.v] at hPl
          have HPL := hide hPl
          clear hPl hS2
          go_wp2_with (first
            | refine wpList_load_mid rfl 31 (.tmp 23) rfl _ _ rfl _ _ hr Try.underlying31 rfl hcl ?_
            | (go_at_call 5
               refine (unhide HPL).mono ?_
               rintro e w3 ⟨rfl, N', hM3, hN3⟩
               have HM3 := hide hM3
               clear hM3)
            | fail)
          go_roundw
          case rel =>
            obtain ⟨P', Q', lv', wv', h3, -⟩ := (unhide HM3).ex
            exact ⟨k + 1, N', by omega, by omega, by simp, P', Q', lv', wv', h3⟩
          case measure => simp [intOf]; omega
        · have d2 : decide ((qn : Int) ≤ 65536) = false := decide_eq_false (by omega)
          go_wp2_with (first
            | refine wpList_load_mid rfl 31 (.tmp 23) rfl _ _ rfl _ _ hr Try.underlying31 rfl hcl ?_
            | fail)
          go_roundw
          case rel => exact ⟨k + 1, N, by omega, by omega, by simp, P, Q, lv, wv, (unhide HSS).later (below_alloc wr _)⟩
          case measure => simp [intOf]; omega
      · have d1 : decide ((bn : Int) ≤ 65536) = false := decide_eq_false (by omega)
        go_wp2_with (first
          | refine wpList_load_mid rfl 31 (.tmp 23) rfl _ _ rfl _ _ hr Try.underlying31 rfl hcl ?_
          | fail)
        go_roundw
        case rel => exact ⟨k + 1, N, by omega, by omega, by simp, P, Q, lv, wv, (unhide HSS).later (below_alloc wr _)⟩
        case measure => simp [intOf]; omega
    · have hltz : ¬ ((k : Int) < 2 * (M : Int)) := by omega
      have hk2 : k = 2 * M := by omega
      go_wp2_with fail
      refine (held_any hS (by omega)).mono ?_
      rintro e w2 ⟨rfl, hb2⟩
      go_wp2_with fail
      go_ret
      exact ⟨rfl, hb2⟩
end Go.Proofs.Ytmdpmkdofgligaa
