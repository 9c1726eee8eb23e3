import Derived.Test.YtjedgkcpkieaeaaPuN
import Derived.Deep.DeepCutAuto
import Derived.Deep.QuietTactic
import Derived.BigQuiet
set_option linter.unusedSimpArgs false
set_option linter.unusedVariables false
namespace Go.Proofs.Ytjedgkcpkieaeaa
open Go.RowKit

/-! What is answered, in one form. -/
structure AR where (s r : Int) (n : Nat) (l : List Bool) (t : Int) (e : Int)
def zAR : AR := ⟨0, 0, 0, [], 0, 210⟩
def ackR (s r : Int) (n : Nat) (l : List Bool) (t g i : Int) : AR := if 1 ≤ g ∧ g ≤ (n : Int) ∧ 0 ≤ i ∧ i ≤ r then ⟨s, r, n, l.set (g.toNat - 1) true, mxZ t i, 0⟩ else zAR
def joinR (s r : Int) (n : Nat) (l : List Bool) (t s' r' : Int) (n' : Nat) (m : List Bool) (t' : Int) : AR := if s = s' ∧ r = r' ∧ n = n' then ⟨s, r, n, orL l m, mxZ t t', 0⟩ else zAR
def AnsU (w : World) (base : Nat) (A : AR) (e : Ending) : Prop := ∃ a c, e = .returned (.tuple #[aV (rC ⟨A.s, A.r, .slice a A.n c, A.t⟩), .int .i64 A.e]) ∧ Sb w ⟨a, A.n, c, A.l⟩ ∧ ∀ x, a = some x → base ≤ x.block
theorem ackR_n {s r t g i : Int} {n : Nat} {l : List Bool} : (ackR s r n l t g i).n ≤ n := by unfold ackR; split <;> simp [zAR]
theorem joinR_n {s r t s' r' t' : Int} {n n' : Nat} {l m : List Bool} : (joinR s r n l t s' r' n' m t').n ≤ n := by unfold joinR; split <;> simp [zAR]
theorem ackR_e {s r t g i : Int} {n : Nat} {l : List Bool} : (ackR s r n l t g i).e = 0 ∨ (ackR s r n l t g i).e = 210 := by unfold ackR; split <;> simp [zAR]
theorem joinR_e {s r t s' r' t' : Int} {n n' : Nat} {l m : List Bool} : (joinR s r n l t s' r' n' m t').e = 0 ∨ (joinR s r n l t s' r' n' m t').e = 210 := by unfold joinR; split <;> simp [zAR]
theorem sb_nil (w : World) : Sb w ⟨none, 0, 0, []⟩ := .nil w 0
theorem AnsU.no {w : World} {B : Nat} : AnsU w B zAR (.returned (.tuple #[aV (rC zRf), .int .i64 210])) := ⟨none, 0, rfl, sb_nil w, fun x hx => by cases hx⟩
theorem AnsU.ro {w : World} {B n : Nat} {s r t : Int} {l : List Bool} {u : Value} (h : Ro w B s r n l t u) : AnsU w B ⟨s, r, n, l, t, 0⟩ (.returned (.tuple #[u, .int .i64 0])) := by
  obtain ⟨a, c, rfl, h1, h2⟩ := h
  exact ⟨a, c, rfl, h1, h2⟩
set_option maxHeartbeats 2000000 in
set_option maxRecDepth 100000 in
theorem ack_u (s r t : Int) (xa : Option Addr) (n xc : Nat) (l : List Bool) (g i : Int) (w : World) (hq : Sb w ⟨xa, n, xc, l⟩) (hn : n ≤ 1048576) :
    Calls Try.prog 12 #[aV (rC ⟨s, r, .slice xa n xc, t⟩), .int .i64 g, .int .i64 i] w fun e w' => AnsU w' w.heap.size (ackR s r n l t g i) e ∧ Below w.heap.size w w' := by
  by_cases h : 1 ≤ g ∧ g ≤ (n : Int) ∧ 0 ≤ i ∧ i ≤ r
  · obtain ⟨j, rfl⟩ : ∃ j : Nat, g = (j : Int) + 1 := ⟨(g - 1).toNat, by omega⟩
    have e : ackR s r n l t ((j : Int) + 1) i = ⟨s, r, n, l.set j true, mxZ t i, 0⟩ := by
      unfold ackR; rw [if_pos h, show ((j : Int) + 1).toNat - 1 = j by omega]
    rw [e]
    refine (ack_ok s r t xa n xc l j i w hq hn (by omega) h.2.2.1 h.2.2.2).mono ?_
    rintro e w' ⟨u, rfl, hR, hb⟩
    exact ⟨AnsU.ro (hR.ro hn), hb⟩
  · have e : ackR s r n l t g i = zAR := by unfold ackR; rw [if_neg h]
    rw [e]
    refine (ack_no s r t xa n xc l g i w hq (by omega)).mono ?_
    rintro e w' ⟨rfl, hb⟩
    exact ⟨AnsU.no, hb⟩
set_option maxHeartbeats 2000000 in
set_option maxRecDepth 100000 in
theorem rack_u (s r t : Int) (xa : Option Addr) (n xc : Nat) (l : List Bool) (g i : Int) (w : World) (hq : Sb w ⟨xa, n, xc, l⟩) (hn : n ≤ 1048576) :
    Calls Try.prog 23 #[aV (rC ⟨s, r, .slice xa n xc, t⟩), .int .i64 g, .int .i64 i] w fun e w' => AnsU w' w.heap.size (ackR s r n l t g i) e ∧ Below w.heap.size w w' := by
  by_cases h : 1 ≤ g ∧ g ≤ (n : Int) ∧ 0 ≤ i ∧ i ≤ r
  · obtain ⟨j, rfl⟩ : ∃ j : Nat, g = (j : Int) + 1 := ⟨(g - 1).toNat, by omega⟩
    have e : ackR s r n l t ((j : Int) + 1) i = ⟨s, r, n, l.set j true, mxZ t i, 0⟩ := by
      unfold ackR; rw [if_pos h, show ((j : Int) + 1).toNat - 1 = j by omega]
    rw [e]
    refine (rack_ok s r t xa n xc l j i w hq hn (by omega) h.2.2.1 h.2.2.2).mono ?_
    rintro e w' ⟨u, rfl, hR, hb⟩
    exact ⟨AnsU.ro hR, hb⟩
  · have e : ackR s r n l t g i = zAR := by unfold ackR; rw [if_neg h]
    rw [e]
    refine (rack_no s r t xa n xc l g i w hq (by omega)).mono ?_
    rintro e w' ⟨rfl, hb⟩
    exact ⟨AnsU.no, hb⟩
set_option maxHeartbeats 2000000 in
set_option maxRecDepth 100000 in
theorem join_u (s r t s' r' t' : Int) (xa : Option Addr) (n xc : Nat) (l : List Bool) (ya : Option Addr) (n' yc : Nat) (m : List Bool) (w : World) (hx : Sb w ⟨xa, n, xc, l⟩) (hy : Sb w ⟨ya, n', yc, m⟩) (hn : n ≤ 1048576) :
    Calls Try.prog 24 #[aV (rC ⟨s, r, .slice xa n xc, t⟩), aV (rC ⟨s', r', .slice ya n' yc, t'⟩)] w fun e w' => AnsU w' w.heap.size (joinR s r n l t s' r' n' m t') e ∧ Below w.heap.size w w' := by
  by_cases h : s = s' ∧ r = r' ∧ n = n'
  · have e : joinR s r n l t s' r' n' m t' = ⟨s, r, n, orL l m, mxZ t t', 0⟩ := by unfold joinR; rw [if_pos h]
    rw [e]
    obtain ⟨rfl, rfl, rfl⟩ := h
    refine (join_ok s r t t' xa n xc l ya yc m w hx hy hn).mono ?_
    rintro e w' ⟨u, rfl, hR, hb⟩
    exact ⟨AnsU.ro (hR.ro hn), hb⟩
  · have e : joinR s r n l t s' r' n' m t' = zAR := by unfold joinR; rw [if_neg h]
    rw [e]
    refine (join_no s r t s' r' t' xa n xc ya n' yc w (by
      by_cases h1 : s = s'
      · by_cases h2 : r = r'
        · exact .inr (.inr (fun h3 => h ⟨h1, h2, h3⟩))
        · exact .inr (.inl h2)
      · exact .inl h1)).mono ?_
    rintro e w' ⟨rfl, hb⟩
    exact ⟨AnsU.no, hb⟩
set_option maxHeartbeats 2000000 in
set_option maxRecDepth 100000 in
theorem rjoin_u (s r t s' r' t' : Int) (xa : Option Addr) (n xc : Nat) (l : List Bool) (ya : Option Addr) (n' yc : Nat) (m : List Bool) (w : World) (hx : Sb w ⟨xa, n, xc, l⟩) (hy : Sb w ⟨ya, n', yc, m⟩) (hn : n ≤ 1048576) :
    Calls Try.prog 25 #[aV (rC ⟨s, r, .slice xa n xc, t⟩), aV (rC ⟨s', r', .slice ya n' yc, t'⟩)] w fun e w' => AnsU w' w.heap.size (joinR s r n l t s' r' n' m t') e ∧ Below w.heap.size w w' := by
  by_cases h : s = s' ∧ r = r' ∧ n = n'
  · have e : joinR s r n l t s' r' n' m t' = ⟨s, r, n, orL l m, mxZ t t', 0⟩ := by unfold joinR; rw [if_pos h]
    rw [e]
    obtain ⟨rfl, rfl, rfl⟩ := h
    refine (rjoin_ok s r t t' xa n xc l ya yc m w hx hy hn).mono ?_
    rintro e w' ⟨u, rfl, hR, hb⟩
    exact ⟨AnsU.ro hR, hb⟩
  · have e : joinR s r n l t s' r' n' m t' = zAR := by unfold joinR; rw [if_neg h]
    rw [e]
    refine (rjoin_no s r t s' r' t' xa n xc ya n' yc w (by
      by_cases h1 : s = s'
      · by_cases h2 : r = r'
        · exact .inr (.inr (fun h3 => h ⟨h1, h2, h3⟩))
        · exact .inr (.inl h2)
      · exact .inl h1)).mono ?_
    rintro e w' ⟨rfl, hb⟩
    exact ⟨AnsU.no, hb⟩
def rdV' (q : Bool) (r t : Int) : Int := bif q then IntKind.i64.wrap (r - t) else 0
def rdE' (q : Bool) : Int := bif q then 0 else 211
theorem rides_v (s r t : Int) (xa : Option Addr) (n xc : Nat) (l : List Bool) (w : World) (hq : Sb w ⟨xa, n, xc, l⟩) (hn : n ≤ 1048576) :
    Calls Try.prog 13 #[aV (rC ⟨s, r, .slice xa n xc, t⟩)] w fun e w' => e = .returned (.tuple #[.int .i64 (rdV' (msF l n).isEmpty r t), .int .i64 (rdE' (msF l n).isEmpty)]) ∧ Below w.heap.size w w' := by
  cases h : (msF l n).isEmpty with
  | true => exact rides_ok s r t xa n xc l w hq hn h
  | false => exact rides_no s r t xa n xc l w hq hn h
theorem rrides_v (s r t : Int) (xa : Option Addr) (n xc : Nat) (l : List Bool) (w : World) (hq : Sb w ⟨xa, n, xc, l⟩) (hn : n ≤ 1048576) :
    Calls Try.prog 33 #[aV (rC ⟨s, r, .slice xa n xc, t⟩)] w fun e w' => e = .returned (.tuple #[.int .i64 (rdV' (msF l n).isEmpty r t), .int .i64 (rdE' (msF l n).isEmpty)]) ∧ Below w.heap.size w w' := by
  cases h : (msF l n).isEmpty with
  | true => exact rrides_ok s r t xa n xc l w hq hn h
  | false => exact rrides_no s r t xa n xc l w hq hn h
set_option maxHeartbeats 2000000 in
set_option maxRecDepth 100000 in
theorem sameN_t (xa : Option Addr) (n xc : Nat) (l : List Int) (ya : Option Addr) (yc : Nat) (w : World) (hx : Si w ⟨xa, n, xc, l⟩) (hy : Si w ⟨ya, n, yc, l⟩) (hn : n ≤ 1048576) :
    Calls Try.prog 28 #[.slice xa n xc, .slice ya n yc] w fun e w' => e = .returned (.bool true) ∧ Below w.heap.size w w' := by
  have hS := Hs17.begin w (fun w => Si w ⟨xa, n, xc, l⟩ ∧ Si w ⟨ya, n, yc, l⟩) (fun w' ho => ⟨hx.old ho, hy.old ho⟩)
  clear hx hy
  go_enter Try.func28, Try.ntmps28
  go_wp2_with fail
  go_loopw [5] (fun vi wr => ∃ k : Nat, k ≤ n ∧ vi = .int .i64 k ∧ Hs17 w [] (fun w => Si w ⟨xa, n, xc, l⟩ ∧ Si w ⟨ya, n, yc, l⟩) wr) (fun vi _ => n - (intOf vi).toNat)
  case atStart => exact ⟨0, by omega, rfl, hS⟩
  case round =>
    clear hS
    obtain ⟨k, hk, rfl, hS⟩ := hrel
    by_cases hlt : k < n
    · have hkz : (k : Int) < (n : Int) := by omega
      obtain ⟨b, off, hxa, hbs, -⟩ := hS.K.1.at_ (k := k) hlt
      obtain ⟨b', off', hya, hbs', -⟩ := hS.K.2.at_ (k := k) hlt
      simp only at hxa hya
      subst hxa hya
      obtain ⟨q, hqe⟩ : ∃ q, l.getD k 0 = q := ⟨_, rfl⟩
      have HQ := hide hqe
      clear hqe
      go_upto_region 6 with fail
      refine wp_region_noPanic ?_
      replace hS := hS.drew
      refine wp_region_held_drew (S := Hs17 w [] (fun w => Si w ⟨some ⟨b, off, none⟩, n, xc, l⟩ ∧ Si w ⟨some ⟨b', off', none⟩, n, yc, l⟩)) (by kernel_rfl) (hS.sub (List.Sublist.slnil)) (fun hHeld => ?_)
      generalize World.drew _ = w41 at hS hHeld ⊢
      refine wpAnyH_take (i := 0) (oi := _) (v := (.slice (some ⟨b, off, none⟩) n xc)) rfl (by kernel_rfl) (by kernel_rfl) (by kernel_rfl) (fun _ _ _ h => h) (Or.inl ⟨by rfl, fun w hSw => by go_simp⟩) hHeld ?_
      simp [Act.put]
      refine wpAnyH_take (i := 1) (oi := _) (v := .int .i64 (k : Int)) rfl (by kernel_rfl) (by kernel_rfl) (by kernel_rfl) (fun _ _ _ h => h) (Or.inl ⟨by rfl, fun w hSw => by go_simp⟩) hHeld ?_
      simp [Act.put]
      refine wpAnyH_take (i := 2) (oi := _) (v := (.pointer (some ⟨b, off + k, none⟩))) rfl (by kernel_rfl) (by kernel_rfl) (by kernel_rfl) (fun _ _ _ h => h) (Or.inl ⟨by rfl, fun w hSw => by go_simp⟩) hHeld ?_
      simp [Act.put]
      refine wpAnyH_take (i := 3) (oi := _) (v := .int .i64 q) rfl (by kernel_rfl) (by kernel_rfl) (by kernel_rfl) (fun _ _ _ h => h) (yl_loadC (by kernel_rfl) 3 (.tmp 19) rfl (b) (off + k) rfl (.int .i64 q) (fun w hSw => by obtain ⟨b1, o1, e1, -, hc1⟩ := hSw.K.1.at_ (k := k) hlt; simp only at e1; cases e1; rw [unhide HQ] at hc1; exact hc1) Try.underlying3 rfl) hHeld ?_
      simp [Act.put]
      refine wpAnyH_take (i := 4) (oi := _) (v := (.slice (some ⟨b', off', none⟩) n yc)) rfl (by kernel_rfl) (by kernel_rfl) (by kernel_rfl) (fun _ _ _ h => h) (Or.inl ⟨by rfl, fun w hSw => by go_simp⟩) hHeld ?_
      simp [Act.put]
      refine wpAnyH_take (i := 5) (oi := _) (v := .int .i64 (k : Int)) rfl (by kernel_rfl) (by kernel_rfl) (by kernel_rfl) (fun _ _ _ h => h) (Or.inl ⟨by rfl, fun w hSw => by go_simp⟩) hHeld ?_
      simp [Act.put]
      refine wpAnyH_take (i := 6) (oi := _) (v := (.pointer (some ⟨b', off' + k, none⟩))) rfl (by kernel_rfl) (by kernel_rfl) (by kernel_rfl) (fun _ _ _ h => h) (Or.inl ⟨by rfl, fun w hSw => by go_simp⟩) hHeld ?_
      simp [Act.put]
      refine wpAnyH_take (i := 7) (oi := _) (v := .int .i64 q) rfl (by kernel_rfl) (by kernel_rfl) (by kernel_rfl) (fun _ _ _ h => h) (yl_loadC (by kernel_rfl) 3 (.tmp 23) rfl (b') (off' + k) rfl (.int .i64 q) (fun w hSw => by obtain ⟨b1, o1, e1, -, hc1⟩ := hSw.K.2.at_ (k := k) hlt; simp only at e1; cases e1; rw [unhide HQ] at hc1; exact hc1) Try.underlying3 rfl) hHeld ?_
      simp [Act.put]
      refine wpAnyH_take (i := 8) (oi := _) (v := .bool false) rfl (by kernel_rfl) (by kernel_rfl) (by kernel_rfl) (fun _ _ _ h => h) (Or.inl ⟨by rfl, fun w hSw => by go_simp⟩) hHeld ?_
      simp [Act.put]
      refine wpAnyH_done (by kernel_rfl) ?_ _
      unfold NoPanic
      clear hHeld
      go_wp2
      go_roundw
      case rel => exact ⟨k + 1, by omega, by go_num, hS⟩
      case measure => simp [intOf]; omega
    · have hkz : ¬ (k : Int) < (n : Int) := by omega
      go_wp2_with fail
      go_ret
      exact ⟨rfl, hS.bel⟩
end Go.Proofs.Ytjedgkcpkieaeaa
