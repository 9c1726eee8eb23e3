import Derived.Test.YtipmgnigejpfjaaOpenG
import Derived.SizedLaws
import Derived.Deep.Slices
import Derived.Test.YtipmgnigejpfjaaExactX
namespace Go.Proofs.Ytipmgnigejpfjaa
open Go.ChangeShapes Go.WideShapes Go.ChangeAt Go.WideMaps Go.WideElems Go.RowKit Go.Deep

theorem bulkPos {H : Type} (d : DataW H) : 0 < Rows.uptoBulk d := by
  rcases d with l | _ | _ | _ | _ | _ | _ | _
  · rcases l with _ | _ | _ | _ | _ <;> simp [Rows.uptoBulk]
  all_goals simp [Rows.uptoBulk]
theorem bulkLen {H : Type} : ∀ l : List (DataW H), l.length ≤ Rows.uptoBulkAll l
  | [] => Nat.zero_le _
  | d :: l => by
    have h1 := bulkLen l
    have h2 := bulkPos d
    simp only [Rows.uptoBulkAll, List.length_cons]
    omega
theorem bulkIn {H : Type} {d : DataW H} : ∀ {l : List (DataW H)}, d ∈ l → Rows.uptoBulk d ≤ Rows.uptoBulkAll l
  | x :: l, h => by
    rcases List.mem_cons.1 h with rfl | h
    · simp only [Rows.uptoBulkAll]; omega
    · have := bulkIn h; simp only [Rows.uptoBulkAll]; omega

section
variable {H : Type} {enc : TypeId × Value → H} {w : World} {held : Bool} {m : Nat}

set_option maxRecDepth 100000 in
theorem open_sl_b {v : Value} {y : DataW H × List MemPlace} (h : DataW.trod enc Try.prog w 0 (fun _ => true) held m 28 [v] = some y) :
    ∃ s : Sl, v = s.v ∧ s.Ok w ∧ s.n ≤ Rows.uptoBulk y.1 := by
  obtain ⟨s, hs, hok, -⟩ := open_sl h
  refine ⟨s, hs, hok, ?_⟩
  rcases open_ints Try.underlying28 Try.underlying5 (by kernel_rfl) h with ⟨hcs, _⟩ | ⟨x, l, c, zs, hcs, _, hl, hmx, hz, hy, _, _⟩
  · simp at hcs
    rw [hs] at hcs
    simp only [Sl.v, Value.slice.injEq] at hcs
    rw [hcs.2.1]; exact Nat.zero_le _
  · simp at hcs
    simp only [if_true] at hz
    rw [hs] at hcs
    simp only [Sl.v, Value.slice.injEq] at hcs
    rw [hcs.2.1]
    have hd : y.1 = .slice (lits .u8 (zs.take l)) (lits .u8 (zs.drop l)) := by
      have := congrArg Prod.fst hy; simpa using this
    rw [hd]
    simp only [Rows.uptoBulk]
    have h1 := bulkLen (lits .u8 (zs.take l) : List (DataW H))
    have e1 : (lits .u8 (zs.take l) : List (DataW H)).length = min l zs.length := by simp [lits]
    rw [e1] at h1
    omega
set_option maxRecDepth 100000 in
theorem open_sls_b {v : Value} {y : DataW H × List MemPlace} (h : DataW.trod enc Try.prog w 0 (fun _ => true) held m 24 [v] = some y) :
    ∃ (pa : Option Addr) (pc : Nat) (ps : List Sl), v = .slice pa ps.length pc ∧ LiesV w pa (ps.map Sl.v) ∧ (∀ s ∈ ps, s.Ok w) ∧ (pa = none → pc = 0) ∧ ps.length ≤ Rows.uptoBulk y.1 ∧ ∀ s ∈ ps, s.n ≤ Rows.uptoBulk y.1 := by
  rcases open_slice1 Try.underlying24 (by kernel_rfl) h with ⟨hcs, _⟩ | ⟨a, len, cap, q, n, V, D, Pl, hcs, _, hl, hm, hq, hy, hx⟩
  · simp at hcs
    exact ⟨none, 0, [], hcs, fun h => absurd h (by simp), (fun s hs => by cases hs), fun _ => rfl, Nat.zero_le _, fun s hs => by cases hs⟩
  · simp at hcs
    simp only [if_true] at hq
    subst hq
    have hS : ∀ i, i < len → ∃ s : Sl, V i = s.v ∧ s.Ok w ∧ s.n ≤ Rows.uptoBulk (D i) := fun i hi => open_sl_b (hx i (by omega)).2
    have : Inhabited Sl := ⟨⟨none, 0, 0, []⟩⟩
    obtain ⟨S, hS⟩ : ∃ S : Nat → Sl, ∀ i, i < len → V i = (S i).v ∧ (S i).Ok w ∧ (S i).n ≤ Rows.uptoBulk (D i) := choose_lt hS
    have hmem : ∀ s, s ∈ (List.range len).map S → ∃ i, i < len ∧ s = S i := by
      intro s hs; simp at hs; obtain ⟨i, hi, rfl⟩ := hs; exact ⟨i, hi, rfl⟩
    have hbl : Rows.uptoBulkAll ((List.range len).map D) ≤ Rows.uptoBulk y.1 := by
      rw [hy]; simp only [Rows.uptoBulk]; omega
    refine ⟨some a, q, (List.range len).map S, by simpa using hcs, fun hpos => ?_, fun s hs => ?_, (fun h => by cases h), ?_, fun s hs => ?_⟩
    · simp only [List.length_map, List.length_range] at hpos
      have h0 := (hx 0 (by omega)).1
      obtain ⟨b, off, spot⟩ := a
      have hspot : spot = none := by simpa [Addr.add] using World.cell?_spot h0
      subst hspot
      refine ⟨b, off, rfl, cell_lt h0, fun i v' hi => ?_⟩
      have hil : i < len := by
        by_cases hil : i < len
        · exact hil
        · rw [List.getElem?_eq_none (by simp; omega)] at hi; simp at hi
      have := (hx i (by omega)).1
      rw [addr_add] at this
      rw [this, (hS i hil).1]
      rw [← hi]; simp [hil]
    · obtain ⟨i, hi, rfl⟩ := hmem s hs
      exact (hS i hi).2.1
    · have := bulkLen ((List.range len).map D)
      simp only [List.length_map, List.length_range] at this ⊢
      omega
    · obtain ⟨i, hi, rfl⟩ := hmem s hs
      exact Nat.le_trans (hS i hi).2.2 (Nat.le_trans (bulkIn (List.mem_map.2 ⟨i, List.mem_range.2 hi, rfl⟩)) hbl)

set_option maxRecDepth 100000 in
theorem open_op8 {cs : List Value} {y : DataW H × List MemPlace} (h : DataW.trod enc Try.prog w 0 (fun _ => true) held m 33 cs = some y) (hb : Rows.uptoBulk y.1 ≤ 1048576) :
    ∃ o : OpV, cs = o.cells ∧ o.Ok w ∧ (o.pa = none → o.pc = 0) := by
  obtain ⟨xs, n, -, hxx, hcl, hl, hx⟩ := DataW.trod_struct Try.underlying33 h
  have hl' : xs.length = 8 := hl
  have hcl' : cs.length = 8 := hcl.trans (by kernel_rfl)
  have hin : ∀ i (hi : i < xs.length), Rows.uptoBulk xs[i].1 ≤ 1048576 := fun i hi => by
    have h1 : xs[i].1 ∈ xs.map (·.1) := List.mem_map.2 ⟨xs[i], List.getElem_mem _, rfl⟩
    have h2 := bulkIn h1
    rw [hxx] at hb
    simp only [Rows.uptoBulk] at hb
    omega
  match cs, hcl' with
  | [c0, c1, c2, c3, c4, c5, c6, c7], _ =>
    have one : ∀ i (hi : i < xs.length), xs[i]? = some xs[i] := fun i hi => by simp
    have ki : Try.prog.cellsOf 3 = 1 := by kernel_rfl
    have k3 : Try.prog.cellsOf 30 = 1 := by kernel_rfl
    have k6 : Try.prog.cellsOf 31 = 1 := by kernel_rfl
    have ks : Try.prog.cellsOf 28 = 1 := by kernel_rfl
    have kl : Try.prog.cellsOf 24 = 1 := by kernel_rfl
    have kt : Try.prog.cellsOf 9 = 1 := by kernel_rfl
    have f0 : DataW.trod enc Try.prog w 0 (fun _ => true) held n 3 [c0] = some xs[0] := by rw [← one 0 (by omega), ← hx 0 _ rfl]; simp [ki]
    have f1 : DataW.trod enc Try.prog w 0 (fun _ => true) held n 30 [c1] = some xs[1] := by rw [← one 1 (by omega), ← hx 1 _ rfl]; simp [k3]
    have f2 : DataW.trod enc Try.prog w 0 (fun _ => true) held n 31 [c2] = some xs[2] := by rw [← one 2 (by omega), ← hx 2 _ rfl]; simp [k6]
    have f3 : DataW.trod enc Try.prog w 0 (fun _ => true) held n 3 [c3] = some xs[3] := by rw [← one 3 (by omega), ← hx 3 _ rfl]; simp [ki]
    have f4 : DataW.trod enc Try.prog w 0 (fun _ => true) held n 28 [c4] = some xs[4] := by rw [← one 4 (by omega), ← hx 4 _ rfl]; simp [ks]
    have f5 : DataW.trod enc Try.prog w 0 (fun _ => true) held n 28 [c5] = some xs[5] := by rw [← one 5 (by omega), ← hx 5 _ rfl]; simp [ks]
    have f6 : DataW.trod enc Try.prog w 0 (fun _ => true) held n 24 [c6] = some xs[6] := by rw [← one 6 (by omega), ← hx 6 _ rfl]; simp [kl]
    have f7 : DataW.trod enc Try.prog w 0 (fun _ => true) held n 9 [c7] = some xs[7] := by rw [← one 7 (by omega), ← hx 7 _ rfl]; simp [kt]
    obtain ⟨kd, e0, -, w0⟩ := DataW.trod_int Try.underlying3 f0
    obtain ⟨ow, e1, -, w1⟩ := DataW.trod_int Try.underlying30 f1
    obtain ⟨ol, e2, -, w2⟩ := DataW.trod_int Try.underlying31 f2
    obtain ⟨nn, e3, -, w3⟩ := DataW.trod_int Try.underlying3 f3
    obtain ⟨sA, e4, okA, bA⟩ := open_sl_b f4
    obtain ⟨sB, e5, okB, bB⟩ := open_sl_b f5
    obtain ⟨pa, pc, ps, e6, hlv, hok, hpn, bP, bS⟩ := open_sls_b f6
    obtain ⟨txt, e7, hy7, -⟩ := DataW.trod_string Try.underlying9 f7
    simp only [List.cons.injEq, and_true] at e0 e1 e2 e3 e7
    subst e0 e1 e2 e3 e4 e5 e6 e7
    have t4 := hin 4 (by omega)
    have t5 := hin 5 (by omega)
    have t6 := hin 6 (by omega)
    have t7 := hin 7 (by omega)
    have b0 := bounds_i64 w0
    have b1 := bounds_u32 w1
    have b2 := bounds_u64 w2
    have b3 := bounds_i64 w3
    refine ⟨⟨kd, ow, ol, nn, sA, sB, pa, pc, ps, txt⟩, rfl, ⟨by simp only; omega, by simp only; omega, by simp only; omega, by simp only; omega, okA, okB, hlv, hok, Nat.le_trans bA t4, Nat.le_trans bB t5, Nat.le_trans bP t6, fun s hs => Nat.le_trans (bS s hs) t6, ?_⟩, hpn⟩
    rw [hy7] at t7
    simp only [Rows.uptoBulk] at t7
    have : txt.data.toList.length = txt.size := by rw [Array.length_toList]; rfl
    show txt.size ≤ _
    omega

set_option maxRecDepth 100000 in
theorem open_ops8 {v : Value} {y : DataW H × List MemPlace} (h : DataW.trod enc Try.prog w 0 (fun _ => true) held m 22 [v] = some y) (hb : Rows.uptoBulk y.1 ≤ 1048576) :
    ∃ (pa : Option Addr) (pc : Nat) (ps : List OpV), v = .slice pa ps.length pc ∧ OpsAt w pa ps ∧ (∀ o ∈ ps, o.Ok w ∧ (o.pa = none → o.pc = 0)) ∧ ps.length ≤ 1048576 := by
  rcases Deep.open_slice Try.underlying22 h with ⟨hcs, _⟩ | ⟨a, len, cap, q, n, D, Pl, hcs, _, hl, hm, hq, hy, hx⟩
  · simp at hcs
    exact ⟨none, 0, [], hcs, fun h => absurd h (by simp), (fun s hs => by cases hs), Nat.zero_le _⟩
  · simp at hcs
    simp only [if_true] at hq
    subst hq
    have kc : Try.prog.cellsOf 33 = 8 := by kernel_rfl
    rw [kc] at hx
    have hbl : Rows.uptoBulkAll ((List.range len).map D) ≤ 1048576 := by
      rw [hy] at hb; simp only [Rows.uptoBulk] at hb; omega
    have hS : ∀ i, i < len → ∃ o : OpV, (∀ j, j < 8 → w.cell? ((a.add (i * 8)).add j) = o.cells[j]?) ∧ o.Ok w ∧ (o.pa = none → o.pc = 0) := by
      intro i hi
      obtain ⟨cs', h1, h2⟩ := hx i (by omega)
      obtain ⟨o, rfl, ok, hp⟩ := open_op8 h2 (Nat.le_trans (bulkIn (List.mem_map.2 ⟨i, List.mem_range.2 hi, rfl⟩)) hbl)
      exact ⟨o, (World.cells?_some h1).2.2, ok, hp⟩
    have : Inhabited OpV := ⟨⟨0, 0, 0, 0, ⟨none, 0, 0, []⟩, ⟨none, 0, 0, []⟩, none, 0, [], ByteArray.empty⟩⟩
    obtain ⟨S, hS⟩ := choose_lt hS
    have hmem : ∀ s, s ∈ (List.range len).map S → ∃ i, i < len ∧ s = S i := by
      intro s hs; simp at hs; obtain ⟨i, hi, rfl⟩ := hs; exact ⟨i, hi, rfl⟩
    refine ⟨some a, q, (List.range len).map S, by simpa using hcs, fun hpos => ?_, fun o ho => ?_, ?_⟩
    · simp only [List.length_map, List.length_range] at hpos
      have h0 := (hS 0 hpos).1 0 (by omega)
      obtain ⟨b, off, spot⟩ := a
      have hspot : spot = none := by simpa [Addr.add] using World.cell?_spot h0
      subst hspot
      refine ⟨b, off, rfl, cell_lt h0, fun i o hi => ?_⟩
      have hil : i < len := by
        by_cases hil : i < len
        · exact hil
        · rw [List.getElem?_eq_none (by simp; omega)] at hi; simp at hi
      have ho : o = S i := by rw [List.getElem?_map, List.getElem?_range hil] at hi; simpa using hi.symm
      subst ho
      have g := (hS i hil).1
      simp only [addr_add] at g
      intro j v hv
      have hj : j < 8 := by
        have h1 := (List.getElem?_eq_some_iff.1 hv).1
        have h2 : (S i).cells.length = 8 := rfl
        omega
      rw [g j hj]; exact hv
    · obtain ⟨i, hi, rfl⟩ := hmem o ho
      exact (hS i hi).2
    · have := bulkLen ((List.range len).map D)
      simp only [List.length_map, List.length_range] at this ⊢
      omega
end
set_option maxRecDepth 100000 in
theorem open_ops8_v {H : Type} {enc : TypeId × Value → H} {w : World} {held : Bool} {r : Reach} {b0 : Nat} {v : Value} {d : DataW H} {p : List MemPlace} (hv : Value.okWide Try.prog w r b0 22 v) (h : DataW.Trod enc Try.prog w 0 (fun _ => true) held 22 v d p) (hb : Rows.uptoBulk d ≤ 1048576) :
    ∃ (pa : Option Addr) (pc : Nat) (ps : List OpV), v = .slice pa ps.length pc ∧ OpsAt w pa ps ∧ (∀ o ∈ ps, o.Ok w ∧ (o.pa = none → o.pc = 0)) ∧ ps.length ≤ 1048576 := by
  obtain ⟨m, hm⟩ := h
  have hc : v.cells.toList = [v] := by
    obtain ⟨a, n, c, rfl⟩ := okWide_slice Try.underlying22 hv
    rfl
  rw [hc] at hm
  exact open_ops8 hm hb
end Go.Proofs.Ytipmgnigejpfjaa
