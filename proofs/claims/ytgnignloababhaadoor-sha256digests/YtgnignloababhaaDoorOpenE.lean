import Derived.Test.YtgnignloababhaaDoorOpenG
import Derived.SizedLaws
import Derived.Deep.Slices
import Derived.Test.YtgnignloababhaaDoorDgsW
namespace Go.Proofs.YtgnignloababhaaDoor
open Go.ChangeShapes Go.WideShapes Go.ChangeAt Go.WideMaps Go.WideElems Go.RowKit Go.Deep

theorem bulkPos {H : Type} (d : DataW H) : 0 < Rows.uptoBulk d := by
  rcases d with l | _ | _ | _ | _ | _ | _ | _
  · rcases l with _ | _ | _ | _ | _ <;> simp [Rows.uptoBulk]
  all_goals simp [Rows.uptoBulk]
theorem bulkLen {H : Type} : ∀ l : List (DataW H), l.length ≤ Rows.uptoBulkAll l
  | [] => Nat.zero_le _
  | d :: l => by
    have h1 := bulkLen l
    have h2 := bulkPos d
    simp only [Rows.uptoBulkAll, List.length_cons]
    omega
theorem bulkIn {H : Type} {d : DataW H} : ∀ {l : List (DataW H)}, d ∈ l → Rows.uptoBulk d ≤ Rows.uptoBulkAll l
  | x :: l, h => by
    rcases List.mem_cons.1 h with rfl | h
    · simp only [Rows.uptoBulkAll]; omega
    · have := bulkIn h; simp only [Rows.uptoBulkAll]; omega
theorem bulkTot {H : Type} {S : Nat → OpR} {D : Nat → DataW H} : ∀ l : List Nat, (∀ i ∈ l, (S i).d.n ≤ Rows.uptoBulk (D i)) → tot (l.map S) ≤ Rows.uptoBulkAll (l.map D)
  | [], _ => Nat.zero_le _
  | i :: l, h => by
    have h1 := bulkTot l (fun j hj => h j (List.mem_cons_of_mem _ hj))
    have h2 := h i (List.mem_cons_self ..)
    simp only [List.map_cons, Rows.uptoBulkAll]
    have e : tot (S i :: l.map S) = (S i).d.n + tot (l.map S) := by simp [tot]
    omega

section
variable {H : Type} {enc : TypeId × Value → H} {w : World} {held : Bool} {m : Nat}

set_option maxRecDepth 100000 in
theorem open_sl_b {v : Value} {y : DataW H × List MemPlace} (h : DataW.trod enc Tryd.prog w 0 (fun _ => true) held m 25 [v] = some y) :
    ∃ s : Sl, v = s.v ∧ s.Ok w ∧ s.n ≤ Rows.uptoBulk y.1 := by
  obtain ⟨s, hs, hok, -⟩ := open_sl h
  refine ⟨s, hs, hok, ?_⟩
  rcases open_ints Tryd.underlying25 Tryd.underlying5 (by kernel_rfl) h with ⟨hcs, _⟩ | ⟨x, l, c, zs, hcs, _, hl, hmx, hz, hy, _, _⟩
  · simp at hcs
    rw [hs] at hcs
    simp only [Sl.v, Value.slice.injEq] at hcs
    rw [hcs.2.1]; exact Nat.zero_le _
  · simp at hcs
    simp only [if_true] at hz
    rw [hs] at hcs
    simp only [Sl.v, Value.slice.injEq] at hcs
    rw [hcs.2.1]
    have hd : y.1 = .slice (lits .u8 (zs.take l)) (lits .u8 (zs.drop l)) := by
      have := congrArg Prod.fst hy; simpa using this
    rw [hd]
    simp only [Rows.uptoBulk]
    have h1 := bulkLen (lits .u8 (zs.take l) : List (DataW H))
    have e1 : (lits .u8 (zs.take l) : List (DataW H)).length = min l zs.length := by simp [lits]
    rw [e1] at h1
    omega

set_option maxRecDepth 100000 in
theorem open_opE {cs : List Value} {y : DataW H × List MemPlace} (h : DataW.trod enc Tryd.prog w 0 (fun _ => true) held m 32 cs = some y) :
    ∃ o : OpR, cs = [.int .i64 o.kd, .int .u8 o.at_, o.d.v] ∧ o.Ok w ∧ o.d.n ≤ Rows.uptoBulk y.1 := by
  obtain ⟨xs, n, -, hxx, hcl, hl, hx⟩ := DataW.trod_struct Tryd.underlying32 h
  have hl' : xs.length = 3 := hl
  have hcl' : cs.length = 3 := hcl.trans (by kernel_rfl)
  match cs, hcl' with
  | [c0, c1, c2], _ =>
    have one : ∀ i (hi : i < xs.length), xs[i]? = some xs[i] := fun i hi => by simp
    have ki : Tryd.prog.cellsOf 3 = 1 := by kernel_rfl
    have k8 : Tryd.prog.cellsOf 5 = 1 := by kernel_rfl
    have ks : Tryd.prog.cellsOf 25 = 1 := by kernel_rfl
    have f0 : DataW.trod enc Tryd.prog w 0 (fun _ => true) held n 3 [c0] = some xs[0] := by rw [← one 0 (by omega), ← hx 0 _ rfl]; simp [ki]
    have f1 : DataW.trod enc Tryd.prog w 0 (fun _ => true) held n 5 [c1] = some xs[1] := by rw [← one 1 (by omega), ← hx 1 _ rfl]; simp [k8]
    have f2 : DataW.trod enc Tryd.prog w 0 (fun _ => true) held n 25 [c2] = some xs[2] := by rw [← one 2 (by omega), ← hx 2 _ rfl]; simp [ks]
    obtain ⟨kd, e0, -, -⟩ := DataW.trod_int Tryd.underlying3 f0
    obtain ⟨at_, e1, -, w1⟩ := DataW.trod_int Tryd.underlying5 f1
    obtain ⟨s, e2, oks, hsc⟩ := open_sl_b f2
    simp only [List.cons.injEq, and_true] at e0 e1
    subst e0 e1 e2
    refine ⟨⟨kd, at_, s⟩, rfl, ⟨?_, oks⟩, ?_⟩
    · have := bounds_u8 w1; show 0 ≤ at_ ∧ at_ ≤ 255; omega
    · have hin : xs[2].1 ∈ xs.map (·.1) := List.mem_map.2 ⟨xs[2], List.getElem_mem _, rfl⟩
      have hb := bulkIn hin
      rw [hxx]
      show s.n ≤ _
      simp only [Rows.uptoBulk]
      omega

set_option maxRecDepth 100000 in
theorem open_opsE {v : Value} {y : DataW H × List MemPlace} (h : DataW.trod enc Tryd.prog w 0 (fun _ => true) held m 22 [v] = some y) :
    ∃ (pa : Option Addr) (pc : Nat) (ps : List OpR), v = .slice pa ps.length pc ∧ OpsAt w pa ps ∧ (∀ o ∈ ps, o.Ok w) ∧ ps.length ≤ Rows.uptoBulk y.1 ∧ tot ps ≤ Rows.uptoBulk y.1 := by
  rcases Deep.open_slice Tryd.underlying22 h with ⟨hcs, _⟩ | ⟨a, len, cap, q, n, D, Pl, hcs, _, hl, hm, hq, hy, hx⟩
  · simp at hcs
    exact ⟨none, 0, [], hcs, fun h => absurd h (by simp), (fun s hs => by cases hs), Nat.zero_le _, Nat.zero_le _⟩
  · simp at hcs
    simp only [if_true] at hq
    subst hq
    have kc : Tryd.prog.cellsOf 32 = 3 := by kernel_rfl
    rw [kc] at hx
    have hS : ∀ i, i < len → ∃ o : OpR, (∀ j, j < 3 → w.cell? ((a.add (i * 3)).add j) = ([.int .i64 o.kd, .int .u8 o.at_, o.d.v] : List Value)[j]?) ∧ o.Ok w ∧ o.d.n ≤ Rows.uptoBulk (D i) := by
      intro i hi
      obtain ⟨cs', h1, h2⟩ := hx i (by omega)
      obtain ⟨o, rfl, ok, hb⟩ := open_opE h2
      exact ⟨o, (World.cells?_some h1).2.2, ok, hb⟩
    have : Inhabited OpR := ⟨⟨0, 0, ⟨none, 0, 0, []⟩⟩⟩
    obtain ⟨S, hS⟩ := choose_lt hS
    have hmem : ∀ s, s ∈ (List.range len).map S → ∃ i, i < len ∧ s = S i := by
      intro s hs; simp at hs; obtain ⟨i, hi, rfl⟩ := hs; exact ⟨i, hi, rfl⟩
    have hbl : Rows.uptoBulkAll ((List.range len).map D) ≤ Rows.uptoBulk y.1 := by
      rw [hy]; simp only [Rows.uptoBulk]; omega
    refine ⟨some a, q, (List.range len).map S, by simpa using hcs, fun hpos => ?_, fun o ho => ?_, ?_, ?_⟩
    · simp only [List.length_map, List.length_range] at hpos
      have h0 := (hS 0 hpos).1 0 (by omega)
      obtain ⟨b, off, spot⟩ := a
      have hspot : spot = none := by simpa [Addr.add] using World.cell?_spot h0
      subst hspot
      refine ⟨b, off, rfl, cell_lt h0, fun i o hi => ?_⟩
      have hil : i < len := by
        by_cases hil : i < len
        · exact hil
        · rw [List.getElem?_eq_none (by simp; omega)] at hi; simp at hi
      have ho : o = S i := by rw [List.getElem?_map, List.getElem?_range hil] at hi; simpa using hi.symm
      subst ho
      have g := (hS i hil).1
      simp only [addr_add] at g
      exact ⟨g 0 (by omega), g 1 (by omega), g 2 (by omega)⟩
    · obtain ⟨i, hi, rfl⟩ := hmem o ho
      exact (hS i hi).2.1
    · have := bulkLen ((List.range len).map D)
      simp only [List.length_map, List.length_range] at this ⊢
      omega
    · exact Nat.le_trans (bulkTot (List.range len) (fun i hi => (hS i (List.mem_range.1 hi)).2.2)) hbl
end
set_option maxRecDepth 100000 in
theorem open_opsE_v {H : Type} {enc : TypeId × Value → H} {w : World} {held : Bool} {r : Reach} {b0 : Nat} {v : Value} {d : DataW H} {p : List MemPlace} (hv : Value.okWide Tryd.prog w r b0 22 v) (h : DataW.Trod enc Tryd.prog w 0 (fun _ => true) held 22 v d p) :
    ∃ (pa : Option Addr) (pc : Nat) (ps : List OpR), v = .slice pa ps.length pc ∧ OpsAt w pa ps ∧ (∀ o ∈ ps, o.Ok w) ∧ ps.length ≤ Rows.uptoBulk d ∧ tot ps ≤ Rows.uptoBulk d := by
  obtain ⟨m, hm⟩ := h
  have hc : v.cells.toList = [v] := by
    obtain ⟨a, n, c, rfl⟩ := okWide_slice Tryd.underlying22 hv
    rfl
  rw [hc] at hm
  exact open_opsE hm
end Go.Proofs.YtgnignloababhaaDoor
