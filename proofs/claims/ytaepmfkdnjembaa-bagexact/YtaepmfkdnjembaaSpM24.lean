import Derived.Test.YtaepmfkdnjembaaCtM24
import Derived.Test.YtaepmfkdnjembaaPlM24
import Derived.Deep.DeepCutAuto
import Derived.Deep.QuietTactic
import Derived.BigQuiet
set_option linter.unusedSimpArgs false
set_option linter.unusedVariables false
namespace Go.Proofs.Ytaepmfkdnjembaa
open Go.RowKit

theorem ExI.mono {w0 : World} {ms qx : List Ms} {last N N' : Nat} (h : ExI w0 ms qx last N) (hn : N ≤ N') : ExI w0 ms qx last N' := ⟨h.eq, Nat.le_trans h.la hn, h.bo⟩
theorem ExI.len {w0 : World} {ms qx : List Ms} {last N : Nat} (h : ExI w0 ms qx last N) : ms.length = qx.length := by have h1 := congrArg List.length h.eq; rwa [List.length_map, List.length_map] at h1
theorem lkV_su {w0 : World} {qx : List Ms} (h : ∀ m ∈ qx, Su w0 m.s ∧ m.s.n ≤ 3000) (z : Int) : Su w0 (lkV qx z).s ∧ (lkV qx z).s.n ≤ 3000 := by
  unfold lkV lkO
  cases h1 : qx.find? (fun m => m.i == z) with
  | none => exact ⟨Sx.Ok.nil w0 0, Nat.zero_le _⟩
  | some m => exact h m (List.mem_of_find?_eq_some h1)
theorem ExI.lookB {w0 : World} {ms qx : List Ms} {last N : Nat} (h : ExI w0 ms qx last N) (z : Int) : lkB qx z = lkB ms z := by rw [← lkB_p, ← lkB_p, h.eq]
theorem ExI.lookV {w0 : World} {ms qx : List Ms} {last N : Nat} (h : ExI w0 ms qx last N) (z : Int) : (lkV ms z).p = (lkV qx z).p := by rw [← lkV_p, ← lkV_p, h.eq]
theorem ExI.take {w0 : World} {ms qx : List Ms} {last N : Nat} (h : ExI w0 ms qx last N) (z : Int) : ExI w0 (dlM ms z) (dlM qx z) last N := ⟨by rw [dlM_p, dlM_p, h.eq], h.la, fun m hm => h.bo m ((List.mem_filter.1 hm).1)⟩
theorem ExI.double {w0 : World} {ms ms' qx : List Ms} {last N : Nat} (h : ExI w0 ms qx last N) (z : Int) (hp : ms'.map Ms.p = dbP (ms.map Ms.p) last z) :
    ExI w0 ms' (wqX (dbE (ms.map Ms.p) z) qx ⟨((last + 1 : Nat) : Int), (lkV qx z).f, (lkV qx z).t, (lkV qx z).s⟩) (wqL (dbE (ms.map Ms.p) z) last) (N + 1) := by
  have h1 := h.la
  unfold dbP at hp
  unfold wqX wqL
  by_cases h0 : dbE (ms.map Ms.p) z = 0
  · rw [if_pos h0] at hp
    rw [if_pos h0, if_pos h0]
    refine ⟨by rw [hp, List.map_append, h.eq, lkV_p]; rfl, by omega, fun m hm => ?_⟩
    rcases List.mem_append.1 hm with hm | hm
    · exact h.bo m hm
    · rw [List.mem_singleton] at hm; subst hm; exact lkV_su h.bo z
  · rw [if_neg h0] at hp
    rw [if_neg h0, if_neg h0]
    exact ⟨hp.trans h.eq, by omega, h.bo⟩
theorem RowG.putId {e : TypeId} {s : Sx Ms} {l : List Ms} {R : List Row} (h : RowG mC 4 e s l R) {i : Nat} {x : Ms} (hx : l[i]? = some x) (z : Int) :
    ∃ g c c', s.a = some ⟨g, 0, none⟩ ∧ R = [(g, e, c)] ∧ At c (i * 4) (mC x) ∧ Pt c (i * 4) [.int .i64 z] c' ∧ RowG mC 4 e s (l.set i ⟨z, x.f, x.t, x.s⟩) [(g, e, c')] := by
  obtain ⟨hi, hxe⟩ := List.getElem?_eq_some_iff.1 hx
  have hl := h.1
  obtain ⟨g, c, c', h1, h2, ⟨pre, p, post, hc, hc', hpl, hpp⟩, h4⟩ := h.put (fun x _ => mC_len x) (i := i) (by omega) (x := ⟨z, x.f, x.t, x.s⟩) rfl
  have hA : At c (i * 4) (mC x) := by
    rcases h.2 with ⟨-, h0, -, -⟩ | ⟨g', sp, q1, q2, q3, q4, q5⟩
    · omega
    · rw [h2] at q5
      simp only [List.cons.injEq, Prod.mk.injEq, and_true] at q5
      obtain ⟨rfl, -, rfl⟩ := q5
      have hd : l.drop i = x :: l.drop (i + 1) := by rw [List.drop_eq_getElem_cons hi, hxe]
      refine ⟨(l.take i).flatMap mC, (l.drop (i + 1)).flatMap mC ++ sp, ?_, ?_⟩
      · conv => lhs; rw [← List.take_append_drop i l, List.flatMap_append, hd, List.flatMap_cons]
        simp [List.append_assoc]
      · rw [flatG_len (sz := 4) (fun y _ => mC_len y), List.length_take]; congr 1; omega
  refine ⟨g, c, c', h1, h2, hA, ?_, h4⟩
  have hp : p = mC x := by
    obtain ⟨pre', post', q1, q2⟩ := hA
    have q3 := hc.symm.trans q1
    have q4 := List.append_inj q3 (by omega)
    have q5 := List.append_inj q4.2 (by rw [hpp]; rfl)
    exact q5.1
  subst hp
  exact ⟨pre, [.int .i64 x.i], [.int .i64 x.f, .int .i64 x.t, x.s.v] ++ post, by rw [hc]; rfl, by rw [hc']; rfl, hpl, rfl⟩
end Go.Proofs.Ytaepmfkdnjembaa
