import Derived.Test.YtppmgfkpfamabaaQGaeZ
import Derived.Test.YtppmgfkpfamabaaQGabZ
import Derived.SizedLaws
import Derived.Deep.Slices
import Derived.Deep.QuietTactic
import Derived.BigQuiet
import Derived.Deep.RegionHeld3
set_option maxHeartbeats 2000000
set_option maxRecDepth 100000
namespace Go.Proofs.Ytppmgfkpfamabaa
open Go.RowKit
theorem ref_zero {s : FlS} {bank : Int} (h : s.ref bank = 0) : (bank = 0 ∨ bank = 1) ∧ s.down = false := by
  unfold FlS.ref at h
  split at h
  · omega
  · split at h
    · omega
    · rename_i h1 h2
      exact ⟨by omega, by simpa using h2⟩
theorem append_any (p : Nat) (S : Nat → Prop) (s : FlS) (bank : Int) (d : Sl) (w : World) (h : Fl w p S s) (hd : d.Ok w) (hS : Sepd S d) (hw : s.wr ≤ 4000000000000000000) :
    Calls Try.prog 105 #[.pointer (some ⟨p, 0, none⟩), .int .i64 bank, d.v] w (APost p S (s.append bank d.l) w) := by
  by_cases hr : s.ref bank = 0
  · rcases (ref_zero hr).1 with rfl | rfl
    · exact append_0 p S s d w h hd hS hr hw
    · exact append_1 p S s d w h hd hS hr hw
  · exact append_no p S s bank d w h hr
theorem erase_any (p : Nat) (S : Nat → Prop) (s : FlS) (bank : Int) (w : World) (h : Fl w p S s) (hw : s.wr ≤ 4000000000000000000) :
    Calls Try.prog 107 #[.pointer (some ⟨p, 0, none⟩), .int .i64 bank] w (APost p S (s.erase bank) w) := by
  by_cases hr : s.ref bank = 0
  · rcases (ref_zero hr).1 with rfl | rfl
    · exact erase_0 p S s w h hr hw
    · exact erase_1 p S s w h hr hw
  · exact erase_no p S s bank w h hr
def FlS.read (s : FlS) (bank : Int) : List Int := if s.ref bank = 0 then s.bk bank else []
def FlS.room (s : FlS) (bank : Int) : Int := if s.ref bank = 0 then s.size - (s.bk bank).length else 0
theorem read_any (p : Nat) (S : Nat → Prop) (s : FlS) (bank : Int) (w : World) (h : Fl w p S s) :
    Calls Try.prog 108 #[.pointer (some ⟨p, 0, none⟩), .int .i64 bank] w fun e w' => ∃ v, e = .returned (.tuple #[v, .int .i64 (s.ref bank)]) ∧ OwB w' v (s.read bank) ∧ (∀ k, v.ownBlock = some k → w.heap.size ≤ k) ∧ Below w.heap.size w w' := by
  by_cases hr : s.ref bank = 0
  · rw [hr]
    unfold FlS.read
    rw [if_pos hr]
    rcases (ref_zero hr).1 with rfl | rfl
    · exact read_0 p S s w h hr
    · exact read_1 p S s w h hr
  · refine (read_no p S s bank w h hr).mono ?_
    rintro e w' ⟨rfl, rfl⟩
    unfold FlS.read
    rw [if_neg hr]
    exact ⟨_, rfl, OwB.nil _, fun k hk => by simp [Value.ownBlock] at hk, Below.refl _ _⟩
theorem roomX_any (p : Nat) (S : Nat → Prop) (s : FlS) (bank : Int) (w : World) (h : Fl w p S s) :
    Calls Try.prog 109 #[.pointer (some ⟨p, 0, none⟩), .int .i64 bank] w fun e w' => e = .returned (.tuple #[.int .i64 (s.room bank), .int .i64 (s.ref bank)]) ∧ ∃ k, w' = w.drewN k := by
  by_cases hr : s.ref bank = 0
  · rw [hr]
    unfold FlS.room
    rw [if_pos hr]
    rcases (ref_zero hr).1 with rfl | rfl
    · exact roomX_0 p S s w h hr
    · exact roomX_1 p S s w h hr
  · refine (roomX_no p S s bank w h hr).mono ?_
    rintro e w' ⟨rfl, rfl⟩
    unfold FlS.room
    rw [if_neg hr]
    exact ⟨rfl, 0, rfl⟩
theorem restart_any (p : Nat) (S : Nat → Prop) (s : FlS) (w : World) (h : Fl w p S s) :
    Calls Try.prog 20 #[.pointer (some ⟨p, 0, none⟩)] w (APost p S s.restart w) := by
  have HFl := hide h
  obtain ⟨v0, v1, qv, hf, rfl⟩ := h
  obtain ⟨-, -, -, -, c4, -⟩ := hf.cs
  have f4 := hf.arr.frozen 4
  have HF := hide hf
  clear hf
  cases hd : s.down with
  | false =>
    have HR : Hid (s.restart = (s, 123)) := hide (by unfold FlS.restart; rw [hd]; rfl)
    rw [unhide HR]
    rw [hd] at c4
    go_enter Try.func20, Try.ntmps20
    go_wp2
    go_ret
    exact ⟨rfl, _, FSt.refl (unhide HFl)⟩
  | true =>
    have HR : Hid (s.restart = ({ s with down := false }, 0)) := hide (by unfold FlS.restart; rw [hd]; rfl)
    rw [unhide HR]
    rw [hd] at c4
    go_enter Try.func20, Try.ntmps20
    go_wp2
    go_ret
    have hf := unhide HF
    have bb : Buts (· = p) w (w.setCell ⟨p, 4, none⟩ (.bool false)) := Buts.of_but ((But.refl p w).setCell _ _)
    exact ⟨rfl, _, ⟨v0, v1, qv, ⟨hf.arr.set 4 (.bool false), bb.own hf.o0 (fun x hx e => hf.n0 (by rw [hx, e])), bb.own hf.o1 (fun x hx e => hf.n1 (by rw [hx, e])), bb.own hf.oq (fun x hx e => hf.nq (by rw [hx, e])), hf.ne, ⟨hf.ok.b0, hf.ok.b1, hf.ok.z0, hf.ok.z1, hf.ok.mx, hf.ok.ql, hf.ok.qb⟩⟩, rfl⟩, bb.mono (fun k _ e => .inl e), fun _ h => .inl h⟩
def FPost (l0 l1 : List Int) (w : World) (e : Ending) (w' : World) : Prop :=
  ∃ u v, e = .returned (.tuple #[u, v]) ∧ OwB w' u l0 ∧ OwB w' v l1 ∧ (∀ k, u.ownBlock = some k → w.heap.size ≤ k) ∧ (∀ k, v.ownBlock = some k → w.heap.size ≤ k) ∧ (∀ k, u.ownBlock = some k → v.ownBlock ≠ some k) ∧ Below w.heap.size w w'
theorem files_any (p : Nat) (S : Nat → Prop) (s : FlS) (w : World) (h : Fl w p S s) :
    Calls Try.prog 8 #[.pointer (some ⟨p, 0, none⟩)] w (FPost s.l0 s.l1 w) := by
  have hT := told_0 p S s w h
  have HF := hide h
  clear h
  go_enter Try.func8, Try.ntmps8
  go_wp2_with (first | (go_at_call 27; refine hU.mono ?_; rintro e w2 ⟨v, rfl, j1, j2, j3⟩; clear hU) | (go_at_call 27; refine hT.mono ?_; rintro e w1 ⟨u, rfl, h1, h2, h3⟩; clear hT; have hU := told_1 p S s w1 ((unhide HF).later h3)))
  go_ret2
  have := h3.size
  refine ⟨u, v, rfl, h1.later j3, j1, h2, fun k hk => by have := j2 k hk; omega, fun k hk hk' => ?_, h3.trans (j3.mono (by omega))⟩
  have := h1.lt k hk
  have := j2 k hk'
  omega
theorem arm_any (p : Nat) (S : Nat → Prop) (s : FlS) (a k : Int) (w : World) (h : Fl w p S s) :
    Calls Try.prog 18 #[.pointer (some ⟨p, 0, none⟩), .int .i64 a, .int .i64 k] w (APost p S (s.arm a k) w) := by
  obtain ⟨i0, hi, hz0, hz1, hz2⟩ := info_parts Try.infoC
  by_cases hb : a < 1 ∨ 1000000 < a ∨ k < 0 ∨ 1048576 < k
  · have HP : Hid (s.arm a k = (s, 2)) := hide (by unfold FlS.arm; rw [if_pos hb])
    rw [unhide HP]
    have HF := hide h
    clear h HP
    go_enter Try.func18, Try.ntmps18
    go_wp2
    all_goals (go_ret; exact ⟨rfl, S, FSt.refl (unhide HF)⟩)
  · obtain ⟨v0, v1, qv, hf, rfl⟩ := h
    obtain ⟨aq, cq, rfl⟩ := own_parts hf.oq
    obtain ⟨n, hn⟩ : ∃ n, n = s.q.length := ⟨_, rfl⟩
    rw [← hn] at hf ⊢
    have c3 : w.cell? ⟨p, 3, none⟩ = some (.slice aq n cq) := by simpa using hf.arr.cell 3
    have g1 : ¬ a < 1 := by omega
    have g2 : ¬ 1000000 < a := by omega
    have g3 : ¬ k < 0 := by omega
    have g4 : ¬ 1048576 < k := by omega
    have g5 : n ≤ 64 := by rw [hn]; exact hf.ok.ql
    have HF := hide hf
    clear hf
    by_cases hl : 64 ≤ n
    · have HP : Hid (s.arm a k = (s, 1)) := hide (by unfold FlS.arm; rw [if_neg hb, ← hn, if_pos hl])
      rw [unhide HP]
      have hlz : (64 : Int) ≤ (n : Int) := by omega
      clear hn HP
      go_enter Try.func18, Try.ntmps18
      go_wp2
      go_ret
      exact ⟨rfl, _, FSt.refl ⟨v0, v1, _, unhide HF, rfl⟩⟩
    · have HP : Hid (s.arm a k = ({ s with q := s.q ++ [(a, k)] }, 0)) := hide (by unfold FlS.arm; rw [if_neg hb, ← hn, if_neg hl])
      rw [unhide HP]
      have hlz : ¬ (64 : Int) ≤ (n : Int) := by omega
      have HN := hide hn
      clear hn HP
      have hbel : Below w.heap.size w (w.alloc (.cells #[.int .i64 a, .int .i64 k] 87)) := below_one w _
      have HOQ : Hid ((w.alloc (.cells #[.int .i64 a, .int .i64 k] 87)).ownsRow 0 87 2 (.slice aq n cq) n (Cr s.q)) := hide (by
        have := own_laterG (unhide HF).oq hbel
        rw [← unhide HN] at this
        exact this)
      have HNW : Hid (∀ j u, [Value.int .i64 a, .int .i64 k][j]? = some u → (w.alloc (.cells #[.int .i64 a, .int .i64 k] 87)).cell? ((⟨w.heap.size, 0, none⟩ : Addr).add j) = some u) := hide (fun j u hu => by
        have A : Arr (w.alloc (.cells #[.int .i64 a, .int .i64 k] 87)) w.heap.size 87 [.int .i64 a, .int .i64 k] := Arr.new w _ _
        rw [addr_add, Nat.zero_add, A.cell j, hu])
      have HFL : Hid (Fls (w.alloc (.cells #[.int .i64 a, .int .i64 k] 87)) p v0 v1 (.slice aq n cq) s) := hide ((unhide HF).keep (Buts.of_below (S := fun _ => False) hbel) (fun _ _ h => h))
      have HBEL := hide hbel
      clear hbel
      go_enter Try.func18, Try.ntmps18
      go_wp2_with (at_builtin; refine wpList_append_own_at rfl _ _ 48 rfl 0 87 i0 (.agg #[.int .i64 0, .int .i64 0]) 2 16 Try.underlying48 hi hz0 hz1 hz2 rfl (by decide) (.slice aq n cq) n (Cr s.q) rfl (unhide HOQ) ⟨w.heap.size, 0, none⟩ 1 1 [.int .i64 a, .int .i64 k] rfl rfl (unhide HNW) (by intro u hu; simp at hu; rcases hu with rfl | rfl <;> rfl) (by unfold maxLen; omega) (by omega) (Nat.zero_le _) ?_; intro v' w1 hown' hgrow hat; obtain ⟨a1, b1, hv'⟩ := own_parts (unhide hown'); subst hv'; have hA1 : Arr w1 p 50 [.int .i64 s.size, v0, v1, .slice aq n cq, .bool s.down, .int .i64 s.wr] := ((unhide hgrow).block p (unhide HFL).arr.lt (fun e => (unhide HFL).nq e.symm)).trans (unhide HFL).arr; have f1 := hA1.frozen 3; have c1' : w1.cell? ⟨p, 3, none⟩ = some (.slice aq n cq) := (by simpa using hA1.cell 3); have HA1 := hide hA1; clear hA1)
      go_ret
      have hf := unhide HFL
      have ho := unhide hown'
      have hg := unhide hgrow
      have ha := unhide hat
      have A2 := (unhide HA1).set 3 (.slice a1 (n + 1) b1)
      have b1' : Buts (fun k => (Value.slice aq n cq).ownBlock = some k) (w.alloc (.cells #[.int .i64 a, .int .i64 k] 87)) w1 := ⟨hg.os, hg.tape, hg.output, hg.size, fun k hk hs => hg.block k hk (fun e => hs e.symm)⟩
      have b2 : Buts (· = p) w1 (w1.setCell ⟨p, 3, none⟩ (.slice a1 (n + 1) b1)) := Buts.of_but ((But.refl p w1).setCell 3 _)
      have hnp : (Value.slice a1 (n + 1) b1).ownBlock ≠ some p := own_arr_ne ho (unhide HA1) (by decide)
      have hsz := (unhide HBEL).size
      have hnew : ∀ k, (Value.slice a1 (n + 1) b1).ownBlock = some k → (Value.slice aq n cq).ownBlock = some k ∨ w.heap.size ≤ k := by
        intro k hk
        rcases ha with ha | ha
        · left; rw [← ha]; exact hk
        · right; rw [ha] at hk; simp at hk; omega
      refine ⟨rfl, FSet p v0 v1 (.slice a1 (n + 1) b1), ⟨_, _, _, ⟨A2, ?_, ?_, ?_, hf.ne, ⟨hf.ok.b0, hf.ok.b1, hf.ok.z0, hf.ok.z1, hf.ok.mx, ?_, ?_⟩⟩, rfl⟩, ?_, ?_⟩
      · exact b2.own (b1'.own hf.o0 (fun g hg e => hf.q0 g e hg)) (fun g hg e => hf.n0 (by rw [hg, e]))
      · exact b2.own (b1'.own hf.o1 (fun g hg e => hf.q1 g e hg)) (fun g hg e => hf.n1 (by rw [hg, e]))
      · have := b2.own ho (fun g hg e => hnp (by rw [hg, e]))
        simp only
        rw [List.length_append, ← unhide HN, Cr_app]
        exact this
      · simp only; rw [List.length_append, ← unhide HN]; simp; omega
      · intro x hx
        simp only [List.mem_append, List.mem_singleton] at hx
        rcases hx with hx | rfl
        · exact hf.ok.qb x hx
        · exact ⟨g1, g2, g3, g4⟩
      · exact (Buts.of_below (unhide HBEL)).trans ((b1'.mono (fun k _ e => .inr (.inr (.inr e)))).trans (b2.mono (fun k _ e => .inl e)))
      · rintro k (hk | hk | hk | hk)
        · exact .inl (.inl hk)
        · exact .inl (.inr (.inl hk))
        · exact .inl (.inr (.inr (.inl hk)))
        · exact (hnew k hk).imp (fun e => .inr (.inr (.inr e))) id
structure Opj where
  kind : Int
  d : Sl
  s : Sl
  x : Int
  y : Int
def Opj.cells (o : Opj) : List Value := [.int .i64 o.kind, o.d.v, o.s.v, .int .i64 o.x, .int .i64 o.y]
def LiesO (w : World) (a : Option Addr) (ss : List Opj) : Prop :=
  0 < ss.length → ∃ b off, a = some ⟨b, off, none⟩ ∧ b < w.heap.size ∧ ∀ i q, ss[i]? = some q → ∀ j v, q.cells[j]? = some v → w.cell? ⟨b, off + i * 5 + j, none⟩ = some v
structure Ops where
  a : Option Addr
  n : Nat
  c : Nat
  ss : List Opj
def Ops.v (s : Ops) : Value := .slice s.a s.n s.c
structure Ops.Ok (w : World) (s : Ops) : Prop where
  len : s.ss.length = s.n
  le : s.n ≤ s.c
  mx : s.c ≤ maxLen
  lies : LiesO w s.a s.ss
  all : ∀ q ∈ s.ss, q.d.Ok w ∧ q.s.Ok w
theorem LiesO.keep {S : Nat → Prop} {w w' : World} {a : Option Addr} {ss : List Opj} (h : LiesO w a ss) (hb : Buts S w w') (hS : 0 < ss.length → ∀ y, a = some y → ¬ S y.block) : LiesO w' a ss := by
  intro hp
  obtain ⟨b, off, rfl, hlt, hc⟩ := h hp
  exact ⟨b, off, rfl, Nat.lt_of_lt_of_le hlt hb.size, fun i q hi j v hv => (World.cell?_of_block (w := w) (w' := w') (a := ⟨b, off + i * 5 + j, none⟩) (hb.block b hlt (hS hp _ rfl))).trans (hc i q hi j v hv)⟩
theorem Ops.Ok.later {w w' : World} {s : Ops} (h : s.Ok w) (hb : Below w.heap.size w w') : s.Ok w' :=
  ⟨h.len, h.le, h.mx, h.lies.keep (Buts.of_below (S := fun _ => False) hb) (fun _ _ _ e => e), fun q hq => ⟨(h.all q hq).1.later hb, (h.all q hq).2.later hb⟩⟩
theorem Ops.Ok.at_ {w : World} {s : Ops} (h : s.Ok w) {i : Nat} {q : Opj} (hi : s.ss[i]? = some q) : ∃ b off, s.a = some ⟨b, off, none⟩ ∧ b < w.heap.size ∧
    w.cell? ⟨b, off + i * 5, none⟩ = some (.int .i64 q.kind) ∧ w.cell? ⟨b, off + i * 5 + 1, none⟩ = some (.slice q.d.a q.d.n q.d.c) ∧ w.cell? ⟨b, off + i * 5 + 2, none⟩ = some (.slice q.s.a q.s.n q.s.c) ∧
    w.cell? ⟨b, off + i * 5 + 3, none⟩ = some (.int .i64 q.x) ∧ w.cell? ⟨b, off + i * 5 + 4, none⟩ = some (.int .i64 q.y) := by
  have hp : 0 < s.ss.length := by
    by_cases hl : i < s.ss.length
    · omega
    · rw [List.getElem?_eq_none (by omega)] at hi; simp at hi
  obtain ⟨b, off, ha, hlt, hc⟩ := h.lies hp
  have hc := hc i q hi
  exact ⟨b, off, ha, hlt, hc 0 _ rfl, hc 1 _ rfl, hc 2 _ rfl, hc 3 _ rfl, hc 4 _ rfl⟩
end Go.Proofs.Ytppmgfkpfamabaa

set_option maxRecDepth 100000
set_option linter.unusedSimpArgs false
set_option linter.unusedVariables false
namespace Go.Proofs.Ytppmgfkpfamabaa
open Go.ChangeShapes Go.WideShapes Go.ChangeAt Go.WideMaps Go.WideElems Go.RowKit Go.Deep
theorem bulkPos14 {H : Type} (d : DataW H) : 0 < Rows.uptoBulk d := by
  rcases d with l | _ | _ | _ | _ | _ | _ | _
  · rcases l with _ | _ | _ | _ | _ <;> simp [Rows.uptoBulk]
  all_goals simp [Rows.uptoBulk]
theorem bulkLen14 {H : Type} : ∀ l : List (DataW H), l.length ≤ Rows.uptoBulkAll l
  | [] => Nat.zero_le _
  | d :: l => by
    have h1 := bulkLen14 l
    have h2 := bulkPos14 d
    simp only [Rows.uptoBulkAll, List.length_cons]
    omega
theorem bulkIn14 {H : Type} {d : DataW H} : ∀ {l : List (DataW H)}, d ∈ l → Rows.uptoBulk d ≤ Rows.uptoBulkAll l
  | x :: l, h => by
    rcases List.mem_cons.1 h with rfl | h
    · simp only [Rows.uptoBulkAll]; omega
    · have := bulkIn14 h; simp only [Rows.uptoBulkAll]; omega
section
variable {H : Type} {enc : TypeId × Value → H} {w : World} {held : Bool} {m : Nat}
theorem open_sl_b14 {v : Value} {y : DataW H × List MemPlace} (h : DataW.trod enc Try.prog w 0 (fun _ => true) held m 22 [v] = some y) :
    ∃ s : Sl, v = s.v ∧ s.Ok w ∧ s.n ≤ Rows.uptoBulk y.1 := by
  obtain ⟨s, hs, hok, -⟩ := open_sl h
  refine ⟨s, hs, hok, ?_⟩
  rcases open_ints Try.underlying22 Try.underlying5 (by kernel_rfl) h with ⟨hcs, _⟩ | ⟨x, l, c, zs, hcs, _, hl, hmx, hz, hy, _, _⟩
  · simp at hcs
    rw [hs] at hcs
    simp only [Sl.v, Value.slice.injEq] at hcs
    rw [hcs.2.1]; exact Nat.zero_le _
  · simp at hcs
    simp only [if_true] at hz
    rw [hs] at hcs
    simp only [Sl.v, Value.slice.injEq] at hcs
    rw [hcs.2.1]
    have hd : y.1 = .slice (lits .u8 (zs.take l)) (lits .u8 (zs.drop l)) := by
      have := congrArg Prod.fst hy; simpa using this
    rw [hd]
    simp only [Rows.uptoBulk]
    have h1 := bulkLen14 (lits .u8 (zs.take l) : List (DataW H))
    have e1 : (lits .u8 (zs.take l) : List (DataW H)).length = min l zs.length := by simp [lits]
    rw [e1] at h1
    omega
theorem open_op14 {cs : List Value} {y : DataW H × List MemPlace} (h : DataW.trod enc Try.prog w 0 (fun _ => true) held m 38 cs = some y) : ∃ o : Opj, cs = o.cells ∧ (o.d.Ok w ∧ o.s.Ok w) ∧ o.d.n ≤ Rows.uptoBulk y.1 ∧ o.s.n ≤ Rows.uptoBulk y.1 := by
  obtain ⟨xs, n, -, hxx, hcl, hl, hx⟩ := DataW.trod_struct Try.underlying38 h
  have hl' : xs.length = 5 := hl
  have hcl' : cs.length = 5 := hcl.trans (by kernel_rfl)
  match cs, hcl' with
  | [c0, c1, c2, c3, c4], _ =>
    have one : ∀ i (hi : i < xs.length), xs[i]? = some xs[i] := fun i hi => by simp
    have ki : Try.prog.cellsOf 3 = 1 := by kernel_rfl
    have ks : Try.prog.cellsOf 22 = 1 := by kernel_rfl
    have f0 : DataW.trod enc Try.prog w 0 (fun _ => true) held n 3 [c0] = some xs[0] := by rw [← one 0 (by omega), ← hx 0 _ rfl]; simp [ki]
    have f1 : DataW.trod enc Try.prog w 0 (fun _ => true) held n 22 [c1] = some xs[1] := by rw [← one 1 (by omega), ← hx 1 _ rfl]; simp [ks]
    have f2 : DataW.trod enc Try.prog w 0 (fun _ => true) held n 22 [c2] = some xs[2] := by rw [← one 2 (by omega), ← hx 2 _ rfl]; simp [ks]
    have f3 : DataW.trod enc Try.prog w 0 (fun _ => true) held n 3 [c3] = some xs[3] := by rw [← one 3 (by omega), ← hx 3 _ rfl]; simp [ki]
    have f4 : DataW.trod enc Try.prog w 0 (fun _ => true) held n 3 [c4] = some xs[4] := by rw [← one 4 (by omega), ← hx 4 _ rfl]; simp [ki]
    obtain ⟨z, e0, -, w0⟩ := DataW.trod_int Try.underlying3 f0
    obtain ⟨sB, e1, okB, nB⟩ := open_sl_b14 f1
    obtain ⟨sP, e2, okP, nP⟩ := open_sl_b14 f2
    obtain ⟨xx, e3, -, w3⟩ := DataW.trod_int Try.underlying3 f3
    obtain ⟨yy, e4, -, w4⟩ := DataW.trod_int Try.underlying3 f4
    simp only [List.cons.injEq, and_true] at e0 e3 e4
    subst e0 e1 e2 e3 e4
    have hin : ∀ i (hi : i < xs.length), Rows.uptoBulk xs[i].1 ≤ Rows.uptoBulk y.1 := fun i hi => by
      have hb := bulkIn14 (List.mem_map.2 ⟨xs[i], List.getElem_mem _, rfl⟩ : xs[i].1 ∈ xs.map (·.1))
      rw [hxx]
      simp only [Rows.uptoBulk]
      omega
    exact ⟨⟨z, sB, sP, xx, yy⟩, rfl, ⟨okB, okP⟩, Nat.le_trans nB (hin 1 (by omega)), Nat.le_trans nP (hin 2 (by omega))⟩
theorem open_ops14 {v : Value} {y : DataW H × List MemPlace} (h : DataW.trod enc Try.prog w 0 (fun _ => true) held m 23 [v] = some y) :
    ∃ (a : Option Addr) (c : Nat) (ss : List Opj), v = .slice a ss.length c ∧ LiesO w a ss ∧ (∀ o ∈ ss, (o.d.Ok w ∧ o.s.Ok w) ∧ o.d.n ≤ Rows.uptoBulk y.1 ∧ o.s.n ≤ Rows.uptoBulk y.1) ∧ ss.length ≤ Rows.uptoBulk y.1 := by
  rcases Deep.open_slice Try.underlying23 h with ⟨hcs, _⟩ | ⟨a, len, cap, q, n, D, Pl, hcs, _, hl, hm, hq, hy, hx⟩
  · simp at hcs
    exact ⟨none, 0, [], hcs, fun h => absurd h (by simp), (fun s hs => by cases hs), Nat.zero_le _⟩
  · simp at hcs
    simp only [if_true] at hq
    subst hq
    have kc : Try.prog.cellsOf 38 = 5 := by kernel_rfl
    rw [kc] at hx
    have hS : ∀ i, i < len → ∃ o : Opj, (∀ j, j < 5 → w.cell? ((a.add (i * 5)).add j) = o.cells[j]?) ∧ (o.d.Ok w ∧ o.s.Ok w) ∧ o.d.n ≤ Rows.uptoBulk (D i) ∧ o.s.n ≤ Rows.uptoBulk (D i) := by
      intro i hi
      obtain ⟨cs', h1, h2⟩ := hx i (by omega)
      obtain ⟨o, rfl, ok, hb⟩ := open_op14 h2
      exact ⟨o, (World.cells?_some h1).2.2, ok, hb⟩
    have : Inhabited Opj := ⟨⟨0, ⟨none, 0, 0, []⟩, ⟨none, 0, 0, []⟩, 0, 0⟩⟩
    obtain ⟨S, hS⟩ := choose_lt hS
    have hmem : ∀ s, s ∈ (List.range len).map S → ∃ i, i < len ∧ s = S i := by
      intro s hs; simp at hs; obtain ⟨i, hi, rfl⟩ := hs; exact ⟨i, hi, rfl⟩
    have hbl : Rows.uptoBulkAll ((List.range len).map D) ≤ Rows.uptoBulk y.1 := by
      rw [hy]; simp only [Rows.uptoBulk]; omega
    refine ⟨some a, q, (List.range len).map S, (by simpa using hcs), fun hpos => ?_, fun o ho => ?_, ?_⟩
    · simp only [List.length_map, List.length_range] at hpos
      have h0 := (hS 0 hpos).1 0 (by omega)
      obtain ⟨b, off, spot⟩ := a
      have hspot : spot = none := by simpa [Addr.add] using World.cell?_spot h0
      subst hspot
      refine ⟨b, off, rfl, cell_lt h0, fun i o hi => ?_⟩
      have hil : i < len := by
        by_cases hil : i < len
        · exact hil
        · rw [List.getElem?_eq_none (by simp; omega)] at hi; simp at hi
      have ho : o = S i := by rw [List.getElem?_map, List.getElem?_range hil] at hi; simpa using hi.symm
      subst ho
      have g := (hS i hil).1
      simp only [addr_add] at g
      intro j v hv
      have hj : j < 5 := by
        have h1 := (List.getElem?_eq_some_iff.1 hv).1
        have h2 : (S i).cells.length = 5 := rfl
        omega
      rw [g j hj]; exact hv
    · obtain ⟨i, hi, rfl⟩ := hmem o ho
      have hD : Rows.uptoBulk (D i) ≤ Rows.uptoBulkAll ((List.range len).map D) := bulkIn14 (List.mem_map.2 ⟨i, List.mem_range.2 hi, rfl⟩)
      obtain ⟨h1, h2, h3⟩ := (hS i hi).2
      exact ⟨h1, by omega, by omega⟩
    · have h1 := bulkLen14 ((List.range len).map D)
      simp only [List.length_map, List.length_range] at h1 ⊢
      omega
end
end Go.Proofs.Ytppmgfkpfamabaa

namespace Go.Proofs.Ytppmgfkpfamabaa
open Go.RowKit
theorem lit_ok (w : World) (l : List Int) (hB : IsB l) (hl : l.length ≤ 1048576) : Sl.Ok (w.alloc (.cells (U8 l).toArray 5)) ⟨some ⟨w.heap.size, 0, none⟩, l.length, l.length, l⟩ := by
  have hA : Arr (w.alloc (.cells (U8 l).toArray 5)) w.heap.size 5 (U8 l) := Arr.new w _ (U8 l)
  exact ⟨rfl, Nat.le_refl _, (by unfold maxLen; omega : l.length ≤ maxLen), (fun h => by cases h), hB, hA.lies⟩
theorem Fl.alloc {w : World} {p : Nat} {S : Nat → Prop} {s : FlS} (h : Fl w p S s) (o : Obj) : Fl (w.alloc o) p S s := h.later (below_one w o)
theorem FSt.bel {B p : Nat} {S S' : Nat → Prop} {s : FlS} {w0 w w' : World} (h : FSt p S s w w' S') (hb : Below B w0 w) (hB : B ≤ w.heap.size) (hS : ∀ k, S k → B ≤ k) : Below B w0 w' := hb.trans (h.but.below hB hS)
theorem bel_then {B : Nat} {w0 w w' : World} (h : Below B w0 w) (hB : B ≤ w.heap.size) (k : Below w.heap.size w w') : Below B w0 w' := h.trans (k.mono hB)
theorem bel_sz {B : Nat} {w0 w : World} (h : Below B w0 w) (hB : B ≤ w0.heap.size) : B ≤ w.heap.size := Nat.le_trans hB h.size
theorem own_pre {w : World} {base g m c n : Nat} {l : List Int} (h : w.ownsRow base 5 1 (.slice (some ⟨g, 0, none⟩) m c) m (U8 l)) (hB : IsB l) (hn : n ≤ m) : Sl.Ok w ⟨some ⟨g, 0, none⟩, n, c, l.take n⟩ := by
  have hk := Sl.Ok.of_own h hB
  have h1 := hk.len
  have h2 := hk.le
  simp only at h1 h2
  exact ⟨by simp only [List.length_take]; omega, by simp only; omega, hk.mx, (fun h => by cases h), hB.take n, lies_take hk.lies n⟩
def marks : List Int := List.replicate 64 201
theorem cell_new (w : World) (v : Value) (ty : TypeId) : ∀ (j : Nat) (u : Value), ([v] : List Value)[j]? = some u → (w.alloc (.cells #[v] ty)).cell? ((⟨w.heap.size, 0, none⟩ : Addr).add j) = some u := by
  intro j u hu
  have hA : Arr (w.alloc (.cells #[v] ty)) w.heap.size ty [v] := Arr.new w _ [v]
  rw [addr_add, Nat.zero_add, hA.cell j]; exact hu
theorem own_new {w w' : World} {v : Value} {l : List Int} {n : Nat} (h : w'.ownsRow w.heap.size 5 1 v n (U8 l)) (hn : n = l.length) (hB : IsB l) : OwB w' v l ∧ ∀ k, v.ownBlock = some k → w.heap.size ≤ k := by
  subst hn
  exact ⟨⟨own_mono h (Nat.zero_le _), hB⟩, fun k hk => (h.lt k hk).1⟩
theorem upTo_any (d : Sl) (n : Nat) (w : World) (hd : d.Ok w) (hn : n ≤ 1048576) : Calls Try.prog 12 #[d.v, .int .i64 n] w (BPost (d.l.take n) w) := by
  obtain ⟨i0, hii, hz0, hz1, hz2⟩ := info_parts Try.infoB
  obtain ⟨da, dn, dc, l⟩ := d
  have hl : l.length = dn := hd.len
  have hdle : dn ≤ dc := hd.le
  have hdmx : dc ≤ 9223372036854775807 := by have := hd.mx; unfold maxLen at this; exact this
  have HD := hide hd
  have HL := hide hl
  clear hd hl
  simp only [Sl.v]
  go_enter Try.func12, Try.ntmps12
  go_wp2_with fail
  go_loopw [5, 6] (fun v i wr => ∃ k : Nat, k ≤ dn ∧ k ≤ n ∧ i = .int .i64 k ∧ wr.ownsRow w.heap.size 5 1 v k (U8 (l.take k)) ∧ Below w.heap.size w wr) (fun _ i _ => dn - (intOf i).toNat)
  case atStart => exact ⟨0, by omega, by omega, rfl, ⟨rfl, .inl ⟨rfl, rfl⟩⟩, Below.refl _ _⟩
  case round =>
    obtain ⟨k, hk, hkn, rfl, hown, hbl⟩ := hrel
    by_cases hlt : k < dn ∧ k < n
    · obtain ⟨hlt1, hlt2⟩ := hlt
      have hz1' : (k : Int) < (dn : Int) := by omega
      have hz2' : (k : Int) < (n : Int) := by omega
      obtain ⟨ab, ao, haa, habl, hac⟩ := (unhide HD).lies (by show 0 < l.length; rw [unhide HL]; omega)
      have haa' : da = some ⟨ab, ao, none⟩ := haa
      subst haa'
      have ca : wr.cell? ⟨ab, ao + k, none⟩ = some (.int .u8 (l.getD k 0)) := (hbl.cell (p := ⟨ab, ao + k, none⟩) habl).trans (hac k (by show k < l.length; rw [unhide HL]; omega))
      have HT : Hid (l.take (k + 1) = l.take k ++ [l.getD k 0]) := hide (take_succ_getD l k (by rw [unhide HL]; omega))
      generalize l.getD k 0 = x at ca HT
      clear haa hac habl
      go_wp2_with (at_builtin; refine wpList_append_own _ rfl _ _ 22 rfl w.heap.size 5 i0 (.int .u8 0) 1 1 Try.underlying22 hii hz0 hz1 hz2 rfl (by decide) _ k (U8 (l.take k)) rfl (hown.alloc _) ⟨wr.heap.size, 0, none⟩ 1 1 [.int .u8 x] rfl rfl (cell_new _ _ _) (one_byte _) (by unfold maxLen; omega) (by omega) (by have := hbl.size; simp; omega) ?_)
      intro v4 w4 hown4 hgrow4 _
      have hb4 := below_app hbl (Nat.le_refl _) hown hgrow4
      rw [U8_snoc2, ← unhide HT] at hown4
      clear hgrow4 hown hbl
      go_wp2
      go_roundw
      case rel => exact ⟨k + 1, by omega, by omega, by go_num, hown4, hb4⟩
      case measure => simp [intOf]; omega
    · have HTK : Hid (l.take k = l.take n ∧ (l.take n).length = k) := hide (by
        have h1 := unhide HL
        by_cases h2 : k < dn
        · have h3 : k = n := by omega
          subst h3
          exact ⟨rfl, by rw [List.length_take]; omega⟩
        · exact ⟨by rw [List.take_of_length_le (by omega), List.take_of_length_le (by omega)], by rw [List.length_take]; omega⟩)
      have fin : ∀ v, wr.ownsRow w.heap.size 5 1 v k (U8 (l.take k)) → BPost (l.take n) w (.returned v) wr := fun v h => by
        rw [(unhide HTK).1] at h
        obtain ⟨h1, h2⟩ := own_new h (unhide HTK).2.symm (fun x hx => (unhide HD).isB x (List.mem_of_mem_take hx))
        exact ⟨v, rfl, h1, h2, hbl⟩
      have HFin := hide fin
      have HO := hide hown
      clear fin hown
      by_cases h2 : k < dn
      · have hz1' : (k : Int) < (dn : Int) := by omega
        have hz2' : ¬ (k : Int) < (n : Int) := by omega
        go_wp2
        go_ret
        exact unhide HFin _ (unhide HO)
      · have hz1' : ¬ (k : Int) < (dn : Int) := by omega
        go_wp2
        go_ret
        exact unhide HFin _ (unhide HO)
end Go.Proofs.Ytppmgfkpfamabaa
