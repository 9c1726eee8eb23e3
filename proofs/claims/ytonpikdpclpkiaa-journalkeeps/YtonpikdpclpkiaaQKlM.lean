import Derived.Test.YtonpikdpclpkiaaQKkJ
import Derived.Test.YtonpikdpclpkiaaQGaF
set_option linter.unusedVariables false
namespace Go.Proofs.Ytonpikdpclpkiaa
open Go.RowKit

/-! JournalKeeps: the state between two rounds. -/
theorem JI.armJ {s : FlS} {j : JS} {sn : List Int} {rs : List (List Int)} (h : JI s j sn rs) (a k : Int) : JI (s.arm a k).1 j sn rs := by
  unfold FlS.arm
  split
  · exact h
  · split
    · exact h
    · exact ⟨h.up, h.b01, h.by_, h.e1, h.e2, h.ct, h.ok, h.sl, h.sb, h.ot⟩
theorem arm_qJ (s : FlS) (a k : Int) : (s.arm a k).1.q.length ≤ s.q.length + 1 ∧ (s.arm a k).1.wr = s.wr := by
  unfold FlS.arm
  split
  · simp
  · split <;> simp
theorem flat2_at : ∀ (hs : List Hd) (k : Nat) (h : Hd), hs[k]? = some h → (hs.flatMap Hd.cells)[k * 2]? = some h.sn.v ∧ (hs.flatMap Hd.cells)[k * 2 + 1]? = some (.slice h.ra h.ps.length h.rc)
  | [], k, h, e => by simp at e
  | x :: hs, 0, h, e => by
    simp at e; subst e
    simp [Hd.cells]
  | x :: hs, k + 1, h, e => by
    have := flat2_at hs k h (by simpa using e)
    rw [show (k + 1) * 2 = k * 2 + 2 by omega]
    simpa [List.flatMap_cons, Hd.cells] using this
/-- a Held's cells in a row of them -/
theorem row2_at {w : World} {B mb n c : Nat} {hs : List Hd} (h : w.ownsRow B 39 2 (.slice (some ⟨mb, 0, none⟩) n c) hs.length (hs.flatMap Hd.cells)) {k : Nat} {x : Hd} (hk : hs[k]? = some x) : w.cell? ⟨mb, k * 2, none⟩ = some x.sn.v ∧ w.cell? ⟨mb, k * 2 + 1, none⟩ = some (.slice x.ra x.ps.length x.rc) := by
  obtain ⟨h1, h2⟩ := flat2_at hs k x hk
  have c1 := h.cells (g := mb) rfl _ _ h1
  have c2 := h.cells (g := mb) rfl _ _ h2
  rw [addr_add, Nat.zero_add] at c1 c2
  exact ⟨c1, c2⟩
theorem row_addrJ {w : World} {B e sz n : Nat} {mv : Value} {xs : List Value} (h : w.ownsRow B e sz mv n xs) (hn : 0 < n) : ∃ mb mc, mv = .slice (some ⟨mb, 0, none⟩) n mc := by
  rcases h.2 with ⟨-, h2⟩ | ⟨g, cap, cur, h2, -⟩
  · omega
  · exact ⟨g, cap, h2⟩
def Zk (S : Nat → Prop) (jp hb rb : Nat) (k : Nat) : Prop := (S k ∨ k = jp) ∨ (k = hb ∨ k = rb)
/-- where the law's own boxes lie -/
structure Box (w : World) (p rb hb : Nat) (S : Nat → Prop) (wr : World) : Prop where
  rA : ∃ ep a n c ra rn rc cut, Arr wr rb 33 [.int .i64 ep, .slice a n c, .slice ra rn rc, .int .i64 cut]
  hS : ¬ S hb
  rS : ¬ S rb
  hr : hb ≠ rb
  bel : Below w.heap.size w wr
  SA : ∀ k, S k → w.heap.size ≤ k
  hbA : w.heap.size ≤ hb
  rbA : w.heap.size ≤ rb
  hL : hb < wr.heap.size
theorem Box.rL {w : World} {p rb hb : Nat} {S : Nat → Prop} {wr : World} (h : Box w p rb hb S wr) : rb < wr.heap.size := by
  obtain ⟨_, _, _, _, _, _, _, _, hA⟩ := h.rA
  exact hA.lt
theorem Box.step {w : World} {p rb hb : Nat} {S S' T : Nat → Prop} {wr wr' : World} (h : Box w p rb hb S wr) (hb' : Buts T wr wr') (hT : ∀ k, T k → w.heap.size ≤ k) (hr : ¬ T rb) (hS : ∀ k, S' k → S k ∨ wr.heap.size ≤ k) : Box w p rb hb S' wr' := by
  have hl := h.hL
  have rl := h.rL
  have h1 := h.bel.size
  obtain ⟨ep, a, n, c, ra, rn, rc, cut, hA⟩ := h.rA
  refine ⟨⟨ep, a, n, c, ra, rn, rc, cut, hb'.arr hA hr⟩, fun hk => ?_, fun hk => ?_, h.hr, h.bel.trans (hb'.below h1 hT), fun k hk => ?_, h.hbA, h.rbA, Nat.lt_of_lt_of_le hl hb'.size⟩
  · rcases hS _ hk with h2 | h2
    · exact h.hS h2
    · omega
  · rcases hS _ hk with h2 | h2
    · exact h.rS h2
    · omega
  · rcases hS k hk with h2 | h2
    · exact h.SA k h2
    · omega
/-- a running journal, what it holds, and the law's boxes -/
structure KS (w : World) (p jp rb hb : Nat) (S : Nat → Prop) (s : FlS) (j : JS) (h : Hd) (wr : World) : Prop where
  fl : Fl wr p S s
  jn : Jn wr jp p (some j)
  jS : ¬ S jp
  jA : w.heap.size ≤ jp
  hj : hb ≠ jp
  rj : rb ≠ jp
  ok : h.Ok wr (Zk S jp hb rb)
  hA : Arr wr hb 39 h.cells
  bx : Box w p rb hb S wr
theorem Below.butsE {w w' : World} (hb : Below w.heap.size w w') : Buts (fun _ => False) w w' := Buts.of_below hb
theorem KS.later {w : World} {p jp rb hb : Nat} {S : Nat → Prop} {s : FlS} {j : JS} {h : Hd} {wr wr' : World} (k : KS w p jp rb hb S s j h wr) (hb' : Below wr.heap.size wr wr') : KS w p jp rb hb S s j h wr' :=
  ⟨k.fl.later hb', (hb'.block jp k.jn.lt).trans k.jn, k.jS, k.jA, k.hj, k.rj, k.ok.later hb', k.hA.later hb', k.bx.step (T := fun _ => False) (Buts.of_below hb') (fun _ h => h.elim) (fun h => h) (fun _ h => .inl h)⟩
/-- a call on the flash alone -/
theorem KS.flash {w : World} {p jp rb hb : Nat} {S S' : Nat → Prop} {s s' : FlS} {j : JS} {h : Hd} {wr wr' : World} (k : KS w p jp rb hb S s j h wr) (f : FSt p S s' wr wr' S') : KS w p jp rb hb S' s' j h wr' := by
  have hj := k.jn.lt
  refine ⟨f.fl, f.but.arr k.jn k.jS, fun hk => ?_, k.jA, k.hj, k.rj, k.ok.keep (f.but.mono fun _ _ h => .inl (.inl h)) (fun x hx => ?_), f.but.arr k.hA k.bx.hS, k.bx.step f.but k.bx.SA k.bx.rS f.at_⟩
  · rcases f.at_ _ hk with h1 | h1
    · exact k.jS h1
    · omega
  · rcases hx with (hx | hx) | hx
    · exact (f.at_ x hx).imp (fun h => .inl (.inl h)) id
    · exact .inl (.inl (.inr hx))
    · exact .inl (.inr hx)
/-- what the invariant says besides -/
def KI (w : World) (p jp rb hb i ar : Nat) (wr : World) : Prop :=
  ∃ S s j h, KS w p jp rb hb S s j h wr ∧ JI s j h.sn.l h.recs ∧ s.q.length ≤ ar ∧ ar ≤ i ∧ j.ep ≤ 2 * i + 1 ∧ s.wr + 3 * s.q.length ≤ 10 * i + 20
/-- behind a call of kept -/
structure KT (w : World) (p rb hb : Nat) (Z : Nat → Prop) (S : Nat → Prop) (s : FlS) (hs : List Hd) (B : Nat) (mv : Value) (wr : World) : Prop where
  fl : Fl wr p S s
  bx : Box w p rb hb S wr
  row : wr.ownsRow B 39 2 mv hs.length (hs.flatMap Hd.cells)
  hB : hb < B
  rB : rb < B
  wB : w.heap.size ≤ B
  mz : ∀ k, mv.ownBlock = some k → ¬ S k
  ok : ∀ h ∈ hs, h.Ok wr Z
theorem KS.kept {w : World} {p jp rb hb : Nat} {S S' : Nat → Prop} {s s' : FlS} {j : JS} {o' : Option JS} {h : Hd} {hs : List Hd} {mv : Value} {d c : Sl} {wr w2 : World} (k : KS w p jp rb hb S s j h wr) (kp : KpM wr (fun k => S' k ∨ k = jp) mv hs w2) (js : JSt p jp S s' o' wr w2 S') (sp : ∀ X : Nat → Prop, (∀ k, X k → k < wr.heap.size) → h.Sep X → Sepd X d → Sepd X c → ∀ h' ∈ hs, h'.Sep X) (hd : Sepd (fun k => k = hb ∨ k = rb) d) (hc : Sepd (fun k => k = hb ∨ k = rb) c) :
    KT w p rb hb (Zk S' jp hb rb) S' s' hs wr.heap.size mv w2 ∧ Arr w2 hb 39 h.cells ∧ ¬ S' jp := by
  have hl := k.bx.hL
  have rl := k.bx.rL
  refine ⟨⟨js.fl, k.bx.step js.but (fun x hx => hx.elim (k.bx.SA x) (fun e => e ▸ k.jA)) (fun hx => hx.elim k.bx.rS k.rj) js.at_, kp.row, hl, rl, k.bx.bel.size, fun x hx hs => kp.z x hx (.inl hs), fun h' hm => ?_⟩, js.but.arr k.hA (fun hx => hx.elim k.bx.hS k.hj), fun hx => ?_⟩
  · exact (kp.ok h' hm).with (sp _ (fun x hx => by rcases hx with rfl | rfl <;> assumption) (k.ok.sep fun x hx => .inr hx) hd hc h' hm)
  · rcases js.at_ _ hx with h1 | h1
    · exact k.jS h1
    · have := k.jn.lt; omega
theorem two_buts {W : World} (g : Nat) (v0 v1 : Value) : Buts (· = g) W ((W.setCell ⟨g, 0, none⟩ v0).setCell ⟨g, 1, none⟩ v1) :=
  ((Buts.refl (· = g) W).setCell (g := g) rfl 0 v0).setCell (g := g) rfl 1 v1
end Go.Proofs.Ytonpikdpclpkiaa
