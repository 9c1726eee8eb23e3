import Derived.Test.YtonpikdpclpkiaaQKlM
import Derived.Test.YtonpikdpclpkiaaQRopJ
set_option linter.unusedVariables false
namespace Go.Proofs.Ytonpikdpclpkiaa
open Go.RowKit

/-! JournalKeeps: behind kept, and behind the opening again. -/
theorem is_hd {Z Z1 : Nat → Prop} {B : Nat} {c : Cts} {w : World} {hx : Hd} {sl : Sl} {ra : Option Addr} {n rc : Nat} {xs : List Rx} (ep cut : Int) (ok : hx.Ok w Z) (hl : hx.ps.length ≤ 200001) (r : RecS B Z1 c w sl (.slice ra n rc) xs) (hn : n = c.rs.length) (hs : c.s.length ≤ 262144) (hrl : n ≤ 1048576) :
    Calls Try.prog 11 #[.agg #[hx.sn.v, .slice hx.ra hx.ps.length hx.rc], .agg #[.int .i64 ep, sl.v, .slice ra n rc, .int .i64 cut]] w fun e w' => e = .returned (.bool (decide (hx.sn.l = c.s ∧ hx.recs = c.rs))) ∧ Below w.heap.size w w' := by
  have l1 := rx_len r
  have h := is_any ep cut hx.sn sl hx.ra ra hx.rc rc hx.ps (xs.map Rx.sl) w ok.s r.sok ok.r r.rr.sls (.inr (by rw [← r.sok.len, r.sl]; omega)) (.inr (rx_small r)) (by omega) (by rw [List.length_map]; omega)
  rw [rx_map, r.rl, r.sl, List.length_map, l1, ← hn] at h
  exact h
theorem KT.buts {w : World} {p rb hb : Nat} {Z S T : Nat → Prop} {s : FlS} {hs : List Hd} {B : Nat} {mv : Value} {wr wr' : World} (k : KT w p rb hb Z S s hs B mv wr) (hb' : Buts T wr wr') (hT : ∀ x, T x → x = hb) (hZ : Z hb) : KT w p rb hb Z S s hs B mv wr' :=
  ⟨k.fl.keep hb' (fun x hx ht => k.bx.hS (hT x ht ▸ hx)), k.bx.step hb' (fun x hx => by rw [hT x hx]; exact k.bx.hbA) (fun hx => k.bx.hr (hT _ hx).symm) (fun _ h => .inl h), hb'.own k.row (fun g hg ht => by have h1 := (k.row.lt g hg).1; have h2 := k.hB; have h3 := hT g ht; omega), k.hB, k.rB, k.wB, k.mz, fun h hm => (k.ok h hm).keep (hb'.mono fun x _ hx => by rw [hT x hx]; exact hZ) (fun _ h => .inl h)⟩
theorem KT.later {w : World} {p rb hb : Nat} {Z S : Nat → Prop} {s : FlS} {hs : List Hd} {B : Nat} {mv : Value} {wr wr' : World} (k : KT w p rb hb Z S s hs B mv wr) (hb' : Below wr.heap.size wr wr') (hZ : Z hb) : KT w p rb hb Z S s hs B mv wr' := k.buts (T := fun _ => False) (Buts.of_below hb') (fun _ h => h.elim) hZ
theorem zk_hb (S : Nat → Prop) (jp hb rb : Nat) : Zk S jp hb rb hb := .inr (.inl rfl)
theorem zk_rb (S : Nat → Prop) (jp hb rb : Nat) : Zk S jp hb rb rb := .inr (.inr rfl)
/-- the box of what is held, written over -/
theorem KT.next {w : World} {p jp rb hb : Nat} {S : Nat → Prop} {s : FlS} {j : JS} {hs : List Hd} {B : Nat} {mv : Value} {wr : World} {h x : Hd} (k : KT w p rb hb (Zk S jp hb rb) S s hs B mv wr) (hA : Arr wr hb 39 x.cells) (hm : h ∈ hs) (hj : Jn wr jp p (some j)) (hjS : ¬ S jp) (hjA : w.heap.size ≤ jp) (h1 : hb ≠ jp) (h2 : rb ≠ jp) : KS w p jp rb hb S s j h ((wr.setCell ⟨hb, 0, none⟩ h.sn.v).setCell ⟨hb, 1, none⟩ (.slice h.ra h.ps.length h.rc)) := by
  have hb' := two_buts (W := wr) hb h.sn.v (.slice h.ra h.ps.length h.rc)
  have k' := k.buts hb' (fun _ h => h) (zk_hb _ _ _ _)
  exact ⟨k'.fl, hb'.arr hj (fun e => h1 e.symm), hjS, hjA, h1, h2, k'.ok h hm, arr2J _ _ hA, k'.bx⟩
/-- opened again: what was found beside what may be -/
structure KR (w : World) (p jp rb hb : Nat) (S : Nat → Prop) (s : FlS) (j : JS) (hs : List Hd) (B Bq : Nat) (mv : Value) (sl : Sl) (ra : Option Addr) (rn rc : Nat) (ep cut : Int) (ct : Cts) (xs : List Rx) (wr : World) : Prop where
  t : KT w p rb hb (Zk S jp hb rb) S s hs B mv wr
  jn : Jn wr jp p (some j)
  jS : ¬ S jp
  jA : w.heap.size ≤ jp
  hj : hb ≠ jp
  rj : rb ≠ jp
  rA : Arr wr rb 33 [.int .i64 ep, sl.v, .slice ra rn rc, .int .i64 cut]
  rec_ : RecS Bq (fun k => S k ∨ False ∨ k = jp) ct wr sl (.slice ra rn rc) xs
  hQ : hb < Bq
theorem KR.buts {w : World} {p jp rb hb : Nat} {S T : Nat → Prop} {s : FlS} {j : JS} {hs : List Hd} {B Bq : Nat} {mv : Value} {sl : Sl} {ra : Option Addr} {rn rc : Nat} {ep cut : Int} {ct : Cts} {xs : List Rx} {wr wr' : World} (k : KR w p jp rb hb S s j hs B Bq mv sl ra rn rc ep cut ct xs wr) (hb' : Buts T wr wr') (hT : ∀ x, T x → x = hb) : KR w p jp rb hb S s j hs B Bq mv sl ra rn rc ep cut ct xs wr' :=
  ⟨k.t.buts hb' hT (zk_hb _ _ _ _), hb'.arr k.jn (fun h => k.hj (hT _ h).symm), k.jS, k.jA, k.hj, k.rj, hb'.arr k.rA (fun h => k.t.bx.hr (hT _ h).symm), k.rec_.keep hb' (fun x hx ht => by have h1 := hT x ht; have h2 := k.hQ; omega), k.hQ⟩
theorem KR.later {w : World} {p jp rb hb : Nat} {S : Nat → Prop} {s : FlS} {j : JS} {hs : List Hd} {B Bq : Nat} {mv : Value} {sl : Sl} {ra : Option Addr} {rn rc : Nat} {ep cut : Int} {ct : Cts} {xs : List Rx} {wr wr' : World} (k : KR w p jp rb hb S s j hs B Bq mv sl ra rn rc ep cut ct xs wr) (hb' : Below wr.heap.size wr wr') : KR w p jp rb hb S s j hs B Bq mv sl ra rn rc ep cut ct xs wr' := k.buts (T := fun _ => False) (Buts.of_below hb') (fun _ h => h.elim)
/-- at the end: what is held is one of them -/
theorem KR.done {w : World} {p jp rb hb : Nat} {S : Nat → Prop} {s : FlS} {j : JS} {hs : List Hd} {B Bq : Nat} {mv : Value} {sl : Sl} {ra : Option Addr} {rn rc : Nat} {ep cut : Int} {ct : Cts} {xs : List Rx} {wr : World} {h : Hd} (k : KR w p jp rb hb S s j hs B Bq mv sl ra rn rc ep cut ct xs wr) (hA : Arr wr hb 39 h.cells) (hm : h ∈ hs) : KS w p jp rb hb S s j h wr :=
  ⟨k.t.fl, k.jn, k.jS, k.jA, k.hj, k.rj, k.t.ok h hm, hA, k.t.bx⟩
/-- what reopened leaves -/
theorem KT.opened {w : World} {p jp0 rb hb : Nat} {S : Nat → Prop} {s : FlS} {hs : List Hd} {B : Nat} {mv : Value} {w2 w3 : World} {sn : List Int} {rs : List (List Int)} {s4 : FlS} {S4 : Nat → Prop} {j4 : JS} {jp4 : Nat} {cut : Int} {ct : Cts} {sl : Sl} {ra : Option Addr} {rc : Nat} {xs : List Rx} (k : KT w p rb hb (Zk S jp0 hb rb) S s hs B mv w2) (q : OKQ p S sn rs w2 w3 s4 S4 j4 jp4 cut ct sl ra rc xs) (ep : Int) :
    KR w p jp4 rb hb S4 s4 j4 hs B w2.heap.size mv sl ra rs.length rc ep cut ct xs ((((w3.setCell ⟨rb, 0, none⟩ (.int .i64 ep)).setCell ⟨rb, 1, none⟩ sl.v).setCell ⟨rb, 2, none⟩ (.slice ra rs.length rc)).setCell ⟨rb, 3, none⟩ (.int .i64 cut)) := by
  have hl := k.bx.hL
  have rl := k.bx.rL
  have hb4 := but4 (g := rb) (W := w3) (.int .i64 ep) sl.v (.slice ra rs.length rc) (.int .i64 cut)
  have f := q.fst
  have jge := q.jge
  have bx3 : Box w p rb hb S4 w3 := k.bx.step f.but k.bx.SA k.bx.rS f.at_
  obtain ⟨e0, a0, n0, c0, ra0, rn0, rc0, cut0, hA0⟩ := bx3.rA
  have hA4 := arr4 (.int .i64 ep) sl.v (.slice ra rs.length rc) (.int .i64 cut) hA0
  have hw : w.heap.size ≤ w2.heap.size := k.bx.bel.size
  obtain ⟨sa, sm, sc, sl'⟩ := sl
  have bx4 : Box w p rb hb S4 ((((w3.setCell ⟨rb, 0, none⟩ (.int .i64 ep)).setCell ⟨rb, 1, none⟩ (Sl.mk sa sm sc sl').v).setCell ⟨rb, 2, none⟩ (.slice ra rs.length rc)).setCell ⟨rb, 3, none⟩ (.int .i64 cut)) := by
    refine ⟨⟨ep, sa, sm, sc, ra, rs.length, rc, cut, hA4⟩, bx3.hS, bx3.rS, bx3.hr, bx3.bel.trans (hb4.below bx3.bel.size (fun x hx => by have : x = rb := hx; rw [this]; exact bx3.rbA)), bx3.SA, bx3.hbA, bx3.rbA, Nat.lt_of_lt_of_le bx3.hL hb4.size⟩
  refine ⟨⟨f.fl.keep hb4 (fun x hx e => bx3.rS (by have : x = rb := e; rw [← this]; exact hx)), bx4, hb4.own (f.but.own k.row k.mz) (fun g hg e => ?_), k.hB, k.rB, k.wB, fun x hx hs => ?_, fun h hm => ?_⟩, hb4.arr q.jn (fun e => ?_), q.jns, Nat.le_trans hw jge, fun e => by omega, fun e => by omega, hA4, q.rec_.keep hb4 (fun x hx e => ?_), hl⟩
  · have h1 := (k.row.lt g hg).1
    have h2 := k.rB
    have : g = rb := e
    omega
  · rcases f.at_ x hs with h1 | h1
    · exact k.mz x hx h1
    · have := (k.row.lt x hx).2
      omega
  · refine ((k.ok h hm).keep (Z' := Zk S4 jp4 hb rb) (f.but.mono fun _ _ h => .inl (.inl h)) (fun x hx => ?_)).keep (hb4.mono fun x _ e => ?_) (fun _ h => .inl h)
    · rcases hx with (hx | hx) | hx
      · exact (f.at_ x hx).imp (fun h => .inl (.inl h)) id
      · exact .inr (by omega)
      · exact .inl (.inr hx)
    · have : x = rb := e
      rw [this]; exact zk_rb _ _ _ _
  · have : jp4 = rb := e
    omega
  · have : x = rb := e
    omega
/-- the same where nothing was cut off -/
theorem KS.opened {w : World} {p jp rb hb : Nat} {S : Nat → Prop} {s : FlS} {j : JS} {h : Hd} {w2 w3 : World} {sn : List Int} {rs : List (List Int)} {s4 : FlS} {S4 : Nat → Prop} {j4 : JS} {jp4 : Nat} {cut : Int} {ct : Cts} {sl : Sl} {ra : Option Addr} {rc : Nat} {xs : List Rx} (k : KS w p jp rb hb S s j h w2) (q : OKQ p S sn rs w2 w3 s4 S4 j4 jp4 cut ct sl ra rc xs) (ep : Int) :
    KR w p jp4 rb hb S4 s4 j4 [] w2.heap.size w2.heap.size (.slice none 0 0) sl ra rs.length rc ep cut ct xs ((((w3.setCell ⟨rb, 0, none⟩ (.int .i64 ep)).setCell ⟨rb, 1, none⟩ sl.v).setCell ⟨rb, 2, none⟩ (.slice ra rs.length rc)).setCell ⟨rb, 3, none⟩ (.int .i64 cut)) ∧
    h.Ok ((((w3.setCell ⟨rb, 0, none⟩ (.int .i64 ep)).setCell ⟨rb, 1, none⟩ sl.v).setCell ⟨rb, 2, none⟩ (.slice ra rs.length rc)).setCell ⟨rb, 3, none⟩ (.int .i64 cut)) (Zk S4 jp4 hb rb) ∧
    Arr ((((w3.setCell ⟨rb, 0, none⟩ (.int .i64 ep)).setCell ⟨rb, 1, none⟩ sl.v).setCell ⟨rb, 2, none⟩ (.slice ra rs.length rc)).setCell ⟨rb, 3, none⟩ (.int .i64 cut)) hb 39 h.cells := by
  have t : KT w p rb hb (Zk S jp hb rb) S s [] w2.heap.size (.slice none 0 0) w2 := ⟨k.fl, k.bx, World.ownsRow_nil _ _ _ _, k.bx.hL, k.bx.rL, k.bx.bel.size, fun x hx => by simp [Value.ownBlock] at hx, fun h hm => by simp at hm⟩
  have hb4 := but4 (g := rb) (W := w3) (.int .i64 ep) sl.v (.slice ra rs.length rc) (.int .i64 cut)
  have f := q.fst
  have jge := q.jge
  refine ⟨t.opened q ep, ?_, hb4.arr (f.but.arr k.hA k.bx.hS) (fun e => k.bx.hr e)⟩
  refine (k.ok.keep (Z' := Zk S4 jp4 hb rb) (f.but.mono fun _ _ h => .inl (.inl h)) (fun x hx => ?_)).keep (hb4.mono fun x _ e => ?_) (fun _ h => .inl h)
  · rcases hx with (hx | hx) | hx
    · exact (f.at_ x hx).imp (fun h => .inl (.inl h)) id
    · exact .inr (by omega)
    · exact .inl (.inr hx)
  · have : x = rb := e
    rw [this]; exact zk_rb _ _ _ _
end Go.Proofs.Ytonpikdpclpkiaa
