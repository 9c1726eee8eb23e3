import Derived.Test.YtonpikdpclpkiaaWkJ
set_option linter.unusedVariables false
namespace Go.Proofs.Ytonpikdpclpkiaa
open Go.RowKit

theorem RecS.to {B B' : Nat} {Z Z' : Nat → Prop} {c : Cts} {W : World} {sn : Sl} {rv : Value} {xs : List Rx} (h : RecS B Z c W sn rv xs) (hB : B' ≤ B) (hZ : ∀ k, B ≤ k → k < W.heap.size → Z' k → Z k) : RecS B' Z' c W sn rv xs := by
  refine ⟨h.sok, h.sl, h.rr.to hB, h.rl, fun x hx => Nat.le_trans hB (h.snew x hx), fun h0 => ?_, fun h0 x hx hz => ?_, fun k hk hz => ?_, fun x hx k hk hz => ?_⟩
  · obtain ⟨a, cc, pl, o, e⟩ := h.own h0
    exact ⟨a, cc, pl, own_to' o (Nat.le_refl _) hB, e⟩
  · have hn : 0 < sn.l.length := by rw [h.sok.len]; exact h0
    exact h.sz h0 x hx (hZ _ (h.snew x hx) (h.sok.blk hn x hx) hz)
  · have := h.rr.row.lt k hk
    exact h.rz k hk (hZ k this.1 this.2 hz)
  · have := (h.rr.own x hx).1.lt k hk
    exact h.xz x hx k hk (hZ k this.1 this.2 hz)
/-- behind writes to blocks apart -/
theorem RecS.keep {B : Nat} {Z T : Nat → Prop} {c : Cts} {W W' : World} {sn : Sl} {rv : Value} {xs : List Rx} (h : RecS B Z c W sn rv xs) (hb : Buts T W W') (hT : ∀ k, B ≤ k → T k → Z k) : RecS B Z c W' sn rv xs := by
  refine ⟨hb.ok h.sok (fun h0 y hy ht => h.sz (by rw [← h.sok.len]; exact h0) y hy (hT _ (h.snew y hy) ht)), h.sl, ⟨hb.own h.rr.row (fun g hg ht => h.rz g hg (hT g (h.rr.row.lt g hg).1 ht)), fun x hx => ⟨hb.own (h.rr.own x hx).1 (fun g hg ht => h.xz x hx g hg (hT g ((h.rr.own x hx).1.lt g hg).1 ht)), (h.rr.own x hx).2⟩, h.rr.pw⟩, h.rl, h.snew, fun h0 => ?_, h.sz, h.rz, h.xz⟩
  obtain ⟨a, cc, pl, o, e, k⟩ := h.own h0
  refine ⟨a, cc, pl, hb.own o (fun g hg ht => ?_), e, k⟩
  have e1 : a = g := by simpa [Value.ownBlock] using hg
  subst e1
  exact h.sz h0 _ e (hT a (o.lt a hg).1 ht)
theorem RecS.later {B : Nat} {Z : Nat → Prop} {c : Cts} {W W' : World} {sn : Sl} {rv : Value} {xs : List Rx} (h : RecS B Z c W sn rv xs) (hb : Below W.heap.size W W') : RecS B Z c W' sn rv xs :=
  h.keep (T := fun _ => False) (Buts.of_below hb) (fun _ _ h => absurd h (by simp))
/-- what Open has answered, and left; nothing of it lies in G -/
def OQ (p : Nat) (S G : Nat → Prop) (t : FlS) (w : World) (jo : Option Addr) (ep : Int) (a : Option Addr) (n c : Nat) (ra : Option Addr) (rn rc : Nat) (cut r : Int) (w' : World) : Prop :=
  ∃ S', FSt p S t.jopen.1 w w' S' ∧ (∀ k, S' k → ¬ G k) ∧ r = t.jopen.2 ∧
    ((r ≠ 0 ∧ jo = none ∧ ep = 0 ∧ a = none ∧ n = 0 ∧ c = 0 ∧ ra = none ∧ rn = 0 ∧ rc = 0 ∧ cut = 0) ∨
     (r = 0 ∧ ∃ jp xs l, jo = some ⟨jp, 0, none⟩ ∧ ep = (t.openJ.ep : Int) ∧ cut = (t.pickC.t.length : Int) ∧ Jn w' jp p (some t.openJ) ∧ w.heap.size ≤ jp ∧ ¬ S' jp ∧ ¬ G jp ∧ RecS w.heap.size (fun k => S' k ∨ G k ∨ k = jp) t.pickC w' ⟨a, n, c, l⟩ (.slice ra rn rc) xs ∧ rn = t.pickC.rs.length))
theorem OQ.later {p : Nat} {S G : Nat → Prop} {t : FlS} {w : World} {jo : Option Addr} {ep : Int} {a : Option Addr} {n c : Nat} {ra : Option Addr} {rn rc : Nat} {cut r : Int} {w' w2 : World} (h : OQ p S G t w jo ep a n c ra rn rc cut r w') (hb : Below w'.heap.size w' w2) : OQ p S G t w jo ep a n c ra rn rc cut r w2 := by
  obtain ⟨S', h1, h2, h3, h4⟩ := h
  refine ⟨S', h1.then hb, h2, h3, h4.imp id ?_⟩
  rintro ⟨h5, jp, xs, l, e1, e2, e3, hJ, h6, h7, h8, hR, h9⟩
  exact ⟨h5, jp, xs, l, e1, e2, e3, (hb.block jp hJ.lt).trans hJ, h6, h7, h8, hR.later hb, h9⟩
theorem OQ.cell {p g : Nat} {S G : Nat → Prop} {t : FlS} {w : World} {jo : Option Addr} {ep : Int} {a : Option Addr} {n c : Nat} {ra : Option Addr} {rn rc : Nat} {cut r : Int} {w' w2 : World} (h : OQ p S G t w jo ep a n c ra rn rc cut r w') (hb : Buts (· = g) w' w2) (hg : G g) (hw : w.heap.size ≤ g) : OQ p S G t w jo ep a n c ra rn rc cut r w2 := by
  obtain ⟨S', h1, h2, h3, h4⟩ := h
  refine ⟨S', h1.cell hb hw (fun hs => h2 g hs hg), h2, h3, h4.imp id ?_⟩
  rintro ⟨h5, jp, xs, l, e1, e2, e3, hJ, h6, h7, h8, hR, h9⟩
  exact ⟨h5, jp, xs, l, e1, e2, e3, hb.arr hJ (fun e => h8 (by have : jp = g := e; rw [this]; exact hg)), h6, h7, h8, hR.keep hb (fun k _ e => .inr (.inl (by have : k = g := e; rw [this]; exact hg))), h9⟩
/-- Open's answer in one form -/
theorem jopen_q (p : Nat) (S : Nat → Prop) (s : FlS) (w : World) (hf : Fl w p S s) (hw : s.wr + 3 < 4000000000000000000) :
    Calls Try.prog 10 #[.pointer (some ⟨p, 0, none⟩)] w fun e w' => ∃ jo ep a n c ra rn rc cut r, e = .returned (.tuple #[.pointer jo, .agg #[.int .i64 ep, .slice a n c, .slice ra rn rc, .int .i64 cut], .int .i64 r]) ∧
      (∀ G : Nat → Prop, (∀ k, G k → ¬ S k) → (∀ k, G k → k < w.heap.size ∨ w'.heap.size ≤ k) → OQ p S G s w jo ep a n c ra rn rc cut r w') ∧ w.heap.size ≤ w'.heap.size := by
  refine (jopen_any p S s w hf hw).mono ?_
  rintro e w' ⟨S', hF, h⟩
  have hS' : ∀ G : Nat → Prop, (∀ k, G k → ¬ S k) → (∀ k, G k → k < w.heap.size ∨ w'.heap.size ≤ k) → ∀ k, S' k → ¬ G k := fun G hG hg k hk hgk => by
    have h1 := hF.fl.lt k hk
    rcases hF.at_ k hk with h2 | h2
    · exact hG k hgk h2
    · rcases hg k hgk with h3 | h3 <;> omega
  rcases h with ⟨h0, rfl⟩ | ⟨h0, jp, sn, rv, xs, rfl, hJ, hjp, hjs, hR⟩
  · exact ⟨none, 0, none, 0, 0, none, 0, 0, 0, s.jopen.2, rfl, fun G hG hg => ⟨S', hF, hS' G hG hg, rfl, .inl ⟨h0, rfl, rfl, rfl, rfl, rfl, rfl, rfl, rfl, rfl⟩⟩, hF.but.size⟩
  · obtain ⟨ra, rc, hrv⟩ := own_parts hR.rr.row
    have hxl := congrArg List.length hR.rl
    rw [List.length_map] at hxl
    rw [hxl] at hrv
    subst hrv
    obtain ⟨a, n, c, l⟩ := sn
    refine ⟨some ⟨jp, 0, none⟩, (s.openJ.ep : Int), a, n, c, ra, s.pickC.rs.length, rc, (s.pickC.t.length : Int), 0, rfl, fun G hG hg => ⟨S', hF, hS' G hG hg, h0.symm, .inr ⟨rfl, jp, xs, l, rfl, rfl, rfl, hJ, hjp, hjs, fun hgj => ?_, ?_, rfl⟩⟩, hF.but.size⟩
    · have := hJ.lt
      rcases hg jp hgj with h3 | h3 <;> omega
    · have key : ∀ {e n : Nat} {v : Value} {ys : List Value}, e ≠ 87 → w'.ownsRow w.heap.size e 1 v n ys → ∀ k, v.ownBlock = some k → ¬ G k ∧ k ≠ jp := by
        intro e n v ys he ho k hk
        have h1 := ho.lt k hk
        refine ⟨fun hgk => ?_, fun ej => ?_⟩
        · rcases hg k hgk with h3 | h3 <;> omega
        · exact own_typ14 ho (show w'.heap[k]? = _ by rw [ej]; exact hJ) (fun e' => he e'.symm) hk
      refine ⟨hR.sok, hR.sl, hR.rr, hR.rl, hR.snew, hR.own, fun h0 x hx hz => ?_, fun k hk hz => ?_, fun x hx k hk hz => ?_⟩
      · obtain ⟨a', cc, pl, o, e, -⟩ := hR.own h0
        have hb : x.block = a' := by rw [e] at hx; simp only [Option.some.injEq] at hx; rw [← hx]
        have hk := key (by decide) o a' rfl
        rcases hz with hz | hz | hz
        · exact hR.sz h0 x hx hz
        · rw [hb] at hz; exact hk.1 hz
        · rw [hb] at hz; exact hk.2 hz
      · have h1 := key (by decide) hR.rr.row k hk
        rcases hz with hz | hz | hz
        · exact hR.rz k hk hz
        · exact h1.1 hz
        · exact h1.2 hz
      · have h1 := key (by decide) (hR.rr.own x hx).1 k hk
        rcases hz with hz | hz | hz
        · exact hR.xz x hx k hk hz
        · exact h1.1 hz
        · exact h1.2 hz
/-- the state ahead of the last Open, of so many that may follow a crash -/
def reoS : Nat → FlS → FlS
  | 0, s => s
  | n + 1, s => if s.jopen.2 = 121 then reoS n s.jopen.1.restart.1 else s
end Go.Proofs.Ytonpikdpclpkiaa
