import Derived.Test.YtonpikdpclpkiaaPwJ
set_option linter.unusedVariables false
namespace Go.Proofs.Ytonpikdpclpkiaa
open Go.RowKit

/-- what an Open that is OK has answered and left -/
structure OKQ (p : Nat) (S : Nat → Prop) (sn : List Int) (rs : List (List Int)) (w w' : World) (s' : FlS) (S' : Nat → Prop) (j : JS) (jp : Nat) (cut : Int) (c : Cts) (sl : Sl) (ra : Option Addr) (rc : Nat) (xs : List Rx) : Prop where
  fst : FSt p S s' w w' S'
  ji : JI s' j sn rs
  jn : Jn w' jp p (some j)
  jge : w.heap.size ≤ jp
  jns : ¬ S' jp
  rec_ : RecS w.heap.size (fun k => S' k ∨ False ∨ k = jp) c w' sl (.slice ra rs.length rc) xs
  cs : c.s = sn
  crs : c.rs = rs
  oth : s'.bk (1 - j.bank) = []
  cut_ : cut = (c.t.length : Int)
theorem oq_ok {p : Nat} {S : Nat → Prop} {t : FlS} {w : World} {jo : Option Addr} {ep : Int} {a : Option Addr} {n c : Nat} {ra : Option Addr} {rn rc : Nat} {cut r : Int} {w' : World} {sn : List Int} {rs : List (List Int)} {s' : FlS}
    (h : OQ p S (fun _ => False) t w jo ep a n c ra rn rc cut r w') (e : t.jopen = (s', 0)) (hi : JI s' t.openJ sn rs) (hs : t.pickC.s = sn) (hr : t.pickC.rs = rs) (hu : t.down = false) (h0 : t.pickC.e ≠ 0) :
    r = 0 ∧ ep = (t.openJ.ep : Int) ∧ rn = rs.length ∧ ∃ jp S' xs l, jo = some ⟨jp, 0, none⟩ ∧ OKQ p S sn rs w w' s' S' t.openJ jp cut t.pickC ⟨a, n, c, l⟩ ra rc xs := by
  obtain ⟨S', hF, -, hr1, h4⟩ := h
  rw [e] at hF hr1
  simp only at hF hr1
  subst hr1
  obtain ⟨-, jp, xs, l, e1, e2, e3, hJ, h6, h7, -, hR, h9⟩ := h4.resolve_left (fun h => h.1 rfl)
  rw [hr] at h9
  subst h9
  exact ⟨rfl, e2, rfl, jp, S', xs, l, e1, ⟨hF, hi, hJ, h6, h7, hR, hs, hr, open_other hu h0 e, e3⟩⟩
theorem oq_no {p : Nat} {S : Nat → Prop} {t : FlS} {w : World} {jo : Option Addr} {ep : Int} {a : Option Addr} {n c : Nat} {ra : Option Addr} {rn rc : Nat} {cut r : Int} {w' : World} {s' : FlS} {er : Int}
    (h : OQ p S (fun _ => False) t w jo ep a n c ra rn rc cut r w') (e : t.jopen = (s', er)) (he : er ≠ 0) :
    r = er ∧ jo = none ∧ ep = 0 ∧ a = none ∧ n = 0 ∧ c = 0 ∧ ra = none ∧ rn = 0 ∧ rc = 0 ∧ cut = 0 ∧ ∃ S', FSt p S s' w w' S' := by
  obtain ⟨S', hF, -, hr1, h4⟩ := h
  rw [e] at hF hr1
  simp only at hF hr1
  subst hr1
  obtain ⟨-, h1, h2, h3, h4, h5, h6, h7, h8, h9⟩ := h4.resolve_right (fun h => he h.1)
  exact ⟨rfl, h1, h2, h3, h4, h5, h6, h7, h8, h9, S', hF⟩
/-- opened again and again: refused -/
theorem reop_no (p : Nat) (S : Nat → Prop) (s s' : FlS) (er : Int) (tries : Nat) (w : World) (hf : Fl w p S s) (htr : tries ≤ 1000000000000000) (hw : s.wr + 3 * tries + 12 < 4000000000000000000) (e : s.jopen = (s', er)) (he : er ≠ 0) (he2 : er ≠ 121) :
    Calls Try.prog 9 #[.pointer (some ⟨p, 0, none⟩), .int .i64 tries] w fun r w' => r = .returned (.tuple #[.pointer none, .agg #[.int .i64 0, .slice none 0 0, .slice none 0 0, .int .i64 0], .int .i64 er]) ∧ ∃ S', FSt p S s' w w' S' := by
  refine (reopened_any p S s tries w hf htr hw).mono ?_
  rintro r w' ⟨jo, ep, a, n, c, ra, rn, rc, cut, r', rfl, hQ⟩
  rw [reoS_stop _ s (by rw [e]; exact he2)] at hQ
  obtain ⟨rfl, rfl, rfl, rfl, rfl, rfl, rfl, rfl, rfl, rfl, h⟩ := oq_no hQ e he
  exact ⟨rfl, h⟩
/-- opened again and again: found -/
theorem reop_ok (p : Nat) (S : Nat → Prop) (s : FlS) (tries : Nat) (sn : List Int) (rs : List (List Int)) (E : Nat) (w : World) (hf : Fl w p S s) (htr : tries ≤ 1000000000000000) (hw : s.wr + 3 * tries + 12 < 4000000000000000000)
    (hF : Fnd s sn rs E) (hE : E ≤ 9223372036854775807) (hq : (s.down = false ∧ s.q.length ≤ tries) ∨ (s.down = true ∧ s.q.length + 1 ≤ tries)) :
    Calls Try.prog 9 #[.pointer (some ⟨p, 0, none⟩), .int .i64 tries] w fun r w' => ∃ s' S' j jp a n c ra rc cut ct xs l, r = .returned (.tuple #[.pointer (some ⟨jp, 0, none⟩), .agg #[.int .i64 (JS.ep j : Nat), .slice a n c, .slice ra rs.length rc, .int .i64 cut], .int .i64 0]) ∧
      OKQ p S sn rs w w' s' S' j jp cut ct ⟨a, n, c, l⟩ ra rc xs ∧ j.ep ≤ E ∧ s'.q.length ≤ s.q.length ∧ s'.wr + 3 * s'.q.length ≤ s.wr + 3 * s.q.length + 3 := by
  have hfo : ∃ s', (reoS (tries + 1) s).jopen = (s', 0) ∧ JI s' (reoS (tries + 1) s).openJ sn rs ∧ (reoS (tries + 1) s).openJ.ep ≤ E ∧ Fnd (reoS (tries + 1) s) sn rs E ∧ (reoS (tries + 1) s).down = false ∧ s'.q.length ≤ s.q.length ∧ s'.wr + 3 * s'.q.length ≤ s.wr + 3 * s.q.length + 3 ∧ s'.Ok := by
    rcases hq with ⟨h1, h2⟩ | ⟨h1, h2⟩
    · exact reo_found tries s sn rs E hF hE hf.ok h1 h2
    · exact reo_down hF hE hf.ok h1 h2
  obtain ⟨s', e, hi, hep, hfn, hu, hql, hwr, -⟩ := hfo
  refine (reopened_any p S s tries w hf htr hw).mono ?_
  rintro r w' ⟨jo, ep, a, n, c, ra, rn, rc, cut, r', rfl, hQ⟩
  obtain ⟨rfl, rfl, rfl, jp, S', xs, l, rfl, hK⟩ := oq_ok hQ e hi hfn.sn hfn.rs hu hfn.e0
  exact ⟨s', S', _, jp, a, n, c, ra, rc, cut, _, xs, l, rfl, hK, hep, hql, hwr⟩
/-- Open: refused -/
theorem op_no (p : Nat) (S : Nat → Prop) (s s' : FlS) (er : Int) (w : World) (hf : Fl w p S s) (hw : s.wr + 3 < 4000000000000000000) (e : s.jopen = (s', er)) (he : er ≠ 0) :
    Calls Try.prog 10 #[.pointer (some ⟨p, 0, none⟩)] w fun r w' => r = .returned (.tuple #[.pointer none, .agg #[.int .i64 0, .slice none 0 0, .slice none 0 0, .int .i64 0], .int .i64 er]) ∧ ∃ S', FSt p S s' w w' S' := by
  refine (jopen_q p S s w hf hw).mono ?_
  rintro r w' ⟨jo, ep, a, n, c, ra, rn, rc, cut, r', rfl, hQ, -⟩
  obtain ⟨rfl, rfl, rfl, rfl, rfl, rfl, rfl, rfl, rfl, rfl, h⟩ := oq_no (hQ (fun _ => False) (fun _ h => absurd h (fun h => h)) (fun _ h => absurd h (fun h => h))) e he
  exact ⟨rfl, h⟩
/-- Open: found, no crash on the way -/
theorem op_ok (p : Nat) (S : Nat → Prop) (s s' : FlS) (sn : List Int) (rs : List (List Int)) (w : World) (hf : Fl w p S s) (hw : s.wr + 3 < 4000000000000000000) (e : s.jopen = (s', 0)) (hi : JI s' s.openJ sn rs) (hs : s.pickC.s = sn) (hr : s.pickC.rs = rs) (hu : s.down = false) (h0 : s.pickC.e ≠ 0) :
    Calls Try.prog 10 #[.pointer (some ⟨p, 0, none⟩)] w fun r w' => ∃ S' jp a n c ra rc cut xs l, r = .returned (.tuple #[.pointer (some ⟨jp, 0, none⟩), .agg #[.int .i64 (s.openJ.ep : Nat), .slice a n c, .slice ra rs.length rc, .int .i64 cut], .int .i64 0]) ∧
      OKQ p S sn rs w w' s' S' s.openJ jp cut s.pickC ⟨a, n, c, l⟩ ra rc xs := by
  refine (jopen_q p S s w hf hw).mono ?_
  rintro r w' ⟨jo, ep, a, n, c, ra, rn, rc, cut, r', rfl, hQ, -⟩
  obtain ⟨rfl, rfl, rfl, jp, S', xs, l, rfl, hK⟩ := oq_ok (hQ (fun _ => False) (fun _ h => absurd h (fun h => h)) (fun _ h => absurd h (fun h => h))) e hi hs hr hu h0
  exact ⟨S', jp, a, n, c, ra, rc, cut, xs, l, rfl, hK⟩
end Go.Proofs.Ytonpikdpclpkiaa
