import Derived.Test.YtppklfckpmenbaaMdW
import Derived.Test.YtppklfckpmenbaaSaW17
set_option linter.unusedSimpArgs false
set_option linter.unusedVariables false
namespace Go.Proofs.Ytppklfckpmenbaa
open Go.RowKit

/-- a table's value: its rows lie in memory -/
structure Tv where (f : Flr) (a : Int) (s : Sx Ent)
def Tv.t (A : Tv) : Tb := ⟨A.f, A.a, A.s.xs⟩
/-- a table that may be, of at most so many rows -/
structure Tg (A : Tv) (n : Nat) : Prop where
  g : GT cf A.t
  n : A.s.n ≤ n
def cvT (a b : Tb) : Bool := covAB a.fl b.fl a.acc b.acc a.l b.l
def smT (a b : Tb) : Bool := smB a.fl b.fl a.acc b.acc a.l b.l
theorem cvT_iff {a b : Tb} (ha : GT cf a) (hb : GT cf b) : cvT a b = true ↔ jt a b = a := cov_iff ha hb
theorem smT_iff {a b : Tb} : smT a b = true ↔ a = b := by unfold smT; rw [smB_iff]
theorem made_t (s : Sx Sml) (w : World) (hs : Ss w s) (hbd : s.n ≤ 100000000) :
    Calls Try.prog 16 #[s.v] w fun r w' => ∃ A : Tv, r = .returned (aV (gC A.f A.a (Sx.v A.s))) ∧ Tg A s.n ∧ MdI s.xs A.f A.s.xs ∧ A.a = 0 ∧ Oe w' w.heap.size A.s.v A.s.xs ∧ Below w.heap.size w w' := by
  refine (made_any s w hs (by omega)).mono ?_
  rintro e w1 ⟨f, s1, rfl, hI, hO, hb⟩
  refine ⟨⟨f, 0, s1⟩, rfl, ⟨hI.gt, ?_⟩, hI, rfl, hO, hb⟩
  have h1 := hI.len
  have h2 := hO.es'.ok.len
  have h3 := hs.ok.len
  simp only
  omega
theorem both_t {n m : Nat} (A B : Tv) (w : World) (hA : Tg A n) (hB : Tg B m) (ha : Es w A.s) (hb : Es w B.s) (hbd : n + m ≤ 400000000) :
    Calls Try.prog 18 #[aV (gC A.f A.a (Sx.v A.s)), aV (gC B.f B.a (Sx.v B.s))] w fun r w' => ∃ J : Tv, r = .returned (.tuple #[aV (gC J.f J.a (Sx.v J.s)), .bool true]) ∧ J.t = jt A.t B.t ∧ Tg J (n + m) ∧ Oe w' w.heap.size J.s.v J.s.xs ∧ Below w.heap.size w w' := by
  refine (both_any A.f A.a A.s B.f B.a B.s w hA.g hB.g ha hb (by have := hA.n; have := hB.n; omega)).mono ?_
  rintro e w1 ⟨s1, rfl, hx, hO, hbl⟩
  have ht : (⟨mxF A.f B.f, mxA A.a B.a, s1.xs⟩ : Tb) = jt A.t B.t := Tb.ext' rfl rfl hx
  refine ⟨⟨mxF A.f B.f, mxA A.a B.a, s1⟩, rfl, ht, ⟨?_, ?_⟩, hO, hbl⟩
  · show GT cf ⟨mxF A.f B.f, mxA A.a B.a, s1.xs⟩
    rw [ht]; exact jt_gt hA.g hB.g
  · have h1 := jaX_len (jt_spec hA.g hB.g).1
    have h2 := hO.es'.ok.len
    have h3 := ha.ok.len
    have h4 := hb.ok.len
    have h5 := hA.n
    have h6 := hB.n
    rw [hx] at h2
    simp only [Tv.t] at h1 h2 ⊢
    omega
theorem same_t {n m : Nat} (A B : Tv) (w : World) (hA : Tg A n) (hB : Tg B m) (ha : Es w A.s) (hb : Es w B.s) (hbd : n ≤ 400000000) (q : Bool) (hq : smT A.t B.t = q) :
    Calls Try.prog 17 #[aV (gC A.f A.a (Sx.v A.s)), aV (gC B.f B.a (Sx.v B.s))] w fun r w' => r = .returned (.bool q) ∧ Below w.heap.size w w' := by
  subst hq
  exact same_any A.f A.a A.s B.f B.a B.s w hA.g.fl hB.g.fl ha hb (by have := hA.n; omega)
theorem covers_t {n m : Nat} (A B : Tv) (w : World) (hA : Tg A n) (hB : Tg B m) (ha : Es w A.s) (hb : Es w B.s) (hbd : n + m ≤ 400000000) (q : Bool) (hq : cvT A.t B.t = q) :
    Calls Try.prog 22 #[aV (gC A.f A.a (Sx.v A.s)), aV (gC B.f B.a (Sx.v B.s))] w fun r w' => r = .returned (.bool q) ∧ Below w.heap.size w w' := by
  subst hq
  exact coversAll_any A.f A.a A.s B.f B.a B.s w hA.g.fl hB.g.fl ha hb (by have := hA.n; have := hB.n; omega)
/-- what is known of the tables of the law -/
structure Lt17 (A B C AB BA BC LL RR AA : Tv) (n : Nat) : Prop where
  a : Tg A n
  b : Tg B n
  c : Tg C n
  ab : Tg AB n
  ba : Tg BA n
  ll : Tg LL n
  rr : Tg RR n
  aa : Tg AA n
  s1 : smT AB.t BA.t = true
  s2 : smT LL.t RR.t = true
  s3 : smT AA.t A.t = true
  c1 : cvT AB.t A.t = true
  c2 : cvT AB.t B.t = true
  c3 : cvT LL.t C.t = true
  c4 : cvT A.t A.t = true
  f1 : cvT C.t A.t = true → cvT C.t B.t = true → cvT C.t AB.t = true
  f2 : cvT A.t B.t = true → cvT B.t A.t = true → smT A.t B.t = true
  f3 : cvT A.t B.t = true → cvT B.t C.t = true → cvT A.t C.t = true
theorem Tg.le {A : Tv} {n m : Nat} (h : Tg A n) (hn : n ≤ m) : Tg A m := ⟨h.g, Nat.le_trans h.n hn⟩
theorem lt17_of {A B C AB BA BC LL RR AA : Tv} {na nb nc n : Nat} (a : Tg A na) (b : Tg B nb) (c : Tg C nc) (ab : Tg AB (na + nb)) (ba : Tg BA (nb + na)) (bc : Tg BC (nb + nc)) (ll : Tg LL (na + nb + nc)) (rr : Tg RR (na + (nb + nc))) (aa : Tg AA (na + na))
    (eab : AB.t = jt A.t B.t) (eba : BA.t = jt B.t A.t) (ebc : BC.t = jt B.t C.t) (ell : LL.t = jt AB.t C.t) (err : RR.t = jt A.t BC.t) (eaa : AA.t = jt A.t A.t) (hn : na + na + nb + nc ≤ n) : Lt17 A B C AB BA BC LL RR AA n := by
  have L := latT cf
  have gA := a.g
  have gB := b.g
  have gC := c.g
  have gAB := ab.g
  refine ⟨a.le (by omega), b.le (by omega), c.le (by omega), ab.le (by omega), ba.le (by omega), ll.le (by omega), rr.le (by omega), aa.le (by omega), ?_, ?_, ?_, ?_, ?_, ?_, ?_, ?_, ?_, ?_⟩
  · rw [smT_iff, eab, eba, L.comm _ _ gA gB]
  · rw [smT_iff, ell, err, eab, ebc, L.assoc _ _ _ gA gB gC]
  · rw [smT_iff, eaa, L.idem _ gA]
  · rw [cvT_iff gAB gA, eab]; exact L.up1 gA gB
  · rw [cvT_iff gAB gB, eab]; exact L.up2 gA gB
  · rw [cvT_iff ll.g gC, ell]; exact L.up2 gAB gC
  · rw [cvT_iff gA gA]; exact L.idem _ gA
  · rw [cvT_iff gC gA, cvT_iff gC gB, cvT_iff gC gAB, eab]; exact fun h1 h2 => L.lub gA gB gC h1 h2
  · rw [cvT_iff gA gB, cvT_iff gB gA, smT_iff]; exact fun h1 h2 => L.anti gA gB h1 h2
  · rw [cvT_iff gA gB, cvT_iff gB gC, cvT_iff gA gC]; exact fun h1 h2 => L.tr gA gB gC h1 h2
/-- the tables of the law in memory -/
structure Kt17 (A B C AB BA LL RR AA : Tv) (w : World) : Prop where
  a : Es w A.s
  b : Es w B.s
  c : Es w C.s
  ab : Es w AB.s
  ba : Es w BA.s
  ll : Es w LL.s
  rr : Es w RR.s
  aa : Es w AA.s
end Go.Proofs.Ytppklfckpmenbaa
