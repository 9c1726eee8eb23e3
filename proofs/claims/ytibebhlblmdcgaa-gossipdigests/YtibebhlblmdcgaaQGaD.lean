import Derived.Test.YtibebhlblmdcgaaQRjoW
import Derived.Test.YtibebhlblmdcgaaQJaW
set_option linter.unusedSimpArgs false
set_option linter.unusedVariables false
namespace Go.Proofs.Ytibebhlblmdcgaa
open Go.RowKit

end Go.Proofs.Ytibebhlblmdcgaa

set_option linter.unusedSimpArgs false
set_option linter.unusedVariables false
namespace Go.Proofs.Ytibebhlblmdcgaa
open Go.RowKit

/-! A join that turns about, brackets as one likes, and is itself of itself. -/
structure SLat {α : Type} (G : α → Prop) (j : α → α → α) : Prop where
  cl : ∀ a b, G a → G b → G (j a b)
  comm : ∀ a b, G a → G b → j a b = j b a
  assoc : ∀ a b c, G a → G b → G c → j (j a b) c = j a (j b c)
  idem : ∀ a, G a → j a a = a
theorem SLat.up1 {α : Type} {G : α → Prop} {j : α → α → α} (h : SLat G j) {a b : α} (ha : G a) (hb : G b) : j (j a b) a = j a b := by
  rw [h.comm a b ha hb, h.assoc b a a hb ha ha, h.idem a ha]
theorem SLat.up2 {α : Type} {G : α → Prop} {j : α → α → α} (h : SLat G j) {a b : α} (ha : G a) (hb : G b) : j (j a b) b = j a b := by
  rw [h.assoc a b b ha hb hb, h.idem b hb]
theorem SLat.anti {α : Type} {G : α → Prop} {j : α → α → α} (h : SLat G j) {a b : α} (ha : G a) (hb : G b) (h1 : j a b = a) (h2 : j b a = b) : a = b := by rw [← h1, h.comm a b ha hb, h2]
theorem SLat.lub {α : Type} {G : α → Prop} {j : α → α → α} (h : SLat G j) {a b c : α} (ha : G a) (hb : G b) (hc : G c) (h1 : j c a = c) (h2 : j c b = c) : j c (j a b) = c := by rw [← h.assoc c a b hc ha hb, h1, h2]
theorem SLat.tr {α : Type} {G : α → Prop} {j : α → α → α} (h : SLat G j) {a b c : α} (ha : G a) (hb : G b) (hc : G c) (h1 : j a b = a) (h2 : j b c = b) : j a c = a := by
  conv => lhs; rw [← h1]
  rw [h.assoc a b c ha hb hc, h2, h1]
/-- entries that may be, of one certificate -/
structure GE (c : Crt) (e : Ent) : Prop where
  ok : e.Ok
  fit : e.Fit
  cert : e.cert = c
theorem latE (c : Crt) : SLat (GE c) joinE :=
  ⟨fun a b ha hb => ⟨joinE_ok ha.ok hb.ok, joinE_fit a b, ha.cert⟩, fun a b ha hb => joinE_comm ha.ok hb.ok (ha.cert.trans hb.cert.symm), fun a b c ha hb hc => joinE_assoc ha.ok hb.ok hc.ok, fun a ha => joinE_idem ha.fit⟩
theorem GE.cov {c : Crt} {a b : Ent} (ha : GE c a) (hb : GE c b) : covB a b = true ↔ joinE a b = a := by
  rw [covB_iff]
  exact ⟨fun h => h.2, fun h => ⟨ha.cert.trans hb.cert.symm, h⟩⟩
/-- an entry made one that may be -/
def fitE (c : Crt) (e : Ent) : Ent := ⟨c, e.idx, e.val, e.fz, if e.fz then e.fs else z64, e.rv, if e.rv then e.rs else z64⟩
theorem fitE_ge {c : Crt} {e : Ent} (hc : c.Ok) (he : e.Ok) : GE c (fitE c e) := by
  refine ⟨⟨hc, he.val, ?_, ?_⟩, ⟨fun h => ?_, fun h => ?_⟩, rfl⟩
  · show By 64 (if e.fz then e.fs else z64)
    split
    · exact he.fs
    · exact z64_by
  · show By 64 (if e.rv then e.rs else z64)
    split
    · exact he.rs
    · exact z64_by
  · show (if e.fz then e.fs else z64) = z64
    have h' : e.fz = false := h
    rw [if_neg (by rw [h']; simp)]
  · show (if e.rv then e.rs else z64) = z64
    have h' : e.rv = false := h
    rw [if_neg (by rw [h']; simp)]
/-! what is known -/
def kC : Crt := ⟨3, 9, 0, z32, z64⟩
def kA : Ent := ⟨kC, 1, z32, false, z64, false, z64⟩
def kB : Ent := ⟨kC, 2, z32, false, z64, false, z64⟩
theorem kC_ok : kC.Ok := ⟨z32_by, z64_by⟩
theorem kA_ok : kA.Ok := ⟨kC_ok, z32_by, z64_by, z64_by⟩
theorem kB_ok : kB.Ok := ⟨kC_ok, z32_by, z64_by, z64_by⟩
theorem k_join : joinE kA kB = kB := by
  have h : mxM (mrk kA) (mrk kB) = mrk kB := by
    have : gtM (mrk kB) (mrk kA) = true := by unfold gtM mrk kA kB; rw [if_neg (by simp)]; rfl
    unfold mxM mxG; rw [if_pos this]
  unfold joinE; rw [h]; rfl
theorem k_ne : ¬ kA.cert = zEnt.cert := fun h => by
  have : (3 : Int) = 0 := congrArg Crt.serial h
  omega
theorem b_crt2 (s r : Int) : Try.prog.built 43 [(0, .int .i64 s), (1, .int .i64 r)] = some (crtC ⟨s, r, 0, z32, z64⟩).toArray := by
  rw [Try.bC, fill_pt (p' := [.int .i64 s]) (c := crtC zCrt) (c' := crtC ⟨s, 0, 0, z32, z64⟩) rfl rfl ⟨[], [.int .i64 0], _, rfl, rfl, rfl, rfl⟩, fill_pt (p' := [.int .i64 r]) (c := crtC ⟨s, 0, 0, z32, z64⟩) (c' := crtC ⟨s, r, 0, z32, z64⟩) rfl rfl ⟨[.int .i64 s], [.int .i64 0], _, rfl, rfl, rfl, rfl⟩]
  rfl
theorem b_ent2 {c : Crt} (hc : c.Ok) (i : Int) : Try.prog.built 45 [(0, aV (crtC c)), (1, .int .i64 i)] = some (eC ⟨c, i, z32, false, z64, false, z64⟩).toArray := by
  have h1 : Ent.Ok { zEnt with cert := c } := ⟨hc, z32_by, z64_by, z64_by⟩
  rw [Try.bE, fill_pt (p' := crtC c) (pl_len (crtC_len hc)) rfl (pt_cert zEnt_ok hc), fill_pt (p' := [.int .i64 i]) rfl rfl (pt_idx h1 i)]
  rfl
theorem es_nil (w : World) : Es w ⟨none, 0, 0, []⟩ := ⟨.nil w 0, fun x hx => by cases hx⟩
end Go.Proofs.Ytibebhlblmdcgaa

set_option linter.unusedSimpArgs false
set_option linter.unusedVariables false
namespace Go.Proofs.Ytibebhlblmdcgaa
open Go.RowKit

/-! Tables: rows by rising serial, looked up. -/
def lk (l : List Ent) (s : Int) : Option Ent := l.find? fun e => decide (e.cert.serial = s)
theorem lk_cons (x : Ent) (l : List Ent) (s : Int) : lk (x :: l) s = if x.cert.serial = s then some x else lk l s := by
  unfold lk; rw [List.find?_cons]
  by_cases h : x.cert.serial = s <;> simp [h]
theorem lk_some {l : List Ent} {s : Int} {e : Ent} (h : lk l s = some e) : e ∈ l ∧ e.cert.serial = s := by
  have h1 := List.mem_of_find?_eq_some h
  have h2 := List.find?_some h
  exact ⟨h1, by simpa using h2⟩
theorem lk_none {l : List Ent} {s : Int} (h : ∀ e ∈ l, e.cert.serial ≠ s) : lk l s = none := by
  unfold lk; rw [List.find?_eq_none]; intro x hx; simpa using h x hx
theorem lk_mem : ∀ {l : List Ent} {e : Ent}, Sorted l → e ∈ l → lk l e.cert.serial = some e
  | [], e, _, h => by cases h
  | x :: l, e, hs, h => by
    obtain ⟨h1, h2⟩ := List.pairwise_cons.1 hs
    rw [lk_cons]
    rcases List.mem_cons.1 h with rfl | h
    · rw [if_pos rfl]
    · have := h1 e h
      rw [if_neg (by omega)]; exact lk_mem h2 h
theorem lk_ext : ∀ {l l' : List Ent}, Sorted l → Sorted l' → (∀ s, lk l s = lk l' s) → l = l'
  | [], [], _, _, _ => rfl
  | [], y :: l', _, _, h => by have := h y.cert.serial; rw [lk_cons, if_pos rfl] at this; simp [lk] at this
  | x :: l, [], _, _, h => by have := h x.cert.serial; rw [lk_cons, if_pos rfl] at this; simp [lk] at this
  | x :: l, y :: l', hs, hs', h => by
    obtain ⟨h1, h2⟩ := List.pairwise_cons.1 hs
    obtain ⟨h1', h2'⟩ := List.pairwise_cons.1 hs'
    have hxy : x.cert.serial = y.cert.serial := by
      rcases Int.lt_trichotomy x.cert.serial y.cert.serial with q | q | q
      · have := h x.cert.serial
        rw [lk_cons, if_pos rfl, lk_cons, if_neg (by omega), lk_none (fun e he => by have := h1' e he; omega)] at this
        cases this
      · exact q
      · have := h y.cert.serial
        rw [lk_cons, if_neg (by omega), lk_cons, if_pos rfl, lk_none (fun e he => by have := h1 e he; omega)] at this
        cases this
    have hx : x = y := by
      have := h x.cert.serial
      rw [lk_cons, if_pos rfl, lk_cons, if_pos hxy.symm] at this
      cases this; rfl
    subst hx
    rw [lk_ext h2 h2' (fun s => ?_)]
    by_cases hq : x.cert.serial = s
    · subst hq
      rw [lk_none (fun e he => by have := h1 e he; omega), lk_none (fun e he => by have := h1' e he; omega)]
    · have := h s
      rwa [lk_cons, if_neg hq, lk_cons, if_neg hq] at this
theorem lk_nb (l : List Ent) (n s : Int) : lk (nbX l n) s = if n ≤ s then lk l s else none := by
  induction l with
  | nil => simp [nbX, lk]
  | cons x l ih =>
    have e : nbX (x :: l) n = if n ≤ x.cert.serial then x :: nbX l n else nbX l n := by
      unfold nbX; rw [List.filter_cons]; by_cases h : n ≤ x.cert.serial <;> simp [h]
    rw [e]
    by_cases h : n ≤ x.cert.serial
    · rw [if_pos h, lk_cons, lk_cons, ih]
      by_cases q : x.cert.serial = s
      · subst q; rw [if_pos rfl, if_pos rfl, if_pos h]
      · rw [if_neg q, if_neg q]
    · rw [if_neg h, ih, lk_cons]
      by_cases q : x.cert.serial = s
      · subst q; rw [if_neg h, if_neg h]
      · rw [if_neg q]
theorem nb_sorted {l : List Ent} (h : Sorted l) (n : Int) : Sorted (nbX l n) := List.Pairwise.filter _ h
theorem nb_mem {l : List Ent} {n : Int} {e : Ent} (h : e ∈ nbX l n) : e ∈ l ∧ n ≤ e.cert.serial := by
  unfold nbX at h; rw [List.mem_filter] at h; exact ⟨h.1, by simpa using h.2⟩
/-- the join of what two know of a serial -/
def jo : Option Ent → Option Ent → Option Ent
  | none, y => y
  | x, none => x
  | some x, some y => some (joinE x y)
theorem jo_none (x : Option Ent) : jo x none = x := by cases x <;> rfl
theorem mgF_spec : ∀ (n : Nat) (a b : List Ent), a.length + b.length ≤ n → Sorted a → Sorted b → (∀ x ∈ a, ∀ y ∈ b, x.cert.serial = y.cert.serial → x.cert = y.cert) →
    ∃ l, mgF n a b = some l ∧ Sorted l ∧ (∀ s, lk l s = jo (lk a s) (lk b s)) ∧ ∀ e ∈ l, (∃ x ∈ a, x.cert.serial = e.cert.serial) ∨ (∃ y ∈ b, y.cert.serial = e.cert.serial)
  | n, [], b, _, _, hb, _ => ⟨b, mgF_nil _ _, hb, fun s => by simp [lk, jo], fun e he => .inr ⟨e, he, rfl⟩⟩
  | n, x :: a, [], _, ha, _, _ => ⟨x :: a, mgF_nil' _ _, ha, fun s => by rw [show lk [] s = none from rfl, jo_none], fun e he => .inl ⟨e, he, rfl⟩⟩
  | 0, x :: a, y :: b, h, _, _, _ => by simp at h
  | n + 1, x :: a, y :: b, h, ha, hb, hc => by
    simp only [List.length_cons] at h
    obtain ⟨a1, a2⟩ := List.pairwise_cons.1 ha
    obtain ⟨b1, b2⟩ := List.pairwise_cons.1 hb
    simp only [mgF]
    rcases Int.lt_trichotomy x.cert.serial y.cert.serial with q | q | q
    · obtain ⟨l, e1, e2, e3, e4⟩ := mgF_spec n a (y :: b) (by simp; omega) a2 hb (fun u hu v hv => hc u (by simp [hu]) v hv)
      refine ⟨x :: l, by rw [if_pos q, e1]; rfl, ?_, fun s => ?_, fun e he => ?_⟩
      · refine List.pairwise_cons.2 ⟨fun e he => ?_, e2⟩
        rcases e4 e he with ⟨u, hu, hq⟩ | ⟨v, hv, hq⟩
        · have := a1 u hu; omega
        · rcases List.mem_cons.1 hv with rfl | hv
          · omega
          · have := b1 v hv; omega
      · rw [lk_cons, e3, lk_cons x a]
        by_cases hs : x.cert.serial = s
        · subst hs
          rw [if_pos rfl, if_pos rfl, lk_none (l := y :: b) (fun e he => ?_), jo_none]
          rcases List.mem_cons.1 he with rfl | he
          · omega
          · have := b1 e he; omega
        · rw [if_neg hs, if_neg hs]
      · rcases List.mem_cons.1 he with rfl | he
        · exact .inl ⟨e, by simp, rfl⟩
        · rcases e4 e he with ⟨u, hu, hq⟩ | hv
          · exact .inl ⟨u, by simp [hu], hq⟩
          · exact .inr hv
    · have hcc := hc x (by simp) y (by simp) q
      obtain ⟨l, e1, e2, e3, e4⟩ := mgF_spec n a b (by omega) a2 b2 (fun u hu v hv => hc u (by simp [hu]) v (by simp [hv]))
      refine ⟨joinE x y :: l, by rw [if_neg (by omega), if_neg (by omega), if_pos (eqCb_t hcc), e1]; rfl, ?_, fun s => ?_, fun e he => ?_⟩
      · refine List.pairwise_cons.2 ⟨fun e he => ?_, e2⟩
        show x.cert.serial < _
        rcases e4 e he with ⟨u, hu, hq⟩ | ⟨v, hv, hq⟩
        · have := a1 u hu; omega
        · have := b1 v hv; omega
      · rw [lk_cons, e3, lk_cons x a, lk_cons y b]
        show (if x.cert.serial = s then _ else _) = _
        by_cases hs : x.cert.serial = s
        · subst hs
          rw [if_pos rfl, if_pos rfl, if_pos q.symm]; rfl
        · rw [if_neg hs, if_neg hs, if_neg (by omega)]
      · rcases List.mem_cons.1 he with rfl | he
        · exact .inl ⟨x, by simp, rfl⟩
        · rcases e4 e he with ⟨u, hu, hq⟩ | ⟨v, hv, hq⟩
          · exact .inl ⟨u, by simp [hu], hq⟩
          · exact .inr ⟨v, by simp [hv], hq⟩
    · obtain ⟨l, e1, e2, e3, e4⟩ := mgF_spec n (x :: a) b (by simp; omega) ha b2 (fun u hu v hv => hc u hu v (by simp [hv]))
      refine ⟨y :: l, by rw [if_neg (by omega), if_pos q, e1]; rfl, ?_, fun s => ?_, fun e he => ?_⟩
      · refine List.pairwise_cons.2 ⟨fun e he => ?_, e2⟩
        rcases e4 e he with ⟨u, hu, hq⟩ | ⟨v, hv, hq⟩
        · rcases List.mem_cons.1 hu with rfl | hu
          · omega
          · have := a1 u hu; omega
        · have := b1 v hv; omega
      · rw [lk_cons, e3, lk_cons y b]
        by_cases hs : y.cert.serial = s
        · subst hs
          rw [if_pos rfl, if_pos rfl, lk_none (l := x :: a) (fun e he => ?_)]; rfl
          rcases List.mem_cons.1 he with rfl | he
          · omega
          · have := a1 e he; omega
        · rw [if_neg hs, if_neg hs]
      · rcases List.mem_cons.1 he with rfl | he
        · exact .inr ⟨e, by simp, rfl⟩
        · rcases e4 e he with hu | ⟨v, hv, hq⟩
          · exact .inl hu
          · exact .inr ⟨v, by simp [hv], hq⟩
structure Tb where (fl : Flr) (acc : Int) (l : List Ent)
/-- a table that may be: rows by rising serial, above the floor, of one certificate a serial -/
structure GT (cf : Int → Crt) (t : Tb) : Prop where
  fl : t.fl.Ok
  so : Sorted t.l
  e : ∀ x ∈ t.l, GE (cf x.cert.serial) x
  ab : ∀ x ∈ t.l, t.fl.n ≤ x.cert.serial
def jt (a b : Tb) : Tb := ⟨mxF a.fl b.fl, mxA a.acc b.acc, (jaX a.fl b.fl a.l b.l).getD []⟩
theorem mxF_le {f f' : Flr} : f.n ≤ (mxF f f').n ∧ f'.n ≤ (mxF f f').n := by
  unfold mxF mxG
  cases h : gtF f' f
  · unfold gtF at h
    by_cases q : f'.n = f.n
    · simp; omega
    · rw [if_neg q] at h; simp at h ⊢; omega
  · unfold gtF at h
    by_cases q : f'.n = f.n
    · simp; omega
    · rw [if_neg q] at h; simp at h ⊢; omega
section
variable {cf : Int → Crt} {a b c : Tb}
theorem jt_spec (ha : GT cf a) (hb : GT cf b) : jaX a.fl b.fl a.l b.l = some (jt a b).l ∧ Sorted (jt a b).l ∧ ∀ s, lk (jt a b).l s = if (mxF a.fl b.fl).n ≤ s then jo (lk a.l s) (lk b.l s) else none := by
  obtain ⟨l, e1, e2, e3, -⟩ := mgF_spec _ (nbX a.l (mxF a.fl b.fl).n) (nbX b.l (mxF a.fl b.fl).n) (Nat.le_refl _) (nb_sorted ha.so _) (nb_sorted hb.so _) (fun x hx y hy q => by rw [(ha.e x (nb_mem hx).1).cert, (hb.e y (nb_mem hy).1).cert, q])
  have h : jaX a.fl b.fl a.l b.l = some l := e1
  have hl : (jt a b).l = l := by unfold jt; simp only; rw [h]; rfl
  rw [hl]
  refine ⟨h, e2, fun s => ?_⟩
  rw [e3, lk_nb, lk_nb]
  by_cases q : (mxF a.fl b.fl).n ≤ s
  · rw [if_pos q, if_pos q, if_pos q]
  · rw [if_neg q, if_neg q, if_neg q]; rfl
/-- what is looked up is of that serial's certificate -/
theorem GT.lk (ha : GT cf a) {s : Int} {e : Ent} (h : lk a.l s = some e) : GE (cf s) e ∧ a.fl.n ≤ s := by
  obtain ⟨h1, h2⟩ := lk_some h
  have := ha.e e h1
  rw [h2] at this
  exact ⟨this, by have := ha.ab e h1; omega⟩
theorem GT.low (ha : GT cf a) {s : Int} (h : ¬ a.fl.n ≤ s) : Go.Proofs.Ytibebhlblmdcgaa.lk a.l s = none := lk_none (fun e he q => h (by have := ha.ab e he; omega))
def GO (cf : Int → Crt) (s : Int) (o : Option Ent) : Prop := ∀ e, o = some e → GE (cf s) e
theorem jo_go {s : Int} {x y : Option Ent} (hx : GO cf s x) (hy : GO cf s y) : GO cf s (jo x y) := by
  intro e he
  cases x with
  | none => exact hy e he
  | some x =>
    cases y with
    | none => exact hx e he
    | some y => simp only [jo, Option.some.injEq] at he; subst he; exact (latE _).cl x y (hx x rfl) (hy y rfl)
theorem jo_comm {s : Int} {x y : Option Ent} (hx : GO cf s x) (hy : GO cf s y) : jo x y = jo y x := by
  cases x <;> cases y <;> try rfl
  simp only [jo]; rw [(latE _).comm _ _ (hx _ rfl) (hy _ rfl)]
theorem jo_assoc {s : Int} {x y z : Option Ent} (hx : GO cf s x) (hy : GO cf s y) (hz : GO cf s z) : jo (jo x y) z = jo x (jo y z) := by
  cases x <;> cases y <;> cases z <;> try rfl
  simp only [jo]; rw [(latE _).assoc _ _ _ (hx _ rfl) (hy _ rfl) (hz _ rfl)]
theorem jo_idem {s : Int} {x : Option Ent} (hx : GO cf s x) : jo x x = x := by
  cases x
  · rfl
  · simp only [jo]; rw [(latE _).idem _ (hx _ rfl)]
theorem GT.go (ha : GT cf a) (s : Int) : GO cf s (Go.Proofs.Ytibebhlblmdcgaa.lk a.l s) := fun e he => (ha.lk he).1
theorem jt_gt (ha : GT cf a) (hb : GT cf b) : GT cf (jt a b) := by
  obtain ⟨-, h2, h3⟩ := jt_spec ha hb
  refine ⟨mxF_ok ha.fl hb.fl, h2, fun x hx => ?_, fun x hx => ?_⟩
  · have hm := lk_mem h2 hx
    rw [h3] at hm
    split at hm
    · exact jo_go (ha.go _) (hb.go _) x hm
    · cases hm
  · have hm := lk_mem h2 hx
    rw [h3] at hm
    split at hm
    · assumption
    · cases hm
theorem Tb.ext' {a b : Tb} (h1 : a.fl = b.fl) (h2 : a.acc = b.acc) (h3 : a.l = b.l) : a = b := by cases a; cases b; simp_all
theorem mxA_comm (x y : Int) : mxA x y = mxA y x := by unfold mxA; split <;> split <;> omega
theorem mxA_assoc (x y z : Int) : mxA (mxA x y) z = mxA x (mxA y z) := by unfold mxA; repeat' split <;> omega
theorem mxA_idem (x : Int) : mxA x x = x := by unfold mxA; split <;> rfl
theorem latT (cf : Int → Crt) : SLat (GT cf) jt := by
  refine ⟨fun a b ha hb => jt_gt ha hb, fun a b ha hb => ?_, fun a b c ha hb hc => ?_, fun a ha => ?_⟩
  · obtain ⟨-, h2, h3⟩ := jt_spec ha hb
    obtain ⟨-, k2, k3⟩ := jt_spec hb ha
    have hF : mxF a.fl b.fl = mxF b.fl a.fl := ordF.comm _ _ ha.fl.sg.len hb.fl.sg.len
    refine Tb.ext' hF (mxA_comm _ _) (lk_ext h2 k2 (fun s => ?_))
    rw [h3, k3, hF, jo_comm (ha.go s) (hb.go s)]
  · have hab := jt_gt ha hb
    have hbc := jt_gt hb hc
    obtain ⟨-, -, h3⟩ := jt_spec ha hb
    obtain ⟨-, -, k3⟩ := jt_spec hb hc
    obtain ⟨-, l2, l3⟩ := jt_spec hab hc
    obtain ⟨-, r2, r3⟩ := jt_spec ha hbc
    have hF : mxF (mxF a.fl b.fl) c.fl = mxF a.fl (mxF b.fl c.fl) := ordF.assoc _ _ _ ha.fl.sg.len hb.fl.sg.len hc.fl.sg.len
    refine Tb.ext' hF (mxA_assoc _ _ _) (lk_ext l2 r2 (fun s => ?_))
    rw [l3, r3]
    show (if (mxF (mxF a.fl b.fl) c.fl).n ≤ s then _ else _) = if (mxF a.fl (mxF b.fl c.fl)).n ≤ s then _ else _
    rw [← hF]
    by_cases q : (mxF (mxF a.fl b.fl) c.fl).n ≤ s
    · have q1 : (mxF a.fl b.fl).n ≤ s := Int.le_trans (mxF_le (f := mxF a.fl b.fl) (f' := c.fl)).1 q
      have q2 : (mxF b.fl c.fl).n ≤ s := by rw [hF] at q; exact Int.le_trans (mxF_le (f := a.fl) (f' := mxF b.fl c.fl)).2 q
      rw [if_pos q, if_pos q, h3, k3, if_pos q1, if_pos q2, jo_assoc (ha.go s) (hb.go s) (hc.go s)]
    · rw [if_neg q, if_neg q]
  · obtain ⟨-, h2, h3⟩ := jt_spec ha ha
    have hF : mxF a.fl a.fl = a.fl := mxG_idem _
    refine Tb.ext' hF (mxA_idem _) (lk_ext h2 ha.so (fun s => ?_))
    rw [h3, hF, jo_idem (ha.go s)]
    by_cases q : a.fl.n ≤ s
    · rw [if_pos q]
    · rw [if_neg q, ha.low q]
theorem cov_iff (ha : GT cf a) (hb : GT cf b) : covAB a.fl b.fl a.acc b.acc a.l b.l = true ↔ jt a b = a := by
  obtain ⟨h1, -, -⟩ := jt_spec ha hb
  unfold covAB
  rw [h1]
  simp only
  rw [Bool.and_eq_true, Bool.and_eq_true, eqFb_iff, decide_eq_true_iff, eqL_iff]
  exact ⟨fun h => Tb.ext' h.1 h.2.1 h.2.2, fun h => ⟨congrArg Tb.fl h, congrArg Tb.acc h, congrArg Tb.l h⟩⟩
end
end Go.Proofs.Ytibebhlblmdcgaa

set_option linter.unusedSimpArgs false
set_option linter.unusedVariables false
namespace Go.Proofs.Ytibebhlblmdcgaa
open Go.RowKit

/-! Put and Raise of tables that may be. -/
theorem set_spec : ∀ {l : List Ent} {k : Nat} {r J : Ent}, Sorted l → l[k]? = some r → J.cert.serial = r.cert.serial → Sorted (l.set k J) ∧ (∀ s, lk (l.set k J) s = if s = r.cert.serial then some J else lk l s)
  | [], k, r, J, _, h, _ => by simp at h
  | x :: l, 0, r, J, hs, h, hj => by
    simp at h; subst h
    obtain ⟨h1, h2⟩ := List.pairwise_cons.1 hs
    refine ⟨List.pairwise_cons.2 ⟨fun e he => by rw [hj]; exact h1 e he, h2⟩, fun s => ?_⟩
    rw [List.set_cons_zero, lk_cons, lk_cons, hj]
    by_cases q : x.cert.serial = s
    · rw [if_pos q, if_pos q.symm]
    · rw [if_neg q, if_neg (fun e => q e.symm), if_neg q]
  | x :: l, k + 1, r, J, hs, h, hj => by
    obtain ⟨h1, h2⟩ := List.pairwise_cons.1 hs
    have hr : l[k]? = some r := by simpa using h
    obtain ⟨i1, i2⟩ := set_spec h2 hr hj
    have hxr := h1 r (List.mem_of_getElem? hr)
    refine ⟨?_, fun s => ?_⟩
    · rw [List.set_cons_succ]
      refine List.pairwise_cons.2 ⟨fun e he => ?_, i1⟩
      rcases List.mem_or_eq_of_mem_set he with he | rfl
      · exact h1 e he
      · rw [hj]; exact hxr
    · rw [List.set_cons_succ, lk_cons, lk_cons, i2]
      by_cases q : x.cert.serial = s
      · rw [if_pos q, if_pos q, if_neg (by omega)]
      · rw [if_neg q, if_neg q]
theorem ins_spec : ∀ {l : List Ent} {e : Ent}, Sorted l → (∀ x ∈ l, x.cert.serial ≠ e.cert.serial) → Sorted (l.take (lbN l e.cert.serial) ++ e :: l.drop (lbN l e.cert.serial)) ∧ (∀ s, lk (l.take (lbN l e.cert.serial) ++ e :: l.drop (lbN l e.cert.serial)) s = if s = e.cert.serial then some e else lk l s)
  | [], e, _, _ => by
    refine ⟨by simp [lbN, Sorted], fun s => ?_⟩
    simp only [lbN, List.filter_nil, List.length_nil, List.take_nil, List.nil_append, List.drop_nil, lk_cons]
    by_cases q : e.cert.serial = s
    · rw [if_pos q, if_pos q.symm]
    · rw [if_neg q, if_neg (fun h => q h.symm)]
  | x :: l, e, hs, hn => by
    obtain ⟨h1, h2⟩ := List.pairwise_cons.1 hs
    have hx := hn x (by simp)
    by_cases q : x.cert.serial < e.cert.serial
    · have hb : lbN (x :: l) e.cert.serial = lbN l e.cert.serial + 1 := by
        unfold lbN; rw [List.filter_cons, if_pos (by simpa using q), List.length_cons]
      obtain ⟨i1, i2⟩ := ins_spec (l := l) (e := e) h2 (fun y hy => hn y (by simp [hy]))
      rw [hb, List.take_succ_cons, List.drop_succ_cons, List.cons_append]
      refine ⟨List.pairwise_cons.2 ⟨fun y hy => ?_, i1⟩, fun s => ?_⟩
      · rcases List.mem_append.1 hy with hy | hy
        · exact h1 y (List.mem_of_mem_take hy)
        · rcases List.mem_cons.1 hy with rfl | hy
          · exact q
          · exact h1 y (List.mem_of_mem_drop hy)
      · rw [lk_cons, i2, lk_cons]
        by_cases p : x.cert.serial = s
        · rw [if_pos p, if_pos p, if_neg (by omega)]
        · rw [if_neg p, if_neg p]
    · have hb : lbN (x :: l) e.cert.serial = 0 := by
        unfold lbN
        rw [List.length_eq_zero_iff, List.filter_eq_nil_iff]
        intro y hy
        rcases List.mem_cons.1 hy with rfl | hy
        · simp; omega
        · have := h1 y hy; simp; omega
      rw [hb, List.take_zero, List.nil_append, List.drop_zero]
      refine ⟨List.pairwise_cons.2 ⟨fun y hy => ?_, hs⟩, fun s => ?_⟩
      · rcases List.mem_cons.1 hy with rfl | hy
        · omega
        · have := h1 y hy; omega
      · rw [lk_cons]
        by_cases p : e.cert.serial = s
        · rw [if_pos p, if_pos p.symm]
        · rw [if_neg p, if_neg (fun h => p h.symm)]
/-- where it stands, if it is there -/
theorem isAt_t {l : List Ent} {s : Int} (hs : Sorted l) (h : isAt l s = true) : ∃ r, l[lbN l s]? = some r ∧ r.cert.serial = s ∧ lk l s = some r := by
  unfold isAt at h
  cases hq : l[lbN l s]? with
  | none => rw [hq] at h; cases h
  | some r =>
    rw [hq] at h
    have hr : r.cert.serial = s := by simpa using h
    refine ⟨r, rfl, hr, ?_⟩
    have := lk_mem hs (List.mem_of_getElem? hq)
    rwa [hr] at this
theorem isAt_f {l : List Ent} {s : Int} (hs : Sorted l) (h : isAt l s = false) : ∀ x ∈ l, x.cert.serial ≠ s := by
  intro x hx q
  obtain ⟨k, hk⟩ := List.mem_iff_getElem?.1 hx
  have h1 := lbN_above hs hk (t := s) (by omega)
  have h2 : ¬ k > lbN l s := fun hgt => by
    have hlt : lbN l s < l.length := Nat.lt_trans hgt (List.getElem?_eq_some_iff.1 hk).1
    have hg : l[lbN l s]? = some (l[lbN l s]) := List.getElem?_eq_getElem hlt
    have h3 : l[lbN l s].cert.serial < x.cert.serial := by
      have := List.pairwise_iff_getElem.1 hs (lbN l s) k hlt (List.getElem?_eq_some_iff.1 hk).1 hgt
      rwa [(List.getElem?_eq_some_iff.1 hk).2] at this
    have := lbN_below hs hg (t := s) (by omega)
    omega
  have e : lbN l s = k := by omega
  unfold isAt at h
  rw [e, hk] at h
  simp [q] at h
/-- what Put does -/
def PutD (fl : Flr) (l : List Ent) (m : Int) (e : Ent) (l' : List Ent) (b : Bool) (c : Int) : Prop :=
  (e.cert.serial < fl.n ∧ l' = l ∧ b = false ∧ c = 172) ∨
  (¬ e.cert.serial < fl.n ∧ lk l e.cert.serial = none ∧ m ≤ l.length ∧ l' = l ∧ b = false ∧ c = 170) ∨
  (¬ e.cert.serial < fl.n ∧ Sorted l' ∧ (∀ s, lk l' s = if s = e.cert.serial then jo (lk l s) (some e) else lk l s) ∧ c = 0 ∧ (b = true ↔ l' ≠ l) ∧ (l'.length = l.length ∨ (l'.length = l.length + 1 ∧ ¬ m ≤ l.length)))
theorem set_ne {l : List Ent} {k : Nat} {r J : Ent} (h : l[k]? = some r) : l.set k J ≠ l ↔ J ≠ r := by
  constructor
  · intro q e; subst e
    apply q
    apply List.ext_getElem?
    intro i
    rw [List.getElem?_set]
    split
    · rename_i e; subst e; rw [h]; split <;> simp_all
    · rfl
  · intro q e
    have : (l.set k J)[k]? = some J := by
      rw [List.getElem?_set_self (List.getElem?_eq_some_iff.1 h).1]
    rw [e, h] at this
    cases this; exact q rfl
theorem PutD.gt {cf : Int → Crt} {f : Flr} {acc : Int} {l l' : List Ent} {m : Int} {e : Ent} {b : Bool} {c : Int} (h : PutD f l m e l' b c) (hG : GT cf ⟨f, acc, l⟩) (he : GE (cf e.cert.serial) e) : GT cf ⟨f, acc, l'⟩ ∧ l'.length ≤ l.length + 1 := by
  rcases h with ⟨-, rfl, -, -⟩ | ⟨-, -, -, rfl, -, -⟩ | ⟨hq, hso, hlk, -, -, hl⟩
  · exact ⟨hG, by omega⟩
  · exact ⟨hG, by omega⟩
  · refine ⟨⟨hG.fl, hso, fun x hx => ?_, fun x hx => ?_⟩, by omega⟩
    · have hm := lk_mem hso hx
      rw [hlk] at hm
      split at hm
      · rename_i hs
        have hge : GE (cf x.cert.serial) e := by rw [hs]; exact he
        exact jo_go (hG.go x.cert.serial) (fun y hy => by cases hy; exact hge) x hm
      · exact hG.go _ x hm
    · have hm := lk_mem hso hx
      rw [hlk] at hm
      split at hm
      · rename_i hs
        show f.n ≤ _
        omega
      · exact (hG.lk hm).2
theorem raise_gt {cf : Int → Crt} {f f' : Flr} {acc : Int} {l : List Ent} (hG : GT cf ⟨f, acc, l⟩) (hf' : f'.Ok) : GT cf ⟨if f'.n ≤ f.n then f else f', acc, if f'.n ≤ f.n then l else nbX l f'.n⟩ := by
  by_cases h : f'.n ≤ f.n
  · rw [if_pos h, if_pos h]; exact hG
  · rw [if_neg h, if_neg h]
    exact ⟨hf', nb_sorted hG.so _, fun x hx => hG.e x (nb_mem hx).1, fun x hx => (nb_mem hx).2⟩
end Go.Proofs.Ytibebhlblmdcgaa

set_option linter.unusedSimpArgs false
set_option linter.unusedVariables false
namespace Go.Proofs.Ytibebhlblmdcgaa
open Go.RowKit

/-! The document's table: rows gone through from the front. -/
def rPl : List Ent → Ent → List Ent
  | [], e => [e]
  | x :: t, e => if e.cert.serial < x.cert.serial then e :: x :: t else x :: rPl t e
def rCh (l : List Ent) (j : Ent) : List Ent := l.map fun x => if x.cert.serial = j.cert.serial then j else x
theorem rPl_mem : ∀ {l : List Ent} {e x : Ent}, x ∈ rPl l e → x = e ∨ x ∈ l
  | [], e, x, h => by simp [rPl] at h; exact .inl h
  | y :: t, e, x, h => by
    unfold rPl at h
    split at h
    · simp at h; rcases h with h | h | h <;> simp [h]
    · simp at h
      rcases h with h | h
      · simp [h]
      · rcases rPl_mem h with h | h <;> simp [h]
theorem rPl_len : ∀ (l : List Ent) (e : Ent), (rPl l e).length = l.length + 1
  | [], e => rfl
  | y :: t, e => by
    unfold rPl
    split
    · rfl
    · simp [rPl_len t e]
theorem rCh_len (l : List Ent) (e : Ent) : (rCh l e).length = l.length := by simp [rCh]
theorem rPl_spec : ∀ {l : List Ent} {e : Ent}, Sorted l → (∀ x ∈ l, x.cert.serial ≠ e.cert.serial) → Sorted (rPl l e) ∧ ∀ s, lk (rPl l e) s = if s = e.cert.serial then some e else lk l s
  | [], e, _, _ => by
    refine ⟨by simp [rPl, Sorted], fun s => ?_⟩
    unfold rPl
    rw [lk_cons]
    by_cases h : e.cert.serial = s
    · rw [if_pos h, if_pos h.symm]
    · rw [if_neg h, if_neg (fun e => h e.symm)]
  | x :: t, e, hs, hn => by
    obtain ⟨h1, h2⟩ := List.pairwise_cons.1 hs
    have hxe := hn x (by simp)
    unfold rPl
    split
    · rename_i hlt
      refine ⟨List.pairwise_cons.2 ⟨fun y hy => ?_, hs⟩, fun s => ?_⟩
      · rcases List.mem_cons.1 hy with rfl | hy
        · exact hlt
        · have := h1 y hy; omega
      · rw [lk_cons]
        by_cases h : e.cert.serial = s
        · rw [if_pos h, if_pos h.symm]
        · rw [if_neg h, if_neg (fun e => h e.symm)]
    · rename_i hge
      obtain ⟨i1, i2⟩ := rPl_spec (l := t) (e := e) h2 (fun y hy => hn y (by simp [hy]))
      refine ⟨List.pairwise_cons.2 ⟨fun y hy => ?_, i1⟩, fun s => ?_⟩
      · rcases rPl_mem hy with rfl | hy
        · omega
        · exact h1 y hy
      · rw [lk_cons, lk_cons, i2 s]
        by_cases h : x.cert.serial = s
        · rw [if_pos h, if_neg (by omega), if_pos h]
        · rw [if_neg h, if_neg h]
theorem rCh_spec : ∀ {l : List Ent} {j : Ent}, Sorted l → Sorted (rCh l j) ∧ ∀ s, lk (rCh l j) s = if s = j.cert.serial then (lk l s).map (fun _ => j) else lk l s
  | [], j, _ => ⟨by simp [rCh, Sorted], fun s => by simp [rCh, lk]⟩
  | x :: t, j, hs => by
    obtain ⟨h1, h2⟩ := List.pairwise_cons.1 hs
    obtain ⟨i1, i2⟩ := rCh_spec (l := t) (j := j) h2
    have hm : ∀ y ∈ rCh t j, ∃ z ∈ t, y.cert.serial = z.cert.serial := fun y hy => by
      unfold rCh at hy
      obtain ⟨z, hz, rfl⟩ := List.mem_map.1 hy
      refine ⟨z, hz, ?_⟩
      split
      · rename_i h; exact h.symm
      · rfl
    have hc : rCh (x :: t) j = (if x.cert.serial = j.cert.serial then j else x) :: rCh t j := rfl
    have hx : (if x.cert.serial = j.cert.serial then j else x).cert.serial = x.cert.serial := by
      split
      · rename_i h; exact h.symm
      · rfl
    rw [hc]
    refine ⟨List.pairwise_cons.2 ⟨fun y hy => ?_, i1⟩, fun s => ?_⟩
    · obtain ⟨z, hz, e⟩ := hm y hy
      have := h1 z hz
      omega
    · rw [lk_cons, lk_cons, i2 s, hx]
      by_cases h : x.cert.serial = s
      · rw [if_pos h, if_pos h]
        by_cases h' : s = j.cert.serial
        · rw [if_pos h', if_pos (by omega)]; rfl
        · rw [if_neg h', if_neg (by omega)]
      · rw [if_neg h, if_neg h]
/-- where a row is to be laid in, both ways lay it at one place -/
theorem rPl_eq {l : List Ent} {e : Ent} (hs : Sorted l) (hn : ∀ x ∈ l, x.cert.serial ≠ e.cert.serial) : rPl l e = l.take (lbN l e.cert.serial) ++ e :: l.drop (lbN l e.cert.serial) := by
  obtain ⟨h1, h2⟩ := rPl_spec hs hn
  obtain ⟨h3, h4⟩ := ins_spec hs hn
  exact lk_ext h1 h3 (fun s => by rw [h2, h4])
theorem rCh_eq {l : List Ent} {k : Nat} {r j : Ent} (hs : Sorted l) (hk : l[k]? = some r) (hj : j.cert.serial = r.cert.serial) (hl : lk l r.cert.serial = some r) : rCh l j = l.set k j := by
  obtain ⟨h1, h2⟩ := rCh_spec (j := j) hs
  obtain ⟨h3, h4⟩ := set_spec hs hk hj
  refine lk_ext h1 h3 (fun s => ?_)
  rw [h2, h4, hj]
  by_cases h : s = r.cert.serial
  · rw [if_pos h, if_pos h, h, hl]; rfl
  · rw [if_neg h, if_neg h]
/-- one entry joined in; none: another certificate -/
def rjF : List Ent → List Ent → Option (List Ent)
  | l, [] => some l
  | l, e :: t => match lk l e.cert.serial with
    | none => rjF (rPl l e) t
    | some r => if eqCb r.cert e.cert then rjF (rCh l (joinE r e)) t else none
theorem rCh_low {l : List Ent} {j : Ent} (h : ∀ x ∈ l, j.cert.serial < x.cert.serial) : rCh l j = l := by
  unfold rCh
  conv => rhs; rw [← List.map_id l]
  refine List.map_congr_left (fun x hx => ?_)
  have := h x hx
  rw [if_neg (by omega)]
  rfl
theorem rjF_head : ∀ {b a : List Ent} {x : Ent}, (∀ y ∈ b, x.cert.serial < y.cert.serial) → rjF (x :: a) b = (rjF a b).map (x :: ·)
  | [], a, x, _ => rfl
  | e :: t, a, x, h => by
    have hx := h e (by simp)
    have ht : ∀ y ∈ t, x.cert.serial < y.cert.serial := fun y hy => h y (by simp [hy])
    unfold rjF
    rw [lk_cons, if_neg (by omega)]
    cases hl : lk a e.cert.serial with
    | none =>
      simp only
      rw [show rPl (x :: a) e = x :: rPl a e from by rw [rPl, if_neg (by omega)]]
      exact rjF_head ht
    | some r =>
      simp only
      by_cases hc : eqCb r.cert e.cert = true
      · rw [if_pos hc, if_pos hc]
        have hrs : r.cert.serial = e.cert.serial := (lk_some hl).2
        rw [show rCh (x :: a) (joinE r e) = x :: rCh a (joinE r e) from by
          show (if x.cert.serial = r.cert.serial then _ else _) :: _ = _
          rw [if_neg (by omega)]; rfl]
        exact rjF_head ht
      · rw [if_neg hc, if_neg hc]; rfl
theorem rjF_eq : ∀ (n : Nat) {a b : List Ent}, a.length + b.length ≤ n → Sorted a → Sorted b → rjF a b = mgX a b
  | 0, a, b, h, _, _ => by
    obtain rfl : a = [] := List.length_eq_zero_iff.1 (by omega)
    obtain rfl : b = [] := List.length_eq_zero_iff.1 (by simp at h; exact List.length_eq_zero_iff.2 h)
    rfl
  | n + 1, a, [], _, _, _ => by rw [mgX_nil']; rfl
  | n + 1, [], y :: b, h, _, hb => by
    obtain ⟨h1, h2⟩ := List.pairwise_cons.1 hb
    rw [mgX_nil]
    show rjF [y] b = _
    rw [rjF_head h1, rjF_eq n (by simp at h ⊢; omega) (by simp [Sorted]) h2, mgX_nil]
    rfl
  | n + 1, x :: a, y :: b, h, ha, hb => by
    obtain ⟨a1, a2⟩ := List.pairwise_cons.1 ha
    obtain ⟨b1, b2⟩ := List.pairwise_cons.1 hb
    simp only [List.length_cons] at h
    rcases Int.lt_trichotomy x.cert.serial y.cert.serial with hlt | heq | hgt
    · rw [mgX_lt hlt, rjF_head (fun z hz => by
        rcases List.mem_cons.1 hz with rfl | hz
        · exact hlt
        · have := b1 z hz; omega), rjF_eq n (by simp; omega) a2 hb]
    · by_cases hc : x.cert = y.cert
      · rw [mgX_eq heq hc]
        have hl : lk (x :: a) y.cert.serial = some x := by rw [lk_cons, if_pos heq]
        unfold rjF
        rw [hl]
        simp only
        rw [if_pos (eqCb_t hc)]
        have hch : rCh (x :: a) (joinE x y) = joinE x y :: a := by
          show (if x.cert.serial = x.cert.serial then _ else _) :: rCh a (joinE x y) = _
          rw [if_pos rfl, rCh_low (j := joinE x y) (fun z hz => a1 z hz)]
        rw [hch, rjF_head (fun z hz => by have := b1 z hz; show x.cert.serial < _; omega), rjF_eq n (by omega) a2 b2]
      · rw [mgX_no heq hc]
        have hl : lk (x :: a) y.cert.serial = some x := by rw [lk_cons, if_pos heq]
        unfold rjF
        rw [hl]
        simp only
        rw [if_neg (by rw [eqCb_f hc]; simp)]
    · rw [mgX_gt hgt]
      have hl : lk (x :: a) y.cert.serial = none := lk_none (fun z hz => by
        rcases List.mem_cons.1 hz with rfl | hz
        · omega
        · have := a1 z hz; omega)
      unfold rjF
      rw [hl]
      simp only
      rw [show rPl (x :: a) y = y :: x :: a from by rw [rPl, if_pos hgt], rjF_head b1, rjF_eq n (by simp; omega) ha b2]
end Go.Proofs.Ytibebhlblmdcgaa
