import Derived.Test.YtebaiaghbfbgmaaPutT
set_option linter.unusedSimpArgs false
set_option linter.unusedVariables false
namespace Go.Proofs.Ytebaiaghbfbgmaa
open Go.RowKit

/-! A join that turns about, brackets as one likes, and is itself of itself. -/
structure SLat {α : Type} (G : α → Prop) (j : α → α → α) : Prop where
  cl : ∀ a b, G a → G b → G (j a b)
  comm : ∀ a b, G a → G b → j a b = j b a
  assoc : ∀ a b c, G a → G b → G c → j (j a b) c = j a (j b c)
  idem : ∀ a, G a → j a a = a
theorem SLat.up1 {α : Type} {G : α → Prop} {j : α → α → α} (h : SLat G j) {a b : α} (ha : G a) (hb : G b) : j (j a b) a = j a b := by
  rw [h.comm a b ha hb, h.assoc b a a hb ha ha, h.idem a ha]
theorem SLat.up2 {α : Type} {G : α → Prop} {j : α → α → α} (h : SLat G j) {a b : α} (ha : G a) (hb : G b) : j (j a b) b = j a b := by
  rw [h.assoc a b b ha hb hb, h.idem b hb]
theorem SLat.anti {α : Type} {G : α → Prop} {j : α → α → α} (h : SLat G j) {a b : α} (ha : G a) (hb : G b) (h1 : j a b = a) (h2 : j b a = b) : a = b := by rw [← h1, h.comm a b ha hb, h2]
theorem SLat.lub {α : Type} {G : α → Prop} {j : α → α → α} (h : SLat G j) {a b c : α} (ha : G a) (hb : G b) (hc : G c) (h1 : j c a = c) (h2 : j c b = c) : j c (j a b) = c := by rw [← h.assoc c a b hc ha hb, h1, h2]
theorem SLat.tr {α : Type} {G : α → Prop} {j : α → α → α} (h : SLat G j) {a b c : α} (ha : G a) (hb : G b) (hc : G c) (h1 : j a b = a) (h2 : j b c = b) : j a c = a := by
  conv => lhs; rw [← h1]
  rw [h.assoc a b c ha hb hc, h2, h1]
/-- entries that may be, of one certificate -/
structure GE (c : Crt) (e : Ent) : Prop where
  ok : e.Ok
  fit : e.Fit
  cert : e.cert = c
theorem latE (c : Crt) : SLat (GE c) joinE :=
  ⟨fun a b ha hb => ⟨joinE_ok ha.ok hb.ok, joinE_fit a b, ha.cert⟩, fun a b ha hb => joinE_comm ha.ok hb.ok (ha.cert.trans hb.cert.symm), fun a b c ha hb hc => joinE_assoc ha.ok hb.ok hc.ok, fun a ha => joinE_idem ha.fit⟩
theorem GE.cov {c : Crt} {a b : Ent} (ha : GE c a) (hb : GE c b) : covB a b = true ↔ joinE a b = a := by
  rw [covB_iff]
  exact ⟨fun h => h.2, fun h => ⟨ha.cert.trans hb.cert.symm, h⟩⟩
/-- an entry made one that may be -/
def fitE (c : Crt) (e : Ent) : Ent := ⟨c, e.idx, e.val, e.fz, if e.fz then e.fs else z64, e.rv, if e.rv then e.rs else z64⟩
theorem fitE_ge {c : Crt} {e : Ent} (hc : c.Ok) (he : e.Ok) : GE c (fitE c e) := by
  refine ⟨⟨hc, he.val, ?_, ?_⟩, ⟨fun h => ?_, fun h => ?_⟩, rfl⟩
  · show By 64 (if e.fz then e.fs else z64)
    split
    · exact he.fs
    · exact z64_by
  · show By 64 (if e.rv then e.rs else z64)
    split
    · exact he.rs
    · exact z64_by
  · show (if e.fz then e.fs else z64) = z64
    have h' : e.fz = false := h
    rw [if_neg (by rw [h']; simp)]
  · show (if e.rv then e.rs else z64) = z64
    have h' : e.rv = false := h
    rw [if_neg (by rw [h']; simp)]
/-! what is known -/
def kC : Crt := ⟨3, 9, 0, z32, z64⟩
def kA : Ent := ⟨kC, 1, z32, false, z64, false, z64⟩
def kB : Ent := ⟨kC, 2, z32, false, z64, false, z64⟩
theorem kC_ok : kC.Ok := ⟨z32_by, z64_by⟩
theorem kA_ok : kA.Ok := ⟨kC_ok, z32_by, z64_by, z64_by⟩
theorem kB_ok : kB.Ok := ⟨kC_ok, z32_by, z64_by, z64_by⟩
theorem k_join : joinE kA kB = kB := by
  have h : mxM (mrk kA) (mrk kB) = mrk kB := by
    have : gtM (mrk kB) (mrk kA) = true := by unfold gtM mrk kA kB; rw [if_neg (by simp)]; rfl
    unfold mxM mxG; rw [if_pos this]
  unfold joinE; rw [h]; rfl
theorem k_ne : ¬ kA.cert = zEnt.cert := fun h => by
  have : (3 : Int) = 0 := congrArg Crt.serial h
  omega
theorem b_crt2 (s r : Int) : Try.prog.built 35 [(0, .int .i64 s), (1, .int .i64 r)] = some (crtC ⟨s, r, 0, z32, z64⟩).toArray := by
  rw [Try.bC, fill_pt (p' := [.int .i64 s]) (c := crtC zCrt) (c' := crtC ⟨s, 0, 0, z32, z64⟩) rfl rfl ⟨[], [.int .i64 0], _, rfl, rfl, rfl, rfl⟩, fill_pt (p' := [.int .i64 r]) (c := crtC ⟨s, 0, 0, z32, z64⟩) (c' := crtC ⟨s, r, 0, z32, z64⟩) rfl rfl ⟨[.int .i64 s], [.int .i64 0], _, rfl, rfl, rfl, rfl⟩]
  rfl
theorem b_ent2 {c : Crt} (hc : c.Ok) (i : Int) : Try.prog.built 37 [(0, aV (crtC c)), (1, .int .i64 i)] = some (eC ⟨c, i, z32, false, z64, false, z64⟩).toArray := by
  have h1 : Ent.Ok { zEnt with cert := c } := ⟨hc, z32_by, z64_by, z64_by⟩
  rw [Try.bE, fill_pt (p' := crtC c) (pl_len (crtC_len hc)) rfl (pt_cert zEnt_ok hc), fill_pt (p' := [.int .i64 i]) rfl rfl (pt_idx h1 i)]
  rfl
theorem es_nil (w : World) : Es w ⟨none, 0, 0, []⟩ := ⟨.nil w 0, fun x hx => by cases hx⟩
end Go.Proofs.Ytebaiaghbfbgmaa
