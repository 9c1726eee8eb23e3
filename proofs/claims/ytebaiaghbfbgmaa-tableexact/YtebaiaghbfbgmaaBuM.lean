import Derived.Test.YtebaiaghbfbgmaaCmpW
import Derived.Test.YtebaiaghbfbgmaaBsM
set_option linter.unusedSimpArgs false
set_option linter.unusedVariables false
namespace Go.Proofs.Ytebaiaghbfbgmaa
open Go.RowKit

/-! Structs built. -/
theorem fill_pt {place : Nat → Option (Nat × Nat)} {c c' p' : List Value} {off k : Nat} {v : Value} {rest : List (Nat × Value)} (hp : place k = some (off, p'.length)) (hv : v.cells = p'.toArray) (h : Pt c off p' c') : Instr.fill place c.toArray ((k, v) :: rest) = Instr.fill place c'.toArray rest := by
  obtain ⟨pre, p, post, rfl, rfl, rfl, hl⟩ := h
  rw [Instr.fill, hp]
  simp only []
  rw [if_neg (by simp [hv]; omega), hv, ← Array.foldl_toList, Array.toList_zipIdx]
  have hf := fold_set p' 0 pre.length pre p post hl (by simp)
  have hf' : List.foldl (fun (cs : Array Value) (x : Value × Nat) => cs.setIfInBounds (pre.length + x.2) x.1) (pre ++ (p ++ post)).toArray (p'.toArray.toList.zipIdx) = (pre ++ (p' ++ post)).toArray := hf
  rw [hf']
theorem built_struct {P : Program} {t : TypeId} {Z : List Value} {n : Nat} {fields : Array Field} {places : List (Nat × Nat)} (hi : (P.info? t).map (fun i => (i.zero, i.size)) = some (some (aV Z), n)) (hu : P.underlying t = some (.struct fields))
    (hp : fields.toList.mapM (fun f => (P.info? f.type).map fun i => (f.offset, i.size)) = some places) (parts : List (Nat × Value)) : P.built t parts = Instr.fill (fun x => places.toArray[x]?) Z.toArray parts := by
  obtain ⟨i, hii, hz, -⟩ := info_of hi
  unfold Program.built
  rw [hii, hu]
  simp only [hz, hp]
  rfl
theorem built_array {P : Program} {t e : TypeId} {Z : List Value} {n m : Nat} (hi : (P.info? t).map (fun i => (i.zero, i.size)) = some (some (aV Z), n)) (hu : P.underlying t = some (.array m e)) (he : (P.info? e).map (·.size) = some 1) (parts : List (Nat × Value)) : P.built t parts = Instr.fill (fun i => some (i * 1, 1)) Z.toArray parts := by
  obtain ⟨i, hii, hz, -⟩ := info_of hi
  unfold Program.built
  cases hq : P.info? e with
  | none => rw [hq] at he; simp at he
  | some ie =>
    rw [hq] at he
    simp only [Option.map_some, Option.some.injEq] at he
    rw [hii, hu]
    simp only [hz, hq, he]
    rfl
theorem Try.bE (parts : List (Nat × Value)) : Try.prog.built 37 parts = Instr.fill (fun x => [(0, 99), (99, 1), (100, 32), (132, 1), (133, 64), (197, 1), (198, 64)].toArray[x]?) (eC zEnt).toArray parts := built_struct Try.inE' Try.underlying37 (by kernel_rfl) parts
theorem Try.bC (parts : List (Nat × Value)) : Try.prog.built 35 parts = Instr.fill (fun x => [(0, 1), (1, 1), (2, 1), (3, 32), (35, 64)].toArray[x]?) (crtC zCrt).toArray parts := built_struct Try.inC Try.underlying35 (by kernel_rfl) parts
theorem Try.bF (parts : List (Nat × Value)) : Try.prog.built 26 parts = Instr.fill (fun x => [(0, 1), (1, 64)].toArray[x]?) (fC zFlr).toArray parts := built_struct Try.inF Try.underlying26 (by kernel_rfl) parts
theorem Try.bG (parts : List (Nat × Value)) : Try.prog.built 29 parts = Instr.fill (fun x => [(0, 65), (65, 1), (66, 1)].toArray[x]?) (gC zFlr 0 nilS).toArray parts := built_struct Try.inG Try.underlying29 (by kernel_rfl) parts
theorem Try.bM (parts : List (Nat × Value)) : Try.prog.built 87 parts = Instr.fill (fun x => [(0, 1), (1, 32)].toArray[x]?) (mC zMrk).toArray parts := built_struct Try.inM Try.underlying87 (by kernel_rfl) parts
theorem Try.bS (parts : List (Nat × Value)) : Try.prog.built 24 parts = Instr.fill (fun i => some (i * 1, 1)) (U8 z64).toArray parts := built_array Try.inS Try.underlying24 Try.in1u parts
theorem Try.bH (parts : List (Nat × Value)) : Try.prog.built 33 parts = Instr.fill (fun i => some (i * 1, 1)) (U8 z32).toArray parts := built_array Try.inH Try.underlying33 Try.in1u parts
theorem pl_len {l : List Value} {o n : Nat} (h : l.length = n) : (some (o, n) : Option (Nat × Nat)) = some (o, l.length) := by rw [h]
theorem b_e0 : Try.prog.built 37 [] = some (eC zEnt).toArray := by rw [Try.bE]; rfl
theorem b_g0 : Try.prog.built 29 [] = some (gC zFlr 0 nilS).toArray := by rw [Try.bG]; rfl
theorem b_s0 : Try.prog.built 24 [] = some (U8 z64).toArray := by rw [Try.bS]; rfl
theorem b_mrk {i : Int} {l : List Int} (hl : By 32 l) : Try.prog.built 87 [(0, .int .i64 i), (1, aV (U8 l))] = some (mC ⟨i, l⟩).toArray := by
  rw [Try.bM, fill_pt (p' := [.int .i64 i]) (c := mC zMrk) (c' := mC ⟨i, z32⟩) rfl rfl ⟨[], [.int .i64 0], _, rfl, rfl, rfl, rfl⟩, fill_pt (p' := U8 l) (c := mC ⟨i, z32⟩) (c' := mC ⟨i, l⟩) (pl_len (by simp [hl.len])) rfl ⟨[.int .i64 i], U8 z32, [], by simp [mC], by simp [mC], rfl, by simp [hl.len, z32_by.len]⟩]
  rfl
theorem b_ent {c : Crt} {i : Int} {l : List Int} (hc : c.Ok) (hl : By 32 l) : Try.prog.built 37 [(0, aV (crtC c)), (1, .int .i64 i), (2, aV (U8 l))] = some (eC ⟨c, i, l, false, z64, false, z64⟩).toArray := by
  have h1 : Ent.Ok { zEnt with cert := c } := ⟨hc, z32_by, z64_by, z64_by⟩
  rw [Try.bE, fill_pt (p' := crtC c) (pl_len (crtC_len hc)) rfl (pt_cert zEnt_ok hc), fill_pt (p' := [.int .i64 i]) rfl rfl (pt_idx h1 i), fill_pt (p' := U8 l) (pl_len (by simp [hl.len])) rfl (pt_val ⟨hc, z32_by, z64_by, z64_by⟩ hl)]
  rfl
theorem b_gst {f : Flr} {acc : Int} {v : Value} (hf : f.Ok) (hv : v.cells = #[v]) : Try.prog.built 29 [(0, aV (fC f)), (1, .int .i64 acc), (2, v)] = some (gC f acc v).toArray := by
  rw [Try.bG, fill_pt (p' := fC f) (pl_len (fC_len hf)) rfl (pt_gf zFlr_ok hf 0 nilS), fill_pt (p' := [.int .i64 acc]) rfl rfl (pt_ga hf 0 acc nilS), fill_pt (p' := [v]) rfl hv (pt_gr hf acc nilS v)]
  rfl
end Go.Proofs.Ytebaiaghbfbgmaa
