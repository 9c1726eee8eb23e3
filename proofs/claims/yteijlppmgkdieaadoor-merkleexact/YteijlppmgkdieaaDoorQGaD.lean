import Derived.Test.YteijlppmgkdieaaDoorQRrW
import Derived.Test.YteijlppmgkdieaaDoorQGaC
import Derived.Test.YteijlppmgkdieaaDoorQCkcW
import Derived.Test.YteijlppmgkdieaaDoorQSqM
import Derived.Test.YteijlppmgkdieaaDoorQFeM
set_option linter.unusedVariables false
set_option linter.unusedSimpArgs false
namespace Go.Proofs.YteijlppmgkdieaaDoor
open Go.RowKit

theorem hV_aV (l : List Int) : hV l = aV (U8 l) := rfl
def z32 : List Int := List.replicate 32 0
theorem z32_hs : Hs z32 := ⟨by simp [z32], fun z hz => by simp [z32] at hz; omega⟩
theorem Tryd.inH : (Tryd.prog.info? 28).map (fun i => (i.zero, i.size)) = some (some (aV (U8 z32)), 32) := by kernel_rfl
theorem szH {l : List Int} (h : Hs l) : (Tryd.prog.info? 28).map (·.size) = some (U8 l).length := hz_of' h.len
theorem pt_H {x y : List Int} (hx : Hs x) (hy : Hs y) : Pt (U8 x) 0 (U8 y) (U8 y) := Pt.self (by simp [hx.len, hy.len])
theorem Hl.Ok.old {w w' : World} {s : Hl} (h : s.Ok w) (ho : Old w w') : s.Ok w' := by
  refine ⟨h.len, h.le, h.mx, h.nn, h.hs, fun h0 => ?_⟩
  obtain ⟨b, off, e, hlt, hr⟩ := h.lies h0
  exact ⟨b, off, e, Nat.lt_of_lt_of_le hlt ho.size, fun i l hi => rangeAt_old (hr i l hi) hlt ho⟩
theorem rnodeA (a b : List Int) (w : World) (ha : Hs a) (hb : Hs b) :
    Calls Tryd.prog 13 #[aV (U8 a), aV (U8 b)] w fun e w' => e = .returned (aV (U8 (ndZ a b))) ∧ Below w.heap.size w w' := rnode_any a b w ha hb
theorem rrootA (s : Hl) (w : World) (hs : s.Ok w) (hn : s.n ≤ 65536) :
    Calls Tryd.prog 39 #[s.v] w fun e w' => e = .returned (aV (U8 (rootZ16 s.ls))) ∧ Below w.heap.size w w' := rroot_any s.n s rfl hn w hs
/-- two hashes compared -/
theorem eqHr (a b : List Int) (ha : Hs a) (hb : Hs b) (w : World) : (Op.equalIn 10000 28 (aV (U8 a)) (aV (U8 b))).run Tryd.prog w = .ok (eqB a b) w := by
  have h1 : (Tryd.prog.info? 5).map (·.size) = some 1 := by kernel_rfl
  have := run_eqB (P := Tryd.prog) (k := .u8) 9998 Tryd.underlying28 Tryd.underlying5 h1 a b ha.len hb.len w
  unfold eqB
  exact this

/-! At a step of a drawn region: a slice of one hash; one more hash. -/
theorem step_bs1 {ops : Array Oper} {o : Oper} {a : Act} {w : World} {K : Act → World → Prop} {Q : Exit → Act → World → Prop} {E : Prop} (hgd : o.guard = none) (x : Operand) (ho : o.op = .buildSlice 32 1 #[(0, x)]) (l : List Int) (hl : Hs l) (hx : a.eval x = hV l)
    (h : ∀ w', Arr w' w.heap.size 28 (U8 l) → Below w.heap.size w w' → K (a.put o.dst (.slice (some ⟨w.heap.size, 0, none⟩) 1 1)) w') : if Region.wanted o (yielded ops a.tmps) = true then Oper.wp Tryd.prog o a w K Q else E := by
  obtain ⟨i, hi, hz, hs, -⟩ := infoH
  have hr := run_bsG (P := Tryd.prog) w 32 28 i _ [hV l] 32 Tryd.underlying32 hi hs hz (fun v hv => by simp at hv; subst hv; simp [hV, Value.cells, hl.len]) (by simp) (by simp)
  have hc : ([hV l].flatMap cellsL) = U8 l := by simp [cellsL, hV, Value.cells]
  rw [hc] at hr
  obtain ⟨W, hW, hA, hb, -⟩ := arr1 w 28 (U8 l)
  rw [← hW] at hr
  refine step_bsG hgd 32 1 _ ho _ W ?_ (h W hA hb)
  simp [hx]
  exact hr
theorem step_push1 {ops : Array Oper} {o : Oper} {a : Act} {w : World} {K : Act → World → Prop} {Q : Exit → Act → World → Prop} {E : Prop} (hgd : o.guard = none) (s x : Operand)
    (ho : o.op = .call { callee := .builtin .append, args := #[s, x], argTypes := #[32, 32] }) (base : Nat) (v : Value) (ls : List (List Int)) (l : List Int) (g c : Nat) (hown : HOwn w base v ls) (hl : Hs l) (hA : Arr w g 28 (U8 l)) (hs : a.eval s = v) (hx : a.eval x = .slice (some ⟨g, 0, none⟩) 1 c)
    (hn : ls.length ≤ 1000000) (hbase : base ≤ w.heap.size) (h : ∀ v' w', HOwn w' base v' (ls ++ [l]) → w.grownBy w' v.ownBlock → K (a.put o.dst v') w') :
    if Region.wanted o (yielded ops a.tmps) = true then Oper.wp Tryd.prog o a w K Q else E := by
  obtain ⟨i, hi, hz, hsz, hby⟩ := infoH
  refine step_appG hgd s x 32 ho base 28 i _ 32 32 Tryd.underlying32 hi hz hsz hby (by simp [Value.cells]) (by omega) v ls.length (flH ls) hs hown.own ⟨g, 0, none⟩ 1 c (U8 l) hx (by simp [hl.len]) (fun j u hu => by rw [addr_add, Nat.zero_add, hA.cell]; exact hu) (U8_one l) (by unfold maxLen; omega) (by omega) hbase (fun v' w' h1 h2 => h v' w' ⟨?_, fun y hy => ?_⟩ h2)
  · rw [flH_app, flH_one, List.length_append]; exact h1
  · rcases List.mem_append.1 hy with hy | hy
    · exact hown.hs y hy
    · simp at hy; subst hy; exact hl
end Go.Proofs.YteijlppmgkdieaaDoor

set_option linter.unusedVariables false
set_option linter.unusedSimpArgs false
namespace Go.Proofs.YteijlppmgkdieaaDoor
open Go.RowKit

theorem info_of {P : Program} {t : TypeId} {z : Value} {n : Nat} (h : (P.info? t).map (fun i => (i.zero, i.size)) = some (some z, n)) : ∃ i, P.info? t = some i ∧ i.zero = some z ∧ i.size = n := by
  cases hi : P.info? t with
  | none => rw [hi] at h; simp at h
  | some i =>
    rw [hi] at h
    simp only [Option.map_some, Option.some.injEq, Prod.mk.injEq] at h
    exact ⟨i, rfl, h.1, h.2⟩
theorem fill_pt {place : Nat → Option (Nat × Nat)} {c c' p' : List Value} {off k : Nat} {v : Value} {rest : List (Nat × Value)} (hp : place k = some (off, p'.length)) (hv : v.cells = p'.toArray) (h : Pt c off p' c') : Instr.fill place c.toArray ((k, v) :: rest) = Instr.fill place c'.toArray rest := by
  obtain ⟨pre, p, post, rfl, rfl, rfl, hl⟩ := h
  rw [Instr.fill, hp]
  simp only []
  rw [if_neg (by simp [hv]; omega), hv, ← Array.foldl_toList, Array.toList_zipIdx]
  have hf := fold_set p' 0 pre.length pre p post hl (by simp)
  have hf' : List.foldl (fun (cs : Array Value) (x : Value × Nat) => cs.setIfInBounds (pre.length + x.2) x.1) (pre ++ (p ++ post)).toArray (p'.toArray.toList.zipIdx) = (pre ++ (p' ++ post)).toArray := hf
  rw [hf']
theorem built_struct {P : Program} {t : TypeId} {Z : List Value} {n : Nat} {fields : Array Field} {places : List (Nat × Nat)} (hi : (P.info? t).map (fun i => (i.zero, i.size)) = some (some (aV Z), n)) (hu : P.underlying t = some (.struct fields))
    (hp : fields.toList.mapM (fun f => (P.info? f.type).map fun i => (f.offset, i.size)) = some places) (parts : List (Nat × Value)) : P.built t parts = Instr.fill (fun x => places.toArray[x]?) Z.toArray parts := by
  obtain ⟨i, hii, hz, -⟩ := info_of hi
  unfold Program.built
  rw [hii, hu]
  simp only [hz, hp]
  rfl
theorem built_array {P : Program} {t e : TypeId} {Z : List Value} {n m : Nat} (hi : (P.info? t).map (fun i => (i.zero, i.size)) = some (some (aV Z), n)) (hu : P.underlying t = some (.array m e)) (he : (P.info? e).map (·.size) = some 1) (parts : List (Nat × Value)) : P.built t parts = Instr.fill (fun i => some (i * 1, 1)) Z.toArray parts := by
  obtain ⟨i, hii, hz, -⟩ := info_of hi
  unfold Program.built
  cases hq : P.info? e with
  | none => rw [hq] at he; simp at he
  | some ie =>
    rw [hq] at he
    simp only [Option.map_some, Option.some.injEq] at he
    rw [hii, hu]
    simp only [hz, hq, he]
    rfl
theorem pl_len {l : List Value} {o n : Nat} (h : l.length = n) : (some (o, n) : Option (Nat × Nat)) = some (o, l.length) := by rw [h]
/-! What a bridge comes to: two hashes and a bool. -/
def enC (a b : List Int) (q : Bool) : List Value := U8 a ++ (U8 b ++ [.bool q])
theorem at_n0 (a b : List Int) (q : Bool) : At (enC a b q) 0 (U8 a) := ⟨[], _, rfl, rfl⟩
theorem at_n1 {a : List Int} (ha : Hs a) (b : List Int) (q : Bool) : At (enC a b q) 32 (U8 b) := ⟨U8 a, [.bool q], rfl, by simp [ha.len]⟩
theorem at_n2 {a b : List Int} (ha : Hs a) (hb : Hs b) (q : Bool) : At (enC a b q) 64 [.bool q] := ⟨U8 a ++ U8 b, [], by simp [enC], by simp [ha.len, hb.len]⟩
theorem pt_n0 {a x : List Int} (ha : Hs a) (hx : Hs x) (b : List Int) (q : Bool) : Pt (enC a b q) 0 (U8 x) (enC x b q) := ⟨[], U8 a, _, rfl, rfl, rfl, by simp [ha.len, hx.len]⟩
theorem pt_n1 {a b x : List Int} (ha : Hs a) (hb : Hs b) (hx : Hs x) (q : Bool) : Pt (enC a b q) 32 (U8 x) (enC a x q) := ⟨U8 a, U8 b, [.bool q], rfl, rfl, by simp [ha.len], by simp [hb.len, hx.len]⟩
theorem pt_n2 {a b : List Int} (ha : Hs a) (hb : Hs b) (q q' : Bool) : Pt (enC a b q) 64 [.bool q'] (enC a b q') := ⟨U8 a ++ U8 b, [.bool q], [], by simp [enC], by simp [enC], by simp [ha.len, hb.len], rfl⟩
theorem enC_len {a b : List Int} (ha : Hs a) (hb : Hs b) (q : Bool) : (enC a b q).length = 65 := by simp [enC, ha.len, hb.len]
theorem pt_n {a b a' b' : List Int} (ha : Hs a) (hb : Hs b) (ha' : Hs a') (hb' : Hs b') (q q' : Bool) : Pt (enC a b q) 0 (enC a' b' q') (enC a' b' q') := Pt.self (by rw [enC_len ha hb, enC_len ha' hb'])
theorem Tryd.szN65 : (Tryd.prog.info? 69).map (·.size) = some 65 := by kernel_rfl
theorem szN {a b : List Int} (ha : Hs a) (hb : Hs b) (q : Bool) : (Tryd.prog.info? 69).map (·.size) = some (enC a b q).length := by rw [enC_len ha hb]; exact Tryd.szN65
theorem one_n (a b : List Int) (q : Bool) : ∀ v ∈ enC a b q, v.oneCell' = true := fun v hv => by
  rcases List.mem_append.1 hv with h | h
  · exact U8_one a v h
  · rcases List.mem_append.1 h with h | h
    · exact U8_one b v h
    · simp at h; subst h; rfl
theorem Tryd.inN : (Tryd.prog.info? 69).map (fun i => (i.zero, i.size)) = some (some (aV (enC z32 z32 false)), 65) := by kernel_rfl
theorem Tryd.bN (parts : List (Nat × Value)) : Tryd.prog.built 69 parts = Instr.fill (fun x => [(0, 32), (32, 32), (64, 1)].toArray[x]?) (enC z32 z32 false).toArray parts := built_struct Tryd.inN Tryd.underlying69 (by kernel_rfl) parts
theorem b_n0 : Tryd.prog.built 69 [] = some (enC z32 z32 false).toArray := by rw [Tryd.bN]; rfl
theorem b_n3 {a b : List Int} (ha : Hs a) (hb : Hs b) (q : Bool) : Tryd.prog.built 69 [(0, aV (U8 a)), (1, aV (U8 b)), (2, .bool q)] = some (enC a b q).toArray := by
  rw [Tryd.bN, fill_pt (p' := U8 a) (pl_len (by simp [ha.len])) rfl (pt_n0 z32_hs ha z32 false), fill_pt (p' := U8 b) (pl_len (by simp [hb.len])) rfl (pt_n1 ha z32_hs hb false), fill_pt (p' := [.bool q]) rfl rfl (pt_n2 ha hb false q)]
  rfl
theorem res_n {P : Program} {fn : Func} {tmps : Array Value} {w w0 : World} {rows : List Row} {K : World → Prop} {p : Tmp} {ty : TypeId} (h : fn.results = #[.cell p ty]) (hS : Hs17 w0 rows K w) (i : Nat) {g : Nat} {T : TypeId} {c : List Value} (hi : rows[i]? = some (g, T, c)) (hp : tmps.getD p undef = .pointer (some ⟨g, 0, none⟩)) {d : TypeDesc} (hu : P.underlying ty = some d) (hd : d.isRow = true) (hz : (P.info? ty).map (·.size) = some c.length) :
    (results fn tmps).run P w = .ok (aV c) w := res_c h hS i hi hp hu hd hz
theorem yl_loadR {P : Program} {ops : Array Oper} {o : Oper} {a : Act} {S : World → Prop} (hw : Region.wanted o (yielded ops a.tmps) = true) (t : TypeId) (x : Operand) (ho : o.op = .load t x) (g off : Nat) (hx : a.eval x = .pointer (some ⟨g, off, none⟩)) (p : List Value) (hr : ∀ w, S w → w.rangeAt g off p) {d : TypeDesc} (hu : P.underlying t = some d) (hd : d.isRow = true) (hz : (P.info? t).map (·.size) = some p.length) : YieldsIf P ops S o (aV p) a := .inl ⟨hw, fun w hS => ex_loadR t x ho g off hx p (hr w hS) hu hd hz⟩
end Go.Proofs.YteijlppmgkdieaaDoor
