import Derived.Test.YtdcaojiiaocnaaaGreatDoorQGbkZ
import Derived.Laws.AppendOwn
set_option linter.unusedVariables false
set_option linter.unusedSimpArgs false
namespace Go.Proofs.YtdcaojiiaocnaaaGreatDoor
open Go.RowKit

/-- append of so many zero values to a row of one's own -/
theorem run_append_zeros {P : Program} (w : World) (base : Nat) (t u ty e : TypeId) (i : TypeInfo) (z : Value) (size bytes : Nat) (ht : P.underlying t = some (.slice e)) (hu : P.underlying u = some (.int .i64)) (hi : P.info? e = some i) (hz : i.zero = some z)
    (hsize : i.size = size) (hby : i.bytes = bytes) (hzs : z.cells.size = size) (hsz : 0 < size)
    (v : Value) (n : Nat) (xs : List Value) (hown : w.ownsRow base e size v n xs) (m : Nat) (hm : 0 < m) (hmb : m ≤ 1000) (Z : List Value) (hZ : Builtin.zeroCells z.cells m = Z.toArray) (h1 : ∀ u ∈ Z, u.oneCell' = true)
    (h63 : n + m ≤ maxLen) (hbytes : (n + m) * bytes ≤ 140737488355328) (hbase : base ≤ w.heap.size) :
    ∃ v' w', (Builtin.append_ #[t, u] ty #[v, .int .i64 m]).run P w = .ok v' w' ∧ w'.ownsRow base e size v' (n + m) (xs ++ Z) ∧ w.grownBy w' v.ownBlock ∧ ((v'.ownBlock = v.ownBlock ∧ v.ownBlock ≠ none) ∨ (v'.ownBlock = some w.heap.size ∧ Below w.heap.size w w')) := by
  subst hsize
  subst hby
  have hl : Z.length = m * i.size := by
    have := congrArg Array.size hZ
    rw [size_zeroCells, hzs] at this
    simpa using this.symm
  have hsmall : n + m ≤ 9223372036854775807 := by simp only [maxLen] at h63; omega
  have hlen : (xs ++ Z).length = (n + m) * i.size := by rw [List.length_append, hown.1, hl, Nat.add_mul]
  have hbm : m * i.bytes ≤ 140737488355328 := Nat.le_trans (Nat.mul_le_mul_right _ (by omega)) hbytes
  have hw : IntKind.i64.wrap (m : Int) = m := by rw [IntKind.wrap_i64]; omega
  have hm0 : ¬ ((m : Int) < 0) := by omega
  have hmx : max (m : Int) 0 = m := by omega
  have hmt : ((m : Int)).toNat = m := by omega
  have hm1 : ¬ (281474976710656 < (m : Int) * (i.bytes : Int)) := by
    have : (m : Int) * (i.bytes : Int) = ((m * i.bytes : Nat) : Int) := by simp
    rw [this]; omega
  have hm2 : ¬ (m * i.size = 0) := by have := Nat.mul_pos hm hsz; omega
  have grown : ∀ (old : Nat), old < n + m → ∀ (row : Option Nat),
      (w.drew.alloc (.cells (xs.toArray ++ Z.toArray ++ Builtin.zeroCells z.cells (grownCap w (n + m) old e - (n + m))) e)).ownsRow base e i.size
        (.slice (some ⟨w.heap.size, 0, none⟩) (n + m) (grownCap w (n + m) old e)) (n + m) (xs ++ Z) ∧
      w.grownBy (w.drew.alloc (.cells (xs.toArray ++ Z.toArray ++ Builtin.zeroCells z.cells (grownCap w (n + m) old e - (n + m))) e)) row := by
    intro old ho row
    have hge := grownCap_ge w (n + m) old e
    have hcm : grownCap w (n + m) old e ≤ maxLen := grownCap_le_maxLen w (n + m) old e h63
    refine ⟨⟨hlen, .inr ⟨w.heap.size, _, _, rfl, hbase, heap_alloc_new w.drew _, hge, hcm, ?_, ?_⟩⟩, ⟨rfl, rfl, rfl, by simp, fun k hk _ => Below.heap_alloc w _ k hk⟩⟩
    · simp only [Array.size_append, List.size_toArray, size_zeroCells, hzs, hown.1, hl, ← Nat.add_mul]
      congr 1
      omega
    · simp only [Array.toList_append, List.append_assoc]
      rw [← List.append_assoc, ← hlen]
      exact List.take_left
  rcases hown.2 with ⟨rfl, rfl⟩ | ⟨g, cap, cur, rfl, hbg, hg, hnc, hcm, hcs, htake⟩
  · have hx : xs = [] := List.eq_nil_of_length_eq_zero (by simpa using hown.1)
    subst hx
    have hr : ¬ (0 + m ≤ 0) := by omega
    have h63' : ¬ (9223372036854775807 < (m : Int)) := by omega
    have hfit : Builtin.nextslicecap (0 + m) 0 * i.bytes ≤ 281474976710656 := growslice_fits (by omega) hbytes
    have h48' : ¬ (281474976710656 < Builtin.nextslicecap m 0 * i.bytes) := by rw [Nat.zero_add] at hfit; omega
    have hgr := grown 0 (by omega) (Value.ownBlock (.slice none 0 0))
    refine ⟨.slice (some ⟨w.heap.size, 0, none⟩) (0 + m) (grownCap w (0 + m) 0 e), _, ?_, hgr.1, hgr.2, .inr ⟨rfl, ⟨rfl, rfl, rfl, by simp, fun k hk => Below.heap_alloc w _ k hk⟩⟩⟩
    have hm9 : ¬ m = 0 := by omega
    simp [Builtin.append_, run_underlying ht, run_underlying hu, sizeOf, typeInfo, zeroValue, hi, hz, asInt, asIntOf, hw, hmx, hmt, hm0, hm1, hm2, hm9, h63', h48', Question.forced, newRow, grownCap, hZ, Builtin.firstCells]
  · by_cases hroom : n + m ≤ cap
    · have hfit : n * i.size + Z.length ≤ cur.size := by rw [hl, hcs, ← Nat.add_mul]; exact Nat.mul_le_mul_right _ hroom
      have hst := run_storeCells_at P g (n * i.size) e Z 0 cur w hg (by simpa using hfit) h1
      simp only [Nat.add_zero] at hst
      have hr : (Builtin.append_ #[t, u] ty #[.slice (some ⟨g, 0, none⟩) n cap, .int .i64 m]).run P w = .ok (.slice (some ⟨g, 0, none⟩) (n + m) cap) (w.setRow g (cur.toList.take (n * i.size) ++ Z ++ cur.toList.drop (n * i.size + Z.length)).toArray) := by
        simp [Builtin.append_, run_underlying ht, run_underlying hu, sizeOf, typeInfo, zeroValue, hi, hz, asInt, asIntOf, hw, hmx, hmt, hm0, hm1, hm2, hroom, hZ, Addr.add_lit, hst]
      refine ⟨_, _, hr, ⟨hlen, .inr ⟨g, cap, _, rfl, hbg, setRow_heap w g cur _ e _ hg, hroom, hcm, ?_, ?_⟩⟩, ⟨rfl, rfl, rfl, by simp, fun k _ hk => setRow_other w g k _ (fun e => hk (by simp [Value.ownBlock, e]))⟩, .inl ⟨rfl, by simp [Value.ownBlock]⟩⟩
      · simp only [List.size_toArray, List.length_append, List.length_take, List.length_drop, Array.length_toList]
        omega
      · rw [htake, ← hlen]
        exact List.take_left
    · have holds : ∀ j u, xs[j]? = some u → w.cell? ((⟨g, 0, none⟩ : Addr).add j) = some u := hown.cells (g := g) rfl
      have h63' : ¬ (9223372036854775807 < ((n : Int) + (m : Int))) := by omega
      have hfit := growslice_fits (need := n + m) (old := cap) (bytes := i.bytes) (by omega) hbytes
      have h48' : ¬ (281474976710656 < Builtin.nextslicecap (n + m) cap * i.bytes) := by omega
      have hfo := run_firstCells_some (P := P) w.drew i.size n ⟨g, 0, none⟩ n cap xs hown.1 (by simpa using holds)
      have hgr := grown cap (by omega) (Value.ownBlock (.slice (some ⟨g, 0, none⟩) n cap))
      refine ⟨.slice (some ⟨w.heap.size, 0, none⟩) (n + m) (grownCap w (n + m) cap e), _, ?_, hgr.1, hgr.2, .inr ⟨rfl, ⟨rfl, rfl, rfl, by simp, fun k hk => Below.heap_alloc w _ k hk⟩⟩⟩
      simp [Builtin.append_, run_underlying ht, run_underlying hu, sizeOf, typeInfo, zeroValue, hi, hz, asInt, asIntOf, hw, hmx, hmt, hm0, hm1, hm2, hroom, h63', h48', Question.forced, hfo, newRow, grownCap, hZ]
      congr 2
      apply Array.ext'
      simp [List.append_assoc]
theorem zc_rep (n k : Nat) (x : Value) (hk : 0 < k) : Builtin.zeroCells (List.replicate k x).toArray n = (List.replicate (n * k) x).toArray := by
  unfold Builtin.zeroCells
  apply Array.ext'
  rw [Array.toList_map]
  apply List.ext_getElem
  · simp
  · intro j h1 h2
    have hj : j % k < k := Nat.mod_lt _ hk
    simp only [List.getElem_map, Array.getElem_toList, Array.getElem_range, List.size_toArray, List.length_replicate]
    rw [getElem!_pos _ _ (by simpa using hj)]
    simp
theorem flat_z0 : ∀ n : Nat, (List.replicate n (0 : Int)).flatMap uC = List.replicate n (.int .u8 0)
  | 0 => rfl
  | n + 1 => by
    rw [List.replicate_succ, List.flatMap_cons, flat_z0 n]; rfl
theorem zero70 : Builtin.zeroCells (Value.int .u8 0).cells 70 = ((List.replicate 70 (0 : Int)).flatMap uC).toArray := by
  rw [flat_z0]
  have h := zc_rep 70 1 (.int .u8 0) (by omega)
  exact h
/-- rows that are only read from now on -/
theorem Hs17.keepR {w0 w : World} {rows R : List Row} {K : World → Prop} (hS : Hs17 w0 (rows ++ R) K w) (N : World → Prop) (hN : ∀ w' : World, w.heap.size ≤ w'.heap.size → (∀ r ∈ R, w'.heap[r.1]? = w.heap[r.1]?) → N w') : Hs17 w0 rows (fun w => K w ∧ N w) w := by
  have hnd := hS.nd
  rw [List.map_append, List.nodup_append] at hnd
  refine ⟨hnd.1, fun p hp => hS.arr p (List.mem_append_left _ hp), fun p hp => hS.old p (List.mem_append_left _ hp), hS.bel, fun w' h1 h2 => ?_⟩
  refine ⟨hS.keep w' h1 (fun k hk hp => h2 k hk (fun p hp' => hp p (List.mem_append_left _ hp'))), hN w' h1 (fun r hr => h2 r.1 ?_ (fun p hp e => ?_))⟩
  · exact (hS.arr r (List.mem_append_right _ hr)).lt
  · exact hnd.2.2 _ (List.mem_map.2 ⟨p, hp, rfl⟩) _ (List.mem_map.2 ⟨r, hr, rfl⟩) e
/-- a row of one's own read as a slice, as long as its block stands -/
theorem RowG.stands {α : Type} {f : α → List Value} {sz : Nat} {e : TypeId} {w0 w w' : World} {rows R : List Row} {K : World → Prop} {s : Sx α} {l : List α} (h : RowG f sz e s l R) (hf : ∀ x ∈ l, (f x).length = sz) (hS : Hs17 w0 (rows ++ R) K w) (h1 : w.heap.size ≤ w'.heap.size) (h2 : ∀ r ∈ R, w'.heap[r.1]? = w.heap[r.1]?) : Sx.Ok f sz w' ⟨s.a, s.n, s.c, l⟩ := by
  refine (h.sx hf (fun r hr => List.mem_append_right rows hr) hS).keep h1 (fun h0 x hx hlt => ?_)
  rcases h.2 with ⟨h5, -⟩ | ⟨g, sp, h5, -, -, -, h6⟩
  · simp only at hx; rw [h5] at hx; cases hx
  · simp only at hx
    rw [h5] at hx
    cases hx
    exact h2 (g, e, l.flatMap f ++ sp) (by rw [h6]; simp)
section
variable {o : Oper} {a : Act} {w w0 : World} {k : Act → World → Prop} {Q : Exit → Act → World → Prop} {K : World → Prop}
/-- an answer gone on with: in its own place or in new memory -/
theorem op_appZ {rows R : List Row} {p : (Sx Int)} {ls : List Int} (s : Operand) (ho : o.op = .call { callee := .builtin .append, args := #[s, .const (.int .i64 70)], argTypes := #[28, 3] })
    (hR : RowG uC 1 5 p ls R) (hh : ∀ l ∈ ls, Hb25 l) (hS : Hs17 w0 (rows ++ R) K w) (hs : a.eval s = p.v) (hn : ls.length ≤ 100000)
    (h : ∀ x w', x.xs = ls ++ List.replicate 70 (0 : Int) → Hs17 w0 rows (fun w => K w ∧ Sx.Ok uC 1 w x ∧ Sx.Ok uC 1 w (⟨p.a, p.n, p.c, ls⟩ : (Sx Int))) w' → k (a.put o.dst x.v) w') : o.wp Tryz.prog a w k Q := by
  obtain ⟨i, hi, hz, hsz, hby⟩ : ∃ i, Tryz.prog.info? 5 = some i ∧ i.zero = some ((.int .u8 0)) ∧ i.size = 1 ∧ i.bytes = 1 := by
    have hq := Tryz.infoBy
    cases hi : Tryz.prog.info? 5 with
    | none => rw [hi] at hq; simp at hq
    | some i =>
      rw [hi] at hq
      simp only [Option.map_some, Option.some.injEq, Prod.mk.injEq] at hq
      exact ⟨i, rfl, hq.1, hq.2.1, hq.2.2⟩
  have hf : ∀ x ∈ ls, (uC x).length = 1 := fun x _ => uC_len x
  have hO := hR.own hf hS
  obtain ⟨v', w', hr, r1, r2, r3⟩ := run_append_zeros (P := Tryz.prog) w w0.heap.size 28 3 o.type 5 i (.int .u8 0) 1 1 Tryz.underlying28 Tryz.underlying3 hi hz hsz hby rfl (by omega) p.v ls.length _ hO 70 (by omega) (by omega) ((List.replicate 70 (0 : Int)).flatMap uC) zero70 (fun u hu => by
    obtain ⟨y, -, hy⟩ := List.mem_flatMap.1 hu
    exact one_u y u hy) (by unfold maxLen; omega) (by omega) hS.bel.size
  have e1 : ls.length + 70 = (ls ++ List.replicate 70 (0 : Int)).length := by simp
  have e2 : ls.flatMap uC ++ (List.replicate 70 (0 : Int)).flatMap uC = (ls ++ List.replicate 70 (0 : Int)).flatMap uC := by rw [List.flatMap_append]
  rw [e1, e2] at r1
  have hf2 : ∀ x ∈ ls ++ List.replicate 70 (0 : Int), (uC x).length = 1 := fun x hx => by
    rcases List.mem_append.1 hx with h | h
    · exact hf x h
    · rw [List.eq_of_mem_replicate h]; rfl
  have hc : a.eval (.const (.int .i64 70)) = .int .i64 70 := rfl
  have hr' : (Builtin.append_ #[28, 3] o.type #[p.v, .int .i64 70]).run Tryz.prog w = .ok v' w' := hr
  unfold Oper.wp
  simp [execOp, ho, resolve, invoke, builtin, hs, hc, hr', Result.andThen]
  rcases r3 with ⟨h3, h3n⟩ | ⟨h3, hb⟩
  · obtain ⟨X, R', rfl, hR', hS'⟩ := hS.regrow (l' := ls ++ List.replicate 70 (0 : Int)) hR hf r2 r1 (.inl h3)
    obtain ⟨g, hga⟩ : ∃ g, p.a = some ⟨g, 0, none⟩ := by
      rcases hR.2 with ⟨h5, -⟩ | ⟨g, sp, h5, -⟩
      · exact absurd (by rw [Sx.v, h5]; rfl) h3n
      · exact ⟨g, h5⟩
    have hXa : X.a = some ⟨g, 0, none⟩ := by
      have e5 : X.v.ownBlock = some g := by rw [h3, show p.v = .slice (some ⟨g, 0, none⟩) p.n p.c by rw [Sx.v, hga]]; rfl
      rcases hR'.2 with ⟨h5, -⟩ | ⟨g', sp', h5, -⟩
      · rw [Sx.v, h5] at e5; cases e5
      · rw [Sx.v, h5] at e5
        simp only [Value.ownBlock, Option.some.injEq] at e5
        rw [h5, e5]
    have hp0 : Sx.Ok uC 1 w (⟨p.a, p.n, p.c, ls⟩ : (Sx Int)) := hR.sx hf (fun r hr => List.mem_append_right rows hr) hS
    refine h ⟨X.a, X.n, X.c, ls ++ List.replicate 70 (0 : Int)⟩ w' rfl (hS'.keepR _ (fun w'' q1 q2 => ?_))
    have hX := hR'.stands hf2 hS' q1 q2
    refine ⟨hX, hp0.len, hp0.le, hp0.mx, hp0.nn, fun h0 => ?_⟩
    obtain ⟨b2, off2, ha2, hlt2, hrg2⟩ := hX.lies (by have h7 := hX.len; have h8 := hp0.len; simp only at h7 h8 h0 ⊢; rw [List.length_append] at h7; omega)
    simp only at ha2
    rw [hXa] at ha2
    simp only [Option.some.injEq, Addr.mk.injEq] at ha2
    obtain ⟨rfl, rfl, -⟩ := ha2
    refine ⟨g, 0, hga, hlt2, fun j l hj => hrg2 j l ?_⟩
    rw [List.getElem?_append_left (by have := (List.getElem?_eq_some_iff.1 hj).1; exact this)]
    exact hj
  · obtain ⟨X, hv, hXx, hXo, hXa⟩ := own_sx r1 hf2
    subst hv
    have hS1 := hS.keepR (fun w => Sx.Ok uC 1 w (⟨p.a, p.n, p.c, ls⟩ : (Sx Int))) (fun w'' q1 q2 => hR.stands hf hS q1 q2)
    refine h X w' hXx (((hS1.later hb).also (N := fun w => Sx.Ok uC 1 w X) (fun w'' h1 h2 => hXo.keep h1 (fun _ x hx hlt => h2 _ hlt (fun p' hp' e5 => ?_)))).weak (fun w h9 => ⟨h9.1.1, h9.2, h9.1.2⟩))
    have e6 := (hXa x hx).2
    rw [h3] at e6
    simp only [Option.some.injEq] at e6
    have := (hS1.arr p' hp').lt
    omega
end

/-! What held does: marks, rows that change. -/
def mkB (j : Nat) : Int := (((2 * j + 1) % 256 : Nat) : Int)
theorem mkB_hs (j : Nat) : Hb25 (mkB j) := by unfold Hb25 mkB; omega
section
variable {P : Program} {ops : Array Oper} {o : Oper} {a : Act} {w : World}
theorem ex_cell (t : TypeId) (x : Operand) (ho : o.op = .load t x) (g off : Nat) (hx : a.eval x = .pointer (some ⟨g, off, none⟩)) (v : Value) (hc : w.cell? ⟨g, off, none⟩ = some v) {d : TypeDesc} (hu : P.underlying t = some d) (hd : d.isRow = false) :
    (execOp a.eval o).run P w = .ok (.value v) w := by
  have hA : (isAgg t).run P w = .ok false w := by
    unfold isAgg
    rw [Sem.run_bind, run_underlying hu w]
    cases d <;> simp_all [TypeDesc.isRow]
  have hl : (loadVar t ⟨g, off, none⟩).run P w = .ok v w := by
    simp [loadVar, Sem.run_bind, hA, run_load, hc]
  unfold execOp
  simp only [ho, hx, Instr.loadAt, Instr.sureAddr, Sem.run_bind, Sem.run_pure, Result.andThen_ok, hl]
theorem yl_cell {S : World → Prop} (hw : Region.wanted o (yielded ops a.tmps) = true) (t : TypeId) (x : Operand) (ho : o.op = .load t x) (g off : Nat) (hx : a.eval x = .pointer (some ⟨g, off, none⟩)) (v : Value) (hr : ∀ w, S w → w.cell? ⟨g, off, none⟩ = some v) {d : TypeDesc} (hu : P.underlying t = some d) (hd : d.isRow = false) : YieldsIf P ops S o v a := .inl ⟨hw, fun w hS => ex_cell t x ho g off hx v (hr w hS) hu hd⟩
end
/-- a slice in a row of slices, read -/
theorem RowG.cellS {e : TypeId} {S : Sx (Sx Int)} {l : List (Sx Int)} {R : List Row} (h : RowG sV 1 e S l R) {i : Nat} {p : (Sx Int)} (hi : l[i]? = some p) : ∃ g, S.a = some ⟨g, 0, none⟩ ∧ ∀ (w0 : World) (rows : List Row) (K : World → Prop) (w : World), (∀ r ∈ R, r ∈ rows) → Hs17 w0 rows K w → w.cell? ⟨g, i, none⟩ = some p.v := by
  have hl := (List.getElem?_eq_some_iff.1 hi).1
  have hlen := h.1
  rcases h.2 with ⟨h1, h2, -, -⟩ | ⟨g, sp, h1, -, -, -, h6⟩
  · omega
  · refine ⟨g, h1, fun w0 rows K w hr hS => ?_⟩
    have hs := h.sx (fun x _ => sV_len x) hr hS
    obtain ⟨b, off, e1, -, hrg⟩ := hs.at_ hi
    simp only at e1
    rw [h1] at e1
    simp only [Option.some.injEq, Addr.mk.injEq] at e1
    obtain ⟨rfl, rfl, -⟩ := e1
    have := hrg 0 p.v rfl
    simpa using this
/-! Rows that change: what each answer holds. -/
def csR (cs : List (List Int × List Row)) : List Row := cs.flatMap (·.2)
theorem csR_app (A B : List (List Int × List Row)) : csR (A ++ B) = csR A ++ csR B := by simp [csR]
theorem csR_cons (c : List Int × List Row) (B : List (List Int × List Row)) : csR (c :: B) = c.2 ++ csR B := by simp [csR]
structure CsO (it : It) (c : List Int × List Row) : Prop where
  row : RowG uC 1 5 it.p c.1 c.2
  hs : ∀ l ∈ c.1, Hb25 l
  sz : c.1.length ≤ 100000
structure CsOk (its : List It) (cs : List (List Int × List Row)) (i : Nat) : Prop where
  len : cs.length = its.length
  ok : ∀ (j : Nat) (it : It) (c : List Int × List Row), its[j]? = some it → cs[j]? = some c → CsO it c
  mks : ∀ (j : Nat) (c : List Int × List Row), j < i → cs[j]? = some c → ∀ l ∈ c.1, l = mkB j
def cs0 (its : List It) : List (List Int × List Row) := its.map fun it => (it.ls, it.R)
theorem cs0_R (its : List It) : csR (cs0 its) = itRs its := by simp [csR, cs0, itRs, List.flatMap_map]
theorem cs0_ok {its : List It} (h : ∀ it ∈ its, it.Ok) : CsOk its (cs0 its) 0 := by
  refine ⟨by simp [cs0], fun j it c hj hc => ?_, fun j c hj => by omega⟩
  rw [cs0, List.getElem?_map, hj] at hc
  simp at hc
  subst hc
  have := h it (List.mem_of_getElem? hj)
  exact ⟨this.row, this.hs, this.sz⟩
/-- the i-th taken out -/
theorem CsOk.split {its : List It} {cs : List (List Int × List Row)} {i : Nat} (h : CsOk its cs i) {it : It} (hi : its[i]? = some it) : ∃ A c B, cs = A ++ c :: B ∧ A.length = i ∧ CsO it c := by
  have hlt : i < cs.length := by rw [h.len]; exact (List.getElem?_eq_some_iff.1 hi).1
  refine ⟨cs.take i, cs[i], cs.drop (i + 1), ?_, by rw [List.length_take]; omega, h.ok i it _ hi (List.getElem?_eq_getElem hlt)⟩
  rw [← List.drop_eq_getElem_cons hlt, List.take_append_drop]
theorem CsOk.next {its : List It} {A B : List (List Int × List Row)} {c c' : List Int × List Row} {i : Nat} (h : CsOk its (A ++ c :: B) i) (hA : A.length = i) {it : It} (hi : its[i]? = some it) (hc : CsO it c') (hm : ∀ l ∈ c'.1, l = mkB i) : CsOk its (A ++ c' :: B) (i + 1) := by
  have hat : ∀ j, j ≠ i → (A ++ c' :: B)[j]? = (A ++ c :: B)[j]? := fun j hj => by
    rcases Nat.lt_or_ge j A.length with h1 | h1
    · rw [List.getElem?_append_left h1, List.getElem?_append_left h1]
    · rw [List.getElem?_append_right h1, List.getElem?_append_right h1]
      obtain ⟨m, hm⟩ : ∃ m, j - A.length = m + 1 := ⟨j - A.length - 1, by omega⟩
      rw [hm]; rfl
  have hai : (A ++ c' :: B)[i]? = some c' := by rw [List.getElem?_append_right (by omega), hA, Nat.sub_self]; rfl
  refine ⟨by have := h.len; simpa using this, fun j it2 c2 hj hc2 => ?_, fun j c2 hj hc2 => ?_⟩
  · by_cases e : j = i
    · subst e
      rw [hai] at hc2; rw [hi] at hj
      cases hc2; cases hj; exact hc
    · rw [hat j e] at hc2; exact h.ok j it2 c2 hj hc2
  · by_cases e : j = i
    · subst e
      rw [hai] at hc2; cases hc2; exact hm
    · rw [hat j e] at hc2; exact h.mks j c2 (by omega) hc2
theorem perm_m {α : Type} (s r : α) (rest A B T : List α) : (s :: (rest ++ ((A ++ ([r] ++ B)) ++ T))).Perm (r :: (s :: (rest ++ ((A ++ B) ++ T)))) := by
  have e : s :: (rest ++ ((A ++ ([r] ++ B)) ++ T)) = (s :: (rest ++ A)) ++ r :: (B ++ T) := by simp [List.append_assoc]
  have e2 : r :: (s :: (rest ++ ((A ++ B) ++ T))) = r :: ((s :: (rest ++ A)) ++ (B ++ T)) := by simp [List.append_assoc]
  rw [e, e2]
  exact List.perm_middle
theorem perm_z {α : Type} (s : α) (rest R B T : List α) : (s :: (rest ++ ((R ++ B) ++ T))).Perm ((s :: (rest ++ (B ++ T))) ++ R) := by
  have e : s :: (rest ++ ((R ++ B) ++ T)) = (s :: rest) ++ (R ++ (B ++ T)) := by simp [List.append_assoc]
  have e2 : (s :: (rest ++ (B ++ T))) ++ R = (s :: rest) ++ ((B ++ T) ++ R) := by simp [List.append_assoc]
  rw [e, e2]
  exact List.Perm.append_left _ List.perm_append_comm
/-! Behind the marks: what is gone on with. -/
structure CsB (its : List It) (B : List (List Int × List Row)) (i : Nat) : Prop where
  len : B.length + i = its.length
  ok : ∀ (m : Nat) (it : It) (c : List Int × List Row), its[i + m]? = some it → B[m]? = some c → CsO it c ∧ ∀ l ∈ c.1, l = mkB (i + m)
theorem CsOk.toB {its : List It} {cs : List (List Int × List Row)} (h : CsOk its cs its.length) : CsB its cs 0 :=
  ⟨by have := h.len; omega, fun m it c hi hc => by
    rw [Nat.zero_add] at hi ⊢
    exact ⟨h.ok m it c hi hc, h.mks m c ((List.getElem?_eq_some_iff.1 hi).1) hc⟩⟩
theorem CsB.cons {its : List It} {B : List (List Int × List Row)} {i : Nat} (h : CsB its B i) {it : It} (hi : its[i]? = some it) : ∃ c B', B = c :: B' ∧ CsO it c ∧ c.1 = List.replicate it.p.n (mkB i) ∧ CsB its B' (i + 1) := by
  have hlt := (List.getElem?_eq_some_iff.1 hi).1
  cases B with
  | nil => have := h.len; simp at this; omega
  | cons c B' =>
    obtain ⟨h1, h2⟩ := h.ok 0 it c (by simpa using hi) rfl
    refine ⟨c, B', rfl, h1, ?_, ⟨by have := h.len; simp at this ⊢; omega, fun m it2 c2 hi2 hc2 => ?_⟩⟩
    · rw [← h1.row.1]; exact List.eq_replicate_of_mem (fun l hl => by simpa using h2 l hl)
    · have := h.ok (m + 1) it2 c2 (by rw [show i + (m + 1) = i + 1 + m by omega]; exact hi2) (by simpa using hc2)
      rw [show i + (m + 1) = i + 1 + m by omega] at this
      exact this
structure LgO (j : Nat) (it : It) (x : (Sx Int)) (w : World) : Prop where
  xs : x.xs = List.replicate it.p.n (mkB j) ++ List.replicate 70 (0 : Int)
  ok : Sx.Ok uC 1 w x
  p : Sx.Ok uC 1 w (⟨it.p.a, it.p.n, it.p.c, List.replicate it.p.n (mkB j)⟩ : (Sx Int))
def LgA (its : List It) (xs : List (Sx Int)) (w : World) : Prop := ∀ (j : Nat) (it : It) (x : (Sx Int)), its[j]? = some it → xs[j]? = some x → LgO j it x w
theorem LgA.snoc {its : List It} {xs : List (Sx Int)} {x : (Sx Int)} {w : World} (h : LgA its xs w) {it : It} (hi : its[xs.length]? = some it) (hx : LgO xs.length it x w) : LgA its (xs ++ [x]) w := fun j it2 x2 h1 h2 => by
  rcases Nat.lt_or_ge j xs.length with h3 | h3
  · rw [List.getElem?_append_left h3] at h2; exact h j it2 x2 h1 h2
  · rw [List.getElem?_append_right h3] at h2
    obtain e : j = xs.length := by
      have := (List.getElem?_eq_some_iff.1 h2).1
      simp at this; omega
    subst e
    rw [Nat.sub_self] at h2
    cases h2
    rw [hi] at h1; cases h1; exact hx
end Go.Proofs.YtdcaojiiaocnaaaGreatDoor
