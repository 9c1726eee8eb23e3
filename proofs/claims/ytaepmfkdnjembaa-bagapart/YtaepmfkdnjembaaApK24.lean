import Derived.Test.YtaepmfkdnjembaaHxM
import Derived.Test.YtaepmfkdnjembaaOrM24
import Derived.Laws.AppendOwn
set_option linter.unusedSimpArgs false
set_option linter.unusedVariables false
namespace Go.Proofs.Ytaepmfkdnjembaa
open Go.RowKit

/-! What a row of one's own is gone on with: the old row stands. -/
theorem run_append_kept24 {P : Program} (w : World) (base : Nat) (t ty e : TypeId) (i : TypeInfo) (z : Value) (size bytes : Nat) (ht : P.underlying t = some (.slice e)) (hi : P.info? e = some i) (hz : i.zero = some z)
    (hsize : i.size = size) (hby : i.bytes = bytes) (hzs : z.cells.size = size) (hsz : 0 < size)
    (v : Value) (n : Nat) (xs : List Value) (hown : w.ownsRow base e size v n xs)
    (a : Addr) (m c : Nat) (news : List Value) (hl : news.length = m * size) (hnews : ∀ j u, news[j]? = some u → w.cell? (a.add j) = some u) (h1 : ∀ u ∈ news, u.oneCell' = true)
    (h63 : n + m ≤ maxLen) (hbytes : (n + m) * bytes ≤ 140737488355328) (hbase : base ≤ w.heap.size) :
    ∃ v' w', (Builtin.append_ #[t, t] ty #[v, .slice (some a) m c]).run P w = .ok v' w' ∧ w'.ownsRow base e size v' (n + m) (xs ++ news) ∧ w.grownBy w' v.ownBlock ∧ w'.ownsRow base e size v n xs := by
  obtain ⟨v', w', hr, h2, h3, h4⟩ := run_append_own (P := P) w base t ty e i z size bytes ht hi hz hsize hby hzs hsz v n xs hown a m c news hl hnews h1 h63 hbytes hbase
  refine ⟨v', w', hr, h2, h3, ?_⟩
  subst hsize
  subst hby
  have hsmall : n + m ≤ 9223372036854775807 := by simp only [maxLen] at h63; omega
  rcases hown.2 with ⟨rfl, rfl⟩ | ⟨g, cap, cur, rfl, hbg, hg, hnc, hcm, hcs, htake⟩
  · exact ⟨hown.1, .inl ⟨rfl, rfl⟩⟩
  · by_cases hroom : n + m ≤ cap
    · have hfit : n * i.size + news.length ≤ cur.size := by rw [hl, hcs, ← Nat.add_mul]; exact Nat.mul_le_mul_right _ hroom
      have hr2 := run_append_room (P := P) w t ty e i ht hi g n cap cur hg a m c news hl hnews h1 hroom hfit
      rw [hr] at hr2
      injection hr2 with e1 e2
      rw [e2]
      refine ⟨hown.1, .inr ⟨g, cap, _, rfl, hbg, setRow_heap w g cur _ e _ hg, hnc, hcm, ?_, ?_⟩⟩
      · simp only [List.size_toArray, List.length_append, List.length_take, List.length_drop, Array.length_toList]
        omega
      · rw [htake, ← hown.1, List.append_assoc]
        exact List.take_left
    · have holds : ∀ j u, xs[j]? = some u → w.cell? ((⟨g, 0, none⟩ : Addr).add j) = some u := hown.cells (g := g) rfl
      have hr2 := run_append_grow (P := P) w t ty e i z ht hi hz ⟨g, 0, none⟩ n cap xs hown.1 holds a m c news hl hnews (by omega) (by omega) (growslice_fits (by omega) hbytes)
      rw [hr] at hr2
      injection hr2 with e1 e2
      rw [e2]
      have hgl : g < w.heap.size := (hown.lt g rfl).2
      exact ⟨hown.1, .inr ⟨g, cap, cur, rfl, hbg, (heap_alloc_old w.drew _ hgl).trans hg, hnc, hcm, hcs, htake⟩⟩
/-- the rows behind it -/
theorem Hs17.kept24 {w0 w w' : World} {rows R : List Row} {K : World → Prop} {s : Sx Int} {l : List Int} (hS : Hs17 w0 (rows ++ R) K w) (hR : RowG uC 1 5 s l R) (hg : w.grownBy w' s.v.ownBlock) (hO : Ou w' w0.heap.size s.v l) :
    ∃ R', RowG uC 1 5 s l R' ∧ Hs17 w0 (rows ++ R') K w' := by
  obtain ⟨sa, sn, sc, sx⟩ := s
  obtain ⟨hl, hR0⟩ := hR
  simp only at hl hR0
  rcases hR0 with ⟨rfl, rfl, rfl, rfl⟩ | ⟨g, sp, rfl, hle, hmx, hsz, rfl⟩
  · exact ⟨[], ⟨hl, .inl ⟨rfl, rfl, rfl, rfl⟩⟩, hS.later (grown_none hg)⟩
  · rcases hO.2 with ⟨hv, -⟩ | ⟨g', cap, cur, hv, hbg, hgg, hle', hmx', hsz', ht⟩
    · cases hv
    · simp only [Sx.v, Value.slice.injEq, Option.some.injEq, Addr.mk.injEq] at hv
      obtain ⟨⟨rfl, -, -⟩, -, rfl⟩ := hv
      have hcur : cur.toList = l.flatMap uC ++ cur.toList.drop (l.length * 1) := by
        rw [← ht]; exact (List.take_append_drop _ _).symm
      have hA : Arr w' g 5 (l.flatMap uC ++ cur.toList.drop (l.length * 1)) := by
        unfold Arr
        rw [← hcur]; simpa using hgg
      have hb : But g w w' := ⟨hg.os, hg.tape, hg.output, hg.size, fun k hk hne => hg.block k hk (fun e => hne (by cases e; rfl))⟩
      refine ⟨[(g, 5, l.flatMap uC ++ cur.toList.drop (l.length * 1))], ⟨hl, .inr ⟨g, _, rfl, hle, hmx, by rw [← hcur]; simpa using hsz', rfl⟩⟩, ?_⟩
      have h9 := hS.chg rows.length (g := g) (t := 5) (c := l.flatMap uC ++ sp) (by simp) hA hb
      simpa using h9
section
variable {ops : Array Oper} {rest : List Oper} {o : Oper} {a : Act} {w w0 : World} {Q : Exit → Act → World → Prop} {rows R : List Row} {K : World → Prop} {k : Act → World → Prop}
/-- append of bytes to a row of one's own that is read again -/
theorem wl_appK (hw : Region.wanted o (yielded ops a.tmps) = true) (s x : Operand) (ho : o.op = .call { callee := .builtin .append, args := #[s, x], argTypes := #[27, 27] })
    {p : Sx Int} {l : List Int} (hR : RowG uC 1 5 p l R) (hS : Hs17 w0 (rows ++ R) K w) (hs : a.eval s = p.v) (y : Sx Int) (hy : Su w y) (hx : a.eval x = y.v) (hb : l.length + y.n ≤ 1048576) (hyn : y.a ≠ none)
    (h : ∀ (z : Sx Int) w' R', z.xs = l ++ y.xs → Su w' z → RowG uC 1 5 p l R' → Hs17 w0 (rows ++ R') K w' → wpList Try.prog ops Q rest (a.put o.dst z.v) w') : wpList Try.prog ops Q (o :: rest) a w := by
  obtain ⟨i, hi, hz, hsz, hby⟩ : ∃ i, Try.prog.info? 5 = some i ∧ i.zero = some (.int .u8 0) ∧ i.size = 1 ∧ i.bytes = 1 := by
    have hq := Try.infoBy
    cases hi : Try.prog.info? 5 with
    | none => rw [hi] at hq; simp at hq
    | some i =>
      rw [hi] at hq
      simp only [Option.map_some, Option.some.injEq, Prod.mk.injEq] at hq
      exact ⟨i, rfl, hq.1, hq.2.1, hq.2.2⟩
  have hO : Ou w w0.heap.size p.v l := hR.own (fun x _ => uC_len x) hS
  obtain ⟨ya, yn, yc, yx⟩ := y
  obtain ⟨ad, rfl⟩ : ∃ ad, ya = some ad := by
    cases ya with
    | none => exact absurd rfl hyn
    | some ad => exact ⟨ad, rfl⟩
  have hyl := hy.len
  simp only at hyl hb
  have hc1 : ∀ j u, (yx.flatMap uC)[j]? = some u → w.cell? (ad.add j) = some u := fun j u hu => by
    have hpos : 0 < yx.length := by
      rcases Nat.eq_zero_or_pos yx.length with h0 | h0
      · rw [List.eq_nil_of_length_eq_zero h0] at hu; simp at hu
      · exact h0
    obtain ⟨b, off, e2, -, -⟩ := hy.lies (by show 0 < yn; omega)
    cases e2
    rw [addr_add]
    exact hy.flat (fun z _ => uC_len z) (by omega) rfl j u hu
  have hc2 : ∀ u ∈ yx.flatMap uC, u.oneCell' = true := fun u hu => by
    obtain ⟨z, hz, hu⟩ := List.mem_flatMap.1 hu
    exact one_u z u hu
  obtain ⟨v', w', hr, r1, r2, r3⟩ := run_append_kept24 (P := Try.prog) w w0.heap.size 27 o.type 5 i (.int .u8 0) 1 1 Try.underlying27 hi hz hsz hby rfl (by omega) p.v l.length (l.flatMap uC) hO ad yn yc (yx.flatMap uC) (by rw [flat_len (fun z _ => uC_len z), hyl]) hc1 hc2 (by unfold maxLen; omega) (by omega) hS.bel.size
  obtain ⟨R', hR', hS'⟩ := hS.kept24 hR r2 r3
  have e1 : l.length + yn = (l ++ yx).length := by rw [List.length_append, hyl]
  have e2 : l.flatMap uC ++ yx.flatMap uC = (l ++ yx).flatMap uC := by rw [List.flatMap_append]
  rw [e1, e2] at r1
  obtain ⟨z, rfl, hzx, hzo, -⟩ := own_sx r1 (fun z _ => uC_len z)
  refine wl hw fun k hk => ?_
  unfold Oper.wp
  simp [execOp, ho, resolve, invoke, builtin, hs, hx, Sx.v, Result.andThen]
  have hr' : (Builtin.append_ #[27, 27] o.type #[.slice p.a p.n p.c, .slice (some ad) yn yc]).run Try.prog w = .ok z.v w' := hr
  simp [hr']
  exact hk _ _ (h z w' R' hzx hzo hR' hS')
/-- append of so many zero messages to a row of one's own -/
theorem run_append_zeros24 {P : Program} (w : World) (base : Nat) (t u ty e : TypeId) (i : TypeInfo) (z : Value) (size bytes : Nat) (ht : P.underlying t = some (.slice e)) (hu : P.underlying u = some (.int .i64)) (hi : P.info? e = some i) (hz : i.zero = some z)
    (hsize : i.size = size) (hby : i.bytes = bytes) (hzs : z.cells.size = size) (hsz : 0 < size)
    (v : Value) (n : Nat) (xs : List Value) (hown : w.ownsRow base e size v n xs) (m : Nat) (hm : 0 < m) (hmb : m ≤ 1000) (Z : List Value) (hZ : Builtin.zeroCells z.cells m = Z.toArray) (h1 : ∀ u ∈ Z, u.oneCell' = true)
    (h63 : n + m ≤ maxLen) (hbytes : (n + m) * bytes ≤ 140737488355328) (hbase : base ≤ w.heap.size) :
    ∃ v' w', (Builtin.append_ #[t, u] ty #[v, .int .i64 m]).run P w = .ok v' w' ∧ w'.ownsRow base e size v' (n + m) (xs ++ Z) ∧ w.grownBy w' v.ownBlock ∧ (v'.ownBlock = v.ownBlock ∨ v'.ownBlock = some w.heap.size) := by
  subst hsize
  subst hby
  have hl : Z.length = m * i.size := by
    have := congrArg Array.size hZ
    rw [size_zeroCells, hzs] at this
    simpa using this.symm
  have hsmall : n + m ≤ 9223372036854775807 := by simp only [maxLen] at h63; omega
  have hlen : (xs ++ Z).length = (n + m) * i.size := by rw [List.length_append, hown.1, hl, Nat.add_mul]
  have hbm : m * i.bytes ≤ 140737488355328 := Nat.le_trans (Nat.mul_le_mul_right _ (by omega)) hbytes
  have hw : IntKind.i64.wrap (m : Int) = m := by rw [IntKind.wrap_i64]; omega
  have hm0 : ¬ ((m : Int) < 0) := by omega
  have hmx : max (m : Int) 0 = m := by omega
  have hmt : ((m : Int)).toNat = m := by omega
  have hm1 : ¬ (281474976710656 < (m : Int) * (i.bytes : Int)) := by
    have : (m : Int) * (i.bytes : Int) = ((m * i.bytes : Nat) : Int) := by simp
    rw [this]; omega
  have hm2 : ¬ (m * i.size = 0) := by have := Nat.mul_pos hm hsz; omega
  have grown : ∀ (old : Nat), old < n + m → ∀ (row : Option Nat),
      (w.drew.alloc (.cells (xs.toArray ++ Z.toArray ++ Builtin.zeroCells z.cells (grownCap w (n + m) old e - (n + m))) e)).ownsRow base e i.size
        (.slice (some ⟨w.heap.size, 0, none⟩) (n + m) (grownCap w (n + m) old e)) (n + m) (xs ++ Z) ∧
      w.grownBy (w.drew.alloc (.cells (xs.toArray ++ Z.toArray ++ Builtin.zeroCells z.cells (grownCap w (n + m) old e - (n + m))) e)) row := by
    intro old ho row
    have hge := grownCap_ge w (n + m) old e
    have hcm : grownCap w (n + m) old e ≤ maxLen := grownCap_le_maxLen w (n + m) old e h63
    refine ⟨⟨hlen, .inr ⟨w.heap.size, _, _, rfl, hbase, heap_alloc_new w.drew _, hge, hcm, ?_, ?_⟩⟩, ⟨rfl, rfl, rfl, by simp, fun k hk _ => Below.heap_alloc w _ k hk⟩⟩
    · simp only [Array.size_append, List.size_toArray, size_zeroCells, hzs, hown.1, hl, ← Nat.add_mul]
      congr 1
      omega
    · simp only [Array.toList_append, List.append_assoc]
      rw [← List.append_assoc, ← hlen]
      exact List.take_left
  rcases hown.2 with ⟨rfl, rfl⟩ | ⟨g, cap, cur, rfl, hbg, hg, hnc, hcm, hcs, htake⟩
  · have hx : xs = [] := List.eq_nil_of_length_eq_zero (by simpa using hown.1)
    subst hx
    have hr : ¬ (0 + m ≤ 0) := by omega
    have h63' : ¬ (9223372036854775807 < (m : Int)) := by omega
    have hfit : Builtin.nextslicecap (0 + m) 0 * i.bytes ≤ 281474976710656 := growslice_fits (by omega) hbytes
    have h48' : ¬ (281474976710656 < Builtin.nextslicecap m 0 * i.bytes) := by rw [Nat.zero_add] at hfit; omega
    have hgr := grown 0 (by omega) (Value.ownBlock (.slice none 0 0))
    refine ⟨.slice (some ⟨w.heap.size, 0, none⟩) (0 + m) (grownCap w (0 + m) 0 e), _, ?_, hgr.1, hgr.2, .inr rfl⟩
    have hm9 : ¬ m = 0 := by omega
    simp [Builtin.append_, run_underlying ht, run_underlying hu, sizeOf, typeInfo, zeroValue, hi, hz, asInt, asIntOf, hw, hmx, hmt, hm0, hm1, hm2, hm9, h63', h48', Question.forced, newRow, grownCap, hZ, Builtin.firstCells]
  · by_cases hroom : n + m ≤ cap
    · have hfit : n * i.size + Z.length ≤ cur.size := by rw [hl, hcs, ← Nat.add_mul]; exact Nat.mul_le_mul_right _ hroom
      have hst := run_storeCells_at P g (n * i.size) e Z 0 cur w hg (by simpa using hfit) h1
      simp only [Nat.add_zero] at hst
      have hr : (Builtin.append_ #[t, u] ty #[.slice (some ⟨g, 0, none⟩) n cap, .int .i64 m]).run P w = .ok (.slice (some ⟨g, 0, none⟩) (n + m) cap) (w.setRow g (cur.toList.take (n * i.size) ++ Z ++ cur.toList.drop (n * i.size + Z.length)).toArray) := by
        simp [Builtin.append_, run_underlying ht, run_underlying hu, sizeOf, typeInfo, zeroValue, hi, hz, asInt, asIntOf, hw, hmx, hmt, hm0, hm1, hm2, hroom, hZ, Addr.add_lit, hst]
      refine ⟨_, _, hr, ⟨hlen, .inr ⟨g, cap, _, rfl, hbg, setRow_heap w g cur _ e _ hg, hroom, hcm, ?_, ?_⟩⟩, ⟨rfl, rfl, rfl, by simp, fun k _ hk => setRow_other w g k _ (fun e => hk (by simp [Value.ownBlock, e]))⟩, .inl rfl⟩
      · simp only [List.size_toArray, List.length_append, List.length_take, List.length_drop, Array.length_toList]
        omega
      · rw [htake, ← hlen]
        exact List.take_left
    · have holds : ∀ j u, xs[j]? = some u → w.cell? ((⟨g, 0, none⟩ : Addr).add j) = some u := hown.cells (g := g) rfl
      have h63' : ¬ (9223372036854775807 < ((n : Int) + (m : Int))) := by omega
      have hfit := growslice_fits (need := n + m) (old := cap) (bytes := i.bytes) (by omega) hbytes
      have h48' : ¬ (281474976710656 < Builtin.nextslicecap (n + m) cap * i.bytes) := by omega
      have hfo := run_firstCells_some (P := P) w.drew i.size n ⟨g, 0, none⟩ n cap xs hown.1 (by simpa using holds)
      have hgr := grown cap (by omega) (Value.ownBlock (.slice (some ⟨g, 0, none⟩) n cap))
      refine ⟨.slice (some ⟨w.heap.size, 0, none⟩) (n + m) (grownCap w (n + m) cap e), _, ?_, hgr.1, hgr.2, .inr rfl⟩
      simp [Builtin.append_, run_underlying ht, run_underlying hu, sizeOf, typeInfo, zeroValue, hi, hz, asInt, asIntOf, hw, hmx, hmt, hm0, hm1, hm2, hroom, h63', h48', Question.forced, hfo, newRow, grownCap, hZ]
      congr 2
      apply Array.ext'
      simp [List.append_assoc]
theorem zero64 : Builtin.zeroCells (aV (msC 0 0 0 (.slice none 0 0))).cells 64 = ((List.replicate 64 zM).flatMap mC).toArray := by kernel_rfl
theorem wl_appZm (hw : Region.wanted o (yielded ops a.tmps) = true) (s : Operand) (ho : o.op = .call { callee := .builtin .append, args := #[s, .const (.int .i64 64)], argTypes := #[33, 3] })
    {p : Sx Ms} {l : List Ms} (hR : RowG mC 4 32 p l R) (hS : Hs17 w0 (rows ++ R) K w) (hs : a.eval s = p.v) (hn : l.length ≤ 100000)
    (h : ∀ (z : Sx Ms) w' R', z.n = l.length + 64 → RowG mC 4 32 z (l ++ List.replicate 64 zM) R' → Hs17 w0 (rows ++ R') K w' → wpList Try.prog ops Q rest (a.put o.dst z.v) w') : wpList Try.prog ops Q (o :: rest) a w := by
  obtain ⟨i, hi, hz, hsz, hby⟩ : ∃ i, Try.prog.info? 32 = some i ∧ i.zero = some (aV (msC 0 0 0 (.slice none 0 0))) ∧ i.size = 4 ∧ i.bytes = 48 := by
    have hq := Try.infoMs
    cases hi : Try.prog.info? 32 with
    | none => rw [hi] at hq; simp at hq
    | some i =>
      rw [hi] at hq
      simp only [Option.map_some, Option.some.injEq, Prod.mk.injEq] at hq
      exact ⟨i, rfl, hq.1, hq.2.1, hq.2.2⟩
  have hO := hR.own (fun x _ => mC_len x) hS
  obtain ⟨v', w', hr, r1, r2, r3⟩ := run_append_zeros24 (P := Try.prog) w w0.heap.size 33 3 o.type 32 i (aV (msC 0 0 0 (.slice none 0 0))) 4 48 Try.underlying33 Try.underlying3 hi hz hsz hby rfl (by omega) p.v l.length _ hO 64 (by omega) (by omega) ((List.replicate 64 zM).flatMap mC) zero64 (fun u hu => by
    obtain ⟨y, -, hy⟩ := List.mem_flatMap.1 hu
    exact one_m y u hy) (by unfold maxLen; omega) (by omega) hS.bel.size
  have e1 : l.length + 64 = (l ++ List.replicate 64 zM).length := by simp
  have e2 : l.flatMap mC ++ (List.replicate 64 zM).flatMap mC = (l ++ List.replicate 64 zM).flatMap mC := by rw [List.flatMap_append]
  rw [e1, e2] at r1
  obtain ⟨z, R', rfl, hR', hS'⟩ := hS.regrow (l' := l ++ List.replicate 64 zM) hR (fun x _ => mC_len x) r2 r1 r3
  have hzn : z.n = l.length + 64 := by rw [← hR'.1, e1]
  refine wl hw fun k hk => ?_
  have hc : a.eval (.const (.int .i64 64)) = .int .i64 64 := rfl
  have hr' : (Builtin.append_ #[33, 3] o.type #[p.v, .int .i64 64]).run Try.prog w = .ok z.v w' := hr
  unfold Oper.wp
  simp [execOp, ho, resolve, invoke, builtin, hs, hc, hr', Result.andThen]
  exact hk _ _ (h z w' R' hzn hR' hS')
end
/-- one of what was told, ahead of the others, and back -/
theorem Hs17.exFront {w0 w : World} {rows : List Row} {B gb mb last : Nat} {ms pre post : List Ms} {x : Ms} (hS : Hs17 w0 rows (BagW B gb mb ms (pre ++ x :: post) last) w) : Hs17 w0 rows (BagW B gb mb ms (x :: (pre ++ post)) last) w := hS.weak (fun _ h => h.perm List.perm_middle)
theorem Hs17.exBack {w0 w : World} {rows : List Row} {B gb mb last : Nat} {ms pre post : List Ms} {x : Ms} (hS : Hs17 w0 rows (BagW B gb mb ms (x :: (pre ++ post)) last) w) : Hs17 w0 rows (BagW B gb mb ms (pre ++ x :: post) last) w := hS.weak (fun _ h => h.perm List.perm_middle.symm)
end Go.Proofs.Ytaepmfkdnjembaa
