import Derived.Test.YtdcaojiiaocnaaaGreatDoorQGbiZ
import Derived.Test.YtdcaojiiaocnaaaGreatDoorQGbgZ
import Derived.Lib.AppendStr
import Derived.Test.YtdcaojiiaocnaaaGreatDoorQGamZ
import Derived.Test.YtdcaojiiaocnaaaGreatDoorRows
import Derived.Test.YtdcaojiiaocnaaaGreatDoorQBcM
set_option linter.unusedSimpArgs false
set_option linter.unusedVariables false
namespace Go.Proofs.YtdcaojiiaocnaaaGreatDoor
open Go.RowKit

/-! Rows of bytes of one's own, all apart; a list of slices of one's own. -/
abbrev Bx := Value × List Int
structure Bxs (B : Nat) (us : List Bx) (X : World) : Prop where
  el : ∀ u ∈ us, Ou X B u.1 u.2
  ap : us.Pairwise (fun u u' => ∀ k, u.1.ownBlock = some k → u'.1.ownBlock ≠ some k)
theorem Bxs.perm {B : Nat} {us us' : List Bx} {X : World} (h : Bxs B us X) (hp : us.Perm us') : Bxs B us' X :=
  ⟨fun u hu => h.el u (hp.mem_iff.2 hu), (hp.pairwise_iff (fun {a b} hab k hk hk' => hab k hk' hk)).1 h.ap⟩
theorem Bxs.keep {B : Nat} {us : List Bx} {X X' : World} (h : Bxs B us X) (hk : ∀ u ∈ us, ∀ g, u.1.ownBlock = some g → X'.heap[g]? = X.heap[g]?) : Bxs B us X' :=
  ⟨fun u hu => own_blk (h.el u hu) (fun g hg => hk u hu g hg), h.ap⟩
theorem Bxs.later {B : Nat} {us : List Bx} {X X' : World} (h : Bxs B us X) (hb : Below X.heap.size X X') : Bxs B us X' := h.keep (fun u hu g hg => hb.block g (own_cells (h.el u hu) hg).2.1)
/-- the first grows -/
theorem Bxs.app {B : Nat} {v v' : Value} {xs ys : List Int} {r : List Bx} {X X1 X3 : World} (h : Bxs B ((v, xs) :: r) X) (hX1 : Below X.heap.size X X1) (hO' : Ou X3 B v' ys) (hg : X1.grownBy X3 v.ownBlock) (hl : v'.ownBlock = v.ownBlock ∨ v'.ownBlock = some X1.heap.size) : Bxs B ((v', ys) :: r) X3 := by
  have h0 := List.pairwise_cons.1 h.ap
  have hr : ∀ u ∈ r, ∀ g, u.1.ownBlock = some g → g < X.heap.size ∧ X3.heap[g]? = X.heap[g]? := fun u hu g hg' => by
    have hlt := (own_cells (h.el u (List.mem_cons_of_mem _ hu)) hg').2.1
    have := hX1.size
    exact ⟨hlt, (hg.block g (by omega) (fun e => h0.1 u hu g e.symm hg')).trans (hX1.block g hlt)⟩
  refine ⟨fun u hu => ?_, List.pairwise_cons.2 ⟨fun u hu k hk hk' => ?_, h0.2⟩⟩
  · rcases List.mem_cons.1 hu with rfl | hu
    · exact hO'
    · exact own_blk (h.el u (List.mem_cons_of_mem _ hu)) (fun g hg' => (hr u hu g hg').2)
  · rcases hl with hl | hl
    · rw [hl] at hk; exact h0.1 u hu k hk hk'
    · rw [hl] at hk
      obtain rfl := Option.some.inj hk
      have := (hr u hu _ hk').1
      have := hX1.size; omega
theorem Bxs.nil0 {B : Nat} {v : Value} {xs : List Int} {r : List Bx} {X : World} (h : Bxs B ((v, xs) :: r) X) : Bxs B ((.slice none 0 0, []) :: r) X := by
  have h0 := List.pairwise_cons.1 h.ap
  refine ⟨fun u hu => ?_, List.pairwise_cons.2 ⟨fun u hu k hk => by simp [Value.ownBlock] at hk, h0.2⟩⟩
  rcases List.mem_cons.1 hu with rfl | hu
  · exact ou_nil25 _ _
  · exact h.el u (List.mem_cons_of_mem _ hu)
/-- nothing new beside them -/
theorem Bxs.new0 {B : Nat} {r : List Bx} {X : World} (h : Bxs B r X) : Bxs B ((.slice none 0 0, []) :: r) X := by
  refine ⟨fun u hu => ?_, List.pairwise_cons.2 ⟨fun u hu k hk => by simp [Value.ownBlock] at hk, h.ap⟩⟩
  rcases List.mem_cons.1 hu with rfl | hu
  · exact ou_nil25 _ _
  · exact h.el u hu
/-- what is kept where one of them grows -/
theorem grow_below {B : Nat} {v : Value} {xs : List Value} {e n : Nat} {w X X1 X3 : World} (h : X.ownsRow B e 1 v n xs) (hb : Below B w X) (hX1 : Below X.heap.size X X1) (hg : X1.grownBy X3 v.ownBlock) (hB : B ≤ X.heap.size) : Below B w X3 := by
  refine ⟨hg.os.trans (hX1.os.trans hb.os), hg.tape.trans (hX1.tape.trans hb.tape), hg.output.trans (hX1.output.trans hb.output), ?_, fun k hk => ?_⟩
  · have := hg.size; have := hX1.size; have := hb.size; omega
  · have := hX1.size
    refine (hg.block k (by omega) (fun e' => ?_)).trans ((hX1.block k (by omega)).trans (hb.block k hk))
    have := (own_cells h e'.symm).1; omega
/-- a row of another type stands where one of them grows -/
theorem grow_other {B B' : Nat} {v u : Value} {xs ys : List Value} {e e' n n' : Nat} {X X1 X3 : World} (h : X.ownsRow B e 1 v n xs) (hu : X.ownsRow B' e' 1 u n' ys) (hne : e ≠ e') (hX1 : Below X.heap.size X X1) (hg : X1.grownBy X3 v.ownBlock) : X3.ownsRow B' e' 1 u n' ys := by
  refine own_blk hu (fun g hg' => ?_)
  obtain ⟨-, hlt, cur, hc⟩ := own_cells hu hg'
  have := hX1.size
  refine (hg.block g (by omega) (fun e9 => ?_)).trans (hX1.block g hlt)
  obtain ⟨-, -, cur', hc'⟩ := own_cells h e9.symm
  rw [hc'] at hc
  have h9 := Option.some.inj hc
  simp only [Obj.cells.injEq] at h9
  exact hne h9.2.1

/-! A string laid behind bytes of one's own: where it lies. What ScriptLines holds. -/
theorem ty_u8 : ∃ i, Tryz.prog.info? 5 = some i ∧ i.zero = some (.int .u8 0) ∧ i.size = 1 ∧ i.bytes = 1 := by
  have hq := Tryz.infoBy
  cases hi : Tryz.prog.info? 5 with
  | none => rw [hi] at hq; simp at hq
  | some i =>
    rw [hi] at hq
    simp only [Option.map_some, Option.some.injEq, Prod.mk.injEq] at hq
    exact ⟨i, rfl, hq.1, hq.2.1, hq.2.2⟩
theorem cells_uC (l : List Int) (s : ByteArray) (h : strL s = l) : Lib.strCells s = l.flatMap uC := by
  rw [← h, ← u8_flat]
  unfold Lib.strCells strL U8
  rw [List.map_map]
  rfl
theorem run_appS {w : World} {B : Nat} {v : Value} {l : List Int} (ty : TypeId) (hown : Ou w B v l) (s : ByteArray) (h0 : 0 < s.size) (hb : l.length + s.size ≤ 140737488355328) (hB : B ≤ w.heap.size) :
    ∃ v' w', (Builtin.append_ #[28, 9] ty #[v, .string s]).run Tryz.prog w = .ok v' w' ∧ Ou w' B v' (l ++ strL s) ∧ w.grownBy w' v.ownBlock ∧ (v'.ownBlock = v.ownBlock ∨ v'.ownBlock = some w.heap.size) := by
  obtain ⟨i, hi, hz, hs1, hby⟩ := ty_u8
  have ht := Tryz.underlying28
  have hu := Tryz.underlying9
  obtain ⟨v', w', hr, r1, r2, -⟩ := Lib.run_append_own_string (P := Tryz.prog) w B 28 9 ty 5 i ht hu hi hz hs1 hby v l.length (l.flatMap uC) hown s (by unfold maxLen; omega) hb hB
  refine ⟨v', w', hr, ?_, r2, ?_⟩
  · show w'.ownsRow B _ 1 v' (l ++ strL s).length ((l ++ strL s).flatMap uC)
    rw [List.length_append, strL_length, List.flatMap_append, ← cells_uC (strL s) s rfl]; exact r1
  · have hxl : (l.flatMap uC).length = l.length := by simpa using hown.1
    rcases hown.2 with ⟨rfl, hn⟩ | ⟨g, cap, cur, rfl, hbg, hg, hnc, hcm, hcs, htake⟩
    · have hr2 := run_append_nil_string (P := Tryz.prog) w 28 9 ty 5 i (.int .u8 0) ht hu hi hz s h0 (by omega) (by rw [hby]; omega)
      rw [hr2] at hr
      simp only [Result.ok.injEq] at hr
      rw [← hr.1]; exact .inr rfl
    · by_cases hroom : l.length + s.size ≤ cap
      · have hr2 := Lib.run_append_room_string (P := Tryz.prog) w 28 9 ty 5 i ht hu hi hs1 g l.length cap cur hg s hroom (by simp at hcs; omega)
        rw [hr2] at hr
        simp only [Result.ok.injEq] at hr
        rw [← hr.1]; exact .inl rfl
      · have holds : ∀ j u, (l.flatMap uC)[j]? = some u → w.cell? ((⟨g, 0, none⟩ : Addr).add j) = some u := World.ownsRow.cells hown (g := g) rfl
        have hr2 := Lib.run_append_grow_string (P := Tryz.prog) w 28 9 ty 5 i (.int .u8 0) ht hu hi hz ⟨g, 0, none⟩ l.length cap (l.flatMap uC) (by rw [hs1]; omega) holds s (by omega) (by omega) (by rw [hby]; exact growslice_fits (by omega) (by omega))
        rw [hr2] at hr
        simp only [Result.ok.injEq] at hr
        rw [← hr.1]; exact .inr rfl
theorem wl_appS {ops : Array Oper} {rest : List Oper} {o : Oper} {a : Act} {w : World} {Q : Exit → Act → World → Prop} (hw : Region.wanted o (yielded ops a.tmps) = true) (s x : Operand) (ho : o.op = .call { callee := .builtin .append, args := #[s, x], argTypes := #[28, 9] })
    {B : Nat} {v : Value} {l : List Int} (hs : a.eval s = v) (hown : Ou w B v l) (t : ByteArray) (hx : a.eval x = .string t) (h0 : 0 < t.size) (hb : l.length + t.size ≤ 140737488355328) (hB : B ≤ w.heap.size)
    (h : ∀ v' w', Ou w' B v' (l ++ strL t) → w.grownBy w' v.ownBlock → (v'.ownBlock = v.ownBlock ∨ v'.ownBlock = some w.heap.size) → wpList Tryz.prog ops Q rest (a.put o.dst v') w') : wpList Tryz.prog ops Q (o :: rest) a w := by
  obtain ⟨v', w', hr, r1, r2, r3⟩ := run_appS o.type hown t h0 hb hB
  refine wl hw fun k hk => ?_
  unfold Oper.wp
  simp [execOp, ho, resolve, invoke, builtin, hs, hx, hr, Result.andThen]
  exact hk _ _ (h v' w' r1 r2 r3)
/-- what the law holds: rows of bytes all apart, a list of slices -/
structure Ll (w : World) (us : List Bx) (wv : Value) (es : List Bx) (X : World) : Prop where
  bx : Bxs w.heap.size us X
  ow : X.ownsRow w.heap.size 28 1 wv es.length (es.map (·.1))
  bel : Below w.heap.size w X
theorem Ll.start (w : World) : Ll w [] (.slice none 0 0) [] w := ⟨⟨(fun u hu => by cases hu), List.Pairwise.nil⟩, World.ownsRow_nil w _ _ _, Below.refl _ _⟩
theorem Ll.perm {w X : World} {us us' es : List Bx} {wv : Value} (h : Ll w us wv es X) (hp : us.Perm us') : Ll w us' wv es X := ⟨h.bx.perm hp, h.ow, h.bel⟩
theorem Ll.new0 {w X : World} {us es : List Bx} {wv : Value} (h : Ll w us wv es X) : Ll w ((.slice none 0 0, []) :: us) wv es X := ⟨h.bx.new0, h.ow, h.bel⟩
theorem Ll.drop {w X : World} {us us' es : List Bx} {wv : Value} (h : Ll w us wv es X) (hs : us'.Sublist us) : Ll w us' wv es X := ⟨⟨fun u hu => h.bx.el u (hs.subset hu), h.bx.ap.sublist hs⟩, h.ow, h.bel⟩
theorem Ll.drew {w X : World} {us es : List Bx} {wv : Value} (h : Ll w us wv es X) : Ll w us wv es X.drew :=
  have hb : Below X.heap.size X X.drew := (Below.refl _ _).drew
  ⟨h.bx.later hb, own_blk h.ow (fun g hg => hb.block g (own_cells h.ow hg).2.1), h.bel.drew⟩
theorem Ll.app {w X X1 X3 : World} {v v' : Value} {xs ys : List Int} {r es : List Bx} {wv : Value} (h : Ll w ((v, xs) :: r) wv es X) (hX1 : Below X.heap.size X X1) (hO' : Ou X3 w.heap.size v' ys) (hg : X1.grownBy X3 v.ownBlock) (hl : v'.ownBlock = v.ownBlock ∨ v'.ownBlock = some X1.heap.size) : Ll w ((v', ys) :: r) wv es X3 :=
  have h0 := h.bx.el (v, xs) (by simp)
  ⟨h.bx.app hX1 hO' hg hl, grow_other h0 h.ow (by decide) hX1 hg, grow_below h0 h.bel hX1 hg h.bel.size⟩
theorem Ll.want {w X X1 X3 : World} {u : Bx} {us es : List Bx} {wv wv' : Value} (h : Ll w us wv es X) (hX1 : Below X.heap.size X X1) (ho : X3.ownsRow w.heap.size 28 1 wv' (es.length + 1) (es.map (·.1) ++ [u.1])) (hg : X1.grownBy X3 wv.ownBlock) : Ll w us wv' (es ++ [u]) X3 :=
  ⟨⟨fun q hq => grow_other h.ow (h.bx.el q hq) (by decide) hX1 hg, h.bx.ap⟩, by rw [List.length_append, List.map_append]; exact ho, grow_below h.ow h.bel hX1 hg h.bel.size⟩
theorem Ll.later {w X X' : World} {us es : List Bx} {wv : Value} (h : Ll w us wv es X) (hb : Below X.heap.size X X') : Ll w us wv es X' :=
  ⟨h.bx.later hb, own_blk h.ow (fun g hg => hb.block g (own_cells h.ow hg).2.1), h.bel.trans (hb.mono h.bel.size)⟩
def sbC (s : Sx Int) : List Value := [s.v]
theorem sbC_len (s : Sx Int) : (sbC s).length = 1 := rfl
def bxS (s : Sx Int) : Bx := (s.v, s.xs)
theorem bxS_v : ∀ ws : List (Sx Int), (ws.map bxS).map (·.1) = ws.flatMap sbC
  | [] => rfl
  | s :: r => by rw [List.flatMap_cons, ← bxS_v r]; rfl
theorem bxS_x (ws : List (Sx Int)) : (ws.map bxS).map (·.2) = ws.map (·.xs) := by rw [List.map_map]; rfl
theorem osb_sb : ∀ ws : List (Sx Int), ws.map (·.v) = ws.flatMap sbC
  | [] => rfl
  | s :: r => by rw [List.flatMap_cons, ← osb_sb r]; rfl
/-- the text so far, what has been wanted -/
structure TxI (n : Nat) (tx : List Int) (ws : List (List Int)) : Prop where
  le : tx.length ≤ 404 * n
  by_ : IsB tx
  fo : tx.foldl stepLn ([], []) = (ws, [])
  sm : ∀ x ∈ ws, x.length ≤ 200
theorem TxI.zero : TxI 0 [] [] := ⟨Nat.le_refl _, (fun c hc => by cases hc), rfl, (fun c hc => by cases hc)⟩
/-- a line's part: at most 200 bytes, no line end -/
structure LnK (k : Nat) (l : List Int) : Prop where
  le : l.length ≤ k
  by_ : IsB l
  no : ∀ c ∈ l, c ≠ 10
theorem LnK.zero : LnK 0 [] := ⟨Nat.le_refl _, (fun c hc => by cases hc), (fun c hc => by cases hc)⟩
theorem LnK.skip {k : Nat} {l : List Int} (h : LnK k l) : LnK (k + 1) l := ⟨Nat.le_succ_of_le h.le, h.by_, h.no⟩
theorem LnK.put {k : Nat} {l : List Int} (h : LnK k l) {z : Int} (hz : 0 ≤ z ∧ z ≤ 255) (hn : z ≠ 10) : LnK (k + 1) (l ++ [z]) :=
  ⟨by rw [List.length_append]; have := h.le; simp; omega, fun c hc => by
    rcases List.mem_append.1 hc with hc | hc
    · exact h.by_ c hc
    · obtain rfl : c = z := by simpa using hc
      exact hz, fun c hc => by
    rcases List.mem_append.1 hc with hc | hc
    · exact h.no c hc
    · obtain rfl : c = z := by simpa using hc
      exact hn⟩
theorem TxI.seg {n : Nat} {tx : List Int} {ws : List (List Int)} (h : TxI n tx ws) {k k' : Nat} {l r : List Int} (hl : LnK k l) (hr : LnK k' r) (hk : k ≤ 200) (hk' : k' ≤ 200) : TxI (n + 1) (tx ++ l ++ [10, 35] ++ r ++ [10, 10]) (flushL ws l) := by
  refine ⟨?_, fun c hc => ?_, ?_, fun x hx => ?_⟩
  · have h1 := h.le; have h2 := hl.le; have h3 := hr.le
    simp; omega
  · simp only [List.mem_append] at hc
    rcases hc with (((hc | hc) | hc) | hc) | hc
    · exact h.by_ c hc
    · exact hl.by_ c hc
    · simp at hc; omega
    · exact hr.by_ c hc
    · simp at hc; omega
  · have e : tx ++ l ++ [10, 35] ++ r ++ [10, 10] = tx ++ (l ++ [10, 35] ++ r ++ [10, 10]) := by simp
    rw [e, List.foldl_append, h.fo]
    exact fold_seg ws l r hl.no hr.no
  · unfold flushL at hx
    split at hx
    · rcases List.mem_append.1 hx with hx | hx
      · exact h.sm x hx
      · obtain rfl : x = l := by simpa using hx
        exact Nat.le_trans hl.le hk
    · exact h.sm x hx
theorem TxI.lines {n : Nat} {tx : List Int} {ws : List (List Int)} (h : TxI n tx ws) : linesL tx = ws := by
  unfold linesL stLn
  rw [h.fo]
  show flushL ws [] = ws
  unfold flushL; simp
theorem infoSb25 : (Tryz.prog.info? 28).map (fun i => (i.zero, i.size, i.bytes)) = some (some (.slice none 0 0), 1, 24) := by kernel_rfl
section
variable {ops : Array Oper} {rest : List Oper} {o : Oper} {a : Act} {w w0 : World} {Q : Exit → Act → World → Prop} {rows : List Row} {K : World → Prop}
theorem wl_bs1v (hw : Region.wanted o (yielded ops a.tmps) = true) (x : Operand) (ho : o.op = .buildSlice 24 1 #[(0, x)]) (z : Sx Int) (hx : a.eval x = z.v) (hS : Hs17 w0 rows K w)
    (h : ∀ g w', Hs17 w0 ((g, 28, sbC z) :: rows) K w' → wpList Tryz.prog ops Q rest (a.put o.dst (.slice (some ⟨g, 0, none⟩) 1 1)) w') : wpList Tryz.prog ops Q (o :: rest) a w :=
  wl hw fun k hk => op_bs1G 24 28 x ho Tryz.underlying24 infoSb25 _ (sbC z) hx rfl rfl (by omega) (by omega) hS (fun g w' h1 => hk _ _ (h g w' h1))
theorem wl_appv (hw : Region.wanted o (yielded ops a.tmps) = true) (s x : Operand) (ho : o.op = .call { callee := .builtin .append, args := #[s, x], argTypes := #[24, 24] })
    {base : Nat} {v : Value} {xs : List (Sx Int)} (hs : a.eval s = v) (hown : w.ownsRow base 28 1 v xs.length (xs.flatMap sbC)) (y : Sx (Sx Int)) (hy : Sx.Ok sbC 1 w y) (hx : a.eval x = y.v) (hb : (xs.length + y.n) * 24 ≤ 140737488355328) (hbase : base ≤ w.heap.size)
    (h : ∀ v' w', w'.ownsRow base 28 1 v' (xs ++ y.xs).length ((xs ++ y.xs).flatMap sbC) → w.grownBy w' v.ownBlock → wpList Tryz.prog ops Q rest (a.put o.dst v') w') : wpList Tryz.prog ops Q (o :: rest) a w :=
  wl hw fun k hk => op_appendL s x 24 ho Tryz.underlying24 infoSb25 rfl (by omega) hs hown y hy (fun z _ => sbC_len z) (fun z _ u hu => by simp [sbC] at hu; subst hu; rfl) hx hb (by omega) hbase (fun v' w' h1 h2 _ => hk _ _ (h v' w' h1 h2))
end
theorem arr_sb25 {w : World} {g : Nat} {z : Sx Int} (hA : Arr w g 28 (sbC z)) : Sx.Ok sbC 1 w ⟨some ⟨g, 0, none⟩, 1, 1, [z]⟩ := by
  refine ⟨rfl, Nat.le_refl _, by show 1 ≤ maxLen; unfold maxLen; omega, (fun h => by cases h), fun _ => ⟨g, 0, rfl, hA.lt, fun i x hi j v hv => ?_⟩⟩
  have hc := flat_at (f := sbC) (sz := 1) (fun x _ => sbC_len x) hi j v hv
  rw [Nat.zero_add, hA.cell]
  exact hc
end Go.Proofs.YtdcaojiiaocnaaaGreatDoor

set_option linter.unusedSimpArgs false
set_option linter.unusedVariables false
namespace Go.Proofs.YtdcaojiiaocnaaaGreatDoor
open Go.ChangeShapes Go.WideShapes Go.ChangeAt Go.WideMaps Go.WideElems Go.RowKit

/-! A list of bytes as an argument, with its bulk. -/
theorem bulkPos {H : Type} (d : DataW H) : 0 < Rows.uptoBulk d := by
  rcases d with l | _ | _ | _ | _ | _ | _ | _
  · rcases l with _ | _ | _ | _ | _ <;> simp [Rows.uptoBulk]
  all_goals simp [Rows.uptoBulk]
theorem bulkLen {H : Type} : ∀ l : List (DataW H), l.length ≤ Rows.uptoBulkAll l
  | [] => Nat.zero_le _
  | d :: l => by
    have h1 := bulkLen l
    have h2 := bulkPos d
    simp only [Rows.uptoBulkAll, List.length_cons]
    omega
theorem bulkIn {H : Type} {d : DataW H} : ∀ {l : List (DataW H)}, d ∈ l → Rows.uptoBulk d ≤ Rows.uptoBulkAll l
  | x :: l, h => by
    rcases List.mem_cons.1 h with rfl | h
    · simp only [Rows.uptoBulkAll]; omega
    · have := bulkIn h; simp only [Rows.uptoBulkAll]; omega
section
variable {H : Type} {enc : TypeId × Value → H} {w : World} {held : Bool} {r : Reach} {b0 : Nat} {v : Value} {d : DataW H} {p : List MemPlace}
set_option maxRecDepth 100000 in
theorem open_y25c {m : Nat} {cs : List Value} {x : DataW H × List MemPlace} (h : DataW.trod enc Tryz.prog w 0 (fun _ => true) held m 28 cs = some x) : ∃ y : Sx Int, cs = sbC y ∧ Su w y ∧ IsB y.xs := by
  obtain ⟨v, rfl⟩ : ∃ v, cs = [v] := by
    rcases Deep.open_slice Tryz.underlying28 h with ⟨hcs, _⟩ | ⟨a, len, cap, q, n, D, Pl, hcs, _⟩
    · exact ⟨_, hcs⟩
    · exact ⟨_, hcs⟩
  obtain ⟨s, rfl, hs⟩ := open_y25 h
  exact ⟨s, rfl, hs⟩
set_option maxRecDepth 100000 in
theorem open_ls_u (hv : Value.okWide Tryz.prog w r b0 24 v) (h : DataW.Trod enc Tryz.prog w 0 (fun _ => true) held 24 v d p) : ∃ s : Sx (Sx Int), v = s.v ∧ s.Ok sbC 1 w ∧ (∀ x ∈ s.xs, Su w x ∧ IsB x.xs) ∧ s.n ≤ Rows.uptoBulk d := by
  obtain ⟨m, hm⟩ := h
  have hc : v.cells.toList = [v] := by
    obtain ⟨a, n, c, rfl⟩ := okWide_slice Tryz.underlying24 hv
    rfl
  rw [hc] at hm
  have : Inhabited (Sx Int) := ⟨⟨none, 0, 0, []⟩⟩
  obtain ⟨s, hs, hok, he, -⟩ := open_sx (f := sbC) (sz := 1) (ok := fun x => Su w x ∧ IsB x.xs) (bytes := 24) Tryz.underlying24 (by kernel_rfl) (by kernel_rfl) (by decide) (fun m cs x hx => open_y25c hx) (fun y _ => sbC_len y) hm
  refine ⟨s, hs, hok, he, ?_⟩
  rcases Deep.open_slice Tryz.underlying24 hm with ⟨hcs, _⟩ | ⟨a, len, cap, q, n, D, Pl, hcs, _, hl, hmx, hq, hy, hx⟩
  · simp at hcs
    rw [hs] at hcs
    simp only [Sx.v, Value.slice.injEq] at hcs
    rw [hcs.2.1]; exact Nat.zero_le _
  · simp at hcs
    rw [hs] at hcs
    simp only [Sx.v, Value.slice.injEq] at hcs
    rw [hcs.2.1]
    have hd := congrArg Prod.fst hy
    simp only at hd
    rw [hd]
    simp only [Rows.uptoBulk]
    have h1 := bulkLen ((List.range len).map D)
    simp only [List.length_map, List.length_range] at h1
    omega
end
end Go.Proofs.YtdcaojiiaocnaaaGreatDoor

set_option linter.unusedVariables false
set_option linter.unusedSimpArgs false
namespace Go.Proofs.YtdcaojiiaocnaaaGreatDoor
open Go.RowKit

abbrev Hb25 (z : Int) : Prop := 0 ≤ z ∧ z ≤ 255
theorem Hs17.old' {w0 w : World} {rows : List Row} {K : World → Prop} (h : Hs17 w0 rows K w) : Old w0 w := Old.of h.bel
/-- a row of one's own, read as a slice -/
theorem RowG.sx {α : Type} {f : α → List Value} {sz : Nat} {e : TypeId} {w0 w : World} {rows R : List Row} {K : World → Prop} {s : Sx α} {l : List α} (h : RowG f sz e s l R) (hf : ∀ x ∈ l, (f x).length = sz) (hR : ∀ p ∈ R, p ∈ rows) (hS : Hs17 w0 rows K w) : Sx.Ok f sz w ⟨s.a, s.n, s.c, l⟩ := by
  obtain ⟨sa, sn, sc, sx⟩ := s
  obtain ⟨hl, h⟩ := h
  simp only at hl h ⊢
  rcases h with ⟨rfl, rfl, rfl, rfl⟩ | ⟨g, sp, rfl, hle, hmx, hsz, rfl⟩
  · exact ⟨hl, Nat.le_refl _, Nat.zero_le _, fun _ => ⟨rfl, rfl⟩, fun h => absurd h (by simp)⟩
  · have hA := hS.arr (g, e, l.flatMap f ++ sp) (hR _ (by simp))
    refine ⟨hl, hle, hmx, (fun h => by cases h), fun _ => ⟨g, 0, rfl, hA.lt, fun i x hi j v hv => ?_⟩⟩
    have hc := flat_at hf hi j v hv
    rw [Nat.zero_add, hA.cell]
    rw [List.getElem?_append_left (by have := (List.getElem?_eq_some_iff.1 hc).1; exact this)]
    exact hc
/-! Slices of bytes as elements. -/
def sV (s : (Sx Int)) : List Value := [s.v]
theorem sV_len (s : (Sx Int)) : (sV s).length = 1 := rfl
theorem one_sV (s : (Sx Int)) : ∀ u ∈ sV s, u.oneCell' = true := fun u hu => by simp [sV] at hu; subst hu; rfl
theorem Tryz.infoSH : (Tryz.prog.info? 28).map (fun i => (i.zero, i.size, i.bytes)) = some (some (.slice none 0 0), 1, 24) := by kernel_rfl
/-! The Shelf's cells. -/
def shC (u v : Value) : List Value := [u, v]
theorem Tryz.inSh : (Tryz.prog.info? 26).map (fun i => (i.zero, i.size)) = some (some (aV (shC (.slice none 0 0) (.slice none 0 0))), 2) := by kernel_rfl
theorem at_s0 (u v : Value) : At (shC u v) 0 [u] := ⟨[], [v], rfl, rfl⟩
theorem at_s1 (u v : Value) : At (shC u v) 1 [v] := ⟨[u], [], rfl, rfl⟩
theorem pt_s0 (u v x : Value) : Pt (shC u v) 0 [x] (shC x v) := ⟨[], [u], [v], rfl, rfl, rfl, rfl⟩
theorem pt_s1 (u v x : Value) : Pt (shC u v) 1 [x] (shC u x) := ⟨[u], [v], [], rfl, rfl, rfl, rfl⟩
theorem Tryz.in1SS : (Tryz.prog.info? 24).map (·.size) = some 1 := by kernel_rfl
theorem Tryz.in1SH : (Tryz.prog.info? 28).map (·.size) = some 1 := by kernel_rfl
/-- what was put: the answer, its copy, the hashes, the answer's rows -/
structure It where (p q : (Sx Int)) (ls : List Int) (R : List Row)
structure It.Ok (it : It) : Prop where
  row : RowG uC 1 5 it.p it.ls it.R
  q : it.q.xs = it.ls
  hs : ∀ l ∈ it.ls, Hb25 l
  sz : it.ls.length ≤ 100000
def itRs (its : List It) : List Row := its.flatMap It.R
/-- the shelf -/
structure ShS (w0 : World) (gS : Nat) (its : List It) (rest : List Row) (K : World → Prop) (L W : Sx (Sx Int)) (RL RW : List Row) (w : World) : Prop where
  lt : RowG sV 1 28 L (its.map It.p) RL
  wt : RowG sV 1 28 W (its.map It.q) RW
  s : Hs17 w0 ((gS, 26, shC L.v W.v) :: (rest ++ (itRs its ++ (RL ++ RW)))) (fun w' => K w' ∧ ∀ it ∈ its, Sx.Ok uC 1 w' it.q) w
  ok : ∀ it ∈ its, it.Ok
end Go.Proofs.YtdcaojiiaocnaaaGreatDoor
