import Derived.Test.YtdcaojiiaocnaaaGreatDoorQCuW25
import Derived.Test.YtdcaojiiaocnaaaGreatDoorQPsW25
import Derived.Test.YtdcaojiiaocnaaaGreatDoorQGbfZ
import Derived.Test.YtdcaojiiaocnaaaGreatDoorQPrW25
import Derived.Test.YtdcaojiiaocnaaaGreatDoorQFtW
import Derived.Test.YtdcaojiiaocnaaaGreatDoorQGbvZ
import Derived.Test.YtdcaojiiaocnaaaGreatDoorQShP25
import Derived.Test.YtdcaojiiaocnaaaGreatDoorQGbgZ
import Derived.Test.YtdcaojiiaocnaaaGreatDoorQGbjZ
import Derived.Deep.DeepCutAuto
import Derived.Deep.QuietTactic
import Derived.BigQuiet
import Derived.Test.YtdcaojiiaocnaaaGreatDoorQGamZ
set_option linter.unusedSimpArgs false
set_option linter.unusedVariables false
namespace Go.Proofs.YtdcaojiiaocnaaaGreatDoor
open Go.RowKit

/-! A step's cells. -/
def spC (t l : Value) (k n o c p : Int) (b : Value) (e : Int) (r : Value) : List Value := [t, l, .int .i64 k, .int .i64 n, .int .i64 o, .int .i64 c, .int .i64 p, b, .int .i64 e, r]
theorem at_P0 (t l : Value) (k n o c p : Int) (b : Value) (e : Int) (r : Value) : At (spC t l k n o c p b e r) 0 [t] := ⟨[], _, rfl, rfl⟩
theorem at_P1 (t l : Value) (k n o c p : Int) (b : Value) (e : Int) (r : Value) : At (spC t l k n o c p b e r) 1 [l] := ⟨[t], _, rfl, rfl⟩
theorem at_P2 (t l : Value) (k n o c p : Int) (b : Value) (e : Int) (r : Value) : At (spC t l k n o c p b e r) 2 (opC k n o c p b) := ⟨[t, l], [.int .i64 e, r], rfl, rfl⟩
theorem at_P3 (t l : Value) (k n o c p : Int) (b : Value) (e : Int) (r : Value) : At (spC t l k n o c p b e r) 8 (reC e r) := ⟨[t, l, .int .i64 k, .int .i64 n, .int .i64 o, .int .i64 c, .int .i64 p, b], [], rfl, rfl⟩
theorem sz_P (t l : Value) (k n o c p : Int) (b : Value) (e : Int) (r : Value) : (Tryz.prog.info? 36).map (·.size) = some (spC t l k n o c p b e r).length := by show _ = some 10; kernel_rfl
theorem b_Y (e : Int) (a : Option Addr) (n c : Nat) : Tryz.prog.built 34 [(0, .int .i64 e), (1, .slice a n c)] = some (reC e (.slice a n c)).toArray := by kernel_rfl
theorem Tryz.infoIn : (Tryz.prog.info? 2).map (fun i => (i.zero, i.size, i.bytes)) = some (some (.int .i64 0), 1, 8) := by kernel_rfl
/-! What is read. -/
theorem prP_ex {l : List Int} {w w' : World} {e : Ending} {k1 n1 o1 c1 p1 : Int} {b1 : List Int} {z y : Int} (hR : parseL l = (⟨k1, n1, o1, c1, p1, b1⟩, z, y)) (h : PrP l w e w') :
    ∃ (xa : Option Addr) (xn xc : Nat), e = .returned (.tuple #[aV (opC k1 n1 o1 c1 p1 (.slice xa xn xc)), .int .i64 z, .int .i64 y]) ∧ Ou w' w.heap.size (.slice xa xn xc) b1 ∧ Below w.heap.size w w' := by
  unfold PrP at h
  rw [hR] at h
  obtain ⟨⟨xa, xn, xc, xl⟩, h1, h2, h3, h4⟩ := h
  simp only [Sx.v] at h1 h2 h3
  subst h2
  exact ⟨xa, xn, xc, h1, h3, h4⟩
theorem parse_fin2 {l : List Int} {k1 n1 o1 c1 p1 : Int} {b1 : List Int} {z y : Int} (hR : parseL l = (⟨k1, n1, o1, c1, p1, b1⟩, z, y)) : b1.length ≤ 2200 ∧ ∀ x ∈ b1, Hb25 x := by
  have h := parse_fin l
  rw [hR] at h
  exact ⟨h.le, fun x hx => h.by_ x hx⟩
theorem own_len25 {w : World} {B n c : Nat} {a : Option Addr} {l : List Int} (h : Ou w B (.slice a n c) l) : l.length = n := (Ou.ok (s := ⟨a, n, c, l⟩) h).len
/-- bytes of one's own become a row -/
theorem Hs17.ownR {w0 w w' : World} {rows : List Row} {K : World → Prop} {xa : Option Addr} {xn xc : Nat} {l : List Int} (hS : Hs17 w0 rows K w) (hb : Below w.heap.size w w') (hO : Ou w' w.heap.size (.slice xa xn xc) l) : ∃ R, RowG uC 1 5 (⟨xa, xn, xc, l⟩ : Sx Int) l R ∧ Hs17 w0 (rows ++ R) K w' :=
  Hs17.ownG (s := ⟨xa, xn, xc, l⟩) (own_len25 hO) hS hb hO
theorem own_ints {w : World} {B n c : Nat} {a : Option Addr} {l : List Int} (h : w.ownsRow B 2 1 (.slice a n c) l.length (l.flatMap iC)) : Sx.Ok iC 1 w ⟨a, n, c, l⟩ := by
  obtain ⟨⟨a', n', c', xs'⟩, e, hx, hs, -⟩ := own_sx h (fun x _ => iC_len x)
  simp only [Sx.v, Value.slice.injEq] at e hx
  obtain ⟨rfl, rfl, rfl⟩ := e
  subst hx
  exact hs
theorem own_form25 {w : World} {B : Nat} {v : Value} {l : List Int} (h : w.ownsRow B 2 1 v l.length (l.flatMap iC)) : ∃ a c, v = .slice a l.length c := by
  obtain ⟨⟨a', n', c', xs'⟩, e, hx, hs, -⟩ := own_sx h (fun x _ => iC_len x)
  subst hx
  have := hs.len
  simp only at this
  exact ⟨a', c', by rw [e, this]; rfl⟩
theorem none_ints (w : World) : (w.alloc (.cells #[] 2)).ownsRow w.heap.size 2 1 (.slice (some ⟨w.heap.size, 0, none⟩) 0 0) ([] : List Int).length (([] : List Int).flatMap iC) :=
  World.ownsRow_made w #[] 0 (Nat.le_refl _) (by unfold maxLen; omega) rfl
section
variable {ops : Array Oper} {tl : List Oper} {o : Oper} {a : Act} {w : World} {Q : Exit → Act → World → Prop}
theorem wl_appi25 (hw : Region.wanted o (yielded ops a.tmps) = true) (s x : Operand) (ho : o.op = .call { callee := .builtin .append, args := #[s, x], argTypes := #[32, 32] })
    {base : Nat} {v : Value} {xs : List Int} (hs : a.eval s = v) (hown : w.ownsRow base 2 1 v xs.length (xs.flatMap iC)) (y : Sx Int) (hy : Sx.Ok iC 1 w y) (hx : a.eval x = y.v) (hb : (xs.length + y.n) * 8 ≤ 140737488355328) (hbase : base ≤ w.heap.size)
    (h : ∀ v' w', w'.ownsRow base 2 1 v' (xs ++ y.xs).length ((xs ++ y.xs).flatMap iC) → w.grownBy w' v.ownBlock → wpList Tryz.prog ops Q tl (a.put o.dst v') w') : wpList Tryz.prog ops Q (o :: tl) a w :=
  wl hw fun k hk => op_appendL s x 32 ho Tryz.underlying32 Tryz.infoIn rfl (by omega) hs hown y hy (fun z _ => iC_len z) (fun z _ u hu => by simp [iC] at hu; subst hu; rfl) hx hb (by omega) hbase (fun v' w' h1 h2 _ => hk _ _ (h v' w' h1 h2))
end
/-! Rows in another order. -/
theorem perm_p1 {α : Type} (x y z s : α) (A Z F O : List α) : (x :: y :: z :: (((s :: (A ++ Z)) ++ F) ++ O)).Perm (s :: ((O ++ (x :: y :: z :: (A ++ F))) ++ Z)) := by
  classical
  refine List.perm_iff_count.2 (fun a => ?_)
  simp only [List.count_append, List.count_cons]; omega
theorem perm_p2 {α : Type} (x y z s : α) (A Z F : List α) : (s :: ((x :: y :: z :: (A ++ F)) ++ Z)).Perm (x :: y :: z :: ((s :: (A ++ Z)) ++ F)) := by
  classical
  refine List.perm_iff_count.2 (fun a => ?_)
  simp only [List.count_append, List.count_cons]; omega
theorem perm_p3 {α : Type} (x y z : α) (T R : List α) : (x :: y :: z :: (T ++ R)).Perm (R ++ (x :: y :: z :: T)) := by
  classical
  refine List.perm_iff_count.2 (fun a => ?_)
  simp only [List.count_append, List.count_cons]; omega
theorem RowG.some25 {s : Sx Int} {l : List Int} {R : List Row} (h : RowG uC 1 5 s l R) (hn : 0 < s.n) : ∃ g, s.a = some ⟨g, 0, none⟩ := by
  rcases h.2 with ⟨-, h0, -, -⟩ | ⟨g, sp, h1, -⟩
  · omega
  · exact ⟨g, h1⟩
end Go.Proofs.YtdcaojiiaocnaaaGreatDoor

set_option linter.unusedSimpArgs false
set_option linter.unusedVariables false
namespace Go.Proofs.YtdcaojiiaocnaaaGreatDoor
open Go.ChangeShapes Go.WideShapes Go.ChangeAt Go.WideMaps Go.WideElems Go.RowKit

/-! Steps as an argument, with their bulk. -/
structure Stp25 where (t l : Sx Int) (op : OpA) (r : Rpl)
def s25C (y : Stp25) : List Value := spC y.t.v y.l.v y.op.k y.op.n y.op.o y.op.c y.op.p y.op.s.v y.r.e y.r.s.v
theorem s25_len (y : Stp25) : (s25C y).length = 10 := rfl
structure Stp25.Ok (y : Stp25) (w : World) : Prop where
  t : Su w y.t
  tb : IsB y.t.xs
  l : Su w y.l
  lb : IsB y.l.xs
  op : y.op.Ok w
  r : y.r.Ok w
theorem Stp25.Ok.old {y : Stp25} {w w' : World} (h : y.Ok w) (ho : Old w w') : y.Ok w' :=
  ⟨h.t.old ho, h.tb, h.l.old ho, h.lb, ⟨h.op.k, h.op.n, h.op.o, h.op.c, h.op.p, h.op.s.old ho, h.op.b⟩, ⟨h.r.1, h.r.2.1.old ho, h.r.2.2⟩⟩
theorem Tryz.kop : Tryz.prog.cellsOf 30 = 6 := by kernel_rfl
theorem Tryz.kre : Tryz.prog.cellsOf 34 = 2 := by kernel_rfl
section
variable {H : Type} {enc : TypeId × Value → H} {w : World} {held : Bool} {m : Nat}
set_option maxRecDepth 100000 in
theorem open_step25 {cs : List Value} {x : DataW H × List MemPlace} (h : DataW.trod enc Tryz.prog w 0 (fun _ => true) held m 36 cs = some x) : ∃ y : Stp25, cs = s25C y ∧ y.Ok w := by
  obtain ⟨xs, n, -, -, hcl, hl, hx⟩ := DataW.trod_struct Tryz.underlying36 h
  have hl' : xs.length = 4 := hl
  have hcl' : cs.length = 10 := hcl.trans (by kernel_rfl)
  have one : ∀ i (hi : i < xs.length), xs[i]? = some xs[i] := fun i hi => by simp
  have f0 : DataW.trod enc Tryz.prog w 0 (fun _ => true) held n 28 ((cs.drop 0).take 1) = some xs[0] := by rw [← one 0 (by omega), ← hx 0 _ rfl]; simp [Tryz.kou]
  have f1 : DataW.trod enc Tryz.prog w 0 (fun _ => true) held n 28 ((cs.drop 1).take 1) = some xs[1] := by rw [← one 1 (by omega), ← hx 1 _ rfl]; simp [Tryz.kou]
  have f2 : DataW.trod enc Tryz.prog w 0 (fun _ => true) held n 30 ((cs.drop 2).take 6) = some xs[2] := by rw [← one 2 (by omega), ← hx 2 _ rfl]; simp [Tryz.kou, Tryz.kop]
  have f3 : DataW.trod enc Tryz.prog w 0 (fun _ => true) held n 34 ((cs.drop 8).take 2) = some xs[3] := by rw [← one 3 (by omega), ← hx 3 _ rfl]; simp [Tryz.kou, Tryz.kop, Tryz.kre]
  obtain ⟨v0, e0⟩ := take_one25 cs 0 (by omega)
  obtain ⟨v1, e1⟩ := take_one25 cs 1 (by omega)
  rw [e0] at f0
  rw [e1] at f1
  obtain ⟨t, rfl, ht, htb⟩ := open_y25 f0
  obtain ⟨l, rfl, hl2, hlb⟩ := open_y25 f1
  obtain ⟨op, e2, hop⟩ := open_op25 f2
  obtain ⟨r, e3, hr⟩ := open_rpl f3
  refine ⟨⟨t, l, op, r⟩, ?_, ⟨ht, htb, hl2, hlb, hop, hr⟩⟩
  have h9 : cs.drop 10 = [] := List.drop_eq_nil_of_le (by omega)
  conv => lhs; rw [← List.drop_zero (l := cs)]
  rw [drop_split cs 0 1, e0, drop_split cs (0 + 1) 1, e1, drop_split cs (0 + 1 + 1) 6, e2, drop_split cs (0 + 1 + 1 + 6) 2, e3, h9, List.append_nil]
  rfl
end
section
variable {H : Type} {enc : TypeId × Value → H} {w : World} {held : Bool} {r : Reach} {b0 : Nat} {v : Value} {d : DataW H} {p : List MemPlace}
set_option maxRecDepth 100000 in
theorem open_steps_u (hv : Value.okWide Tryz.prog w r b0 22 v) (h : DataW.Trod enc Tryz.prog w 0 (fun _ => true) held 22 v d p) : ∃ s : Sx Stp25, v = s.v ∧ s.Ok s25C 10 w ∧ (∀ x ∈ s.xs, x.Ok w) ∧ s.n ≤ Rows.uptoBulk d := by
  obtain ⟨m, hm⟩ := h
  have hc : v.cells.toList = [v] := by
    obtain ⟨a, n, c, rfl⟩ := okWide_slice Tryz.underlying22 hv
    rfl
  rw [hc] at hm
  have : Inhabited Stp25 := ⟨⟨⟨none, 0, 0, []⟩, ⟨none, 0, 0, []⟩, ⟨0, 0, 0, 0, 0, ⟨none, 0, 0, []⟩⟩, ⟨0, ⟨none, 0, 0, []⟩⟩⟩⟩
  obtain ⟨s, hs, hok, he, -⟩ := open_sx (f := s25C) (sz := 10) (ok := fun x => x.Ok w) (bytes := 144) Tryz.underlying22 (by kernel_rfl) (by kernel_rfl) (by decide) (fun m cs x hx => open_step25 hx) (fun y _ => s25_len y) hm
  refine ⟨s, hs, hok, he, ?_⟩
  rcases Deep.open_slice Tryz.underlying22 hm with ⟨hcs, _⟩ | ⟨a, len, cap, q, n, D, Pl, hcs, _, hl, hmx, hq, hy, hx⟩
  · simp at hcs
    rw [hs] at hcs
    simp only [Sx.v, Value.slice.injEq] at hcs
    rw [hcs.2.1]; exact Nat.zero_le _
  · simp at hcs
    rw [hs] at hcs
    simp only [Sx.v, Value.slice.injEq] at hcs
    rw [hcs.2.1]
    have hd := congrArg Prod.fst hy
    simp only at hd
    rw [hd]
    simp only [Rows.uptoBulk]
    have h1 := bulkLen ((List.range len).map D)
    simp only [List.length_map, List.length_range] at h1
    omega
end
end Go.Proofs.YtdcaojiiaocnaaaGreatDoor

set_option linter.unusedSimpArgs false
set_option linter.unusedVariables false
namespace Go.Proofs.YtdcaojiiaocnaaaGreatDoor
open Go.RowKit

/-! The shelf behind rows of the caller's own: what is known of it without the world. -/
def ShF (gS N : Nat) (rest : List Row) (K : World → Prop) (TT : List Row) (K0 : World → Prop) : Prop :=
  ∃ (its : List It) (L W : Sx (Sx Int)) (RL RW : List Row), its.length ≤ N ∧ RowG sV 1 28 L (its.map It.p) RL ∧ RowG sV 1 28 W (its.map It.q) RW ∧ (∀ it ∈ its, it.Ok) ∧ TT = (gS, 26, shC L.v W.v) :: (rest ++ (itRs its ++ (RL ++ RW))) ∧ K0 = fun w' => K w' ∧ ∀ it ∈ its, Sx.Ok uC 1 w' it.q
def StF (w0 : World) (gS N : Nat) (A rest : List Row) (K : World → Prop) (w : World) : Prop := ∃ TT K0, ShF gS N rest K TT K0 ∧ Hs17 w0 (A ++ TT) K0 w
section
variable {w0 w w' : World} {gS N : Nat} {its : List It} {A R rest rest' TT : List Row} {K K0 : World → Prop} {L W : Sx (Sx Int)} {RL RW : List Row}
theorem perm_f1 {α : Type} (s : α) (A B X : List α) : (A ++ (s :: (B ++ X))).Perm (s :: ((A ++ B) ++ X)) := by
  rw [List.append_assoc]; exact List.perm_middle
theorem perm_f2 {α : Type} (s : α) (A B X R : List α) : ((A ++ (s :: (B ++ X))) ++ R).Perm (A ++ (s :: ((R ++ B) ++ X))) := by
  classical
  refine List.perm_iff_count.2 (fun a => ?_)
  simp only [List.count_append, List.count_cons]; omega
theorem perm_f3 {α : Type} (s : α) (A B X R : List α) : (A ++ (s :: ((R ++ B) ++ X))).Perm (R ++ (A ++ (s :: (B ++ X)))) := by
  classical
  refine List.perm_iff_count.2 (fun a => ?_)
  simp only [List.count_append, List.count_cons]; omega
theorem ShS.stf (h : ShS w0 gS its (A ++ rest) K L W RL RW w) (hN : its.length ≤ N) : StF w0 gS N A rest K w :=
  ⟨_, _, ⟨its, L, W, RL, RW, hN, h.lt, h.wt, h.ok, rfl, rfl⟩, h.s.swap (perm_f1 _ _ _ _).symm⟩
theorem ShF.shs (hF : ShF gS N rest K TT K0) (hS : Hs17 w0 (A ++ TT) K0 w) : ∃ its L W RL RW, its.length ≤ N ∧ ShS w0 gS its (A ++ rest) K L W RL RW w := by
  obtain ⟨its, L, W, RL, RW, h1, h2, h3, h4, rfl, rfl⟩ := hF
  exact ⟨its, L, W, RL, RW, h1, h2, h3, hS.swap (perm_f1 _ _ _ _), h4⟩
theorem ShF.k (hF : ShF gS N rest K TT K0) (h : K0 w) : K w := by
  obtain ⟨its, L, W, RL, RW, h1, h2, h3, h4, rfl, rfl⟩ := hF
  exact h.1
theorem ShF.more (hF : ShF gS N rest K TT K0) (hS : Hs17 w0 ((A ++ TT) ++ R) K0 w) : StF w0 gS N A (R ++ rest) K w := by
  obtain ⟨its, L, W, RL, RW, h1, h2, h3, h4, rfl, rfl⟩ := hF
  exact ⟨_, _, ⟨its, L, W, RL, RW, h1, h2, h3, h4, rfl, rfl⟩, hS.swap (perm_f2 _ _ _ _ _)⟩
theorem ShF.drop (hF : ShF gS N (R ++ rest) K TT K0) (hS : Hs17 w0 (A ++ TT) K0 w) : StF w0 gS N A rest K w := by
  obtain ⟨its, L, W, RL, RW, h1, h2, h3, h4, rfl, rfl⟩ := hF
  refine ⟨_, _, ⟨its, L, W, RL, RW, h1, h2, h3, h4, rfl, rfl⟩, hS.sub ?_⟩
  exact (List.Sublist.refl A).append (((List.sublist_append_right R rest).append (List.Sublist.refl _)).cons_cons _)
theorem ShF.sx {s : Sx Int} {l : List Int} (hF : ShF gS N rest K TT K0) (hS : Hs17 w0 (A ++ TT) K0 w) (hr : RowG uC 1 5 s l R) (hR : ∀ p ∈ R, p ∈ rest) : Su w ⟨s.a, s.n, s.c, l⟩ := by
  obtain ⟨its, L, W, RL, RW, h1, h⟩ := hF.shs hS
  exact h.sx hr (fun p hp => List.mem_append_right _ (hR p hp))
theorem ShF.fin (hF : ShF gS N rest' K TT K0) (hS : Hs17 w0 (A ++ TT) K0 w) (hs : List.Sublist rest rest') : PrE25 w0 gS N rest K (.returned (.bool true)) w := by
  obtain ⟨its, L, W, RL, RW, h1, h⟩ := hF.shs hS
  exact ⟨rfl, its, L, W, RL, RW, h1, h.sub (hs.trans (List.sublist_append_right _ _))⟩
end
section
variable {w0 w : World} {gS N : Nat} {A R rest TT : List Row} {K K0 : World → Prop}
theorem cutsF (A : List Row) (hF : ShF gS N rest K TT K0) (hS : Hs17 w0 (A ++ TT) K0 w) (t : Sx Int) (hK : ∀ w', K w' → Su w' t) (hb : IsB t.xs) (hn : t.n ≤ 8192) (hN : N ≤ 3900000000000) :
    Calls Tryz.prog 7 #[.pointer (some ⟨gS, 0, none⟩), t.v] w fun e w' => e = .returned (.bool true) ∧ StF w0 gS (N + 16390) A rest K w' := by
  obtain ⟨its, L, W, RL, RW, h1, h⟩ := hF.shs hS
  refine (cuts_any w0 gS its (A ++ rest) K L W RL RW t w h hK hb hn (by omega)).mono ?_
  rintro e w' ⟨rfl, its', L', W', RL', RW', h2, h3⟩
  exact ⟨rfl, h3.stf (by omega)⟩
theorem roomyF (A : List Row) (hF : ShF gS N rest K TT K0) (hS : Hs17 w0 (A ++ TT) K0 w) {y : Sx Int} (hy : Su w y) (hn : y.n ≤ 1048576) :
    Calls Tryz.prog 8 #[y.v] w fun e w' => ∃ (q : Sx Int) (R : List Row), e = .returned q.v ∧ RowG uC 1 5 q (y.xs ++ List.replicate 70 90) R ∧ StF w0 gS N A (R ++ rest) K w' := by
  obtain ⟨its, L, W, RL, RW, h1, h⟩ := hF.shs hS
  refine (roomyS h hy hn).mono ?_
  rintro e w' ⟨q, R, h2, h3, h4⟩
  exact ⟨q, R, h2, h3, (h4.perm (permA R A rest)).stf h1⟩
def OpE25 (w0 : World) (gS N : Nat) (A rest : List Row) (K : World → Prop) (k1 n1 o1 c1 p1 : Int) (b1 : List Int) (z y : Int) (e : Ending) (w' : World) : Prop :=
  ∃ (xa : Option Addr) (xn xc : Nat) (R : List Row), e = .returned (.tuple #[aV (opC k1 n1 o1 c1 p1 (.slice xa xn xc)), .int .i64 z, .int .i64 y]) ∧ b1.length = xn ∧ RowG uC 1 5 (⟨xa, xn, xc, b1⟩ : Sx Int) b1 R ∧ StF w0 gS N A (R ++ rest) K w'
theorem ope25 (hF : ShF gS N rest K TT K0) (hS : Hs17 w0 (A ++ TT) K0 w) {l : List Int} {k1 n1 o1 c1 p1 : Int} {b1 : List Int} {z y : Int} (hR : parseL l = (⟨k1, n1, o1, c1, p1, b1⟩, z, y)) {e : Ending} {w' : World} (h : PrP l w e w') : OpE25 w0 gS N A rest K k1 n1 o1 c1 p1 b1 z y e w' := by
  obtain ⟨xa, xn, xc, h1, h2, h3⟩ := prP_ex hR h
  obtain ⟨R, h4, h5⟩ := hS.ownR h3 h2
  exact ⟨xa, xn, xc, R, h1, own_len25 h2, h4, hF.more h5⟩
theorem parseF (A : List Row) (hF : ShF gS N rest K TT K0) (hS : Hs17 w0 (A ++ TT) K0 w) (s : Sx Int) (hs : Su w s) (hb : IsB s.xs) (hm : s.n ≤ 1048576) (hk : Pk25 w) {k1 n1 o1 c1 p1 : Int} {b1 : List Int} {z y : Int} (hR : parseL s.xs = (⟨k1, n1, o1, c1, p1, b1⟩, z, y)) :
    Calls Tryz.prog 9 #[s.v] w (OpE25 w0 gS N A rest K k1 n1 o1 c1 p1 b1 z y) :=
  (parse_any s w hs hb hm hk.1 hk.2.1).mono (fun e w' h => ope25 hF hS hR h)
theorem refparseF (A : List Row) (hF : ShF gS N rest K TT K0) (hS : Hs17 w0 (A ++ TT) K0 w) (s : Sx Int) (hs : Su w s) (hb : IsB s.xs) (hm : s.n ≤ 1048576) {k1 n1 o1 c1 p1 : Int} {b1 : List Int} {z y : Int} (hR : parseL s.xs = (⟨k1, n1, o1, c1, p1, b1⟩, z, y)) :
    Calls Tryz.prog 10 #[s.v] w (OpE25 w0 gS N A rest K k1 n1 o1 c1 p1 b1 z y) :=
  (refparse_any s w hs hb hm).mono (fun e w' h => ope25 hF hS hR h)
theorem putF (A : List Row) (hF : ShF gS N (R ++ rest) K TT K0) (hS : Hs17 w0 (A ++ TT) K0 w) (p : Sx Int) (ls : List Int) (hp : RowG uC 1 5 p ls R) (hh : ∀ x ∈ ls, Hb25 x) (hz : ls.length ≤ 100000) (hN : N ≤ 4000000000000) :
    Calls Tryz.prog 13 #[.pointer (some ⟨gS, 0, none⟩), p.v] w fun e w' => e = .returned (.tuple #[]) ∧ StF w0 gS (N + 1) A rest K w' := by
  obtain ⟨its, L, W, RL, RW, h1, h⟩ := hF.shs hS
  refine (putH_any w0 gS its (A ++ rest) R K L W RL RW p ls w (h.perm (permA A R rest)) hp hh hz (by omega)).mono ?_
  rintro e w' ⟨h2, L', W', RL', RW', q, h3⟩
  exact ⟨h2, h3.stf (by simp; omega)⟩
theorem turnF (A : List Row) (hF : ShF gS N (R ++ rest) K TT K0) (hS : Hs17 w0 (A ++ TT) K0 w) (q : Sx Int) (l : List Int) (g i n d : Nat) (hR : RowG uC 1 5 q l R) (hB : IsB l) (hq : i + n ≤ q.n) (hqa : q.a = some ⟨g, 0, none⟩) (hm : q.n ≤ 1048576) :
    Calls Tryz.prog 14 #[.slice (some ⟨g, i, none⟩) n d] w fun e w' => e = .returned (.tuple #[]) ∧ ∃ (l' : List Int) (R' : List Row), l'.length = l.length ∧ IsB l' ∧ RowG uC 1 5 q l' R' ∧ StF w0 gS N A (R' ++ rest) K w' := by
  obtain ⟨its, L, W, RL, RW, h1, h2, h3, h4, rfl, rfl⟩ := hF
  refine (turn25 w0 _ _ q l R w g i n d hR hB (hS.swap (perm_f3 _ _ _ _ _)) hq hqa hm).mono ?_
  rintro e w' ⟨h5, l', R', h6, h7, h8, h9⟩
  exact ⟨h5, l', R', h6, h7, h8, _, _, ⟨its, L, W, RL, RW, h1, h2, h3, h4, rfl, rfl⟩, h9.swap (perm_f3 _ _ _ _ _).symm⟩
end
/-- numbers appended to none -/
theorem nums25 {w0 w w2 : World} {rows : List Row} {K : World → Prop} (hS : Hs17 w0 rows K w) {v2 : Value} {l : List Int} {n : Nat} (hn : l.length = n) (hO : w2.ownsRow w.heap.size 2 1 v2 l.length (l.flatMap iC)) (hg : (w.alloc (.cells #[] 2)).grownBy w2 (Value.slice (some ⟨w.heap.size, 0, none⟩) 0 0).ownBlock) :
    ∃ (a : Option Addr) (c : Nat), v2 = .slice a n c ∧ Hs17 w0 rows (fun w9 => K w9 ∧ Sx.Ok iC 1 w9 ⟨a, n, c, l⟩) w2 := by
  subst hn
  obtain ⟨a, c, rfl⟩ := own_form25 hO
  have hb : Below w.heap.size w w2 := grow_below (none_ints w) ((Below.refl _ _).alloc (Nat.le_refl _) _) (Below.refl _ _) hg (by simp)
  exact ⟨a, c, rfl, (hS.ownK hb hO).weak (fun w9 h => ⟨h.1, own_ints h.2⟩)⟩
theorem below_alloc25 (w : World) (b : Obj) : Below w.heap.size w (w.alloc b) := (Below.refl _ _).alloc (Nat.le_refl _) _
theorem cutA_row (g c : Nat) (h : 4 < c) : cutA (some ⟨g, 0, none⟩) c 4 = some ⟨g, 4, none⟩ := by unfold cutA; rw [if_neg (by omega)]; rfl
theorem formatF (k n oo c p : Int) (s : Sx Int) (w : World) (hs : Su w s) (hb : IsB s.xs) (hm : s.n ≤ 1048576) (ho : OkO ⟨k, n, oo, c, p, s.xs⟩) (hk : Pk25 w) {F : Option (List Int)} {T : ByteArray} {q : Bool} (hF : formatL ⟨k, n, oo, c, p, s.xs⟩ = F) (hT : strOfNums (F.getD []) = T) (hq : F.isSome = q) :
    Calls Tryz.prog 15 #[aV (opC k n oo c p s.v)] w fun e w' => e = .returned (.tuple #[.string T, .bool q]) ∧ Below w.heap.size w w' := by
  have h := format_any k n oo c p s w hs hb hm ho hk.2.2
  rw [hF, hT, hq] at h
  exact h
theorem refformatF (k n oo c p : Int) (s : Sx Int) (w : World) (hs : Su w s) (hb : IsB s.xs) (hm : s.n ≤ 1048576) (ho : OkO ⟨k, n, oo, c, p, s.xs⟩) {F : Option (List Int)} {T : ByteArray} {q : Bool} (hF : formatL ⟨k, n, oo, c, p, s.xs⟩ = F) (hT : strOfNums (F.getD []) = T) (hq : F.isSome = q) :
    Calls Tryz.prog 16 #[aV (opC k n oo c p s.v)] w fun e w' => e = .returned (.tuple #[.string T, .bool q]) ∧ Below w.heap.size w w' := by
  have h := refformat_any k n oo c p s w hs hb hm ho
  rw [hF, hT, hq] at h
  exact h
theorem showFF (e0 : Int) (s : Sx Int) (w : World) (hs : Sx.Ok iC 1 w s) (he : I64 e0) (hns : ∀ z ∈ s.xs, I64 z) (hn : s.n ≤ 1048576) (ht : P10 w) {T : ByteArray} (hT : strOfNums (showL e0 s.xs) = T) :
    Calls Tryz.prog 17 #[aV (reC e0 s.v)] w fun e w' => e = .returned (.string T) ∧ Below w.heap.size w w' := by
  have h := show_any e0 s w hs he hns hn ht
  rw [hT] at h
  exact h
theorem refshowFF (e0 : Int) (s : Sx Int) (w : World) (hs : Sx.Ok iC 1 w s) (he : I64 e0) (hns : ∀ z ∈ s.xs, I64 z) (hn : s.n ≤ 1048576) {T : ByteArray} (hT : strOfNums (showL e0 s.xs) = T) :
    Calls Tryz.prog 18 #[aV (reC e0 s.v)] w fun e w' => e = .returned (.string T) ∧ Below w.heap.size w w' := by
  have h := refshow_any e0 s w hs he hns hn
  rw [hT] at h
  exact h
end Go.Proofs.YtdcaojiiaocnaaaGreatDoor
