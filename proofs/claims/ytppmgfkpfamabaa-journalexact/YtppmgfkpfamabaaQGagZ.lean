import Derived.Test.YtppmgfkpfamabaaQGafZ
import Derived.Test.YtppmgfkpfamabaaQGabZ
import Derived.SizedLaws
import Derived.Deep.Slices
import Derived.Deep.QuietTactic
import Derived.BigQuiet
import Derived.Deep.RegionHeld3
namespace Go.Proofs.Ytppmgfkpfamabaa
open Go.RowKit
structure Opj where
  kind : Int
  d : Sl
  s : Sl
  x : Int
  y : Int
def Opj.cells (o : Opj) : List Value := [.int .i64 o.kind, o.d.v, o.s.v, .int .i64 o.x, .int .i64 o.y]
def LiesO (w : World) (a : Option Addr) (ss : List Opj) : Prop :=
  0 < ss.length → ∃ b off, a = some ⟨b, off, none⟩ ∧ b < w.heap.size ∧ ∀ i q, ss[i]? = some q → ∀ j v, q.cells[j]? = some v → w.cell? ⟨b, off + i * 5 + j, none⟩ = some v
structure Ops where
  a : Option Addr
  n : Nat
  c : Nat
  ss : List Opj
def Ops.v (s : Ops) : Value := .slice s.a s.n s.c
structure Ops.Ok (w : World) (s : Ops) : Prop where
  len : s.ss.length = s.n
  le : s.n ≤ s.c
  mx : s.c ≤ maxLen
  lies : LiesO w s.a s.ss
  all : ∀ q ∈ s.ss, q.d.Ok w ∧ q.s.Ok w
end Go.Proofs.Ytppmgfkpfamabaa

set_option maxRecDepth 100000
set_option linter.unusedSimpArgs false
set_option linter.unusedVariables false
namespace Go.Proofs.Ytppmgfkpfamabaa
open Go.ChangeShapes Go.WideShapes Go.ChangeAt Go.WideMaps Go.WideElems Go.RowKit Go.Deep
theorem bulkPos14 {H : Type} (d : DataW H) : 0 < Rows.uptoBulk d := by
  rcases d with l | _ | _ | _ | _ | _ | _ | _
  · rcases l with _ | _ | _ | _ | _ <;> simp [Rows.uptoBulk]
  all_goals simp [Rows.uptoBulk]
theorem bulkLen14 {H : Type} : ∀ l : List (DataW H), l.length ≤ Rows.uptoBulkAll l
  | [] => Nat.zero_le _
  | d :: l => by
    have h1 := bulkLen14 l
    have h2 := bulkPos14 d
    simp only [Rows.uptoBulkAll, List.length_cons]
    omega
theorem bulkIn14 {H : Type} {d : DataW H} : ∀ {l : List (DataW H)}, d ∈ l → Rows.uptoBulk d ≤ Rows.uptoBulkAll l
  | x :: l, h => by
    rcases List.mem_cons.1 h with rfl | h
    · simp only [Rows.uptoBulkAll]; omega
    · have := bulkIn14 h; simp only [Rows.uptoBulkAll]; omega
section
variable {H : Type} {enc : TypeId × Value → H} {w : World} {held : Bool} {m : Nat}
theorem open_sl_b14 {v : Value} {y : DataW H × List MemPlace} (h : DataW.trod enc Try.prog w 0 (fun _ => true) held m 22 [v] = some y) :
    ∃ s : Sl, v = s.v ∧ s.Ok w ∧ s.n ≤ Rows.uptoBulk y.1 := by
  obtain ⟨s, hs, hok, -⟩ := open_sl h
  refine ⟨s, hs, hok, ?_⟩
  rcases open_ints Try.underlying22 Try.underlying5 (by kernel_rfl) h with ⟨hcs, _⟩ | ⟨x, l, c, zs, hcs, _, hl, hmx, hz, hy, _, _⟩
  · simp at hcs
    rw [hs] at hcs
    simp only [Sl.v, Value.slice.injEq] at hcs
    rw [hcs.2.1]; exact Nat.zero_le _
  · simp at hcs
    simp only [if_true] at hz
    rw [hs] at hcs
    simp only [Sl.v, Value.slice.injEq] at hcs
    rw [hcs.2.1]
    have hd : y.1 = .slice (lits .u8 (zs.take l)) (lits .u8 (zs.drop l)) := by
      have := congrArg Prod.fst hy; simpa using this
    rw [hd]
    simp only [Rows.uptoBulk]
    have h1 := bulkLen14 (lits .u8 (zs.take l) : List (DataW H))
    have e1 : (lits .u8 (zs.take l) : List (DataW H)).length = min l zs.length := by simp [lits]
    rw [e1] at h1
    omega
theorem open_op14 {cs : List Value} {y : DataW H × List MemPlace} (h : DataW.trod enc Try.prog w 0 (fun _ => true) held m 38 cs = some y) : ∃ o : Opj, cs = o.cells ∧ (o.d.Ok w ∧ o.s.Ok w) ∧ o.d.n ≤ Rows.uptoBulk y.1 ∧ o.s.n ≤ Rows.uptoBulk y.1 := by
  obtain ⟨xs, n, -, hxx, hcl, hl, hx⟩ := DataW.trod_struct Try.underlying38 h
  have hl' : xs.length = 5 := hl
  have hcl' : cs.length = 5 := hcl.trans (by kernel_rfl)
  match cs, hcl' with
  | [c0, c1, c2, c3, c4], _ =>
    have one : ∀ i (hi : i < xs.length), xs[i]? = some xs[i] := fun i hi => by simp
    have ki : Try.prog.cellsOf 3 = 1 := by kernel_rfl
    have ks : Try.prog.cellsOf 22 = 1 := by kernel_rfl
    have f0 : DataW.trod enc Try.prog w 0 (fun _ => true) held n 3 [c0] = some xs[0] := by rw [← one 0 (by omega), ← hx 0 _ rfl]; simp [ki]
    have f1 : DataW.trod enc Try.prog w 0 (fun _ => true) held n 22 [c1] = some xs[1] := by rw [← one 1 (by omega), ← hx 1 _ rfl]; simp [ks]
    have f2 : DataW.trod enc Try.prog w 0 (fun _ => true) held n 22 [c2] = some xs[2] := by rw [← one 2 (by omega), ← hx 2 _ rfl]; simp [ks]
    have f3 : DataW.trod enc Try.prog w 0 (fun _ => true) held n 3 [c3] = some xs[3] := by rw [← one 3 (by omega), ← hx 3 _ rfl]; simp [ki]
    have f4 : DataW.trod enc Try.prog w 0 (fun _ => true) held n 3 [c4] = some xs[4] := by rw [← one 4 (by omega), ← hx 4 _ rfl]; simp [ki]
    obtain ⟨z, e0, -, w0⟩ := DataW.trod_int Try.underlying3 f0
    obtain ⟨sB, e1, okB, nB⟩ := open_sl_b14 f1
    obtain ⟨sP, e2, okP, nP⟩ := open_sl_b14 f2
    obtain ⟨xx, e3, -, w3⟩ := DataW.trod_int Try.underlying3 f3
    obtain ⟨yy, e4, -, w4⟩ := DataW.trod_int Try.underlying3 f4
    simp only [List.cons.injEq, and_true] at e0 e3 e4
    subst e0 e1 e2 e3 e4
    have hin : ∀ i (hi : i < xs.length), Rows.uptoBulk xs[i].1 ≤ Rows.uptoBulk y.1 := fun i hi => by
      have hb := bulkIn14 (List.mem_map.2 ⟨xs[i], List.getElem_mem _, rfl⟩ : xs[i].1 ∈ xs.map (·.1))
      rw [hxx]
      simp only [Rows.uptoBulk]
      omega
    exact ⟨⟨z, sB, sP, xx, yy⟩, rfl, ⟨okB, okP⟩, Nat.le_trans nB (hin 1 (by omega)), Nat.le_trans nP (hin 2 (by omega))⟩
theorem open_ops14 {v : Value} {y : DataW H × List MemPlace} (h : DataW.trod enc Try.prog w 0 (fun _ => true) held m 23 [v] = some y) :
    ∃ (a : Option Addr) (c : Nat) (ss : List Opj), v = .slice a ss.length c ∧ LiesO w a ss ∧ (∀ o ∈ ss, (o.d.Ok w ∧ o.s.Ok w) ∧ o.d.n ≤ Rows.uptoBulk y.1 ∧ o.s.n ≤ Rows.uptoBulk y.1) ∧ ss.length ≤ Rows.uptoBulk y.1 := by
  rcases Deep.open_slice Try.underlying23 h with ⟨hcs, _⟩ | ⟨a, len, cap, q, n, D, Pl, hcs, _, hl, hm, hq, hy, hx⟩
  · simp at hcs
    exact ⟨none, 0, [], hcs, fun h => absurd h (by simp), (fun s hs => by cases hs), Nat.zero_le _⟩
  · simp at hcs
    simp only [if_true] at hq
    subst hq
    have kc : Try.prog.cellsOf 38 = 5 := by kernel_rfl
    rw [kc] at hx
    have hS : ∀ i, i < len → ∃ o : Opj, (∀ j, j < 5 → w.cell? ((a.add (i * 5)).add j) = o.cells[j]?) ∧ (o.d.Ok w ∧ o.s.Ok w) ∧ o.d.n ≤ Rows.uptoBulk (D i) ∧ o.s.n ≤ Rows.uptoBulk (D i) := by
      intro i hi
      obtain ⟨cs', h1, h2⟩ := hx i (by omega)
      obtain ⟨o, rfl, ok, hb⟩ := open_op14 h2
      exact ⟨o, (World.cells?_some h1).2.2, ok, hb⟩
    have : Inhabited Opj := ⟨⟨0, ⟨none, 0, 0, []⟩, ⟨none, 0, 0, []⟩, 0, 0⟩⟩
    obtain ⟨S, hS⟩ := choose_lt hS
    have hmem : ∀ s, s ∈ (List.range len).map S → ∃ i, i < len ∧ s = S i := by
      intro s hs; simp at hs; obtain ⟨i, hi, rfl⟩ := hs; exact ⟨i, hi, rfl⟩
    have hbl : Rows.uptoBulkAll ((List.range len).map D) ≤ Rows.uptoBulk y.1 := by
      rw [hy]; simp only [Rows.uptoBulk]; omega
    refine ⟨some a, q, (List.range len).map S, (by simpa using hcs), fun hpos => ?_, fun o ho => ?_, ?_⟩
    · simp only [List.length_map, List.length_range] at hpos
      have h0 := (hS 0 hpos).1 0 (by omega)
      obtain ⟨b, off, spot⟩ := a
      have hspot : spot = none := by simpa [Addr.add] using World.cell?_spot h0
      subst hspot
      refine ⟨b, off, rfl, cell_lt h0, fun i o hi => ?_⟩
      have hil : i < len := by
        by_cases hil : i < len
        · exact hil
        · rw [List.getElem?_eq_none (by simp; omega)] at hi; simp at hi
      have ho : o = S i := by rw [List.getElem?_map, List.getElem?_range hil] at hi; simpa using hi.symm
      subst ho
      have g := (hS i hil).1
      simp only [addr_add] at g
      intro j v hv
      have hj : j < 5 := by
        have h1 := (List.getElem?_eq_some_iff.1 hv).1
        have h2 : (S i).cells.length = 5 := rfl
        omega
      rw [g j hj]; exact hv
    · obtain ⟨i, hi, rfl⟩ := hmem o ho
      have hD : Rows.uptoBulk (D i) ≤ Rows.uptoBulkAll ((List.range len).map D) := bulkIn14 (List.mem_map.2 ⟨i, List.mem_range.2 hi, rfl⟩)
      obtain ⟨h1, h2, h3⟩ := (hS i hi).2
      exact ⟨h1, by omega, by omega⟩
    · have h1 := bulkLen14 ((List.range len).map D)
      simp only [List.length_map, List.length_range] at h1 ⊢
      omega
end
end Go.Proofs.Ytppmgfkpfamabaa

namespace Go.Proofs.Ytppmgfkpfamabaa
open Go.RowKit
theorem lit_ok (w : World) (l : List Int) (hB : IsB l) (hl : l.length ≤ 1048576) : Sl.Ok (w.alloc (.cells (U8 l).toArray 5)) ⟨some ⟨w.heap.size, 0, none⟩, l.length, l.length, l⟩ := by
  have hA : Arr (w.alloc (.cells (U8 l).toArray 5)) w.heap.size 5 (U8 l) := Arr.new w _ (U8 l)
  exact ⟨rfl, Nat.le_refl _, (by unfold maxLen; omega : l.length ≤ maxLen), (fun h => by cases h), hB, hA.lies⟩
theorem bel_then {B : Nat} {w0 w w' : World} (h : Below B w0 w) (hB : B ≤ w.heap.size) (k : Below w.heap.size w w') : Below B w0 w' := h.trans (k.mono hB)
theorem bel_sz {B : Nat} {w0 w : World} (h : Below B w0 w) (hB : B ≤ w0.heap.size) : B ≤ w.heap.size := Nat.le_trans hB h.size
end Go.Proofs.Ytppmgfkpfamabaa

set_option maxHeartbeats 2000000
set_option maxRecDepth 100000
set_option linter.unusedSimpArgs false
set_option linter.unusedVariables false
namespace Go.Proofs.Ytppmgfkpfamabaa
open Go.RowKit
theorem own_pre {w : World} {base g m c n : Nat} {l : List Int} (h : w.ownsRow base 5 1 (.slice (some ⟨g, 0, none⟩) m c) m (U8 l)) (hB : IsB l) (hn : n ≤ m) : Sl.Ok w ⟨some ⟨g, 0, none⟩, n, c, l.take n⟩ := by
  have hk := Sl.Ok.of_own h hB
  have h1 := hk.len
  have h2 := hk.le
  simp only at h1 h2
  exact ⟨by simp only [List.length_take]; omega, by simp only; omega, hk.mx, (fun h => by cases h), hB.take n, lies_take hk.lies n⟩
def marks : List Int := List.replicate 64 201
theorem cell_new (w : World) (v : Value) (ty : TypeId) : ∀ (j : Nat) (u : Value), ([v] : List Value)[j]? = some u → (w.alloc (.cells #[v] ty)).cell? ((⟨w.heap.size, 0, none⟩ : Addr).add j) = some u := by
  intro j u hu
  have hA : Arr (w.alloc (.cells #[v] ty)) w.heap.size ty [v] := Arr.new w _ [v]
  rw [addr_add, Nat.zero_add, hA.cell j]; exact hu
theorem own_new {w w' : World} {v : Value} {l : List Int} {n : Nat} (h : w'.ownsRow w.heap.size 5 1 v n (U8 l)) (hn : n = l.length) (hB : IsB l) : OwB w' v l ∧ ∀ k, v.ownBlock = some k → w.heap.size ≤ k := by
  subst hn
  exact ⟨⟨own_mono h (Nat.zero_le _), hB⟩, fun k hk => (h.lt k hk).1⟩
theorem upTo_any (d : Sl) (n : Nat) (w : World) (hd : d.Ok w) (hn : n ≤ 1048576) : Calls Try.prog 12 #[d.v, .int .i64 n] w (BPost (d.l.take n) w) := by
  obtain ⟨i0, hii, hz0, hz1, hz2⟩ := info_parts Try.infoB
  obtain ⟨da, dn, dc, l⟩ := d
  have hl : l.length = dn := hd.len
  have hdle : dn ≤ dc := hd.le
  have hdmx : dc ≤ 9223372036854775807 := by have := hd.mx; unfold maxLen at this; exact this
  have HD := hide hd
  have HL := hide hl
  clear hd hl
  simp only [Sl.v]
  go_enter Try.func12, Try.ntmps12
  go_wp2_with fail
  go_loopw [5, 6] (fun v i wr => ∃ k : Nat, k ≤ dn ∧ k ≤ n ∧ i = .int .i64 k ∧ wr.ownsRow w.heap.size 5 1 v k (U8 (l.take k)) ∧ Below w.heap.size w wr) (fun _ i _ => dn - (intOf i).toNat)
  case atStart => exact ⟨0, by omega, by omega, rfl, ⟨rfl, .inl ⟨rfl, rfl⟩⟩, Below.refl _ _⟩
  case round =>
    obtain ⟨k, hk, hkn, rfl, hown, hbl⟩ := hrel
    by_cases hlt : k < dn ∧ k < n
    · obtain ⟨hlt1, hlt2⟩ := hlt
      have hz1' : (k : Int) < (dn : Int) := by omega
      have hz2' : (k : Int) < (n : Int) := by omega
      obtain ⟨ab, ao, haa, habl, hac⟩ := (unhide HD).lies (by show 0 < l.length; rw [unhide HL]; omega)
      have haa' : da = some ⟨ab, ao, none⟩ := haa
      subst haa'
      have ca : wr.cell? ⟨ab, ao + k, none⟩ = some (.int .u8 (l.getD k 0)) := (hbl.cell (p := ⟨ab, ao + k, none⟩) habl).trans (hac k (by show k < l.length; rw [unhide HL]; omega))
      have HT : Hid (l.take (k + 1) = l.take k ++ [l.getD k 0]) := hide (take_succ_getD l k (by rw [unhide HL]; omega))
      generalize l.getD k 0 = x at ca HT
      clear haa hac habl
      go_wp2_with (at_builtin; refine wpList_append_own _ rfl _ _ 22 rfl w.heap.size 5 i0 (.int .u8 0) 1 1 Try.underlying22 hii hz0 hz1 hz2 rfl (by decide) _ k (U8 (l.take k)) rfl (hown.alloc _) ⟨wr.heap.size, 0, none⟩ 1 1 [.int .u8 x] rfl rfl (cell_new _ _ _) (one_byte _) (by unfold maxLen; omega) (by omega) (by have := hbl.size; simp; omega) ?_)
      intro v4 w4 hown4 hgrow4 _
      have hb4 := below_app hbl (Nat.le_refl _) hown hgrow4
      rw [U8_snoc2, ← unhide HT] at hown4
      clear hgrow4 hown hbl
      go_wp2
      go_roundw
      case rel => exact ⟨k + 1, by omega, by omega, by go_num, hown4, hb4⟩
      case measure => simp [intOf]; omega
    · have HTK : Hid (l.take k = l.take n ∧ (l.take n).length = k) := hide (by
        have h1 := unhide HL
        by_cases h2 : k < dn
        · have h3 : k = n := by omega
          subst h3
          exact ⟨rfl, by rw [List.length_take]; omega⟩
        · exact ⟨by rw [List.take_of_length_le (by omega), List.take_of_length_le (by omega)], by rw [List.length_take]; omega⟩)
      have fin : ∀ v, wr.ownsRow w.heap.size 5 1 v k (U8 (l.take k)) → BPost (l.take n) w (.returned v) wr := fun v h => by
        rw [(unhide HTK).1] at h
        obtain ⟨h1, h2⟩ := own_new h (unhide HTK).2.symm (fun x hx => (unhide HD).isB x (List.mem_of_mem_take hx))
        exact ⟨v, rfl, h1, h2, hbl⟩
      have HFin := hide fin
      have HO := hide hown
      clear fin hown
      by_cases h2 : k < dn
      · have hz1' : (k : Int) < (dn : Int) := by omega
        have hz2' : ¬ (k : Int) < (n : Int) := by omega
        go_wp2
        go_ret
        exact unhide HFin _ (unhide HO)
      · have hz1' : ¬ (k : Int) < (dn : Int) := by omega
        go_wp2
        go_ret
        exact unhide HFin _ (unhide HO)
end Go.Proofs.Ytppmgfkpfamabaa

set_option maxHeartbeats 2000000
set_option maxRecDepth 100000
set_option linter.unusedSimpArgs false
set_option linter.unusedVariables false
namespace Go.Proofs.Ytppmgfkpfamabaa
open Go.RowKit
theorem Try.szF : (Try.prog.info? 28).map (·.size) = some 7 := by kernel_rfl
def qOf (ar : List (Int × Int)) (cnt : Int) : List (Int × Int) :=
  match ar with
  | [] => []
  | x :: t => (x.1 - cnt, x.2) :: t
def rvL (fv sv av : Value) (s : FlS) (cnt : Int) : List Value := [.int .i64 s.size, fv, sv, av, .int .i64 cnt, .int .i64 s.wr, .bool s.down]
structure RV (w : World) (fv sv av : Value) (s : FlS) (ar : List (Int × Int)) (cnt : Int) : Prop where
  f : OwB w fv s.l0
  g : OwB w sv s.l1
  a : w.ownsRow 0 89 2 av ar.length (Cr ar)
  q : s.q = qOf ar cnt
  c0 : 0 ≤ cnt
  cn : ar = [] → cnt = 0
  ok : s.Ok
def RSet (fv sv av : Value) (k : Nat) : Prop := fv.ownBlock = some k ∨ sv.ownBlock = some k ∨ av.ownBlock = some k
theorem RV.keep {S : Nat → Prop} {w w' : World} {fv sv av : Value} {s : FlS} {ar : List (Int × Int)} {cnt : Int} (h : RV w fv sv av s ar cnt) (hb : Buts S w w') (hd : ∀ k, RSet fv sv av k → ¬ S k) : RV w' fv sv av s ar cnt :=
  ⟨h.f.keep hb (fun g hg => hd g (.inl hg)), h.g.keep hb (fun g hg => hd g (.inr (.inl hg))), hb.own h.a (fun g hg => hd g (.inr (.inr hg))), h.q, h.c0, h.cn, h.ok⟩
theorem RV.later {w w' : World} {fv sv av : Value} {s : FlS} {ar : List (Int × Int)} {cnt : Int} (h : RV w fv sv av s ar cnt) (hb : Below w.heap.size w w') : RV w' fv sv av s ar cnt :=
  h.keep (Buts.of_below (S := fun _ => False) hb) (fun _ _ h => h)
theorem RV.lt {w : World} {fv sv av : Value} {s : FlS} {ar : List (Int × Int)} {cnt : Int} (h : RV w fv sv av s ar cnt) : ∀ k, RSet fv sv av k → k < w.heap.size := by
  rintro k (hk | hk | hk)
  · exact h.f.lt k hk
  · exact h.g.lt k hk
  · exact (h.a.lt k hk).2
theorem RV.one {w : World} {fv sv av : Value} {s : FlS} {ar : List (Int × Int)} {cnt : Int} (h : RV w fv sv av s ar cnt) : (rvL fv sv av s cnt).toArray.all (·.oneCell') = true := by
  obtain ⟨a1, c1, rfl⟩ := own_parts h.f.1
  obtain ⟨a2, c2, rfl⟩ := own_parts h.g.1
  obtain ⟨a3, c3, rfl⟩ := own_parts h.a
  refine all_one (fun v hv => ?_)
  simp only [rvL, List.mem_cons, List.not_mem_nil, or_false] at hv
  rcases hv with rfl | rfl | rfl | rfl | rfl | rfl | rfl <;> rfl
theorem rv_one (k1 k2 k3 : Int) (b : Bool) (a1 a2 a3 : Option Addr) (n1 c1 n2 c2 n3 c3 : Nat) : (#[.int .i64 k1, .slice a1 n1 c1, .slice a2 n2 c2, .slice a3 n3 c3, .int .i64 k2, .int .i64 k3, .bool b] : Array Value).all (·.oneCell') = true := by
  refine all_one (l := [.int .i64 k1, .slice a1 n1 c1, .slice a2 n2 c2, .slice a3 n3 c3, .int .i64 k2, .int .i64 k3, .bool b]) (fun v hv => ?_)
  simp only [List.mem_cons, List.not_mem_nil, or_false] at hv
  rcases hv with rfl | rfl | rfl | rfl | rfl | rfl | rfl <;> rfl
def RPost (s' : FlS) (old : Nat → Prop) (w : World) (v : Value) (w' : World) : Prop :=
  ∃ fv sv av ar cnt, v = .agg (rvL fv sv av s' cnt).toArray ∧ RV w' fv sv av s' ar cnt ∧ (∀ k, RSet fv sv av k → old k ∨ w.heap.size ≤ k) ∧ Below w.heap.size w w'
theorem load_ref {w w2 w3 : World} {u v : Value} {l0 l1 : List Int} {n : Nat} (hn : n ≤ 1048576) (o0 : OwB w2 u l0) (a0 : ∀ k, u.ownBlock = some k → w.heap.size ≤ k) (b2 : Below w.heap.size w w2) (o1 : OwB w3 v l1) (a1 : ∀ k, v.ownBlock = some k → w2.heap.size ≤ k) (b3 : Below w2.heap.size w2 w3) (z0 : l0.length ≤ n) (z1 : l1.length ≤ n) :
    RV w3 u v (.slice none 0 0) ⟨n, l0, l1, [], false, 0⟩ [] 0 ∧ ∀ k, RSet u v (.slice none 0 0) k → w.heap.size ≤ k := by
  have h12 := b2.size
  refine ⟨⟨o0.later b3, o1, World.ownsRow_nil _ _ _ _, rfl, by omega, fun _ => rfl, ⟨o0.2, o1.2, z0, z1, hn, by simp, by simp⟩⟩, ?_⟩
  rintro k (hk | hk | hk)
  · exact a0 k hk
  · have := a1 k hk; omega
  · simp [Value.ownBlock] at hk
theorem rload_any (z : Int) (d1 d2 : Sl) (w : World) (h1 : d1.Ok w) (h2 : d2.Ok w) :
    Calls Try.prog 5 #[.int .i64 z, d1.v, d2.v] w fun e w' => ∃ v, e = .returned v ∧ RPost (fsLoad z d1.l d2.l) (fun _ => False) w v w' := by
  suffices hh : Calls Try.prog 5 #[.int .i64 z, d1.v, d2.v] w fun e w' => ∃ fv sv av ar cnt, e = .returned (.agg (rvL fv sv av (fsLoad z d1.l d2.l) cnt).toArray) ∧ RV w' fv sv av (fsLoad z d1.l d2.l) ar cnt ∧ (∀ k, RSet fv sv av k → False ∨ w.heap.size ≤ k) ∧ Below w.heap.size w w' from
    hh.mono (fun e w' ⟨fv, sv, av, ar, cnt, h1, h2, h3, h4⟩ => ⟨_, h1, fv, sv, av, ar, cnt, rfl, h2, h3, h4⟩)
  obtain ⟨W, hW⟩ : ∃ W, w.alloc (.cells #[.int .i64 0, .slice none 0 0, .slice none 0 0, .slice none 0 0, .int .i64 0, .int .i64 0, .bool false] 28) = W := ⟨_, rfl⟩
  have HAW : Hid (Arr W w.heap.size 28 [.int .i64 0, .slice none 0 0, .slice none 0 0, .slice none 0 0, .int .i64 0, .int .i64 0, .bool false]) := hide (by rw [← hW]; exact Arr.new w _ _)
  have HBW : Hid (Below w.heap.size w W) := hide (by rw [← hW]; exact below_one w _)
  obtain ⟨n, hn⟩ : ∃ n, n = szZ z := ⟨_, rfl⟩
  have hn1 : n ≤ 1048576 := by rw [hn]; exact szZ_le z
  have beginningR := upTo_any
  have hB := beginningR d1 n W (h1.later (unhide HBW)) hn1
  have HL : Hid (fsLoad z d1.l d2.l = ⟨n, d1.l.take n, d2.l.take n, [], false, 0⟩) := hide (by unfold fsLoad; rw [hn])
  rw [unhide HL]
  have H2 := hide h2
  obtain ⟨T1, hT1⟩ : ∃ T, T = d1.l.take n := ⟨_, rfl⟩
  obtain ⟨T2, hT2⟩ : ∃ T, T = d2.l.take n := ⟨_, rfl⟩
  have hz1 : Hid (T1.length ≤ n) := hide (by rw [hT1, List.length_take]; omega)
  have hz2 : Hid (T2.length ≤ n) := hide (by rw [hT2, List.length_take]; omega)
  rw [← hT1, ← hT2]
  rw [← hT1] at hB
  have HT2 := hide hT2
  clear hT1 hT2 HL h2 h1
  have hm : (n : Int) = if z < 0 then 0 else if 1048576 < z then 1048576 else z := by
    rw [hn]; unfold szZ; split
    · omega
    · split <;> omega
  have key : ∀ M : Int, M = (if z < 0 then 0 else if 1048576 < z then 1048576 else z) → (n : Int) = M := fun M h => by rw [h]; exact hm
  clear hm
  by_cases c2 : z < 0
  · have e : (n : Int) = 0 := key _ (by rw [if_pos c2])
    rw [e] at hB
    clear key hn
    go_enter Try.func5, Try.ntmps5
    go_wp2_with (first
      | (go_at_call 12; refine hC.mono ?_; rintro e1 w3 ⟨u1, rfl, o1, a1, b3⟩; obtain ⟨x1, y1, rfl⟩ := own_parts o1.1; clear hC; have A3 := hide (((unhide A2)).later b3))
      | (go_at_call 12; refine hB.mono ?_; rintro e1 w2 ⟨u0, rfl, o0, a0, b2⟩; have hC := beginningR d2 n w2 (((unhide H2).later (unhide HBW)).later b2) hn1; rw [e, ← unhide HT2] at hC; obtain ⟨x0, y0, rfl⟩ := own_parts o0.1; clear hB; have A2 := hide (((unhide HAW)).later b2))
      | (refine wpList_store_row rfl 28 (.tmp 6) (.tmp 18) rfl w.heap.size #[.int .i64 0, .slice x0 T1.length y0, .slice x1 T2.length y1, .slice none 0 0, .int .i64 0, .int .i64 0, .bool false] rfl rfl 28 _ (unhide A3) Try.szF rfl (rv_one _ _ _ _ _ _ _ _ _ _ _ _ _) ?_))
    have HR := load_ref (w := W) hn1 o0 a0 b2 o1 a1 b3 (unhide hz1) (unhide hz2)
    have hBW := unhide HBW
    have hsz := hBW.size
    have hl23 := b2.size
    have hl34 := b3.size
    have hlt := (unhide HAW).lt
    refine bodyPost_ret (results_cell_row rfl _ _ w.heap.size 28 #[.int .i64 0, .slice x0 T1.length y0, .slice x1 T2.length y1, .slice none 0 0, .int .i64 0, .int .i64 0, .bool false] (0, 0) _ rfl (setRow_heap w3 w.heap.size _ #[.int .i64 0, .slice x0 T1.length y0, .slice x1 T2.length y1, .slice none 0 0, .int .i64 0, .int .i64 0, .bool false] 28 _ (unhide A3)) Try.underlying28 rfl Try.szF) rfl ?_
    have bb : Buts (· = w.heap.size) w3 (w3.setRow w.heap.size #[.int .i64 0, .slice x0 T1.length y0, .slice x1 T2.length y1, .slice none 0 0, .int .i64 0, .int .i64 0, .bool false]) := Buts.of_but ((But.refl w.heap.size w3).setRow _)
    refine ⟨_, _, _, [], 0, by simp [rvL, e], HR.1.keep bb (fun k hk e9 => by have := HR.2 k hk; omega), fun k hk => .inr (by have := HR.2 k hk; omega), ?_⟩
    exact (bel_then (bel_then hBW hsz b2) (by omega) b3).trans (bb.below (by omega) (fun k e9 => by omega))
  by_cases c1 : 1048576 < z
  · have e : (n : Int) = 1048576 := key _ (by rw [if_neg c2, if_pos c1])
    rw [e] at hB
    clear key hn
    go_enter Try.func5, Try.ntmps5
    go_wp2_with (first
      | (go_at_call 12; refine hC.mono ?_; rintro e1 w3 ⟨u1, rfl, o1, a1, b3⟩; obtain ⟨x1, y1, rfl⟩ := own_parts o1.1; clear hC; have A3 := hide (((unhide A2)).later b3))
      | (go_at_call 12; refine hB.mono ?_; rintro e1 w2 ⟨u0, rfl, o0, a0, b2⟩; have hC := beginningR d2 n w2 (((unhide H2).later (unhide HBW)).later b2) hn1; rw [e, ← unhide HT2] at hC; obtain ⟨x0, y0, rfl⟩ := own_parts o0.1; clear hB; have A2 := hide (((unhide HAW)).later b2))
      | (refine wpList_store_row rfl 28 (.tmp 6) (.tmp 18) rfl w.heap.size #[.int .i64 1048576, .slice x0 T1.length y0, .slice x1 T2.length y1, .slice none 0 0, .int .i64 0, .int .i64 0, .bool false] rfl rfl 28 _ (unhide A3) Try.szF rfl (rv_one _ _ _ _ _ _ _ _ _ _ _ _ _) ?_))
    have HR := load_ref (w := W) hn1 o0 a0 b2 o1 a1 b3 (unhide hz1) (unhide hz2)
    have hBW := unhide HBW
    have hsz := hBW.size
    have hl23 := b2.size
    have hl34 := b3.size
    have hlt := (unhide HAW).lt
    refine bodyPost_ret (results_cell_row rfl _ _ w.heap.size 28 #[.int .i64 1048576, .slice x0 T1.length y0, .slice x1 T2.length y1, .slice none 0 0, .int .i64 0, .int .i64 0, .bool false] (0, 0) _ rfl (setRow_heap w3 w.heap.size _ #[.int .i64 1048576, .slice x0 T1.length y0, .slice x1 T2.length y1, .slice none 0 0, .int .i64 0, .int .i64 0, .bool false] 28 _ (unhide A3)) Try.underlying28 rfl Try.szF) rfl ?_
    have bb : Buts (· = w.heap.size) w3 (w3.setRow w.heap.size #[.int .i64 1048576, .slice x0 T1.length y0, .slice x1 T2.length y1, .slice none 0 0, .int .i64 0, .int .i64 0, .bool false]) := Buts.of_but ((But.refl w.heap.size w3).setRow _)
    refine ⟨_, _, _, [], 0, by simp [rvL, e], HR.1.keep bb (fun k hk e9 => by have := HR.2 k hk; omega), fun k hk => .inr (by have := HR.2 k hk; omega), ?_⟩
    exact (bel_then (bel_then hBW hsz b2) (by omega) b3).trans (bb.below (by omega) (fun k e9 => by omega))
  · have e : (n : Int) = z := key _ (by rw [if_neg c2, if_neg c1])
    rw [e] at hB
    clear key hn
    go_enter Try.func5, Try.ntmps5
    go_wp2_with (first
      | (go_at_call 12; refine hC.mono ?_; rintro e1 w3 ⟨u1, rfl, o1, a1, b3⟩; obtain ⟨x1, y1, rfl⟩ := own_parts o1.1; clear hC; have A3 := hide (((unhide A2)).later b3))
      | (go_at_call 12; refine hB.mono ?_; rintro e1 w2 ⟨u0, rfl, o0, a0, b2⟩; have hC := beginningR d2 n w2 (((unhide H2).later (unhide HBW)).later b2) hn1; rw [e, ← unhide HT2] at hC; obtain ⟨x0, y0, rfl⟩ := own_parts o0.1; clear hB; have A2 := hide (((unhide HAW)).later b2))
      | (refine wpList_store_row rfl 28 (.tmp 6) (.tmp 18) rfl w.heap.size #[.int .i64 z, .slice x0 T1.length y0, .slice x1 T2.length y1, .slice none 0 0, .int .i64 0, .int .i64 0, .bool false] rfl rfl 28 _ (unhide A3) Try.szF rfl (rv_one _ _ _ _ _ _ _ _ _ _ _ _ _) ?_))
    have HR := load_ref (w := W) hn1 o0 a0 b2 o1 a1 b3 (unhide hz1) (unhide hz2)
    have hBW := unhide HBW
    have hsz := hBW.size
    have hl23 := b2.size
    have hl34 := b3.size
    have hlt := (unhide HAW).lt
    refine bodyPost_ret (results_cell_row rfl _ _ w.heap.size 28 #[.int .i64 z, .slice x0 T1.length y0, .slice x1 T2.length y1, .slice none 0 0, .int .i64 0, .int .i64 0, .bool false] (0, 0) _ rfl (setRow_heap w3 w.heap.size _ #[.int .i64 z, .slice x0 T1.length y0, .slice x1 T2.length y1, .slice none 0 0, .int .i64 0, .int .i64 0, .bool false] 28 _ (unhide A3)) Try.underlying28 rfl Try.szF) rfl ?_
    have bb : Buts (· = w.heap.size) w3 (w3.setRow w.heap.size #[.int .i64 z, .slice x0 T1.length y0, .slice x1 T2.length y1, .slice none 0 0, .int .i64 0, .int .i64 0, .bool false]) := Buts.of_but ((But.refl w.heap.size w3).setRow _)
    refine ⟨_, _, _, [], 0, by simp [rvL, e], HR.1.keep bb (fun k hk e9 => by have := HR.2 k hk; omega), fun k hk => .inr (by have := HR.2 k hk; omega), ?_⟩
    exact (bel_then (bel_then hBW hsz b2) (by omega) b3).trans (bb.below (by omega) (fun k e9 => by omega))
end Go.Proofs.Ytppmgfkpfamabaa
