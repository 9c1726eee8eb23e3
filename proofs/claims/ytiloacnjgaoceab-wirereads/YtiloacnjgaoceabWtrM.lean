import Derived.Test.YtiloacnjgaoceabProg
import Derived.Test.YtiloacnjgaoceabAppT
import Derived.Test.YtiloacnjgaoceabMemX
import Derived.Test.YtiloacnjgaoceabShM
namespace Go.Proofs.Ytiloacnjgaoceab
open Go.RowKit

/-- append of a slice of bytes from anywhere, nil too: and where the row lies then -/
theorem wpList_append_slat {P : Program} {w : World} {ops : Array Oper} {rest : List Oper} {o : Oper} {a : Act} {Q : Exit → Act → World → Prop} (hgd : o.guard = none) (s x : Operand) (t : TypeId)
    (ho : o.op = .call { callee := .builtin .append, args := #[s, x], argTypes := #[t, t] })
    (base : Nat) (e : TypeId) (i : TypeInfo) (z : Value) (ht : P.underlying t = some (.slice e)) (hi : P.info? e = some i) (hz : i.zero = some z) (hsize : i.size = 1) (hby : i.bytes = 1) (hzs : z.cells.size = 1)
    (v : Value) (n : Nat) (xs : List Value) (hs : a.eval s = v) (hown : w.ownsRow base e 1 v n xs) (d : Sl) (hd : d.Ok w) (hx : a.eval x = .slice d.a d.n d.c)
    (hb : n + d.n ≤ 140737488355328) (hbase : base ≤ w.heap.size)
    (h : ∀ v' w', Hid (w'.ownsRow base e 1 v' (n + d.n) (xs ++ U8 d.l)) → Hid (w.grownBy w' v.ownBlock) → Hid (v'.ownBlock = v.ownBlock ∨ v'.ownBlock = some w.heap.size) → wpList P ops Q rest (a.put o.dst v') w') : wpList P ops Q (o :: rest) a w := by
  cases hda : d.a with
  | none =>
    obtain ⟨h0, hc0⟩ := hd.nn hda
    have hl0 : d.l = [] := List.eq_nil_of_length_eq_zero (by rw [hd.len, h0])
    refine wpList_append_own_none hgd s x t ho base e i 1 ht hi v n xs hs hown (by rw [hx, hda, h0, hc0]) ?_
    refine h v w (show _ from ?_) (show _ from World.grownBy.refl w _) (show _ from .inl rfl)
    have h2 : w.ownsRow base e 1 v (n + d.n) (xs ++ U8 d.l) := by rw [h0, hl0]; simpa [U8] using hown
    exact h2
  | some ad =>
    exact wpList_append_own_at hgd s x t ho base e i z 1 1 ht hi hz hsize hby hzs (by decide) v n xs hs hown ad d.n d.c (U8 d.l) (by rw [hx, hda]) (by rw [U8_length, hd.len, Nat.mul_one]) (hd.cells ad hda) (U8_one _) (by unfold maxLen; omega) (by omega) hbase h

theorem own_parts {w : World} {base e sz n : Nat} {v : Value} {xs : List Value} (h : w.ownsRow base e sz v n xs) : ∃ a c, v = .slice a n c := by
  rcases h.2 with ⟨rfl, rfl⟩ | ⟨g, cap, cur, rfl, -⟩
  · exact ⟨_, _, rfl⟩
  · exact ⟨_, _, rfl⟩

/-- a Writer: what is laid down, the fault -/
structure Wtr (w : World) (base p : Nat) (lv : Value) (l : List Int) (f : Int) : Prop where
  arr : Arr w p 61 [lv, .int .i64 f]
  own : w.ownsRow base 5 1 lv l.length (U8 l)
  isB : IsB l
/-- the blocks of a Writer -/
def Wset (p : Nat) (lv : Value) (k : Nat) : Prop := k = p ∨ lv.ownBlock = some k
/-- what a call of a Writer leaves -/
structure Wst (base p : Nat) (lv : Value) (l' : List Int) (f' : Int) (w w' : World) (lv' : Value) : Prop where
  wtr : Wtr w' base p lv' l' f'
  but : Buts (Wset p lv) w w'
  at_ : ∀ k, lv'.ownBlock = some k → lv.ownBlock = some k ∨ w.heap.size ≤ k
theorem Wst.refl {base p : Nat} {lv : Value} {l : List Int} {f : Int} {w : World} (h : Wtr w base p lv l f) : Wst base p lv l f w w lv :=
  ⟨h, Buts.refl _ _, fun _ h => .inl h⟩
theorem Wst.trans {base p : Nat} {lv lv1 lv2 : Value} {l1 l2 : List Int} {f1 f2 : Int} {w w1 w2 : World} (hp : p < w.heap.size) (h : Wst base p lv l1 f1 w w1 lv1) (k : Wst base p lv1 l2 f2 w1 w2 lv2) : Wst base p lv l2 f2 w w2 lv2 := by
  refine ⟨k.wtr, h.but.trans' k.but (fun i hi hs => ?_), fun i hi => ?_⟩
  · rcases hs with rfl | hs
    · exact .inl rfl
    · rcases h.at_ i hs with h1 | h1
      · exact .inr h1
      · omega
  · rcases k.at_ i hi with h1 | h1
    · exact h.at_ i h1
    · exact .inr (Nat.le_trans h.but.size h1)
theorem Wtr.later {w w' : World} {base p : Nat} {lv : Value} {l : List Int} {f : Int} (h : Wtr w base p lv l f) (hb : Below w.heap.size w w') : Wtr w' base p lv l f :=
  ⟨h.arr.later hb, own_later h.own hb, h.isB⟩
theorem Wst.later {base p : Nat} {lv lv' : Value} {l : List Int} {f : Int} {w W w' : World} (hb : Below w.heap.size w W) (h : Wst base p lv l f W w' lv') : Wst base p lv l f w w' lv' :=
  ⟨h.wtr, (Buts.of_below hb).trans h.but, fun k hk => (h.at_ k hk).imp id (fun h1 => Nat.le_trans hb.size h1)⟩
theorem Wst.then {base p : Nat} {lv lv' : Value} {l : List Int} {f : Int} {w W w' : World} (h : Wst base p lv l f w W lv') (hb : Below W.heap.size W w') : Wst base p lv l f w w' lv' :=
  ⟨h.wtr.later hb, h.but.trans (Buts.of_below hb), h.at_⟩
theorem Wtr.keep {S : Nat → Prop} {w w' : World} {base p : Nat} {lv : Value} {l : List Int} {f : Int} (h : Wtr w base p lv l f) (hb : Buts S w w') (hp : ¬ S p) (hl : ∀ k, lv.ownBlock = some k → ¬ S k) : Wtr w' base p lv l f :=
  ⟨hb.arr h.arr hp, hb.own h.own hl, h.isB⟩
theorem Wtr.ne {w : World} {base p : Nat} {lv : Value} {l : List Int} {f : Int} (h : Wtr w base p lv l f) : lv.ownBlock ≠ some p := own_arr_ne h.own h.arr (by decide)

/-- what a Writer lays down -/
def wLay (b : List Int) (st : List Int × Int) : List Int × Int := if st.2 = 0 then (st.1 ++ b, 0) else st
def wCount (n : Nat) (most : Int) (st : List Int × Int) : List Int × Int := if most < (n : Int) then (st.1, 1) else wLay (sho n) st
def wBytes (b : List Int) (most : Int) (st : List Int × Int) : List Int × Int := wLay b (wCount b.length most st)
def wList (L : List Int) (most : Int) (st : List Int × Int) : List Int × Int := L.foldl (fun st x => wLay (sho x.toNat) st) (wCount L.length most st)
theorem wLay_nil (st : List Int × Int) : wLay [] st = st := by
  obtain ⟨l, f⟩ := st; unfold wLay; split
  · rename_i h; simp at h; simp [h]
  · rfl
theorem wLay_lay (a b : List Int) (st : List Int × Int) : wLay b (wLay a st) = wLay (a ++ b) st := by
  obtain ⟨l, f⟩ := st; unfold wLay
  by_cases h : f = 0
  · simp [h]
  · simp [h]
theorem wLay_len (b : List Int) (st : List Int × Int) : (wLay b st).1.length ≤ st.1.length + b.length := by
  obtain ⟨l, f⟩ := st; unfold wLay; split
  · simp
  · simp

/-- what a call of a Writer answers and leaves -/
def WPost (base p : Nat) (lv : Value) (st : List Int × Int) (w : World) (e : Ending) (w' : World) : Prop :=
  e = .returned (.tuple #[]) ∧ ∃ lv', Wst base p lv st.1 st.2 w w' lv'

/-- one byte in new memory -/
theorem one_ok (w : World) (x : Int) (h0 : 0 ≤ x) (h1 : x ≤ 255) : Sl.Ok (w.alloc (.cells #[.int .u8 x] 5)) ⟨some ⟨w.heap.size, 0, none⟩, 1, 1, [x]⟩ := by
  have hA : Arr (w.alloc (.cells #[.int .u8 x] 5)) w.heap.size 5 (U8 [x]) := Arr.new w _ (U8 [x])
  exact ⟨rfl, Nat.le_refl _, (by unfold maxLen; decide : 1 ≤ maxLen), (fun h => by cases h), (fun y hy => by simp at hy; omega), hA.lies⟩
theorem below_one (w : World) (o : Obj) : Below w.heap.size w (w.alloc o) := (Below.refl _ _).alloc (Nat.le_refl _) _
end Go.Proofs.Ytiloacnjgaoceab
