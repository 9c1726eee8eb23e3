import Derived.Test.YtiloacnjgaoceabWtrX
import Derived.Test.YtiloacnjgaoceabSamW
namespace Go.Proofs.Ytiloacnjgaoceab
open Go.RowKit

/-! A step of the laws. -/

structure Stp where
  kind : Int
  x : Int
  b : Sl
  q : Sq
  n : Int
  most : Int
def Stp.cells (s : Stp) : List Value := [.int .i64 s.kind, .int .u64 s.x, s.b.v, s.q.v, .int .i64 s.n, .int .i64 s.most]
def Stp.v (s : Stp) : Value := .agg #[.int .i64 s.kind, .int .u64 s.x, s.b.v, s.q.v, .int .i64 s.n, .int .i64 s.most]
structure Stp.Ok (w : World) (s : Stp) : Prop where
  k0 : -9223372036854775808 ≤ s.kind
  k1 : s.kind ≤ 9223372036854775807
  x0 : 0 ≤ s.x
  x1 : s.x < 18446744073709551616
  b : s.b.Ok w
  q : s.q.Ok w
  n0 : -9223372036854775808 ≤ s.n
  n1 : s.n ≤ 9223372036854775807
  m0 : -9223372036854775808 ≤ s.most
  m1 : s.most ≤ 9223372036854775807
/-- its bytes and numbers lie below -/
structure Stp.Low (B : Nat) (s : Stp) : Prop where
  b : 0 < s.b.l.length → ∀ y, s.b.a = some y → y.block < B
  q : 0 < s.q.l.length → ∀ y, s.q.a = some y → y.block < B
theorem Stp.Ok.later {w w' : World} {s : Stp} (h : s.Ok w) (hb : Below w.heap.size w w') : s.Ok w' := ⟨h.k0, h.k1, h.x0, h.x1, h.b.later hb, h.q.later hb, h.n0, h.n1, h.m0, h.m1⟩
theorem Stp.Ok.keep {S : Nat → Prop} {w w' : World} {B : Nat} {s : Stp} (h : s.Ok w) (hl : s.Low B) (hb : Buts S w w') (hS : ∀ k, S k → B ≤ k) : s.Ok w' :=
  ⟨h.k0, h.k1, h.x0, h.x1, hb.ok h.b (fun hp y hy e => by have := hl.b hp y hy; have := hS _ e; omega), h.q.keep hb (fun hp y hy e => by have := hl.q hp y hy; have := hS _ e; omega), h.n0, h.n1, h.m0, h.m1⟩
theorem Stp.Ok.low {w : World} {s : Stp} (h : s.Ok w) : s.Low w.heap.size := ⟨fun hp y hy => h.b.blk hp y hy, fun hp y hy => h.q.blk hp y hy⟩
theorem Stp.Low.mono {A B : Nat} {s : Stp} (h : s.Low A) (hb : A ≤ B) : s.Low B := ⟨fun hp y hy => Nat.lt_of_lt_of_le (h.b hp y hy) hb, fun hp y hy => Nat.lt_of_lt_of_le (h.q hp y hy) hb⟩

/-- what a step does to a Writer -/
def wStep (s : Stp) (st : List Int × Int) : List Int × Int :=
  if s.kind = 1 then wLay [s.x % 256] st else if s.kind = 2 then wLay (beB 4 (s.x % 4294967296)) st else if s.kind = 3 then wLay (beB 8 s.x) st
  else if s.kind = 4 then wLay (sho s.x.toNat) st else if s.kind = 5 then wLay [if s.x % 2 = 1 then 1 else 0] st else if s.kind = 6 then wLay s.b.l st
  else if s.kind = 7 then wBytes s.b.l s.most st else if s.kind = 8 then wList s.q.l s.most st else st

/-- append of numbers from anywhere, nil too -/
theorem wpList_append_sqat {P : Program} {w : World} {ops : Array Oper} {rest : List Oper} {o : Oper} {a : Act} {Q : Exit → Act → World → Prop} (hgd : o.guard = none) (s x : Operand) (t : TypeId)
    (ho : o.op = .call { callee := .builtin .append, args := #[s, x], argTypes := #[t, t] })
    (base : Nat) (e : TypeId) (i : TypeInfo) (z : Value) (ht : P.underlying t = some (.slice e)) (hi : P.info? e = some i) (hz : i.zero = some z) (hsize : i.size = 1) (hby : i.bytes = 8) (hzs : z.cells.size = 1)
    (v : Value) (n : Nat) (xs : List Value) (hs : a.eval s = v) (hown : w.ownsRow base e 1 v n xs) (d : Sq) (hd : d.Ok w) (hx : a.eval x = .slice d.a d.n d.c)
    (hb : (n + d.n) * 8 ≤ 140737488355328) (hbase : base ≤ w.heap.size)
    (h : ∀ v' w', Hid (w'.ownsRow base e 1 v' (n + d.n) (xs ++ Q8 d.l)) → Hid (w.grownBy w' v.ownBlock) → Hid (v'.ownBlock = v.ownBlock ∨ v'.ownBlock = some w.heap.size) → wpList P ops Q rest (a.put o.dst v') w') : wpList P ops Q (o :: rest) a w := by
  cases hda : d.a with
  | none =>
    obtain ⟨h0, hc0⟩ := hd.nn hda
    have hl0 : d.l = [] := List.eq_nil_of_length_eq_zero (by rw [hd.len, h0])
    refine wpList_append_own_none hgd s x t ho base e i 1 ht hi v n xs hs hown (by rw [hx, hda, h0, hc0]) ?_
    refine h v w (show _ from ?_) (show _ from World.grownBy.refl w _) (show _ from .inl rfl)
    have h2 : w.ownsRow base e 1 v (n + d.n) (xs ++ Q8 d.l) := by rw [h0, hl0]; simpa [Q8] using hown
    exact h2
  | some ad =>
    exact wpList_append_own_at hgd s x t ho base e i z 1 8 ht hi hz hsize hby hzs (by decide) v n xs hs hown ad d.n d.c (Q8 d.l) (by rw [hx, hda]) (by rw [Q8_length, hd.len, Nat.mul_one]) (hd.cells ad hda) (Q8_one _) (by unfold maxLen; omega) hb hbase h

theorem Wst.close {base p g : Nat} {lv lv2 : Value} {l : List Int} {f : Int} {w w1 w2 w3 w5 : World} (hp : p < w.heap.size) (hl : ∀ k, lv.ownBlock = some k → k < w.heap.size) (hb1 : Below w.heap.size w w1) (h2 : Wst base p lv l f w1 w2 lv2)
    (hb3 : Below w2.heap.size w2 w3) (hz : Buts (· = g) w3 w5) (hg0 : w.heap.size ≤ g) (hg1 : g < w1.heap.size) : Wst base p lv l f w w5 lv2 := by
  have h4 := (h2.later hb1).then hb3
  refine ⟨h4.wtr.keep hz (fun e => by omega) (fun k hk e => ?_), h4.but.trans' hz (fun k hk e => by omega), h4.at_⟩
  subst e
  rcases h2.at_ _ hk with h | h
  · have := hl _ h; omega
  · omega
theorem Wtr.lts {w : World} {base p : Nat} {lv : Value} {l : List Int} {f : Int} (h : Wtr w base p lv l f) : ∀ k, lv.ownBlock = some k → k < w.heap.size := fun k hk => (h.own.lt k hk).2
theorem Wtr.ges {w : World} {base p : Nat} {lv : Value} {l : List Int} {f : Int} (h : Wtr w base p lv l f) : ∀ k, lv.ownBlock = some k → base ≤ k := fun k hk => (h.own.lt k hk).1
/-- the box of a step behind a call of the Writer -/
theorem Wst.box {base p g : Nat} {lv lv2 : Value} {l : List Int} {f : Int} {w1 w2 : World} (h : Wst base p lv l f w1 w2 lv2) {ty : TypeId} {c : List Value} (hA : Arr w1 g ty c) (hp : g ≠ p) (hl : lv.ownBlock ≠ some g) : Arr w2 g ty c :=
  h.but.arr hA (fun e => e.elim hp hl)
end Go.Proofs.Ytiloacnjgaoceab
