import Derived.Test.YtiloacnjgaoceaaHeadsW
import Derived.Test.YtiloacnjgaoceaaCutM
namespace Go.Proofs.Ytiloacnjgaoceaa
open Go.RowKit

/-- append to a row of one's own: the row itself is left as it was -/
theorem run_append_kept {P : Program} (w : World) (base : Nat) (t ty e : TypeId) (i : TypeInfo) (z : Value) (size bytes : Nat) (ht : P.underlying t = some (.slice e)) (hi : P.info? e = some i) (hz : i.zero = some z)
    (hsize : i.size = size) (hby : i.bytes = bytes) (hzs : z.cells.size = size) (hsz : 0 < size)
    (v : Value) (n : Nat) (xs : List Value) (hown : w.ownsRow base e size v n xs)
    (a : Addr) (m c : Nat) (news : List Value) (hl : news.length = m * size) (hnews : ∀ j u, news[j]? = some u → w.cell? (a.add j) = some u) (h1 : ∀ u ∈ news, u.oneCell' = true)
    (h63 : n + m ≤ maxLen) (hbytes : (n + m) * bytes ≤ 140737488355328) (hbase : base ≤ w.heap.size) :
    ∃ v' w', (Builtin.append_ #[t, t] ty #[v, .slice (some a) m c]).run P w = .ok v' w' ∧ w'.ownsRow base e size v' (n + m) (xs ++ news) ∧ w.grownBy w' v.ownBlock ∧ w'.ownsRow base e size v n xs := by
  obtain ⟨v', w', hr, h2, h3, h4⟩ := run_append_own (P := P) w base t ty e i z size bytes ht hi hz hsize hby hzs hsz v n xs hown a m c news hl hnews h1 h63 hbytes hbase
  refine ⟨v', w', hr, h2, h3, ?_⟩
  subst hsize
  subst hby
  have hsmall : n + m ≤ 9223372036854775807 := by simp only [maxLen] at h63; omega
  rcases hown.2 with ⟨rfl, rfl⟩ | ⟨g, cap, cur, rfl, hbg, hg, hnc, hcm, hcs, htake⟩
  · exact ⟨hown.1, .inl ⟨rfl, rfl⟩⟩
  · by_cases hroom : n + m ≤ cap
    · have hfit : n * i.size + news.length ≤ cur.size := by rw [hl, hcs, ← Nat.add_mul]; exact Nat.mul_le_mul_right _ hroom
      have hr2 := run_append_room (P := P) w t ty e i ht hi g n cap cur hg a m c news hl hnews h1 hroom hfit
      rw [hr] at hr2
      injection hr2 with e1 e2
      rw [e2]
      refine ⟨hown.1, .inr ⟨g, cap, _, rfl, hbg, setRow_heap w g cur _ e _ hg, hnc, hcm, ?_, ?_⟩⟩
      · simp only [List.size_toArray, List.length_append, List.length_take, List.length_drop, Array.length_toList]
        omega
      · rw [htake, ← hown.1, List.append_assoc]
        exact List.take_left
    · have holds : ∀ j u, xs[j]? = some u → w.cell? ((⟨g, 0, none⟩ : Addr).add j) = some u := hown.cells (g := g) rfl
      have hr2 := run_append_grow (P := P) w t ty e i z ht hi hz ⟨g, 0, none⟩ n cap xs hown.1 holds a m c news hl hnews (by omega) (by omega) (growslice_fits (by omega) hbytes)
      rw [hr] at hr2
      injection hr2 with e1 e2
      rw [e2]
      have hgl : g < w.heap.size := (hown.lt g rfl).2
      exact ⟨hown.1, .inr ⟨g, cap, cur, rfl, hbg, (heap_alloc_old w.drew _ hgl).trans hg, hnc, hcm, hcs, htake⟩⟩
theorem wpList_append_kept {P : Program} {w : World} {ops : Array Oper} {rest : List Oper} {o : Oper} {a : Act} {Q : Exit → Act → World → Prop} (hgd : o.guard = none) (s x : Operand) (t : TypeId)
    (ho : o.op = .call { callee := .builtin .append, args := #[s, x], argTypes := #[t, t] })
    (base : Nat) (e : TypeId) (i : TypeInfo) (z : Value) (size bytes : Nat) (ht : P.underlying t = some (.slice e)) (hi : P.info? e = some i) (hz : i.zero = some z)
    (hsize : i.size = size) (hby : i.bytes = bytes) (hzs : z.cells.size = size) (hsz : 0 < size)
    (v : Value) (n : Nat) (xs : List Value) (hs : a.eval s = v) (hown : w.ownsRow base e size v n xs)
    (ad : Addr) (m c : Nat) (news : List Value) (hx : a.eval x = .slice (some ad) m c) (hl : news.length = m * size) (hnews : ∀ j u, news[j]? = some u → w.cell? (ad.add j) = some u) (h1 : ∀ u ∈ news, u.oneCell' = true)
    (h63 : n + m ≤ maxLen) (hbytes : (n + m) * bytes ≤ 140737488355328) (hbase : base ≤ w.heap.size)
    (h : ∀ v' w', Hid (w'.ownsRow base e size v' (n + m) (xs ++ news)) → Hid (w.grownBy w' v.ownBlock) → Hid (w'.ownsRow base e size v n xs) → wpList P ops Q rest (a.put o.dst v') w') : wpList P ops Q (o :: rest) a w := by
  refine wpList_plain hgd fun K hK => ?_
  obtain ⟨v', w', hr, h2, h3, h4⟩ := run_append_kept (P := P) w base t o.type e i z size bytes ht hi hz hsize hby hzs hsz v n xs hown ad m c news hl hnews h1 h63 hbytes hbase
  unfold Oper.wp execOp
  simp only [ho, resolve, invoke, builtin, Sem.run_bind, Sem.run_pure, Result.andThen_ok, List.map_toArray, List.map_cons, List.map_nil, hs, hx, hr]
  exact hK _ _ (h v' w' h2 h3 h4)

theorem own_some' {w : World} {base e n j : Nat} {a : Option Addr} {c : Nat} {xs : List Value} (h : w.ownsRow base e 1 (.slice a n c) n xs) (hj : j < n) : ∃ g, a = some ⟨g, 0, none⟩ ∧ base ≤ g ∧ n ≤ c ∧ c ≤ maxLen := by
  rcases h.2 with ⟨h1, h2⟩ | ⟨g, cap, cur, h1, h2, h3, h4, h5, -⟩
  · omega
  · simp only [Value.slice.injEq] at h1
    obtain ⟨rfl, -, rfl⟩ := h1
    exact ⟨g, rfl, h2, h4, h5⟩

/-! Five rows of one's own, four of them in a list. -/

structure R5 where
  a : Nat → Option Addr
  n : Nat → Nat
  c : Nat → Nat
def R5.v (R : R5) (i : Nat) : Value := .slice (R.a i) (R.n i) (R.c i)
structure Five (B G : Nat) (R : R5) (L : Nat → List Int) (w3 wr : World) : Prop where
  arr : Arr wr G 22 [R.v 0, R.v 1, R.v 2, R.v 3]
  own : ∀ i, i < 5 → wr.ownsRow B 5 1 (R.v i) (R.n i) (U8 (L i))
  apt : ∀ i j, i < 5 → j < 5 → i ≠ j → ∀ g, (R.v i).ownBlock = some g → (R.v j).ownBlock ≠ some g
  bel : Below B w3 wr
  isB : ∀ i, i < 5 → IsB (L i)
theorem Five.cell {B G : Nat} {R : R5} {L : Nat → List Int} {w3 wr : World} (h : Five B G R L w3 wr) {i : Nat} (hi : i < 4) : wr.cell? ⟨G, i, none⟩ = some (.slice (R.a i) (R.n i) (R.c i)) := by
  rw [h.arr.cell i]
  have : i = 0 ∨ i = 1 ∨ i = 2 ∨ i = 3 := by omega
  rcases this with rfl | rfl | rfl | rfl <;> rfl
theorem Five.later {B G : Nat} {R : R5} {L : Nat → List Int} {w3 wr w' : World} (h : Five B G R L w3 wr) (hB : B ≤ wr.heap.size) (hb : Below wr.heap.size wr w') : Five B G R L w3 w' :=
  ⟨h.arr.later hb, fun i hi => own_later (h.own i hi) hb, h.apt, h.bel.trans (hb.mono hB), h.isB⟩
theorem Five.put {B G : Nat} {R : R5} {L : Nat → List Int} {w3 wr w' : World} (h : Five B G R L w3 wr) (hB : B ≤ wr.heap.size) {i : Nat} (hi : i < 5) (hw : Buts (fun k => (R.v i).ownBlock = some k) wr w') {L' : List Int}
    (ho : w'.ownsRow B 5 1 (R.v i) (R.n i) (U8 L')) (hL : IsB L') : Five B G R (fun t => if t = i then L' else L t) w3 w' := by
  refine ⟨hw.arr h.arr (own_arr_ne (h.own i hi) h.arr (by decide)), fun j hj => ?_, h.apt, h.bel.trans (hw.below hB (fun k hk => ((h.own i hi).lt k hk).1)), fun j hj => ?_⟩
  · by_cases hji : j = i
    · subst hji; simp only [if_true]; exact ho
    · simp only [if_neg hji]
      exact hw.own (h.own j hj) (fun g hg e => h.apt i j hi hj (fun e => hji e.symm) g e hg)
  · by_cases hji : j = i
    · simp only [if_pos hji]; exact hL
    · simp only [if_neg hji]; exact h.isB j hj
theorem Five.ext {B G : Nat} {R : R5} {L L' : Nat → List Int} {w3 wr : World} (h : Five B G R L w3 wr) (e : ∀ i, L i = L' i) : Five B G R L' w3 wr := by
  have : L = L' := funext e
  rw [← this]; exact h
theorem five_mk {B G x0 x1 x2 x3 x4 x5 : Nat} {a0 a1 a2 a3 a4 : Option Addr} {c0 c1 c2 c3 c4 : Nat} {l0 l1 l2 l3 l4 : List Int} {w3 wr : World} (n0 n1 n2 n3 n4 : Nat)
    (hA : Arr wr G 22 [.slice a0 n0 c0, .slice a1 n1 c1, .slice a2 n2 c2, .slice a3 n3 c3]) (hb : Below B w3 wr)
    (o0 : wr.ownsRow B 5 1 (.slice a0 n0 c0) n0 (U8 l0)) (o1 : wr.ownsRow B 5 1 (.slice a1 n1 c1) n1 (U8 l1)) (o2 : wr.ownsRow B 5 1 (.slice a2 n2 c2) n2 (U8 l2)) (o3 : wr.ownsRow B 5 1 (.slice a3 n3 c3) n3 (U8 l3)) (o4 : wr.ownsRow B 5 1 (.slice a4 n4 c4) n4 (U8 l4))
    (hx : x0 ≤ x1 ∧ x1 ≤ x2 ∧ x2 ≤ x3 ∧ x3 ≤ x4 ∧ x4 ≤ x5)
    (b0 : ∀ g, (Value.slice a0 n0 c0).ownBlock = some g → x0 ≤ g ∧ g < x1) (b1 : ∀ g, (Value.slice a1 n1 c1).ownBlock = some g → x1 ≤ g ∧ g < x2) (b4 : ∀ g, (Value.slice a4 n4 c4).ownBlock = some g → x2 ≤ g ∧ g < x3)
    (b2 : ∀ g, (Value.slice a2 n2 c2).ownBlock = some g → x3 ≤ g ∧ g < x4) (b3 : ∀ g, (Value.slice a3 n3 c3).ownBlock = some g → x4 ≤ g ∧ g < x5)
    (i0 : IsB l0) (i1 : IsB l1) (i2 : IsB l2) (i3 : IsB l3) (i4 : IsB l4) :
    ∃ (R : R5) (L : Nat → List Int), Five B G R L w3 wr ∧ L 4 = l4 ∧ R.v 4 = .slice a4 n4 c4 ∧ (∀ i, i < 5 → (L i).length = R.n i) ∧ R.n 0 = n0 ∧ R.n 1 = n1 ∧ R.n 2 = n2 ∧ R.n 3 = n3 ∧ R.n 4 = n4 := by
  refine ⟨⟨fun i => match i with | 0 => a0 | 1 => a1 | 2 => a2 | 3 => a3 | _ => a4, fun i => match i with | 0 => n0 | 1 => n1 | 2 => n2 | 3 => n3 | _ => n4, fun i => match i with | 0 => c0 | 1 => c1 | 2 => c2 | 3 => c3 | _ => c4⟩,
    fun i => match i with | 0 => l0 | 1 => l1 | 2 => l2 | 3 => l3 | _ => l4, ⟨hA, ?_, ?_, hb, ?_⟩, rfl, rfl, ?_, rfl, rfl, rfl, rfl, rfl⟩
  · intro i hi
    have : i = 0 ∨ i = 1 ∨ i = 2 ∨ i = 3 ∨ i = 4 := by omega
    rcases this with rfl | rfl | rfl | rfl | rfl
    · exact o0
    · exact o1
    · exact o2
    · exact o3
    · exact o4
  · intro i j hi hj hne g e1 e2
    have h1 : i = 0 ∨ i = 1 ∨ i = 2 ∨ i = 3 ∨ i = 4 := by omega
    have h2 : j = 0 ∨ j = 1 ∨ j = 2 ∨ j = 3 ∨ j = 4 := by omega
    have k0 := b0 g
    have k1 := b1 g
    have k2 := b2 g
    have k3 := b3 g
    have k4 := b4 g
    simp only [R5.v] at e1 e2
    rcases h1 with rfl | rfl | rfl | rfl | rfl <;> rcases h2 with rfl | rfl | rfl | rfl | rfl <;>
      simp only at e1 e2 <;> simp only [e1, e2, true_implies] at k0 k1 k2 k3 k4 <;> omega
  · intro i hi
    have : i = 0 ∨ i = 1 ∨ i = 2 ∨ i = 3 ∨ i = 4 := by omega
    rcases this with rfl | rfl | rfl | rfl | rfl
    · exact i0
    · exact i1
    · exact i2
    · exact i3
    · exact i4
  · intro i hi
    have h0 : ∀ {n : Nat} {v : Value} {l : List Int}, wr.ownsRow B 5 1 v n (U8 l) → l.length = n := fun h => by have := h.1; simpa using this
    have : i = 0 ∨ i = 1 ∨ i = 2 ∨ i = 3 ∨ i = 4 := by omega
    rcases this with rfl | rfl | rfl | rfl | rfl
    · exact h0 o0
    · exact h0 o1
    · exact h0 o2
    · exact h0 o3
    · exact h0 o4
theorem wBytes_ok {B : List Int} {most : Int} (l : List Int) (h : (B.length : Int) ≤ most) : wBytes B most (l, 0) = (l ++ (sho B.length ++ B), 0) := by
  unfold wBytes wCount; rw [if_neg (by omega)]; simp [wLay]
end Go.Proofs.Ytiloacnjgaoceaa
