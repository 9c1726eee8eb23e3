import Derived.Test.YtiloacnjgaoceabSteM
namespace Go.Proofs.Ytiloacnjgaoceab
open Go.RowKit

/-! Steps in a row of one's own. -/

def flat (ss : List Stp) : List Value := ss.flatMap Stp.cells
theorem cells_len (q : Stp) : q.cells.length = 6 := rfl
theorem flat_len (ss : List Stp) : (flat ss).length = ss.length * 6 := by
  induction ss with
  | nil => rfl
  | cons q r ih =>
    have : flat (q :: r) = q.cells ++ flat r := rfl
    rw [this, List.length_append, ih, cells_len, List.length_cons]; omega
theorem flat_snoc (ss : List Stp) (q : Stp) : flat (ss ++ [q]) = flat ss ++ q.cells := by simp [flat]
theorem flatS_at : ∀ (ss : List Stp) (i : Nat) (q : Stp), ss[i]? = some q → ∀ j, j < 6 → (flat ss)[i * 6 + j]? = q.cells[j]?
  | [], i, q, h, _, _ => by simp at h
  | p :: r, 0, q, h, j, hj => by
    simp at h; subst h
    have : flat (p :: r) = p.cells ++ flat r := rfl
    rw [this, Nat.zero_mul, Nat.zero_add, List.getElem?_append_left (by rw [cells_len]; exact hj)]
  | p :: r, i + 1, q, h, j, hj => by
    have h' : r[i]? = some q := by simpa using h
    have : flat (p :: r) = p.cells ++ flat r := rfl
    rw [this, List.getElem?_append_right (by rw [cells_len]; omega), cells_len, show (i + 1) * 6 + j - 6 = i * 6 + j from by omega]
    exact flatS_at r i q h' j hj
theorem cells_one (q : Stp) : ∀ u ∈ q.cells, u.oneCell' = true := by
  intro u hu
  simp only [Stp.cells, Sl.v, Sq.v, List.mem_cons, List.not_mem_nil, or_false] at hu
  rcases hu with rfl | rfl | rfl | rfl | rfl | rfl <;> rfl
theorem Try.infoStep : (Try.prog.info? 34).map (fun i => (i.zero, i.size, i.bytes)) = some (some (.agg #[.int .i64 0, .int .u64 0, .slice none 0 0, .slice none 0 0, .int .i64 0, .int .i64 0]), 6, 80) := by kernel_rfl

/-- a row of steps -/
theorem ows_ok {w : World} {base n : Nat} {v : Value} {ss : List Stp} (h : w.ownsRow base 34 6 v n (flat ss)) (ha : ∀ q ∈ ss, q.Ok w) : ∃ s : Sps, v = s.v ∧ s.Ok w ∧ s.ss = ss ∧ s.n = n := by
  have hl : ss.length = n := by have := h.1; rw [flat_len] at this; omega
  rcases h.2 with ⟨rfl, rfl⟩ | ⟨g, cap, cur, rfl, hb, hg, hnc, hcm, -⟩
  · exact ⟨⟨none, 0, 0, ss⟩, rfl, ⟨hl, Nat.le_refl _, Nat.zero_le _, fun hp => by simp only at hp; omega, ha⟩, rfl, rfl⟩
  · refine ⟨⟨some ⟨g, 0, none⟩, n, cap, ss⟩, rfl, ⟨hl, hnc, hcm, fun hp => ⟨g, 0, rfl, (h.lt g rfl).2, fun i q hi j v hv => ?_⟩, ha⟩, rfl, rfl⟩
    have hj : j < 6 := by
      by_cases hj : j < 6
      · exact hj
      · rw [List.getElem?_eq_none (by rw [cells_len]; omega)] at hv; simp at hv
    have hil : i < ss.length := by
      by_cases hil : i < ss.length
      · exact hil
      · simp only at hi; rw [List.getElem?_eq_none (by omega)] at hi; simp at hi
    rw [Nat.zero_add, h.cellAt (i * 6 + j) (by omega), flatS_at ss i q hi j hj]
    exact hv

/-- append to a row of one's own, at a step of a drawn region -/
theorem step_append_at {P : Program} {ops : Array Oper} {o : Oper} {a : Act} {w : World} {K : Act → World → Prop} {Q : Exit → Act → World → Prop} {E : Prop} (hgd : o.guard = none) (s x : Operand) (t : TypeId)
    (ho : o.op = .call { callee := .builtin .append, args := #[s, x], argTypes := #[t, t] })
    (base : Nat) (e : TypeId) (i : TypeInfo) (z : Value) (size bytes : Nat) (ht : P.underlying t = some (.slice e)) (hi : P.info? e = some i) (hz : i.zero = some z)
    (hsize : i.size = size) (hby : i.bytes = bytes) (hzs : z.cells.size = size) (hsz : 0 < size)
    (v : Value) (n : Nat) (xs : List Value) (hs : a.eval s = v) (hown : w.ownsRow base e size v n xs)
    (ad : Addr) (m c : Nat) (news : List Value) (hx : a.eval x = .slice (some ad) m c) (hl : news.length = m * size) (hnews : ∀ j u, news[j]? = some u → w.cell? (ad.add j) = some u) (h1 : ∀ u ∈ news, u.oneCell' = true)
    (h63 : n + m ≤ maxLen) (hbytes : (n + m) * bytes ≤ 140737488355328) (hbase : base ≤ w.heap.size)
    (h : ∀ v' w', w'.ownsRow base e size v' (n + m) (xs ++ news) → w.grownBy w' v.ownBlock → (v'.ownBlock = v.ownBlock ∨ v'.ownBlock = some w.heap.size) → K (a.put o.dst v') w') :
    if Region.wanted o (yielded ops a.tmps) = true then Oper.wp P o a w K Q else E := by
  have hw : Region.wanted o (yielded ops a.tmps) = true := by simp [Region.wanted, hgd]
  rw [if_pos hw]
  obtain ⟨v', w', hr, r1, r2, r3⟩ := run_append_own_at (P := P) w base t o.type e i z size bytes ht hi hz hsize hby hzs hsz v n xs hown ad m c news hl hnews h1 h63 hbytes hbase
  unfold Oper.wp
  simp [execOp, ho, resolve, invoke, builtin, hs, hx, hr, Result.andThen]
  exact h v' w' r1 r2 r3

/-- blocks of other types than bytes and numbers -/
def Oth (S : Nat → Prop) (w : World) : Prop := ∀ k, S k → ∃ cs ty fr, w.heap[k]? = some (.cells cs ty fr) ∧ ty ≠ 5 ∧ ty ≠ 31
theorem Oth.arr {w : World} {p : Nat} {ty : TypeId} {l : List Value} (h : Arr w p ty l) (h1 : ty ≠ 5) (h2 : ty ≠ 31) : Oth (· = p) w := fun k e => by subst e; exact ⟨_, _, _, h, h1, h2⟩
theorem Oth.own {w : World} {base e sz n : Nat} {v : Value} {xs : List Value} (h : w.ownsRow base e sz v n xs) (h1 : e ≠ 5) (h2 : e ≠ 31) : Oth (fun k => v.ownBlock = some k) w := fun k hk => by
  rcases h.2 with ⟨rfl, -⟩ | ⟨g, cap, cur, rfl, -, hg, -⟩
  · simp [Value.ownBlock] at hk
  · simp only [Value.ownBlock, Option.some.injEq] at hk
    subst hk
    exact ⟨_, _, _, hg, h1, h2⟩
theorem own_oth {S : Nat → Prop} {w w' : World} (hb : Buts S w w') (hS : Oth S w) {base e sz n : Nat} {v : Value} {xs : List Value} (h : w.ownsRow base e sz v n xs) (he : e = 5 ∨ e = 31) : w'.ownsRow base e sz v n xs := by
  refine hb.own h (fun g hg hs => ?_)
  obtain ⟨cs, ty, fr, h1, h2, h3⟩ := hS g hs
  rcases h.2 with ⟨rfl, -⟩ | ⟨g', cap, cur, rfl, -, h4, -⟩
  · simp [Value.ownBlock] at hg
  · simp only [Value.ownBlock, Option.some.injEq] at hg
    subst hg
    rw [h4] at h1
    simp only [Option.some.injEq, Obj.cells.injEq] at h1
    rcases he with rfl | rfl
    · exact h2 h1.2.1.symm
    · exact h3 h1.2.1.symm

/-- a step whose bytes and numbers are rows of one's own -/
structure QOwn (base : Nat) (w : World) (s : Stp) : Prop where
  b : w.ownsRow base 5 1 s.b.v s.b.n (U8 s.b.l)
  q : w.ownsRow base 31 1 s.q.v s.q.n (Q8 s.q.l)
  isB : IsB s.b.l
  isQ : IsQ s.q.l
  k0 : -9223372036854775808 ≤ s.kind
  k1 : s.kind ≤ 9223372036854775807
  x0 : 0 ≤ s.x
  x1 : s.x < 18446744073709551616
  n0 : -9223372036854775808 ≤ s.n
  n1 : s.n ≤ 9223372036854775807
  m0 : -9223372036854775808 ≤ s.most
  m1 : s.most ≤ 9223372036854775807
theorem QOwn.ok {base : Nat} {w : World} {q : Stp} (h : QOwn base w q) : q.Ok w := by
  refine ⟨h.k0, h.k1, h.x0, h.x1, ?_, ?_, h.n0, h.n1, h.m0, h.m1⟩
  · obtain ⟨s', hs', oks, hsl, -, -⟩ := own_sl h.b h.isB
    generalize q.b = b at *
    obtain ⟨xa, xn, xc, xl⟩ := s'
    obtain ⟨ya, yn, yc, yl⟩ := b
    have hsl' : xl = yl := hsl
    simp only [Sl.v, Value.slice.injEq] at hs'
    obtain ⟨e1, e2, e3⟩ := hs'
    subst e1 e2 e3 hsl'; exact oks
  · obtain ⟨s', hs', oks, hsl, -, -⟩ := ownq_sq h.q h.isQ
    generalize q.q = b at *
    obtain ⟨xa, xn, xc, xl⟩ := s'
    obtain ⟨ya, yn, yc, yl⟩ := b
    have hsl' : xl = yl := hsl
    simp only [Sq.v, Value.slice.injEq] at hs'
    obtain ⟨e1, e2, e3⟩ := hs'
    subst e1 e2 e3 hsl'; exact oks
theorem QOwn.keep {S : Nat → Prop} {base : Nat} {w w' : World} {q : Stp} (h : QOwn base w q) (hb : Buts S w w') (hS : Oth S w) : QOwn base w' q :=
  ⟨own_oth hb hS h.b (.inl rfl), own_oth hb hS h.q (.inr rfl), h.isB, h.isQ, h.k0, h.k1, h.x0, h.x1, h.n0, h.n1, h.m0, h.m1⟩
theorem QOwn.later {base : Nat} {w w' : World} {q : Stp} (h : QOwn base w q) (hb : Below w.heap.size w w') : QOwn base w' q :=
  h.keep (Buts.of_below (S := fun _ => False) hb) (fun _ e => e.elim)
end Go.Proofs.Ytiloacnjgaoceab
