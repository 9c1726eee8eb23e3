import Derived.Test.YtmdpmkdofgligaaTorM
import Derived.Test.YtmdpmkdofgligaaLoW
set_option linter.unusedVariables false
namespace Go.Proofs.Ytmdpmkdofgligaa
open Go.RowKit

theorem crc0_ne : crc [0] ≠ 0 := by
  unfold crc
  have h : crcN [0] ≠ 0 := by decide +kernel
  omega
theorem zero1_isB : IsB [0] := fun x hx => by simp at hx; omega
theorem frs_ok : ∀ (ps : List Sl) (i : Nat), (∀ s ∈ ps, IsB s.l ∧ s.l.length ≤ 262144) → i + ps.length ≤ 256 → Okf (frs i ps)
  | [], _, _, _ => fun f hf => by simp [frs] at hf
  | s :: ps, i, h, hi => by
    intro f hf
    simp only [frs, List.mem_cons] at hf
    simp only [List.length_cons] at hi
    rcases hf with rfl | hf
    · exact ⟨by simp only; omega, (h s (by simp)).1, (h s (by simp)).2⟩
    · exact frs_ok ps (i + 1) (fun t ht => h t (List.mem_cons_of_mem _ ht)) (by omega) f hf
theorem flat_isB : ∀ (fs : List (Int × List Int)), Okf fs → IsB (flat fs)
  | [], _ => fun x hx => by simp [flat] at hx
  | f :: fs, h => (encL_isB (h f (by simp)).1 (h f (by simp)).2.1).append (flat_isB fs fun g hg => h g (List.mem_cons_of_mem _ hg))
theorem own_form {W : World} {B e sz n : Nat} {v : Value} {xs : List Value} (h : W.ownsRow B e sz v n xs) : ∃ a c, v = .slice a n c := by
  rcases h.2 with ⟨rfl, h2⟩ | ⟨g, cap, cur, rfl, _⟩
  · first | exact ⟨none, 0, by simp_all⟩ | exact ⟨none, 0, h2 ▸ rfl⟩
  · exact ⟨_, _, rfl⟩
theorem own_cap {W : World} {B e n c : Nat} {a : Option Addr} {xs : List Value} (h : W.ownsRow B e 1 (.slice a n c) n xs) : n ≤ c ∧ c ≤ 9223372036854775807 := by
  rcases h.2 with ⟨h1, h2⟩ | ⟨g, cap, cur, h1, _, _, h3, h4, _⟩
  · simp at h1; omega
  · simp at h1
    obtain ⟨_, rfl⟩ := h1
    unfold maxLen at h4
    omega
theorem Sl.Ok.cutAt {w : World} {a : Option Addr} {n c : Nat} {l : List Int} (h : Sl.Ok w ⟨a, n, c, l⟩) (k : Nat) (hk : k ≤ n) : Sl.Ok w ⟨a, k, k, l.take k⟩ := by
  have h1 := h.len
  have h2 := h.le
  have h3 := h.mx
  simp only at h1 h2 h3
  exact ⟨by simp only [List.length_take]; omega, Nat.le_refl _, by simp only; omega, (fun e => by have := h.nn e; simp only at this ⊢; omega), h.isB.take k, lies_take h.lies k⟩
theorem own_okb {w : World} {base n c : Nat} {a : Option Addr} {l : List Int} (h : w.ownsRow base 5 1 (.slice a n c) n (U8 l)) (hB : IsB l) : Sl.Ok w ⟨a, n, c, l⟩ := by
  obtain ⟨s, hs, so, sl, sn, sa⟩ := own_sl h hB
  obtain ⟨sa', sn', sc, sl'⟩ := s
  simp only [Sl.v, Value.slice.injEq] at hs
  obtain ⟨rfl, rfl, rfl⟩ := hs
  simp only at sl
  subst sl
  exact so
theorem Okf_take {fs : List (Int × List Int)} (h : Okf fs) (k : Nat) : Okf (fs.take k) := fun f hf => h f (List.mem_of_mem_take hf)
theorem pls_len {xs : List Fx} {fs : List (Int × List Int)} {k : Nat} (h : xs.map Fx.d = pls 0 (fs.take k)) (hk : k ≤ fs.length) : xs.length = k := by
  have e := congrArg List.length h
  rw [List.length_map, pls_length, List.length_take] at e
  omega
theorem fxC_at : ∀ (xs : List Fx) (j : Nat) (x : Fx), xs[j]? = some x → (fxC xs)[j * 2]? = some (.int .u8 x.k) ∧ (fxC xs)[j * 2 + 1]? = some (.slice x.a x.p.length x.p.length)
  | [], j, x, h => by simp at h
  | y :: xs, 0, x, h => by simp at h; subst h; exact ⟨rfl, rfl⟩
  | y :: xs, j + 1, x, h => by
    have ih := fxC_at xs j x (by simpa using h)
    rw [show (j + 1) * 2 = j * 2 + 1 + 1 by omega]
    simpa [fxC] using ih
theorem pls_at : ∀ (fs : List (Int × List Int)) (i j : Nat) (f : Int × List Int), fs[j]? = some f → ∃ o, (pls i fs)[j]? = some (o, f.1, f.2)
  | [], _, j, f, h => by simp at h
  | g :: fs, i, 0, f, h => by simp at h; subst h; exact ⟨i, rfl⟩
  | g :: fs, i, j + 1, f, h => by
    obtain ⟨o, ho⟩ := pls_at fs (i + g.2.length + 10) j f (by simpa using h)
    exact ⟨o, by simpa [pls] using ho⟩
theorem frs_at : ∀ (ps : List Sl) (i j : Nat) (s : Sl), ps[j]? = some s → (frs i ps)[j]? = some (((i + j : Nat) : Int), s.l)
  | [], _, j, s, h => by simp at h
  | t :: ps, i, 0, s, h => by simp at h; subst h; rfl
  | t :: ps, i, j + 1, s, h => by
    have ih := frs_at ps (i + 1) j s (by simpa using h)
    rw [show i + 1 + j = i + (j + 1) by omega] at ih
    simpa [frs] using ih
/-- the j-th frame that was scanned is the j-th payload's -/
theorem xs_at {xs : List Fx} {fs : List (Int × List Int)} {ps : List Sl} {k j : Nat} (h : xs.map Fx.d = pls 0 (fs.take k)) (hfs : fs = frs 0 ps) (hk : k ≤ fs.length) (hj : j < k) :
    ∃ x s, xs[j]? = some x ∧ ps[j]? = some s ∧ x.k = (j : Int) ∧ x.p = s.l := by
  have hpl : fs.length = ps.length := by rw [hfs, frs_length]
  obtain ⟨s, hs⟩ : ∃ s, ps[j]? = some s := ⟨_, List.getElem?_eq_getElem (by omega)⟩
  have h1 := frs_at ps 0 j s hs
  rw [← hfs, Nat.zero_add] at h1
  have h2 : (fs.take k)[j]? = some (((j : Nat) : Int), s.l) := by rw [List.getElem?_take, if_pos hj]; exact h1
  obtain ⟨o, ho⟩ := pls_at _ 0 j _ h2
  rw [← h, List.getElem?_map] at ho
  cases hx : xs[j]? with
  | none => rw [hx] at ho; simp at ho
  | some x =>
    rw [hx] at ho
    simp [Fx.d] at ho
    exact ⟨x, s, rfl, hs, ho.2.1, ho.2.2⟩
theorem same_q {W : World} {n : Nat} {a b : Option Addr} {m c c' : Nat} {l : List Int} (ha : Sl.Ok W ⟨a, m, c, l⟩) (hb : Sl.Ok W ⟨b, m, c', l⟩) (hm : m ≤ 1099511627776) : Calls Try.prog 15 #[.slice a m c, .slice b m c'] (W.drewN n) fun e w'' => e = .returned (.bool true) ∧ ∃ q, w'' = W.drewN q :=
  (same_t ⟨a, m, c, l⟩ ⟨b, m, c', l⟩ (W.drewN n) (ok_drewN ha n) (ok_drewN hb n) hm rfl).mono fun e w' ⟨h, k, hk⟩ => ⟨h, n + k, by rw [hk, World.drewN_drewN]⟩
theorem wpList_append_torn {W : World} {ops : Array Oper} {rest : List Oper} {o : Oper} {a : Act} {Q : Exit → Act → World → Prop} (hgd : o.guard = none) (s x : Operand)
    (ho : o.op = .call { callee := .builtin .append, args := #[s, x], argTypes := #[29, 29] }) (a_ : Option Addr) (t : Nat) (l : List Int) (hs : a.eval s = .slice a_ t t) (hd : Sl.Ok W ⟨a_, t, t, l⟩) (bh : Int) (hb : 0 ≤ bh ∧ bh ≤ 255)
    (hx : a.eval x = .slice (some ⟨W.heap.size, 0, none⟩) 1 1) (ht : t ≤ 100000)
    (h : ∀ a' c' w', Hid (Sl.Ok w' ⟨a', t + 1, c', l ++ [bh]⟩) → Hid (Below W.heap.size W w') → wpList Try.prog ops Q rest (a.put o.dst (.slice a' (t + 1) c')) w') : wpList Try.prog ops Q (o :: rest) a (W.alloc (.cells #[.int .u8 bh] 5)) := by
  obtain ⟨i0, hi, hz0, hz1, hz2⟩ := info_parts Try.infoB
  have hqB : IsB [bh] := fun y hy => by simp at hy; omega
  have hl : l.length = t := hd.len
  cases ha : a_ with
  | none =>
    have h0 := hd.nn ha
    simp only at h0
    obtain ⟨h0, -⟩ := h0
    subst h0
    have hl0 : l = [] := List.eq_nil_of_length_eq_zero hl
    subst hl0
    rw [ha] at hs
    refine wpList_append_lit (w0 := W) (W := W) hgd s x ho W.heap.size (.slice none 0 0) 0 [] [bh] hs (World.ownsRow_nil _ _ _ _) (Below.refl _ _) (Nat.le_refl _) hqB (by simp) hx (by simp) ?_
    intro v' w' h1 h2
    obtain ⟨a', c', rfl⟩ := own_form (unhide h1)
    exact h a' c' w' (hide (own_okb (unhide h1) hqB)) h2
  | some b =>
    rw [ha] at hs
    have hd2 := hd.later (below_alloc W (.cells #[.int .u8 bh] 5))
    refine wpList_append_new hgd s x 29 ho 5 i0 (.int .u8 0) Try.underlying29 hi hz0 hz1 hz2 b t t hs l hl hd.isB (hd2.cells b ha) ⟨_, _, _, [bh]⟩ (lit_ok W [bh] hqB (by simp)) hx (by simp) (by simp) (by simp; omega) ?_
    intro cap w' h1 h2 h3
    exact h _ _ w' h1 (hide (bel_then (below_alloc W _) (below_alloc W _).size (unhide h2)))
theorem sum0_any (w : World) : Calls Try.prog 4 #[.slice (some ⟨w.heap.size, 0, none⟩) 1 1] (w.alloc (.cells #[.int .u8 0] 5)) fun e w' => e = .returned (.int .u32 (crc [0])) ∧ w' = w.alloc (.cells #[.int .u8 0] 5) := sum_any _ _ (lit_ok w [0] zero1_isB (by simp))
theorem I64s_at (l : List Nat) (i : Nat) (h : i < l.length) : (I64s l)[i]? = some (.int .i64 (l.getD i 0 : Nat)) := by
  simp [I64s, List.getElem?_map, List.getElem?_eq_getElem h, List.getD]
end Go.Proofs.Ytmdpmkdofgligaa
