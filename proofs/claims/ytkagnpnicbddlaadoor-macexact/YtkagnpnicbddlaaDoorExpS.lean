import Derived.Test.YtkagnpnicbddlaaDoorGrK
namespace Go.Proofs.YtkagnpnicbddlaaDoor
open Go.RowKit

/-- what stands through a round of Expand -/
structure ExS (w : World) (gK gM : Nat) (K : List Int) (T : List Int) (m n : Nat) (ls : Sl) (wr : World) : Prop where
  key : Arr wr gK 23 (U8 K)
  own : wr.ownsRow w.heap.size 5 1 (.slice (some ⟨gM, 0, none⟩) m n) m (U8 T)
  lst : ls.Ok wr
  bel : Below w.heap.size w wr
theorem ExS.later {w : World} {gK gM : Nat} {K T : List Int} {m n : Nat} {ls : Sl} {wr w' : World} (s : ExS w gK gM K T m n ls wr) (hb : Below wr.heap.size wr w') : ExS w gK gM K T m n ls w' :=
  ⟨s.key.later hb, own_later s.own hb, s.lst.later hb, s.bel.trans (hb.mono s.bel.size)⟩
theorem own_setRow {w : World} {base e n : Nat} {g0 cap : Nat} {xs : List Value} (h : w.ownsRow base e 1 (.slice (some ⟨g0, 0, none⟩) n cap) n xs) {g : Nat} (c : Array Value) (hg : g0 ≠ g) : (w.setRow g c).ownsRow base e 1 (.slice (some ⟨g0, 0, none⟩) n cap) n xs := by
  refine ⟨h.1, ?_⟩
  rcases h.2 with h2 | ⟨g', cap', cur, h1, h2, h3, h4⟩
  · exact .inl h2
  · refine .inr ⟨g', cap', cur, h1, h2, ?_, h4⟩
    simp at h1
    rw [setRow_other w g g' c (by omega)]; exact h3
theorem own_base {w : World} {B B' e n : Nat} {v : Value} {xs : List Value} (h : w.ownsRow B e 1 v n xs) (hB : B' ≤ B) : w.ownsRow B' e 1 v n xs := by
  refine ⟨h.1, ?_⟩
  rcases h.2 with h2 | ⟨g, cap, cur, h1, h2, h3⟩
  · exact .inl h2
  · exact .inr ⟨g, cap, cur, h1, by omega, h3⟩
theorem tZ_le (k info : List Int) (i : Nat) : (tZ k info i).length ≤ 32 := by
  cases i with
  | zero => simp [tZ]
  | succ i => rw [tZ_length]; exact Nat.le_refl _
theorem Lies.setRow {w : World} {a : Option Addr} {l : List Int} (h : Lies w a l) {g : Nat} (c : Array Value) (hg : 0 < l.length → ∀ x, a = some x → x.block < g) : Lies (w.setRow g c) a l := by
  intro hp
  obtain ⟨b, off, ha, hlt, hc⟩ := h hp
  have hb := hg hp _ ha
  simp only at hb
  refine ⟨b, off, ha, by simpa using hlt, fun i hi => ?_⟩
  rw [World.cell?_of_block (w := w) (setRow_other w g b c (by omega))]; exact hc i hi
theorem Sl.Ok.setRow {w : World} {s : Sl} (h : s.Ok w) {g : Nat} (c : Array Value) (hg : 0 < s.l.length → ∀ x, s.a = some x → x.block < g) : s.Ok (w.setRow g c) := ⟨h.len, h.le, h.mx, h.nn, h.isB, h.lies.setRow c hg⟩
theorem ExS.setRow {w : World} {gK gM : Nat} {K T : List Int} {m n : Nat} {ls : Sl} {wr : World} (s : ExS w gK gM K T m n ls wr) {g : Nat} (c : Array Value) (h1 : gK < g) (h2 : gM < g) (h3 : w.heap.size ≤ g) (h4 : 0 < ls.l.length → ∀ x, ls.a = some x → x.block < g) : ExS w gK gM K T m n ls (wr.setRow g c) :=
  ⟨s.key.setRow_ne c (by omega), own_setRow s.own c (by omega), s.lst.setRow c h4, below_setRow s.bel h3 c⟩
theorem liesV_at3 {w W : World} {ty : TypeId} {a b c : Value} (h : w.alloc (.cells #[a, b, c] ty (0, 0)) = W) : LiesV W (some ⟨w.heap.size, 0, none⟩) [a, b, c] := by subst h; exact liesV_new w ty [a, b, c]
theorem byte_at {w W : World} {x : Int} (h : w.alloc (.cells #[.int .u8 x] 5 (0, 0)) = W) (h0 : 0 ≤ x) (h1 : x ≤ 255) : Sl.Ok W ⟨some ⟨w.heap.size, 0, none⟩, 1, 1, [x]⟩ := by
  subst h
  refine ⟨rfl, Nat.le_refl _, (by show 1 ≤ maxLen; decide), (fun h => by cases h), (by intro y hy; simp at hy; subst hy; exact ⟨h0, h1⟩), ?_⟩
  exact (Arr.new w 5 (U8 [x])).lies
theorem join_three (pa : Option Addr) (pc : Nat) (s t u : Sl) (w : World) (J : List Int) (jn : Nat) (hs : s.Ok w) (ht : t.Ok w) (hu : u.Ok w) (hJ : Hid (s.l ++ (t.l ++ u.l) = J)) (hj : Hid (J.length = jn)) (hv : LiesV w pa [s.v, t.v, u.v]) (hn : jn ≤ 1099511627776) :
    Calls Tryd.prog 20 #[.slice pa 3 pc] w fun e w' => e = .returned (.slice (some ⟨w.heap.size, 0, none⟩) jn jn) ∧
      w'.ownsRow w.heap.size 5 1 (.slice (some ⟨w.heap.size, 0, none⟩) jn jn) jn (U8 J) ∧ Below w.heap.size w w' := by
  have hc : cat [s, t, u] = J := by rw [← unhide hJ]; simp [cat]
  have h := join_any pa pc [s, t, u] w hv (by intro x hx; simp at hx; rcases hx with rfl | rfl | rfl <;> assumption) (by simp) (by rw [hc, unhide hj]; exact hn)
  rw [hc, unhide hj] at h
  exact h
theorem Arr.ok {w : World} {g : Nat} {ty : TypeId} {l : List Int} {k : Nat} (h : Arr w g ty (U8 l)) (hl : l.length = k) (hB : IsB l) (hm : k ≤ maxLen) : Sl.Ok w ⟨some ⟨g, 0, none⟩, k, k, l⟩ := ⟨hl, Nat.le_refl _, hm, (fun h => by cases h), hB, h.lies⟩
theorem ExS.grown {w : World} {gK gM : Nat} {K T : List Int} {m n : Nat} {ls : Sl} {wr w5 : World} (s : ExS w gK gM K T m n ls wr) {gP : Nat} {R T' : List Int} {m' : Nat} (hI : Arr wr gP 23 (U8 R))
    (ho : w5.ownsRow w.heap.size 5 1 (.slice (some ⟨gM, 0, none⟩) m' n) m' (U8 T')) (hg : wr.grownBy w5 (some gM)) (h1 : gK < gM) (h2 : gM < gP) (h3 : w.heap.size ≤ gM) (hl : R.length = 32) (hB : IsB R) : ExS w gK gM K T' m' n ⟨some ⟨gP, 0, none⟩, 32, 32, R⟩ w5 := by
  have hp : Arr w5 gP 23 (U8 R) := (hg.block gP hI.lt (by simp; omega)).trans hI
  refine ⟨(hg.block gK s.key.lt (by simp; omega)).trans s.key, ho, hp.ok hl hB (by decide), ?_⟩
  exact s.bel.grown hg s.bel.size (fun _ h => by cases h; exact h3)
theorem chZt_step (K il : List Int) (i n q : Nat) (h : 32 * i < n) (hq : q = min 32 (n - 32 * i)) : (chZt K il (i + 1)).take n = chZt K il i ++ (tZ K il (i + 1)).take q := by
  rw [chZt, List.take_append, chZt_length, List.take_of_length_le (by rw [chZt_length]; omega)]
  congr 1
  by_cases h32 : 32 ≤ n - 32 * i
  · rw [List.take_of_length_le (by rw [tZ_length]; omega), List.take_of_length_le (by rw [tZ_length]; omega)]
  · rw [show q = n - 32 * i by omega]
theorem Sl.Ok.cut {w : World} {a : Option Addr} {n c : Nat} {l : List Int} (h : Sl.Ok w ⟨a, n, c, l⟩) (q : Nat) (hq : q ≤ n) (ha : a ≠ none) : Sl.Ok w ⟨a, q, c, l.take q⟩ := by
  have hl : l.length = n := h.len
  have hle : n ≤ c := h.le
  exact ⟨(by show (l.take q).length = q; rw [List.length_take]; omega), (by show q ≤ c; omega), h.mx, fun h0 => absurd h0 ha, fun x hx => h.isB x (List.mem_of_mem_take hx), lies_take h.lies q⟩
end Go.Proofs.YtkagnpnicbddlaaDoor
