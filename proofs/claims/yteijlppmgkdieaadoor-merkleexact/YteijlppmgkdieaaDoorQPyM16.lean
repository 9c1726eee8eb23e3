import Derived.Test.YteijlppmgkdieaaDoorQPrH
import Derived.Test.YteijlppmgkdieaaDoorQHdH
set_option linter.unusedVariables false
set_option linter.unusedSimpArgs false
namespace Go.Proofs.YteijlppmgkdieaaDoor
open Go.RowKit

theorem Hs17.shut {w0 w : World} {A T : List Row} {K : World → Prop} (hS : Hs17 w0 (A ++ T) K w) : ∃ (TT : List Row) (KK : World → Prop), TT = T ∧ KK = K ∧ Hs17 w0 (A ++ TT) KK w := ⟨T, K, rfl, rfl, hS⟩
theorem hl_take {w : World} {a : Option Addr} {n m c : Nat} {ls t : List (List Int)} (h : Hl.Ok w ⟨a, m, c, ls ++ t⟩) (hn : ls.length = n) : Hl.Ok w ⟨a, n, c, ls⟩ := by
  have h1 := h.len
  simp only [List.length_append] at h1
  have h2 : m ≤ c := h.le
  refine ⟨hn, (by show n ≤ c; omega), h.mx, fun e => ?_, fun l hl => h.hs l (List.mem_append_left _ hl), fun h0 => ?_⟩
  · obtain ⟨h3, h4⟩ := h.nn e
    simp only at h3 h4
    exact ⟨by show n = 0; omega, h4⟩
  · simp only at h0
    obtain ⟨b, off, e, hb, hr⟩ := h.lies (by show 0 < m; omega)
    exact ⟨b, off, e, hb, fun i l hi => hr i l (by rw [List.getElem?_append_left ((List.getElem?_eq_some_iff.1 hi).1)]; exact hi)⟩
theorem own_slE {w : World} {base n c m : Nat} {a : Option Addr} {l : List Int} (h : w.ownsRow base 5 1 (.slice a n c) m (U8 l)) (hB : IsB l) : Sl.Ok w ⟨a, n, c, l⟩ := by
  obtain ⟨⟨sa, sn, sc, sl⟩, hv, hok, hl, -, -⟩ := own_sl h hB
  simp only [Sl.v, Value.slice.injEq] at hv hl
  obtain ⟨rfl, rfl, rfl⟩ := hv
  subst hl
  exact hok
theorem sl_take {w : World} {a : Option Addr} {n m c : Nat} {l t : List Int} (h : Sl.Ok w ⟨a, m, c, l ++ t⟩) (hn : l.length = n) : Sl.Ok w ⟨a, n, c, l⟩ := by
  have h1 := h.len
  simp only [List.length_append] at h1
  have h2 : m ≤ c := h.le
  refine ⟨hn, (by show n ≤ c; omega), h.mx, fun e => ?_, fun x hx => h.isB x (List.mem_append_left _ hx), fun h0 => ?_⟩
  · obtain ⟨h3, h4⟩ := h.nn e
    simp only at h3 h4
    exact ⟨by show n = 0; omega, h4⟩
  · simp only at h0
    obtain ⟨b, off, e, hb, hr⟩ := h.lies (by simp only [List.length_append]; omega)
    refine ⟨b, off, e, hb, fun i hi => ?_⟩
    simp only at hi
    have := hr i (by simp only [List.length_append]; omega)
    simp only [List.getD_eq_getElem?_getD, List.getElem?_append_left hi] at this ⊢
    exact this
theorem Tryd.in1u8 : (Tryd.prog.info? 5).map (·.size) = some 1 := by kernel_rfl
theorem rleafA (d : Sl) (w : World) (hd : d.Ok w) (hn : d.n ≤ 4096) : Calls Tryd.prog 12 #[d.v] w fun e w' => e = .returned (aV (U8 (lfZ d.l))) ∧ Below w.heap.size w w' := rleaf_any d w hd hn
theorem bits5 (y : Int) (hy : 0 ≤ y ∧ y ≤ 255) : 0 ≤ bits .xor .u8 y 5 ∧ bits .xor .u8 y 5 ≤ 255 := by
  obtain ⟨n, rfl⟩ : ∃ n : Nat, y = n := ⟨y.toNat, by omega⟩
  have hn : n < 256 := by omega
  have h : ∀ n : Fin 256, 0 ≤ bits .xor .u8 ((n.val : Nat) : Int) 5 ∧ bits .xor .u8 ((n.val : Nat) : Int) 5 ≤ 255 := by decide +kernel
  exact h ⟨n, hn⟩
theorem pt_byte {l : List (List Int)} (hf : ∀ q ∈ l, (U8 q).length = 32) {k : Nat} {b b' : Int} {tl : List Int} (hk : l[k]? = some (b :: tl)) (sp : List Value) : Pt (l.flatMap U8 ++ sp) (k * 32) [.int .u8 b'] ((l.set k (b' :: tl)).flatMap U8 ++ sp) := by
  have hi := (List.getElem?_eq_some_iff.1 hk).1
  have hx := (List.getElem?_eq_some_iff.1 hk).2
  have hd : l.drop k = (b :: tl) :: l.drop (k + 1) := by rw [List.drop_eq_getElem_cons hi, hx]
  have e1 : l.flatMap U8 = (l.take k).flatMap U8 ++ (U8 (b :: tl) ++ (l.drop (k + 1)).flatMap U8) := by
    conv => lhs; rw [← List.take_append_drop k l, List.flatMap_append, hd, List.flatMap_cons]
  have e2 : (l.set k (b' :: tl)).flatMap U8 = (l.take k).flatMap U8 ++ (U8 (b' :: tl) ++ (l.drop (k + 1)).flatMap U8) := by
    rw [List.set_eq_take_append_cons_drop, if_pos hi, List.flatMap_append, List.flatMap_cons]
  refine ⟨(l.take k).flatMap U8, [.int .u8 b], U8 tl ++ (l.drop (k + 1)).flatMap U8 ++ sp, ?_, ?_, ?_, rfl⟩
  · rw [e1]; simp [U8, List.append_assoc]
  · rw [e2]; simp [U8, List.append_assoc]
  · rw [flatG_len (fun y hy => hf y (List.mem_of_mem_take hy)), List.length_take]; congr 1; omega
/-- a byte of a hash written over -/
theorem RowG.byte {s : (Sx (List Int))} {l : List (List Int)} {R : List Row} (h : RowG U8 32 28 s l R) (hh : ∀ q ∈ l, Hs q) {k : Nat} {b b' : Int} {tl : List Int} (hk : l[k]? = some (b :: tl)) (hb : 0 ≤ b' ∧ b' ≤ 255) :
    ∃ g c c', s.a = some ⟨g, 0, none⟩ ∧ R = [(g, 28, c)] ∧ Pt c (k * 32) [.int .u8 b'] c' ∧ RowG U8 32 28 s (l.set k (b' :: tl)) [(g, 28, c')] ∧ (∀ q ∈ l.set k (b' :: tl), Hs q) ∧ At c (k * 32) [.int .u8 b] := by
  have hf : ∀ q ∈ l, (U8 q).length = 32 := fun q hq => u8_32 (hh q hq)
  have hi := (List.getElem?_eq_some_iff.1 hk).1
  have hx := hh _ (List.mem_of_getElem? hk)
  have hnew : Hs (b' :: tl) := ⟨by have := hx.len; simpa using this, fun q hq => by
    rcases List.mem_cons.1 hq with rfl | h
    · exact hb
    · exact hx.isB q (List.mem_cons_of_mem _ h)⟩
  have hset : ∀ q ∈ l.set k (b' :: tl), Hs q := fun q hq => by
    rcases List.mem_or_eq_of_mem_set hq with h | rfl
    · exact hh q h
    · exact hnew
  obtain ⟨hl, h⟩ := h
  rcases h with ⟨-, h0, -, -⟩ | ⟨g, sp, h1, h2, h3, h4, rfl⟩
  · omega
  · refine ⟨g, _, _, h1, rfl, pt_byte hf hk sp, ⟨by rw [List.length_set]; exact hl, .inr ⟨g, sp, h1, h2, h3, ?_, rfl⟩⟩, hset, ?_⟩
    · rw [← h4, List.length_append, List.length_append, flatG_len hf, flatG_len (sz := 32) (fun y hy => u8_32 (hset y hy)), List.length_set]
    · have hp := pt_byte (b' := b) hf hk sp
      have e : l.set k (b :: tl) = l := by
        apply List.ext_getElem?
        intro j
        by_cases hj : j = k
        · subst hj; rw [List.getElem?_set_self (by omega), hk]
        · rw [List.getElem?_set_ne (by omega)]
      rw [e] at hp
      exact hp.at_
theorem lfZ_hs (d : List Int) : Hs (lfZ d) := Hs.sum _
theorem perm_q {α : Type} (b s : α) (X RF RO : List α) : (b :: (((s :: ([] ++ X)) ++ RF) ++ RO)).Perm (s :: ((b :: (RF ++ RO)) ++ X)) := by
  have e1 : b :: (((s :: ([] ++ X)) ++ RF) ++ RO) = b :: s :: (X ++ (RF ++ RO)) := by simp [List.append_assoc]
  have e2 : s :: ((b :: (RF ++ RO)) ++ X) = s :: b :: ((RF ++ RO) ++ X) := by simp [List.append_assoc]
  rw [e1, e2]
  exact (List.Perm.swap _ _ _).trans (List.Perm.cons _ (List.Perm.cons _ List.perm_append_comm))
theorem perm_r {α : Type} (b s : α) (X RF RO : List α) : (s :: ((b :: (RF ++ RO)) ++ X)).Perm (b :: ((s :: (RO ++ X)) ++ RF)) := by
  have e1 : s :: ((b :: (RF ++ RO)) ++ X) = s :: b :: (RF ++ (RO ++ X)) := by simp [List.append_assoc]
  have e2 : b :: ((s :: (RO ++ X)) ++ RF) = b :: s :: ((RO ++ X) ++ RF) := by simp [List.append_assoc]
  rw [e1, e2]
  exact (List.Perm.swap _ _ _).trans (List.Perm.cons _ (List.Perm.cons _ List.perm_append_comm))
end Go.Proofs.YteijlppmgkdieaaDoor
