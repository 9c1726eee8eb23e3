import Derived.Test.YtkagnpnicbddlaaDoorShaM
namespace Go.Proofs.YtkagnpnicbddlaaDoor
open Go.RowKit

/-! One block, as plain mathematics. -/
def KZ : List Int := [1116352408, 1899447441, 3049323471, 3921009573, 961987163, 1508970993, 2453635748, 2870763221, 3624381080, 310598401, 607225278, 1426881987, 1925078388, 2162078206, 2614888103, 3248222580, 3835390401, 4022224774, 264347078, 604807628, 770255983, 1249150122, 1555081692, 1996064986, 2554220882, 2821834349, 2952996808, 3210313671, 3336571891, 3584528711, 113926993, 338241895, 666307205, 773529912, 1294757372, 1396182291, 1695183700, 1986661051, 2177026350, 2456956037, 2730485921, 2820302411, 3259730800, 3345764771, 3516065817, 3600352804, 4094571909, 275423344, 430227734, 506948616, 659060556, 883997877, 958139571, 1322822218, 1537002063, 1747873779, 1955562222, 2024104815, 2227730452, 2361852424, 2428436474, 2756734187, 3204031479, 3329325298]
def FZ : List Int := [1779033703, 3144134277, 1013904242, 2773480762, 1359893119, 2600822924, 528734635, 1541459225]
theorem KZ_length : KZ.length = 64 := rfl
theorem FZ_length : FZ.length = 8 := rfl
theorem KZ_isW : IsW KZ := by unfold IsW KZ; decide
theorem FZ_isW : IsW FZ := by unfold IsW FZ; decide

structure St where
  (a b c d e f g h : Int)
def chZ (e f g : Int) : Int := bits .xor .u32 (bits .and .u32 e f) (bits .and .u32 (4294967295 - e) g)
def majZ (a b c : Int) : Int := bits .xor .u32 (bits .xor .u32 (bits .and .u32 a b) (bits .and .u32 a c)) (bits .and .u32 b c)
def t1Z (s : St) (k w : Int) : Int := ad (ad (ad (ad s.h (S1Z s.e)) (chZ s.e s.f s.g)) k) w
def t2Z (s : St) : Int := ad (S0Z s.a) (majZ s.a s.b s.c)
def rnd (s : St) (k w : Int) : St := ⟨ad (t1Z s k w) (t2Z s), s.a, s.b, s.c, ad s.d (t1Z s k w), s.e, s.f, s.g⟩
def rounds (s : St) (W : List Int) : Nat → St
  | 0 => s
  | k + 1 => rnd (rounds s W k) (KZ.getD k 0) (W.getD k 0)
def St.toL (s : St) : List Int := [s.a, s.b, s.c, s.d, s.e, s.f, s.g, s.h]
def St.ofL (l : List Int) : St := ⟨l.getD 0 0, l.getD 1 0, l.getD 2 0, l.getD 3 0, l.getD 4 0, l.getD 5 0, l.getD 6 0, l.getD 7 0⟩
def St.Ok (s : St) : Prop := IsW s.toL
theorem St.ok_parts {s : St} (h : s.Ok) : (0 ≤ s.a ∧ s.a < 4294967296) ∧ (0 ≤ s.b ∧ s.b < 4294967296) ∧ (0 ≤ s.c ∧ s.c < 4294967296) ∧ (0 ≤ s.d ∧ s.d < 4294967296) ∧ (0 ≤ s.e ∧ s.e < 4294967296) ∧ (0 ≤ s.f ∧ s.f < 4294967296) ∧ (0 ≤ s.g ∧ s.g < 4294967296) ∧ (0 ≤ s.h ∧ s.h < 4294967296) := by
  simpa [St.Ok, IsW, St.toL] using h
theorem St.ok_mk {s : St} (h : (0 ≤ s.a ∧ s.a < 4294967296) ∧ (0 ≤ s.b ∧ s.b < 4294967296) ∧ (0 ≤ s.c ∧ s.c < 4294967296) ∧ (0 ≤ s.d ∧ s.d < 4294967296) ∧ (0 ≤ s.e ∧ s.e < 4294967296) ∧ (0 ≤ s.f ∧ s.f < 4294967296) ∧ (0 ≤ s.g ∧ s.g < 4294967296) ∧ (0 ≤ s.h ∧ s.h < 4294967296)) : s.Ok := by
  simpa [St.Ok, IsW, St.toL] using h
theorem St.Ok.rnd {s : St} (h : s.Ok) (k w : Int) : (rnd s k w).Ok := by
  obtain ⟨h1, h2, h3, h4, h5, h6, h7, h8⟩ := St.ok_parts h
  exact St.ok_mk ⟨ad_bd _ _, h1, h2, h3, ad_bd _ _, h5, h6, h7⟩
theorem St.Ok.rounds {s : St} (h : s.Ok) (W : List Int) (k : Nat) : (rounds s W k).Ok := by
  induction k with
  | zero => exact h
  | succ k ih => exact ih.rnd _ _
theorem St.ofL_ok {l : List Int} (h : IsW l) : (St.ofL l).Ok := St.ok_mk ⟨h.at 0, h.at 1, h.at 2, h.at 3, h.at 4, h.at 5, h.at 6, h.at 7⟩
def blockZ (s B : List Int) : List Int := List.zipWith ad s (rounds (St.ofL s) (sched B 64) 64).toL
theorem blockZ_length (s B : List Int) (h : s.length = 8) : (blockZ s B).length = 8 := by simp [blockZ, St.toL, h]
theorem zipAd_isW (a b : List Int) : IsW (List.zipWith ad a b) := by
  induction a generalizing b with
  | nil => intro x hx; simp at hx
  | cons x a ih =>
    cases b with
    | nil => intro x hx; simp at hx
    | cons y b =>
      intro z hz
      simp only [List.zipWith_cons_cons, List.mem_cons] at hz
      rcases hz with rfl | hz
      · exact ad_bd _ _
      · exact ih b z hz
theorem blockZ_isW (s B : List Int) : IsW (blockZ s B) := zipAd_isW _ _
/-- the state behind k words of the sum -/
def addTo (s t : List Int) (k : Nat) : List Int := (List.range 8).map fun i => if i < k then ad (s.getD i 0) (t.getD i 0) else s.getD i 0
@[simp] theorem addTo_length (s t : List Int) (k : Nat) : (addTo s t k).length = 8 := by simp [addTo]
theorem addTo_zero (s t : List Int) (h : s.length = 8) : addTo s t 0 = s := by
  apply List.ext_getElem
  · simp [h]
  · intro i h1 h2; simp [addTo, h2]
theorem addTo_at (s t : List Int) (k : Nat) (h : k < 8) : (addTo s t k).getD k 0 = s.getD k 0 := by
  simp [addTo, h]
theorem addTo_set (s t : List Int) (k : Nat) : (addTo s t k).set k (ad (s.getD k 0) (t.getD k 0)) = addTo s t (k + 1) := by
  apply List.ext_getElem
  · simp
  · intro i h1 h2
    simp only [addTo, List.getElem_set, List.getElem_map, List.getElem_range]
    by_cases e : k = i
    · subst e; simp
    · simp only [e, if_false]
      by_cases h : i < k
      · simp [h, Nat.lt_succ_of_lt h]
      · rw [if_neg h, if_neg (by omega)]
theorem addTo_all (s t : List Int) (hs : s.length = 8) (ht : t.length = 8) : addTo s t 8 = List.zipWith ad s t := by
  apply List.ext_getElem
  · simp [hs, ht]
  · intro i h1 h2
    simp at h1
    simp [addTo, h1, hs, ht]
end Go.Proofs.YtkagnpnicbddlaaDoor
