import Derived.Test.YtkagnpnicbddlaaDoorShaM5
namespace Go.Proofs.YtkagnpnicbddlaaDoor.S5
open Go.RowKit

/-! One block, as plain mathematics. -/
def KZ : List Int := [4794697086780616226, 8158064640168781261, 13096744586834688815, 16840607885511220156, 4131703408338449720, 6480981068601479193, 10538285296894168987, 12329834152419229976, 15566598209576043074, 1334009975649890238, 2608012711638119052, 6128411473006802146, 8268148722764581231, 9286055187155687089, 11230858885718282805, 13951009754708518548, 16472876342353939154, 17275323862435702243, 1135362057144423861, 2597628984639134821, 3308224258029322869, 5365058923640841347, 6679025012923562964, 8573033837759648693, 10970295158949994411, 12119686244451234320, 12683024718118986047, 13788192230050041572, 14330467153632333762, 15395433587784984357, 489312712824947311, 1452737877330783856, 2861767655752347644, 3322285676063803686, 5560940570517711597, 5996557281743188959, 7280758554555802590, 8532644243296465576, 9350256976987008742, 10552545826968843579, 11727347734174303076, 12113106623233404929, 14000437183269869457, 14369950271660146224, 15101387698204529176, 15463397548674623760, 17586052441742319658, 1182934255886127544, 1847814050463011016, 2177327727835720531, 2830643537854262169, 3796741975233480872, 4115178125766777443, 5681478168544905931, 6601373596472566643, 7507060721942968483, 8399075790359081724, 8693463985226723168, 9568029438360202098, 10144078919501101548, 10430055236837252648, 11840083180663258601, 13761210420658862357, 14299343276471374635, 14566680578165727644, 15097957966210449927, 16922976911328602910, 17689382322260857208, 500013540394364858, 748580250866718886, 1242879168328830382, 1977374033974150939, 2944078676154940804, 3659926193048069267, 4368137639120453308, 4836135668995329356, 5532061633213252278, 6448918945643986474, 6902733635092675308, 7801388544844847127]
def FZ : List Int := [7640891576956012808, 13503953896175478587, 4354685564936845355, 11912009170470909681, 5840696475078001361, 11170449401992604703, 2270897969802886507, 6620516959819538809]
theorem KZ_length : KZ.length = 80 := rfl
theorem FZ_length : FZ.length = 8 := rfl
theorem KZ_isW : IsW KZ := by unfold IsW KZ; decide
theorem FZ_isW : IsW FZ := by unfold IsW FZ; decide

structure St where
  (a b c d e f g h : Int)
def chZ (e f g : Int) : Int := bits .xor .u64 (bits .and .u64 e f) (bits .and .u64 (18446744073709551615 - e) g)
def majZ (a b c : Int) : Int := bits .xor .u64 (bits .xor .u64 (bits .and .u64 a b) (bits .and .u64 a c)) (bits .and .u64 b c)
def t1Z (s : St) (k w : Int) : Int := ad (ad (ad (ad s.h (S1Z s.e)) (chZ s.e s.f s.g)) k) w
def t2Z (s : St) : Int := ad (S0Z s.a) (majZ s.a s.b s.c)
def rnd (s : St) (k w : Int) : St := ⟨ad (t1Z s k w) (t2Z s), s.a, s.b, s.c, ad s.d (t1Z s k w), s.e, s.f, s.g⟩
def rounds (s : St) (W : List Int) : Nat → St
  | 0 => s
  | k + 1 => rnd (rounds s W k) (KZ.getD k 0) (W.getD k 0)
def St.toL (s : St) : List Int := [s.a, s.b, s.c, s.d, s.e, s.f, s.g, s.h]
def St.ofL (l : List Int) : St := ⟨l.getD 0 0, l.getD 1 0, l.getD 2 0, l.getD 3 0, l.getD 4 0, l.getD 5 0, l.getD 6 0, l.getD 7 0⟩
def St.Ok (s : St) : Prop := IsW s.toL
theorem St.ok_parts {s : St} (h : s.Ok) : (0 ≤ s.a ∧ s.a < 18446744073709551616) ∧ (0 ≤ s.b ∧ s.b < 18446744073709551616) ∧ (0 ≤ s.c ∧ s.c < 18446744073709551616) ∧ (0 ≤ s.d ∧ s.d < 18446744073709551616) ∧ (0 ≤ s.e ∧ s.e < 18446744073709551616) ∧ (0 ≤ s.f ∧ s.f < 18446744073709551616) ∧ (0 ≤ s.g ∧ s.g < 18446744073709551616) ∧ (0 ≤ s.h ∧ s.h < 18446744073709551616) := by
  simpa [St.Ok, IsW, St.toL] using h
theorem St.ok_mk {s : St} (h : (0 ≤ s.a ∧ s.a < 18446744073709551616) ∧ (0 ≤ s.b ∧ s.b < 18446744073709551616) ∧ (0 ≤ s.c ∧ s.c < 18446744073709551616) ∧ (0 ≤ s.d ∧ s.d < 18446744073709551616) ∧ (0 ≤ s.e ∧ s.e < 18446744073709551616) ∧ (0 ≤ s.f ∧ s.f < 18446744073709551616) ∧ (0 ≤ s.g ∧ s.g < 18446744073709551616) ∧ (0 ≤ s.h ∧ s.h < 18446744073709551616)) : s.Ok := by
  simpa [St.Ok, IsW, St.toL] using h
theorem St.Ok.rnd {s : St} (h : s.Ok) (k w : Int) : (rnd s k w).Ok := by
  obtain ⟨h1, h2, h3, h4, h5, h6, h7, h8⟩ := St.ok_parts h
  exact St.ok_mk ⟨ad_bd _ _, h1, h2, h3, ad_bd _ _, h5, h6, h7⟩
theorem St.Ok.rounds {s : St} (h : s.Ok) (W : List Int) (k : Nat) : (rounds s W k).Ok := by
  induction k with
  | zero => exact h
  | succ k ih => exact ih.rnd _ _
theorem St.ofL_ok {l : List Int} (h : IsW l) : (St.ofL l).Ok := St.ok_mk ⟨h.at 0, h.at 1, h.at 2, h.at 3, h.at 4, h.at 5, h.at 6, h.at 7⟩
def blockZ (s B : List Int) : List Int := List.zipWith ad s (rounds (St.ofL s) (sched B 80) 80).toL
theorem blockZ_length (s B : List Int) (h : s.length = 8) : (blockZ s B).length = 8 := by simp [blockZ, St.toL, h]
theorem zipAd_isW (a b : List Int) : IsW (List.zipWith ad a b) := by
  induction a generalizing b with
  | nil => intro x hx; simp at hx
  | cons x a ih =>
    cases b with
    | nil => intro x hx; simp at hx
    | cons y b =>
      intro z hz
      simp only [List.zipWith_cons_cons, List.mem_cons] at hz
      rcases hz with rfl | hz
      · exact ad_bd _ _
      · exact ih b z hz
theorem blockZ_isW (s B : List Int) : IsW (blockZ s B) := zipAd_isW _ _
/-- the state behind k words of the sum -/
def addTo (s t : List Int) (k : Nat) : List Int := (List.range 8).map fun i => if i < k then ad (s.getD i 0) (t.getD i 0) else s.getD i 0
@[simp] theorem addTo_length (s t : List Int) (k : Nat) : (addTo s t k).length = 8 := by simp [addTo]
theorem addTo_zero (s t : List Int) (h : s.length = 8) : addTo s t 0 = s := by
  apply List.ext_getElem
  · simp [h]
  · intro i h1 h2; simp [addTo, h2]
theorem addTo_at (s t : List Int) (k : Nat) (h : k < 8) : (addTo s t k).getD k 0 = s.getD k 0 := by
  simp [addTo, h]
theorem addTo_set (s t : List Int) (k : Nat) : (addTo s t k).set k (ad (s.getD k 0) (t.getD k 0)) = addTo s t (k + 1) := by
  apply List.ext_getElem
  · simp
  · intro i h1 h2
    simp only [addTo, List.getElem_set, List.getElem_map, List.getElem_range]
    by_cases e : k = i
    · subst e; simp
    · simp only [e, if_false]
      by_cases h : i < k
      · simp [h, Nat.lt_succ_of_lt h]
      · rw [if_neg h, if_neg (by omega)]
theorem addTo_all (s t : List Int) (hs : s.length = 8) (ht : t.length = 8) : addTo s t 8 = List.zipWith ad s t := by
  apply List.ext_getElem
  · simp [hs, ht]
  · intro i h1 h2
    simp at h1
    simp [addTo, h1, hs, ht]
end Go.Proofs.YtkagnpnicbddlaaDoor.S5
