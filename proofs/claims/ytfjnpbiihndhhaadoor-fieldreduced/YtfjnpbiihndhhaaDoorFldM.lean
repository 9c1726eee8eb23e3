namespace Go.Proofs.YtfjnpbiihndhhaaDoor
/-- the prime -/
abbrev PP : Int := 57896044618658097711785492504343953926634992332820282019728792003956564819949
abbrev B51 : Int := 2251799813685248
/-- what five limbs come to -/
def val5 (a b c d e : Int) : Int := a + b * 2251799813685248 + c * 5070602400912917605986812821504 + d * 11417981541647679048466287755595961091061972992 + e * 25711008708143844408671393477458601640355247900524685364822016
/-- the limbs of a number below 2^255 -/
def lims (n : Int) : List Int := [n % 2251799813685248, n / 2251799813685248 % 2251799813685248, n / 5070602400912917605986812821504 % 2251799813685248, n / 11417981541647679048466287755595961091061972992 % 2251799813685248, n / 25711008708143844408671393477458601640355247900524685364822016 % 2251799813685248]
/-- the reduced one of a number -/
def El (a : Int) : List Int := lims (a % PP)

theorem lims_of (a b c d e : Int) (ha : 0 ≤ a ∧ a < 2251799813685248) (hb : 0 ≤ b ∧ b < 2251799813685248) (hc : 0 ≤ c ∧ c < 2251799813685248) (hd : 0 ≤ d ∧ d < 2251799813685248) (he : 0 ≤ e ∧ e < 2251799813685248) : lims (val5 a b c d e) = [a, b, c, d, e] := by
  unfold lims val5
  have e1 : (a + b * 2251799813685248 + c * 5070602400912917605986812821504 + d * 11417981541647679048466287755595961091061972992 + e * 25711008708143844408671393477458601640355247900524685364822016) % 2251799813685248 = a := by omega
  have e2 : (a + b * 2251799813685248 + c * 5070602400912917605986812821504 + d * 11417981541647679048466287755595961091061972992 + e * 25711008708143844408671393477458601640355247900524685364822016) / 2251799813685248 % 2251799813685248 = b := by omega
  have e3 : (a + b * 2251799813685248 + c * 5070602400912917605986812821504 + d * 11417981541647679048466287755595961091061972992 + e * 25711008708143844408671393477458601640355247900524685364822016) / 5070602400912917605986812821504 % 2251799813685248 = c := by omega
  have e4 : (a + b * 2251799813685248 + c * 5070602400912917605986812821504 + d * 11417981541647679048466287755595961091061972992 + e * 25711008708143844408671393477458601640355247900524685364822016) / 11417981541647679048466287755595961091061972992 % 2251799813685248 = d := by omega
  have e5 : (a + b * 2251799813685248 + c * 5070602400912917605986812821504 + d * 11417981541647679048466287755595961091061972992 + e * 25711008708143844408671393477458601640355247900524685364822016) / 25711008708143844408671393477458601640355247900524685364822016 % 2251799813685248 = e := by omega
  rw [e1, e2, e3, e4, e5]

/-- what carry makes -/
def ca0 (a e : Int) : Int := a % 2251799813685248 + 19 * (e / 2251799813685248)
def ca (a b : Int) : Int := b % 2251799813685248 + a / 2251799813685248

theorem carry_val (a b c d e : Int) : val5 (ca0 a e) (ca a b) (ca b c) (ca c d) (ca d e) = val5 a b c d e - PP * (e / 2251799813685248) := by
  unfold val5 ca0 ca PP; omega

def Wd (x : Int) : Prop := 0 ≤ x ∧ x < 18446744073709551616

theorem ca_bd {a b : Int} (ha : Wd a) : 0 ≤ ca a b ∧ ca a b < 2251799813693440 := by unfold ca Wd at *; omega
theorem ca0_bd {a e : Int} (hb : Wd e) : 0 ≤ ca0 a e ∧ ca0 a e < 2251799813840896 := by unfold ca0 Wd at *; omega

/-- what reduced makes of carried limbs -/
theorem red_core (a b c d e o0 o1 o2 o3 o4 m0 m1 m2 m3 m4 : Int)
    (ha : 0 ≤ a ∧ a < 2251799813840896) (hb : 0 ≤ b ∧ b < 2251799813693440) (hc : 0 ≤ c ∧ c < 2251799813693440) (hd : 0 ≤ d ∧ d < 2251799813693440) (he : 0 ≤ e ∧ e < 2251799813693440)
    (h0 : o0 = (a + 19) / 2251799813685248) (h1 : o1 = (b + o0) / 2251799813685248) (h2 : o2 = (c + o1) / 2251799813685248) (h3 : o3 = (d + o2) / 2251799813685248) (h4 : o4 = (e + o3) / 2251799813685248)
    (g0 : m0 = a + 19 * o4) (g1 : m1 = b + m0 / 2251799813685248) (g2 : m2 = c + m1 / 2251799813685248) (g3 : m3 = d + m2 / 2251799813685248) (g4 : m4 = e + m3 / 2251799813685248) :
    [m0 % 2251799813685248, m1 % 2251799813685248, m2 % 2251799813685248, m3 % 2251799813685248, m4 % 2251799813685248] = El (val5 a b c d e) := by
  have hn : val5 a b c d e < 2 * PP ∧ 0 ≤ val5 a b c d e := by unfold val5 PP; omega
  have ho : o4 = (val5 a b c d e + 19) / 57896044618658097711785492504343953926634992332820282019728792003956564819968 := by
    unfold val5
    have : (a + 19) / 2251799813685248 = o0 := h0.symm
    omega
  have hm : val5 (m0 % 2251799813685248) (m1 % 2251799813685248) (m2 % 2251799813685248) (m3 % 2251799813685248) (m4 % 2251799813685248) = val5 a b c d e + 19 * o4 - 57896044618658097711785492504343953926634992332820282019728792003956564819968 * (m4 / 2251799813685248) := by
    unfold val5; omega
  have hq : m4 / 2251799813685248 = (val5 a b c d e + 19 * o4) / 57896044618658097711785492504343953926634992332820282019728792003956564819968 := by
    unfold val5; omega
  have hv : val5 a b c d e % PP = val5 (m0 % 2251799813685248) (m1 % 2251799813685248) (m2 % 2251799813685248) (m3 % 2251799813685248) (m4 % 2251799813685248) := by
    rw [hm]
    rw [hq]
    generalize val5 a b c d e = n at hn ho
    clear hq hm h0 h1 h2 h3 h4 g0 g1 g2 g3 g4 ha hb hc hd he
    unfold PP at *
    have ho4 : o4 = 0 ∨ o4 = 1 := by omega
    rcases ho4 with h | h <;> subst h <;> omega
  unfold El
  rw [hv]
  exact (lims_of _ _ _ _ _ (by omega) (by omega) (by omega) (by omega) (by omega)).symm

theorem El_congr {a b : Int} (h : a % PP = b % PP) : El a = El b := by unfold El; rw [h]
theorem El_sub_mul (a k : Int) : El (a - PP * k) = El a := El_congr (by rw [Int.sub_eq_add_neg, ← Int.mul_neg, Int.add_mul_emod_self_left])
theorem cg_of {a b : Int} (k : Int) (h : a = b + PP * k) : a % PP = b % PP := by rw [h, Int.add_mul_emod_self_left]
def val : List Int → Int
  | [a, b, c, d, e] => val5 a b c d e
  | _ => 0
theorem val_lims (n : Int) (h0 : 0 ≤ n) (h1 : n < 57896044618658097711785492504343953926634992332820282019728792003956564819968) : val (lims n) = n := by
  show val5 _ _ _ _ _ = n
  unfold val5; omega
theorem El_bd (a : Int) : 0 ≤ a % PP ∧ a % PP < PP := ⟨Int.emod_nonneg _ (by decide), Int.emod_lt_of_pos _ (by decide)⟩
theorem val_El (a : Int) : val (El a) = a % PP := by
  have := El_bd a
  unfold El
  exact val_lims _ this.1 (by unfold PP at *; omega)
theorem El_inj {a b : Int} (h : El a = El b) : a % PP = b % PP := by rw [← val_El, ← val_El, h]
/-- the five limbs, each a word, mean the number -/
structure Rep (x : List Int) (a : Int) : Prop where
  ex : ∃ l0 l1 l2 l3 l4, x = [l0, l1, l2, l3, l4] ∧ Wd l0 ∧ Wd l1 ∧ Wd l2 ∧ Wd l3 ∧ Wd l4
  eq : val x % PP = a % PP
theorem Rep.El (a : Int) : Rep (El a) a := by
  refine ⟨⟨_, _, _, _, _, rfl, ?_, ?_, ?_, ?_, ?_⟩, ?_⟩
  all_goals try (unfold Wd; omega)
  rw [val_El, Int.emod_emod_of_dvd _ (Int.dvd_refl _)]
end Go.Proofs.YtfjnpbiihndhhaaDoor
