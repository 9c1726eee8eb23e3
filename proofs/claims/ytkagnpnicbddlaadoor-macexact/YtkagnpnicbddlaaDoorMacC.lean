import Derived.Test.YtkagnpnicbddlaaDoorGrE
import Derived.KernelRfl
namespace Go.Proofs.YtkagnpnicbddlaaDoor.MC
open Go.RowKit

/-! The keyed hash of nothing under no key, and of the first derived key, reckoned. Each step is one small closed fact. -/
theorem sched_nx (b : List Int) (k : Nat) (l : List Int) (x : Int) (l' : List Int) (hk : 16 ≤ k) (h : sched b k = l) (hx : nextW l = x) (hl : l ++ [x] = l') : sched b (k + 1) = l' := by
  rw [sched, if_neg (by omega), h, hx, hl]
theorem rounds_nx (s : St) (W : List Int) (k : Nat) (a b : St) (x y : Int) (h : rounds s W k = a) (hx : KZ.getD k 0 = x) (hy : W.getD k 0 = y) (hr : rnd a x y = b) : rounds s W (k + 1) = b := by
  rw [rounds, h, hx, hy, hr]
theorem sum_two (M a b : List Int) (n : Nat) (s1 s2 : List Int) (hn : M.length = n) (hp : M ++ padZ n = a ++ b) (ha : a.length = 64) (hb : b.length = 64) (h1 : blockZ FZ a = s1) (h2 : blockZ s1 b = s2) : sumZ M = wordsB s2 := by
  unfold sumZ
  rw [hn, hp, List.length_append, ha, hb, show (64 + 64) / 64 = 2 from rfl]
  simp only [led, Nat.mul_zero, List.drop_zero, Nat.mul_one]
  rw [List.take_append_of_le_length (by omega), List.take_of_length_le (by omega), h1, List.drop_append_of_le_length (by omega), List.drop_eq_nil_of_le (by omega), List.nil_append, List.take_of_length_le (by omega), h2]
def kiB : List Int := [54, 54, 54, 54, 54, 54, 54, 54, 54, 54, 54, 54, 54, 54, 54, 54, 54, 54, 54, 54, 54, 54, 54, 54, 54, 54, 54, 54, 54, 54, 54, 54, 54, 54, 54, 54, 54, 54, 54, 54, 54, 54, 54, 54, 54, 54, 54, 54, 54, 54, 54, 54, 54, 54, 54, 54, 54, 54, 54, 54, 54, 54, 54, 54]
def kiW : List Int := [909522486, 909522486, 909522486, 909522486, 909522486, 909522486, 909522486, 909522486, 909522486, 909522486, 909522486, 909522486, 909522486, 909522486, 909522486, 909522486, 828629987, 828629987, 3776264696, 3776264696, 2408496505, 2408496505, 3703810348, 3622917849, 4031120979, 2146747560, 3260165887, 2815092747, 4286359742, 592337967, 3066442673, 1154308805, 3381820581, 2642411924, 2658340976, 790776156, 3936322321, 1548620120, 1346974071, 2760948351, 3128084265, 3576817954, 3867676740, 2754198265, 855811989, 1459331653, 925716054, 1917319745, 3902710584, 3177888799, 4165673166, 1242241643, 1967333460, 718933646, 2081681304, 3384580195, 658678898, 1033513033, 3234119599, 4034058430, 2396173866, 61000443, 2165945604, 2579069648]
theorem ki_w16 : sched kiB 16 = kiW.take 16 := by kernel_rfl
theorem ki_n16 : nextW (kiW.take 16) = 828629987 := by kernel_rfl
theorem ki_n17 : nextW (kiW.take 17) = 828629987 := by kernel_rfl
theorem ki_n18 : nextW (kiW.take 18) = 3776264696 := by kernel_rfl
theorem ki_n19 : nextW (kiW.take 19) = 3776264696 := by kernel_rfl
theorem ki_n20 : nextW (kiW.take 20) = 2408496505 := by kernel_rfl
theorem ki_n21 : nextW (kiW.take 21) = 2408496505 := by kernel_rfl
theorem ki_n22 : nextW (kiW.take 22) = 3703810348 := by kernel_rfl
theorem ki_n23 : nextW (kiW.take 23) = 3622917849 := by kernel_rfl
theorem ki_n24 : nextW (kiW.take 24) = 4031120979 := by kernel_rfl
theorem ki_n25 : nextW (kiW.take 25) = 2146747560 := by kernel_rfl
theorem ki_n26 : nextW (kiW.take 26) = 3260165887 := by kernel_rfl
theorem ki_n27 : nextW (kiW.take 27) = 2815092747 := by kernel_rfl
theorem ki_n28 : nextW (kiW.take 28) = 4286359742 := by kernel_rfl
theorem ki_n29 : nextW (kiW.take 29) = 592337967 := by kernel_rfl
theorem ki_n30 : nextW (kiW.take 30) = 3066442673 := by kernel_rfl
theorem ki_n31 : nextW (kiW.take 31) = 1154308805 := by kernel_rfl
theorem ki_n32 : nextW (kiW.take 32) = 3381820581 := by kernel_rfl
theorem ki_n33 : nextW (kiW.take 33) = 2642411924 := by kernel_rfl
theorem ki_n34 : nextW (kiW.take 34) = 2658340976 := by kernel_rfl
theorem ki_n35 : nextW (kiW.take 35) = 790776156 := by kernel_rfl
theorem ki_n36 : nextW (kiW.take 36) = 3936322321 := by kernel_rfl
theorem ki_n37 : nextW (kiW.take 37) = 1548620120 := by kernel_rfl
theorem ki_n38 : nextW (kiW.take 38) = 1346974071 := by kernel_rfl
theorem ki_n39 : nextW (kiW.take 39) = 2760948351 := by kernel_rfl
theorem ki_n40 : nextW (kiW.take 40) = 3128084265 := by kernel_rfl
theorem ki_n41 : nextW (kiW.take 41) = 3576817954 := by kernel_rfl
theorem ki_n42 : nextW (kiW.take 42) = 3867676740 := by kernel_rfl
theorem ki_n43 : nextW (kiW.take 43) = 2754198265 := by kernel_rfl
theorem ki_n44 : nextW (kiW.take 44) = 855811989 := by kernel_rfl
theorem ki_n45 : nextW (kiW.take 45) = 1459331653 := by kernel_rfl
theorem ki_n46 : nextW (kiW.take 46) = 925716054 := by kernel_rfl
theorem ki_n47 : nextW (kiW.take 47) = 1917319745 := by kernel_rfl
theorem ki_n48 : nextW (kiW.take 48) = 3902710584 := by kernel_rfl
theorem ki_n49 : nextW (kiW.take 49) = 3177888799 := by kernel_rfl
theorem ki_n50 : nextW (kiW.take 50) = 4165673166 := by kernel_rfl
theorem ki_n51 : nextW (kiW.take 51) = 1242241643 := by kernel_rfl
theorem ki_n52 : nextW (kiW.take 52) = 1967333460 := by kernel_rfl
theorem ki_n53 : nextW (kiW.take 53) = 718933646 := by kernel_rfl
theorem ki_n54 : nextW (kiW.take 54) = 2081681304 := by kernel_rfl
theorem ki_n55 : nextW (kiW.take 55) = 3384580195 := by kernel_rfl
theorem ki_n56 : nextW (kiW.take 56) = 658678898 := by kernel_rfl
theorem ki_n57 : nextW (kiW.take 57) = 1033513033 := by kernel_rfl
theorem ki_n58 : nextW (kiW.take 58) = 3234119599 := by kernel_rfl
theorem ki_n59 : nextW (kiW.take 59) = 4034058430 := by kernel_rfl
theorem ki_n60 : nextW (kiW.take 60) = 2396173866 := by kernel_rfl
theorem ki_n61 : nextW (kiW.take 61) = 61000443 := by kernel_rfl
theorem ki_n62 : nextW (kiW.take 62) = 2165945604 := by kernel_rfl
theorem ki_n63 : nextW (kiW.take 63) = 2579069648 := by kernel_rfl
theorem ki_w17 : sched kiB 17 = kiW.take 17 := sched_nx kiB 16 _ _ _ (by decide) ki_w16 ki_n16 rfl
theorem ki_w18 : sched kiB 18 = kiW.take 18 := sched_nx kiB 17 _ _ _ (by decide) ki_w17 ki_n17 rfl
theorem ki_w19 : sched kiB 19 = kiW.take 19 := sched_nx kiB 18 _ _ _ (by decide) ki_w18 ki_n18 rfl
theorem ki_w20 : sched kiB 20 = kiW.take 20 := sched_nx kiB 19 _ _ _ (by decide) ki_w19 ki_n19 rfl
theorem ki_w21 : sched kiB 21 = kiW.take 21 := sched_nx kiB 20 _ _ _ (by decide) ki_w20 ki_n20 rfl
theorem ki_w22 : sched kiB 22 = kiW.take 22 := sched_nx kiB 21 _ _ _ (by decide) ki_w21 ki_n21 rfl
theorem ki_w23 : sched kiB 23 = kiW.take 23 := sched_nx kiB 22 _ _ _ (by decide) ki_w22 ki_n22 rfl
theorem ki_w24 : sched kiB 24 = kiW.take 24 := sched_nx kiB 23 _ _ _ (by decide) ki_w23 ki_n23 rfl
theorem ki_w25 : sched kiB 25 = kiW.take 25 := sched_nx kiB 24 _ _ _ (by decide) ki_w24 ki_n24 rfl
theorem ki_w26 : sched kiB 26 = kiW.take 26 := sched_nx kiB 25 _ _ _ (by decide) ki_w25 ki_n25 rfl
theorem ki_w27 : sched kiB 27 = kiW.take 27 := sched_nx kiB 26 _ _ _ (by decide) ki_w26 ki_n26 rfl
theorem ki_w28 : sched kiB 28 = kiW.take 28 := sched_nx kiB 27 _ _ _ (by decide) ki_w27 ki_n27 rfl
theorem ki_w29 : sched kiB 29 = kiW.take 29 := sched_nx kiB 28 _ _ _ (by decide) ki_w28 ki_n28 rfl
theorem ki_w30 : sched kiB 30 = kiW.take 30 := sched_nx kiB 29 _ _ _ (by decide) ki_w29 ki_n29 rfl
theorem ki_w31 : sched kiB 31 = kiW.take 31 := sched_nx kiB 30 _ _ _ (by decide) ki_w30 ki_n30 rfl
theorem ki_w32 : sched kiB 32 = kiW.take 32 := sched_nx kiB 31 _ _ _ (by decide) ki_w31 ki_n31 rfl
theorem ki_w33 : sched kiB 33 = kiW.take 33 := sched_nx kiB 32 _ _ _ (by decide) ki_w32 ki_n32 rfl
theorem ki_w34 : sched kiB 34 = kiW.take 34 := sched_nx kiB 33 _ _ _ (by decide) ki_w33 ki_n33 rfl
theorem ki_w35 : sched kiB 35 = kiW.take 35 := sched_nx kiB 34 _ _ _ (by decide) ki_w34 ki_n34 rfl
theorem ki_w36 : sched kiB 36 = kiW.take 36 := sched_nx kiB 35 _ _ _ (by decide) ki_w35 ki_n35 rfl
theorem ki_w37 : sched kiB 37 = kiW.take 37 := sched_nx kiB 36 _ _ _ (by decide) ki_w36 ki_n36 rfl
theorem ki_w38 : sched kiB 38 = kiW.take 38 := sched_nx kiB 37 _ _ _ (by decide) ki_w37 ki_n37 rfl
theorem ki_w39 : sched kiB 39 = kiW.take 39 := sched_nx kiB 38 _ _ _ (by decide) ki_w38 ki_n38 rfl
theorem ki_w40 : sched kiB 40 = kiW.take 40 := sched_nx kiB 39 _ _ _ (by decide) ki_w39 ki_n39 rfl
theorem ki_w41 : sched kiB 41 = kiW.take 41 := sched_nx kiB 40 _ _ _ (by decide) ki_w40 ki_n40 rfl
theorem ki_w42 : sched kiB 42 = kiW.take 42 := sched_nx kiB 41 _ _ _ (by decide) ki_w41 ki_n41 rfl
theorem ki_w43 : sched kiB 43 = kiW.take 43 := sched_nx kiB 42 _ _ _ (by decide) ki_w42 ki_n42 rfl
theorem ki_w44 : sched kiB 44 = kiW.take 44 := sched_nx kiB 43 _ _ _ (by decide) ki_w43 ki_n43 rfl
theorem ki_w45 : sched kiB 45 = kiW.take 45 := sched_nx kiB 44 _ _ _ (by decide) ki_w44 ki_n44 rfl
theorem ki_w46 : sched kiB 46 = kiW.take 46 := sched_nx kiB 45 _ _ _ (by decide) ki_w45 ki_n45 rfl
theorem ki_w47 : sched kiB 47 = kiW.take 47 := sched_nx kiB 46 _ _ _ (by decide) ki_w46 ki_n46 rfl
theorem ki_w48 : sched kiB 48 = kiW.take 48 := sched_nx kiB 47 _ _ _ (by decide) ki_w47 ki_n47 rfl
theorem ki_w49 : sched kiB 49 = kiW.take 49 := sched_nx kiB 48 _ _ _ (by decide) ki_w48 ki_n48 rfl
theorem ki_w50 : sched kiB 50 = kiW.take 50 := sched_nx kiB 49 _ _ _ (by decide) ki_w49 ki_n49 rfl
theorem ki_w51 : sched kiB 51 = kiW.take 51 := sched_nx kiB 50 _ _ _ (by decide) ki_w50 ki_n50 rfl
theorem ki_w52 : sched kiB 52 = kiW.take 52 := sched_nx kiB 51 _ _ _ (by decide) ki_w51 ki_n51 rfl
theorem ki_w53 : sched kiB 53 = kiW.take 53 := sched_nx kiB 52 _ _ _ (by decide) ki_w52 ki_n52 rfl
theorem ki_w54 : sched kiB 54 = kiW.take 54 := sched_nx kiB 53 _ _ _ (by decide) ki_w53 ki_n53 rfl
theorem ki_w55 : sched kiB 55 = kiW.take 55 := sched_nx kiB 54 _ _ _ (by decide) ki_w54 ki_n54 rfl
theorem ki_w56 : sched kiB 56 = kiW.take 56 := sched_nx kiB 55 _ _ _ (by decide) ki_w55 ki_n55 rfl
theorem ki_w57 : sched kiB 57 = kiW.take 57 := sched_nx kiB 56 _ _ _ (by decide) ki_w56 ki_n56 rfl
theorem ki_w58 : sched kiB 58 = kiW.take 58 := sched_nx kiB 57 _ _ _ (by decide) ki_w57 ki_n57 rfl
theorem ki_w59 : sched kiB 59 = kiW.take 59 := sched_nx kiB 58 _ _ _ (by decide) ki_w58 ki_n58 rfl
theorem ki_w60 : sched kiB 60 = kiW.take 60 := sched_nx kiB 59 _ _ _ (by decide) ki_w59 ki_n59 rfl
theorem ki_w61 : sched kiB 61 = kiW.take 61 := sched_nx kiB 60 _ _ _ (by decide) ki_w60 ki_n60 rfl
theorem ki_w62 : sched kiB 62 = kiW.take 62 := sched_nx kiB 61 _ _ _ (by decide) ki_w61 ki_n61 rfl
theorem ki_w63 : sched kiB 63 = kiW.take 63 := sched_nx kiB 62 _ _ _ (by decide) ki_w62 ki_n62 rfl
theorem ki_w64 : sched kiB 64 = kiW.take 64 := sched_nx kiB 63 _ _ _ (by decide) ki_w63 ki_n63 rfl
def ki_t0 : St := ⟨1779033703, 3144134277, 1013904242, 2773480762, 1359893119, 2600822924, 528734635, 1541459225⟩
def ki_t1 : St := ⟨842972803, 1779033703, 3144134277, 1013904242, 3472759000, 1359893119, 2600822924, 528734635⟩
def ki_t2 : St := ⟨466284985, 842972803, 1779033703, 3144134277, 1537082375, 3472759000, 1359893119, 2600822924⟩
def ki_t3 : St := ⟨1059680895, 466284985, 842972803, 1779033703, 3750339595, 1537082375, 3472759000, 1359893119⟩
def ki_t4 : St := ⟨1828036443, 1059680895, 466284985, 842972803, 2715433439, 3750339595, 1537082375, 3472759000⟩
def ki_t5 : St := ⟨4195111720, 1828036443, 1059680895, 466284985, 4106596455, 2715433439, 3750339595, 1537082375⟩
def ki_t6 : St := ⟨2654533829, 4195111720, 1828036443, 1059680895, 2773364675, 4106596455, 2715433439, 3750339595⟩
def ki_t7 : St := ⟨3746083523, 2654533829, 4195111720, 1828036443, 3723718763, 2773364675, 4106596455, 2715433439⟩
def ki_t8 : St := ⟨2771943867, 3746083523, 2654533829, 4195111720, 4045231309, 3723718763, 2773364675, 4106596455⟩
def ki_t9 : St := ⟨2666910850, 2771943867, 3746083523, 2654533829, 4080242601, 4045231309, 3723718763, 2773364675⟩
def ki_t10 : St := ⟨729992179, 2666910850, 2771943867, 3746083523, 1430760256, 4080242601, 4045231309, 3723718763⟩
def ki_t11 : St := ⟨1107822165, 729992179, 2666910850, 2771943867, 3544831265, 1430760256, 4080242601, 4045231309⟩
def ki_t12 : St := ⟨3257106053, 1107822165, 729992179, 2666910850, 447345808, 3544831265, 1430760256, 4080242601⟩
def ki_t13 : St := ⟨3312117243, 3257106053, 1107822165, 729992179, 419533302, 447345808, 3544831265, 1430760256⟩
def ki_t14 : St := ⟨2220108175, 3312117243, 3257106053, 1107822165, 2023297393, 419533302, 447345808, 3544831265⟩
def ki_t15 : St := ⟨687168555, 2220108175, 3312117243, 3257106053, 2831932958, 2023297393, 419533302, 447345808⟩
def ki_t16 : St := ⟨2871497007, 687168555, 2220108175, 3312117243, 3938575878, 2831932958, 2023297393, 419533302⟩
def ki_t17 : St := ⟨1237659884, 2871497007, 687168555, 2220108175, 1758132701, 3938575878, 2831932958, 2023297393⟩
def ki_t18 : St := ⟨1504035408, 1237659884, 2871497007, 687168555, 843327611, 1758132701, 3938575878, 2831932958⟩
def ki_t19 : St := ⟨564696894, 1504035408, 1237659884, 2871497007, 1830118945, 843327611, 1758132701, 3938575878⟩
def ki_t20 : St := ⟨3108685266, 564696894, 1504035408, 1237659884, 2265248888, 1830118945, 843327611, 1758132701⟩
def ki_t21 : St := ⟨813111309, 3108685266, 564696894, 1504035408, 2495827936, 2265248888, 1830118945, 843327611⟩
def ki_t22 : St := ⟨2596354739, 813111309, 3108685266, 564696894, 1927804523, 2495827936, 2265248888, 1830118945⟩
def ki_t23 : St := ⟨1068852632, 2596354739, 813111309, 3108685266, 1901366645, 1927804523, 2495827936, 2265248888⟩
def ki_t24 : St := ⟨3449117172, 1068852632, 2596354739, 813111309, 1429218042, 1901366645, 1927804523, 2495827936⟩
def ki_t25 : St := ⟨141097772, 3449117172, 1068852632, 2596354739, 4020613032, 1429218042, 1901366645, 1927804523⟩
def ki_t26 : St := ⟨4215251554, 141097772, 3449117172, 1068852632, 263493036, 4020613032, 1429218042, 1901366645⟩
def ki_t27 : St := ⟨1070871782, 4215251554, 141097772, 3449117172, 1660544145, 263493036, 4020613032, 1429218042⟩
def ki_t28 : St := ⟨2868062304, 1070871782, 4215251554, 141097772, 3304350855, 1660544145, 263493036, 4020613032⟩
def ki_t29 : St := ⟨1490790026, 2868062304, 1070871782, 4215251554, 3498538, 3304350855, 1660544145, 263493036⟩
def ki_t30 : St := ⟨1802131671, 1490790026, 2868062304, 1070871782, 1591267387, 3498538, 3304350855, 1660544145⟩
def ki_t31 : St := ⟨1194672066, 1802131671, 1490790026, 2868062304, 1728822044, 1591267387, 3498538, 3304350855⟩
def ki_t32 : St := ⟨43038876, 1194672066, 1802131671, 1490790026, 2800231157, 1728822044, 1591267387, 3498538⟩
def ki_t33 : St := ⟨900490828, 43038876, 1194672066, 1802131671, 3299969368, 2800231157, 1728822044, 1591267387⟩
def ki_t34 : St := ⟨2033509571, 900490828, 43038876, 1194672066, 1314355880, 3299969368, 2800231157, 1728822044⟩
def ki_t35 : St := ⟨1953294150, 2033509571, 900490828, 43038876, 1579631817, 1314355880, 3299969368, 2800231157⟩
def ki_t36 : St := ⟨833481213, 1953294150, 2033509571, 900490828, 2858170604, 1579631817, 1314355880, 3299969368⟩
def ki_t37 : St := ⟨148175187, 833481213, 1953294150, 2033509571, 422540802, 2858170604, 1579631817, 1314355880⟩
def ki_t38 : St := ⟨1525513957, 148175187, 833481213, 1953294150, 1206732161, 422540802, 2858170604, 1579631817⟩
def ki_t39 : St := ⟨1247697829, 1525513957, 148175187, 833481213, 2440244029, 1206732161, 422540802, 2858170604⟩
def ki_t40 : St := ⟨1423883787, 1247697829, 1525513957, 148175187, 1155324657, 2440244029, 1206732161, 422540802⟩
def ki_t41 : St := ⟨698181656, 1423883787, 1247697829, 1525513957, 2013183650, 1155324657, 2440244029, 1206732161⟩
def ki_t42 : St := ⟨3033167125, 698181656, 1423883787, 1247697829, 2278753190, 2013183650, 1155324657, 2440244029⟩
def ki_t43 : St := ⟨2862477551, 3033167125, 698181656, 1423883787, 3553780406, 2278753190, 2013183650, 1155324657⟩
def ki_t44 : St := ⟨2144138621, 2862477551, 3033167125, 698181656, 301247725, 3553780406, 2278753190, 2013183650⟩
def ki_t45 : St := ⟨1857370344, 2144138621, 2862477551, 3033167125, 297301180, 301247725, 3553780406, 2278753190⟩
def ki_t46 : St := ⟨3154372263, 1857370344, 2144138621, 2862477551, 4196585638, 297301180, 301247725, 3553780406⟩
def ki_t47 : St := ⟨59735062, 3154372263, 1857370344, 2144138621, 1509945554, 4196585638, 297301180, 301247725⟩
def ki_t48 : St := ⟨633986419, 59735062, 3154372263, 1857370344, 426490586, 1509945554, 4196585638, 297301180⟩
def ki_t49 : St := ⟨3247327820, 633986419, 59735062, 3154372263, 85520760, 426490586, 1509945554, 4196585638⟩
def ki_t50 : St := ⟨3487379645, 3247327820, 633986419, 59735062, 790957351, 85520760, 426490586, 1509945554⟩
def ki_t51 : St := ⟨2187804252, 3487379645, 3247327820, 633986419, 1028496380, 790957351, 85520760, 426490586⟩
def ki_t52 : St := ⟨22037987, 2187804252, 3487379645, 3247327820, 348535379, 1028496380, 790957351, 85520760⟩
def ki_t53 : St := ⟨2310714515, 22037987, 2187804252, 3487379645, 429404643, 348535379, 1028496380, 790957351⟩
def ki_t54 : St := ⟨2270037589, 2310714515, 22037987, 2187804252, 697848680, 429404643, 348535379, 1028496380⟩
def ki_t55 : St := ⟨556296308, 2270037589, 2310714515, 22037987, 3066999813, 697848680, 429404643, 348535379⟩
def ki_t56 : St := ⟨3438681751, 556296308, 2270037589, 2310714515, 1657896011, 3066999813, 697848680, 429404643⟩
def ki_t57 : St := ⟨317954126, 3438681751, 556296308, 2270037589, 927367014, 1657896011, 3066999813, 697848680⟩
def ki_t58 : St := ⟨3815014310, 317954126, 3438681751, 556296308, 3776127969, 927367014, 1657896011, 3066999813⟩
def ki_t59 : St := ⟨693028634, 3815014310, 317954126, 3438681751, 3010490817, 3776127969, 927367014, 1657896011⟩
def ki_t60 : St := ⟨3102361643, 693028634, 3815014310, 317954126, 3638228127, 3010490817, 3776127969, 927367014⟩
def ki_t61 : St := ⟨969028528, 3102361643, 693028634, 3815014310, 2633990425, 3638228127, 3010490817, 3776127969⟩
def ki_t62 : St := ⟨1416363822, 969028528, 3102361643, 693028634, 1657190784, 2633990425, 3638228127, 3010490817⟩
def ki_t63 : St := ⟨3686625994, 1416363822, 969028528, 3102361643, 143448309, 1657190784, 2633990425, 3638228127⟩
def ki_t64 : St := ⟨2320169030, 3686625994, 1416363822, 969028528, 332866192, 143448309, 1657190784, 2633990425⟩
theorem ki_s0 : rnd ki_t0 1116352408 909522486 = ki_t1 := by kernel_rfl
theorem ki_s1 : rnd ki_t1 1899447441 909522486 = ki_t2 := by kernel_rfl
theorem ki_s2 : rnd ki_t2 3049323471 909522486 = ki_t3 := by kernel_rfl
theorem ki_s3 : rnd ki_t3 3921009573 909522486 = ki_t4 := by kernel_rfl
theorem ki_s4 : rnd ki_t4 961987163 909522486 = ki_t5 := by kernel_rfl
theorem ki_s5 : rnd ki_t5 1508970993 909522486 = ki_t6 := by kernel_rfl
theorem ki_s6 : rnd ki_t6 2453635748 909522486 = ki_t7 := by kernel_rfl
theorem ki_s7 : rnd ki_t7 2870763221 909522486 = ki_t8 := by kernel_rfl
theorem ki_s8 : rnd ki_t8 3624381080 909522486 = ki_t9 := by kernel_rfl
theorem ki_s9 : rnd ki_t9 310598401 909522486 = ki_t10 := by kernel_rfl
theorem ki_s10 : rnd ki_t10 607225278 909522486 = ki_t11 := by kernel_rfl
theorem ki_s11 : rnd ki_t11 1426881987 909522486 = ki_t12 := by kernel_rfl
theorem ki_s12 : rnd ki_t12 1925078388 909522486 = ki_t13 := by kernel_rfl
theorem ki_s13 : rnd ki_t13 2162078206 909522486 = ki_t14 := by kernel_rfl
theorem ki_s14 : rnd ki_t14 2614888103 909522486 = ki_t15 := by kernel_rfl
theorem ki_s15 : rnd ki_t15 3248222580 909522486 = ki_t16 := by kernel_rfl
theorem ki_s16 : rnd ki_t16 3835390401 828629987 = ki_t17 := by kernel_rfl
theorem ki_s17 : rnd ki_t17 4022224774 828629987 = ki_t18 := by kernel_rfl
theorem ki_s18 : rnd ki_t18 264347078 3776264696 = ki_t19 := by kernel_rfl
theorem ki_s19 : rnd ki_t19 604807628 3776264696 = ki_t20 := by kernel_rfl
theorem ki_s20 : rnd ki_t20 770255983 2408496505 = ki_t21 := by kernel_rfl
theorem ki_s21 : rnd ki_t21 1249150122 2408496505 = ki_t22 := by kernel_rfl
theorem ki_s22 : rnd ki_t22 1555081692 3703810348 = ki_t23 := by kernel_rfl
theorem ki_s23 : rnd ki_t23 1996064986 3622917849 = ki_t24 := by kernel_rfl
theorem ki_s24 : rnd ki_t24 2554220882 4031120979 = ki_t25 := by kernel_rfl
theorem ki_s25 : rnd ki_t25 2821834349 2146747560 = ki_t26 := by kernel_rfl
theorem ki_s26 : rnd ki_t26 2952996808 3260165887 = ki_t27 := by kernel_rfl
theorem ki_s27 : rnd ki_t27 3210313671 2815092747 = ki_t28 := by kernel_rfl
theorem ki_s28 : rnd ki_t28 3336571891 4286359742 = ki_t29 := by kernel_rfl
theorem ki_s29 : rnd ki_t29 3584528711 592337967 = ki_t30 := by kernel_rfl
theorem ki_s30 : rnd ki_t30 113926993 3066442673 = ki_t31 := by kernel_rfl
theorem ki_s31 : rnd ki_t31 338241895 1154308805 = ki_t32 := by kernel_rfl
theorem ki_s32 : rnd ki_t32 666307205 3381820581 = ki_t33 := by kernel_rfl
theorem ki_s33 : rnd ki_t33 773529912 2642411924 = ki_t34 := by kernel_rfl
theorem ki_s34 : rnd ki_t34 1294757372 2658340976 = ki_t35 := by kernel_rfl
theorem ki_s35 : rnd ki_t35 1396182291 790776156 = ki_t36 := by kernel_rfl
theorem ki_s36 : rnd ki_t36 1695183700 3936322321 = ki_t37 := by kernel_rfl
theorem ki_s37 : rnd ki_t37 1986661051 1548620120 = ki_t38 := by kernel_rfl
theorem ki_s38 : rnd ki_t38 2177026350 1346974071 = ki_t39 := by kernel_rfl
theorem ki_s39 : rnd ki_t39 2456956037 2760948351 = ki_t40 := by kernel_rfl
theorem ki_s40 : rnd ki_t40 2730485921 3128084265 = ki_t41 := by kernel_rfl
theorem ki_s41 : rnd ki_t41 2820302411 3576817954 = ki_t42 := by kernel_rfl
theorem ki_s42 : rnd ki_t42 3259730800 3867676740 = ki_t43 := by kernel_rfl
theorem ki_s43 : rnd ki_t43 3345764771 2754198265 = ki_t44 := by kernel_rfl
theorem ki_s44 : rnd ki_t44 3516065817 855811989 = ki_t45 := by kernel_rfl
theorem ki_s45 : rnd ki_t45 3600352804 1459331653 = ki_t46 := by kernel_rfl
theorem ki_s46 : rnd ki_t46 4094571909 925716054 = ki_t47 := by kernel_rfl
theorem ki_s47 : rnd ki_t47 275423344 1917319745 = ki_t48 := by kernel_rfl
theorem ki_s48 : rnd ki_t48 430227734 3902710584 = ki_t49 := by kernel_rfl
theorem ki_s49 : rnd ki_t49 506948616 3177888799 = ki_t50 := by kernel_rfl
theorem ki_s50 : rnd ki_t50 659060556 4165673166 = ki_t51 := by kernel_rfl
theorem ki_s51 : rnd ki_t51 883997877 1242241643 = ki_t52 := by kernel_rfl
theorem ki_s52 : rnd ki_t52 958139571 1967333460 = ki_t53 := by kernel_rfl
theorem ki_s53 : rnd ki_t53 1322822218 718933646 = ki_t54 := by kernel_rfl
theorem ki_s54 : rnd ki_t54 1537002063 2081681304 = ki_t55 := by kernel_rfl
theorem ki_s55 : rnd ki_t55 1747873779 3384580195 = ki_t56 := by kernel_rfl
theorem ki_s56 : rnd ki_t56 1955562222 658678898 = ki_t57 := by kernel_rfl
theorem ki_s57 : rnd ki_t57 2024104815 1033513033 = ki_t58 := by kernel_rfl
theorem ki_s58 : rnd ki_t58 2227730452 3234119599 = ki_t59 := by kernel_rfl
theorem ki_s59 : rnd ki_t59 2361852424 4034058430 = ki_t60 := by kernel_rfl
theorem ki_s60 : rnd ki_t60 2428436474 2396173866 = ki_t61 := by kernel_rfl
theorem ki_s61 : rnd ki_t61 2756734187 61000443 = ki_t62 := by kernel_rfl
theorem ki_s62 : rnd ki_t62 3204031479 2165945604 = ki_t63 := by kernel_rfl
theorem ki_s63 : rnd ki_t63 3329325298 2579069648 = ki_t64 := by kernel_rfl
theorem ki_r0 : rounds ki_t0 kiW 0 = ki_t0 := rfl
theorem ki_r1 : rounds ki_t0 kiW 1 = ki_t1 := rounds_nx _ _ 0 _ _ _ _ ki_r0 rfl rfl ki_s0
theorem ki_r2 : rounds ki_t0 kiW 2 = ki_t2 := rounds_nx _ _ 1 _ _ _ _ ki_r1 rfl rfl ki_s1
theorem ki_r3 : rounds ki_t0 kiW 3 = ki_t3 := rounds_nx _ _ 2 _ _ _ _ ki_r2 rfl rfl ki_s2
theorem ki_r4 : rounds ki_t0 kiW 4 = ki_t4 := rounds_nx _ _ 3 _ _ _ _ ki_r3 rfl rfl ki_s3
theorem ki_r5 : rounds ki_t0 kiW 5 = ki_t5 := rounds_nx _ _ 4 _ _ _ _ ki_r4 rfl rfl ki_s4
theorem ki_r6 : rounds ki_t0 kiW 6 = ki_t6 := rounds_nx _ _ 5 _ _ _ _ ki_r5 rfl rfl ki_s5
theorem ki_r7 : rounds ki_t0 kiW 7 = ki_t7 := rounds_nx _ _ 6 _ _ _ _ ki_r6 rfl rfl ki_s6
theorem ki_r8 : rounds ki_t0 kiW 8 = ki_t8 := rounds_nx _ _ 7 _ _ _ _ ki_r7 rfl rfl ki_s7
theorem ki_r9 : rounds ki_t0 kiW 9 = ki_t9 := rounds_nx _ _ 8 _ _ _ _ ki_r8 rfl rfl ki_s8
theorem ki_r10 : rounds ki_t0 kiW 10 = ki_t10 := rounds_nx _ _ 9 _ _ _ _ ki_r9 rfl rfl ki_s9
theorem ki_r11 : rounds ki_t0 kiW 11 = ki_t11 := rounds_nx _ _ 10 _ _ _ _ ki_r10 rfl rfl ki_s10
theorem ki_r12 : rounds ki_t0 kiW 12 = ki_t12 := rounds_nx _ _ 11 _ _ _ _ ki_r11 rfl rfl ki_s11
theorem ki_r13 : rounds ki_t0 kiW 13 = ki_t13 := rounds_nx _ _ 12 _ _ _ _ ki_r12 rfl rfl ki_s12
theorem ki_r14 : rounds ki_t0 kiW 14 = ki_t14 := rounds_nx _ _ 13 _ _ _ _ ki_r13 rfl rfl ki_s13
theorem ki_r15 : rounds ki_t0 kiW 15 = ki_t15 := rounds_nx _ _ 14 _ _ _ _ ki_r14 rfl rfl ki_s14
theorem ki_r16 : rounds ki_t0 kiW 16 = ki_t16 := rounds_nx _ _ 15 _ _ _ _ ki_r15 rfl rfl ki_s15
theorem ki_r17 : rounds ki_t0 kiW 17 = ki_t17 := rounds_nx _ _ 16 _ _ _ _ ki_r16 rfl rfl ki_s16
theorem ki_r18 : rounds ki_t0 kiW 18 = ki_t18 := rounds_nx _ _ 17 _ _ _ _ ki_r17 rfl rfl ki_s17
theorem ki_r19 : rounds ki_t0 kiW 19 = ki_t19 := rounds_nx _ _ 18 _ _ _ _ ki_r18 rfl rfl ki_s18
theorem ki_r20 : rounds ki_t0 kiW 20 = ki_t20 := rounds_nx _ _ 19 _ _ _ _ ki_r19 rfl rfl ki_s19
theorem ki_r21 : rounds ki_t0 kiW 21 = ki_t21 := rounds_nx _ _ 20 _ _ _ _ ki_r20 rfl rfl ki_s20
theorem ki_r22 : rounds ki_t0 kiW 22 = ki_t22 := rounds_nx _ _ 21 _ _ _ _ ki_r21 rfl rfl ki_s21
theorem ki_r23 : rounds ki_t0 kiW 23 = ki_t23 := rounds_nx _ _ 22 _ _ _ _ ki_r22 rfl rfl ki_s22
theorem ki_r24 : rounds ki_t0 kiW 24 = ki_t24 := rounds_nx _ _ 23 _ _ _ _ ki_r23 rfl rfl ki_s23
theorem ki_r25 : rounds ki_t0 kiW 25 = ki_t25 := rounds_nx _ _ 24 _ _ _ _ ki_r24 rfl rfl ki_s24
theorem ki_r26 : rounds ki_t0 kiW 26 = ki_t26 := rounds_nx _ _ 25 _ _ _ _ ki_r25 rfl rfl ki_s25
theorem ki_r27 : rounds ki_t0 kiW 27 = ki_t27 := rounds_nx _ _ 26 _ _ _ _ ki_r26 rfl rfl ki_s26
theorem ki_r28 : rounds ki_t0 kiW 28 = ki_t28 := rounds_nx _ _ 27 _ _ _ _ ki_r27 rfl rfl ki_s27
theorem ki_r29 : rounds ki_t0 kiW 29 = ki_t29 := rounds_nx _ _ 28 _ _ _ _ ki_r28 rfl rfl ki_s28
theorem ki_r30 : rounds ki_t0 kiW 30 = ki_t30 := rounds_nx _ _ 29 _ _ _ _ ki_r29 rfl rfl ki_s29
theorem ki_r31 : rounds ki_t0 kiW 31 = ki_t31 := rounds_nx _ _ 30 _ _ _ _ ki_r30 rfl rfl ki_s30
theorem ki_r32 : rounds ki_t0 kiW 32 = ki_t32 := rounds_nx _ _ 31 _ _ _ _ ki_r31 rfl rfl ki_s31
theorem ki_r33 : rounds ki_t0 kiW 33 = ki_t33 := rounds_nx _ _ 32 _ _ _ _ ki_r32 rfl rfl ki_s32
theorem ki_r34 : rounds ki_t0 kiW 34 = ki_t34 := rounds_nx _ _ 33 _ _ _ _ ki_r33 rfl rfl ki_s33
theorem ki_r35 : rounds ki_t0 kiW 35 = ki_t35 := rounds_nx _ _ 34 _ _ _ _ ki_r34 rfl rfl ki_s34
theorem ki_r36 : rounds ki_t0 kiW 36 = ki_t36 := rounds_nx _ _ 35 _ _ _ _ ki_r35 rfl rfl ki_s35
theorem ki_r37 : rounds ki_t0 kiW 37 = ki_t37 := rounds_nx _ _ 36 _ _ _ _ ki_r36 rfl rfl ki_s36
theorem ki_r38 : rounds ki_t0 kiW 38 = ki_t38 := rounds_nx _ _ 37 _ _ _ _ ki_r37 rfl rfl ki_s37
theorem ki_r39 : rounds ki_t0 kiW 39 = ki_t39 := rounds_nx _ _ 38 _ _ _ _ ki_r38 rfl rfl ki_s38
theorem ki_r40 : rounds ki_t0 kiW 40 = ki_t40 := rounds_nx _ _ 39 _ _ _ _ ki_r39 rfl rfl ki_s39
theorem ki_r41 : rounds ki_t0 kiW 41 = ki_t41 := rounds_nx _ _ 40 _ _ _ _ ki_r40 rfl rfl ki_s40
theorem ki_r42 : rounds ki_t0 kiW 42 = ki_t42 := rounds_nx _ _ 41 _ _ _ _ ki_r41 rfl rfl ki_s41
theorem ki_r43 : rounds ki_t0 kiW 43 = ki_t43 := rounds_nx _ _ 42 _ _ _ _ ki_r42 rfl rfl ki_s42
theorem ki_r44 : rounds ki_t0 kiW 44 = ki_t44 := rounds_nx _ _ 43 _ _ _ _ ki_r43 rfl rfl ki_s43
theorem ki_r45 : rounds ki_t0 kiW 45 = ki_t45 := rounds_nx _ _ 44 _ _ _ _ ki_r44 rfl rfl ki_s44
theorem ki_r46 : rounds ki_t0 kiW 46 = ki_t46 := rounds_nx _ _ 45 _ _ _ _ ki_r45 rfl rfl ki_s45
theorem ki_r47 : rounds ki_t0 kiW 47 = ki_t47 := rounds_nx _ _ 46 _ _ _ _ ki_r46 rfl rfl ki_s46
theorem ki_r48 : rounds ki_t0 kiW 48 = ki_t48 := rounds_nx _ _ 47 _ _ _ _ ki_r47 rfl rfl ki_s47
theorem ki_r49 : rounds ki_t0 kiW 49 = ki_t49 := rounds_nx _ _ 48 _ _ _ _ ki_r48 rfl rfl ki_s48
theorem ki_r50 : rounds ki_t0 kiW 50 = ki_t50 := rounds_nx _ _ 49 _ _ _ _ ki_r49 rfl rfl ki_s49
theorem ki_r51 : rounds ki_t0 kiW 51 = ki_t51 := rounds_nx _ _ 50 _ _ _ _ ki_r50 rfl rfl ki_s50
theorem ki_r52 : rounds ki_t0 kiW 52 = ki_t52 := rounds_nx _ _ 51 _ _ _ _ ki_r51 rfl rfl ki_s51
theorem ki_r53 : rounds ki_t0 kiW 53 = ki_t53 := rounds_nx _ _ 52 _ _ _ _ ki_r52 rfl rfl ki_s52
theorem ki_r54 : rounds ki_t0 kiW 54 = ki_t54 := rounds_nx _ _ 53 _ _ _ _ ki_r53 rfl rfl ki_s53
theorem ki_r55 : rounds ki_t0 kiW 55 = ki_t55 := rounds_nx _ _ 54 _ _ _ _ ki_r54 rfl rfl ki_s54
theorem ki_r56 : rounds ki_t0 kiW 56 = ki_t56 := rounds_nx _ _ 55 _ _ _ _ ki_r55 rfl rfl ki_s55
theorem ki_r57 : rounds ki_t0 kiW 57 = ki_t57 := rounds_nx _ _ 56 _ _ _ _ ki_r56 rfl rfl ki_s56
theorem ki_r58 : rounds ki_t0 kiW 58 = ki_t58 := rounds_nx _ _ 57 _ _ _ _ ki_r57 rfl rfl ki_s57
theorem ki_r59 : rounds ki_t0 kiW 59 = ki_t59 := rounds_nx _ _ 58 _ _ _ _ ki_r58 rfl rfl ki_s58
theorem ki_r60 : rounds ki_t0 kiW 60 = ki_t60 := rounds_nx _ _ 59 _ _ _ _ ki_r59 rfl rfl ki_s59
theorem ki_r61 : rounds ki_t0 kiW 61 = ki_t61 := rounds_nx _ _ 60 _ _ _ _ ki_r60 rfl rfl ki_s60
theorem ki_r62 : rounds ki_t0 kiW 62 = ki_t62 := rounds_nx _ _ 61 _ _ _ _ ki_r61 rfl rfl ki_s61
theorem ki_r63 : rounds ki_t0 kiW 63 = ki_t63 := rounds_nx _ _ 62 _ _ _ _ ki_r62 rfl rfl ki_s62
theorem ki_r64 : rounds ki_t0 kiW 64 = ki_t64 := rounds_nx _ _ 63 _ _ _ _ ki_r63 rfl rfl ki_s63
def kiN : List Int := [4099202733, 2535792975, 2430268064, 3742509290, 1692759311, 2744271233, 2185925419, 4175449650]
theorem ki_block : blockZ FZ kiB = kiN := by
  have h : (sched kiB 64) = kiW := ki_w64
  unfold blockZ
  rw [h, show St.ofL FZ = ki_t0 from rfl, ki_r64]
  show _ = _
  kernel_rfl
def koB : List Int := [92, 92, 92, 92, 92, 92, 92, 92, 92, 92, 92, 92, 92, 92, 92, 92, 92, 92, 92, 92, 92, 92, 92, 92, 92, 92, 92, 92, 92, 92, 92, 92, 92, 92, 92, 92, 92, 92, 92, 92, 92, 92, 92, 92, 92, 92, 92, 92, 92, 92, 92, 92, 92, 92, 92, 92, 92, 92, 92, 92, 92, 92, 92, 92]
def koW : List Int := [1549556828, 1549556828, 1549556828, 1549556828, 1549556828, 1549556828, 1549556828, 1549556828, 1549556828, 1549556828, 1549556828, 1549556828, 1549556828, 1549556828, 1549556828, 1549556828, 42962830, 42962830, 2467512273, 2467512273, 1427315712, 1427315712, 1249001928, 4037375226, 1809826037, 2826030956, 2886905781, 872774085, 1469776800, 1590296612, 3537354104, 133472730, 3554710565, 4062847664, 2657847936, 216629829, 891106106, 586986791, 1227446114, 2824269971, 2665413624, 3263572534, 775620046, 3292793133, 542824600, 840372110, 1326296352, 2178981808, 4036745216, 1824838472, 3842077899, 1596028657, 1666037942, 2687211640, 3302866841, 3022413000, 1930114701, 3862987069, 3425946126, 4202727519, 918644712, 1850158742, 4178356858, 1365291507]
theorem ko_w16 : sched koB 16 = koW.take 16 := by kernel_rfl
theorem ko_n16 : nextW (koW.take 16) = 42962830 := by kernel_rfl
theorem ko_n17 : nextW (koW.take 17) = 42962830 := by kernel_rfl
theorem ko_n18 : nextW (koW.take 18) = 2467512273 := by kernel_rfl
theorem ko_n19 : nextW (koW.take 19) = 2467512273 := by kernel_rfl
theorem ko_n20 : nextW (koW.take 20) = 1427315712 := by kernel_rfl
theorem ko_n21 : nextW (koW.take 21) = 1427315712 := by kernel_rfl
theorem ko_n22 : nextW (koW.take 22) = 1249001928 := by kernel_rfl
theorem ko_n23 : nextW (koW.take 23) = 4037375226 := by kernel_rfl
theorem ko_n24 : nextW (koW.take 24) = 1809826037 := by kernel_rfl
theorem ko_n25 : nextW (koW.take 25) = 2826030956 := by kernel_rfl
theorem ko_n26 : nextW (koW.take 26) = 2886905781 := by kernel_rfl
theorem ko_n27 : nextW (koW.take 27) = 872774085 := by kernel_rfl
theorem ko_n28 : nextW (koW.take 28) = 1469776800 := by kernel_rfl
theorem ko_n29 : nextW (koW.take 29) = 1590296612 := by kernel_rfl
theorem ko_n30 : nextW (koW.take 30) = 3537354104 := by kernel_rfl
theorem ko_n31 : nextW (koW.take 31) = 133472730 := by kernel_rfl
theorem ko_n32 : nextW (koW.take 32) = 3554710565 := by kernel_rfl
theorem ko_n33 : nextW (koW.take 33) = 4062847664 := by kernel_rfl
theorem ko_n34 : nextW (koW.take 34) = 2657847936 := by kernel_rfl
theorem ko_n35 : nextW (koW.take 35) = 216629829 := by kernel_rfl
theorem ko_n36 : nextW (koW.take 36) = 891106106 := by kernel_rfl
theorem ko_n37 : nextW (koW.take 37) = 586986791 := by kernel_rfl
theorem ko_n38 : nextW (koW.take 38) = 1227446114 := by kernel_rfl
theorem ko_n39 : nextW (koW.take 39) = 2824269971 := by kernel_rfl
theorem ko_n40 : nextW (koW.take 40) = 2665413624 := by kernel_rfl
theorem ko_n41 : nextW (koW.take 41) = 3263572534 := by kernel_rfl
theorem ko_n42 : nextW (koW.take 42) = 775620046 := by kernel_rfl
theorem ko_n43 : nextW (koW.take 43) = 3292793133 := by kernel_rfl
theorem ko_n44 : nextW (koW.take 44) = 542824600 := by kernel_rfl
theorem ko_n45 : nextW (koW.take 45) = 840372110 := by kernel_rfl
theorem ko_n46 : nextW (koW.take 46) = 1326296352 := by kernel_rfl
theorem ko_n47 : nextW (koW.take 47) = 2178981808 := by kernel_rfl
theorem ko_n48 : nextW (koW.take 48) = 4036745216 := by kernel_rfl
theorem ko_n49 : nextW (koW.take 49) = 1824838472 := by kernel_rfl
theorem ko_n50 : nextW (koW.take 50) = 3842077899 := by kernel_rfl
theorem ko_n51 : nextW (koW.take 51) = 1596028657 := by kernel_rfl
theorem ko_n52 : nextW (koW.take 52) = 1666037942 := by kernel_rfl
theorem ko_n53 : nextW (koW.take 53) = 2687211640 := by kernel_rfl
theorem ko_n54 : nextW (koW.take 54) = 3302866841 := by kernel_rfl
theorem ko_n55 : nextW (koW.take 55) = 3022413000 := by kernel_rfl
theorem ko_n56 : nextW (koW.take 56) = 1930114701 := by kernel_rfl
theorem ko_n57 : nextW (koW.take 57) = 3862987069 := by kernel_rfl
theorem ko_n58 : nextW (koW.take 58) = 3425946126 := by kernel_rfl
theorem ko_n59 : nextW (koW.take 59) = 4202727519 := by kernel_rfl
theorem ko_n60 : nextW (koW.take 60) = 918644712 := by kernel_rfl
theorem ko_n61 : nextW (koW.take 61) = 1850158742 := by kernel_rfl
theorem ko_n62 : nextW (koW.take 62) = 4178356858 := by kernel_rfl
theorem ko_n63 : nextW (koW.take 63) = 1365291507 := by kernel_rfl
theorem ko_w17 : sched koB 17 = koW.take 17 := sched_nx koB 16 _ _ _ (by decide) ko_w16 ko_n16 rfl
theorem ko_w18 : sched koB 18 = koW.take 18 := sched_nx koB 17 _ _ _ (by decide) ko_w17 ko_n17 rfl
theorem ko_w19 : sched koB 19 = koW.take 19 := sched_nx koB 18 _ _ _ (by decide) ko_w18 ko_n18 rfl
theorem ko_w20 : sched koB 20 = koW.take 20 := sched_nx koB 19 _ _ _ (by decide) ko_w19 ko_n19 rfl
theorem ko_w21 : sched koB 21 = koW.take 21 := sched_nx koB 20 _ _ _ (by decide) ko_w20 ko_n20 rfl
theorem ko_w22 : sched koB 22 = koW.take 22 := sched_nx koB 21 _ _ _ (by decide) ko_w21 ko_n21 rfl
theorem ko_w23 : sched koB 23 = koW.take 23 := sched_nx koB 22 _ _ _ (by decide) ko_w22 ko_n22 rfl
theorem ko_w24 : sched koB 24 = koW.take 24 := sched_nx koB 23 _ _ _ (by decide) ko_w23 ko_n23 rfl
theorem ko_w25 : sched koB 25 = koW.take 25 := sched_nx koB 24 _ _ _ (by decide) ko_w24 ko_n24 rfl
theorem ko_w26 : sched koB 26 = koW.take 26 := sched_nx koB 25 _ _ _ (by decide) ko_w25 ko_n25 rfl
theorem ko_w27 : sched koB 27 = koW.take 27 := sched_nx koB 26 _ _ _ (by decide) ko_w26 ko_n26 rfl
theorem ko_w28 : sched koB 28 = koW.take 28 := sched_nx koB 27 _ _ _ (by decide) ko_w27 ko_n27 rfl
theorem ko_w29 : sched koB 29 = koW.take 29 := sched_nx koB 28 _ _ _ (by decide) ko_w28 ko_n28 rfl
theorem ko_w30 : sched koB 30 = koW.take 30 := sched_nx koB 29 _ _ _ (by decide) ko_w29 ko_n29 rfl
theorem ko_w31 : sched koB 31 = koW.take 31 := sched_nx koB 30 _ _ _ (by decide) ko_w30 ko_n30 rfl
theorem ko_w32 : sched koB 32 = koW.take 32 := sched_nx koB 31 _ _ _ (by decide) ko_w31 ko_n31 rfl
theorem ko_w33 : sched koB 33 = koW.take 33 := sched_nx koB 32 _ _ _ (by decide) ko_w32 ko_n32 rfl
theorem ko_w34 : sched koB 34 = koW.take 34 := sched_nx koB 33 _ _ _ (by decide) ko_w33 ko_n33 rfl
theorem ko_w35 : sched koB 35 = koW.take 35 := sched_nx koB 34 _ _ _ (by decide) ko_w34 ko_n34 rfl
theorem ko_w36 : sched koB 36 = koW.take 36 := sched_nx koB 35 _ _ _ (by decide) ko_w35 ko_n35 rfl
theorem ko_w37 : sched koB 37 = koW.take 37 := sched_nx koB 36 _ _ _ (by decide) ko_w36 ko_n36 rfl
theorem ko_w38 : sched koB 38 = koW.take 38 := sched_nx koB 37 _ _ _ (by decide) ko_w37 ko_n37 rfl
theorem ko_w39 : sched koB 39 = koW.take 39 := sched_nx koB 38 _ _ _ (by decide) ko_w38 ko_n38 rfl
theorem ko_w40 : sched koB 40 = koW.take 40 := sched_nx koB 39 _ _ _ (by decide) ko_w39 ko_n39 rfl
theorem ko_w41 : sched koB 41 = koW.take 41 := sched_nx koB 40 _ _ _ (by decide) ko_w40 ko_n40 rfl
theorem ko_w42 : sched koB 42 = koW.take 42 := sched_nx koB 41 _ _ _ (by decide) ko_w41 ko_n41 rfl
theorem ko_w43 : sched koB 43 = koW.take 43 := sched_nx koB 42 _ _ _ (by decide) ko_w42 ko_n42 rfl
theorem ko_w44 : sched koB 44 = koW.take 44 := sched_nx koB 43 _ _ _ (by decide) ko_w43 ko_n43 rfl
theorem ko_w45 : sched koB 45 = koW.take 45 := sched_nx koB 44 _ _ _ (by decide) ko_w44 ko_n44 rfl
theorem ko_w46 : sched koB 46 = koW.take 46 := sched_nx koB 45 _ _ _ (by decide) ko_w45 ko_n45 rfl
theorem ko_w47 : sched koB 47 = koW.take 47 := sched_nx koB 46 _ _ _ (by decide) ko_w46 ko_n46 rfl
theorem ko_w48 : sched koB 48 = koW.take 48 := sched_nx koB 47 _ _ _ (by decide) ko_w47 ko_n47 rfl
theorem ko_w49 : sched koB 49 = koW.take 49 := sched_nx koB 48 _ _ _ (by decide) ko_w48 ko_n48 rfl
theorem ko_w50 : sched koB 50 = koW.take 50 := sched_nx koB 49 _ _ _ (by decide) ko_w49 ko_n49 rfl
theorem ko_w51 : sched koB 51 = koW.take 51 := sched_nx koB 50 _ _ _ (by decide) ko_w50 ko_n50 rfl
theorem ko_w52 : sched koB 52 = koW.take 52 := sched_nx koB 51 _ _ _ (by decide) ko_w51 ko_n51 rfl
theorem ko_w53 : sched koB 53 = koW.take 53 := sched_nx koB 52 _ _ _ (by decide) ko_w52 ko_n52 rfl
theorem ko_w54 : sched koB 54 = koW.take 54 := sched_nx koB 53 _ _ _ (by decide) ko_w53 ko_n53 rfl
theorem ko_w55 : sched koB 55 = koW.take 55 := sched_nx koB 54 _ _ _ (by decide) ko_w54 ko_n54 rfl
theorem ko_w56 : sched koB 56 = koW.take 56 := sched_nx koB 55 _ _ _ (by decide) ko_w55 ko_n55 rfl
theorem ko_w57 : sched koB 57 = koW.take 57 := sched_nx koB 56 _ _ _ (by decide) ko_w56 ko_n56 rfl
theorem ko_w58 : sched koB 58 = koW.take 58 := sched_nx koB 57 _ _ _ (by decide) ko_w57 ko_n57 rfl
theorem ko_w59 : sched koB 59 = koW.take 59 := sched_nx koB 58 _ _ _ (by decide) ko_w58 ko_n58 rfl
theorem ko_w60 : sched koB 60 = koW.take 60 := sched_nx koB 59 _ _ _ (by decide) ko_w59 ko_n59 rfl
theorem ko_w61 : sched koB 61 = koW.take 61 := sched_nx koB 60 _ _ _ (by decide) ko_w60 ko_n60 rfl
theorem ko_w62 : sched koB 62 = koW.take 62 := sched_nx koB 61 _ _ _ (by decide) ko_w61 ko_n61 rfl
theorem ko_w63 : sched koB 63 = koW.take 63 := sched_nx koB 62 _ _ _ (by decide) ko_w62 ko_n62 rfl
theorem ko_w64 : sched koB 64 = koW.take 64 := sched_nx koB 63 _ _ _ (by decide) ko_w63 ko_n63 rfl
def ko_t0 : St := ⟨1779033703, 3144134277, 1013904242, 2773480762, 1359893119, 2600822924, 528734635, 1541459225⟩
def ko_t1 : St := ⟨1483007145, 1779033703, 3144134277, 1013904242, 4112793342, 1359893119, 2600822924, 528734635⟩
def ko_t2 : St := ⟨1499029037, 1483007145, 1779033703, 3144134277, 983632782, 4112793342, 1359893119, 2600822924⟩
def ko_t3 : St := ⟨1384595737, 1499029037, 1483007145, 1779033703, 4083212621, 983632782, 4112793342, 1359893119⟩
def ko_t4 : St := ⟨352082173, 1384595737, 1499029037, 1483007145, 3847346693, 4083212621, 983632782, 4112793342⟩
def ko_t5 : St := ⟨1259252912, 352082173, 1384595737, 1499029037, 3739349902, 3847346693, 4083212621, 983632782⟩
def ko_t6 : St := ⟨2970313709, 1259252912, 352082173, 1384595737, 1776502508, 3739349902, 3847346693, 4083212621⟩
def ko_t7 : St := ⟨3156717954, 2970313709, 1259252912, 352082173, 2667553594, 1776502508, 3739349902, 3847346693⟩
def ko_t8 : St := ⟨2677099878, 3156717954, 2970313709, 1259252912, 1034157334, 2667553594, 1776502508, 3739349902⟩
def ko_t9 : St := ⟨3806455460, 2677099878, 3156717954, 2970313709, 3876060097, 1034157334, 2667553594, 1776502508⟩
def ko_t10 : St := ⟨1539570233, 3806455460, 2677099878, 3156717954, 3290921811, 3876060097, 1034157334, 2667553594⟩
def ko_t11 : St := ⟨3095390619, 1539570233, 3806455460, 2677099878, 269674235, 3290921811, 3876060097, 1034157334⟩
def ko_t12 : St := ⟨1756219656, 3095390619, 1539570233, 3806455460, 2952188989, 269674235, 3290921811, 3876060097⟩
def ko_t13 : St := ⟨3738361872, 1756219656, 3095390619, 1539570233, 1668859661, 2952188989, 269674235, 3290921811⟩
def ko_t14 : St := ⟨2999545953, 3738361872, 1756219656, 3095390619, 2564518810, 1668859661, 2952188989, 269674235⟩
def ko_t15 : St := ⟨1771698607, 2999545953, 3738361872, 1756219656, 1557247666, 2564518810, 1668859661, 2952188989⟩
def ko_t16 : St := ⟨3986791057, 1771698607, 2999545953, 3738361872, 3933856886, 1557247666, 2564518810, 1668859661⟩
def ko_t17 : St := ⟨538267821, 3986791057, 1771698607, 2999545953, 3956337662, 3933856886, 1557247666, 2564518810⟩
def ko_t18 : St := ⟨4148412057, 538267821, 3986791057, 1771698607, 2823583308, 3956337662, 3933856886, 1557247666⟩
def ko_t19 : St := ⟨873357769, 4148412057, 538267821, 3986791057, 817991289, 2823583308, 3956337662, 3933856886⟩
def ko_t20 : St := ⟨2262883787, 873357769, 4148412057, 538267821, 3316509442, 817991289, 2823583308, 3956337662⟩
def ko_t21 : St := ⟨2552267364, 2262883787, 873357769, 4148412057, 1969202905, 3316509442, 817991289, 2823583308⟩
def ko_t22 : St := ⟨3922768049, 2552267364, 2262883787, 873357769, 2513320324, 1969202905, 3316509442, 817991289⟩
def ko_t23 : St := ⟨961009145, 3922768049, 2552267364, 2262883787, 658244051, 2513320324, 1969202905, 3316509442⟩
def ko_t24 : St := ⟨598080264, 961009145, 3922768049, 2552267364, 4067847229, 658244051, 2513320324, 1969202905⟩
def ko_t25 : St := ⟨1569032529, 598080264, 961009145, 3922768049, 2224805529, 4067847229, 658244051, 2513320324⟩
def ko_t26 : St := ⟨3351669249, 1569032529, 598080264, 961009145, 1816294987, 2224805529, 4067847229, 658244051⟩
def ko_t27 : St := ⟨1598909019, 3351669249, 1569032529, 598080264, 414691751, 1816294987, 2224805529, 4067847229⟩
def ko_t28 : St := ⟨1973366641, 1598909019, 3351669249, 1569032529, 2296312488, 414691751, 1816294987, 2224805529⟩
def ko_t29 : St := ⟨1511644323, 1973366641, 1598909019, 3351669249, 92166320, 2296312488, 414691751, 1816294987⟩
def ko_t30 : St := ⟨3604521225, 1511644323, 1973366641, 1598909019, 3935531529, 92166320, 2296312488, 414691751⟩
def ko_t31 : St := ⟨2549949792, 3604521225, 1511644323, 1973366641, 2167679166, 3935531529, 92166320, 2296312488⟩
def ko_t32 : St := ⟨1918890343, 2549949792, 3604521225, 1511644323, 381093577, 2167679166, 3935531529, 92166320⟩
def ko_t33 : St := ⟨2408409890, 1918890343, 2549949792, 3604521225, 3932140277, 381093577, 2167679166, 3935531529⟩
def ko_t34 : St := ⟨471211651, 2408409890, 1918890343, 2549949792, 2343940493, 3932140277, 381093577, 2167679166⟩
def ko_t35 : St := ⟨1907500343, 471211651, 2408409890, 1918890343, 2150130708, 2343940493, 3932140277, 381093577⟩
def ko_t36 : St := ⟨2160918559, 1907500343, 471211651, 2408409890, 2555570505, 2150130708, 2343940493, 3932140277⟩
def ko_t37 : St := ⟨330886078, 2160918559, 1907500343, 471211651, 3185646173, 2555570505, 2150130708, 2343940493⟩
def ko_t38 : St := ⟨3617223921, 330886078, 2160918559, 1907500343, 2806518479, 3185646173, 2555570505, 2150130708⟩
def ko_t39 : St := ⟨454850043, 3617223921, 330886078, 2160918559, 1031427010, 2806518479, 3185646173, 2555570505⟩
def ko_t40 : St := ⟨1927374919, 454850043, 3617223921, 330886078, 3343763578, 1031427010, 2806518479, 3185646173⟩
def ko_t41 : St := ⟨3592780668, 1927374919, 454850043, 3617223921, 2065899894, 3343763578, 1031427010, 2806518479⟩
def ko_t42 : St := ⟨2375868489, 3592780668, 1927374919, 454850043, 2542780175, 2065899894, 3343763578, 1031427010⟩
def ko_t43 : St := ⟨2198301254, 2375868489, 3592780668, 1927374919, 3033793841, 2542780175, 2065899894, 3343763578⟩
def ko_t44 : St := ⟨3018776017, 2198301254, 2375868489, 3592780668, 2959999782, 3033793841, 2542780175, 2065899894⟩
def ko_t45 : St := ⟨2860326130, 3018776017, 2198301254, 2375868489, 3289530720, 2959999782, 3033793841, 2542780175⟩
def ko_t46 : St := ⟨1410830448, 2860326130, 3018776017, 2198301254, 2227909994, 3289530720, 2959999782, 3033793841⟩
def ko_t47 : St := ⟨2318733067, 1410830448, 2860326130, 3018776017, 2448840305, 2227909994, 3289530720, 2959999782⟩
def ko_t48 : St := ⟨3556544693, 2318733067, 1410830448, 2860326130, 2932413906, 2448840305, 2227909994, 3289530720⟩
def ko_t49 : St := ⟨3099729863, 3556544693, 2318733067, 1410830448, 2381725698, 2932413906, 2448840305, 2227909994⟩
def ko_t50 : St := ⟨1362391108, 3099729863, 3556544693, 2318733067, 4058350123, 2381725698, 2932413906, 2448840305⟩
def ko_t51 : St := ⟨1615310165, 1362391108, 3099729863, 3556544693, 3503957669, 4058350123, 2381725698, 2932413906⟩
def ko_t52 : St := ⟨3955205887, 1615310165, 1362391108, 3099729863, 593902982, 3503957669, 4058350123, 2381725698⟩
def ko_t53 : St := ⟨2872955769, 3955205887, 1615310165, 1362391108, 3476882175, 593902982, 3503957669, 4058350123⟩
def ko_t54 : St := ⟨614713560, 2872955769, 3955205887, 1615310165, 2219361795, 3476882175, 593902982, 3503957669⟩
def ko_t55 : St := ⟨4010807945, 614713560, 2872955769, 3955205887, 3805103403, 2219361795, 3476882175, 593902982⟩
def ko_t56 : St := ⟨2558294236, 4010807945, 614713560, 2872955769, 625537380, 3805103403, 2219361795, 3476882175⟩
def ko_t57 : St := ⟨751977715, 2558294236, 4010807945, 614713560, 449253343, 625537380, 3805103403, 2219361795⟩
def ko_t58 : St := ⟨4187300700, 751977715, 2558294236, 4010807945, 3425329214, 449253343, 625537380, 3805103403⟩
def ko_t59 : St := ⟨1875485897, 4187300700, 751977715, 2558294236, 905273054, 3425329214, 449253343, 625537380⟩
def ko_t60 : St := ⟨3714849101, 1875485897, 4187300700, 751977715, 2901228176, 905273054, 3425329214, 449253343⟩
def ko_t61 : St := ⟨3095932717, 3714849101, 1875485897, 4187300700, 3661396109, 2901228176, 905273054, 3425329214⟩
def ko_t62 : St := ⟨4217033158, 3095932717, 3714849101, 1875485897, 3207876205, 3661396109, 2901228176, 905273054⟩
def ko_t63 : St := ⟨3209934322, 4217033158, 3095932717, 3714849101, 3660500004, 3207876205, 3661396109, 2901228176⟩
def ko_t64 : St := ⟨1769693608, 3209934322, 4217033158, 3095932717, 1022748659, 3660500004, 3207876205, 3661396109⟩
theorem ko_s0 : rnd ko_t0 1116352408 1549556828 = ko_t1 := by kernel_rfl
theorem ko_s1 : rnd ko_t1 1899447441 1549556828 = ko_t2 := by kernel_rfl
theorem ko_s2 : rnd ko_t2 3049323471 1549556828 = ko_t3 := by kernel_rfl
theorem ko_s3 : rnd ko_t3 3921009573 1549556828 = ko_t4 := by kernel_rfl
theorem ko_s4 : rnd ko_t4 961987163 1549556828 = ko_t5 := by kernel_rfl
theorem ko_s5 : rnd ko_t5 1508970993 1549556828 = ko_t6 := by kernel_rfl
theorem ko_s6 : rnd ko_t6 2453635748 1549556828 = ko_t7 := by kernel_rfl
theorem ko_s7 : rnd ko_t7 2870763221 1549556828 = ko_t8 := by kernel_rfl
theorem ko_s8 : rnd ko_t8 3624381080 1549556828 = ko_t9 := by kernel_rfl
theorem ko_s9 : rnd ko_t9 310598401 1549556828 = ko_t10 := by kernel_rfl
theorem ko_s10 : rnd ko_t10 607225278 1549556828 = ko_t11 := by kernel_rfl
theorem ko_s11 : rnd ko_t11 1426881987 1549556828 = ko_t12 := by kernel_rfl
theorem ko_s12 : rnd ko_t12 1925078388 1549556828 = ko_t13 := by kernel_rfl
theorem ko_s13 : rnd ko_t13 2162078206 1549556828 = ko_t14 := by kernel_rfl
theorem ko_s14 : rnd ko_t14 2614888103 1549556828 = ko_t15 := by kernel_rfl
theorem ko_s15 : rnd ko_t15 3248222580 1549556828 = ko_t16 := by kernel_rfl
theorem ko_s16 : rnd ko_t16 3835390401 42962830 = ko_t17 := by kernel_rfl
theorem ko_s17 : rnd ko_t17 4022224774 42962830 = ko_t18 := by kernel_rfl
theorem ko_s18 : rnd ko_t18 264347078 2467512273 = ko_t19 := by kernel_rfl
theorem ko_s19 : rnd ko_t19 604807628 2467512273 = ko_t20 := by kernel_rfl
theorem ko_s20 : rnd ko_t20 770255983 1427315712 = ko_t21 := by kernel_rfl
theorem ko_s21 : rnd ko_t21 1249150122 1427315712 = ko_t22 := by kernel_rfl
theorem ko_s22 : rnd ko_t22 1555081692 1249001928 = ko_t23 := by kernel_rfl
theorem ko_s23 : rnd ko_t23 1996064986 4037375226 = ko_t24 := by kernel_rfl
theorem ko_s24 : rnd ko_t24 2554220882 1809826037 = ko_t25 := by kernel_rfl
theorem ko_s25 : rnd ko_t25 2821834349 2826030956 = ko_t26 := by kernel_rfl
theorem ko_s26 : rnd ko_t26 2952996808 2886905781 = ko_t27 := by kernel_rfl
theorem ko_s27 : rnd ko_t27 3210313671 872774085 = ko_t28 := by kernel_rfl
theorem ko_s28 : rnd ko_t28 3336571891 1469776800 = ko_t29 := by kernel_rfl
theorem ko_s29 : rnd ko_t29 3584528711 1590296612 = ko_t30 := by kernel_rfl
theorem ko_s30 : rnd ko_t30 113926993 3537354104 = ko_t31 := by kernel_rfl
theorem ko_s31 : rnd ko_t31 338241895 133472730 = ko_t32 := by kernel_rfl
theorem ko_s32 : rnd ko_t32 666307205 3554710565 = ko_t33 := by kernel_rfl
theorem ko_s33 : rnd ko_t33 773529912 4062847664 = ko_t34 := by kernel_rfl
theorem ko_s34 : rnd ko_t34 1294757372 2657847936 = ko_t35 := by kernel_rfl
theorem ko_s35 : rnd ko_t35 1396182291 216629829 = ko_t36 := by kernel_rfl
theorem ko_s36 : rnd ko_t36 1695183700 891106106 = ko_t37 := by kernel_rfl
theorem ko_s37 : rnd ko_t37 1986661051 586986791 = ko_t38 := by kernel_rfl
theorem ko_s38 : rnd ko_t38 2177026350 1227446114 = ko_t39 := by kernel_rfl
theorem ko_s39 : rnd ko_t39 2456956037 2824269971 = ko_t40 := by kernel_rfl
theorem ko_s40 : rnd ko_t40 2730485921 2665413624 = ko_t41 := by kernel_rfl
theorem ko_s41 : rnd ko_t41 2820302411 3263572534 = ko_t42 := by kernel_rfl
theorem ko_s42 : rnd ko_t42 3259730800 775620046 = ko_t43 := by kernel_rfl
theorem ko_s43 : rnd ko_t43 3345764771 3292793133 = ko_t44 := by kernel_rfl
theorem ko_s44 : rnd ko_t44 3516065817 542824600 = ko_t45 := by kernel_rfl
theorem ko_s45 : rnd ko_t45 3600352804 840372110 = ko_t46 := by kernel_rfl
theorem ko_s46 : rnd ko_t46 4094571909 1326296352 = ko_t47 := by kernel_rfl
theorem ko_s47 : rnd ko_t47 275423344 2178981808 = ko_t48 := by kernel_rfl
theorem ko_s48 : rnd ko_t48 430227734 4036745216 = ko_t49 := by kernel_rfl
theorem ko_s49 : rnd ko_t49 506948616 1824838472 = ko_t50 := by kernel_rfl
theorem ko_s50 : rnd ko_t50 659060556 3842077899 = ko_t51 := by kernel_rfl
theorem ko_s51 : rnd ko_t51 883997877 1596028657 = ko_t52 := by kernel_rfl
theorem ko_s52 : rnd ko_t52 958139571 1666037942 = ko_t53 := by kernel_rfl
theorem ko_s53 : rnd ko_t53 1322822218 2687211640 = ko_t54 := by kernel_rfl
theorem ko_s54 : rnd ko_t54 1537002063 3302866841 = ko_t55 := by kernel_rfl
theorem ko_s55 : rnd ko_t55 1747873779 3022413000 = ko_t56 := by kernel_rfl
theorem ko_s56 : rnd ko_t56 1955562222 1930114701 = ko_t57 := by kernel_rfl
theorem ko_s57 : rnd ko_t57 2024104815 3862987069 = ko_t58 := by kernel_rfl
theorem ko_s58 : rnd ko_t58 2227730452 3425946126 = ko_t59 := by kernel_rfl
theorem ko_s59 : rnd ko_t59 2361852424 4202727519 = ko_t60 := by kernel_rfl
theorem ko_s60 : rnd ko_t60 2428436474 918644712 = ko_t61 := by kernel_rfl
theorem ko_s61 : rnd ko_t61 2756734187 1850158742 = ko_t62 := by kernel_rfl
theorem ko_s62 : rnd ko_t62 3204031479 4178356858 = ko_t63 := by kernel_rfl
theorem ko_s63 : rnd ko_t63 3329325298 1365291507 = ko_t64 := by kernel_rfl
theorem ko_r0 : rounds ko_t0 koW 0 = ko_t0 := rfl
theorem ko_r1 : rounds ko_t0 koW 1 = ko_t1 := rounds_nx _ _ 0 _ _ _ _ ko_r0 rfl rfl ko_s0
theorem ko_r2 : rounds ko_t0 koW 2 = ko_t2 := rounds_nx _ _ 1 _ _ _ _ ko_r1 rfl rfl ko_s1
theorem ko_r3 : rounds ko_t0 koW 3 = ko_t3 := rounds_nx _ _ 2 _ _ _ _ ko_r2 rfl rfl ko_s2
theorem ko_r4 : rounds ko_t0 koW 4 = ko_t4 := rounds_nx _ _ 3 _ _ _ _ ko_r3 rfl rfl ko_s3
theorem ko_r5 : rounds ko_t0 koW 5 = ko_t5 := rounds_nx _ _ 4 _ _ _ _ ko_r4 rfl rfl ko_s4
theorem ko_r6 : rounds ko_t0 koW 6 = ko_t6 := rounds_nx _ _ 5 _ _ _ _ ko_r5 rfl rfl ko_s5
theorem ko_r7 : rounds ko_t0 koW 7 = ko_t7 := rounds_nx _ _ 6 _ _ _ _ ko_r6 rfl rfl ko_s6
theorem ko_r8 : rounds ko_t0 koW 8 = ko_t8 := rounds_nx _ _ 7 _ _ _ _ ko_r7 rfl rfl ko_s7
theorem ko_r9 : rounds ko_t0 koW 9 = ko_t9 := rounds_nx _ _ 8 _ _ _ _ ko_r8 rfl rfl ko_s8
theorem ko_r10 : rounds ko_t0 koW 10 = ko_t10 := rounds_nx _ _ 9 _ _ _ _ ko_r9 rfl rfl ko_s9
theorem ko_r11 : rounds ko_t0 koW 11 = ko_t11 := rounds_nx _ _ 10 _ _ _ _ ko_r10 rfl rfl ko_s10
theorem ko_r12 : rounds ko_t0 koW 12 = ko_t12 := rounds_nx _ _ 11 _ _ _ _ ko_r11 rfl rfl ko_s11
theorem ko_r13 : rounds ko_t0 koW 13 = ko_t13 := rounds_nx _ _ 12 _ _ _ _ ko_r12 rfl rfl ko_s12
theorem ko_r14 : rounds ko_t0 koW 14 = ko_t14 := rounds_nx _ _ 13 _ _ _ _ ko_r13 rfl rfl ko_s13
theorem ko_r15 : rounds ko_t0 koW 15 = ko_t15 := rounds_nx _ _ 14 _ _ _ _ ko_r14 rfl rfl ko_s14
theorem ko_r16 : rounds ko_t0 koW 16 = ko_t16 := rounds_nx _ _ 15 _ _ _ _ ko_r15 rfl rfl ko_s15
theorem ko_r17 : rounds ko_t0 koW 17 = ko_t17 := rounds_nx _ _ 16 _ _ _ _ ko_r16 rfl rfl ko_s16
theorem ko_r18 : rounds ko_t0 koW 18 = ko_t18 := rounds_nx _ _ 17 _ _ _ _ ko_r17 rfl rfl ko_s17
theorem ko_r19 : rounds ko_t0 koW 19 = ko_t19 := rounds_nx _ _ 18 _ _ _ _ ko_r18 rfl rfl ko_s18
theorem ko_r20 : rounds ko_t0 koW 20 = ko_t20 := rounds_nx _ _ 19 _ _ _ _ ko_r19 rfl rfl ko_s19
theorem ko_r21 : rounds ko_t0 koW 21 = ko_t21 := rounds_nx _ _ 20 _ _ _ _ ko_r20 rfl rfl ko_s20
theorem ko_r22 : rounds ko_t0 koW 22 = ko_t22 := rounds_nx _ _ 21 _ _ _ _ ko_r21 rfl rfl ko_s21
theorem ko_r23 : rounds ko_t0 koW 23 = ko_t23 := rounds_nx _ _ 22 _ _ _ _ ko_r22 rfl rfl ko_s22
theorem ko_r24 : rounds ko_t0 koW 24 = ko_t24 := rounds_nx _ _ 23 _ _ _ _ ko_r23 rfl rfl ko_s23
theorem ko_r25 : rounds ko_t0 koW 25 = ko_t25 := rounds_nx _ _ 24 _ _ _ _ ko_r24 rfl rfl ko_s24
theorem ko_r26 : rounds ko_t0 koW 26 = ko_t26 := rounds_nx _ _ 25 _ _ _ _ ko_r25 rfl rfl ko_s25
theorem ko_r27 : rounds ko_t0 koW 27 = ko_t27 := rounds_nx _ _ 26 _ _ _ _ ko_r26 rfl rfl ko_s26
theorem ko_r28 : rounds ko_t0 koW 28 = ko_t28 := rounds_nx _ _ 27 _ _ _ _ ko_r27 rfl rfl ko_s27
theorem ko_r29 : rounds ko_t0 koW 29 = ko_t29 := rounds_nx _ _ 28 _ _ _ _ ko_r28 rfl rfl ko_s28
theorem ko_r30 : rounds ko_t0 koW 30 = ko_t30 := rounds_nx _ _ 29 _ _ _ _ ko_r29 rfl rfl ko_s29
theorem ko_r31 : rounds ko_t0 koW 31 = ko_t31 := rounds_nx _ _ 30 _ _ _ _ ko_r30 rfl rfl ko_s30
theorem ko_r32 : rounds ko_t0 koW 32 = ko_t32 := rounds_nx _ _ 31 _ _ _ _ ko_r31 rfl rfl ko_s31
theorem ko_r33 : rounds ko_t0 koW 33 = ko_t33 := rounds_nx _ _ 32 _ _ _ _ ko_r32 rfl rfl ko_s32
theorem ko_r34 : rounds ko_t0 koW 34 = ko_t34 := rounds_nx _ _ 33 _ _ _ _ ko_r33 rfl rfl ko_s33
theorem ko_r35 : rounds ko_t0 koW 35 = ko_t35 := rounds_nx _ _ 34 _ _ _ _ ko_r34 rfl rfl ko_s34
theorem ko_r36 : rounds ko_t0 koW 36 = ko_t36 := rounds_nx _ _ 35 _ _ _ _ ko_r35 rfl rfl ko_s35
theorem ko_r37 : rounds ko_t0 koW 37 = ko_t37 := rounds_nx _ _ 36 _ _ _ _ ko_r36 rfl rfl ko_s36
theorem ko_r38 : rounds ko_t0 koW 38 = ko_t38 := rounds_nx _ _ 37 _ _ _ _ ko_r37 rfl rfl ko_s37
theorem ko_r39 : rounds ko_t0 koW 39 = ko_t39 := rounds_nx _ _ 38 _ _ _ _ ko_r38 rfl rfl ko_s38
theorem ko_r40 : rounds ko_t0 koW 40 = ko_t40 := rounds_nx _ _ 39 _ _ _ _ ko_r39 rfl rfl ko_s39
theorem ko_r41 : rounds ko_t0 koW 41 = ko_t41 := rounds_nx _ _ 40 _ _ _ _ ko_r40 rfl rfl ko_s40
theorem ko_r42 : rounds ko_t0 koW 42 = ko_t42 := rounds_nx _ _ 41 _ _ _ _ ko_r41 rfl rfl ko_s41
theorem ko_r43 : rounds ko_t0 koW 43 = ko_t43 := rounds_nx _ _ 42 _ _ _ _ ko_r42 rfl rfl ko_s42
theorem ko_r44 : rounds ko_t0 koW 44 = ko_t44 := rounds_nx _ _ 43 _ _ _ _ ko_r43 rfl rfl ko_s43
theorem ko_r45 : rounds ko_t0 koW 45 = ko_t45 := rounds_nx _ _ 44 _ _ _ _ ko_r44 rfl rfl ko_s44
theorem ko_r46 : rounds ko_t0 koW 46 = ko_t46 := rounds_nx _ _ 45 _ _ _ _ ko_r45 rfl rfl ko_s45
theorem ko_r47 : rounds ko_t0 koW 47 = ko_t47 := rounds_nx _ _ 46 _ _ _ _ ko_r46 rfl rfl ko_s46
theorem ko_r48 : rounds ko_t0 koW 48 = ko_t48 := rounds_nx _ _ 47 _ _ _ _ ko_r47 rfl rfl ko_s47
theorem ko_r49 : rounds ko_t0 koW 49 = ko_t49 := rounds_nx _ _ 48 _ _ _ _ ko_r48 rfl rfl ko_s48
theorem ko_r50 : rounds ko_t0 koW 50 = ko_t50 := rounds_nx _ _ 49 _ _ _ _ ko_r49 rfl rfl ko_s49
theorem ko_r51 : rounds ko_t0 koW 51 = ko_t51 := rounds_nx _ _ 50 _ _ _ _ ko_r50 rfl rfl ko_s50
theorem ko_r52 : rounds ko_t0 koW 52 = ko_t52 := rounds_nx _ _ 51 _ _ _ _ ko_r51 rfl rfl ko_s51
theorem ko_r53 : rounds ko_t0 koW 53 = ko_t53 := rounds_nx _ _ 52 _ _ _ _ ko_r52 rfl rfl ko_s52
theorem ko_r54 : rounds ko_t0 koW 54 = ko_t54 := rounds_nx _ _ 53 _ _ _ _ ko_r53 rfl rfl ko_s53
theorem ko_r55 : rounds ko_t0 koW 55 = ko_t55 := rounds_nx _ _ 54 _ _ _ _ ko_r54 rfl rfl ko_s54
theorem ko_r56 : rounds ko_t0 koW 56 = ko_t56 := rounds_nx _ _ 55 _ _ _ _ ko_r55 rfl rfl ko_s55
theorem ko_r57 : rounds ko_t0 koW 57 = ko_t57 := rounds_nx _ _ 56 _ _ _ _ ko_r56 rfl rfl ko_s56
theorem ko_r58 : rounds ko_t0 koW 58 = ko_t58 := rounds_nx _ _ 57 _ _ _ _ ko_r57 rfl rfl ko_s57
theorem ko_r59 : rounds ko_t0 koW 59 = ko_t59 := rounds_nx _ _ 58 _ _ _ _ ko_r58 rfl rfl ko_s58
theorem ko_r60 : rounds ko_t0 koW 60 = ko_t60 := rounds_nx _ _ 59 _ _ _ _ ko_r59 rfl rfl ko_s59
theorem ko_r61 : rounds ko_t0 koW 61 = ko_t61 := rounds_nx _ _ 60 _ _ _ _ ko_r60 rfl rfl ko_s60
theorem ko_r62 : rounds ko_t0 koW 62 = ko_t62 := rounds_nx _ _ 61 _ _ _ _ ko_r61 rfl rfl ko_s61
theorem ko_r63 : rounds ko_t0 koW 63 = ko_t63 := rounds_nx _ _ 62 _ _ _ _ ko_r62 rfl rfl ko_s62
theorem ko_r64 : rounds ko_t0 koW 64 = ko_t64 := rounds_nx _ _ 63 _ _ _ _ ko_r63 rfl rfl ko_s63
def koN : List Int := [3548727311, 2059101303, 935970104, 1574446183, 2382641778, 1966355632, 3736610840, 907888038]
theorem ko_block : blockZ FZ koB = koN := by
  have h : (sched koB 64) = koW := ko_w64
  unfold blockZ
  rw [h, show St.ofL FZ = ko_t0 from rfl, ko_r64]
  show _ = _
  kernel_rfl
def niB : List Int := [128, 0, 0, 0, 0, 0, 0, 0, 0, 0, 0, 0, 0, 0, 0, 0, 0, 0, 0, 0, 0, 0, 0, 0, 0, 0, 0, 0, 0, 0, 0, 0, 0, 0, 0, 0, 0, 0, 0, 0, 0, 0, 0, 0, 0, 0, 0, 0, 0, 0, 0, 0, 0, 0, 0, 0, 0, 0, 0, 0, 0, 0, 2, 0]
def niW : List Int := [2147483648, 0, 0, 0, 0, 0, 0, 0, 0, 0, 0, 0, 0, 0, 0, 512, 2147483648, 20971520, 2117632, 20616, 570427392, 575995924, 84449090, 2684354592, 1518862336, 6067200, 1496221, 4202700544, 3543279056, 291985753, 4142317530, 3003913545, 145928272, 2642168871, 216179603, 2296832490, 2771075893, 1738633033, 3610378607, 1324035729, 1572820453, 2397971253, 3803995842, 2822718356, 1168996599, 921948365, 3650881000, 2958106055, 1773959876, 3172022107, 3820646885, 991993842, 419360279, 3797604839, 322392134, 85264541, 1326255876, 640108622, 822159570, 3328750644, 1107837388, 1657999800, 3852183409, 2242356356]
theorem ni_w16 : sched niB 16 = niW.take 16 := by kernel_rfl
theorem ni_n16 : nextW (niW.take 16) = 2147483648 := by kernel_rfl
theorem ni_n17 : nextW (niW.take 17) = 20971520 := by kernel_rfl
theorem ni_n18 : nextW (niW.take 18) = 2117632 := by kernel_rfl
theorem ni_n19 : nextW (niW.take 19) = 20616 := by kernel_rfl
theorem ni_n20 : nextW (niW.take 20) = 570427392 := by kernel_rfl
theorem ni_n21 : nextW (niW.take 21) = 575995924 := by kernel_rfl
theorem ni_n22 : nextW (niW.take 22) = 84449090 := by kernel_rfl
theorem ni_n23 : nextW (niW.take 23) = 2684354592 := by kernel_rfl
theorem ni_n24 : nextW (niW.take 24) = 1518862336 := by kernel_rfl
theorem ni_n25 : nextW (niW.take 25) = 6067200 := by kernel_rfl
theorem ni_n26 : nextW (niW.take 26) = 1496221 := by kernel_rfl
theorem ni_n27 : nextW (niW.take 27) = 4202700544 := by kernel_rfl
theorem ni_n28 : nextW (niW.take 28) = 3543279056 := by kernel_rfl
theorem ni_n29 : nextW (niW.take 29) = 291985753 := by kernel_rfl
theorem ni_n30 : nextW (niW.take 30) = 4142317530 := by kernel_rfl
theorem ni_n31 : nextW (niW.take 31) = 3003913545 := by kernel_rfl
theorem ni_n32 : nextW (niW.take 32) = 145928272 := by kernel_rfl
theorem ni_n33 : nextW (niW.take 33) = 2642168871 := by kernel_rfl
theorem ni_n34 : nextW (niW.take 34) = 216179603 := by kernel_rfl
theorem ni_n35 : nextW (niW.take 35) = 2296832490 := by kernel_rfl
theorem ni_n36 : nextW (niW.take 36) = 2771075893 := by kernel_rfl
theorem ni_n37 : nextW (niW.take 37) = 1738633033 := by kernel_rfl
theorem ni_n38 : nextW (niW.take 38) = 3610378607 := by kernel_rfl
theorem ni_n39 : nextW (niW.take 39) = 1324035729 := by kernel_rfl
theorem ni_n40 : nextW (niW.take 40) = 1572820453 := by kernel_rfl
theorem ni_n41 : nextW (niW.take 41) = 2397971253 := by kernel_rfl
theorem ni_n42 : nextW (niW.take 42) = 3803995842 := by kernel_rfl
theorem ni_n43 : nextW (niW.take 43) = 2822718356 := by kernel_rfl
theorem ni_n44 : nextW (niW.take 44) = 1168996599 := by kernel_rfl
theorem ni_n45 : nextW (niW.take 45) = 921948365 := by kernel_rfl
theorem ni_n46 : nextW (niW.take 46) = 3650881000 := by kernel_rfl
theorem ni_n47 : nextW (niW.take 47) = 2958106055 := by kernel_rfl
theorem ni_n48 : nextW (niW.take 48) = 1773959876 := by kernel_rfl
theorem ni_n49 : nextW (niW.take 49) = 3172022107 := by kernel_rfl
theorem ni_n50 : nextW (niW.take 50) = 3820646885 := by kernel_rfl
theorem ni_n51 : nextW (niW.take 51) = 991993842 := by kernel_rfl
theorem ni_n52 : nextW (niW.take 52) = 419360279 := by kernel_rfl
theorem ni_n53 : nextW (niW.take 53) = 3797604839 := by kernel_rfl
theorem ni_n54 : nextW (niW.take 54) = 322392134 := by kernel_rfl
theorem ni_n55 : nextW (niW.take 55) = 85264541 := by kernel_rfl
theorem ni_n56 : nextW (niW.take 56) = 1326255876 := by kernel_rfl
theorem ni_n57 : nextW (niW.take 57) = 640108622 := by kernel_rfl
theorem ni_n58 : nextW (niW.take 58) = 822159570 := by kernel_rfl
theorem ni_n59 : nextW (niW.take 59) = 3328750644 := by kernel_rfl
theorem ni_n60 : nextW (niW.take 60) = 1107837388 := by kernel_rfl
theorem ni_n61 : nextW (niW.take 61) = 1657999800 := by kernel_rfl
theorem ni_n62 : nextW (niW.take 62) = 3852183409 := by kernel_rfl
theorem ni_n63 : nextW (niW.take 63) = 2242356356 := by kernel_rfl
theorem ni_w17 : sched niB 17 = niW.take 17 := sched_nx niB 16 _ _ _ (by decide) ni_w16 ni_n16 rfl
theorem ni_w18 : sched niB 18 = niW.take 18 := sched_nx niB 17 _ _ _ (by decide) ni_w17 ni_n17 rfl
theorem ni_w19 : sched niB 19 = niW.take 19 := sched_nx niB 18 _ _ _ (by decide) ni_w18 ni_n18 rfl
theorem ni_w20 : sched niB 20 = niW.take 20 := sched_nx niB 19 _ _ _ (by decide) ni_w19 ni_n19 rfl
theorem ni_w21 : sched niB 21 = niW.take 21 := sched_nx niB 20 _ _ _ (by decide) ni_w20 ni_n20 rfl
theorem ni_w22 : sched niB 22 = niW.take 22 := sched_nx niB 21 _ _ _ (by decide) ni_w21 ni_n21 rfl
theorem ni_w23 : sched niB 23 = niW.take 23 := sched_nx niB 22 _ _ _ (by decide) ni_w22 ni_n22 rfl
theorem ni_w24 : sched niB 24 = niW.take 24 := sched_nx niB 23 _ _ _ (by decide) ni_w23 ni_n23 rfl
theorem ni_w25 : sched niB 25 = niW.take 25 := sched_nx niB 24 _ _ _ (by decide) ni_w24 ni_n24 rfl
theorem ni_w26 : sched niB 26 = niW.take 26 := sched_nx niB 25 _ _ _ (by decide) ni_w25 ni_n25 rfl
theorem ni_w27 : sched niB 27 = niW.take 27 := sched_nx niB 26 _ _ _ (by decide) ni_w26 ni_n26 rfl
theorem ni_w28 : sched niB 28 = niW.take 28 := sched_nx niB 27 _ _ _ (by decide) ni_w27 ni_n27 rfl
theorem ni_w29 : sched niB 29 = niW.take 29 := sched_nx niB 28 _ _ _ (by decide) ni_w28 ni_n28 rfl
theorem ni_w30 : sched niB 30 = niW.take 30 := sched_nx niB 29 _ _ _ (by decide) ni_w29 ni_n29 rfl
theorem ni_w31 : sched niB 31 = niW.take 31 := sched_nx niB 30 _ _ _ (by decide) ni_w30 ni_n30 rfl
theorem ni_w32 : sched niB 32 = niW.take 32 := sched_nx niB 31 _ _ _ (by decide) ni_w31 ni_n31 rfl
theorem ni_w33 : sched niB 33 = niW.take 33 := sched_nx niB 32 _ _ _ (by decide) ni_w32 ni_n32 rfl
theorem ni_w34 : sched niB 34 = niW.take 34 := sched_nx niB 33 _ _ _ (by decide) ni_w33 ni_n33 rfl
theorem ni_w35 : sched niB 35 = niW.take 35 := sched_nx niB 34 _ _ _ (by decide) ni_w34 ni_n34 rfl
theorem ni_w36 : sched niB 36 = niW.take 36 := sched_nx niB 35 _ _ _ (by decide) ni_w35 ni_n35 rfl
theorem ni_w37 : sched niB 37 = niW.take 37 := sched_nx niB 36 _ _ _ (by decide) ni_w36 ni_n36 rfl
theorem ni_w38 : sched niB 38 = niW.take 38 := sched_nx niB 37 _ _ _ (by decide) ni_w37 ni_n37 rfl
theorem ni_w39 : sched niB 39 = niW.take 39 := sched_nx niB 38 _ _ _ (by decide) ni_w38 ni_n38 rfl
theorem ni_w40 : sched niB 40 = niW.take 40 := sched_nx niB 39 _ _ _ (by decide) ni_w39 ni_n39 rfl
theorem ni_w41 : sched niB 41 = niW.take 41 := sched_nx niB 40 _ _ _ (by decide) ni_w40 ni_n40 rfl
theorem ni_w42 : sched niB 42 = niW.take 42 := sched_nx niB 41 _ _ _ (by decide) ni_w41 ni_n41 rfl
theorem ni_w43 : sched niB 43 = niW.take 43 := sched_nx niB 42 _ _ _ (by decide) ni_w42 ni_n42 rfl
theorem ni_w44 : sched niB 44 = niW.take 44 := sched_nx niB 43 _ _ _ (by decide) ni_w43 ni_n43 rfl
theorem ni_w45 : sched niB 45 = niW.take 45 := sched_nx niB 44 _ _ _ (by decide) ni_w44 ni_n44 rfl
theorem ni_w46 : sched niB 46 = niW.take 46 := sched_nx niB 45 _ _ _ (by decide) ni_w45 ni_n45 rfl
theorem ni_w47 : sched niB 47 = niW.take 47 := sched_nx niB 46 _ _ _ (by decide) ni_w46 ni_n46 rfl
theorem ni_w48 : sched niB 48 = niW.take 48 := sched_nx niB 47 _ _ _ (by decide) ni_w47 ni_n47 rfl
theorem ni_w49 : sched niB 49 = niW.take 49 := sched_nx niB 48 _ _ _ (by decide) ni_w48 ni_n48 rfl
theorem ni_w50 : sched niB 50 = niW.take 50 := sched_nx niB 49 _ _ _ (by decide) ni_w49 ni_n49 rfl
theorem ni_w51 : sched niB 51 = niW.take 51 := sched_nx niB 50 _ _ _ (by decide) ni_w50 ni_n50 rfl
theorem ni_w52 : sched niB 52 = niW.take 52 := sched_nx niB 51 _ _ _ (by decide) ni_w51 ni_n51 rfl
theorem ni_w53 : sched niB 53 = niW.take 53 := sched_nx niB 52 _ _ _ (by decide) ni_w52 ni_n52 rfl
theorem ni_w54 : sched niB 54 = niW.take 54 := sched_nx niB 53 _ _ _ (by decide) ni_w53 ni_n53 rfl
theorem ni_w55 : sched niB 55 = niW.take 55 := sched_nx niB 54 _ _ _ (by decide) ni_w54 ni_n54 rfl
theorem ni_w56 : sched niB 56 = niW.take 56 := sched_nx niB 55 _ _ _ (by decide) ni_w55 ni_n55 rfl
theorem ni_w57 : sched niB 57 = niW.take 57 := sched_nx niB 56 _ _ _ (by decide) ni_w56 ni_n56 rfl
theorem ni_w58 : sched niB 58 = niW.take 58 := sched_nx niB 57 _ _ _ (by decide) ni_w57 ni_n57 rfl
theorem ni_w59 : sched niB 59 = niW.take 59 := sched_nx niB 58 _ _ _ (by decide) ni_w58 ni_n58 rfl
theorem ni_w60 : sched niB 60 = niW.take 60 := sched_nx niB 59 _ _ _ (by decide) ni_w59 ni_n59 rfl
theorem ni_w61 : sched niB 61 = niW.take 61 := sched_nx niB 60 _ _ _ (by decide) ni_w60 ni_n60 rfl
theorem ni_w62 : sched niB 62 = niW.take 62 := sched_nx niB 61 _ _ _ (by decide) ni_w61 ni_n61 rfl
theorem ni_w63 : sched niB 63 = niW.take 63 := sched_nx niB 62 _ _ _ (by decide) ni_w62 ni_n62 rfl
theorem ni_w64 : sched niB 64 = niW.take 64 := sched_nx niB 63 _ _ _ (by decide) ni_w63 ni_n63 rfl
def ni_t0 : St := ⟨4099202733, 2535792975, 2430268064, 3742509290, 1692759311, 2744271233, 2185925419, 4175449650⟩
def ni_t1 : St := ⟨3155158332, 4099202733, 2535792975, 2430268064, 734853277, 1692759311, 2744271233, 2185925419⟩
def ni_t2 : St := ⟨54992542, 3155158332, 4099202733, 2535792975, 2796109905, 734853277, 1692759311, 2744271233⟩
def ni_t3 : St := ⟨4040265655, 54992542, 3155158332, 4099202733, 1800613048, 2796109905, 734853277, 1692759311⟩
def ni_t4 : St := ⟨3361498635, 4040265655, 54992542, 3155158332, 1152678488, 1800613048, 2796109905, 734853277⟩
def ni_t5 : St := ⟨730517812, 3361498635, 4040265655, 54992542, 1936995217, 1152678488, 1800613048, 2796109905⟩
def ni_t6 : St := ⟨1739327319, 730517812, 3361498635, 4040265655, 3658688009, 1936995217, 1152678488, 1800613048⟩
def ni_t7 : St := ⟨48290816, 1739327319, 730517812, 3361498635, 886621045, 3658688009, 1936995217, 1152678488⟩
def ni_t8 : St := ⟨2693415774, 48290816, 1739327319, 730517812, 3782587464, 886621045, 3658688009, 1936995217⟩
def ni_t9 : St := ⟨1419080158, 2693415774, 48290816, 1739327319, 3248295349, 3782587464, 886621045, 3658688009⟩
def ni_t10 : St := ⟨3753228205, 1419080158, 2693415774, 48290816, 4174441496, 3248295349, 3782587464, 886621045⟩
def ni_t11 : St := ⟨2486982250, 3753228205, 1419080158, 2693415774, 2787809108, 4174441496, 3248295349, 3782587464⟩
def ni_t12 : St := ⟨2165774894, 2486982250, 3753228205, 1419080158, 1709819766, 2787809108, 4174441496, 3248295349⟩
def ni_t13 : St := ⟨1994081793, 2165774894, 2486982250, 3753228205, 149040506, 1709819766, 2787809108, 4174441496⟩
def ni_t14 : St := ⟨3956348971, 1994081793, 2165774894, 2486982250, 918689581, 149040506, 1709819766, 2787809108⟩
def ni_t15 : St := ⟨403143506, 3956348971, 1994081793, 2165774894, 1218773092, 918689581, 149040506, 1709819766⟩
def ni_t16 : St := ⟨3015920447, 403143506, 3956348971, 1994081793, 2022356187, 1218773092, 918689581, 149040506⟩
def ni_t17 : St := ⟨3824811565, 3015920447, 403143506, 3956348971, 3874502361, 2022356187, 1218773092, 918689581⟩
def ni_t18 : St := ⟨1999591656, 3824811565, 3015920447, 403143506, 1087577609, 3874502361, 2022356187, 1218773092⟩
def ni_t19 : St := ⟨3134922889, 1999591656, 3824811565, 3015920447, 1997239058, 1087577609, 3874502361, 2022356187⟩
def ni_t20 : St := ⟨103461962, 3134922889, 1999591656, 3824811565, 3212398288, 1997239058, 1087577609, 3874502361⟩
def ni_t21 : St := ⟨2447967445, 103461962, 3134922889, 1999591656, 3064733147, 3212398288, 1997239058, 1087577609⟩
def ni_t22 : St := ⟨2719700681, 2447967445, 103461962, 3134922889, 2677666478, 3064733147, 3212398288, 1997239058⟩
def ni_t23 : St := ⟨3904736622, 2719700681, 2447967445, 103461962, 1843180878, 2677666478, 3064733147, 3212398288⟩
def ni_t24 : St := ⟨3161628864, 3904736622, 2719700681, 2447967445, 4202083112, 1843180878, 2677666478, 3064733147⟩
def ni_t25 : St := ⟨2698325822, 3161628864, 3904736622, 2719700681, 2800248311, 4202083112, 1843180878, 2677666478⟩
def ni_t26 : St := ⟨1986849502, 2698325822, 3161628864, 3904736622, 3927301204, 2800248311, 4202083112, 1843180878⟩
def ni_t27 : St := ⟨3513578453, 1986849502, 2698325822, 3161628864, 2364663388, 3927301204, 2800248311, 4202083112⟩
def ni_t28 : St := ⟨1768119422, 3513578453, 1986849502, 2698325822, 3694014601, 2364663388, 3927301204, 2800248311⟩
def ni_t29 : St := ⟨1992777342, 1768119422, 3513578453, 1986849502, 2975149374, 3694014601, 2364663388, 3927301204⟩
def ni_t30 : St := ⟨1240629633, 1992777342, 1768119422, 3513578453, 3686561123, 2975149374, 3694014601, 2364663388⟩
def ni_t31 : St := ⟨456961592, 1240629633, 1992777342, 1768119422, 3998571196, 3686561123, 2975149374, 3694014601⟩
def ni_t32 : St := ⟨4004464208, 456961592, 1240629633, 1992777342, 1986331279, 3998571196, 3686561123, 2975149374⟩
def ni_t33 : St := ⟨809954420, 4004464208, 456961592, 1240629633, 2803490190, 1986331279, 3998571196, 3686561123⟩
def ni_t34 : St := ⟨3413115129, 809954420, 4004464208, 456961592, 1731308063, 2803490190, 1986331279, 3998571196⟩
def ni_t35 : St := ⟨3319211274, 3413115129, 809954420, 4004464208, 1100730943, 1731308063, 2803490190, 1986331279⟩
def ni_t36 : St := ⟨933934625, 3319211274, 3413115129, 809954420, 2672560909, 1100730943, 1731308063, 2803490190⟩
def ni_t37 : St := ⟨578964932, 933934625, 3319211274, 3413115129, 882606604, 2672560909, 1100730943, 1731308063⟩
def ni_t38 : St := ⟨1846816429, 578964932, 933934625, 3319211274, 2722853565, 882606604, 2672560909, 1100730943⟩
def ni_t39 : St := ⟨16441268, 1846816429, 578964932, 933934625, 570099559, 2722853565, 882606604, 2672560909⟩
def ni_t40 : St := ⟨2085091609, 16441268, 1846816429, 578964932, 2055208798, 570099559, 2722853565, 882606604⟩
def ni_t41 : St := ⟨2013552893, 2085091609, 16441268, 1846816429, 2784048508, 2055208798, 570099559, 2722853565⟩
def ni_t42 : St := ⟨1612259318, 2013552893, 2085091609, 16441268, 226305770, 2784048508, 2055208798, 570099559⟩
def ni_t43 : St := ⟨2251175424, 1612259318, 2013552893, 2085091609, 190381314, 226305770, 2784048508, 2055208798⟩
def ni_t44 : St := ⟨630929630, 2251175424, 1612259318, 2013552893, 410991642, 190381314, 226305770, 2784048508⟩
def ni_t45 : St := ⟨3872828631, 630929630, 2251175424, 1612259318, 390804614, 410991642, 190381314, 226305770⟩
def ni_t46 : St := ⟨3435364493, 3872828631, 630929630, 2251175424, 3229917586, 390804614, 410991642, 190381314⟩
def ni_t47 : St := ⟨2327419478, 3435364493, 3872828631, 630929630, 2998367851, 3229917586, 390804614, 410991642⟩
def ni_t48 : St := ⟨4233481231, 2327419478, 3435364493, 3872828631, 3165262499, 2998367851, 3229917586, 390804614⟩
def ni_t49 : St := ⟨2953561812, 4233481231, 2327419478, 3435364493, 28720448, 3165262499, 2998367851, 3229917586⟩
def ni_t50 : St := ⟨2942228179, 2953561812, 4233481231, 2327419478, 2387371487, 28720448, 3165262499, 2998367851⟩
def ni_t51 : St := ⟨3033266094, 2942228179, 2953561812, 4233481231, 1561610542, 2387371487, 28720448, 3165262499⟩
def ni_t52 : St := ⟨1134756184, 3033266094, 2942228179, 2953561812, 1276319018, 1561610542, 2387371487, 28720448⟩
def ni_t53 : St := ⟨1713146163, 1134756184, 3033266094, 2942228179, 3626810349, 1276319018, 1561610542, 2387371487⟩
def ni_t54 : St := ⟨836427064, 1713146163, 1134756184, 3033266094, 2557825953, 3626810349, 1276319018, 1561610542⟩
def ni_t55 : St := ⟨1667754285, 836427064, 1713146163, 1134756184, 634748484, 2557825953, 3626810349, 1276319018⟩
def ni_t56 : St := ⟨3052817625, 1667754285, 836427064, 1713146163, 136589311, 634748484, 2557825953, 3626810349⟩
def ni_t57 : St := ⟨1114595181, 3052817625, 1667754285, 836427064, 2752626964, 136589311, 634748484, 2557825953⟩
def ni_t58 : St := ⟨735989045, 1114595181, 3052817625, 1667754285, 3821366104, 2752626964, 136589311, 634748484⟩
def ni_t59 : St := ⟨3964636383, 735989045, 1114595181, 3052817625, 3511619455, 3821366104, 2752626964, 136589311⟩
def ni_t60 : St := ⟨101820478, 3964636383, 735989045, 1114595181, 2916657312, 3511619455, 3821366104, 2752626964⟩
def ni_t61 : St := ⟨1783695116, 101820478, 3964636383, 735989045, 4153161632, 2916657312, 3511619455, 3821366104⟩
def ni_t62 : St := ⟨399233821, 1783695116, 101820478, 3964636383, 1852666194, 4153161632, 2916657312, 3511619455⟩
def ni_t63 : St := ⟨2876614597, 399233821, 1783695116, 101820478, 2669507266, 1852666194, 4153161632, 2916657312⟩
def ni_t64 : St := ⟨4074167968, 2876614597, 399233821, 1783695116, 1260903136, 2669507266, 1852666194, 4153161632⟩
theorem ni_s0 : rnd ni_t0 1116352408 2147483648 = ni_t1 := by kernel_rfl
theorem ni_s1 : rnd ni_t1 1899447441 0 = ni_t2 := by kernel_rfl
theorem ni_s2 : rnd ni_t2 3049323471 0 = ni_t3 := by kernel_rfl
theorem ni_s3 : rnd ni_t3 3921009573 0 = ni_t4 := by kernel_rfl
theorem ni_s4 : rnd ni_t4 961987163 0 = ni_t5 := by kernel_rfl
theorem ni_s5 : rnd ni_t5 1508970993 0 = ni_t6 := by kernel_rfl
theorem ni_s6 : rnd ni_t6 2453635748 0 = ni_t7 := by kernel_rfl
theorem ni_s7 : rnd ni_t7 2870763221 0 = ni_t8 := by kernel_rfl
theorem ni_s8 : rnd ni_t8 3624381080 0 = ni_t9 := by kernel_rfl
theorem ni_s9 : rnd ni_t9 310598401 0 = ni_t10 := by kernel_rfl
theorem ni_s10 : rnd ni_t10 607225278 0 = ni_t11 := by kernel_rfl
theorem ni_s11 : rnd ni_t11 1426881987 0 = ni_t12 := by kernel_rfl
theorem ni_s12 : rnd ni_t12 1925078388 0 = ni_t13 := by kernel_rfl
theorem ni_s13 : rnd ni_t13 2162078206 0 = ni_t14 := by kernel_rfl
theorem ni_s14 : rnd ni_t14 2614888103 0 = ni_t15 := by kernel_rfl
theorem ni_s15 : rnd ni_t15 3248222580 512 = ni_t16 := by kernel_rfl
theorem ni_s16 : rnd ni_t16 3835390401 2147483648 = ni_t17 := by kernel_rfl
theorem ni_s17 : rnd ni_t17 4022224774 20971520 = ni_t18 := by kernel_rfl
theorem ni_s18 : rnd ni_t18 264347078 2117632 = ni_t19 := by kernel_rfl
theorem ni_s19 : rnd ni_t19 604807628 20616 = ni_t20 := by kernel_rfl
theorem ni_s20 : rnd ni_t20 770255983 570427392 = ni_t21 := by kernel_rfl
theorem ni_s21 : rnd ni_t21 1249150122 575995924 = ni_t22 := by kernel_rfl
theorem ni_s22 : rnd ni_t22 1555081692 84449090 = ni_t23 := by kernel_rfl
theorem ni_s23 : rnd ni_t23 1996064986 2684354592 = ni_t24 := by kernel_rfl
theorem ni_s24 : rnd ni_t24 2554220882 1518862336 = ni_t25 := by kernel_rfl
theorem ni_s25 : rnd ni_t25 2821834349 6067200 = ni_t26 := by kernel_rfl
theorem ni_s26 : rnd ni_t26 2952996808 1496221 = ni_t27 := by kernel_rfl
theorem ni_s27 : rnd ni_t27 3210313671 4202700544 = ni_t28 := by kernel_rfl
theorem ni_s28 : rnd ni_t28 3336571891 3543279056 = ni_t29 := by kernel_rfl
theorem ni_s29 : rnd ni_t29 3584528711 291985753 = ni_t30 := by kernel_rfl
theorem ni_s30 : rnd ni_t30 113926993 4142317530 = ni_t31 := by kernel_rfl
theorem ni_s31 : rnd ni_t31 338241895 3003913545 = ni_t32 := by kernel_rfl
theorem ni_s32 : rnd ni_t32 666307205 145928272 = ni_t33 := by kernel_rfl
theorem ni_s33 : rnd ni_t33 773529912 2642168871 = ni_t34 := by kernel_rfl
theorem ni_s34 : rnd ni_t34 1294757372 216179603 = ni_t35 := by kernel_rfl
theorem ni_s35 : rnd ni_t35 1396182291 2296832490 = ni_t36 := by kernel_rfl
theorem ni_s36 : rnd ni_t36 1695183700 2771075893 = ni_t37 := by kernel_rfl
theorem ni_s37 : rnd ni_t37 1986661051 1738633033 = ni_t38 := by kernel_rfl
theorem ni_s38 : rnd ni_t38 2177026350 3610378607 = ni_t39 := by kernel_rfl
theorem ni_s39 : rnd ni_t39 2456956037 1324035729 = ni_t40 := by kernel_rfl
theorem ni_s40 : rnd ni_t40 2730485921 1572820453 = ni_t41 := by kernel_rfl
theorem ni_s41 : rnd ni_t41 2820302411 2397971253 = ni_t42 := by kernel_rfl
theorem ni_s42 : rnd ni_t42 3259730800 3803995842 = ni_t43 := by kernel_rfl
theorem ni_s43 : rnd ni_t43 3345764771 2822718356 = ni_t44 := by kernel_rfl
theorem ni_s44 : rnd ni_t44 3516065817 1168996599 = ni_t45 := by kernel_rfl
theorem ni_s45 : rnd ni_t45 3600352804 921948365 = ni_t46 := by kernel_rfl
theorem ni_s46 : rnd ni_t46 4094571909 3650881000 = ni_t47 := by kernel_rfl
theorem ni_s47 : rnd ni_t47 275423344 2958106055 = ni_t48 := by kernel_rfl
theorem ni_s48 : rnd ni_t48 430227734 1773959876 = ni_t49 := by kernel_rfl
theorem ni_s49 : rnd ni_t49 506948616 3172022107 = ni_t50 := by kernel_rfl
theorem ni_s50 : rnd ni_t50 659060556 3820646885 = ni_t51 := by kernel_rfl
theorem ni_s51 : rnd ni_t51 883997877 991993842 = ni_t52 := by kernel_rfl
theorem ni_s52 : rnd ni_t52 958139571 419360279 = ni_t53 := by kernel_rfl
theorem ni_s53 : rnd ni_t53 1322822218 3797604839 = ni_t54 := by kernel_rfl
theorem ni_s54 : rnd ni_t54 1537002063 322392134 = ni_t55 := by kernel_rfl
theorem ni_s55 : rnd ni_t55 1747873779 85264541 = ni_t56 := by kernel_rfl
theorem ni_s56 : rnd ni_t56 1955562222 1326255876 = ni_t57 := by kernel_rfl
theorem ni_s57 : rnd ni_t57 2024104815 640108622 = ni_t58 := by kernel_rfl
theorem ni_s58 : rnd ni_t58 2227730452 822159570 = ni_t59 := by kernel_rfl
theorem ni_s59 : rnd ni_t59 2361852424 3328750644 = ni_t60 := by kernel_rfl
theorem ni_s60 : rnd ni_t60 2428436474 1107837388 = ni_t61 := by kernel_rfl
theorem ni_s61 : rnd ni_t61 2756734187 1657999800 = ni_t62 := by kernel_rfl
theorem ni_s62 : rnd ni_t62 3204031479 3852183409 = ni_t63 := by kernel_rfl
theorem ni_s63 : rnd ni_t63 3329325298 2242356356 = ni_t64 := by kernel_rfl
theorem ni_r0 : rounds ni_t0 niW 0 = ni_t0 := rfl
theorem ni_r1 : rounds ni_t0 niW 1 = ni_t1 := rounds_nx _ _ 0 _ _ _ _ ni_r0 rfl rfl ni_s0
theorem ni_r2 : rounds ni_t0 niW 2 = ni_t2 := rounds_nx _ _ 1 _ _ _ _ ni_r1 rfl rfl ni_s1
theorem ni_r3 : rounds ni_t0 niW 3 = ni_t3 := rounds_nx _ _ 2 _ _ _ _ ni_r2 rfl rfl ni_s2
theorem ni_r4 : rounds ni_t0 niW 4 = ni_t4 := rounds_nx _ _ 3 _ _ _ _ ni_r3 rfl rfl ni_s3
theorem ni_r5 : rounds ni_t0 niW 5 = ni_t5 := rounds_nx _ _ 4 _ _ _ _ ni_r4 rfl rfl ni_s4
theorem ni_r6 : rounds ni_t0 niW 6 = ni_t6 := rounds_nx _ _ 5 _ _ _ _ ni_r5 rfl rfl ni_s5
theorem ni_r7 : rounds ni_t0 niW 7 = ni_t7 := rounds_nx _ _ 6 _ _ _ _ ni_r6 rfl rfl ni_s6
theorem ni_r8 : rounds ni_t0 niW 8 = ni_t8 := rounds_nx _ _ 7 _ _ _ _ ni_r7 rfl rfl ni_s7
theorem ni_r9 : rounds ni_t0 niW 9 = ni_t9 := rounds_nx _ _ 8 _ _ _ _ ni_r8 rfl rfl ni_s8
theorem ni_r10 : rounds ni_t0 niW 10 = ni_t10 := rounds_nx _ _ 9 _ _ _ _ ni_r9 rfl rfl ni_s9
theorem ni_r11 : rounds ni_t0 niW 11 = ni_t11 := rounds_nx _ _ 10 _ _ _ _ ni_r10 rfl rfl ni_s10
theorem ni_r12 : rounds ni_t0 niW 12 = ni_t12 := rounds_nx _ _ 11 _ _ _ _ ni_r11 rfl rfl ni_s11
theorem ni_r13 : rounds ni_t0 niW 13 = ni_t13 := rounds_nx _ _ 12 _ _ _ _ ni_r12 rfl rfl ni_s12
theorem ni_r14 : rounds ni_t0 niW 14 = ni_t14 := rounds_nx _ _ 13 _ _ _ _ ni_r13 rfl rfl ni_s13
theorem ni_r15 : rounds ni_t0 niW 15 = ni_t15 := rounds_nx _ _ 14 _ _ _ _ ni_r14 rfl rfl ni_s14
theorem ni_r16 : rounds ni_t0 niW 16 = ni_t16 := rounds_nx _ _ 15 _ _ _ _ ni_r15 rfl rfl ni_s15
theorem ni_r17 : rounds ni_t0 niW 17 = ni_t17 := rounds_nx _ _ 16 _ _ _ _ ni_r16 rfl rfl ni_s16
theorem ni_r18 : rounds ni_t0 niW 18 = ni_t18 := rounds_nx _ _ 17 _ _ _ _ ni_r17 rfl rfl ni_s17
theorem ni_r19 : rounds ni_t0 niW 19 = ni_t19 := rounds_nx _ _ 18 _ _ _ _ ni_r18 rfl rfl ni_s18
theorem ni_r20 : rounds ni_t0 niW 20 = ni_t20 := rounds_nx _ _ 19 _ _ _ _ ni_r19 rfl rfl ni_s19
theorem ni_r21 : rounds ni_t0 niW 21 = ni_t21 := rounds_nx _ _ 20 _ _ _ _ ni_r20 rfl rfl ni_s20
theorem ni_r22 : rounds ni_t0 niW 22 = ni_t22 := rounds_nx _ _ 21 _ _ _ _ ni_r21 rfl rfl ni_s21
theorem ni_r23 : rounds ni_t0 niW 23 = ni_t23 := rounds_nx _ _ 22 _ _ _ _ ni_r22 rfl rfl ni_s22
theorem ni_r24 : rounds ni_t0 niW 24 = ni_t24 := rounds_nx _ _ 23 _ _ _ _ ni_r23 rfl rfl ni_s23
theorem ni_r25 : rounds ni_t0 niW 25 = ni_t25 := rounds_nx _ _ 24 _ _ _ _ ni_r24 rfl rfl ni_s24
theorem ni_r26 : rounds ni_t0 niW 26 = ni_t26 := rounds_nx _ _ 25 _ _ _ _ ni_r25 rfl rfl ni_s25
theorem ni_r27 : rounds ni_t0 niW 27 = ni_t27 := rounds_nx _ _ 26 _ _ _ _ ni_r26 rfl rfl ni_s26
theorem ni_r28 : rounds ni_t0 niW 28 = ni_t28 := rounds_nx _ _ 27 _ _ _ _ ni_r27 rfl rfl ni_s27
theorem ni_r29 : rounds ni_t0 niW 29 = ni_t29 := rounds_nx _ _ 28 _ _ _ _ ni_r28 rfl rfl ni_s28
theorem ni_r30 : rounds ni_t0 niW 30 = ni_t30 := rounds_nx _ _ 29 _ _ _ _ ni_r29 rfl rfl ni_s29
theorem ni_r31 : rounds ni_t0 niW 31 = ni_t31 := rounds_nx _ _ 30 _ _ _ _ ni_r30 rfl rfl ni_s30
theorem ni_r32 : rounds ni_t0 niW 32 = ni_t32 := rounds_nx _ _ 31 _ _ _ _ ni_r31 rfl rfl ni_s31
theorem ni_r33 : rounds ni_t0 niW 33 = ni_t33 := rounds_nx _ _ 32 _ _ _ _ ni_r32 rfl rfl ni_s32
theorem ni_r34 : rounds ni_t0 niW 34 = ni_t34 := rounds_nx _ _ 33 _ _ _ _ ni_r33 rfl rfl ni_s33
theorem ni_r35 : rounds ni_t0 niW 35 = ni_t35 := rounds_nx _ _ 34 _ _ _ _ ni_r34 rfl rfl ni_s34
theorem ni_r36 : rounds ni_t0 niW 36 = ni_t36 := rounds_nx _ _ 35 _ _ _ _ ni_r35 rfl rfl ni_s35
theorem ni_r37 : rounds ni_t0 niW 37 = ni_t37 := rounds_nx _ _ 36 _ _ _ _ ni_r36 rfl rfl ni_s36
theorem ni_r38 : rounds ni_t0 niW 38 = ni_t38 := rounds_nx _ _ 37 _ _ _ _ ni_r37 rfl rfl ni_s37
theorem ni_r39 : rounds ni_t0 niW 39 = ni_t39 := rounds_nx _ _ 38 _ _ _ _ ni_r38 rfl rfl ni_s38
theorem ni_r40 : rounds ni_t0 niW 40 = ni_t40 := rounds_nx _ _ 39 _ _ _ _ ni_r39 rfl rfl ni_s39
theorem ni_r41 : rounds ni_t0 niW 41 = ni_t41 := rounds_nx _ _ 40 _ _ _ _ ni_r40 rfl rfl ni_s40
theorem ni_r42 : rounds ni_t0 niW 42 = ni_t42 := rounds_nx _ _ 41 _ _ _ _ ni_r41 rfl rfl ni_s41
theorem ni_r43 : rounds ni_t0 niW 43 = ni_t43 := rounds_nx _ _ 42 _ _ _ _ ni_r42 rfl rfl ni_s42
theorem ni_r44 : rounds ni_t0 niW 44 = ni_t44 := rounds_nx _ _ 43 _ _ _ _ ni_r43 rfl rfl ni_s43
theorem ni_r45 : rounds ni_t0 niW 45 = ni_t45 := rounds_nx _ _ 44 _ _ _ _ ni_r44 rfl rfl ni_s44
theorem ni_r46 : rounds ni_t0 niW 46 = ni_t46 := rounds_nx _ _ 45 _ _ _ _ ni_r45 rfl rfl ni_s45
theorem ni_r47 : rounds ni_t0 niW 47 = ni_t47 := rounds_nx _ _ 46 _ _ _ _ ni_r46 rfl rfl ni_s46
theorem ni_r48 : rounds ni_t0 niW 48 = ni_t48 := rounds_nx _ _ 47 _ _ _ _ ni_r47 rfl rfl ni_s47
theorem ni_r49 : rounds ni_t0 niW 49 = ni_t49 := rounds_nx _ _ 48 _ _ _ _ ni_r48 rfl rfl ni_s48
theorem ni_r50 : rounds ni_t0 niW 50 = ni_t50 := rounds_nx _ _ 49 _ _ _ _ ni_r49 rfl rfl ni_s49
theorem ni_r51 : rounds ni_t0 niW 51 = ni_t51 := rounds_nx _ _ 50 _ _ _ _ ni_r50 rfl rfl ni_s50
theorem ni_r52 : rounds ni_t0 niW 52 = ni_t52 := rounds_nx _ _ 51 _ _ _ _ ni_r51 rfl rfl ni_s51
theorem ni_r53 : rounds ni_t0 niW 53 = ni_t53 := rounds_nx _ _ 52 _ _ _ _ ni_r52 rfl rfl ni_s52
theorem ni_r54 : rounds ni_t0 niW 54 = ni_t54 := rounds_nx _ _ 53 _ _ _ _ ni_r53 rfl rfl ni_s53
theorem ni_r55 : rounds ni_t0 niW 55 = ni_t55 := rounds_nx _ _ 54 _ _ _ _ ni_r54 rfl rfl ni_s54
theorem ni_r56 : rounds ni_t0 niW 56 = ni_t56 := rounds_nx _ _ 55 _ _ _ _ ni_r55 rfl rfl ni_s55
theorem ni_r57 : rounds ni_t0 niW 57 = ni_t57 := rounds_nx _ _ 56 _ _ _ _ ni_r56 rfl rfl ni_s56
theorem ni_r58 : rounds ni_t0 niW 58 = ni_t58 := rounds_nx _ _ 57 _ _ _ _ ni_r57 rfl rfl ni_s57
theorem ni_r59 : rounds ni_t0 niW 59 = ni_t59 := rounds_nx _ _ 58 _ _ _ _ ni_r58 rfl rfl ni_s58
theorem ni_r60 : rounds ni_t0 niW 60 = ni_t60 := rounds_nx _ _ 59 _ _ _ _ ni_r59 rfl rfl ni_s59
theorem ni_r61 : rounds ni_t0 niW 61 = ni_t61 := rounds_nx _ _ 60 _ _ _ _ ni_r60 rfl rfl ni_s60
theorem ni_r62 : rounds ni_t0 niW 62 = ni_t62 := rounds_nx _ _ 61 _ _ _ _ ni_r61 rfl rfl ni_s61
theorem ni_r63 : rounds ni_t0 niW 63 = ni_t63 := rounds_nx _ _ 62 _ _ _ _ ni_r62 rfl rfl ni_s62
theorem ni_r64 : rounds ni_t0 niW 64 = ni_t64 := rounds_nx _ _ 63 _ _ _ _ ni_r63 rfl rfl ni_s63
def niN : List Int := [3878403405, 1117440276, 2829501885, 1231237110, 2953662447, 1118811203, 4038591613, 4033643986]
theorem ni_block : blockZ kiN niB = niN := by
  have h : (sched niB 64) = niW := ni_w64
  unfold blockZ
  rw [h, show St.ofL kiN = ni_t0 from rfl, ni_r64]
  show _ = _
  kernel_rfl
def niM : List Int := []
def niSum : List Int := [231, 43, 189, 77, 66, 154, 201, 20, 168, 166, 197, 189, 73, 99, 47, 246, 176, 13, 79, 239, 66, 175, 180, 67, 240, 184, 4, 125, 240, 108, 133, 210]
theorem ni_sum : sumZ (kiB ++ niM) = niSum := by
  rw [sum_two (kiB ++ niM) kiB niB 64 kiN niN (by kernel_rfl) (by kernel_rfl) rfl rfl ki_block ni_block]
  kernel_rfl
def noB : List Int := [231, 43, 189, 77, 66, 154, 201, 20, 168, 166, 197, 189, 73, 99, 47, 246, 176, 13, 79, 239, 66, 175, 180, 67, 240, 184, 4, 125, 240, 108, 133, 210, 128, 0, 0, 0, 0, 0, 0, 0, 0, 0, 0, 0, 0, 0, 0, 0, 0, 0, 0, 0, 0, 0, 0, 0, 0, 0, 0, 0, 0, 0, 3, 0]
def noW : List Int := [3878403405, 1117440276, 2829501885, 1231237110, 2953662447, 1118811203, 4038591613, 4033643986, 2147483648, 0, 0, 0, 0, 0, 0, 768, 2042575203, 598067241, 1382921180, 1092021291, 2202992977, 3541650942, 3958644533, 178279665, 804027820, 1934737389, 4068431167, 1801897214, 320726691, 2800631971, 1524728299, 536142871, 36254232, 3805423660, 1657676815, 412830594, 3046563981, 1813400218, 2933921196, 999842265, 3598641367, 3353225525, 4108631770, 813209095, 192433196, 1831918571, 3671060795, 3922647203, 2686999280, 718692840, 2400707038, 3604077068, 3686502092, 1732471487, 4239030454, 3274252720, 1845550752, 2425922155, 1849983951, 2617490701, 835200059, 2742970757, 2706529429, 899933550]
theorem no_w16 : sched noB 16 = noW.take 16 := by kernel_rfl
theorem no_n16 : nextW (noW.take 16) = 2042575203 := by kernel_rfl
theorem no_n17 : nextW (noW.take 17) = 598067241 := by kernel_rfl
theorem no_n18 : nextW (noW.take 18) = 1382921180 := by kernel_rfl
theorem no_n19 : nextW (noW.take 19) = 1092021291 := by kernel_rfl
theorem no_n20 : nextW (noW.take 20) = 2202992977 := by kernel_rfl
theorem no_n21 : nextW (noW.take 21) = 3541650942 := by kernel_rfl
theorem no_n22 : nextW (noW.take 22) = 3958644533 := by kernel_rfl
theorem no_n23 : nextW (noW.take 23) = 178279665 := by kernel_rfl
theorem no_n24 : nextW (noW.take 24) = 804027820 := by kernel_rfl
theorem no_n25 : nextW (noW.take 25) = 1934737389 := by kernel_rfl
theorem no_n26 : nextW (noW.take 26) = 4068431167 := by kernel_rfl
theorem no_n27 : nextW (noW.take 27) = 1801897214 := by kernel_rfl
theorem no_n28 : nextW (noW.take 28) = 320726691 := by kernel_rfl
theorem no_n29 : nextW (noW.take 29) = 2800631971 := by kernel_rfl
theorem no_n30 : nextW (noW.take 30) = 1524728299 := by kernel_rfl
theorem no_n31 : nextW (noW.take 31) = 536142871 := by kernel_rfl
theorem no_n32 : nextW (noW.take 32) = 36254232 := by kernel_rfl
theorem no_n33 : nextW (noW.take 33) = 3805423660 := by kernel_rfl
theorem no_n34 : nextW (noW.take 34) = 1657676815 := by kernel_rfl
theorem no_n35 : nextW (noW.take 35) = 412830594 := by kernel_rfl
theorem no_n36 : nextW (noW.take 36) = 3046563981 := by kernel_rfl
theorem no_n37 : nextW (noW.take 37) = 1813400218 := by kernel_rfl
theorem no_n38 : nextW (noW.take 38) = 2933921196 := by kernel_rfl
theorem no_n39 : nextW (noW.take 39) = 999842265 := by kernel_rfl
theorem no_n40 : nextW (noW.take 40) = 3598641367 := by kernel_rfl
theorem no_n41 : nextW (noW.take 41) = 3353225525 := by kernel_rfl
theorem no_n42 : nextW (noW.take 42) = 4108631770 := by kernel_rfl
theorem no_n43 : nextW (noW.take 43) = 813209095 := by kernel_rfl
theorem no_n44 : nextW (noW.take 44) = 192433196 := by kernel_rfl
theorem no_n45 : nextW (noW.take 45) = 1831918571 := by kernel_rfl
theorem no_n46 : nextW (noW.take 46) = 3671060795 := by kernel_rfl
theorem no_n47 : nextW (noW.take 47) = 3922647203 := by kernel_rfl
theorem no_n48 : nextW (noW.take 48) = 2686999280 := by kernel_rfl
theorem no_n49 : nextW (noW.take 49) = 718692840 := by kernel_rfl
theorem no_n50 : nextW (noW.take 50) = 2400707038 := by kernel_rfl
theorem no_n51 : nextW (noW.take 51) = 3604077068 := by kernel_rfl
theorem no_n52 : nextW (noW.take 52) = 3686502092 := by kernel_rfl
theorem no_n53 : nextW (noW.take 53) = 1732471487 := by kernel_rfl
theorem no_n54 : nextW (noW.take 54) = 4239030454 := by kernel_rfl
theorem no_n55 : nextW (noW.take 55) = 3274252720 := by kernel_rfl
theorem no_n56 : nextW (noW.take 56) = 1845550752 := by kernel_rfl
theorem no_n57 : nextW (noW.take 57) = 2425922155 := by kernel_rfl
theorem no_n58 : nextW (noW.take 58) = 1849983951 := by kernel_rfl
theorem no_n59 : nextW (noW.take 59) = 2617490701 := by kernel_rfl
theorem no_n60 : nextW (noW.take 60) = 835200059 := by kernel_rfl
theorem no_n61 : nextW (noW.take 61) = 2742970757 := by kernel_rfl
theorem no_n62 : nextW (noW.take 62) = 2706529429 := by kernel_rfl
theorem no_n63 : nextW (noW.take 63) = 899933550 := by kernel_rfl
theorem no_w17 : sched noB 17 = noW.take 17 := sched_nx noB 16 _ _ _ (by decide) no_w16 no_n16 rfl
theorem no_w18 : sched noB 18 = noW.take 18 := sched_nx noB 17 _ _ _ (by decide) no_w17 no_n17 rfl
theorem no_w19 : sched noB 19 = noW.take 19 := sched_nx noB 18 _ _ _ (by decide) no_w18 no_n18 rfl
theorem no_w20 : sched noB 20 = noW.take 20 := sched_nx noB 19 _ _ _ (by decide) no_w19 no_n19 rfl
theorem no_w21 : sched noB 21 = noW.take 21 := sched_nx noB 20 _ _ _ (by decide) no_w20 no_n20 rfl
theorem no_w22 : sched noB 22 = noW.take 22 := sched_nx noB 21 _ _ _ (by decide) no_w21 no_n21 rfl
theorem no_w23 : sched noB 23 = noW.take 23 := sched_nx noB 22 _ _ _ (by decide) no_w22 no_n22 rfl
theorem no_w24 : sched noB 24 = noW.take 24 := sched_nx noB 23 _ _ _ (by decide) no_w23 no_n23 rfl
theorem no_w25 : sched noB 25 = noW.take 25 := sched_nx noB 24 _ _ _ (by decide) no_w24 no_n24 rfl
theorem no_w26 : sched noB 26 = noW.take 26 := sched_nx noB 25 _ _ _ (by decide) no_w25 no_n25 rfl
theorem no_w27 : sched noB 27 = noW.take 27 := sched_nx noB 26 _ _ _ (by decide) no_w26 no_n26 rfl
theorem no_w28 : sched noB 28 = noW.take 28 := sched_nx noB 27 _ _ _ (by decide) no_w27 no_n27 rfl
theorem no_w29 : sched noB 29 = noW.take 29 := sched_nx noB 28 _ _ _ (by decide) no_w28 no_n28 rfl
theorem no_w30 : sched noB 30 = noW.take 30 := sched_nx noB 29 _ _ _ (by decide) no_w29 no_n29 rfl
theorem no_w31 : sched noB 31 = noW.take 31 := sched_nx noB 30 _ _ _ (by decide) no_w30 no_n30 rfl
theorem no_w32 : sched noB 32 = noW.take 32 := sched_nx noB 31 _ _ _ (by decide) no_w31 no_n31 rfl
theorem no_w33 : sched noB 33 = noW.take 33 := sched_nx noB 32 _ _ _ (by decide) no_w32 no_n32 rfl
theorem no_w34 : sched noB 34 = noW.take 34 := sched_nx noB 33 _ _ _ (by decide) no_w33 no_n33 rfl
theorem no_w35 : sched noB 35 = noW.take 35 := sched_nx noB 34 _ _ _ (by decide) no_w34 no_n34 rfl
theorem no_w36 : sched noB 36 = noW.take 36 := sched_nx noB 35 _ _ _ (by decide) no_w35 no_n35 rfl
theorem no_w37 : sched noB 37 = noW.take 37 := sched_nx noB 36 _ _ _ (by decide) no_w36 no_n36 rfl
theorem no_w38 : sched noB 38 = noW.take 38 := sched_nx noB 37 _ _ _ (by decide) no_w37 no_n37 rfl
theorem no_w39 : sched noB 39 = noW.take 39 := sched_nx noB 38 _ _ _ (by decide) no_w38 no_n38 rfl
theorem no_w40 : sched noB 40 = noW.take 40 := sched_nx noB 39 _ _ _ (by decide) no_w39 no_n39 rfl
theorem no_w41 : sched noB 41 = noW.take 41 := sched_nx noB 40 _ _ _ (by decide) no_w40 no_n40 rfl
theorem no_w42 : sched noB 42 = noW.take 42 := sched_nx noB 41 _ _ _ (by decide) no_w41 no_n41 rfl
theorem no_w43 : sched noB 43 = noW.take 43 := sched_nx noB 42 _ _ _ (by decide) no_w42 no_n42 rfl
theorem no_w44 : sched noB 44 = noW.take 44 := sched_nx noB 43 _ _ _ (by decide) no_w43 no_n43 rfl
theorem no_w45 : sched noB 45 = noW.take 45 := sched_nx noB 44 _ _ _ (by decide) no_w44 no_n44 rfl
theorem no_w46 : sched noB 46 = noW.take 46 := sched_nx noB 45 _ _ _ (by decide) no_w45 no_n45 rfl
theorem no_w47 : sched noB 47 = noW.take 47 := sched_nx noB 46 _ _ _ (by decide) no_w46 no_n46 rfl
theorem no_w48 : sched noB 48 = noW.take 48 := sched_nx noB 47 _ _ _ (by decide) no_w47 no_n47 rfl
theorem no_w49 : sched noB 49 = noW.take 49 := sched_nx noB 48 _ _ _ (by decide) no_w48 no_n48 rfl
theorem no_w50 : sched noB 50 = noW.take 50 := sched_nx noB 49 _ _ _ (by decide) no_w49 no_n49 rfl
theorem no_w51 : sched noB 51 = noW.take 51 := sched_nx noB 50 _ _ _ (by decide) no_w50 no_n50 rfl
theorem no_w52 : sched noB 52 = noW.take 52 := sched_nx noB 51 _ _ _ (by decide) no_w51 no_n51 rfl
theorem no_w53 : sched noB 53 = noW.take 53 := sched_nx noB 52 _ _ _ (by decide) no_w52 no_n52 rfl
theorem no_w54 : sched noB 54 = noW.take 54 := sched_nx noB 53 _ _ _ (by decide) no_w53 no_n53 rfl
theorem no_w55 : sched noB 55 = noW.take 55 := sched_nx noB 54 _ _ _ (by decide) no_w54 no_n54 rfl
theorem no_w56 : sched noB 56 = noW.take 56 := sched_nx noB 55 _ _ _ (by decide) no_w55 no_n55 rfl
theorem no_w57 : sched noB 57 = noW.take 57 := sched_nx noB 56 _ _ _ (by decide) no_w56 no_n56 rfl
theorem no_w58 : sched noB 58 = noW.take 58 := sched_nx noB 57 _ _ _ (by decide) no_w57 no_n57 rfl
theorem no_w59 : sched noB 59 = noW.take 59 := sched_nx noB 58 _ _ _ (by decide) no_w58 no_n58 rfl
theorem no_w60 : sched noB 60 = noW.take 60 := sched_nx noB 59 _ _ _ (by decide) no_w59 no_n59 rfl
theorem no_w61 : sched noB 61 = noW.take 61 := sched_nx noB 60 _ _ _ (by decide) no_w60 no_n60 rfl
theorem no_w62 : sched noB 62 = noW.take 62 := sched_nx noB 61 _ _ _ (by decide) no_w61 no_n61 rfl
theorem no_w63 : sched noB 63 = noW.take 63 := sched_nx noB 62 _ _ _ (by decide) no_w62 no_n62 rfl
theorem no_w64 : sched noB 64 = noW.take 64 := sched_nx noB 63 _ _ _ (by decide) no_w63 no_n63 rfl
def no_t0 : St := ⟨3548727311, 2059101303, 935970104, 1574446183, 2382641778, 1966355632, 3736610840, 907888038⟩
def no_t1 : St := ⟨1347256722, 3548727311, 2059101303, 935970104, 2564583507, 2382641778, 1966355632, 3736610840⟩
def no_t2 : St := ⟨2867566994, 1347256722, 3548727311, 2059101303, 3785388906, 2564583507, 2382641778, 1966355632⟩
def no_t3 : St := ⟨337310822, 2867566994, 1347256722, 3548727311, 4089369528, 3785388906, 2564583507, 2382641778⟩
def no_t4 : St := ⟨1424630165, 337310822, 2867566994, 1347256722, 3392950900, 4089369528, 3785388906, 2564583507⟩
def no_t5 : St := ⟨4019629690, 1424630165, 337310822, 2867566994, 971179023, 3392950900, 4089369528, 3785388906⟩
def no_t6 : St := ⟨2082907721, 4019629690, 1424630165, 337310822, 1072455376, 971179023, 3392950900, 4089369528⟩
def no_t7 : St := ⟨1375704988, 2082907721, 4019629690, 1424630165, 4053301330, 1072455376, 971179023, 3392950900⟩
def no_t8 : St := ⟨30331074, 1375704988, 2082907721, 4019629690, 2185179299, 4053301330, 1072455376, 971179023⟩
def no_t9 : St := ⟨1689477351, 30331074, 1375704988, 2082907721, 3308963416, 2185179299, 4053301330, 1072455376⟩
def no_t10 : St := ⟨2385347308, 1689477351, 30331074, 1375704988, 3032479807, 3308963416, 2185179299, 4053301330⟩
def no_t11 : St := ⟨3396442946, 2385347308, 1689477351, 30331074, 2497498633, 3032479807, 3308963416, 2185179299⟩
def no_t12 : St := ⟨3005883525, 3396442946, 2385347308, 1689477351, 937440236, 2497498633, 3032479807, 3308963416⟩
def no_t13 : St := ⟨1958216249, 3005883525, 3396442946, 2385347308, 1858918816, 937440236, 2497498633, 3032479807⟩
def no_t14 : St := ⟨1601060685, 1958216249, 3005883525, 3396442946, 1316388764, 1858918816, 937440236, 2497498633⟩
def no_t15 : St := ⟨4135808914, 1601060685, 1958216249, 3005883525, 880714472, 1316388764, 1858918816, 937440236⟩
def no_t16 : St := ⟨1311504491, 4135808914, 1601060685, 1958216249, 3189950898, 880714472, 1316388764, 1858918816⟩
def no_t17 : St := ⟨1288072024, 1311504491, 4135808914, 1601060685, 2753678281, 3189950898, 880714472, 1316388764⟩
def no_t18 : St := ⟨75327967, 1288072024, 1311504491, 4135808914, 3305742332, 2753678281, 3189950898, 880714472⟩
def no_t19 : St := ⟨2747574378, 75327967, 1288072024, 1311504491, 3549997332, 3305742332, 2753678281, 3189950898⟩
def no_t20 : St := ⟨3283797864, 2747574378, 75327967, 1288072024, 337426377, 3549997332, 3305742332, 2753678281⟩
def no_t21 : St := ⟨1582215404, 3283797864, 2747574378, 75327967, 1180902360, 337426377, 3549997332, 3305742332⟩
def no_t22 : St := ⟨296901335, 1582215404, 3283797864, 2747574378, 2821600535, 1180902360, 337426377, 3549997332⟩
def no_t23 : St := ⟨1262053136, 296901335, 1582215404, 3283797864, 3213096237, 2821600535, 1180902360, 337426377⟩
def no_t24 : St := ⟨2077682389, 1262053136, 296901335, 1582215404, 344391238, 3213096237, 2821600535, 1180902360⟩
def no_t25 : St := ⟨248523993, 2077682389, 1262053136, 296901335, 3178709251, 344391238, 3213096237, 2821600535⟩
def no_t26 : St := ⟨553331246, 248523993, 2077682389, 1262053136, 2165177512, 3178709251, 344391238, 3213096237⟩
def no_t27 : St := ⟨171022133, 553331246, 248523993, 2077682389, 4105264535, 2165177512, 3178709251, 344391238⟩
def no_t28 : St := ⟨3329967832, 171022133, 553331246, 248523993, 4192740103, 4105264535, 2165177512, 3178709251⟩
def no_t29 : St := ⟨4293048173, 3329967832, 171022133, 553331246, 569662613, 4192740103, 4105264535, 2165177512⟩
def no_t30 : St := ⟨1280373168, 4293048173, 3329967832, 171022133, 1351458608, 569662613, 4192740103, 4105264535⟩
def no_t31 : St := ⟨227333795, 1280373168, 4293048173, 3329967832, 1811600902, 1351458608, 569662613, 4192740103⟩
def no_t32 : St := ⟨629093350, 227333795, 1280373168, 4293048173, 1494723877, 1811600902, 1351458608, 569662613⟩
def no_t33 : St := ⟨1200066922, 629093350, 227333795, 1280373168, 1332467104, 1494723877, 1811600902, 1351458608⟩
def no_t34 : St := ⟨1450379039, 1200066922, 629093350, 227333795, 2554196853, 1332467104, 1494723877, 1811600902⟩
def no_t35 : St := ⟨1950134884, 1450379039, 1200066922, 629093350, 416835219, 2554196853, 1332467104, 1494723877⟩
def no_t36 : St := ⟨3916880927, 1950134884, 1450379039, 1200066922, 1004101611, 416835219, 2554196853, 1332467104⟩
def no_t37 : St := ⟨4135261460, 3916880927, 1950134884, 1450379039, 129600843, 1004101611, 416835219, 2554196853⟩
def no_t38 : St := ⟨1581000324, 4135261460, 3916880927, 1950134884, 1187214411, 129600843, 1004101611, 416835219⟩
def no_t39 : St := ⟨546587328, 1581000324, 4135261460, 3916880927, 3273324504, 1187214411, 129600843, 1004101611⟩
def no_t40 : St := ⟨727870088, 546587328, 1581000324, 4135261460, 1332620179, 3273324504, 1187214411, 129600843⟩
def no_t41 : St := ⟨1311618819, 727870088, 546587328, 1581000324, 1128302715, 1332620179, 3273324504, 1187214411⟩
def no_t42 : St := ⟨3282652932, 1311618819, 727870088, 546587328, 443810163, 1128302715, 1332620179, 3273324504⟩
def no_t43 : St := ⟨3535364258, 3282652932, 1311618819, 727870088, 3123959517, 443810163, 1128302715, 1332620179⟩
def no_t44 : St := ⟨1851502935, 3535364258, 3282652932, 1311618819, 2195353140, 3123959517, 443810163, 1128302715⟩
def no_t45 : St := ⟨919621890, 1851502935, 3535364258, 3282652932, 2187060174, 2195353140, 3123959517, 443810163⟩
def no_t46 : St := ⟨1117534308, 919621890, 1851502935, 3535364258, 1250585677, 2187060174, 2195353140, 3123959517⟩
def no_t47 : St := ⟨257850282, 1117534308, 919621890, 1851502935, 3621461780, 1250585677, 2187060174, 2195353140⟩
def no_t48 : St := ⟨1244575439, 257850282, 1117534308, 919621890, 2319753952, 3621461780, 1250585677, 2187060174⟩
def no_t49 : St := ⟨598045975, 1244575439, 257850282, 1117534308, 841795901, 2319753952, 3621461780, 1250585677⟩
def no_t50 : St := ⟨556584176, 598045975, 1244575439, 257850282, 1662415077, 841795901, 2319753952, 3621461780⟩
def no_t51 : St := ⟨985625556, 556584176, 598045975, 1244575439, 1240924105, 1662415077, 841795901, 2319753952⟩
def no_t52 : St := ⟨3250944978, 985625556, 556584176, 598045975, 2055561961, 1240924105, 1662415077, 841795901⟩
def no_t53 : St := ⟨3888423115, 3250944978, 985625556, 556584176, 1857322554, 2055561961, 1240924105, 1662415077⟩
def no_t54 : St := ⟨3400806769, 3888423115, 3250944978, 985625556, 451825927, 1857322554, 2055561961, 1240924105⟩
def no_t55 : St := ⟨1177480549, 3400806769, 3888423115, 3250944978, 2470678671, 451825927, 1857322554, 2055561961⟩
def no_t56 : St := ⟨4211299667, 1177480549, 3400806769, 3888423115, 1963987086, 2470678671, 451825927, 1857322554⟩
def no_t57 : St := ⟨813076196, 4211299667, 1177480549, 3400806769, 4111103900, 1963987086, 2470678671, 451825927⟩
def no_t58 : St := ⟨3020795019, 813076196, 4211299667, 1177480549, 1804820427, 4111103900, 1963987086, 2470678671⟩
def no_t59 : St := ⟨2293510401, 3020795019, 813076196, 4211299667, 1592699908, 1804820427, 4111103900, 1963987086⟩
def no_t60 : St := ⟨1528664265, 2293510401, 3020795019, 813076196, 1795615192, 1592699908, 1804820427, 4111103900⟩
def no_t61 : St := ⟨451623774, 1528664265, 2293510401, 3020795019, 209027079, 1795615192, 1592699908, 1804820427⟩
def no_t62 : St := ⟨1063637151, 451623774, 1528664265, 2293510401, 3893291516, 209027079, 1795615192, 1592699908⟩
def no_t63 : St := ⟨2371450229, 1063637151, 451623774, 1528664265, 507322787, 3893291516, 209027079, 1795615192⟩
def no_t64 : St := ⟨3800965003, 2371450229, 1063637151, 451623774, 1897028946, 507322787, 3893291516, 209027079⟩
theorem no_s0 : rnd no_t0 1116352408 3878403405 = no_t1 := by kernel_rfl
theorem no_s1 : rnd no_t1 1899447441 1117440276 = no_t2 := by kernel_rfl
theorem no_s2 : rnd no_t2 3049323471 2829501885 = no_t3 := by kernel_rfl
theorem no_s3 : rnd no_t3 3921009573 1231237110 = no_t4 := by kernel_rfl
theorem no_s4 : rnd no_t4 961987163 2953662447 = no_t5 := by kernel_rfl
theorem no_s5 : rnd no_t5 1508970993 1118811203 = no_t6 := by kernel_rfl
theorem no_s6 : rnd no_t6 2453635748 4038591613 = no_t7 := by kernel_rfl
theorem no_s7 : rnd no_t7 2870763221 4033643986 = no_t8 := by kernel_rfl
theorem no_s8 : rnd no_t8 3624381080 2147483648 = no_t9 := by kernel_rfl
theorem no_s9 : rnd no_t9 310598401 0 = no_t10 := by kernel_rfl
theorem no_s10 : rnd no_t10 607225278 0 = no_t11 := by kernel_rfl
theorem no_s11 : rnd no_t11 1426881987 0 = no_t12 := by kernel_rfl
theorem no_s12 : rnd no_t12 1925078388 0 = no_t13 := by kernel_rfl
theorem no_s13 : rnd no_t13 2162078206 0 = no_t14 := by kernel_rfl
theorem no_s14 : rnd no_t14 2614888103 0 = no_t15 := by kernel_rfl
theorem no_s15 : rnd no_t15 3248222580 768 = no_t16 := by kernel_rfl
theorem no_s16 : rnd no_t16 3835390401 2042575203 = no_t17 := by kernel_rfl
theorem no_s17 : rnd no_t17 4022224774 598067241 = no_t18 := by kernel_rfl
theorem no_s18 : rnd no_t18 264347078 1382921180 = no_t19 := by kernel_rfl
theorem no_s19 : rnd no_t19 604807628 1092021291 = no_t20 := by kernel_rfl
theorem no_s20 : rnd no_t20 770255983 2202992977 = no_t21 := by kernel_rfl
theorem no_s21 : rnd no_t21 1249150122 3541650942 = no_t22 := by kernel_rfl
theorem no_s22 : rnd no_t22 1555081692 3958644533 = no_t23 := by kernel_rfl
theorem no_s23 : rnd no_t23 1996064986 178279665 = no_t24 := by kernel_rfl
theorem no_s24 : rnd no_t24 2554220882 804027820 = no_t25 := by kernel_rfl
theorem no_s25 : rnd no_t25 2821834349 1934737389 = no_t26 := by kernel_rfl
theorem no_s26 : rnd no_t26 2952996808 4068431167 = no_t27 := by kernel_rfl
theorem no_s27 : rnd no_t27 3210313671 1801897214 = no_t28 := by kernel_rfl
theorem no_s28 : rnd no_t28 3336571891 320726691 = no_t29 := by kernel_rfl
theorem no_s29 : rnd no_t29 3584528711 2800631971 = no_t30 := by kernel_rfl
theorem no_s30 : rnd no_t30 113926993 1524728299 = no_t31 := by kernel_rfl
theorem no_s31 : rnd no_t31 338241895 536142871 = no_t32 := by kernel_rfl
theorem no_s32 : rnd no_t32 666307205 36254232 = no_t33 := by kernel_rfl
theorem no_s33 : rnd no_t33 773529912 3805423660 = no_t34 := by kernel_rfl
theorem no_s34 : rnd no_t34 1294757372 1657676815 = no_t35 := by kernel_rfl
theorem no_s35 : rnd no_t35 1396182291 412830594 = no_t36 := by kernel_rfl
theorem no_s36 : rnd no_t36 1695183700 3046563981 = no_t37 := by kernel_rfl
theorem no_s37 : rnd no_t37 1986661051 1813400218 = no_t38 := by kernel_rfl
theorem no_s38 : rnd no_t38 2177026350 2933921196 = no_t39 := by kernel_rfl
theorem no_s39 : rnd no_t39 2456956037 999842265 = no_t40 := by kernel_rfl
theorem no_s40 : rnd no_t40 2730485921 3598641367 = no_t41 := by kernel_rfl
theorem no_s41 : rnd no_t41 2820302411 3353225525 = no_t42 := by kernel_rfl
theorem no_s42 : rnd no_t42 3259730800 4108631770 = no_t43 := by kernel_rfl
theorem no_s43 : rnd no_t43 3345764771 813209095 = no_t44 := by kernel_rfl
theorem no_s44 : rnd no_t44 3516065817 192433196 = no_t45 := by kernel_rfl
theorem no_s45 : rnd no_t45 3600352804 1831918571 = no_t46 := by kernel_rfl
theorem no_s46 : rnd no_t46 4094571909 3671060795 = no_t47 := by kernel_rfl
theorem no_s47 : rnd no_t47 275423344 3922647203 = no_t48 := by kernel_rfl
theorem no_s48 : rnd no_t48 430227734 2686999280 = no_t49 := by kernel_rfl
theorem no_s49 : rnd no_t49 506948616 718692840 = no_t50 := by kernel_rfl
theorem no_s50 : rnd no_t50 659060556 2400707038 = no_t51 := by kernel_rfl
theorem no_s51 : rnd no_t51 883997877 3604077068 = no_t52 := by kernel_rfl
theorem no_s52 : rnd no_t52 958139571 3686502092 = no_t53 := by kernel_rfl
theorem no_s53 : rnd no_t53 1322822218 1732471487 = no_t54 := by kernel_rfl
theorem no_s54 : rnd no_t54 1537002063 4239030454 = no_t55 := by kernel_rfl
theorem no_s55 : rnd no_t55 1747873779 3274252720 = no_t56 := by kernel_rfl
theorem no_s56 : rnd no_t56 1955562222 1845550752 = no_t57 := by kernel_rfl
theorem no_s57 : rnd no_t57 2024104815 2425922155 = no_t58 := by kernel_rfl
theorem no_s58 : rnd no_t58 2227730452 1849983951 = no_t59 := by kernel_rfl
theorem no_s59 : rnd no_t59 2361852424 2617490701 = no_t60 := by kernel_rfl
theorem no_s60 : rnd no_t60 2428436474 835200059 = no_t61 := by kernel_rfl
theorem no_s61 : rnd no_t61 2756734187 2742970757 = no_t62 := by kernel_rfl
theorem no_s62 : rnd no_t62 3204031479 2706529429 = no_t63 := by kernel_rfl
theorem no_s63 : rnd no_t63 3329325298 899933550 = no_t64 := by kernel_rfl
theorem no_r0 : rounds no_t0 noW 0 = no_t0 := rfl
theorem no_r1 : rounds no_t0 noW 1 = no_t1 := rounds_nx _ _ 0 _ _ _ _ no_r0 rfl rfl no_s0
theorem no_r2 : rounds no_t0 noW 2 = no_t2 := rounds_nx _ _ 1 _ _ _ _ no_r1 rfl rfl no_s1
theorem no_r3 : rounds no_t0 noW 3 = no_t3 := rounds_nx _ _ 2 _ _ _ _ no_r2 rfl rfl no_s2
theorem no_r4 : rounds no_t0 noW 4 = no_t4 := rounds_nx _ _ 3 _ _ _ _ no_r3 rfl rfl no_s3
theorem no_r5 : rounds no_t0 noW 5 = no_t5 := rounds_nx _ _ 4 _ _ _ _ no_r4 rfl rfl no_s4
theorem no_r6 : rounds no_t0 noW 6 = no_t6 := rounds_nx _ _ 5 _ _ _ _ no_r5 rfl rfl no_s5
theorem no_r7 : rounds no_t0 noW 7 = no_t7 := rounds_nx _ _ 6 _ _ _ _ no_r6 rfl rfl no_s6
theorem no_r8 : rounds no_t0 noW 8 = no_t8 := rounds_nx _ _ 7 _ _ _ _ no_r7 rfl rfl no_s7
theorem no_r9 : rounds no_t0 noW 9 = no_t9 := rounds_nx _ _ 8 _ _ _ _ no_r8 rfl rfl no_s8
theorem no_r10 : rounds no_t0 noW 10 = no_t10 := rounds_nx _ _ 9 _ _ _ _ no_r9 rfl rfl no_s9
theorem no_r11 : rounds no_t0 noW 11 = no_t11 := rounds_nx _ _ 10 _ _ _ _ no_r10 rfl rfl no_s10
theorem no_r12 : rounds no_t0 noW 12 = no_t12 := rounds_nx _ _ 11 _ _ _ _ no_r11 rfl rfl no_s11
theorem no_r13 : rounds no_t0 noW 13 = no_t13 := rounds_nx _ _ 12 _ _ _ _ no_r12 rfl rfl no_s12
theorem no_r14 : rounds no_t0 noW 14 = no_t14 := rounds_nx _ _ 13 _ _ _ _ no_r13 rfl rfl no_s13
theorem no_r15 : rounds no_t0 noW 15 = no_t15 := rounds_nx _ _ 14 _ _ _ _ no_r14 rfl rfl no_s14
theorem no_r16 : rounds no_t0 noW 16 = no_t16 := rounds_nx _ _ 15 _ _ _ _ no_r15 rfl rfl no_s15
theorem no_r17 : rounds no_t0 noW 17 = no_t17 := rounds_nx _ _ 16 _ _ _ _ no_r16 rfl rfl no_s16
theorem no_r18 : rounds no_t0 noW 18 = no_t18 := rounds_nx _ _ 17 _ _ _ _ no_r17 rfl rfl no_s17
theorem no_r19 : rounds no_t0 noW 19 = no_t19 := rounds_nx _ _ 18 _ _ _ _ no_r18 rfl rfl no_s18
theorem no_r20 : rounds no_t0 noW 20 = no_t20 := rounds_nx _ _ 19 _ _ _ _ no_r19 rfl rfl no_s19
theorem no_r21 : rounds no_t0 noW 21 = no_t21 := rounds_nx _ _ 20 _ _ _ _ no_r20 rfl rfl no_s20
theorem no_r22 : rounds no_t0 noW 22 = no_t22 := rounds_nx _ _ 21 _ _ _ _ no_r21 rfl rfl no_s21
theorem no_r23 : rounds no_t0 noW 23 = no_t23 := rounds_nx _ _ 22 _ _ _ _ no_r22 rfl rfl no_s22
theorem no_r24 : rounds no_t0 noW 24 = no_t24 := rounds_nx _ _ 23 _ _ _ _ no_r23 rfl rfl no_s23
theorem no_r25 : rounds no_t0 noW 25 = no_t25 := rounds_nx _ _ 24 _ _ _ _ no_r24 rfl rfl no_s24
theorem no_r26 : rounds no_t0 noW 26 = no_t26 := rounds_nx _ _ 25 _ _ _ _ no_r25 rfl rfl no_s25
theorem no_r27 : rounds no_t0 noW 27 = no_t27 := rounds_nx _ _ 26 _ _ _ _ no_r26 rfl rfl no_s26
theorem no_r28 : rounds no_t0 noW 28 = no_t28 := rounds_nx _ _ 27 _ _ _ _ no_r27 rfl rfl no_s27
theorem no_r29 : rounds no_t0 noW 29 = no_t29 := rounds_nx _ _ 28 _ _ _ _ no_r28 rfl rfl no_s28
theorem no_r30 : rounds no_t0 noW 30 = no_t30 := rounds_nx _ _ 29 _ _ _ _ no_r29 rfl rfl no_s29
theorem no_r31 : rounds no_t0 noW 31 = no_t31 := rounds_nx _ _ 30 _ _ _ _ no_r30 rfl rfl no_s30
theorem no_r32 : rounds no_t0 noW 32 = no_t32 := rounds_nx _ _ 31 _ _ _ _ no_r31 rfl rfl no_s31
theorem no_r33 : rounds no_t0 noW 33 = no_t33 := rounds_nx _ _ 32 _ _ _ _ no_r32 rfl rfl no_s32
theorem no_r34 : rounds no_t0 noW 34 = no_t34 := rounds_nx _ _ 33 _ _ _ _ no_r33 rfl rfl no_s33
theorem no_r35 : rounds no_t0 noW 35 = no_t35 := rounds_nx _ _ 34 _ _ _ _ no_r34 rfl rfl no_s34
theorem no_r36 : rounds no_t0 noW 36 = no_t36 := rounds_nx _ _ 35 _ _ _ _ no_r35 rfl rfl no_s35
theorem no_r37 : rounds no_t0 noW 37 = no_t37 := rounds_nx _ _ 36 _ _ _ _ no_r36 rfl rfl no_s36
theorem no_r38 : rounds no_t0 noW 38 = no_t38 := rounds_nx _ _ 37 _ _ _ _ no_r37 rfl rfl no_s37
theorem no_r39 : rounds no_t0 noW 39 = no_t39 := rounds_nx _ _ 38 _ _ _ _ no_r38 rfl rfl no_s38
theorem no_r40 : rounds no_t0 noW 40 = no_t40 := rounds_nx _ _ 39 _ _ _ _ no_r39 rfl rfl no_s39
theorem no_r41 : rounds no_t0 noW 41 = no_t41 := rounds_nx _ _ 40 _ _ _ _ no_r40 rfl rfl no_s40
theorem no_r42 : rounds no_t0 noW 42 = no_t42 := rounds_nx _ _ 41 _ _ _ _ no_r41 rfl rfl no_s41
theorem no_r43 : rounds no_t0 noW 43 = no_t43 := rounds_nx _ _ 42 _ _ _ _ no_r42 rfl rfl no_s42
theorem no_r44 : rounds no_t0 noW 44 = no_t44 := rounds_nx _ _ 43 _ _ _ _ no_r43 rfl rfl no_s43
theorem no_r45 : rounds no_t0 noW 45 = no_t45 := rounds_nx _ _ 44 _ _ _ _ no_r44 rfl rfl no_s44
theorem no_r46 : rounds no_t0 noW 46 = no_t46 := rounds_nx _ _ 45 _ _ _ _ no_r45 rfl rfl no_s45
theorem no_r47 : rounds no_t0 noW 47 = no_t47 := rounds_nx _ _ 46 _ _ _ _ no_r46 rfl rfl no_s46
theorem no_r48 : rounds no_t0 noW 48 = no_t48 := rounds_nx _ _ 47 _ _ _ _ no_r47 rfl rfl no_s47
theorem no_r49 : rounds no_t0 noW 49 = no_t49 := rounds_nx _ _ 48 _ _ _ _ no_r48 rfl rfl no_s48
theorem no_r50 : rounds no_t0 noW 50 = no_t50 := rounds_nx _ _ 49 _ _ _ _ no_r49 rfl rfl no_s49
theorem no_r51 : rounds no_t0 noW 51 = no_t51 := rounds_nx _ _ 50 _ _ _ _ no_r50 rfl rfl no_s50
theorem no_r52 : rounds no_t0 noW 52 = no_t52 := rounds_nx _ _ 51 _ _ _ _ no_r51 rfl rfl no_s51
theorem no_r53 : rounds no_t0 noW 53 = no_t53 := rounds_nx _ _ 52 _ _ _ _ no_r52 rfl rfl no_s52
theorem no_r54 : rounds no_t0 noW 54 = no_t54 := rounds_nx _ _ 53 _ _ _ _ no_r53 rfl rfl no_s53
theorem no_r55 : rounds no_t0 noW 55 = no_t55 := rounds_nx _ _ 54 _ _ _ _ no_r54 rfl rfl no_s54
theorem no_r56 : rounds no_t0 noW 56 = no_t56 := rounds_nx _ _ 55 _ _ _ _ no_r55 rfl rfl no_s55
theorem no_r57 : rounds no_t0 noW 57 = no_t57 := rounds_nx _ _ 56 _ _ _ _ no_r56 rfl rfl no_s56
theorem no_r58 : rounds no_t0 noW 58 = no_t58 := rounds_nx _ _ 57 _ _ _ _ no_r57 rfl rfl no_s57
theorem no_r59 : rounds no_t0 noW 59 = no_t59 := rounds_nx _ _ 58 _ _ _ _ no_r58 rfl rfl no_s58
theorem no_r60 : rounds no_t0 noW 60 = no_t60 := rounds_nx _ _ 59 _ _ _ _ no_r59 rfl rfl no_s59
theorem no_r61 : rounds no_t0 noW 61 = no_t61 := rounds_nx _ _ 60 _ _ _ _ no_r60 rfl rfl no_s60
theorem no_r62 : rounds no_t0 noW 62 = no_t62 := rounds_nx _ _ 61 _ _ _ _ no_r61 rfl rfl no_s61
theorem no_r63 : rounds no_t0 noW 63 = no_t63 := rounds_nx _ _ 62 _ _ _ _ no_r62 rfl rfl no_s62
theorem no_r64 : rounds no_t0 noW 64 = no_t64 := rounds_nx _ _ 63 _ _ _ _ no_r63 rfl rfl no_s63
def noN : List Int := [3054725018, 135584236, 1999607255, 2026069957, 4279670724, 2473678419, 3334935060, 1116915117]
theorem no_block : blockZ koN noB = noN := by
  have h : (sched noB 64) = noW := no_w64
  unfold blockZ
  rw [h, show St.ofL koN = no_t0 from rfl, no_r64]
  show _ = _
  kernel_rfl
def noM : List Int := [231, 43, 189, 77, 66, 154, 201, 20, 168, 166, 197, 189, 73, 99, 47, 246, 176, 13, 79, 239, 66, 175, 180, 67, 240, 184, 4, 125, 240, 108, 133, 210]
def noSum : List Int := [182, 19, 103, 154, 8, 20, 217, 236, 119, 47, 149, 215, 120, 195, 95, 197, 255, 22, 151, 196, 147, 113, 86, 83, 198, 199, 18, 20, 66, 146, 197, 173]
theorem no_sum : sumZ (koB ++ noM) = noSum := by
  rw [sum_two (koB ++ noM) koB noB 96 koN noN (by kernel_rfl) (by kernel_rfl) rfl rfl ko_block no_block]
  kernel_rfl
def diB : List Int := [97, 0, 0, 0, 0, 0, 0, 0, 0, 0, 1, 128, 0, 0, 0, 0, 0, 0, 0, 0, 0, 0, 0, 0, 0, 0, 0, 0, 0, 0, 0, 0, 0, 0, 0, 0, 0, 0, 0, 0, 0, 0, 0, 0, 0, 0, 0, 0, 0, 0, 0, 0, 0, 0, 0, 0, 0, 0, 0, 0, 0, 0, 2, 88]
def diW : List Int := [1627389952, 0, 384, 0, 0, 0, 0, 0, 0, 0, 0, 0, 0, 0, 0, 600, 1627389952, 29818931, 1605152, 1612681499, 819201552, 985062376, 2210803145, 394770363, 3578003523, 759662334, 3762049573, 1686079738, 3726974709, 3108081435, 4105278875, 3630634694, 750968352, 2870755472, 2013020014, 246701320, 3828766624, 3701229105, 3598443536, 2370274816, 661529697, 477452357, 3760173841, 128495590, 774933939, 501565673, 745223556, 4287489163, 1774410286, 3086170459, 1282890009, 20372442, 3011443289, 2181384084, 1770476966, 1373536608, 4286971015, 3430725589, 172438913, 3376522748, 2959421410, 781518897, 563554068, 2877911149]
theorem di_w16 : sched diB 16 = diW.take 16 := by kernel_rfl
theorem di_n16 : nextW (diW.take 16) = 1627389952 := by kernel_rfl
theorem di_n17 : nextW (diW.take 17) = 29818931 := by kernel_rfl
theorem di_n18 : nextW (diW.take 18) = 1605152 := by kernel_rfl
theorem di_n19 : nextW (diW.take 19) = 1612681499 := by kernel_rfl
theorem di_n20 : nextW (diW.take 20) = 819201552 := by kernel_rfl
theorem di_n21 : nextW (diW.take 21) = 985062376 := by kernel_rfl
theorem di_n22 : nextW (diW.take 22) = 2210803145 := by kernel_rfl
theorem di_n23 : nextW (diW.take 23) = 394770363 := by kernel_rfl
theorem di_n24 : nextW (diW.take 24) = 3578003523 := by kernel_rfl
theorem di_n25 : nextW (diW.take 25) = 759662334 := by kernel_rfl
theorem di_n26 : nextW (diW.take 26) = 3762049573 := by kernel_rfl
theorem di_n27 : nextW (diW.take 27) = 1686079738 := by kernel_rfl
theorem di_n28 : nextW (diW.take 28) = 3726974709 := by kernel_rfl
theorem di_n29 : nextW (diW.take 29) = 3108081435 := by kernel_rfl
theorem di_n30 : nextW (diW.take 30) = 4105278875 := by kernel_rfl
theorem di_n31 : nextW (diW.take 31) = 3630634694 := by kernel_rfl
theorem di_n32 : nextW (diW.take 32) = 750968352 := by kernel_rfl
theorem di_n33 : nextW (diW.take 33) = 2870755472 := by kernel_rfl
theorem di_n34 : nextW (diW.take 34) = 2013020014 := by kernel_rfl
theorem di_n35 : nextW (diW.take 35) = 246701320 := by kernel_rfl
theorem di_n36 : nextW (diW.take 36) = 3828766624 := by kernel_rfl
theorem di_n37 : nextW (diW.take 37) = 3701229105 := by kernel_rfl
theorem di_n38 : nextW (diW.take 38) = 3598443536 := by kernel_rfl
theorem di_n39 : nextW (diW.take 39) = 2370274816 := by kernel_rfl
theorem di_n40 : nextW (diW.take 40) = 661529697 := by kernel_rfl
theorem di_n41 : nextW (diW.take 41) = 477452357 := by kernel_rfl
theorem di_n42 : nextW (diW.take 42) = 3760173841 := by kernel_rfl
theorem di_n43 : nextW (diW.take 43) = 128495590 := by kernel_rfl
theorem di_n44 : nextW (diW.take 44) = 774933939 := by kernel_rfl
theorem di_n45 : nextW (diW.take 45) = 501565673 := by kernel_rfl
theorem di_n46 : nextW (diW.take 46) = 745223556 := by kernel_rfl
theorem di_n47 : nextW (diW.take 47) = 4287489163 := by kernel_rfl
theorem di_n48 : nextW (diW.take 48) = 1774410286 := by kernel_rfl
theorem di_n49 : nextW (diW.take 49) = 3086170459 := by kernel_rfl
theorem di_n50 : nextW (diW.take 50) = 1282890009 := by kernel_rfl
theorem di_n51 : nextW (diW.take 51) = 20372442 := by kernel_rfl
theorem di_n52 : nextW (diW.take 52) = 3011443289 := by kernel_rfl
theorem di_n53 : nextW (diW.take 53) = 2181384084 := by kernel_rfl
theorem di_n54 : nextW (diW.take 54) = 1770476966 := by kernel_rfl
theorem di_n55 : nextW (diW.take 55) = 1373536608 := by kernel_rfl
theorem di_n56 : nextW (diW.take 56) = 4286971015 := by kernel_rfl
theorem di_n57 : nextW (diW.take 57) = 3430725589 := by kernel_rfl
theorem di_n58 : nextW (diW.take 58) = 172438913 := by kernel_rfl
theorem di_n59 : nextW (diW.take 59) = 3376522748 := by kernel_rfl
theorem di_n60 : nextW (diW.take 60) = 2959421410 := by kernel_rfl
theorem di_n61 : nextW (diW.take 61) = 781518897 := by kernel_rfl
theorem di_n62 : nextW (diW.take 62) = 563554068 := by kernel_rfl
theorem di_n63 : nextW (diW.take 63) = 2877911149 := by kernel_rfl
theorem di_w17 : sched diB 17 = diW.take 17 := sched_nx diB 16 _ _ _ (by decide) di_w16 di_n16 rfl
theorem di_w18 : sched diB 18 = diW.take 18 := sched_nx diB 17 _ _ _ (by decide) di_w17 di_n17 rfl
theorem di_w19 : sched diB 19 = diW.take 19 := sched_nx diB 18 _ _ _ (by decide) di_w18 di_n18 rfl
theorem di_w20 : sched diB 20 = diW.take 20 := sched_nx diB 19 _ _ _ (by decide) di_w19 di_n19 rfl
theorem di_w21 : sched diB 21 = diW.take 21 := sched_nx diB 20 _ _ _ (by decide) di_w20 di_n20 rfl
theorem di_w22 : sched diB 22 = diW.take 22 := sched_nx diB 21 _ _ _ (by decide) di_w21 di_n21 rfl
theorem di_w23 : sched diB 23 = diW.take 23 := sched_nx diB 22 _ _ _ (by decide) di_w22 di_n22 rfl
theorem di_w24 : sched diB 24 = diW.take 24 := sched_nx diB 23 _ _ _ (by decide) di_w23 di_n23 rfl
theorem di_w25 : sched diB 25 = diW.take 25 := sched_nx diB 24 _ _ _ (by decide) di_w24 di_n24 rfl
theorem di_w26 : sched diB 26 = diW.take 26 := sched_nx diB 25 _ _ _ (by decide) di_w25 di_n25 rfl
theorem di_w27 : sched diB 27 = diW.take 27 := sched_nx diB 26 _ _ _ (by decide) di_w26 di_n26 rfl
theorem di_w28 : sched diB 28 = diW.take 28 := sched_nx diB 27 _ _ _ (by decide) di_w27 di_n27 rfl
theorem di_w29 : sched diB 29 = diW.take 29 := sched_nx diB 28 _ _ _ (by decide) di_w28 di_n28 rfl
theorem di_w30 : sched diB 30 = diW.take 30 := sched_nx diB 29 _ _ _ (by decide) di_w29 di_n29 rfl
theorem di_w31 : sched diB 31 = diW.take 31 := sched_nx diB 30 _ _ _ (by decide) di_w30 di_n30 rfl
theorem di_w32 : sched diB 32 = diW.take 32 := sched_nx diB 31 _ _ _ (by decide) di_w31 di_n31 rfl
theorem di_w33 : sched diB 33 = diW.take 33 := sched_nx diB 32 _ _ _ (by decide) di_w32 di_n32 rfl
theorem di_w34 : sched diB 34 = diW.take 34 := sched_nx diB 33 _ _ _ (by decide) di_w33 di_n33 rfl
theorem di_w35 : sched diB 35 = diW.take 35 := sched_nx diB 34 _ _ _ (by decide) di_w34 di_n34 rfl
theorem di_w36 : sched diB 36 = diW.take 36 := sched_nx diB 35 _ _ _ (by decide) di_w35 di_n35 rfl
theorem di_w37 : sched diB 37 = diW.take 37 := sched_nx diB 36 _ _ _ (by decide) di_w36 di_n36 rfl
theorem di_w38 : sched diB 38 = diW.take 38 := sched_nx diB 37 _ _ _ (by decide) di_w37 di_n37 rfl
theorem di_w39 : sched diB 39 = diW.take 39 := sched_nx diB 38 _ _ _ (by decide) di_w38 di_n38 rfl
theorem di_w40 : sched diB 40 = diW.take 40 := sched_nx diB 39 _ _ _ (by decide) di_w39 di_n39 rfl
theorem di_w41 : sched diB 41 = diW.take 41 := sched_nx diB 40 _ _ _ (by decide) di_w40 di_n40 rfl
theorem di_w42 : sched diB 42 = diW.take 42 := sched_nx diB 41 _ _ _ (by decide) di_w41 di_n41 rfl
theorem di_w43 : sched diB 43 = diW.take 43 := sched_nx diB 42 _ _ _ (by decide) di_w42 di_n42 rfl
theorem di_w44 : sched diB 44 = diW.take 44 := sched_nx diB 43 _ _ _ (by decide) di_w43 di_n43 rfl
theorem di_w45 : sched diB 45 = diW.take 45 := sched_nx diB 44 _ _ _ (by decide) di_w44 di_n44 rfl
theorem di_w46 : sched diB 46 = diW.take 46 := sched_nx diB 45 _ _ _ (by decide) di_w45 di_n45 rfl
theorem di_w47 : sched diB 47 = diW.take 47 := sched_nx diB 46 _ _ _ (by decide) di_w46 di_n46 rfl
theorem di_w48 : sched diB 48 = diW.take 48 := sched_nx diB 47 _ _ _ (by decide) di_w47 di_n47 rfl
theorem di_w49 : sched diB 49 = diW.take 49 := sched_nx diB 48 _ _ _ (by decide) di_w48 di_n48 rfl
theorem di_w50 : sched diB 50 = diW.take 50 := sched_nx diB 49 _ _ _ (by decide) di_w49 di_n49 rfl
theorem di_w51 : sched diB 51 = diW.take 51 := sched_nx diB 50 _ _ _ (by decide) di_w50 di_n50 rfl
theorem di_w52 : sched diB 52 = diW.take 52 := sched_nx diB 51 _ _ _ (by decide) di_w51 di_n51 rfl
theorem di_w53 : sched diB 53 = diW.take 53 := sched_nx diB 52 _ _ _ (by decide) di_w52 di_n52 rfl
theorem di_w54 : sched diB 54 = diW.take 54 := sched_nx diB 53 _ _ _ (by decide) di_w53 di_n53 rfl
theorem di_w55 : sched diB 55 = diW.take 55 := sched_nx diB 54 _ _ _ (by decide) di_w54 di_n54 rfl
theorem di_w56 : sched diB 56 = diW.take 56 := sched_nx diB 55 _ _ _ (by decide) di_w55 di_n55 rfl
theorem di_w57 : sched diB 57 = diW.take 57 := sched_nx diB 56 _ _ _ (by decide) di_w56 di_n56 rfl
theorem di_w58 : sched diB 58 = diW.take 58 := sched_nx diB 57 _ _ _ (by decide) di_w57 di_n57 rfl
theorem di_w59 : sched diB 59 = diW.take 59 := sched_nx diB 58 _ _ _ (by decide) di_w58 di_n58 rfl
theorem di_w60 : sched diB 60 = diW.take 60 := sched_nx diB 59 _ _ _ (by decide) di_w59 di_n59 rfl
theorem di_w61 : sched diB 61 = diW.take 61 := sched_nx diB 60 _ _ _ (by decide) di_w60 di_n60 rfl
theorem di_w62 : sched diB 62 = diW.take 62 := sched_nx diB 61 _ _ _ (by decide) di_w61 di_n61 rfl
theorem di_w63 : sched diB 63 = diW.take 63 := sched_nx diB 62 _ _ _ (by decide) di_w62 di_n62 rfl
theorem di_w64 : sched diB 64 = diW.take 64 := sched_nx diB 63 _ _ _ (by decide) di_w63 di_n63 rfl
def di_t0 : St := ⟨4099202733, 2535792975, 2430268064, 3742509290, 1692759311, 2744271233, 2185925419, 4175449650⟩
def di_t1 : St := ⟨2635064636, 4099202733, 2535792975, 2430268064, 214759581, 1692759311, 2744271233, 2185925419⟩
def di_t2 : St := ⟨1669396021, 2635064636, 4099202733, 2535792975, 773988452, 214759581, 1692759311, 2744271233⟩
def di_t3 : St := ⟨316611826, 1669396021, 2635064636, 4099202733, 3396031488, 773988452, 214759581, 1692759311⟩
def di_t4 : St := ⟨1187080051, 316611826, 1669396021, 2635064636, 137476189, 3396031488, 773988452, 214759581⟩
def di_t5 : St := ⟨236835497, 1187080051, 316611826, 1669396021, 2025103014, 137476189, 3396031488, 773988452⟩
def di_t6 : St := ⟨3528759709, 236835497, 1187080051, 316611826, 2373097571, 2025103014, 137476189, 3396031488⟩
def di_t7 : St := ⟨3495459865, 3528759709, 236835497, 1187080051, 2999189960, 2373097571, 2025103014, 137476189⟩
def di_t8 : St := ⟨3173135763, 3495459865, 3528759709, 236835497, 1012779497, 2999189960, 2373097571, 2025103014⟩
def di_t9 : St := ⟨1420282658, 3173135763, 3495459865, 3528759709, 3346150833, 1012779497, 2999189960, 2373097571⟩
def di_t10 : St := ⟨3292811127, 1420282658, 3173135763, 3495459865, 1868467549, 3346150833, 1012779497, 2999189960⟩
def di_t11 : St := ⟨257444523, 3292811127, 1420282658, 3173135763, 1878493347, 1868467549, 3346150833, 1012779497⟩
def di_t12 : St := ⟨515933593, 257444523, 3292811127, 1420282658, 2683939764, 1878493347, 1868467549, 3346150833⟩
def di_t13 : St := ⟨2047927990, 515933593, 257444523, 3292811127, 1460252420, 2683939764, 1878493347, 1868467549⟩
def di_t14 : St := ⟨2889623585, 2047927990, 515933593, 257444523, 1770160155, 1460252420, 2683939764, 1878493347⟩
def di_t15 : St := ⟨2878080220, 2889623585, 2047927990, 515933593, 2721103229, 1770160155, 1460252420, 2683939764⟩
def di_t16 : St := ⟨4264734841, 2878080220, 2889623585, 2047927990, 918675813, 2721103229, 1770160155, 1460252420⟩
def di_t17 : St := ⟨3304325714, 4264734841, 2878080220, 2889623585, 1514540572, 918675813, 2721103229, 1770160155⟩
def di_t18 : St := ⟨28591244, 3304325714, 4264734841, 2878080220, 1268383790, 1514540572, 918675813, 2721103229⟩
def di_t19 : St := ⟨1544090612, 28591244, 3304325714, 4264734841, 1304546289, 1268383790, 1514540572, 918675813⟩
def di_t20 : St := ⟨1653780678, 1544090612, 28591244, 3304325714, 1889669281, 1304546289, 1268383790, 1514540572⟩
def di_t21 : St := ⟨1516609524, 1653780678, 1544090612, 28591244, 2322862164, 1889669281, 1304546289, 1268383790⟩
def di_t22 : St := ⟨1381829267, 1516609524, 1653780678, 1544090612, 2060203379, 2322862164, 1889669281, 1304546289⟩
def di_t23 : St := ⟨2226830639, 1381829267, 1516609524, 1653780678, 2588309832, 2060203379, 2322862164, 1889669281⟩
def di_t24 : St := ⟨1996639284, 2226830639, 1381829267, 1516609524, 2758879415, 2588309832, 2060203379, 2322862164⟩
def di_t25 : St := ⟨2401351544, 1996639284, 2226830639, 1381829267, 504975474, 2758879415, 2588309832, 2060203379⟩
def di_t26 : St := ⟨1160052647, 2401351544, 1996639284, 2226830639, 4052571663, 504975474, 2758879415, 2588309832⟩
def di_t27 : St := ⟨2118187519, 1160052647, 2401351544, 1996639284, 4232916000, 4052571663, 504975474, 2758879415⟩
def di_t28 : St := ⟨1049453749, 2118187519, 1160052647, 2401351544, 1390575465, 4232916000, 4052571663, 504975474⟩
def di_t29 : St := ⟨3412557838, 1049453749, 2118187519, 1160052647, 2095824915, 1390575465, 4232916000, 4052571663⟩
def di_t30 : St := ⟨919502633, 3412557838, 1049453749, 2118187519, 3506314751, 2095824915, 1390575465, 4232916000⟩
def di_t31 : St := ⟨1447072010, 919502633, 3412557838, 1049453749, 145463674, 3506314751, 2095824915, 1390575465⟩
def di_t32 : St := ⟨3168366412, 1447072010, 919502633, 3412557838, 2241430488, 145463674, 3506314751, 2095824915⟩
def di_t33 : St := ⟨1607700135, 3168366412, 1447072010, 919502633, 3280207810, 2241430488, 145463674, 3506314751⟩
def di_t34 : St := ⟨2991501816, 1607700135, 3168366412, 1447072010, 2639733193, 3280207810, 2241430488, 145463674⟩
def di_t35 : St := ⟨1554221583, 2991501816, 1607700135, 3168366412, 1517719147, 2639733193, 3280207810, 2241430488⟩
def di_t36 : St := ⟨1155581597, 1554221583, 2991501816, 1607700135, 2575069261, 1517719147, 2639733193, 3280207810⟩
def di_t37 : St := ⟨3872762705, 1155581597, 1554221583, 2991501816, 184439721, 2575069261, 1517719147, 2639733193⟩
def di_t38 : St := ⟨2977326848, 3872762705, 1155581597, 1554221583, 2840359673, 184439721, 2575069261, 1517719147⟩
def di_t39 : St := ⟨2643716782, 2977326848, 3872762705, 1155581597, 1199471862, 2840359673, 184439721, 2575069261⟩
def di_t40 : St := ⟨796957484, 2643716782, 2977326848, 3872762705, 13552263, 1199471862, 2840359673, 184439721⟩
def di_t41 : St := ⟨948048057, 796957484, 2643716782, 2977326848, 2430002797, 13552263, 1199471862, 2840359673⟩
def di_t42 : St := ⟨3346776885, 948048057, 796957484, 2643716782, 2009328301, 2430002797, 13552263, 1199471862⟩
def di_t43 : St := ⟨3007049309, 3346776885, 948048057, 796957484, 2580621760, 2009328301, 2430002797, 13552263⟩
def di_t44 : St := ⟨1499607116, 3007049309, 3346776885, 948048057, 3826054327, 2580621760, 2009328301, 2430002797⟩
def di_t45 : St := ⟨1676396867, 1499607116, 3007049309, 3346776885, 2885058872, 3826054327, 2580621760, 2009328301⟩
def di_t46 : St := ⟨208856057, 1676396867, 1499607116, 3007049309, 582868576, 2885058872, 3826054327, 2580621760⟩
def di_t47 : St := ⟨2485053172, 208856057, 1676396867, 1499607116, 1721545904, 582868576, 2885058872, 3826054327⟩
def di_t48 : St := ⟨663009116, 2485053172, 208856057, 1676396867, 322123933, 1721545904, 582868576, 2885058872⟩
def di_t49 : St := ⟨4133667040, 663009116, 2485053172, 208856057, 3025813691, 322123933, 1721545904, 582868576⟩
def di_t50 : St := ⟨2276089815, 4133667040, 663009116, 2485053172, 746183653, 3025813691, 322123933, 1721545904⟩
def di_t51 : St := ⟨1149062429, 2276089815, 4133667040, 663009116, 2060412804, 746183653, 3025813691, 322123933⟩
def di_t52 : St := ⟨259460811, 1149062429, 2276089815, 4133667040, 2748347030, 2060412804, 746183653, 3025813691⟩
def di_t53 : St := ⟨562006103, 259460811, 1149062429, 2276089815, 2795791649, 2748347030, 2060412804, 746183653⟩
def di_t54 : St := ⟨3808872413, 562006103, 259460811, 1149062429, 4033504745, 2795791649, 2748347030, 2060412804⟩
def di_t55 : St := ⟨2484780031, 3808872413, 562006103, 259460811, 1475255280, 4033504745, 2795791649, 2748347030⟩
def di_t56 : St := ⟨2274690490, 2484780031, 3808872413, 562006103, 2782369836, 1475255280, 4033504745, 2795791649⟩
def di_t57 : St := ⟨750187791, 2274690490, 2484780031, 3808872413, 4009254287, 2782369836, 1475255280, 4033504745⟩
def di_t58 : St := ⟨451129144, 750187791, 2274690490, 2484780031, 3235044624, 4009254287, 2782369836, 1475255280⟩
def di_t59 : St := ⟨1439039986, 451129144, 750187791, 2274690490, 3915660287, 3235044624, 4009254287, 2782369836⟩
def di_t60 : St := ⟨2496228657, 1439039986, 451129144, 750187791, 2090002070, 3915660287, 3235044624, 4009254287⟩
def di_t61 : St := ⟨410567805, 2496228657, 1439039986, 451129144, 123883784, 2090002070, 3915660287, 3235044624⟩
def di_t62 : St := ⟨3416517209, 410567805, 2496228657, 1439039986, 1255689576, 123883784, 2090002070, 3915660287⟩
def di_t63 : St := ⟨2830509537, 3416517209, 410567805, 2496228657, 3053615795, 1255689576, 123883784, 2090002070⟩
def di_t64 : St := ⟨2985023615, 2830509537, 3416517209, 410567805, 541791948, 3053615795, 1255689576, 123883784⟩
theorem di_s0 : rnd di_t0 1116352408 1627389952 = di_t1 := by kernel_rfl
theorem di_s1 : rnd di_t1 1899447441 0 = di_t2 := by kernel_rfl
theorem di_s2 : rnd di_t2 3049323471 384 = di_t3 := by kernel_rfl
theorem di_s3 : rnd di_t3 3921009573 0 = di_t4 := by kernel_rfl
theorem di_s4 : rnd di_t4 961987163 0 = di_t5 := by kernel_rfl
theorem di_s5 : rnd di_t5 1508970993 0 = di_t6 := by kernel_rfl
theorem di_s6 : rnd di_t6 2453635748 0 = di_t7 := by kernel_rfl
theorem di_s7 : rnd di_t7 2870763221 0 = di_t8 := by kernel_rfl
theorem di_s8 : rnd di_t8 3624381080 0 = di_t9 := by kernel_rfl
theorem di_s9 : rnd di_t9 310598401 0 = di_t10 := by kernel_rfl
theorem di_s10 : rnd di_t10 607225278 0 = di_t11 := by kernel_rfl
theorem di_s11 : rnd di_t11 1426881987 0 = di_t12 := by kernel_rfl
theorem di_s12 : rnd di_t12 1925078388 0 = di_t13 := by kernel_rfl
theorem di_s13 : rnd di_t13 2162078206 0 = di_t14 := by kernel_rfl
theorem di_s14 : rnd di_t14 2614888103 0 = di_t15 := by kernel_rfl
theorem di_s15 : rnd di_t15 3248222580 600 = di_t16 := by kernel_rfl
theorem di_s16 : rnd di_t16 3835390401 1627389952 = di_t17 := by kernel_rfl
theorem di_s17 : rnd di_t17 4022224774 29818931 = di_t18 := by kernel_rfl
theorem di_s18 : rnd di_t18 264347078 1605152 = di_t19 := by kernel_rfl
theorem di_s19 : rnd di_t19 604807628 1612681499 = di_t20 := by kernel_rfl
theorem di_s20 : rnd di_t20 770255983 819201552 = di_t21 := by kernel_rfl
theorem di_s21 : rnd di_t21 1249150122 985062376 = di_t22 := by kernel_rfl
theorem di_s22 : rnd di_t22 1555081692 2210803145 = di_t23 := by kernel_rfl
theorem di_s23 : rnd di_t23 1996064986 394770363 = di_t24 := by kernel_rfl
theorem di_s24 : rnd di_t24 2554220882 3578003523 = di_t25 := by kernel_rfl
theorem di_s25 : rnd di_t25 2821834349 759662334 = di_t26 := by kernel_rfl
theorem di_s26 : rnd di_t26 2952996808 3762049573 = di_t27 := by kernel_rfl
theorem di_s27 : rnd di_t27 3210313671 1686079738 = di_t28 := by kernel_rfl
theorem di_s28 : rnd di_t28 3336571891 3726974709 = di_t29 := by kernel_rfl
theorem di_s29 : rnd di_t29 3584528711 3108081435 = di_t30 := by kernel_rfl
theorem di_s30 : rnd di_t30 113926993 4105278875 = di_t31 := by kernel_rfl
theorem di_s31 : rnd di_t31 338241895 3630634694 = di_t32 := by kernel_rfl
theorem di_s32 : rnd di_t32 666307205 750968352 = di_t33 := by kernel_rfl
theorem di_s33 : rnd di_t33 773529912 2870755472 = di_t34 := by kernel_rfl
theorem di_s34 : rnd di_t34 1294757372 2013020014 = di_t35 := by kernel_rfl
theorem di_s35 : rnd di_t35 1396182291 246701320 = di_t36 := by kernel_rfl
theorem di_s36 : rnd di_t36 1695183700 3828766624 = di_t37 := by kernel_rfl
theorem di_s37 : rnd di_t37 1986661051 3701229105 = di_t38 := by kernel_rfl
theorem di_s38 : rnd di_t38 2177026350 3598443536 = di_t39 := by kernel_rfl
theorem di_s39 : rnd di_t39 2456956037 2370274816 = di_t40 := by kernel_rfl
theorem di_s40 : rnd di_t40 2730485921 661529697 = di_t41 := by kernel_rfl
theorem di_s41 : rnd di_t41 2820302411 477452357 = di_t42 := by kernel_rfl
theorem di_s42 : rnd di_t42 3259730800 3760173841 = di_t43 := by kernel_rfl
theorem di_s43 : rnd di_t43 3345764771 128495590 = di_t44 := by kernel_rfl
theorem di_s44 : rnd di_t44 3516065817 774933939 = di_t45 := by kernel_rfl
theorem di_s45 : rnd di_t45 3600352804 501565673 = di_t46 := by kernel_rfl
theorem di_s46 : rnd di_t46 4094571909 745223556 = di_t47 := by kernel_rfl
theorem di_s47 : rnd di_t47 275423344 4287489163 = di_t48 := by kernel_rfl
theorem di_s48 : rnd di_t48 430227734 1774410286 = di_t49 := by kernel_rfl
theorem di_s49 : rnd di_t49 506948616 3086170459 = di_t50 := by kernel_rfl
theorem di_s50 : rnd di_t50 659060556 1282890009 = di_t51 := by kernel_rfl
theorem di_s51 : rnd di_t51 883997877 20372442 = di_t52 := by kernel_rfl
theorem di_s52 : rnd di_t52 958139571 3011443289 = di_t53 := by kernel_rfl
theorem di_s53 : rnd di_t53 1322822218 2181384084 = di_t54 := by kernel_rfl
theorem di_s54 : rnd di_t54 1537002063 1770476966 = di_t55 := by kernel_rfl
theorem di_s55 : rnd di_t55 1747873779 1373536608 = di_t56 := by kernel_rfl
theorem di_s56 : rnd di_t56 1955562222 4286971015 = di_t57 := by kernel_rfl
theorem di_s57 : rnd di_t57 2024104815 3430725589 = di_t58 := by kernel_rfl
theorem di_s58 : rnd di_t58 2227730452 172438913 = di_t59 := by kernel_rfl
theorem di_s59 : rnd di_t59 2361852424 3376522748 = di_t60 := by kernel_rfl
theorem di_s60 : rnd di_t60 2428436474 2959421410 = di_t61 := by kernel_rfl
theorem di_s61 : rnd di_t61 2756734187 781518897 = di_t62 := by kernel_rfl
theorem di_s62 : rnd di_t62 3204031479 563554068 = di_t63 := by kernel_rfl
theorem di_s63 : rnd di_t63 3329325298 2877911149 = di_t64 := by kernel_rfl
theorem di_r0 : rounds di_t0 diW 0 = di_t0 := rfl
theorem di_r1 : rounds di_t0 diW 1 = di_t1 := rounds_nx _ _ 0 _ _ _ _ di_r0 rfl rfl di_s0
theorem di_r2 : rounds di_t0 diW 2 = di_t2 := rounds_nx _ _ 1 _ _ _ _ di_r1 rfl rfl di_s1
theorem di_r3 : rounds di_t0 diW 3 = di_t3 := rounds_nx _ _ 2 _ _ _ _ di_r2 rfl rfl di_s2
theorem di_r4 : rounds di_t0 diW 4 = di_t4 := rounds_nx _ _ 3 _ _ _ _ di_r3 rfl rfl di_s3
theorem di_r5 : rounds di_t0 diW 5 = di_t5 := rounds_nx _ _ 4 _ _ _ _ di_r4 rfl rfl di_s4
theorem di_r6 : rounds di_t0 diW 6 = di_t6 := rounds_nx _ _ 5 _ _ _ _ di_r5 rfl rfl di_s5
theorem di_r7 : rounds di_t0 diW 7 = di_t7 := rounds_nx _ _ 6 _ _ _ _ di_r6 rfl rfl di_s6
theorem di_r8 : rounds di_t0 diW 8 = di_t8 := rounds_nx _ _ 7 _ _ _ _ di_r7 rfl rfl di_s7
theorem di_r9 : rounds di_t0 diW 9 = di_t9 := rounds_nx _ _ 8 _ _ _ _ di_r8 rfl rfl di_s8
theorem di_r10 : rounds di_t0 diW 10 = di_t10 := rounds_nx _ _ 9 _ _ _ _ di_r9 rfl rfl di_s9
theorem di_r11 : rounds di_t0 diW 11 = di_t11 := rounds_nx _ _ 10 _ _ _ _ di_r10 rfl rfl di_s10
theorem di_r12 : rounds di_t0 diW 12 = di_t12 := rounds_nx _ _ 11 _ _ _ _ di_r11 rfl rfl di_s11
theorem di_r13 : rounds di_t0 diW 13 = di_t13 := rounds_nx _ _ 12 _ _ _ _ di_r12 rfl rfl di_s12
theorem di_r14 : rounds di_t0 diW 14 = di_t14 := rounds_nx _ _ 13 _ _ _ _ di_r13 rfl rfl di_s13
theorem di_r15 : rounds di_t0 diW 15 = di_t15 := rounds_nx _ _ 14 _ _ _ _ di_r14 rfl rfl di_s14
theorem di_r16 : rounds di_t0 diW 16 = di_t16 := rounds_nx _ _ 15 _ _ _ _ di_r15 rfl rfl di_s15
theorem di_r17 : rounds di_t0 diW 17 = di_t17 := rounds_nx _ _ 16 _ _ _ _ di_r16 rfl rfl di_s16
theorem di_r18 : rounds di_t0 diW 18 = di_t18 := rounds_nx _ _ 17 _ _ _ _ di_r17 rfl rfl di_s17
theorem di_r19 : rounds di_t0 diW 19 = di_t19 := rounds_nx _ _ 18 _ _ _ _ di_r18 rfl rfl di_s18
theorem di_r20 : rounds di_t0 diW 20 = di_t20 := rounds_nx _ _ 19 _ _ _ _ di_r19 rfl rfl di_s19
theorem di_r21 : rounds di_t0 diW 21 = di_t21 := rounds_nx _ _ 20 _ _ _ _ di_r20 rfl rfl di_s20
theorem di_r22 : rounds di_t0 diW 22 = di_t22 := rounds_nx _ _ 21 _ _ _ _ di_r21 rfl rfl di_s21
theorem di_r23 : rounds di_t0 diW 23 = di_t23 := rounds_nx _ _ 22 _ _ _ _ di_r22 rfl rfl di_s22
theorem di_r24 : rounds di_t0 diW 24 = di_t24 := rounds_nx _ _ 23 _ _ _ _ di_r23 rfl rfl di_s23
theorem di_r25 : rounds di_t0 diW 25 = di_t25 := rounds_nx _ _ 24 _ _ _ _ di_r24 rfl rfl di_s24
theorem di_r26 : rounds di_t0 diW 26 = di_t26 := rounds_nx _ _ 25 _ _ _ _ di_r25 rfl rfl di_s25
theorem di_r27 : rounds di_t0 diW 27 = di_t27 := rounds_nx _ _ 26 _ _ _ _ di_r26 rfl rfl di_s26
theorem di_r28 : rounds di_t0 diW 28 = di_t28 := rounds_nx _ _ 27 _ _ _ _ di_r27 rfl rfl di_s27
theorem di_r29 : rounds di_t0 diW 29 = di_t29 := rounds_nx _ _ 28 _ _ _ _ di_r28 rfl rfl di_s28
theorem di_r30 : rounds di_t0 diW 30 = di_t30 := rounds_nx _ _ 29 _ _ _ _ di_r29 rfl rfl di_s29
theorem di_r31 : rounds di_t0 diW 31 = di_t31 := rounds_nx _ _ 30 _ _ _ _ di_r30 rfl rfl di_s30
theorem di_r32 : rounds di_t0 diW 32 = di_t32 := rounds_nx _ _ 31 _ _ _ _ di_r31 rfl rfl di_s31
theorem di_r33 : rounds di_t0 diW 33 = di_t33 := rounds_nx _ _ 32 _ _ _ _ di_r32 rfl rfl di_s32
theorem di_r34 : rounds di_t0 diW 34 = di_t34 := rounds_nx _ _ 33 _ _ _ _ di_r33 rfl rfl di_s33
theorem di_r35 : rounds di_t0 diW 35 = di_t35 := rounds_nx _ _ 34 _ _ _ _ di_r34 rfl rfl di_s34
theorem di_r36 : rounds di_t0 diW 36 = di_t36 := rounds_nx _ _ 35 _ _ _ _ di_r35 rfl rfl di_s35
theorem di_r37 : rounds di_t0 diW 37 = di_t37 := rounds_nx _ _ 36 _ _ _ _ di_r36 rfl rfl di_s36
theorem di_r38 : rounds di_t0 diW 38 = di_t38 := rounds_nx _ _ 37 _ _ _ _ di_r37 rfl rfl di_s37
theorem di_r39 : rounds di_t0 diW 39 = di_t39 := rounds_nx _ _ 38 _ _ _ _ di_r38 rfl rfl di_s38
theorem di_r40 : rounds di_t0 diW 40 = di_t40 := rounds_nx _ _ 39 _ _ _ _ di_r39 rfl rfl di_s39
theorem di_r41 : rounds di_t0 diW 41 = di_t41 := rounds_nx _ _ 40 _ _ _ _ di_r40 rfl rfl di_s40
theorem di_r42 : rounds di_t0 diW 42 = di_t42 := rounds_nx _ _ 41 _ _ _ _ di_r41 rfl rfl di_s41
theorem di_r43 : rounds di_t0 diW 43 = di_t43 := rounds_nx _ _ 42 _ _ _ _ di_r42 rfl rfl di_s42
theorem di_r44 : rounds di_t0 diW 44 = di_t44 := rounds_nx _ _ 43 _ _ _ _ di_r43 rfl rfl di_s43
theorem di_r45 : rounds di_t0 diW 45 = di_t45 := rounds_nx _ _ 44 _ _ _ _ di_r44 rfl rfl di_s44
theorem di_r46 : rounds di_t0 diW 46 = di_t46 := rounds_nx _ _ 45 _ _ _ _ di_r45 rfl rfl di_s45
theorem di_r47 : rounds di_t0 diW 47 = di_t47 := rounds_nx _ _ 46 _ _ _ _ di_r46 rfl rfl di_s46
theorem di_r48 : rounds di_t0 diW 48 = di_t48 := rounds_nx _ _ 47 _ _ _ _ di_r47 rfl rfl di_s47
theorem di_r49 : rounds di_t0 diW 49 = di_t49 := rounds_nx _ _ 48 _ _ _ _ di_r48 rfl rfl di_s48
theorem di_r50 : rounds di_t0 diW 50 = di_t50 := rounds_nx _ _ 49 _ _ _ _ di_r49 rfl rfl di_s49
theorem di_r51 : rounds di_t0 diW 51 = di_t51 := rounds_nx _ _ 50 _ _ _ _ di_r50 rfl rfl di_s50
theorem di_r52 : rounds di_t0 diW 52 = di_t52 := rounds_nx _ _ 51 _ _ _ _ di_r51 rfl rfl di_s51
theorem di_r53 : rounds di_t0 diW 53 = di_t53 := rounds_nx _ _ 52 _ _ _ _ di_r52 rfl rfl di_s52
theorem di_r54 : rounds di_t0 diW 54 = di_t54 := rounds_nx _ _ 53 _ _ _ _ di_r53 rfl rfl di_s53
theorem di_r55 : rounds di_t0 diW 55 = di_t55 := rounds_nx _ _ 54 _ _ _ _ di_r54 rfl rfl di_s54
theorem di_r56 : rounds di_t0 diW 56 = di_t56 := rounds_nx _ _ 55 _ _ _ _ di_r55 rfl rfl di_s55
theorem di_r57 : rounds di_t0 diW 57 = di_t57 := rounds_nx _ _ 56 _ _ _ _ di_r56 rfl rfl di_s56
theorem di_r58 : rounds di_t0 diW 58 = di_t58 := rounds_nx _ _ 57 _ _ _ _ di_r57 rfl rfl di_s57
theorem di_r59 : rounds di_t0 diW 59 = di_t59 := rounds_nx _ _ 58 _ _ _ _ di_r58 rfl rfl di_s58
theorem di_r60 : rounds di_t0 diW 60 = di_t60 := rounds_nx _ _ 59 _ _ _ _ di_r59 rfl rfl di_s59
theorem di_r61 : rounds di_t0 diW 61 = di_t61 := rounds_nx _ _ 60 _ _ _ _ di_r60 rfl rfl di_s60
theorem di_r62 : rounds di_t0 diW 62 = di_t62 := rounds_nx _ _ 61 _ _ _ _ di_r61 rfl rfl di_s61
theorem di_r63 : rounds di_t0 diW 63 = di_t63 := rounds_nx _ _ 62 _ _ _ _ di_r62 rfl rfl di_s62
theorem di_r64 : rounds di_t0 diW 64 = di_t64 := rounds_nx _ _ 63 _ _ _ _ di_r63 rfl rfl di_s63
def diN : List Int := [2789259052, 1071335216, 1551817977, 4153077095, 2234551259, 1502919732, 3441614995, 4366138]
theorem di_block : blockZ kiN diB = diN := by
  have h : (sched diB 64) = diW := di_w64
  unfold blockZ
  rw [h, show St.ofL kiN = di_t0 from rfl, di_r64]
  show _ = _
  kernel_rfl
def diM : List Int := [97, 0, 0, 0, 0, 0, 0, 0, 0, 0, 1]
def diSum : List Int := [166, 64, 183, 44, 63, 219, 71, 48, 92, 126, 220, 249, 247, 138, 237, 103, 133, 48, 139, 219, 89, 148, 188, 52, 205, 34, 224, 147, 0, 66, 159, 58]
theorem di_sum : sumZ (kiB ++ diM) = diSum := by
  rw [sum_two (kiB ++ diM) kiB diB 75 kiN diN (by kernel_rfl) (by kernel_rfl) rfl rfl ki_block di_block]
  kernel_rfl
def ddB : List Int := [166, 64, 183, 44, 63, 219, 71, 48, 92, 126, 220, 249, 247, 138, 237, 103, 133, 48, 139, 219, 89, 148, 188, 52, 205, 34, 224, 147, 0, 66, 159, 58, 128, 0, 0, 0, 0, 0, 0, 0, 0, 0, 0, 0, 0, 0, 0, 0, 0, 0, 0, 0, 0, 0, 0, 0, 0, 0, 0, 0, 0, 0, 3, 0]
def ddW : List Int := [2789259052, 1071335216, 1551817977, 4153077095, 2234551259, 1502919732, 3441614995, 4366138, 2147483648, 0, 0, 0, 0, 0, 0, 768, 1552517322, 2412034153, 3157383748, 1207928251, 2818767454, 304798640, 3275209755, 2759248362, 964889723, 2048062795, 800858349, 3423949140, 2794174673, 3320559351, 1351749578, 3828491594, 161628793, 4263867228, 2430064464, 491624661, 1407331108, 2736443929, 1812519455, 333306292, 3538190161, 979829041, 3788494720, 3662653952, 1966734046, 1873635420, 649477554, 873350327, 408950960, 296041316, 1242957826, 2507476261, 474383468, 4139976471, 1325711186, 3049249673, 1380895423, 2200955389, 601821704, 3446848084, 3330855029, 3103583687, 1212165112, 3605195023]
theorem dd_w16 : sched ddB 16 = ddW.take 16 := by kernel_rfl
theorem dd_n16 : nextW (ddW.take 16) = 1552517322 := by kernel_rfl
theorem dd_n17 : nextW (ddW.take 17) = 2412034153 := by kernel_rfl
theorem dd_n18 : nextW (ddW.take 18) = 3157383748 := by kernel_rfl
theorem dd_n19 : nextW (ddW.take 19) = 1207928251 := by kernel_rfl
theorem dd_n20 : nextW (ddW.take 20) = 2818767454 := by kernel_rfl
theorem dd_n21 : nextW (ddW.take 21) = 304798640 := by kernel_rfl
theorem dd_n22 : nextW (ddW.take 22) = 3275209755 := by kernel_rfl
theorem dd_n23 : nextW (ddW.take 23) = 2759248362 := by kernel_rfl
theorem dd_n24 : nextW (ddW.take 24) = 964889723 := by kernel_rfl
theorem dd_n25 : nextW (ddW.take 25) = 2048062795 := by kernel_rfl
theorem dd_n26 : nextW (ddW.take 26) = 800858349 := by kernel_rfl
theorem dd_n27 : nextW (ddW.take 27) = 3423949140 := by kernel_rfl
theorem dd_n28 : nextW (ddW.take 28) = 2794174673 := by kernel_rfl
theorem dd_n29 : nextW (ddW.take 29) = 3320559351 := by kernel_rfl
theorem dd_n30 : nextW (ddW.take 30) = 1351749578 := by kernel_rfl
theorem dd_n31 : nextW (ddW.take 31) = 3828491594 := by kernel_rfl
theorem dd_n32 : nextW (ddW.take 32) = 161628793 := by kernel_rfl
theorem dd_n33 : nextW (ddW.take 33) = 4263867228 := by kernel_rfl
theorem dd_n34 : nextW (ddW.take 34) = 2430064464 := by kernel_rfl
theorem dd_n35 : nextW (ddW.take 35) = 491624661 := by kernel_rfl
theorem dd_n36 : nextW (ddW.take 36) = 1407331108 := by kernel_rfl
theorem dd_n37 : nextW (ddW.take 37) = 2736443929 := by kernel_rfl
theorem dd_n38 : nextW (ddW.take 38) = 1812519455 := by kernel_rfl
theorem dd_n39 : nextW (ddW.take 39) = 333306292 := by kernel_rfl
theorem dd_n40 : nextW (ddW.take 40) = 3538190161 := by kernel_rfl
theorem dd_n41 : nextW (ddW.take 41) = 979829041 := by kernel_rfl
theorem dd_n42 : nextW (ddW.take 42) = 3788494720 := by kernel_rfl
theorem dd_n43 : nextW (ddW.take 43) = 3662653952 := by kernel_rfl
theorem dd_n44 : nextW (ddW.take 44) = 1966734046 := by kernel_rfl
theorem dd_n45 : nextW (ddW.take 45) = 1873635420 := by kernel_rfl
theorem dd_n46 : nextW (ddW.take 46) = 649477554 := by kernel_rfl
theorem dd_n47 : nextW (ddW.take 47) = 873350327 := by kernel_rfl
theorem dd_n48 : nextW (ddW.take 48) = 408950960 := by kernel_rfl
theorem dd_n49 : nextW (ddW.take 49) = 296041316 := by kernel_rfl
theorem dd_n50 : nextW (ddW.take 50) = 1242957826 := by kernel_rfl
theorem dd_n51 : nextW (ddW.take 51) = 2507476261 := by kernel_rfl
theorem dd_n52 : nextW (ddW.take 52) = 474383468 := by kernel_rfl
theorem dd_n53 : nextW (ddW.take 53) = 4139976471 := by kernel_rfl
theorem dd_n54 : nextW (ddW.take 54) = 1325711186 := by kernel_rfl
theorem dd_n55 : nextW (ddW.take 55) = 3049249673 := by kernel_rfl
theorem dd_n56 : nextW (ddW.take 56) = 1380895423 := by kernel_rfl
theorem dd_n57 : nextW (ddW.take 57) = 2200955389 := by kernel_rfl
theorem dd_n58 : nextW (ddW.take 58) = 601821704 := by kernel_rfl
theorem dd_n59 : nextW (ddW.take 59) = 3446848084 := by kernel_rfl
theorem dd_n60 : nextW (ddW.take 60) = 3330855029 := by kernel_rfl
theorem dd_n61 : nextW (ddW.take 61) = 3103583687 := by kernel_rfl
theorem dd_n62 : nextW (ddW.take 62) = 1212165112 := by kernel_rfl
theorem dd_n63 : nextW (ddW.take 63) = 3605195023 := by kernel_rfl
theorem dd_w17 : sched ddB 17 = ddW.take 17 := sched_nx ddB 16 _ _ _ (by decide) dd_w16 dd_n16 rfl
theorem dd_w18 : sched ddB 18 = ddW.take 18 := sched_nx ddB 17 _ _ _ (by decide) dd_w17 dd_n17 rfl
theorem dd_w19 : sched ddB 19 = ddW.take 19 := sched_nx ddB 18 _ _ _ (by decide) dd_w18 dd_n18 rfl
theorem dd_w20 : sched ddB 20 = ddW.take 20 := sched_nx ddB 19 _ _ _ (by decide) dd_w19 dd_n19 rfl
theorem dd_w21 : sched ddB 21 = ddW.take 21 := sched_nx ddB 20 _ _ _ (by decide) dd_w20 dd_n20 rfl
theorem dd_w22 : sched ddB 22 = ddW.take 22 := sched_nx ddB 21 _ _ _ (by decide) dd_w21 dd_n21 rfl
theorem dd_w23 : sched ddB 23 = ddW.take 23 := sched_nx ddB 22 _ _ _ (by decide) dd_w22 dd_n22 rfl
theorem dd_w24 : sched ddB 24 = ddW.take 24 := sched_nx ddB 23 _ _ _ (by decide) dd_w23 dd_n23 rfl
theorem dd_w25 : sched ddB 25 = ddW.take 25 := sched_nx ddB 24 _ _ _ (by decide) dd_w24 dd_n24 rfl
theorem dd_w26 : sched ddB 26 = ddW.take 26 := sched_nx ddB 25 _ _ _ (by decide) dd_w25 dd_n25 rfl
theorem dd_w27 : sched ddB 27 = ddW.take 27 := sched_nx ddB 26 _ _ _ (by decide) dd_w26 dd_n26 rfl
theorem dd_w28 : sched ddB 28 = ddW.take 28 := sched_nx ddB 27 _ _ _ (by decide) dd_w27 dd_n27 rfl
theorem dd_w29 : sched ddB 29 = ddW.take 29 := sched_nx ddB 28 _ _ _ (by decide) dd_w28 dd_n28 rfl
theorem dd_w30 : sched ddB 30 = ddW.take 30 := sched_nx ddB 29 _ _ _ (by decide) dd_w29 dd_n29 rfl
theorem dd_w31 : sched ddB 31 = ddW.take 31 := sched_nx ddB 30 _ _ _ (by decide) dd_w30 dd_n30 rfl
theorem dd_w32 : sched ddB 32 = ddW.take 32 := sched_nx ddB 31 _ _ _ (by decide) dd_w31 dd_n31 rfl
theorem dd_w33 : sched ddB 33 = ddW.take 33 := sched_nx ddB 32 _ _ _ (by decide) dd_w32 dd_n32 rfl
theorem dd_w34 : sched ddB 34 = ddW.take 34 := sched_nx ddB 33 _ _ _ (by decide) dd_w33 dd_n33 rfl
theorem dd_w35 : sched ddB 35 = ddW.take 35 := sched_nx ddB 34 _ _ _ (by decide) dd_w34 dd_n34 rfl
theorem dd_w36 : sched ddB 36 = ddW.take 36 := sched_nx ddB 35 _ _ _ (by decide) dd_w35 dd_n35 rfl
theorem dd_w37 : sched ddB 37 = ddW.take 37 := sched_nx ddB 36 _ _ _ (by decide) dd_w36 dd_n36 rfl
theorem dd_w38 : sched ddB 38 = ddW.take 38 := sched_nx ddB 37 _ _ _ (by decide) dd_w37 dd_n37 rfl
theorem dd_w39 : sched ddB 39 = ddW.take 39 := sched_nx ddB 38 _ _ _ (by decide) dd_w38 dd_n38 rfl
theorem dd_w40 : sched ddB 40 = ddW.take 40 := sched_nx ddB 39 _ _ _ (by decide) dd_w39 dd_n39 rfl
theorem dd_w41 : sched ddB 41 = ddW.take 41 := sched_nx ddB 40 _ _ _ (by decide) dd_w40 dd_n40 rfl
theorem dd_w42 : sched ddB 42 = ddW.take 42 := sched_nx ddB 41 _ _ _ (by decide) dd_w41 dd_n41 rfl
theorem dd_w43 : sched ddB 43 = ddW.take 43 := sched_nx ddB 42 _ _ _ (by decide) dd_w42 dd_n42 rfl
theorem dd_w44 : sched ddB 44 = ddW.take 44 := sched_nx ddB 43 _ _ _ (by decide) dd_w43 dd_n43 rfl
theorem dd_w45 : sched ddB 45 = ddW.take 45 := sched_nx ddB 44 _ _ _ (by decide) dd_w44 dd_n44 rfl
theorem dd_w46 : sched ddB 46 = ddW.take 46 := sched_nx ddB 45 _ _ _ (by decide) dd_w45 dd_n45 rfl
theorem dd_w47 : sched ddB 47 = ddW.take 47 := sched_nx ddB 46 _ _ _ (by decide) dd_w46 dd_n46 rfl
theorem dd_w48 : sched ddB 48 = ddW.take 48 := sched_nx ddB 47 _ _ _ (by decide) dd_w47 dd_n47 rfl
theorem dd_w49 : sched ddB 49 = ddW.take 49 := sched_nx ddB 48 _ _ _ (by decide) dd_w48 dd_n48 rfl
theorem dd_w50 : sched ddB 50 = ddW.take 50 := sched_nx ddB 49 _ _ _ (by decide) dd_w49 dd_n49 rfl
theorem dd_w51 : sched ddB 51 = ddW.take 51 := sched_nx ddB 50 _ _ _ (by decide) dd_w50 dd_n50 rfl
theorem dd_w52 : sched ddB 52 = ddW.take 52 := sched_nx ddB 51 _ _ _ (by decide) dd_w51 dd_n51 rfl
theorem dd_w53 : sched ddB 53 = ddW.take 53 := sched_nx ddB 52 _ _ _ (by decide) dd_w52 dd_n52 rfl
theorem dd_w54 : sched ddB 54 = ddW.take 54 := sched_nx ddB 53 _ _ _ (by decide) dd_w53 dd_n53 rfl
theorem dd_w55 : sched ddB 55 = ddW.take 55 := sched_nx ddB 54 _ _ _ (by decide) dd_w54 dd_n54 rfl
theorem dd_w56 : sched ddB 56 = ddW.take 56 := sched_nx ddB 55 _ _ _ (by decide) dd_w55 dd_n55 rfl
theorem dd_w57 : sched ddB 57 = ddW.take 57 := sched_nx ddB 56 _ _ _ (by decide) dd_w56 dd_n56 rfl
theorem dd_w58 : sched ddB 58 = ddW.take 58 := sched_nx ddB 57 _ _ _ (by decide) dd_w57 dd_n57 rfl
theorem dd_w59 : sched ddB 59 = ddW.take 59 := sched_nx ddB 58 _ _ _ (by decide) dd_w58 dd_n58 rfl
theorem dd_w60 : sched ddB 60 = ddW.take 60 := sched_nx ddB 59 _ _ _ (by decide) dd_w59 dd_n59 rfl
theorem dd_w61 : sched ddB 61 = ddW.take 61 := sched_nx ddB 60 _ _ _ (by decide) dd_w60 dd_n60 rfl
theorem dd_w62 : sched ddB 62 = ddW.take 62 := sched_nx ddB 61 _ _ _ (by decide) dd_w61 dd_n61 rfl
theorem dd_w63 : sched ddB 63 = ddW.take 63 := sched_nx ddB 62 _ _ _ (by decide) dd_w62 dd_n62 rfl
theorem dd_w64 : sched ddB 64 = ddW.take 64 := sched_nx ddB 63 _ _ _ (by decide) dd_w63 dd_n63 rfl
def dd_t0 : St := ⟨3548727311, 2059101303, 935970104, 1574446183, 2382641778, 1966355632, 3736610840, 907888038⟩
def dd_t1 : St := ⟨258112369, 3548727311, 2059101303, 935970104, 1475439154, 2382641778, 1966355632, 3736610840⟩
def dd_t2 : St := ⟨2597298082, 258112369, 3548727311, 2059101303, 1698224753, 1475439154, 2382641778, 1966355632⟩
def dd_t3 : St := ⟨1881082764, 2597298082, 258112369, 3548727311, 3912849633, 1698224753, 1475439154, 2382641778⟩
def dd_t4 : St := ⟨1158463528, 1881082764, 2597298082, 258112369, 3254286524, 3912849633, 1698224753, 1475439154⟩
def dd_t5 : St := ⟨2271631606, 1158463528, 1881082764, 2597298082, 599232327, 3254286524, 3912849633, 1698224753⟩
def dd_t6 : St := ⟨1447087189, 2271631606, 1158463528, 1881082764, 2901650489, 599232327, 3254286524, 3912849633⟩
def dd_t7 : St := ⟨1039696238, 1447087189, 2271631606, 1158463528, 851898428, 2901650489, 599232327, 3254286524⟩
def dd_t8 : St := ⟨2699805483, 1039696238, 1447087189, 2271631606, 1754088309, 851898428, 2901650489, 599232327⟩
def dd_t9 : St := ⟨2981682866, 2699805483, 1039696238, 1447087189, 2781551906, 1754088309, 851898428, 2901650489⟩
def dd_t10 : St := ⟨701243537, 2981682866, 2699805483, 1039696238, 328382736, 2781551906, 1754088309, 851898428⟩
def dd_t11 : St := ⟨2348369838, 701243537, 2981682866, 2699805483, 2844853127, 328382736, 2781551906, 1754088309⟩
def dd_t12 : St := ⟨2396229394, 2348369838, 701243537, 2981682866, 187848573, 2844853127, 328382736, 2781551906⟩
def dd_t13 : St := ⟨3585482274, 2396229394, 2348369838, 701243537, 1719211487, 187848573, 2844853127, 328382736⟩
def dd_t14 : St := ⟨1192753089, 3585482274, 2396229394, 2348369838, 1156409282, 1719211487, 187848573, 2844853127⟩
def dd_t15 : St := ⟨2490976403, 1192753089, 3585482274, 2396229394, 2831823084, 1156409282, 1719211487, 187848573⟩
def dd_t16 : St := ⟨4157462487, 2490976403, 1192753089, 3585482274, 1825130663, 2831823084, 1156409282, 1719211487⟩
def dd_t17 : St := ⟨167152674, 4157462487, 2490976403, 1192753089, 2486910509, 1825130663, 2831823084, 1156409282⟩
def dd_t18 : St := ⟨789716761, 167152674, 4157462487, 2490976403, 2798577068, 2486910509, 1825130663, 2831823084⟩
def dd_t19 : St := ⟨3431875643, 789716761, 167152674, 4157462487, 901730769, 2798577068, 2486910509, 1825130663⟩
def dd_t20 : St := ⟨406825114, 3431875643, 789716761, 167152674, 378165736, 901730769, 2798577068, 2486910509⟩
def dd_t21 : St := ⟨1074116283, 406825114, 3431875643, 789716761, 23130887, 378165736, 901730769, 2798577068⟩
def dd_t22 : St := ⟨3216697702, 1074116283, 406825114, 3431875643, 867951425, 23130887, 378165736, 901730769⟩
def dd_t23 : St := ⟨866152963, 3216697702, 1074116283, 406825114, 3631230996, 867951425, 23130887, 378165736⟩
def dd_t24 : St := ⟨3186152393, 866152963, 3216697702, 1074116283, 3310222579, 3631230996, 867951425, 23130887⟩
def dd_t25 : St := ⟨3486145560, 3186152393, 866152963, 3216697702, 4256047693, 3310222579, 3631230996, 867951425⟩
def dd_t26 : St := ⟨2128729969, 3486145560, 3186152393, 866152963, 2221925475, 4256047693, 3310222579, 3631230996⟩
def dd_t27 : St := ⟨373806027, 2128729969, 3486145560, 3186152393, 3868272460, 2221925475, 4256047693, 3310222579⟩
def dd_t28 : St := ⟨600532231, 373806027, 2128729969, 3486145560, 1047131874, 3868272460, 2221925475, 4256047693⟩
def dd_t29 : St := ⟨1971969060, 600532231, 373806027, 2128729969, 1093698916, 1047131874, 3868272460, 2221925475⟩
def dd_t30 : St := ⟨2138065094, 1971969060, 600532231, 373806027, 3948216479, 1093698916, 1047131874, 3868272460⟩
def dd_t31 : St := ⟨3935125110, 2138065094, 1971969060, 600532231, 1883166189, 3948216479, 1093698916, 1047131874⟩
def dd_t32 : St := ⟨2891214105, 3935125110, 2138065094, 1971969060, 3534271836, 1883166189, 3948216479, 1093698916⟩
def dd_t33 : St := ⟨3109178757, 2891214105, 3935125110, 2138065094, 3994787327, 3534271836, 1883166189, 3948216479⟩
def dd_t34 : St := ⟨720468397, 3109178757, 2891214105, 3935125110, 3065906760, 3994787327, 3534271836, 1883166189⟩
def dd_t35 : St := ⟨3551594223, 720468397, 3109178757, 2891214105, 3552189069, 3065906760, 3994787327, 3534271836⟩
def dd_t36 : St := ⟨2170449320, 3551594223, 720468397, 3109178757, 1782065559, 3552189069, 3065906760, 3994787327⟩
def dd_t37 : St := ⟨2846775459, 2170449320, 3551594223, 720468397, 2859074783, 1782065559, 3552189069, 3065906760⟩
def dd_t38 : St := ⟨875309792, 2846775459, 2170449320, 3551594223, 1196098022, 2859074783, 1782065559, 3552189069⟩
def dd_t39 : St := ⟨2015670430, 875309792, 2846775459, 2170449320, 3221627876, 1196098022, 2859074783, 1782065559⟩
def dd_t40 : St := ⟨669052286, 2015670430, 875309792, 2846775459, 3906637218, 3221627876, 1196098022, 2859074783⟩
def dd_t41 : St := ⟨3484136589, 669052286, 2015670430, 875309792, 3816318827, 3906637218, 3221627876, 1196098022⟩
def dd_t42 : St := ⟨4058252870, 3484136589, 669052286, 2015670430, 1025037640, 3816318827, 3906637218, 3221627876⟩
def dd_t43 : St := ⟨1372418771, 4058252870, 3484136589, 669052286, 3283741101, 1025037640, 3816318827, 3906637218⟩
def dd_t44 : St := ⟨1396796776, 1372418771, 4058252870, 3484136589, 840074375, 3283741101, 1025037640, 3816318827⟩
def dd_t45 : St := ⟨2327260776, 1396796776, 1372418771, 4058252870, 2390105239, 840074375, 3283741101, 1025037640⟩
def dd_t46 : St := ⟨2681680222, 2327260776, 1396796776, 1372418771, 2963639603, 2390105239, 840074375, 3283741101⟩
def dd_t47 : St := ⟨2831284945, 2681680222, 2327260776, 1396796776, 3975411627, 2963639603, 2390105239, 840074375⟩
def dd_t48 : St := ⟨2190750635, 2831284945, 2681680222, 2327260776, 2410145955, 3975411627, 2963639603, 2390105239⟩
def dd_t49 : St := ⟨2129068228, 2190750635, 2831284945, 2681680222, 1368474896, 2410145955, 3975411627, 2963639603⟩
def dd_t50 : St := ⟨3937632273, 2129068228, 2190750635, 2831284945, 1512855484, 1368474896, 2410145955, 3975411627⟩
def dd_t51 : St := ⟨3816391096, 3937632273, 2129068228, 2190750635, 3982526934, 1512855484, 1368474896, 2410145955⟩
def dd_t52 : St := ⟨1103025680, 3816391096, 3937632273, 2129068228, 104853756, 3982526934, 1512855484, 1368474896⟩
def dd_t53 : St := ⟨853941701, 1103025680, 3816391096, 3937632273, 1918608645, 104853756, 3982526934, 1512855484⟩
def dd_t54 : St := ⟨1721693030, 853941701, 1103025680, 3816391096, 2993477981, 1918608645, 104853756, 3982526934⟩
def dd_t55 : St := ⟨361295419, 1721693030, 853941701, 1103025680, 485132027, 2993477981, 1918608645, 104853756⟩
def dd_t56 : St := ⟨2861343648, 361295419, 1721693030, 853941701, 515505834, 485132027, 2993477981, 1918608645⟩
def dd_t57 : St := ⟨1134739908, 2861343648, 361295419, 1721693030, 1255341632, 515505834, 485132027, 2993477981⟩
def dd_t58 : St := ⟨112129808, 1134739908, 2861343648, 361295419, 3556199021, 1255341632, 515505834, 485132027⟩
def dd_t59 : St := ⟨459559211, 112129808, 1134739908, 2861343648, 726045501, 3556199021, 1255341632, 515505834⟩
def dd_t60 : St := ⟨3480766851, 459559211, 112129808, 1134739908, 2543368478, 726045501, 3556199021, 1255341632⟩
def dd_t61 : St := ⟨3919935622, 3480766851, 459559211, 112129808, 3203760808, 2543368478, 726045501, 3556199021⟩
def dd_t62 : St := ⟨220525904, 3919935622, 3480766851, 459559211, 1555270193, 3203760808, 2543368478, 726045501⟩
def dd_t63 : St := ⟨3021399322, 220525904, 3919935622, 3480766851, 3359287420, 1555270193, 3203760808, 2543368478⟩
def dd_t64 : St := ⟨557572498, 3021399322, 220525904, 3919935622, 1699398370, 3359287420, 1555270193, 3203760808⟩
theorem dd_s0 : rnd dd_t0 1116352408 2789259052 = dd_t1 := by kernel_rfl
theorem dd_s1 : rnd dd_t1 1899447441 1071335216 = dd_t2 := by kernel_rfl
theorem dd_s2 : rnd dd_t2 3049323471 1551817977 = dd_t3 := by kernel_rfl
theorem dd_s3 : rnd dd_t3 3921009573 4153077095 = dd_t4 := by kernel_rfl
theorem dd_s4 : rnd dd_t4 961987163 2234551259 = dd_t5 := by kernel_rfl
theorem dd_s5 : rnd dd_t5 1508970993 1502919732 = dd_t6 := by kernel_rfl
theorem dd_s6 : rnd dd_t6 2453635748 3441614995 = dd_t7 := by kernel_rfl
theorem dd_s7 : rnd dd_t7 2870763221 4366138 = dd_t8 := by kernel_rfl
theorem dd_s8 : rnd dd_t8 3624381080 2147483648 = dd_t9 := by kernel_rfl
theorem dd_s9 : rnd dd_t9 310598401 0 = dd_t10 := by kernel_rfl
theorem dd_s10 : rnd dd_t10 607225278 0 = dd_t11 := by kernel_rfl
theorem dd_s11 : rnd dd_t11 1426881987 0 = dd_t12 := by kernel_rfl
theorem dd_s12 : rnd dd_t12 1925078388 0 = dd_t13 := by kernel_rfl
theorem dd_s13 : rnd dd_t13 2162078206 0 = dd_t14 := by kernel_rfl
theorem dd_s14 : rnd dd_t14 2614888103 0 = dd_t15 := by kernel_rfl
theorem dd_s15 : rnd dd_t15 3248222580 768 = dd_t16 := by kernel_rfl
theorem dd_s16 : rnd dd_t16 3835390401 1552517322 = dd_t17 := by kernel_rfl
theorem dd_s17 : rnd dd_t17 4022224774 2412034153 = dd_t18 := by kernel_rfl
theorem dd_s18 : rnd dd_t18 264347078 3157383748 = dd_t19 := by kernel_rfl
theorem dd_s19 : rnd dd_t19 604807628 1207928251 = dd_t20 := by kernel_rfl
theorem dd_s20 : rnd dd_t20 770255983 2818767454 = dd_t21 := by kernel_rfl
theorem dd_s21 : rnd dd_t21 1249150122 304798640 = dd_t22 := by kernel_rfl
theorem dd_s22 : rnd dd_t22 1555081692 3275209755 = dd_t23 := by kernel_rfl
theorem dd_s23 : rnd dd_t23 1996064986 2759248362 = dd_t24 := by kernel_rfl
theorem dd_s24 : rnd dd_t24 2554220882 964889723 = dd_t25 := by kernel_rfl
theorem dd_s25 : rnd dd_t25 2821834349 2048062795 = dd_t26 := by kernel_rfl
theorem dd_s26 : rnd dd_t26 2952996808 800858349 = dd_t27 := by kernel_rfl
theorem dd_s27 : rnd dd_t27 3210313671 3423949140 = dd_t28 := by kernel_rfl
theorem dd_s28 : rnd dd_t28 3336571891 2794174673 = dd_t29 := by kernel_rfl
theorem dd_s29 : rnd dd_t29 3584528711 3320559351 = dd_t30 := by kernel_rfl
theorem dd_s30 : rnd dd_t30 113926993 1351749578 = dd_t31 := by kernel_rfl
theorem dd_s31 : rnd dd_t31 338241895 3828491594 = dd_t32 := by kernel_rfl
theorem dd_s32 : rnd dd_t32 666307205 161628793 = dd_t33 := by kernel_rfl
theorem dd_s33 : rnd dd_t33 773529912 4263867228 = dd_t34 := by kernel_rfl
theorem dd_s34 : rnd dd_t34 1294757372 2430064464 = dd_t35 := by kernel_rfl
theorem dd_s35 : rnd dd_t35 1396182291 491624661 = dd_t36 := by kernel_rfl
theorem dd_s36 : rnd dd_t36 1695183700 1407331108 = dd_t37 := by kernel_rfl
theorem dd_s37 : rnd dd_t37 1986661051 2736443929 = dd_t38 := by kernel_rfl
theorem dd_s38 : rnd dd_t38 2177026350 1812519455 = dd_t39 := by kernel_rfl
theorem dd_s39 : rnd dd_t39 2456956037 333306292 = dd_t40 := by kernel_rfl
theorem dd_s40 : rnd dd_t40 2730485921 3538190161 = dd_t41 := by kernel_rfl
theorem dd_s41 : rnd dd_t41 2820302411 979829041 = dd_t42 := by kernel_rfl
theorem dd_s42 : rnd dd_t42 3259730800 3788494720 = dd_t43 := by kernel_rfl
theorem dd_s43 : rnd dd_t43 3345764771 3662653952 = dd_t44 := by kernel_rfl
theorem dd_s44 : rnd dd_t44 3516065817 1966734046 = dd_t45 := by kernel_rfl
theorem dd_s45 : rnd dd_t45 3600352804 1873635420 = dd_t46 := by kernel_rfl
theorem dd_s46 : rnd dd_t46 4094571909 649477554 = dd_t47 := by kernel_rfl
theorem dd_s47 : rnd dd_t47 275423344 873350327 = dd_t48 := by kernel_rfl
theorem dd_s48 : rnd dd_t48 430227734 408950960 = dd_t49 := by kernel_rfl
theorem dd_s49 : rnd dd_t49 506948616 296041316 = dd_t50 := by kernel_rfl
theorem dd_s50 : rnd dd_t50 659060556 1242957826 = dd_t51 := by kernel_rfl
theorem dd_s51 : rnd dd_t51 883997877 2507476261 = dd_t52 := by kernel_rfl
theorem dd_s52 : rnd dd_t52 958139571 474383468 = dd_t53 := by kernel_rfl
theorem dd_s53 : rnd dd_t53 1322822218 4139976471 = dd_t54 := by kernel_rfl
theorem dd_s54 : rnd dd_t54 1537002063 1325711186 = dd_t55 := by kernel_rfl
theorem dd_s55 : rnd dd_t55 1747873779 3049249673 = dd_t56 := by kernel_rfl
theorem dd_s56 : rnd dd_t56 1955562222 1380895423 = dd_t57 := by kernel_rfl
theorem dd_s57 : rnd dd_t57 2024104815 2200955389 = dd_t58 := by kernel_rfl
theorem dd_s58 : rnd dd_t58 2227730452 601821704 = dd_t59 := by kernel_rfl
theorem dd_s59 : rnd dd_t59 2361852424 3446848084 = dd_t60 := by kernel_rfl
theorem dd_s60 : rnd dd_t60 2428436474 3330855029 = dd_t61 := by kernel_rfl
theorem dd_s61 : rnd dd_t61 2756734187 3103583687 = dd_t62 := by kernel_rfl
theorem dd_s62 : rnd dd_t62 3204031479 1212165112 = dd_t63 := by kernel_rfl
theorem dd_s63 : rnd dd_t63 3329325298 3605195023 = dd_t64 := by kernel_rfl
theorem dd_r0 : rounds dd_t0 ddW 0 = dd_t0 := rfl
theorem dd_r1 : rounds dd_t0 ddW 1 = dd_t1 := rounds_nx _ _ 0 _ _ _ _ dd_r0 rfl rfl dd_s0
theorem dd_r2 : rounds dd_t0 ddW 2 = dd_t2 := rounds_nx _ _ 1 _ _ _ _ dd_r1 rfl rfl dd_s1
theorem dd_r3 : rounds dd_t0 ddW 3 = dd_t3 := rounds_nx _ _ 2 _ _ _ _ dd_r2 rfl rfl dd_s2
theorem dd_r4 : rounds dd_t0 ddW 4 = dd_t4 := rounds_nx _ _ 3 _ _ _ _ dd_r3 rfl rfl dd_s3
theorem dd_r5 : rounds dd_t0 ddW 5 = dd_t5 := rounds_nx _ _ 4 _ _ _ _ dd_r4 rfl rfl dd_s4
theorem dd_r6 : rounds dd_t0 ddW 6 = dd_t6 := rounds_nx _ _ 5 _ _ _ _ dd_r5 rfl rfl dd_s5
theorem dd_r7 : rounds dd_t0 ddW 7 = dd_t7 := rounds_nx _ _ 6 _ _ _ _ dd_r6 rfl rfl dd_s6
theorem dd_r8 : rounds dd_t0 ddW 8 = dd_t8 := rounds_nx _ _ 7 _ _ _ _ dd_r7 rfl rfl dd_s7
theorem dd_r9 : rounds dd_t0 ddW 9 = dd_t9 := rounds_nx _ _ 8 _ _ _ _ dd_r8 rfl rfl dd_s8
theorem dd_r10 : rounds dd_t0 ddW 10 = dd_t10 := rounds_nx _ _ 9 _ _ _ _ dd_r9 rfl rfl dd_s9
theorem dd_r11 : rounds dd_t0 ddW 11 = dd_t11 := rounds_nx _ _ 10 _ _ _ _ dd_r10 rfl rfl dd_s10
theorem dd_r12 : rounds dd_t0 ddW 12 = dd_t12 := rounds_nx _ _ 11 _ _ _ _ dd_r11 rfl rfl dd_s11
theorem dd_r13 : rounds dd_t0 ddW 13 = dd_t13 := rounds_nx _ _ 12 _ _ _ _ dd_r12 rfl rfl dd_s12
theorem dd_r14 : rounds dd_t0 ddW 14 = dd_t14 := rounds_nx _ _ 13 _ _ _ _ dd_r13 rfl rfl dd_s13
theorem dd_r15 : rounds dd_t0 ddW 15 = dd_t15 := rounds_nx _ _ 14 _ _ _ _ dd_r14 rfl rfl dd_s14
theorem dd_r16 : rounds dd_t0 ddW 16 = dd_t16 := rounds_nx _ _ 15 _ _ _ _ dd_r15 rfl rfl dd_s15
theorem dd_r17 : rounds dd_t0 ddW 17 = dd_t17 := rounds_nx _ _ 16 _ _ _ _ dd_r16 rfl rfl dd_s16
theorem dd_r18 : rounds dd_t0 ddW 18 = dd_t18 := rounds_nx _ _ 17 _ _ _ _ dd_r17 rfl rfl dd_s17
theorem dd_r19 : rounds dd_t0 ddW 19 = dd_t19 := rounds_nx _ _ 18 _ _ _ _ dd_r18 rfl rfl dd_s18
theorem dd_r20 : rounds dd_t0 ddW 20 = dd_t20 := rounds_nx _ _ 19 _ _ _ _ dd_r19 rfl rfl dd_s19
theorem dd_r21 : rounds dd_t0 ddW 21 = dd_t21 := rounds_nx _ _ 20 _ _ _ _ dd_r20 rfl rfl dd_s20
theorem dd_r22 : rounds dd_t0 ddW 22 = dd_t22 := rounds_nx _ _ 21 _ _ _ _ dd_r21 rfl rfl dd_s21
theorem dd_r23 : rounds dd_t0 ddW 23 = dd_t23 := rounds_nx _ _ 22 _ _ _ _ dd_r22 rfl rfl dd_s22
theorem dd_r24 : rounds dd_t0 ddW 24 = dd_t24 := rounds_nx _ _ 23 _ _ _ _ dd_r23 rfl rfl dd_s23
theorem dd_r25 : rounds dd_t0 ddW 25 = dd_t25 := rounds_nx _ _ 24 _ _ _ _ dd_r24 rfl rfl dd_s24
theorem dd_r26 : rounds dd_t0 ddW 26 = dd_t26 := rounds_nx _ _ 25 _ _ _ _ dd_r25 rfl rfl dd_s25
theorem dd_r27 : rounds dd_t0 ddW 27 = dd_t27 := rounds_nx _ _ 26 _ _ _ _ dd_r26 rfl rfl dd_s26
theorem dd_r28 : rounds dd_t0 ddW 28 = dd_t28 := rounds_nx _ _ 27 _ _ _ _ dd_r27 rfl rfl dd_s27
theorem dd_r29 : rounds dd_t0 ddW 29 = dd_t29 := rounds_nx _ _ 28 _ _ _ _ dd_r28 rfl rfl dd_s28
theorem dd_r30 : rounds dd_t0 ddW 30 = dd_t30 := rounds_nx _ _ 29 _ _ _ _ dd_r29 rfl rfl dd_s29
theorem dd_r31 : rounds dd_t0 ddW 31 = dd_t31 := rounds_nx _ _ 30 _ _ _ _ dd_r30 rfl rfl dd_s30
theorem dd_r32 : rounds dd_t0 ddW 32 = dd_t32 := rounds_nx _ _ 31 _ _ _ _ dd_r31 rfl rfl dd_s31
theorem dd_r33 : rounds dd_t0 ddW 33 = dd_t33 := rounds_nx _ _ 32 _ _ _ _ dd_r32 rfl rfl dd_s32
theorem dd_r34 : rounds dd_t0 ddW 34 = dd_t34 := rounds_nx _ _ 33 _ _ _ _ dd_r33 rfl rfl dd_s33
theorem dd_r35 : rounds dd_t0 ddW 35 = dd_t35 := rounds_nx _ _ 34 _ _ _ _ dd_r34 rfl rfl dd_s34
theorem dd_r36 : rounds dd_t0 ddW 36 = dd_t36 := rounds_nx _ _ 35 _ _ _ _ dd_r35 rfl rfl dd_s35
theorem dd_r37 : rounds dd_t0 ddW 37 = dd_t37 := rounds_nx _ _ 36 _ _ _ _ dd_r36 rfl rfl dd_s36
theorem dd_r38 : rounds dd_t0 ddW 38 = dd_t38 := rounds_nx _ _ 37 _ _ _ _ dd_r37 rfl rfl dd_s37
theorem dd_r39 : rounds dd_t0 ddW 39 = dd_t39 := rounds_nx _ _ 38 _ _ _ _ dd_r38 rfl rfl dd_s38
theorem dd_r40 : rounds dd_t0 ddW 40 = dd_t40 := rounds_nx _ _ 39 _ _ _ _ dd_r39 rfl rfl dd_s39
theorem dd_r41 : rounds dd_t0 ddW 41 = dd_t41 := rounds_nx _ _ 40 _ _ _ _ dd_r40 rfl rfl dd_s40
theorem dd_r42 : rounds dd_t0 ddW 42 = dd_t42 := rounds_nx _ _ 41 _ _ _ _ dd_r41 rfl rfl dd_s41
theorem dd_r43 : rounds dd_t0 ddW 43 = dd_t43 := rounds_nx _ _ 42 _ _ _ _ dd_r42 rfl rfl dd_s42
theorem dd_r44 : rounds dd_t0 ddW 44 = dd_t44 := rounds_nx _ _ 43 _ _ _ _ dd_r43 rfl rfl dd_s43
theorem dd_r45 : rounds dd_t0 ddW 45 = dd_t45 := rounds_nx _ _ 44 _ _ _ _ dd_r44 rfl rfl dd_s44
theorem dd_r46 : rounds dd_t0 ddW 46 = dd_t46 := rounds_nx _ _ 45 _ _ _ _ dd_r45 rfl rfl dd_s45
theorem dd_r47 : rounds dd_t0 ddW 47 = dd_t47 := rounds_nx _ _ 46 _ _ _ _ dd_r46 rfl rfl dd_s46
theorem dd_r48 : rounds dd_t0 ddW 48 = dd_t48 := rounds_nx _ _ 47 _ _ _ _ dd_r47 rfl rfl dd_s47
theorem dd_r49 : rounds dd_t0 ddW 49 = dd_t49 := rounds_nx _ _ 48 _ _ _ _ dd_r48 rfl rfl dd_s48
theorem dd_r50 : rounds dd_t0 ddW 50 = dd_t50 := rounds_nx _ _ 49 _ _ _ _ dd_r49 rfl rfl dd_s49
theorem dd_r51 : rounds dd_t0 ddW 51 = dd_t51 := rounds_nx _ _ 50 _ _ _ _ dd_r50 rfl rfl dd_s50
theorem dd_r52 : rounds dd_t0 ddW 52 = dd_t52 := rounds_nx _ _ 51 _ _ _ _ dd_r51 rfl rfl dd_s51
theorem dd_r53 : rounds dd_t0 ddW 53 = dd_t53 := rounds_nx _ _ 52 _ _ _ _ dd_r52 rfl rfl dd_s52
theorem dd_r54 : rounds dd_t0 ddW 54 = dd_t54 := rounds_nx _ _ 53 _ _ _ _ dd_r53 rfl rfl dd_s53
theorem dd_r55 : rounds dd_t0 ddW 55 = dd_t55 := rounds_nx _ _ 54 _ _ _ _ dd_r54 rfl rfl dd_s54
theorem dd_r56 : rounds dd_t0 ddW 56 = dd_t56 := rounds_nx _ _ 55 _ _ _ _ dd_r55 rfl rfl dd_s55
theorem dd_r57 : rounds dd_t0 ddW 57 = dd_t57 := rounds_nx _ _ 56 _ _ _ _ dd_r56 rfl rfl dd_s56
theorem dd_r58 : rounds dd_t0 ddW 58 = dd_t58 := rounds_nx _ _ 57 _ _ _ _ dd_r57 rfl rfl dd_s57
theorem dd_r59 : rounds dd_t0 ddW 59 = dd_t59 := rounds_nx _ _ 58 _ _ _ _ dd_r58 rfl rfl dd_s58
theorem dd_r60 : rounds dd_t0 ddW 60 = dd_t60 := rounds_nx _ _ 59 _ _ _ _ dd_r59 rfl rfl dd_s59
theorem dd_r61 : rounds dd_t0 ddW 61 = dd_t61 := rounds_nx _ _ 60 _ _ _ _ dd_r60 rfl rfl dd_s60
theorem dd_r62 : rounds dd_t0 ddW 62 = dd_t62 := rounds_nx _ _ 61 _ _ _ _ dd_r61 rfl rfl dd_s61
theorem dd_r63 : rounds dd_t0 ddW 63 = dd_t63 := rounds_nx _ _ 62 _ _ _ _ dd_r62 rfl rfl dd_s62
theorem dd_r64 : rounds dd_t0 ddW 64 = dd_t64 := rounds_nx _ _ 63 _ _ _ _ dd_r63 rfl rfl dd_s63
def ddN : List Int := [4106299809, 785533329, 1156496008, 1199414509, 4082040148, 1030675756, 996913737, 4111648846]
theorem dd_block : blockZ koN ddB = ddN := by
  have h : (sched ddB 64) = ddW := dd_w64
  unfold blockZ
  rw [h, show St.ofL koN = dd_t0 from rfl, dd_r64]
  show _ = _
  kernel_rfl
def ddM : List Int := [166, 64, 183, 44, 63, 219, 71, 48, 92, 126, 220, 249, 247, 138, 237, 103, 133, 48, 139, 219, 89, 148, 188, 52, 205, 34, 224, 147, 0, 66, 159, 58]
def ddSum : List Int := [244, 193, 41, 161, 46, 210, 73, 145, 68, 238, 186, 136, 71, 125, 156, 237, 243, 78, 253, 84, 61, 110, 221, 44, 59, 107, 178, 73, 245, 18, 200, 78]
theorem dd_sum : sumZ (koB ++ ddM) = ddSum := by
  rw [sum_two (koB ++ ddM) koB ddB 96 koN ddN (by kernel_rfl) (by kernel_rfl) rfl rfl ko_block dd_block]
  kernel_rfl
end Go.Proofs.YtkagnpnicbddlaaDoor.MC
