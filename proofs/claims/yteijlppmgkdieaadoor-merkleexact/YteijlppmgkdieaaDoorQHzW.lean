import Derived.Test.YteijlppmgkdieaaDoorQNdW
import Derived.KernelRfl
namespace Go.Proofs.YteijlppmgkdieaaDoor
open Go.RowKit

/-! The hash over two hashes that are 0, and the hash of nothing. Each step is one small closed fact. -/
def hzaB : List Int := [1, 0, 0, 0, 0, 0, 0, 0, 0, 0, 0, 0, 0, 0, 0, 0, 0, 0, 0, 0, 0, 0, 0, 0, 0, 0, 0, 0, 0, 0, 0, 0, 0, 0, 0, 0, 0, 0, 0, 0, 0, 0, 0, 0, 0, 0, 0, 0, 0, 0, 0, 0, 0, 0, 0, 0, 0, 0, 0, 0, 0, 0, 0, 0]
def hzaW : List Int := [16777216, 0, 0, 0, 0, 0, 0, 0, 0, 0, 0, 0, 0, 0, 0, 0, 16777216, 0, 16544, 0, 675545104, 0, 2147483690, 16777216, 3149824, 33088, 167775258, 2026635312, 126665795, 169, 4222091270, 9678912, 20826593, 139475302, 3600363675, 1216780162, 3870242956, 3654675713, 4230214902, 1364905656, 766182392, 1267444011, 2750620529, 3104548861, 696978087, 3050769878, 2635281216, 1176055978, 268153405, 3421383726, 3881893764, 283994613, 1616567764, 2682959857, 1085130829, 2743583916, 210043884, 2378020805, 3692380650, 275471096, 1259984452, 452218459, 586737784, 2565753514]
theorem hza_w16 : sched hzaB 16 = hzaW.take 16 := by kernel_rfl
theorem hza_n16 : nextW (hzaW.take 16) = 16777216 := by kernel_rfl
theorem hza_n17 : nextW (hzaW.take 17) = 0 := by kernel_rfl
theorem hza_n18 : nextW (hzaW.take 18) = 16544 := by kernel_rfl
theorem hza_n19 : nextW (hzaW.take 19) = 0 := by kernel_rfl
theorem hza_n20 : nextW (hzaW.take 20) = 675545104 := by kernel_rfl
theorem hza_n21 : nextW (hzaW.take 21) = 0 := by kernel_rfl
theorem hza_n22 : nextW (hzaW.take 22) = 2147483690 := by kernel_rfl
theorem hza_n23 : nextW (hzaW.take 23) = 16777216 := by kernel_rfl
theorem hza_n24 : nextW (hzaW.take 24) = 3149824 := by kernel_rfl
theorem hza_n25 : nextW (hzaW.take 25) = 33088 := by kernel_rfl
theorem hza_n26 : nextW (hzaW.take 26) = 167775258 := by kernel_rfl
theorem hza_n27 : nextW (hzaW.take 27) = 2026635312 := by kernel_rfl
theorem hza_n28 : nextW (hzaW.take 28) = 126665795 := by kernel_rfl
theorem hza_n29 : nextW (hzaW.take 29) = 169 := by kernel_rfl
theorem hza_n30 : nextW (hzaW.take 30) = 4222091270 := by kernel_rfl
theorem hza_n31 : nextW (hzaW.take 31) = 9678912 := by kernel_rfl
theorem hza_n32 : nextW (hzaW.take 32) = 20826593 := by kernel_rfl
theorem hza_n33 : nextW (hzaW.take 33) = 139475302 := by kernel_rfl
theorem hza_n34 : nextW (hzaW.take 34) = 3600363675 := by kernel_rfl
theorem hza_n35 : nextW (hzaW.take 35) = 1216780162 := by kernel_rfl
theorem hza_n36 : nextW (hzaW.take 36) = 3870242956 := by kernel_rfl
theorem hza_n37 : nextW (hzaW.take 37) = 3654675713 := by kernel_rfl
theorem hza_n38 : nextW (hzaW.take 38) = 4230214902 := by kernel_rfl
theorem hza_n39 : nextW (hzaW.take 39) = 1364905656 := by kernel_rfl
theorem hza_n40 : nextW (hzaW.take 40) = 766182392 := by kernel_rfl
theorem hza_n41 : nextW (hzaW.take 41) = 1267444011 := by kernel_rfl
theorem hza_n42 : nextW (hzaW.take 42) = 2750620529 := by kernel_rfl
theorem hza_n43 : nextW (hzaW.take 43) = 3104548861 := by kernel_rfl
theorem hza_n44 : nextW (hzaW.take 44) = 696978087 := by kernel_rfl
theorem hza_n45 : nextW (hzaW.take 45) = 3050769878 := by kernel_rfl
theorem hza_n46 : nextW (hzaW.take 46) = 2635281216 := by kernel_rfl
theorem hza_n47 : nextW (hzaW.take 47) = 1176055978 := by kernel_rfl
theorem hza_n48 : nextW (hzaW.take 48) = 268153405 := by kernel_rfl
theorem hza_n49 : nextW (hzaW.take 49) = 3421383726 := by kernel_rfl
theorem hza_n50 : nextW (hzaW.take 50) = 3881893764 := by kernel_rfl
theorem hza_n51 : nextW (hzaW.take 51) = 283994613 := by kernel_rfl
theorem hza_n52 : nextW (hzaW.take 52) = 1616567764 := by kernel_rfl
theorem hza_n53 : nextW (hzaW.take 53) = 2682959857 := by kernel_rfl
theorem hza_n54 : nextW (hzaW.take 54) = 1085130829 := by kernel_rfl
theorem hza_n55 : nextW (hzaW.take 55) = 2743583916 := by kernel_rfl
theorem hza_n56 : nextW (hzaW.take 56) = 210043884 := by kernel_rfl
theorem hza_n57 : nextW (hzaW.take 57) = 2378020805 := by kernel_rfl
theorem hza_n58 : nextW (hzaW.take 58) = 3692380650 := by kernel_rfl
theorem hza_n59 : nextW (hzaW.take 59) = 275471096 := by kernel_rfl
theorem hza_n60 : nextW (hzaW.take 60) = 1259984452 := by kernel_rfl
theorem hza_n61 : nextW (hzaW.take 61) = 452218459 := by kernel_rfl
theorem hza_n62 : nextW (hzaW.take 62) = 586737784 := by kernel_rfl
theorem hza_n63 : nextW (hzaW.take 63) = 2565753514 := by kernel_rfl
theorem hza_w17 : sched hzaB 17 = hzaW.take 17 := sched_next hzaB 16 _ _ _ (by decide) hza_w16 hza_n16 rfl
theorem hza_w18 : sched hzaB 18 = hzaW.take 18 := sched_next hzaB 17 _ _ _ (by decide) hza_w17 hza_n17 rfl
theorem hza_w19 : sched hzaB 19 = hzaW.take 19 := sched_next hzaB 18 _ _ _ (by decide) hza_w18 hza_n18 rfl
theorem hza_w20 : sched hzaB 20 = hzaW.take 20 := sched_next hzaB 19 _ _ _ (by decide) hza_w19 hza_n19 rfl
theorem hza_w21 : sched hzaB 21 = hzaW.take 21 := sched_next hzaB 20 _ _ _ (by decide) hza_w20 hza_n20 rfl
theorem hza_w22 : sched hzaB 22 = hzaW.take 22 := sched_next hzaB 21 _ _ _ (by decide) hza_w21 hza_n21 rfl
theorem hza_w23 : sched hzaB 23 = hzaW.take 23 := sched_next hzaB 22 _ _ _ (by decide) hza_w22 hza_n22 rfl
theorem hza_w24 : sched hzaB 24 = hzaW.take 24 := sched_next hzaB 23 _ _ _ (by decide) hza_w23 hza_n23 rfl
theorem hza_w25 : sched hzaB 25 = hzaW.take 25 := sched_next hzaB 24 _ _ _ (by decide) hza_w24 hza_n24 rfl
theorem hza_w26 : sched hzaB 26 = hzaW.take 26 := sched_next hzaB 25 _ _ _ (by decide) hza_w25 hza_n25 rfl
theorem hza_w27 : sched hzaB 27 = hzaW.take 27 := sched_next hzaB 26 _ _ _ (by decide) hza_w26 hza_n26 rfl
theorem hza_w28 : sched hzaB 28 = hzaW.take 28 := sched_next hzaB 27 _ _ _ (by decide) hza_w27 hza_n27 rfl
theorem hza_w29 : sched hzaB 29 = hzaW.take 29 := sched_next hzaB 28 _ _ _ (by decide) hza_w28 hza_n28 rfl
theorem hza_w30 : sched hzaB 30 = hzaW.take 30 := sched_next hzaB 29 _ _ _ (by decide) hza_w29 hza_n29 rfl
theorem hza_w31 : sched hzaB 31 = hzaW.take 31 := sched_next hzaB 30 _ _ _ (by decide) hza_w30 hza_n30 rfl
theorem hza_w32 : sched hzaB 32 = hzaW.take 32 := sched_next hzaB 31 _ _ _ (by decide) hza_w31 hza_n31 rfl
theorem hza_w33 : sched hzaB 33 = hzaW.take 33 := sched_next hzaB 32 _ _ _ (by decide) hza_w32 hza_n32 rfl
theorem hza_w34 : sched hzaB 34 = hzaW.take 34 := sched_next hzaB 33 _ _ _ (by decide) hza_w33 hza_n33 rfl
theorem hza_w35 : sched hzaB 35 = hzaW.take 35 := sched_next hzaB 34 _ _ _ (by decide) hza_w34 hza_n34 rfl
theorem hza_w36 : sched hzaB 36 = hzaW.take 36 := sched_next hzaB 35 _ _ _ (by decide) hza_w35 hza_n35 rfl
theorem hza_w37 : sched hzaB 37 = hzaW.take 37 := sched_next hzaB 36 _ _ _ (by decide) hza_w36 hza_n36 rfl
theorem hza_w38 : sched hzaB 38 = hzaW.take 38 := sched_next hzaB 37 _ _ _ (by decide) hza_w37 hza_n37 rfl
theorem hza_w39 : sched hzaB 39 = hzaW.take 39 := sched_next hzaB 38 _ _ _ (by decide) hza_w38 hza_n38 rfl
theorem hza_w40 : sched hzaB 40 = hzaW.take 40 := sched_next hzaB 39 _ _ _ (by decide) hza_w39 hza_n39 rfl
theorem hza_w41 : sched hzaB 41 = hzaW.take 41 := sched_next hzaB 40 _ _ _ (by decide) hza_w40 hza_n40 rfl
theorem hza_w42 : sched hzaB 42 = hzaW.take 42 := sched_next hzaB 41 _ _ _ (by decide) hza_w41 hza_n41 rfl
theorem hza_w43 : sched hzaB 43 = hzaW.take 43 := sched_next hzaB 42 _ _ _ (by decide) hza_w42 hza_n42 rfl
theorem hza_w44 : sched hzaB 44 = hzaW.take 44 := sched_next hzaB 43 _ _ _ (by decide) hza_w43 hza_n43 rfl
theorem hza_w45 : sched hzaB 45 = hzaW.take 45 := sched_next hzaB 44 _ _ _ (by decide) hza_w44 hza_n44 rfl
theorem hza_w46 : sched hzaB 46 = hzaW.take 46 := sched_next hzaB 45 _ _ _ (by decide) hza_w45 hza_n45 rfl
theorem hza_w47 : sched hzaB 47 = hzaW.take 47 := sched_next hzaB 46 _ _ _ (by decide) hza_w46 hza_n46 rfl
theorem hza_w48 : sched hzaB 48 = hzaW.take 48 := sched_next hzaB 47 _ _ _ (by decide) hza_w47 hza_n47 rfl
theorem hza_w49 : sched hzaB 49 = hzaW.take 49 := sched_next hzaB 48 _ _ _ (by decide) hza_w48 hza_n48 rfl
theorem hza_w50 : sched hzaB 50 = hzaW.take 50 := sched_next hzaB 49 _ _ _ (by decide) hza_w49 hza_n49 rfl
theorem hza_w51 : sched hzaB 51 = hzaW.take 51 := sched_next hzaB 50 _ _ _ (by decide) hza_w50 hza_n50 rfl
theorem hza_w52 : sched hzaB 52 = hzaW.take 52 := sched_next hzaB 51 _ _ _ (by decide) hza_w51 hza_n51 rfl
theorem hza_w53 : sched hzaB 53 = hzaW.take 53 := sched_next hzaB 52 _ _ _ (by decide) hza_w52 hza_n52 rfl
theorem hza_w54 : sched hzaB 54 = hzaW.take 54 := sched_next hzaB 53 _ _ _ (by decide) hza_w53 hza_n53 rfl
theorem hza_w55 : sched hzaB 55 = hzaW.take 55 := sched_next hzaB 54 _ _ _ (by decide) hza_w54 hza_n54 rfl
theorem hza_w56 : sched hzaB 56 = hzaW.take 56 := sched_next hzaB 55 _ _ _ (by decide) hza_w55 hza_n55 rfl
theorem hza_w57 : sched hzaB 57 = hzaW.take 57 := sched_next hzaB 56 _ _ _ (by decide) hza_w56 hza_n56 rfl
theorem hza_w58 : sched hzaB 58 = hzaW.take 58 := sched_next hzaB 57 _ _ _ (by decide) hza_w57 hza_n57 rfl
theorem hza_w59 : sched hzaB 59 = hzaW.take 59 := sched_next hzaB 58 _ _ _ (by decide) hza_w58 hza_n58 rfl
theorem hza_w60 : sched hzaB 60 = hzaW.take 60 := sched_next hzaB 59 _ _ _ (by decide) hza_w59 hza_n59 rfl
theorem hza_w61 : sched hzaB 61 = hzaW.take 61 := sched_next hzaB 60 _ _ _ (by decide) hza_w60 hza_n60 rfl
theorem hza_w62 : sched hzaB 62 = hzaW.take 62 := sched_next hzaB 61 _ _ _ (by decide) hza_w61 hza_n61 rfl
theorem hza_w63 : sched hzaB 63 = hzaW.take 63 := sched_next hzaB 62 _ _ _ (by decide) hza_w62 hza_n62 rfl
theorem hza_w64 : sched hzaB 64 = hzaW.take 64 := sched_next hzaB 63 _ _ _ (by decide) hza_w63 hza_n63 rfl
def hza_t0 : St := ⟨1779033703, 3144134277, 1013904242, 2773480762, 1359893119, 2600822924, 528734635, 1541459225⟩
def hza_t1 : St := ⟨4245194829, 1779033703, 3144134277, 1013904242, 2580013730, 1359893119, 2600822924, 528734635⟩
def hza_t2 : St := ⟨4221405836, 4245194829, 1779033703, 3144134277, 502649366, 2580013730, 1359893119, 2600822924⟩
def hza_t3 : St := ⟨2728894896, 4221405836, 4245194829, 1779033703, 1180383303, 502649366, 2580013730, 1359893119⟩
def hza_t4 : St := ⟨3359591766, 2728894896, 4221405836, 4245194829, 2064739158, 1180383303, 502649366, 2580013730⟩
def hza_t5 : St := ⟨3858185507, 3359591766, 2728894896, 4221405836, 3534975565, 2064739158, 1180383303, 502649366⟩
def hza_t6 : St := ⟨2732042291, 3858185507, 3359591766, 2728894896, 4045903399, 3534975565, 2064739158, 1180383303⟩
def hza_t7 : St := ⟨1413431039, 2732042291, 3858185507, 3359591766, 510099778, 4045903399, 3534975565, 2064739158⟩
def hza_t8 : St := ⟨3454435197, 1413431039, 2732042291, 3858185507, 3542089098, 510099778, 4045903399, 3534975565⟩
def hza_t9 : St := ⟨3375153094, 3454435197, 1413431039, 2732042291, 3636639375, 3542089098, 510099778, 4045903399⟩
def hza_t10 : St := ⟨893827585, 3375153094, 3454435197, 1413431039, 208512133, 3636639375, 3542089098, 510099778⟩
def hza_t11 : St := ⟨625294804, 893827585, 3375153094, 3454435197, 611171630, 208512133, 3636639375, 3542089098⟩
def hza_t12 : St := ⟨1223934896, 625294804, 893827585, 3375153094, 4270738848, 611171630, 208512133, 3636639375⟩
def hza_t13 : St := ⟨3333041033, 1223934896, 625294804, 893827585, 2849945966, 4270738848, 611171630, 208512133⟩
def hza_t14 : St := ⟨2086149698, 3333041033, 1223934896, 625294804, 3882947594, 2849945966, 4270738848, 611171630⟩
def hza_t15 : St := ⟨3874112673, 2086149698, 3333041033, 1223934896, 2981661268, 3882947594, 2849945966, 4270738848⟩
def hza_t16 : St := ⟨172466176, 3874112673, 2086149698, 3333041033, 1990865742, 2981661268, 3882947594, 2849945966⟩
def hza_t17 : St := ⟨3504128567, 172466176, 3874112673, 2086149698, 220934060, 1990865742, 2981661268, 3882947594⟩
def hza_t18 : St := ⟨3042773010, 3504128567, 172466176, 3874112673, 3630497035, 220934060, 1990865742, 2981661268⟩
def hza_t19 : St := ⟨3603485912, 3042773010, 3504128567, 172466176, 2473785134, 3630497035, 220934060, 1990865742⟩
def hza_t20 : St := ⟨2735318444, 3603485912, 3042773010, 3504128567, 676111727, 2473785134, 3630497035, 220934060⟩
def hza_t21 : St := ⟨1162554928, 2735318444, 3603485912, 3042773010, 1001170981, 676111727, 2473785134, 3630497035⟩
def hza_t22 : St := ⟨621286404, 1162554928, 2735318444, 3603485912, 3333641886, 1001170981, 676111727, 2473785134⟩
def hza_t23 : St := ⟨985004261, 621286404, 1162554928, 2735318444, 1665297348, 3333641886, 1001170981, 676111727⟩
def hza_t24 : St := ⟨1184493665, 985004261, 621286404, 1162554928, 1714625133, 1665297348, 3333641886, 1001170981⟩
def hza_t25 : St := ⟨1952338744, 1184493665, 985004261, 621286404, 3718366006, 1714625133, 1665297348, 3333641886⟩
def hza_t26 : St := ⟨3066837463, 1952338744, 1184493665, 985004261, 1738376589, 3718366006, 1714625133, 1665297348⟩
def hza_t27 : St := ⟨949999199, 3066837463, 1952338744, 1184493665, 3901716228, 1738376589, 3718366006, 1714625133⟩
def hza_t28 : St := ⟨15757002, 949999199, 3066837463, 1952338744, 254066241, 3901716228, 1738376589, 3718366006⟩
def hza_t29 : St := ⟨3684816114, 15757002, 949999199, 3066837463, 3880547609, 254066241, 3901716228, 1738376589⟩
def hza_t30 : St := ⟨1581702241, 3684816114, 15757002, 949999199, 1714674690, 3880547609, 254066241, 3901716228⟩
def hza_t31 : St := ⟨4111201805, 1581702241, 3684816114, 15757002, 585117491, 1714674690, 3880547609, 254066241⟩
def hza_t32 : St := ⟨671051651, 4111201805, 1581702241, 3684816114, 1727440868, 585117491, 1714674690, 3880547609⟩
def hza_t33 : St := ⟨152085918, 671051651, 4111201805, 1581702241, 621384715, 1727440868, 585117491, 1714674690⟩
def hza_t34 : St := ⟨4260915733, 152085918, 671051651, 4111201805, 1258374433, 621384715, 1727440868, 585117491⟩
def hza_t35 : St := ⟨179797104, 4260915733, 152085918, 671051651, 55664693, 1258374433, 621384715, 1727440868⟩
def hza_t36 : St := ⟨3932753010, 179797104, 4260915733, 152085918, 3420177748, 55664693, 1258374433, 621384715⟩
def hza_t37 : St := ⟨4036986517, 3932753010, 179797104, 4260915733, 2440684486, 3420177748, 55664693, 1258374433⟩
def hza_t38 : St := ⟨508717400, 4036986517, 3932753010, 179797104, 4210660450, 2440684486, 3420177748, 55664693⟩
def hza_t39 : St := ⟨2373876953, 508717400, 4036986517, 3932753010, 2565465149, 4210660450, 2440684486, 3420177748⟩
def hza_t40 : St := ⟨1736699036, 2373876953, 508717400, 4036986517, 959314245, 2565465149, 4210660450, 2440684486⟩
def hza_t41 : St := ⟨1772226762, 1736699036, 2373876953, 508717400, 3627903969, 959314245, 2565465149, 4210660450⟩
def hza_t42 : St := ⟨2939611007, 1772226762, 1736699036, 2373876953, 198049147, 3627903969, 959314245, 2565465149⟩
def hza_t43 : St := ⟨1482103812, 2939611007, 1772226762, 1736699036, 1787129131, 198049147, 3627903969, 959314245⟩
def hza_t44 : St := ⟨2991740066, 1482103812, 2939611007, 1772226762, 106504216, 1787129131, 198049147, 3627903969⟩
def hza_t45 : St := ⟨697622860, 2991740066, 1482103812, 2939611007, 2550990973, 106504216, 1787129131, 198049147⟩
def hza_t46 : St := ⟨2247498289, 697622860, 2991740066, 1482103812, 2840947034, 2550990973, 106504216, 1787129131⟩
def hza_t47 : St := ⟨2137550831, 2247498289, 697622860, 2991740066, 3444559016, 2840947034, 2550990973, 106504216⟩
def hza_t48 : St := ⟨3070215406, 2137550831, 2247498289, 697622860, 977227998, 3444559016, 2840947034, 2550990973⟩
def hza_t49 : St := ⟨4116514329, 3070215406, 2137550831, 2247498289, 4044987480, 977227998, 3444559016, 2840947034⟩
def hza_t50 : St := ⟨1693224812, 4116514329, 3070215406, 2137550831, 3118781939, 4044987480, 977227998, 3444559016⟩
def hza_t51 : St := ⟨3614599549, 1693224812, 4116514329, 3070215406, 2440535508, 3118781939, 4044987480, 977227998⟩
def hza_t52 : St := ⟨2977369658, 3614599549, 1693224812, 4116514329, 2070080794, 2440535508, 3118781939, 4044987480⟩
def hza_t53 : St := ⟨2406629907, 2977369658, 3614599549, 1693224812, 2376635837, 2070080794, 2440535508, 3118781939⟩
def hza_t54 : St := ⟨698908270, 2406629907, 2977369658, 3614599549, 3168411252, 2376635837, 2070080794, 2440535508⟩
def hza_t55 : St := ⟨4046202826, 698908270, 2406629907, 2977369658, 1179211919, 3168411252, 2376635837, 2070080794⟩
def hza_t56 : St := ⟨4178279544, 4046202826, 698908270, 2406629907, 3470162193, 1179211919, 3168411252, 2376635837⟩
def hza_t57 : St := ⟨2095118803, 4178279544, 4046202826, 698908270, 582338779, 3470162193, 1179211919, 3168411252⟩
def hza_t58 : St := ⟨3264319522, 2095118803, 4178279544, 4046202826, 1624046646, 582338779, 3470162193, 1179211919⟩
def hza_t59 : St := ⟨4284743935, 3264319522, 2095118803, 4178279544, 2149266633, 1624046646, 582338779, 3470162193⟩
def hza_t60 : St := ⟨2825220973, 4284743935, 3264319522, 2095118803, 980113936, 2149266633, 1624046646, 582338779⟩
def hza_t61 : St := ⟨3313562909, 2825220973, 4284743935, 3264319522, 4081268016, 980113936, 2149266633, 1624046646⟩
def hza_t62 : St := ⟨3732249843, 3313562909, 2825220973, 4284743935, 3645396290, 4081268016, 980113936, 2149266633⟩
def hza_t63 : St := ⟨4015774433, 3732249843, 3313562909, 2825220973, 1542031994, 3645396290, 4081268016, 980113936⟩
def hza_t64 : St := ⟨2029724143, 4015774433, 3732249843, 3313562909, 2388438160, 1542031994, 3645396290, 4081268016⟩
theorem hza_s0 : rnd hza_t0 1116352408 16777216 = hza_t1 := by kernel_rfl
theorem hza_s1 : rnd hza_t1 1899447441 0 = hza_t2 := by kernel_rfl
theorem hza_s2 : rnd hza_t2 3049323471 0 = hza_t3 := by kernel_rfl
theorem hza_s3 : rnd hza_t3 3921009573 0 = hza_t4 := by kernel_rfl
theorem hza_s4 : rnd hza_t4 961987163 0 = hza_t5 := by kernel_rfl
theorem hza_s5 : rnd hza_t5 1508970993 0 = hza_t6 := by kernel_rfl
theorem hza_s6 : rnd hza_t6 2453635748 0 = hza_t7 := by kernel_rfl
theorem hza_s7 : rnd hza_t7 2870763221 0 = hza_t8 := by kernel_rfl
theorem hza_s8 : rnd hza_t8 3624381080 0 = hza_t9 := by kernel_rfl
theorem hza_s9 : rnd hza_t9 310598401 0 = hza_t10 := by kernel_rfl
theorem hza_s10 : rnd hza_t10 607225278 0 = hza_t11 := by kernel_rfl
theorem hza_s11 : rnd hza_t11 1426881987 0 = hza_t12 := by kernel_rfl
theorem hza_s12 : rnd hza_t12 1925078388 0 = hza_t13 := by kernel_rfl
theorem hza_s13 : rnd hza_t13 2162078206 0 = hza_t14 := by kernel_rfl
theorem hza_s14 : rnd hza_t14 2614888103 0 = hza_t15 := by kernel_rfl
theorem hza_s15 : rnd hza_t15 3248222580 0 = hza_t16 := by kernel_rfl
theorem hza_s16 : rnd hza_t16 3835390401 16777216 = hza_t17 := by kernel_rfl
theorem hza_s17 : rnd hza_t17 4022224774 0 = hza_t18 := by kernel_rfl
theorem hza_s18 : rnd hza_t18 264347078 16544 = hza_t19 := by kernel_rfl
theorem hza_s19 : rnd hza_t19 604807628 0 = hza_t20 := by kernel_rfl
theorem hza_s20 : rnd hza_t20 770255983 675545104 = hza_t21 := by kernel_rfl
theorem hza_s21 : rnd hza_t21 1249150122 0 = hza_t22 := by kernel_rfl
theorem hza_s22 : rnd hza_t22 1555081692 2147483690 = hza_t23 := by kernel_rfl
theorem hza_s23 : rnd hza_t23 1996064986 16777216 = hza_t24 := by kernel_rfl
theorem hza_s24 : rnd hza_t24 2554220882 3149824 = hza_t25 := by kernel_rfl
theorem hza_s25 : rnd hza_t25 2821834349 33088 = hza_t26 := by kernel_rfl
theorem hza_s26 : rnd hza_t26 2952996808 167775258 = hza_t27 := by kernel_rfl
theorem hza_s27 : rnd hza_t27 3210313671 2026635312 = hza_t28 := by kernel_rfl
theorem hza_s28 : rnd hza_t28 3336571891 126665795 = hza_t29 := by kernel_rfl
theorem hza_s29 : rnd hza_t29 3584528711 169 = hza_t30 := by kernel_rfl
theorem hza_s30 : rnd hza_t30 113926993 4222091270 = hza_t31 := by kernel_rfl
theorem hza_s31 : rnd hza_t31 338241895 9678912 = hza_t32 := by kernel_rfl
theorem hza_s32 : rnd hza_t32 666307205 20826593 = hza_t33 := by kernel_rfl
theorem hza_s33 : rnd hza_t33 773529912 139475302 = hza_t34 := by kernel_rfl
theorem hza_s34 : rnd hza_t34 1294757372 3600363675 = hza_t35 := by kernel_rfl
theorem hza_s35 : rnd hza_t35 1396182291 1216780162 = hza_t36 := by kernel_rfl
theorem hza_s36 : rnd hza_t36 1695183700 3870242956 = hza_t37 := by kernel_rfl
theorem hza_s37 : rnd hza_t37 1986661051 3654675713 = hza_t38 := by kernel_rfl
theorem hza_s38 : rnd hza_t38 2177026350 4230214902 = hza_t39 := by kernel_rfl
theorem hza_s39 : rnd hza_t39 2456956037 1364905656 = hza_t40 := by kernel_rfl
theorem hza_s40 : rnd hza_t40 2730485921 766182392 = hza_t41 := by kernel_rfl
theorem hza_s41 : rnd hza_t41 2820302411 1267444011 = hza_t42 := by kernel_rfl
theorem hza_s42 : rnd hza_t42 3259730800 2750620529 = hza_t43 := by kernel_rfl
theorem hza_s43 : rnd hza_t43 3345764771 3104548861 = hza_t44 := by kernel_rfl
theorem hza_s44 : rnd hza_t44 3516065817 696978087 = hza_t45 := by kernel_rfl
theorem hza_s45 : rnd hza_t45 3600352804 3050769878 = hza_t46 := by kernel_rfl
theorem hza_s46 : rnd hza_t46 4094571909 2635281216 = hza_t47 := by kernel_rfl
theorem hza_s47 : rnd hza_t47 275423344 1176055978 = hza_t48 := by kernel_rfl
theorem hza_s48 : rnd hza_t48 430227734 268153405 = hza_t49 := by kernel_rfl
theorem hza_s49 : rnd hza_t49 506948616 3421383726 = hza_t50 := by kernel_rfl
theorem hza_s50 : rnd hza_t50 659060556 3881893764 = hza_t51 := by kernel_rfl
theorem hza_s51 : rnd hza_t51 883997877 283994613 = hza_t52 := by kernel_rfl
theorem hza_s52 : rnd hza_t52 958139571 1616567764 = hza_t53 := by kernel_rfl
theorem hza_s53 : rnd hza_t53 1322822218 2682959857 = hza_t54 := by kernel_rfl
theorem hza_s54 : rnd hza_t54 1537002063 1085130829 = hza_t55 := by kernel_rfl
theorem hza_s55 : rnd hza_t55 1747873779 2743583916 = hza_t56 := by kernel_rfl
theorem hza_s56 : rnd hza_t56 1955562222 210043884 = hza_t57 := by kernel_rfl
theorem hza_s57 : rnd hza_t57 2024104815 2378020805 = hza_t58 := by kernel_rfl
theorem hza_s58 : rnd hza_t58 2227730452 3692380650 = hza_t59 := by kernel_rfl
theorem hza_s59 : rnd hza_t59 2361852424 275471096 = hza_t60 := by kernel_rfl
theorem hza_s60 : rnd hza_t60 2428436474 1259984452 = hza_t61 := by kernel_rfl
theorem hza_s61 : rnd hza_t61 2756734187 452218459 = hza_t62 := by kernel_rfl
theorem hza_s62 : rnd hza_t62 3204031479 586737784 = hza_t63 := by kernel_rfl
theorem hza_s63 : rnd hza_t63 3329325298 2565753514 = hza_t64 := by kernel_rfl
theorem hza_r0 : rounds hza_t0 hzaW 0 = hza_t0 := rfl
theorem hza_r1 : rounds hza_t0 hzaW 1 = hza_t1 := rounds_next _ _ 0 _ _ _ _ hza_r0 rfl rfl hza_s0
theorem hza_r2 : rounds hza_t0 hzaW 2 = hza_t2 := rounds_next _ _ 1 _ _ _ _ hza_r1 rfl rfl hza_s1
theorem hza_r3 : rounds hza_t0 hzaW 3 = hza_t3 := rounds_next _ _ 2 _ _ _ _ hza_r2 rfl rfl hza_s2
theorem hza_r4 : rounds hza_t0 hzaW 4 = hza_t4 := rounds_next _ _ 3 _ _ _ _ hza_r3 rfl rfl hza_s3
theorem hza_r5 : rounds hza_t0 hzaW 5 = hza_t5 := rounds_next _ _ 4 _ _ _ _ hza_r4 rfl rfl hza_s4
theorem hza_r6 : rounds hza_t0 hzaW 6 = hza_t6 := rounds_next _ _ 5 _ _ _ _ hza_r5 rfl rfl hza_s5
theorem hza_r7 : rounds hza_t0 hzaW 7 = hza_t7 := rounds_next _ _ 6 _ _ _ _ hza_r6 rfl rfl hza_s6
theorem hza_r8 : rounds hza_t0 hzaW 8 = hza_t8 := rounds_next _ _ 7 _ _ _ _ hza_r7 rfl rfl hza_s7
theorem hza_r9 : rounds hza_t0 hzaW 9 = hza_t9 := rounds_next _ _ 8 _ _ _ _ hza_r8 rfl rfl hza_s8
theorem hza_r10 : rounds hza_t0 hzaW 10 = hza_t10 := rounds_next _ _ 9 _ _ _ _ hza_r9 rfl rfl hza_s9
theorem hza_r11 : rounds hza_t0 hzaW 11 = hza_t11 := rounds_next _ _ 10 _ _ _ _ hza_r10 rfl rfl hza_s10
theorem hza_r12 : rounds hza_t0 hzaW 12 = hza_t12 := rounds_next _ _ 11 _ _ _ _ hza_r11 rfl rfl hza_s11
theorem hza_r13 : rounds hza_t0 hzaW 13 = hza_t13 := rounds_next _ _ 12 _ _ _ _ hza_r12 rfl rfl hza_s12
theorem hza_r14 : rounds hza_t0 hzaW 14 = hza_t14 := rounds_next _ _ 13 _ _ _ _ hza_r13 rfl rfl hza_s13
theorem hza_r15 : rounds hza_t0 hzaW 15 = hza_t15 := rounds_next _ _ 14 _ _ _ _ hza_r14 rfl rfl hza_s14
theorem hza_r16 : rounds hza_t0 hzaW 16 = hza_t16 := rounds_next _ _ 15 _ _ _ _ hza_r15 rfl rfl hza_s15
theorem hza_r17 : rounds hza_t0 hzaW 17 = hza_t17 := rounds_next _ _ 16 _ _ _ _ hza_r16 rfl rfl hza_s16
theorem hza_r18 : rounds hza_t0 hzaW 18 = hza_t18 := rounds_next _ _ 17 _ _ _ _ hza_r17 rfl rfl hza_s17
theorem hza_r19 : rounds hza_t0 hzaW 19 = hza_t19 := rounds_next _ _ 18 _ _ _ _ hza_r18 rfl rfl hza_s18
theorem hza_r20 : rounds hza_t0 hzaW 20 = hza_t20 := rounds_next _ _ 19 _ _ _ _ hza_r19 rfl rfl hza_s19
theorem hza_r21 : rounds hza_t0 hzaW 21 = hza_t21 := rounds_next _ _ 20 _ _ _ _ hza_r20 rfl rfl hza_s20
theorem hza_r22 : rounds hza_t0 hzaW 22 = hza_t22 := rounds_next _ _ 21 _ _ _ _ hza_r21 rfl rfl hza_s21
theorem hza_r23 : rounds hza_t0 hzaW 23 = hza_t23 := rounds_next _ _ 22 _ _ _ _ hza_r22 rfl rfl hza_s22
theorem hza_r24 : rounds hza_t0 hzaW 24 = hza_t24 := rounds_next _ _ 23 _ _ _ _ hza_r23 rfl rfl hza_s23
theorem hza_r25 : rounds hza_t0 hzaW 25 = hza_t25 := rounds_next _ _ 24 _ _ _ _ hza_r24 rfl rfl hza_s24
theorem hza_r26 : rounds hza_t0 hzaW 26 = hza_t26 := rounds_next _ _ 25 _ _ _ _ hza_r25 rfl rfl hza_s25
theorem hza_r27 : rounds hza_t0 hzaW 27 = hza_t27 := rounds_next _ _ 26 _ _ _ _ hza_r26 rfl rfl hza_s26
theorem hza_r28 : rounds hza_t0 hzaW 28 = hza_t28 := rounds_next _ _ 27 _ _ _ _ hza_r27 rfl rfl hza_s27
theorem hza_r29 : rounds hza_t0 hzaW 29 = hza_t29 := rounds_next _ _ 28 _ _ _ _ hza_r28 rfl rfl hza_s28
theorem hza_r30 : rounds hza_t0 hzaW 30 = hza_t30 := rounds_next _ _ 29 _ _ _ _ hza_r29 rfl rfl hza_s29
theorem hza_r31 : rounds hza_t0 hzaW 31 = hza_t31 := rounds_next _ _ 30 _ _ _ _ hza_r30 rfl rfl hza_s30
theorem hza_r32 : rounds hza_t0 hzaW 32 = hza_t32 := rounds_next _ _ 31 _ _ _ _ hza_r31 rfl rfl hza_s31
theorem hza_r33 : rounds hza_t0 hzaW 33 = hza_t33 := rounds_next _ _ 32 _ _ _ _ hza_r32 rfl rfl hza_s32
theorem hza_r34 : rounds hza_t0 hzaW 34 = hza_t34 := rounds_next _ _ 33 _ _ _ _ hza_r33 rfl rfl hza_s33
theorem hza_r35 : rounds hza_t0 hzaW 35 = hza_t35 := rounds_next _ _ 34 _ _ _ _ hza_r34 rfl rfl hza_s34
theorem hza_r36 : rounds hza_t0 hzaW 36 = hza_t36 := rounds_next _ _ 35 _ _ _ _ hza_r35 rfl rfl hza_s35
theorem hza_r37 : rounds hza_t0 hzaW 37 = hza_t37 := rounds_next _ _ 36 _ _ _ _ hza_r36 rfl rfl hza_s36
theorem hza_r38 : rounds hza_t0 hzaW 38 = hza_t38 := rounds_next _ _ 37 _ _ _ _ hza_r37 rfl rfl hza_s37
theorem hza_r39 : rounds hza_t0 hzaW 39 = hza_t39 := rounds_next _ _ 38 _ _ _ _ hza_r38 rfl rfl hza_s38
theorem hza_r40 : rounds hza_t0 hzaW 40 = hza_t40 := rounds_next _ _ 39 _ _ _ _ hza_r39 rfl rfl hza_s39
theorem hza_r41 : rounds hza_t0 hzaW 41 = hza_t41 := rounds_next _ _ 40 _ _ _ _ hza_r40 rfl rfl hza_s40
theorem hza_r42 : rounds hza_t0 hzaW 42 = hza_t42 := rounds_next _ _ 41 _ _ _ _ hza_r41 rfl rfl hza_s41
theorem hza_r43 : rounds hza_t0 hzaW 43 = hza_t43 := rounds_next _ _ 42 _ _ _ _ hza_r42 rfl rfl hza_s42
theorem hza_r44 : rounds hza_t0 hzaW 44 = hza_t44 := rounds_next _ _ 43 _ _ _ _ hza_r43 rfl rfl hza_s43
theorem hza_r45 : rounds hza_t0 hzaW 45 = hza_t45 := rounds_next _ _ 44 _ _ _ _ hza_r44 rfl rfl hza_s44
theorem hza_r46 : rounds hza_t0 hzaW 46 = hza_t46 := rounds_next _ _ 45 _ _ _ _ hza_r45 rfl rfl hza_s45
theorem hza_r47 : rounds hza_t0 hzaW 47 = hza_t47 := rounds_next _ _ 46 _ _ _ _ hza_r46 rfl rfl hza_s46
theorem hza_r48 : rounds hza_t0 hzaW 48 = hza_t48 := rounds_next _ _ 47 _ _ _ _ hza_r47 rfl rfl hza_s47
theorem hza_r49 : rounds hza_t0 hzaW 49 = hza_t49 := rounds_next _ _ 48 _ _ _ _ hza_r48 rfl rfl hza_s48
theorem hza_r50 : rounds hza_t0 hzaW 50 = hza_t50 := rounds_next _ _ 49 _ _ _ _ hza_r49 rfl rfl hza_s49
theorem hza_r51 : rounds hza_t0 hzaW 51 = hza_t51 := rounds_next _ _ 50 _ _ _ _ hza_r50 rfl rfl hza_s50
theorem hza_r52 : rounds hza_t0 hzaW 52 = hza_t52 := rounds_next _ _ 51 _ _ _ _ hza_r51 rfl rfl hza_s51
theorem hza_r53 : rounds hza_t0 hzaW 53 = hza_t53 := rounds_next _ _ 52 _ _ _ _ hza_r52 rfl rfl hza_s52
theorem hza_r54 : rounds hza_t0 hzaW 54 = hza_t54 := rounds_next _ _ 53 _ _ _ _ hza_r53 rfl rfl hza_s53
theorem hza_r55 : rounds hza_t0 hzaW 55 = hza_t55 := rounds_next _ _ 54 _ _ _ _ hza_r54 rfl rfl hza_s54
theorem hza_r56 : rounds hza_t0 hzaW 56 = hza_t56 := rounds_next _ _ 55 _ _ _ _ hza_r55 rfl rfl hza_s55
theorem hza_r57 : rounds hza_t0 hzaW 57 = hza_t57 := rounds_next _ _ 56 _ _ _ _ hza_r56 rfl rfl hza_s56
theorem hza_r58 : rounds hza_t0 hzaW 58 = hza_t58 := rounds_next _ _ 57 _ _ _ _ hza_r57 rfl rfl hza_s57
theorem hza_r59 : rounds hza_t0 hzaW 59 = hza_t59 := rounds_next _ _ 58 _ _ _ _ hza_r58 rfl rfl hza_s58
theorem hza_r60 : rounds hza_t0 hzaW 60 = hza_t60 := rounds_next _ _ 59 _ _ _ _ hza_r59 rfl rfl hza_s59
theorem hza_r61 : rounds hza_t0 hzaW 61 = hza_t61 := rounds_next _ _ 60 _ _ _ _ hza_r60 rfl rfl hza_s60
theorem hza_r62 : rounds hza_t0 hzaW 62 = hza_t62 := rounds_next _ _ 61 _ _ _ _ hza_r61 rfl rfl hza_s61
theorem hza_r63 : rounds hza_t0 hzaW 63 = hza_t63 := rounds_next _ _ 62 _ _ _ _ hza_r62 rfl rfl hza_s62
theorem hza_r64 : rounds hza_t0 hzaW 64 = hza_t64 := rounds_next _ _ 63 _ _ _ _ hza_r63 rfl rfl hza_s63
def hzaN : List Int := [3808757846, 2864941414, 451186789, 1792076375, 3748331279, 4142854918, 4174130925, 1327759945]
theorem hza_block : blockZ FZ hzaB = hzaN := by
  have h : (sched hzaB 64) = hzaW := hza_w64
  unfold blockZ
  rw [h, show St.ofL FZ = hza_t0 from rfl, hza_r64]
  show _ = _
  kernel_rfl
def hzbB : List Int := [0, 128, 0, 0, 0, 0, 0, 0, 0, 0, 0, 0, 0, 0, 0, 0, 0, 0, 0, 0, 0, 0, 0, 0, 0, 0, 0, 0, 0, 0, 0, 0, 0, 0, 0, 0, 0, 0, 0, 0, 0, 0, 0, 0, 0, 0, 0, 0, 0, 0, 0, 0, 0, 0, 0, 0, 0, 0, 0, 0, 0, 0, 2, 8]
def hzbW : List Int := [8388608, 0, 0, 0, 0, 0, 0, 0, 0, 0, 0, 0, 0, 0, 0, 520, 8388608, 21299200, 8272, 536891850, 337772552, 584340500, 1073742365, 2701140005, 44173312, 339625208, 1694563153, 4278716177, 2242916914, 1129645185, 3506478796, 628319913, 2977178064, 3991071337, 406371735, 1621178620, 3658518620, 3780499249, 384976696, 638312866, 3214235832, 1243750311, 182604009, 2659197837, 356352104, 336154357, 4137126667, 853682779, 2775401939, 1266820032, 2082364340, 1380617036, 3740401288, 3490069983, 3277659361, 3581733188, 4180500541, 4151572106, 2036484278, 3048466945, 229369751, 1271992381, 2516438927, 3098484440]
theorem hzb_w16 : sched hzbB 16 = hzbW.take 16 := by kernel_rfl
theorem hzb_n16 : nextW (hzbW.take 16) = 8388608 := by kernel_rfl
theorem hzb_n17 : nextW (hzbW.take 17) = 21299200 := by kernel_rfl
theorem hzb_n18 : nextW (hzbW.take 18) = 8272 := by kernel_rfl
theorem hzb_n19 : nextW (hzbW.take 19) = 536891850 := by kernel_rfl
theorem hzb_n20 : nextW (hzbW.take 20) = 337772552 := by kernel_rfl
theorem hzb_n21 : nextW (hzbW.take 21) = 584340500 := by kernel_rfl
theorem hzb_n22 : nextW (hzbW.take 22) = 1073742365 := by kernel_rfl
theorem hzb_n23 : nextW (hzbW.take 23) = 2701140005 := by kernel_rfl
theorem hzb_n24 : nextW (hzbW.take 24) = 44173312 := by kernel_rfl
theorem hzb_n25 : nextW (hzbW.take 25) = 339625208 := by kernel_rfl
theorem hzb_n26 : nextW (hzbW.take 26) = 1694563153 := by kernel_rfl
theorem hzb_n27 : nextW (hzbW.take 27) = 4278716177 := by kernel_rfl
theorem hzb_n28 : nextW (hzbW.take 28) = 2242916914 := by kernel_rfl
theorem hzb_n29 : nextW (hzbW.take 29) = 1129645185 := by kernel_rfl
theorem hzb_n30 : nextW (hzbW.take 30) = 3506478796 := by kernel_rfl
theorem hzb_n31 : nextW (hzbW.take 31) = 628319913 := by kernel_rfl
theorem hzb_n32 : nextW (hzbW.take 32) = 2977178064 := by kernel_rfl
theorem hzb_n33 : nextW (hzbW.take 33) = 3991071337 := by kernel_rfl
theorem hzb_n34 : nextW (hzbW.take 34) = 406371735 := by kernel_rfl
theorem hzb_n35 : nextW (hzbW.take 35) = 1621178620 := by kernel_rfl
theorem hzb_n36 : nextW (hzbW.take 36) = 3658518620 := by kernel_rfl
theorem hzb_n37 : nextW (hzbW.take 37) = 3780499249 := by kernel_rfl
theorem hzb_n38 : nextW (hzbW.take 38) = 384976696 := by kernel_rfl
theorem hzb_n39 : nextW (hzbW.take 39) = 638312866 := by kernel_rfl
theorem hzb_n40 : nextW (hzbW.take 40) = 3214235832 := by kernel_rfl
theorem hzb_n41 : nextW (hzbW.take 41) = 1243750311 := by kernel_rfl
theorem hzb_n42 : nextW (hzbW.take 42) = 182604009 := by kernel_rfl
theorem hzb_n43 : nextW (hzbW.take 43) = 2659197837 := by kernel_rfl
theorem hzb_n44 : nextW (hzbW.take 44) = 356352104 := by kernel_rfl
theorem hzb_n45 : nextW (hzbW.take 45) = 336154357 := by kernel_rfl
theorem hzb_n46 : nextW (hzbW.take 46) = 4137126667 := by kernel_rfl
theorem hzb_n47 : nextW (hzbW.take 47) = 853682779 := by kernel_rfl
theorem hzb_n48 : nextW (hzbW.take 48) = 2775401939 := by kernel_rfl
theorem hzb_n49 : nextW (hzbW.take 49) = 1266820032 := by kernel_rfl
theorem hzb_n50 : nextW (hzbW.take 50) = 2082364340 := by kernel_rfl
theorem hzb_n51 : nextW (hzbW.take 51) = 1380617036 := by kernel_rfl
theorem hzb_n52 : nextW (hzbW.take 52) = 3740401288 := by kernel_rfl
theorem hzb_n53 : nextW (hzbW.take 53) = 3490069983 := by kernel_rfl
theorem hzb_n54 : nextW (hzbW.take 54) = 3277659361 := by kernel_rfl
theorem hzb_n55 : nextW (hzbW.take 55) = 3581733188 := by kernel_rfl
theorem hzb_n56 : nextW (hzbW.take 56) = 4180500541 := by kernel_rfl
theorem hzb_n57 : nextW (hzbW.take 57) = 4151572106 := by kernel_rfl
theorem hzb_n58 : nextW (hzbW.take 58) = 2036484278 := by kernel_rfl
theorem hzb_n59 : nextW (hzbW.take 59) = 3048466945 := by kernel_rfl
theorem hzb_n60 : nextW (hzbW.take 60) = 229369751 := by kernel_rfl
theorem hzb_n61 : nextW (hzbW.take 61) = 1271992381 := by kernel_rfl
theorem hzb_n62 : nextW (hzbW.take 62) = 2516438927 := by kernel_rfl
theorem hzb_n63 : nextW (hzbW.take 63) = 3098484440 := by kernel_rfl
theorem hzb_w17 : sched hzbB 17 = hzbW.take 17 := sched_next hzbB 16 _ _ _ (by decide) hzb_w16 hzb_n16 rfl
theorem hzb_w18 : sched hzbB 18 = hzbW.take 18 := sched_next hzbB 17 _ _ _ (by decide) hzb_w17 hzb_n17 rfl
theorem hzb_w19 : sched hzbB 19 = hzbW.take 19 := sched_next hzbB 18 _ _ _ (by decide) hzb_w18 hzb_n18 rfl
theorem hzb_w20 : sched hzbB 20 = hzbW.take 20 := sched_next hzbB 19 _ _ _ (by decide) hzb_w19 hzb_n19 rfl
theorem hzb_w21 : sched hzbB 21 = hzbW.take 21 := sched_next hzbB 20 _ _ _ (by decide) hzb_w20 hzb_n20 rfl
theorem hzb_w22 : sched hzbB 22 = hzbW.take 22 := sched_next hzbB 21 _ _ _ (by decide) hzb_w21 hzb_n21 rfl
theorem hzb_w23 : sched hzbB 23 = hzbW.take 23 := sched_next hzbB 22 _ _ _ (by decide) hzb_w22 hzb_n22 rfl
theorem hzb_w24 : sched hzbB 24 = hzbW.take 24 := sched_next hzbB 23 _ _ _ (by decide) hzb_w23 hzb_n23 rfl
theorem hzb_w25 : sched hzbB 25 = hzbW.take 25 := sched_next hzbB 24 _ _ _ (by decide) hzb_w24 hzb_n24 rfl
theorem hzb_w26 : sched hzbB 26 = hzbW.take 26 := sched_next hzbB 25 _ _ _ (by decide) hzb_w25 hzb_n25 rfl
theorem hzb_w27 : sched hzbB 27 = hzbW.take 27 := sched_next hzbB 26 _ _ _ (by decide) hzb_w26 hzb_n26 rfl
theorem hzb_w28 : sched hzbB 28 = hzbW.take 28 := sched_next hzbB 27 _ _ _ (by decide) hzb_w27 hzb_n27 rfl
theorem hzb_w29 : sched hzbB 29 = hzbW.take 29 := sched_next hzbB 28 _ _ _ (by decide) hzb_w28 hzb_n28 rfl
theorem hzb_w30 : sched hzbB 30 = hzbW.take 30 := sched_next hzbB 29 _ _ _ (by decide) hzb_w29 hzb_n29 rfl
theorem hzb_w31 : sched hzbB 31 = hzbW.take 31 := sched_next hzbB 30 _ _ _ (by decide) hzb_w30 hzb_n30 rfl
theorem hzb_w32 : sched hzbB 32 = hzbW.take 32 := sched_next hzbB 31 _ _ _ (by decide) hzb_w31 hzb_n31 rfl
theorem hzb_w33 : sched hzbB 33 = hzbW.take 33 := sched_next hzbB 32 _ _ _ (by decide) hzb_w32 hzb_n32 rfl
theorem hzb_w34 : sched hzbB 34 = hzbW.take 34 := sched_next hzbB 33 _ _ _ (by decide) hzb_w33 hzb_n33 rfl
theorem hzb_w35 : sched hzbB 35 = hzbW.take 35 := sched_next hzbB 34 _ _ _ (by decide) hzb_w34 hzb_n34 rfl
theorem hzb_w36 : sched hzbB 36 = hzbW.take 36 := sched_next hzbB 35 _ _ _ (by decide) hzb_w35 hzb_n35 rfl
theorem hzb_w37 : sched hzbB 37 = hzbW.take 37 := sched_next hzbB 36 _ _ _ (by decide) hzb_w36 hzb_n36 rfl
theorem hzb_w38 : sched hzbB 38 = hzbW.take 38 := sched_next hzbB 37 _ _ _ (by decide) hzb_w37 hzb_n37 rfl
theorem hzb_w39 : sched hzbB 39 = hzbW.take 39 := sched_next hzbB 38 _ _ _ (by decide) hzb_w38 hzb_n38 rfl
theorem hzb_w40 : sched hzbB 40 = hzbW.take 40 := sched_next hzbB 39 _ _ _ (by decide) hzb_w39 hzb_n39 rfl
theorem hzb_w41 : sched hzbB 41 = hzbW.take 41 := sched_next hzbB 40 _ _ _ (by decide) hzb_w40 hzb_n40 rfl
theorem hzb_w42 : sched hzbB 42 = hzbW.take 42 := sched_next hzbB 41 _ _ _ (by decide) hzb_w41 hzb_n41 rfl
theorem hzb_w43 : sched hzbB 43 = hzbW.take 43 := sched_next hzbB 42 _ _ _ (by decide) hzb_w42 hzb_n42 rfl
theorem hzb_w44 : sched hzbB 44 = hzbW.take 44 := sched_next hzbB 43 _ _ _ (by decide) hzb_w43 hzb_n43 rfl
theorem hzb_w45 : sched hzbB 45 = hzbW.take 45 := sched_next hzbB 44 _ _ _ (by decide) hzb_w44 hzb_n44 rfl
theorem hzb_w46 : sched hzbB 46 = hzbW.take 46 := sched_next hzbB 45 _ _ _ (by decide) hzb_w45 hzb_n45 rfl
theorem hzb_w47 : sched hzbB 47 = hzbW.take 47 := sched_next hzbB 46 _ _ _ (by decide) hzb_w46 hzb_n46 rfl
theorem hzb_w48 : sched hzbB 48 = hzbW.take 48 := sched_next hzbB 47 _ _ _ (by decide) hzb_w47 hzb_n47 rfl
theorem hzb_w49 : sched hzbB 49 = hzbW.take 49 := sched_next hzbB 48 _ _ _ (by decide) hzb_w48 hzb_n48 rfl
theorem hzb_w50 : sched hzbB 50 = hzbW.take 50 := sched_next hzbB 49 _ _ _ (by decide) hzb_w49 hzb_n49 rfl
theorem hzb_w51 : sched hzbB 51 = hzbW.take 51 := sched_next hzbB 50 _ _ _ (by decide) hzb_w50 hzb_n50 rfl
theorem hzb_w52 : sched hzbB 52 = hzbW.take 52 := sched_next hzbB 51 _ _ _ (by decide) hzb_w51 hzb_n51 rfl
theorem hzb_w53 : sched hzbB 53 = hzbW.take 53 := sched_next hzbB 52 _ _ _ (by decide) hzb_w52 hzb_n52 rfl
theorem hzb_w54 : sched hzbB 54 = hzbW.take 54 := sched_next hzbB 53 _ _ _ (by decide) hzb_w53 hzb_n53 rfl
theorem hzb_w55 : sched hzbB 55 = hzbW.take 55 := sched_next hzbB 54 _ _ _ (by decide) hzb_w54 hzb_n54 rfl
theorem hzb_w56 : sched hzbB 56 = hzbW.take 56 := sched_next hzbB 55 _ _ _ (by decide) hzb_w55 hzb_n55 rfl
theorem hzb_w57 : sched hzbB 57 = hzbW.take 57 := sched_next hzbB 56 _ _ _ (by decide) hzb_w56 hzb_n56 rfl
theorem hzb_w58 : sched hzbB 58 = hzbW.take 58 := sched_next hzbB 57 _ _ _ (by decide) hzb_w57 hzb_n57 rfl
theorem hzb_w59 : sched hzbB 59 = hzbW.take 59 := sched_next hzbB 58 _ _ _ (by decide) hzb_w58 hzb_n58 rfl
theorem hzb_w60 : sched hzbB 60 = hzbW.take 60 := sched_next hzbB 59 _ _ _ (by decide) hzb_w59 hzb_n59 rfl
theorem hzb_w61 : sched hzbB 61 = hzbW.take 61 := sched_next hzbB 60 _ _ _ (by decide) hzb_w60 hzb_n60 rfl
theorem hzb_w62 : sched hzbB 62 = hzbW.take 62 := sched_next hzbB 61 _ _ _ (by decide) hzb_w61 hzb_n61 rfl
theorem hzb_w63 : sched hzbB 63 = hzbW.take 63 := sched_next hzbB 62 _ _ _ (by decide) hzb_w62 hzb_n62 rfl
theorem hzb_w64 : sched hzbB 64 = hzbW.take 64 := sched_next hzbB 63 _ _ _ (by decide) hzb_w63 hzb_n63 rfl
def hzb_t0 : St := ⟨3808757846, 2864941414, 451186789, 1792076375, 3748331279, 4142854918, 4174130925, 1327759945⟩
def hzb_t1 : St := ⟨2385735978, 3808757846, 2864941414, 451186789, 1609027946, 3748331279, 4142854918, 4174130925⟩
def hzb_t2 : St := ⟨1919569515, 2385735978, 3808757846, 2864941414, 4230991233, 1609027946, 3748331279, 4142854918⟩
def hzb_t3 : St := ⟨2505953663, 1919569515, 2385735978, 3808757846, 1459971450, 4230991233, 1609027946, 3748331279⟩
def hzb_t4 : St := ⟨2601937429, 2505953663, 1919569515, 2385735978, 3450994716, 1459971450, 4230991233, 1609027946⟩
def hzb_t5 : St := ⟨3139121245, 2601937429, 2505953663, 1919569515, 1177502382, 3450994716, 1459971450, 4230991233⟩
def hzb_t6 : St := ⟨3267233550, 3139121245, 2601937429, 2505953663, 421430010, 1177502382, 3450994716, 1459971450⟩
def hzb_t7 : St := ⟨4064076025, 3267233550, 3139121245, 2601937429, 2075582754, 421430010, 1177502382, 3450994716⟩
def hzb_t8 : St := ⟨2277543026, 4064076025, 3267233550, 3139121245, 2815789081, 2075582754, 421430010, 1177502382⟩
def hzb_t9 : St := ⟨1817668587, 2277543026, 4064076025, 3267233550, 2757771463, 2815789081, 2075582754, 421430010⟩
def hzb_t10 : St := ⟨569634016, 1817668587, 2277543026, 4064076025, 612103427, 2757771463, 2815789081, 2075582754⟩
def hzb_t11 : St := ⟨2675896629, 569634016, 1817668587, 2277543026, 3407442220, 612103427, 2757771463, 2815789081⟩
def hzb_t12 : St := ⟨2123924438, 2675896629, 569634016, 1817668587, 3274282144, 3407442220, 612103427, 2757771463⟩
def hzb_t13 : St := ⟨2775454238, 2123924438, 2675896629, 569634016, 4004515402, 3274282144, 3407442220, 612103427⟩
def hzb_t14 : St := ⟨1690941420, 2775454238, 2123924438, 2675896629, 1163410516, 4004515402, 3274282144, 3407442220⟩
def hzb_t15 : St := ⟨2315416714, 1690941420, 2775454238, 2123924438, 1143592892, 1163410516, 4004515402, 3274282144⟩
def hzb_t16 : St := ⟨958578271, 2315416714, 1690941420, 2775454238, 74065038, 1143592892, 1163410516, 4004515402⟩
def hzb_t17 : St := ⟨2484193519, 958578271, 2315416714, 1690941420, 1530202585, 74065038, 1143592892, 1163410516⟩
def hzb_t18 : St := ⟨2091262565, 2484193519, 958578271, 2315416714, 1678864541, 1530202585, 74065038, 1143592892⟩
def hzb_t19 : St := ⟨328844948, 2091262565, 2484193519, 958578271, 2364381269, 1678864541, 1530202585, 74065038⟩
def hzb_t20 : St := ⟨902081247, 328844948, 2091262565, 2484193519, 49867060, 2364381269, 1678864541, 1530202585⟩
def hzb_t21 : St := ⟨1272025279, 902081247, 328844948, 2091262565, 557498004, 49867060, 2364381269, 1678864541⟩
def hzb_t22 : St := ⟨2731918232, 1272025279, 902081247, 328844948, 4200438738, 557498004, 49867060, 2364381269⟩
def hzb_t23 : St := ⟨4045839109, 2731918232, 1272025279, 902081247, 2104285751, 4200438738, 557498004, 49867060⟩
def hzb_t24 : St := ⟨3802669536, 4045839109, 2731918232, 1272025279, 4136435953, 2104285751, 4200438738, 557498004⟩
def hzb_t25 : St := ⟨1370190500, 3802669536, 4045839109, 2731918232, 598597936, 4136435953, 2104285751, 4200438738⟩
def hzb_t26 : St := ⟨2218921967, 1370190500, 3802669536, 4045839109, 149610287, 598597936, 4136435953, 2104285751⟩
def hzb_t27 : St := ⟨214508737, 2218921967, 1370190500, 3802669536, 2800909288, 149610287, 598597936, 4136435953⟩
def hzb_t28 : St := ⟨2751830307, 214508737, 2218921967, 1370190500, 1077504212, 2800909288, 149610287, 598597936⟩
def hzb_t29 : St := ⟨2334621381, 2751830307, 214508737, 2218921967, 572070546, 1077504212, 2800909288, 149610287⟩
def hzb_t30 : St := ⟨1380457134, 2334621381, 2751830307, 214508737, 1097227574, 572070546, 1077504212, 2800909288⟩
def hzb_t31 : St := ⟨793324991, 1380457134, 2334621381, 2751830307, 1484982839, 1097227574, 572070546, 1077504212⟩
def hzb_t32 : St := ⟨1138959817, 793324991, 1380457134, 2334621381, 1510060706, 1484982839, 1097227574, 572070546⟩
def hzb_t33 : St := ⟨1746194177, 1138959817, 793324991, 1380457134, 3184340147, 1510060706, 1484982839, 1097227574⟩
def hzb_t34 : St := ⟨1341260949, 1746194177, 1138959817, 793324991, 3318119156, 3184340147, 1510060706, 1484982839⟩
def hzb_t35 : St := ⟨3617024717, 1341260949, 1746194177, 1138959817, 4222216065, 3318119156, 3184340147, 1510060706⟩
def hzb_t36 : St := ⟨3296204189, 3617024717, 1341260949, 1746194177, 983866251, 4222216065, 3318119156, 3184340147⟩
def hzb_t37 : St := ⟨304311819, 3296204189, 3617024717, 1341260949, 1956636345, 983866251, 4222216065, 3318119156⟩
def hzb_t38 : St := ⟨1708549795, 304311819, 3296204189, 3617024717, 2787939802, 1956636345, 983866251, 4222216065⟩
def hzb_t39 : St := ⟨2463679021, 1708549795, 304311819, 3296204189, 1879673827, 2787939802, 1956636345, 983866251⟩
def hzb_t40 : St := ⟨919723107, 2463679021, 1708549795, 304311819, 3517283279, 1879673827, 2787939802, 1956636345⟩
def hzb_t41 : St := ⟨2175603197, 919723107, 2463679021, 1708549795, 4079185048, 3517283279, 1879673827, 2787939802⟩
def hzb_t42 : St := ⟨3113368795, 2175603197, 919723107, 2463679021, 818811904, 4079185048, 3517283279, 1879673827⟩
def hzb_t43 : St := ⟨134562769, 3113368795, 2175603197, 919723107, 2835528642, 818811904, 4079185048, 3517283279⟩
def hzb_t44 : St := ⟨1886222298, 134562769, 3113368795, 2175603197, 3560172902, 2835528642, 818811904, 4079185048⟩
def hzb_t45 : St := ⟨2019342388, 1886222298, 134562769, 3113368795, 720149242, 3560172902, 2835528642, 818811904⟩
def hzb_t46 : St := ⟨2211993153, 2019342388, 1886222298, 134562769, 399041091, 720149242, 3560172902, 2835528642⟩
def hzb_t47 : St := ⟨451971715, 2211993153, 2019342388, 1886222298, 4277553831, 399041091, 720149242, 3560172902⟩
def hzb_t48 : St := ⟨1238528504, 451971715, 2211993153, 2019342388, 1322800770, 4277553831, 399041091, 720149242⟩
def hzb_t49 : St := ⟨3748333224, 1238528504, 451971715, 2211993153, 2005284945, 1322800770, 4277553831, 399041091⟩
def hzb_t50 : St := ⟨3889701253, 3748333224, 1238528504, 451971715, 1631050639, 2005284945, 1322800770, 4277553831⟩
def hzb_t51 : St := ⟨3471424180, 3889701253, 3748333224, 1238528504, 77660752, 1631050639, 2005284945, 1322800770⟩
def hzb_t52 : St := ⟨3027107374, 3471424180, 3889701253, 3748333224, 3982525095, 77660752, 1631050639, 2005284945⟩
def hzb_t53 : St := ⟨3780459865, 3027107374, 3471424180, 3889701253, 3997180712, 3982525095, 77660752, 1631050639⟩
def hzb_t54 : St := ⟨4270457821, 3780459865, 3027107374, 3471424180, 998589612, 3997180712, 3982525095, 77660752⟩
def hzb_t55 : St := ⟨928375308, 4270457821, 3780459865, 3027107374, 3367000582, 998589612, 3997180712, 3982525095⟩
def hzb_t56 : St := ⟨2671060831, 928375308, 4270457821, 3780459865, 303107903, 3367000582, 998589612, 3997180712⟩
def hzb_t57 : St := ⟨1635834828, 2671060831, 928375308, 4270457821, 2048141254, 303107903, 3367000582, 998589612⟩
def hzb_t58 : St := ⟨637918608, 1635834828, 2671060831, 928375308, 672002734, 2048141254, 303107903, 3367000582⟩
def hzb_t59 : St := ⟨101159797, 637918608, 1635834828, 2671060831, 601984467, 672002734, 2048141254, 303107903⟩
def hzb_t60 : St := ⟨3174600242, 101159797, 637918608, 1635834828, 1912854724, 601984467, 672002734, 2048141254⟩
def hzb_t61 : St := ⟨2921301838, 3174600242, 101159797, 637918608, 2897724206, 1912854724, 601984467, 672002734⟩
def hzb_t62 : St := ⟨1577668186, 2921301838, 3174600242, 101159797, 3858757853, 2897724206, 1912854724, 601984467⟩
def hzb_t63 : St := ⟨1105938769, 1577668186, 2921301838, 3174600242, 3379528648, 3858757853, 2897724206, 1912854724⟩
def hzb_t64 : St := ⟨3405942906, 1105938769, 1577668186, 2921301838, 2186950473, 3379528648, 3858757853, 2897724206⟩
theorem hzb_s0 : rnd hzb_t0 1116352408 8388608 = hzb_t1 := by kernel_rfl
theorem hzb_s1 : rnd hzb_t1 1899447441 0 = hzb_t2 := by kernel_rfl
theorem hzb_s2 : rnd hzb_t2 3049323471 0 = hzb_t3 := by kernel_rfl
theorem hzb_s3 : rnd hzb_t3 3921009573 0 = hzb_t4 := by kernel_rfl
theorem hzb_s4 : rnd hzb_t4 961987163 0 = hzb_t5 := by kernel_rfl
theorem hzb_s5 : rnd hzb_t5 1508970993 0 = hzb_t6 := by kernel_rfl
theorem hzb_s6 : rnd hzb_t6 2453635748 0 = hzb_t7 := by kernel_rfl
theorem hzb_s7 : rnd hzb_t7 2870763221 0 = hzb_t8 := by kernel_rfl
theorem hzb_s8 : rnd hzb_t8 3624381080 0 = hzb_t9 := by kernel_rfl
theorem hzb_s9 : rnd hzb_t9 310598401 0 = hzb_t10 := by kernel_rfl
theorem hzb_s10 : rnd hzb_t10 607225278 0 = hzb_t11 := by kernel_rfl
theorem hzb_s11 : rnd hzb_t11 1426881987 0 = hzb_t12 := by kernel_rfl
theorem hzb_s12 : rnd hzb_t12 1925078388 0 = hzb_t13 := by kernel_rfl
theorem hzb_s13 : rnd hzb_t13 2162078206 0 = hzb_t14 := by kernel_rfl
theorem hzb_s14 : rnd hzb_t14 2614888103 0 = hzb_t15 := by kernel_rfl
theorem hzb_s15 : rnd hzb_t15 3248222580 520 = hzb_t16 := by kernel_rfl
theorem hzb_s16 : rnd hzb_t16 3835390401 8388608 = hzb_t17 := by kernel_rfl
theorem hzb_s17 : rnd hzb_t17 4022224774 21299200 = hzb_t18 := by kernel_rfl
theorem hzb_s18 : rnd hzb_t18 264347078 8272 = hzb_t19 := by kernel_rfl
theorem hzb_s19 : rnd hzb_t19 604807628 536891850 = hzb_t20 := by kernel_rfl
theorem hzb_s20 : rnd hzb_t20 770255983 337772552 = hzb_t21 := by kernel_rfl
theorem hzb_s21 : rnd hzb_t21 1249150122 584340500 = hzb_t22 := by kernel_rfl
theorem hzb_s22 : rnd hzb_t22 1555081692 1073742365 = hzb_t23 := by kernel_rfl
theorem hzb_s23 : rnd hzb_t23 1996064986 2701140005 = hzb_t24 := by kernel_rfl
theorem hzb_s24 : rnd hzb_t24 2554220882 44173312 = hzb_t25 := by kernel_rfl
theorem hzb_s25 : rnd hzb_t25 2821834349 339625208 = hzb_t26 := by kernel_rfl
theorem hzb_s26 : rnd hzb_t26 2952996808 1694563153 = hzb_t27 := by kernel_rfl
theorem hzb_s27 : rnd hzb_t27 3210313671 4278716177 = hzb_t28 := by kernel_rfl
theorem hzb_s28 : rnd hzb_t28 3336571891 2242916914 = hzb_t29 := by kernel_rfl
theorem hzb_s29 : rnd hzb_t29 3584528711 1129645185 = hzb_t30 := by kernel_rfl
theorem hzb_s30 : rnd hzb_t30 113926993 3506478796 = hzb_t31 := by kernel_rfl
theorem hzb_s31 : rnd hzb_t31 338241895 628319913 = hzb_t32 := by kernel_rfl
theorem hzb_s32 : rnd hzb_t32 666307205 2977178064 = hzb_t33 := by kernel_rfl
theorem hzb_s33 : rnd hzb_t33 773529912 3991071337 = hzb_t34 := by kernel_rfl
theorem hzb_s34 : rnd hzb_t34 1294757372 406371735 = hzb_t35 := by kernel_rfl
theorem hzb_s35 : rnd hzb_t35 1396182291 1621178620 = hzb_t36 := by kernel_rfl
theorem hzb_s36 : rnd hzb_t36 1695183700 3658518620 = hzb_t37 := by kernel_rfl
theorem hzb_s37 : rnd hzb_t37 1986661051 3780499249 = hzb_t38 := by kernel_rfl
theorem hzb_s38 : rnd hzb_t38 2177026350 384976696 = hzb_t39 := by kernel_rfl
theorem hzb_s39 : rnd hzb_t39 2456956037 638312866 = hzb_t40 := by kernel_rfl
theorem hzb_s40 : rnd hzb_t40 2730485921 3214235832 = hzb_t41 := by kernel_rfl
theorem hzb_s41 : rnd hzb_t41 2820302411 1243750311 = hzb_t42 := by kernel_rfl
theorem hzb_s42 : rnd hzb_t42 3259730800 182604009 = hzb_t43 := by kernel_rfl
theorem hzb_s43 : rnd hzb_t43 3345764771 2659197837 = hzb_t44 := by kernel_rfl
theorem hzb_s44 : rnd hzb_t44 3516065817 356352104 = hzb_t45 := by kernel_rfl
theorem hzb_s45 : rnd hzb_t45 3600352804 336154357 = hzb_t46 := by kernel_rfl
theorem hzb_s46 : rnd hzb_t46 4094571909 4137126667 = hzb_t47 := by kernel_rfl
theorem hzb_s47 : rnd hzb_t47 275423344 853682779 = hzb_t48 := by kernel_rfl
theorem hzb_s48 : rnd hzb_t48 430227734 2775401939 = hzb_t49 := by kernel_rfl
theorem hzb_s49 : rnd hzb_t49 506948616 1266820032 = hzb_t50 := by kernel_rfl
theorem hzb_s50 : rnd hzb_t50 659060556 2082364340 = hzb_t51 := by kernel_rfl
theorem hzb_s51 : rnd hzb_t51 883997877 1380617036 = hzb_t52 := by kernel_rfl
theorem hzb_s52 : rnd hzb_t52 958139571 3740401288 = hzb_t53 := by kernel_rfl
theorem hzb_s53 : rnd hzb_t53 1322822218 3490069983 = hzb_t54 := by kernel_rfl
theorem hzb_s54 : rnd hzb_t54 1537002063 3277659361 = hzb_t55 := by kernel_rfl
theorem hzb_s55 : rnd hzb_t55 1747873779 3581733188 = hzb_t56 := by kernel_rfl
theorem hzb_s56 : rnd hzb_t56 1955562222 4180500541 = hzb_t57 := by kernel_rfl
theorem hzb_s57 : rnd hzb_t57 2024104815 4151572106 = hzb_t58 := by kernel_rfl
theorem hzb_s58 : rnd hzb_t58 2227730452 2036484278 = hzb_t59 := by kernel_rfl
theorem hzb_s59 : rnd hzb_t59 2361852424 3048466945 = hzb_t60 := by kernel_rfl
theorem hzb_s60 : rnd hzb_t60 2428436474 229369751 = hzb_t61 := by kernel_rfl
theorem hzb_s61 : rnd hzb_t61 2756734187 1271992381 = hzb_t62 := by kernel_rfl
theorem hzb_s62 : rnd hzb_t62 3204031479 2516438927 = hzb_t63 := by kernel_rfl
theorem hzb_s63 : rnd hzb_t63 3329325298 3098484440 = hzb_t64 := by kernel_rfl
theorem hzb_r0 : rounds hzb_t0 hzbW 0 = hzb_t0 := rfl
theorem hzb_r1 : rounds hzb_t0 hzbW 1 = hzb_t1 := rounds_next _ _ 0 _ _ _ _ hzb_r0 rfl rfl hzb_s0
theorem hzb_r2 : rounds hzb_t0 hzbW 2 = hzb_t2 := rounds_next _ _ 1 _ _ _ _ hzb_r1 rfl rfl hzb_s1
theorem hzb_r3 : rounds hzb_t0 hzbW 3 = hzb_t3 := rounds_next _ _ 2 _ _ _ _ hzb_r2 rfl rfl hzb_s2
theorem hzb_r4 : rounds hzb_t0 hzbW 4 = hzb_t4 := rounds_next _ _ 3 _ _ _ _ hzb_r3 rfl rfl hzb_s3
theorem hzb_r5 : rounds hzb_t0 hzbW 5 = hzb_t5 := rounds_next _ _ 4 _ _ _ _ hzb_r4 rfl rfl hzb_s4
theorem hzb_r6 : rounds hzb_t0 hzbW 6 = hzb_t6 := rounds_next _ _ 5 _ _ _ _ hzb_r5 rfl rfl hzb_s5
theorem hzb_r7 : rounds hzb_t0 hzbW 7 = hzb_t7 := rounds_next _ _ 6 _ _ _ _ hzb_r6 rfl rfl hzb_s6
theorem hzb_r8 : rounds hzb_t0 hzbW 8 = hzb_t8 := rounds_next _ _ 7 _ _ _ _ hzb_r7 rfl rfl hzb_s7
theorem hzb_r9 : rounds hzb_t0 hzbW 9 = hzb_t9 := rounds_next _ _ 8 _ _ _ _ hzb_r8 rfl rfl hzb_s8
theorem hzb_r10 : rounds hzb_t0 hzbW 10 = hzb_t10 := rounds_next _ _ 9 _ _ _ _ hzb_r9 rfl rfl hzb_s9
theorem hzb_r11 : rounds hzb_t0 hzbW 11 = hzb_t11 := rounds_next _ _ 10 _ _ _ _ hzb_r10 rfl rfl hzb_s10
theorem hzb_r12 : rounds hzb_t0 hzbW 12 = hzb_t12 := rounds_next _ _ 11 _ _ _ _ hzb_r11 rfl rfl hzb_s11
theorem hzb_r13 : rounds hzb_t0 hzbW 13 = hzb_t13 := rounds_next _ _ 12 _ _ _ _ hzb_r12 rfl rfl hzb_s12
theorem hzb_r14 : rounds hzb_t0 hzbW 14 = hzb_t14 := rounds_next _ _ 13 _ _ _ _ hzb_r13 rfl rfl hzb_s13
theorem hzb_r15 : rounds hzb_t0 hzbW 15 = hzb_t15 := rounds_next _ _ 14 _ _ _ _ hzb_r14 rfl rfl hzb_s14
theorem hzb_r16 : rounds hzb_t0 hzbW 16 = hzb_t16 := rounds_next _ _ 15 _ _ _ _ hzb_r15 rfl rfl hzb_s15
theorem hzb_r17 : rounds hzb_t0 hzbW 17 = hzb_t17 := rounds_next _ _ 16 _ _ _ _ hzb_r16 rfl rfl hzb_s16
theorem hzb_r18 : rounds hzb_t0 hzbW 18 = hzb_t18 := rounds_next _ _ 17 _ _ _ _ hzb_r17 rfl rfl hzb_s17
theorem hzb_r19 : rounds hzb_t0 hzbW 19 = hzb_t19 := rounds_next _ _ 18 _ _ _ _ hzb_r18 rfl rfl hzb_s18
theorem hzb_r20 : rounds hzb_t0 hzbW 20 = hzb_t20 := rounds_next _ _ 19 _ _ _ _ hzb_r19 rfl rfl hzb_s19
theorem hzb_r21 : rounds hzb_t0 hzbW 21 = hzb_t21 := rounds_next _ _ 20 _ _ _ _ hzb_r20 rfl rfl hzb_s20
theorem hzb_r22 : rounds hzb_t0 hzbW 22 = hzb_t22 := rounds_next _ _ 21 _ _ _ _ hzb_r21 rfl rfl hzb_s21
theorem hzb_r23 : rounds hzb_t0 hzbW 23 = hzb_t23 := rounds_next _ _ 22 _ _ _ _ hzb_r22 rfl rfl hzb_s22
theorem hzb_r24 : rounds hzb_t0 hzbW 24 = hzb_t24 := rounds_next _ _ 23 _ _ _ _ hzb_r23 rfl rfl hzb_s23
theorem hzb_r25 : rounds hzb_t0 hzbW 25 = hzb_t25 := rounds_next _ _ 24 _ _ _ _ hzb_r24 rfl rfl hzb_s24
theorem hzb_r26 : rounds hzb_t0 hzbW 26 = hzb_t26 := rounds_next _ _ 25 _ _ _ _ hzb_r25 rfl rfl hzb_s25
theorem hzb_r27 : rounds hzb_t0 hzbW 27 = hzb_t27 := rounds_next _ _ 26 _ _ _ _ hzb_r26 rfl rfl hzb_s26
theorem hzb_r28 : rounds hzb_t0 hzbW 28 = hzb_t28 := rounds_next _ _ 27 _ _ _ _ hzb_r27 rfl rfl hzb_s27
theorem hzb_r29 : rounds hzb_t0 hzbW 29 = hzb_t29 := rounds_next _ _ 28 _ _ _ _ hzb_r28 rfl rfl hzb_s28
theorem hzb_r30 : rounds hzb_t0 hzbW 30 = hzb_t30 := rounds_next _ _ 29 _ _ _ _ hzb_r29 rfl rfl hzb_s29
theorem hzb_r31 : rounds hzb_t0 hzbW 31 = hzb_t31 := rounds_next _ _ 30 _ _ _ _ hzb_r30 rfl rfl hzb_s30
theorem hzb_r32 : rounds hzb_t0 hzbW 32 = hzb_t32 := rounds_next _ _ 31 _ _ _ _ hzb_r31 rfl rfl hzb_s31
theorem hzb_r33 : rounds hzb_t0 hzbW 33 = hzb_t33 := rounds_next _ _ 32 _ _ _ _ hzb_r32 rfl rfl hzb_s32
theorem hzb_r34 : rounds hzb_t0 hzbW 34 = hzb_t34 := rounds_next _ _ 33 _ _ _ _ hzb_r33 rfl rfl hzb_s33
theorem hzb_r35 : rounds hzb_t0 hzbW 35 = hzb_t35 := rounds_next _ _ 34 _ _ _ _ hzb_r34 rfl rfl hzb_s34
theorem hzb_r36 : rounds hzb_t0 hzbW 36 = hzb_t36 := rounds_next _ _ 35 _ _ _ _ hzb_r35 rfl rfl hzb_s35
theorem hzb_r37 : rounds hzb_t0 hzbW 37 = hzb_t37 := rounds_next _ _ 36 _ _ _ _ hzb_r36 rfl rfl hzb_s36
theorem hzb_r38 : rounds hzb_t0 hzbW 38 = hzb_t38 := rounds_next _ _ 37 _ _ _ _ hzb_r37 rfl rfl hzb_s37
theorem hzb_r39 : rounds hzb_t0 hzbW 39 = hzb_t39 := rounds_next _ _ 38 _ _ _ _ hzb_r38 rfl rfl hzb_s38
theorem hzb_r40 : rounds hzb_t0 hzbW 40 = hzb_t40 := rounds_next _ _ 39 _ _ _ _ hzb_r39 rfl rfl hzb_s39
theorem hzb_r41 : rounds hzb_t0 hzbW 41 = hzb_t41 := rounds_next _ _ 40 _ _ _ _ hzb_r40 rfl rfl hzb_s40
theorem hzb_r42 : rounds hzb_t0 hzbW 42 = hzb_t42 := rounds_next _ _ 41 _ _ _ _ hzb_r41 rfl rfl hzb_s41
theorem hzb_r43 : rounds hzb_t0 hzbW 43 = hzb_t43 := rounds_next _ _ 42 _ _ _ _ hzb_r42 rfl rfl hzb_s42
theorem hzb_r44 : rounds hzb_t0 hzbW 44 = hzb_t44 := rounds_next _ _ 43 _ _ _ _ hzb_r43 rfl rfl hzb_s43
theorem hzb_r45 : rounds hzb_t0 hzbW 45 = hzb_t45 := rounds_next _ _ 44 _ _ _ _ hzb_r44 rfl rfl hzb_s44
theorem hzb_r46 : rounds hzb_t0 hzbW 46 = hzb_t46 := rounds_next _ _ 45 _ _ _ _ hzb_r45 rfl rfl hzb_s45
theorem hzb_r47 : rounds hzb_t0 hzbW 47 = hzb_t47 := rounds_next _ _ 46 _ _ _ _ hzb_r46 rfl rfl hzb_s46
theorem hzb_r48 : rounds hzb_t0 hzbW 48 = hzb_t48 := rounds_next _ _ 47 _ _ _ _ hzb_r47 rfl rfl hzb_s47
theorem hzb_r49 : rounds hzb_t0 hzbW 49 = hzb_t49 := rounds_next _ _ 48 _ _ _ _ hzb_r48 rfl rfl hzb_s48
theorem hzb_r50 : rounds hzb_t0 hzbW 50 = hzb_t50 := rounds_next _ _ 49 _ _ _ _ hzb_r49 rfl rfl hzb_s49
theorem hzb_r51 : rounds hzb_t0 hzbW 51 = hzb_t51 := rounds_next _ _ 50 _ _ _ _ hzb_r50 rfl rfl hzb_s50
theorem hzb_r52 : rounds hzb_t0 hzbW 52 = hzb_t52 := rounds_next _ _ 51 _ _ _ _ hzb_r51 rfl rfl hzb_s51
theorem hzb_r53 : rounds hzb_t0 hzbW 53 = hzb_t53 := rounds_next _ _ 52 _ _ _ _ hzb_r52 rfl rfl hzb_s52
theorem hzb_r54 : rounds hzb_t0 hzbW 54 = hzb_t54 := rounds_next _ _ 53 _ _ _ _ hzb_r53 rfl rfl hzb_s53
theorem hzb_r55 : rounds hzb_t0 hzbW 55 = hzb_t55 := rounds_next _ _ 54 _ _ _ _ hzb_r54 rfl rfl hzb_s54
theorem hzb_r56 : rounds hzb_t0 hzbW 56 = hzb_t56 := rounds_next _ _ 55 _ _ _ _ hzb_r55 rfl rfl hzb_s55
theorem hzb_r57 : rounds hzb_t0 hzbW 57 = hzb_t57 := rounds_next _ _ 56 _ _ _ _ hzb_r56 rfl rfl hzb_s56
theorem hzb_r58 : rounds hzb_t0 hzbW 58 = hzb_t58 := rounds_next _ _ 57 _ _ _ _ hzb_r57 rfl rfl hzb_s57
theorem hzb_r59 : rounds hzb_t0 hzbW 59 = hzb_t59 := rounds_next _ _ 58 _ _ _ _ hzb_r58 rfl rfl hzb_s58
theorem hzb_r60 : rounds hzb_t0 hzbW 60 = hzb_t60 := rounds_next _ _ 59 _ _ _ _ hzb_r59 rfl rfl hzb_s59
theorem hzb_r61 : rounds hzb_t0 hzbW 61 = hzb_t61 := rounds_next _ _ 60 _ _ _ _ hzb_r60 rfl rfl hzb_s60
theorem hzb_r62 : rounds hzb_t0 hzbW 62 = hzb_t62 := rounds_next _ _ 61 _ _ _ _ hzb_r61 rfl rfl hzb_s61
theorem hzb_r63 : rounds hzb_t0 hzbW 63 = hzb_t63 := rounds_next _ _ 62 _ _ _ _ hzb_r62 rfl rfl hzb_s62
theorem hzb_r64 : rounds hzb_t0 hzbW 64 = hzb_t64 := rounds_next _ _ 63 _ _ _ _ hzb_r63 rfl rfl hzb_s63
def hzbN : List Int := [2919733456, 3970880183, 2028854975, 418410917, 1640314456, 3227416270, 3737921482, 4225484151]
theorem hzb_block : blockZ hzaN hzbB = hzbN := by
  have h : (sched hzbB 64) = hzbW := hzb_w64
  unfold blockZ
  rw [h, show St.ofL hzaN = hzb_t0 from rfl, hzb_r64]
  show _ = _
  kernel_rfl
def hzeB : List Int := [128, 0, 0, 0, 0, 0, 0, 0, 0, 0, 0, 0, 0, 0, 0, 0, 0, 0, 0, 0, 0, 0, 0, 0, 0, 0, 0, 0, 0, 0, 0, 0, 0, 0, 0, 0, 0, 0, 0, 0, 0, 0, 0, 0, 0, 0, 0, 0, 0, 0, 0, 0, 0, 0, 0, 0, 0, 0, 0, 0, 0, 0, 0, 0]
def hzeW : List Int := [2147483648, 0, 0, 0, 0, 0, 0, 0, 0, 0, 0, 0, 0, 0, 0, 0, 2147483648, 0, 2117632, 0, 570427392, 0, 84448578, 2147483648, 1476919296, 4235264, 1451269, 1711282176, 3592562048, 337794312, 3594910044, 3374850048, 3287351444, 676112230, 109604294, 2742808854, 1904000662, 4274181962, 2813755136, 2165675682, 2561075048, 62000258, 1562224585, 2975250741, 3286092305, 614207615, 3297584367, 1575308336, 3741240933, 748767245, 1008022316, 30329261, 369937616, 195877528, 907775968, 3526495142, 43741191, 1967544444, 133517113, 4161330627, 3704256008, 1581412744, 1153231965, 996066459]
theorem hze_w16 : sched hzeB 16 = hzeW.take 16 := by kernel_rfl
theorem hze_n16 : nextW (hzeW.take 16) = 2147483648 := by kernel_rfl
theorem hze_n17 : nextW (hzeW.take 17) = 0 := by kernel_rfl
theorem hze_n18 : nextW (hzeW.take 18) = 2117632 := by kernel_rfl
theorem hze_n19 : nextW (hzeW.take 19) = 0 := by kernel_rfl
theorem hze_n20 : nextW (hzeW.take 20) = 570427392 := by kernel_rfl
theorem hze_n21 : nextW (hzeW.take 21) = 0 := by kernel_rfl
theorem hze_n22 : nextW (hzeW.take 22) = 84448578 := by kernel_rfl
theorem hze_n23 : nextW (hzeW.take 23) = 2147483648 := by kernel_rfl
theorem hze_n24 : nextW (hzeW.take 24) = 1476919296 := by kernel_rfl
theorem hze_n25 : nextW (hzeW.take 25) = 4235264 := by kernel_rfl
theorem hze_n26 : nextW (hzeW.take 26) = 1451269 := by kernel_rfl
theorem hze_n27 : nextW (hzeW.take 27) = 1711282176 := by kernel_rfl
theorem hze_n28 : nextW (hzeW.take 28) = 3592562048 := by kernel_rfl
theorem hze_n29 : nextW (hzeW.take 29) = 337794312 := by kernel_rfl
theorem hze_n30 : nextW (hzeW.take 30) = 3594910044 := by kernel_rfl
theorem hze_n31 : nextW (hzeW.take 31) = 3374850048 := by kernel_rfl
theorem hze_n32 : nextW (hzeW.take 32) = 3287351444 := by kernel_rfl
theorem hze_n33 : nextW (hzeW.take 33) = 676112230 := by kernel_rfl
theorem hze_n34 : nextW (hzeW.take 34) = 109604294 := by kernel_rfl
theorem hze_n35 : nextW (hzeW.take 35) = 2742808854 := by kernel_rfl
theorem hze_n36 : nextW (hzeW.take 36) = 1904000662 := by kernel_rfl
theorem hze_n37 : nextW (hzeW.take 37) = 4274181962 := by kernel_rfl
theorem hze_n38 : nextW (hzeW.take 38) = 2813755136 := by kernel_rfl
theorem hze_n39 : nextW (hzeW.take 39) = 2165675682 := by kernel_rfl
theorem hze_n40 : nextW (hzeW.take 40) = 2561075048 := by kernel_rfl
theorem hze_n41 : nextW (hzeW.take 41) = 62000258 := by kernel_rfl
theorem hze_n42 : nextW (hzeW.take 42) = 1562224585 := by kernel_rfl
theorem hze_n43 : nextW (hzeW.take 43) = 2975250741 := by kernel_rfl
theorem hze_n44 : nextW (hzeW.take 44) = 3286092305 := by kernel_rfl
theorem hze_n45 : nextW (hzeW.take 45) = 614207615 := by kernel_rfl
theorem hze_n46 : nextW (hzeW.take 46) = 3297584367 := by kernel_rfl
theorem hze_n47 : nextW (hzeW.take 47) = 1575308336 := by kernel_rfl
theorem hze_n48 : nextW (hzeW.take 48) = 3741240933 := by kernel_rfl
theorem hze_n49 : nextW (hzeW.take 49) = 748767245 := by kernel_rfl
theorem hze_n50 : nextW (hzeW.take 50) = 1008022316 := by kernel_rfl
theorem hze_n51 : nextW (hzeW.take 51) = 30329261 := by kernel_rfl
theorem hze_n52 : nextW (hzeW.take 52) = 369937616 := by kernel_rfl
theorem hze_n53 : nextW (hzeW.take 53) = 195877528 := by kernel_rfl
theorem hze_n54 : nextW (hzeW.take 54) = 907775968 := by kernel_rfl
theorem hze_n55 : nextW (hzeW.take 55) = 3526495142 := by kernel_rfl
theorem hze_n56 : nextW (hzeW.take 56) = 43741191 := by kernel_rfl
theorem hze_n57 : nextW (hzeW.take 57) = 1967544444 := by kernel_rfl
theorem hze_n58 : nextW (hzeW.take 58) = 133517113 := by kernel_rfl
theorem hze_n59 : nextW (hzeW.take 59) = 4161330627 := by kernel_rfl
theorem hze_n60 : nextW (hzeW.take 60) = 3704256008 := by kernel_rfl
theorem hze_n61 : nextW (hzeW.take 61) = 1581412744 := by kernel_rfl
theorem hze_n62 : nextW (hzeW.take 62) = 1153231965 := by kernel_rfl
theorem hze_n63 : nextW (hzeW.take 63) = 996066459 := by kernel_rfl
theorem hze_w17 : sched hzeB 17 = hzeW.take 17 := sched_next hzeB 16 _ _ _ (by decide) hze_w16 hze_n16 rfl
theorem hze_w18 : sched hzeB 18 = hzeW.take 18 := sched_next hzeB 17 _ _ _ (by decide) hze_w17 hze_n17 rfl
theorem hze_w19 : sched hzeB 19 = hzeW.take 19 := sched_next hzeB 18 _ _ _ (by decide) hze_w18 hze_n18 rfl
theorem hze_w20 : sched hzeB 20 = hzeW.take 20 := sched_next hzeB 19 _ _ _ (by decide) hze_w19 hze_n19 rfl
theorem hze_w21 : sched hzeB 21 = hzeW.take 21 := sched_next hzeB 20 _ _ _ (by decide) hze_w20 hze_n20 rfl
theorem hze_w22 : sched hzeB 22 = hzeW.take 22 := sched_next hzeB 21 _ _ _ (by decide) hze_w21 hze_n21 rfl
theorem hze_w23 : sched hzeB 23 = hzeW.take 23 := sched_next hzeB 22 _ _ _ (by decide) hze_w22 hze_n22 rfl
theorem hze_w24 : sched hzeB 24 = hzeW.take 24 := sched_next hzeB 23 _ _ _ (by decide) hze_w23 hze_n23 rfl
theorem hze_w25 : sched hzeB 25 = hzeW.take 25 := sched_next hzeB 24 _ _ _ (by decide) hze_w24 hze_n24 rfl
theorem hze_w26 : sched hzeB 26 = hzeW.take 26 := sched_next hzeB 25 _ _ _ (by decide) hze_w25 hze_n25 rfl
theorem hze_w27 : sched hzeB 27 = hzeW.take 27 := sched_next hzeB 26 _ _ _ (by decide) hze_w26 hze_n26 rfl
theorem hze_w28 : sched hzeB 28 = hzeW.take 28 := sched_next hzeB 27 _ _ _ (by decide) hze_w27 hze_n27 rfl
theorem hze_w29 : sched hzeB 29 = hzeW.take 29 := sched_next hzeB 28 _ _ _ (by decide) hze_w28 hze_n28 rfl
theorem hze_w30 : sched hzeB 30 = hzeW.take 30 := sched_next hzeB 29 _ _ _ (by decide) hze_w29 hze_n29 rfl
theorem hze_w31 : sched hzeB 31 = hzeW.take 31 := sched_next hzeB 30 _ _ _ (by decide) hze_w30 hze_n30 rfl
theorem hze_w32 : sched hzeB 32 = hzeW.take 32 := sched_next hzeB 31 _ _ _ (by decide) hze_w31 hze_n31 rfl
theorem hze_w33 : sched hzeB 33 = hzeW.take 33 := sched_next hzeB 32 _ _ _ (by decide) hze_w32 hze_n32 rfl
theorem hze_w34 : sched hzeB 34 = hzeW.take 34 := sched_next hzeB 33 _ _ _ (by decide) hze_w33 hze_n33 rfl
theorem hze_w35 : sched hzeB 35 = hzeW.take 35 := sched_next hzeB 34 _ _ _ (by decide) hze_w34 hze_n34 rfl
theorem hze_w36 : sched hzeB 36 = hzeW.take 36 := sched_next hzeB 35 _ _ _ (by decide) hze_w35 hze_n35 rfl
theorem hze_w37 : sched hzeB 37 = hzeW.take 37 := sched_next hzeB 36 _ _ _ (by decide) hze_w36 hze_n36 rfl
theorem hze_w38 : sched hzeB 38 = hzeW.take 38 := sched_next hzeB 37 _ _ _ (by decide) hze_w37 hze_n37 rfl
theorem hze_w39 : sched hzeB 39 = hzeW.take 39 := sched_next hzeB 38 _ _ _ (by decide) hze_w38 hze_n38 rfl
theorem hze_w40 : sched hzeB 40 = hzeW.take 40 := sched_next hzeB 39 _ _ _ (by decide) hze_w39 hze_n39 rfl
theorem hze_w41 : sched hzeB 41 = hzeW.take 41 := sched_next hzeB 40 _ _ _ (by decide) hze_w40 hze_n40 rfl
theorem hze_w42 : sched hzeB 42 = hzeW.take 42 := sched_next hzeB 41 _ _ _ (by decide) hze_w41 hze_n41 rfl
theorem hze_w43 : sched hzeB 43 = hzeW.take 43 := sched_next hzeB 42 _ _ _ (by decide) hze_w42 hze_n42 rfl
theorem hze_w44 : sched hzeB 44 = hzeW.take 44 := sched_next hzeB 43 _ _ _ (by decide) hze_w43 hze_n43 rfl
theorem hze_w45 : sched hzeB 45 = hzeW.take 45 := sched_next hzeB 44 _ _ _ (by decide) hze_w44 hze_n44 rfl
theorem hze_w46 : sched hzeB 46 = hzeW.take 46 := sched_next hzeB 45 _ _ _ (by decide) hze_w45 hze_n45 rfl
theorem hze_w47 : sched hzeB 47 = hzeW.take 47 := sched_next hzeB 46 _ _ _ (by decide) hze_w46 hze_n46 rfl
theorem hze_w48 : sched hzeB 48 = hzeW.take 48 := sched_next hzeB 47 _ _ _ (by decide) hze_w47 hze_n47 rfl
theorem hze_w49 : sched hzeB 49 = hzeW.take 49 := sched_next hzeB 48 _ _ _ (by decide) hze_w48 hze_n48 rfl
theorem hze_w50 : sched hzeB 50 = hzeW.take 50 := sched_next hzeB 49 _ _ _ (by decide) hze_w49 hze_n49 rfl
theorem hze_w51 : sched hzeB 51 = hzeW.take 51 := sched_next hzeB 50 _ _ _ (by decide) hze_w50 hze_n50 rfl
theorem hze_w52 : sched hzeB 52 = hzeW.take 52 := sched_next hzeB 51 _ _ _ (by decide) hze_w51 hze_n51 rfl
theorem hze_w53 : sched hzeB 53 = hzeW.take 53 := sched_next hzeB 52 _ _ _ (by decide) hze_w52 hze_n52 rfl
theorem hze_w54 : sched hzeB 54 = hzeW.take 54 := sched_next hzeB 53 _ _ _ (by decide) hze_w53 hze_n53 rfl
theorem hze_w55 : sched hzeB 55 = hzeW.take 55 := sched_next hzeB 54 _ _ _ (by decide) hze_w54 hze_n54 rfl
theorem hze_w56 : sched hzeB 56 = hzeW.take 56 := sched_next hzeB 55 _ _ _ (by decide) hze_w55 hze_n55 rfl
theorem hze_w57 : sched hzeB 57 = hzeW.take 57 := sched_next hzeB 56 _ _ _ (by decide) hze_w56 hze_n56 rfl
theorem hze_w58 : sched hzeB 58 = hzeW.take 58 := sched_next hzeB 57 _ _ _ (by decide) hze_w57 hze_n57 rfl
theorem hze_w59 : sched hzeB 59 = hzeW.take 59 := sched_next hzeB 58 _ _ _ (by decide) hze_w58 hze_n58 rfl
theorem hze_w60 : sched hzeB 60 = hzeW.take 60 := sched_next hzeB 59 _ _ _ (by decide) hze_w59 hze_n59 rfl
theorem hze_w61 : sched hzeB 61 = hzeW.take 61 := sched_next hzeB 60 _ _ _ (by decide) hze_w60 hze_n60 rfl
theorem hze_w62 : sched hzeB 62 = hzeW.take 62 := sched_next hzeB 61 _ _ _ (by decide) hze_w61 hze_n61 rfl
theorem hze_w63 : sched hzeB 63 = hzeW.take 63 := sched_next hzeB 62 _ _ _ (by decide) hze_w62 hze_n62 rfl
theorem hze_w64 : sched hzeB 64 = hzeW.take 64 := sched_next hzeB 63 _ _ _ (by decide) hze_w63 hze_n63 rfl
def hze_t0 : St := ⟨1779033703, 3144134277, 1013904242, 2773480762, 1359893119, 2600822924, 528734635, 1541459225⟩
def hze_t1 : St := ⟨2080933965, 1779033703, 3144134277, 1013904242, 415752866, 1359893119, 2600822924, 528734635⟩
def hze_t2 : St := ⟨2632279248, 2080933965, 1779033703, 3144134277, 536982102, 415752866, 1359893119, 2600822924⟩
def hze_t3 : St := ⟨3299628326, 2632279248, 2080933965, 1779033703, 1876632314, 536982102, 415752866, 1359893119⟩
def hze_t4 : St := ⟨1277422283, 3299628326, 2632279248, 2080933965, 808968629, 1876632314, 536982102, 415752866⟩
def hze_t5 : St := ⟨1130821424, 1277422283, 3299628326, 2632279248, 3889194014, 808968629, 1876632314, 536982102⟩
def hze_t6 : St := ⟨690895682, 1130821424, 1277422283, 3299628326, 1332035834, 3889194014, 808968629, 1876632314⟩
def hze_t7 : St := ⟨4028650896, 690895682, 1130821424, 1277422283, 2196627567, 1332035834, 3889194014, 808968629⟩
def hze_t8 : St := ⟨2060825014, 4028650896, 690895682, 1130821424, 1408847307, 2196627567, 1332035834, 3889194014⟩
def hze_t9 : St := ⟨4113392549, 2060825014, 4028650896, 690895682, 2058339864, 1408847307, 2196627567, 1332035834⟩
def hze_t10 : St := ⟨4025007953, 4113392549, 2060825014, 4028650896, 1392976521, 2058339864, 1408847307, 2196627567⟩
def hze_t11 : St := ⟨361478433, 4025007953, 4113392549, 2060825014, 3795207118, 1392976521, 2058339864, 1408847307⟩
def hze_t12 : St := ⟨4114828352, 361478433, 4025007953, 4113392549, 3621813394, 3795207118, 1392976521, 2058339864⟩
def hze_t13 : St := ⟨553833165, 4114828352, 361478433, 4025007953, 3455974994, 3621813394, 3795207118, 1392976521⟩
def hze_t14 : St := ⟨1170215847, 553833165, 4114828352, 361478433, 725774998, 3455974994, 3621813394, 3795207118⟩
def hze_t15 : St := ⟨3096116699, 1170215847, 553833165, 4114828352, 483372089, 725774998, 3455974994, 3621813394⟩
def hze_t16 : St := ⟨3019933109, 3096116699, 1170215847, 553833165, 1555621987, 483372089, 725774998, 3455974994⟩
def hze_t17 : St := ⟨1192056138, 3019933109, 3096116699, 1170215847, 1892956839, 1555621987, 483372089, 725774998⟩
def hze_t18 : St := ⟨3717831211, 1192056138, 3019933109, 3096116699, 1619825619, 1892956839, 1555621987, 483372089⟩
def hze_t19 : St := ⟨812095850, 3717831211, 1192056138, 3019933109, 3550010602, 1619825619, 1892956839, 1555621987⟩
def hze_t20 : St := ⟨172493064, 812095850, 3717831211, 1192056138, 2416781228, 3550010602, 1619825619, 1892956839⟩
def hze_t21 : St := ⟨1976037592, 172493064, 812095850, 3717831211, 966081741, 2416781228, 3550010602, 1619825619⟩
def hze_t22 : St := ⟨2577845017, 1976037592, 172493064, 812095850, 3263666206, 966081741, 2416781228, 3550010602⟩
def hze_t23 : St := ⟨1078820948, 2577845017, 1976037592, 172493064, 2976200464, 3263666206, 966081741, 2416781228⟩
def hze_t24 : St := ⟨2556161365, 1078820948, 2577845017, 1976037592, 741081741, 2976200464, 3263666206, 966081741⟩
def hze_t25 : St := ⟨2062996621, 2556161365, 1078820948, 2577845017, 4116679717, 741081741, 2976200464, 3263666206⟩
def hze_t26 : St := ⟨3317175470, 2062996621, 2556161365, 1078820948, 3850028020, 4116679717, 741081741, 2976200464⟩
def hze_t27 : St := ⟨747317945, 3317175470, 2062996621, 2556161365, 2677228163, 3850028020, 4116679717, 741081741⟩
def hze_t28 : St := ⟨1837942423, 747317945, 3317175470, 2062996621, 1726829818, 2677228163, 3850028020, 4116679717⟩
def hze_t29 : St := ⟨1690082844, 1837942423, 747317945, 3317175470, 2506713973, 1726829818, 2677228163, 3850028020⟩
def hze_t30 : St := ⟨1926471693, 1690082844, 1837942423, 747317945, 2957685293, 2506713973, 1726829818, 2677228163⟩
def hze_t31 : St := ⟨2696613087, 1926471693, 1690082844, 1837942423, 1447716390, 2957685293, 2506713973, 1726829818⟩
def hze_t32 : St := ⟨300352095, 2696613087, 1926471693, 1690082844, 3151463532, 1447716390, 2957685293, 2506713973⟩
def hze_t33 : St := ⟨3817927606, 300352095, 2696613087, 1926471693, 3436338571, 3151463532, 1447716390, 2957685293⟩
def hze_t34 : St := ⟨2705438357, 3817927606, 300352095, 2696613087, 197416927, 3436338571, 3151463532, 1447716390⟩
def hze_t35 : St := ⟨1151435175, 2705438357, 3817927606, 300352095, 1769188034, 197416927, 3436338571, 3151463532⟩
def hze_t36 : St := ⟨1679812728, 1151435175, 2705438357, 3817927606, 980442793, 1769188034, 197416927, 3436338571⟩
def hze_t37 : St := ⟨2694206301, 1679812728, 1151435175, 2705438357, 4206914285, 980442793, 1769188034, 197416927⟩
def hze_t38 : St := ⟨1457773646, 2694206301, 1679812728, 1151435175, 3892832895, 4206914285, 980442793, 1769188034⟩
def hze_t39 : St := ⟨2656625711, 1457773646, 2694206301, 1679812728, 2242319396, 3892832895, 4206914285, 980442793⟩
def hze_t40 : St := ⟨1234768305, 2656625711, 1457773646, 2694206301, 1902882853, 2242319396, 3892832895, 4206914285⟩
def hze_t41 : St := ⟨4270245939, 1234768305, 2656625711, 1457773646, 2224585183, 1902882853, 2242319396, 3892832895⟩
def hze_t42 : St := ⟨580450446, 4270245939, 1234768305, 2656625711, 4123364073, 2224585183, 1902882853, 2242319396⟩
def hze_t43 : St := ⟨3686090155, 580450446, 4270245939, 1234768305, 3762306745, 4123364073, 2224585183, 1902882853⟩
def hze_t44 : St := ⟨3907209042, 3686090155, 580450446, 4270245939, 692219050, 3762306745, 4123364073, 2224585183⟩
def hze_t45 : St := ⟨2752082644, 3907209042, 3686090155, 580450446, 2855016464, 692219050, 3762306745, 4123364073⟩
def hze_t46 : St := ⟨855262251, 2752082644, 3907209042, 3686090155, 3531982457, 2855016464, 692219050, 3762306745⟩
def hze_t47 : St := ⟨1419259244, 855262251, 2752082644, 3907209042, 2322236082, 3531982457, 2855016464, 692219050⟩
def hze_t48 : St := ⟨911881421, 1419259244, 855262251, 2752082644, 3417569515, 2322236082, 3531982457, 2855016464⟩
def hze_t49 : St := ⟨1655188062, 911881421, 1419259244, 855262251, 1286303114, 3417569515, 2322236082, 3531982457⟩
def hze_t50 : St := ⟨2543384045, 1655188062, 911881421, 1419259244, 3909789552, 1286303114, 3417569515, 2322236082⟩
def hze_t51 : St := ⟨3244542753, 2543384045, 1655188062, 911881421, 906398686, 3909789552, 1286303114, 3417569515⟩
def hze_t52 : St := ⟨3579709122, 3244542753, 2543384045, 1655188062, 2710884687, 906398686, 3909789552, 1286303114⟩
def hze_t53 : St := ⟨2981272720, 3579709122, 3244542753, 2543384045, 1134943992, 2710884687, 906398686, 3909789552⟩
def hze_t54 : St := ⟨974034039, 2981272720, 3579709122, 3244542753, 4254700398, 1134943992, 2710884687, 906398686⟩
def hze_t55 : St := ⟨749689034, 974034039, 2981272720, 3579709122, 3850954136, 4254700398, 1134943992, 2710884687⟩
def hze_t56 : St := ⟨23298068, 749689034, 974034039, 2981272720, 2918796810, 3850954136, 4254700398, 1134943992⟩
def hze_t57 : St := ⟨2126991890, 23298068, 749689034, 974034039, 2035393328, 2918796810, 3850954136, 4254700398⟩
def hze_t58 : St := ⟨3891021244, 2126991890, 23298068, 749689034, 3802734300, 2035393328, 2918796810, 3850954136⟩
def hze_t59 : St := ⟨3911429062, 3891021244, 2126991890, 23298068, 148956906, 3802734300, 2035393328, 2918796810⟩
def hze_t60 : St := ⟨71572494, 3911429062, 3891021244, 2126991890, 2867830852, 148956906, 3802734300, 2035393328⟩
def hze_t61 : St := ⟨4095722474, 71572494, 3911429062, 3891021244, 477227836, 2867830852, 148956906, 3802734300⟩
def hze_t62 : St := ⟨1586299222, 4095722474, 71572494, 3911429062, 2232532848, 477227836, 2867830852, 148956906⟩
def hze_t63 : St := ⟨3717492111, 1586299222, 4095722474, 71572494, 3382061760, 2232532848, 477227836, 2867830852⟩
def hze_t64 : St := ⟨2040978907, 3717492111, 1586299222, 4095722474, 3600805733, 3382061760, 2232532848, 477227836⟩
theorem hze_s0 : rnd hze_t0 1116352408 2147483648 = hze_t1 := by kernel_rfl
theorem hze_s1 : rnd hze_t1 1899447441 0 = hze_t2 := by kernel_rfl
theorem hze_s2 : rnd hze_t2 3049323471 0 = hze_t3 := by kernel_rfl
theorem hze_s3 : rnd hze_t3 3921009573 0 = hze_t4 := by kernel_rfl
theorem hze_s4 : rnd hze_t4 961987163 0 = hze_t5 := by kernel_rfl
theorem hze_s5 : rnd hze_t5 1508970993 0 = hze_t6 := by kernel_rfl
theorem hze_s6 : rnd hze_t6 2453635748 0 = hze_t7 := by kernel_rfl
theorem hze_s7 : rnd hze_t7 2870763221 0 = hze_t8 := by kernel_rfl
theorem hze_s8 : rnd hze_t8 3624381080 0 = hze_t9 := by kernel_rfl
theorem hze_s9 : rnd hze_t9 310598401 0 = hze_t10 := by kernel_rfl
theorem hze_s10 : rnd hze_t10 607225278 0 = hze_t11 := by kernel_rfl
theorem hze_s11 : rnd hze_t11 1426881987 0 = hze_t12 := by kernel_rfl
theorem hze_s12 : rnd hze_t12 1925078388 0 = hze_t13 := by kernel_rfl
theorem hze_s13 : rnd hze_t13 2162078206 0 = hze_t14 := by kernel_rfl
theorem hze_s14 : rnd hze_t14 2614888103 0 = hze_t15 := by kernel_rfl
theorem hze_s15 : rnd hze_t15 3248222580 0 = hze_t16 := by kernel_rfl
theorem hze_s16 : rnd hze_t16 3835390401 2147483648 = hze_t17 := by kernel_rfl
theorem hze_s17 : rnd hze_t17 4022224774 0 = hze_t18 := by kernel_rfl
theorem hze_s18 : rnd hze_t18 264347078 2117632 = hze_t19 := by kernel_rfl
theorem hze_s19 : rnd hze_t19 604807628 0 = hze_t20 := by kernel_rfl
theorem hze_s20 : rnd hze_t20 770255983 570427392 = hze_t21 := by kernel_rfl
theorem hze_s21 : rnd hze_t21 1249150122 0 = hze_t22 := by kernel_rfl
theorem hze_s22 : rnd hze_t22 1555081692 84448578 = hze_t23 := by kernel_rfl
theorem hze_s23 : rnd hze_t23 1996064986 2147483648 = hze_t24 := by kernel_rfl
theorem hze_s24 : rnd hze_t24 2554220882 1476919296 = hze_t25 := by kernel_rfl
theorem hze_s25 : rnd hze_t25 2821834349 4235264 = hze_t26 := by kernel_rfl
theorem hze_s26 : rnd hze_t26 2952996808 1451269 = hze_t27 := by kernel_rfl
theorem hze_s27 : rnd hze_t27 3210313671 1711282176 = hze_t28 := by kernel_rfl
theorem hze_s28 : rnd hze_t28 3336571891 3592562048 = hze_t29 := by kernel_rfl
theorem hze_s29 : rnd hze_t29 3584528711 337794312 = hze_t30 := by kernel_rfl
theorem hze_s30 : rnd hze_t30 113926993 3594910044 = hze_t31 := by kernel_rfl
theorem hze_s31 : rnd hze_t31 338241895 3374850048 = hze_t32 := by kernel_rfl
theorem hze_s32 : rnd hze_t32 666307205 3287351444 = hze_t33 := by kernel_rfl
theorem hze_s33 : rnd hze_t33 773529912 676112230 = hze_t34 := by kernel_rfl
theorem hze_s34 : rnd hze_t34 1294757372 109604294 = hze_t35 := by kernel_rfl
theorem hze_s35 : rnd hze_t35 1396182291 2742808854 = hze_t36 := by kernel_rfl
theorem hze_s36 : rnd hze_t36 1695183700 1904000662 = hze_t37 := by kernel_rfl
theorem hze_s37 : rnd hze_t37 1986661051 4274181962 = hze_t38 := by kernel_rfl
theorem hze_s38 : rnd hze_t38 2177026350 2813755136 = hze_t39 := by kernel_rfl
theorem hze_s39 : rnd hze_t39 2456956037 2165675682 = hze_t40 := by kernel_rfl
theorem hze_s40 : rnd hze_t40 2730485921 2561075048 = hze_t41 := by kernel_rfl
theorem hze_s41 : rnd hze_t41 2820302411 62000258 = hze_t42 := by kernel_rfl
theorem hze_s42 : rnd hze_t42 3259730800 1562224585 = hze_t43 := by kernel_rfl
theorem hze_s43 : rnd hze_t43 3345764771 2975250741 = hze_t44 := by kernel_rfl
theorem hze_s44 : rnd hze_t44 3516065817 3286092305 = hze_t45 := by kernel_rfl
theorem hze_s45 : rnd hze_t45 3600352804 614207615 = hze_t46 := by kernel_rfl
theorem hze_s46 : rnd hze_t46 4094571909 3297584367 = hze_t47 := by kernel_rfl
theorem hze_s47 : rnd hze_t47 275423344 1575308336 = hze_t48 := by kernel_rfl
theorem hze_s48 : rnd hze_t48 430227734 3741240933 = hze_t49 := by kernel_rfl
theorem hze_s49 : rnd hze_t49 506948616 748767245 = hze_t50 := by kernel_rfl
theorem hze_s50 : rnd hze_t50 659060556 1008022316 = hze_t51 := by kernel_rfl
theorem hze_s51 : rnd hze_t51 883997877 30329261 = hze_t52 := by kernel_rfl
theorem hze_s52 : rnd hze_t52 958139571 369937616 = hze_t53 := by kernel_rfl
theorem hze_s53 : rnd hze_t53 1322822218 195877528 = hze_t54 := by kernel_rfl
theorem hze_s54 : rnd hze_t54 1537002063 907775968 = hze_t55 := by kernel_rfl
theorem hze_s55 : rnd hze_t55 1747873779 3526495142 = hze_t56 := by kernel_rfl
theorem hze_s56 : rnd hze_t56 1955562222 43741191 = hze_t57 := by kernel_rfl
theorem hze_s57 : rnd hze_t57 2024104815 1967544444 = hze_t58 := by kernel_rfl
theorem hze_s58 : rnd hze_t58 2227730452 133517113 = hze_t59 := by kernel_rfl
theorem hze_s59 : rnd hze_t59 2361852424 4161330627 = hze_t60 := by kernel_rfl
theorem hze_s60 : rnd hze_t60 2428436474 3704256008 = hze_t61 := by kernel_rfl
theorem hze_s61 : rnd hze_t61 2756734187 1581412744 = hze_t62 := by kernel_rfl
theorem hze_s62 : rnd hze_t62 3204031479 1153231965 = hze_t63 := by kernel_rfl
theorem hze_s63 : rnd hze_t63 3329325298 996066459 = hze_t64 := by kernel_rfl
theorem hze_r0 : rounds hze_t0 hzeW 0 = hze_t0 := rfl
theorem hze_r1 : rounds hze_t0 hzeW 1 = hze_t1 := rounds_next _ _ 0 _ _ _ _ hze_r0 rfl rfl hze_s0
theorem hze_r2 : rounds hze_t0 hzeW 2 = hze_t2 := rounds_next _ _ 1 _ _ _ _ hze_r1 rfl rfl hze_s1
theorem hze_r3 : rounds hze_t0 hzeW 3 = hze_t3 := rounds_next _ _ 2 _ _ _ _ hze_r2 rfl rfl hze_s2
theorem hze_r4 : rounds hze_t0 hzeW 4 = hze_t4 := rounds_next _ _ 3 _ _ _ _ hze_r3 rfl rfl hze_s3
theorem hze_r5 : rounds hze_t0 hzeW 5 = hze_t5 := rounds_next _ _ 4 _ _ _ _ hze_r4 rfl rfl hze_s4
theorem hze_r6 : rounds hze_t0 hzeW 6 = hze_t6 := rounds_next _ _ 5 _ _ _ _ hze_r5 rfl rfl hze_s5
theorem hze_r7 : rounds hze_t0 hzeW 7 = hze_t7 := rounds_next _ _ 6 _ _ _ _ hze_r6 rfl rfl hze_s6
theorem hze_r8 : rounds hze_t0 hzeW 8 = hze_t8 := rounds_next _ _ 7 _ _ _ _ hze_r7 rfl rfl hze_s7
theorem hze_r9 : rounds hze_t0 hzeW 9 = hze_t9 := rounds_next _ _ 8 _ _ _ _ hze_r8 rfl rfl hze_s8
theorem hze_r10 : rounds hze_t0 hzeW 10 = hze_t10 := rounds_next _ _ 9 _ _ _ _ hze_r9 rfl rfl hze_s9
theorem hze_r11 : rounds hze_t0 hzeW 11 = hze_t11 := rounds_next _ _ 10 _ _ _ _ hze_r10 rfl rfl hze_s10
theorem hze_r12 : rounds hze_t0 hzeW 12 = hze_t12 := rounds_next _ _ 11 _ _ _ _ hze_r11 rfl rfl hze_s11
theorem hze_r13 : rounds hze_t0 hzeW 13 = hze_t13 := rounds_next _ _ 12 _ _ _ _ hze_r12 rfl rfl hze_s12
theorem hze_r14 : rounds hze_t0 hzeW 14 = hze_t14 := rounds_next _ _ 13 _ _ _ _ hze_r13 rfl rfl hze_s13
theorem hze_r15 : rounds hze_t0 hzeW 15 = hze_t15 := rounds_next _ _ 14 _ _ _ _ hze_r14 rfl rfl hze_s14
theorem hze_r16 : rounds hze_t0 hzeW 16 = hze_t16 := rounds_next _ _ 15 _ _ _ _ hze_r15 rfl rfl hze_s15
theorem hze_r17 : rounds hze_t0 hzeW 17 = hze_t17 := rounds_next _ _ 16 _ _ _ _ hze_r16 rfl rfl hze_s16
theorem hze_r18 : rounds hze_t0 hzeW 18 = hze_t18 := rounds_next _ _ 17 _ _ _ _ hze_r17 rfl rfl hze_s17
theorem hze_r19 : rounds hze_t0 hzeW 19 = hze_t19 := rounds_next _ _ 18 _ _ _ _ hze_r18 rfl rfl hze_s18
theorem hze_r20 : rounds hze_t0 hzeW 20 = hze_t20 := rounds_next _ _ 19 _ _ _ _ hze_r19 rfl rfl hze_s19
theorem hze_r21 : rounds hze_t0 hzeW 21 = hze_t21 := rounds_next _ _ 20 _ _ _ _ hze_r20 rfl rfl hze_s20
theorem hze_r22 : rounds hze_t0 hzeW 22 = hze_t22 := rounds_next _ _ 21 _ _ _ _ hze_r21 rfl rfl hze_s21
theorem hze_r23 : rounds hze_t0 hzeW 23 = hze_t23 := rounds_next _ _ 22 _ _ _ _ hze_r22 rfl rfl hze_s22
theorem hze_r24 : rounds hze_t0 hzeW 24 = hze_t24 := rounds_next _ _ 23 _ _ _ _ hze_r23 rfl rfl hze_s23
theorem hze_r25 : rounds hze_t0 hzeW 25 = hze_t25 := rounds_next _ _ 24 _ _ _ _ hze_r24 rfl rfl hze_s24
theorem hze_r26 : rounds hze_t0 hzeW 26 = hze_t26 := rounds_next _ _ 25 _ _ _ _ hze_r25 rfl rfl hze_s25
theorem hze_r27 : rounds hze_t0 hzeW 27 = hze_t27 := rounds_next _ _ 26 _ _ _ _ hze_r26 rfl rfl hze_s26
theorem hze_r28 : rounds hze_t0 hzeW 28 = hze_t28 := rounds_next _ _ 27 _ _ _ _ hze_r27 rfl rfl hze_s27
theorem hze_r29 : rounds hze_t0 hzeW 29 = hze_t29 := rounds_next _ _ 28 _ _ _ _ hze_r28 rfl rfl hze_s28
theorem hze_r30 : rounds hze_t0 hzeW 30 = hze_t30 := rounds_next _ _ 29 _ _ _ _ hze_r29 rfl rfl hze_s29
theorem hze_r31 : rounds hze_t0 hzeW 31 = hze_t31 := rounds_next _ _ 30 _ _ _ _ hze_r30 rfl rfl hze_s30
theorem hze_r32 : rounds hze_t0 hzeW 32 = hze_t32 := rounds_next _ _ 31 _ _ _ _ hze_r31 rfl rfl hze_s31
theorem hze_r33 : rounds hze_t0 hzeW 33 = hze_t33 := rounds_next _ _ 32 _ _ _ _ hze_r32 rfl rfl hze_s32
theorem hze_r34 : rounds hze_t0 hzeW 34 = hze_t34 := rounds_next _ _ 33 _ _ _ _ hze_r33 rfl rfl hze_s33
theorem hze_r35 : rounds hze_t0 hzeW 35 = hze_t35 := rounds_next _ _ 34 _ _ _ _ hze_r34 rfl rfl hze_s34
theorem hze_r36 : rounds hze_t0 hzeW 36 = hze_t36 := rounds_next _ _ 35 _ _ _ _ hze_r35 rfl rfl hze_s35
theorem hze_r37 : rounds hze_t0 hzeW 37 = hze_t37 := rounds_next _ _ 36 _ _ _ _ hze_r36 rfl rfl hze_s36
theorem hze_r38 : rounds hze_t0 hzeW 38 = hze_t38 := rounds_next _ _ 37 _ _ _ _ hze_r37 rfl rfl hze_s37
theorem hze_r39 : rounds hze_t0 hzeW 39 = hze_t39 := rounds_next _ _ 38 _ _ _ _ hze_r38 rfl rfl hze_s38
theorem hze_r40 : rounds hze_t0 hzeW 40 = hze_t40 := rounds_next _ _ 39 _ _ _ _ hze_r39 rfl rfl hze_s39
theorem hze_r41 : rounds hze_t0 hzeW 41 = hze_t41 := rounds_next _ _ 40 _ _ _ _ hze_r40 rfl rfl hze_s40
theorem hze_r42 : rounds hze_t0 hzeW 42 = hze_t42 := rounds_next _ _ 41 _ _ _ _ hze_r41 rfl rfl hze_s41
theorem hze_r43 : rounds hze_t0 hzeW 43 = hze_t43 := rounds_next _ _ 42 _ _ _ _ hze_r42 rfl rfl hze_s42
theorem hze_r44 : rounds hze_t0 hzeW 44 = hze_t44 := rounds_next _ _ 43 _ _ _ _ hze_r43 rfl rfl hze_s43
theorem hze_r45 : rounds hze_t0 hzeW 45 = hze_t45 := rounds_next _ _ 44 _ _ _ _ hze_r44 rfl rfl hze_s44
theorem hze_r46 : rounds hze_t0 hzeW 46 = hze_t46 := rounds_next _ _ 45 _ _ _ _ hze_r45 rfl rfl hze_s45
theorem hze_r47 : rounds hze_t0 hzeW 47 = hze_t47 := rounds_next _ _ 46 _ _ _ _ hze_r46 rfl rfl hze_s46
theorem hze_r48 : rounds hze_t0 hzeW 48 = hze_t48 := rounds_next _ _ 47 _ _ _ _ hze_r47 rfl rfl hze_s47
theorem hze_r49 : rounds hze_t0 hzeW 49 = hze_t49 := rounds_next _ _ 48 _ _ _ _ hze_r48 rfl rfl hze_s48
theorem hze_r50 : rounds hze_t0 hzeW 50 = hze_t50 := rounds_next _ _ 49 _ _ _ _ hze_r49 rfl rfl hze_s49
theorem hze_r51 : rounds hze_t0 hzeW 51 = hze_t51 := rounds_next _ _ 50 _ _ _ _ hze_r50 rfl rfl hze_s50
theorem hze_r52 : rounds hze_t0 hzeW 52 = hze_t52 := rounds_next _ _ 51 _ _ _ _ hze_r51 rfl rfl hze_s51
theorem hze_r53 : rounds hze_t0 hzeW 53 = hze_t53 := rounds_next _ _ 52 _ _ _ _ hze_r52 rfl rfl hze_s52
theorem hze_r54 : rounds hze_t0 hzeW 54 = hze_t54 := rounds_next _ _ 53 _ _ _ _ hze_r53 rfl rfl hze_s53
theorem hze_r55 : rounds hze_t0 hzeW 55 = hze_t55 := rounds_next _ _ 54 _ _ _ _ hze_r54 rfl rfl hze_s54
theorem hze_r56 : rounds hze_t0 hzeW 56 = hze_t56 := rounds_next _ _ 55 _ _ _ _ hze_r55 rfl rfl hze_s55
theorem hze_r57 : rounds hze_t0 hzeW 57 = hze_t57 := rounds_next _ _ 56 _ _ _ _ hze_r56 rfl rfl hze_s56
theorem hze_r58 : rounds hze_t0 hzeW 58 = hze_t58 := rounds_next _ _ 57 _ _ _ _ hze_r57 rfl rfl hze_s57
theorem hze_r59 : rounds hze_t0 hzeW 59 = hze_t59 := rounds_next _ _ 58 _ _ _ _ hze_r58 rfl rfl hze_s58
theorem hze_r60 : rounds hze_t0 hzeW 60 = hze_t60 := rounds_next _ _ 59 _ _ _ _ hze_r59 rfl rfl hze_s59
theorem hze_r61 : rounds hze_t0 hzeW 61 = hze_t61 := rounds_next _ _ 60 _ _ _ _ hze_r60 rfl rfl hze_s60
theorem hze_r62 : rounds hze_t0 hzeW 62 = hze_t62 := rounds_next _ _ 61 _ _ _ _ hze_r61 rfl rfl hze_s61
theorem hze_r63 : rounds hze_t0 hzeW 63 = hze_t63 := rounds_next _ _ 62 _ _ _ _ hze_r62 rfl rfl hze_s62
theorem hze_r64 : rounds hze_t0 hzeW 64 = hze_t64 := rounds_next _ _ 63 _ _ _ _ hze_r63 rfl rfl hze_s63
def hzeN : List Int := [3820012610, 2566659092, 2600203464, 2574235940, 665731556, 1687917388, 2761267483, 2018687061]
theorem hze_block : blockZ FZ hzeB = hzeN := by
  have h : (sched hzeB 64) = hzeW := hze_w64
  unfold blockZ
  rw [h, show St.ofL FZ = hze_t0 from rfl, hze_r64]
  show _ = _
  kernel_rfl
def hzMsg : List Int := [1, 0, 0, 0, 0, 0, 0, 0, 0, 0, 0, 0, 0, 0, 0, 0, 0, 0, 0, 0, 0, 0, 0, 0, 0, 0, 0, 0, 0, 0, 0, 0, 0, 0, 0, 0, 0, 0, 0, 0, 0, 0, 0, 0, 0, 0, 0, 0, 0, 0, 0, 0, 0, 0, 0, 0, 0, 0, 0, 0, 0, 0, 0, 0, 0]
def hzSum : List Int := [174, 7, 152, 208, 236, 174, 210, 183, 120, 237, 222, 191, 24, 240, 113, 165, 97, 197, 54, 88, 192, 94, 118, 206, 222, 204, 39, 202, 251, 219, 197, 119]
def hzAll : List Int := hzaB ++ hzbB
theorem hz_pad : hzMsg ++ padZ 65 = hzAll := by kernel_rfl
set_option maxRecDepth 100000 in
theorem hz_sum : sumZ hzMsg = hzSum := by
  have h2 : led FZ hzAll 2 = hzbN := by
    show blockZ (blockZ FZ hzaB) hzbB = _
    rw [hza_block]; exact hzb_block
  unfold sumZ
  rw [show hzMsg.length = 65 from rfl, hz_pad, show hzAll.length / 64 = 2 from rfl, h2]
  show _ = _
  kernel_rfl
theorem nd_zero : ndZ zeroH zeroH ≠ zeroH := by
  have e : ndZ zeroH zeroH = sumZ hzMsg := rfl
  rw [e, hz_sum]
  decide
def nonSum : List Int := [227, 176, 196, 66, 152, 252, 28, 20, 154, 251, 244, 200, 153, 111, 185, 36, 39, 174, 65, 228, 100, 155, 147, 76, 164, 149, 153, 27, 120, 82, 184, 85]
theorem non_pad : [] ++ padZ 0 = hzeB := by kernel_rfl
theorem non_sum : nonZ = nonSum := by
  have h1 : led FZ hzeB 1 = hzeN := by
    show blockZ FZ ((hzeB.drop 0).take 64) = _
    exact hze_block
  unfold nonZ sumZ
  rw [show ([] : List Int).length = 0 from rfl, non_pad, show hzeB.length / 64 = 1 from rfl, h1]
  show _ = _
  kernel_rfl
theorem non_zero : nonZ ≠ zeroH := by
  rw [non_sum]
  decide
end Go.Proofs.YteijlppmgkdieaaDoor
