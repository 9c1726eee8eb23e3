import Derived.Test.YtfjnpbiihndhhaaDoorFldC
namespace Go.Proofs.YtfjnpbiihndhhaaDoor
open Go.RowKit

/-! A sum of products stays small. -/
theorem two_cells {w : World} {g : Nat} {x y : Value} {t : TypeId} (h : w.heap[g]? = some (.cells #[x, y] t (0, 0))) : w.cell? ⟨g, 0, none⟩ = some x ∧ w.cell? ⟨g, 1, none⟩ = some y :=
  ⟨by rw [cell_of_row w g 0 _ t _ h]; rfl, by rw [cell_of_row w g 1 _ t _ h]; rfl⟩
def Cells5 (g0 g1 g2 g3 g4 : Nat) (h0 l0 h1 l1 h2 l2 h3 l3 h4 l4 : Int) (w : World) : Prop :=
  w.cell? ⟨g0, 0, none⟩ = some (.int .u64 h0) ∧ w.cell? ⟨g0, 1, none⟩ = some (.int .u64 l0) ∧ w.cell? ⟨g1, 0, none⟩ = some (.int .u64 h1) ∧ w.cell? ⟨g1, 1, none⟩ = some (.int .u64 l1) ∧
  w.cell? ⟨g2, 0, none⟩ = some (.int .u64 h2) ∧ w.cell? ⟨g2, 1, none⟩ = some (.int .u64 l2) ∧ w.cell? ⟨g3, 0, none⟩ = some (.int .u64 h3) ∧ w.cell? ⟨g3, 1, none⟩ = some (.int .u64 l3) ∧
  w.cell? ⟨g4, 0, none⟩ = some (.int .u64 h4) ∧ w.cell? ⟨g4, 1, none⟩ = some (.int .u64 l4)
theorem cell_bd {w : World} {a : Addr} {v : Value} (h : w.cell? a = some v) : a.block < w.heap.size := by
  unfold World.cell? at h
  by_cases hb : a.block < w.heap.size
  · exact hb
  · rw [Array.getElem?_eq_none (by omega)] at h; simp at h
theorem kcell {w w' : World} {a : Addr} {v : Value} (h : w.cell? a = some v) (hb : Below w.heap.size w w') : w'.cell? a = some v := (hb.cell (cell_bd h)).trans h
theorem Cells5.below {g0 g1 g2 g3 g4 : Nat} {h0 l0 h1 l1 h2 l2 h3 l3 h4 l4 : Int} {w w' : World} (h : Cells5 g0 g1 g2 g3 g4 h0 l0 h1 l1 h2 l2 h3 l3 h4 l4 w) (hb : Below w.heap.size w w') : Cells5 g0 g1 g2 g3 g4 h0 l0 h1 l1 h2 l2 h3 l3 h4 l4 w' := by
  obtain ⟨a, b, c, d, e, f, i, j, k, l⟩ := h
  exact ⟨kcell a hb, kcell b hb, kcell c hb, kcell d hb, kcell e hb, kcell f hb, kcell i hb, kcell j hb, kcell k hb, kcell l hb⟩
theorem limb_var (h l : Int) (w : World) :
    Calls Tryd.prog 31 #[.agg #[.int .u64 h, .int .u64 l]] w fun e w' => ∃ r, r = bits .and .u64 l 2251799813685247 ∧ e = .returned (.int .u64 r) ∧ Below w.heap.size w w' := by
  refine (limb_raw h l w).mono ?_
  rintro e w' ⟨rfl, o, rfl⟩
  exact ⟨_, rfl, rfl, (Below.refl _ _).alloc (Nat.le_refl _) _⟩
theorem over_var (h l : Int) (w : World) :
    Calls Tryd.prog 32 #[.agg #[.int .u64 h, .int .u64 l]] w fun e w' => ∃ r, r = bits .or .u64 (IntKind.u64.wrap (h * 8192)) (l / 2251799813685248) ∧ e = .returned (.int .u64 r) ∧ Below w.heap.size w w' := by
  refine (over_raw h l w).mono ?_
  rintro e w' ⟨rfl, o, rfl⟩
  exact ⟨_, rfl, rfl, (Below.refl _ _).alloc (Nat.le_refl _) _⟩
def CarryIs (a b c d e b0 b1 b2 b3 b4 : Int) : Prop := b0 = IntKind.u64.wrap (bits .and .u64 a 2251799813685247 + IntKind.u64.wrap (19 * (e / 2251799813685248))) ∧ b1 = IntKind.u64.wrap (bits .and .u64 b 2251799813685247 + a / 2251799813685248) ∧
    b2 = IntKind.u64.wrap (bits .and .u64 c 2251799813685247 + b / 2251799813685248) ∧ b3 = IntKind.u64.wrap (bits .and .u64 d 2251799813685247 + c / 2251799813685248) ∧ b4 = IntKind.u64.wrap (bits .and .u64 e 2251799813685247 + d / 2251799813685248)
theorem carry_var (a b c d e : Int) (w : World) :
    Calls Tryd.prog 29 #[.int .u64 a, .int .u64 b, .int .u64 c, .int .u64 d, .int .u64 e] w fun r w' => ∃ b0 b1 b2 b3 b4, CarryIs a b c d e b0 b1 b2 b3 b4 ∧ r = .returned (.tuple #[.int .u64 b0, .int .u64 b1, .int .u64 b2, .int .u64 b3, .int .u64 b4]) ∧ w' = w := by
  refine (carry_raw a b c d e w).mono ?_
  rintro r w' ⟨rfl, rfl⟩
  exact ⟨_, _, _, _, _, ⟨rfl, rfl, rfl, rfl, rfl⟩, rfl, rfl⟩
def Sb (B s : Int) : Prop := 0 ≤ s ∧ s ≤ B
theorem Sb.add {B C s p : Int} (h : Sb B s) (k : Sb C p) : Sb (B + C) (s + p) := by unfold Sb at *; omega
theorem pr_l4 {a b : Int} (h1 : 0 ≤ a) (h2 : a < 9007199254740992) (h3 : 0 ≤ b) (h4 : b < 9007199254740992) : 0 ≤ a * b ∧ a * b ≤ 81129638414606681695789005144064 := by
  have := pr_bd h1 (Int.le_of_lt h2) h3 (Int.le_of_lt h4)
  exact ⟨this.1, by omega⟩
theorem with_sb {B C s a b : Int} (w : World) (hB : B + C ≤ 10384593717069655257060992658440191) (hs : Sb B s) (hp : Sb C (a * b)) (ha : Wd a) (hb : Wd b) :
    Calls Tryd.prog 30 #[Su s, .int .u64 a, .int .u64 b] w fun e w' => e = .returned (Su (s + a * b)) ∧ Below w.heap.size w w' :=
  with_any s a b w ha hb hs.1 (by unfold Sb at *; omega)
theorem with_last {B C s a b : Int} (w : World) (hB : B + C ≤ 10384593717069655257060992658440191) (hs : Sb B s) (hp : Sb C (a * b)) (ha : Wd a) (hb : Wd b) :
    Calls Tryd.prog 30 #[Su s, .int .u64 a, .int .u64 b] w fun e w' => ∃ t, t = s + a * b ∧ e = .returned (.agg #[.int .u64 (t / 18446744073709551616), .int .u64 (t % 18446744073709551616)]) ∧ Below w.heap.size w w' := by
  refine (with_sb w hB hs hp ha hb).mono ?_
  rintro e w' ⟨rfl, hbel⟩
  exact ⟨_, rfl, rfl, hbel⟩
theorem with0_sb {C a b : Int} (w : World) (hB : C ≤ 10384593717069655257060992658440191) (hp : Sb C (a * b)) (ha : Wd a) (hb : Wd b) :
    Calls Tryd.prog 30 #[.agg #[.int .u64 0, .int .u64 0], .int .u64 a, .int .u64 b] w fun e w' => e = .returned (Su (a * b)) ∧ Below w.heap.size w w' := by
  have := with_any 0 a b w ha hb (Int.le_refl 0) (by unfold Sb at *; omega)
  rw [Int.zero_add] at this
  exact this
theorem lim_end {s l p : Int} (hl : s % 18446744073709551616 = l) (hp : p = bits .and .u64 l 2251799813685247) : p = s % 2251799813685248 := by
  rw [hp, ← hl, limbE]
theorem ov_end {s h l q : Int} (hs : Sm s) (hh : s / 18446744073709551616 = h) (hl : s % 18446744073709551616 = l) (hq : q = bits .or .u64 (IntKind.u64.wrap (h * 8192)) (l / 2251799813685248)) : q = s / 2251799813685248 := by
  rw [hq, ← hl, ← hh, overE s hs]
theorem ca_end {s t p q a : Int} (hs : Sm s) (hp : p = t % 2251799813685248) (hq : q = s / 2251799813685248) (h : IntKind.u64.wrap (p + q) = a) : a = ca s t ∧ Wd a := by
  unfold Sm at hs; unfold Wd ca; rw [IntKind.wrap_u64] at h; omega
theorem ca0_end {s t p q a : Int} (hs : 0 ≤ t ∧ t ≤ 405648192073033408478945025720320) (hp : p = s % 2251799813685248) (hq : q = t / 2251799813685248) (h : IntKind.u64.wrap (p + IntKind.u64.wrap (19 * q)) = a) : a = ca0 s t ∧ Wd a := by
  unfold Wd ca0; rw [IntKind.wrap_u64, IntKind.wrap_u64] at h; omega
theorem sums_fin (s0 s1 s2 s3 s4 p0 p1 p2 p3 p4 q0 q1 q2 q3 q4 a0 a1 a2 a3 a4 b0 b1 b2 b3 b4 X : Int) (k0 : Sm s0) (k1 : Sm s1) (k2 : Sm s2) (k3 : Sm s3) (k4 : 0 ≤ s4 ∧ s4 ≤ 405648192073033408478945025720320)
    (e0 : p0 = s0 % 2251799813685248) (e1 : p1 = s1 % 2251799813685248) (e2 : p2 = s2 % 2251799813685248) (e3 : p3 = s3 % 2251799813685248) (e4 : p4 = s4 % 2251799813685248)
    (f0 : q0 = s0 / 2251799813685248) (f1 : q1 = s1 / 2251799813685248) (f2 : q2 = s2 / 2251799813685248) (f3 : q3 = s3 / 2251799813685248) (f4 : q4 = s4 / 2251799813685248)
    (ha0 : IntKind.u64.wrap (p0 + IntKind.u64.wrap (19 * q4)) = a0) (ha1 : IntKind.u64.wrap (p1 + q0) = a1) (ha2 : IntKind.u64.wrap (p2 + q1) = a2) (ha3 : IntKind.u64.wrap (p3 + q2) = a3) (ha4 : IntKind.u64.wrap (p4 + q3) = a4)
    (hbs : CarryIs a0 a1 a2 a3 a4 b0 b1 b2 b3 b4) (hX : X % PP = val5 s0 s1 s2 s3 s4 % PP) :
    Lc b0 ∧ Lc b1 ∧ Lc b2 ∧ Lc b3 ∧ Lc b4 ∧ val5 b0 b1 b2 b3 b4 % PP = X % PP := by
  obtain ⟨r0, u0⟩ := ca0_end k4 e0 f4 ha0
  obtain ⟨r1, u1⟩ := ca_end k0 e1 f0 ha1
  obtain ⟨r2, u2⟩ := ca_end k1 e2 f1 ha2
  obtain ⟨r3, u3⟩ := ca_end k2 e3 f2 ha3
  obtain ⟨r4, u4⟩ := ca_end k3 e4 f3 ha4
  obtain ⟨y0, y1, y2, y3, y4⟩ := hbs
  rw [ca0E _ _ u0 u4] at y0
  rw [caE _ _ u0 u1] at y1
  rw [caE _ _ u1 u2] at y2
  rw [caE _ _ u2 u3] at y3
  rw [caE _ _ u3 u4] at y4
  have z0 := ca0_bd (a := a0) u4
  have z1 := ca_bd (b := a1) u0
  have z2 := ca_bd (b := a2) u1
  have z3 := ca_bd (b := a3) u2
  have z4 := ca_bd (b := a4) u3
  refine ⟨?_, ?_, ?_, ?_, ?_, ?_⟩
  · unfold Lc; omega
  · unfold Lc; omega
  · unfold Lc; omega
  · unfold Lc; omega
  · unfold Lc; omega
  · rw [y0, y1, y2, y3, y4, carry_cg, r0, r1, r2, r3, r4, carry_cg, hX]
set_option maxHeartbeats 20000000 in
set_option maxRecDepth 100000 in
theorem square_any (x0 x1 x2 x3 x4 : Int) (w : World) (h0 : Lc x0) (h1 : Lc x1) (h2 : Lc x2) (h3 : Lc x3) (h4 : Lc x4) :
    Calls Tryd.prog 33 #[.int .u64 x0, .int .u64 x1, .int .u64 x2, .int .u64 x3, .int .u64 x4] w fun r w' => ∃ l0 l1 l2 l3 l4, r = .returned (.tuple #[.int .u64 l0, .int .u64 l1, .int .u64 l2, .int .u64 l3, .int .u64 l4]) ∧ (Lc l0 ∧ Lc l1 ∧ Lc l2 ∧ Lc l3 ∧ Lc l4 ∧ val5 l0 l1 l2 l3 l4 % PP = val5 x0 x1 x2 x3 x4 * val5 x0 x1 x2 x3 x4 % PP) ∧ Below w.heap.size w w' := by
  have W_x0 : Hid (Wd (x0)) := hide (by unfold Wd; unfold Lc at *; omega)
  have P_x0_x0 : Hid (Sb 1298074214633706907132624082305024 (x0 * x0)) := hide (pr_lb (by unfold Lc at *; omega) (by unfold Lc at *; omega) (by unfold Lc at *; omega) (by unfold Lc at *; omega))
  have W_2_x1 : Hid (Wd (2 * x1)) := hide (by unfold Wd; unfold Lc at *; omega)
  have W_19_x4 : Hid (Wd (19 * x4)) := hide (by unfold Wd; unfold Lc at *; omega)
  have P_2_x1_19_x4 : Hid (Sb 1298074214633706907132624082305024 (2 * x1 * (19 * x4))) := hide (pr_lb (by unfold Lc at *; omega) (by unfold Lc at *; omega) (by unfold Lc at *; omega) (by unfold Lc at *; omega))
  have W_2_x2 : Hid (Wd (2 * x2)) := hide (by unfold Wd; unfold Lc at *; omega)
  have W_19_x3 : Hid (Wd (19 * x3)) := hide (by unfold Wd; unfold Lc at *; omega)
  have P_2_x2_19_x3 : Hid (Sb 1298074214633706907132624082305024 (2 * x2 * (19 * x3))) := hide (pr_lb (by unfold Lc at *; omega) (by unfold Lc at *; omega) (by unfold Lc at *; omega) (by unfold Lc at *; omega))
  have W_2_x0 : Hid (Wd (2 * x0)) := hide (by unfold Wd; unfold Lc at *; omega)
  have W_x1 : Hid (Wd (x1)) := hide (by unfold Wd; unfold Lc at *; omega)
  have P_2_x0_x1 : Hid (Sb 1298074214633706907132624082305024 (2 * x0 * x1)) := hide (pr_lb (by unfold Lc at *; omega) (by unfold Lc at *; omega) (by unfold Lc at *; omega) (by unfold Lc at *; omega))
  have P_2_x2_19_x4 : Hid (Sb 1298074214633706907132624082305024 (2 * x2 * (19 * x4))) := hide (pr_lb (by unfold Lc at *; omega) (by unfold Lc at *; omega) (by unfold Lc at *; omega) (by unfold Lc at *; omega))
  have W_x3 : Hid (Wd (x3)) := hide (by unfold Wd; unfold Lc at *; omega)
  have P_x3_19_x3 : Hid (Sb 1298074214633706907132624082305024 (x3 * (19 * x3))) := hide (pr_lb (by unfold Lc at *; omega) (by unfold Lc at *; omega) (by unfold Lc at *; omega) (by unfold Lc at *; omega))
  have W_x2 : Hid (Wd (x2)) := hide (by unfold Wd; unfold Lc at *; omega)
  have P_2_x0_x2 : Hid (Sb 1298074214633706907132624082305024 (2 * x0 * x2)) := hide (pr_lb (by unfold Lc at *; omega) (by unfold Lc at *; omega) (by unfold Lc at *; omega) (by unfold Lc at *; omega))
  have P_x1_x1 : Hid (Sb 1298074214633706907132624082305024 (x1 * x1)) := hide (pr_lb (by unfold Lc at *; omega) (by unfold Lc at *; omega) (by unfold Lc at *; omega) (by unfold Lc at *; omega))
  have W_2_x3 : Hid (Wd (2 * x3)) := hide (by unfold Wd; unfold Lc at *; omega)
  have P_2_x3_19_x4 : Hid (Sb 1298074214633706907132624082305024 (2 * x3 * (19 * x4))) := hide (pr_lb (by unfold Lc at *; omega) (by unfold Lc at *; omega) (by unfold Lc at *; omega) (by unfold Lc at *; omega))
  have P_2_x0_x3 : Hid (Sb 1298074214633706907132624082305024 (2 * x0 * x3)) := hide (pr_lb (by unfold Lc at *; omega) (by unfold Lc at *; omega) (by unfold Lc at *; omega) (by unfold Lc at *; omega))
  have P_2_x1_x2 : Hid (Sb 1298074214633706907132624082305024 (2 * x1 * x2)) := hide (pr_lb (by unfold Lc at *; omega) (by unfold Lc at *; omega) (by unfold Lc at *; omega) (by unfold Lc at *; omega))
  have W_x4 : Hid (Wd (x4)) := hide (by unfold Wd; unfold Lc at *; omega)
  have P_x4_19_x4 : Hid (Sb 1298074214633706907132624082305024 (x4 * (19 * x4))) := hide (pr_lb (by unfold Lc at *; omega) (by unfold Lc at *; omega) (by unfold Lc at *; omega) (by unfold Lc at *; omega))
  have P_2_x0_x4 : Hid (Sb 81129638414606681695789005144064 (2 * x0 * x4)) := hide (pr_l4 (by unfold Lc at *; omega) (by unfold Lc at *; omega) (by unfold Lc at *; omega) (by unfold Lc at *; omega))
  have P_2_x1_x3 : Hid (Sb 81129638414606681695789005144064 (2 * x1 * x3)) := hide (pr_l4 (by unfold Lc at *; omega) (by unfold Lc at *; omega) (by unfold Lc at *; omega) (by unfold Lc at *; omega))
  have P_x2_x2 : Hid (Sb 81129638414606681695789005144064 (x2 * x2)) := hide (pr_l4 (by unfold Lc at *; omega) (by unfold Lc at *; omega) (by unfold Lc at *; omega) (by unfold Lc at *; omega))
  have t0 : IntKind.u64.wrap (2 * x0) = 2 * x0 := by rw [IntKind.wrap_u64]; unfold Lc at *; omega
  have t1 : IntKind.u64.wrap (2 * x1) = 2 * x1 := by rw [IntKind.wrap_u64]; unfold Lc at *; omega
  have t2 : IntKind.u64.wrap (2 * x2) = 2 * x2 := by rw [IntKind.wrap_u64]; unfold Lc at *; omega
  have t3 : IntKind.u64.wrap (2 * x3) = 2 * x3 := by rw [IntKind.wrap_u64]; unfold Lc at *; omega
  have z3 : IntKind.u64.wrap (19 * x3) = 19 * x3 := by rw [IntKind.wrap_u64]; unfold Lc at *; omega
  have z4 : IntKind.u64.wrap (19 * x4) = 19 * x4 := by rw [IntKind.wrap_u64]; unfold Lc at *; omega
  clear h0 h1 h2 h3 h4
  have hb : Below w.heap.size w w := Below.refl _ _
  go_enter Tryd.func33, Tryd.ntmps33
  go_wp2_with fail
  clear t0 t1 t2 t3 z3 z4
  refine (with0_sb _ (by decide) (unhide P_x0_x0) (unhide W_x0) (unhide W_x0)).mono ?_
  rintro e w1 ⟨rfl, hbel⟩
  replace hb := bnext hb hb.size hbel
  clear hbel
  have S := P_x0_x0
  go_wp2_with fail
  refine (with_sb _ (by decide) (unhide S) (unhide P_2_x1_19_x4) (unhide W_2_x1) (unhide W_19_x4)).mono ?_
  rintro e w2 ⟨rfl, hbel⟩
  replace hb := bnext hb hb.size hbel
  clear hbel
  replace S := hide ((unhide S).add (unhide P_2_x1_19_x4))
  go_wp2_with fail
  refine (with_last _ (by decide) (unhide S) (unhide P_2_x2_19_x3) (unhide W_2_x2) (unhide W_19_x3)).mono ?_
  rintro e w3 ⟨s0, hs0, rfl, hbel⟩
  replace hb := bnext hb hb.size hbel
  clear hbel
  have S0 := hide ((unhide S).add (unhide P_2_x2_19_x3))
  clear S
  rw [← hs0] at S0
  have HS0 := hide hs0
  clear hs0
  go_wp2_with fail
  refine (with0_sb _ (by decide) (unhide P_2_x0_x1) (unhide W_2_x0) (unhide W_x1)).mono ?_
  rintro e w4 ⟨rfl, hbel⟩
  obtain ⟨m0, hbel2, _⟩ := after1 hbel
  replace hb := bnext hb hb.size hbel2
  clear hbel hbel2
  have S := P_2_x0_x1
  go_wp2_with fail
  refine (with_sb _ (by decide) (unhide S) (unhide P_2_x2_19_x4) (unhide W_2_x2) (unhide W_19_x4)).mono ?_
  rintro e w5 ⟨rfl, hbel⟩
  replace m0 := keep m0 hbel
  replace hb := bnext hb hb.size hbel
  clear hbel
  replace S := hide ((unhide S).add (unhide P_2_x2_19_x4))
  go_wp2_with fail
  refine (with_last _ (by decide) (unhide S) (unhide P_x3_19_x3) (unhide W_x3) (unhide W_19_x3)).mono ?_
  rintro e w6 ⟨s1, hs1, rfl, hbel⟩
  replace m0 := keep m0 hbel
  replace hb := bnext hb hb.size hbel
  clear hbel
  have S1 := hide ((unhide S).add (unhide P_x3_19_x3))
  clear S
  rw [← hs1] at S1
  have HS1 := hide hs1
  clear hs1
  go_wp2_with fail
  refine (with0_sb _ (by decide) (unhide P_2_x0_x2) (unhide W_2_x0) (unhide W_x2)).mono ?_
  rintro e w7 ⟨rfl, hbel⟩
  obtain ⟨m1, hbel2, _⟩ := after1 hbel
  replace m0 := keep (keep m0 (new1 _ _ _).2.2) hbel
  replace hb := bnext hb hb.size hbel2
  clear hbel hbel2
  have S := P_2_x0_x2
  go_wp2_with fail
  refine (with_sb _ (by decide) (unhide S) (unhide P_x1_x1) (unhide W_x1) (unhide W_x1)).mono ?_
  rintro e w8 ⟨rfl, hbel⟩
  replace m0 := keep m0 hbel
  replace m1 := keep m1 hbel
  replace hb := bnext hb hb.size hbel
  clear hbel
  replace S := hide ((unhide S).add (unhide P_x1_x1))
  go_wp2_with fail
  refine (with_last _ (by decide) (unhide S) (unhide P_2_x3_19_x4) (unhide W_2_x3) (unhide W_19_x4)).mono ?_
  rintro e w9 ⟨s2, hs2, rfl, hbel⟩
  replace m0 := keep m0 hbel
  replace m1 := keep m1 hbel
  replace hb := bnext hb hb.size hbel
  clear hbel
  have S2 := hide ((unhide S).add (unhide P_2_x3_19_x4))
  clear S
  rw [← hs2] at S2
  have HS2 := hide hs2
  clear hs2
  go_wp2_with fail
  refine (with0_sb _ (by decide) (unhide P_2_x0_x3) (unhide W_2_x0) (unhide W_x3)).mono ?_
  rintro e w10 ⟨rfl, hbel⟩
  obtain ⟨m2, hbel2, _⟩ := after1 hbel
  replace m0 := keep (keep m0 (new1 _ _ _).2.2) hbel
  replace m1 := keep (keep m1 (new1 _ _ _).2.2) hbel
  replace hb := bnext hb hb.size hbel2
  clear hbel hbel2
  have S := P_2_x0_x3
  go_wp2_with fail
  refine (with_sb _ (by decide) (unhide S) (unhide P_2_x1_x2) (unhide W_2_x1) (unhide W_x2)).mono ?_
  rintro e w11 ⟨rfl, hbel⟩
  replace m0 := keep m0 hbel
  replace m1 := keep m1 hbel
  replace m2 := keep m2 hbel
  replace hb := bnext hb hb.size hbel
  clear hbel
  replace S := hide ((unhide S).add (unhide P_2_x1_x2))
  go_wp2_with fail
  refine (with_last _ (by decide) (unhide S) (unhide P_x4_19_x4) (unhide W_x4) (unhide W_19_x4)).mono ?_
  rintro e w12 ⟨s3, hs3, rfl, hbel⟩
  replace m0 := keep m0 hbel
  replace m1 := keep m1 hbel
  replace m2 := keep m2 hbel
  replace hb := bnext hb hb.size hbel
  clear hbel
  have S3 := hide ((unhide S).add (unhide P_x4_19_x4))
  clear S
  rw [← hs3] at S3
  have HS3 := hide hs3
  clear hs3
  go_wp2_with fail
  refine (with0_sb _ (by decide) (unhide P_2_x0_x4) (unhide W_2_x0) (unhide W_x4)).mono ?_
  rintro e w13 ⟨rfl, hbel⟩
  obtain ⟨m3, hbel2, _⟩ := after1 hbel
  replace m0 := keep (keep m0 (new1 _ _ _).2.2) hbel
  replace m1 := keep (keep m1 (new1 _ _ _).2.2) hbel
  replace m2 := keep (keep m2 (new1 _ _ _).2.2) hbel
  replace hb := bnext hb hb.size hbel2
  clear hbel hbel2
  have S := P_2_x0_x4
  go_wp2_with fail
  refine (with_sb _ (by decide) (unhide S) (unhide P_2_x1_x3) (unhide W_2_x1) (unhide W_x3)).mono ?_
  rintro e w14 ⟨rfl, hbel⟩
  replace m0 := keep m0 hbel
  replace m1 := keep m1 hbel
  replace m2 := keep m2 hbel
  replace m3 := keep m3 hbel
  replace hb := bnext hb hb.size hbel
  clear hbel
  replace S := hide ((unhide S).add (unhide P_2_x1_x3))
  go_wp2_with fail
  refine (with_last _ (by decide) (unhide S) (unhide P_x2_x2) (unhide W_x2) (unhide W_x2)).mono ?_
  rintro e w15 ⟨s4, hs4, rfl, hbel⟩
  replace m0 := keep m0 hbel
  replace m1 := keep m1 hbel
  replace m2 := keep m2 hbel
  replace m3 := keep m3 hbel
  replace hb := bnext hb hb.size hbel
  clear hbel
  have S4 := hide ((unhide S).add (unhide P_x2_x2))
  clear S
  rw [← hs4] at S4
  have HS4 := hide hs4
  clear hs4
  go_wp2_with fail
  obtain ⟨m4, hbel2, _⟩ := after1 (Below.refl _ _ : Below (w15.alloc (.cells #[.int .u64 (s4 / 18446744073709551616), .int .u64 (s4 % 18446744073709551616)] 50)).heap.size _ _)
  replace hb := bnext hb hb.size hbel2
  replace m0 := keep m0 hbel2
  replace m1 := keep m1 hbel2
  replace m2 := keep m2 hbel2
  replace m3 := keep m3 hbel2
  generalize (w15.alloc (.cells #[.int .u64 (s4 / 18446744073709551616), .int .u64 (s4 % 18446744073709551616)] 50)) = v at *
  obtain ⟨c0, d0⟩ := two_cells m0
  obtain ⟨c1, d1⟩ := two_cells m1
  obtain ⟨c2, d2⟩ := two_cells m2
  obtain ⟨c3, d3⟩ := two_cells m3
  obtain ⟨c4, d4⟩ := two_cells m4
  clear m0 m1 m2 m3 m4 hbel2
  generalize w3.heap.size = g0 at *
  generalize w6.heap.size = g1 at *
  generalize w9.heap.size = g2 at *
  generalize w12.heap.size = g3 at *
  generalize w15.heap.size = g4 at *
  clear W_x0 P_x0_x0 W_2_x1 W_19_x4 P_2_x1_19_x4 W_2_x2 W_19_x3 P_2_x2_19_x3 W_2_x0 W_x1 P_2_x0_x1 P_2_x2_19_x4 W_x3 P_x3_19_x3 W_x2 P_2_x0_x2 P_x1_x1 W_2_x3 P_2_x3_19_x4 P_2_x0_x3 P_2_x1_x2 W_x4 P_x4_19_x4 P_2_x0_x4 P_2_x1_x3 P_x2_x2
  generalize hh0 : s0 / 18446744073709551616 = h0 at c0 d0 ⊢
  generalize hl0 : s0 % 18446744073709551616 = l0 at c0 d0 ⊢
  have HH0 := hide hh0
  have HL0 := hide hl0
  clear hh0 hl0
  generalize hh1 : s1 / 18446744073709551616 = h1 at c1 d1 ⊢
  generalize hl1 : s1 % 18446744073709551616 = l1 at c1 d1 ⊢
  have HH1 := hide hh1
  have HL1 := hide hl1
  clear hh1 hl1
  generalize hh2 : s2 / 18446744073709551616 = h2 at c2 d2 ⊢
  generalize hl2 : s2 % 18446744073709551616 = l2 at c2 d2 ⊢
  have HH2 := hide hh2
  have HL2 := hide hl2
  clear hh2 hl2
  generalize hh3 : s3 / 18446744073709551616 = h3 at c3 d3 ⊢
  generalize hl3 : s3 % 18446744073709551616 = l3 at c3 d3 ⊢
  have HH3 := hide hh3
  have HL3 := hide hl3
  clear hh3 hl3
  generalize hh4 : s4 / 18446744073709551616 = h4 at c4 d4 ⊢
  generalize hl4 : s4 % 18446744073709551616 = l4 at c4 d4 ⊢
  have HH4 := hide hh4
  have HL4 := hide hl4
  clear hh4 hl4
  replace hb := hb.drew
  refine wp_region_held_drew (S := Cells5 g0 g1 g2 g3 g4 h0 l0 h1 l1 h2 l2 h3 l3 h4 l4) (by kernel_rfl) ⟨c0, d0, c1, d1, c2, d2, c3, d3, c4, d4⟩ (fun hHeld => ?_)
  clear c0 d0 c1 d1 c2 d2 c3 d3 c4 d4
  refine wpAnyH_take (i := 0) (oi := _) (v := .agg #[.int .u64 h0, .int .u64 l0]) rfl (by kernel_rfl) (by kernel_rfl) (by kernel_rfl) (fun _ _ _ h => h) (Or.inl ⟨by rfl, fun w hSw => by have c := hSw.1; have d := hSw.2.1; go_simp⟩) hHeld ?_
  simp [Act.put]
  refine wpAnyH_take (i := 2) (oi := _) (v := .agg #[.int .u64 h4, .int .u64 l4]) rfl (by kernel_rfl) (by kernel_rfl) (by kernel_rfl) (fun _ _ _ h => h) (Or.inl ⟨by rfl, fun w hSw => by have c := hSw.2.2.2.2.2.2.2.2.1; have d := hSw.2.2.2.2.2.2.2.2.2; go_simp⟩) hHeld ?_
  simp [Act.put]
  refine wpAnyH_take (i := 6) (oi := _) (v := .agg #[.int .u64 h1, .int .u64 l1]) rfl (by kernel_rfl) (by kernel_rfl) (by kernel_rfl) (fun _ _ _ h => h) (Or.inl ⟨by rfl, fun w hSw => by have c := hSw.2.2.1; have d := hSw.2.2.2.1; go_simp⟩) hHeld ?_
  simp [Act.put]
  refine wpAnyH_take (i := 8) (oi := _) (v := .agg #[.int .u64 h0, .int .u64 l0]) rfl (by kernel_rfl) (by kernel_rfl) (by kernel_rfl) (fun _ _ _ h => h) (Or.inl ⟨by rfl, fun w hSw => by have c := hSw.1; have d := hSw.2.1; go_simp⟩) hHeld ?_
  simp [Act.put]
  refine wpAnyH_take (i := 11) (oi := _) (v := .agg #[.int .u64 h2, .int .u64 l2]) rfl (by kernel_rfl) (by kernel_rfl) (by kernel_rfl) (fun _ _ _ h => h) (Or.inl ⟨by rfl, fun w hSw => by have c := hSw.2.2.2.2.1; have d := hSw.2.2.2.2.2.1; go_simp⟩) hHeld ?_
  simp [Act.put]
  refine wpAnyH_take (i := 13) (oi := _) (v := .agg #[.int .u64 h1, .int .u64 l1]) rfl (by kernel_rfl) (by kernel_rfl) (by kernel_rfl) (fun _ _ _ h => h) (Or.inl ⟨by rfl, fun w hSw => by have c := hSw.2.2.1; have d := hSw.2.2.2.1; go_simp⟩) hHeld ?_
  simp [Act.put]
  refine wpAnyH_take (i := 16) (oi := _) (v := .agg #[.int .u64 h3, .int .u64 l3]) rfl (by kernel_rfl) (by kernel_rfl) (by kernel_rfl) (fun _ _ _ h => h) (Or.inl ⟨by rfl, fun w hSw => by have c := hSw.2.2.2.2.2.2.1; have d := hSw.2.2.2.2.2.2.2.1; go_simp⟩) hHeld ?_
  simp [Act.put]
  refine wpAnyH_take (i := 18) (oi := _) (v := .agg #[.int .u64 h2, .int .u64 l2]) rfl (by kernel_rfl) (by kernel_rfl) (by kernel_rfl) (fun _ _ _ h => h) (Or.inl ⟨by rfl, fun w hSw => by have c := hSw.2.2.2.2.1; have d := hSw.2.2.2.2.2.1; go_simp⟩) hHeld ?_
  simp [Act.put]
  refine wpAnyH_take (i := 21) (oi := _) (v := .agg #[.int .u64 h4, .int .u64 l4]) rfl (by kernel_rfl) (by kernel_rfl) (by kernel_rfl) (fun _ _ _ h => h) (Or.inl ⟨by rfl, fun w hSw => by have c := hSw.2.2.2.2.2.2.2.2.1; have d := hSw.2.2.2.2.2.2.2.2.2; go_simp⟩) hHeld ?_
  simp [Act.put]
  refine wpAnyH_take (i := 23) (oi := _) (v := .agg #[.int .u64 h3, .int .u64 l3]) rfl (by kernel_rfl) (by kernel_rfl) (by kernel_rfl) (fun _ _ _ h => h) (Or.inl ⟨by rfl, fun w hSw => by have c := hSw.2.2.2.2.2.2.1; have d := hSw.2.2.2.2.2.2.2.1; go_simp⟩) hHeld ?_
  simp [Act.put]
  refine wpAnyH_ready (rs := [1]) (by kernel_rfl) (by simp) ?_
  refine AllReadyH.cons rfl (fun K hK => ?_) AllReadyH.nil
  go_simp
  refine (limb_var h0 l0 _).mono ?_
  rintro e v1 ⟨p0, hr, rfl, hbel⟩
  have Hp0 := hide hr
  replace hb := bnext hb hb.size hbel
  have hC := Cells5.below hHeld hbel
  refine hK.out _ _ hC (fun hHeld => ?_)
  clear hK K hbel hC hr
  refine wpAnyH_ready (rs := [3]) (by kernel_rfl) (by simp) ?_
  refine AllReadyH.cons rfl (fun K hK => ?_) AllReadyH.nil
  go_simp
  refine (over_var h4 l4 _).mono ?_
  rintro e v2 ⟨q4, hr, rfl, hbel⟩
  have Hq4 := hide hr
  replace hb := bnext hb hb.size hbel
  have hC := Cells5.below hHeld hbel
  refine hK.out _ _ hC (fun hHeld => ?_)
  clear hK K hbel hC hr
  refine wpAnyH_take (i := 4) (oi := _) (v := .int .u64 (IntKind.u64.wrap (19 * q4))) rfl (by kernel_rfl) (by kernel_rfl) (by kernel_rfl) (fun _ _ _ h => h) (Or.inl ⟨by rfl, fun w hSw => by go_simp⟩) hHeld ?_
  simp [Act.put]
  refine wpAnyH_take (i := 5) (oi := _) (v := .int .u64 (IntKind.u64.wrap (p0 + IntKind.u64.wrap (19 * q4)))) rfl (by kernel_rfl) (by kernel_rfl) (by kernel_rfl) (fun _ _ _ h => h) (Or.inl ⟨by rfl, fun w hSw => by go_simp⟩) hHeld ?_
  simp [Act.put]
  refine wpAnyH_ready (rs := [7]) (by kernel_rfl) (by simp) ?_
  refine AllReadyH.cons rfl (fun K hK => ?_) AllReadyH.nil
  go_simp
  refine (limb_var h1 l1 _).mono ?_
  rintro e v3 ⟨p1, hr, rfl, hbel⟩
  have Hp1 := hide hr
  replace hb := bnext hb hb.size hbel
  have hC := Cells5.below hHeld hbel
  refine hK.out _ _ hC (fun hHeld => ?_)
  clear hK K hbel hC hr
  refine wpAnyH_ready (rs := [9]) (by kernel_rfl) (by simp) ?_
  refine AllReadyH.cons rfl (fun K hK => ?_) AllReadyH.nil
  go_simp
  refine (over_var h0 l0 _).mono ?_
  rintro e v4 ⟨q0, hr, rfl, hbel⟩
  have Hq0 := hide hr
  replace hb := bnext hb hb.size hbel
  have hC := Cells5.below hHeld hbel
  refine hK.out _ _ hC (fun hHeld => ?_)
  clear hK K hbel hC hr
  refine wpAnyH_take (i := 10) (oi := _) (v := .int .u64 (IntKind.u64.wrap (p1 + q0))) rfl (by kernel_rfl) (by kernel_rfl) (by kernel_rfl) (fun _ _ _ h => h) (Or.inl ⟨by rfl, fun w hSw => by go_simp⟩) hHeld ?_
  simp [Act.put]
  refine wpAnyH_ready (rs := [12]) (by kernel_rfl) (by simp) ?_
  refine AllReadyH.cons rfl (fun K hK => ?_) AllReadyH.nil
  go_simp
  refine (limb_var h2 l2 _).mono ?_
  rintro e v5 ⟨p2, hr, rfl, hbel⟩
  have Hp2 := hide hr
  replace hb := bnext hb hb.size hbel
  have hC := Cells5.below hHeld hbel
  refine hK.out _ _ hC (fun hHeld => ?_)
  clear hK K hbel hC hr
  refine wpAnyH_ready (rs := [14]) (by kernel_rfl) (by simp) ?_
  refine AllReadyH.cons rfl (fun K hK => ?_) AllReadyH.nil
  go_simp
  refine (over_var h1 l1 _).mono ?_
  rintro e v6 ⟨q1, hr, rfl, hbel⟩
  have Hq1 := hide hr
  replace hb := bnext hb hb.size hbel
  have hC := Cells5.below hHeld hbel
  refine hK.out _ _ hC (fun hHeld => ?_)
  clear hK K hbel hC hr
  refine wpAnyH_take (i := 15) (oi := _) (v := .int .u64 (IntKind.u64.wrap (p2 + q1))) rfl (by kernel_rfl) (by kernel_rfl) (by kernel_rfl) (fun _ _ _ h => h) (Or.inl ⟨by rfl, fun w hSw => by go_simp⟩) hHeld ?_
  simp [Act.put]
  refine wpAnyH_ready (rs := [17]) (by kernel_rfl) (by simp) ?_
  refine AllReadyH.cons rfl (fun K hK => ?_) AllReadyH.nil
  go_simp
  refine (limb_var h3 l3 _).mono ?_
  rintro e v7 ⟨p3, hr, rfl, hbel⟩
  have Hp3 := hide hr
  replace hb := bnext hb hb.size hbel
  have hC := Cells5.below hHeld hbel
  refine hK.out _ _ hC (fun hHeld => ?_)
  clear hK K hbel hC hr
  refine wpAnyH_ready (rs := [19]) (by kernel_rfl) (by simp) ?_
  refine AllReadyH.cons rfl (fun K hK => ?_) AllReadyH.nil
  go_simp
  refine (over_var h2 l2 _).mono ?_
  rintro e v8 ⟨q2, hr, rfl, hbel⟩
  have Hq2 := hide hr
  replace hb := bnext hb hb.size hbel
  have hC := Cells5.below hHeld hbel
  refine hK.out _ _ hC (fun hHeld => ?_)
  clear hK K hbel hC hr
  refine wpAnyH_take (i := 20) (oi := _) (v := .int .u64 (IntKind.u64.wrap (p3 + q2))) rfl (by kernel_rfl) (by kernel_rfl) (by kernel_rfl) (fun _ _ _ h => h) (Or.inl ⟨by rfl, fun w hSw => by go_simp⟩) hHeld ?_
  simp [Act.put]
  refine wpAnyH_ready (rs := [22]) (by kernel_rfl) (by simp) ?_
  refine AllReadyH.cons rfl (fun K hK => ?_) AllReadyH.nil
  go_simp
  refine (limb_var h4 l4 _).mono ?_
  rintro e v9 ⟨p4, hr, rfl, hbel⟩
  have Hp4 := hide hr
  replace hb := bnext hb hb.size hbel
  have hC := Cells5.below hHeld hbel
  refine hK.out _ _ hC (fun hHeld => ?_)
  clear hK K hbel hC hr
  refine wpAnyH_ready (rs := [24]) (by kernel_rfl) (by simp) ?_
  refine AllReadyH.cons rfl (fun K hK => ?_) AllReadyH.nil
  go_simp
  refine (over_var h3 l3 _).mono ?_
  rintro e v10 ⟨q3, hr, rfl, hbel⟩
  have Hq3 := hide hr
  replace hb := bnext hb hb.size hbel
  have hC := Cells5.below hHeld hbel
  refine hK.out _ _ hC (fun hHeld => ?_)
  clear hK K hbel hC hr
  refine wpAnyH_take (i := 25) (oi := _) (v := .int .u64 (IntKind.u64.wrap (p4 + q3))) rfl (by kernel_rfl) (by kernel_rfl) (by kernel_rfl) (fun _ _ _ h => h) (Or.inl ⟨by rfl, fun w hSw => by go_simp⟩) hHeld ?_
  simp [Act.put]
  generalize ha0 : IntKind.u64.wrap (p0 + IntKind.u64.wrap (19 * q4)) = a0
  generalize ha1 : IntKind.u64.wrap (p1 + q0) = a1
  generalize ha2 : IntKind.u64.wrap (p2 + q1) = a2
  generalize ha3 : IntKind.u64.wrap (p3 + q2) = a3
  generalize ha4 : IntKind.u64.wrap (p4 + q3) = a4
  refine wpAnyH_ready (rs := [26]) (by kernel_rfl) (by simp) ?_
  refine AllReadyH.cons rfl (fun K hK => ?_) AllReadyH.nil
  go_simp
  refine (carry_var a0 a1 a2 a3 a4 _).mono ?_
  rintro e v99 ⟨b0, b1, b2, b3, b4, hbs, rfl, rfl⟩
  refine hK.out _ _ hHeld (fun hHeld => ?_)
  clear hK K
  refine wpAnyH_take (i := 27) (oi := _) (v := .int .u64 b0) rfl (by kernel_rfl) (by kernel_rfl) (by kernel_rfl) (fun _ _ _ h => h) (Or.inl ⟨by rfl, fun w hSw => by go_simp⟩) hHeld ?_
  simp [Act.put]
  refine wpAnyH_take (i := 28) (oi := _) (v := .int .u64 b1) rfl (by kernel_rfl) (by kernel_rfl) (by kernel_rfl) (fun _ _ _ h => h) (Or.inl ⟨by rfl, fun w hSw => by go_simp⟩) hHeld ?_
  simp [Act.put]
  refine wpAnyH_take (i := 29) (oi := _) (v := .int .u64 b2) rfl (by kernel_rfl) (by kernel_rfl) (by kernel_rfl) (fun _ _ _ h => h) (Or.inl ⟨by rfl, fun w hSw => by go_simp⟩) hHeld ?_
  simp [Act.put]
  refine wpAnyH_take (i := 30) (oi := _) (v := .int .u64 b3) rfl (by kernel_rfl) (by kernel_rfl) (by kernel_rfl) (fun _ _ _ h => h) (Or.inl ⟨by rfl, fun w hSw => by go_simp⟩) hHeld ?_
  simp [Act.put]
  refine wpAnyH_take (i := 31) (oi := _) (v := .int .u64 b4) rfl (by kernel_rfl) (by kernel_rfl) (by kernel_rfl) (fun _ _ _ h => h) (Or.inl ⟨by rfl, fun w hSw => by go_simp⟩) hHeld ?_
  simp [Act.put]
  refine wpAnyH_take (i := 32) (oi := _) (v := .int .u64 b0) rfl (by kernel_rfl) (by kernel_rfl) (by kernel_rfl) (fun _ _ _ h => h) (Or.inl ⟨by rfl, fun w hSw => by go_simp⟩) hHeld ?_
  simp [Act.put]
  refine wpAnyH_take (i := 33) (oi := _) (v := .int .u64 b1) rfl (by kernel_rfl) (by kernel_rfl) (by kernel_rfl) (fun _ _ _ h => h) (Or.inl ⟨by rfl, fun w hSw => by go_simp⟩) hHeld ?_
  simp [Act.put]
  refine wpAnyH_take (i := 34) (oi := _) (v := .int .u64 b2) rfl (by kernel_rfl) (by kernel_rfl) (by kernel_rfl) (fun _ _ _ h => h) (Or.inl ⟨by rfl, fun w hSw => by go_simp⟩) hHeld ?_
  simp [Act.put]
  refine wpAnyH_take (i := 35) (oi := _) (v := .int .u64 b3) rfl (by kernel_rfl) (by kernel_rfl) (by kernel_rfl) (fun _ _ _ h => h) (Or.inl ⟨by rfl, fun w hSw => by go_simp⟩) hHeld ?_
  simp [Act.put]
  refine wpAnyH_take (i := 36) (oi := _) (v := .int .u64 b4) rfl (by kernel_rfl) (by kernel_rfl) (by kernel_rfl) (fun _ _ _ h => h) (Or.inl ⟨by rfl, fun w hSw => by go_simp⟩) hHeld ?_
  simp [Act.put]
  refine wpAnyH_done (by kernel_rfl) ?_ _
  go_wp2
  refine bodyPost_ret (results_tmp5 rfl _ _ _) rfl ⟨_, _, _, _, _, rfl, ?_, hb⟩
  have e0 := lim_end (unhide HL0) (unhide Hp0)
  have e1 := lim_end (unhide HL1) (unhide Hp1)
  have e2 := lim_end (unhide HL2) (unhide Hp2)
  have e3 := lim_end (unhide HL3) (unhide Hp3)
  have e4 := lim_end (unhide HL4) (unhide Hp4)
  have k0 : Sm s0 := by have := unhide S0; unfold Sb at this; unfold Sm; omega
  have k1 : Sm s1 := by have := unhide S1; unfold Sb at this; unfold Sm; omega
  have k2 : Sm s2 := by have := unhide S2; unfold Sb at this; unfold Sm; omega
  have k3 : Sm s3 := by have := unhide S3; unfold Sb at this; unfold Sm; omega
  have k4 : 0 ≤ s4 ∧ s4 ≤ 405648192073033408478945025720320 := by have := unhide S4; unfold Sb at this; omega
  have k4s : Sm s4 := by unfold Sm; omega
  have f0 := ov_end k0 (unhide HH0) (unhide HL0) (unhide Hq0)
  have f1 := ov_end k1 (unhide HH1) (unhide HL1) (unhide Hq1)
  have f2 := ov_end k2 (unhide HH2) (unhide HL2) (unhide Hq2)
  have f3 := ov_end k3 (unhide HH3) (unhide HL3) (unhide Hq3)
  have f4 := ov_end k4s (unhide HH4) (unhide HL4) (unhide Hq4)
  refine sums_fin s0 s1 s2 s3 s4 p0 p1 p2 p3 p4 q0 q1 q2 q3 q4 a0 a1 a2 a3 a4 b0 b1 b2 b3 b4 _ k0 k1 k2 k3 k4 e0 e1 e2 e3 e4 f0 f1 f2 f3 f4 ha0 ha1 ha2 ha3 ha4 hbs ?_
  rw [unhide HS0, unhide HS1, unhide HS2, unhide HS3, unhide HS4]
  exact sq_val x0 x1 x2 x3 x4
end Go.Proofs.YtfjnpbiihndhhaaDoor
