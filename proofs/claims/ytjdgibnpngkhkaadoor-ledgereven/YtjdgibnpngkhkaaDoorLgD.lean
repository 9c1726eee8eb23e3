import Derived.Test.YtjdgibnpngkhkaaDoorLgB
import Derived.Deep.DeepCutAuto
import Derived.Deep.QuietTactic
import Derived.BigQuiet
set_option linter.unusedSimpArgs false
set_option linter.unusedVariables false
namespace Go.Proofs.YtjdgibnpngkhkaaDoor
open Go.RowKit

def bkC (x : Bk) : List Value := [.int .i64 x.a, .int .i64 x.b, .int .i64 x.c]
theorem Tryd.inK : (Tryd.prog.info? 27).map (fun i => (i.zero, i.size)) = some (some (aV (bkC ⟨0, 0, 0⟩)), 3) := by kernel_rfl
theorem sz_K (x : Bk) : (Tryd.prog.info? 27).map (·.size) = some (bkC x).length := by show _ = some 3; kernel_rfl
theorem one_K (x : Bk) : ∀ v ∈ bkC x, v.oneCell' = true := by intro v hv; simp [bkC] at hv; rcases hv with rfl | rfl | rfl <;> rfl
theorem pt_K (x y : Bk) : Pt (bkC x) 0 (bkC y) (bkC y) := Pt.self rfl
theorem at_Ka (x : Bk) : At (bkC x) 0 [.int .i64 x.a] := ⟨[], [.int .i64 x.b, .int .i64 x.c], rfl, rfl⟩
theorem pt_Ka (x : Bk) (z : Int) : Pt (bkC x) 0 [.int .i64 z] (bkC { x with a := z }) := ⟨[], [.int .i64 x.a], [.int .i64 x.b, .int .i64 x.c], rfl, rfl, rfl, rfl⟩
theorem at_Kb (x : Bk) : At (bkC x) 1 [.int .i64 x.b] := ⟨[.int .i64 x.a], [.int .i64 x.c], rfl, rfl⟩
theorem pt_Kb (x : Bk) (z : Int) : Pt (bkC x) 1 [.int .i64 z] (bkC { x with b := z }) := ⟨[.int .i64 x.a], [.int .i64 x.b], [.int .i64 x.c], rfl, rfl, rfl, rfl⟩
theorem at_Kc (x : Bk) : At (bkC x) 2 [.int .i64 x.c] := ⟨[.int .i64 x.a, .int .i64 x.b], [], rfl, rfl⟩
theorem pt_Kc (x : Bk) (z : Int) : Pt (bkC x) 2 [.int .i64 z] (bkC { x with c := z }) := ⟨[.int .i64 x.a, .int .i64 x.b], [.int .i64 x.c], [], rfl, rfl, rfl, rfl⟩
structure Op22 where (k d c m r b p : Int)
def opC (x : Op22) : List Value := [.int .i64 x.k, .int .i64 x.d, .int .i64 x.c, .int .i64 x.m, .int .i64 x.r, .int .i64 x.b, .int .i64 x.p]
theorem Tryd.inO : (Tryd.prog.info? 23).map (fun i => (i.zero, i.size)) = some (some (aV (opC ⟨0, 0, 0, 0, 0, 0, 0⟩)), 7) := by kernel_rfl
theorem sz_O (x : Op22) : (Tryd.prog.info? 23).map (·.size) = some (opC x).length := by show _ = some 7; kernel_rfl
theorem one_O (x : Op22) : ∀ v ∈ opC x, v.oneCell' = true := by intro v hv; simp [opC] at hv; rcases hv with rfl | rfl | rfl | rfl | rfl | rfl | rfl <;> rfl
theorem pt_O (x y : Op22) : Pt (opC x) 0 (opC y) (opC y) := Pt.self rfl
theorem at_Ok (x : Op22) : At (opC x) 0 [.int .i64 x.k] := ⟨[], [.int .i64 x.d, .int .i64 x.c, .int .i64 x.m, .int .i64 x.r, .int .i64 x.b, .int .i64 x.p], rfl, rfl⟩
theorem pt_Ok (x : Op22) (z : Int) : Pt (opC x) 0 [.int .i64 z] (opC { x with k := z }) := ⟨[], [.int .i64 x.k], [.int .i64 x.d, .int .i64 x.c, .int .i64 x.m, .int .i64 x.r, .int .i64 x.b, .int .i64 x.p], rfl, rfl, rfl, rfl⟩
theorem at_Od (x : Op22) : At (opC x) 1 [.int .i64 x.d] := ⟨[.int .i64 x.k], [.int .i64 x.c, .int .i64 x.m, .int .i64 x.r, .int .i64 x.b, .int .i64 x.p], rfl, rfl⟩
theorem pt_Od (x : Op22) (z : Int) : Pt (opC x) 1 [.int .i64 z] (opC { x with d := z }) := ⟨[.int .i64 x.k], [.int .i64 x.d], [.int .i64 x.c, .int .i64 x.m, .int .i64 x.r, .int .i64 x.b, .int .i64 x.p], rfl, rfl, rfl, rfl⟩
theorem at_Oc (x : Op22) : At (opC x) 2 [.int .i64 x.c] := ⟨[.int .i64 x.k, .int .i64 x.d], [.int .i64 x.m, .int .i64 x.r, .int .i64 x.b, .int .i64 x.p], rfl, rfl⟩
theorem pt_Oc (x : Op22) (z : Int) : Pt (opC x) 2 [.int .i64 z] (opC { x with c := z }) := ⟨[.int .i64 x.k, .int .i64 x.d], [.int .i64 x.c], [.int .i64 x.m, .int .i64 x.r, .int .i64 x.b, .int .i64 x.p], rfl, rfl, rfl, rfl⟩
theorem at_Om (x : Op22) : At (opC x) 3 [.int .i64 x.m] := ⟨[.int .i64 x.k, .int .i64 x.d, .int .i64 x.c], [.int .i64 x.r, .int .i64 x.b, .int .i64 x.p], rfl, rfl⟩
theorem pt_Om (x : Op22) (z : Int) : Pt (opC x) 3 [.int .i64 z] (opC { x with m := z }) := ⟨[.int .i64 x.k, .int .i64 x.d, .int .i64 x.c], [.int .i64 x.m], [.int .i64 x.r, .int .i64 x.b, .int .i64 x.p], rfl, rfl, rfl, rfl⟩
theorem at_Or (x : Op22) : At (opC x) 4 [.int .i64 x.r] := ⟨[.int .i64 x.k, .int .i64 x.d, .int .i64 x.c, .int .i64 x.m], [.int .i64 x.b, .int .i64 x.p], rfl, rfl⟩
theorem pt_Or (x : Op22) (z : Int) : Pt (opC x) 4 [.int .i64 z] (opC { x with r := z }) := ⟨[.int .i64 x.k, .int .i64 x.d, .int .i64 x.c, .int .i64 x.m], [.int .i64 x.r], [.int .i64 x.b, .int .i64 x.p], rfl, rfl, rfl, rfl⟩
theorem at_Ob (x : Op22) : At (opC x) 5 [.int .i64 x.b] := ⟨[.int .i64 x.k, .int .i64 x.d, .int .i64 x.c, .int .i64 x.m, .int .i64 x.r], [.int .i64 x.p], rfl, rfl⟩
theorem pt_Ob (x : Op22) (z : Int) : Pt (opC x) 5 [.int .i64 z] (opC { x with b := z }) := ⟨[.int .i64 x.k, .int .i64 x.d, .int .i64 x.c, .int .i64 x.m, .int .i64 x.r], [.int .i64 x.b], [.int .i64 x.p], rfl, rfl, rfl, rfl⟩
theorem at_Op (x : Op22) : At (opC x) 6 [.int .i64 x.p] := ⟨[.int .i64 x.k, .int .i64 x.d, .int .i64 x.c, .int .i64 x.m, .int .i64 x.r, .int .i64 x.b], [], rfl, rfl⟩
theorem pt_Op (x : Op22) (z : Int) : Pt (opC x) 6 [.int .i64 z] (opC { x with p := z }) := ⟨[.int .i64 x.k, .int .i64 x.d, .int .i64 x.c, .int .i64 x.m, .int .i64 x.r, .int .i64 x.b], [.int .i64 x.p], [], rfl, rfl, rfl, rfl⟩
structure Sal where (r p b e q : Int)
def saC (x : Sal) : List Value := [.int .i64 x.r, .int .i64 x.p, .int .i64 x.b, .int .i64 x.e, .int .i64 x.q]
theorem Tryd.inV : (Tryd.prog.info? 34).map (fun i => (i.zero, i.size)) = some (some (aV (saC ⟨0, 0, 0, 0, 0⟩)), 5) := by kernel_rfl
theorem sz_V (x : Sal) : (Tryd.prog.info? 34).map (·.size) = some (saC x).length := by show _ = some 5; kernel_rfl
theorem one_V (x : Sal) : ∀ v ∈ saC x, v.oneCell' = true := by intro v hv; simp [saC] at hv; rcases hv with rfl | rfl | rfl | rfl | rfl <;> rfl
theorem pt_V (x y : Sal) : Pt (saC x) 0 (saC y) (saC y) := Pt.self rfl
theorem at_Vr (x : Sal) : At (saC x) 0 [.int .i64 x.r] := ⟨[], [.int .i64 x.p, .int .i64 x.b, .int .i64 x.e, .int .i64 x.q], rfl, rfl⟩
theorem pt_Vr (x : Sal) (z : Int) : Pt (saC x) 0 [.int .i64 z] (saC { x with r := z }) := ⟨[], [.int .i64 x.r], [.int .i64 x.p, .int .i64 x.b, .int .i64 x.e, .int .i64 x.q], rfl, rfl, rfl, rfl⟩
theorem at_Vp (x : Sal) : At (saC x) 1 [.int .i64 x.p] := ⟨[.int .i64 x.r], [.int .i64 x.b, .int .i64 x.e, .int .i64 x.q], rfl, rfl⟩
theorem pt_Vp (x : Sal) (z : Int) : Pt (saC x) 1 [.int .i64 z] (saC { x with p := z }) := ⟨[.int .i64 x.r], [.int .i64 x.p], [.int .i64 x.b, .int .i64 x.e, .int .i64 x.q], rfl, rfl, rfl, rfl⟩
theorem at_Vb (x : Sal) : At (saC x) 2 [.int .i64 x.b] := ⟨[.int .i64 x.r, .int .i64 x.p], [.int .i64 x.e, .int .i64 x.q], rfl, rfl⟩
theorem pt_Vb (x : Sal) (z : Int) : Pt (saC x) 2 [.int .i64 z] (saC { x with b := z }) := ⟨[.int .i64 x.r, .int .i64 x.p], [.int .i64 x.b], [.int .i64 x.e, .int .i64 x.q], rfl, rfl, rfl, rfl⟩
theorem at_Ve (x : Sal) : At (saC x) 3 [.int .i64 x.e] := ⟨[.int .i64 x.r, .int .i64 x.p, .int .i64 x.b], [.int .i64 x.q], rfl, rfl⟩
theorem pt_Ve (x : Sal) (z : Int) : Pt (saC x) 3 [.int .i64 z] (saC { x with e := z }) := ⟨[.int .i64 x.r, .int .i64 x.p, .int .i64 x.b], [.int .i64 x.e], [.int .i64 x.q], rfl, rfl, rfl, rfl⟩
theorem at_Vq (x : Sal) : At (saC x) 4 [.int .i64 x.q] := ⟨[.int .i64 x.r, .int .i64 x.p, .int .i64 x.b, .int .i64 x.e], [], rfl, rfl⟩
theorem pt_Vq (x : Sal) (z : Int) : Pt (saC x) 4 [.int .i64 z] (saC { x with q := z }) := ⟨[.int .i64 x.r, .int .i64 x.p, .int .i64 x.b, .int .i64 x.e], [.int .i64 x.q], [], rfl, rfl, rfl, rfl⟩
theorem one_one {v : Value} (h : v.oneCell' = true) : ∀ u ∈ [v], u.oneCell' = true := by intro u hu; simp at hu; subst hu; exact h
theorem Tryd.in1 : (Tryd.prog.info? 3).map (·.size) = some 1 := by kernel_rfl
theorem Tryd.in1l : (Tryd.prog.info? 2).map (·.size) = some 1 := by kernel_rfl
theorem Tryd.in1b : (Tryd.prog.info? 4).map (·.size) = some 1 := by kernel_rfl
theorem Tryd.in1e : (Tryd.prog.info? 32).map (·.size) = some 1 := by kernel_rfl
theorem b_k0 : Tryd.prog.built 27 [] = some (bkC ⟨0, 0, 0⟩).toArray := by kernel_rfl
theorem agg_bk (x : Bk) : Value.agg (bkA x) = aV (bkC x) := rfl

/-! Sell, Retire, Refund. -/
def sellZ (x : Bk) (r p : Int) : Bk × Int := if carB r p then postZ x 0 1 (r * p) else (x, 2)
def retZ (x : Bk) (r p : Int) : Bk × Int := if carB r p then postZ x 1 2 (r * p) else (x, 2)
def bakB (r b p : Int) : Bool := carB r p && decide (0 ≤ b ∧ b ≤ r)
def refZ (x : Bk) (r b p : Int) : Bk × Int := if bakB r b p then (if (postZ x 1 2 ((r - b) * p)).2 = 0 then (if (postZ (postZ x 1 2 ((r - b) * p)).1 1 0 (b * p)).2 = 0 then ((postZ (postZ x 1 2 ((r - b) * p)).1 1 0 (b * p)).1, 0) else (x, (postZ (postZ x 1 2 ((r - b) * p)).1 1 0 (b * p)).2)) else (x, (postZ x 1 2 ((r - b) * p)).2)) else (x, 2)
theorem mul_iz {r p : Int} (h1 : 0 ≤ r) (h2 : r ≤ 4096) (h3 : 0 ≤ p) (h4 : p ≤ 1000000000) : 0 ≤ r * p ∧ r * p ≤ 4096000000000 := by
  have e1 := Int.mul_nonneg h1 h3
  have e2 : r * p ≤ 4096 * 1000000000 := Int.mul_le_mul h2 h4 h3 (by omega)
  omega
theorem mul_Iz {r p : Int} (h1 : 0 ≤ r) (h2 : r ≤ 4096) (h3 : 0 ≤ p) (h4 : p ≤ 1000000000) : Iz (r * p) := by
  have := mul_iz h1 h2 h3 h4
  unfold Iz; omega
theorem carB_t {r p : Int} (h : carB r p = true) : 1 ≤ r ∧ r ≤ 4096 ∧ 0 ≤ p ∧ p ≤ 1000000000 := of_decide_eq_true h
theorem bakB_t {r b p : Int} (h : bakB r b p = true) : carB r p = true ∧ 0 ≤ b ∧ b ≤ r := by
  unfold bakB at h
  cases h1 : carB r p
  · rw [h1] at h; simp at h
  · rw [h1] at h; simp at h; exact ⟨rfl, h⟩
theorem postZ_ok {x : Bk} {d c m : Int} (hx : x.Ok) : (postZ x d c m).1.Ok := by
  unfold postZ
  split
  · exact hx
  · split
    · exact hx
    · split
      · exact hx
      · rename_i h1 h2 _
        have h2 : rngB x d c m = false := by simpa using h2
        unfold rngB at h2
        have f1 : fitB (x.get d + m) = true := by cases h : fitB (x.get d + m) <;> rw [h] at h2 <;> simp at h2 ⊢
        have f2 : fitB (x.get c - m) = true := by cases h : fitB (x.get c - m) <;> rw [h] at h2 <;> simp at h2 ⊢
        have i1 := fitB_iz f1
        have i2 := fitB_iz f2
        generalize x.get d + m = u at i1
        generalize x.get c - m = v at i2
        have st : ∀ (y : Bk) (k z : Int), y.Ok → Iz z → (y.set k z).Ok := by
          intro y k z hy hz
          unfold Bk.set
          split
          · exact ⟨hz, hy.2.1, hy.2.2⟩
          · split
            · exact ⟨hy.1, hz, hy.2.2⟩
            · exact ⟨hy.1, hy.2.1, hz⟩
        exact st _ _ _ (st _ _ _ hx i1) i2
theorem sellZ_ok {x : Bk} {r p : Int} (hx : x.Ok) : (sellZ x r p).1.Ok := by unfold sellZ; split; exact postZ_ok hx; exact hx
theorem retZ_ok {x : Bk} {r p : Int} (hx : x.Ok) : (retZ x r p).1.Ok := by unfold retZ; split; exact postZ_ok hx; exact hx
theorem refZ_ok {x : Bk} {r b p : Int} (hx : x.Ok) : (refZ x r b p).1.Ok := by
  unfold refZ
  split
  · split
    · split
      · exact postZ_ok (postZ_ok hx)
      · exact hx
    · exact hx
  · exact hx
theorem Dl.old {w w' : World} (h : Dl w) (ho : Old w w') : Dl w' :=
  ⟨(World.cell?_of_block (w := w) (w' := w') (a := ⟨0, 0, none⟩) (ho.block _ (cell_lt h.1))).trans h.1, (World.cell?_of_block (w := w) (w' := w') (a := ⟨0, 1, none⟩) (ho.block _ (cell_lt h.2.1))).trans h.2.1, (World.cell?_of_block (w := w) (w' := w') (a := ⟨0, 2, none⟩) (ho.block _ (cell_lt h.2.2))).trans h.2.2⟩
set_option maxHeartbeats 4000000 in
set_option maxRecDepth 100000 in
theorem sell_any (x : Bk) (r p : Int) (w : World) (hx : x.Ok) (hL : Dl w) :
    Calls Tryd.prog 9 #[aV (bkC x), .int .i64 r, .int .i64 p] w fun e w' => e = .returned (.tuple #[aV (bkC (sellZ x r p).1), .int .i64 (sellZ x r p).2]) ∧ Below w.heap.size w w' := by
  have hS := Hs17.begin w Dl (fun w' ho => hL.old ho)
  clear hL
  have hC := fun v => isCarnet_any r p v
  unfold sellZ
  cases hc : carB r p
  · rw [if_neg (by simp)]
    rw [hc] at hC
    go_enter Tryd.func9, Tryd.ntmps9
    go_upto_region 0 with fail
    refine wp_region_lit ?_
    refine wl_box (by kernel_rfl) 27 (.tmp 0) rfl (bkC x) rfl hS ?_
    clear hS
    intro g1 w1 hS
    simp [Act.put]
    refine wl_alloc (by kernel_rfl) 27 rfl (bkC (⟨0, 0, 0⟩ : Bk)) Tryd.inK hS ?_
    clear hS
    intro g2 w2 hS
    simp [Act.put]
    refine wl (by kernel_rfl) fun kQ hkQ => ?_
    go_simp
    refine hkQ _ _ ?_
    clear hkQ kQ
    refine wpList_nil ?_
    go_upto_region 2 with (go_at_call 20; refine (hC _).mono ?_; rintro e1 w9 ⟨rfl, hw1⟩; obtain rfl := hw1.symm; clear hw1)
    refine wp_region_lit ?_
    refine wl_load (by kernel_rfl) 27 (.tmp 3) rfl 1 rfl 0 rfl (bkC x) (At.self _) Tryd.underlying27 rfl (sz_K _) hS ?_
    simp [Act.put]
    refine wl_store (by kernel_rfl) 27 (.tmp 6) (.tmp 12) rfl 0 rfl 0 rfl (bkC x) (bkC x) (pt_K (⟨0, 0, 0⟩ : Bk) x) rfl (sz_K _) (one_K _) hS ?_
    clear hS
    intro w3 hS
    change Hs17 w [(g2, 27, (bkC x)), (g1, 27, (bkC x))] Dl w3 at hS
    simp [Act.put]
    refine wl (by kernel_rfl) fun kQ hkQ => ?_
    go_simp
    refine hkQ _ _ ?_
    clear hkQ kQ
    refine wpList_nil ?_
    go_wp2_with fail
    refine bodyPost_ret (res_ct rfl hS 0 rfl rfl Tryd.underlying27 rfl (sz_K _) _ rfl) rfl ?_
    exact ⟨rfl, hS.bel⟩
  · rw [if_pos rfl]
    rw [hc] at hC
    obtain ⟨c1, c2, c3, c4⟩ := carB_t hc
    have hm : Iz (r * p) := mul_Iz (by omega) c2 c3 c4
    have hmul : IntKind.i64.wrap (r * p) = r * p := wi_of hm
    obtain ⟨⟨yb, ye⟩, hyb⟩ : ∃ y : Bk × Int, postZ x 0 1 (r * p) = y := ⟨_, rfl⟩
    have hP : ∀ v, Dl v → Calls Tryd.prog 18 #[aV (bkC x), .int .i64 0, .int .i64 1, .int .i64 (r * p)] v fun e w' => e = .returned (.tuple #[aV (bkC yb), .int .i64 ye]) ∧ Below v.heap.size v w' := fun v hv => by
      have h := post_any x 0 1 (r * p) v hx hm hv
      rw [hyb] at h
      exact h
    rw [hyb]
    clear hyb hm hx c1 c2 c3 c4 hc
    go_enter Tryd.func9, Tryd.ntmps9
    go_upto_region 0 with fail
    refine wp_region_lit ?_
    refine wl_box (by kernel_rfl) 27 (.tmp 0) rfl (bkC x) rfl hS ?_
    clear hS
    intro g1 w1 hS
    simp [Act.put]
    refine wl_alloc (by kernel_rfl) 27 rfl (bkC (⟨0, 0, 0⟩ : Bk)) Tryd.inK hS ?_
    clear hS
    intro g2 w2 hS
    simp [Act.put]
    refine wl (by kernel_rfl) fun kQ hkQ => ?_
    go_simp
    refine hkQ _ _ ?_
    clear hkQ kQ
    refine wpList_nil ?_
    go_upto_region 3 with (go_at_call 20; refine (hC _).mono ?_; rintro e1 w9 ⟨rfl, hw1⟩; obtain rfl := hw1.symm; clear hw1)
    clear hC
    refine wp_region_lit ?_
    refine wl_load (by kernel_rfl) 27 (.tmp 3) rfl 1 rfl 0 rfl (bkC x) (At.self _) Tryd.underlying27 rfl (sz_K _) hS ?_
    simp [Act.put]
    refine wl (by kernel_rfl) fun kQ hkQ => ?_
    go_simp
    refine hkQ _ _ ?_
    clear hkQ kQ
    refine wl (by kernel_rfl) fun kQ hkQ => ?_
    go_simp
    refine hkQ _ _ ?_
    clear hkQ kQ
    refine wl (by kernel_rfl) fun kQ hkQ => ?_
    go_simp
    refine hkQ _ _ ?_
    clear hkQ kQ
    refine wl (by kernel_rfl) fun kQ hkQ => ?_
    go_simp
    refine (hP _ hS.K).mono ?_
    rintro e w3 ⟨rfl, hb1⟩
    replace hS := hS.later hb1
    refine hkQ _ _ ?_
    clear hkQ kQ hb1
    refine wl (by kernel_rfl) fun kQ hkQ => ?_
    go_simp
    refine hkQ _ _ ?_
    clear hkQ kQ
    refine wl (by kernel_rfl) fun kQ hkQ => ?_
    go_simp
    refine hkQ _ _ ?_
    clear hkQ kQ
    refine wl_store (by kernel_rfl) 27 (.tmp 6) (.tmp 18) rfl 0 rfl 0 rfl (bkC yb) (bkC yb) (pt_K (⟨0, 0, 0⟩ : Bk) yb) rfl (sz_K _) (one_K _) hS ?_
    clear hS
    intro w4 hS
    change Hs17 w [(g2, 27, (bkC yb)), (g1, 27, (bkC x))] Dl w4 at hS
    simp [Act.put]
    refine wl (by kernel_rfl) fun kQ hkQ => ?_
    go_simp
    refine hkQ _ _ ?_
    clear hkQ kQ
    refine wpList_nil ?_
    go_wp2_with fail
    refine bodyPost_ret (res_ct rfl hS 0 rfl rfl Tryd.underlying27 rfl (sz_K _) _ rfl) rfl ?_
    exact ⟨rfl, hS.bel⟩
set_option maxHeartbeats 4000000 in
set_option maxRecDepth 100000 in
theorem ret_any (x : Bk) (r p : Int) (w : World) (hx : x.Ok) (hL : Dl w) :
    Calls Tryd.prog 12 #[aV (bkC x), .int .i64 r, .int .i64 p] w fun e w' => e = .returned (.tuple #[aV (bkC (retZ x r p).1), .int .i64 (retZ x r p).2]) ∧ Below w.heap.size w w' := by
  have hS := Hs17.begin w Dl (fun w' ho => hL.old ho)
  clear hL
  have hC := fun v => isCarnet_any r p v
  unfold retZ
  cases hc : carB r p
  · rw [if_neg (by simp)]
    rw [hc] at hC
    go_enter Tryd.func12, Tryd.ntmps12
    go_upto_region 0 with fail
    refine wp_region_lit ?_
    refine wl_box (by kernel_rfl) 27 (.tmp 0) rfl (bkC x) rfl hS ?_
    clear hS
    intro g1 w1 hS
    simp [Act.put]
    refine wl_alloc (by kernel_rfl) 27 rfl (bkC (⟨0, 0, 0⟩ : Bk)) Tryd.inK hS ?_
    clear hS
    intro g2 w2 hS
    simp [Act.put]
    refine wl (by kernel_rfl) fun kQ hkQ => ?_
    go_simp
    refine hkQ _ _ ?_
    clear hkQ kQ
    refine wpList_nil ?_
    go_upto_region 2 with (go_at_call 20; refine (hC _).mono ?_; rintro e1 w9 ⟨rfl, hw1⟩; obtain rfl := hw1.symm; clear hw1)
    refine wp_region_lit ?_
    refine wl_load (by kernel_rfl) 27 (.tmp 3) rfl 1 rfl 0 rfl (bkC x) (At.self _) Tryd.underlying27 rfl (sz_K _) hS ?_
    simp [Act.put]
    refine wl_store (by kernel_rfl) 27 (.tmp 6) (.tmp 12) rfl 0 rfl 0 rfl (bkC x) (bkC x) (pt_K (⟨0, 0, 0⟩ : Bk) x) rfl (sz_K _) (one_K _) hS ?_
    clear hS
    intro w3 hS
    change Hs17 w [(g2, 27, (bkC x)), (g1, 27, (bkC x))] Dl w3 at hS
    simp [Act.put]
    refine wl (by kernel_rfl) fun kQ hkQ => ?_
    go_simp
    refine hkQ _ _ ?_
    clear hkQ kQ
    refine wpList_nil ?_
    go_wp2_with fail
    refine bodyPost_ret (res_ct rfl hS 0 rfl rfl Tryd.underlying27 rfl (sz_K _) _ rfl) rfl ?_
    exact ⟨rfl, hS.bel⟩
  · rw [if_pos rfl]
    rw [hc] at hC
    obtain ⟨c1, c2, c3, c4⟩ := carB_t hc
    have hm : Iz (r * p) := mul_Iz (by omega) c2 c3 c4
    have hmul : IntKind.i64.wrap (r * p) = r * p := wi_of hm
    obtain ⟨⟨yb, ye⟩, hyb⟩ : ∃ y : Bk × Int, postZ x 1 2 (r * p) = y := ⟨_, rfl⟩
    have hP : ∀ v, Dl v → Calls Tryd.prog 18 #[aV (bkC x), .int .i64 1, .int .i64 2, .int .i64 (r * p)] v fun e w' => e = .returned (.tuple #[aV (bkC yb), .int .i64 ye]) ∧ Below v.heap.size v w' := fun v hv => by
      have h := post_any x 1 2 (r * p) v hx hm hv
      rw [hyb] at h
      exact h
    rw [hyb]
    clear hyb hm hx c1 c2 c3 c4 hc
    go_enter Tryd.func12, Tryd.ntmps12
    go_upto_region 0 with fail
    refine wp_region_lit ?_
    refine wl_box (by kernel_rfl) 27 (.tmp 0) rfl (bkC x) rfl hS ?_
    clear hS
    intro g1 w1 hS
    simp [Act.put]
    refine wl_alloc (by kernel_rfl) 27 rfl (bkC (⟨0, 0, 0⟩ : Bk)) Tryd.inK hS ?_
    clear hS
    intro g2 w2 hS
    simp [Act.put]
    refine wl (by kernel_rfl) fun kQ hkQ => ?_
    go_simp
    refine hkQ _ _ ?_
    clear hkQ kQ
    refine wpList_nil ?_
    go_upto_region 3 with (go_at_call 20; refine (hC _).mono ?_; rintro e1 w9 ⟨rfl, hw1⟩; obtain rfl := hw1.symm; clear hw1)
    clear hC
    refine wp_region_lit ?_
    refine wl_load (by kernel_rfl) 27 (.tmp 3) rfl 1 rfl 0 rfl (bkC x) (At.self _) Tryd.underlying27 rfl (sz_K _) hS ?_
    simp [Act.put]
    refine wl (by kernel_rfl) fun kQ hkQ => ?_
    go_simp
    refine hkQ _ _ ?_
    clear hkQ kQ
    refine wl (by kernel_rfl) fun kQ hkQ => ?_
    go_simp
    refine hkQ _ _ ?_
    clear hkQ kQ
    refine wl (by kernel_rfl) fun kQ hkQ => ?_
    go_simp
    refine hkQ _ _ ?_
    clear hkQ kQ
    refine wl (by kernel_rfl) fun kQ hkQ => ?_
    go_simp
    refine (hP _ hS.K).mono ?_
    rintro e w3 ⟨rfl, hb1⟩
    replace hS := hS.later hb1
    refine hkQ _ _ ?_
    clear hkQ kQ hb1
    refine wl (by kernel_rfl) fun kQ hkQ => ?_
    go_simp
    refine hkQ _ _ ?_
    clear hkQ kQ
    refine wl (by kernel_rfl) fun kQ hkQ => ?_
    go_simp
    refine hkQ _ _ ?_
    clear hkQ kQ
    refine wl_store (by kernel_rfl) 27 (.tmp 6) (.tmp 18) rfl 0 rfl 0 rfl (bkC yb) (bkC yb) (pt_K (⟨0, 0, 0⟩ : Bk) yb) rfl (sz_K _) (one_K _) hS ?_
    clear hS
    intro w4 hS
    change Hs17 w [(g2, 27, (bkC yb)), (g1, 27, (bkC x))] Dl w4 at hS
    simp [Act.put]
    refine wl (by kernel_rfl) fun kQ hkQ => ?_
    go_simp
    refine hkQ _ _ ?_
    clear hkQ kQ
    refine wpList_nil ?_
    go_wp2_with fail
    refine bodyPost_ret (res_ct rfl hS 0 rfl rfl Tryd.underlying27 rfl (sz_K _) _ rfl) rfl ?_
    exact ⟨rfl, hS.bel⟩
set_option maxHeartbeats 4000000 in
set_option maxRecDepth 100000 in
theorem refund_any (x : Bk) (r b p : Int) (w : World) (hx : x.Ok) (hL : Dl w) :
    Calls Tryd.prog 11 #[aV (bkC x), .int .i64 r, .int .i64 b, .int .i64 p] w fun e w' => e = .returned (.tuple #[aV (bkC (refZ x r b p).1), .int .i64 (refZ x r b p).2]) ∧ Below w.heap.size w w' := by
  have hS := Hs17.begin w Dl (fun w' ho => hL.old ho)
  clear hL
  have hC := fun v => isCarnet_any r p v
  unfold refZ
  cases hq : bakB r b p
  · rw [if_neg (by simp)]
    unfold bakB at hq
    clear hx
    cases hc : carB r p
    · rw [hc] at hC
      clear hq hc
      go_enter Tryd.func11, Tryd.ntmps11
      go_upto_region 0 with fail
      refine wp_region_lit ?_
      refine wl_box (by kernel_rfl) 27 (.tmp 0) rfl (bkC x) rfl hS ?_
      clear hS
      intro g1 w1 hS
      simp [Act.put]
      refine wl_alloc (by kernel_rfl) 27 rfl (bkC (⟨0, 0, 0⟩ : Bk)) Tryd.inK hS ?_
      clear hS
      intro g2 w2 hS
      simp [Act.put]
      refine wl (by kernel_rfl) fun kQ hkQ => ?_
      go_simp
      refine hkQ _ _ ?_
      clear hkQ kQ
      refine wpList_nil ?_
      go_upto_region 2 with (go_at_call 20; refine (hC _).mono ?_; rintro e1 w9 ⟨rfl, hw1⟩; obtain rfl := hw1.symm; clear hw1)
      clear hC
      refine wp_region_lit ?_
      refine wl_load (by kernel_rfl) 27 (.tmp 4) rfl 1 rfl 0 rfl (bkC x) (At.self _) Tryd.underlying27 rfl (sz_K _) hS ?_
      simp [Act.put]
      refine wl_store (by kernel_rfl) 27 (.tmp 8) (.tmp 26) rfl 0 rfl 0 rfl (bkC x) (bkC x) (pt_K (⟨0, 0, 0⟩ : Bk) x) rfl (sz_K _) (one_K _) hS ?_
      clear hS
      intro w3 hS
      change Hs17 w [(g2, 27, (bkC x)), (g1, 27, (bkC x))] Dl w3 at hS
      simp [Act.put]
      refine wl (by kernel_rfl) fun kQ hkQ => ?_
      go_simp
      refine hkQ _ _ ?_
      clear hkQ kQ
      refine wpList_nil ?_
      go_wp2_with fail
      refine bodyPost_ret (res_ct rfl hS 0 rfl rfl Tryd.underlying27 rfl (sz_K _) _ rfl) rfl ?_
      exact ⟨rfl, hS.bel⟩
    · rw [hc] at hC hq
      by_cases h1 : b < 0
      · skip
        clear hq hc
        go_enter Tryd.func11, Tryd.ntmps11
        go_upto_region 0 with fail
        refine wp_region_lit ?_
        refine wl_box (by kernel_rfl) 27 (.tmp 0) rfl (bkC x) rfl hS ?_
        clear hS
        intro g1 w1 hS
        simp [Act.put]
        refine wl_alloc (by kernel_rfl) 27 rfl (bkC (⟨0, 0, 0⟩ : Bk)) Tryd.inK hS ?_
        clear hS
        intro g2 w2 hS
        simp [Act.put]
        refine wl (by kernel_rfl) fun kQ hkQ => ?_
        go_simp
        refine hkQ _ _ ?_
        clear hkQ kQ
        refine wpList_nil ?_
        go_upto_region 2 with (go_at_call 20; refine (hC _).mono ?_; rintro e1 w9 ⟨rfl, hw1⟩; obtain rfl := hw1.symm; clear hw1)
        clear hC h1
        refine wp_region_lit ?_
        refine wl_load (by kernel_rfl) 27 (.tmp 4) rfl 1 rfl 0 rfl (bkC x) (At.self _) Tryd.underlying27 rfl (sz_K _) hS ?_
        simp [Act.put]
        refine wl_store (by kernel_rfl) 27 (.tmp 8) (.tmp 26) rfl 0 rfl 0 rfl (bkC x) (bkC x) (pt_K (⟨0, 0, 0⟩ : Bk) x) rfl (sz_K _) (one_K _) hS ?_
        clear hS
        intro w3 hS
        change Hs17 w [(g2, 27, (bkC x)), (g1, 27, (bkC x))] Dl w3 at hS
        simp [Act.put]
        refine wl (by kernel_rfl) fun kQ hkQ => ?_
        go_simp
        refine hkQ _ _ ?_
        clear hkQ kQ
        refine wpList_nil ?_
        go_wp2_with fail
        refine bodyPost_ret (res_ct rfl hS 0 rfl rfl Tryd.underlying27 rfl (sz_K _) _ rfl) rfl ?_
        exact ⟨rfl, hS.bel⟩
      · skip
        have h2 : r < b := by simp at hq; omega
        clear hq hc
        go_enter Tryd.func11, Tryd.ntmps11
        go_upto_region 0 with fail
        refine wp_region_lit ?_
        refine wl_box (by kernel_rfl) 27 (.tmp 0) rfl (bkC x) rfl hS ?_
        clear hS
        intro g1 w1 hS
        simp [Act.put]
        refine wl_alloc (by kernel_rfl) 27 rfl (bkC (⟨0, 0, 0⟩ : Bk)) Tryd.inK hS ?_
        clear hS
        intro g2 w2 hS
        simp [Act.put]
        refine wl (by kernel_rfl) fun kQ hkQ => ?_
        go_simp
        refine hkQ _ _ ?_
        clear hkQ kQ
        refine wpList_nil ?_
        go_upto_region 2 with (go_at_call 20; refine (hC _).mono ?_; rintro e1 w9 ⟨rfl, hw1⟩; obtain rfl := hw1.symm; clear hw1)
        clear hC h1 h2
        refine wp_region_lit ?_
        refine wl_load (by kernel_rfl) 27 (.tmp 4) rfl 1 rfl 0 rfl (bkC x) (At.self _) Tryd.underlying27 rfl (sz_K _) hS ?_
        simp [Act.put]
        refine wl_store (by kernel_rfl) 27 (.tmp 8) (.tmp 26) rfl 0 rfl 0 rfl (bkC x) (bkC x) (pt_K (⟨0, 0, 0⟩ : Bk) x) rfl (sz_K _) (one_K _) hS ?_
        clear hS
        intro w3 hS
        change Hs17 w [(g2, 27, (bkC x)), (g1, 27, (bkC x))] Dl w3 at hS
        simp [Act.put]
        refine wl (by kernel_rfl) fun kQ hkQ => ?_
        go_simp
        refine hkQ _ _ ?_
        clear hkQ kQ
        refine wpList_nil ?_
        go_wp2_with fail
        refine bodyPost_ret (res_ct rfl hS 0 rfl rfl Tryd.underlying27 rfl (sz_K _) _ rfl) rfl ?_
        exact ⟨rfl, hS.bel⟩
  · rw [if_pos rfl]
    obtain ⟨hc, b1, b2⟩ := bakB_t hq
    rw [hc] at hC
    obtain ⟨c1, c2, c3, c4⟩ := carB_t hc
    have hm1 : Iz ((r - b) * p) := mul_Iz (by omega) (by omega) c3 c4
    have hm2 : Iz (b * p) := mul_Iz (by omega) (by omega) c3 c4
    have e0 : IntKind.i64.wrap (r - b) = r - b := wi_of (by unfold Iz; omega)
    have e1 : IntKind.i64.wrap ((r - b) * p) = (r - b) * p := wi_of hm1
    have e2 : IntKind.i64.wrap (b * p) = b * p := wi_of hm2
    have n1 : ¬ b < 0 := by omega
    have n2 : ¬ r < b := by omega
    obtain ⟨⟨yb, ye⟩, hyb⟩ : ∃ y : Bk × Int, postZ x 1 2 ((r - b) * p) = y := ⟨_, rfl⟩
    have hyo : yb.Ok := by have := postZ_ok (d := 1) (c := 2) (m := (r - b) * p) hx; rw [hyb] at this; exact this
    rw [hyb]
    obtain ⟨⟨zb, ze⟩, hzb⟩ : ∃ y : Bk × Int, postZ yb 1 0 (b * p) = y := ⟨_, rfl⟩
    have hP : ∀ v, Dl v → Calls Tryd.prog 18 #[aV (bkC x), .int .i64 1, .int .i64 2, .int .i64 ((r - b) * p)] v fun e w' => e = .returned (.tuple #[aV (bkC yb), .int .i64 ye]) ∧ Below v.heap.size v w' := fun v hv => by
      have h := post_any x 1 2 ((r - b) * p) v hx hm1 hv
      rw [hyb] at h
      exact h
    have hU : ∀ v, Dl v → Calls Tryd.prog 18 #[aV (bkC yb), .int .i64 1, .int .i64 0, .int .i64 (b * p)] v fun e w' => e = .returned (.tuple #[aV (bkC zb), .int .i64 ze]) ∧ Below v.heap.size v w' := fun v hv => by
      have h := post_any yb 1 0 (b * p) v hyo hm2 hv
      rw [hzb] at h
      exact h
    simp only [hzb]
    clear hyb hzb hm1 hm2 hx hyo c1 c2 c3 c4 hc hq b1 b2
    by_cases hy0 : ye = 0
    · subst hy0
      rw [if_pos rfl]
      by_cases hz0 : ze = 0
      · skip
        subst hz0
        rw [if_pos rfl]
        go_enter Tryd.func11, Tryd.ntmps11
        go_upto_region 0 with fail
        refine wp_region_lit ?_
        refine wl_box (by kernel_rfl) 27 (.tmp 0) rfl (bkC x) rfl hS ?_
        clear hS
        intro g1 w1 hS
        simp [Act.put]
        refine wl_alloc (by kernel_rfl) 27 rfl (bkC (⟨0, 0, 0⟩ : Bk)) Tryd.inK hS ?_
        clear hS
        intro g2 w2 hS
        simp [Act.put]
        refine wl (by kernel_rfl) fun kQ hkQ => ?_
        go_simp
        refine hkQ _ _ ?_
        clear hkQ kQ
        refine wpList_nil ?_
        go_upto_region 3 with (go_at_call 20; refine (hC _).mono ?_; rintro e1 w9 ⟨rfl, hw1⟩; obtain rfl := hw1.symm; clear hw1)
        clear hC n1 n2
        refine wp_region_lit ?_
        refine wl_load (by kernel_rfl) 27 (.tmp 4) rfl 1 rfl 0 rfl (bkC x) (At.self _) Tryd.underlying27 rfl (sz_K _) hS ?_
        simp [Act.put]
        refine wl (by kernel_rfl) fun kQ hkQ => ?_
        go_simp
        refine hkQ _ _ ?_
        clear hkQ kQ
        refine wl (by kernel_rfl) fun kQ hkQ => ?_
        go_simp
        refine hkQ _ _ ?_
        clear hkQ kQ
        refine wl (by kernel_rfl) fun kQ hkQ => ?_
        go_simp
        refine hkQ _ _ ?_
        clear hkQ kQ
        refine wl (by kernel_rfl) fun kQ hkQ => ?_
        go_simp
        refine hkQ _ _ ?_
        clear hkQ kQ
        refine wl (by kernel_rfl) fun kQ hkQ => ?_
        go_simp
        refine hkQ _ _ ?_
        clear hkQ kQ
        refine wl (by kernel_rfl) fun kQ hkQ => ?_
        go_simp
        refine (hP _ hS.K).mono ?_
        rintro e w3 ⟨rfl, hb1⟩
        replace hS := hS.later hb1
        refine hkQ _ _ ?_
        clear hkQ kQ hb1
        refine wl (by kernel_rfl) fun kQ hkQ => ?_
        go_simp
        refine hkQ _ _ ?_
        clear hkQ kQ
        refine wl (by kernel_rfl) fun kQ hkQ => ?_
        go_simp
        refine hkQ _ _ ?_
        clear hkQ kQ
        refine wl (by kernel_rfl) fun kQ hkQ => ?_
        go_simp
        refine hkQ _ _ ?_
        clear hkQ kQ
        refine wl_alloc (by kernel_rfl) 27 rfl (bkC (⟨0, 0, 0⟩ : Bk)) Tryd.inK hS ?_
        clear hS
        intro g4 w4 hS
        simp [Act.put]
        refine wl_store (by kernel_rfl) 27 (.tmp 10) (.tmp 35) rfl 0 rfl 0 rfl (bkC yb) (bkC yb) (pt_K (⟨0, 0, 0⟩ : Bk) yb) rfl (sz_K _) (one_K _) hS ?_
        clear hS
        intro w5 hS
        change Hs17 w [(g4, 27, (bkC yb)), (g2, 27, (bkC (⟨0, 0, 0⟩ : Bk))), (g1, 27, (bkC x))] Dl w5 at hS
        simp [Act.put]
        refine wl (by kernel_rfl) fun kQ hkQ => ?_
        go_simp
        refine hkQ _ _ ?_
        clear hkQ kQ
        refine wpList_nil ?_
        clear hP e0 e1
        go_upto_region 6 with fail
        refine wp_region_lit ?_
        refine wl_load (by kernel_rfl) 27 (.tmp 10) rfl 0 rfl 0 rfl (bkC yb) (At.self _) Tryd.underlying27 rfl (sz_K _) hS ?_
        simp [Act.put]
        refine wl (by kernel_rfl) fun kQ hkQ => ?_
        go_simp
        refine hkQ _ _ ?_
        clear hkQ kQ
        refine wl (by kernel_rfl) fun kQ hkQ => ?_
        go_simp
        refine hkQ _ _ ?_
        clear hkQ kQ
        refine wl (by kernel_rfl) fun kQ hkQ => ?_
        go_simp
        refine hkQ _ _ ?_
        clear hkQ kQ
        refine wl (by kernel_rfl) fun kQ hkQ => ?_
        go_simp
        refine (hU _ hS.K).mono ?_
        rintro e w6 ⟨rfl, hb1⟩
        replace hS := hS.later hb1
        refine hkQ _ _ ?_
        clear hkQ kQ hb1
        refine wl (by kernel_rfl) fun kQ hkQ => ?_
        go_simp
        refine hkQ _ _ ?_
        clear hkQ kQ
        refine wl (by kernel_rfl) fun kQ hkQ => ?_
        go_simp
        refine hkQ _ _ ?_
        clear hkQ kQ
        refine wl (by kernel_rfl) fun kQ hkQ => ?_
        go_simp
        refine hkQ _ _ ?_
        clear hkQ kQ
        refine wl_alloc (by kernel_rfl) 27 rfl (bkC (⟨0, 0, 0⟩ : Bk)) Tryd.inK hS ?_
        clear hS
        intro g7 w7 hS
        simp [Act.put]
        refine wl_store (by kernel_rfl) 27 (.tmp 12) (.tmp 47) rfl 0 rfl 0 rfl (bkC zb) (bkC zb) (pt_K (⟨0, 0, 0⟩ : Bk) zb) rfl (sz_K _) (one_K _) hS ?_
        clear hS
        intro w8 hS
        change Hs17 w [(g7, 27, (bkC zb)), (g4, 27, (bkC yb)), (g2, 27, (bkC (⟨0, 0, 0⟩ : Bk))), (g1, 27, (bkC x))] Dl w8 at hS
        simp [Act.put]
        refine wl (by kernel_rfl) fun kQ hkQ => ?_
        go_simp
        refine hkQ _ _ ?_
        clear hkQ kQ
        refine wpList_nil ?_
        clear hU e2
        go_upto_region 9 with fail
        refine wp_region_lit ?_
        refine wl_load (by kernel_rfl) 27 (.tmp 12) rfl 0 rfl 0 rfl (bkC zb) (At.self _) Tryd.underlying27 rfl (sz_K _) hS ?_
        simp [Act.put]
        refine wl_store (by kernel_rfl) 27 (.tmp 8) (.tmp 53) rfl 2 rfl 0 rfl (bkC zb) (bkC zb) (pt_K (⟨0, 0, 0⟩ : Bk) zb) rfl (sz_K _) (one_K _) hS ?_
        clear hS
        intro w9 hS
        change Hs17 w [(g7, 27, (bkC zb)), (g4, 27, (bkC yb)), (g2, 27, (bkC zb)), (g1, 27, (bkC x))] Dl w9 at hS
        simp [Act.put]
        refine wl (by kernel_rfl) fun kQ hkQ => ?_
        go_simp
        refine hkQ _ _ ?_
        clear hkQ kQ
        refine wpList_nil ?_
        go_wp2_with fail
        refine bodyPost_ret (res_ct rfl hS 2 rfl rfl Tryd.underlying27 rfl (sz_K _) _ rfl) rfl ?_
        exact ⟨rfl, hS.bel⟩
      · skip
        rw [if_neg hz0]
        go_enter Tryd.func11, Tryd.ntmps11
        go_upto_region 0 with fail
        refine wp_region_lit ?_
        refine wl_box (by kernel_rfl) 27 (.tmp 0) rfl (bkC x) rfl hS ?_
        clear hS
        intro g1 w1 hS
        simp [Act.put]
        refine wl_alloc (by kernel_rfl) 27 rfl (bkC (⟨0, 0, 0⟩ : Bk)) Tryd.inK hS ?_
        clear hS
        intro g2 w2 hS
        simp [Act.put]
        refine wl (by kernel_rfl) fun kQ hkQ => ?_
        go_simp
        refine hkQ _ _ ?_
        clear hkQ kQ
        refine wpList_nil ?_
        go_upto_region 3 with (go_at_call 20; refine (hC _).mono ?_; rintro e1 w9 ⟨rfl, hw1⟩; obtain rfl := hw1.symm; clear hw1)
        clear hC n1 n2
        refine wp_region_lit ?_
        refine wl_load (by kernel_rfl) 27 (.tmp 4) rfl 1 rfl 0 rfl (bkC x) (At.self _) Tryd.underlying27 rfl (sz_K _) hS ?_
        simp [Act.put]
        refine wl (by kernel_rfl) fun kQ hkQ => ?_
        go_simp
        refine hkQ _ _ ?_
        clear hkQ kQ
        refine wl (by kernel_rfl) fun kQ hkQ => ?_
        go_simp
        refine hkQ _ _ ?_
        clear hkQ kQ
        refine wl (by kernel_rfl) fun kQ hkQ => ?_
        go_simp
        refine hkQ _ _ ?_
        clear hkQ kQ
        refine wl (by kernel_rfl) fun kQ hkQ => ?_
        go_simp
        refine hkQ _ _ ?_
        clear hkQ kQ
        refine wl (by kernel_rfl) fun kQ hkQ => ?_
        go_simp
        refine hkQ _ _ ?_
        clear hkQ kQ
        refine wl (by kernel_rfl) fun kQ hkQ => ?_
        go_simp
        refine (hP _ hS.K).mono ?_
        rintro e w3 ⟨rfl, hb1⟩
        replace hS := hS.later hb1
        refine hkQ _ _ ?_
        clear hkQ kQ hb1
        refine wl (by kernel_rfl) fun kQ hkQ => ?_
        go_simp
        refine hkQ _ _ ?_
        clear hkQ kQ
        refine wl (by kernel_rfl) fun kQ hkQ => ?_
        go_simp
        refine hkQ _ _ ?_
        clear hkQ kQ
        refine wl (by kernel_rfl) fun kQ hkQ => ?_
        go_simp
        refine hkQ _ _ ?_
        clear hkQ kQ
        refine wl_alloc (by kernel_rfl) 27 rfl (bkC (⟨0, 0, 0⟩ : Bk)) Tryd.inK hS ?_
        clear hS
        intro g4 w4 hS
        simp [Act.put]
        refine wl_store (by kernel_rfl) 27 (.tmp 10) (.tmp 35) rfl 0 rfl 0 rfl (bkC yb) (bkC yb) (pt_K (⟨0, 0, 0⟩ : Bk) yb) rfl (sz_K _) (one_K _) hS ?_
        clear hS
        intro w5 hS
        change Hs17 w [(g4, 27, (bkC yb)), (g2, 27, (bkC (⟨0, 0, 0⟩ : Bk))), (g1, 27, (bkC x))] Dl w5 at hS
        simp [Act.put]
        refine wl (by kernel_rfl) fun kQ hkQ => ?_
        go_simp
        refine hkQ _ _ ?_
        clear hkQ kQ
        refine wpList_nil ?_
        clear hP e0 e1
        go_upto_region 6 with fail
        refine wp_region_lit ?_
        refine wl_load (by kernel_rfl) 27 (.tmp 10) rfl 0 rfl 0 rfl (bkC yb) (At.self _) Tryd.underlying27 rfl (sz_K _) hS ?_
        simp [Act.put]
        refine wl (by kernel_rfl) fun kQ hkQ => ?_
        go_simp
        refine hkQ _ _ ?_
        clear hkQ kQ
        refine wl (by kernel_rfl) fun kQ hkQ => ?_
        go_simp
        refine hkQ _ _ ?_
        clear hkQ kQ
        refine wl (by kernel_rfl) fun kQ hkQ => ?_
        go_simp
        refine hkQ _ _ ?_
        clear hkQ kQ
        refine wl (by kernel_rfl) fun kQ hkQ => ?_
        go_simp
        refine (hU _ hS.K).mono ?_
        rintro e w6 ⟨rfl, hb1⟩
        replace hS := hS.later hb1
        refine hkQ _ _ ?_
        clear hkQ kQ hb1
        refine wl (by kernel_rfl) fun kQ hkQ => ?_
        go_simp
        refine hkQ _ _ ?_
        clear hkQ kQ
        refine wl (by kernel_rfl) fun kQ hkQ => ?_
        go_simp
        refine hkQ _ _ ?_
        clear hkQ kQ
        refine wl (by kernel_rfl) fun kQ hkQ => ?_
        go_simp
        refine hkQ _ _ ?_
        clear hkQ kQ
        refine wl_alloc (by kernel_rfl) 27 rfl (bkC (⟨0, 0, 0⟩ : Bk)) Tryd.inK hS ?_
        clear hS
        intro g7 w7 hS
        simp [Act.put]
        refine wl_store (by kernel_rfl) 27 (.tmp 12) (.tmp 47) rfl 0 rfl 0 rfl (bkC zb) (bkC zb) (pt_K (⟨0, 0, 0⟩ : Bk) zb) rfl (sz_K _) (one_K _) hS ?_
        clear hS
        intro w8 hS
        change Hs17 w [(g7, 27, (bkC zb)), (g4, 27, (bkC yb)), (g2, 27, (bkC (⟨0, 0, 0⟩ : Bk))), (g1, 27, (bkC x))] Dl w8 at hS
        simp [Act.put]
        refine wl (by kernel_rfl) fun kQ hkQ => ?_
        go_simp
        refine hkQ _ _ ?_
        clear hkQ kQ
        refine wpList_nil ?_
        clear hU e2
        go_upto_region 8 with fail
        clear hz0
        refine wp_region_lit ?_
        refine wl_load (by kernel_rfl) 27 (.tmp 4) rfl 3 rfl 0 rfl (bkC x) (At.self _) Tryd.underlying27 rfl (sz_K _) hS ?_
        simp [Act.put]
        refine wl (by kernel_rfl) fun kQ hkQ => ?_
        go_simp
        refine hkQ _ _ ?_
        clear hkQ kQ
        refine wl_store (by kernel_rfl) 27 (.tmp 8) (.tmp 51) rfl 2 rfl 0 rfl (bkC x) (bkC x) (pt_K (⟨0, 0, 0⟩ : Bk) x) rfl (sz_K _) (one_K _) hS ?_
        clear hS
        intro w9 hS
        change Hs17 w [(g7, 27, (bkC zb)), (g4, 27, (bkC yb)), (g2, 27, (bkC x)), (g1, 27, (bkC x))] Dl w9 at hS
        simp [Act.put]
        refine wl (by kernel_rfl) fun kQ hkQ => ?_
        go_simp
        refine hkQ _ _ ?_
        clear hkQ kQ
        refine wpList_nil ?_
        go_wp2_with fail
        refine bodyPost_ret (res_ct rfl hS 2 rfl rfl Tryd.underlying27 rfl (sz_K _) _ rfl) rfl ?_
        exact ⟨rfl, hS.bel⟩
    · skip
      rw [if_neg hy0]
      go_enter Tryd.func11, Tryd.ntmps11
      go_upto_region 0 with fail
      refine wp_region_lit ?_
      refine wl_box (by kernel_rfl) 27 (.tmp 0) rfl (bkC x) rfl hS ?_
      clear hS
      intro g1 w1 hS
      simp [Act.put]
      refine wl_alloc (by kernel_rfl) 27 rfl (bkC (⟨0, 0, 0⟩ : Bk)) Tryd.inK hS ?_
      clear hS
      intro g2 w2 hS
      simp [Act.put]
      refine wl (by kernel_rfl) fun kQ hkQ => ?_
      go_simp
      refine hkQ _ _ ?_
      clear hkQ kQ
      refine wpList_nil ?_
      go_upto_region 3 with (go_at_call 20; refine (hC _).mono ?_; rintro e1 w9 ⟨rfl, hw1⟩; obtain rfl := hw1.symm; clear hw1)
      clear hC n1 n2
      refine wp_region_lit ?_
      refine wl_load (by kernel_rfl) 27 (.tmp 4) rfl 1 rfl 0 rfl (bkC x) (At.self _) Tryd.underlying27 rfl (sz_K _) hS ?_
      simp [Act.put]
      refine wl (by kernel_rfl) fun kQ hkQ => ?_
      go_simp
      refine hkQ _ _ ?_
      clear hkQ kQ
      refine wl (by kernel_rfl) fun kQ hkQ => ?_
      go_simp
      refine hkQ _ _ ?_
      clear hkQ kQ
      refine wl (by kernel_rfl) fun kQ hkQ => ?_
      go_simp
      refine hkQ _ _ ?_
      clear hkQ kQ
      refine wl (by kernel_rfl) fun kQ hkQ => ?_
      go_simp
      refine hkQ _ _ ?_
      clear hkQ kQ
      refine wl (by kernel_rfl) fun kQ hkQ => ?_
      go_simp
      refine hkQ _ _ ?_
      clear hkQ kQ
      refine wl (by kernel_rfl) fun kQ hkQ => ?_
      go_simp
      refine (hP _ hS.K).mono ?_
      rintro e w3 ⟨rfl, hb1⟩
      replace hS := hS.later hb1
      refine hkQ _ _ ?_
      clear hkQ kQ hb1
      refine wl (by kernel_rfl) fun kQ hkQ => ?_
      go_simp
      refine hkQ _ _ ?_
      clear hkQ kQ
      refine wl (by kernel_rfl) fun kQ hkQ => ?_
      go_simp
      refine hkQ _ _ ?_
      clear hkQ kQ
      refine wl (by kernel_rfl) fun kQ hkQ => ?_
      go_simp
      refine hkQ _ _ ?_
      clear hkQ kQ
      refine wl_alloc (by kernel_rfl) 27 rfl (bkC (⟨0, 0, 0⟩ : Bk)) Tryd.inK hS ?_
      clear hS
      intro g4 w4 hS
      simp [Act.put]
      refine wl_store (by kernel_rfl) 27 (.tmp 10) (.tmp 35) rfl 0 rfl 0 rfl (bkC yb) (bkC yb) (pt_K (⟨0, 0, 0⟩ : Bk) yb) rfl (sz_K _) (one_K _) hS ?_
      clear hS
      intro w5 hS
      change Hs17 w [(g4, 27, (bkC yb)), (g2, 27, (bkC (⟨0, 0, 0⟩ : Bk))), (g1, 27, (bkC x))] Dl w5 at hS
      simp [Act.put]
      refine wl (by kernel_rfl) fun kQ hkQ => ?_
      go_simp
      refine hkQ _ _ ?_
      clear hkQ kQ
      refine wpList_nil ?_
      clear hP e0 e1
      go_upto_region 5 with fail
      clear hy0
      refine wp_region_lit ?_
      refine wl_load (by kernel_rfl) 27 (.tmp 4) rfl 2 rfl 0 rfl (bkC x) (At.self _) Tryd.underlying27 rfl (sz_K _) hS ?_
      simp [Act.put]
      refine wl (by kernel_rfl) fun kQ hkQ => ?_
      go_simp
      refine hkQ _ _ ?_
      clear hkQ kQ
      refine wl_store (by kernel_rfl) 27 (.tmp 8) (.tmp 39) rfl 1 rfl 0 rfl (bkC x) (bkC x) (pt_K (⟨0, 0, 0⟩ : Bk) x) rfl (sz_K _) (one_K _) hS ?_
      clear hS
      intro w6 hS
      change Hs17 w [(g4, 27, (bkC yb)), (g2, 27, (bkC x)), (g1, 27, (bkC x))] Dl w6 at hS
      simp [Act.put]
      refine wl (by kernel_rfl) fun kQ hkQ => ?_
      go_simp
      refine hkQ _ _ ?_
      clear hkQ kQ
      refine wpList_nil ?_
      go_wp2_with fail
      refine bodyPost_ret (res_ct rfl hS 1 rfl rfl Tryd.underlying27 rfl (sz_K _) _ rfl) rfl ?_
      exact ⟨rfl, hS.bel⟩
end Go.Proofs.YtjdgibnpngkhkaaDoor
