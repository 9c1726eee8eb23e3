import Derived.Test.YtaepmfkdnjembaaOpA24
import Derived.Deep.DeepCutAuto
import Derived.Deep.QuietTactic
import Derived.BigQuiet
set_option linter.unusedSimpArgs false
set_option linter.unusedVariables false
namespace Go.Proofs.Ytaepmfkdnjembaa
open Go.RowKit

/-- is a script short enough? -/
def sumN (xs : List Stq) : Nat := (xs.map (fun s => s.n.toNat)).sum
def fitP (xs : List Stq) : Prop := (∀ s ∈ xs, s.m.s.n ≤ 3000 ∧ s.n ≤ 9000)
theorem sumN_snoc (xs : List Stq) (k : Nat) {x : Stq} (hx : xs[k]? = some x) : sumN (xs.take (k + 1)) = sumN (xs.take k) + x.n.toNat := by
  unfold sumN
  rw [List.take_add_one, hx, List.map_append, List.sum_append]; simp
theorem fitP_snoc {xs : List Stq} {k : Nat} {x : Stq} (hx : xs[k]? = some x) (h : fitP (xs.take k)) (h1 : x.m.s.n ≤ 3000) (h2 : x.n ≤ 9000) : fitP (xs.take (k + 1)) := by
  unfold fitP at *
  rw [List.take_add_one, hx]
  intro s hs
  rcases List.mem_append.1 hs with hs | hs
  · exact h s hs
  · simp at hs; subst hs; exact ⟨h1, h2⟩
theorem sumN_le {xs : List Stq} {k : Nat} (h : fitP (xs.take k)) : sumN (xs.take k) ≤ 9000 * k := by
  have key : ∀ l : List Stq, fitP l → sumN l ≤ 9000 * l.length := by
    intro l
    induction l with
    | nil => intro _; exact Nat.le_refl _
    | cons a r ih =>
      intro hf
      have h1 := ih (fun s hs => hf s (List.mem_cons_of_mem _ hs))
      have h2 := (hf a (List.mem_cons_self ..)).2
      have e : sumN (a :: r) = a.n.toNat + sumN r := rfl
      rw [e, List.length_cons]; omega
  have := key _ h
  have h2 : (xs.take k).length ≤ k := by rw [List.length_take]; omega
  exact Nat.le_trans this (Nat.mul_le_mul_left _ h2)
def FitQ (sn : Nat) (sx : List Stq) (w : World) (e : Ending) (w' : World) : Prop := ∃ q : Bool, e = .returned (.bool q) ∧ (q = true → sn ≤ 200 ∧ fitP sx ∧ sumN sx ≤ 9000) ∧ Below w.heap.size w w'
theorem fitQ_no {sn : Nat} {sx : List Stq} {w w' : World} {e : Ending} (he : e = .returned (.bool false)) (hb : Below w.heap.size w w') : FitQ sn sx w e w' := ⟨false, he, (fun h => by cases h), hb⟩
theorem fitQ_yes {sn : Nat} {sx : List Stq} {w w' : World} {e : Ending} (he : e = .returned (.bool true)) (h : sn ≤ 200 ∧ fitP sx ∧ sumN sx ≤ 9000) (hb : Below w.heap.size w w') : FitQ sn sx w e w' := ⟨true, he, fun _ => h, hb⟩
set_option maxHeartbeats 4000000 in
set_option maxRecDepth 100000 in
theorem fits_any (s : Sx Stq) (w : World) (hs : s.Ok tC24 7 w) (hso : ∀ x ∈ s.xs, x.Ok w) (hsm : s.n ≤ 140737488351232) :
    Calls Try.prog 17 #[s.v] w fun e w' => FitQ s.n s.xs w e w' := by
  obtain ⟨sa, sn, sc, sx⟩ := s
  have hS := Hs17.begin w (fun _ => True) (fun _ _ => trivial)
  simp only at hsm ⊢
  have HL := hide hs.len
  have HSS := hide hs
  simp only [Sx.v]
  clear hs hso
  go_enter Try.func17, Try.ntmps17
  go_wp2_with fail
  go_loopw [3, 4] (fun vn vi wr => ∃ k : Nat, k ≤ sn ∧ vn = .int .i64 (sumN (sx.take k) : Nat) ∧ vi = .int .i64 k ∧ Hid (fitP (sx.take k)) ∧ Hs17 w [] (fun _ => True) wr) (fun _ vi _ => sn - (intOf vi).toNat)
  case atStart => exact ⟨0, by omega, rfl, rfl, hide (fun s hs => by cases hs), hS⟩
  case round =>
    clear hS
    obtain ⟨k, hk, rfl, rfl, HF, hS⟩ := hrel
    have hsum := sumN_le (unhide HF)
    by_cases hlt : k < sn
    · have hkz : (k : Int) < (sn : Int) := by omega
      obtain ⟨x, hx⟩ : ∃ x, sx[k]? = some x := ⟨_, List.getElem?_eq_getElem (by have h8 : sx.length = sn := unhide HL; omega)⟩
      obtain ⟨sb, so, hsa, hsl, hrg⟩ := Sx.Ok.at_ (unhide HSS) (i := k) hx
      have hsa' : sa = some ⟨sb, so, none⟩ := hsa
      subst hsa'
      have hsn := sumN_snoc sx k hx
      obtain ⟨N0, hN0⟩ : ∃ N0, sumN (sx.take k) = N0 := ⟨_, rfl⟩
      rw [hN0] at hsn hsum ⊢
      have HSN := hide hsn
      have hfs := fun h1 h2 => fitP_snoc hx (unhide HF) h1 h2
      have HFS := hide hfs
      obtain ⟨xk, ⟨xi, xf, xt, ⟨ya, yn, yc, yx⟩⟩, xd, xn⟩ := x
      have HC4 : Hid (∀ v, Below w.heap.size w v → v.cell? ⟨sb, so + k * 7 + 4, none⟩ = some (.slice ya yn yc)) := hide (fun v hv => rangeAt_old hrg hsl (Old.of hv) 4 _ rfl)
      have HC6 : Hid (∀ v, Below w.heap.size w v → v.cell? ⟨sb, so + k * 7 + 6, none⟩ = some (.int .i64 xn)) := hide (fun v hv => rangeAt_old hrg hsl (Old.of hv) 6 _ rfl)
      simp only at HSN HFS
      clear hsa hx hsl hrg hsn hfs hN0
      by_cases h1 : 3000 < yn
      · have h1z : (3000 : Int) < (yn : Int) := by omega
        clear h1
        go_upto_region 5 with fail
        refine wp_region_lit ?_
        refine wl (by kernel_rfl) fun kQ hkQ => ?_
        go_simp
        refine hkQ _ _ ?_
        clear hkQ kQ
        refine wl (by kernel_rfl) fun kQ hkQ => ?_
        go_simp
        refine hkQ _ _ ?_
        clear hkQ kQ
        refine wl (by kernel_rfl) fun kQ hkQ => ?_
        go_simp
        refine hkQ _ _ ?_
        clear hkQ kQ
        refine wl (by kernel_rfl) fun kQ hkQ => ?_
        go_simp
        refine hkQ _ _ ?_
        clear hkQ kQ
        refine wl (by kernel_rfl) fun kQ hkQ => ?_
        go_simp
        refine hkQ _ _ ?_
        clear hkQ kQ
        refine wl_loadC (by kernel_rfl) 27 (.tmp 15) rfl sb (so + k * 7 + 4) rfl ((.slice ya yn yc)) (unhide HC4 _ hS.bel) Try.underlying27 rfl ?_
        simp [Act.put]
        refine wl (by kernel_rfl) fun kQ hkQ => ?_
        go_simp
        refine hkQ _ _ ?_
        clear hkQ kQ
        refine wl (by kernel_rfl) fun kQ hkQ => ?_
        go_simp
        refine hkQ _ _ ?_
        clear hkQ kQ
        refine wl (by kernel_rfl) fun kQ hkQ => ?_
        go_simp
        refine hkQ _ _ ?_
        clear hkQ kQ
        go_wp2_with fail
        go_ret
        exact fitQ_no rfl hS.bel
      have h1z : ¬ (3000 : Int) < (yn : Int) := by omega
      by_cases h2 : 9000 < xn
      · clear h1
        go_upto_region 5 with fail
        refine wp_region_lit ?_
        refine wl (by kernel_rfl) fun kQ hkQ => ?_
        go_simp
        refine hkQ _ _ ?_
        clear hkQ kQ
        refine wl (by kernel_rfl) fun kQ hkQ => ?_
        go_simp
        refine hkQ _ _ ?_
        clear hkQ kQ
        refine wl (by kernel_rfl) fun kQ hkQ => ?_
        go_simp
        refine hkQ _ _ ?_
        clear hkQ kQ
        refine wl (by kernel_rfl) fun kQ hkQ => ?_
        go_simp
        refine hkQ _ _ ?_
        clear hkQ kQ
        refine wl (by kernel_rfl) fun kQ hkQ => ?_
        go_simp
        refine hkQ _ _ ?_
        clear hkQ kQ
        refine wl_loadC (by kernel_rfl) 27 (.tmp 15) rfl sb (so + k * 7 + 4) rfl ((.slice ya yn yc)) (unhide HC4 _ hS.bel) Try.underlying27 rfl ?_
        simp [Act.put]
        refine wl (by kernel_rfl) fun kQ hkQ => ?_
        go_simp
        refine hkQ _ _ ?_
        clear hkQ kQ
        refine wl (by kernel_rfl) fun kQ hkQ => ?_
        go_simp
        refine hkQ _ _ ?_
        clear hkQ kQ
        refine wl (by kernel_rfl) fun kQ hkQ => ?_
        go_simp
        refine hkQ _ _ ?_
        clear hkQ kQ
        refine wl (by kernel_rfl) fun kQ hkQ => ?_
        go_simp
        refine hkQ _ _ ?_
        clear hkQ kQ
        refine wl (by kernel_rfl) fun kQ hkQ => ?_
        go_simp
        refine hkQ _ _ ?_
        clear hkQ kQ
        refine wl (by kernel_rfl) fun kQ hkQ => ?_
        go_simp
        refine hkQ _ _ ?_
        clear hkQ kQ
        refine wl (by kernel_rfl) fun kQ hkQ => ?_
        go_simp
        refine hkQ _ _ ?_
        clear hkQ kQ
        refine wl_loadC (by kernel_rfl) 3 (.tmp 23) rfl sb (so + k * 7 + 6) rfl (.int .i64 xn) (unhide HC6 _ hS.bel) Try.underlying3 rfl ?_
        simp [Act.put]
        refine wl (by kernel_rfl) fun kQ hkQ => ?_
        go_simp
        refine hkQ _ _ ?_
        clear hkQ kQ
        refine wl (by kernel_rfl) fun kQ hkQ => ?_
        go_simp
        refine hkQ _ _ ?_
        clear hkQ kQ
        refine wpList_nil ?_
        go_wp2_with fail
        go_ret
        exact fitQ_no rfl hS.bel
      have HF2 := hide (unhide HFS (by show yn ≤ 3000; omega) (by omega))
      by_cases h3 : 0 < xn
      · have e1 : IntKind.i64.wrap ((N0 : Int) + xn) = ((N0 + xn.toNat : Nat) : Int) := by rw [show (N0 : Int) + xn = ((N0 + xn.toNat : Nat) : Int) by omega]; exact wi_of24 (by omega) (by omega)
        rw [← unhide HSN] at e1
        clear h1
        go_upto_region 5 with fail
        refine wp_region_lit ?_
        refine wl (by kernel_rfl) fun kQ hkQ => ?_
        go_simp
        refine hkQ _ _ ?_
        clear hkQ kQ
        refine wl (by kernel_rfl) fun kQ hkQ => ?_
        go_simp
        refine hkQ _ _ ?_
        clear hkQ kQ
        refine wl (by kernel_rfl) fun kQ hkQ => ?_
        go_simp
        refine hkQ _ _ ?_
        clear hkQ kQ
        refine wl (by kernel_rfl) fun kQ hkQ => ?_
        go_simp
        refine hkQ _ _ ?_
        clear hkQ kQ
        refine wl (by kernel_rfl) fun kQ hkQ => ?_
        go_simp
        refine hkQ _ _ ?_
        clear hkQ kQ
        refine wl_loadC (by kernel_rfl) 27 (.tmp 15) rfl sb (so + k * 7 + 4) rfl ((.slice ya yn yc)) (unhide HC4 _ hS.bel) Try.underlying27 rfl ?_
        simp [Act.put]
        refine wl (by kernel_rfl) fun kQ hkQ => ?_
        go_simp
        refine hkQ _ _ ?_
        clear hkQ kQ
        refine wl (by kernel_rfl) fun kQ hkQ => ?_
        go_simp
        refine hkQ _ _ ?_
        clear hkQ kQ
        refine wl (by kernel_rfl) fun kQ hkQ => ?_
        go_simp
        refine hkQ _ _ ?_
        clear hkQ kQ
        refine wl (by kernel_rfl) fun kQ hkQ => ?_
        go_simp
        refine hkQ _ _ ?_
        clear hkQ kQ
        refine wl (by kernel_rfl) fun kQ hkQ => ?_
        go_simp
        refine hkQ _ _ ?_
        clear hkQ kQ
        refine wl (by kernel_rfl) fun kQ hkQ => ?_
        go_simp
        refine hkQ _ _ ?_
        clear hkQ kQ
        refine wl (by kernel_rfl) fun kQ hkQ => ?_
        go_simp
        refine hkQ _ _ ?_
        clear hkQ kQ
        refine wl_loadC (by kernel_rfl) 3 (.tmp 23) rfl sb (so + k * 7 + 6) rfl (.int .i64 xn) (unhide HC6 _ hS.bel) Try.underlying3 rfl ?_
        simp [Act.put]
        refine wl (by kernel_rfl) fun kQ hkQ => ?_
        go_simp
        refine hkQ _ _ ?_
        clear hkQ kQ
        refine wl (by kernel_rfl) fun kQ hkQ => ?_
        go_simp
        refine hkQ _ _ ?_
        clear hkQ kQ
        refine wpList_nil ?_
        go_upto_region 7 with fail
        clear h1z h2
        refine wp_region_lit ?_
        refine wl (by kernel_rfl) fun kQ hkQ => ?_
        go_simp
        refine hkQ _ _ ?_
        clear hkQ kQ
        refine wl (by kernel_rfl) fun kQ hkQ => ?_
        go_simp
        refine hkQ _ _ ?_
        clear hkQ kQ
        refine wl (by kernel_rfl) fun kQ hkQ => ?_
        go_simp
        refine hkQ _ _ ?_
        clear hkQ kQ
        refine wl (by kernel_rfl) fun kQ hkQ => ?_
        go_simp
        refine hkQ _ _ ?_
        clear hkQ kQ
        refine wl_loadC (by kernel_rfl) 3 (.tmp 30) rfl sb (so + k * 7 + 6) rfl (.int .i64 xn) (unhide HC6 _ hS.bel) Try.underlying3 rfl ?_
        simp [Act.put]
        refine wl (by kernel_rfl) fun kQ hkQ => ?_
        go_simp
        refine hkQ _ _ ?_
        clear hkQ kQ
        refine wpList_nil ?_
        go_upto_region 8 with fail
        refine wp_region_lit ?_
        refine wl (by kernel_rfl) fun kQ hkQ => ?_
        go_simp
        refine hkQ _ _ ?_
        clear hkQ kQ
        refine wl (by kernel_rfl) fun kQ hkQ => ?_
        go_simp
        refine hkQ _ _ ?_
        clear hkQ kQ
        refine wl (by kernel_rfl) fun kQ hkQ => ?_
        go_simp
        refine hkQ _ _ ?_
        clear hkQ kQ
        refine wl (by kernel_rfl) fun kQ hkQ => ?_
        go_simp
        refine hkQ _ _ ?_
        clear hkQ kQ
        refine wl (by kernel_rfl) fun kQ hkQ => ?_
        go_simp
        refine hkQ _ _ ?_
        clear hkQ kQ
        refine wl_loadC (by kernel_rfl) 3 (.tmp 37) rfl sb (so + k * 7 + 6) rfl (.int .i64 xn) (unhide HC6 _ hS.bel) Try.underlying3 rfl ?_
        simp [Act.put]
        refine wl (by kernel_rfl) fun kQ hkQ => ?_
        go_simp
        refine hkQ _ _ ?_
        clear hkQ kQ
        refine wl (by kernel_rfl) fun kQ hkQ => ?_
        go_simp
        refine hkQ _ _ ?_
        clear hkQ kQ
        refine wpList_nil ?_
        go_wp2_with fail
        go_roundw
        case rel => exact ⟨k + 1, by omega, rfl, by go_num, HF2, hS⟩
        case measure => simp [intOf]; omega
      · have e1 : N0 = sumN (sx.take (k + 1)) := by have := unhide HSN; omega
        have HE1 := hide e1
        clear h1 e1
        go_upto_region 5 with fail
        refine wp_region_lit ?_
        refine wl (by kernel_rfl) fun kQ hkQ => ?_
        go_simp
        refine hkQ _ _ ?_
        clear hkQ kQ
        refine wl (by kernel_rfl) fun kQ hkQ => ?_
        go_simp
        refine hkQ _ _ ?_
        clear hkQ kQ
        refine wl (by kernel_rfl) fun kQ hkQ => ?_
        go_simp
        refine hkQ _ _ ?_
        clear hkQ kQ
        refine wl (by kernel_rfl) fun kQ hkQ => ?_
        go_simp
        refine hkQ _ _ ?_
        clear hkQ kQ
        refine wl (by kernel_rfl) fun kQ hkQ => ?_
        go_simp
        refine hkQ _ _ ?_
        clear hkQ kQ
        refine wl_loadC (by kernel_rfl) 27 (.tmp 15) rfl sb (so + k * 7 + 4) rfl ((.slice ya yn yc)) (unhide HC4 _ hS.bel) Try.underlying27 rfl ?_
        simp [Act.put]
        refine wl (by kernel_rfl) fun kQ hkQ => ?_
        go_simp
        refine hkQ _ _ ?_
        clear hkQ kQ
        refine wl (by kernel_rfl) fun kQ hkQ => ?_
        go_simp
        refine hkQ _ _ ?_
        clear hkQ kQ
        refine wl (by kernel_rfl) fun kQ hkQ => ?_
        go_simp
        refine hkQ _ _ ?_
        clear hkQ kQ
        refine wl (by kernel_rfl) fun kQ hkQ => ?_
        go_simp
        refine hkQ _ _ ?_
        clear hkQ kQ
        refine wl (by kernel_rfl) fun kQ hkQ => ?_
        go_simp
        refine hkQ _ _ ?_
        clear hkQ kQ
        refine wl (by kernel_rfl) fun kQ hkQ => ?_
        go_simp
        refine hkQ _ _ ?_
        clear hkQ kQ
        refine wl (by kernel_rfl) fun kQ hkQ => ?_
        go_simp
        refine hkQ _ _ ?_
        clear hkQ kQ
        refine wl_loadC (by kernel_rfl) 3 (.tmp 23) rfl sb (so + k * 7 + 6) rfl (.int .i64 xn) (unhide HC6 _ hS.bel) Try.underlying3 rfl ?_
        simp [Act.put]
        refine wl (by kernel_rfl) fun kQ hkQ => ?_
        go_simp
        refine hkQ _ _ ?_
        clear hkQ kQ
        refine wl (by kernel_rfl) fun kQ hkQ => ?_
        go_simp
        refine hkQ _ _ ?_
        clear hkQ kQ
        refine wpList_nil ?_
        go_upto_region 7 with fail
        clear h1z h2
        refine wp_region_lit ?_
        refine wl (by kernel_rfl) fun kQ hkQ => ?_
        go_simp
        refine hkQ _ _ ?_
        clear hkQ kQ
        refine wl (by kernel_rfl) fun kQ hkQ => ?_
        go_simp
        refine hkQ _ _ ?_
        clear hkQ kQ
        refine wl (by kernel_rfl) fun kQ hkQ => ?_
        go_simp
        refine hkQ _ _ ?_
        clear hkQ kQ
        refine wl (by kernel_rfl) fun kQ hkQ => ?_
        go_simp
        refine hkQ _ _ ?_
        clear hkQ kQ
        refine wl_loadC (by kernel_rfl) 3 (.tmp 30) rfl sb (so + k * 7 + 6) rfl (.int .i64 xn) (unhide HC6 _ hS.bel) Try.underlying3 rfl ?_
        simp [Act.put]
        refine wl (by kernel_rfl) fun kQ hkQ => ?_
        go_simp
        refine hkQ _ _ ?_
        clear hkQ kQ
        refine wpList_nil ?_
        go_wp2_with fail
        go_roundw
        case rel => exact ⟨k + 1, by omega, by rw [unhide HE1], by go_num, HF2, hS⟩
        case measure => simp [intOf]; omega
    · obtain rfl : sn = k := by omega
      have hkz : ¬ (sn : Int) < (sn : Int) := by omega
      have hsx : sx.take sn = sx := List.take_of_length_le (by have h8 : sx.length = sn := unhide HL; omega)
      rw [hsx] at hsum ⊢
      have hff := unhide HF
      rw [hsx] at hff
      have HFF := hide hff
      clear hsx hff hlt hk
      obtain ⟨N0, hN0⟩ : ∃ N0, sumN sx = N0 := ⟨_, rfl⟩
      rw [hN0] at hsum ⊢
      have HN0 := hide hN0
      clear hN0
      by_cases h1 : sn ≤ 200
      · have h1z : (sn : Int) ≤ 200 := by omega
        by_cases h2 : N0 ≤ 9000
        · have h2z : (N0 : Int) ≤ 9000 := by omega
          go_wp2_with fail
          go_ret
          exact fitQ_yes rfl ⟨h1, unhide HFF, by rw [unhide HN0]; exact h2⟩ hS.bel
        · have h2z : ¬ (N0 : Int) ≤ 9000 := by omega
          go_wp2_with fail
          go_ret
          exact fitQ_no rfl hS.bel
      · have h1z : ¬ (sn : Int) ≤ 200 := by omega
        go_wp2_with fail
        go_ret
        exact fitQ_no rfl hS.bel
end Go.Proofs.Ytaepmfkdnjembaa
