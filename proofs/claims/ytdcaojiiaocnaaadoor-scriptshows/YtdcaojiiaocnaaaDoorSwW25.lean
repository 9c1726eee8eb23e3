import Derived.Test.YtdcaojiiaocnaaaDoorShP25
import Derived.Test.YtdcaojiiaocnaaaDoorFeM
import Derived.Deep.DeepCutAuto
import Derived.Deep.QuietTactic
import Derived.BigQuiet
set_option linter.unusedSimpArgs false
set_option linter.unusedVariables false
namespace Go.Proofs.YtdcaojiiaocnaaaDoor
open Go.RowKit

theorem b_re0 : Tryd.prog.built 25 [] = some (reC 0 (.slice none 0 0)).toArray := by kernel_rfl
theorem sx_nil25 {w : World} : Sx.Ok iC 1 w ⟨none, 0, 0, []⟩ := Sx.Ok.nil w 0
theorem bytes_ext' {a b : ByteArray} (h : a.data.toList = b.data.toList) : a = b := by
  cases a; cases b; simpa using h
theorem joinB_isB : ∀ fs : List (List Int), (∀ f ∈ fs, IsB f) → IsB (joinB fs)
  | [], _ => by intro c hc; cases hc
  | [f], h => h f (by simp)
  | f :: g :: r, h => by
    show IsB (f ++ 32 :: joinB (g :: r))
    intro c hc
    rcases List.mem_append.1 hc with hc | hc
    · exact h f (by simp) c hc
    · rcases List.mem_cons.1 hc with rfl | hc
      · omega
      · exact joinB_isB (g :: r) (fun x hx => h x (List.mem_cons_of_mem _ hx)) c hc
theorem showL_isB (e : Int) (ns : List Int) : IsB (showL e ns) := by
  refine joinB_isB _ (fun f hf => ?_)
  have hT : ∀ x ∈ okT, 0 ≤ x ∧ x ≤ 255 := by decide
  have hE : ∀ x ∈ errT, 0 ≤ x ∧ x ≤ 255 := by decide
  unfold showF at hf
  rcases List.mem_append.1 hf with hf | hf
  · split at hf
    · simp at hf; subst hf; exact hT
    · simp at hf
      rcases hf with rfl | rfl
      · exact hE
      · exact decL_isB _
  · obtain ⟨n, -, rfl⟩ := List.mem_map.1 hf
    exact decL_isB _
/-- what the law's loop knows at k -/
def AlK (e e' : Int) (l l' : List Int) (n : Nat) (q : Bool) (k : Nat) : Prop := (q = true → e = e' ∧ l.length = l'.length ∧ l.take k = l'.take k) ∧ (q = false → ¬ (e = e' ∧ l = l')) ∧ k ≤ n
theorem alK_end {e e' : Int} {l l' : List Int} {n : Nat} {q : Bool} {k : Nat} (h : AlK e e' l l' n q k) (hn : l.length = n) (hk : ¬ (q = true ∧ k < n)) : ((strOfNums (showL e l)).toList == (strOfNums (showL e' l')).toList) = q := by
  have hB : ∀ e l, IsB (showL e l) := showL_isB
  cases q with
  | true =>
    have hk' : k = n := by have := h.2.2; have : ¬ k < n := fun hc => hk ⟨rfl, hc⟩; omega
    obtain ⟨rfl, h2, h3⟩ := h.1 rfl
    subst hk'
    rw [List.take_of_length_le (by omega), List.take_of_length_le (by omega)] at h3
    subst h3; simp
  | false =>
    have h1 := h.2.1 rfl
    rw [beq_eq_false_iff_ne]
    intro hc
    rw [ByteArray.toList_eq, ByteArray.toList_eq] at hc
    have := (strOfNums_inj (hB _ _) (hB _ _)).1 (bytes_ext' hc)
    exact h1 (show_inj this)
theorem alK_step {e e' : Int} {l l' : List Int} {n k : Nat} {x x' : Int} (h : AlK e e' l l' n true k) (hn : l.length = n) (hk : k < n) (hx : l[k]? = some x) (hx' : l'[k]? = some x') : AlK e e' l l' n (x == x') (k + 1) := by
  obtain ⟨h1, h2, h3⟩ := h.1 rfl
  refine ⟨fun hq => ⟨h1, h2, ?_⟩, fun hq hc => ?_, hk⟩
  · rw [List.take_add_one, List.take_add_one, h3, hx, hx', show x = x' by simpa using hq]
  · rw [hc.2, hx'] at hx
    have : x' = x := Option.some.inj hx
    subst this; simp at hq
theorem alK_0 {e e' : Int} {l l' : List Int} {n n' : Nat} (hn : l.length = n) (hn' : l'.length = n') : AlK e e' l l' n (decide (e = e') && decide ((n : Int) = (n' : Int))) 0 := by
  refine ⟨fun hq => ?_, fun hq hc => ?_, Nat.zero_le _⟩
  · simp at hq
    exact ⟨hq.1, by omega, rfl⟩
  · obtain ⟨rfl, rfl⟩ := hc
    have : n = n' := hn.symm.trans hn'
    subst this; simp at hq
set_option maxHeartbeats 4000000 in
set_option maxRecDepth 100000 in
theorem shows_law (e1 e2 : Int) (s1 s2 : Sx Int) (w : World) (hs1 : Sx.Ok iC 1 w s1) (hs2 : Sx.Ok iC 1 w s2) (he1 : I64 e1) (he2 : I64 e2) (hn1 : ∀ z ∈ s1.xs, I64 z) (hn2 : ∀ z ∈ s2.xs, I64 z) (hb1 : s1.n ≤ maxLen) (hb2 : s2.n ≤ maxLen) (ht : P10 w) :
    Calls Tryd.prog 3 #[aV (reC e1 s1.v), aV (reC e2 s2.v)] w fun e w' => e = .returned (.bool true) ∧ Below w.heap.size w w' := by
  obtain ⟨a, n, c, l⟩ := s1
  obtain ⟨b, m, d, l'⟩ := s2
  have hl : l.length = n := hs1.len
  have hl' : l'.length = m := hs2.len
  have hbn : n ≤ maxLen := hb1
  have hbm : m ≤ maxLen := hb2
  unfold maxLen at hbn hbm
  simp only [Sx.v]
  have hKo : ∀ v, Old w v → (fun w9 => (Sx.Ok iC 1 w9 ⟨a, n, c, l⟩ ∧ Sx.Ok iC 1 w9 ⟨b, m, d, l'⟩) ∧ P10 w9) v := fun v ho => ⟨⟨hs1.old ho, hs2.old ho⟩, p10_old ht ho⟩
  have hS := Hs17.begin w (fun w9 => (Sx.Ok iC 1 w9 ⟨a, n, c, l⟩ ∧ Sx.Ok iC 1 w9 ⟨b, m, d, l'⟩) ∧ P10 w9) hKo
  have HL := hide hl
  have HL' := hide hl'
  have HN1 := hide hn1
  have HN2 := hide hn2
  clear hs1 hs2 hl hl' hn1 hn2 hb1 hb2 ht hKo
  go_enter Tryd.func3, Tryd.ntmps3
  go_upto_region 0 with fail
  refine wp_region_lit ?_
  refine wl_box (by kernel_rfl) 25 (.tmp 0) rfl (reC e1 (.slice a n c)) rfl hS ?_
  clear hS
  intro g1 w1 hS
  simp [Act.put]
  refine wl_box (by kernel_rfl) 25 (.tmp 1) rfl (reC e2 (.slice b m d)) rfl hS ?_
  clear hS
  intro g2 w2 hS
  simp [Act.put]
  refine wl (by kernel_rfl) fun kQ hkQ => ?_
  go_simp
  refine hkQ _ _ ?_
  clear hkQ kQ
  refine wpList_nil ?_
  by_cases h1 : 8192 < n
  · have h1z : (8192 : Int) < (n : Int) := by omega
    go_upto_region 1 with fail
    refine wp_region_lit ?_
    refine wl (by kernel_rfl) fun kQ hkQ => ?_
    go_simp
    refine hkQ _ _ ?_
    clear hkQ kQ
    refine wl_load1 (by kernel_rfl) 23 (.tmp 7) rfl 1 rfl 1 rfl ((.slice a n c)) (at_Y1 e1 (.slice a n c)) Tryd.underlying23 rfl hS ?_
    simp [Act.put]
    refine wl (by kernel_rfl) fun kQ hkQ => ?_
    go_simp
    refine hkQ _ _ ?_
    clear hkQ kQ
    refine wl (by kernel_rfl) fun kQ hkQ => ?_
    go_simp
    refine hkQ _ _ ?_
    clear hkQ kQ
    refine wl (by kernel_rfl) fun kQ hkQ => ?_
    go_simp
    refine hkQ _ _ ?_
    clear hkQ kQ
    refine wl_skip (by kernel_rfl) ?_
    simp [Act.put]
    refine wl_skip (by kernel_rfl) ?_
    simp [Act.put]
    refine wl_skip (by kernel_rfl) ?_
    simp [Act.put]
    refine wl_skip (by kernel_rfl) ?_
    simp [Act.put]
    refine wl (by kernel_rfl) fun kQ hkQ => ?_
    go_simp
    refine hkQ _ _ ?_
    clear hkQ kQ
    refine wpList_nil ?_
    go_upto_region 2 with fail
    refine wp_region_lit ?_
    refine wl (by kernel_rfl) fun kQ hkQ => ?_
    go_simp
    refine hkQ _ _ ?_
    clear hkQ kQ
    refine wpList_nil ?_
    go_wp2_with fail
    go_ret
    exact ⟨rfl, hS.bel⟩
  have h1z : ¬ (8192 : Int) < (n : Int) := by omega
  by_cases h2 : 8192 < m
  · have h2z : (8192 : Int) < (m : Int) := by omega
    go_upto_region 1 with fail
    refine wp_region_lit ?_
    refine wl (by kernel_rfl) fun kQ hkQ => ?_
    go_simp
    refine hkQ _ _ ?_
    clear hkQ kQ
    refine wl_load1 (by kernel_rfl) 23 (.tmp 7) rfl 1 rfl 1 rfl ((.slice a n c)) (at_Y1 e1 (.slice a n c)) Tryd.underlying23 rfl hS ?_
    simp [Act.put]
    refine wl (by kernel_rfl) fun kQ hkQ => ?_
    go_simp
    refine hkQ _ _ ?_
    clear hkQ kQ
    refine wl (by kernel_rfl) fun kQ hkQ => ?_
    go_simp
    refine hkQ _ _ ?_
    clear hkQ kQ
    refine wl (by kernel_rfl) fun kQ hkQ => ?_
    go_simp
    refine hkQ _ _ ?_
    clear hkQ kQ
    refine wl (by kernel_rfl) fun kQ hkQ => ?_
    go_simp
    refine hkQ _ _ ?_
    clear hkQ kQ
    refine wl_load1 (by kernel_rfl) 23 (.tmp 12) rfl 0 rfl 1 rfl ((.slice b m d)) (at_Y1 e2 (.slice b m d)) Tryd.underlying23 rfl hS ?_
    simp [Act.put]
    refine wl (by kernel_rfl) fun kQ hkQ => ?_
    go_simp
    refine hkQ _ _ ?_
    clear hkQ kQ
    refine wl (by kernel_rfl) fun kQ hkQ => ?_
    go_simp
    refine hkQ _ _ ?_
    clear hkQ kQ
    refine wl (by kernel_rfl) fun kQ hkQ => ?_
    go_simp
    refine hkQ _ _ ?_
    clear hkQ kQ
    refine wpList_nil ?_
    go_upto_region 2 with fail
    refine wp_region_lit ?_
    refine wl (by kernel_rfl) fun kQ hkQ => ?_
    go_simp
    refine hkQ _ _ ?_
    clear hkQ kQ
    refine wpList_nil ?_
    go_wp2_with fail
    go_ret
    exact ⟨rfl, hS.bel⟩
  have h2z : ¬ (8192 : Int) < (m : Int) := by omega
  go_upto_region 1 with fail
  refine wp_region_lit ?_
  refine wl (by kernel_rfl) fun kQ hkQ => ?_
  go_simp
  refine hkQ _ _ ?_
  clear hkQ kQ
  refine wl_load1 (by kernel_rfl) 23 (.tmp 7) rfl 1 rfl 1 rfl ((.slice a n c)) (at_Y1 e1 (.slice a n c)) Tryd.underlying23 rfl hS ?_
  simp [Act.put]
  refine wl (by kernel_rfl) fun kQ hkQ => ?_
  go_simp
  refine hkQ _ _ ?_
  clear hkQ kQ
  refine wl (by kernel_rfl) fun kQ hkQ => ?_
  go_simp
  refine hkQ _ _ ?_
  clear hkQ kQ
  refine wl (by kernel_rfl) fun kQ hkQ => ?_
  go_simp
  refine hkQ _ _ ?_
  clear hkQ kQ
  refine wl (by kernel_rfl) fun kQ hkQ => ?_
  go_simp
  refine hkQ _ _ ?_
  clear hkQ kQ
  refine wl_load1 (by kernel_rfl) 23 (.tmp 12) rfl 0 rfl 1 rfl ((.slice b m d)) (at_Y1 e2 (.slice b m d)) Tryd.underlying23 rfl hS ?_
  simp [Act.put]
  refine wl (by kernel_rfl) fun kQ hkQ => ?_
  go_simp
  refine hkQ _ _ ?_
  clear hkQ kQ
  refine wl (by kernel_rfl) fun kQ hkQ => ?_
  go_simp
  refine hkQ _ _ ?_
  clear hkQ kQ
  refine wl (by kernel_rfl) fun kQ hkQ => ?_
  go_simp
  refine hkQ _ _ ?_
  clear hkQ kQ
  refine wpList_nil ?_
  clear h1z h2z
  have hA0 : Hid (AlK e1 e2 l l' n (decide (e1 = e2) && decide ((n : Int) = (m : Int))) 0) := hide (alK_0 (unhide HL) (unhide HL'))
  obtain ⟨q0, hq0⟩ : ∃ q : Bool, (decide (e1 = e2) && decide ((n : Int) = (m : Int))) = q := ⟨_, rfl⟩
  rw [hq0] at hA0
  by_cases he : e1 = e2
  · have hee : (e1 == e2) = true := by simpa using he
    obtain ⟨q1, hq1⟩ : ∃ q : Bool, decide ((n : Int) = (m : Int)) = q := ⟨_, rfl⟩
    have hq1' : ((n : Int) == (m : Int)) = q1 := by rw [← hq1]; rfl
    have hq0' : q1 = q0 := by rw [← hq0, hq1]; simp [he]
    subst hq0'
    clear hq0 hq1
    go_upto_region 3 with fail
    refine wp_region_lit ?_
    refine wl (by kernel_rfl) fun kQ hkQ => ?_
    go_simp
    refine hkQ _ _ ?_
    clear hkQ kQ
    refine wl_load1 (by kernel_rfl) 22 (.tmp 17) rfl 1 rfl 0 rfl (.int .i64 e1) (at_Y0 e1 (.slice a n c)) Tryd.underlying22 rfl hS ?_
    simp [Act.put]
    refine wl (by kernel_rfl) fun kQ hkQ => ?_
    go_simp
    refine hkQ _ _ ?_
    clear hkQ kQ
    refine wl_load1 (by kernel_rfl) 22 (.tmp 19) rfl 0 rfl 0 rfl (.int .i64 e2) (at_Y0 e2 (.slice b m d)) Tryd.underlying22 rfl hS ?_
    simp [Act.put]
    refine wl (by kernel_rfl) fun kQ hkQ => ?_
    go_simp
    refine hkQ _ _ ?_
    clear hkQ kQ
    refine wl (by kernel_rfl) fun kQ hkQ => ?_
    go_simp
    refine hkQ _ _ ?_
    clear hkQ kQ
    refine wl (by kernel_rfl) fun kQ hkQ => ?_
    go_simp
    refine hkQ _ _ ?_
    clear hkQ kQ
    refine wl_load1 (by kernel_rfl) 23 (.tmp 23) rfl 1 rfl 1 rfl ((.slice a n c)) (at_Y1 e1 (.slice a n c)) Tryd.underlying23 rfl hS ?_
    simp [Act.put]
    refine wl (by kernel_rfl) fun kQ hkQ => ?_
    go_simp
    refine hkQ _ _ ?_
    clear hkQ kQ
    refine wl (by kernel_rfl) fun kQ hkQ => ?_
    go_simp
    refine hkQ _ _ ?_
    clear hkQ kQ
    refine wl_load1 (by kernel_rfl) 23 (.tmp 26) rfl 0 rfl 1 rfl ((.slice b m d)) (at_Y1 e2 (.slice b m d)) Tryd.underlying23 rfl hS ?_
    simp [Act.put]
    refine wl (by kernel_rfl) fun kQ hkQ => ?_
    go_simp
    refine hkQ _ _ ?_
    clear hkQ kQ
    refine wl (by kernel_rfl) fun kQ hkQ => ?_
    go_simp
    refine hkQ _ _ ?_
    clear hkQ kQ
    refine wl (by kernel_rfl) fun kQ hkQ => ?_
    go_simp
    refine hkQ _ _ ?_
    clear hkQ kQ
    refine wl (by kernel_rfl) fun kQ hkQ => ?_
    go_simp
    refine hkQ _ _ ?_
    clear hkQ kQ
    refine wpList_nil ?_
    clear hq1' hee he
    go_upto_region 4 with fail
    refine wp_region_lit ?_
    refine wl (by kernel_rfl) fun kQ hkQ => ?_
    go_simp
    refine hkQ _ _ ?_
    clear hkQ kQ
    refine wpList_nil ?_
    go_wp2_with fail
    go_loopw [5, 6] (fun vq vi wr => ∃ (q : Bool) (k : Nat), vq = .bool q ∧ vi = .int .i64 k ∧ Hid (AlK e1 e2 l l' n q k) ∧ Hs17 w [(g2, 25, (reC e2 (.slice b m d))), (g1, 25, (reC e1 (.slice a n c)))] (fun w9 => (Sx.Ok iC 1 w9 ⟨a, n, c, l⟩ ∧ Sx.Ok iC 1 w9 ⟨b, m, d, l'⟩) ∧ P10 w9) wr) (fun _ vi _ => n - (intOf vi).toNat)
    case atStart => exact ⟨q1, 0, rfl, rfl, hA0, hS⟩
    case round =>
      clear hS hA0
      obtain ⟨q, k, rfl, rfl, HA, hS⟩ := hrel
      have hk : k ≤ n := (unhide HA).2.2
      cases q with
      | false =>
        have hfin : ¬ (false = true ∧ k < n) := fun hc => by cases hc.1
        go_upto_region 5 with fail
        refine wp_region_lit ?_
        refine wl (by kernel_rfl) fun kQ hkQ => ?_
        go_simp
        refine hkQ _ _ ?_
        clear hkQ kQ
        refine wl (by kernel_rfl) fun kQ hkQ => ?_
        go_simp
        refine hkQ _ _ ?_
        clear hkQ kQ
        refine wl_skip (by kernel_rfl) ?_
        simp [Act.put]
        refine wl_skip (by kernel_rfl) ?_
        simp [Act.put]
        refine wl_skip (by kernel_rfl) ?_
        simp [Act.put]
        refine wl_skip (by kernel_rfl) ?_
        simp [Act.put]
        refine wl_skip (by kernel_rfl) ?_
        simp [Act.put]
        refine wl (by kernel_rfl) fun kQ hkQ => ?_
        go_simp
        refine hkQ _ _ ?_
        clear hkQ kQ
        refine wpList_nil ?_
        have hq : ((strOfNums (showL e1 l)).toList == (strOfNums (showL e2 l')).toList) = false := alK_end (unhide HA) (unhide HL) hfin
        obtain ⟨A, hA⟩ : ∃ A, strOfNums (showL e1 l) = A := ⟨_, rfl⟩
        obtain ⟨B, hB⟩ : ∃ B, strOfNums (showL e2 l') = B := ⟨_, rfl⟩
        have hok : strOfNums (showL 0 []) = ({ data := #[111, 107] } : ByteArray) := by kernel_rfl
        have hqq : (false == false) = true := by simp
        rw [hA, hB] at hq
        have CA : ∀ v, Hs17 w [] (fun w9 => (Sx.Ok iC 1 w9 ⟨a, n, c, l⟩ ∧ Sx.Ok iC 1 w9 ⟨b, m, d, l'⟩) ∧ P10 w9) v → Calls Tryd.prog 6 #[aV (reC e1 (.slice a n c))] v (fun e w' => e = .returned (.string A) ∧ Below v.heap.size v w') := fun v h => by
          have := show_any e1 ⟨a, n, c, l⟩ v h.K.1.1 he1 (unhide HN1) (show n ≤ 1048576 by omega) h.K.2
          rw [← hA]; exact this
        have CB : ∀ v, Hs17 w [] (fun w9 => (Sx.Ok iC 1 w9 ⟨a, n, c, l⟩ ∧ Sx.Ok iC 1 w9 ⟨b, m, d, l'⟩) ∧ P10 w9) v → Calls Tryd.prog 6 #[aV (reC e2 (.slice b m d))] v (fun e w' => e = .returned (.string B) ∧ Below v.heap.size v w') := fun v h => by
          have := show_any e2 ⟨b, m, d, l'⟩ v h.K.1.2 he2 (unhide HN2) (show m ≤ 1048576 by omega) h.K.2
          rw [← hB]; exact this
        have CZ : ∀ v, Hs17 w [] (fun w9 => (Sx.Ok iC 1 w9 ⟨a, n, c, l⟩ ∧ Sx.Ok iC 1 w9 ⟨b, m, d, l'⟩) ∧ P10 w9) v → Calls Tryd.prog 6 #[aV (reC 0 (.slice none 0 0))] v (fun e w' => e = .returned (.string { data := #[111, 107] }) ∧ Below v.heap.size v w') := fun v h => by
          have := show_any 0 ⟨none, 0, 0, []⟩ v sx_nil25 ⟨by omega, by omega⟩ (fun z hz => by simp at hz) (Nat.zero_le _) h.K.2
          rw [← hok]; exact this
        clear hA hB hok
        go_upto_region 8 with fail
        replace hS := hS.drew
        refine wp_region_held_drew (S := Hs17 w [(g2, 25, (reC e2 (.slice b m d))), (g1, 25, (reC e1 (.slice a n c)))] (fun w9 => (Sx.Ok iC 1 w9 ⟨a, n, c, l⟩ ∧ Sx.Ok iC 1 w9 ⟨b, m, d, l'⟩) ∧ P10 w9)) (by kernel_rfl) (hS.sub (((List.Sublist.slnil).cons_cons _).cons_cons _)) (fun hHeld => ?_)
        generalize World.drew _ = w61 at hS hHeld ⊢
        refine wpAnyH_take (i := 0) (oi := _) (v := aV (reC e1 (.slice a n c))) rfl (by kernel_rfl) (by kernel_rfl) (by kernel_rfl) (fun _ _ _ h => h) (yl_load (by kernel_rfl) 25 (.tmp 2) rfl 1 rfl 0 rfl (reC e1 (.slice a n c)) (At.self _) Tryd.underlying25 rfl (sz_Y _ _)) hHeld ?_
        simp [Act.put]
        refine wpAnyH_take (i := 2) (oi := _) (v := aV (reC e2 (.slice b m d))) rfl (by kernel_rfl) (by kernel_rfl) (by kernel_rfl) (fun _ _ _ h => h) (yl_load (by kernel_rfl) 25 (.tmp 3) rfl 0 rfl 0 rfl (reC e2 (.slice b m d)) (At.self _) Tryd.underlying25 rfl (sz_Y _ _)) hHeld ?_
        simp [Act.put]
        refine wpAnyH_take (i := 5) (oi := _) (v := .bool false) rfl (by kernel_rfl) (by kernel_rfl) (by kernel_rfl) (fun _ _ _ h => h) (Or.inl ⟨by rfl, fun w hSw => by go_simp⟩) hHeld ?_
        simp [Act.put]
        refine wpAnyH_ready (rs := [1]) (by kernel_rfl) (by simp) ?_
        refine (AllReadyH.cons rfl (fun kQ hkQ => ?_) AllReadyH.nil)
        go_simp
        refine (CA _ (hS.sub (List.nil_sublist _))).mono ?_
        rintro e w62 ⟨rfl, hb1⟩
        replace hS := hS.later hb1
        clear hHeld hb1
        refine hkQ.out _ _ (hS.sub (((List.Sublist.slnil).cons_cons _).cons_cons _)) (fun hHeld => ?_)
        clear hkQ kQ
        refine wpAnyH_ready (rs := [3]) (by kernel_rfl) (by simp) ?_
        refine (AllReadyH.cons rfl (fun kQ hkQ => ?_) AllReadyH.nil)
        go_simp
        refine (CB _ (hS.sub (List.nil_sublist _))).mono ?_
        rintro e w63 ⟨rfl, hb1⟩
        replace hS := hS.later hb1
        clear hHeld hb1
        refine hkQ.out _ _ (hS.sub (((List.Sublist.slnil).cons_cons _).cons_cons _)) (fun hHeld => ?_)
        clear hkQ kQ
        refine wpAnyH_take (i := 4) (oi := _) (v := .bool false) rfl (by kernel_rfl) (by kernel_rfl) (by kernel_rfl) (fun _ _ _ h => h) (Or.inl ⟨by rfl, fun w hSw => by go_simp⟩) hHeld ?_
        simp [Act.put]
        refine wpAnyH_take (i := 6) (oi := _) (v := .bool true) rfl (by kernel_rfl) (by kernel_rfl) (by kernel_rfl) (fun _ _ _ h => h) (Or.inl ⟨by rfl, fun w hSw => by go_simp⟩) hHeld ?_
        simp [Act.put]
        refine wpAnyH_take (i := 7) (oi := _) (v := .bool true) rfl (by kernel_rfl) (by kernel_rfl) (by kernel_rfl) (fun _ _ _ h => h) (Or.inl ⟨by rfl, fun w hSw => by go_simp⟩) hHeld ?_
        simp [Act.put]
        refine wpAnyH_take (i := 8) (oi := _) (v := aV (reC 0 (.slice none 0 0))) rfl (by kernel_rfl) (by kernel_rfl) (by kernel_rfl) (fun _ _ _ h => h) (yl_val (by kernel_rfl) _ (fun w => ex_build 25 #[] rfl (reC 0 (.slice none 0 0)) b_re0 rfl)) hHeld ?_
        simp [Act.put]
        refine wpAnyH_ready (rs := [9]) (by kernel_rfl) (by simp) ?_
        refine (AllReadyH.cons rfl (fun kQ hkQ => ?_) AllReadyH.nil)
        go_simp
        refine (CZ _ (hS.sub (List.nil_sublist _))).mono ?_
        rintro e w64 ⟨rfl, hb1⟩
        replace hS := hS.later hb1
        clear hHeld hb1
        refine hkQ.out _ _ (hS.sub (((List.Sublist.slnil).cons_cons _).cons_cons _)) (fun hHeld => ?_)
        clear hkQ kQ
        refine wpAnyH_take (i := 10) (oi := _) (v := .bool true) rfl (by kernel_rfl) (by kernel_rfl) (by kernel_rfl) (fun _ _ _ h => h) (Or.inl ⟨by rfl, fun w hSw => by go_simp⟩) hHeld ?_
        simp [Act.put]
        refine wpAnyH_take (i := 11) (oi := _) (v := .bool true) rfl (by kernel_rfl) (by kernel_rfl) (by kernel_rfl) (fun _ _ _ h => h) (Or.inl ⟨by rfl, fun w hSw => by go_simp⟩) hHeld ?_
        simp [Act.put]
        refine wpAnyH_take (i := 12) (oi := _) (v := .bool true) rfl (by kernel_rfl) (by kernel_rfl) (by kernel_rfl) (fun _ _ _ h => h) (Or.inl ⟨by rfl, fun w hSw => by go_simp⟩) hHeld ?_
        simp [Act.put]
        refine wpAnyH_done (by kernel_rfl) ?_ _
        clear hHeld
        go_wp2_with fail
        go_ret
        exact ⟨rfl, hS.bel⟩
      | true =>
        by_cases hlt : k < n
        · skip
          have hkz : (k : Int) < (n : Int) := by omega
          have hkl : k < l.length := by rw [unhide HL]; exact hlt
          have hll : l.length = l'.length := ((unhide HA).1 rfl).2.1
          have hkm : k < m := by rw [← unhide HL', ← hll]; exact hkl
          have hkzm : (k : Int) < (m : Int) := by omega
          have hkl' : k < l'.length := by omega
          obtain ⟨b1, o1, hb1, -, -⟩ := Sx.Ok.at_ hS.K.1.1 (i := k) (List.getElem?_eq_getElem hkl)
          obtain ⟨b2, o2, hb2, -, -⟩ := Sx.Ok.at_ hS.K.1.2 (i := k) (List.getElem?_eq_getElem hkl')
          have hb1' : a = some ⟨b1, o1, none⟩ := hb1
          have hb2' : b = some ⟨b2, o2, none⟩ := hb2
          subst hb1' hb2'
          obtain ⟨x, hx⟩ : ∃ x, l[k]? = some x := ⟨_, List.getElem?_eq_getElem hkl⟩
          obtain ⟨y, hy⟩ : ∃ y, l'[k]? = some y := ⟨_, List.getElem?_eq_getElem hkl'⟩
          have hcx : ∀ v, Sx.Ok iC 1 v ⟨some ⟨b1, o1, none⟩, n, c, l⟩ → v.cell? ⟨b1, o1 + k, none⟩ = some (.int .i64 x) := fun v hv => by
            obtain ⟨b3, o3, e3, -, h3⟩ := Sx.Ok.at_ hv (i := k) hx
            simp only [Option.some.injEq, Addr.mk.injEq] at e3
            obtain ⟨rfl, rfl, -⟩ := e3
            have h9 := h3 0 _ rfl
            simpa using h9
          have hcy : ∀ v, Sx.Ok iC 1 v ⟨some ⟨b2, o2, none⟩, m, d, l'⟩ → v.cell? ⟨b2, o2 + k, none⟩ = some (.int .i64 y) := fun v hv => by
            obtain ⟨b3, o3, e3, -, h3⟩ := Sx.Ok.at_ hv (i := k) hy
            simp only [Option.some.injEq, Addr.mk.injEq] at e3
            obtain ⟨rfl, rfl, -⟩ := e3
            have h9 := h3 0 _ rfl
            simpa using h9
          obtain ⟨r, hr⟩ : ∃ r : Bool, (x == y) = r := ⟨_, rfl⟩
          have HA' : Hid (AlK e1 e2 l l' n r (k + 1)) := hide (by rw [← hr]; exact alK_step (unhide HA) (unhide HL) hlt hx hy)
          clear hb1 hb2 hx hy hll hkl hkl'
          go_upto_region 5 with fail
          refine wp_region_lit ?_
          refine wl (by kernel_rfl) fun kQ hkQ => ?_
          go_simp
          refine hkQ _ _ ?_
          clear hkQ kQ
          refine wl (by kernel_rfl) fun kQ hkQ => ?_
          go_simp
          refine hkQ _ _ ?_
          clear hkQ kQ
          refine wl (by kernel_rfl) fun kQ hkQ => ?_
          go_simp
          refine hkQ _ _ ?_
          clear hkQ kQ
          refine wl (by kernel_rfl) fun kQ hkQ => ?_
          go_simp
          refine hkQ _ _ ?_
          clear hkQ kQ
          refine wl_load1 (by kernel_rfl) 23 (.tmp 34) rfl 1 rfl 1 rfl ((.slice (some ⟨b1, o1, none⟩) n c)) (at_Y1 e1 (.slice (some ⟨b1, o1, none⟩) n c)) Tryd.underlying23 rfl hS ?_
          simp [Act.put]
          refine wl (by kernel_rfl) fun kQ hkQ => ?_
          go_simp
          refine hkQ _ _ ?_
          clear hkQ kQ
          refine wl (by kernel_rfl) fun kQ hkQ => ?_
          go_simp
          refine hkQ _ _ ?_
          clear hkQ kQ
          refine wl (by kernel_rfl) fun kQ hkQ => ?_
          go_simp
          refine hkQ _ _ ?_
          clear hkQ kQ
          refine wpList_nil ?_
          go_upto_region 7 with fail
          replace hS := hS.drew
          refine wp_region_held_drew (S := Hs17 w [(g2, 25, (reC e2 (.slice (some ⟨b2, o2, none⟩) m d))), (g1, 25, (reC e1 (.slice (some ⟨b1, o1, none⟩) n c)))] (fun w9 => (Sx.Ok iC 1 w9 ⟨some ⟨b1, o1, none⟩, n, c, l⟩ ∧ Sx.Ok iC 1 w9 ⟨some ⟨b2, o2, none⟩, m, d, l'⟩) ∧ P10 w9)) (by kernel_rfl) (hS.sub (((List.Sublist.slnil).cons_cons _).cons_cons _)) (fun hHeld => ?_)
          generalize World.drew _ = w101 at hS hHeld ⊢
          refine wpAnyH_take (i := 0) (oi := _) (v := .pointer (some ⟨g1, 1, none⟩)) rfl (by kernel_rfl) (by kernel_rfl) (by kernel_rfl) (fun _ _ _ h => h) (Or.inl ⟨by rfl, fun w hSw => by go_simp⟩) hHeld ?_
          simp [Act.put]
          refine wpAnyH_take (i := 1) (oi := _) (v := (.slice (some ⟨b1, o1, none⟩) n c)) rfl (by kernel_rfl) (by kernel_rfl) (by kernel_rfl) (fun _ _ _ h => h) (yl_load1 (by kernel_rfl) 23 (.tmp 41) rfl 1 rfl 1 rfl ((.slice (some ⟨b1, o1, none⟩) n c)) (at_Y1 e1 (.slice (some ⟨b1, o1, none⟩) n c)) Tryd.underlying23 rfl) hHeld ?_
          simp [Act.put]
          refine wpAnyH_take (i := 2) (oi := _) (v := .int .i64 (k : Int)) rfl (by kernel_rfl) (by kernel_rfl) (by kernel_rfl) (fun _ _ _ h => h) (Or.inl ⟨by rfl, fun w hSw => by go_simp⟩) hHeld ?_
          simp [Act.put]
          refine wpAnyH_take (i := 3) (oi := _) (v := (.pointer (some ⟨b1, o1 + k, none⟩))) rfl (by kernel_rfl) (by kernel_rfl) (by kernel_rfl) (fun _ _ _ h => h) (Or.inl ⟨by rfl, fun w hSw => by go_simp⟩) hHeld ?_
          simp [Act.put]
          refine wpAnyH_take (i := 4) (oi := _) (v := .int .i64 x) rfl (by kernel_rfl) (by kernel_rfl) (by kernel_rfl) (fun _ _ _ h => h) (yl_loadC (by kernel_rfl) 2 (.tmp 44) rfl (b1) (o1 + k) rfl (.int .i64 x) (fun w hSw => hcx _ hSw.K.1.1) Tryd.underlying2 rfl) hHeld ?_
          simp [Act.put]
          refine wpAnyH_take (i := 5) (oi := _) (v := .pointer (some ⟨g2, 1, none⟩)) rfl (by kernel_rfl) (by kernel_rfl) (by kernel_rfl) (fun _ _ _ h => h) (Or.inl ⟨by rfl, fun w hSw => by go_simp⟩) hHeld ?_
          simp [Act.put]
          refine wpAnyH_take (i := 6) (oi := _) (v := (.slice (some ⟨b2, o2, none⟩) m d)) rfl (by kernel_rfl) (by kernel_rfl) (by kernel_rfl) (fun _ _ _ h => h) (yl_load1 (by kernel_rfl) 23 (.tmp 46) rfl 0 rfl 1 rfl ((.slice (some ⟨b2, o2, none⟩) m d)) (at_Y1 e2 (.slice (some ⟨b2, o2, none⟩) m d)) Tryd.underlying23 rfl) hHeld ?_
          simp [Act.put]
          refine wpAnyH_take (i := 7) (oi := _) (v := .int .i64 (k : Int)) rfl (by kernel_rfl) (by kernel_rfl) (by kernel_rfl) (fun _ _ _ h => h) (Or.inl ⟨by rfl, fun w hSw => by go_simp⟩) hHeld ?_
          simp [Act.put]
          refine wpAnyH_take (i := 8) (oi := _) (v := (.pointer (some ⟨b2, o2 + k, none⟩))) rfl (by kernel_rfl) (by kernel_rfl) (by kernel_rfl) (fun _ _ _ h => h) (Or.inl ⟨by rfl, fun w hSw => by go_simp⟩) hHeld ?_
          simp [Act.put]
          refine wpAnyH_take (i := 9) (oi := _) (v := .int .i64 y) rfl (by kernel_rfl) (by kernel_rfl) (by kernel_rfl) (fun _ _ _ h => h) (yl_loadC (by kernel_rfl) 2 (.tmp 49) rfl (b2) (o2 + k) rfl (.int .i64 y) (fun w hSw => hcy _ hSw.K.1.2) Tryd.underlying2 rfl) hHeld ?_
          simp [Act.put]
          refine wpAnyH_take (i := 10) (oi := _) (v := .bool r) rfl (by kernel_rfl) (by kernel_rfl) (by kernel_rfl) (fun _ _ _ h => h) (Or.inl ⟨by rfl, fun w hSw => by go_simp⟩) hHeld ?_
          simp [Act.put]
          refine wpAnyH_take (i := 11) (oi := _) (v := .bool r) rfl (by kernel_rfl) (by kernel_rfl) (by kernel_rfl) (fun _ _ _ h => h) (Or.inl ⟨by rfl, fun w hSw => by go_simp⟩) hHeld ?_
          simp [Act.put]
          refine wpAnyH_done (by kernel_rfl) ?_ _
          clear hHeld
          go_wp2_with fail
          go_roundw
          case rel => exact ⟨r, k + 1, rfl, by go_num, HA', hS⟩
          case measure => simp [intOf]; omega
        · skip
          have hkz : ¬ (k : Int) < (n : Int) := by omega
          have hfin : ¬ (true = true ∧ k < n) := fun hc => hlt hc.2
          go_upto_region 5 with fail
          refine wp_region_lit ?_
          refine wl (by kernel_rfl) fun kQ hkQ => ?_
          go_simp
          refine hkQ _ _ ?_
          clear hkQ kQ
          refine wl (by kernel_rfl) fun kQ hkQ => ?_
          go_simp
          refine hkQ _ _ ?_
          clear hkQ kQ
          refine wl (by kernel_rfl) fun kQ hkQ => ?_
          go_simp
          refine hkQ _ _ ?_
          clear hkQ kQ
          refine wl (by kernel_rfl) fun kQ hkQ => ?_
          go_simp
          refine hkQ _ _ ?_
          clear hkQ kQ
          refine wl_load1 (by kernel_rfl) 23 (.tmp 34) rfl 1 rfl 1 rfl ((.slice a n c)) (at_Y1 e1 (.slice a n c)) Tryd.underlying23 rfl hS ?_
          simp [Act.put]
          refine wl (by kernel_rfl) fun kQ hkQ => ?_
          go_simp
          refine hkQ _ _ ?_
          clear hkQ kQ
          refine wl (by kernel_rfl) fun kQ hkQ => ?_
          go_simp
          refine hkQ _ _ ?_
          clear hkQ kQ
          refine wl (by kernel_rfl) fun kQ hkQ => ?_
          go_simp
          refine hkQ _ _ ?_
          clear hkQ kQ
          refine wpList_nil ?_
          have hq : ((strOfNums (showL e1 l)).toList == (strOfNums (showL e2 l')).toList) = true := alK_end (unhide HA) (unhide HL) hfin
          obtain ⟨A, hA⟩ : ∃ A, strOfNums (showL e1 l) = A := ⟨_, rfl⟩
          obtain ⟨B, hB⟩ : ∃ B, strOfNums (showL e2 l') = B := ⟨_, rfl⟩
          have hok : strOfNums (showL 0 []) = ({ data := #[111, 107] } : ByteArray) := by kernel_rfl
          have hqq : (true == true) = true := by simp
          rw [hA, hB] at hq
          have CA : ∀ v, Hs17 w [] (fun w9 => (Sx.Ok iC 1 w9 ⟨a, n, c, l⟩ ∧ Sx.Ok iC 1 w9 ⟨b, m, d, l'⟩) ∧ P10 w9) v → Calls Tryd.prog 6 #[aV (reC e1 (.slice a n c))] v (fun e w' => e = .returned (.string A) ∧ Below v.heap.size v w') := fun v h => by
            have := show_any e1 ⟨a, n, c, l⟩ v h.K.1.1 he1 (unhide HN1) (show n ≤ 1048576 by omega) h.K.2
            rw [← hA]; exact this
          have CB : ∀ v, Hs17 w [] (fun w9 => (Sx.Ok iC 1 w9 ⟨a, n, c, l⟩ ∧ Sx.Ok iC 1 w9 ⟨b, m, d, l'⟩) ∧ P10 w9) v → Calls Tryd.prog 6 #[aV (reC e2 (.slice b m d))] v (fun e w' => e = .returned (.string B) ∧ Below v.heap.size v w') := fun v h => by
            have := show_any e2 ⟨b, m, d, l'⟩ v h.K.1.2 he2 (unhide HN2) (show m ≤ 1048576 by omega) h.K.2
            rw [← hB]; exact this
          have CZ : ∀ v, Hs17 w [] (fun w9 => (Sx.Ok iC 1 w9 ⟨a, n, c, l⟩ ∧ Sx.Ok iC 1 w9 ⟨b, m, d, l'⟩) ∧ P10 w9) v → Calls Tryd.prog 6 #[aV (reC 0 (.slice none 0 0))] v (fun e w' => e = .returned (.string { data := #[111, 107] }) ∧ Below v.heap.size v w') := fun v h => by
            have := show_any 0 ⟨none, 0, 0, []⟩ v sx_nil25 ⟨by omega, by omega⟩ (fun z hz => by simp at hz) (Nat.zero_le _) h.K.2
            rw [← hok]; exact this
          clear hA hB hok
          go_upto_region 8 with fail
          replace hS := hS.drew
          refine wp_region_held_drew (S := Hs17 w [(g2, 25, (reC e2 (.slice b m d))), (g1, 25, (reC e1 (.slice a n c)))] (fun w9 => (Sx.Ok iC 1 w9 ⟨a, n, c, l⟩ ∧ Sx.Ok iC 1 w9 ⟨b, m, d, l'⟩) ∧ P10 w9)) (by kernel_rfl) (hS.sub (((List.Sublist.slnil).cons_cons _).cons_cons _)) (fun hHeld => ?_)
          generalize World.drew _ = w161 at hS hHeld ⊢
          refine wpAnyH_take (i := 0) (oi := _) (v := aV (reC e1 (.slice a n c))) rfl (by kernel_rfl) (by kernel_rfl) (by kernel_rfl) (fun _ _ _ h => h) (yl_load (by kernel_rfl) 25 (.tmp 2) rfl 1 rfl 0 rfl (reC e1 (.slice a n c)) (At.self _) Tryd.underlying25 rfl (sz_Y _ _)) hHeld ?_
          simp [Act.put]
          refine wpAnyH_take (i := 2) (oi := _) (v := aV (reC e2 (.slice b m d))) rfl (by kernel_rfl) (by kernel_rfl) (by kernel_rfl) (fun _ _ _ h => h) (yl_load (by kernel_rfl) 25 (.tmp 3) rfl 0 rfl 0 rfl (reC e2 (.slice b m d)) (At.self _) Tryd.underlying25 rfl (sz_Y _ _)) hHeld ?_
          simp [Act.put]
          refine wpAnyH_take (i := 5) (oi := _) (v := .bool true) rfl (by kernel_rfl) (by kernel_rfl) (by kernel_rfl) (fun _ _ _ h => h) (Or.inl ⟨by rfl, fun w hSw => by go_simp⟩) hHeld ?_
          simp [Act.put]
          refine wpAnyH_ready (rs := [1]) (by kernel_rfl) (by simp) ?_
          refine (AllReadyH.cons rfl (fun kQ hkQ => ?_) AllReadyH.nil)
          go_simp
          refine (CA _ (hS.sub (List.nil_sublist _))).mono ?_
          rintro e w162 ⟨rfl, hb1⟩
          replace hS := hS.later hb1
          clear hHeld hb1
          refine hkQ.out _ _ (hS.sub (((List.Sublist.slnil).cons_cons _).cons_cons _)) (fun hHeld => ?_)
          clear hkQ kQ
          refine wpAnyH_ready (rs := [3]) (by kernel_rfl) (by simp) ?_
          refine (AllReadyH.cons rfl (fun kQ hkQ => ?_) AllReadyH.nil)
          go_simp
          refine (CB _ (hS.sub (List.nil_sublist _))).mono ?_
          rintro e w163 ⟨rfl, hb1⟩
          replace hS := hS.later hb1
          clear hHeld hb1
          refine hkQ.out _ _ (hS.sub (((List.Sublist.slnil).cons_cons _).cons_cons _)) (fun hHeld => ?_)
          clear hkQ kQ
          refine wpAnyH_take (i := 4) (oi := _) (v := .bool true) rfl (by kernel_rfl) (by kernel_rfl) (by kernel_rfl) (fun _ _ _ h => h) (Or.inl ⟨by rfl, fun w hSw => by go_simp⟩) hHeld ?_
          simp [Act.put]
          refine wpAnyH_take (i := 6) (oi := _) (v := .bool true) rfl (by kernel_rfl) (by kernel_rfl) (by kernel_rfl) (fun _ _ _ h => h) (Or.inl ⟨by rfl, fun w hSw => by go_simp⟩) hHeld ?_
          simp [Act.put]
          refine wpAnyH_take (i := 7) (oi := _) (v := .bool true) rfl (by kernel_rfl) (by kernel_rfl) (by kernel_rfl) (fun _ _ _ h => h) (Or.inl ⟨by rfl, fun w hSw => by go_simp⟩) hHeld ?_
          simp [Act.put]
          refine wpAnyH_take (i := 8) (oi := _) (v := aV (reC 0 (.slice none 0 0))) rfl (by kernel_rfl) (by kernel_rfl) (by kernel_rfl) (fun _ _ _ h => h) (yl_val (by kernel_rfl) _ (fun w => ex_build 25 #[] rfl (reC 0 (.slice none 0 0)) b_re0 rfl)) hHeld ?_
          simp [Act.put]
          refine wpAnyH_ready (rs := [9]) (by kernel_rfl) (by simp) ?_
          refine (AllReadyH.cons rfl (fun kQ hkQ => ?_) AllReadyH.nil)
          go_simp
          refine (CZ _ (hS.sub (List.nil_sublist _))).mono ?_
          rintro e w164 ⟨rfl, hb1⟩
          replace hS := hS.later hb1
          clear hHeld hb1
          refine hkQ.out _ _ (hS.sub (((List.Sublist.slnil).cons_cons _).cons_cons _)) (fun hHeld => ?_)
          clear hkQ kQ
          refine wpAnyH_take (i := 10) (oi := _) (v := .bool true) rfl (by kernel_rfl) (by kernel_rfl) (by kernel_rfl) (fun _ _ _ h => h) (Or.inl ⟨by rfl, fun w hSw => by go_simp⟩) hHeld ?_
          simp [Act.put]
          refine wpAnyH_take (i := 11) (oi := _) (v := .bool true) rfl (by kernel_rfl) (by kernel_rfl) (by kernel_rfl) (fun _ _ _ h => h) (Or.inl ⟨by rfl, fun w hSw => by go_simp⟩) hHeld ?_
          simp [Act.put]
          refine wpAnyH_take (i := 12) (oi := _) (v := .bool true) rfl (by kernel_rfl) (by kernel_rfl) (by kernel_rfl) (fun _ _ _ h => h) (Or.inl ⟨by rfl, fun w hSw => by go_simp⟩) hHeld ?_
          simp [Act.put]
          refine wpAnyH_done (by kernel_rfl) ?_ _
          clear hHeld
          go_wp2_with fail
          go_ret
          exact ⟨rfl, hS.bel⟩
  · have hee : (e1 == e2) = false := by simpa using he
    have hq0' : false = q0 := by rw [← hq0]; simp [he]
    subst hq0'
    clear hq0
    go_upto_region 3 with fail
    refine wp_region_lit ?_
    refine wl (by kernel_rfl) fun kQ hkQ => ?_
    go_simp
    refine hkQ _ _ ?_
    clear hkQ kQ
    refine wl_load1 (by kernel_rfl) 22 (.tmp 17) rfl 1 rfl 0 rfl (.int .i64 e1) (at_Y0 e1 (.slice a n c)) Tryd.underlying22 rfl hS ?_
    simp [Act.put]
    refine wl (by kernel_rfl) fun kQ hkQ => ?_
    go_simp
    refine hkQ _ _ ?_
    clear hkQ kQ
    refine wl_load1 (by kernel_rfl) 22 (.tmp 19) rfl 0 rfl 0 rfl (.int .i64 e2) (at_Y0 e2 (.slice b m d)) Tryd.underlying22 rfl hS ?_
    simp [Act.put]
    refine wl (by kernel_rfl) fun kQ hkQ => ?_
    go_simp
    refine hkQ _ _ ?_
    clear hkQ kQ
    refine wl (by kernel_rfl) fun kQ hkQ => ?_
    go_simp
    refine hkQ _ _ ?_
    clear hkQ kQ
    refine wl_skip (by kernel_rfl) ?_
    simp [Act.put]
    refine wl_skip (by kernel_rfl) ?_
    simp [Act.put]
    refine wl_skip (by kernel_rfl) ?_
    simp [Act.put]
    refine wl_skip (by kernel_rfl) ?_
    simp [Act.put]
    refine wl_skip (by kernel_rfl) ?_
    simp [Act.put]
    refine wl_skip (by kernel_rfl) ?_
    simp [Act.put]
    refine wl_skip (by kernel_rfl) ?_
    simp [Act.put]
    refine wl (by kernel_rfl) fun kQ hkQ => ?_
    go_simp
    refine hkQ _ _ ?_
    clear hkQ kQ
    refine wl (by kernel_rfl) fun kQ hkQ => ?_
    go_simp
    refine hkQ _ _ ?_
    clear hkQ kQ
    refine wpList_nil ?_
    clear hee he
    go_upto_region 4 with fail
    refine wp_region_lit ?_
    refine wl (by kernel_rfl) fun kQ hkQ => ?_
    go_simp
    refine hkQ _ _ ?_
    clear hkQ kQ
    refine wpList_nil ?_
    go_wp2_with fail
    go_loopw [5, 6] (fun vq vi wr => ∃ (q : Bool) (k : Nat), vq = .bool q ∧ vi = .int .i64 k ∧ Hid (AlK e1 e2 l l' n q k) ∧ Hs17 w [(g2, 25, (reC e2 (.slice b m d))), (g1, 25, (reC e1 (.slice a n c)))] (fun w9 => (Sx.Ok iC 1 w9 ⟨a, n, c, l⟩ ∧ Sx.Ok iC 1 w9 ⟨b, m, d, l'⟩) ∧ P10 w9) wr) (fun _ vi _ => n - (intOf vi).toNat)
    case atStart => exact ⟨false, 0, rfl, rfl, hA0, hS⟩
    case round =>
      clear hS hA0
      obtain ⟨q, k, rfl, rfl, HA, hS⟩ := hrel
      have hk : k ≤ n := (unhide HA).2.2
      cases q with
      | false =>
        have hfin : ¬ (false = true ∧ k < n) := fun hc => by cases hc.1
        go_upto_region 5 with fail
        refine wp_region_lit ?_
        refine wl (by kernel_rfl) fun kQ hkQ => ?_
        go_simp
        refine hkQ _ _ ?_
        clear hkQ kQ
        refine wl (by kernel_rfl) fun kQ hkQ => ?_
        go_simp
        refine hkQ _ _ ?_
        clear hkQ kQ
        refine wl_skip (by kernel_rfl) ?_
        simp [Act.put]
        refine wl_skip (by kernel_rfl) ?_
        simp [Act.put]
        refine wl_skip (by kernel_rfl) ?_
        simp [Act.put]
        refine wl_skip (by kernel_rfl) ?_
        simp [Act.put]
        refine wl_skip (by kernel_rfl) ?_
        simp [Act.put]
        refine wl (by kernel_rfl) fun kQ hkQ => ?_
        go_simp
        refine hkQ _ _ ?_
        clear hkQ kQ
        refine wpList_nil ?_
        have hq : ((strOfNums (showL e1 l)).toList == (strOfNums (showL e2 l')).toList) = false := alK_end (unhide HA) (unhide HL) hfin
        obtain ⟨A, hA⟩ : ∃ A, strOfNums (showL e1 l) = A := ⟨_, rfl⟩
        obtain ⟨B, hB⟩ : ∃ B, strOfNums (showL e2 l') = B := ⟨_, rfl⟩
        have hok : strOfNums (showL 0 []) = ({ data := #[111, 107] } : ByteArray) := by kernel_rfl
        have hqq : (false == false) = true := by simp
        rw [hA, hB] at hq
        have CA : ∀ v, Hs17 w [] (fun w9 => (Sx.Ok iC 1 w9 ⟨a, n, c, l⟩ ∧ Sx.Ok iC 1 w9 ⟨b, m, d, l'⟩) ∧ P10 w9) v → Calls Tryd.prog 6 #[aV (reC e1 (.slice a n c))] v (fun e w' => e = .returned (.string A) ∧ Below v.heap.size v w') := fun v h => by
          have := show_any e1 ⟨a, n, c, l⟩ v h.K.1.1 he1 (unhide HN1) (show n ≤ 1048576 by omega) h.K.2
          rw [← hA]; exact this
        have CB : ∀ v, Hs17 w [] (fun w9 => (Sx.Ok iC 1 w9 ⟨a, n, c, l⟩ ∧ Sx.Ok iC 1 w9 ⟨b, m, d, l'⟩) ∧ P10 w9) v → Calls Tryd.prog 6 #[aV (reC e2 (.slice b m d))] v (fun e w' => e = .returned (.string B) ∧ Below v.heap.size v w') := fun v h => by
          have := show_any e2 ⟨b, m, d, l'⟩ v h.K.1.2 he2 (unhide HN2) (show m ≤ 1048576 by omega) h.K.2
          rw [← hB]; exact this
        have CZ : ∀ v, Hs17 w [] (fun w9 => (Sx.Ok iC 1 w9 ⟨a, n, c, l⟩ ∧ Sx.Ok iC 1 w9 ⟨b, m, d, l'⟩) ∧ P10 w9) v → Calls Tryd.prog 6 #[aV (reC 0 (.slice none 0 0))] v (fun e w' => e = .returned (.string { data := #[111, 107] }) ∧ Below v.heap.size v w') := fun v h => by
          have := show_any 0 ⟨none, 0, 0, []⟩ v sx_nil25 ⟨by omega, by omega⟩ (fun z hz => by simp at hz) (Nat.zero_le _) h.K.2
          rw [← hok]; exact this
        clear hA hB hok
        go_upto_region 8 with fail
        replace hS := hS.drew
        refine wp_region_held_drew (S := Hs17 w [(g2, 25, (reC e2 (.slice b m d))), (g1, 25, (reC e1 (.slice a n c)))] (fun w9 => (Sx.Ok iC 1 w9 ⟨a, n, c, l⟩ ∧ Sx.Ok iC 1 w9 ⟨b, m, d, l'⟩) ∧ P10 w9)) (by kernel_rfl) (hS.sub (((List.Sublist.slnil).cons_cons _).cons_cons _)) (fun hHeld => ?_)
        generalize World.drew _ = w61 at hS hHeld ⊢
        refine wpAnyH_take (i := 0) (oi := _) (v := aV (reC e1 (.slice a n c))) rfl (by kernel_rfl) (by kernel_rfl) (by kernel_rfl) (fun _ _ _ h => h) (yl_load (by kernel_rfl) 25 (.tmp 2) rfl 1 rfl 0 rfl (reC e1 (.slice a n c)) (At.self _) Tryd.underlying25 rfl (sz_Y _ _)) hHeld ?_
        simp [Act.put]
        refine wpAnyH_take (i := 2) (oi := _) (v := aV (reC e2 (.slice b m d))) rfl (by kernel_rfl) (by kernel_rfl) (by kernel_rfl) (fun _ _ _ h => h) (yl_load (by kernel_rfl) 25 (.tmp 3) rfl 0 rfl 0 rfl (reC e2 (.slice b m d)) (At.self _) Tryd.underlying25 rfl (sz_Y _ _)) hHeld ?_
        simp [Act.put]
        refine wpAnyH_take (i := 5) (oi := _) (v := .bool false) rfl (by kernel_rfl) (by kernel_rfl) (by kernel_rfl) (fun _ _ _ h => h) (Or.inl ⟨by rfl, fun w hSw => by go_simp⟩) hHeld ?_
        simp [Act.put]
        refine wpAnyH_ready (rs := [1]) (by kernel_rfl) (by simp) ?_
        refine (AllReadyH.cons rfl (fun kQ hkQ => ?_) AllReadyH.nil)
        go_simp
        refine (CA _ (hS.sub (List.nil_sublist _))).mono ?_
        rintro e w62 ⟨rfl, hb1⟩
        replace hS := hS.later hb1
        clear hHeld hb1
        refine hkQ.out _ _ (hS.sub (((List.Sublist.slnil).cons_cons _).cons_cons _)) (fun hHeld => ?_)
        clear hkQ kQ
        refine wpAnyH_ready (rs := [3]) (by kernel_rfl) (by simp) ?_
        refine (AllReadyH.cons rfl (fun kQ hkQ => ?_) AllReadyH.nil)
        go_simp
        refine (CB _ (hS.sub (List.nil_sublist _))).mono ?_
        rintro e w63 ⟨rfl, hb1⟩
        replace hS := hS.later hb1
        clear hHeld hb1
        refine hkQ.out _ _ (hS.sub (((List.Sublist.slnil).cons_cons _).cons_cons _)) (fun hHeld => ?_)
        clear hkQ kQ
        refine wpAnyH_take (i := 4) (oi := _) (v := .bool false) rfl (by kernel_rfl) (by kernel_rfl) (by kernel_rfl) (fun _ _ _ h => h) (Or.inl ⟨by rfl, fun w hSw => by go_simp⟩) hHeld ?_
        simp [Act.put]
        refine wpAnyH_take (i := 6) (oi := _) (v := .bool true) rfl (by kernel_rfl) (by kernel_rfl) (by kernel_rfl) (fun _ _ _ h => h) (Or.inl ⟨by rfl, fun w hSw => by go_simp⟩) hHeld ?_
        simp [Act.put]
        refine wpAnyH_take (i := 7) (oi := _) (v := .bool true) rfl (by kernel_rfl) (by kernel_rfl) (by kernel_rfl) (fun _ _ _ h => h) (Or.inl ⟨by rfl, fun w hSw => by go_simp⟩) hHeld ?_
        simp [Act.put]
        refine wpAnyH_take (i := 8) (oi := _) (v := aV (reC 0 (.slice none 0 0))) rfl (by kernel_rfl) (by kernel_rfl) (by kernel_rfl) (fun _ _ _ h => h) (yl_val (by kernel_rfl) _ (fun w => ex_build 25 #[] rfl (reC 0 (.slice none 0 0)) b_re0 rfl)) hHeld ?_
        simp [Act.put]
        refine wpAnyH_ready (rs := [9]) (by kernel_rfl) (by simp) ?_
        refine (AllReadyH.cons rfl (fun kQ hkQ => ?_) AllReadyH.nil)
        go_simp
        refine (CZ _ (hS.sub (List.nil_sublist _))).mono ?_
        rintro e w64 ⟨rfl, hb1⟩
        replace hS := hS.later hb1
        clear hHeld hb1
        refine hkQ.out _ _ (hS.sub (((List.Sublist.slnil).cons_cons _).cons_cons _)) (fun hHeld => ?_)
        clear hkQ kQ
        refine wpAnyH_take (i := 10) (oi := _) (v := .bool true) rfl (by kernel_rfl) (by kernel_rfl) (by kernel_rfl) (fun _ _ _ h => h) (Or.inl ⟨by rfl, fun w hSw => by go_simp⟩) hHeld ?_
        simp [Act.put]
        refine wpAnyH_take (i := 11) (oi := _) (v := .bool true) rfl (by kernel_rfl) (by kernel_rfl) (by kernel_rfl) (fun _ _ _ h => h) (Or.inl ⟨by rfl, fun w hSw => by go_simp⟩) hHeld ?_
        simp [Act.put]
        refine wpAnyH_take (i := 12) (oi := _) (v := .bool true) rfl (by kernel_rfl) (by kernel_rfl) (by kernel_rfl) (fun _ _ _ h => h) (Or.inl ⟨by rfl, fun w hSw => by go_simp⟩) hHeld ?_
        simp [Act.put]
        refine wpAnyH_done (by kernel_rfl) ?_ _
        clear hHeld
        go_wp2_with fail
        go_ret
        exact ⟨rfl, hS.bel⟩
      | true =>
        by_cases hlt : k < n
        · skip
          have hkz : (k : Int) < (n : Int) := by omega
          have hkl : k < l.length := by rw [unhide HL]; exact hlt
          have hll : l.length = l'.length := ((unhide HA).1 rfl).2.1
          have hkm : k < m := by rw [← unhide HL', ← hll]; exact hkl
          have hkzm : (k : Int) < (m : Int) := by omega
          have hkl' : k < l'.length := by omega
          obtain ⟨b1, o1, hb1, -, -⟩ := Sx.Ok.at_ hS.K.1.1 (i := k) (List.getElem?_eq_getElem hkl)
          obtain ⟨b2, o2, hb2, -, -⟩ := Sx.Ok.at_ hS.K.1.2 (i := k) (List.getElem?_eq_getElem hkl')
          have hb1' : a = some ⟨b1, o1, none⟩ := hb1
          have hb2' : b = some ⟨b2, o2, none⟩ := hb2
          subst hb1' hb2'
          obtain ⟨x, hx⟩ : ∃ x, l[k]? = some x := ⟨_, List.getElem?_eq_getElem hkl⟩
          obtain ⟨y, hy⟩ : ∃ y, l'[k]? = some y := ⟨_, List.getElem?_eq_getElem hkl'⟩
          have hcx : ∀ v, Sx.Ok iC 1 v ⟨some ⟨b1, o1, none⟩, n, c, l⟩ → v.cell? ⟨b1, o1 + k, none⟩ = some (.int .i64 x) := fun v hv => by
            obtain ⟨b3, o3, e3, -, h3⟩ := Sx.Ok.at_ hv (i := k) hx
            simp only [Option.some.injEq, Addr.mk.injEq] at e3
            obtain ⟨rfl, rfl, -⟩ := e3
            have h9 := h3 0 _ rfl
            simpa using h9
          have hcy : ∀ v, Sx.Ok iC 1 v ⟨some ⟨b2, o2, none⟩, m, d, l'⟩ → v.cell? ⟨b2, o2 + k, none⟩ = some (.int .i64 y) := fun v hv => by
            obtain ⟨b3, o3, e3, -, h3⟩ := Sx.Ok.at_ hv (i := k) hy
            simp only [Option.some.injEq, Addr.mk.injEq] at e3
            obtain ⟨rfl, rfl, -⟩ := e3
            have h9 := h3 0 _ rfl
            simpa using h9
          obtain ⟨r, hr⟩ : ∃ r : Bool, (x == y) = r := ⟨_, rfl⟩
          have HA' : Hid (AlK e1 e2 l l' n r (k + 1)) := hide (by rw [← hr]; exact alK_step (unhide HA) (unhide HL) hlt hx hy)
          clear hb1 hb2 hx hy hll hkl hkl'
          go_upto_region 5 with fail
          refine wp_region_lit ?_
          refine wl (by kernel_rfl) fun kQ hkQ => ?_
          go_simp
          refine hkQ _ _ ?_
          clear hkQ kQ
          refine wl (by kernel_rfl) fun kQ hkQ => ?_
          go_simp
          refine hkQ _ _ ?_
          clear hkQ kQ
          refine wl (by kernel_rfl) fun kQ hkQ => ?_
          go_simp
          refine hkQ _ _ ?_
          clear hkQ kQ
          refine wl (by kernel_rfl) fun kQ hkQ => ?_
          go_simp
          refine hkQ _ _ ?_
          clear hkQ kQ
          refine wl_load1 (by kernel_rfl) 23 (.tmp 34) rfl 1 rfl 1 rfl ((.slice (some ⟨b1, o1, none⟩) n c)) (at_Y1 e1 (.slice (some ⟨b1, o1, none⟩) n c)) Tryd.underlying23 rfl hS ?_
          simp [Act.put]
          refine wl (by kernel_rfl) fun kQ hkQ => ?_
          go_simp
          refine hkQ _ _ ?_
          clear hkQ kQ
          refine wl (by kernel_rfl) fun kQ hkQ => ?_
          go_simp
          refine hkQ _ _ ?_
          clear hkQ kQ
          refine wl (by kernel_rfl) fun kQ hkQ => ?_
          go_simp
          refine hkQ _ _ ?_
          clear hkQ kQ
          refine wpList_nil ?_
          go_upto_region 7 with fail
          replace hS := hS.drew
          refine wp_region_held_drew (S := Hs17 w [(g2, 25, (reC e2 (.slice (some ⟨b2, o2, none⟩) m d))), (g1, 25, (reC e1 (.slice (some ⟨b1, o1, none⟩) n c)))] (fun w9 => (Sx.Ok iC 1 w9 ⟨some ⟨b1, o1, none⟩, n, c, l⟩ ∧ Sx.Ok iC 1 w9 ⟨some ⟨b2, o2, none⟩, m, d, l'⟩) ∧ P10 w9)) (by kernel_rfl) (hS.sub (((List.Sublist.slnil).cons_cons _).cons_cons _)) (fun hHeld => ?_)
          generalize World.drew _ = w101 at hS hHeld ⊢
          refine wpAnyH_take (i := 0) (oi := _) (v := .pointer (some ⟨g1, 1, none⟩)) rfl (by kernel_rfl) (by kernel_rfl) (by kernel_rfl) (fun _ _ _ h => h) (Or.inl ⟨by rfl, fun w hSw => by go_simp⟩) hHeld ?_
          simp [Act.put]
          refine wpAnyH_take (i := 1) (oi := _) (v := (.slice (some ⟨b1, o1, none⟩) n c)) rfl (by kernel_rfl) (by kernel_rfl) (by kernel_rfl) (fun _ _ _ h => h) (yl_load1 (by kernel_rfl) 23 (.tmp 41) rfl 1 rfl 1 rfl ((.slice (some ⟨b1, o1, none⟩) n c)) (at_Y1 e1 (.slice (some ⟨b1, o1, none⟩) n c)) Tryd.underlying23 rfl) hHeld ?_
          simp [Act.put]
          refine wpAnyH_take (i := 2) (oi := _) (v := .int .i64 (k : Int)) rfl (by kernel_rfl) (by kernel_rfl) (by kernel_rfl) (fun _ _ _ h => h) (Or.inl ⟨by rfl, fun w hSw => by go_simp⟩) hHeld ?_
          simp [Act.put]
          refine wpAnyH_take (i := 3) (oi := _) (v := (.pointer (some ⟨b1, o1 + k, none⟩))) rfl (by kernel_rfl) (by kernel_rfl) (by kernel_rfl) (fun _ _ _ h => h) (Or.inl ⟨by rfl, fun w hSw => by go_simp⟩) hHeld ?_
          simp [Act.put]
          refine wpAnyH_take (i := 4) (oi := _) (v := .int .i64 x) rfl (by kernel_rfl) (by kernel_rfl) (by kernel_rfl) (fun _ _ _ h => h) (yl_loadC (by kernel_rfl) 2 (.tmp 44) rfl (b1) (o1 + k) rfl (.int .i64 x) (fun w hSw => hcx _ hSw.K.1.1) Tryd.underlying2 rfl) hHeld ?_
          simp [Act.put]
          refine wpAnyH_take (i := 5) (oi := _) (v := .pointer (some ⟨g2, 1, none⟩)) rfl (by kernel_rfl) (by kernel_rfl) (by kernel_rfl) (fun _ _ _ h => h) (Or.inl ⟨by rfl, fun w hSw => by go_simp⟩) hHeld ?_
          simp [Act.put]
          refine wpAnyH_take (i := 6) (oi := _) (v := (.slice (some ⟨b2, o2, none⟩) m d)) rfl (by kernel_rfl) (by kernel_rfl) (by kernel_rfl) (fun _ _ _ h => h) (yl_load1 (by kernel_rfl) 23 (.tmp 46) rfl 0 rfl 1 rfl ((.slice (some ⟨b2, o2, none⟩) m d)) (at_Y1 e2 (.slice (some ⟨b2, o2, none⟩) m d)) Tryd.underlying23 rfl) hHeld ?_
          simp [Act.put]
          refine wpAnyH_take (i := 7) (oi := _) (v := .int .i64 (k : Int)) rfl (by kernel_rfl) (by kernel_rfl) (by kernel_rfl) (fun _ _ _ h => h) (Or.inl ⟨by rfl, fun w hSw => by go_simp⟩) hHeld ?_
          simp [Act.put]
          refine wpAnyH_take (i := 8) (oi := _) (v := (.pointer (some ⟨b2, o2 + k, none⟩))) rfl (by kernel_rfl) (by kernel_rfl) (by kernel_rfl) (fun _ _ _ h => h) (Or.inl ⟨by rfl, fun w hSw => by go_simp⟩) hHeld ?_
          simp [Act.put]
          refine wpAnyH_take (i := 9) (oi := _) (v := .int .i64 y) rfl (by kernel_rfl) (by kernel_rfl) (by kernel_rfl) (fun _ _ _ h => h) (yl_loadC (by kernel_rfl) 2 (.tmp 49) rfl (b2) (o2 + k) rfl (.int .i64 y) (fun w hSw => hcy _ hSw.K.1.2) Tryd.underlying2 rfl) hHeld ?_
          simp [Act.put]
          refine wpAnyH_take (i := 10) (oi := _) (v := .bool r) rfl (by kernel_rfl) (by kernel_rfl) (by kernel_rfl) (fun _ _ _ h => h) (Or.inl ⟨by rfl, fun w hSw => by go_simp⟩) hHeld ?_
          simp [Act.put]
          refine wpAnyH_take (i := 11) (oi := _) (v := .bool r) rfl (by kernel_rfl) (by kernel_rfl) (by kernel_rfl) (fun _ _ _ h => h) (Or.inl ⟨by rfl, fun w hSw => by go_simp⟩) hHeld ?_
          simp [Act.put]
          refine wpAnyH_done (by kernel_rfl) ?_ _
          clear hHeld
          go_wp2_with fail
          go_roundw
          case rel => exact ⟨r, k + 1, rfl, by go_num, HA', hS⟩
          case measure => simp [intOf]; omega
        · skip
          have hkz : ¬ (k : Int) < (n : Int) := by omega
          have hfin : ¬ (true = true ∧ k < n) := fun hc => hlt hc.2
          go_upto_region 5 with fail
          refine wp_region_lit ?_
          refine wl (by kernel_rfl) fun kQ hkQ => ?_
          go_simp
          refine hkQ _ _ ?_
          clear hkQ kQ
          refine wl (by kernel_rfl) fun kQ hkQ => ?_
          go_simp
          refine hkQ _ _ ?_
          clear hkQ kQ
          refine wl (by kernel_rfl) fun kQ hkQ => ?_
          go_simp
          refine hkQ _ _ ?_
          clear hkQ kQ
          refine wl (by kernel_rfl) fun kQ hkQ => ?_
          go_simp
          refine hkQ _ _ ?_
          clear hkQ kQ
          refine wl_load1 (by kernel_rfl) 23 (.tmp 34) rfl 1 rfl 1 rfl ((.slice a n c)) (at_Y1 e1 (.slice a n c)) Tryd.underlying23 rfl hS ?_
          simp [Act.put]
          refine wl (by kernel_rfl) fun kQ hkQ => ?_
          go_simp
          refine hkQ _ _ ?_
          clear hkQ kQ
          refine wl (by kernel_rfl) fun kQ hkQ => ?_
          go_simp
          refine hkQ _ _ ?_
          clear hkQ kQ
          refine wl (by kernel_rfl) fun kQ hkQ => ?_
          go_simp
          refine hkQ _ _ ?_
          clear hkQ kQ
          refine wpList_nil ?_
          have hq : ((strOfNums (showL e1 l)).toList == (strOfNums (showL e2 l')).toList) = true := alK_end (unhide HA) (unhide HL) hfin
          obtain ⟨A, hA⟩ : ∃ A, strOfNums (showL e1 l) = A := ⟨_, rfl⟩
          obtain ⟨B, hB⟩ : ∃ B, strOfNums (showL e2 l') = B := ⟨_, rfl⟩
          have hok : strOfNums (showL 0 []) = ({ data := #[111, 107] } : ByteArray) := by kernel_rfl
          have hqq : (true == true) = true := by simp
          rw [hA, hB] at hq
          have CA : ∀ v, Hs17 w [] (fun w9 => (Sx.Ok iC 1 w9 ⟨a, n, c, l⟩ ∧ Sx.Ok iC 1 w9 ⟨b, m, d, l'⟩) ∧ P10 w9) v → Calls Tryd.prog 6 #[aV (reC e1 (.slice a n c))] v (fun e w' => e = .returned (.string A) ∧ Below v.heap.size v w') := fun v h => by
            have := show_any e1 ⟨a, n, c, l⟩ v h.K.1.1 he1 (unhide HN1) (show n ≤ 1048576 by omega) h.K.2
            rw [← hA]; exact this
          have CB : ∀ v, Hs17 w [] (fun w9 => (Sx.Ok iC 1 w9 ⟨a, n, c, l⟩ ∧ Sx.Ok iC 1 w9 ⟨b, m, d, l'⟩) ∧ P10 w9) v → Calls Tryd.prog 6 #[aV (reC e2 (.slice b m d))] v (fun e w' => e = .returned (.string B) ∧ Below v.heap.size v w') := fun v h => by
            have := show_any e2 ⟨b, m, d, l'⟩ v h.K.1.2 he2 (unhide HN2) (show m ≤ 1048576 by omega) h.K.2
            rw [← hB]; exact this
          have CZ : ∀ v, Hs17 w [] (fun w9 => (Sx.Ok iC 1 w9 ⟨a, n, c, l⟩ ∧ Sx.Ok iC 1 w9 ⟨b, m, d, l'⟩) ∧ P10 w9) v → Calls Tryd.prog 6 #[aV (reC 0 (.slice none 0 0))] v (fun e w' => e = .returned (.string { data := #[111, 107] }) ∧ Below v.heap.size v w') := fun v h => by
            have := show_any 0 ⟨none, 0, 0, []⟩ v sx_nil25 ⟨by omega, by omega⟩ (fun z hz => by simp at hz) (Nat.zero_le _) h.K.2
            rw [← hok]; exact this
          clear hA hB hok
          go_upto_region 8 with fail
          replace hS := hS.drew
          refine wp_region_held_drew (S := Hs17 w [(g2, 25, (reC e2 (.slice b m d))), (g1, 25, (reC e1 (.slice a n c)))] (fun w9 => (Sx.Ok iC 1 w9 ⟨a, n, c, l⟩ ∧ Sx.Ok iC 1 w9 ⟨b, m, d, l'⟩) ∧ P10 w9)) (by kernel_rfl) (hS.sub (((List.Sublist.slnil).cons_cons _).cons_cons _)) (fun hHeld => ?_)
          generalize World.drew _ = w161 at hS hHeld ⊢
          refine wpAnyH_take (i := 0) (oi := _) (v := aV (reC e1 (.slice a n c))) rfl (by kernel_rfl) (by kernel_rfl) (by kernel_rfl) (fun _ _ _ h => h) (yl_load (by kernel_rfl) 25 (.tmp 2) rfl 1 rfl 0 rfl (reC e1 (.slice a n c)) (At.self _) Tryd.underlying25 rfl (sz_Y _ _)) hHeld ?_
          simp [Act.put]
          refine wpAnyH_take (i := 2) (oi := _) (v := aV (reC e2 (.slice b m d))) rfl (by kernel_rfl) (by kernel_rfl) (by kernel_rfl) (fun _ _ _ h => h) (yl_load (by kernel_rfl) 25 (.tmp 3) rfl 0 rfl 0 rfl (reC e2 (.slice b m d)) (At.self _) Tryd.underlying25 rfl (sz_Y _ _)) hHeld ?_
          simp [Act.put]
          refine wpAnyH_take (i := 5) (oi := _) (v := .bool true) rfl (by kernel_rfl) (by kernel_rfl) (by kernel_rfl) (fun _ _ _ h => h) (Or.inl ⟨by rfl, fun w hSw => by go_simp⟩) hHeld ?_
          simp [Act.put]
          refine wpAnyH_ready (rs := [1]) (by kernel_rfl) (by simp) ?_
          refine (AllReadyH.cons rfl (fun kQ hkQ => ?_) AllReadyH.nil)
          go_simp
          refine (CA _ (hS.sub (List.nil_sublist _))).mono ?_
          rintro e w162 ⟨rfl, hb1⟩
          replace hS := hS.later hb1
          clear hHeld hb1
          refine hkQ.out _ _ (hS.sub (((List.Sublist.slnil).cons_cons _).cons_cons _)) (fun hHeld => ?_)
          clear hkQ kQ
          refine wpAnyH_ready (rs := [3]) (by kernel_rfl) (by simp) ?_
          refine (AllReadyH.cons rfl (fun kQ hkQ => ?_) AllReadyH.nil)
          go_simp
          refine (CB _ (hS.sub (List.nil_sublist _))).mono ?_
          rintro e w163 ⟨rfl, hb1⟩
          replace hS := hS.later hb1
          clear hHeld hb1
          refine hkQ.out _ _ (hS.sub (((List.Sublist.slnil).cons_cons _).cons_cons _)) (fun hHeld => ?_)
          clear hkQ kQ
          refine wpAnyH_take (i := 4) (oi := _) (v := .bool true) rfl (by kernel_rfl) (by kernel_rfl) (by kernel_rfl) (fun _ _ _ h => h) (Or.inl ⟨by rfl, fun w hSw => by go_simp⟩) hHeld ?_
          simp [Act.put]
          refine wpAnyH_take (i := 6) (oi := _) (v := .bool true) rfl (by kernel_rfl) (by kernel_rfl) (by kernel_rfl) (fun _ _ _ h => h) (Or.inl ⟨by rfl, fun w hSw => by go_simp⟩) hHeld ?_
          simp [Act.put]
          refine wpAnyH_take (i := 7) (oi := _) (v := .bool true) rfl (by kernel_rfl) (by kernel_rfl) (by kernel_rfl) (fun _ _ _ h => h) (Or.inl ⟨by rfl, fun w hSw => by go_simp⟩) hHeld ?_
          simp [Act.put]
          refine wpAnyH_take (i := 8) (oi := _) (v := aV (reC 0 (.slice none 0 0))) rfl (by kernel_rfl) (by kernel_rfl) (by kernel_rfl) (fun _ _ _ h => h) (yl_val (by kernel_rfl) _ (fun w => ex_build 25 #[] rfl (reC 0 (.slice none 0 0)) b_re0 rfl)) hHeld ?_
          simp [Act.put]
          refine wpAnyH_ready (rs := [9]) (by kernel_rfl) (by simp) ?_
          refine (AllReadyH.cons rfl (fun kQ hkQ => ?_) AllReadyH.nil)
          go_simp
          refine (CZ _ (hS.sub (List.nil_sublist _))).mono ?_
          rintro e w164 ⟨rfl, hb1⟩
          replace hS := hS.later hb1
          clear hHeld hb1
          refine hkQ.out _ _ (hS.sub (((List.Sublist.slnil).cons_cons _).cons_cons _)) (fun hHeld => ?_)
          clear hkQ kQ
          refine wpAnyH_take (i := 10) (oi := _) (v := .bool true) rfl (by kernel_rfl) (by kernel_rfl) (by kernel_rfl) (fun _ _ _ h => h) (Or.inl ⟨by rfl, fun w hSw => by go_simp⟩) hHeld ?_
          simp [Act.put]
          refine wpAnyH_take (i := 11) (oi := _) (v := .bool true) rfl (by kernel_rfl) (by kernel_rfl) (by kernel_rfl) (fun _ _ _ h => h) (Or.inl ⟨by rfl, fun w hSw => by go_simp⟩) hHeld ?_
          simp [Act.put]
          refine wpAnyH_take (i := 12) (oi := _) (v := .bool true) rfl (by kernel_rfl) (by kernel_rfl) (by kernel_rfl) (fun _ _ _ h => h) (Or.inl ⟨by rfl, fun w hSw => by go_simp⟩) hHeld ?_
          simp [Act.put]
          refine wpAnyH_done (by kernel_rfl) ?_ _
          clear hHeld
          go_wp2_with fail
          go_ret
          exact ⟨rfl, hS.bel⟩
end Go.Proofs.YtdcaojiiaocnaaaDoor
