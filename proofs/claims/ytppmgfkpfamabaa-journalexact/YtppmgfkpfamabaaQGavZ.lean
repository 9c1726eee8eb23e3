import Derived.Test.YtppmgfkpfamabaaQGasZ
import Derived.Test.YtppmgfkpfamabaaQGauZ
import Derived.Deep.QuietTactic
import Derived.BigQuiet
set_option maxHeartbeats 2000000
set_option maxRecDepth 100000
set_option linter.unusedSimpArgs false
set_option linter.unusedVariables false
namespace Go.Proofs.Ytppmgfkpfamabaa
open Go.RowKit
theorem rdec_end (a : Option Addr) (n c i : Nat) (l : List Int) (w : World) (hd : Sl.Ok w ⟨a, n, c, l⟩) (hi : i ≤ n) (hz : i = n) :
    Calls Try.prog 84 #[.slice a n c, .int .i64 i] w fun e w' => e = .returned (.tuple #[fr0, .int .i64 i, .int .i64 0]) ∧ Below w.heap.size w w' := by
  have hlen : l.length = n := hd.len
  have hle : n ≤ c := hd.le
  have hmx : c ≤ 9223372036854775807 := by have := hd.mx; unfold maxLen at this; exact this
  have hS := Hs17.begin w (fun w' => Sl.Ok w' ⟨a, n, c, l⟩) (fun _ ho => hd.old ho)
  have d0 : decide ((i : Int) < 0) = false := decide_eq_false (by omega)
  have d1 : decide ((n : Int) < (i : Int)) = false := decide_eq_false (by omega)
  obtain ⟨q, hq⟩ : ∃ q, n = i + q := ⟨n - i, by omega⟩
  have hs : IntKind.i64.wrap ((n : Int) - (i : Int)) = (q : Int) := by rw [IntKind.wrap_i64]; omega
  have d2 : ((q : Int) == 0) = true := by rw [beq_iff_eq]; omega
  clear hz hq hlen hd
  go_enter Try.func84, Try.ntmps84
  go_upto_region 0 with fail
  refine wp_region_lit ?_
  refine alZ 136 rfl _ Try.inR hS ?_
  clear hS
  intro g1 w1 hS
  refine snZ2 ?_
  go_upto_region 1 with fail
  refine wp_region_lit ?_
  refine alZ 136 rfl _ Try.inR hS ?_
  clear hS
  intro g2 w2 hS
  refine wpList_nil ?_
  go_upto_region 2 with fail
  refine raZ8 ?_
  go_upto_region 4 with fail
  refine raZ5 ?_
  go_upto_region 5 with fail
  refine raZ2 ?_
  go_upto_region 6 with fail
  refine wp_region_lit ?_
  refine ldZ 136 (.tmp 7) rfl 0 rfl 0 rfl _ (At.self _) Try.underlying136 rfl (szR _ _) hS ?_
  refine stZ1 ?_
  refine srZ 136 (.tmp 4) (.tmp 29) rfl 1 rfl 0 rfl _ _ (pt_r 0 0 nilB nilB) rfl (szR _ _) (one_r _ rfl) hS ?_
  clear hS
  intro w3 hS
  refine snZ2 ?_
  go_wp2
  refine bodyPost_ret (res_ctt rfl hS 1 rfl rfl Try.underlying136 rfl (szR _ _) (.int .i64 i) (.int .i64 0) rfl rfl) rfl ?_
  exact ⟨rfl, hS.bel⟩
theorem rdec_mark (a : Option Addr) (n c i : Nat) (l : List Int) (w : World) (hd : Sl.Ok w ⟨a, n, c, l⟩) (hi : i ≤ n) (hz : i < n) (hm : l.getD i 0 ≠ 165) :
    Calls Try.prog 84 #[.slice a n c, .int .i64 i] w fun e w' => e = .returned (.tuple #[fr0, .int .i64 i, .int .i64 4]) ∧ Below w.heap.size w w' := by
  have hlen : l.length = n := hd.len
  have hle : n ≤ c := hd.le
  have hmx : c ≤ 9223372036854775807 := by have := hd.mx; unfold maxLen at this; exact this
  have hS := Hs17.begin w (fun w' => Sl.Ok w' ⟨a, n, c, l⟩) (fun _ ho => hd.old ho)
  have d0 : decide ((i : Int) < 0) = false := decide_eq_false (by omega)
  have d1 : decide ((n : Int) < (i : Int)) = false := decide_eq_false (by omega)
  obtain ⟨q, hq⟩ : ∃ q, n = i + q := ⟨n - i, by omega⟩
  have hs : IntKind.i64.wrap ((n : Int) - (i : Int)) = (q : Int) := by rw [IntKind.wrap_i64]; omega
  have d2 : ((q : Int) == 0) = false := by rw [beq_eq_false_iff_ne]; omega
  obtain ⟨ab, ao, haa, -, hac⟩ := hd.lies (by show 0 < l.length; omega)
  have haa' : a = some ⟨ab, ao, none⟩ := haa
  subst haa'
  have hC : ∀ w', Sl.Ok w' ⟨some ⟨ab, ao, none⟩, n, c, l⟩ → w'.cell? ⟨ab, ao + i, none⟩ = some (.int .u8 (l.getD i 0)) := fun w' h' => by
    obtain ⟨ab', ao', e1, -, e2⟩ := h'.lies (by show 0 < l.length; omega)
    simp only [Option.some.injEq, Addr.mk.injEq] at e1
    obtain ⟨rfl, rfl, -⟩ := e1
    exact e2 i (by show i < l.length; omega)
  have hiz : (i : Int) < (n : Int) := by omega
  have d3 : (l.getD i 0 != 165) = true := by rw [bne_iff_ne]; exact hm
  generalize l.getD i 0 = x at *
  clear hz hq hlen hd haa hac hm
  go_enter Try.func84, Try.ntmps84
  go_upto_region 0 with fail
  refine wp_region_lit ?_
  refine alZ 136 rfl _ Try.inR hS ?_
  clear hS
  intro g1 w1 hS
  refine snZ2 ?_
  go_upto_region 1 with fail
  refine wp_region_lit ?_
  refine alZ 136 rfl _ Try.inR hS ?_
  clear hS
  intro g2 w2 hS
  refine wpList_nil ?_
  go_upto_region 2 with fail
  refine raZ8 ?_
  go_upto_region 4 with fail
  refine raZ5 ?_
  go_upto_region 5 with fail
  refine raZ2 ?_
  have c7 := hC _ hS.K
  go_upto_region 7 with fail
  refine raZ5 ?_
  clear c7
  go_upto_region 8 with fail
  refine wp_region_lit ?_
  refine ldZ 136 (.tmp 7) rfl 0 rfl 0 rfl _ (At.self _) Try.underlying136 rfl (szR _ _) hS ?_
  refine stZ1 ?_
  refine srZ 136 (.tmp 4) (.tmp 36) rfl 1 rfl 0 rfl _ _ (pt_r 0 0 nilB nilB) rfl (szR _ _) (one_r _ rfl) hS ?_
  clear hS
  intro w3 hS
  refine snZ2 ?_
  go_wp2
  refine bodyPost_ret (res_ctt rfl hS 1 rfl rfl Try.underlying136 rfl (szR _ _) (.int .i64 i) (.int .i64 4) rfl rfl) rfl ?_
  exact ⟨rfl, hS.bel⟩
theorem rdec_short (a : Option Addr) (n c i : Nat) (l : List Int) (w : World) (hd : Sl.Ok w ⟨a, n, c, l⟩) (hi : i ≤ n) (hz : i < n) (hm : l.getD i 0 = 165) (h6 : n < i + 6) :
    Calls Try.prog 84 #[.slice a n c, .int .i64 i] w fun e w' => e = .returned (.tuple #[fr0, .int .i64 i, .int .i64 1]) ∧ Below w.heap.size w w' := by
  have hlen : l.length = n := hd.len
  have hle : n ≤ c := hd.le
  have hmx : c ≤ 9223372036854775807 := by have := hd.mx; unfold maxLen at this; exact this
  have hS := Hs17.begin w (fun w' => Sl.Ok w' ⟨a, n, c, l⟩) (fun _ ho => hd.old ho)
  have d0 : decide ((i : Int) < 0) = false := decide_eq_false (by omega)
  have d1 : decide ((n : Int) < (i : Int)) = false := decide_eq_false (by omega)
  obtain ⟨q, hq⟩ : ∃ q, n = i + q := ⟨n - i, by omega⟩
  have hs : IntKind.i64.wrap ((n : Int) - (i : Int)) = (q : Int) := by rw [IntKind.wrap_i64]; omega
  have d2 : ((q : Int) == 0) = false := by rw [beq_eq_false_iff_ne]; omega
  obtain ⟨ab, ao, haa, -, hac⟩ := hd.lies (by show 0 < l.length; omega)
  have haa' : a = some ⟨ab, ao, none⟩ := haa
  subst haa'
  have hC : ∀ w', Sl.Ok w' ⟨some ⟨ab, ao, none⟩, n, c, l⟩ → w'.cell? ⟨ab, ao + i, none⟩ = some (.int .u8 (l.getD i 0)) := fun w' h' => by
    obtain ⟨ab', ao', e1, -, e2⟩ := h'.lies (by show 0 < l.length; omega)
    simp only [Option.some.injEq, Addr.mk.injEq] at e1
    obtain ⟨rfl, rfl, -⟩ := e1
    exact e2 i (by show i < l.length; omega)
  have hiz : (i : Int) < (n : Int) := by omega
  rw [hm] at hC
  have d3 : ((165 : Int) != 165) = false := rfl
  have d4 : decide ((q : Int) < 6) = true := decide_eq_true (by omega)
  clear hz hq hlen hd haa hac hm
  go_enter Try.func84, Try.ntmps84
  go_upto_region 0 with fail
  refine wp_region_lit ?_
  refine alZ 136 rfl _ Try.inR hS ?_
  clear hS
  intro g1 w1 hS
  refine snZ2 ?_
  go_upto_region 1 with fail
  refine wp_region_lit ?_
  refine alZ 136 rfl _ Try.inR hS ?_
  clear hS
  intro g2 w2 hS
  refine wpList_nil ?_
  go_upto_region 2 with fail
  refine raZ8 ?_
  go_upto_region 4 with fail
  refine raZ5 ?_
  go_upto_region 5 with fail
  refine raZ2 ?_
  have c7 := hC _ hS.K
  go_upto_region 7 with fail
  refine raZ5 ?_
  clear c7
  go_upto_region 9 with fail
  refine raZ2 ?_
  go_upto_region 10 with fail
  refine wp_region_lit ?_
  refine ldZ 136 (.tmp 7) rfl 0 rfl 0 rfl _ (At.self _) Try.underlying136 rfl (szR _ _) hS ?_
  refine stZ1 ?_
  refine srZ 136 (.tmp 4) (.tmp 40) rfl 1 rfl 0 rfl _ _ (pt_r 0 0 nilB nilB) rfl (szR _ _) (one_r _ rfl) hS ?_
  clear hS
  intro w3 hS
  refine snZ2 ?_
  go_wp2
  refine bodyPost_ret (res_ctt rfl hS 1 rfl rfl Try.underlying136 rfl (szR _ _) (.int .i64 i) (.int .i64 1) rfl rfl) rfl ?_
  exact ⟨rfl, hS.bel⟩
theorem rdec_long (a : Option Addr) (n c i : Nat) (l : List Int) (w : World) (hd : Sl.Ok w ⟨a, n, c, l⟩) (hi : i ≤ n) (m : Nat) (hz : i + 6 ≤ n) (hm : l.getD i 0 = 165) (hm2 : leV ((l.drop (i + 2)).take 4).reverse = (m : Int)) (h7 : 262144 < m) :
    Calls Try.prog 84 #[.slice a n c, .int .i64 i] w fun e w' => e = .returned (.tuple #[fr0, .int .i64 i, .int .i64 2]) ∧ Below w.heap.size w w' := by
  have hlen : l.length = n := hd.len
  have hle : n ≤ c := hd.le
  have hmx : c ≤ 9223372036854775807 := by have := hd.mx; unfold maxLen at this; exact this
  have hS := Hs17.begin w (fun w' => Sl.Ok w' ⟨a, n, c, l⟩) (fun _ ho => hd.old ho)
  have d0 : decide ((i : Int) < 0) = false := decide_eq_false (by omega)
  have d1 : decide ((n : Int) < (i : Int)) = false := decide_eq_false (by omega)
  obtain ⟨q, hq⟩ : ∃ q, n = i + q := ⟨n - i, by omega⟩
  have hs : IntKind.i64.wrap ((n : Int) - (i : Int)) = (q : Int) := by rw [IntKind.wrap_i64]; omega
  have d2 : ((q : Int) == 0) = false := by rw [beq_eq_false_iff_ne]; omega
  obtain ⟨ab, ao, haa, -, hac⟩ := hd.lies (by show 0 < l.length; omega)
  have haa' : a = some ⟨ab, ao, none⟩ := haa
  subst haa'
  have hC : ∀ w', Sl.Ok w' ⟨some ⟨ab, ao, none⟩, n, c, l⟩ → w'.cell? ⟨ab, ao + i, none⟩ = some (.int .u8 (l.getD i 0)) := fun w' h' => by
    obtain ⟨ab', ao', e1, -, e2⟩ := h'.lies (by show 0 < l.length; omega)
    simp only [Option.some.injEq, Addr.mk.injEq] at e1
    obtain ⟨rfl, rfl, -⟩ := e1
    exact e2 i (by show i < l.length; omega)
  have hiz : (i : Int) < (n : Int) := by omega
  rw [hm] at hC
  have d3 : ((165 : Int) != 165) = false := rfl
  have d4 : decide ((q : Int) < 6) = false := decide_eq_false (by omega)
  have hN : ∀ w', Sl.Ok w' ⟨some ⟨ab, ao, none⟩, n, c, l⟩ → Calls Try.prog 88 #[.slice (some ⟨ab, ao, none⟩) n c, .int .i64 ((i + 2 : Nat) : Int)] w' fun e w'' => e = .returned (.int .i64 (m : Int)) ∧ Below w'.heap.size w' w'' := fun w' h' => by
    have := rnumber_any ⟨some ⟨ab, ao, none⟩, n, c, l⟩ (i + 2) w' h' (by simp only; omega)
    simp only [Sl.v] at this
    rw [hm2] at this
    exact this
  obtain ⟨i2, hi2⟩ : ∃ j, i + 2 = j := ⟨_, rfl⟩
  have w2 : IntKind.i64.wrap ((i : Int) + 2) = (i2 : Int) := by rw [IntKind.wrap_i64]; omega
  rw [hi2] at hN
  have d5 : decide ((262144 : Int) < (m : Int)) = true := decide_eq_true (by omega)
  clear hz hq hlen hd haa hac hm hm2 hi2
  go_enter Try.func84, Try.ntmps84
  go_upto_region 0 with fail
  refine wp_region_lit ?_
  refine alZ 136 rfl _ Try.inR hS ?_
  clear hS
  intro g1 w1 hS
  refine snZ2 ?_
  go_upto_region 1 with fail
  refine wp_region_lit ?_
  refine alZ 136 rfl _ Try.inR hS ?_
  clear hS
  intro g2 w2 hS
  refine wpList_nil ?_
  go_upto_region 2 with fail
  refine raZ8 ?_
  go_upto_region 4 with fail
  refine raZ5 ?_
  go_upto_region 5 with fail
  refine raZ2 ?_
  have c7 := hC _ hS.K
  go_upto_region 7 with fail
  refine raZ5 ?_
  clear c7
  go_upto_region 9 with fail
  refine raZ2 ?_
  go_upto_region 11 with fail
  refine rgZ3 ?_
  refine caZ ?_
  intro kQ hkQ
  refine (hN _ hS.K).mono ?_
  rintro e w3 ⟨rfl, hb1⟩
  replace hS := hS.later hb1
  refine hkQ _ _ ?_
  clear hkQ kQ hb1
  refine snZ1 ?_
  clear hN
  go_upto_region 12 with fail
  refine raZ2 ?_
  go_upto_region 13 with fail
  refine wp_region_lit ?_
  refine ldZ 136 (.tmp 7) rfl 0 rfl 0 rfl _ (At.self _) Try.underlying136 rfl (szR _ _) hS ?_
  refine stZ1 ?_
  refine srZ 136 (.tmp 4) (.tmp 48) rfl 1 rfl 0 rfl _ _ (pt_r 0 0 nilB nilB) rfl (szR _ _) (one_r _ rfl) hS ?_
  clear hS
  intro w4 hS
  refine snZ2 ?_
  go_wp2
  refine bodyPost_ret (res_ctt rfl hS 1 rfl rfl Try.underlying136 rfl (szR _ _) (.int .i64 i) (.int .i64 2) rfl rfl) rfl ?_
  exact ⟨rfl, hS.bel⟩
theorem rdec_cut (a : Option Addr) (n c i : Nat) (l : List Int) (w : World) (hd : Sl.Ok w ⟨a, n, c, l⟩) (hi : i ≤ n) (m : Nat) (hz : i + 6 ≤ n) (hm : l.getD i 0 = 165) (hm2 : leV ((l.drop (i + 2)).take 4).reverse = (m : Int)) (h7 : m ≤ 262144) (h8 : n < i + m + 10) :
    Calls Try.prog 84 #[.slice a n c, .int .i64 i] w fun e w' => e = .returned (.tuple #[fr0, .int .i64 i, .int .i64 1]) ∧ Below w.heap.size w w' := by
  have hlen : l.length = n := hd.len
  have hle : n ≤ c := hd.le
  have hmx : c ≤ 9223372036854775807 := by have := hd.mx; unfold maxLen at this; exact this
  have hS := Hs17.begin w (fun w' => Sl.Ok w' ⟨a, n, c, l⟩) (fun _ ho => hd.old ho)
  have d0 : decide ((i : Int) < 0) = false := decide_eq_false (by omega)
  have d1 : decide ((n : Int) < (i : Int)) = false := decide_eq_false (by omega)
  obtain ⟨q, hq⟩ : ∃ q, n = i + q := ⟨n - i, by omega⟩
  have hs : IntKind.i64.wrap ((n : Int) - (i : Int)) = (q : Int) := by rw [IntKind.wrap_i64]; omega
  have d2 : ((q : Int) == 0) = false := by rw [beq_eq_false_iff_ne]; omega
  obtain ⟨ab, ao, haa, -, hac⟩ := hd.lies (by show 0 < l.length; omega)
  have haa' : a = some ⟨ab, ao, none⟩ := haa
  subst haa'
  have hC : ∀ w', Sl.Ok w' ⟨some ⟨ab, ao, none⟩, n, c, l⟩ → w'.cell? ⟨ab, ao + i, none⟩ = some (.int .u8 (l.getD i 0)) := fun w' h' => by
    obtain ⟨ab', ao', e1, -, e2⟩ := h'.lies (by show 0 < l.length; omega)
    simp only [Option.some.injEq, Addr.mk.injEq] at e1
    obtain ⟨rfl, rfl, -⟩ := e1
    exact e2 i (by show i < l.length; omega)
  have hiz : (i : Int) < (n : Int) := by omega
  rw [hm] at hC
  have d3 : ((165 : Int) != 165) = false := rfl
  have d4 : decide ((q : Int) < 6) = false := decide_eq_false (by omega)
  have hN : ∀ w', Sl.Ok w' ⟨some ⟨ab, ao, none⟩, n, c, l⟩ → Calls Try.prog 88 #[.slice (some ⟨ab, ao, none⟩) n c, .int .i64 ((i + 2 : Nat) : Int)] w' fun e w'' => e = .returned (.int .i64 (m : Int)) ∧ Below w'.heap.size w' w'' := fun w' h' => by
    have := rnumber_any ⟨some ⟨ab, ao, none⟩, n, c, l⟩ (i + 2) w' h' (by simp only; omega)
    simp only [Sl.v] at this
    rw [hm2] at this
    exact this
  obtain ⟨i2, hi2⟩ : ∃ j, i + 2 = j := ⟨_, rfl⟩
  have w2 : IntKind.i64.wrap ((i : Int) + 2) = (i2 : Int) := by rw [IntKind.wrap_i64]; omega
  rw [hi2] at hN
  have d5 : decide ((262144 : Int) < (m : Int)) = false := decide_eq_false (by omega)
  have w3 : IntKind.i64.wrap ((m : Int) + 10) = (m : Int) + 10 := by rw [IntKind.wrap_i64]; omega
  have d6 : decide ((q : Int) < (m : Int) + 10) = true := decide_eq_true (by omega)
  clear hz hq hlen hd haa hac hm hm2 hi2
  go_enter Try.func84, Try.ntmps84
  go_upto_region 0 with fail
  refine wp_region_lit ?_
  refine alZ 136 rfl _ Try.inR hS ?_
  clear hS
  intro g1 w1 hS
  refine snZ2 ?_
  go_upto_region 1 with fail
  refine wp_region_lit ?_
  refine alZ 136 rfl _ Try.inR hS ?_
  clear hS
  intro g2 w2 hS
  refine wpList_nil ?_
  go_upto_region 2 with fail
  refine raZ8 ?_
  go_upto_region 4 with fail
  refine raZ5 ?_
  go_upto_region 5 with fail
  refine raZ2 ?_
  have c7 := hC _ hS.K
  go_upto_region 7 with fail
  refine raZ5 ?_
  clear c7
  go_upto_region 9 with fail
  refine raZ2 ?_
  go_upto_region 11 with fail
  refine rgZ3 ?_
  refine caZ ?_
  intro kQ hkQ
  refine (hN _ hS.K).mono ?_
  rintro e w3 ⟨rfl, hb1⟩
  replace hS := hS.later hb1
  refine hkQ _ _ ?_
  clear hkQ kQ hb1
  refine snZ1 ?_
  clear hN
  go_upto_region 12 with fail
  refine raZ2 ?_
  go_upto_region 14 with fail
  refine raZ4 ?_
  go_upto_region 15 with fail
  refine wp_region_lit ?_
  refine ldZ 136 (.tmp 7) rfl 0 rfl 0 rfl _ (At.self _) Try.underlying136 rfl (szR _ _) hS ?_
  refine stZ1 ?_
  refine srZ 136 (.tmp 4) (.tmp 54) rfl 1 rfl 0 rfl _ _ (pt_r 0 0 nilB nilB) rfl (szR _ _) (one_r _ rfl) hS ?_
  clear hS
  intro w4 hS
  refine snZ2 ?_
  go_wp2
  refine bodyPost_ret (res_ctt rfl hS 1 rfl rfl Try.underlying136 rfl (szR _ _) (.int .i64 i) (.int .i64 1) rfl rfl) rfl ?_
  exact ⟨rfl, hS.bel⟩
theorem rev_at (X : List Int) (k j : Nat) (h : k + j + 1 = X.length) : X.reverse.getD k 0 = X.getD j 0 := by
  rw [List.getD_eq_getElem?_getD, List.getD_eq_getElem?_getD, List.getElem?_reverse (by omega), show X.length - 1 - k = j by omega]
theorem rdec_sum (ab ao n c i m : Nat) (l : List Int) (w : World) (hd : Sl.Ok w ⟨some ⟨ab, ao, none⟩, n, c, l⟩) (hz : i + m + 10 ≤ n) (hm : l.getD i 0 = 165) (hm2 : leV ((l.drop (i + 2)).take 4).reverse = (m : Int)) (h7 : m ≤ 262144) (X : List Int) (hX : (leB 4 (crc ((l.drop (i + 1)).take (m + 5)))) = X) (hNE : (l.drop (i + 6 + m)).take 4 ≠ X) :
    Calls Try.prog 84 #[.slice (some ⟨ab, ao, none⟩) n c, .int .i64 i] w fun e w' => e = .returned (.tuple #[fr0, .int .i64 i, .int .i64 3]) ∧ Below w.heap.size w w' := by
  have hlen : l.length = n := hd.len
  have hle : n ≤ c := hd.le
  have hmx : c ≤ 9223372036854775807 := by have := hd.mx; unfold maxLen at this; exact this
  have hXl : X.length = 4 := by rw [← hX]; simp
  have d0 : decide ((i : Int) < 0) = false := decide_eq_false (by omega)
  have d1 : decide ((n : Int) < (i : Int)) = false := decide_eq_false (by omega)
  obtain ⟨q, hq⟩ : ∃ q, n = i + q := ⟨n - i, by omega⟩
  have hs : IntKind.i64.wrap ((n : Int) - (i : Int)) = (q : Int) := by rw [IntKind.wrap_i64]; omega
  have d2 : ((q : Int) == 0) = false := by rw [beq_eq_false_iff_ne]; omega
  have hCC : ∀ (j : Nat) w', j < n → Sl.Ok w' ⟨some ⟨ab, ao, none⟩, n, c, l⟩ → w'.cell? ⟨ab, ao + j, none⟩ = some (.int .u8 (l.getD j 0)) := fun j w' hj h' => by
    obtain ⟨ab', ao', e1, -, e2⟩ := h'.lies (by show 0 < l.length; omega)
    simp only [Option.some.injEq, Addr.mk.injEq] at e1
    obtain ⟨rfl, rfl, -⟩ := e1
    exact e2 j (by show j < l.length; omega)
  have hC : ∀ w', Sl.Ok w' ⟨some ⟨ab, ao, none⟩, n, c, l⟩ → w'.cell? ⟨ab, ao + i, none⟩ = some (.int .u8 165) := fun w' h' => by rw [← hm]; exact hCC i w' (by omega) h'
  have hiz : (i : Int) < (n : Int) := by omega
  have d3 : ((165 : Int) != 165) = false := rfl
  have d4 : decide ((q : Int) < 6) = false := decide_eq_false (by omega)
  have hN : ∀ w', Sl.Ok w' ⟨some ⟨ab, ao, none⟩, n, c, l⟩ → Calls Try.prog 88 #[.slice (some ⟨ab, ao, none⟩) n c, .int .i64 ((i + 2 : Nat) : Int)] w' fun e w'' => e = .returned (.int .i64 (m : Int)) ∧ Below w'.heap.size w' w'' := fun w' h' => by
    have := rnumber_any ⟨some ⟨ab, ao, none⟩, n, c, l⟩ (i + 2) w' h' (by simp only; omega)
    simp only [Sl.v] at this
    rw [hm2] at this
    exact this
  obtain ⟨i2, hi2⟩ : ∃ j, i + 2 = j := ⟨_, rfl⟩
  have w2 : IntKind.i64.wrap ((i : Int) + 2) = (i2 : Int) := by rw [IntKind.wrap_i64]; omega
  rw [hi2] at hN
  have d5 : decide ((262144 : Int) < (m : Int)) = false := decide_eq_false (by omega)
  have w3 : IntKind.i64.wrap ((m : Int) + 10) = (m : Int) + 10 := by rw [IntKind.wrap_i64]; omega
  have d6 : decide ((q : Int) < (m : Int) + 10) = false := decide_eq_false (by omega)
  obtain ⟨i1, hi1⟩ : ∃ j, i + 1 = j := ⟨_, rfl⟩
  obtain ⟨i6, hi6⟩ : ∃ j, i + 6 = j := ⟨_, rfl⟩
  obtain ⟨iz, hiz6⟩ : ∃ j, i + 6 + m = j := ⟨_, rfl⟩
  have w1 : IntKind.i64.wrap ((i : Int) + 1) = (i1 : Int) := by rw [IntKind.wrap_i64]; omega
  have w6 : IntKind.i64.wrap ((i : Int) + 6) = (i6 : Int) := by rw [IntKind.wrap_i64]; omega
  have wz : IntKind.i64.wrap ((i6 : Int) + (m : Int)) = (iz : Int) := by rw [IntKind.wrap_i64]; omega
  have f2 : (i1 : Int) ≤ (iz : Int) := by omega
  have f3 : (iz : Int) ≤ (c : Int) := by omega
  have f4 : i1 ≤ iz ∧ iz ≤ c ∧ i1 < c := by omega
  have f5 : ¬ c = i1 := by omega
  have hSu : ∀ w', Sl.Ok w' ⟨some ⟨ab, ao, none⟩, n, c, l⟩ → Calls Try.prog 73 #[.slice (some ⟨ab, ao + i1, none⟩) (iz - i1) (c - i1)] w' fun e w'' => e = .returned (.int .u32 (crc ((l.drop (i + 1)).take (m + 5)))) ∧ Below w'.heap.size w' w'' := fun w' h' => by
    have h2 := rsum_any _ w' (h'.mid i1 (iz - i1) (by omega))
    simp only [Sl.v] at h2
    rw [← hi1] at h2
    rw [show iz - (i + 1) = m + 5 by omega] at h2
    rw [← hi1, show iz - (i + 1) = m + 5 by omega]
    exact h2.mono fun e w'' ⟨e1, e2⟩ => ⟨e1, by rw [e2]; exact Below.refl _ _⟩
  have hcb := crc_bd ((hd.isB.drop (i + 1)).take (m + 5))
  simp only at hcb
  have hFo : ∀ w', Calls Try.prog 72 #[.int .u32 (crc ((l.drop (i + 1)).take (m + 5)))] w' fun e w'' => ∃ g4, e = .returned (.slice (some ⟨g4, 0, none⟩) 4 4) ∧ w''.ownsRow w'.heap.size 5 1 (.slice (some ⟨g4, 0, none⟩) 4 4) 4 (U8 X.reverse) ∧ Below w'.heap.size w' w'' := fun w' => by
    refine (rfour_any _ w' hcb).mono fun e w'' ⟨e1, e2⟩ => ⟨w'.heap.size, e1, ?_, by rw [e2]; exact below_alloc w' _⟩
    have h3 := own_newF w' X.reverse (by rw [List.length_reverse, hXl]; unfold maxLen; omega)
    rw [List.length_reverse, hXl, ← hX] at h3
    rw [e2, ← hX]
    exact h3
  have hS := Hs17.begin w (fun w' => Sl.Ok w' ⟨some ⟨ab, ao, none⟩, n, c, l⟩) (fun _ ho => hd.old ho)
  generalize crc ((l.drop (i + 1)).take (m + 5)) = cr at hSu hFo hcb
  have HLE := hide (And.intro hlen hXl)
  have HI := hide (And.intro hi1 (And.intro hi6 hiz6))
  have HZ := hide hz
  have HM7 := hide (And.intro h7 hmx)
  have HD := hide hd.isB
  rw [hiz6] at hNE
  have HNE := hide hNE
  clear hNE
  clear hq hlen hd hm hm2 hi2 hX hz hXl hi1 hi6 hiz6
  go_enter Try.func84, Try.ntmps84
  go_upto_region 0 with fail
  refine wp_region_lit ?_
  refine alZ 136 rfl _ Try.inR hS ?_
  clear hS
  intro g1 w1 hS
  refine snZ2 ?_
  go_upto_region 1 with fail
  refine wp_region_lit ?_
  refine alZ 136 rfl _ Try.inR hS ?_
  clear hS
  intro g2 w2 hS
  refine wpList_nil ?_
  go_upto_region 2 with fail
  refine raZ8 ?_
  go_upto_region 4 with fail
  refine raZ5 ?_
  go_upto_region 5 with fail
  refine raZ2 ?_
  have c7 := hC _ hS.K
  go_upto_region 7 with fail
  refine raZ5 ?_
  clear c7
  go_upto_region 9 with fail
  refine raZ2 ?_
  go_upto_region 11 with fail
  refine rgZ3 ?_
  refine caZ ?_
  intro kQ hkQ
  refine (hN _ hS.K).mono ?_
  rintro e w3 ⟨rfl, hb1⟩
  replace hS := hS.later hb1
  refine hkQ _ _ ?_
  clear hkQ kQ hb1
  refine snZ1 ?_
  clear hN hC
  go_upto_region 12 with fail
  refine raZ2 ?_
  go_upto_region 14 with fail
  refine raZ4 ?_
  go_upto_region 16 with fail
  refine rgZ8 ?_
  refine caZ ?_
  intro kQ hkQ
  refine (hSu _ hS.K).mono ?_
  rintro e w4 ⟨rfl, hb1⟩
  replace hS := hS.later hb1
  refine hkQ _ _ ?_
  clear hkQ kQ hb1
  refine caZ ?_
  intro kQ hkQ
  refine (hFo _).mono ?_
  rintro e w5 ⟨g4, rfl, hO4, hb1⟩
  replace hS := hS.ownB hb1 hO4
  refine hkQ _ _ ?_
  clear hkQ kQ hb1
  clear hO4
  refine snZ1 ?_
  clear hSu hFo hcb
  go_wp2_with fail
  go_loopw [11] (fun v wr => ∃ j : Nat, j ≤ 4 ∧ v = .int .i64 j ∧ Hid (((l.drop iz).take 4).take j = X.take j) ∧ Hs17 w [(g2, 136, (rC 0 nilB)), (g1, 136, (rC 0 nilB))] (fun w' => Sl.Ok w' ⟨some ⟨ab, ao, none⟩, n, c, l⟩ ∧ w'.ownsRow w.heap.size 5 1 (.slice (some ⟨g4, 0, none⟩) 4 4) 4 (U8 X.reverse)) wr) (fun v _ => 4 - (intOf v).toNat)
  case atStart => exact ⟨0, by omega, rfl, hide (by simp), hS⟩
  case round =>
    clear hS
    obtain ⟨j, hj, rfl, HJ, hS⟩ := hrel
    by_cases hlt : j < 4
    · have hjz : (j : Int) < 4 := by omega
      obtain ⟨ij, hij⟩ : ∃ k, iz + j = k := ⟨_, rfl⟩
      obtain ⟨j3, hj3⟩ : ∃ k, k + j = 3 := ⟨3 - j, by omega⟩
      have hijn : ij < n := by have := unhide HZ; have := (unhide HI).2.2; omega
      have wj : IntKind.i64.wrap ((iz : Int) + (j : Int)) = (ij : Int) := by have := (unhide HM7).2; rw [IntKind.wrap_i64]; omega
      have w3j : IntKind.i64.wrap ((3 : Int) - (j : Int)) = (j3 : Int) := by rw [IntKind.wrap_i64]; omega
      have hg1 : (ij : Int) < (n : Int) := by omega
      have hg2 : (j3 : Int) < 4 := by omega
      have hB1 : ∀ w', (fun w' => Sl.Ok w' ⟨some ⟨ab, ao, none⟩, n, c, l⟩ ∧ w'.ownsRow w.heap.size 5 1 (.slice (some ⟨g4, 0, none⟩) 4 4) 4 (U8 X.reverse)) w' → w'.cell? ⟨ab, ao + ij, none⟩ = some (.int .u8 (l.getD ij 0)) := fun w' h' => hCC ij w' hijn h'.1
      have hB2 : ∀ w', (fun w' => Sl.Ok w' ⟨some ⟨ab, ao, none⟩, n, c, l⟩ ∧ w'.ownsRow w.heap.size 5 1 (.slice (some ⟨g4, 0, none⟩) 4 4) 4 (U8 X.reverse)) w' → w'.cell? ⟨g4, j3, none⟩ = some (.int .u8 (X.getD j 0)) := fun w' h' => by
        have h5 := (h'.2.cellAt j3 (by omega)).trans (U8_at _ j3 (by rw [List.length_reverse, (unhide HLE).2]; omega))
        rw [h5, rev_at X j3 j (by rw [(unhide HLE).2]; omega)]
      have hstep : ((l.drop iz).take 4).take (j + 1) = ((l.drop iz).take 4).take j ++ [l.getD ij 0] := by
        have hq4 : j < ((l.drop iz).take 4).length := by have h8 := (unhide HLE).1; have h9 := unhide HZ; have h10 := (unhide HI).2.2; rw [List.length_take, List.length_drop]; omega
        rw [take_snoc _ j hq4, ← hij]
        congr 2
        simp [List.getD, List.getElem?_take, hlt, List.getElem?_drop]
      have hstep2 : X.take (j + 1) = X.take j ++ [X.getD j 0] := take_snoc X j (by rw [(unhide HLE).2]; exact hlt)
      by_cases hxy : l.getD ij 0 = X.getD j 0
      · have HJ2 : Hid (((l.drop iz).take 4).take (j + 1) = X.take (j + 1)) := hide (by rw [hstep, hstep2, unhide HJ, hxy])
        rw [hxy] at hB1
        have e1 : (X.getD j 0 != X.getD j 0) = false := by simp
        clear hstep hstep2 hxy
        generalize X.getD j 0 = x at *
        go_upto_region 20 with fail
        refine wp_region_noPanic ?_
        replace hS := hS.drew
        refine wp_region_held_drew (S := Hs17 _ _ _) (by kernel_rfl) (hS.sub (((List.Sublist.slnil).cons_cons _).cons_cons _)) (fun hHeld => ?_)
        generalize World.drew _ = w26 at hS hHeld ⊢
        refine tkZ 0 ((.slice (some ⟨ab, ao, none⟩) n c)) rfl (Or.inl ⟨by rfl, fun w hSw => by go_simp⟩) hHeld ?_
        refine tkZ 1 (.int .i64 i) rfl (Or.inl ⟨by rfl, fun w hSw => by go_simp⟩) hHeld ?_
        refine tkZ 2 (.int .i64 i6) rfl (Or.inl ⟨by rfl, fun w hSw => by go_simp⟩) hHeld ?_
        refine tkZ 3 (.int .i64 m) rfl (Or.inl ⟨by rfl, fun w hSw => by go_simp⟩) hHeld ?_
        refine tkZ 4 (.int .i64 iz) rfl (Or.inl ⟨by rfl, fun w hSw => by go_simp⟩) hHeld ?_
        refine tkZ 5 (.int .i64 j) rfl (Or.inl ⟨by rfl, fun w hSw => by go_simp⟩) hHeld ?_
        refine tkZ 6 (.int .i64 ij) rfl (Or.inl ⟨by rfl, fun w hSw => by go_simp⟩) hHeld ?_
        refine tkZ 7 (.pointer (some ⟨ab, ao + ij, none⟩)) rfl (Or.inl ⟨by rfl, fun w hSw => by go_simp⟩) hHeld ?_
        refine tkZ 8 (.int .u8 x) rfl (Or.inl ⟨by rfl, fun w' hSw => by have cq := hB1 w' hSw.K; go_simp⟩) hHeld ?_
        refine tkZ 9 ((.slice (some ⟨g4, 0, none⟩) 4 4)) rfl (Or.inl ⟨by rfl, fun w hSw => by go_simp⟩) hHeld ?_
        refine tkZ 10 (.int .i64 j) rfl (Or.inl ⟨by rfl, fun w hSw => by go_simp⟩) hHeld ?_
        refine tkZ 11 (.int .i64 j3) rfl (Or.inl ⟨by rfl, fun w hSw => by go_simp⟩) hHeld ?_
        refine tkZ 12 (.pointer (some ⟨g4, j3, none⟩)) rfl (Or.inl ⟨by rfl, fun w hSw => by go_simp⟩) hHeld ?_
        refine tkZ 13 (.int .u8 x) rfl (Or.inl ⟨by rfl, fun w' hSw => by have cq := hB2 w' hSw.K; go_simp⟩) hHeld ?_
        refine tkZ 14 (.bool false) rfl (Or.inl ⟨by rfl, fun w hSw => by go_simp⟩) hHeld ?_
        refine wpAnyH_done (by kernel_rfl) ?_ _
        unfold NoPanic
        clear hHeld
        clear hB1 hB2
        go_wp2_with fail
        go_roundw
        case rel => exact ⟨j + 1, by omega, by go_num, HJ2, hS⟩
        case measure => simp [intOf]; omega
      · have e1 : (l.getD ij 0 != X.getD j 0) = true := by rw [bne_iff_ne]; exact hxy
        clear hstep hstep2 hxy
        generalize l.getD ij 0 = x at *
        generalize X.getD j 0 = y at *
        go_upto_region 20 with fail
        refine wp_region_noPanic ?_
        replace hS := hS.drew
        refine wp_region_held_drew (S := Hs17 _ _ _) (by kernel_rfl) (hS.sub (((List.Sublist.slnil).cons_cons _).cons_cons _)) (fun hHeld => ?_)
        generalize World.drew _ = w26 at hS hHeld ⊢
        refine tkZ 0 ((.slice (some ⟨ab, ao, none⟩) n c)) rfl (Or.inl ⟨by rfl, fun w hSw => by go_simp⟩) hHeld ?_
        refine tkZ 1 (.int .i64 i) rfl (Or.inl ⟨by rfl, fun w hSw => by go_simp⟩) hHeld ?_
        refine tkZ 2 (.int .i64 i6) rfl (Or.inl ⟨by rfl, fun w hSw => by go_simp⟩) hHeld ?_
        refine tkZ 3 (.int .i64 m) rfl (Or.inl ⟨by rfl, fun w hSw => by go_simp⟩) hHeld ?_
        refine tkZ 4 (.int .i64 iz) rfl (Or.inl ⟨by rfl, fun w hSw => by go_simp⟩) hHeld ?_
        refine tkZ 5 (.int .i64 j) rfl (Or.inl ⟨by rfl, fun w hSw => by go_simp⟩) hHeld ?_
        refine tkZ 6 (.int .i64 ij) rfl (Or.inl ⟨by rfl, fun w hSw => by go_simp⟩) hHeld ?_
        refine tkZ 7 (.pointer (some ⟨ab, ao + ij, none⟩)) rfl (Or.inl ⟨by rfl, fun w hSw => by go_simp⟩) hHeld ?_
        refine tkZ 8 (.int .u8 x) rfl (Or.inl ⟨by rfl, fun w' hSw => by have cq := hB1 w' hSw.K; go_simp⟩) hHeld ?_
        refine tkZ 9 ((.slice (some ⟨g4, 0, none⟩) 4 4)) rfl (Or.inl ⟨by rfl, fun w hSw => by go_simp⟩) hHeld ?_
        refine tkZ 10 (.int .i64 j) rfl (Or.inl ⟨by rfl, fun w hSw => by go_simp⟩) hHeld ?_
        refine tkZ 11 (.int .i64 j3) rfl (Or.inl ⟨by rfl, fun w hSw => by go_simp⟩) hHeld ?_
        refine tkZ 12 (.pointer (some ⟨g4, j3, none⟩)) rfl (Or.inl ⟨by rfl, fun w hSw => by go_simp⟩) hHeld ?_
        refine tkZ 13 (.int .u8 y) rfl (Or.inl ⟨by rfl, fun w' hSw => by have cq := hB2 w' hSw.K; go_simp⟩) hHeld ?_
        refine tkZ 14 (.bool true) rfl (Or.inl ⟨by rfl, fun w hSw => by go_simp⟩) hHeld ?_
        refine wpAnyH_done (by kernel_rfl) ?_ _
        unfold NoPanic
        clear hHeld
        clear hB1 hB2
        go_upto_region 21 with fail
        refine wp_region_lit ?_
        refine ldZ 136 (.tmp 7) rfl 0 rfl 0 rfl _ (At.self _) Try.underlying136 rfl (szR _ _) hS ?_
        refine stZ1 ?_
        refine srZ 136 (.tmp 4) (.tmp 85) rfl 1 rfl 0 rfl _ _ (pt_r 0 0 nilB nilB) rfl (szR _ _) (one_r _ rfl) hS ?_
        clear hS
        intro w27 hS
        refine snZ2 ?_
        go_wp2
        refine bodyPost_ret (res_ctt rfl hS 1 rfl rfl Try.underlying136 rfl (szR _ _) (.int .i64 i) (.int .i64 3) rfl rfl) rfl ?_
        exact ⟨rfl, hS.bel⟩
    · have hj4 : j = 4 := by omega
      subst hj4
      refine absurd ?_ (unhide HNE)
      have h5 := unhide HJ
      have h6 : ((l.drop iz).take 4).take 4 = (l.drop iz).take 4 := by rw [List.take_take]; simp
      have h7 : X.take 4 = X := List.take_of_length_le (by rw [(unhide HLE).2]; omega)
      rw [h6, h7] at h5
      exact h5
end Go.Proofs.Ytppmgfkpfamabaa
