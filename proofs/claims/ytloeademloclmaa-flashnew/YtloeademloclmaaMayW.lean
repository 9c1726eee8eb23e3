import Derived.Test.YtloeademloclmaaSpF
set_option linter.unusedVariables false
namespace Go.Proofs.Ytloeademloclmaa
open Go.RowKit

/-! What the law allows. -/
theorem same_t (a b : Sl) (w : World) (ha : a.Ok w) (hb : b.Ok w) (hn : a.n ≤ 1099511627776) (h : a.l = b.l) :
    Calls Try.prog 16 #[.slice a.a a.n a.c, .slice b.a b.n b.c] w fun e w' => e = .returned (.bool true) ∧ ∃ k, w' = w.drewN k := by
  have := same_any a b w ha hb hn
  rw [decide_eq_true h] at this
  exact this
set_option maxHeartbeats 2000000 in
set_option maxRecDepth 100000 in
theorem begins_t (a b : Sl) (w : World) (ha : a.Ok w) (hb : b.Ok w) (hn : a.n ≤ 1099511627776) (h : a.l.take b.n = b.l) :
    Calls Try.prog 43 #[.slice a.a a.n a.c, .slice b.a b.n b.c] w fun e w' => e = .returned (.bool true) ∧ ∃ k, w' = w.drewN k := by
  have hal := ha.len
  have hbl := hb.len
  have hle : b.n ≤ a.n := by rw [← hbl, ← h, List.length_take]; omega
  have hac := ha.le
  have hamx := ha.mx
  unfold maxLen at hamx
  obtain ⟨aa, an, ac, al⟩ := a
  have hcut := ha.cut b.n hle
  have hS := same_t ⟨aa, b.n, ac, al.take b.n⟩ b w hcut hb (by simp only at *; omega) h
  simp only at *
  obtain ⟨ba, bn, bc, bl⟩ := b
  simp only at *
  have hz : (bn : Int) ≤ (an : Int) := by omega
  have hz2 : (an : Int) ≤ (ac : Int) := by omega
  clear ha hb hcut h hal hbl
  go_enter Try.func43, Try.ntmps43
  go_wp2_with (go_at_call 16; refine hS.mono ?_; rintro e w1 ⟨rfl, k1, rfl⟩)
  go_ret
  exact ⟨rfl, _, rfl⟩
/-- a slice behind its beginning -/
theorem Sl.Ok.from' {w : World} {a : Option Addr} {n c : Nat} {l : List Int} (h : Sl.Ok w ⟨a, n, c, l⟩) (k : Nat) (hk : k ≤ n) : Sl.Ok w ⟨if c = k then a else a.map (·.add k), n - k, c - k, l.drop k⟩ := by
  have h1 : l.length = n := h.len
  have h2 : n ≤ c := h.le
  have h3 : c ≤ maxLen := h.mx
  refine ⟨by simp only [List.length_drop]; omega, by simp only; omega, by simp only; omega, fun e => ?_, fun x hx => h.isB x (List.mem_of_mem_drop hx), Lies.from h.lies rfl (by rw [h1]; exact h2)⟩
  simp only at e ⊢
  split at e
  · obtain ⟨h4, h5⟩ := h.nn e; simp only at h4 h5; omega
  · cases a with
    | none => obtain ⟨h4, h5⟩ := h.nn rfl; simp only at h4 h5; omega
    | some x => simp at e
set_option maxHeartbeats 2000000 in
set_option maxRecDepth 100000 in
theorem appended_ok (u v d : Sl) (st : Bool) (w : World) (hu : u.Ok w) (hv : v.Ok w) (hd : d.Ok w) (hn : v.n ≤ 1048576) (h : v.l = u.l ++ d.l) :
    Calls Try.prog 36 #[.slice u.a u.n u.c, .slice v.a v.n v.c, .slice d.a d.n d.c, .int .i64 0, .bool st] w fun e w' => e = .returned (.bool true) ∧ ∃ k, w' = w.drewN k := by
  have hul := hu.len
  have hvl := hv.len
  have hvle := hv.le
  have hvmx := hv.mx
  unfold maxLen at hvmx
  have hB := begins_t v u w hv hu (by omega) (by rw [h, ← hul]; simp)
  have hle : u.n ≤ v.n := by rw [← hul, ← hvl, h]; simp
  obtain ⟨va, vn, vc, vl⟩ := v
  have hF := hv.from' u.n hle
  have hS : ∀ k, Calls Try.prog 16 #[.slice (if vc = u.n then va else va.map (·.add u.n)) (vn - u.n) (vc - u.n), .slice d.a d.n d.c] (w.drewN k) fun e w' => e = .returned (.bool true) ∧ ∃ j, w' = (w.drewN k).drewN j := fun k => same_t ⟨_, _, _, vl.drop u.n⟩ d _ (ok_drewN hF k) (ok_drewN hd k) (by simp only at *; omega) (by simp only at *; rw [h, ← hul]; simp)
  simp only at *
  obtain ⟨y, hy⟩ : ∃ y, (if vc = u.n then va else va.map (·.add u.n)) = y := ⟨_, rfl⟩
  rw [hy] at hS
  have hz : (u.n : Int) ≤ (vn : Int) := by omega
  have hz2 : (vn : Int) ≤ (vc : Int) := by omega
  clear hF hu hv hd h hul hvl
  go_enter Try.func36, Try.ntmps36
  go_wp2_with (first
    | (go_at_call 43; refine hB.mono ?_; rintro e w1 ⟨rfl, k1, rfl⟩)
    | (go_at_call 16; refine (hS k1).mono ?_; rintro e w2 ⟨rfl, k2, rfl⟩))
  go_ret
  exact ⟨rfl, _, rfl⟩
set_option maxHeartbeats 2000000 in
set_option maxRecDepth 100000 in
theorem appended_cut (u v d : Sl) (w : World) (hu : u.Ok w) (hv : v.Ok w) (hd : d.Ok w) (hn : v.n ≤ 1048576) (m : Nat) (h : v.l = u.l ++ d.l.take m) (hdn : d.n ≤ 1099511627776) :
    Calls Try.prog 36 #[.slice u.a u.n u.c, .slice v.a v.n v.c, .slice d.a d.n d.c, .int .i64 121, .bool true] w fun e w' => e = .returned (.bool true) ∧ ∃ k, w' = w.drewN k := by
  have hul := hu.len
  have hvl := hv.len
  have hvle := hv.le
  have hvmx := hv.mx
  unfold maxLen at hvmx
  have hB := begins_t v u w hv hu (by omega) (by rw [h, ← hul]; simp)
  have hle : u.n ≤ v.n := by rw [← hul, ← hvl, h]; simp
  obtain ⟨va, vn, vc, vl⟩ := v
  have hF := hv.from' u.n hle
  have hS : ∀ k, Calls Try.prog 43 #[.slice d.a d.n d.c, .slice (if vc = u.n then va else va.map (·.add u.n)) (vn - u.n) (vc - u.n)] (w.drewN k) fun e w' => e = .returned (.bool true) ∧ ∃ j, w' = (w.drewN k).drewN j := fun k => begins_t d ⟨_, _, _, vl.drop u.n⟩ _ (ok_drewN hd k) (ok_drewN hF k) hdn (by
    simp only at *
    have e1 : vl.drop u.n = d.l.take m := by rw [h, ← hul]; simp
    have e2 : vn - u.n = (d.l.take m).length := by rw [← e1, List.length_drop, hvl]
    rw [e1, e2, List.length_take, List.take_eq_take_iff]; simp)
  simp only at *
  obtain ⟨y, hy⟩ : ∃ y, (if vc = u.n then va else va.map (·.add u.n)) = y := ⟨_, rfl⟩
  rw [hy] at hS
  have hz : (u.n : Int) ≤ (vn : Int) := by omega
  have hz2 : (vn : Int) ≤ (vc : Int) := by omega
  clear hF hu hv hd h hul hvl
  go_enter Try.func36, Try.ntmps36
  go_wp2_with (first
    | (go_at_call 43; refine hB.mono ?_; rintro e w1 ⟨rfl, k1, rfl⟩; clear hB)
    | (go_at_call 43; refine (hS k1).mono ?_; rintro e w2 ⟨rfl, k2, rfl⟩))
  go_ret
  exact ⟨rfl, _, rfl⟩
set_option maxHeartbeats 2000000 in
set_option maxRecDepth 100000 in
theorem appended_no (u v d : Sl) (e0 : Int) (st : Bool) (w : World) (hu : u.Ok w) (hv : v.Ok w) (hd : d.Ok w) (hn : v.n ≤ 1048576) (h : v.l = u.l) (he : e0 ≠ 0) (hst : ¬ (e0 = 121 ∧ st = true)) :
    Calls Try.prog 36 #[.slice u.a u.n u.c, .slice v.a v.n v.c, .slice d.a d.n d.c, .int .i64 e0, .bool st] w fun e w' => e = .returned (.bool true) ∧ ∃ k, w' = w.drewN k := by
  have hul := hu.len
  have hvl := hv.len
  have hvle := hv.le
  have hvmx := hv.mx
  unfold maxLen at hvmx
  have hB := begins_t v u w hv hu (by omega) (by rw [h, ← hul, List.take_length])
  have hle : u.n = v.n := by rw [← hul, ← hvl, h]
  obtain ⟨va, vn, vc, vl⟩ := v
  simp only at *
  obtain ⟨ua, un, uc, ul⟩ := u
  simp only at *
  subst hle
  have hz2 : (un : Int) ≤ (vc : Int) := by omega
  have he1 : (e0 == 0) = false := by simpa using he
  clear hu hv hd h hul hvl
  by_cases h121 : e0 = 121
  · subst h121
    have hst' : st = false := by cases st <;> simp_all
    subst hst'
    go_enter Try.func36, Try.ntmps36
    go_wp2_with (first
      | (go_at_call 43; refine hB.mono ?_; rintro e w1 ⟨rfl, k1, rfl⟩; clear hB))
    all_goals (go_ret; exact ⟨by simp, _, rfl⟩)
  · have h2 : (e0 == 121) = false := by simpa using h121
    go_enter Try.func36, Try.ntmps36
    go_wp2_with (first
      | (go_at_call 43; refine hB.mono ?_; rintro e w1 ⟨rfl, k1, rfl⟩; clear hB))
    all_goals (go_ret; exact ⟨by simp, _, rfl⟩)
set_option maxHeartbeats 2000000 in
set_option maxRecDepth 100000 in
theorem erased_ok (u v : Sl) (st : Bool) (w : World) (hv : v.Ok w) (h : v.l = []) :
    Calls Try.prog 37 #[.slice u.a u.n u.c, .slice v.a v.n v.c, .int .i64 0, .bool st] w fun e w' => e = .returned (.bool true) ∧ ∃ k, w' = w.drewN k := by
  have hn : v.n = 0 := by rw [← hv.len, h]; rfl
  rw [hn]
  clear hv h hn
  go_enter Try.func37, Try.ntmps37
  go_wp2
  go_ret
  exact ⟨rfl, 0, rfl⟩
set_option maxHeartbeats 2000000 in
set_option maxRecDepth 100000 in
theorem erased_no (u v : Sl) (e0 : Int) (st : Bool) (w : World) (hu : u.Ok w) (hv : v.Ok w) (hn : u.n ≤ 1048576) (h : u.l = v.l) (he : e0 ≠ 0) (hst : ¬ (e0 = 121 ∧ st = true)) :
    Calls Try.prog 37 #[.slice u.a u.n u.c, .slice v.a v.n v.c, .int .i64 e0, .bool st] w fun e w' => e = .returned (.bool true) ∧ ∃ k, w' = w.drewN k := by
  have hS := same_t u v w hu hv (by omega) h
  have he1 : (e0 == 0) = false := by simpa using he
  clear hu hv h
  by_cases h121 : e0 = 121
  · subst h121
    have hst' : st = false := by cases st <;> simp_all
    subst hst'
    go_enter Try.func37, Try.ntmps37
    go_wp2_with (go_at_call 16; refine hS.mono ?_; rintro e w2 ⟨rfl, k2, rfl⟩)
    go_ret
    exact ⟨rfl, _, rfl⟩
  · have h2 : (e0 != 121) = true := by simpa using h121
    go_enter Try.func37, Try.ntmps37
    go_wp2_with (go_at_call 16; refine hS.mono ?_; rintro e w2 ⟨rfl, k2, rfl⟩)
    go_ret
    exact ⟨rfl, _, rfl⟩
set_option maxHeartbeats 2000000 in
set_option maxRecDepth 100000 in
theorem erased_nil (u v : Sl) (w : World) (hv : v.Ok w) (h : v.l = []) :
    Calls Try.prog 37 #[.slice u.a u.n u.c, .slice v.a v.n v.c, .int .i64 121, .bool true] w fun e w' => e = .returned (.bool true) ∧ ∃ k, w' = w.drewN k := by
  have hn : v.n = 0 := by rw [← hv.len, h]; rfl
  rw [hn]
  clear hv h hn
  go_enter Try.func37, Try.ntmps37
  go_wp2
  go_ret
  exact ⟨rfl, 0, rfl⟩
theorem tearL_at (l : List Int) (m j : Nat) (h : j < m) : (tearL l m).getD j 0 = 255 := by
  unfold tearL
  rw [List.getD_eq_getElem?_getD, List.getElem?_append_left (by simpa using h), List.getElem?_replicate, if_pos h]
  rfl
theorem tearL_drop (l : List Int) (m j : Nat) (h : m ≤ j) : (tearL l m).drop j = l.drop j := by
  unfold tearL
  rw [List.drop_append, List.drop_of_length_le (by simpa using h), List.nil_append, List.length_replicate, List.drop_drop]
  congr 1; omega
set_option maxHeartbeats 2000000 in
set_option maxRecDepth 100000 in
theorem erased_cut (u v : Sl) (m : Nat) (w : World) (hu : u.Ok w) (hv : v.Ok w) (hn : u.n ≤ 1048576) (hm : m ≤ u.n) (h : v.l = tearL u.l m) (h0 : v.n ≠ 0) :
    Calls Try.prog 37 #[.slice u.a u.n u.c, .slice v.a v.n v.c, .int .i64 121, .bool true] w fun e w' => e = .returned (.bool true) ∧ ∃ k, w' = w.drewN k := by
  have hul := hu.len
  have hvl := hv.len
  have huc := hu.le
  have hvc := hv.le
  have hlen : v.n = u.n := by rw [← hvl, h, tearL_len _ _ (by omega), hul]
  obtain ⟨va, vn, vc, vl⟩ := v
  obtain ⟨ua, un, uc, ul⟩ := u
  simp only at *
  subst hlen
  obtain ⟨bk, off, hva, -, hcell⟩ := hv.lies (by simp only; omega)
  simp only at hva hcell
  subst hva
  have hc : ∀ j, j < vn → w.cell? ⟨bk, off + j, none⟩ = some (.int .u8 (vl.getD j 0)) := fun j hj => hcell j (by omega)
  have HC := hide hc
  have HU := hide hu
  have HV := hide hv
  have HH := hide h
  have HUL := hide hul
  have hz0 : ¬ (vn : Int) = 0 := by omega
  have hzc : (vn : Int) ≤ (vc : Int) := by omega
  have hzc2 : (vn : Int) ≤ (uc : Int) := by omega
  clear hc hu hv h hul hvl hcell
  go_enter Try.func37, Try.ntmps37
  go_wp2_with fail
  go_loopw [9] (fun i wr => ∃ j : Nat, j ≤ vn ∧ i = .int .i64 j ∧ wr = w) (fun i _ => vn - (intOf i).toNat)
  case atStart => exact ⟨0, by omega, rfl, rfl⟩
  case round =>
    obtain ⟨j, hj, rfl, rfl⟩ := hrel
    by_cases hlt : j < vn ∧ vl.getD j 0 = 255
    · have hjz : (j : Int) < (vn : Int) := by omega
      have c := unhide HC j hlt.1
      rw [hlt.2] at c
      go_wp2
      go_roundw
      case rel => exact ⟨j + 1, by omega, by go_num, trivial⟩
      case measure => simp [intOf]; omega
    · have hmj : m ≤ j := by
        by_cases hmj : m ≤ j
        · exact hmj
        · exact absurd ⟨by omega, by rw [unhide HH]; exact tearL_at _ _ _ (by omega)⟩ hlt
      have hS : ∀ k, Calls Try.prog 16 #[.slice (if vc = j then some ⟨bk, off, none⟩ else (some (⟨bk, off, none⟩ : Addr)).map (·.add j)) (vn - j) (vc - j), .slice (if uc = j then ua else ua.map (·.add j)) (vn - j) (uc - j)] (wr.drewN k) fun e w' => e = .returned (.bool true) ∧ ∃ k2, w' = (wr.drewN k).drewN k2 := fun k => same_t ⟨_, _, _, vl.drop j⟩ ⟨_, _, _, ul.drop j⟩ _ (ok_drewN ((unhide HV).from' j hj) k) (ok_drewN ((unhide HU).from' j hj) k) (by simp only; omega) (by simp only; rw [unhide HH, tearL_drop _ _ _ hmj])
      obtain ⟨y, hy⟩ : ∃ y, (if uc = j then ua else ua.map (·.add j)) = y := ⟨_, rfl⟩
      rw [hy] at hS
      simp only [Option.map_some, addr_add] at hS
      obtain ⟨y1, hy1⟩ : ∃ y, (if vc = j then some (⟨bk, off, none⟩ : Addr) else some ⟨bk, off + j, none⟩) = y := ⟨_, rfl⟩
      rw [hy1] at hS
      have hjv : (j : Int) ≤ (vn : Int) := by omega
      by_cases hjn : j < vn
      · have hjz : (j : Int) < (vn : Int) := by omega
        have c := unhide HC j hjn
        obtain ⟨x, hx⟩ : ∃ x, vl.getD j 0 = x := ⟨_, rfl⟩
        rw [hx] at c
        have hx2 : x ≠ 255 := fun e => hlt ⟨hjn, by rw [hx, e]⟩
        have hx3 : (x == 255) = false := by simpa using hx2
        go_wp2_with fail
        go_region_held3 (fun _ => True) (trivial) (first | (go_at_call 16; refine (hS 1).mono ?_; rintro e w2 ⟨rfl, k2, rfl⟩))
        go_wp2
        go_ret
        exact ⟨rfl, _, rfl⟩
      · have hjz : ¬ (j : Int) < (vn : Int) := by omega
        go_wp2_with fail
        go_region_held3 (fun _ => True) (trivial) (first | (go_at_call 16; refine (hS 1).mono ?_; rintro e w2 ⟨rfl, k2, rfl⟩))
        go_wp2
        go_ret
        exact ⟨rfl, _, rfl⟩

def MayP (bk : Int) (u v : List Int) (t : Stf) (e : Int) (st : Bool) : Prop :=
  if t.kind = 1 ∧ t.bank = bk then (e = 0 ∧ v = u ++ t.b.l) ∨ (e = 121 ∧ st = true ∧ ∃ m, v = u ++ t.b.l.take m) ∨ (e ≠ 0 ∧ ¬ (e = 121 ∧ st = true) ∧ v = u)
  else if t.kind = 2 ∧ t.bank = bk then (e = 0 ∧ v = []) ∨ (e = 121 ∧ st = true ∧ (v = [] ∨ ∃ m, m ≤ u.length ∧ v = tearL u m)) ∨ (e ≠ 0 ∧ ¬ (e = 121 ∧ st = true) ∧ u = v)
  else u = v
theorem app_t (u v d : Sl) (e0 : Int) (st : Bool) (w : World) (hu : u.Ok w) (hv : v.Ok w) (hd : d.Ok w) (hn : v.n ≤ 1048576) (hdn : d.n ≤ 1099511627776)
    (h : (e0 = 0 ∧ v.l = u.l ++ d.l) ∨ (e0 = 121 ∧ st = true ∧ ∃ m, v.l = u.l ++ d.l.take m) ∨ (e0 ≠ 0 ∧ ¬ (e0 = 121 ∧ st = true) ∧ v.l = u.l)) :
    Calls Try.prog 36 #[.slice u.a u.n u.c, .slice v.a v.n v.c, .slice d.a d.n d.c, .int .i64 e0, .bool st] w fun e w' => e = .returned (.bool true) ∧ ∃ k, w' = w.drewN k := by
  rcases h with ⟨rfl, h⟩ | ⟨rfl, rfl, m, h⟩ | ⟨h1, h2, h⟩
  · exact appended_ok u v d st w hu hv hd hn h
  · exact appended_cut u v d w hu hv hd hn m h hdn
  · exact appended_no u v d e0 st w hu hv hd hn h h1 h2
theorem era_t (u v : Sl) (e0 : Int) (st : Bool) (w : World) (hu : u.Ok w) (hv : v.Ok w) (hn : u.n ≤ 1048576)
    (h : (e0 = 0 ∧ v.l = []) ∨ (e0 = 121 ∧ st = true ∧ (v.l = [] ∨ ∃ m, m ≤ u.l.length ∧ v.l = tearL u.l m)) ∨ (e0 ≠ 0 ∧ ¬ (e0 = 121 ∧ st = true) ∧ u.l = v.l)) :
    Calls Try.prog 37 #[.slice u.a u.n u.c, .slice v.a v.n v.c, .int .i64 e0, .bool st] w fun e w' => e = .returned (.bool true) ∧ ∃ k, w' = w.drewN k := by
  rcases h with ⟨rfl, h⟩ | ⟨rfl, rfl, h⟩ | ⟨h1, h2, h⟩
  · exact erased_ok u v st w hv h
  · rcases h with h | ⟨m, hm, h⟩
    · exact erased_nil u v w hv h
    · by_cases h0 : v.n = 0
      · exact erased_nil u v w hv (List.eq_nil_of_length_eq_zero (by rw [hv.len, h0]))
      · exact erased_cut u v m w hu hv hn (by rw [← hu.len]; exact hm) h h0
  · exact erased_no u v e0 st w hu hv hn h h1 h2
set_option maxHeartbeats 2000000 in
set_option maxRecDepth 100000 in
theorem may_any (bk : Int) (u v : Sl) (t : Stf) (e0 : Int) (st : Bool) (w : World) (hu : u.Ok w) (hv : v.Ok w) (hd : t.b.Ok w) (hun : u.n ≤ 1048576) (hn : v.n ≤ 1048576) (hdn : t.b.n ≤ 1099511627776) (h : MayP bk u.l v.l t e0 st) :
    Calls Try.prog 25 #[.int .i64 bk, .slice u.a u.n u.c, .slice v.a v.n v.c, t.v, .int .i64 e0, .bool st] w fun e w' => e = .returned (.bool true) ∧ Below w.heap.size w w' := by
  obtain ⟨kd, bank, d, x, y⟩ := t
  simp only [Stf.v, Sl.v]
  obtain ⟨W, hW⟩ : ∃ W, W = w.alloc (.cells #[.int .i64 kd, .int .i64 bank, .slice d.a d.n d.c, .int .i64 x, .int .i64 y] 47) := ⟨_, rfl⟩
  have A0 : Arr W w.heap.size 47 [.int .i64 kd, .int .i64 bank, .slice d.a d.n d.c, .int .i64 x, .int .i64 y] := by rw [hW]; exact Arr.new w _ _
  have B0 : Below w.heap.size w W := by rw [hW]; exact below_one w _
  have c0 : W.cell? ⟨w.heap.size, 0, none⟩ = some (.int .i64 kd) := by simpa using A0.cell 0
  have c1 : W.cell? ⟨w.heap.size, 1, none⟩ = some (.int .i64 bank) := by simpa using A0.cell 1
  have c2 : W.cell? ⟨w.heap.size, 2, none⟩ = some (.slice d.a d.n d.c) := by simpa using A0.cell 2
  have hW' := hW.symm
  have HB0 := hide B0
  have hu' := hu.later B0
  have hv' := hv.later B0
  have hd' : d.Ok W := hd.later B0
  unfold MayP at h
  simp only at h hdn
  by_cases k1 : kd = 1 ∧ bank = bk
  · rw [if_pos k1] at h
    have hC := app_t u v d e0 st W hu' hv' hd' hn hdn h
    obtain ⟨rfl, rfl⟩ := k1
    clear h hu hv hd hu' hv' hd' A0 B0 hW
    go_enter Try.func25, Try.ntmps25
    go_wp2_with (go_at_call 36; refine hC.mono ?_; rintro e w2 ⟨rfl, k2, rfl⟩)
    go_ret
    exact ⟨rfl, below_drewN (unhide HB0) k2⟩
  rw [if_neg k1] at h
  by_cases k2 : kd = 2 ∧ bank = bk
  · rw [if_pos k2] at h
    have hC := era_t u v e0 st W hu' hv' hun h
    obtain ⟨rfl, rfl⟩ := k2
    clear h hu hv hd hu' hv' hd' A0 B0 hW k1
    go_enter Try.func25, Try.ntmps25
    go_wp2_with (go_at_call 37; refine hC.mono ?_; rintro e w2 ⟨rfl, k2, rfl⟩)
    go_ret
    exact ⟨rfl, below_drewN (unhide HB0) k2⟩
  rw [if_neg k2] at h
  have hC := same_t u v W hu' hv' (by omega) h
  clear h hu hv hd hu' hv' hd' A0 B0 hW
  by_cases kb : bank = bk
  · subst kb
    have k1' : (kd == 1) = false := by simpa using fun e => k1 ⟨e, rfl⟩
    have k2' : (kd == 2) = false := by simpa using fun e => k2 ⟨e, rfl⟩
    clear k1 k2
    go_enter Try.func25, Try.ntmps25
    go_wp2_with (go_at_call 16; refine hC.mono ?_; rintro e w2 ⟨rfl, k2, rfl⟩)
    go_ret
    exact ⟨rfl, below_drewN (unhide HB0) k2⟩
  · have kb' : (bank == bk) = false := by simpa using kb
    clear k1 k2
    go_enter Try.func25, Try.ntmps25
    go_wp2_with (go_at_call 16; refine hC.mono ?_; rintro e w2 ⟨rfl, k2, rfl⟩)
    all_goals (go_ret; exact ⟨rfl, below_drewN (unhide HB0) k2⟩)
end Go.Proofs.Ytloeademloclmaa
