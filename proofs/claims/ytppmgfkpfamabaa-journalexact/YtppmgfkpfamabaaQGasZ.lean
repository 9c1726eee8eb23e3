import Derived.Test.YtppmgfkpfamabaaQGarZ
import Derived.Deep.QuietTactic
import Derived.BigQuiet
set_option maxHeartbeats 1000000
set_option maxRecDepth 100000
set_option linter.unusedVariables false
namespace Go.Proofs.Ytppmgfkpfamabaa
open Go.RowKit
theorem own_any (d : Sl) (w : World) (hd : d.Ok w) (hn : d.n ≤ 140737488351232) :
    Calls Try.prog 86 #[d.v] w fun e w' => ∃ a c, e = .returned (.slice a d.n d.n) ∧ w'.ownsRow w.heap.size 5 1 (.slice a d.n c) d.n (U8 d.l) ∧ Below w.heap.size w w' := by
  obtain ⟨a, n, c, l⟩ := d
  have hn' : n ≤ 140737488351232 := hn
  have HD := hide hd
  clear hd hn
  simp only [Sl.v]
  go_enter Try.func86, Try.ntmps86
  go_wp2_with (at_builtin; refine wpList_append_made rfl _ _ rfl rfl ⟨_, _, _, _⟩ (unhide HD) rfl (by simp only; omega) ?_)
  intro v1 w1 o1 b1
  obtain ⟨s, hs, so, sl, sn, sa⟩ := own_sl (unhide o1) (unhide HD).isB
  subst hs
  obtain ⟨sa', sn', sc, sl'⟩ := s
  simp only at sn
  subst sn
  have hle : sn' ≤ sc := so.le
  have hmx : sc ≤ 9223372036854775807 := by have := so.mx; unfold maxLen at this; exact this
  simp only [Sl.v]
  clear so sl sa
  go_wp2_with fail
  go_ret
  exact ⟨sa', sc, rfl, unhide o1, unhide b1⟩
theorem results_cell_tmp2 {fn : Func} {p u u' : Tmp} {ty : TypeId} (h : fn.results = #[.cell p ty, .tmp u, .tmp u']) (tmps : Array Value) (P : Program) (w : World) :
    (results fn tmps).run P w =
      ((asAddr (tmps.getD p undef)).run P w).andThen fun a w₁ => ((loadVar ty a).run P w₁).andThen fun v w₂ => .ok (.tuple #[v, tmps.getD u undef, tmps.getD u' undef]) w₂ := by
  simp only [results, h]
  simp [Sem.run_bind, Result.andThen]
theorem results_row_tmp2 {P : Program} {fn : Func} {p u u' : Tmp} {ty : TypeId} (h : fn.results = #[.cell p ty, .tmp u, .tmp u']) (tmps : Array Value) (w : World) (g : Nat) (t : TypeId) (cs : Array Value) (fr : Nat × Nat) (d : TypeDesc)
    (hp : tmps.getD p undef = .pointer (some ⟨g, 0, none⟩)) (v : Value) (hv : tmps.getD u undef = v) (v' : Value) (hv' : tmps.getD u' undef = v') (hg : w.heap[g]? = some (.cells cs t fr))
    (hu : P.underlying ty = some d) (hd : (match d with | .struct _ | .array _ _ => true | _ => false) = true) (hi : (P.info? ty).map (·.size) = some cs.size) :
    (results fn tmps).run P w = .ok (.tuple #[.agg cs, v, v']) w := by
  rw [results_cell_tmp2 h, hp, hv, hv']
  simp [asAddr, run_loadVar_row w g t ty cs fr d hg hu hd hi]
theorem own_setRow1 {w : World} {base e n g : Nat} {v : Value} {xs : List Value} (h : w.ownsRow base e 1 v n xs) (c : Array Value) (hg : g < base) : (w.setRow g c).ownsRow base e 1 v n xs := by
  obtain ⟨h1, h2⟩ := h
  refine ⟨h1, ?_⟩
  rcases h2 with h2 | ⟨b, cap, cur, r1, r2, r3, r4⟩
  · exact .inl h2
  · exact .inr ⟨b, cap, cur, r1, r2, ((But.refl g w).setRow c).block b (Arr.lt r3) (by omega) |>.trans r3, r4⟩
theorem fr_one (k : Int) (a : Option Addr) (m c : Nat) : (#[Value.int .u8 k, .slice a m c] : Array Value).all (·.oneCell') = true := all_one (l := [.int .u8 k, .slice a m c]) (by intro v hv; simp at hv; rcases hv with rfl | rfl <;> rfl)
theorem Try.szFd : (Try.prog.info? 136).map (·.size) = some 2 := by kernel_rfl
def frV (k : Int) (v : Value) : Value := .agg #[.int .u8 k, v]
def fr0 : Value := frV 0 (.slice none 0 0)
theorem Sl.Ok.from {w : World} {a : Option Addr} {n c : Nat} {l : List Int} (h : Sl.Ok w ⟨a, n, c, l⟩) (i : Nat) (hi : i ≤ n) : Sl.Ok w ⟨if c = i then a else a.map (·.add i), n - i, c - i, l.drop i⟩ := by
  have h1 := h.len
  have h2 := h.le
  have h3 := h.mx
  simp only at h1 h2 h3
  exact ⟨by simp only [List.length_drop]; omega, by simp only; omega, by simp only; omega, (fun e => by
    simp only at e ⊢
    by_cases hc : c = i
    · omega
    · rw [if_neg hc] at e
      cases a with
      | none => have := h.nn rfl; simp only at this; omega
      | some x => simp at e), h.isB.drop i, Lies.from h.lies rfl (by omega)⟩
theorem decode_none (d : Sl) (i : Nat) (w : World) (hd : d.Ok w) (hi : i ≤ d.n) (hz : (mz (d.l.drop i)).1 = 0) :
    Calls Try.prog 80 #[d.v, .int .i64 i] w fun e w' => e = .returned (.tuple #[fr0, .int .i64 i, .int .i64 (mz (d.l.drop i)).2]) ∧ Below w.heap.size w w' := by
  obtain ⟨a, n, c, l⟩ := d
  have hle : n ≤ c := hd.le
  have hmx : c ≤ 9223372036854775807 := by have := hd.mx; unfold maxLen at this; exact this
  have hi' : i ≤ n := hi
  simp only [Sl.v] at hz ⊢
  have hb1 := below_alloc w (.cells #[.int .u8 0, .slice none 0 0] 136)
  have hM := measure_any _ _ ((hd.from i hi).later hb1)
  simp only [Sl.v] at hM
  generalize mz (l.drop i) = M at hM hz ⊢
  obtain ⟨m, t⟩ := M
  simp only at hz hM ⊢
  subst hz
  clear hd hi
  have hia : ¬ (n : Int) < (i : Int) := by omega
  generalize hp : (if c = i then a else a.map (·.add i)) = p at hM
  go_enter Try.func80, Try.ntmps80
  go_wp2_with (go_at_call 85; refine hM.mono ?_; rintro e w' ⟨rfl, rfl⟩)
  refine bodyPost_ret (results_row_tmp2 rfl _ _ w.heap.size 136 _ (0, 0) _ rfl _ rfl _ rfl (heap_alloc_new w _) Try.underlying136 rfl Try.szFd) rfl ?_
  exact ⟨rfl, below_alloc w _⟩
theorem mz_some {l : List Int} (h : (mz l).1 ≠ 0) : mz l = (lenL l + 10, 0) ∧ lenL l + 10 ≤ l.length ∧ lenL l ≤ 262144 := by
  unfold mz at h ⊢
  split at h
  · exact absurd rfl h
  split at h
  · exact absurd rfl h
  split at h
  · exact absurd rfl h
  split at h
  · exact absurd rfl h
  split at h
  · exact absurd rfl h
  split at h
  · exact absurd rfl h
  rw [if_neg (by assumption), if_neg (by assumption), if_neg (by assumption), if_neg (by assumption), if_neg (by assumption), if_neg (by assumption)]
  exact ⟨rfl, by omega, by omega⟩
theorem decode_some (d : Sl) (i m : Nat) (w : World) (hd : d.Ok w) (hm : mz (d.l.drop i) = (m + 10, 0)) (him : i + m + 10 ≤ d.n) (hm2 : m ≤ 262144) :
    Calls Try.prog 80 #[d.v, .int .i64 i] w fun e w' => ∃ a c, e = .returned (.tuple #[frV (d.l.getD (i + 1) 0) (.slice a m m), .int .i64 (i + m + 10 : Nat), .int .i64 0]) ∧
      w'.ownsRow w.heap.size 5 1 (.slice a m c) m (U8 ((d.l.drop (i + 6)).take m)) ∧ Below w.heap.size w w' := by
  obtain ⟨a, n, c, l⟩ := d
  have hle : n ≤ c := hd.le
  have hl : l.length = n := hd.len
  have hmx : c ≤ 9223372036854775807 := by have := hd.mx; unfold maxLen at this; exact this
  have him' : i + m + 10 ≤ n := him
  simp only [Sl.v] at hm ⊢
  obtain ⟨ab, ao, haa, hab, hac⟩ := hd.lies (by show 0 < l.length; omega)
  have haa' : a = some ⟨ab, ao, none⟩ := haa
  subst haa'
  have c1 : w.cell? ⟨ab, ao + (i + 1), none⟩ = some (.int .u8 (l.getD (i + 1) 0)) := hac (i + 1) (by show i + 1 < l.length; omega)
  generalize l.getD (i + 1) 0 = k at c1 ⊢
  have hb1 := below_alloc w (.cells #[.int .u8 0, .slice none 0 0] 136)
  obtain ⟨W1, hW1⟩ : ∃ W, W = w.alloc (.cells #[.int .u8 0, .slice none 0 0] 136) := ⟨_, rfl⟩
  have hA1 : Arr W1 w.heap.size 136 [.int .u8 0, .slice none 0 0] := by rw [hW1]; exact Arr.new w _ [.int .u8 0, .slice none 0 0]
  rw [← hW1] at hb1
  have hM := measure_any _ _ ((hd.from i (by omega)).later hb1)
  simp only [Sl.v] at hM
  rw [hm] at hM
  simp only at hM
  have hO := own_any _ W1.drew ((hd.later (below_drewN hb1 1)).mid (i + 6) m (by omega)) (show m ≤ 140737488351232 by omega)
  have CE : Hid (∀ W', Below w.heap.size w W' → W'.cell? ⟨ab, ao + (i + 1), none⟩ = some (.int .u8 k)) := hide (fun W' hb => (hb.cell (p := ⟨ab, ao + (i + 1), none⟩) hab).trans c1)
  have c2 := unhide CE W1 hb1
  simp only [Sl.v] at hO
  generalize (l.drop (i + 6)).take m = q at hO ⊢
  have hci : ¬ c = i := by omega
  rw [if_neg hci] at hM
  simp only [Option.map_some, addr_add] at hM
  have HW1 := hide hW1
  obtain ⟨i1, hi1⟩ : ∃ i1, i1 = i + 1 := ⟨_, rfl⟩
  obtain ⟨i6, hi6⟩ : ∃ i6, i6 = i + 6 := ⟨_, rfl⟩
  obtain ⟨iz, hiz⟩ : ∃ iz, iz = i + m + 6 := ⟨_, rfl⟩
  have w1 : IntKind.i64.wrap ((i : Int) + 1) = (i1 : Int) := by rw [IntKind.wrap_i64]; omega
  have w6 : IntKind.i64.wrap ((i : Int) + 6) = (i6 : Int) := by rw [IntKind.wrap_i64]; omega
  have wz : IntKind.i64.wrap ((i : Int) + ((m : Int) + 10) - 4) = (iz : Int) := by rw [IntKind.wrap_i64]; omega
  have f1 : (i1 : Int) < (n : Int) := by omega
  have f2 : (i6 : Int) ≤ (iz : Int) := by omega
  have f3 : (iz : Int) ≤ (c : Int) := by omega
  have f4 : i6 ≤ iz ∧ iz ≤ c ∧ i6 < c := by omega
  have hmz : iz - i6 = m := by omega
  have f5 : ¬ c = i6 := by omega
  rw [← hi6] at hO
  rw [← hi1] at CE c2
  have HMZ := hide hmz
  have HI1 := hide hi1
  have HI6 := hide hi6
  have HIZ := hide hiz
  clear hd hm haa hac hW1 c1 hmz hi1 hi6 hiz
  go_enter Try.func80, Try.ntmps80
  go_wp2_with (go_at_call 85; rw [← unhide HW1]; refine hM.mono ?_; rintro e w' ⟨rfl, rfl⟩; clear hM)
  have hA2 : Arr w'.drew w.heap.size 136 [.int .u8 0, .slice none 0 0] := hA1
  have hsz := hb1.size
  refine wp_region_held_drew (S := fun W' => W'.cell? ⟨ab, ao + i1, none⟩ = some (.int .u8 k)) (by kernel_rfl) c2 (fun hHeld => ?_)
  refine wpAnyH_take (i := 0) (v := .slice (some ⟨ab, ao, none⟩) n c) rfl (by kernel_rfl) (by kernel_rfl) (by kernel_rfl) (fun _ _ _ h => h) (Or.inl ⟨by rfl, fun w hSw => by go_simp⟩) hHeld ?_
  simp [Act.put]
  refine wpAnyH_take (i := 1) (v := .int .i64 i) rfl (by kernel_rfl) (by kernel_rfl) (by kernel_rfl) (fun _ _ _ h => h) (Or.inl ⟨by rfl, fun w hSw => by go_simp⟩) hHeld ?_
  simp [Act.put]
  refine wpAnyH_take (i := 2) (v := .int .i64 i1) rfl (by kernel_rfl) (by kernel_rfl) (by kernel_rfl) (fun _ _ _ h => h) (Or.inl ⟨by rfl, fun w hSw => by go_simp⟩) hHeld ?_
  simp [Act.put]
  refine wpAnyH_take (i := 3) (v := .pointer (some ⟨ab, ao + i1, none⟩)) rfl (by kernel_rfl) (by kernel_rfl) (by kernel_rfl) (fun _ _ _ h => h) (Or.inl ⟨by rfl, fun w hSw => by go_simp⟩) hHeld ?_
  simp [Act.put]
  refine wpAnyH_take (i := 4) (v := .int .u8 k) rfl (by kernel_rfl) (by kernel_rfl) (by kernel_rfl) (fun _ _ _ h => h) (Or.inl ⟨by rfl, fun w hSw => by replace hSw : w.cell? ⟨ab, ao + i1, none⟩ = some (.int .u8 k) := hSw; go_simp⟩) hHeld ?_
  simp [Act.put]
  refine wpAnyH_take (i := 5) (v := .slice (some ⟨ab, ao, none⟩) n c) rfl (by kernel_rfl) (by kernel_rfl) (by kernel_rfl) (fun _ _ _ h => h) (Or.inl ⟨by rfl, fun w hSw => by go_simp⟩) hHeld ?_
  simp [Act.put]
  refine wpAnyH_take (i := 6) (v := .int .i64 i) rfl (by kernel_rfl) (by kernel_rfl) (by kernel_rfl) (fun _ _ _ h => h) (Or.inl ⟨by rfl, fun w hSw => by go_simp⟩) hHeld ?_
  simp [Act.put]
  refine wpAnyH_take (i := 7) (v := .int .i64 i6) rfl (by kernel_rfl) (by kernel_rfl) (by kernel_rfl) (fun _ _ _ h => h) (Or.inl ⟨by rfl, fun w hSw => by go_simp⟩) hHeld ?_
  simp [Act.put]
  refine wpAnyH_take (i := 8) (v := .int .i64 ((i : Int) + ((m : Int) + 10))) rfl (by kernel_rfl) (by kernel_rfl) (by kernel_rfl) (fun _ _ _ h => h) (Or.inl ⟨by rfl, fun w hSw => by go_simp⟩) hHeld ?_
  simp [Act.put]
  refine wpAnyH_take (i := 9) (v := .int .i64 iz) rfl (by kernel_rfl) (by kernel_rfl) (by kernel_rfl) (fun _ _ _ h => h) (Or.inl ⟨by rfl, fun w hSw => by go_simp⟩) hHeld ?_
  simp [Act.put]
  refine wpAnyH_take (i := 10) (v := .slice (some ⟨ab, ao + i6, none⟩) (iz - i6) (c - i6)) rfl (by kernel_rfl) (by kernel_rfl) (by kernel_rfl) (fun _ _ _ h => h) (Or.inl ⟨by rfl, fun w hSw => by go_simp⟩) hHeld ?_
  simp [Act.put]
  refine wpAnyH_take (i := 13) (v := .int .i64 ((i : Int) + ((m : Int) + 10))) rfl (by kernel_rfl) (by kernel_rfl) (by kernel_rfl) (fun _ _ _ h => h) (Or.inl ⟨by rfl, fun w hSw => by go_simp⟩) hHeld ?_
  simp [Act.put]
  rw [unhide HMZ]
  refine wpAnyH_ready (rs := [11]) (by kernel_rfl) (by simp) ?_
  refine AllReadyH.cons rfl (fun K hK => ?_) AllReadyH.nil
  go_simp
  refine hO.mono ?_
  rintro e w2 ⟨a2, cc, rfl, o2, b2⟩
  have hA3 := hA2.later b2
  have hb2 := bel_then (below_drewN hb1 1) hsz b2
  clear hO
  refine hK.out _ _ (unhide CE _ hb2) (fun hHeld => ?_)
  clear hK K
  refine wpAnyH_take (i := 12) (v := .agg #[.int .u8 k, .slice a2 m m]) rfl (by kernel_rfl) (by kernel_rfl) (by kernel_rfl) (fun _ _ _ h => h) (Or.inl ⟨by rfl, fun w hSw => by go_simp⟩) hHeld ?_
  simp [Act.put]
  refine wpAnyH_ready (rs := [14]) (by kernel_rfl) (by simp) ?_
  refine AllReadyH.cons rfl (fun K hK => ?_) AllReadyH.nil
  refine step_store_row rfl 136 (.tmp 4) (.tmp 47) rfl w.heap.size #[.int .u8 k, .slice a2 m m] rfl rfl 136 _ hA3 Try.szFd rfl (fr_one _ _ _ _) ?_
  replace hb2 := below_setRow hb2 (Nat.le_refl _) #[.int .u8 k, .slice a2 m m]
  refine hK.out _ _ (unhide CE _ hb2) (fun hHeld => ?_)
  clear hK K
  refine wpAnyH_take (i := 15) (v := .int .i64 ((i : Int) + ((m : Int) + 10))) rfl (by kernel_rfl) (by kernel_rfl) (by kernel_rfl) (fun _ _ _ h => h) (Or.inl ⟨by rfl, fun w hSw => by go_simp⟩) hHeld ?_
  simp [Act.put]
  refine wpAnyH_take (i := 16) (v := .int .i64 0) rfl (by kernel_rfl) (by kernel_rfl) (by kernel_rfl) (fun _ _ _ h => h) (Or.inl ⟨by rfl, fun w hSw => by go_simp⟩) hHeld ?_
  simp [Act.put]
  refine wpAnyH_done (by kernel_rfl) ?_ _
  go_wp2_with fail
  refine bodyPost_ret (results_row_tmp2 rfl _ _ w.heap.size 136 _ (0, 0) _ rfl _ rfl _ rfl (hA3.setRow [.int .u8 k, .slice a2 m m]) Try.underlying136 rfl Try.szFd) rfl ?_
  exact ⟨a2, cc, rfl, own_to' (own_setRow1 o2 _ hA1.lt) (Nat.le_refl _) hsz, hb2⟩
set_option maxHeartbeats 2000000
theorem leB4_rev (x : Int) : (leB 4 x).reverse = [x / 16777216 % 256, x / 65536 % 256, x / 256 % 256, x % 256] := by
  simp [leB, List.range, List.range.loop]
theorem rfour_any (x : Int) (w : World) (hx : 0 ≤ x ∧ x < 4294967296) :
    Calls Try.prog 72 #[.int .u32 x] w fun e w' => e = .returned (.slice (some ⟨w.heap.size, 0, none⟩) 4 4) ∧ w' = w.alloc (.cells (U8 (leB 4 x).reverse).toArray 5) := by
  rw [leB4_rev]
  go_enter Try.func72, Try.ntmps72
  go_wp2
  go_ret
  refine ⟨rfl, ?_⟩
  rw [show x / 16777216 % 256 = x / 16777216 by omega]
  rfl
theorem rnumber_any (d : Sl) (i : Nat) (w : World) (hd : d.Ok w) (hi : i + 4 ≤ d.n) :
    Calls Try.prog 88 #[d.v, .int .i64 i] w fun e w' => e = .returned (.int .i64 (leV ((d.l.drop i).take 4).reverse)) ∧ Below w.heap.size w w' := by
  obtain ⟨a, n, c, l⟩ := d
  have hl : l.length = n := hd.len
  have hle : n ≤ c := hd.le
  have hmx : c ≤ 9223372036854775807 := by have := hd.mx; unfold maxLen at this; exact this
  have hi' : i + 4 ≤ n := hi
  obtain ⟨ab, ao, haa, -, hac⟩ := hd.lies (by show 0 < l.length; omega)
  have haa' : a = some ⟨ab, ao, none⟩ := haa
  subst haa'
  have hv : leV ((l.drop i).take 4).reverse = l.getD i 0 * 16777216 + l.getD (i + 1) 0 * 65536 + l.getD (i + 2) 0 * 256 + l.getD (i + 3) 0 := by
    have h4 : (l.drop i).take 4 = [l.getD i 0, l.getD (i + 1) 0, l.getD (i + 2) 0, l.getD (i + 3) 0] := by
      apply List.ext_getElem
      · simp; omega
      · intro j h1 h2
        simp only [List.length_cons, List.length_nil] at h2
        rw [List.getElem_take, List.getElem_drop]
        match j, h2 with
        | 0, _ => simp [List.getD, List.getElem?_eq_getElem (show i < l.length by omega)]
        | 1, _ => simp [List.getD, List.getElem?_eq_getElem (show i + 1 < l.length by omega)]
        | 2, _ => simp [List.getD, List.getElem?_eq_getElem (show i + 2 < l.length by omega)]
        | 3, _ => simp [List.getD, List.getElem?_eq_getElem (show i + 3 < l.length by omega)]
    rw [h4]
    simp only [List.reverse_cons, List.reverse_nil, List.nil_append, List.cons_append, leV]
    omega
  have c0 : w.cell? ⟨ab, ao + i, none⟩ = some (.int .u8 (l.getD i 0)) := hac i (by show i < l.length; omega)
  have c1 : w.cell? ⟨ab, ao + (i + 1), none⟩ = some (.int .u8 (l.getD (i + 1) 0)) := hac (i + 1) (by show i + 1 < l.length; omega)
  have c2 : w.cell? ⟨ab, ao + (i + 2), none⟩ = some (.int .u8 (l.getD (i + 2) 0)) := hac (i + 2) (by show i + 2 < l.length; omega)
  have c3 : w.cell? ⟨ab, ao + (i + 3), none⟩ = some (.int .u8 (l.getD (i + 3) 0)) := hac (i + 3) (by show i + 3 < l.length; omega)
  have b0 := hd.isB.at i
  have b1 := hd.isB.at (i + 1)
  have b2 := hd.isB.at (i + 2)
  have b3 := hd.isB.at (i + 3)
  simp only at b0 b1 b2 b3
  simp only [Sl.v, hv]
  generalize l.getD i 0 = x0 at *
  generalize l.getD (i + 1) 0 = x1 at *
  generalize l.getD (i + 2) 0 = x2 at *
  generalize l.getD (i + 3) 0 = x3 at *
  clear hd hac haa hv
  obtain ⟨i1, hi1⟩ : ∃ i1, i1 = i + 1 := ⟨_, rfl⟩
  obtain ⟨i2, hi2⟩ : ∃ i1, i1 = i + 2 := ⟨_, rfl⟩
  obtain ⟨i3, hi3⟩ : ∃ i1, i1 = i + 3 := ⟨_, rfl⟩
  rw [← hi1] at c1
  rw [← hi2] at c2
  rw [← hi3] at c3
  have w1 : IntKind.i64.wrap ((i : Int) + 1) = (i1 : Int) := by rw [IntKind.wrap_i64]; omega
  have w2 : IntKind.i64.wrap ((i : Int) + 2) = (i2 : Int) := by rw [IntKind.wrap_i64]; omega
  have w3 : IntKind.i64.wrap ((i : Int) + 3) = (i3 : Int) := by rw [IntKind.wrap_i64]; omega
  have f0 : (i : Int) < (n : Int) := by omega
  have f1 : (i1 : Int) < (n : Int) := by omega
  have f2 : (i2 : Int) < (n : Int) := by omega
  have f3 : (i3 : Int) < (n : Int) := by omega
  clear hi1 hi2 hi3 hi hi'
  go_enter Try.func88, Try.ntmps88
  go_wp2_with fail
  go_quiet (fail)
  go_wp2
  go_ret
  exact ⟨rfl, below_drewN (Below.refl _ _) _⟩
end Go.Proofs.Ytppmgfkpfamabaa
