import Derived.Test.YtdcaojiiaocnaaaDoorQGbcZ
import Derived.Test.YtdcaojiiaocnaaaDoorQSlM25
import Derived.Lib.ConvBytes
import Derived.Test.YtdcaojiiaocnaaaDoorQGalZ
import Derived.Deep.DeepCutAuto
import Derived.Deep.QuietTactic
import Derived.BigQuiet
set_option linter.unusedSimpArgs false
set_option linter.unusedVariables false
namespace Go.Proofs.YtdcaojiiaocnaaaDoor
open Go.RowKit

/-! Guarded operations behind a bool that is not known; a string as bytes; what ScriptBack reckons with. -/
def mb (m : Bool) (v : Value) : Value := if m then v else undef
theorem mb_true (v : Value) : mb true v = v := rfl
theorem mb_false (v : Value) : mb false v = undef := rfl
section
variable {P : Program} {ops : Array Oper} {rest : List Oper} {o : Oper} {a : Act} {w : World} {Q : Exit → Act → World → Prop}
theorem wl_may (m : Bool) (hw : Region.wanted o (yielded ops a.tmps) = m) (v : Value) (hv : m = true → ∀ k : Act → World → Prop, k (a.put o.dst v) w → o.wp P a w k Q) (h : wpList P ops Q rest (a.put o.dst (mb m v)) w) : wpList P ops Q (o :: rest) a w := by
  cases m with
  | false => exact wl_skip hw h
  | true => exact wl hw fun k hk => hv rfl k (hk _ _ h)
theorem wl_mayV (m : Bool) (hw : Region.wanted o (yielded ops a.tmps) = m) (v : Value) (hv : m = true → (execOp a.eval o).run P w = .ok (.value v) w) (h : wpList P ops Q rest (a.put o.dst (mb m v)) w) : wpList P ops Q (o :: rest) a w :=
  wl_may m hw v (fun hm k hk => op_val v (hv hm) hk) h
theorem ex_pickF (c x y : Operand) (ho : o.op = .pick c x y) (m q : Bool) (hc : a.eval c = .bool m) (hx : a.eval x = mb m (.bool q)) (hy : a.eval y = .bool false) : (execOp a.eval o).run P w = .ok (.value (.bool (m && q))) w := by
  cases m <;> simp [execOp, ho, hc, hx, hy, mb, asBool]
end
theorem strW_below (w : World) (e : TypeId) (s : ByteArray) : Below w.heap.size w (Lib.bytesWorld w e s) :=
  ⟨rfl, rfl, rfl, by rw [Lib.bytesWorld_size]; omega, fun k hk => Lib.bytesWorld_at_old w e s k hk⟩
theorem strW_conv (w : World) (s : ByteArray) (hs : s.size ≤ 1048576) : ∃ c W, (convert 9 28 (.string s)).run Tryd.prog w = .ok (.slice (some ⟨w.heap.size, 0, none⟩) s.size c) W ∧ Su W ⟨some ⟨w.heap.size, 0, none⟩, s.size, c, strL s⟩ ∧ Below w.heap.size w W := by
  refine ⟨_, _, Lib.run_convert_string_bytes (P := Tryd.prog) w 9 28 5 s Tryd.underlying9 Tryd.underlying28 Tryd.underlying5,
    ⟨strL_length s, grownCap_ge _ _ _ _, grownCap_le_maxLen _ _ _ _ (by unfold maxLen; omega), (fun h => by cases h), fun _ => ⟨w.heap.size, 0, rfl, by rw [Lib.bytesWorld_size]; omega, fun i x hi j v hv => ?_⟩⟩, strW_below _ _ _⟩
  obtain ⟨h1, h2⟩ := List.getElem?_eq_some_iff.1 hi
  have hs' : i < s.size := by rw [← strL_length]; exact h1
  have hj : j = 0 ∧ v = .int .u8 x := by
    unfold uC at hv
    cases j with
    | zero => exact ⟨rfl, (Option.some.inj hv).symm⟩
    | succ j => simp at hv
  obtain ⟨rfl, rfl⟩ := hj
  rw [Nat.zero_add, Nat.mul_one, Nat.add_zero, Lib.bytesWorld_cell w _ s i hs', ← h2]
  congr 2
  have h3 : i < s.data.size := hs'
  simp only [strL, List.getElem_map, List.getD_eq_getElem?_getD, Array.getElem?_toList, Array.getElem?_eq_getElem h3]
  rfl
/-- []byte(s) at a step -/
theorem wl_toB {ops : Array Oper} {rest : List Oper} {o : Oper} {a : Act} {w : World} {Q : Exit → Act → World → Prop} (hw : Region.wanted o (yielded ops a.tmps) = true) (x : Operand) (ho : o.op = .convert 9 28 x) (s : ByteArray) (hx : a.eval x = .string s) (hs : s.size ≤ 1048576)
    (h : ∀ (y : Sx Int) w', y.xs = strL s → Su w' y → Below w.heap.size w w' → wpList Tryd.prog ops Q rest (a.put o.dst y.v) w') : wpList Tryd.prog ops Q (o :: rest) a w := by
  obtain ⟨c, W, hr, hS, hb⟩ := strW_conv w s hs
  refine wl hw fun k hk => ?_
  unfold Oper.wp
  simp [execOp, ho, hx, hr, Result.andThen]
  exact hk _ _ (h ⟨some ⟨w.heap.size, 0, none⟩, s.size, c, strL s⟩ W rfl hS hb)
theorem joinB_byt : ∀ fs : List (List Int), (∀ f ∈ fs, IsB f) → IsB (joinB fs)
  | [], _ => by intro c hc; cases hc
  | [f], h => h f (by simp)
  | f :: g :: r, h => by
    show IsB (f ++ 32 :: joinB (g :: r))
    intro c hc
    rcases List.mem_append.1 hc with hc | hc
    · exact h f (by simp) c hc
    · rcases List.mem_cons.1 hc with rfl | hc
      · omega
      · exact joinB_byt (g :: r) (fun x hx => h x (List.mem_cons_of_mem _ hx)) c hc
theorem formatL_isB {o : Opq} (hb : IsB o.b) {l : List Int} (h : formatL o = some l) : IsB l := by
  unfold formatL at h
  split at h
  · rename_i hk
    split at h
    · cases h
    · rename_i fs hfs
      split at h
      · obtain rfl := Option.some.inj h
        refine joinB_byt _ (fun f hf => ?_)
        rcases List.mem_cons.1 hf with rfl | hf
        · exact cmdW_isB _ (by omega)
        · obtain ⟨l', -, h2⟩ := tellF_mem hfs f hf
          exact tell_isB hb h2
      · cases h
  · cases h

/-! What is read is in range. -/
structure Fin25 (o : Opq) : Prop where
  ok : OkO o
  by_ : IsB o.b
  le : o.b.length ≤ 2200
theorem i64_nine {z : Int} (h : z.natAbs < nineQ) : I64 z := by unfold nineQ at h; unfold I64; omega
theorem fin_zero (k : Int) : Fin25 ⟨k, 0, 0, 0, 0, []⟩ :=
  have h : I64 0 := i64_nine (by decide)
  ⟨⟨h, h, h, h⟩, (fun c hc => by cases hc), by show (0 : Nat) ≤ 2200; decide⟩
theorem put_fin {o o' : Opq} {l : Int} {f : List Int} (h : Fin25 o) (hf : f.length ≤ 2200) (hp : putL o l f = some o') : Fin25 o' := by
  obtain ⟨⟨h1, h2, h3, h4⟩, h5, h6⟩ := h
  unfold putL at hp
  split at hp
  · obtain ⟨b, hb, rfl⟩ := Option.map_eq_some_iff.1 hp
    unfold bytesL at hb
    split at hb
    · obtain rfl := Option.some.inj hb
      exact ⟨⟨h1, h2, h3, h4⟩, (fun c hc => by cases hc), by simp⟩
    · split at hb
      · rename_i hk
        obtain rfl := Option.some.inj hb
        exact ⟨⟨h1, h2, h3, h4⟩, unhexL_isB _ hk.2, by show (unhexL f).length ≤ 2200; rw [unhexL_length]; omega⟩
      · cases hb
  · obtain ⟨z, hz, rfl⟩ := Option.map_eq_some_iff.1 hp
    have h9 : I64 z := i64_nine (dec_whole hz).2
    split
    · exact ⟨⟨h9, h2, h3, h4⟩, h5, h6⟩
    · split
      · exact ⟨⟨h1, h9, h3, h4⟩, h5, h6⟩
      · split
        · exact ⟨⟨h1, h2, h9, h4⟩, h5, h6⟩
        · split
          · exact ⟨⟨h1, h2, h3, h9⟩, h5, h6⟩
          · exact ⟨⟨h1, h2, h3, h4⟩, h5, h6⟩
theorem read_fin : ∀ (ls : List Int) (fs : List (List Int)) (at_ : Nat) (o : Opq), Fin25 o → (∀ f ∈ fs, f.length ≤ 2200) → Fin25 (readF ls fs at_ o).1
  | [], _, _, o, h, _ => by unfold readF; exact h
  | _ :: _, [], _, o, h, _ => by unfold readF; exact h
  | l :: ls, f :: fs, at_, o, h, hf => by
    unfold readF
    cases hp : putL o l f with
    | none => exact fin_zero 0
    | some o' => exact read_fin ls fs _ o' (put_fin h (hf f (by simp)) hp) (fun g hg => hf g (by simp [hg]))
theorem parse_fin (l : List Int) : Fin25 (parseL l).1 := by
  by_cases h1 : 2200 < l.length
  · have e : parseL l = (zOp, 1, 0) := by unfold parseL; rw [if_pos h1]
    rw [e]; exact fin_zero 0
  · obtain ⟨w, fs, hsp⟩ : ∃ w fs, splitB l = w :: fs := by
      cases hq : splitB l with
      | nil => exact absurd hq (splitB_ne l)
      | cons w fs => exact ⟨w, fs, rfl⟩
    have e : parseL l = if kindOf w = 0 then (zOp, 250, 0) else if fs.length ≠ (cmdF (kindOf w)).length then (zOp, 251, (l.length : Int)) else readF (cmdF (kindOf w)) fs (w.length + 1) ⟨kindOf w, 0, 0, 0, 0, []⟩ := by
      unfold parseL; rw [if_neg h1, hsp]
    rw [e]
    split
    · exact fin_zero 0
    · split
      · exact fin_zero 0
      · have hj : joinB (w :: fs) = l := by rw [← hsp]; exact join_split l
        refine read_fin _ fs _ _ (fin_zero _) (fun f hf => ?_)
        have h9 := join_len (w :: fs) (by simp)
        rw [hj] at h9
        have : f.length + 1 ≤ ((w :: fs).map (fun f => f.length + 1)).sum := le_sum25 (List.mem_map.2 ⟨f, by simp [hf], rfl⟩)
        omega

set_option maxHeartbeats 4000000 in
set_option maxRecDepth 100000 in
theorem lives_any (w : World) (hk : Pk25 w) : Calls Tryd.prog 7 #[] w fun e w' => e = .returned (.bool true) ∧ Below w.heap.size w w' := by
  have hS := Hs17.begin w (fun w9 => Pk25 w9) (fun v ho => pk_old hk ho)
  have CP : ∀ (v : World) (s : Sx Int), Su v s → s.xs = ridB → Pk25 v → Calls Tryd.prog 11 #[s.v] v fun e w' => ∃ u : Sx Int, e = .returned (.tuple #[aV (opC 2 1 2 7 0 u.v), .int .i64 0, .int .i64 0]) ∧ u.xs = [] ∧ Ou w' v.heap.size u.v u.xs ∧ Below v.heap.size v w' := fun v s h1 h2 h3 => by
    have hn : s.n = 10 := by rw [← h1.len, h2]; rfl
    have h := parse_any s v h1 (by rw [h2]; exact rid_isB) (by omega) h3.1 h3.2.1
    rw [h2] at h
    unfold PrP at h
    rw [rid_parse] at h
    exact h
  have CF : ∀ (v : World) (s : Sx Int), Su v s → s.xs = [] → Pk25 v → Calls Tryd.prog 9 #[aV (opC 2 1 2 7 0 s.v)] v fun e w' => e = .returned (.tuple #[.string { data := #[114, 105, 100, 101, 32, 49, 32, 55, 32, 50] }, .bool true]) ∧ Below v.heap.size v w' := fun v s h1 h2 h3 => by
    have hn : s.n = 0 := by rw [← h1.len, h2]; rfl
    have h := format_any 2 1 2 7 0 s v h1 (by rw [h2]; intro c hc; simp at hc) (by omega) (ok_rid _) h3.2.2
    rw [h2, rid_format] at h
    exact h
  clear hk
  go_enter Tryd.func7, Tryd.ntmps7
  go_upto_region 0 with fail
  refine wp_region_lit ?_
  refine wl (by kernel_rfl) fun kQ hkQ => ?_
  go_simp
  refine hkQ _ _ ?_
  clear hkQ kQ
  refine wpList_nil ?_
  go_upto_region 1 with fail
  refine wp_region_lit ?_
  refine wl_litB (by kernel_rfl) ridB (by decide) (by decide) 10 rfl _ rfl rfl (fun _ => by kernel_rfl) (.tmp 7) rfl (fun _ => rfl) ?_
  intro g1 w1 hb1 hL
  replace hS := hS.later hb1
  clear hb1
  simp [Act.put]
  refine wl (by kernel_rfl) fun kQ hkQ => ?_
  go_simp
  refine (CP _ ⟨some ⟨g1, 0, none⟩, 10, 10, ridB⟩ hL rfl hS.K).mono ?_
  rintro e w2 ⟨u, rfl, hux, hO, hb1⟩
  replace hS := hS.ownK hb1 hO
  have HU := hide hux
  clear hux hO hL
  refine hkQ _ _ ?_
  clear hkQ kQ hb1
  refine wl (by kernel_rfl) fun kQ hkQ => ?_
  go_simp
  refine hkQ _ _ ?_
  clear hkQ kQ
  refine wl (by kernel_rfl) fun kQ hkQ => ?_
  go_simp
  refine hkQ _ _ ?_
  clear hkQ kQ
  refine wl (by kernel_rfl) fun kQ hkQ => ?_
  go_simp
  refine hkQ _ _ ?_
  clear hkQ kQ
  refine wl (by kernel_rfl) fun kQ hkQ => ?_
  go_simp
  refine hkQ _ _ ?_
  clear hkQ kQ
  refine wl_alloc (by kernel_rfl) 30 rfl (opC 0 0 0 0 0 (.slice none 0 0)) Tryd.inO hS ?_
  clear hS
  intro g3 w3 hS
  simp [Act.put]
  refine wl_store (by kernel_rfl) 30 (.tmp 1) (.tmp 10) rfl 0 rfl 0 rfl (opC 2 1 2 7 0 u.v) (opC 2 1 2 7 0 u.v) (pt_O 0 0 0 0 0 (.slice none 0 0) 2 1 2 7 0 u.v) rfl (sz_O _ _ _ _ _ _) (one_O _ _ _ _ _ rfl) hS ?_
  clear hS
  intro w4 hS
  change Hs17 w [(g3, 30, (opC 2 1 2 7 0 u.v))] (fun w9 => (fun w9 => Pk25 w9) w9 ∧ Ou w9 w.heap.size u.v u.xs) w4 at hS
  simp [Act.put]
  refine wl (by kernel_rfl) fun kQ hkQ => ?_
  go_simp
  refine hkQ _ _ ?_
  clear hkQ kQ
  refine wl (by kernel_rfl) fun kQ hkQ => ?_
  go_simp
  refine hkQ _ _ ?_
  clear hkQ kQ
  refine wpList_nil ?_
  go_upto_region 2 with fail
  refine wp_region_lit ?_
  refine wl_load (by kernel_rfl) 30 (.tmp 1) rfl 0 rfl 0 rfl (opC 2 1 2 7 0 u.v) (At.self _) Tryd.underlying30 rfl (sz_O _ _ _ _ _ _) hS ?_
  simp [Act.put]
  refine wl (by kernel_rfl) fun kQ hkQ => ?_
  go_simp
  refine (CF _ u hS.K.2.ok (unhide HU) hS.K.1).mono ?_
  rintro e w5 ⟨rfl, hb1⟩
  replace hS := hS.later hb1
  refine hkQ _ _ ?_
  clear hkQ kQ hb1
  refine wl (by kernel_rfl) fun kQ hkQ => ?_
  go_simp
  refine hkQ _ _ ?_
  clear hkQ kQ
  refine wl (by kernel_rfl) fun kQ hkQ => ?_
  go_simp
  refine hkQ _ _ ?_
  clear hkQ kQ
  refine wl (by kernel_rfl) fun kQ hkQ => ?_
  go_simp
  refine hkQ _ _ ?_
  clear hkQ kQ
  refine wl (by kernel_rfl) fun kQ hkQ => ?_
  go_simp
  refine hkQ _ _ ?_
  clear hkQ kQ
  refine wl (by kernel_rfl) fun kQ hkQ => ?_
  go_simp
  refine hkQ _ _ ?_
  clear hkQ kQ
  refine wpList_nil ?_
  have hn0 : u.n = 0 := by rw [← hS.K.2.ok.len, unhide HU]; rfl
  go_upto_region 3 with fail
  refine wp_region_lit ?_
  refine wl (by kernel_rfl) fun kQ hkQ => ?_
  go_simp
  refine hkQ _ _ ?_
  clear hkQ kQ
  refine wl (by kernel_rfl) fun kQ hkQ => ?_
  go_simp
  refine hkQ _ _ ?_
  clear hkQ kQ
  refine wl (by kernel_rfl) fun kQ hkQ => ?_
  go_simp
  refine hkQ _ _ ?_
  clear hkQ kQ
  refine wl (by kernel_rfl) fun kQ hkQ => ?_
  go_simp
  refine hkQ _ _ ?_
  clear hkQ kQ
  refine wl (by kernel_rfl) fun kQ hkQ => ?_
  go_simp
  refine hkQ _ _ ?_
  clear hkQ kQ
  refine wl (by kernel_rfl) fun kQ hkQ => ?_
  go_simp
  refine hkQ _ _ ?_
  clear hkQ kQ
  refine wl (by kernel_rfl) fun kQ hkQ => ?_
  go_simp
  refine hkQ _ _ ?_
  clear hkQ kQ
  refine wl_load (by kernel_rfl) 30 (.tmp 1) rfl 0 rfl 0 rfl (opC 2 1 2 7 0 u.v) (At.self _) Tryd.underlying30 rfl (sz_O _ _ _ _ _ _) hS ?_
  simp [Act.put]
  refine wv (aV (opC 2 1 2 7 0 (.slice none 0 0))) (by kernel_rfl) (ex_build 30 #[(0, .const (.int .i64 (2))), (1, .const (.int .i64 (1))), (3, .const (.int .i64 (7))), (2, .const (.int .i64 (2)))] rfl (opC 2 1 2 7 0 (.slice none 0 0)) b_ride rfl) ?_
  simp [Act.put]
  refine wl (by kernel_rfl) fun kQ hkQ => ?_
  go_simp
  refine (sameOp_t 2 1 2 7 0 u ⟨none, 0, 0, []⟩ _ hS.K.2.ok (Sx.Ok.nil _ 0) (by omega) (unhide HU)).mono ?_
  rintro e w6 ⟨rfl, hb1⟩
  replace hS := hS.later hb1
  refine hkQ _ _ ?_
  clear hkQ kQ hb1
  refine wl (by kernel_rfl) fun kQ hkQ => ?_
  go_simp
  refine hkQ _ _ ?_
  clear hkQ kQ
  refine wl (by kernel_rfl) fun kQ hkQ => ?_
  go_simp
  refine hkQ _ _ ?_
  clear hkQ kQ
  refine wl (by kernel_rfl) fun kQ hkQ => ?_
  go_simp
  refine hkQ _ _ ?_
  clear hkQ kQ
  refine wl (by kernel_rfl) fun kQ hkQ => ?_
  go_simp
  refine hkQ _ _ ?_
  clear hkQ kQ
  refine wl (by kernel_rfl) fun kQ hkQ => ?_
  go_simp
  refine hkQ _ _ ?_
  clear hkQ kQ
  refine wl (by kernel_rfl) fun kQ hkQ => ?_
  go_simp
  refine hkQ _ _ ?_
  clear hkQ kQ
  refine wl (by kernel_rfl) fun kQ hkQ => ?_
  go_simp
  refine hkQ _ _ ?_
  clear hkQ kQ
  refine wl (by kernel_rfl) fun kQ hkQ => ?_
  go_simp
  refine hkQ _ _ ?_
  clear hkQ kQ
  refine wl (by kernel_rfl) fun kQ hkQ => ?_
  go_simp
  refine hkQ _ _ ?_
  clear hkQ kQ
  refine wpList_nil ?_
  go_wp2_with fail
  go_ret
  exact ⟨rfl, hS.bel⟩
end Go.Proofs.YtdcaojiiaocnaaaDoor
