import Derived.Test.YtmpbbookbmfbnabDoorRfA
namespace Go.Proofs.YtmpbbookbmfbnabDoor
open Go.RowKit

/-! The document's numbers: read, summed, taken away. -/
theorem Tryd.infoI : (Tryd.prog.info? 3).map (fun i => (i.zero, i.size, i.bytes)) = some (some (.int .i64 0), 1, 8) := by kernel_rfl
theorem one_int (x : Int) : ∀ u ∈ [Value.int .i64 x], u.oneCell' = true := by intro u hu; simp at hu; subst hu; rfl
/-- one more digit on a row of one's own -/
theorem wpList_push {w0 W0 : World} {ops : Array Oper} {rest : List Oper} {o : Oper} {a : Act} {Q : Exit → Act → World → Prop} (hgd : o.guard = none) (s x : Operand)
    (ho : o.op = .call { callee := .builtin .append, args := #[s, x], argTypes := #[38, 38] })
    (base : Nat) (v : Value) (n : Nat) (P : List Int) (y : Int) (hs : a.eval s = v) (hx : a.eval x = .slice (some ⟨w0.heap.size, 0, none⟩) 1 1)
    (hown : w0.ownsRow base 3 1 v n (I64 P)) (hn : n ≤ 1000000) (hbl : Below base W0 w0) (hW : base ≤ W0.heap.size)
    (h : ∀ v' w', Hid (w'.ownsRow base 3 1 v' (n + 1) (I64 (P ++ [y]))) → Hid (Below base W0 w') → wpList Tryd.prog ops Q rest (a.put o.dst v') w') :
    wpList Tryd.prog ops Q (o :: rest) a (w0.alloc (.cells #[.int .i64 y] 3 (0, 0))) := by
  obtain ⟨i0, hi, hz0, hz1, hz2⟩ := info_parts Tryd.infoI
  refine wpList_append_own _ hgd s x 38 ho base 3 i0 (.int .i64 0) 1 8 Tryd.underlying38 hi hz0 hz1 hz2 rfl (by decide) v n (I64 P) hs (hown.alloc _) ⟨w0.heap.size, 0, none⟩ 1 1 [.int .i64 y] hx rfl (cell_one_new _ _ _) (one_int _) (by unfold maxLen; omega) (by omega) (by have := hbl.size; simp; omega) ?_
  intro v' w' h1 h2 _
  rw [I64_snoc] at h1
  exact h v' w' h1 (show Below base W0 w' from (hbl.alloc (Nat.le_trans hW hbl.size) _).grown h2 (by have := hbl.size; simp; omega) (fun k hk => (hown.lt k hk).1))
structure OfR (b : List Int) (w : World) (k : Nat) (v : Value) (wr : World) : Prop where
  ho : wr.ownsRow w.heap.size 3 1 v k (I64 (b.take k))
  hb : Below w.heap.size w wr
theorem wrap64_b (y : Int) (h : 0 ≤ y ∧ y < 9223372036854775808) : wrap64 y = y := by unfold wrap64; omega
set_option maxHeartbeats 1000000 in
set_option maxRecDepth 100000 in
theorem rOf_any (b : List Int) (g n : Nat) (w : World) (hl : b.length = n) (hn : n ≤ 64) (hd : Dg 256 b) (hA : ∃ ty, Arr w g ty (U8 b)) :
    Calls Tryd.prog 26 #[.slice (some ⟨g, 0, none⟩) n n] w fun r w' => ∃ v, r = .returned v ∧ Own w' w.heap.size v b ∧ Below w.heap.size w w' := by
  obtain ⟨ty, hA⟩ := hA
  have hc : ∀ k, k < n → w.cell? ⟨g, k, none⟩ = some (.int .u8 (b.getD k 0)) := fun k hk => hA.cell8 k (by omega)
  have HL := hide hl
  have HC := hide hc
  have HG := hide hA.lt
  have HD := hide hd
  have HN := hide hn
  clear hl hc hA hd
  go_enter Tryd.func26, Tryd.ntmps26
  go_wp2_with fail
  go_loopw [3, 4] (fun v i wr => ∃ (k : Nat), k ≤ n ∧ i = .int .i64 k ∧ OfR b w k v wr) (fun _ i _ => n - (intOf i).toNat)
  case atStart => exact ⟨0, by omega, rfl, World.ownsRow_nil _ _ _ _, Below.refl _ _⟩
  case round =>
    obtain ⟨k, hk, rfl, I⟩ := hrel
    by_cases hlt : k < n
    · have hlt' : (k : Int) < (n : Int) := by omega
      have c0 := (I.hb.cell (p := ⟨g, k, none⟩) (unhide HG)).trans (unhide HC k hlt)
      have htk : b.take (k + 1) = b.take k ++ [b.getD k 0] := take_snoc b k (by rw [unhide HL]; exact hlt)
      have hyb := (unhide HD).at (by decide) k
      have hown := I.ho
      have hbl := I.hb
      generalize b.getD k 0 = y at *
      have hw := wrap64_b y ⟨hyb.1, by omega⟩
      have HW := hide hw
      have HTK := hide htk
      clear I htk hyb hw
      generalize b.take k = P at *
      go_wp2_with (at_builtin; refine wpList_push rfl (.tmp 11) (.tmp 17) rfl w.heap.size _ k P _ rfl rfl hown (by have := unhide HN; omega) hbl (Nat.le_refl _) ?_; intro v' w' hown' hbl')
      go_roundw
      case rel =>
        have h1 := unhide hown'
        rw [unhide HW, ← unhide HTK] at h1
        exact ⟨k + 1, by omega, by go_num, h1, unhide hbl'⟩
      case measure => simp [intOf]; omega
    · have : k = n := by omega
      subst this
      have hlt' : ¬ (k : Int) < (k : Int) := by omega
      have ho := I.ho
      rw [List.take_of_length_le (by rw [unhide HL]; exact Nat.le_refl _)] at ho
      have hb := I.hb
      have HO := hide ho
      clear hk hlt I ho
      go_wp2_with fail
      go_ret
      refine ⟨_, rfl, ?_, hb⟩
      have h1 := unhide HO
      show World.ownsRow _ _ _ _ _ b.length _
      rw [unhide HL]; exact h1
theorem sum_step (X Y : Int) (k : Nat) (c : Int) (hc : c = (X + Y) / 256 ^ k - X / 256 ^ k - Y / 256 ^ k) (h01 : 0 ≤ c ∧ c ≤ 1) (d : Int) (hd : d = X / 256 ^ k % 256 + Y / 256 ^ k % 256 + c) :
    d % 256 = (X + Y) / 256 ^ k % 256 ∧ d / 256 = (X + Y) / 256 ^ (k + 1) - X / 256 ^ (k + 1) - Y / 256 ^ (k + 1) ∧ 0 ≤ d / 256 ∧ d / 256 ≤ 1 := by
  have e1 := next_dig X k
  have e2 := next_dig Y k
  have e3 := next_dig (X + Y) k
  omega
theorem sub_step (X Y : Int) (k : Nat) (o : Int) (ho : o = X / 256 ^ k - Y / 256 ^ k - (X - Y) / 256 ^ k) (h01 : 0 ≤ o ∧ o ≤ 1) (d : Int) (hd : d = X / 256 ^ k % 256 - Y / 256 ^ k % 256 - o) :
    (d < 0 → d + 256 = (X - Y) / 256 ^ k % 256 ∧ 1 = X / 256 ^ (k + 1) - Y / 256 ^ (k + 1) - (X - Y) / 256 ^ (k + 1)) ∧ (¬ d < 0 → d = (X - Y) / 256 ^ k % 256 ∧ 0 = X / 256 ^ (k + 1) - Y / 256 ^ (k + 1) - (X - Y) / 256 ^ (k + 1)) := by
  have e1 := next_dig X k
  have e2 := next_dig Y k
  have e3 := next_dig (X - Y) k
  constructor <;> intro h <;> omega
theorem dg_snoc (k : Nat) (n : Int) : dg 256 (k + 1) n = dg 256 k n ++ [n / 256 ^ k % 256] := by rw [dg_app 256 (by decide) k 1 n]; rfl
structure SmR (X Y : Int) (w : World) (k : Nat) (c : Int) (v : Value) (wr : World) : Prop where
  ho : wr.ownsRow w.heap.size 3 1 v k (I64 (dg 256 k (X + Y)))
  hb : Below w.heap.size w wr
  hc : c = (X + Y) / 256 ^ k - X / 256 ^ k - Y / 256 ^ k
  c01 : 0 ≤ c ∧ c ≤ 1
set_option maxHeartbeats 1000000 in
set_option maxRecDepth 100000 in
theorem rSum_any (l m : List Int) (v u : Value) (N : Nat) (w : World) (h : NS w v l) (k : NS w u m) (hdl : Dg 256 l) (hdm : Dg 256 m) (hN : lng l m = N) (hNN : N ≤ 1000) :
    Calls Tryd.prog 25 #[v, u] w fun r w' => ∃ z, r = .returned z ∧ w'.ownsRow w.heap.size 3 1 z (N + 1) (I64 (dg 256 (N + 1) (num 256 l + num 256 m))) ∧ Below w.heap.size w w' := by
  have s1 : num 256 l / 256 ^ N = 0 := far_zero hdl _ (by rw [← hN]; unfold lng; split <;> omega)
  have s2 : num 256 m / 256 ^ N = 0 := far_zero hdm _ (by rw [← hN]; unfold lng; split <;> omega)
  have HV := hide h
  have HU := hide k
  have HDL := hide (fun i => num_getD hdl i)
  have HDM := hide (fun i => num_getD hdm i)
  have HS1 := hide s1
  have HS2 := hide s2
  have HN := hide hN
  have HNN := hide hNN
  clear h k hdl hdm s1 s2 hN
  go_enter Tryd.func25, Tryd.ntmps25
  go_wp2_with fail
  go_loopw [5, 6, 7] (fun z c i wr => ∃ (k : Nat) (q : Int), k ≤ N ∧ i = .int .i64 k ∧ c = .int .i64 q ∧ SmR (num 256 l) (num 256 m) w k q z wr) (fun _ _ i _ => N - (intOf i).toNat)
  case atStart => exact ⟨0, 0, by omega, rfl, rfl, World.ownsRow_nil _ _ _ _, Below.refl _ _, by rw [Int.pow_zero, Int.ediv_one, Int.ediv_one, Int.ediv_one]; omega, by decide, by decide⟩
  case round =>
    obtain ⟨k, q, hk, rfl, rfl, I⟩ := hrel
    have HI := hide I
    go_wp2_with fail
    refine (rLonger_any l m v u _ ((unhide HV).later I.hb) ((unhide HU).later I.hb)).mono ?_
    rintro r w1 ⟨rfl, rfl⟩
    rw [unhide HN]
    clear I
    by_cases hlt : k < N
    · have hlt' : (k : Int) < (N : Int) := by omega
      have x1 := unhide HDL k
      have x2 := unhide HDM k
      generalize hx : l.getD k 0 = x at x1
      generalize hy : m.getD k 0 = y at x2
      obtain ⟨t1, t2, t3⟩ := sum_step (num 256 l) (num 256 m) k q (unhide HI).hc (unhide HI).c01 _ rfl
      rw [x1, x2] at t1 t2 t3
      have bx : 0 ≤ x ∧ x < 256 := by rw [← x1]; exact ⟨Int.emod_nonneg _ (by decide), Int.emod_lt_of_pos _ (by decide)⟩
      have by_ : 0 ≤ y ∧ y < 256 := by rw [← x2]; exact ⟨Int.emod_nonneg _ (by decide), Int.emod_lt_of_pos _ (by decide)⟩
      have bq := (unhide HI).c01
      have HX := hide hx
      have HY := hide hy
      have w1 : IntKind.i64.wrap (x + y) = x + y := by rw [IntKind.wrap_i64]; omega
      have w2 : IntKind.i64.wrap (x + y + q) = x + y + q := by rw [IntKind.wrap_i64]; omega
      have w3 : (x + y + q).tmod 256 = (x + y + q) % 256 := Int.tmod_eq_emod_of_nonneg (by omega)
      have w4 : (x + y + q).tdiv 256 = (x + y + q) / 256 := Int.tdiv_eq_ediv_of_nonneg (by omega)
      have w5 : wrap64 ((x + y + q) / 256) = (x + y + q) / 256 := wrap64_b _ (by omega)
      have w6 : wrap64 (x + y) = x + y := wrap64_b _ (by omega)
      have w7 : wrap64 (x + y + q) = x + y + q := wrap64_b _ (by omega)
      have T1 := hide t1
      have T2 := hide t2
      have T3 := hide t3
      clear hx hy x1 x2 t1 t2 t3 bx by_ bq w1 w2
      have hown := (unhide HI).ho
      have hbl := (unhide HI).hb
      generalize hD : dg 256 k (num 256 l + num 256 m) = D at hown
      have HD := hide hD
      clear hD
      go_wp2_with fail
      refine (rAt_any l v k x _ ((unhide HV).later hbl) (unhide HX)).mono ?_
      rintro r w2 ⟨rfl, rfl⟩
      go_wp2_with fail
      refine (rAt_any m u k y _ ((unhide HU).later hbl) (unhide HY)).mono ?_
      rintro r w3 ⟨rfl, rfl⟩
      go_wp2_with (at_builtin; refine wpList_push rfl (.tmp 25) (.tmp 28) rfl w.heap.size _ k D _ rfl rfl hown (by have := unhide HNN; omega) hbl (Nat.le_refl _) ?_; intro v' w' hown' hbl')
      go_roundw
      case rel =>
        have h1 := unhide hown'
        rw [unhide T1, ← unhide HD, ← dg_snoc] at h1
        exact ⟨k + 1, (x + y + q) / 256, by omega, by go_num, by first | rfl | rw [w5], h1, unhide hbl', unhide T2, (unhide T3).1, (unhide T3).2⟩
      case measure => simp [intOf]; omega
    · have : k = N := by omega
      subst this
      have hlt' : ¬ (k : Int) < (k : Int) := by omega
      have hown := (unhide HI).ho
      have hbl := (unhide HI).hb
      have hc := (unhide HI).hc
      have hc1 := (unhide HI).c01
      rw [unhide HS1, unhide HS2] at hc
      have hq : q = (num 256 l + num 256 m) / 256 ^ k % 256 := by omega
      have HQ := hide hq
      clear hk hlt hc hc1 hq HI
      generalize hD : dg 256 k (num 256 l + num 256 m) = D at hown
      have HD := hide hD
      clear hD
      go_wp2_with (at_builtin; refine wpList_push rfl (.tmp 32) (.tmp 34) rfl w.heap.size _ k D _ rfl rfl hown (by have := unhide HNN; omega) hbl (Nat.le_refl _) ?_; intro v' w' hown' hbl')
      go_ret
      have h1 := unhide hown'
      rw [unhide HQ, ← unhide HD, ← dg_snoc] at h1
      exact ⟨_, rfl, h1, unhide hbl'⟩
end Go.Proofs.YtmpbbookbmfbnabDoor
