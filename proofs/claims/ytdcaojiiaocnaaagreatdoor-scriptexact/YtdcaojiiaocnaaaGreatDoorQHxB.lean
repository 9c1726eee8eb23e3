import Derived.Test.YtdcaojiiaocnaaaGreatDoorQGrB
import Derived.Laws.BytesArg
import Derived.Deep.RegionLaw
namespace Go.Proofs.YtdcaojiiaocnaaaGreatDoor
open Go.RowKit

/-! law01's bytes as hex, of both packages. -/
theorem conv_str {w : World} {s : Sl} (h : s.Ok w) : (convert 28 9 s.v).run Tryz.prog w = .ok (.string (strOfNums s.l)) w := by
  obtain ⟨a, n, c, l⟩ := s
  have hl := h.len
  simp only at hl
  cases a with
  | none =>
    obtain ⟨h1, h2⟩ := h.nn rfl
    simp only at h1 h2
    subst h1 h2
    have : l = [] := List.eq_nil_of_length_eq_zero hl
    subst this
    exact run_convert_bytes_nil w 28 5 Tryz.underlying28 Tryz.underlying5 0 0 9 Tryz.underlying9
  | some ad =>
    by_cases h0 : n = 0
    · subst h0
      have : l = [] := List.eq_nil_of_length_eq_zero hl
      subst this
      simp only [Sl.v]
      have hlc : (loadCells ad 0).run Tryz.prog w = .ok (([] : List Int).map (Value.int .u8)).toArray w := by
        have := run_loadCells_list (P := Tryz.prog) w ad [] (fun j v hj => by simp at hj)
        simpa using this
      rw [run_convert_bytes_string w 28 9 5 _ 0 c Tryz.underlying28 Tryz.underlying5 Tryz.underlying9, run_bytesToString w ad 0 c [] hlc]
      rfl
    · obtain ⟨b, off, hab, _, hc⟩ := h.lies (by simp only; omega)
      simp at hab; subst hab
      exact run_convert_bytes_arg w 28 5 Tryz.underlying28 Tryz.underlying5 b off n c l hl (fun i hi => hc i (by simp only; omega)) 9 Tryz.underlying9
theorem strOfNums_inj {a b : List Int} (ha : IsB a) (hb : IsB b) : strOfNums a = strOfNums b ↔ a = b := by
  constructor
  · intro h
    have h' : a.map (fun n => UInt8.ofNat n.toNat) = b.map (fun n => UInt8.ofNat n.toNat) := by
      rw [← strOfNums_data, ← strOfNums_data, h]
    have hl : a.length = b.length := by have := congrArg List.length h'; simpa using this
    apply List.ext_getElem hl
    intro i h1 h2
    have e : (a.map (fun n => UInt8.ofNat n.toNat))[i]'(by simpa using h1) = (b.map (fun n => UInt8.ofNat n.toNat))[i]'(by simpa using h2) := by simp only [h']
    simp only [List.getElem_map] at e
    have e2 := congrArg UInt8.toNat e
    have ba := ha _ (List.getElem_mem h1)
    have bb := hb _ (List.getElem_mem h2)
    simp only [UInt8.toNat_ofNat'] at e2
    omega
  · intro h; rw [h]
theorem bytes_ext {a b : ByteArray} (h : a.data.toList = b.data.toList) : a = b := by
  obtain ⟨⟨a⟩⟩ := a; obtain ⟨⟨b⟩⟩ := b; simp at h; rw [h]
def digV (c : Int) : Option Int := if 48 ≤ c ∧ c ≤ 57 then some (c - 48) else if 97 ≤ c ∧ c ≤ 102 then some (c - 87) else none
set_option maxHeartbeats 1000000 in
set_option maxRecDepth 100000 in
theorem digit_any (c : Int) (w : World) (h0 : 0 ≤ c) (h1 : c ≤ 255) :
    Calls Tryz.prog 93 #[.int .u8 c] w fun e w' => e = .returned (.tuple #[.int .u8 ((digV c).getD 0), .bool (digV c).isSome]) ∧ w' = w := by
  by_cases a1 : 48 ≤ c
  · by_cases a2 : c ≤ 57
    · have e : digV c = some (c - 48) := by unfold digV; rw [if_pos ⟨a1, a2⟩]
      rw [e]
      have b1 : decide (48 ≤ c) = true := by simpa using a1
      have b2 : decide (c ≤ 57) = true := by simpa using a2
      clear e
      go_enter Tryz.func93, Tryz.ntmps93
      go_wp2
      go_ret2
      exact ⟨rfl, rfl⟩
    · by_cases a3 : 97 ≤ c
      · by_cases a4 : c ≤ 102
        · have e : digV c = some (c - 87) := by unfold digV; rw [if_neg (by omega), if_pos ⟨a3, a4⟩]
          rw [e]
          have b1 : decide (48 ≤ c) = true := by simpa using a1
          have b2 : decide (c ≤ 57) = false := by simpa using a2
          have b3 : decide (97 ≤ c) = true := by simpa using a3
          have b4 : decide (c ≤ 102) = true := by simpa using a4
          have ee : c - 97 + 10 = c - 87 := by omega
          have HE := hide ee
          clear e ee
          go_enter Tryz.func93, Tryz.ntmps93
          go_wp2
          go_ret2
          exact ⟨by simp [unhide HE], rfl⟩
        · have e : digV c = none := by unfold digV; rw [if_neg (by omega), if_neg (by omega)]
          rw [e]
          have b1 : decide (48 ≤ c) = true := by simpa using a1
          have b2 : decide (c ≤ 57) = false := by simpa using a2
          have b3 : decide (97 ≤ c) = true := by simpa using a3
          have b4 : decide (c ≤ 102) = false := by simpa using a4
          clear e
          go_enter Tryz.func93, Tryz.ntmps93
          go_wp2
          go_ret2
          exact ⟨rfl, rfl⟩
      · have e : digV c = none := by unfold digV; rw [if_neg (by omega), if_neg (by omega)]
        rw [e]
        have b1 : decide (48 ≤ c) = true := by simpa using a1
        have b2 : decide (c ≤ 57) = false := by simpa using a2
        have b3 : decide (97 ≤ c) = false := by simpa using a3
        clear e
        go_enter Tryz.func93, Tryz.ntmps93
        go_wp2
        go_ret2
        exact ⟨rfl, rfl⟩
  · have e : digV c = none := by unfold digV; rw [if_neg (by omega), if_neg (by omega)]
    rw [e]
    have b1 : decide (48 ≤ c) = false := by simpa using a1
    have b3 : decide (97 ≤ c) = false := by simp; omega
    clear e
    go_enter Tryz.func93, Tryz.ntmps93
    go_wp2
    go_ret2
    exact ⟨rfl, rfl⟩

def strL (s : ByteArray) : List Int := s.data.toList.map fun c => (c.toNat : Int)
@[simp] theorem strL_length (s : ByteArray) : (strL s).length = s.size := by unfold strL; rw [List.length_map]; rfl
theorem strL_at (s : ByteArray) (k : Nat) (h : k < s.size) : (strL s).getD k 0 = (s[k].toNat : Int) := by
  rw [getD_lt _ _ (by simpa using h)]; simp [strL]; rfl
theorem strL_isB (s : ByteArray) : IsB (strL s) := by
  intro x hx; simp [strL] at hx; obtain ⟨c, _, rfl⟩ := hx; have := c.toNat_lt; omega

theorem digit_some (c h : Int) (w : World) (h0 : 0 ≤ c) (h1 : c ≤ 255) (hd : digV c = some h) :
    Calls Tryz.prog 93 #[.int .u8 c] w fun e w' => e = .returned (.tuple #[.int .u8 h, .bool true]) ∧ w' = w := by
  have := digit_any c w h0 h1; rw [hd] at this; exact this
theorem digit_none (c : Int) (w : World) (h0 : 0 ≤ c) (h1 : c ≤ 255) (hd : digV c = none) :
    Calls Tryz.prog 93 #[.int .u8 c] w fun e w' => e = .returned (.tuple #[.int .u8 0, .bool false]) ∧ w' = w := by
  have := digit_any c w h0 h1; rw [hd] at this; exact this
theorem digV_bd {c h : Int} (hd : digV c = some h) : 0 ≤ h ∧ h ≤ 15 := by
  unfold digV at hd; split at hd
  · simp at hd; omega
  · split at hd
    · simp at hd; omega
    · simp at hd
theorem byte_bd (u : UInt8) : (0 : Int) ≤ (u.toNat : Int) ∧ (u.toNat : Int) ≤ 255 := by have := u.toNat_lt; omega
theorem nib_or (a b : Int) (a0 : 0 ≤ a) (a1 : a ≤ 15) (b0 : 0 ≤ b) (b1 : b ≤ 15) : bits .or .u8 (a * 16) b = a * 16 + b := by
  rw [u8_or _ _ (by omega) (by omega) b0 (by omega)]
  obtain ⟨A, rfl⟩ := Int.eq_ofNat_of_zero_le a0
  obtain ⟨B, rfl⟩ := Int.eq_ofNat_of_zero_le b0
  have e : ((A : Int) * 16).toNat = 2 ^ 4 * A := by omega
  rw [e, Int.toNat_natCast, ← Nat.two_pow_add_eq_or_of_lt (by omega : B < 2 ^ 4)]
  omega

def hexV (L : List Int) (i : Nat) : Int := (digV (L.getD (2 * i) 0)).getD 0 * 16 + (digV (L.getD (2 * i + 1) 0)).getD 0
def unhexL (L : List Int) : List Int := (List.range (L.length / 2)).map (hexV L)
abbrev OkHex (L : List Int) : Prop := L.length % 2 = 0 ∧ ∀ j, j < L.length → (digV (L.getD j 0)).isSome = true

set_option maxHeartbeats 1000000 in
set_option maxRecDepth 100000 in
theorem unhex_odd (s : ByteArray) (w : World) (hs : s.size ≤ maxLen) (hodd : s.size % 2 = 1) :
    Calls Tryz.prog 74 #[.string s] w fun e w' => e = .returned (.tuple #[.slice none 0 0, .bool false]) ∧ w' = w := by
  unfold maxLen at hs
  have hb : (((s.size : Int) % 2) != 0) = true := by rw [bne_iff_ne]; omega
  go_enter Tryz.func74, Tryz.ntmps74
  go_wp2
  go_ret2
  exact ⟨rfl, rfl⟩

set_option maxHeartbeats 2000000 in
set_option maxRecDepth 100000 in
theorem unhex_even (s : ByteArray) (w : World) (hs : s.size ≤ 1099511627776) (n : Nat) (hn : s.size = 2 * n) :
    Calls Tryz.prog 74 #[.string s] w fun e w' => Below w.heap.size w w' ∧
      ((OkHex (strL s) ∧ e = .returned (.tuple #[.slice (some ⟨w.heap.size, 0, none⟩) n n, .bool true]) ∧
          w'.ownsRow w.heap.size 5 1 (.slice (some ⟨w.heap.size, 0, none⟩) n n) n (U8 (unhexL (strL s))))
       ∨ (¬ OkHex (strL s) ∧ e = .returned (.tuple #[.slice none 0 0, .bool false]))) := by
  obtain ⟨i0, hi, hz0, hz1, hz2⟩ := info_parts Tryz.infoB
  have HN := hide hn
  have hb : (((s.size : Int) % 2) != 0) = false := by rw [bne_eq_false_iff_eq]; omega
  have hq : (s.size : Int) / 2 = (n : Int) := by omega
  have hbs : i0.bytes * n ≤ 281474976710656 := by rw [hz2]; omega
  have hmx : n ≤ maxLen := by unfold maxLen; omega
  have hnn : n ≤ 1099511627776 := by omega
  clear hn
  go_enter Tryz.func74, Tryz.ntmps74
  go_wp2_with (at_make; refine wpList_make_full _ rfl _ _ 28 rfl w.heap.size 5 i0 (.int .u8 0) 1 Tryz.underlying28 hi hz0 hz1 .i64 .i64 n n n rfl rfl rfl rfl hbs hmx (Nat.le_refl _) ?_)
  intro w1 hown hgrow
  have hb1 : Below w.heap.size w w1 := (Below.refl _ _).grown hgrow (Nat.le_refl _) (fun _ h => by cases h)
  have hown0 : w1.ownsRow w.heap.size 5 1 (.slice (some ⟨w.heap.size, 0, none⟩) n n) n (U8 (fill n (hexV (strL s)) 0)) := by
    rw [fill_zero, ← made_U8, Nat.mul_one]; exact hown
  clear hown hgrow
  go_wp2
  go_loopw [20] (fun i wr => ∃ k : Nat, k ≤ n ∧ i = .int .i64 k ∧ wr.ownsRow w.heap.size 5 1 (.slice (some ⟨w.heap.size, 0, none⟩) n n) n (U8 (fill n (hexV (strL s)) k)) ∧ Below w.heap.size w wr ∧
      ∀ j, j < 2 * k → (digV ((strL s).getD j 0)).isSome = true)
    (fun i _ => n - (intOf i).toNat)
  case atStart => exact ⟨0, by omega, rfl, hown0, hb1, by omega⟩
  case round =>
    obtain ⟨k, hk, rfl, hown, hbl, hall⟩ := hrel
    have HALL := hide hall
    clear hown0 hb1 hall
    by_cases hlt : k < n
    · have hsz := unhide HN
      have k1 : 2 * k < s.size := by omega
      have k2 : 2 * k + 1 < s.size := by omega
      clear hsz
      have g1 := strL_at s (2 * k) k1
      have g2 := strL_at s (2 * k + 1) k2
      have HG1 := hide g1
      have HG2 := hide g2
      clear g1 g2
      cases hd1 : digV (s[2 * k].toNat : Int) with
      | none =>
        have H1 := hide hd1
        clear hd1
        go_wp2_with fail
        refine (digit_none _ _ (byte_bd _).1 (byte_bd _).2 (unhide H1)).mono ?_
        rintro e w' ⟨rfl, rfl⟩
        go_wp2_with fail
        refine (digit_any _ _ (byte_bd _).1 (byte_bd _).2).mono ?_
        rintro e w' ⟨rfl, rfl⟩
        go_wp2
        go_ret2
        refine ⟨hbl, .inr ⟨fun h => ?_, rfl⟩⟩
        have := h.2 (2 * k) (by simpa using k1)
        rw [unhide HG1, unhide H1] at this; simp at this
      | some x =>
        have bx := digV_bd hd1
        have H1 := hide hd1
        clear hd1
        cases hd2 : digV (s[2 * k + 1].toNat : Int) with
        | none =>
          have H2 := hide hd2
          clear hd2
          go_wp2_with fail
          refine (digit_some _ _ _ (byte_bd _).1 (byte_bd _).2 (unhide H1)).mono ?_
          rintro e w' ⟨rfl, rfl⟩
          go_wp2_with fail
          refine (digit_none _ _ (byte_bd _).1 (byte_bd _).2 (unhide H2)).mono ?_
          rintro e w' ⟨rfl, rfl⟩
          go_wp2
          go_ret2
          refine ⟨hbl, .inr ⟨fun h => ?_, rfl⟩⟩
          have := h.2 (2 * k + 1) (by simpa using k2)
          rw [unhide HG2, unhide H2] at this; simp at this
        | some y =>
          have bY := digV_bd hd2
          have H2 := hide hd2
          clear hd2
          have hfz := hown.frozenAt k
          have hcl := (hown.cellAt k (by omega)).trans (U8_at _ k (by simpa using hlt))
          generalize hz : (fill n (hexV (strL s)) k).getD k 0 = z at hcl
          clear hz
          go_wp2_with fail
          refine (digit_some _ _ _ (byte_bd _).1 (byte_bd _).2 (unhide H1)).mono ?_
          rintro e w' ⟨rfl, rfl⟩
          go_wp2_with fail
          refine (digit_some _ _ _ (byte_bd _).1 (byte_bd _).2 (unhide H2)).mono ?_
          rintro e w' ⟨rfl, rfl⟩
          go_wp2
          go_roundw
          case rel =>
            have hv : hexV (strL s) k = x * 16 + y := by unfold hexV; rw [unhide HG1, unhide HG2, unhide H1, unhide H2]; rfl
            have hst := (hown.stored k (.int .u8 (x * 16 + y))).1
            rw [← hv, U8_set, fill_set n (hexV (strL s)) k] at hst
            rw [nib_or x y bx.1 bx.2 bY.1 bY.2, ← hv]
            refine ⟨k + 1, by omega, by go_num, hst, hbl.setCell (Nat.le_refl _) _, fun j hj => ?_⟩
            by_cases e1 : j = 2 * k
            · subst e1; rw [unhide HG1, unhide H1]; rfl
            · by_cases e2 : j = 2 * k + 1
              · subst e2; rw [unhide HG2, unhide H2]; rfl
              · exact unhide HALL j (by omega)
          case measure => simp [intOf]; omega
    · go_wp2
      go_ret2
      have : k = n := by omega
      subst this
      rw [fill_all] at hown
      refine ⟨hbl, .inl ⟨⟨by simp [unhide HN], fun j hj => unhide HALL j (by simp [unhide HN] at hj; omega)⟩, rfl, ?_⟩⟩
      have e : unhexL (strL s) = (List.range k).map (hexV (strL s)) := by unfold unhexL; rw [strL_length, unhide HN]; congr 2; omega
      rw [e]; exact hown

theorem step_append_fits {P : Program} {ops : Array Oper} {o : Oper} {a : Act} {w : World} {K : Act → World → Prop} {Q : Exit → Act → World → Prop} {E : Prop}
    (hg : o.guard = none) (s x : Operand) (t : TypeId) (hop : o.op = Op.call { callee := Callee.builtin Builtin.append, args := #[s, x], argTypes := #[t, t] })
    (base : Nat) (e : TypeId) (i : TypeInfo) (size : Nat) (h1 : P.underlying t = some (.slice e)) (h2 : P.info? e = some i) (h4 : i.size = size)
    (g k cap : Nat) (xs : List Value) (hs : a.eval s = .slice (some ⟨g, 0, none⟩) k cap) (hown : w.ownsRow base e size (.slice (some ⟨g, 0, none⟩) k cap) k xs) (ad : Addr) (m c : Nat) (news : List Value) (hx : a.eval x = .slice (some ad) m c) (hn : news.length = m * size)
    (hc : ∀ j u, news[j]? = some u → w.cell? (ad.add j) = some u) (h1c : ∀ u ∈ news, u.oneCell' = true) (b1 : k + m ≤ cap)
    (hK : ∀ w', w'.ownsRow base e size (.slice (some ⟨g, 0, none⟩) (k + m) cap) (k + m) (xs ++ news) → w.grownBy w' (some g) → K (a.put o.dst (.slice (some ⟨g, 0, none⟩) (k + m) cap)) w') :
    if Region.wanted o (yielded ops a.tmps) = true then Oper.wp P o a w K Q else E := by
  have hw : Region.wanted o (yielded ops a.tmps) = true := by simp [Region.wanted, hg]
  rw [if_pos hw]
  obtain ⟨w', hrun, r1, r2⟩ := run_append_fits (P := P) w base t o.type e i size h1 h2 h4 g k cap xs hown ad m c news hn hc h1c b1
  unfold Oper.wp
  simp [execOp, hop, resolve, invoke, builtin, hs, hx, hrun, Result.andThen]
  exact hK w' r1 r2

def hexD (v : Int) : Int := if v < 10 then 48 + v else 87 + v
def hexL (l : List Int) : List Int := l.flatMap fun c => [hexD (c / 16), hexD (c % 16)]
theorem hexL_length (l : List Int) : (hexL l).length = 2 * l.length := by
  induction l with
  | nil => rfl
  | cons x r ih => simp only [hexL, List.flatMap_cons, List.length_append, List.length_cons] at ih ⊢; simp only [List.length_nil]; omega
theorem hexL_snoc (l : List Int) (c : Int) : hexL (l ++ [c]) = hexL l ++ [hexD (c / 16), hexD (c % 16)] := by simp [hexL]
theorem hexD_bd (v : Int) (h0 : 0 ≤ v) (h1 : v ≤ 15) : 0 ≤ hexD v ∧ hexD v ≤ 255 := by unfold hexD; split <;> omega
theorem hexL_isB (l : List Int) (h : IsB l) : IsB (hexL l) := by
  intro x hx; simp only [hexL, List.mem_flatMap, List.mem_cons, List.not_mem_nil, or_false] at hx
  obtain ⟨c, hc, hx⟩ := hx
  have := h c hc
  rcases hx with rfl | rfl
  · exact hexD_bd _ (by omega) (by omega)
  · exact hexD_bd _ (by omega) (by omega)

theorem index_digits (v : Int) (h0 : 0 ≤ v) (h1 : v ≤ 15) (w : World) :
    (Instr.index 9 (.string { data := #[48, 49, 50, 51, 52, 53, 54, 55, 56, 57, 97, 98, 99, 100, 101, 102] }) (.int .u8 v)).run Tryz.prog w = .ok (.int .u8 (hexD v)) w := by
  have : v = 0 ∨ v = 1 ∨ v = 2 ∨ v = 3 ∨ v = 4 ∨ v = 5 ∨ v = 6 ∨ v = 7 ∨ v = 8 ∨ v = 9 ∨ v = 10 ∨ v = 11 ∨ v = 12 ∨ v = 13 ∨ v = 14 ∨ v = 15 := by omega
  rcases this with rfl | rfl | rfl | rfl | rfl | rfl | rfl | rfl | rfl | rfl | rfl | rfl | rfl | rfl | rfl | rfl <;> (show _ = _; kernel_rfl)

theorem two_new (W : World) (p q : Int) : ∀ j u, (U8 [p, q])[j]? = some u → (W.alloc (.cells #[.int .u8 p, .int .u8 q] 5)).drew.cell? ((⟨W.heap.size, 0, none⟩ : Addr).add j) = some u := by
  intro j u hu
  rw [addr_add]
  match j, hu with
  | 0, hu => simp [U8] at hu; subst hu; go_simp
  | 1, hu => simp [U8] at hu; subst hu; go_simp

theorem u8_and15 (c : Int) (h0 : 0 ≤ c) (h1 : c ≤ 255) : bits .and .u8 c 15 = c % 16 := by
  rw [u8_and c 15 h0 (by omega) (by omega) (by omega)]
  obtain ⟨C, rfl⟩ := Int.eq_ofNat_of_zero_le h0
  have : (15 : Int).toNat = 2 ^ 4 - 1 := rfl
  rw [this, Int.toNat_natCast, Nat.and_two_pow_sub_one_eq_mod]; simp

set_option maxHeartbeats 2000000 in
set_option maxRecDepth 100000 in
theorem hex_any (s : Sl) (w : World) (hs : s.Ok w) (hn : s.n ≤ 1099511627776) :
    Calls Tryz.prog 62 #[s.v] w fun e w' => e = .returned (.string (strOfNums (hexL s.l))) ∧ Below w.heap.size w w' := by
  obtain ⟨i0, hi, hz0, hz1, hz2⟩ := info_parts Tryz.infoB
  obtain ⟨a, n, c, l⟩ := s
  have hl := hs.len
  simp only [Sl.v] at hl hn ⊢
  have HL := hide hl
  have HS := hide hs
  obtain ⟨T, hT⟩ : ∃ T, T = 2 * n := ⟨_, rfl⟩
  have hTi : (2 : Int) * (n : Int) = (T : Int) := by omega
  have HT := hide hT
  have hbs : i0.bytes * T ≤ 281474976710656 := by rw [hz2]; omega
  have hmx : T ≤ maxLen := by unfold maxLen; omega
  clear hl hs hT
  go_enter Tryz.func62, Tryz.ntmps62
  go_wp2_with (at_make; refine wpList_make_own _ rfl _ _ 28 rfl w.heap.size 5 i0 (.int .u8 0) 1 Tryz.underlying28 hi hz0 hz1 .i64 .i64 T T rfl rfl rfl hbs hmx (Nat.le_refl _) ?_)
  intro w1 hown hgrow
  have hb1 : Below w.heap.size w w1 := (Below.refl _ _).grown hgrow (Nat.le_refl _) (fun _ h => by cases h)
  clear hgrow
  go_wp2
  go_loopw [3, 12] (fun t i wr => ∃ k : Nat, k ≤ n ∧ i = .int .i64 k ∧ t = .slice (some ⟨w.heap.size, 0, none⟩) (2 * k) T ∧
      wr.ownsRow w.heap.size 5 1 (.slice (some ⟨w.heap.size, 0, none⟩) (2 * k) T) (2 * k) (U8 (hexL (l.take k))) ∧ Below w.heap.size w wr)
    (fun _ i _ => n - (intOf i).toNat)
  case atStart => exact ⟨0, by omega, rfl, rfl, hown, hb1⟩
  case round =>
    obtain ⟨k, hk, rfl, rfl, hown, hbl⟩ := hrel
    clear hb1
    by_cases hlt : k < n
    · obtain ⟨b, off, rfl, hbw, hc⟩ := ((unhide HS).later hbl).lies (by simp only; rw [unhide HL]; omega)
      have hck := hc k (by simp only; rw [unhide HL]; omega)
      have hby := (unhide HS).isB.at k
      simp only at hck hby
      clear hc
      generalize hx : l.getD k 0 = x at hck hby
      have HX := hide hx
      clear hx
      have h0 := hby.1
      have h1 := hby.2
      have i1 := index_digits (x / 16) (by omega) (by omega)
      have i2 := index_digits (x % 16) (by omega) (by omega)
      have hand := u8_and15 x h0 h1
      clear hby
      go_wp2
      go_region_law (refine step_append_fits rfl (.tmp 16) (.tmp 23) 28 rfl w.heap.size 5 i0 1 Tryz.underlying28 hi hz1 w.heap.size (2 * k) T (U8 (hexL (l.take k))) rfl (hown.alloc _).drew ⟨wr.heap.size, 0, none⟩ 2 2 (U8 [hexD (x / 16), hexD (x % 16)]) rfl rfl (two_new _ _ _) (U8_one _) (by have := unhide HT; omega) ?_; intro w2 hown2 hgrow2)
      all_goals
        have hb2 : Below w.heap.size w w2 := (((hbl.alloc hbl.size _).drew).grown hgrow2 (by have := hbl.size; simp; omega) (fun _ h => by cases h; exact Nat.le_refl _))
        clear hgrow2 hown hck i1 i2
        go_wp2
        go_roundw
        case rel =>
          have e : U8 (hexL (l.take (k + 1))) = U8 (hexL (l.take k)) ++ U8 [hexD (x / 16), hexD (x % 16)] := by
            rw [take_succ_getD l k (by rw [unhide HL]; omega), unhide HX, hexL_snoc]; simp [U8]
          exact ⟨k + 1, by omega, by go_num, rfl, by rw [e]; exact hown2, hb2⟩
        case measure => simp [intOf]; omega
    · have hkk : k = n := by omega
      subst hkk
      rw [List.take_of_length_le (by rw [unhide HL]; omega)] at hown
      have hcv := conv_str (Sl.Ok.of_own hown (hexL_isB l (unhide HS).isB))
      simp only [Sl.v] at hcv
      go_wp2
      go_ret
      exact ⟨rfl, hbl⟩
theorem strL_strOfNums (l : List Int) (h : IsB l) : strL (strOfNums l) = l := by
  unfold strL; rw [strOfNums_data, List.map_map]
  conv => rhs; rw [← List.map_id l]
  apply List.map_congr_left
  intro x hx
  have := h x hx
  simp only [Function.comp, UInt8.toNat_ofNat', id]; omega
theorem strOfNums_strL (s : ByteArray) : strOfNums (strL s) = s := by
  apply bytes_ext
  rw [strOfNums_data]; unfold strL; rw [List.map_map]
  conv => rhs; rw [← List.map_id s.data.toList]
  apply List.map_congr_left
  intro x _
  simp
theorem strOfNums_sz (l : List Int) : (strOfNums l).size = l.length := strOfNums_size l
theorem digV_hexD (v : Int) (h0 : 0 ≤ v) (h1 : v ≤ 15) : digV (hexD v) = some v := by
  unfold digV hexD
  split
  · rw [if_pos (by omega)]; congr 1; omega
  · rw [if_neg (by omega), if_pos (by omega)]; congr 1; omega
theorem hexD_digV {c v : Int} (h : digV c = some v) : hexD v = c := by
  unfold digV at h; unfold hexD
  split at h
  · simp at h; subst h; rw [if_pos (by omega)]; omega
  · split at h
    · simp at h; subst h; rw [if_neg (by omega)]; omega
    · simp at h
theorem hexL_even (l : List Int) : ∀ i, i < l.length → (hexL l).getD (2 * i) 0 = hexD (l.getD i 0 / 16) ∧ (hexL l).getD (2 * i + 1) 0 = hexD (l.getD i 0 % 16) := by
  induction l with
  | nil => intro i hi; simp at hi
  | cons x r ih =>
    intro i hi
    have e : hexL (x :: r) = hexD (x / 16) :: hexD (x % 16) :: hexL r := by simp [hexL]
    rw [e]
    cases i with
    | zero => simp
    | succ i =>
      have := ih i (by simpa using hi)
      rw [show 2 * (i + 1) = 2 * i + 1 + 1 from by omega]
      simpa using this
theorem hex_okHex (l : List Int) (h : IsB l) : OkHex (hexL l) := by
  refine ⟨by rw [hexL_length]; omega, fun j hj => ?_⟩
  rw [hexL_length] at hj
  have hb := h.at (j / 2)
  have he := hexL_even l (j / 2) (by omega)
  rcases Nat.mod_two_eq_zero_or_one j with hm | hm
  · have : j = 2 * (j / 2) := by omega
    rw [this, he.1, digV_hexD _ (by omega) (by omega)]; rfl
  · have : j = 2 * (j / 2) + 1 := by omega
    rw [this, he.2, digV_hexD _ (by omega) (by omega)]; rfl
theorem unhex_hexL (l : List Int) (h : IsB l) : unhexL (hexL l) = l := by
  apply List.ext_getElem
  · simp [unhexL, hexL_length]
  · intro i h1 h2
    have hb := h.at i
    have he := hexL_even l i h2
    simp only [unhexL, List.getElem_map, List.getElem_range, hexV]
    rw [he.1, he.2, digV_hexD _ (by omega) (by omega), digV_hexD _ (by omega) (by omega)]
    rw [getD_lt _ _ h2] at hb ⊢
    simp; omega
theorem unhexL_length (L : List Int) : (unhexL L).length = L.length / 2 := by simp [unhexL]
theorem unhexL_isB (L : List Int) (h : OkHex L) : IsB (unhexL L) := by
  intro x hx
  simp only [unhexL, List.mem_map, List.mem_range] at hx
  obtain ⟨i, hi, rfl⟩ := hx
  obtain ⟨a, ha⟩ := Option.isSome_iff_exists.1 (h.2 (2 * i) (by omega))
  obtain ⟨b, hb⟩ := Option.isSome_iff_exists.1 (h.2 (2 * i + 1) (by omega))
  have b1 := digV_bd ha
  have b2 := digV_bd hb
  simp only [hexV, ha, hb, Option.getD_some]; omega
theorem hex_unhexL (L : List Int) (h : OkHex L) : hexL (unhexL L) = L := by
  apply List.ext_getElem
  · rw [hexL_length, unhexL_length]; have := h.1; omega
  · intro j h1 h2
    have hu := hexL_even (unhexL L) (j / 2) (by rw [unhexL_length]; rw [hexL_length, unhexL_length] at h1; omega)
    have hlen := h.1
    have hv : (unhexL L).getD (j / 2) 0 = hexV L (j / 2) := by
      rw [getD_lt _ _ (by rw [unhexL_length]; omega)]; simp [unhexL]
    obtain ⟨a, ha⟩ := Option.isSome_iff_exists.1 (h.2 (2 * (j / 2)) (by omega))
    obtain ⟨b, hb⟩ := Option.isSome_iff_exists.1 (h.2 (2 * (j / 2) + 1) (by omega))
    have b1 := digV_bd ha
    have b2 := digV_bd hb
    rw [hv] at hu
    simp only [hexV, ha, hb, Option.getD_some] at hu
    rw [← getD_lt _ _ h1, ← getD_lt _ _ h2]
    rcases Nat.mod_two_eq_zero_or_one j with hm | hm
    · have e : j = 2 * (j / 2) := by omega
      conv => lhs; rw [e]
      conv => rhs; rw [e]
      rw [hu.1, show (a * 16 + b) / 16 = a from by omega]; exact hexD_digV ha
    · have e : j = 2 * (j / 2) + 1 := by omega
      conv => lhs; rw [e]
      conv => rhs; rw [e]
      rw [hu.2, show (a * 16 + b) % 16 = b from by omega]; exact hexD_digV hb

/-- the digit's number as an int, -1 where it is none -/
def digI (c : Int) : Int := match digV c with | some v => v | none => -1

theorem digI_le : ∀ c : Int, -1 ≤ digI c ∧ digI c ≤ 15 := by
  intro c; unfold digI
  cases h : digV c with
  | none => simp
  | some v => have := digV_bd h; simp only; omega

theorem index_digits64 (k : Nat) (h : k < 16) (w : World) :
    (Instr.index 9 (.string { data := #[48, 49, 50, 51, 52, 53, 54, 55, 56, 57, 97, 98, 99, 100, 101, 102] }) (.int .i64 k)).run Tryz.prog w = .ok (.int .u8 (hexD k)) w := by
  have : k = 0 ∨ k = 1 ∨ k = 2 ∨ k = 3 ∨ k = 4 ∨ k = 5 ∨ k = 6 ∨ k = 7 ∨ k = 8 ∨ k = 9 ∨ k = 10 ∨ k = 11 ∨ k = 12 ∨ k = 13 ∨ k = 14 ∨ k = 15 := by omega
  rcases this with rfl | rfl | rfl | rfl | rfl | rfl | rfl | rfl | rfl | rfl | rfl | rfl | rfl | rfl | rfl | rfl <;> (show _ = _; kernel_rfl)

set_option maxHeartbeats 1000000 in
set_option maxRecDepth 100000 in
theorem refdigit_any (c : Int) (w : World) :
    Calls Tryz.prog 77 #[.int .u8 c] w fun e w' => e = .returned (.int .i64 (digI c)) ∧ w' = w := by
  go_enter Tryz.func77, Tryz.ntmps77
  go_wp2
  go_loop [3] (fun i => ∃ k : Nat, k ≤ 16 ∧ i = .int .i64 k ∧ ∀ j : Nat, j < k → hexD j ≠ c) (fun i => 16 - (intOf i).toNat)
  case atStart => exact ⟨0, by omega, rfl, by omega⟩
  case round =>
    obtain ⟨k, hk, rfl, hall⟩ := hrel
    have HA := hide hall
    clear hall
    by_cases hlt : k < 16
    · have hix := index_digits64 k hlt
      by_cases he : hexD k = c
      · have hb : (hexD (k : Int) == c) = true := by simpa using he
        have hf : digI c = k := by unfold digI; rw [← he, digV_hexD k (by omega) (by omega)]
        have HF := hide hf
        have HE := hide he
        clear he hf
        go_wp2
        go_ret
        exact ⟨ret_int (unhide HF).symm, rfl⟩
      · have hb : (hexD (k : Int) == c) = false := by simpa using he
        have HE := hide he
        clear he
        go_wp2
        go_round
        case rel =>
          refine ⟨k + 1, by omega, by go_num, fun j hj => ?_⟩
          by_cases e : j = k
          · subst e; exact unhide HE
          · exact unhide HA j (by omega)
        case measure => simp [intOf]; omega
    · have hf : digI c = -1 := by
        unfold digI
        cases h : digV c with
        | none => rfl
        | some v =>
          have hb := digV_bd h
          have := hexD_digV h
          obtain ⟨V, rfl⟩ := Int.eq_ofNat_of_zero_le hb.1
          exact absurd this (unhide HA V (by omega))
      have HF := hide hf
      clear hf
      go_wp2
      go_ret
      exact ⟨ret_int (unhide HF).symm, rfl⟩

set_option maxHeartbeats 1000000 in
set_option maxRecDepth 100000 in
theorem refunhex_odd (s : ByteArray) (w : World) (hs : s.size ≤ maxLen) (hodd : s.size % 2 = 1) :
    Calls Tryz.prog 61 #[.string s] w fun e w' => e = .returned (.tuple #[.slice none 0 0, .bool false]) ∧ w' = w := by
  unfold maxLen at hs
  have hb : (((s.size : Int) % 2) != 0) = true := by rw [bne_iff_ne]; omega
  go_enter Tryz.func61, Tryz.ntmps61
  go_wp2
  go_ret2
  exact ⟨rfl, rfl⟩

theorem unhexL_take_succ (L : List Int) (k : Nat) (h : 2 * k + 1 < L.length) : (unhexL L).take (k + 1) = (unhexL L).take k ++ [hexV L k] := by
  rw [take_succ_getD _ k (by rw [unhexL_length]; omega), getD_lt _ _ (by rw [unhexL_length]; omega)]; simp [unhexL]

theorem digI_some {c v : Int} (h : digV c = some v) : digI c = v := by unfold digI; rw [h]
theorem digI_none {c : Int} (h : digV c = none) : digI c = -1 := by unfold digI; rw [h]

set_option maxHeartbeats 2000000 in
set_option maxRecDepth 100000 in
theorem refunhex_even (s : ByteArray) (w : World) (hs : s.size ≤ 1099511627776) (n : Nat) (hn : s.size = 2 * n) :
    Calls Tryz.prog 61 #[.string s] w fun e w' => Below w.heap.size w w' ∧
      ((OkHex (strL s) ∧ ∃ v, e = .returned (.tuple #[v, .bool true]) ∧ w'.ownsRow w.heap.size 5 1 v n (U8 (unhexL (strL s))))
       ∨ (¬ OkHex (strL s) ∧ e = .returned (.tuple #[.slice none 0 0, .bool false]))) := by
  obtain ⟨i0, hi, hz0, hz1, hz2⟩ := info_parts Tryz.infoB
  have HN := hide hn
  have hb : (((s.size : Int) % 2) != 0) = false := by rw [bne_eq_false_iff_eq]; omega
  have hnn : n ≤ 1099511627776 := by omega
  clear hn
  go_enter Tryz.func61, Tryz.ntmps61
  go_wp2
  go_loopw [4, 5] (fun b i wr => ∃ k : Nat, k ≤ n ∧ i = .int .i64 ((2 * k : Nat) : Int) ∧ wr.ownsRow w.heap.size 5 1 b k (U8 ((unhexL (strL s)).take k)) ∧ Below w.heap.size w wr ∧
      ∀ j, j < 2 * k → (digV ((strL s).getD j 0)).isSome = true)
    (fun _ i _ => s.size + 2 - (intOf i).toNat)
  case atStart => exact ⟨0, by omega, rfl, World.ownsRow_nil _ _ _ _, Below.refl _ _, by omega⟩
  case round =>
    obtain ⟨k, hk, rfl, hown, hbl, hall⟩ := hrel
    have HALL := hide hall
    clear hall
    obtain ⟨m, hm⟩ : ∃ m, m = 2 * k := ⟨_, rfl⟩
    rw [← hm]
    have HM := hide hm
    by_cases hlt : k < n
    · have hsz := unhide HN
      have k1 : m < s.size := by omega
      have k2 : m + 1 < s.size := by omega
      have k2' : (m : Int) + 1 < (s.size : Int) := by omega
      have g1 := strL_at s m k1
      have g2 := strL_at s (m + 1) k2
      have HG1 := hide g1
      have HG2 := hide g2
      clear g1 g2 hsz hm
      cases hd1 : digV (s[m].toNat : Int) with
      | none =>
        have H1 := hide hd1
        have hi1 := digI_none hd1
        clear hd1
        go_wp2_with fail
        refine (refdigit_any _ _).mono ?_
        rintro e w' ⟨rfl, rfl⟩
        go_wp2_with fail
        refine (refdigit_any _ _).mono ?_
        rintro e w' ⟨rfl, rfl⟩
        have hbd := digI_le (s[m + 1].toNat : Int)
        go_wp2
        go_ret2
        refine ⟨hbl, .inr ⟨fun h => ?_, rfl⟩⟩
        have := h.2 m (by simpa using k1)
        rw [unhide HG1, unhide H1] at this; simp at this
      | some x =>
        have bx := digV_bd hd1
        have H1 := hide hd1
        have hi1 := digI_some hd1
        clear hd1
        cases hd2 : digV (s[m + 1].toNat : Int) with
        | none =>
          have H2 := hide hd2
          have hi2 := digI_none hd2
          clear hd2
          go_wp2_with fail
          refine (refdigit_any _ _).mono ?_
          rintro e w' ⟨rfl, rfl⟩
          go_wp2_with fail
          refine (refdigit_any _ _).mono ?_
          rintro e w' ⟨rfl, rfl⟩
          have hx : decide (x < 0) = false := by simp; omega
          go_wp2
          go_ret2
          refine ⟨hbl, .inr ⟨fun h => ?_, rfl⟩⟩
          have := h.2 (m + 1) (by simpa using k2)
          rw [unhide HG2, unhide H2] at this; simp at this
        | some y =>
          have bY := digV_bd hd2
          have H2 := hide hd2
          have hi2 := digI_some hd2
          have hv : hexV (strL s) k = x * 16 + y := by
            unfold hexV; rw [← unhide HM, unhide HG1, unhide HG2, unhide H1, hd2]; rfl
          have hsn : Hid (U8 ((unhexL (strL s)).take (k + 1)) = U8 ((unhexL (strL s)).take k) ++ [.int .u8 (16 * x + y)]) := hide (by
            rw [unhexL_take_succ _ k (by rw [strL_length, ← unhide HM]; exact k2), U8_snoc, hv, Int.mul_comm x 16])
          clear hd2 hv
          have hx : decide (x < 0) = false := by simp; omega
          have hy : decide (y < 0) = false := by simp; omega
          go_wp2_with fail
          refine (refdigit_any _ _).mono ?_
          rintro e w' ⟨rfl, rfl⟩
          go_wp2_with fail
          refine (refdigit_any _ _).mono ?_
          rintro e w' ⟨rfl, rfl⟩
          go_wp2_with (at_builtin; refine wpList_append_own _ rfl _ _ 28 rfl w.heap.size 5 i0 (.int .u8 0) 1 1 Tryz.underlying28 hi hz0 hz1 hz2 rfl (by decide) _ k (U8 ((unhexL (strL s)).take k)) rfl (hown.alloc _) ⟨w'.heap.size, 0, none⟩ 1 1 [.int .u8 (16 * x + y)] rfl rfl (cell_one_new _ _ _) (one_byte _) (by unfold maxLen; omega) (by omega) (by have := hbl.size; simp; omega) ?_)
          intro v1 w1 hown1 hgrow1 _
          have hb1 := below_app hbl (Nat.le_refl _) hown hgrow1
          clear hgrow1 hown hbl
          go_wp2
          go_roundw
          case rel =>
            refine ⟨k + 1, by omega, by have := unhide HM; go_num, by rw [unhide hsn]; exact hown1, hb1, fun j hj => ?_⟩
            have hm := unhide HM
            by_cases e1 : j = m
            · subst e1; rw [unhide HG1, unhide H1]; rfl
            · by_cases e2 : j = m + 1
              · subst e2; rw [unhide HG2, unhide H2]; rfl
              · exact unhide HALL j (by omega)
          case measure => simp [intOf]; omega
    · have hkk : k = n := by omega
      subst hkk
      have hge : ¬ (m : Int) + 1 < (s.size : Int) := by have := unhide HN; omega
      have hmb : m ≤ 2199023255552 := by omega
      clear hm
      go_wp2
      go_ret2
      rw [List.take_of_length_le (by rw [unhexL_length, strL_length, unhide HN]; omega)] at hown
      exact ⟨hbl, .inl ⟨⟨by simp [unhide HN], fun j hj => unhide HALL j (by simp [unhide HN] at hj; omega)⟩, _, rfl, hown⟩⟩

theorem slice_digits (v : Int) (h0 : 0 ≤ v) (h1 : v ≤ 15) (w : World) :
    (Instr.slice 9 (.string { data := #[48, 49, 50, 51, 52, 53, 54, 55, 56, 57, 97, 98, 99, 100, 101, 102] }) (some (.int .u8 v)) (some (.int .u8 (v + 1))) none).run Tryz.prog w = .ok (.string (strOfNums [hexD v])) w := by
  have : v = 0 ∨ v = 1 ∨ v = 2 ∨ v = 3 ∨ v = 4 ∨ v = 5 ∨ v = 6 ∨ v = 7 ∨ v = 8 ∨ v = 9 ∨ v = 10 ∨ v = 11 ∨ v = 12 ∨ v = 13 ∨ v = 14 ∨ v = 15 := by omega
  rcases this with rfl | rfl | rfl | rfl | rfl | rfl | rfl | rfl | rfl | rfl | rfl | rfl | rfl | rfl | rfl | rfl <;> (show _ = _; kernel_rfl)

theorem strOfNums_append (a b : List Int) : strOfNums a ++ strOfNums b = strOfNums (a ++ b) := by
  apply bytes_ext
  simp [strOfNums]

set_option maxHeartbeats 2000000 in
set_option maxRecDepth 100000 in
theorem refhex_any (s : Sl) (w : World) (hs : s.Ok w) (hn : s.n ≤ 1099511627776) :
    Calls Tryz.prog 50 #[s.v] w fun e w' => e = .returned (.string (strOfNums (hexL s.l))) ∧ ∃ q, w' = w.drewN q := by
  obtain ⟨a, n, c, l⟩ := s
  have hl := hs.len
  simp only [Sl.v] at hl hn ⊢
  have HL := hide hl
  have HS := hide hs
  clear hl hs
  go_enter Tryz.func50, Tryz.ntmps50
  go_wp2
  go_loopw [3, 4] (fun t i wr => ∃ k q : Nat, k ≤ n ∧ i = .int .i64 k ∧ t = .string (strOfNums (hexL (l.take k))) ∧ wr = w.drewN q) (fun _ i _ => n - (intOf i).toNat)
  case atStart => exact ⟨0, 0, by omega, rfl, rfl, rfl⟩
  case round =>
    obtain ⟨k, q, hk, rfl, rfl, rfl⟩ := hrel
    by_cases hlt : k < n
    · obtain ⟨b, off, rfl, hbw, hc⟩ := (unhide HS).lies (by simp only; rw [unhide HL]; omega)
      have hck := hc k (by simp only; rw [unhide HL]; omega)
      have hby := (unhide HS).isB.at k
      simp only at hck hby
      clear hc
      obtain ⟨W, hW⟩ : ∃ W, W = w.drewN q := ⟨_, rfl⟩
      have hck' : W.cell? ⟨b, off + k, none⟩ = some (.int .u8 (l.getD k 0)) := by rw [hW]; exact hck
      rw [← hW]
      have HW := hide hW
      have hsz : (strOfNums (hexL (l.take k))).size ≤ 2199023255552 := by rw [strOfNums_sz, hexL_length, List.length_take]; omega
      have hsz2 : ∀ x, (strOfNums [hexD x]).size = 1 := fun x => by rw [strOfNums_sz]; rfl
      have hfin : Hid (strOfNums (hexL (l.take k)) ++ strOfNums [hexD (l.getD k 0 / 16)] ++ strOfNums [hexD (l.getD k 0 % 16)] = strOfNums (hexL (l.take (k + 1)))) := hide (by
        rw [take_succ_getD l k (by rw [unhide HL]; omega), hexL_snoc, strOfNums_append, strOfNums_append]; simp)
      clear hW hck
      generalize l.getD k 0 = x at hck' hby hfin
      have h0 := hby.1
      have h1 := hby.2
      have s1 := slice_digits (x / 16) (by omega) (by omega)
      have s2 := slice_digits (x % 16) (by omega) (by omega)
      have hkn : (k : Int) < (n : Int) := by omega
      generalize strOfNums (hexL (l.take k)) = T at hsz hfin ⊢
      clear hby
      go_wp2
      go_quiet (fail)
      go_wp2
      go_roundw
      case rel => exact ⟨k + 1, q + nq, by omega, by go_num, by rw [unhide hfin], by rw [unhide HW, World.drewN_drewN]⟩
      case measure => simp [intOf]; omega
    · have hkk : k = n := by omega
      subst hkk
      rw [List.take_of_length_le (by rw [unhide HL]; omega)]
      go_wp2
      go_ret
      exact ⟨rfl, q, rfl⟩
end Go.Proofs.YtdcaojiiaocnaaaGreatDoor
