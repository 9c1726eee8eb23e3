import Derived.Test.YtmdpmkdofgligaaSmW
import Derived.Deep.QuietTactic
import Derived.BigQuiet
import Derived.Deep.RegionHeld3
import Derived.Maps.AppendAt
set_option linter.unusedVariables false
namespace Go.Proofs.Ytmdpmkdofgligaa
open Go.RowKit

theorem own_dr {B e n size : Nat} {w : World} {v : Value} {xs : List Value} (h : w.ownsRow B e size v n xs) (q : Nat) : (w.drewN q).ownsRow B e size v n xs := h
theorem step_append_own {P : Program} {ops : Array Oper} {o : Oper} {a : Act} {w : World} {K : Act → World → Prop} {Q : Exit → Act → World → Prop} {E : Prop} (hgd : o.guard = none) (s x : Operand) (t : TypeId)
    (ho : o.op = .call { callee := .builtin .append, args := #[s, x], argTypes := #[t, t] })
    (base : Nat) (e : TypeId) (i : TypeInfo) (z : Value) (size bytes : Nat) (ht : P.underlying t = some (.slice e)) (hi : P.info? e = some i) (hz : i.zero = some z)
    (hsize : i.size = size) (hby : i.bytes = bytes) (hzs : z.cells.size = size) (hsz : 0 < size)
    (v : Value) (n : Nat) (xs : List Value) (hs : a.eval s = v) (hown : w.ownsRow base e size v n xs)
    (ad : Addr) (m c : Nat) (news : List Value) (hx : a.eval x = .slice (some ad) m c) (hl : news.length = m * size) (hnews : ∀ j u, news[j]? = some u → w.cell? (ad.add j) = some u) (h1 : ∀ u ∈ news, u.oneCell' = true)
    (h63 : n + m ≤ maxLen) (hbytes : (n + m) * bytes ≤ 140737488355328) (hbase : base ≤ w.heap.size)
    (h : ∀ v' w', w'.ownsRow base e size v' (n + m) (xs ++ news) → w.grownBy w' v.ownBlock → K (a.put o.dst v') w') :
    if Region.wanted o (yielded ops a.tmps) = true then Oper.wp P o a w K Q else E := by
  have hw : Region.wanted o (yielded ops a.tmps) = true := by simp [Region.wanted, hgd]
  rw [if_pos hw]
  exact wp_append_own w s x t ho base e i z size bytes ht hi hz hsize hby hzs hsz v n xs hs hown ad m c news hx hl hnews h1 h63 hbytes hbase fun v' w' h2 h3 _ => h v' w' h2 h3

theorem xor3_length : ∀ (a b c : List Int), a.length = b.length → a.length = c.length → (xor3 a b c).length = a.length
  | [], [], [], _, _ => rfl
  | a :: l, b :: m, c :: n, h1, h2 => by
    show (xor3 l m n).length + 1 = l.length + 1
    rw [xor3_length l m n (by simpa using h1) (by simpa using h2)]
theorem xor3_getD : ∀ (a b c : List Int) (k : Nat), k < a.length → a.length = b.length → a.length = c.length → (xor3 a b c).getD k 0 = (((a.getD k 0).toNat ^^^ (b.getD k 0).toNat ^^^ (c.getD k 0).toNat : Nat) : Int)
  | [], _, _, _, h, _, _ => by simp at h
  | a :: l, b :: m, c :: n, k, h, h1, h2 => by
    cases k with
    | zero => rfl
    | succ k => exact xor3_getD l m n k (by simpa using h) (by simpa using h1) (by simpa using h2)
  | _ :: _, [], _, _, _, h1, _ => by simp at h1
  | _ :: _, _ :: _, [], _, _, _, h2 => by simp at h2
theorem xor3_isB : ∀ (a b c : List Int), IsB a → IsB b → IsB c → IsB (xor3 a b c)
  | a :: l, b :: m, c :: n, h1, h2, h3 => by
    intro x hx
    have e : xor3 (a :: l) (b :: m) (c :: n) = ((a.toNat ^^^ b.toNat ^^^ c.toNat : Nat) : Int) :: xor3 l m n := rfl
    rw [e] at hx
    rcases List.mem_cons.1 hx with rfl | hx
    · have := h1.head
      have := h2.head
      have := h3.head
      have : a.toNat ^^^ b.toNat ^^^ c.toNat < 2 ^ 8 := Nat.xor_lt_two_pow (Nat.xor_lt_two_pow (by omega) (by omega)) (by omega)
      omega
    · exact xor3_isB l m n h1.tail h2.tail h3.tail x hx
  | [], _, _, _, _, _ => fun x hx => by simp [xor3] at hx
  | _ :: _, [], _, _, _, _ => fun x hx => by simp [xor3] at hx
  | _ :: _, _ :: _, [], _, _, _ => fun x hx => by simp [xor3] at hx
theorem u8_xor3 (x y z : Int) (hx : 0 ≤ x ∧ x ≤ 255) (hy : 0 ≤ y ∧ y ≤ 255) (hz : 0 ≤ z ∧ z ≤ 255) : bits .xor .u8 (bits .xor .u8 x y) z = ((x.toNat ^^^ y.toNat ^^^ z.toNat : Nat) : Int) := by
  have h : x.toNat ^^^ y.toNat < 2 ^ 8 := Nat.xor_lt_two_pow (by omega) (by omega)
  rw [u8_xor x y (by omega) (by omega) (by omega) (by omega), u8_xor _ z (by omega) (by omega) (by omega) (by omega), Int.toNat_natCast]
theorem Sl.Ok.pre {w : World} {s : Sl} (h : s.Ok w) (k : Nat) (hk : k ≤ s.n) : Sl.Ok w ⟨s.a, k, s.c, s.l.take k⟩ := by
  have h1 := h.len
  have h2 := h.le
  exact ⟨by simp only [List.length_take]; omega, by simp only; omega, h.mx, (fun e => by have := h.nn e; simp only; omega), h.isB.take k, lies_take h.lies k⟩
theorem crc_xor3 (a b c : List Int) (ha : IsB a) (hb : IsB b) (hc : IsB c) (h1 : a.length = b.length) (h2 : a.length = c.length) : bits .xor .u32 (bits .xor .u32 (crc a) (crc b)) (crc c) = crc (xor3 a b c) := by
  have e1 := crcN_lt ha
  have e2 := crcN_lt hb
  have e3 := crcN_lt hc
  have e4 : crcN a ^^^ crcN b < 2 ^ 32 := Nat.xor_lt_two_pow (by omega) (by omega)
  unfold crc
  rw [u32_xor_nat _ _ e1 e2, u32_xor_nat _ _ e4 e3, crcN_xor3 a b c h1 h2]
/-- the four bytes of a word, the lowest first -/
theorem lv4 (x : Int) (h0 : 0 ≤ x) (h1 : x < 4294967296) : lvN [x % 256, x / 256 % 256, x / 65536 % 256, x / 16777216] = x.toNat := by
  simp only [lvN]
  omega
theorem crc_last (a : List Int) (ha : IsB a) (q : List Int) (hq : IsB q) (hl : q.length = 4) (x : Nat) (hx : lvN q = x) (hx1 : x < 4294967296) : crcN (a ++ q) = sNs 32 (regN 4294967295 a ^^^ x) ^^^ 4294967295 := by
  unfold crcN
  rw [regN_append, regN_lv q hq, hl, hx]
theorem crc_apart (a : List Int) (ha : IsB a) (p q : List Int) (hp : IsB p) (hq : IsB q) (hl : p.length = 4) (hl2 : q.length = 4) : (crc (a ++ p) = crc (a ++ q)) = (p = q) := by
  apply propext
  constructor
  · intro h
    have h1 := lvN_lt p hp
    have h2 := lvN_lt q hq
    rw [hl] at h1
    rw [hl2] at h2
    have hr := regN_lt a ha (r := 4294967295) (by decide)
    have e : crcN (a ++ p) = crcN (a ++ q) := by unfold crc at h; omega
    rw [crc_last a ha p hp hl _ rfl h1, crc_last a ha q hq hl2 _ rfl h2] at e
    have e2 := sNs_inj 32 (Nat.xor_lt_two_pow (n := 32) hr h1) (Nat.xor_lt_two_pow (n := 32) hr h2) (xor_inj e)
    rw [Nat.xor_comm, Nat.xor_comm _ (lvN q)] at e2
    exact lvN_inj p q (by rw [hl, hl2]) hp hq (xor_inj e2)
  · intro h; rw [h]
theorem ok_drewN {w : World} {d : Sl} (h : d.Ok w) (k : Nat) : d.Ok (w.drewN k) := h.later (below_drewN (Below.refl _ _) k)
theorem sum_q {W : World} {n : Nat} {a : Option Addr} {m c : Nat} {l : List Int} (h : Sl.Ok W ⟨a, m, c, l⟩) : Calls Try.prog 4 #[.slice a m c] (W.drewN n) fun e w'' => e = .returned (.int .u32 (crc l)) ∧ ∃ m, w'' = W.drewN m :=
  Calls.quiet_of_same (sum_any _ _ (ok_drewN h n))
theorem below_one (w : World) (o : Obj) : Below w.heap.size w (w.alloc o) := (Below.refl _ _).alloc (Nat.le_refl _) o
theorem lit_ok (w : World) (l : List Int) (hB : IsB l) (hl : l.length ≤ 1048576) : Sl.Ok (w.alloc (.cells (U8 l).toArray 5)) ⟨some ⟨w.heap.size, 0, none⟩, l.length, l.length, l⟩ := by
  have hA : Arr (w.alloc (.cells (U8 l).toArray 5)) w.heap.size 5 (U8 l) := Arr.new w _ (U8 l)
  exact ⟨rfl, Nat.le_refl _, (by unfold maxLen; omega : l.length ≤ maxLen), (fun h => by cases h), hB, hA.lies⟩
/-- append([]byte{}, d...) -/
theorem wpList_append_made {w0 : World} {ops : Array Oper} {rest : List Oper} {o : Oper} {a : Act} {Q : Exit → Act → World → Prop} (hgd : o.guard = none) (s x : Operand)
    (ho : o.op = .call { callee := .builtin .append, args := #[s, x], argTypes := #[29, 29] }) (hs : a.eval s = .slice (some ⟨w0.heap.size, 0, none⟩) 0 0)
    (d : Sl) (hd : d.Ok w0) (hx : a.eval x = .slice d.a d.n d.c) (hb : d.n ≤ 140737488355328)
    (h : ∀ v' w', Hid (w'.ownsRow w0.heap.size 5 1 v' d.n (U8 d.l)) → Hid (Below w0.heap.size w0 w') → wpList Try.prog ops Q rest (a.put o.dst v') w') : wpList Try.prog ops Q (o :: rest) a (w0.alloc (.cells #[] 5)) := by
  obtain ⟨i0, hi, hz0, hz1, hz2⟩ := info_parts Try.infoB
  have he : (w0.alloc (.cells #[] 5)).ownsRow w0.heap.size 5 1 (.slice (some ⟨w0.heap.size, 0, none⟩) 0 0) 0 (U8 ([] : List Int)) := World.ownsRow_made w0 #[] 0 (Nat.le_refl _) (by unfold maxLen; omega) rfl
  have hb1 := below_one w0 (.cells #[] 5)
  refine wpList_append_sl hgd s x 29 ho w0.heap.size 5 i0 (.int .u8 0) Try.underlying29 hi hz0 hz1 hz2 rfl _ 0 _ hs he d (hd.later hb1) hx (by omega) (by simp) ?_
  intro v' w' h1 h2
  have h3 := below_grown hb1 (Nat.le_refl _) he (unhide h2)
  have e : U8 ([] : List Int) ++ U8 d.l = U8 d.l := by simp [U8]
  have h4 := unhide h1
  rw [e, Nat.zero_add] at h4
  exact h v' w' h4 h3
/-- append(v, b0, b1, ..) -/
theorem wpList_append_lit {w0 W : World} {ops : Array Oper} {rest : List Oper} {o : Oper} {a : Act} {Q : Exit → Act → World → Prop} (hgd : o.guard = none) (s x : Operand)
    (ho : o.op = .call { callee := .builtin .append, args := #[s, x], argTypes := #[29, 29] }) (base : Nat) (v : Value) (n : Nat) (l q : List Int) (hs : a.eval s = v)
    (hown : W.ownsRow base 5 1 v n (U8 l)) (hbl : Below base w0 W) (hbase : base ≤ w0.heap.size) (hq : IsB q) (hql : q.length ≤ 1048576) (hx : a.eval x = .slice (some ⟨W.heap.size, 0, none⟩) q.length q.length) (hb : n + q.length ≤ 140737488355328)
    (h : ∀ v' w', Hid (w'.ownsRow base 5 1 v' (n + q.length) (U8 (l ++ q))) → Hid (Below base w0 w') → wpList Try.prog ops Q rest (a.put o.dst v') w') : wpList Try.prog ops Q (o :: rest) a (W.alloc (.cells (U8 q).toArray 5)) := by
  obtain ⟨i0, hi, hz0, hz1, hz2⟩ := info_parts Try.infoB
  refine wpList_append_sl hgd s x 29 ho base 5 i0 (.int .u8 0) Try.underlying29 hi hz0 hz1 hz2 rfl _ n _ hs (hown.alloc _) ⟨_, _, _, q⟩ (lit_ok W q hq hql) hx (by simp only; omega) (by have := hbl.size; simp; omega) ?_
  intro v' w' h1 h2
  have h4 := unhide h1
  rw [← U8_append] at h4
  exact h v' w' h4 (below_app hbl hbase hown (unhide h2))
theorem zero4_isB : IsB [0, 0, 0, 0] := fun x hx => by simp at hx; omega
theorem four_isB (x : Int) (h : 0 ≤ x ∧ x < 4294967296) : IsB [x % 256, x / 256 % 256, x / 65536 % 256, x / 16777216] := fun y hy => by simp at hy; omega
theorem bel_then {B : Nat} {w0 w w' : World} (h : Below B w0 w) (hB : B ≤ w.heap.size) (k : Below w.heap.size w w') : Below B w0 w' := h.trans (k.mono hB)
theorem own_to' {w : World} {base base' e n : Nat} {v : Value} {xs : List Value} {s : Nat} (h : w.ownsRow s e 1 v n xs) (_ : base ≤ s) (hb : base' ≤ base) : w.ownsRow base' e 1 v n xs := by
  obtain ⟨h1, h2⟩ := h
  refine ⟨h1, ?_⟩
  rcases h2 with h2 | ⟨g, cap, cur, r1, r2, r3⟩
  · exact .inl h2
  · exact .inr ⟨g, cap, cur, r1, by omega, r3⟩
theorem sums_end (a : List Int) (x : Int) (ha : IsB a) (hx : 0 ≤ x ∧ x < 4294967296) : (crc (a ++ [0, 0, 0, 0]) = crc (a ++ [x % 256, x / 256 % 256, x / 65536 % 256, x / 16777216])) = (x = 0) := by
  rw [crc_apart a ha _ _ zero4_isB (four_isB x hx) rfl rfl]
  apply propext
  simp only [List.cons.injEq, and_true]
  constructor
  · intro h; omega
  · rintro rfl; decide
theorem getD_take (l : List Int) {n k : Nat} (h : k < n) : (l.take n).getD k 0 = l.getD k 0 := by
  simp [List.getD, h]
end Go.Proofs.Ytmdpmkdofgligaa
