import Derived.Test.YtppmgfkpfamabaaQStM
import Derived.Test.YtppmgfkpfamabaaQGasZ
import Derived.Test.YtppmgfkpfamabaaQGabZ
import Derived.Laws.AppendOwnNone
import Derived.Deep.Slices
set_option linter.unusedSimpArgs false
set_option linter.unusedVariables false
namespace Go.Proofs.Ytppmgfkpfamabaa
open Go.RowKit
structure Old (w w' : World) : Prop where
  size : w.heap.size ≤ w'.heap.size
  block : ∀ k, k < w.heap.size → w'.heap[k]? = w.heap[k]?
theorem Old.of {w w' : World} (h : Below w.heap.size w w') : Old w w' := ⟨h.size, h.block⟩
theorem Hs17.begin (w0 : World) (K : World → Prop) (h : ∀ w', Old w0 w' → K w') : Hs17 w0 [] K w0 :=
  ⟨by simp, (fun p hp => by cases hp), (fun p hp => by cases hp), Below.refl _ _, fun w' h1 h2 => h w' ⟨h1, fun k hk => h2 k hk (fun p hp => by cases hp)⟩⟩
theorem own_blk {w w' : World} {base e sz n : Nat} {v : Value} {xs : List Value} (h : w.ownsRow base e sz v n xs) (hb : ∀ g, v.ownBlock = some g → w'.heap[g]? = w.heap[g]?) : w'.ownsRow base e sz v n xs := by
  refine ⟨h.1, ?_⟩
  rcases h.2 with h2 | ⟨g, cap, cur, h1, h2, h3, h4⟩
  · exact .inl h2
  · exact .inr ⟨g, cap, cur, h1, h2, (hb g (by rw [h1]; rfl)).trans h3, h4⟩
theorem own_low {w : World} {B B' e sz n : Nat} {v : Value} {xs : List Value} (h : w.ownsRow B e sz v n xs) (hB : B' ≤ B) : w.ownsRow B' e sz v n xs := by
  refine ⟨h.1, ?_⟩
  rcases h.2 with h2 | ⟨g, cap, cur, h1, h2, h3⟩
  · exact .inl h2
  · exact .inr ⟨g, cap, cur, h1, Nat.le_trans hB h2, h3⟩
theorem Sl.Ok.old {w w' : World} {s : Sl} (h : s.Ok w) (ho : Old w w') : s.Ok w' := by
  refine ⟨h.len, h.le, h.mx, h.nn, h.isB, fun hp => ?_⟩
  obtain ⟨b, off, ha, hlt, hc⟩ := h.lies hp
  refine ⟨b, off, ha, Nat.lt_of_lt_of_le hlt ho.size, fun i hi => ?_⟩
  rw [World.cell?_of_block (w := w) (a := ⟨b, off + i, none⟩) (ho.block b hlt)]
  exact hc i hi
theorem Hs17.ownB {w0 w w' : World} {rows : List Row} {K : World → Prop} {e sz n : Nat} {v : Value} {xs : List Value} (hS : Hs17 w0 rows K w) (hb : Below w.heap.size w w') (hO : w'.ownsRow w.heap.size e sz v n xs) : Hs17 w0 rows (fun w => K w ∧ w.ownsRow w0.heap.size e sz v n xs) w' := by
  refine (hS.later hb).also (fun w'' h1 h2 => ?_)
  refine own_low (own_blk hO (fun g hg => h2 g (hO.lt g hg).2 (fun p hp e => ?_))) hS.bel.size
  have h3 := (hS.arr p hp).lt
  have h4 := (hO.lt g hg).1
  omega
def rC (k : Int) (v : Value) : List Value := [.int .u8 k, v]
def nilB : Value := .slice none 0 0
theorem Try.inR : (Try.prog.info? 136).map (fun i => (i.zero, i.size)) = some (some (aV (rC 0 nilB)), 2) := by kernel_rfl
theorem szR (k : Int) (v : Value) : (Try.prog.info? 136).map (·.size) = some (rC k v).length := by show _ = some 2; kernel_rfl
theorem Try.in1y : (Try.prog.info? 22).map (·.size) = some 1 := by kernel_rfl
theorem at_rp (k : Int) (v : Value) : At (rC k v) 1 [v] := ⟨[.int .u8 k], [], rfl, rfl⟩
theorem pt_r (k k' : Int) (v v' : Value) : Pt (rC k v) 0 (rC k' v') (rC k' v') := Pt.self rfl
theorem pt_rp (k : Int) (v v' : Value) : Pt (rC k v) 1 [v'] (rC k v') := ⟨[.int .u8 k], [v], [], rfl, rfl, rfl, rfl⟩
theorem one_r (k : Int) {v : Value} (h : v.oneCell' = true) : ∀ u ∈ rC k v, u.oneCell' = true := by
  intro u hu; simp [rC] at hu; rcases hu with rfl | rfl
  · rfl
  · exact h
theorem one_v {v : Value} (h : v.oneCell' = true) : ∀ u ∈ [v], u.oneCell' = true := by intro u hu; simp at hu; subst hu; exact h
theorem b_rk (k : Int) : Try.prog.built 136 [(0, .int .u8 k)] = some (rC k nilB).toArray := by kernel_rfl
theorem op_appB {o : Oper} {a : Act} {w : World} {k : Act → World → Prop} {Q : Exit → Act → World → Prop} (s x : Operand) (ho : o.op = .call { callee := .builtin .append, args := #[s, x], argTypes := #[22, 22] })
    {base n : Nat} {v : Value} {xs : List Value} (hs : a.eval s = v) (hown : w.ownsRow base 5 1 v n xs) (d : Sl) (hd : d.Ok w) (hx : a.eval x = .slice d.a d.n d.c) (hb : n + d.n ≤ 140737488355328) (hbase : base ≤ w.heap.size)
    (h : ∀ v' w', w'.ownsRow base 5 1 v' (n + d.n) (xs ++ U8 d.l) → w.grownBy w' v.ownBlock → (v'.ownBlock = v.ownBlock ∨ v'.ownBlock = some w.heap.size) → k (a.put o.dst v') w') : o.wp Try.prog a w k Q := by
  obtain ⟨i0, hii, hz0, hz1, hz2⟩ := info_parts Try.infoB
  cases hda : d.a with
  | none =>
    obtain ⟨h0, hc0⟩ := hd.nn hda
    have hl0 : d.l = [] := List.eq_nil_of_length_eq_zero (by rw [hd.len, h0])
    have hr := run_append_owned_none (P := Try.prog) (w := w) base 22 o.type 5 i0 1 Try.underlying22 hii v n xs hown
    unfold Oper.wp
    simp [execOp, ho, resolve, invoke, builtin, hs, hx, hda, h0, hc0, hr, Result.andThen]
    exact h v w (by rw [hl0, h0]; simpa [U8] using hown) (World.grownBy.refl w _) (.inl rfl)
  | some ad =>
    obtain ⟨v', w', hr, r1, r2, r3⟩ := run_append_own_at (P := Try.prog) w base 22 o.type 5 i0 (.int .u8 0) 1 1 Try.underlying22 hii hz0 hz1 hz2 rfl (by decide) v n xs hown ad d.n d.c (U8 d.l) (by rw [U8_length, hd.len, Nat.mul_one]) (hd.cells ad hda) (U8_one _) (by unfold maxLen; omega) (by omega) hbase
    unfold Oper.wp
    simp [execOp, ho, resolve, invoke, builtin, hs, hx, hda, hr, Result.andThen]
    exact h v' w' r1 r2 r3
theorem below_nil {w w' : World} (hg : w.grownBy w' (nilB : Value).ownBlock) : Below w.heap.size w w' := ⟨hg.os, hg.tape, hg.output, hg.size, fun k hk => hg.block k hk (by simp [nilB, Value.ownBlock])⟩
theorem own_newF (w : World) (l : List Int) (hl : l.length ≤ maxLen) : (w.alloc (.cells (U8 l).toArray 5)).ownsRow w.heap.size 5 1 (.slice (some ⟨w.heap.size, 0, none⟩) l.length l.length) l.length (U8 l) :=
  ⟨by simp, .inr ⟨w.heap.size, l.length, (U8 l).toArray, rfl, Nat.le_refl _, heap_alloc_new w _, Nat.le_refl _, hl, by simp, by rw [Nat.mul_one]; exact List.take_of_length_le (by simp)⟩⟩
set_option maxHeartbeats 4000000
set_option maxRecDepth 100000
theorem rencode_no (k : Int) (a : Option Addr) (n c : Nat) (w : World) (hn : 262144 < n) :
    Calls Try.prog 56 #[.int .u8 k, .slice a n c] w fun e w' => e = .returned (.tuple #[.slice none 0 0, .bool false]) ∧ w' = w := by
  have hz : (262144 : Int) < (n : Int) := by omega
  go_enter Try.func56, Try.ntmps56
  go_wp2_with fail
  go_ret2
  exact ⟨rfl, rfl⟩
def Rw (B : Nat) (v : Value) (l : List Int) (w : World) : Prop := w.ownsRow B 5 1 v l.length (U8 l) ∧ IsB l
theorem Rw.form {B : Nat} {v : Value} {l : List Int} {w : World} (h : Rw B v l w) : ∃ a c, v = .slice a l.length c ∧ Sl.Ok w ⟨a, l.length, c, l⟩ ∧ ∀ x, a = some x → B ≤ x.block := by
  obtain ⟨s, hs, hok, hl, hn, ha⟩ := own_sl h.1 h.2
  obtain ⟨sa, sn, sc, sl⟩ := s
  simp only at hl hn ha
  subst hl hn
  exact ⟨sa, sc, hs, hok, ha⟩
theorem Rw.app {B : Nat} {v v' : Value} {l : List Int} {d : Sl} {w w' : World} (h : Rw B v l w) (hd : d.Ok w) (ho : w'.ownsRow B 5 1 v' (l.length + d.n) (U8 l ++ U8 d.l)) : Rw B v' (l ++ d.l) w' := by
  refine ⟨?_, h.2.append hd.isB⟩
  rw [List.length_append, hd.len, U8_append]
  exact ho
theorem Rw.later {B : Nat} {v : Value} {l : List Int} {w w' : World} (h : Rw B v l w) (hb : Below w.heap.size w w') : Rw B v l w' := ⟨own_later h.1 hb, h.2⟩
theorem Rw.far {B B' : Nat} {v u : Value} {l m : List Int} {w w' : World} (h : Rw B v l w) (hu : Rw B' u m w) (hg : w.grownBy w' u.ownBlock) (hlt : ∀ g, v.ownBlock = some g → g < B') : Rw B v l w' := by
  refine ⟨own_blk h.1 (fun g hg2 => hg.block g (h.1.lt g hg2).2 (fun e => ?_)), h.2⟩
  have h1 := hlt g hg2
  have h2 := (hu.1.lt g e.symm).1
  omega
theorem Rw.nil (B : Nat) (w : World) : Rw B (.slice none 0 0) [] w := ⟨World.ownsRow_nil _ _ _ _, fun x hx => by cases hx⟩
theorem Rw.bel {B : Nat} {v : Value} {l : List Int} {w0 w w' : World} (h : Rw B v l w) (hb : Below w0.heap.size w0 w) (hB : w0.heap.size ≤ B) (hg : w.grownBy w' v.ownBlock) : Below w0.heap.size w0 w' :=
  hb.grown hg hb.size (fun k hk => Nat.le_trans hB (h.1.lt k hk).1)
theorem rsum_rw {B : Nat} {v : Value} {l : List Int} {w : World} (h : Rw B v l w) : Calls Try.prog 73 #[v] w fun e w' => e = .returned (.int .u32 (crc l)) ∧ w' = w := by
  obtain ⟨a, c, rfl, hok, -⟩ := h.form
  exact rsum_any _ w hok
theorem wl_appR {w : World} {ops : Array Oper} {rest : List Oper} {o : Oper} {a : Act} {Q : Exit → Act → World → Prop} (hgd : o.guard = none) (s x : Operand)
    (ho : o.op = .call { callee := .builtin .append, args := #[s, x], argTypes := #[22, 22] }) {B : Nat} {v : Value} {l : List Int} (hs : a.eval s = v) (hR : Rw B v l w) (d : Sl) (hd : d.Ok w) (hx : a.eval x = .slice d.a d.n d.c)
    (hb : l.length + d.n ≤ 140737488355328) (hB : B ≤ w.heap.size) (h : ∀ v' w', Hid (Rw B v' (l ++ d.l) w') → Hid (w.grownBy w' v.ownBlock) → wpList Try.prog ops Q rest (a.put o.dst v') w') : wpList Try.prog ops Q (o :: rest) a w := by
  obtain ⟨i0, hii, hz0, hz1, hz2⟩ := info_parts Try.infoB
  exact wpList_append_sl hgd s x 22 ho B 5 i0 (.int .u8 0) Try.underlying22 hii hz0 hz1 hz2 rfl v l.length (U8 l) hs hR.1 d hd hx hb hB (fun v' w' h1 h2 => h v' w' (hide (hR.app hd (unhide h1))) h2)
theorem wl_appRR {w : World} {ops : Array Oper} {rest : List Oper} {o : Oper} {a : Act} {Q : Exit → Act → World → Prop} (hgd : o.guard = none) (s x : Operand)
    (ho : o.op = .call { callee := .builtin .append, args := #[s, x], argTypes := #[22, 22] }) {B B' : Nat} {v u : Value} {l m : List Int} (hs : a.eval s = v) (hR : Rw B v l w) (hu : Rw B' u m w) (hx : a.eval x = u)
    (hb : l.length + m.length ≤ 140737488355328) (hB : B ≤ w.heap.size) (h : ∀ v' w', Hid (Rw B v' (l ++ m) w') → Hid (w.grownBy w' v.ownBlock) → wpList Try.prog ops Q rest (a.put o.dst v') w') : wpList Try.prog ops Q (o :: rest) a w := by
  obtain ⟨b, c, rfl, hok, -⟩ := hu.form
  exact wl_appR hgd s x ho hs hR ⟨b, m.length, c, m⟩ hok hx hb hB h
theorem b4_at (x : Int) : leB 4 x = [(leB 4 x).getD 0 0, (leB 4 x).getD 1 0, (leB 4 x).getD 2 0, (leB 4 x).getD 3 0] := by
  simp [leB, List.range, List.range.loop]
theorem four_cells {W : World} {g : Nat} {x0 x1 x2 x3 : Int} (h : Arr W g 5 (U8 [x3, x2, x1, x0])) : W.cell? ⟨g, 3, none⟩ = some (.int .u8 x0) ∧ W.cell? ⟨g, 2, none⟩ = some (.int .u8 x1) ∧ W.cell? ⟨g, 1, none⟩ = some (.int .u8 x2) ∧ W.cell? ⟨g, 0, none⟩ = some (.int .u8 x3) :=
  ⟨by rw [h.cell]; rfl, by rw [h.cell]; rfl, by rw [h.cell]; rfl, by rw [h.cell]; rfl⟩
theorem own_typ8 {w : World} {B e sz n : Nat} {v : Value} {xs : List Value} (h : w.ownsRow B e sz v n xs) {g : Nat} (hg : v.ownBlock = some g) : B ≤ g := (h.lt g hg).1
theorem rencode_ok (k : Int) (d : Sl) (w : World) (hd : d.Ok w) (hk : 0 ≤ k ∧ k ≤ 255) (hn : d.n ≤ 262144) :
    Calls Try.prog 56 #[.int .u8 k, d.v] w fun e w' => ∃ v, e = .returned (.tuple #[v, .bool true]) ∧ Rw w.heap.size v (encL k d.l) w' ∧ Below w.heap.size w w' := by
  obtain ⟨a, n, c, l⟩ := d
  have hl : l.length = n := hd.len
  have hn' : n ≤ 262144 := hn
  simp only [Sl.v]
  have hz : decide ((262144 : Int) < (n : Int)) = false := decide_eq_false (by omega)
  have hcv : IntKind.u32.wrap (n : Int) = (n : Int) := by rw [IntKind.wrap_u32]; omega
  obtain ⟨T, hT⟩ : ∃ T, [k] ++ (leB 4 n).reverse ++ l = T := ⟨_, rfl⟩
  have hTT : T = tolL k l := by rw [← hT]; simp [tolL, hl]
  have hTl : T.length = n + 5 := by rw [hTT, tolL_length, hl]
  have hTB : IsB T := by rw [hTT]; exact tolL_isB hk hd.isB
  have hcb := crc_bd hTB
  have HD := hide hd
  have HL := hide hl
  have HK := hide hk
  have HT := hide hT
  have HTT := hide hTT
  have HTL := hide hTl
  clear hd hl hn hk hT hTT hTl hTB
  obtain ⟨q, hq⟩ : ∃ q, crc T = q := ⟨_, rfl⟩
  rw [hq] at hcb
  have hqb := b4_at q
  have HQ := hide hq
  clear hq
  go_enter Try.func56, Try.ntmps56
  go_wp2_with (first
    | (at_builtin
       refine wl_appR rfl (.tmp 12) (.tmp 14) rfl rfl (Rw.nil w.heap.size _) ⟨some ⟨w.heap.size, 0, none⟩, 1, 1, [k]⟩ (lit_ok w [k] (by intro x hx; simp at hx; subst hx; exact unhide HK) (by simp)) rfl (by simp) (by simp) ?_
       intro v1 w1 R1 hg1
       have B1 : Hid (Below w.heap.size w w1) := hide ((Rw.nil w.heap.size _).bel (below_alloc w _) (Nat.le_refl _) (unhide hg1))
       clear hg1)
    | (go_at_call 72
       have hguard := hcv
       clear hcv hguard
       refine (rfour_any (n : Int) _ (by omega)).mono ?_
       rintro e w2 ⟨rfl, hw2⟩
       have A2 : Hid (Sl.Ok w2 ⟨some ⟨w1.heap.size, 0, none⟩, 4, 4, (leB 4 n).reverse⟩) := hide (by rw [hw2]; exact lit_ok w1 (leB 4 n).reverse (leB_isB 4 _).reverse (by simp))
       have b2 : Below w1.heap.size w1 w2 := by rw [hw2]; exact below_alloc w1 _
       have R2 : Hid (Rw w.heap.size v1 [k] w2) := hide ((unhide R1).later b2)
       have B2 : Hid (Below w.heap.size w w2) := hide (bel_then (unhide B1) (unhide B1).size b2)
       clear hw2 b2 R1 B1)
    | (at_builtin
       refine wl_appR rfl (.tmp 16) (.tmp 20) rfl rfl (unhide R2) ⟨some ⟨w1.heap.size, 0, none⟩, 4, 4, (leB 4 n).reverse⟩ (unhide A2) rfl (by simp) (unhide B2).size ?_
       intro v3 w3 R3 hg3
       have B3 : Hid (Below w.heap.size w w3) := hide ((unhide R2).bel (unhide B2) (Nat.le_refl _) (unhide hg3))
       clear hg3 R2 A2 B2)
    | (at_builtin
       refine wl_appR rfl (.tmp 22) (.tmp 23) rfl rfl (unhide R3) ⟨a, n, c, l⟩ ((unhide HD).later (unhide B3)) rfl (by simp; omega) (unhide B3).size ?_
       intro v4 w4 R4 hg4
       have R4' : Hid (Rw w.heap.size v4 T w4) := hide (by rw [← unhide HT]; exact unhide R4)
       have B4 : Hid (Below w.heap.size w w4) := hide ((unhide R3).bel (unhide B3) (Nat.le_refl _) (unhide hg4))
       clear hg4 R3 B3 R4)
    | (at_builtin
       refine wl_appR rfl (.tmp 25) (.tmp 26) rfl rfl (Rw.nil w4.heap.size _) ⟨some ⟨w4.heap.size, 0, none⟩, 1, 1, [165]⟩ (lit_ok w4 [165] (by intro x hx; simp at hx; subst hx; omega) (by simp)) rfl (by simp) (by simp) ?_
       intro v5 w5 R5 hg5
       have b5 := (Rw.nil w4.heap.size _).bel (below_alloc w4 _) (Nat.le_refl _) (unhide hg5)
       have T5 : Hid (Rw w.heap.size v4 T w5) := hide ((unhide R4').later b5)
       have B5 : Hid (Below w.heap.size w w5) := hide (bel_then (unhide B4) (unhide B4).size b5)
       have hs4 : Hid (w4.heap.size ≤ w5.heap.size) := hide b5.size
       have ht4 : Hid (∀ g, v4.ownBlock = some g → g < w4.heap.size) := hide (fun g hg => ((unhide R4').1.lt g hg).2)
       have hw4 : Hid (w.heap.size ≤ w4.heap.size) := hide (unhide B4).size
       clear hg5 b5 R4' B4)
    | (at_builtin
       refine wl_appRR rfl (.tmp 28) (.tmp 29) rfl rfl (unhide R5) (unhide T5) rfl (by have := unhide HTL; simp; omega) (unhide hs4) ?_
       intro v6 w6 R6 hg6
       have T6 : Hid (Rw w.heap.size v4 T w6) := hide ((unhide T5).far (unhide R5) (unhide hg6) (unhide ht4))
       have B6 : Hid (Below w.heap.size w w6) := hide ((unhide R5).bel (unhide B5) (unhide hw4) (unhide hg6))
       clear hg6 T5 B5 R5 ht4)
    | (go_at_call 73
       refine (rsum_rw (unhide T6)).mono ?_
       rintro e w7 ⟨rfl, hw7⟩
       obtain rfl := hw7.symm
       rw [unhide HQ]
       clear T6)
    | (go_at_call 72
       refine (rfour_any q _ hcb).mono ?_
       rintro e w8 ⟨rfl, hw8⟩
       have A8 : Hid (Arr w8 w6.heap.size 5 (U8 (leB 4 q).reverse)) := hide (by rw [hw8]; exact Arr.new w6 _ _)
       have b8 : Below w6.heap.size w6 w8 := by rw [hw8]; exact below_alloc w6 _
       have R8 : Hid (Rw w4.heap.size v6 ([165] ++ T) w8) := hide ((unhide R6).later b8)
       have B8 : Hid (Below w.heap.size w w8) := hide (bel_then (unhide B6) (unhide B6).size b8)
       have hg6s : Hid (∀ g, v6.ownBlock = some g → g < w6.heap.size) := hide (fun g hg => ((unhide R6).1.lt g hg).2)
       have hs8 : Hid (w4.heap.size ≤ w8.heap.size) := hide (by rcases (unhide R6).1.2 with ⟨h, h0⟩ | ⟨g, c, cur, h, h1, h2, -⟩
                                                                · simp at h0
                                                                · have := (Array.getElem?_eq_some_iff.1 h2).1; have := b8.size; omega)
       clear hw8 b8 R6 B6)
    | fail)
  obtain ⟨g4, hg4⟩ : ∃ g, g = w6.heap.size := ⟨_, rfl⟩
  obtain ⟨x0, hx0⟩ : ∃ x, x = (leB 4 q).getD 0 0 := ⟨_, rfl⟩
  obtain ⟨x1, hx1⟩ : ∃ x, x = (leB 4 q).getD 1 0 := ⟨_, rfl⟩
  obtain ⟨x2, hx2⟩ : ∃ x, x = (leB 4 q).getD 2 0 := ⟨_, rfl⟩
  obtain ⟨x3, hx3⟩ : ∃ x, x = (leB 4 q).getD 3 0 := ⟨_, rfl⟩
  rw [← hx0, ← hx1, ← hx2, ← hx3] at hqb
  have A9 : Hid (Arr w8 g4 5 (U8 [x3, x2, x1, x0])) := hide (by have h := unhide A8; rw [hqb, ← hg4] at h; exact h)
  have HQB := hide hqb
  have hv6 : Hid (∀ g, v6.ownBlock = some g → g ≠ g4) := hide (fun g hg e => by
    have h1 := own_typ8 (unhide R8).1 hg
    have h2 := unhide hg6s g hg
    omega)
  rw [← hg4]
  clear hx0 hx1 hx2 hx3 hqb A8 hg4
  refine wp_region_noPanic ?_
  refine wp_region_held_drew (S := fun w' => w'.cell? ⟨g4, 3, none⟩ = some (.int .u8 x0) ∧ w'.cell? ⟨g4, 2, none⟩ = some (.int .u8 x1) ∧ w'.cell? ⟨g4, 1, none⟩ = some (.int .u8 x2) ∧ w'.cell? ⟨g4, 0, none⟩ = some (.int .u8 x3)) (by kernel_rfl) (four_cells (W := w8.drew) (unhide A9)) (fun hHeld => ?_)
  obtain ⟨W3, hW3⟩ : ∃ W3, W3 = w8.drew := ⟨_, rfl⟩
  rw [← hW3] at hHeld ⊢
  have b3 : Below w8.heap.size w8 W3 := by rw [hW3]; exact below_drewN (Below.refl _ _) 1
  have A3 : Hid (Arr W3 g4 5 (U8 [x3, x2, x1, x0])) := hide ((unhide A9).later b3)
  have R3 : Hid (Rw w4.heap.size v6 ([165] ++ T) W3) := hide ((unhide R8).later b3)
  have B3 : Hid (Below w.heap.size w W3) := hide (bel_then (unhide B8) (unhide B8).size b3)
  have hs3 : Hid (w4.heap.size ≤ W3.heap.size) := hide (Nat.le_trans (unhide hs8) b3.size)
  clear hW3 b3 A9 R8 B8
  refine wpAnyH_take (i := 0) (v := v6) rfl (by kernel_rfl) (by kernel_rfl) (by kernel_rfl) (fun _ _ _ h => h) (Or.inl ⟨by rfl, fun w hSw => by obtain ⟨s3, s2, s1, s0⟩ := hSw; go_simp⟩) hHeld ?_
  try simp [Act.put]
  refine wpAnyH_take (i := 1) (v := .slice (some ⟨g4, 0, none⟩) 4 4) rfl (by kernel_rfl) (by kernel_rfl) (by kernel_rfl) (fun _ _ _ h => h) (Or.inl ⟨by rfl, fun w hSw => by obtain ⟨s3, s2, s1, s0⟩ := hSw; go_simp⟩) hHeld ?_
  try simp [Act.put]
  refine wpAnyH_take (i := 2) (v := .pointer (some ⟨g4, 3, none⟩)) rfl (by kernel_rfl) (by kernel_rfl) (by kernel_rfl) (fun _ _ _ h => h) (Or.inl ⟨by rfl, fun w hSw => by obtain ⟨s3, s2, s1, s0⟩ := hSw; go_simp⟩) hHeld ?_
  try simp [Act.put]
  refine wpAnyH_take (i := 3) (v := .int .u8 x0) rfl (by kernel_rfl) (by kernel_rfl) (by kernel_rfl) (fun _ _ _ h => h) (Or.inl ⟨by rfl, fun w hSw => by obtain ⟨s3, s2, s1, s0⟩ := hSw; go_simp⟩) hHeld ?_
  try simp [Act.put]
  refine wpAnyH_take (i := 4) (v := .slice (some ⟨g4, 0, none⟩) 4 4) rfl (by kernel_rfl) (by kernel_rfl) (by kernel_rfl) (fun _ _ _ h => h) (Or.inl ⟨by rfl, fun w hSw => by obtain ⟨s3, s2, s1, s0⟩ := hSw; go_simp⟩) hHeld ?_
  try simp [Act.put]
  refine wpAnyH_take (i := 5) (v := .pointer (some ⟨g4, 2, none⟩)) rfl (by kernel_rfl) (by kernel_rfl) (by kernel_rfl) (fun _ _ _ h => h) (Or.inl ⟨by rfl, fun w hSw => by obtain ⟨s3, s2, s1, s0⟩ := hSw; go_simp⟩) hHeld ?_
  try simp [Act.put]
  refine wpAnyH_take (i := 6) (v := .int .u8 x1) rfl (by kernel_rfl) (by kernel_rfl) (by kernel_rfl) (fun _ _ _ h => h) (Or.inl ⟨by rfl, fun w hSw => by obtain ⟨s3, s2, s1, s0⟩ := hSw; go_simp⟩) hHeld ?_
  try simp [Act.put]
  refine wpAnyH_take (i := 7) (v := .slice (some ⟨g4, 0, none⟩) 4 4) rfl (by kernel_rfl) (by kernel_rfl) (by kernel_rfl) (fun _ _ _ h => h) (Or.inl ⟨by rfl, fun w hSw => by obtain ⟨s3, s2, s1, s0⟩ := hSw; go_simp⟩) hHeld ?_
  try simp [Act.put]
  refine wpAnyH_take (i := 8) (v := .pointer (some ⟨g4, 1, none⟩)) rfl (by kernel_rfl) (by kernel_rfl) (by kernel_rfl) (fun _ _ _ h => h) (Or.inl ⟨by rfl, fun w hSw => by obtain ⟨s3, s2, s1, s0⟩ := hSw; go_simp⟩) hHeld ?_
  try simp [Act.put]
  refine wpAnyH_take (i := 9) (v := .int .u8 x2) rfl (by kernel_rfl) (by kernel_rfl) (by kernel_rfl) (fun _ _ _ h => h) (Or.inl ⟨by rfl, fun w hSw => by obtain ⟨s3, s2, s1, s0⟩ := hSw; go_simp⟩) hHeld ?_
  try simp [Act.put]
  refine wpAnyH_take (i := 10) (v := .slice (some ⟨g4, 0, none⟩) 4 4) rfl (by kernel_rfl) (by kernel_rfl) (by kernel_rfl) (fun _ _ _ h => h) (Or.inl ⟨by rfl, fun w hSw => by obtain ⟨s3, s2, s1, s0⟩ := hSw; go_simp⟩) hHeld ?_
  try simp [Act.put]
  refine wpAnyH_take (i := 11) (v := .pointer (some ⟨g4, 0, none⟩)) rfl (by kernel_rfl) (by kernel_rfl) (by kernel_rfl) (fun _ _ _ h => h) (Or.inl ⟨by rfl, fun w hSw => by obtain ⟨s3, s2, s1, s0⟩ := hSw; go_simp⟩) hHeld ?_
  try simp [Act.put]
  refine wpAnyH_take (i := 12) (v := .int .u8 x3) rfl (by kernel_rfl) (by kernel_rfl) (by kernel_rfl) (fun _ _ _ h => h) (Or.inl ⟨by rfl, fun w hSw => by obtain ⟨s3, s2, s1, s0⟩ := hSw; go_simp⟩) hHeld ?_
  try simp [Act.put]
  refine rd1 13 rfl fun kQ hkQ => ?_
  refine dw (by kernel_rfl) ?_
  go_simp
  obtain ⟨W4, hW4⟩ : ∃ W4, W4 = W3.alloc (.cells #[.int .u8 x0, .int .u8 x1, .int .u8 x2, .int .u8 x3] 5) := ⟨_, rfl⟩
  rw [← hW4]
  have b4 : Below W3.heap.size W3 W4 := by rw [hW4]; exact below_alloc W3 _
  have ok4 : Hid (Sl.Ok W4 ⟨some ⟨W3.heap.size, 0, none⟩, 4, 4, [x0, x1, x2, x3]⟩) := hide (by rw [hW4]; exact lit_ok W3 [x0, x1, x2, x3] (by rw [← unhide HQB]; exact leB_isB 4 _) (by simp))
  have A4 : Hid (Arr W4 g4 5 (U8 [x3, x2, x1, x0])) := hide ((unhide A3).later b4)
  have R4 : Hid (Rw w4.heap.size v6 ([165] ++ T) W4) := hide ((unhide R3).later b4)
  have B4 : Hid (Below w.heap.size w W4) := hide (bel_then (unhide B3) (unhide B3).size b4)
  have hs4' : Hid (w4.heap.size ≤ W4.heap.size) := hide (Nat.le_trans (unhide hs3) b4.size)
  clear hW4 b4 A3 R3 B3 hHeld
  refine hkQ.out _ _ (four_cells (unhide A4)) (fun hHeld => ?_)
  clear hkQ kQ
  try simp [Act.put]
  refine rd1 14 rfl fun kQ hkQ => ?_
  refine dw (by kernel_rfl) (op_appB (.tmp 34) (.tmp 47) rfl (base := w4.heap.size) (n := ([165] ++ T).length) (v := v6) (xs := U8 ([165] ++ T)) rfl (unhide R4).1 ⟨some ⟨W3.heap.size, 0, none⟩, 4, 4, [x0, x1, x2, x3]⟩ (unhide ok4) rfl (by have := unhide HTL; simp; omega) (unhide hs4') ?_)
  intro v9 w9 hO9 hg9 _
  have R9 : Hid (Rw w4.heap.size v9 ([165] ++ T ++ [x0, x1, x2, x3]) w9) := hide ((unhide R4).app (unhide ok4) hO9)
  have B9 : Hid (Below w.heap.size w w9) := hide ((unhide R4).bel (unhide B4) (unhide hw4) hg9)
  have A9 : Arr w9 g4 5 (U8 [x3, x2, x1, x0]) := (hg9.block g4 (unhide A4).lt (fun e => unhide hv6 g4 e.symm rfl)).trans (unhide A4)
  clear hO9 hg9 hHeld
  refine hkQ.out _ _ (four_cells A9) (fun hHeld => ?_)
  clear hkQ kQ A9
  try simp [Act.put]
  refine wpAnyH_take (i := 15) (v := v9) rfl (by kernel_rfl) (by kernel_rfl) (by kernel_rfl) (fun _ _ _ h => h) (Or.inl ⟨by rfl, fun w hSw => by obtain ⟨s3, s2, s1, s0⟩ := hSw; go_simp⟩) hHeld ?_
  try simp [Act.put]
  refine wpAnyH_done (by kernel_rfl) ?_ _
  unfold NoPanic
  clear hHeld
  go_wp2
  go_ret2
  refine ⟨v9, rfl, ?_, unhide B9⟩
  have h := unhide R9
  rw [← unhide HQB, ← unhide HQ] at h
  have e : [165] ++ T ++ leB 4 (crc T) = encL k l := by rw [unhide HTT]; simp [encL]
  rw [e] at h
  exact ⟨own_low h.1 (unhide hw4), h.2⟩
end Go.Proofs.Ytppmgfkpfamabaa
