import Derived.Test.YtdcaojiiaocnaaaGreatDoorQShhW
import Derived.Test.YtdcaojiiaocnaaaGreatDoorQGbiZ
import Derived.Test.YtdcaojiiaocnaaaGreatDoorQBcM
set_option linter.unusedSimpArgs false
set_option linter.unusedVariables false
namespace Go.Proofs.YtdcaojiiaocnaaaGreatDoor
open Go.RowKit

/-! A list of bytes that a call answered, each in memory of its own: all among the rows. -/
section
variable {α : Type} {f : α → List Value} {sz : Nat} {e : TypeId}
theorem row_of25 {B : Nat} {w' : World} {s : Sx α} {l : List α} (hl : l.length = s.n) (hO : w'.ownsRow B e sz s.v l.length (l.flatMap f)) :
    ∃ R, RowG f sz e s l R ∧ (∀ p ∈ R, Arr w' p.1 p.2.1 p.2.2 ∧ B ≤ p.1 ∧ p.2.1 = e ∧ s.v.ownBlock = some p.1) ∧ (R.map (·.1)).Nodup := by
  obtain ⟨sa, sn, sc, sx⟩ := s
  simp only [Sx.v] at hO hl ⊢
  rcases hO.2 with ⟨hv, h0⟩ | ⟨g, cap, cur, hv, hbg, hg, hle, hmx, hsz, ht⟩
  · cases hv
    exact ⟨[], ⟨hl, .inl ⟨rfl, rfl, rfl, rfl⟩⟩, (fun p hp => by cases hp), List.nodup_nil⟩
  · simp only [Value.slice.injEq] at hv
    obtain ⟨rfl, hsn, rfl⟩ := hv
    have hcur : cur.toList = l.flatMap f ++ cur.toList.drop (l.length * sz) := by
      conv => lhs; rw [← List.take_append_drop (l.length * sz) cur.toList]
      congr 1
    have hA : Arr w' g e (l.flatMap f ++ cur.toList.drop (l.length * sz)) := by
      unfold Arr
      rw [← hcur]; simpa using hg
    refine ⟨[(g, e, l.flatMap f ++ cur.toList.drop (l.length * sz))], ⟨hl, .inr ⟨g, _, rfl, by simp only; omega, hmx, by rw [← hcur]; simpa using hsz, rfl⟩⟩, fun p hp => ?_, by simp⟩
    obtain rfl : p = _ := List.mem_singleton.1 hp
    exact ⟨hA, hbg, rfl, rfl⟩
end
/-- what a call made, among the rows: many -/
theorem Hs17.ownN {w0 w w' : World} {rows new : List Row} {K : World → Prop} (hS : Hs17 w0 rows K w) (hb : Below w.heap.size w w') (ha : ∀ p ∈ new, Arr w' p.1 p.2.1 p.2.2) (hg : ∀ p ∈ new, w.heap.size ≤ p.1) (hn : (new.map (·.1)).Nodup) : Hs17 w0 (rows ++ new) K w' := by
  have h' := hS.later hb
  refine ⟨?_, fun p hp => ?_, fun p hp => ?_, h'.bel, fun w'' q1 q2 => ?_⟩
  · rw [List.map_append, List.nodup_append]
    refine ⟨h'.nd, hn, fun a h1 b h2 e => ?_⟩
    obtain ⟨p, hp, rfl⟩ := List.mem_map.1 h1
    obtain ⟨q, hq, rfl⟩ := List.mem_map.1 h2
    have h3 := (hS.arr p hp).lt
    have h4 := hg q hq
    omega
  · rcases List.mem_append.1 hp with hp | hp
    · exact h'.arr p hp
    · exact ha p hp
  · rcases List.mem_append.1 hp with hp | hp
    · exact h'.old p hp
    · exact Nat.le_trans hS.bel.size (hg p hp)
  · refine hS.keep w'' (Nat.le_trans hb.size q1) (fun k hk hp => ?_)
    refine (q2 k (Nat.lt_of_lt_of_le hk hb.size) (fun p hp' => ?_)).trans (hb.block k hk)
    rcases List.mem_append.1 hp' with hp' | hp'
    · exact hp p hp'
    · have := hg p hp'; omega
/-- each of them a row of its own -/
def RwS : List (Sx Int) → List (List Row) → Prop
  | [], [] => True
  | s :: ss, R :: Rs => RowG uC 1 5 s s.xs R ∧ RwS ss Rs
  | _, _ => False
theorem rows_of25 {B : Nat} {w' : World} : ∀ (ss : List (Sx Int)), (∀ s ∈ ss, Ou w' B s.v s.xs) → ss.Pairwise (fun s s' => ∀ k, s.v.ownBlock = some k → s'.v.ownBlock ≠ some k) →
    ∃ Rs, RwS ss Rs ∧ (∀ p ∈ Rs.flatten, Arr w' p.1 p.2.1 p.2.2 ∧ B ≤ p.1 ∧ p.2.1 = 5 ∧ ∃ s ∈ ss, s.v.ownBlock = some p.1) ∧ (Rs.flatten.map (·.1)).Nodup
  | [], _, _ => ⟨[], trivial, (fun p hp => by cases hp), List.nodup_nil⟩
  | s :: ss, ho, ha => by
    have ha' := List.pairwise_cons.1 ha
    obtain ⟨Rs, h1, h2, h3⟩ := rows_of25 ss (fun x hx => ho x (List.mem_cons_of_mem _ hx)) ha'.2
    have hs := ho s (by simp)
    obtain ⟨R, r1, r2, r3⟩ := row_of25 (f := uC) (s := s) (Ou.ok hs).len hs
    refine ⟨R :: Rs, ⟨r1, h1⟩, fun p hp => ?_, ?_⟩
    · rw [List.flatten_cons] at hp
      rcases List.mem_append.1 hp with hp | hp
      · obtain ⟨q1, q2, q3, q4⟩ := r2 p hp
        exact ⟨q1, q2, q3, s, by simp, q4⟩
      · obtain ⟨q1, q2, q3, x, hx, q4⟩ := h2 p hp
        exact ⟨q1, q2, q3, x, List.mem_cons_of_mem _ hx, q4⟩
    · rw [List.flatten_cons, List.map_append, List.nodup_append]
      refine ⟨r3, h3, fun a m1 b m2 e => ?_⟩
      obtain ⟨p, hp, rfl⟩ := List.mem_map.1 m1
      obtain ⟨q, hq, rfl⟩ := List.mem_map.1 m2
      obtain ⟨x, hx, q4⟩ := (h2 q hq).2.2.2
      exact ha'.1 x hx _ (r2 p hp).2.2.2 (by rw [q4, e])
theorem Hs17.ownB {w0 w w' : World} {rows : List Row} {K : World → Prop} {v : Value} {ss : List (Sx Int)} (hS : Hs17 w0 rows K w) (hb : Below w.heap.size w w') (h : Osb w' w.heap.size v ss) :
    ∃ (S : Sx (Sx Int)) (RL : List Row) (Rs : List (List Row)), v = S.v ∧ RowG sV 1 28 S ss RL ∧ RwS ss Rs ∧ Hs17 w0 (rows ++ (RL ++ Rs.flatten)) K w' := by
  have ho := h.own
  have e : ss.map (·.v) = ss.flatMap sV := by
    clear h hS hb ho
    induction ss with
    | nil => rfl
    | cons s r ih => rw [List.flatMap_cons, ← ih]; rfl
  rw [e] at ho
  obtain ⟨S, rfl, hSx, hok, -⟩ := own_sx ho (fun z _ => sV_len z)
  obtain ⟨RL, r1, r2, r3⟩ := row_of25 (f := sV) (s := S) (l := ss) (by rw [← hSx]; exact hok.len) ho
  obtain ⟨Rs, h1, h2, h3⟩ := rows_of25 ss h.el h.ap
  refine ⟨S, RL, Rs, rfl, r1, h1, hS.ownN hb (fun p hp => ?_) (fun p hp => ?_) ?_⟩
  · rcases List.mem_append.1 hp with hp | hp
    · exact (r2 p hp).1
    · exact (h2 p hp).1
  · rcases List.mem_append.1 hp with hp | hp
    · exact (r2 p hp).2.1
    · exact (h2 p hp).2.1
  · rw [List.map_append, List.nodup_append]
    refine ⟨r3, h3, fun a m1 b m2 e => ?_⟩
    obtain ⟨p, hp, rfl⟩ := List.mem_map.1 m1
    obtain ⟨q, hq, rfl⟩ := List.mem_map.1 m2
    have hA := (r2 p hp).1
    have hB := (h2 q hq).1
    rw [(r2 p hp).2.2.1] at hA
    rw [(h2 q hq).2.2.1, ← e] at hB
    unfold Arr at hA hB
    rw [hA] at hB
    have h9 := Option.some.inj hB
    simp only [Obj.cells.injEq] at h9
    exact absurd h9.2.1 (by decide)

theorem sx_one25 {w0 : World} {g : Nat} {z : Int} {rows : List Row} {K : World → Prop} {w : World} (hS : Hs17 w0 ((g, 5, uC z) :: rows) K w) : Su w ⟨some ⟨g, 0, none⟩, 1, 1, [z]⟩ := by
  have hA := hS.get 0 rfl
  refine ⟨rfl, Nat.le_refl _, by show 1 ≤ maxLen; unfold maxLen; omega, (fun h => by cases h), fun _ => ⟨g, 0, rfl, hA.lt, fun i x hi j v hv => ?_⟩⟩
  have hc := flat_at (f := uC) (sz := 1) (xs := [z]) (fun x _ => uC_len x) hi j v hv
  rw [Nat.zero_add, hA.cell]
  exact hc
/-- the bytes in memory of their own, and 70 marks -/
theorem roomy25 (w0 : World) (rows : List Row) (K : World → Prop) (y : Sx Int) (w : World) (hS : Hs17 w0 rows K w) (hy : Su w y) (hn : y.n ≤ 1048576) :
    Calls Tryz.prog 8 #[y.v] w fun e w' => ∃ q : Sx Int, e = .returned q.v ∧ q.xs = y.xs ++ List.replicate 70 90 ∧ ∃ R, RowG uC 1 5 q q.xs R ∧ Hs17 w0 (rows ++ R) K w' := by
  obtain ⟨ya, yn, yc, yx⟩ := y
  have hyl : yx.length = yn := hy.len
  have hn' : yn ≤ 1048576 := hn
  simp only [Sx.v] at hn ⊢
  have hR : RowG uC 1 5 (⟨none, 0, 0, []⟩ : Sx Int) [] [] := ⟨rfl, .inl ⟨rfl, rfl, rfl, rfl⟩⟩
  obtain ⟨⟨ra, rn, rc, rx⟩, hq⟩ : ∃ q : Sx Int, q = ⟨none, 0, 0, []⟩ := ⟨_, rfl⟩
  obtain ⟨R, hRe⟩ : ∃ R : List Row, R = [] := ⟨_, rfl⟩
  rw [← hq, ← hRe] at hR
  have hrx : rx = [] := congrArg Sx.xs hq
  have hra : ra = none := congrArg Sx.a hq
  have hrn : rn = 0 := congrArg Sx.n hq
  have hrc : rc = 0 := congrArg Sx.c hq
  rw [← hrx] at hR
  have hS0 : Hs17 w0 (rows ++ R) K w := by rw [hRe, List.append_nil]; exact hS
  replace hS := hS0
  clear hS0 hq
  go_enter Tryz.func8, Tryz.ntmps8
  go_upto_region 2 with fail
  refine wp_region_lit ?_
  refine wl (by kernel_rfl) fun kQ hkQ => ?_
  go_simp
  refine hkQ _ _ ?_
  clear hkQ kQ
  refine wl (by kernel_rfl) fun kQ hkQ => ?_
  go_simp
  refine hkQ _ _ ?_
  clear hkQ kQ
  have hs5 : (Value.slice none 0 0) = .slice ra rn rc := by rw [hra, hrn, hrc]
  refine wl_appu (by kernel_rfl) (.tmp 5) (.tmp 6) rfl hs5 (RowG.own (f := uC) (rows := rows) hR (fun x _ => uC_len x) hS) ⟨ya, yn, yc, yx⟩ hy rfl (by show (rx.length + yn) * 1 ≤ _; rw [hrx]; show (0 + yn) * 1 ≤ _; omega) hS.bel.size ?_
  intro v' wN hO' hg' hov'
  obtain ⟨z', RN, rfl, hR', hS'⟩ := Hs17.regrow (f := uC) (rows := rows) (s := ⟨ra, rn, rc, rx⟩) hS hR (fun x _ => uC_len x) hg' hO' hov'
  replace hS := hS'
  replace hR := hR'
  clear hS' hR' hO' hg' hov'
  obtain ⟨va, vn, vc, vx⟩ := z'
  simp only [Sx.v]
  have HV : Hid (rx ++ yx = yx) := hide (by rw [hrx]; rfl)
  clear hs5 hra hrn hrc hRe
  refine wl (by kernel_rfl) fun kQ hkQ => ?_
  go_simp
  refine hkQ _ _ ?_
  clear hkQ kQ
  refine wpList_nil ?_
  go_wp2_with fail
  go_loopw [3, 4] (fun vl vi wr => ∃ (k : Nat) (q : Sx Int) (R : List Row), k ≤ 70 ∧ vl = q.v ∧ vi = .int .i64 k ∧ Hid (q.xs = yx ++ List.replicate k 90) ∧ RowG uC 1 5 q q.xs R ∧ Hs17 w0 (rows ++ R) K wr) (fun _ vi _ => 70 - (intOf vi).toNat)
  case atStart => exact ⟨0, ⟨va, vn, vc, yx⟩, RN, by omega, rfl, rfl, hide (List.append_nil _).symm, by have h := hR; rw [unhide HV] at h; exact ⟨h.1, h.2⟩, hS⟩
  case round =>
    clear hS hR HV hrx
    obtain ⟨k, q, R, hk, rfl, rfl, HQ2, hR, hS⟩ := hrel
    obtain ⟨ra, rn, rc, rx⟩ := q
    simp only [Sx.v] at HQ2 hR hS ⊢
    have hpl : rx.length ≤ yn + 70 := by rw [unhide HQ2, List.length_append, List.length_replicate]; omega
    by_cases hlt : k < 70
    · have hkz : (k : Int) < 70 := by omega
      go_upto_region 6 with fail
      clear hkz
      refine wp_region_lit ?_
      refine wl (by kernel_rfl) fun kQ hkQ => ?_
      go_simp
      refine hkQ _ _ ?_
      clear hkQ kQ
      refine wl_bs1u (by kernel_rfl) (.const (.int .u8 90)) rfl 90 rfl hS ?_
      clear hS
      intro g91 w91 hS
      simp [Act.put]
      refine wl_appu (by kernel_rfl) (.tmp 12) (.tmp 13) rfl rfl (RowG.own (f := uC) (rows := ((g91, 5, (uC 90)) :: rows)) hR (fun x _ => uC_len x) hS) ⟨some ⟨g91, 0, none⟩, 1, 1, [90]⟩ (sx_one25 hS) rfl (by show (rx.length + 1) * 1 ≤ _; omega) hS.bel.size ?_
      intro v' wN hO' hg' hov'
      obtain ⟨z', RN, rfl, hR', hS'⟩ := Hs17.regrow (f := uC) (rows := ((g91, 5, (uC 90)) :: rows)) (s := ⟨ra, rn, rc, rx⟩) hS hR (fun x _ => uC_len x) hg' hO' hov'
      replace hS := hS'
      replace hR := hR'
      clear hS' hR' hO' hg' hov'
      obtain ⟨va, vn, vc, vx⟩ := z'
      simp only [Sx.v]
      replace hS : Hs17 w0 (rows ++ RN) K wN := hS.sub ((List.Sublist.refl _).cons _)
      refine wl (by kernel_rfl) fun kQ hkQ => ?_
      go_simp
      refine hkQ _ _ ?_
      clear hkQ kQ
      refine wpList_nil ?_
      go_wp2_with fail
      go_roundw
      case rel => exact ⟨k + 1, ⟨va, vn, vc, rx ++ [90]⟩, _, by omega, rfl, by go_num, hide (by rw [unhide HQ2, List.append_assoc, List.replicate_succ']), ⟨hR.1, hR.2⟩, hS⟩
      case measure => simp [intOf]; omega
    · obtain rfl : k = 70 := by omega
      go_wp2_with fail
      go_ret
      exact ⟨⟨ra, rn, rc, rx⟩, rfl, unhide HQ2, R, hR, hS⟩

/-- a cell of a row of one's own, read and written -/
theorem RowG.getput25 {s : Sx Int} {l : List Int} {R : List Row} (h : RowG uC 1 5 s l R) {i : Nat} (hi : i < s.n) (x : Int) :
    ∃ g c c', s.a = some ⟨g, 0, none⟩ ∧ R = [(g, 5, c)] ∧ At c i [.int .u8 (l.getD i 0)] ∧ Pt c i [.int .u8 x] c' ∧ RowG uC 1 5 s (l.set i x) [(g, 5, c')] := by
  obtain ⟨hl, h⟩ := h
  rcases h with ⟨-, h0, -, -⟩ | ⟨g, sp, h1, h2, h3, h4, rfl⟩
  · omega
  · have hil : i < l.length := by omega
    have p1 := pt_flat (f := uC) (sz := 1) (fun y _ => uC_len y) hil (x := l.getD i 0) rfl sp
    have p2 := pt_flat (f := uC) (sz := 1) (fun y _ => uC_len y) hil (x := x) rfl sp
    have e : l.set i (l.getD i 0) = l := by
      apply List.ext_getElem
      · simp
      · intro j q1 q2
        rw [List.getElem_set]; split
        · rename_i e; subst e; simp [hil]
        · rfl
    rw [e, Nat.mul_one] at p1
    rw [Nat.mul_one] at p2
    refine ⟨g, _, _, h1, rfl, p1.at_, p2, by rw [List.length_set]; exact hl, .inr ⟨g, sp, h1, h2, h3, ?_, rfl⟩⟩
    rw [← h4, List.length_append, List.length_append, flatG_len (fun y _ => uC_len y), flatG_len (fun y _ => uC_len y), List.length_set]
theorem bits_u8 (a b : Int) : 0 ≤ Go.bits .xor .u8 a b ∧ Go.bits .xor .u8 a b ≤ 255 := by
  unfold Go.bits; simp [IntKind.wrap, IntKind.bits, IntKind.signed]; omega
set_option maxHeartbeats 4000000 in
set_option maxRecDepth 100000 in
theorem turn25 (w0 : World) (rows : List Row) (K : World → Prop) (q : Sx Int) (l : List Int) (R : List Row) (w : World) (g i n d : Nat) (hR : RowG uC 1 5 q l R) (hB : IsB l) (hS : Hs17 w0 (R ++ rows) K w) (hq : i + n ≤ q.n) (hqa : q.a = some ⟨g, 0, none⟩) (hm : q.n ≤ 1048576) :
    Calls Tryz.prog 14 #[.slice (some ⟨g, i, none⟩) n d] w fun e w' => e = .returned (.tuple #[]) ∧ ∃ l' R', l'.length = l.length ∧ IsB l' ∧ RowG uC 1 5 q l' R' ∧ Hs17 w0 (R' ++ rows) K w' := by
  obtain ⟨qa, qn, qc, qx⟩ := q
  have hqa' : qa = some ⟨g, 0, none⟩ := hqa
  subst hqa'
  have hq' : i + n ≤ qn := hq
  have hm' : qn ≤ 1048576 := hm
  have hl0 : l.length = qn := hR.1
  clear hq hm hqa
  go_enter Tryz.func14, Tryz.ntmps14
  go_wp2_with fail
  go_loopw [2] (fun vi wr => ∃ (k : Nat) (l' : List Int) (R : List Row), k ≤ n ∧ vi = .int .i64 k ∧ Hid (l'.length = l.length ∧ IsB l') ∧ RowG uC 1 5 ⟨some ⟨g, 0, none⟩, qn, qc, qx⟩ l' R ∧ Hs17 w0 (R ++ rows) K wr) (fun vi _ => n - (intOf vi).toNat)
  case atStart => exact ⟨0, l, R, by omega, rfl, hide ⟨rfl, hB⟩, hR, hS⟩
  case round =>
    clear hS hR
    obtain ⟨k, l', R, hk, rfl, HB, hR, hS⟩ := hrel
    by_cases hlt : k < n
    · have hkz : (k : Int) < (n : Int) := by omega
      have hik : i + k < qn := by omega
      obtain ⟨z, hz⟩ : ∃ z, l'.getD (i + k) 0 = z := ⟨_, rfl⟩
      have hzb : 0 ≤ z ∧ z ≤ 255 := by rw [← hz]; exact (by
        have hj : i + k < l'.length := by rw [(unhide HB).1, hl0]; exact hik
        rw [List.getD_eq_getElem?_getD, List.getElem?_eq_getElem hj]
        exact (unhide HB).2 _ (List.getElem_mem hj))
      go_upto_region 3 with fail
      refine wp_region_lit ?_
      refine wl (by kernel_rfl) fun kQ hkQ => ?_
      go_simp
      refine hkQ _ _ ?_
      clear hkQ kQ
      refine wl (by kernel_rfl) fun kQ hkQ => ?_
      go_simp
      refine hkQ _ _ ?_
      clear hkQ kQ
      refine wl (by kernel_rfl) fun kQ hkQ => ?_
      go_simp
      refine hkQ _ _ ?_
      clear hkQ kQ
      refine wl (by kernel_rfl) fun kQ hkQ => ?_
      go_simp
      refine hkQ _ _ ?_
      clear hkQ kQ
      refine wl (by kernel_rfl) fun kQ hkQ => ?_
      go_simp
      refine hkQ _ _ ?_
      clear hkQ kQ
      obtain ⟨z5, hz5⟩ : ∃ z5, Go.bits .xor .u8 z 5 = z5 := ⟨_, rfl⟩
      have hzb5 : 0 ≤ z5 ∧ z5 ≤ 255 := by rw [← hz5]; exact bits_u8 _ _
      obtain ⟨g', c, c', ha, rfl, hAt, hPt, hR'⟩ := hR.getput25 (i := i + k) hik z5
      simp only [Option.some.injEq, Addr.mk.injEq] at ha
      obtain ⟨rfl, -, -⟩ := ha
      rw [hz] at hAt
      have HB' : Hid ((l'.set (i + k) z5).length = l.length ∧ IsB (l'.set (i + k) z5)) := hide ⟨by rw [List.length_set]; exact (unhide HB).1, fun c hc => by
        rcases List.mem_or_eq_of_mem_set hc with h | rfl
        · exact (unhide HB).2 c h
        · exact hzb5⟩
      refine wl_load1 (by kernel_rfl) 5 (.tmp 13) rfl 0 rfl (i + k) rfl (.int .u8 z) hAt Tryz.underlying5 rfl hS ?_
      simp [Act.put]
      refine wl (by kernel_rfl) fun kQ hkQ => ?_
      go_simp
      refine hkQ _ _ ?_
      clear hkQ kQ
      refine wl (by kernel_rfl) fun kQ hkQ => ?_
      go_simp
      refine hkQ _ _ ?_
      clear hkQ kQ
      refine wl_store (by kernel_rfl) 5 (.tmp 16) (.tmp 15) rfl 0 rfl (i + k) rfl [.int .u8 z5] c' hPt rfl Tryz.j1u (one_one rfl) hS ?_
      clear hS
      intro w31 hS
      change Hs17 w0 ([(g, 5, c')] ++ rows) K w31 at hS
      simp [Act.put]
      refine wpList_nil ?_
      go_wp2_with fail
      go_roundw
      case rel => exact ⟨k + 1, _, _, by omega, by go_num, HB', hR', hS⟩
      case measure => simp [intOf]; omega
    · obtain rfl : k = n := by omega
      have hkd : ¬ (k : Int) < (k : Int) := by omega
      go_wp2_with fail
      refine bodyPost_end (results_none rfl _ _ _) rfl ?_
      refine ⟨rfl, l', ?_, (unhide HB).2, R, hR, hS⟩
      rw [(unhide HB).1]; exact hl0
      -- (unhide HB).2, hR, hS⟩
end Go.Proofs.YtdcaojiiaocnaaaGreatDoor
