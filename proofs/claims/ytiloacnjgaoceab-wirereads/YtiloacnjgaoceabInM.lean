import Derived.Test.YtiloacnjgaoceabRdsM
namespace Go.Proofs.Ytiloacnjgaoceab
open Go.RowKit

/-! The document's Reader: what it means. -/

theorem own_of_arrI {w : World} {B e g : Nat} {l : List Value} (h : Arr w g e l) (hB : B ≤ g) (hl : l.length ≤ 1000) : w.ownsRow B e 1 (.slice (some ⟨g, 0, none⟩) l.length l.length) l.length l :=
  ⟨by simp, .inr ⟨g, l.length, l.toArray, rfl, hB, h, Nat.le_refl _, by unfold maxLen; omega, by simp, by simp⟩⟩
def ToldI (L : List Int) (w : World) (e : Ending) (w' : World) : Prop := ∃ v, e = .returned v ∧ w'.ownsRow w.heap.size 5 1 v L.length (U8 L) ∧ Below w.heap.size w w'

/-- what bytes mean as a short form, modulo 2^64 -/
def mt : List Int → Nat
  | [] => 0
  | c :: r => (mt r * 128 + c.toNat % 128) % 18446744073709551616
theorem mt_lt (l : List Int) : mt l < 18446744073709551616 := by
  cases l with
  | nil => simp [mt]
  | cons c r => rw [mt]; exact Nat.mod_lt _ (by omega)
theorem mt_sho (y : Nat) (h : y < 18446744073709551616) : mt (sho y) = y := by
  induction y using Nat.strongRecOn with
  | ind y ih =>
    by_cases hlt : y < 128
    · rw [sho_lt hlt]; simp only [mt]; omega
    · rw [sho_ge (by omega)]; simp only [mt]
      rw [ih (y / 128) (by omega) (by omega)]
      have : ((((y % 128 + 128 : Nat) : Int)).toNat) % 128 = y % 128 := by omega
      rw [this]; omega
/-- no short form of m bytes stands here -/
def NoS (L : List Int) (m : Nat) : Prop := sho (mt (L.take m)) ≠ L.take m
theorem short_yes {L : List Int} {n : Nat} (h : ¬ NoS L n) : shoD L = some (mt (L.take n), L.drop n) := by
  have h1 : sho (mt (L.take n)) = L.take n := Classical.not_not.1 h
  have h2 := shoD_sho (mt (L.take n)) (L.drop n) (mt_lt _)
  rw [h1, List.take_append_drop] at h2; exact h2
theorem short_no {L : List Int} (hB : IsB L) (h : ∀ m, 1 ≤ m → m ≤ 10 → m ≤ L.length → NoS L m) : shoD L = none := by
  cases hD : shoD L with
  | none => rfl
  | some q =>
    obtain ⟨y, r⟩ := q
    obtain ⟨hL, hy⟩ := shoD_form hB hD
    have hlen : L.length = (sho y).length + r.length := by have := congrArg List.length hL; rwa [List.length_append] at this
    have ht : L.take (sho y).length = sho y := by rw [hL]; simp
    refine absurd ?_ (h (sho y).length (sho_pos y) (sho_len10 hy) (by omega))
    rw [ht, mt_sho y hy]

/-- the document's Reader: the bytes, the place, the fault -/
structure Inr (w : World) (p : Nat) (b : Sl) (t : Nat) (f : Int) : Prop where
  arr : Arr w p 52 [b.v, .int .i64 t, .int .i64 f]
  ok : b.Ok w
  le : t ≤ b.n
  off : 0 < b.l.length → ∀ x, b.a = some x → x.block ≠ p ∧ x.block < w.heap.size
theorem Inr.later {w w' : World} {p : Nat} {b : Sl} {t : Nat} {f : Int} (h : Inr w p b t f) (hb : Below w.heap.size w w') : Inr w' p b t f :=
  ⟨h.arr.later hb, h.ok.later hb, h.le, fun hl x hx => ⟨(h.off hl x hx).1, Nat.lt_of_lt_of_le (h.off hl x hx).2 hb.size⟩⟩
theorem Inr.keep {S : Nat → Prop} {w w' : World} {p : Nat} {b : Sl} {t : Nat} {f : Int} (h : Inr w p b t f) (hb : Buts S w w') (hp : ¬ S p) (hs : 0 < b.l.length → ∀ x, b.a = some x → ¬ S x.block) : Inr w' p b t f :=
  ⟨hb.arr h.arr hp, hb.ok h.ok hs, h.le, fun hl x hx => ⟨(h.off hl x hx).1, Nat.lt_of_lt_of_le (h.off hl x hx).2 hb.size⟩⟩
/-- another place -/
theorem Inr.setAt {w : World} {p : Nat} {b : Sl} {t : Nat} {f : Int} (h : Inr w p b t f) (t' : Nat) (ht : t' ≤ b.n) : Inr (w.setCell ⟨p, 1, none⟩ (.int .i64 t')) p b t' f := by
  have hB : But p w (w.setCell ⟨p, 1, none⟩ (.int .i64 t')) := (But.refl p w).setCell 1 _
  exact ⟨by simpa using h.arr.set 1 (.int .i64 t'), hB.ok h.ok (fun hl x hx => (h.off hl x hx).1), ht, fun hl x hx => ⟨(h.off hl x hx).1, Nat.lt_of_lt_of_le (h.off hl x hx).2 hB.size⟩⟩
theorem Inr.setE {w : World} {p : Nat} {b : Sl} {t : Nat} {f : Int} (h : Inr w p b t f) (f' : Int) : Inr (w.setCell ⟨p, 2, none⟩ (.int .i64 f')) p b t f' := by
  have hB : But p w (w.setCell ⟨p, 2, none⟩ (.int .i64 f')) := (But.refl p w).setCell 2 _
  exact ⟨by simpa using h.arr.set 2 (.int .i64 f'), hB.ok h.ok (fun hl x hx => (h.off hl x hx).1), h.le, fun hl x hx => ⟨(h.off hl x hx).1, Nat.lt_of_lt_of_le (h.off hl x hx).2 hB.size⟩⟩

/-- what a call of the document's Reader answers and leaves -/
def IPost {α : Type} (V : α → Value → World → World → Prop) (p : Nat) (b : Sl) (q : α × List Int × Int) (w : World) (e : Ending) (w' : World) : Prop :=
  But p w w' ∧ ∃ v t, e = .returned v ∧ V q.1 v w w' ∧ Inr w' p b t q.2.2 ∧ b.l.drop t = q.2.1
theorem IPost.ret {α : Type} {V : α → Value → World → World → Prop} {p : Nat} {b : Sl} {q : α × List Int × Int} {w w' : World} {e : Ending} (h : IPost V p b q w e w') : ∃ v, e = .returned v := by
  obtain ⟨-, v, -, he, -⟩ := h; exact ⟨v, he⟩
set_option maxHeartbeats 1000000 in
set_option maxRecDepth 100000 in
theorem iUint_form (x : Nat) (w : World) (hx : x < 18446744073709551616) : Calls Try.prog 90 #[.int .u64 x] w (ToldI (sho x) w) := by
  obtain ⟨i0, hi, hz0, hz1, hz2⟩ := info_parts Try.infoB
  have hsx := sho_len10 hx
  have HX := hide hsx
  clear hsx
  go_enter Try.func90, Try.ntmps90
  go_wp2
  go_loopw [0, 3] (fun v c wr => ∃ (y : Nat) (L : List Int), v = .int .u64 y ∧ y ≤ x ∧ Hid (sho x = L ++ sho y) ∧ wr.ownsRow w.heap.size 5 1 c L.length (U8 L) ∧ Below w.heap.size w wr)
    (fun v _ _ => (intOf v).toNat)
  case atStart => exact ⟨x, [], rfl, Nat.le_refl _, hide rfl, ⟨rfl, .inl ⟨rfl, rfl⟩⟩, Below.refl _ _⟩
  case round =>
    obtain ⟨y, L, rfl, hy, HS, hown, hb⟩ := hrel
    obtain ⟨la, lc, rfl⟩ := own_parts hown
    have hLl : L.length ≤ 10 := by
      have h1 := congrArg List.length (unhide HS)
      have h2 := unhide HX
      rw [List.length_append] at h1; omega
    by_cases hlt : 128 ≤ y
    · have e : sho y = ((y : Int) % 128 + 128) :: sho (y / 128) := by rw [sho_ge hlt]; simp
      have HS' : Hid (sho x = (L ++ [(y : Int) % 128 + 128]) ++ sho (y / 128)) := hide (by rw [unhide HS, e]; simp)
      clear e HS
      go_wp2_with (at_builtin; refine wpList_append_own_at rfl _ _ 23 rfl w.heap.size 5 i0 (.int .u8 0) 1 1 Try.underlying23 hi hz0 hz1 hz2 rfl (by decide) (.slice la L.length lc) L.length (U8 L) rfl (hown.alloc _) ⟨wr.heap.size, 0, none⟩ 1 1 [.int .u8 ((y : Int) % 128 + 128)] rfl rfl (cell_new wr (.int .u8 ((y : Int) % 128 + 128)) 5) (one_byte _) (by unfold maxLen; omega) (by omega) (by have := hb.size; simp; omega) ?_; intro v' w' hown' hgrow _)
      go_roundw
      case rel =>
        have h1 := unhide hown'
        rw [U8_snoc2, show L.length + 1 = (L ++ [(y : Int) % 128 + 128]).length from by simp] at h1
        exact ⟨y / 128, _, by go_num, by omega, HS', h1, below_app hb (Nat.le_refl _) hown (unhide hgrow)⟩
      case measure => simp [intOf]; omega
    · have e : sho y = [(y : Int)] := sho_lt (by omega)
      have HS' : Hid (sho x = L ++ [(y : Int)]) := hide (by rw [unhide HS, e])
      clear e HS
      go_wp2_with (at_builtin; refine wpList_append_own_at rfl _ _ 23 rfl w.heap.size 5 i0 (.int .u8 0) 1 1 Try.underlying23 hi hz0 hz1 hz2 rfl (by decide) (.slice la L.length lc) L.length (U8 L) rfl (hown.alloc _) ⟨wr.heap.size, 0, none⟩ 1 1 [.int .u8 (y : Int)] rfl rfl (cell_new wr (.int .u8 (y : Int)) 5) (one_byte _) (by unfold maxLen; omega) (by omega) (by have := hb.size; simp; omega) ?_; intro v' w' hown' hgrow _)
      go_ret
      have h1 := unhide hown'
      rw [U8_snoc2, show L.length + 1 = (L ++ [(y : Int)]).length from by simp, ← unhide HS'] at h1
      exact ⟨v', rfl, h1, below_app hb (Nat.le_refl _) hown (unhide hgrow)⟩
end Go.Proofs.Ytiloacnjgaoceab
