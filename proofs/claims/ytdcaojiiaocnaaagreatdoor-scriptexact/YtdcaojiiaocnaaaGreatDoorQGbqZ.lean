import Derived.Test.YtdcaojiiaocnaaaGreatDoorQGbnZ
import Derived.Test.YtdcaojiiaocnaaaGreatDoorQGboZ
import Derived.Test.YtdcaojiiaocnaaaGreatDoorQLnP25
import Derived.Test.YtdcaojiiaocnaaaGreatDoorQGbkZ
import Derived.Deep.DeepCutAuto
import Derived.Deep.QuietTactic
import Derived.BigQuiet
set_option linter.unusedSimpArgs false
set_option linter.unusedVariables false
namespace Go.Proofs.YtdcaojiiaocnaaaGreatDoor
open Go.RowKit

/-! The shelf among other rows. -/
section
variable {w0 w w' : World} {gS : Nat} {its : List It} {rest rest' : List Row} {K K' : World → Prop} {L W : Sx (Sx Int)} {RL RW : List Row}
theorem ShS.later (h : ShS w0 gS its rest K L W RL RW w) (hb : Below w.heap.size w w') : ShS w0 gS its rest K L W RL RW w' := ⟨h.lt, h.wt, h.s.later hb, h.ok⟩
theorem ShS.drew (h : ShS w0 gS its rest K L W RL RW w) : ShS w0 gS its rest K L W RL RW w.drew := ⟨h.lt, h.wt, h.s.drew, h.ok⟩
theorem ShS.kx (h : ShS w0 gS its rest K L W RL RW w) : K w := h.s.K.1
theorem perm_more {α : Type} (s : α) (A B R : List α) : ((s :: (A ++ B)) ++ R).Perm (s :: ((R ++ A) ++ B)) := by
  rw [List.cons_append]
  refine List.Perm.cons _ ?_
  rw [List.append_assoc R]
  exact List.perm_append_comm
theorem ShS.more {R : List Row} (h : ShS w0 gS its rest K L W RL RW w) (hS : Hs17 w0 (((gS, 26, shC L.v W.v) :: (rest ++ (itRs its ++ (RL ++ RW)))) ++ R) (fun w' => K w' ∧ ∀ it ∈ its, Sx.Ok uC 1 w' it.q) w') : ShS w0 gS its (R ++ rest) K L W RL RW w' := ⟨h.lt, h.wt, hS.swap (perm_more _ _ _ _), h.ok⟩
theorem ShS.perm (h : ShS w0 gS its rest K L W RL RW w) (hp : rest.Perm rest') : ShS w0 gS its rest' K L W RL RW w := ⟨h.lt, h.wt, h.s.swap (List.Perm.cons _ (hp.append_right _)), h.ok⟩
theorem ShS.sub (h : ShS w0 gS its rest K L W RL RW w) (hp : List.Sublist rest' rest) : ShS w0 gS its rest' K L W RL RW w := ⟨h.lt, h.wt, h.s.sub ((hp.append (List.Sublist.refl _)).cons_cons _), h.ok⟩
theorem ShS.weak (h : ShS w0 gS its rest K L W RL RW w) (hk : ∀ w, K w → K' w) : ShS w0 gS its rest K' L W RL RW w := ⟨h.lt, h.wt, h.s.weak (fun w h => ⟨hk w h.1, h.2⟩), h.ok⟩
theorem ShS.sx {s : Sx Int} {l : List Int} {R : List Row} (h : ShS w0 gS its rest K L W RL RW w) (hr : RowG uC 1 5 s l R) (hR : ∀ p ∈ R, p ∈ rest) : Su w ⟨s.a, s.n, s.c, l⟩ :=
  hr.sx (fun x _ => uC_len x) (fun p hp => List.mem_cons_of_mem _ (List.mem_append_left _ (hR p hp))) h.s
end
theorem RwS.nth : ∀ {ss : List (Sx Int)} {Rs : List (List Row)} (h : RwS ss Rs) {i : Nat} {s : Sx Int} (hi : ss[i]? = some s), ∃ R, RowG uC 1 5 s s.xs R ∧ ∀ p ∈ R, p ∈ Rs.flatten
  | [], [], _, i, s, hi => by simp at hi
  | [], _ :: _, h, i, s, hi => by simp at hi
  | s0 :: ss, [], h, i, s, hi => absurd h (by simp [RwS])
  | s0 :: ss, R0 :: Rs, h, 0, s, hi => by
    simp only [List.getElem?_cons_zero, Option.some.injEq] at hi
    subst hi
    exact ⟨R0, h.1, fun p hp => by simp [hp]⟩
  | s0 :: ss, R0 :: Rs, h, i + 1, s, hi => by
    rw [List.getElem?_cons_succ] at hi
    obtain ⟨R, h1, h2⟩ := RwS.nth h.2 hi
    exact ⟨R, h1, fun p hp => by rw [List.flatten_cons]; exact List.mem_append_right _ (h2 p hp)⟩
theorem RwS.cons_ex {s : Sx Int} {ss : List (Sx Int)} {Rs : List (List Row)} (h : RwS (s :: ss) Rs) : ∃ R Rs', Rs = R :: Rs' ∧ RowG uC 1 5 s s.xs R ∧ RwS ss Rs' := by
  cases Rs with
  | nil => exact absurd h (by simp [RwS])
  | cons R Rs' => exact ⟨R, Rs', rfl, h.1, h.2⟩
theorem RowG.putS {S : Sx (Sx Int)} {l : List (Sx Int)} {R : List Row} (h : RowG sV 1 28 S l R) {i : Nat} (hi : i < S.n) (x : Sx Int) :
    ∃ g c c', S.a = some ⟨g, 0, none⟩ ∧ R = [(g, 28, c)] ∧ Pt c i [x.v] c' ∧ RowG sV 1 28 S (l.set i x) [(g, 28, c')] := by
  obtain ⟨hl, h⟩ := h
  rcases h with ⟨-, h0, -, -⟩ | ⟨g, sp, h1, h2, h3, h4, rfl⟩
  · omega
  · have hil : i < l.length := by omega
    have p2 := pt_flat (f := sV) (sz := 1) (fun y _ => sV_len y) hil (x := x) rfl sp
    rw [Nat.mul_one] at p2
    refine ⟨g, _, _, h1, rfl, p2, by rw [List.length_set]; exact hl, .inr ⟨g, sp, h1, h2, h3, ?_, rfl⟩⟩
    rw [← h4, List.length_append, List.length_append, flatG_len (fun y _ => sV_len y), flatG_len (fun y _ => sV_len y), List.length_set]
section
variable {ops : Array Oper} {tl : List Oper} {o : Oper} {a : Act} {w w0 : World} {Q : Exit → Act → World → Prop} {gS : Nat} {its : List It} {K : World → Prop} {L W : Sx (Sx Int)} {RL RW : List Row}
theorem wl_nil25 (hw : Region.wanted o (yielded ops a.tmps) = true) (x : Operand) (ho : o.op = .store 28 x (.const (.slice none 0 0))) {g i : Nat} (hx : a.eval x = .pointer (some ⟨g, i, none⟩)) {S : Sx (Sx Int)} {l : List (Sx Int)} {RA X : List Row} (hr : RowG sV 1 28 S l RA) (hg : S.a = some ⟨g, 0, none⟩) (hi : i < S.n) (h : ShS w0 gS its (RA ++ X) K L W RL RW w)
    (k : ∀ w' RA', RowG sV 1 28 S (l.set i ⟨none, 0, 0, []⟩) RA' → ShS w0 gS its (RA' ++ X) K L W RL RW w' → wpList Tryz.prog ops Q tl (a.put o.dst undef) w') : wpList Tryz.prog ops Q (o :: tl) a w := by
  obtain ⟨g', c, c', e1, rfl, hp, hr'⟩ := hr.putS hi ⟨none, 0, 0, []⟩
  obtain rfl : g = g' := by
    rw [hg] at e1
    simp only [Option.some.injEq, Addr.mk.injEq] at e1
    exact e1.1
  have h1 : Hs17 w0 ((g, 28, c) :: ((gS, 26, shC L.v W.v) :: (X ++ (itRs its ++ (RL ++ RW))))) (fun w' => K w' ∧ ∀ it ∈ its, Sx.Ok uC 1 w' it.q) w := h.s.swap (List.Perm.swap _ _ _)
  refine wl_store hw 28 x (.const (.slice none 0 0)) ho 0 rfl i hx [.slice none 0 0] c' hp rfl Tryz.in1SH (one_one rfl) h1 (fun w' h2 => k w' _ hr' ⟨h.lt, h.wt, Hs17.swap (rows := (g, 28, c') :: ((gS, 26, shC L.v W.v) :: (X ++ (itRs its ++ (RL ++ RW))))) h2 (List.Perm.swap _ _ _), h.ok⟩)
end
/-- what the law's calls leave of the shelf -/
def PrE25 (w0 : World) (gS N : Nat) (rest : List Row) (K : World → Prop) (e : Ending) (w' : World) : Prop :=
  e = .returned (.bool true) ∧ ∃ its L W RL RW, its.length ≤ N ∧ ShS w0 gS its rest K L W RL RW w'
theorem roomyS {w0 w : World} {gS : Nat} {its : List It} {rest : List Row} {K : World → Prop} {L W : Sx (Sx Int)} {RL RW : List Row} {y : Sx Int} (h : ShS w0 gS its rest K L W RL RW w) (hy : Su w y) (hn : y.n ≤ 1048576) :
    Calls Tryz.prog 8 #[y.v] w fun e w' => ∃ (q : Sx Int) (R : List Row), e = .returned q.v ∧ RowG uC 1 5 q (y.xs ++ List.replicate 70 90) R ∧ ShS w0 gS its (R ++ rest) K L W RL RW w' := by
  refine (roomy25 w0 _ _ y w h.s hy hn).mono ?_
  rintro e w' ⟨q, h1, h2, R, h3, h4⟩
  exact ⟨q, R, h1, by rw [← h2]; exact h3, h.more h4⟩
theorem linesS {w0 w : World} {gS : Nat} {its : List It} {rest : List Row} {K : World → Prop} {L W : Sx (Sx Int)} {RL RW : List Row} {s : Sx Int} (h : ShS w0 gS its rest K L W RL RW w) (hs : Su w s) (hb : IsB s.xs) (hm : s.n ≤ 1048576) :
    Calls Tryz.prog 19 #[s.v] w fun e w' => ∃ (S : Sx (Sx Int)) (ss : List (Sx Int)) (RA : List Row) (Rs : List (List Row)), e = .returned S.v ∧ ss.map (·.xs) = linesL s.xs ∧ RowG sV 1 28 S ss RA ∧ RwS ss Rs ∧ ShS w0 gS its ((RA ++ Rs.flatten) ++ rest) K L W RL RW w' := by
  refine (lines_any s w hs hb (by omega)).mono ?_
  rintro e w' ⟨v, ss, h1, h2, h3, h4⟩
  obtain ⟨S, RA, Rs, rfl, q1, q2, q3⟩ := h.s.ownB h4 h3
  exact ⟨S, ss, RA, Rs, h1, h2, q1, q2, h.more q3⟩
theorem reflinesS {w0 w : World} {gS : Nat} {its : List It} {rest : List Row} {K : World → Prop} {L W : Sx (Sx Int)} {RL RW : List Row} {s : Sx Int} (h : ShS w0 gS its rest K L W RL RW w) (hs : Su w s) (hb : IsB s.xs) (hm : s.n ≤ 1048576) :
    Calls Tryz.prog 20 #[s.v] w fun e w' => ∃ (S : Sx (Sx Int)) (ss : List (Sx Int)) (RA : List Row) (Rs : List (List Row)), e = .returned S.v ∧ ss.map (·.xs) = linesL s.xs ∧ RowG sV 1 28 S ss RA ∧ RwS ss Rs ∧ ShS w0 gS its ((RA ++ Rs.flatten) ++ rest) K L W RL RW w' := by
  refine (reflines_any s w hs hb hm).mono ?_
  rintro e w' ⟨v, ss, h1, h2, h3, h4⟩
  obtain ⟨S, RA, Rs, rfl, q1, q2, q3⟩ := h.s.ownB h4 h3
  exact ⟨S, ss, RA, Rs, h1, h2, q1, q2, h.more q3⟩
/-! Lines: how long, of what. -/
theorem step_in : ∀ (t : List Int) (s : List (List Int) × List Int) (n : Nat) (P : Int → Prop), (∀ c ∈ t, P c) → (∀ c ∈ s.2, P c) → (∀ x ∈ s.1, x.length ≤ n ∧ ∀ c ∈ x, P c) → s.2.length + t.length ≤ n →
    (∀ x ∈ (t.foldl stepLn s).1, x.length ≤ n ∧ ∀ c ∈ x, P c) ∧ (t.foldl stepLn s).2.length ≤ n ∧ ∀ c ∈ (t.foldl stepLn s).2, P c
  | [], s, n, P, _, h2, h3, h4 => ⟨h3, by simpa using h4, h2⟩
  | c :: r, s, n, P, h1, h2, h3, h4 => by
    rw [List.foldl_cons]
    rw [List.length_cons] at h4
    refine step_in r _ n P (fun x hx => h1 x (List.mem_cons_of_mem _ hx)) ?_ ?_ ?_
    · unfold stepLn
      split
      · intro x hx; cases hx
      · intro x hx
        rcases List.mem_append.1 hx with hx | hx
        · exact h2 x hx
        · simp at hx; subst hx; exact h1 x (by simp)
    · unfold stepLn
      split
      · intro x hx
        simp only at hx
        unfold flushL at hx
        split at hx
        · rcases List.mem_append.1 hx with hx | hx
          · exact h3 x hx
          · simp at hx; subst hx; exact ⟨by omega, h2⟩
        · exact h3 x hx
      · exact h3
    · unfold stepLn
      split
      · simp; omega
      · simp; omega
theorem lines_in {t : List Int} (hB : IsB t) : ∀ x ∈ linesL t, x.length ≤ t.length ∧ ∀ c ∈ x, Hb25 c := by
  obtain ⟨h1, h2, h3⟩ := step_in t ([], []) t.length Hb25 (fun c hc => hB c hc) (fun c hc => by cases hc) (fun x hx => by cases hx) (by simp)
  intro x hx
  unfold linesL stLn at hx
  unfold flushL at hx
  split at hx
  · rcases List.mem_append.1 hx with hx | hx
    · exact h1 x hx
    · simp at hx; subst hx; exact ⟨h2, h3⟩
  · exact h1 x hx
theorem lines_many (t : List Int) : (linesL t).length ≤ t.length + 1 := by
  have h := (stK_len t t.length).1
  have h9 := (stK_len t (t.length + 1)).1
  unfold stK at h9
  rw [if_neg (by omega)] at h9
  exact h9

/-! Lists. -/
theorem set_at25 {α : Type} (z x : α) (i : Nat) (r : List α) : (List.replicate i z ++ x :: r).set i z = List.replicate (i + 1) z ++ r := by
  rw [List.set_append_right _ _ (by simp), List.length_replicate, Nat.sub_self, List.set_cons_zero, List.replicate_succ', List.append_assoc]; rfl
theorem perm7 {α : Type} (A A' B B' C C' T : List α) : ((C ++ C') ++ ((B ++ B') ++ ((A ++ A') ++ T))).Perm (A' ++ (A ++ (B' ++ (B ++ (C ++ (C' ++ T)))))) := by
  classical
  refine List.perm_iff_count.2 (fun x => ?_)
  simp only [List.count_append]; omega
theorem permA {α : Type} (A B X : List α) : (A ++ (B ++ X)).Perm (B ++ (A ++ X)) := by
  classical
  refine List.perm_iff_count.2 (fun x => ?_)
  simp only [List.count_append]; omega
theorem take_room (l : List Int) {n : Nat} (h : l.length = n) (r : List Int) : (l ++ r).take n = l := List.take_left' h
theorem map_at {ss : List (Sx Int)} {ls : List (List Int)} (h : ss.map (·.xs) = ls) {i : Nat} (hi : i < ls.length) : ∃ a n c, ss[i]? = some ⟨a, n, c, ls[i]⟩ ∧ ss.drop i = ⟨a, n, c, ls[i]⟩ :: ss.drop (i + 1) := by
  subst h
  have hi' : i < ss.length := by simpa using hi
  obtain ⟨⟨a, n, c, x⟩, hs⟩ : ∃ s, ss[i] = s := ⟨_, rfl⟩
  refine ⟨a, n, c, ?_, ?_⟩
  · rw [List.getElem?_eq_getElem hi', hs]; simp [hs]
  · rw [List.drop_eq_getElem_cons hi', hs]; simp [hs]
end Go.Proofs.YtdcaojiiaocnaaaGreatDoor
