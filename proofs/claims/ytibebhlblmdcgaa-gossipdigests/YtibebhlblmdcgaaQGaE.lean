import Derived.Test.YtibebhlblmdcgaaQRwW20
import Derived.Test.YtibebhlblmdcgaaQDgW
set_option linter.unusedSimpArgs false
set_option linter.unusedVariables false
namespace Go.Proofs.Ytibebhlblmdcgaa
open Go.RowKit

/-! What the law's walk needs beside the calls. -/
theorem Oy.es' {w : World} {B : Nat} {s : Sx Smy} (h : Oy w B s.v s.xs) : Sy w s := by
  obtain ⟨s', hv, hx, hs, -⟩ := Oy.sy h
  obtain ⟨a, n, c, xs⟩ := s
  obtain ⟨a', n', c', xs'⟩ := s'
  simp only [Sx.v, Value.slice.injEq] at hv hx
  obtain ⟨rfl, rfl, rfl⟩ := hv
  subst hx
  exact hs
theorem Hs17.ownY {w0 w w' : World} {rows : List Row} {K : World → Prop} {v : Value} {xs : List Smy} (hS : Hs17 w0 rows K w) (hb : Below w.heap.size w w') (hO : Oy w' w.heap.size v xs) : Hs17 w0 rows (fun w => K w ∧ Oy w w0.heap.size v xs) w' := by
  refine (hS.later hb).also (fun w'' h1 h2 => ?_)
  refine own_monoG (own_blk hO (fun g hg => h2 g (own_lt hO hg).2 (fun p hp e => ?_))) hS.bel.size
  have h3 := (hS.arr p hp).lt
  have h4 := (own_lt hO hg).1
  omega
theorem nodup_of_sorted {xs : List Ent} (h : Sorted xs) : (xs.map (·.cert.serial)).Nodup := by
  rw [List.Nodup, List.pairwise_map]
  exact h.imp (fun h => by omega)
/-- Lacks of a table in order: as the document's -/
theorem lacks_so (f : Flr) (acc : Int) (s : Sx Ent) (h : Sx Smy) (k : Nat) (w : World) (hf : f.Ok) (hs : Es w s) (hh : Sy w h) (hn : h.n ≤ 100000000) (hsn : s.n ≤ 100000000) (hi : RwI k s.xs) (hj : ∀ x ∈ h.xs, I64 x.ser) :
    Calls Try.prog 7 #[aV (gC f acc s.v), h.v] w fun r w' => ∃ v, r = .returned v ∧ Oe w' w.heap.size v (s.xs.filter fun e => lackB e h.xs) ∧ Below w.heap.size w w' := by
  have := lacks_any f acc s h w hf hs hh hn hsn hi.i64 hj
  rw [left_filter (nodup_of_sorted hi.so)] at this
  exact this
end Go.Proofs.Ytibebhlblmdcgaa

set_option linter.unusedSimpArgs false
set_option linter.unusedVariables false
namespace Go.Proofs.Ytibebhlblmdcgaa
open Go.RowKit

/-! A row of one's own (of entries, of summaries) among the rows: behind them, and none where it is empty. -/
section
variable {α : Type} {f : α → List Value} {sz : Nat} {e : TypeId}
def RowG (f : α → List Value) (sz : Nat) (e : TypeId) (s : Sx α) (l : List α) (R : List Row) : Prop :=
  l.length = s.n ∧ ((s.a = none ∧ s.n = 0 ∧ s.c = 0 ∧ R = []) ∨ ∃ g sp, s.a = some ⟨g, 0, none⟩ ∧ s.n ≤ s.c ∧ s.c ≤ maxLen ∧ (l.flatMap f ++ sp).length = s.c * sz ∧ R = [(g, e, l.flatMap f ++ sp)])
theorem Hs17.swap {w0 w : World} {rows rows' : List Row} {K : World → Prop} (h : Hs17 w0 rows K w) (hp : rows.Perm rows') : Hs17 w0 rows' K w :=
  ⟨(hp.map (·.1)).nodup_iff.1 h.nd, fun p hq => h.arr p (hp.mem_iff.2 hq), fun p hq => h.old p (hp.mem_iff.2 hq), h.bel, fun w' h1 h2 => h.keep w' h1 (fun k hk hn => h2 k hk (fun p hq => hn p (hp.mem_iff.2 hq)))⟩
/-- what a call made, among the rows -/
theorem Hs17.ownG {w0 w w' : World} {rows : List Row} {K : World → Prop} {s : Sx α} {l : List α} (hl : l.length = s.n) (hS : Hs17 w0 rows K w) (hb : Below w.heap.size w w') (hO : w'.ownsRow w.heap.size e sz s.v l.length (l.flatMap f)) :
    ∃ R, RowG f sz e s l R ∧ Hs17 w0 (rows ++ R) K w' := by
  obtain ⟨sa, sn, sc, sx⟩ := s
  simp only [Sx.v] at hO hl
  rcases hO.2 with ⟨hv, h0⟩ | ⟨g, cap, cur, hv, hbg, hg, hle, hmx, hsz, ht⟩
  · cases hv
    refine ⟨[], ⟨hl, .inl ⟨rfl, rfl, rfl, rfl⟩⟩, ?_⟩
    rw [List.append_nil]; exact hS.later hb
  · simp only [Value.slice.injEq] at hv
    obtain ⟨rfl, hsn, rfl⟩ := hv
    have hcur : cur.toList = l.flatMap f ++ cur.toList.drop (l.length * sz) := by
      conv => lhs; rw [← List.take_append_drop (l.length * sz) cur.toList]
      congr 1
    have hA : Arr w' g e (l.flatMap f ++ cur.toList.drop (l.length * sz)) := by
      unfold Arr
      rw [← hcur]; simpa using hg
    have h' := hS.later hb
    have hgs : ∀ p ∈ rows, p.1 ≠ g := fun p hp e => by have h3 := (hS.arr p hp).lt; omega
    refine ⟨[(g, e, l.flatMap f ++ cur.toList.drop (l.length * sz))], ⟨hl, .inr ⟨g, _, rfl, by simp only; omega, hmx, by rw [← hcur]; simpa using hsz, rfl⟩⟩, ?_⟩
    have hH : Hs17 w0 ((g, e, l.flatMap f ++ cur.toList.drop (l.length * sz)) :: rows) K w' := by
      refine ⟨?_, ?_, ?_, h'.bel, ?_⟩
      · rw [List.map_cons, List.nodup_cons]
        refine ⟨fun h => ?_, h'.nd⟩
        obtain ⟨p, hp, e⟩ := List.mem_map.1 h
        exact hgs p hp e
      · intro p hp
        rcases List.mem_cons.1 hp with rfl | hp
        · exact hA
        · exact h'.arr p hp
      · intro p hp
        rcases List.mem_cons.1 hp with rfl | hp
        · exact Nat.le_trans hS.bel.size hbg
        · exact h'.old p hp
      · intro w'' q1 q2
        refine hS.keep w'' (Nat.le_trans hb.size q1) (fun k hk hp => ?_)
        refine (q2 k (Nat.lt_of_lt_of_le hk hb.size) (fun p hp' => ?_)).trans (hb.block k hk)
        rcases List.mem_cons.1 hp' with rfl | hp'
        · show g ≠ k; omega
        · exact hp p hp'
    exact hH.swap ((List.perm_append_singleton _ _).symm)
/-- and out of the rows again: one's own -/
theorem RowG.own {w0 w : World} {rows R : List Row} {K : World → Prop} {s : Sx α} {l : List α} (h : RowG f sz e s l R) (hf : ∀ x ∈ l, (f x).length = sz) (hS : Hs17 w0 (rows ++ R) K w) : w.ownsRow w0.heap.size e sz s.v l.length (l.flatMap f) := by
  obtain ⟨sa, sn, sc, sx⟩ := s
  obtain ⟨hl, h⟩ := h
  simp only at hl h
  have hlen : (l.flatMap f).length = l.length * sz := by
    clear h hl hS
    induction l with
    | nil => simp
    | cons x t ih => rw [List.flatMap_cons, List.length_append, ih (fun y hy => hf y (by simp [hy])), hf x (by simp), List.length_cons, Nat.succ_mul]; omega
  refine ⟨hlen, ?_⟩
  rcases h with ⟨rfl, rfl, rfl, rfl⟩ | ⟨g, sp, rfl, hle, hmx, hsz, rfl⟩
  · exact .inl ⟨rfl, hl⟩
  · have hA := hS.arr (g, e, l.flatMap f ++ sp) (by simp)
    have ho := hS.old (g, e, l.flatMap f ++ sp) (by simp)
    refine .inr ⟨g, sc, (l.flatMap f ++ sp).toArray, by rw [hl]; rfl, ho, hA, by omega, hmx, by simpa using hsz, ?_⟩
    rw [← hlen]; simp
theorem RowG.block {s : Sx α} {l : List α} {R : List Row} (h : RowG f sz e s l R) {g : Nat} (hg : s.v.ownBlock = some g) : ∃ p ∈ R, p.1 = g := by
  obtain ⟨sa, sn, sc, sx⟩ := s
  rcases h.2 with ⟨h1, -, -, -⟩ | ⟨g', sp, h1, -, -, -, rfl⟩
  · simp only at h1; subst h1; cases hg
  · simp only at h1; subst h1
    simp only [Sx.v] at hg
    cases hg
    exact ⟨_, List.mem_singleton.2 rfl, rfl⟩
/-- appended to: the row is another one -/
theorem Hs17.regrow {w0 w w' : World} {rows R : List Row} {K : World → Prop} {s : Sx α} {l l' : List α} {v' : Value} (hS : Hs17 w0 (rows ++ R) K w) (hR : RowG f sz e s l R) (hf : ∀ x ∈ l, (f x).length = sz) (hg : w.grownBy w' s.v.ownBlock)
    (hO : w'.ownsRow w0.heap.size e sz v' l'.length (l'.flatMap f)) (hov : v'.ownBlock = s.v.ownBlock ∨ v'.ownBlock = some w.heap.size) :
    ∃ s' R', v' = s'.v ∧ RowG f sz e s' l' R' ∧ Hs17 w0 (rows ++ R') K w' := by
  have hB : Below w0.heap.size w0 w' := hS.bel.trans (own_belG (row := none) (hR.own hf hS) hg (Nat.le_refl _) hS.bel.size)
  have hnd := hS.nd
  rw [List.map_append, List.nodup_append] at hnd
  have hne : ∀ p ∈ rows, s.v.ownBlock ≠ some p.1 := fun p hp q => by
    obtain ⟨r, hr, hq⟩ := hR.block q
    exact hnd.2.2 _ (List.mem_map.2 ⟨p, hp, rfl⟩) _ (List.mem_map.2 ⟨r, hr, rfl⟩) hq.symm
  have hne' : ∀ p ∈ rows, v'.ownBlock ≠ some p.1 := fun p hp q => by
    rcases hov with h | h
    · exact hne p hp (h.symm.trans q)
    · rw [q] at h
      have h3 := (hS.arr p (by simp [hp])).lt
      have h4 := Option.some.inj h
      omega
  have hA : ∀ p ∈ rows, Arr w' p.1 p.2.1 p.2.2 := fun p hp => by
    have h3 := hS.arr p (by simp [hp])
    exact (hg.block p.1 h3.lt (fun q => hne p hp q.symm)).trans h3
  have hk : ∀ R' : List Row, (∀ g, v'.ownBlock = some g → ∃ p ∈ R', p.1 = g) → (∀ p ∈ R', v'.ownBlock = some p.1) → ∀ w'', w'.heap.size ≤ w''.heap.size → (∀ k, k < w'.heap.size → (∀ p ∈ rows ++ R', p.1 ≠ k) → w''.heap[k]? = w'.heap[k]?) → K w'' := by
    intro R' hR1 hR2 w'' q1 q2
    refine hS.keep w'' (Nat.le_trans hg.size q1) (fun k hk hp => ?_)
    refine (q2 k (Nat.lt_of_lt_of_le hk hg.size) (fun p hp' => ?_)).trans (hg.block k hk (fun q => ?_))
    · rcases List.mem_append.1 hp' with h | h
      · exact hp p (by simp [h])
      · intro q
        have h5 := hR2 p h
        rw [q] at h5
        rcases hov with h6 | h6
        · obtain ⟨r, hr, hq⟩ := hR.block (h6.symm.trans h5)
          exact hp r (by simp [hr]) hq
        · rw [h5] at h6
          have := Option.some.inj h6
          omega
    · obtain ⟨r, hr, hq⟩ := hR.block q.symm
      exact hp r (by simp [hr]) hq
  rcases hO.2 with ⟨hv, h0⟩ | ⟨g, cap, cur, hv, hbg, hgg, hle, hmx, hsz, ht⟩
  · refine ⟨⟨none, 0, 0, l'⟩, [], hv, ⟨h0, .inl ⟨rfl, rfl, rfl, rfl⟩⟩, ?_⟩
    rw [List.append_nil]
    refine ⟨hnd.1, hA, fun p hp => hS.old p (by simp [hp]), hB, fun w'' q1 q2 => hk [] (fun g q => by rw [hv] at q; cases q) (fun p hp => by cases hp) w'' q1 (fun k hk hp => q2 k hk (fun p hp' => hp p (by simp [hp'])))⟩
  · subst hv
    have hcur : cur.toList = l'.flatMap f ++ cur.toList.drop (l'.length * sz) := by
      conv => lhs; rw [← List.take_append_drop (l'.length * sz) cur.toList]
      congr 1
    refine ⟨⟨some ⟨g, 0, none⟩, l'.length, cap, l'⟩, [(g, e, l'.flatMap f ++ cur.toList.drop (l'.length * sz))], rfl, ⟨rfl, .inr ⟨g, _, rfl, hle, hmx, by rw [← hcur]; simpa using hsz, rfl⟩⟩, ?_⟩
    refine ⟨?_, ?_, ?_, hB, fun w'' q1 q2 => hk [(g, e, l'.flatMap f ++ cur.toList.drop (l'.length * sz))] (fun g' q => ⟨_, List.mem_singleton.2 rfl, Option.some.inj q⟩) (fun p hp => by rw [List.mem_singleton.1 hp]; rfl) w'' q1 q2⟩
    · rw [List.map_append, List.nodup_append]
      refine ⟨hnd.1, by simp, fun a ha b hb q => ?_⟩
      obtain ⟨p, hp, rfl⟩ := List.mem_map.1 ha
      simp only [List.map_cons, List.map_nil, List.mem_singleton] at hb
      exact hne' p hp (by rw [q, hb]; rfl)
    · intro p hp
      rcases List.mem_append.1 hp with h | h
      · exact hA p h
      · rw [List.mem_singleton.1 h]
        show Arr w' g e _
        unfold Arr
        rw [← hcur]; simpa using hgg
    · intro p hp
      rcases List.mem_append.1 hp with h | h
      · exact hS.old p (by simp [h])
      · rw [List.mem_singleton.1 h]; exact hbg
end
end Go.Proofs.Ytibebhlblmdcgaa

set_option linter.unusedSimpArgs false
set_option linter.unusedVariables false
namespace Go.Proofs.Ytibebhlblmdcgaa
open Go.RowKit

section
variable {α : Type} {f : α → List Value} {sz : Nat} {e : TypeId}
theorem flatG_len : ∀ {l : List α}, (∀ y ∈ l, (f y).length = sz) → (l.flatMap f).length = l.length * sz
  | [], _ => by simp
  | x :: t, h => by rw [List.flatMap_cons, List.length_append, flatG_len (fun y hy => h y (by simp [hy])), h x (by simp), List.length_cons, Nat.succ_mul]; omega
theorem pt_flat {l : List α} (hf : ∀ y ∈ l, (f y).length = sz) {i : Nat} (hi : i < l.length) {x : α} (hx : (f x).length = sz) (sp : List Value) : Pt (l.flatMap f ++ sp) (i * sz) (f x) ((l.set i x).flatMap f ++ sp) := by
  have hd : l.drop i = l[i] :: l.drop (i + 1) := List.drop_eq_getElem_cons hi
  have e1 : l.flatMap f = (l.take i).flatMap f ++ (f l[i] ++ (l.drop (i + 1)).flatMap f) := by
    conv => lhs; rw [← List.take_append_drop i l, List.flatMap_append, hd, List.flatMap_cons]
  have e2 : (l.set i x).flatMap f = (l.take i).flatMap f ++ (f x ++ (l.drop (i + 1)).flatMap f) := by
    rw [List.set_eq_take_append_cons_drop, if_pos hi, List.flatMap_append, List.flatMap_cons]
  refine ⟨(l.take i).flatMap f, f l[i], (l.drop (i + 1)).flatMap f ++ sp, ?_, ?_, ?_, ?_⟩
  · rw [e1]; simp [List.append_assoc]
  · rw [e2]; simp [List.append_assoc]
  · rw [flatG_len (fun y hy => hf y (List.mem_of_mem_take hy)), List.length_take]; congr 1; omega
  · rw [hf _ (List.getElem_mem hi), hx]
/-- one of them written to -/
theorem RowG.put {s : Sx α} {l : List α} {R : List Row} (h : RowG f sz e s l R) (hf : ∀ y ∈ l, (f y).length = sz) {i : Nat} (hi : i < s.n) {x : α} (hx : (f x).length = sz) :
    ∃ g c c', s.a = some ⟨g, 0, none⟩ ∧ R = [(g, e, c)] ∧ Pt c (i * sz) (f x) c' ∧ RowG f sz e s (l.set i x) [(g, e, c')] := by
  obtain ⟨hl, h⟩ := h
  rcases h with ⟨-, h0, -, -⟩ | ⟨g, sp, h1, h2, h3, h4, rfl⟩
  · omega
  · refine ⟨g, _, _, h1, rfl, pt_flat hf (by omega) hx sp, by rw [List.length_set]; exact hl, .inr ⟨g, sp, h1, h2, h3, ?_, rfl⟩⟩
    rw [← h4, List.length_append, List.length_append, flatG_len hf, flatG_len (sz := sz), List.length_set]
    intro y hy
    rcases List.mem_or_eq_of_mem_set hy with h | rfl
    · exact hf y h
    · exact hx
end
end Go.Proofs.Ytibebhlblmdcgaa

set_option linter.unusedSimpArgs false
set_option linter.unusedVariables false
namespace Go.Proofs.Ytibebhlblmdcgaa
open Go.RowKit

theorem RowG.oy {w0 w : World} {rows R : List Row} {K : World → Prop} {s : Sx Smy} {l : List Smy} (h : RowG sC 4 39 s l R) (hS : Hs17 w0 rows K w) (hsub : R.Sublist rows) : Oy w w0.heap.size s.v l := RowG.own (rows := []) h (fun x _ => sC_len x) (hS.sub hsub)
theorem RowG.oe {w0 w : World} {rows R : List Row} {K : World → Prop} {s : Sx Ent} {l : List Ent} (h : RowG eC 262 45 s l R) (ho : ∀ x ∈ l, x.Ok) (hS : Hs17 w0 rows K w) (hsub : R.Sublist rows) : Oe w w0.heap.size s.v l := ⟨RowG.own (rows := []) h (fun x hx => eC_len (ho x hx)) (hS.sub hsub), ho⟩
theorem Hs17.ownGY {w0 w w' : World} {rows : List Row} {K : World → Prop} {v : Value} {l : List Smy} (hS : Hs17 w0 rows K w) (hb : Below w.heap.size w w') (hO : Oy w' w.heap.size v l) :
    ∃ s R, v = Sx.v s ∧ s.xs = l ∧ RowG sC 4 39 s l R ∧ Hs17 w0 (rows ++ R) K w' := by
  obtain ⟨s, rfl, hx, hy, -⟩ := Oy.sy hO
  obtain ⟨R, h1, h2⟩ := hS.ownG (by rw [← hx]; exact hy.len) hb hO
  exact ⟨s, R, rfl, hx, h1, h2⟩
theorem Hs17.ownGE {w0 w w' : World} {rows : List Row} {K : World → Prop} {v : Value} {l : List Ent} (hS : Hs17 w0 rows K w) (hb : Below w.heap.size w w') (hO : Oe w' w.heap.size v l) :
    ∃ s R, v = Sx.v s ∧ s.xs = l ∧ RowG eC 262 45 s l R ∧ Hs17 w0 (rows ++ R) K w' := by
  obtain ⟨s, rfl, hx, hy, -⟩ := hO.es
  obtain ⟨R, h1, h2⟩ := hS.ownG (by rw [← hx]; exact hy.ok.len) hb hO.own
  exact ⟨s, R, rfl, hx, h1, h2⟩
theorem sub_mid {α : Type} {R a b : List α} : R.Sublist (a ++ (R ++ b)) := (List.sublist_append_left R b).trans (List.sublist_append_right a _)
theorem sub_end {α : Type} {R a b : List α} : R.Sublist (a ++ (b ++ R)) := (List.sublist_append_right b R).trans (List.sublist_append_right a _)
/-- the row that is written to ahead of all -/
theorem Hs17.front {w0 w : World} {a b R c : List Row} {K : World → Prop} (h : Hs17 w0 (a ++ (b ++ (R ++ c))) K w) : Hs17 w0 (R ++ (a ++ (b ++ c))) K w := by
  refine h.swap ?_
  have h1 : (a ++ (b ++ (R ++ c))).Perm (a ++ (R ++ (b ++ c))) := List.Perm.append_left a (by
    rw [← List.append_assoc, ← List.append_assoc]; exact List.Perm.append_right c List.perm_append_comm)
  refine h1.trans ?_
  rw [← List.append_assoc, ← List.append_assoc R]
  exact List.Perm.append_right _ List.perm_append_comm
end Go.Proofs.Ytibebhlblmdcgaa
