import Derived.Test.YtejagcngbgnogaaGreatQShr
import Derived.Test.YtejagcngbgnogaaGreatQGaeZ
namespace Go.Proofs.YtejagcngbgnogaaGreat
open Go.RowKit
def face {α : Type} (z : α) (P : List Int → eC α) (st : List Int × Int) : α × List Int × Int :=
 if st.2 ≠ 0 then (z, st) else match P st.1 with
  | .ok (x, r) => (x, r, 0)
  | .error c => (z, st.1, c)
def RPost {α : Type} (V : α → Value → World → World → Prop) (p : Nat) (s : Sl) (q : α × List Int × Int) (w : World) (e : Ending) (w' : World) : Prop :=
 But p w w' ∧ ∃ v t, e = .returned v ∧ V q.1 v w w' ∧ Rdr w' p t q.2.2 ∧ t.l = q.2.1 ∧ s.Same t
theorem Fac.post {α : Type} {V : α → Value → World → World → Prop} {zv : Value} {p : Nat} {s : Sl} {f : Int} {P : List Int → eC α} {w w' : World} {e : Ending} (h : Fac V zv p s f (P s.l) w e w') (z : α) (hz : V z zv w w') : RPost V p s (face z P (s.l, f)) w e w' := by
 obtain ⟨hB, h⟩ := h
 refine ⟨hB, ?_⟩
 unfold face
 split at h
 ·rename_i hf
  rw [if_pos hf]
  exact ⟨zv, s, h.1, hz, h.2, rfl, Sl.Same.refl s⟩
 ·rename_i hf
  rw [if_neg hf]
  simp only
  split at h
  ·rename_i x r hP
   rw [hP]
   obtain ⟨v, t, he, hV, hR, hr, hS⟩ := h
   exact ⟨v, t, he, hV, hR, hr, hS⟩
  ·rename_i c hP
   rw [hP]
   exact ⟨zv, s, h.1, hz, h.2, rfl, Sl.Same.refl s⟩
theorem RPost.ret {α : Type} {V : α → Value → World → World → Prop} {p : Nat} {s : Sl} {q : α × List Int × Int} {w w' : World} {e : Ending} (h : RPost V p s q w e w') : ∃ v, e = .returned v := by
 obtain ⟨-, v, -, he, -⟩ := h; exact ⟨v, he⟩
theorem isL_nil (w w' : World) : isL [] (.slice none 0 0) w w' := ⟨⟨rfl, .inl ⟨rfl, rfl⟩⟩, fun x hx => by simp at hx⟩
def gNums : Nat → List Int → Except (Int × List Int) (List Int × List Int)
 | 0, l => .ok ([], l)
 | n + 1, l => match pUint l with
  | .error c => .error (c, l)
  | .ok (x, r) => match gNums n r with
   | .error e => .error e
   | .ok (xs, r') => .ok (x :: xs, r')
def gJoin (acc : List Int) : Except (Int × List Int) (List Int × List Int) → Except (Int × List Int) (List Int × List Int)
 | .error e => .error e
 | .ok (xs, r) => .ok (acc ++ xs, r)
def gList (most : Int) (st : List Int × Int) : List Int × List Int × Int :=
 if st.2 ≠ 0 then ([], st) else match pCount most st.1 with
  | .error c => ([], st.1, c)
  | .ok (n, r) => match gNums n r with
   | .error (c, l) => ([], l, c)
   | .ok (xs, r') => (xs, r', 0)
def isQ8 (x : List Int) (v : Value) (w w' : World) : Prop := w'.ownsRow w.heap.size 215 1 v x.length (Q8 x) ∧ IsQ x
set_option maxHeartbeats 1000000
set_option maxRecDepth 100000
theorem nN (base p : Nat) (lv : Value) (l : List Int) (f : Int) (d : Sl) (w : World) (h : Wtr w base p lv l f) (hd : d.Ok w) (hm : l.length + d.n ≤ 1099511627776) (hbase : base ≤ w.heap.size) :
  Calls Tryz.prog 382 #[.pointer (some ⟨p, 0, none⟩), d.v] w (fZ base p lv (bZ d.l (l, f)) w) := by
 obtain ⟨i0, hi, hz0, hz1, hz2⟩ := info_parts Tryz.infoB
 have c0 : w.cell? ⟨p, 0, none⟩ = some lv := by simpa using h.arr.cell 0
 have c1 : w.cell? ⟨p, 1, none⟩ = some (.int .i64 f) := by simpa using h.arr.cell 1
 have hdv : d.v = .slice d.a d.n d.c := rfl
 have hlt := h.arr.lt
 rw [hdv]
 by_cases hf : f = 0
 ·subst hf
  have HL : Hid (bZ d.l (l, 0) = (l ++ d.l, 0)) := aA rfl
  rw [unhide HL]
  have hown := h.own
  obtain ⟨la, lc, rfl⟩ := bK hown
  have HO := aA hown
  clear hown
  go_enter Tryz.func382, Tryz.ntmps382
  go_wp2_with (at_builtin; refine gF rfl _ _ 33 rfl base 5 i0 (.int .u8 0) Tryz.underlying33 hi hz0 hz1 hz2 rfl (.slice la l.length lc) l.length (U8 l) rfl (unhide HO) d hd rfl (by omega) hbase ?_; intro v' w' hown' hgrow hat; obtain ⟨a', c', rfl⟩ := bK (unhide hown'); have Ap : Arr w' p 460 [.slice la l.length lc, .int .i64 0] := (hgrow.out.block p hlt (fun e => h.ne e.symm)).trans h.arr; have fp := Ap.frozen 0; have cp : w'.cell? ⟨p, 0, none⟩ = some (.slice la l.length lc) := by simpa using Ap.cell 0)
  go_end0
  have hown' := unhide hown'
  have hgrow := unhide hgrow
  have hat := unhide hat
  have Ap2 := Ap.set 0 (.slice a' (l.length + d.n) c')
  have hne : (Value.slice a' (l.length + d.n) c').ownBlock ≠ some p := gJ hown' Ap (by decide)
  have hbp : Buts (· = p) w' (w'.setCell ⟨p, 0, none⟩ (.slice a' (l.length + d.n) c')) := Buts.of_but ((But.refl p w').setCell 0 _)
  refine ⟨rfl, .slice a' (l.length + d.n) c', ⟨by simpa using Ap2, ?_, h.isB.append hd.isB⟩, ?_, fun k hk => ?_⟩
  ·have := hbp.own hown' (fun g hg e => hne (by rw [hg, e]))
   rw [jS, List.length_append, hd.len]; exact this
  ·have h1 : Buts (Wset p (.slice la l.length lc)) w w' := ⟨hgrow.os, hgrow.tape, hgrow.output, hgrow.size, fun k hk hs => hgrow.block k hk (fun e => hs (.inr e.symm))⟩
   exact h1.trans' hbp (fun k _ e => .inl e)
  ·rcases hat with hat | hat
   ·left; rw [← hat]; exact hk
   ·right; rw [hat] at hk; simp at hk; omega
 ·have HL : Hid (bZ d.l (l, f) = (l, f)) := by unfold bZ; rw [if_neg hf]; exact aA rfl
  rw [unhide HL]
  go_enter Tryz.func382, Tryz.ntmps382
  go_wp2
  go_end0
  exact ⟨rfl, lv, Wst.refl h⟩
def beB (n : Nat) (x : Int) : List Int := (leB n x).reverse
theorem wU32_any (base p : Nat) (lv : Value) (l : List Int) (f x : Int) (w : World) (h : Wtr w base p lv l f) (hx0 : 0 ≤ x) (hm : l.length + 4 ≤ 1099511627776) (hbase : base ≤ w.heap.size) :
    Calls Tryz.prog 303 #[.pointer (some ⟨p, 0, none⟩), .int .u32 x] w (fZ base p lv (bZ (beB 4 x) (l, f)) w) := by
  have hS := storebe32_any x w hx0
  go_enter Tryz.func303, Tryz.ntmps303
  go_wp2_with (first
    | (go_at_call 389; refine hS.mono ?_; rintro e w1 ⟨rfl, hown, hb⟩)
    | (have hd := Sl.Ok.of_own hown (leB_isB 4 x).reverse
       have hL := nN base p lv l f _ _ (h.later hb) hd hm (Nat.le_trans hbase hb.size)
       simp only [Sl.v] at hL
       go_at_call 382; refine hL.mono ?_; rintro e w' ⟨rfl, lv', hW⟩))
  go_end0
  exact ⟨rfl, lv', hW.later hb⟩
theorem wU64_any (base p : Nat) (lv : Value) (l : List Int) (f x : Int) (w : World) (h : Wtr w base p lv l f) (hx0 : 0 ≤ x) (hm : l.length + 8 ≤ 1099511627776) (hbase : base ≤ w.heap.size) :
    Calls Tryz.prog 286 #[.pointer (some ⟨p, 0, none⟩), .int .u64 x] w (fZ base p lv (bZ (beB 8 x) (l, f)) w) := by
  have hS := storebe64_any x w hx0
  go_enter Tryz.func286, Tryz.ntmps286
  go_wp2_with (first
    | (go_at_call 383; refine hS.mono ?_; rintro e w1 ⟨rfl, hown, hb⟩)
    | (have hd := Sl.Ok.of_own hown (leB_isB 8 x).reverse
       have hL := nN base p lv l f _ _ (h.later hb) hd hm (Nat.le_trans hbase hb.size)
       simp only [Sl.v] at hL
       go_at_call 382; refine hL.mono ?_; rintro e w' ⟨rfl, lv', hW⟩))
  go_end0
  exact ⟨rfl, lv', hW.later hb⟩
theorem wBool_any (base p : Nat) (lv : Value) (l : List Int) (f : Int) (x : Bool) (w : World) (h : Wtr w base p lv l f) (hm : l.length + 1 ≤ 1099511627776) (hbase : base ≤ w.heap.size) :
  Calls Tryz.prog 322 #[.pointer (some ⟨p, 0, none⟩), .bool x] w (fZ base p lv (bZ [if x then 1 else 0] (l, f)) w) := by
 cases x
 ·have hb := aJ w (.cells #[.int .u8 0] 5)
  have hL := nN base p lv l f _ _ (h.later hb) (one_ok w 0 (by omega) (by omega)) hm (Nat.le_trans hbase hb.size)
  exact sh173
 ·have hb := aJ w (.cells #[.int .u8 1] 5)
  have hL := nN base p lv l f _ _ (h.later hb) (one_ok w 1 (by omega) (by omega)) hm (Nat.le_trans hbase hb.size)
  exact sh173
theorem sA (base p : Nat) (lv : Value) (l : List Int) (f : Int) (d : Sl) (w : World) (h : Wtr w base p lv l f) (hd : d.Ok w) (hm : l.length + d.n ≤ 1099511627776) (hbase : base ≤ w.heap.size) :
  Calls Tryz.prog 291 #[.pointer (some ⟨p, 0, none⟩), d.v] w (fZ base p lv (bZ d.l (l, f)) w) := by
 have hL := nN base p lv l f d w h hd hm hbase
 go_enter Tryz.func291, Tryz.ntmps291
 go_wp2_with (go_at_call 382; refine hL.mono ?_; rintro e w' ⟨rfl, lv', hW⟩)
 go_end0
 exact ⟨rfl, lv', hW⟩
theorem Wst.ok {base p : Nat} {lv lv' : Value} {l : List Int} {f : Int} {w w' : World} (h : Wst base p lv l f w w' lv') {d : Sl} (hd : d.Ok w) (ho : 0 < d.l.length → ∀ y, d.a = some y → ¬ Wset p lv y.block) : d.Ok w' := h.but.ok hd ho
theorem cat_one' (s : Sl) : cat [s] = s.l := by simp [cat]
section
open Go.Proofs.YtejagcngbgnogaaGreat renaming cat_one' → z95a
theorem joins_one (s : Sl) (w : World) (hs : s.Ok w) (hm : s.n ≤ 1099511627776) :
  Calls Tryz.prog 377 #[.slice (some ⟨w.heap.size, 0, none⟩) 1 1] (w.alloc (.cells #[s.v] 33)) fun e w' => ∃ v, e = .returned v ∧ w'.ownsRow (w.heap.size + 1) 5 1 v s.l.length (U8 s.l) ∧ Below w.heap.size w w' := by
 have hb := aJ w (.cells #[s.v] 33)
 exact sh95
end
def wOut (l : List Int) (f : Int) : List Int := if f = 0 then l else []
theorem wDone_any (base p : Nat) (lv : Value) (l : List Int) (f : Int) (w : World) (h : Wtr w base p lv l f) (hm : l.length ≤ 1099511627776) :
  Calls Tryz.prog 298 #[.pointer (some ⟨p, 0, none⟩)] w fun e w' => Below w.heap.size w w' ∧ ∃ v, e = .returned (.tuple #[v, .int .i64 f]) ∧ w'.ownsRow w.heap.size 5 1 v (wOut l f).length (U8 (wOut l f)) := by
 have c0 : w.cell? ⟨p, 0, none⟩ = some lv := by simpa using h.arr.cell 0
 have c1 : w.cell? ⟨p, 1, none⟩ = some (.int .i64 f) := by simpa using h.arr.cell 1
 by_cases hf : f = 0
 ·subst hf
  have HL : Hid (wOut l 0 = l) := aA rfl
  rw [unhide HL]
  obtain ⟨s, rfl, hok, hsl, hsn, -⟩ := iH h.own h.isB
  have hJ := joins_one s w hok (by omega)
  rw [hsl] at hJ
  have hsv : s.v = .slice s.a s.n s.c := rfl
  rw [hsv] at c0 hJ
  clear hsl hsn hsv
  go_enter Tryz.func298, Tryz.ntmps298
  go_wp2_with (go_at_call 377; refine hJ.mono ?_; rintro e w' ⟨v, rfl, hown, hbel⟩)
  go_ret2
  exact ⟨hbel, v, rfl, dC hown (by omega)⟩
 ·have HL : Hid (wOut l f = []) := by unfold wOut; rw [if_neg hf]; exact aA rfl
  rw [unhide HL]
  go_enter Tryz.func298, Tryz.ntmps298
  go_wp2
  go_region
  go_wp2
  go_ret2
  exact ⟨cN (Below.refl _ _) 1, .slice none 0 0, rfl, rfl, .inl ⟨rfl, rfl⟩⟩
theorem newWriter_any (w : World) :
  Calls Tryz.prog 295 #[] w fun e w' => e = .returned (.pointer (some ⟨w.heap.size, 0, none⟩)) ∧ Wtr w' w.heap.size w.heap.size (.slice none 0 0) [] 0 ∧ Below w.heap.size w w' ∧ w.heap.size < w'.heap.size := by
 go_enter Tryz.func295, Tryz.ntmps295
 go_wp2
 go_ret
 exact ⟨rfl, ⟨Arr.new w _ [.slice none 0 0, .int .i64 0], ⟨rfl, .inl ⟨rfl, rfl⟩⟩, fun x hx => by simp at hx⟩, aJ _ _, by simp⟩
def wNums (L : List Int) (st : List Int × Int) : List Int × Int := L.foldl (fun st x => bZ (sho x.toNat) st) st
end Go.Proofs.YtejagcngbgnogaaGreat
