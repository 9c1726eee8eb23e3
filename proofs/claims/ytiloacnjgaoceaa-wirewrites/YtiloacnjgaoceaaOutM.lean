import Derived.Test.YtiloacnjgaoceaaStpM
namespace Go.Proofs.Ytiloacnjgaoceaa
open Go.RowKit

/-! The document's Writer. -/

/-- the document's Writer: what is laid down, the fault -/
structure Otr (w : World) (base p : Nat) (lv : Value) (l : List Int) (f : Int) : Prop where
  arr : Arr w p 46 [lv, .int .i64 f]
  own : w.ownsRow base 5 1 lv l.length (U8 l)
  isB : IsB l
/-- what a call of the document's Writer leaves -/
structure Ost (base p : Nat) (lv : Value) (l' : List Int) (f' : Int) (w w' : World) (lv' : Value) : Prop where
  wtr : Otr w' base p lv' l' f'
  but : Buts (Wset p lv) w w'
  at_ : ∀ k, lv'.ownBlock = some k → lv.ownBlock = some k ∨ w.heap.size ≤ k
theorem Ost.refl {base p : Nat} {lv : Value} {l : List Int} {f : Int} {w : World} (h : Otr w base p lv l f) : Ost base p lv l f w w lv :=
  ⟨h, Buts.refl _ _, fun _ h => .inl h⟩
theorem Ost.trans {base p : Nat} {lv lv1 lv2 : Value} {l1 l2 : List Int} {f1 f2 : Int} {w w1 w2 : World} (hp : p < w.heap.size) (h : Ost base p lv l1 f1 w w1 lv1) (k : Ost base p lv1 l2 f2 w1 w2 lv2) : Ost base p lv l2 f2 w w2 lv2 := by
  refine ⟨k.wtr, h.but.trans' k.but (fun i hi hs => ?_), fun i hi => ?_⟩
  · rcases hs with rfl | hs
    · exact .inl rfl
    · rcases h.at_ i hs with h1 | h1
      · exact .inr h1
      · omega
  · rcases k.at_ i hi with h1 | h1
    · exact h.at_ i h1
    · exact .inr (Nat.le_trans h.but.size h1)
theorem Otr.later {w w' : World} {base p : Nat} {lv : Value} {l : List Int} {f : Int} (h : Otr w base p lv l f) (hb : Below w.heap.size w w') : Otr w' base p lv l f :=
  ⟨h.arr.later hb, own_later h.own hb, h.isB⟩
theorem Ost.later {base p : Nat} {lv lv' : Value} {l : List Int} {f : Int} {w W w' : World} (hb : Below w.heap.size w W) (h : Ost base p lv l f W w' lv') : Ost base p lv l f w w' lv' :=
  ⟨h.wtr, (Buts.of_below hb).trans h.but, fun k hk => (h.at_ k hk).imp id (fun h1 => Nat.le_trans hb.size h1)⟩
theorem Ost.then {base p : Nat} {lv lv' : Value} {l : List Int} {f : Int} {w W w' : World} (h : Ost base p lv l f w W lv') (hb : Below W.heap.size W w') : Ost base p lv l f w w' lv' :=
  ⟨h.wtr.later hb, h.but.trans (Buts.of_below hb), h.at_⟩
theorem Otr.keep {S : Nat → Prop} {w w' : World} {base p : Nat} {lv : Value} {l : List Int} {f : Int} (h : Otr w base p lv l f) (hb : Buts S w w') (hp : ¬ S p) (hl : ∀ k, lv.ownBlock = some k → ¬ S k) : Otr w' base p lv l f :=
  ⟨hb.arr h.arr hp, hb.own h.own hl, h.isB⟩
theorem Otr.ne {w : World} {base p : Nat} {lv : Value} {l : List Int} {f : Int} (h : Otr w base p lv l f) : lv.ownBlock ≠ some p := own_arr_ne h.own h.arr (by decide)

theorem Ost.close {base p g : Nat} {lv lv2 : Value} {l : List Int} {f : Int} {w w1 w2 w3 w5 : World} (hp : p < w.heap.size) (hl : ∀ k, lv.ownBlock = some k → k < w.heap.size) (hb1 : Below w.heap.size w w1) (h2 : Ost base p lv l f w1 w2 lv2)
    (hb3 : Below w2.heap.size w2 w3) (hz : Buts (· = g) w3 w5) (hg0 : w.heap.size ≤ g) (hg1 : g < w1.heap.size) : Ost base p lv l f w w5 lv2 := by
  have h4 := (h2.later hb1).then hb3
  refine ⟨h4.wtr.keep hz (fun e => by omega) (fun k hk e => ?_), h4.but.trans' hz (fun k hk e => by omega), h4.at_⟩
  subst e
  rcases h2.at_ _ hk with h | h
  · have := hl _ h; omega
  · omega
theorem Otr.lts {w : World} {base p : Nat} {lv : Value} {l : List Int} {f : Int} (h : Otr w base p lv l f) : ∀ k, lv.ownBlock = some k → k < w.heap.size := fun k hk => (h.own.lt k hk).2
theorem Otr.ges {w : World} {base p : Nat} {lv : Value} {l : List Int} {f : Int} (h : Otr w base p lv l f) : ∀ k, lv.ownBlock = some k → base ≤ k := fun k hk => (h.own.lt k hk).1
/-- the box of a step behind a call of the Writer -/
theorem Ost.box {base p g : Nat} {lv lv2 : Value} {l : List Int} {f : Int} {w1 w2 : World} (h : Ost base p lv l f w1 w2 lv2) {ty : TypeId} {c : List Value} (hA : Arr w1 g ty c) (hp : g ≠ p) (hl : lv.ownBlock ≠ some g) : Arr w2 g ty c :=
  h.but.arr hA (fun e => e.elim hp hl)
/-- a slice that the document's Writer does not write -/
theorem Ost.ok {base p : Nat} {lv lv' : Value} {l : List Int} {f : Int} {w w' : World} (h : Ost base p lv l f w w' lv') {d : Sl} (hd : d.Ok w) (ho : 0 < d.l.length → ∀ y, d.a = some y → ¬ Wset p lv y.block) : d.Ok w' := h.but.ok hd ho


def OPost (base p : Nat) (lv : Value) (st : List Int × Int) (w : World) (e : Ending) (w' : World) : Prop :=
  e = .returned (.tuple #[]) ∧ ∃ lv', Ost base p lv st.1 st.2 w w' lv'

set_option maxHeartbeats 1000000 in
set_option maxRecDepth 100000 in
theorem oPut_any (base p : Nat) (lv : Value) (l : List Int) (f : Int) (d : Sl) (w : World) (h : Otr w base p lv l f) (hd : d.Ok w) (hm : l.length + d.n ≤ 1099511627776) (hbase : base ≤ w.heap.size) :
    Calls Try.prog 69 #[.pointer (some ⟨p, 0, none⟩), d.v] w (OPost base p lv (wLay d.l (l, f)) w) := by
  obtain ⟨i0, hi, hz0, hz1, hz2⟩ := info_parts Try.infoB
  have c1 : w.cell? ⟨p, 1, none⟩ = some (.int .i64 f) := by simpa using h.arr.cell 1
  have hdv : d.v = .slice d.a d.n d.c := rfl
  have hlt := h.arr.lt
  rw [hdv]
  by_cases hf : f = 0
  · subst hf
    have HL : Hid (wLay d.l (l, 0) = (l ++ d.l, 0)) := hide rfl
    rw [unhide HL]
    have hown := h.own
    obtain ⟨s, rfl, hok, hsl, hsn, -⟩ := own_sl hown h.isB
    have c0 : w.cell? ⟨p, 0, none⟩ = some (.slice s.a s.n s.c) := by simpa [Sl.v] using h.arr.cell 0
    have HSL := hide hsl
    have HSN := hide hsn
    have hsb : s.n ≤ 140737488355328 := by omega
    clear hown hsl hsn
    go_enter Try.func69, Try.ntmps69
    go_wp2_with (first
      | (at_builtin
         refine wpList_append_slat rfl _ _ 22 rfl w.heap.size 5 i0 (.int .u8 0) Try.underlying22 hi hz0 hz1 hz2 rfl (.slice none 0 0) 0 [] rfl ⟨rfl, .inl ⟨rfl, rfl⟩⟩ s hok rfl (by omega) (Nat.le_refl _) ?_
         intro v1 w1 hown1 hgrow1 _
         have hown1' := unhide hown1
         rw [Nat.zero_add, List.nil_append, unhide HSL, unhide HSN] at hown1'
         have HO1 := hide hown1'
         obtain ⟨a1, k1, rfl⟩ := own_parts hown1'
         have hb1 : Below w.heap.size w w1 := (Below.refl _ _).grown (unhide hgrow1) (Nat.le_refl _) (fun _ e => by cases e)
         have hd1 := hd.later hb1
         clear hown1 hown1' hgrow1)
      | (at_builtin
         refine wpList_append_slat rfl _ _ 22 rfl w.heap.size 5 i0 (.int .u8 0) Try.underlying22 hi hz0 hz1 hz2 rfl (.slice a1 l.length k1) l.length (U8 l) rfl (unhide HO1) d hd1 rfl (by omega) hb1.size ?_
         intro v' w' hown' hgrow hat
         obtain ⟨a', c', rfl⟩ := own_parts (unhide hown')
         have hge : ∀ k, (Value.slice a1 l.length k1).ownBlock = some k → w.heap.size ≤ k := fun k hk => ((unhide HO1).lt k hk).1
         have hb2 : Below w.heap.size w w' := hb1.grown (unhide hgrow) hb1.size (fun k e => hge k e)
         have Ap : Arr w' p 46 [.slice s.a s.n s.c, .int .i64 0] := h.arr.later hb2
         have fp := Ap.frozen 0
         have cp : w'.cell? ⟨p, 0, none⟩ = some (.slice s.a s.n s.c) := by simpa using Ap.cell 0))
    go_end0
    have hown' := unhide hown'
    have Ap2 := Ap.set 0 (.slice a' (l.length + d.n) c')
    have hne : (Value.slice a' (l.length + d.n) c').ownBlock ≠ some p := own_arr_ne hown' Ap (by decide)
    have hbp : Buts (· = p) w' (w'.setCell ⟨p, 0, none⟩ (.slice a' (l.length + d.n) c')) := Buts.of_but ((But.refl p w').setCell 0 _)
    refine ⟨rfl, .slice a' (l.length + d.n) c', ⟨by simpa using Ap2, ?_, h.isB.append hd.isB⟩, ?_, fun k hk => ?_⟩
    · have := hbp.own hown' (fun g hg e => hne (by rw [hg, e]))
      rw [U8_append, List.length_append, hd.len]; exact own_mono this hbase
    · exact (Buts.of_below hb2).trans' hbp (fun k _ e => .inl e)
    · exact .inr (hown'.lt k hk).1
  · have HL : Hid (wLay d.l (l, f) = (l, f)) := by unfold wLay; rw [if_neg hf]; exact hide rfl
    rw [unhide HL]
    go_enter Try.func69, Try.ntmps69
    go_wp2
    go_end0
    exact ⟨rfl, lv, Ost.refl h⟩
end Go.Proofs.Ytiloacnjgaoceaa
