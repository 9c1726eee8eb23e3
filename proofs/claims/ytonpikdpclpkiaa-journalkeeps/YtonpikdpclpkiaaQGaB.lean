import Derived.Test.YtonpikdpclpkiaaQWtJ
import Derived.Test.YtonpikdpclpkiaaQGaD
import Derived.Test.YtonpikdpclpkiaaQJnF
import Derived.Test.YtonpikdpclpkiaaQOpJ
import Derived.Laws.AppendOwn
set_option linter.unusedVariables false
namespace Go.Proofs.Ytonpikdpclpkiaa
open Go.RowKit

/-- a Held: a snapshot, and a row of records -/
structure Hd where
  sn : Sl
  ra : Option Addr
  rc : Nat
  ps : List Sl
def Hd.cells (h : Hd) : List Value := [h.sn.v, .slice h.ra h.ps.length h.rc]
def Hd.v (h : Hd) : Value := .agg #[h.sn.v, .slice h.ra h.ps.length h.rc]
def Hd.recs (h : Hd) : List (List Int) := h.ps.map Sl.l
/-- it lies in memory, apart from Z -/
structure Hd.Ok (w : World) (Z : Nat → Prop) (h : Hd) : Prop where
  s : h.sn.Ok w
  r : SlsOk w h.ra h.ps
  n : h.ra = none → h.rc = 0
  zs : Sepd Z h.sn
  zr : 0 < h.ps.length → ∀ x, h.ra = some x → ¬ Z x.block
  zp : ∀ p ∈ h.ps, Sepd Z p

theorem LiesV.buts {Z : Nat → Prop} {w w' : World} {a : Option Addr} {vs : List Value} (h : LiesV w a vs) (hb : Buts Z w w') (hz : 0 < vs.length → ∀ x, a = some x → ¬ Z x.block) : LiesV w' a vs := by
  intro hl
  obtain ⟨b, off, rfl, hlt, hc⟩ := h hl
  refine ⟨b, off, rfl, Nat.lt_of_lt_of_le hlt hb.size, fun i v hi => ?_⟩
  have := hb.block b hlt (hz hl _ rfl)
  rw [← hc i v hi]
  simp only [World.cell?]
  rw [this]
theorem Sl.Ok.blt {w : World} {s : Sl} (h : s.Ok w) (h0 : 0 < s.l.length) {x : Addr} (hx : s.a = some x) : x.block < w.heap.size := by
  obtain ⟨b, off, e, hlt, -⟩ := h.lies h0
  rw [hx] at e
  cases e
  exact hlt
theorem Sepd.to {Z Z' : Nat → Prop} {w : World} {s : Sl} (h : Sepd Z s) (hs : s.Ok w) (hz : ∀ k, Z' k → Z k ∨ w.heap.size ≤ k) : Sepd Z' s := by
  intro h0 x hx hk
  rcases hz _ hk with h1 | h1
  · exact h h0 x hx h1
  · exact absurd (hs.blt h0 hx) (by omega)
theorem Hd.Ok.keep {w w' : World} {Z Z' : Nat → Prop} {h : Hd} (k : h.Ok w Z) (hb : Buts Z w w') (hz : ∀ k, Z' k → Z k ∨ w.heap.size ≤ k) : h.Ok w' Z' := by
  refine ⟨hb.ok k.s k.zs, ⟨k.r.1.buts hb (fun h0 => k.zr (by simpa using h0)), fun p hp => hb.ok (k.r.2 p hp) (k.zp p hp)⟩, k.n, k.zs.to k.s hz, fun h0 x hx hk => ?_, fun p hp => (k.zp p hp).to (k.r.2 p hp) hz⟩
  rcases hz _ hk with h1 | h1
  · exact k.zr h0 x hx h1
  · obtain ⟨b, off, e, hlt, -⟩ := k.r.1 (by simpa using h0)
    rw [hx] at e; cases e
    simp only at h1; omega
theorem Hd.Ok.later {w w' : World} {Z : Nat → Prop} {h : Hd} (k : h.Ok w Z) (hb : Below w.heap.size w w') : h.Ok w' Z := k.keep (Buts.of_below hb) (fun _ h => .inl h)
/-- one record more -/
def Hd.more (h : Hd) (g c : Nat) (d : Sl) : Hd := ⟨h.sn, some ⟨g, 0, none⟩, c, h.ps ++ [d]⟩
theorem Hd.more_recs (h : Hd) (g c : Nat) (d : Sl) : (h.more g c d).recs = h.recs ++ [d.l] := by simp [Hd.more, Hd.recs]
theorem Hd.Ok.more {w w' : World} {Z : Nat → Prop} {h : Hd} {d : Sl} {g c : Nat} (k : h.Ok w Z) (hd : d.Ok w) (hdz : Sepd Z d) (ho : w'.ownsRow w.heap.size 22 1 (.slice (some ⟨g, 0, none⟩) (h.ps.length + 1) c) (h.ps.length + 1) (h.ps.map Sl.v ++ [d.v])) (hb : Below w.heap.size w w') (hz : ∀ k, Z k → k < w.heap.size) : (h.more g c d).Ok w' Z := by
  have k' := k.later hb
  obtain ⟨h1, h2⟩ := ho.lt g rfl
  refine ⟨k'.s, ⟨?_, ?_⟩, fun e => by simp [Hd.more] at e, k'.zs, ?_, ?_⟩
  · intro _
    refine ⟨g, 0, rfl, h2, fun i v hi => ?_⟩
    have := ho.cells (g := g) rfl i v (by simpa [Hd.more] using hi)
    rwa [addr_add] at this
  · intro p hp
    simp only [Hd.more, List.mem_append, List.mem_singleton] at hp
    rcases hp with hp | rfl
    · exact k'.r.2 p hp
    · exact hd.later hb
  · intro _ x hx hk
    simp only [Hd.more, Option.some.injEq] at hx
    subst hx
    have := hz _ hk
    simp only at this; omega
  · intro p hp
    simp only [Hd.more, List.mem_append, List.mem_singleton] at hp
    rcases hp with hp | rfl
    · exact k'.zp p hp
    · exact hdz
/-- it lies apart from X -/
def Hd.Sep (X : Nat → Prop) (h : Hd) : Prop := Sepd X h.sn ∧ (0 < h.ps.length → ∀ x, h.ra = some x → ¬ X x.block) ∧ ∀ p ∈ h.ps, Sepd X p
theorem Hd.Sep.more {X : Nat → Prop} {B : Nat} {h : Hd} {d : Sl} {g c : Nat} (k : h.Sep X) (hX : ∀ k, X k → k < B) (hg : B ≤ g) (hd : Sepd X d) : (h.more g c d).Sep X := by
  refine ⟨k.1, fun _ x hx hk => ?_, fun p hp => ?_⟩
  · simp only [Hd.more, Option.some.injEq] at hx
    subst hx
    have := hX _ hk
    simp only at this; omega
  · simp only [Hd.more, List.mem_append, List.mem_singleton] at hp
    rcases hp with hp | rfl
    · exact k.2.2 p hp
    · exact hd
theorem Hd.sepF {X : Nat → Prop} {c : Sl} (hc : Sepd X c) : (⟨c, none, 0, []⟩ : Hd).Sep X := ⟨hc, fun h => by simp at h, fun p hp => by simp at hp⟩
theorem Hd.Ok.with {w : World} {Z X : Nat → Prop} {h : Hd} (k : h.Ok w Z) (s : h.Sep X) : h.Ok w (fun k => Z k ∨ X k) :=
  ⟨k.s, k.r, k.n, fun h0 x hx hk => hk.elim (k.zs h0 x hx) (s.1 h0 x hx), fun h0 x hx hk => hk.elim (k.zr h0 x hx) (s.2.1 h0 x hx), fun p hp h0 x hx hk => hk.elim (k.zp p hp h0 x hx) (s.2.2 p hp h0 x hx)⟩
theorem Hd.Ok.sep {w : World} {Z X : Nat → Prop} {h : Hd} (k : h.Ok w Z) (hz : ∀ k, X k → Z k) : h.Sep X :=
  ⟨fun h0 x hx hk => k.zs h0 x hx (hz _ hk), fun h0 x hx hk => k.zr h0 x hx (hz _ hk), fun p hp h0 x hx hk => k.zp p hp h0 x hx (hz _ hk)⟩
theorem Hd.Ok.sub {w : World} {Z X : Nat → Prop} {h : Hd} (k : h.Ok w Z) (hz : ∀ k, X k → Z k) : h.Ok w X :=
  ⟨k.s, k.r, k.n, (k.sep hz).1, (k.sep hz).2.1, (k.sep hz).2.2⟩
end Go.Proofs.Ytonpikdpclpkiaa

set_option linter.unusedVariables false
namespace Go.Proofs.Ytonpikdpclpkiaa
open Go.RowKit

/-- what kept answers: a row of what the Journal may hold -/
structure KpM (w : World) (Z : Nat → Prop) (mv : Value) (hs : List Hd) (w' : World) : Prop where
  row : w'.ownsRow w.heap.size 39 2 mv hs.length (hs.flatMap Hd.cells)
  z : ∀ k, mv.ownBlock = some k → ¬ Z k
  ok : ∀ h ∈ hs, h.Ok w' Z
theorem row_oneJ {B : Nat} {W : World} (h : Hd) (hB : B ≤ W.heap.size) : (W.alloc (.cells #[h.sn.v, .slice h.ra h.ps.length h.rc] 39)).ownsRow B 39 2 (.slice (some ⟨W.heap.size, 0, none⟩) 1 1) 1 h.cells :=
  ⟨rfl, .inr ⟨W.heap.size, 1, _, rfl, hB, Arr.new W _ [h.sn.v, .slice h.ra h.ps.length h.rc], Nat.le_refl _, by decide, rfl, rfl⟩⟩
theorem fl_ltJ {w : World} {p jp : Nat} {S : Nat → Prop} {s : FlS} {o : Option JS} (hf : Fl w p S s) (hj : Jn w jp p o) : ∀ k, (S k ∨ k = jp) → k < w.heap.size := by
  rintro k (hk | rfl)
  · obtain ⟨v0, v1, qv, hF, rfl⟩ := hf; exact hF.lt k hk
  · exact hj.lt
theorem kp_one {w w3 : World} {Z : Nat → Prop} (h : Hd) (hlt : ∀ k, Z k → k < w3.heap.size) (hB : w.heap.size ≤ w3.heap.size) (ok : h.Ok w3 Z) : KpM w Z (.slice (some ⟨w3.heap.size, 0, none⟩) 1 1) [h] (w3.alloc (.cells #[h.sn.v, .slice h.ra h.ps.length h.rc] 39)) := by
  refine ⟨by simpa using row_oneJ (B := w.heap.size) (W := w3) h hB, fun k hk hz => ?_, fun h' hm => ?_⟩
  · simp only [Value.ownBlock, Option.some.injEq] at hk
    have := hlt k hz
    omega
  · simp only [List.mem_singleton] at hm
    subst hm
    exact ok.later (below_alloc _ _)
set_option maxHeartbeats 4000000 in
set_option maxRecDepth 100000 in
/-- no call at all -/
theorem kept_else (p jp : Nat) (S : Nat → Prop) (s : FlS) (j : JS) (h : Hd) (k x y : Int) (d c : Sl) (w : World) (hf : Fl w p S s) (hj : Jn w jp p (some j)) (he : j.ep ≤ 9223372036854775807) (hjS : ¬ S jp) (hh : h.Ok w (fun k => S k ∨ k = jp)) (h3 : k ≠ 3) (h4 : k ≠ 4) (h5 : k ≠ 5) :
    Calls Try.prog 24 #[.pointer (some ⟨jp, 0, none⟩), h.v, .agg #[.int .i64 k, d.v, c.v, .int .i64 x, .int .i64 y]] w fun e w' => ∃ mv, e = .returned (.tuple #[mv, .bool false]) ∧ KpM w (fun k => S k ∨ k = jp) mv [h] w' ∧ Below w.heap.size w w' := by
  have hlt : ∀ k, (S k ∨ k = jp) → k < w.heap.size := by
    rintro k (hk | rfl)
    · obtain ⟨v0, v1, qv, hF, rfl⟩ := hf; exact hF.lt k hk
    · exact hj.lt
  obtain ⟨⟨sa, sn, sc, sl⟩, ra, rc, ps⟩ := h
  obtain ⟨da, dn, dc, dl⟩ := d
  obtain ⟨ca, cn, cc, cl⟩ := c
  obtain ⟨n, hn⟩ : ∃ n, n = ps.length := ⟨_, rfl⟩
  simp only [Hd.v, Sl.v]
  rw [← hn]
  obtain ⟨W0, hW0⟩ : ∃ W, W = (w.alloc (.cells #[.slice sa sn sc, .slice ra n rc] 39)).alloc (.cells #[.int .i64 k, .slice da dn dc, .slice ca cn cc, .int .i64 x, .int .i64 y] 29) := ⟨_, rfl⟩
  have B0 : Below w.heap.size w W0 := by rw [hW0]; exact bel_then (below_alloc w _) (below_alloc w _).size (below_alloc _ _)
  have hE := jepoch_any jp p j W0 ((B0.block jp hj.lt).trans hj) he
  have HW0 := hide hW0
  have HB0 := hide B0
  have HN := hide hn
  have HH := hide hh
  have HL := hide hlt
  clear hW0 B0 hn hh hf hj hlt
  go_enter Try.func24, Try.ntmps24
  go_wp2_with (go_at_call 19; rw [← unhide HW0]; refine hE.mono ?_; rintro e w' ⟨rfl, hw'⟩; subst hw'; rw [unhide HW0]; clear hE)
  go_ret2
  rw [← unhide HW0]
  have hsz : w'.heap.size = w.heap.size + 1 + 1 := by rw [unhide HW0]; simp
  have hx := kp_one (w := w) (w3 := w') (Z := fun k => S k ∨ k = jp) ⟨⟨sa, sn, sc, sl⟩, ra, rc, ps⟩ (fun k hk => Nat.lt_of_lt_of_le (unhide HL k hk) (unhide HB0).size) (unhide HB0).size ((unhide HH).later (unhide HB0))
  simp only [Sl.v, hsz] at hx
  rw [← unhide HN] at hx
  exact ⟨_, rfl, hx, bel_then (unhide HB0) (unhide HB0).size (below_alloc w' _)⟩
set_option maxHeartbeats 4000000 in
set_option maxRecDepth 100000 in
/-- an Append that is done -/
theorem kept_append_ok (p jp : Nat) (S : Nat → Prop) (s s' : FlS) (j : JS) (o' : Option JS) (h : Hd) (x y : Int) (d c : Sl) (w : World) (hf : Fl w p S s) (hj : Jn w jp p (some j)) (he : j.ep ≤ 9223372036854775807) (hjS : ¬ S jp) (hjo : JOk s (some j)) (hd : d.Ok w) (hdz : Sepd (fun k => S k ∨ k = jp) d) (hw : s.wr < 4000000000000000000) (hl : h.ps.length ≤ 200000) (hh : h.Ok w (fun k => S k ∨ k = jp)) (hA : s.jappend (some j) d.l = (s', o', 0)) :
    Calls Try.prog 24 #[.pointer (some ⟨jp, 0, none⟩), h.v, .agg #[.int .i64 3, d.v, c.v, .int .i64 x, .int .i64 y]] w fun e w' => ∃ mv S' g c, e = .returned (.tuple #[mv, .bool false]) ∧ KpM w (fun k => S' k ∨ k = jp) mv [h.more g c d] w' ∧ JSt p jp S s' o' w w' S' ∧ w.heap.size ≤ g := by
  have hlt : ∀ k, (S k ∨ k = jp) → k < w.heap.size := by
    rintro k (hk | rfl)
    · obtain ⟨v0, v1, qv, hF, rfl⟩ := hf; exact hF.lt k hk
    · exact hj.lt
  obtain ⟨⟨sa, sn, sc, sl⟩, ra, rc, ps⟩ := h
  obtain ⟨da, dn, dc, dl⟩ := d
  obtain ⟨ca, cn, cc, cl⟩ := c
  obtain ⟨n, hn⟩ : ∃ n, n = ps.length := ⟨_, rfl⟩
  simp only [Hd.v, Sl.v]
  rw [← hn]
  obtain ⟨W0, hW0⟩ : ∃ W, W = (w.alloc (.cells #[.slice sa sn sc, .slice ra n rc] 39)).alloc (.cells #[.int .i64 3, .slice da dn dc, .slice ca cn cc, .int .i64 x, .int .i64 y] 29) := ⟨_, rfl⟩
  have B0 : Below w.heap.size w W0 := by rw [hW0]; exact bel_then (below_alloc w _) (below_alloc w _).size (below_alloc _ _)
  have A1 : Arr W0 w.heap.size 39 [.slice sa sn sc, .slice ra n rc] := by rw [hW0]; exact (Arr.new w _ [.slice sa sn sc, .slice ra n rc]).later (below_alloc _ _)
  have A2 : Arr W0 (w.heap.size + 1) 29 [.int .i64 3, .slice da dn dc, .slice ca cn cc, .int .i64 x, .int .i64 y] := by
    have h := Arr.new (w.alloc (.cells #[.slice sa sn sc, .slice ra n rc] 39)) 29 [.int .i64 3, .slice da dn dc, .slice ca cn cc, .int .i64 x, .int .i64 y]
    rw [hW0]
    simpa using h
  obtain ⟨W1, hW1⟩ : ∃ W, W = W0.alloc (.cells #[.slice sa sn sc, .slice ra n rc] 39) := ⟨_, rfl⟩
  have B01 : Below W0.heap.size W0 W1 := by rw [hW1]; exact below_alloc _ _
  have B1 : Below w.heap.size w W1 := bel_then B0 B0.size B01
  have hE := jepoch_any jp p j W0 ((B0.block jp hj.lt).trans hj) he
  have hP := jappend_any p jp S s (some j) ⟨da, dn, dc, dl⟩ W1 (hf.later B1) ((B1.block jp hj.lt).trans hj) hjS hjo (hd.later B1) hw
  rw [hA] at hP
  have HA1 := hide (A1.later B01)
  have HA2 := hide (A2.later B01)
  have HW0 := hide hW0
  have HW1 := hide hW1
  have HB1 := hide B1
  have HN := hide hn
  have HH := hide (hh.later B1)
  have HD := hide (hd.later B1)
  have HZ := hide hdz
  have HL := hide hlt
  have HJ0 := hide (JSt.below hf hj B1)
  clear hW0 hW1 B0 B01 B1 A1 A2 hn hh hf hj hlt hA hd hdz hjo
  go_enter Try.func24, Try.ntmps24
  go_wp2_with (first
    | (go_at_call 19; rw [← unhide HW0]; refine hE.mono ?_; rintro e w' ⟨rfl, hw'⟩; subst hw'; rw [unhide HW0]; clear hE)
    | (go_at_call 21; rw [← unhide HW0, ← unhide HW1]; refine hP.mono ?_; rintro e w2 ⟨rfl, S2, k2⟩; clear hP
       have k2 : JSt p jp S s' o' W1 w2 S2 := k2
       have hz2 : ∀ k, (S2 k ∨ k = jp) → (S k ∨ k = jp) ∨ W1.heap.size ≤ k := fun k hk => hk.elim (fun h => (k2.at_ k h).imp .inl id) (fun h => .inl (.inr h))
       have A1' := k2.but.arr (unhide HA1) (fun hz => absurd (unhide HL _ hz) (by omega))
       have A2' := k2.but.arr (unhide HA2) (fun hz => absurd (unhide HL _ hz) (by omega))
       have c0 := A1'.cell 0
       have c1 := A1'.cell 1
       have d1 := A2'.cell 1
       simp at c0 c1 d1
       have ok2 := (unhide HH).keep k2.but hz2
       have hWt := with_any ⟨sa, sn, sc, sl⟩ ra rc ps ⟨da, dn, dc, dl⟩ w2 ok2.s ok2.r ok2.n (k2.but.ok (unhide HD) (unhide HZ)) hl
       simp only [Sl.v] at hWt
       rw [← unhide HN] at hWt
       have HK2 := hide k2
       have HO2 := hide ok2
       have HZ2 := hide hz2
       clear k2 A1' A2' ok2 hz2)
    | (go_at_call 47; refine hWt.mono ?_; rintro e w3 ⟨g, c3, rfl, o3, b3⟩; clear hWt; have HO3 := hide o3; have HB3 := hide b3; clear o3 b3))
  go_ret2
  have hb3 := unhide HB3
  have k2 := unhide HK2
  have hlt2 := fl_ltJ k2.fl k2.jn
  have hx := kp_one (w := w) (w3 := w3) (Z := fun k => S2 k ∨ k = jp) ((⟨⟨sa, sn, sc, sl⟩, ra, rc, ps⟩ : Hd).more g c3 ⟨da, dn, dc, dl⟩) (fun k hk => Nat.lt_of_lt_of_le (hlt2 k hk) hb3.size) (Nat.le_trans (unhide HB1).size (Nat.le_trans k2.but.size hb3.size)) ((unhide HO2).more (k2.but.ok (unhide HD) (unhide HZ)) ((unhide HZ).to (unhide HD) (unhide HZ2)) (by rw [← unhide HN]; exact unhide HO3) hb3 hlt2)
  simp only [Hd.more, Sl.v, List.length_append, List.length_singleton] at hx
  rw [← unhide HN] at hx
  exact ⟨_, S2, g, c3, rfl, hx, ((unhide HJ0).trans k2).trans (JSt.below k2.fl k2.jn (bel_then hb3 hb3.size (below_alloc _ _))), Nat.le_trans (unhide HB1).size (Nat.le_trans k2.but.size ((unhide HO3).lt g rfl).1)⟩
end Go.Proofs.Ytonpikdpclpkiaa

set_option linter.unusedVariables false
namespace Go.Proofs.Ytonpikdpclpkiaa
open Go.RowKit

theorem Try.infoHj : (Try.prog.info? 39).map (fun i => (i.zero, i.size, i.bytes)) = some (some (.agg #[.slice none 0 0, .slice none 0 0]), 2, 48) := by kernel_rfl
theorem buts_grownJ {w w' : World} {row : Option Nat} (h : w.grownBy w' row) : Buts (fun k => row = some k) w w' :=
  ⟨h.os, h.tape, h.output, h.size, fun k hk hs => h.block k hk (fun e => hs e.symm)⟩
theorem JSt.grown {p jp : Nat} {S S2 : Nat → Prop} {s : FlS} {o : Option JS} {w W w4 : World} {row : Option Nat} (h : JSt p jp S s o w W S2) (hg : W.grownBy w4 row) (hrow : ∀ k, row = some k → w.heap.size ≤ k ∧ ¬ (S2 k ∨ k = jp)) : JSt p jp S s o w w4 S2 :=
  ⟨h.fl.keep (buts_grownJ hg) (fun k hk e => (hrow k e).2 (.inl hk)), ((buts_grownJ hg).block jp h.jn.lt (fun e => (hrow jp e).2 (.inr rfl))).trans h.jn, h.but.trans' (buts_grownJ hg) (fun k hk e => absurd (hrow k e).1 (by omega)), h.at_⟩
theorem kp_app {w W w4 : World} {Z Z2 : Nat → Prop} {row : Option Nat} {v4 : Value} {hs : List Hd} (hown : w4.ownsRow w.heap.size 39 2 v4 hs.length (hs.flatMap Hd.cells)) (hg : W.grownBy w4 row) (hrow : ∀ k, row = some k → Z2 k) (ok : ∀ h ∈ hs, h.Ok W Z2) (hz : ∀ k, Z k → Z2 k) (hv : ∀ k, v4.ownBlock = some k → ¬ Z k) : KpM w Z v4 hs w4 :=
  ⟨hown, hv, fun h hm => (ok h hm).keep ((buts_grownJ hg).mono (fun k _ e => hrow k e)) (fun k hk => .inl (hz k hk))⟩
set_option maxHeartbeats 4000000 in
set_option maxRecDepth 100000 in
/-- an Append that is not done: refused, or cut off -/
theorem kept_append_no (p jp : Nat) (S : Nat → Prop) (s s' : FlS) (j : JS) (o' : Option JS) (h : Hd) (r x y : Int) (d c : Sl) (w : World) (hf : Fl w p S s) (hj : Jn w jp p (some j)) (he : j.ep ≤ 9223372036854775807) (hjS : ¬ S jp) (hjo : JOk s (some j)) (hd : d.Ok w) (hdz : Sepd (fun k => S k ∨ k = jp) d) (hw : s.wr < 4000000000000000000) (hl : h.ps.length ≤ 200000) (hh : h.Ok w (fun k => S k ∨ k = jp)) (hA : s.jappend (some j) d.l = (s', o', r)) (hr : r ≠ 0) :
    Calls Try.prog 24 #[.pointer (some ⟨jp, 0, none⟩), h.v, .agg #[.int .i64 3, d.v, c.v, .int .i64 x, .int .i64 y]] w fun e w' => ∃ mv S' g c, e = .returned (.tuple #[mv, .bool (r == 121)]) ∧ KpM w (fun k => S' k ∨ k = jp) mv [h, h.more g c d] w' ∧ JSt p jp S s' o' w w' S' ∧ w.heap.size ≤ g := by
  obtain ⟨i1, hi1, hy0, hy1, hy2⟩ := info_parts Try.infoHj
  have hlt := fl_ltJ hf hj
  obtain ⟨⟨sa, sn, sc, sl⟩, ra, rc, ps⟩ := h
  obtain ⟨da, dn, dc, dl⟩ := d
  obtain ⟨ca, cn, cc, cl⟩ := c
  obtain ⟨n, hn⟩ : ∃ n, n = ps.length := ⟨_, rfl⟩
  simp only [Hd.v, Sl.v]
  rw [← hn]
  obtain ⟨W0, hW0⟩ : ∃ W, W = (w.alloc (.cells #[.slice sa sn sc, .slice ra n rc] 39)).alloc (.cells #[.int .i64 3, .slice da dn dc, .slice ca cn cc, .int .i64 x, .int .i64 y] 29) := ⟨_, rfl⟩
  have B0 : Below w.heap.size w W0 := by rw [hW0]; exact bel_then (below_alloc w _) (below_alloc w _).size (below_alloc _ _)
  have A1 : Arr W0 w.heap.size 39 [.slice sa sn sc, .slice ra n rc] := by rw [hW0]; exact (Arr.new w _ [.slice sa sn sc, .slice ra n rc]).later (below_alloc _ _)
  have A2 : Arr W0 (w.heap.size + 1) 29 [.int .i64 3, .slice da dn dc, .slice ca cn cc, .int .i64 x, .int .i64 y] := by
    have h := Arr.new (w.alloc (.cells #[.slice sa sn sc, .slice ra n rc] 39)) 29 [.int .i64 3, .slice da dn dc, .slice ca cn cc, .int .i64 x, .int .i64 y]
    rw [hW0]
    simpa using h
  obtain ⟨W1, hW1⟩ : ∃ W, W = W0.alloc (.cells #[.slice sa sn sc, .slice ra n rc] 39) := ⟨_, rfl⟩
  have B01 : Below W0.heap.size W0 W1 := by rw [hW1]; exact below_alloc _ _
  have B1 : Below w.heap.size w W1 := bel_then B0 B0.size B01
  have z0 : W0.heap.size = w.heap.size + 1 + 1 := by rw [hW0]; simp
  have z1 : W1.heap.size = w.heap.size + 1 + 1 + 1 := by rw [hW1]; simp [z0]
  have R1 : W1.ownsRow w.heap.size 39 2 (.slice (some ⟨w.heap.size + 1 + 1, 0, none⟩) 1 1) 1 [.slice sa sn sc, .slice ra n rc] := by
    have h := row_oneJ (B := w.heap.size) (W := W0) ⟨⟨sa, sn, sc, sl⟩, ra, rc, ps⟩ B0.size
    simp only [Sl.v, Hd.cells, z0] at h
    rw [← hn, ← hW1] at h
    exact h
  have hE := jepoch_any jp p j W0 ((B0.block jp hj.lt).trans hj) he
  have hP := jappend_any p jp S s (some j) ⟨da, dn, dc, dl⟩ W1 (hf.later B1) ((B1.block jp hj.lt).trans hj) hjS hjo (hd.later B1) hw
  rw [hA] at hP
  have hup : ∀ k, ((S k ∨ k = jp) ∨ w.heap.size ≤ k ∧ k < W1.heap.size) → (S k ∨ k = jp) ∨ w.heap.size ≤ k := fun k hk => hk.imp id And.left
  have HA1 := hide (A1.later B01)
  have HA2 := hide (A2.later B01)
  have HW0 := hide hW0
  have HW1 := hide hW1
  have HB1 := hide B1
  have HN := hide hn
  have HR1 := hide R1
  have HS1 := hide z1
  have HH := hide ((hh.keep (Buts.refl _ _) hup).later B1)
  have HD := hide (hd.later B1)
  have HZ := hide (hdz.to hd hup)
  have HL := hide hlt
  have HJ0 := hide (JSt.below hf hj B1)
  clear hW0 hW1 B0 B01 B1 A1 A2 R1 z0 z1 hn hh hf hj hlt hA hd hdz hjo hup
  go_enter Try.func24, Try.ntmps24
  go_wp2_with (first
    | (at_builtin; refine wpList_append_own_at rfl _ _ 50 rfl w.heap.size 39 i1 (.agg #[.slice none 0 0, .slice none 0 0]) 2 48 Try.underlying50 hi1 hy0 hy1 hy2 rfl (by decide) (.slice (some ⟨w.heap.size + 1 + 1, 0, none⟩) 1 1) 1 [.slice sa sn sc, .slice ra n rc] rfl (unhide HR4) ⟨w3.heap.size, 0, none⟩ 1 1 [.slice sa sn sc, .slice (some ⟨g, 0, none⟩) (n + 1) c3] rfl rfl (unhide HNW) (by intro u hu; simp at hu; rcases hu with rfl | rfl <;> rfl) (by unfold maxLen; omega) (by omega) (unhide HSZ) ?_; intro v4 w4 hown4 hgrow4 hat4)
    | (go_at_call 19; rw [← unhide HW0]; refine hE.mono ?_; rintro e w' ⟨rfl, hw'⟩; subst hw'; rw [unhide HW0]; clear hE)
    | (go_at_call 21; rw [← unhide HW0, ← unhide HW1]; refine hP.mono ?_; rintro e w2 ⟨rfl, S2, k2⟩; clear hP
       have k2 : JSt p jp S s' o' W1 w2 S2 := k2
       have hS1 := unhide HS1
       have hz2 : ∀ k, ((S2 k ∨ k = jp) ∨ w.heap.size ≤ k ∧ k < W1.heap.size) → ((S k ∨ k = jp) ∨ w.heap.size ≤ k ∧ k < W1.heap.size) ∨ W1.heap.size ≤ k := fun k hk => hk.elim (fun h => h.elim (fun h => (k2.at_ k h).imp (fun h => .inl (.inl h)) id) (fun h => .inl (.inl (.inr h)))) (fun h => .inl (.inr h))
       have hb2 := k2.but.mono (T := fun k => (S k ∨ k = jp) ∨ w.heap.size ≤ k ∧ k < W1.heap.size) (fun k _ h => .inl h)
       have A1' := k2.but.arr (unhide HA1) (fun hz => absurd (unhide HL _ hz) (by omega))
       have A2' := k2.but.arr (unhide HA2) (fun hz => absurd (unhide HL _ hz) (by omega))
       have R2 := k2.but.own (unhide HR1) (fun k hk hz => absurd (unhide HL _ hz) (by simp only [Value.ownBlock, Option.some.injEq] at hk; omega))
       have c0 := A1'.cell 0
       have c1 := A1'.cell 1
       have d1 := A2'.cell 1
       simp at c0 c1 d1
       have ok2 := (unhide HH).keep hb2 hz2
       have hWt := with_any ⟨sa, sn, sc, sl⟩ ra rc ps ⟨da, dn, dc, dl⟩ w2 ok2.s ok2.r ok2.n (hb2.ok (unhide HD) (unhide HZ)) hl
       simp only [Sl.v] at hWt
       rw [← unhide HN] at hWt
       have HK2 := hide k2
       have HO2 := hide ok2
       have HD2 := hide (hb2.ok (unhide HD) (unhide HZ))
       have HZ2 := hide ((unhide HZ).to (unhide HD) hz2)
       have HR2 := hide R2
       clear k2 A1' A2' ok2 hz2 hb2 R2 hS1)
    | (go_at_call 47; refine hWt.mono ?_; rintro e w3 ⟨g, c3, rfl, o3, b3⟩; clear hWt
       have HR4 : Hid ((w3.alloc (.cells #[.slice sa sn sc, .slice (some ⟨g, 0, none⟩) (n + 1) c3] 39)).ownsRow w.heap.size 39 2 (.slice (some ⟨w.heap.size + 1 + 1, 0, none⟩) 1 1) 1 [.slice sa sn sc, .slice ra n rc]) := hide (own_laterG (own_laterG (unhide HR2) b3) (below_alloc w3 _))
       have HNW : Hid (∀ j u, [Value.slice sa sn sc, .slice (some ⟨g, 0, none⟩) (n + 1) c3][j]? = some u → (w3.alloc (.cells #[.slice sa sn sc, .slice (some ⟨g, 0, none⟩) (n + 1) c3] 39)).cell? ((⟨w3.heap.size, 0, none⟩ : Addr).add j) = some u) := hide (fun j u hu => by
         have A : Arr (w3.alloc (.cells #[.slice sa sn sc, .slice (some ⟨g, 0, none⟩) (n + 1) c3] 39)) w3.heap.size 39 [.slice sa sn sc, .slice (some ⟨g, 0, none⟩) (n + 1) c3] := Arr.new w3 _ _
         rw [addr_add, Nat.zero_add, A.cell j, hu])
       have HSZ : Hid (w.heap.size ≤ (w3.alloc (.cells #[.slice sa sn sc, .slice (some ⟨g, 0, none⟩) (n + 1) c3] 39)).heap.size) := hide (Nat.le_trans (Nat.le_trans (unhide HB1).size (Nat.le_trans (unhide HK2).but.size b3.size)) (below_alloc w3 _).size)
       have HO3 := hide o3; have HB3 := hide b3; clear o3 b3))
  go_ret2
  have k2 := unhide HK2
  have hb3 := unhide HB3
  have hS1 := unhide HS1
  have hN := unhide HN
  have hlt2 := fl_ltJ k2.fl k2.jn
  have hjl := unhide HL jp (.inr rfl)
  have hlt3 : ∀ k, ((S2 k ∨ k = jp) ∨ w.heap.size ≤ k ∧ k < W1.heap.size) → k < w2.heap.size := fun k hk => hk.elim (hlt2 k) (fun h => Nat.lt_of_lt_of_le h.2 k2.but.size)
  have bw := bel_then hb3 hb3.size (below_alloc w3 (.cells #[.slice sa sn sc, .slice (some ⟨g, 0, none⟩) (n + 1) c3] 39))
  have okA := (unhide HO2).later bw
  have okB := ((unhide HO2).more (unhide HD2) (unhide HZ2) (by simp only; rw [← hN]; exact unhide HO3) hb3 hlt3).later (below_alloc w3 (.cells #[.slice sa sn sc, .slice (some ⟨g, 0, none⟩) (n + 1) c3] 39))
  have hfar : ¬ (S2 (w.heap.size + 1 + 1) ∨ w.heap.size + 1 + 1 = jp) := by
    rintro (h | h)
    · rcases k2.at_ _ h with h1 | h1
      · have := unhide HL _ (.inl h1); omega
      · omega
    · omega
  have hv : ∀ k, v4.ownBlock = some k → ¬ (S2 k ∨ k = jp) := by
    intro k hk hz
    rcases unhide hat4 with h | h
    · rw [h] at hk
      simp only [Value.ownBlock, Option.some.injEq] at hk
      subst hk
      exact hfar hz
    · rw [h] at hk
      have h1 := hlt2 k hz
      have h2 := bw.size
      simp only [Option.some.injEq] at hk
      omega
  have hx := kp_app (w := w) (Z := fun k => S2 k ∨ k = jp) (Z2 := fun k => (S2 k ∨ k = jp) ∨ w.heap.size ≤ k ∧ k < W1.heap.size) (hs := [⟨⟨sa, sn, sc, sl⟩, ra, rc, ps⟩, (⟨⟨sa, sn, sc, sl⟩, ra, rc, ps⟩ : Hd).more g c3 ⟨da, dn, dc, dl⟩]) (by simpa [Hd.cells, Hd.more, Sl.v, ← hN] using unhide hown4) (unhide hgrow4) (fun k hk => .inr (by simp only [Value.ownBlock, Option.some.injEq] at hk; omega)) (by intro h hm; simp only [List.mem_cons, List.not_mem_nil, or_false] at hm; rcases hm with rfl | rfl; exact okA; exact okB) (fun k h => .inl h) hv
  exact ⟨_, S2, g, c3, rfl, hx, (((unhide HJ0).trans k2).trans (JSt.below k2.fl k2.jn bw)).grown (unhide hgrow4) (fun k hk => by simp only [Value.ownBlock, Option.some.injEq] at hk; subst hk; exact ⟨by omega, hfar⟩), Nat.le_trans (unhide HB1).size (Nat.le_trans k2.but.size ((unhide HO3).lt g rfl).1)⟩
end Go.Proofs.Ytonpikdpclpkiaa
