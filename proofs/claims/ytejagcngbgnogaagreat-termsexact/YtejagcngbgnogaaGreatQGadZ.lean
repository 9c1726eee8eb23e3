import Derived.Test.YtejagcngbgnogaaGreatQShr
import Derived.Test.YtejagcngbgnogaaGreatQGrA
import Derived.Test.YtejagcngbgnogaaGreatQGacZ
import Derived.Test.YtejagcngbgnogaaGreatProg
import Derived.Recover
namespace Go.Proofs.YtejagcngbgnogaaGreat
open Go.RowKit
abbrev eC (α : Type) := Except Int (α × List Int)
def pByte : List Int → eC Int
 | [] => .error 90
 | c :: r => .ok (c, r)
def dV (l : List Int) : eC Int := if l.length < 4 then .error 90 else .ok (leV (l.take 4).reverse, l.drop 4)
def eP (l : List Int) : eC Int := if l.length < 8 then .error 90 else .ok (leV (l.take 8).reverse, l.drop 8)
def cH : List Int → eC Bool
 | [] => .error 90
 | c :: r => if 1 < c then .error 90 else .ok (decide (c = 1), r)
def ofD : Option (Nat × List Int) → eC Int
 | none => .error 90
 | some (x, r) => .ok ((x : Int), r)
def pUint (l : List Int) : eC Int := ofD (shoD l)
def pCount (most : Int) (l : List Int) : eC Nat := match shoD l with
 | none => .error 90
 | some (x, r) => if most < 0 ∨ most < (x : Int) then .error 1 else if r.length < x then .error 90 else .ok (x, r)
def bX (n : Int) (l : List Int) : eC (List Int) := if n < 0 ∨ (l.length : Int) < n then .error 90 else .ok (l.take n.toNat, l.drop n.toNat)
def pBytes (most : Int) (l : List Int) : eC (List Int) := match pCount most l with
 | .error e => .error e
 | .ok (x, r) => .ok (r.take x, r.drop x)
def more7 (k X c : Nat) : Nat := X + c % 128 * 128 ^ k % 18446744073709551616
set_option maxHeartbeats 1000000
set_option maxRecDepth 100000
theorem Tryz.szB : (Tryz.prog.info? 5).map (·.size) = some 1 := by kernel_rfl
def Sl.cut (s : Sl) (n : Nat) : Sl := ⟨if s.c = n then s.a else s.a.map (·.add n), s.n - n, s.c - n, s.l.drop n⟩
def Sl.pre (s : Sl) (n : Nat) : Sl := ⟨s.a, n, s.c, s.l.take n⟩
theorem Sl.Ok.cut {w : World} {s : Sl} (h : s.Ok w) {n : Nat} (hn : n ≤ s.n) : (s.cut n).Ok w := by
 have hlen := h.len
 have hle := h.le
 refine ⟨by simp only [Sl.cut, List.length_drop]; omega, by simp only [Sl.cut]; omega, by have := h.mx; simp only [Sl.cut]; omega, ?_, h.isB.drop _, h.lies.from rfl (by omega)⟩
 intro ha
 simp only [Sl.cut] at ha ⊢
 have : s.a = none := by
  split at ha
  ·exact ha
  ·simpa using ha
 have := h.nn this
 omega
theorem Sl.Ok.pre {w : World} {s : Sl} (h : s.Ok w) {n : Nat} (hn : n ≤ s.n) : (s.pre n).Ok w := by
 have hlen := h.len
 have hle := h.le
 refine ⟨by simp only [Sl.pre, List.length_take]; omega, by simp only [Sl.pre]; omega, h.mx, fun ha => ?_, h.isB.take _, lies_take h.lies n⟩
 have := h.nn ha
 simp only [Sl.pre]; omega
def Sl.Same (s t : Sl) : Prop := ∀ x, t.a = some x → ∃ y, s.a = some y ∧ y.block = x.block
theorem Sl.Same.refl (s : Sl) : s.Same s := fun x h => ⟨x, h, rfl⟩
theorem Sl.Same.trans {s t r : Sl} (h : s.Same t) (k : t.Same r) : s.Same r := fun x hx => by
 obtain ⟨y, hy, e⟩ := k x hx
 obtain ⟨z, hz, e'⟩ := h y hy
 exact ⟨z, hz, e'.trans e⟩
theorem Sl.same_cut (s : Sl) (n : Nat) : s.Same (s.cut n) := by
 intro x hx
 simp only [Sl.cut] at hx
 split at hx
 ·exact ⟨x, hx, rfl⟩
 ·simp only [Option.map_eq_some_iff] at hx
  obtain ⟨y, hy, rfl⟩ := hx
  exact ⟨y, hy, by unfold Addr.add; split <;> rfl⟩
def gives (c : Int) : Ending := .panicked [{ v := .iface 39 (.int .i64 c), recovered := false }]
structure Unr (w : World) (u : Nat) (s : Sl) : Prop where
 arr : Arr w u 450 [s.v]
 ok : s.Ok w
 off : 0 < s.l.length → ∀ x, s.a = some x → x.block ≠ u
def Prs {α : Type} (V : α → Value → World → World → Prop) (u : Nat) (s : Sl) (D : eC α) (w : World) (e : Ending) (w' : World) : Prop :=
 But u w w' ∧ match D with
  | .ok (x, r) => ∃ v t, e = .returned v ∧ V x v w w' ∧ Unr w' u t ∧ t.l = r ∧ s.Same t
  | .error c => e = gives c
theorem Prs.yes {α : Type} {V : α → Value → World → World → Prop} {u : Nat} {s : Sl} {D : eC α} {w w' : World} {x : α} {r : List Int} {v : Value} {t : Sl}
  (hD : D = .ok (x, r)) (hB : But u w w') (hV : V x v w w') (hU : Unr w' u t) (hr : t.l = r) (hS : s.Same t) : Prs V u s D w (.returned v) w' := by
 subst hD; exact ⟨hB, v, t, rfl, hV, hU, hr, hS⟩
theorem Prs.no {α : Type} {V : α → Value → World → World → Prop} {u : Nat} {s : Sl} {D : eC α} {w w' : World} {c : Int}
  (hD : D = .error c) (hB : But u w w') : Prs V u s D w (gives c) w' := by
 subst hD; exact ⟨hB, rfl⟩
def isI (k : IntKind) (x : Int) (v : Value) (_ _ : World) : Prop := v = .int k x
def isN (x : Nat) (v : Value) (_ _ : World) : Prop := v = .int .i64 x
def isT (x : Bool) (v : Value) (_ _ : World) : Prop := v = .bool x
def isL (x : List Int) (v : Value) (w w' : World) : Prop := w'.ownsRow w.heap.size 5 1 v x.length (U8 x) ∧ IsB x
theorem But.ok {g : Nat} {w w' : World} (h : But g w w') {s : Sl} (hs : s.Ok w) (hg : 0 < s.l.length → ∀ x, s.a = some x → x.block ≠ g) : s.Ok w' :=
 ⟨hs.len, hs.le, hs.mx, hs.nn, hs.isB, h.lies hs.lies hg⟩
theorem Sl.off_same {s t : Sl} {g : Nat} (h : s.Same t) (hl : t.l.length ≤ s.l.length) (hs : 0 < s.l.length → ∀ x, s.a = some x → x.block ≠ g) : 0 < t.l.length → ∀ x, t.a = some x → x.block ≠ g := by
 intro hp x hx
 obtain ⟨y, hy, e⟩ := h x hx
 rw [← e]; exact hs (by omega) y hy
theorem Unr.set {w : World} {u : Nat} {s : Sl} (h : Unr w u s) {n : Nat} (hn : n ≤ s.n) : Unr (w.setCell ⟨u, 0, none⟩ (s.cut n).v) u (s.cut n) := by
 have hb : But u w (w.setCell ⟨u, 0, none⟩ (s.cut n).v) := (But.refl u w).setCell 0 _
 have ho := Sl.off_same (g := u) (s.same_cut n) (by simp [Sl.cut]) h.off
 exact ⟨by simpa using h.arr.set 0 (s.cut n).v, hb.ok (h.ok.cut hn) ho, ho⟩
theorem take_ok (u : Nat) (s : Sl) (n : Nat) (w : World) (h : Unr w u s) (hn : n ≤ s.n) :
  Calls Tryz.prog 388 #[.pointer (some ⟨u, 0, none⟩), .int .i64 n] w fun e w' => e = .returned (s.pre n).v ∧ w' = w.setCell ⟨u, 0, none⟩ (s.cut n).v := by
 have hc : w.cell? ⟨u, 0, none⟩ = some s.v := by simpa using h.arr.cell 0
 have hf := h.arr.frozen 0
 have hle := h.ok.le
 have hmx := h.ok.mx
 unfold maxLen at hmx
 obtain ⟨sa, sn, sc, sl⟩ := s
 simp only [Sl.v, Sl.pre, Sl.cut] at *
 clear h
 generalize hB : (if sc = n then sa else sa.map (·.add n)) = B
 have HB := aA hB
 clear hB
 go_enter Tryz.func388, Tryz.ntmps388
 go_wp2_with (refine pU rfl 450 (.tmp 25) (.tmp 26) rfl 5 Tryz.underlying450 Tryz.szB _ _ _ rfl .i64 _ n rfl rfl hn ?_; intro b hb)
 have hb := (unhide hb).trans (unhide HB)
 subst hb
 go_ret
 exact ⟨rfl, rfl⟩
theorem take_no (u : Nat) (s : Sl) (n : Int) (w : World) (h : Unr w u s) (hn : n < 0 ∨ (s.n : Int) < n) :
  Calls Tryz.prog 388 #[.pointer (some ⟨u, 0, none⟩), .int .i64 n] w fun e w' => e = gives 90 ∧ w' = w := by
 have hc : w.cell? ⟨u, 0, none⟩ = some s.v := by simpa using h.arr.cell 0
 have hle := h.ok.le
 have hmx := h.ok.mx
 unfold maxLen at hmx
 obtain ⟨sa, sn, sc, sl⟩ := s
 simp only [Sl.v] at *
 clear h
 by_cases h0 : n < 0
 ·clear hn
  go_enter Tryz.func388, Tryz.ntmps388
  go_wp2
  exact ⟨rfl, rfl, rfl⟩
 ·have hn : (sn : Int) < n := by omega
  go_enter Tryz.func388, Tryz.ntmps388
  go_wp2
  exact ⟨rfl, rfl, rfl⟩
theorem Unr.cell {w : World} {u : Nat} {s : Sl} (h : Unr w u s) : w.cell? ⟨u, 0, none⟩ = some s.v := by simpa using h.arr.cell 0
theorem Unr.but {w : World} {u : Nat} (v : Value) : But u w (w.setCell ⟨u, 0, none⟩ v) := (But.refl u w).setCell 0 _
theorem oneByte_ok (u : Nat) (s : Sl) (w : World) (h : Unr w u s) (hn : 1 ≤ s.n) :
  Calls Tryz.prog 418 #[.pointer (some ⟨u, 0, none⟩)] w fun e w' => e = .returned (.int .u8 (s.l.getD 0 0)) ∧ w' = w.setCell ⟨u, 0, none⟩ (s.cut 1).v := by
 obtain ⟨bk, off, ha, hlt, hc⟩ := h.ok.lies (by rw [h.ok.len]; omega)
 have hc0 : (w.setCell ⟨u, 0, none⟩ (s.cut 1).v).cell? ⟨bk, off, none⟩ = some (.int .u8 (s.l.getD 0 0)) := by
  rw [Unr.but (s.cut 1).v |>.cell (p := ⟨bk, off, none⟩) hlt (h.off (by rw [h.ok.len]; omega) _ ha)]
  simpa using hc 0 (by rw [h.ok.len]; omega)
 generalize s.l.getD 0 0 = x at *
 have hp : (s.pre 1).v = .slice (some ⟨bk, off, none⟩) 1 s.c := by simp [Sl.pre, Sl.v, ha]
 clear hc
 go_enter Tryz.func418, Tryz.ntmps418
 go_wp2_with (go_at_call 388; refine (take_ok u s 1 w h hn).mono ?_; rintro e w' ⟨rfl, rfl⟩; rw [hp])
 go_ret
 exact ⟨rfl, rfl⟩
theorem oneByte_no (u : Nat) (s : Sl) (w : World) (h : Unr w u s) (hn : s.n = 0) :
  Calls Tryz.prog 418 #[.pointer (some ⟨u, 0, none⟩)] w fun e w' => e = gives 90 ∧ w' = w := by
 go_enter Tryz.func418, Tryz.ntmps418
 go_wp2_with (go_at_call 388; refine (take_no u s 1 w h (by omega)).mono ?_; rintro e w' ⟨rfl, rfl⟩; unfold gives)
 exact ⟨rfl, rfl, rfl⟩
theorem But.box {u b : Nat} {w w' : World} (h : But u w w') {ty : TypeId} {l : List Value} (ha : Arr w b ty l) (hne : b ≠ u) : Arr w' b ty l := h.arr ha hne
theorem getD_first (l : List Int) (h : 0 < l.length) : l = l.getD 0 0 :: l.drop 1 := by
 cases l with
 | nil => simp at h
 | cons a r => simp
theorem len_nil {w : World} {s : Sl} (h : s.Ok w) (h0 : s.n = 0) : s.l = [] := List.eq_nil_of_length_eq_zero (by rw [h.len]; exact h0)
section
open Go.Proofs.YtejagcngbgnogaaGreat renaming nq4 → z76a, loadbe32_ok → z76b, dV → z76c, nqe4 → z76aQ
open Go.Proofs.Tryz renaming func391 → z76d, ntmps391 → z76e
theorem fourBytes_any (u : Nat) (s : Sl) (w : World) (h : Unr w u s) :
  Calls Tryz.prog 391 #[.pointer (some ⟨u, 0, none⟩)] w (Prs (isI .u32) u s (dV s.l) w) := sh76
end
section
open Go.Proofs.YtejagcngbgnogaaGreat renaming nq8 → z76a, loadbe64_ok → z76b, eP → z76c, nqe8 → z76aQ
open Go.Proofs.Tryz renaming func385 → z76d, ntmps385 → z76e
theorem uV (u : Nat) (s : Sl) (w : World) (h : Unr w u s) :
  Calls Tryz.prog 385 #[.pointer (some ⟨u, 0, none⟩)] w (Prs (isI .u64) u s (eP s.l) w) := sh76
end
theorem zeroOrOne_any (u : Nat) (s : Sl) (w : World) (h : Unr w u s) :
  Calls Tryz.prog 393 #[.pointer (some ⟨u, 0, none⟩)] w (Prs (isT) u s (cH s.l) w) := by
 by_cases h0 : s.n = 0
 ·have HP : Hid (cH s.l = .error 90) := by rw [len_nil h.ok h0]; exact aA rfl
  go_enter Tryz.func393, Tryz.ntmps393
  go_wp2_with (go_at_call 418; refine (oneByte_no u s w h h0).mono ?_; rintro e w' ⟨rfl, rfl⟩; unfold gives)
  exact ⟨rfl, Prs.no (unhide HP) (But.refl _ _)⟩
 ·have hO := oneByte_ok u s w h (by omega)
  have hb := h.ok.isB.at 0
  have hset := h.set (n := 1) (by omega)
  have hl := getD_first s.l (by rw [h.ok.len]; omega)
  have hcl : (s.cut 1).l = s.l.drop 1 := rfl
  generalize s.l.getD 0 0 = x at *
  generalize s.l.drop 1 = r at *
  have HP : Hid (cH s.l = if 1 < x then .error 90 else .ok (decide (x = 1), r)) := by rw [hl]; exact aA rfl
  clear hl
  by_cases hx : 1 < x
  ·go_enter Tryz.func393, Tryz.ntmps393
   go_wp2_with (go_at_call 418; refine hO.mono ?_; rintro e w' ⟨rfl, rfl⟩)
   exact ⟨rfl, Prs.no (by rw [unhide HP, if_pos hx]) (Unr.but _)⟩
  ·go_enter Tryz.func393, Tryz.ntmps393
   go_wp2_with (go_at_call 418; refine hO.mono ?_; rintro e w' ⟨rfl, rfl⟩)
   go_ret
   exact Prs.yes (x := decide (x = 1)) (by rw [unhide HP, if_neg (by omega)]) (Unr.but _) rfl hset hcl (s.same_cut 1)
end Go.Proofs.YtejagcngbgnogaaGreat

namespace Go.Proofs.YtejagcngbgnogaaGreat
open Go.RowKit
section
open Go.Proofs.Tryz renaming func413 → z78a, ntmps413 → z78b, results413 → z78c
theorem idle_by (q : Addr) (w : World) :
  CallsD Tryz.prog 413 #[.pointer (some q)] .returning w fun e u' w' => e = .returned (.tuple #[]) ∧ u' = .returning ∧ w' = w := sh78
open Go.Proofs.Tryz renaming func413 → z61a, ntmps413 → z61b, results413 → z61c
theorem catch_by (b p : Nat) (v : Value) (f c : Int) (ty : TypeId) (w : World) (hb : Arr w b ty [.pointer (some ⟨p, 0, none⟩)]) (hp : Arr w p 452 [v, .int .i64 f]) (older : List PanicEntry) :
  CallsD Tryz.prog 413 #[.pointer (some ⟨b, 0, none⟩)] (.panicking ({ v := .iface 39 (.int .i64 c), recovered := false } :: older)) w fun e u' w' =>
   e = .returned (.tuple #[]) ∧ u' = .panicking ({ v := .iface 39 (.int .i64 c), recovered := true } :: older) ∧ Arr w' p 452 [v, .int .i64 c] ∧ But p w w' := sh61
end
section
open Go.Proofs.Tryz renaming func411 → z78a, ntmps411 → z78b, results411 → z78c
theorem idle_q (q : Addr) (w : World) :
  CallsD Tryz.prog 411 #[.pointer (some q)] .returning w fun e u' w' => e = .returned (.tuple #[]) ∧ u' = .returning ∧ w' = w := sh78
open Go.Proofs.Tryz renaming func411 → z61a, ntmps411 → z61b, results411 → z61c
theorem catch_q (b p : Nat) (v : Value) (f c : Int) (ty : TypeId) (w : World) (hb : Arr w b ty [.pointer (some ⟨p, 0, none⟩)]) (hp : Arr w p 452 [v, .int .i64 f]) (older : List PanicEntry) :
  CallsD Tryz.prog 411 #[.pointer (some ⟨b, 0, none⟩)] (.panicking ({ v := .iface 39 (.int .i64 c), recovered := false } :: older)) w fun e u' w' =>
   e = .returned (.tuple #[]) ∧ u' = .panicking ({ v := .iface 39 (.int .i64 c), recovered := true } :: older) ∧ Arr w' p 452 [v, .int .i64 c] ∧ But p w w' := sh61
end
section
open Go.Proofs.Tryz renaming func415 → z78a, ntmps415 → z78b, results415 → z78c
theorem idle_w (q : Addr) (w : World) :
  CallsD Tryz.prog 415 #[.pointer (some q)] .returning w fun e u' w' => e = .returned (.tuple #[]) ∧ u' = .returning ∧ w' = w := sh78
open Go.Proofs.Tryz renaming func415 → z61a, ntmps415 → z61b, results415 → z61c
theorem catch_w (b p : Nat) (v : Value) (f c : Int) (ty : TypeId) (w : World) (hb : Arr w b ty [.pointer (some ⟨p, 0, none⟩)]) (hp : Arr w p 452 [v, .int .i64 f]) (older : List PanicEntry) :
  CallsD Tryz.prog 415 #[.pointer (some ⟨b, 0, none⟩)] (.panicking ({ v := .iface 39 (.int .i64 c), recovered := false } :: older)) w fun e u' w' =>
   e = .returned (.tuple #[]) ∧ u' = .panicking ({ v := .iface 39 (.int .i64 c), recovered := true } :: older) ∧ Arr w' p 452 [v, .int .i64 c] ∧ But p w w' := sh61
end
section
open Go.Proofs.Tryz renaming func417 → z78a, ntmps417 → z78b, results417 → z78c
theorem idle_t (q : Addr) (w : World) :
  CallsD Tryz.prog 417 #[.pointer (some q)] .returning w fun e u' w' => e = .returned (.tuple #[]) ∧ u' = .returning ∧ w' = w := sh78
open Go.Proofs.Tryz renaming func417 → z61a, ntmps417 → z61b, results417 → z61c
theorem catch_t (b p : Nat) (v : Value) (f c : Int) (ty : TypeId) (w : World) (hb : Arr w b ty [.pointer (some ⟨p, 0, none⟩)]) (hp : Arr w p 452 [v, .int .i64 f]) (older : List PanicEntry) :
  CallsD Tryz.prog 417 #[.pointer (some ⟨b, 0, none⟩)] (.panicking ({ v := .iface 39 (.int .i64 c), recovered := false } :: older)) w fun e u' w' =>
   e = .returned (.tuple #[]) ∧ u' = .panicking ({ v := .iface 39 (.int .i64 c), recovered := true } :: older) ∧ Arr w' p 452 [v, .int .i64 c] ∧ But p w w' := sh61
end
end Go.Proofs.YtejagcngbgnogaaGreat

namespace Go.Proofs.YtejagcngbgnogaaGreat
open Go.RowKit
structure Buts (S : Nat → Prop) (w w' : World) : Prop where
 os : w'.os = w.os
 tape : w'.tape = w.tape
 output : w'.output = w.output
 size : w.heap.size ≤ w'.heap.size
 block : ∀ k, k < w.heap.size → ¬ S k → w'.heap[k]? = w.heap[k]?
theorem Buts.refl (S : Nat → Prop) (w : World) : Buts S w w := ⟨rfl, rfl, rfl, Nat.le_refl _, fun _ _ _ => rfl⟩
theorem Buts.trans {S : Nat → Prop} {a b c : World} (x : Buts S a b) (y : Buts S b c) : Buts S a c :=
 ⟨y.os.trans x.os, y.tape.trans x.tape, y.output.trans x.output, Nat.le_trans x.size y.size, fun i hi h => (y.block i (Nat.lt_of_lt_of_le hi x.size) h).trans (x.block i hi h)⟩
theorem Buts.trans' {S T : Nat → Prop} {a b c : World} (x : Buts S a b) (y : Buts T b c) (h : ∀ k, k < a.heap.size → T k → S k) : Buts S a c :=
 ⟨y.os.trans x.os, y.tape.trans x.tape, y.output.trans x.output, Nat.le_trans x.size y.size, fun i hi hs => (y.block i (Nat.lt_of_lt_of_le hi x.size) (fun ht => hs (h i hi ht))).trans (x.block i hi hs)⟩
theorem Buts.mono {S T : Nat → Prop} {a b : World} (x : Buts S a b) (h : ∀ k, k < a.heap.size → S k → T k) : Buts T a b :=
 ⟨x.os, x.tape, x.output, x.size, fun i hi ht => x.block i hi (fun hs => ht (h i hi hs))⟩
theorem Buts.of_but {p : Nat} {a b : World} (x : But p a b) : Buts (· = p) a b := ⟨x.os, x.tape, x.output, x.size, fun i hi h => x.block i hi h⟩
theorem Buts.of_below {S : Nat → Prop} {a b : World} (x : Below a.heap.size a b) : Buts S a b := ⟨x.os, x.tape, x.output, x.size, fun i hi _ => x.block i hi⟩
theorem Buts.below {S : Nat → Prop} {a b : World} (x : Buts S a b) {B : Nat} (hB : B ≤ a.heap.size) (h : ∀ k, S k → B ≤ k) : Below B a b :=
 ⟨x.os, x.tape, x.output, x.size, fun i hi => x.block i (Nat.lt_of_lt_of_le hi hB) (fun hs => by have := h i hs; omega)⟩
theorem Buts.setCell {S : Nat → Prop} {a b : World} (x : Buts S a b) {g : Nat} (hg : S g) (i : Nat) (v : Value) : Buts S a (b.setCell ⟨g, i, none⟩ v) :=
 x.trans ((Buts.of_but ((But.refl g b).setCell i v)).mono (fun k _ e => by subst e; exact hg))
theorem Buts.arr {S : Nat → Prop} {a b : World} (x : Buts S a b) {g : Nat} {ty : TypeId} {l : List Value} (h : Arr a g ty l) (hg : ¬ S g) : Arr b g ty l := (x.block g h.lt hg).trans h
theorem Buts.own {S : Nat → Prop} {a b : World} (x : Buts S a b) {base e sz n : Nat} {v : Value} {xs : List Value} (h : a.ownsRow base e sz v n xs) (hg : ∀ g, v.ownBlock = some g → ¬ S g) : b.ownsRow base e sz v n xs := by
 refine ⟨h.1, ?_⟩
 rcases h.2 with h2 | ⟨g, cap, cur, h1, h2, h3, h4⟩
 ·exact .inl h2
 ·have hgl : g < a.heap.size := (h.lt g (by rw [h1]; rfl)).2
  exact .inr ⟨g, cap, cur, h1, h2, (x.block g hgl (hg g (by rw [h1]; rfl))).trans h3, h4⟩
theorem Buts.lies {S : Nat → Prop} {a b : World} (x : Buts S a b) {ad : Option Addr} {l : List Int} (hl : dW a ad l) (hg : 0 < l.length → ∀ y, ad = some y → ¬ S y.block) : dW b ad l := sh109
theorem Buts.ok {S : Nat → Prop} {a b : World} (x : Buts S a b) {s : Sl} (h : s.Ok a) (hg : 0 < s.l.length → ∀ y, s.a = some y → ¬ S y.block) : s.Ok b :=
 ⟨h.len, h.le, h.mx, h.nn, h.isB, x.lies h.lies hg⟩
theorem gJ {w : World} {base e n g sz : Nat} {ty : TypeId} {v : Value} {xs l : List Value} (h : w.ownsRow base e sz v n xs) (ha : Arr w g ty l) (ht : ty ≠ e) : v.ownBlock ≠ some g := by
 intro e1
 rcases h.2 with ⟨rfl, -⟩ | ⟨g', cap, cur, rfl, -, hg, -⟩
 ·simp [Value.ownBlock] at e1
 ·simp only [Value.ownBlock, Option.some.injEq] at e1
  subst e1
  unfold Arr at ha
  rw [hg] at ha
  simp only [Option.some.injEq, Obj.cells.injEq] at ha
  exact ht ha.2.1.symm
theorem dC {w : World} {base base' e sz n : Nat} {v : Value} {xs : List Value} (h : w.ownsRow base e sz v n xs) (hb : base' ≤ base) : w.ownsRow base' e sz v n xs := by
 refine ⟨h.1, ?_⟩
 rcases h.2 with h2 | ⟨g, cap, cur, h1, h2, h3⟩
 ·exact .inl h2
 ·exact .inr ⟨g, cap, cur, h1, Nat.le_trans hb h2, h3⟩
theorem arr_ne {w : World} {g g' : Nat} {ty ty' : TypeId} {l l' : List Value} (h : Arr w g ty l) (h' : Arr w g' ty' l') (ht : ty ≠ ty') : g ≠ g' := by
 intro e
 subst e
 unfold Arr at h h'
 rw [h] at h'
 simp only [Option.some.injEq, Obj.cells.injEq] at h'
 exact ht h'.2.1
structure Rdr (w : World) (p : Nat) (s : Sl) (f : Int) : Prop where
 arr : Arr w p 452 [s.v, .int .i64 f]
 ok : s.Ok w
 off : ∀ x, s.a = some x → x.block ≠ p ∧ x.block < w.heap.size
def Fac {α : Type} (V : α → Value → World → World → Prop) (z : Value) (p : Nat) (s : Sl) (f : Int) (D : eC α) (w : World) (e : Ending) (w' : World) : Prop :=
 But p w w' ∧ if f ≠ 0 then e = .returned z ∧ Rdr w' p s f else match D with
  | .ok (x, r) => ∃ v t, e = .returned v ∧ V x v w w' ∧ Rdr w' p t 0 ∧ t.l = r ∧ s.Same t
  | .error c => e = .returned z ∧ Rdr w' p s c
theorem Fac.sticks {α : Type} {V : α → Value → World → World → Prop} {z : Value} {p : Nat} {s : Sl} {f : Int} {D : eC α} {w w' : World}
  (hf : f ≠ 0) (hB : Below w.heap.size w w') (h : Rdr w p s f) : Fac V z p s f D w (.returned z) w' := by
 refine ⟨But.of_below hB, ?_⟩
 rw [if_pos hf]
 exact ⟨rfl, h.arr.later hB, h.ok.later hB, fun x hx => ⟨(h.off x hx).1, Nat.lt_of_lt_of_le (h.off x hx).2 hB.size⟩⟩
def Lasts {α : Type} (V : α → Value → World → World → Prop) : Prop :=
 ∀ x v w0 w1 w2 w3 p l, V x v w1 w2 → w0.heap.size ≤ w1.heap.size → But p w2 w3 → Arr w2 p 452 l → V x v w0 w3
theorem lasts_I (k : IntKind) : Lasts (isI k) := fun _ _ _ _ _ _ _ _ h _ _ _ => h
theorem lasts_T : Lasts isT := fun _ _ _ _ _ _ _ _ h _ _ _ => h
theorem lasts_L : Lasts isL := by
 intro x v w0 w1 w2 w3 p l h hs hB hA
 refine ⟨dC ((Buts.of_but hB).own h.1 ?_) hs, h.2⟩
 intro g hg e
 subst e
 exact gJ h.1 hA (by decide) hg
theorem Fac.yes {α : Type} {V : α → Value → World → World → Prop} (hL : Lasts V) {z : Value} {p u : Nat} {s t : Sl} {D : eC α} {w W w' : World} {x : α} {r : List Int} {v : Value}
  (hD : D = .ok (x, r)) (h : Rdr w p s 0) (hb : Below w.heap.size w W) (hB : But u W w') (hu : w.heap.size ≤ u) (hV : V x v W w') (hU : Unr w' u t) (hr : t.l = r) (hS : s.Same t) :
  Fac V z p s 0 D w (.returned v) (w'.setCell ⟨p, 0, none⟩ t.v) := by
 subst hD
 have hpu : p ≠ u := by have := h.arr.lt; omega
 have hA : Arr w' p 452 [s.v, .int .i64 0] := hB.arr (h.arr.later hb) hpu
 have hB3 : But p w' (w'.setCell ⟨p, 0, none⟩ t.v) := (But.refl p w').setCell 0 _
 have hoff : ∀ x, t.a = some x → x.block ≠ p ∧ x.block < w'.heap.size := fun x hx => by
  obtain ⟨y, hy, e⟩ := hS x hx
  have := h.off y hy
  rw [← e]; exact ⟨this.1, Nat.lt_of_lt_of_le this.2 (Nat.le_trans hb.size hB.size)⟩
 refine ⟨⟨hB3.os.trans (hB.os.trans hb.os), hB3.tape.trans (hB.tape.trans hb.tape), hB3.output.trans (hB.output.trans hb.output), Nat.le_trans hb.size (Nat.le_trans hB.size hB3.size), fun k hk hp => ?_⟩, ?_⟩
 ·rw [hB3.block k (Nat.lt_of_lt_of_le hk (Nat.le_trans hb.size hB.size)) hp, hB.block k (Nat.lt_of_lt_of_le hk hb.size) (by omega), hb.block k hk]
 ·rw [if_neg (by simp)]
  exact ⟨v, t, rfl, hL x v w W w' _ p _ hV hb.size hB3 hA, ⟨by simpa using hA.set 0 t.v, hB3.ok hU.ok (fun _ x hx => (hoff x hx).1), fun x hx => ⟨(hoff x hx).1, Nat.lt_of_lt_of_le (hoff x hx).2 hB3.size⟩⟩, hr, hS⟩
theorem Fac.no {α : Type} {V : α → Value → World → World → Prop} {z : Value} {p u : Nat} {s : Sl} {D : eC α} {w W w' w'' : World} {c : Int}
  (hD : D = .error c) (h : Rdr w p s 0) (hb : Below w.heap.size w W) (hB : But u W w') (hu : w.heap.size ≤ u) (hA : Arr w'' p 452 [s.v, .int .i64 c]) (hB3 : But p w' w'') :
  Fac V z p s 0 D w (.returned z) w'' := by
 subst hD
 refine ⟨⟨hB3.os.trans (hB.os.trans hb.os), hB3.tape.trans (hB.tape.trans hb.tape), hB3.output.trans (hB.output.trans hb.output), Nat.le_trans hb.size (Nat.le_trans hB.size hB3.size), fun k hk hp => ?_⟩, ?_⟩
 ·rw [hB3.block k (Nat.lt_of_lt_of_le hk (Nat.le_trans hb.size hB.size)) hp, hB.block k (Nat.lt_of_lt_of_le hk hb.size) (by omega), hb.block k hk]
 ·rw [if_neg (by simp)]
  refine ⟨rfl, hA, ?_, fun x hx => ⟨(h.off x hx).1, Nat.lt_of_lt_of_le (h.off x hx).2 (Nat.le_trans hb.size (Nat.le_trans hB.size hB3.size))⟩⟩
  exact hB3.ok (hB.ok (h.ok.later hb) (fun _ x hx => by have := (h.off x hx).2; omega)) (fun _ x hx => (h.off x hx).1)
theorem Rdr.after {w W w' : World} {p : Nat} {s : Sl} {f : Int} (h : Rdr w p s f) {ty : TypeId} {x : Value} (A1 : Arr W w.heap.size ty [x]) (hb : Below w.heap.size w W) (hB : But (w.heap.size + 1) W w') :
  w'.cell? ⟨w.heap.size, 0, none⟩ = some x ∧ w'.cell? ⟨p, 0, none⟩ = some (.slice s.a s.n s.c) ∧ w'.frozen? ⟨p, 0, none⟩ = false ∧ Arr w' w.heap.size ty [x] ∧ Arr w' p 452 [s.v, .int .i64 f] := by
 have A1' := hB.arr A1 (by omega)
 have Ap := hB.arr (h.arr.later hb) (by have := h.arr.lt; omega)
 exact ⟨by simpa using A1'.cell 0, by simpa [Sl.v] using Ap.cell 0, Ap.frozen 0, A1', Ap⟩
theorem Unr.cell' {w : World} {u : Nat} {s : Sl} (h : Unr w u s) : w.cell? ⟨u, 0, none⟩ = some (.slice s.a s.n s.c) := h.cell
theorem Rdr.unr {w W : World} {p : Nat} {s : Sl} {f : Int} (h : Rdr w p s f) (hb : Below w.heap.size w W) {u : Nat} (hu : w.heap.size ≤ u) (hA : Arr W u 450 [s.v]) : Unr W u s :=
 ⟨hA, h.ok.later hb, fun _ x hx => by have := (h.off x hx).2; omega⟩
end Go.Proofs.YtejagcngbgnogaaGreat
