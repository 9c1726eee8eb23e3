import Derived.Test.YtejagcngbgnogaaGreatQShr
import Derived.Test.YtejagcngbgnogaaGreatQGadZ
import Derived.Test.YtejagcngbgnogaaGreatQGacZ
import Derived.Test.YtejagcngbgnogaaGreatProg
set_option maxHeartbeats 1000000
set_option maxRecDepth 100000
namespace Go.Proofs.YtejagcngbgnogaaGreat
open Go.RowKit
theorem cat_one (s : Sl) : cat [s] = s.l := by simp [cat]
section
open Go.Proofs.YtejagcngbgnogaaGreat renaming cat_one → z95a
theorem join_one (s : Sl) (w : World) (hs : s.Ok w) (hm : s.n ≤ 1099511627776) :
  Calls Tryz.prog 377 #[.slice (some ⟨w.heap.size, 0, none⟩) 1 1] (w.alloc (.cells #[s.v] 33)) fun e w' => ∃ v, e = .returned v ∧ w'.ownsRow (w.heap.size + 1) 5 1 v s.l.length (U8 s.l) ∧ Below w.heap.size w w' := by
 have hb : Below w.heap.size w (w.alloc (.cells #[s.v] 33)) := (Below.refl _ _).alloc (Nat.le_refl _) _
 exact sh95
end
theorem fixed1_any (u bx : Nat) (s : Sl) (n : Int) (w : World) (h : Unr w u s) (hb : Arr w bx 3 [.int .i64 n]) (hm : s.n ≤ 1099511627776) :
  Calls Tryz.prog 387 #[.pointer (some ⟨u, 0, none⟩), .pointer (some ⟨bx, 0, none⟩)] w (Prs isL u s (bX n s.l) w) := by
 have cb : w.cell? ⟨bx, 0, none⟩ = some (.int .i64 n) := by simpa using hb.cell 0
 have hlen := h.ok.len
 by_cases hn : n < 0 ∨ (s.n : Int) < n
 ·have HP : Hid (bX n s.l = .error 90) := by unfold bX; rw [if_pos (by rw [hlen]; exact hn)]; exact aA rfl
  have hT := take_no u s n w h hn
  clear hn
  go_enter Tryz.func387, Tryz.ntmps387
  go_wp2_with (go_at_call 388; refine hT.mono ?_; rintro e w' ⟨rfl, rfl⟩; unfold gives)
  exact ⟨rfl, Prs.no (unhide HP) (But.refl _ _)⟩
 ·obtain ⟨k, rfl⟩ : ∃ k : Nat, n = k := ⟨n.toNat, by omega⟩
  have hk : k ≤ s.n := by omega
  have HP : Hid (bX k s.l = .ok (s.l.take k, s.l.drop k)) := by unfold bX; rw [if_neg (by rw [hlen]; exact hn)]; exact aA rfl
  have hT := take_ok u s k w h hk
  have hset := h.set hk
  have hpre := (Unr.but (w := w) (u := u) (s.cut k).v).ok (h.ok.pre hk) (Sl.off_same (s := s) (t := s.pre k) (fun x hx => ⟨x, hx, rfl⟩) (by simp only [Sl.pre, List.length_take]; omega) h.off)
  have hJ := join_one (s.pre k) (w.setCell ⟨u, 0, none⟩ (s.cut k).v) hpre (by simp only [Sl.pre]; omega)
  have hpv : (s.pre k).v = .slice s.a k s.c := rfl
  rw [hpv] at hT hJ
  have HL : Hid ((s.pre k).l = s.l.take k) := aA rfl
  clear hn
  go_enter Tryz.func387, Tryz.ntmps387
  go_wp2_with (first
   | (go_at_call 388; refine hT.mono ?_; rintro e w' ⟨rfl, rfl⟩)
   | (go_at_call 377; refine Calls.mono (by simpa using hJ) ?_; rintro e w' ⟨v, rfl, hown, hbel⟩))
  go_ret
  rw [unhide HL] at hown
  have hs0 : (w.setCell ⟨u, 0, none⟩ (s.cut k).v).heap.size = w.heap.size := by simp
  rw [← hs0] at hbel
  have hbut : But u w w' := ((Unr.but (w := w) (u := u) (s.cut k).v)).trans (But.of_below hbel)
  refine Prs.yes (unhide HP) hbut ?_ ⟨hset.arr.later hbel, hset.ok.later hbel, hset.off⟩ rfl (s.same_cut k)
  exact ⟨dC hown (by simp), h.ok.isB.take k⟩
end Go.Proofs.YtejagcngbgnogaaGreat

set_option maxHeartbeats 1000000
set_option maxRecDepth 100000
namespace Go.Proofs.YtejagcngbgnogaaGreat
open Go.RowKit
section
open Go.Proofs.YtejagcngbgnogaaGreat renaming fourBytes_any → z65a, dV → z65b, nq415 → z65f, idle_w → z65g, catch_w → z65h
open Go.Proofs.Tryz renaming func390 → z65c, ntmps390 → z65d
theorem read_u32 (p : Nat) (s : Sl) (f : Int) (w : World) (h : Rdr w p s f) :
  Calls Tryz.prog 390 #[.pointer (some ⟨p, 0, none⟩), .func (.func 391) #[] #[]] w (Fac (isI .u32) (.int .u32 0) p s f (dV s.l) w) := sh65
end
section
open Go.Proofs.YtejagcngbgnogaaGreat renaming uV → z65a, eP → z65b, nq411 → z65f, idle_q → z65g, catch_q → z65h
open Go.Proofs.Tryz renaming func384 → z65c, ntmps384 → z65d
theorem read_u64 (p : Nat) (s : Sl) (f : Int) (w : World) (h : Rdr w p s f) :
  Calls Tryz.prog 384 #[.pointer (some ⟨p, 0, none⟩), .func (.func 385) #[] #[]] w (Fac (isI .u64) (.int .u64 0) p s f (eP s.l) w) := sh65
theorem rs137 {G : Prop} (h : G := by
 have hI := zeroOrOne_any (w.heap.size + 1) s W (h.unr hb (by omega) A2)
 cases hP : cH s.l with
 | ok q =>
  exact sh93
 | error c =>
  exact sh71) : G := h
open Go.Proofs.Tryz renaming func392 → z71a, ntmps392 → z71b, func392 → z93a, ntmps392 → z93b, func392 → z151a, ntmps392 → z151b
open Go.Proofs.YtejagcngbgnogaaGreat renaming nq417 → z71d, catch_t → z71e, nq417 → z93d, idle_t → z93e, lasts_T → z93f, rs137 → z151rr
theorem read_bool (p : Nat) (s : Sl) (f : Int) (w : World) (h : Rdr w p s f) :
  Calls Tryz.prog 392 #[.pointer (some ⟨p, 0, none⟩), .func (.func 393) #[] #[]] w (Fac isT (.bool false) p s f (cH s.l) w) := sh151
end
section
theorem rs138 {G : Prop} (h : G := by
 have hI := fixed1_any (w.heap.size + 1) bx s n W (h.unr hb (by omega) A2) (hbx.later hb) hm
 cases hP : bX n s.l with
 | ok q =>
  exact sh93
 | error c =>
  exact sh71) : G := h
open Go.Proofs.Tryz renaming func386 → z71a, ntmps386 → z71b, func386 → z93a, ntmps386 → z93b, func386 → z151a, ntmps386 → z151b
open Go.Proofs.YtejagcngbgnogaaGreat renaming nq413 → z71d, catch_by → z71e, nq413 → z93d, idle_by → z93e, lasts_L → z93f, rs138 → z151rr
theorem read_fixed (p : Nat) (s : Sl) (f : Int) (w : World) (bx : Nat) (n : Int) (h : Rdr w p s f) (hbx : Arr w bx 3 [.int .i64 n]) (hm : s.n ≤ 1099511627776) :
  Calls Tryz.prog 386 #[.pointer (some ⟨p, 0, none⟩), .func (.func 387) #[] #[.pointer (some ⟨bx, 0, none⟩)]] w (Fac isL (.slice none 0 0) p s f (bX n s.l) w) := sh151
end
end Go.Proofs.YtejagcngbgnogaaGreat

namespace Go.Proofs.YtejagcngbgnogaaGreat
open Go.RowKit
theorem Fac.ret {α : Type} {V : α → Value → World → World → Prop} {z : Value} {p : Nat} {s : Sl} {f : Int} {D : eC α} {w w' : World} {e : Ending} (h : Fac V z p s f D w e w') : ∃ v, e = .returned v := by
 obtain ⟨-, h⟩ := h
 split at h
 ·exact ⟨z, h.1⟩
 ·split at h
  ·obtain ⟨v, _, rfl, -⟩ := h; exact ⟨v, rfl⟩
  ·exact ⟨z, h.1⟩
theorem Rdr.later {w w' : World} {p : Nat} {s : Sl} {f : Int} (h : Rdr w p s f) (hb : Below w.heap.size w w') : Rdr w' p s f :=
 ⟨h.arr.later hb, h.ok.later hb, fun x hx => ⟨(h.off x hx).1, Nat.lt_of_lt_of_le (h.off x hx).2 hb.size⟩⟩
theorem Rdr.keep {S : Nat → Prop} {w w' : World} {p : Nat} {s : Sl} {f : Int} (h : Rdr w p s f) (hb : Buts S w w') (hp : ¬ S p) (hs : 0 < s.l.length → ∀ x, s.a = some x → ¬ S x.block) : Rdr w' p s f :=
 ⟨hb.arr h.arr hp, hb.ok h.ok hs, fun x hx => ⟨(h.off x hx).1, Nat.lt_of_lt_of_le (h.off x hx).2 hb.size⟩⟩
theorem Fac.early {α : Type} {V : α → Value → World → World → Prop} (hL : Lasts V) {z : Value} {p : Nat} {s : Sl} {f : Int} {D : eC α} {w W w' : World} {e : Ending} (h : Fac V z p s f D W e w') (hb : Below w.heap.size w W) : Fac V z p s f D w e w' := by
 obtain ⟨hB, h⟩ := h
 refine ⟨⟨hB.os.trans hb.os, hB.tape.trans hb.tape, hB.output.trans hb.output, Nat.le_trans hb.size hB.size, fun k hk hp => (hB.block k (Nat.lt_of_lt_of_le hk hb.size) hp).trans (hb.block k hk)⟩, ?_⟩
 split at h
 ·rename_i hf
  rw [if_pos hf]; exact h
 ·rename_i hf
  rw [if_neg hf]
  split at h
  ·obtain ⟨v, t, he, hV, hR, hr, hS⟩ := h
   exact ⟨v, t, he, hL _ _ w W w' w' p _ hV hb.size (But.refl _ _) hR.arr, hR, hr, hS⟩
  ·exact h
theorem rU32_any (p : Nat) (s : Sl) (f : Int) (w : World) (h : Rdr w p s f) :
  Calls Tryz.prog 305 #[.pointer (some ⟨p, 0, none⟩)] w (Fac (isI .u32) (.int .u32 0) p s f (dV s.l) w) := by
 go_enter Tryz.func305, Tryz.ntmps305
 go_wp2_with (go_at_call 390; refine (read_u32 p s f w h).mono ?_; rintro e w' hF; obtain ⟨v, rfl⟩ := hF.ret)
 go_ret
 exact hF
theorem rU64_any (p : Nat) (s : Sl) (f : Int) (w : World) (h : Rdr w p s f) :
  Calls Tryz.prog 288 #[.pointer (some ⟨p, 0, none⟩)] w (Fac (isI .u64) (.int .u64 0) p s f (eP s.l) w) := by
 go_enter Tryz.func288, Tryz.ntmps288
 go_wp2_with (go_at_call 384; refine (read_u64 p s f w h).mono ?_; rintro e w' hF; obtain ⟨v, rfl⟩ := hF.ret)
 go_ret
 exact hF
theorem rBool_any (p : Nat) (s : Sl) (f : Int) (w : World) (h : Rdr w p s f) :
  Calls Tryz.prog 324 #[.pointer (some ⟨p, 0, none⟩)] w (Fac isT (.bool false) p s f (cH s.l) w) := by
 go_enter Tryz.func324, Tryz.ntmps324
 go_wp2_with (go_at_call 392; refine (read_bool p s f w h).mono ?_; rintro e w' hF; obtain ⟨v, rfl⟩ := hF.ret)
 go_ret
 exact hF
theorem rFixed_any (p : Nat) (s : Sl) (f : Int) (n : Int) (w : World) (h : Rdr w p s f) (hm : s.n ≤ 1099511627776) :
  Calls Tryz.prog 293 #[.pointer (some ⟨p, 0, none⟩), .int .i64 n] w (Fac isL (.slice none 0 0) p s f (bX n s.l) w) := by
 have hmf : ∀ (fn : Fn) (first cap : Array Value) (w : World), (Instr.makeFunc fn first cap).run Tryz.prog w = .ok (.func fn first cap) w := fun _ _ _ _ => rfl
 have hb : Below w.heap.size w (w.alloc (.cells #[.int .i64 n] 3)) := (Below.refl _ _).alloc (Nat.le_refl _) _
 have hA : Arr (w.alloc (.cells #[.int .i64 n] 3)) w.heap.size 3 [.int .i64 n] := Arr.new w _ [.int .i64 n]
 go_enter Tryz.func293, Tryz.ntmps293
 go_wp2_with (go_at_call 386; refine (read_fixed p s f _ w.heap.size n (h.later hb) hA hm).mono ?_; rintro e w' hF; obtain ⟨v, rfl⟩ := hF.ret)
 go_ret
 exact hF.early lasts_L hb
theorem rLeft_any (p : Nat) (s : Sl) (f : Int) (w : World) (h : Rdr w p s f) :
  Calls Tryz.prog 378 #[.pointer (some ⟨p, 0, none⟩)] w fun e w' => e = .returned (.int .i64 s.l.length) ∧ w' = w := by
 have c0 : w.cell? ⟨p, 0, none⟩ = some (.slice s.a s.n s.c) := by simpa [Sl.v] using h.arr.cell 0
 rw [h.ok.len]
 go_enter Tryz.func378, Tryz.ntmps378
 go_wp2
 go_ret
 exact ⟨rfl, rfl⟩
def rEnd (l : List Int) (f : Int) : Int := if f = 0 ∧ 0 < l.length then 90 else f
theorem fS (p : Nat) (s : Sl) (f : Int) (w : World) (h : Rdr w p s f) :
  Calls Tryz.prog 237 #[.pointer (some ⟨p, 0, none⟩)] w fun e w' => e = .returned (.int .i64 (rEnd s.l f)) ∧ w' = w := by
 have c1 : w.cell? ⟨p, 1, none⟩ = some (.int .i64 f) := by simpa using h.arr.cell 1
 have hL := rLeft_any p s f w h
 by_cases hf : f = 0
 ·subst hf
  by_cases hl : 0 < s.l.length
  ·have HE : Hid (rEnd s.l 0 = 90) := by unfold rEnd; rw [if_pos ⟨rfl, hl⟩]; exact aA rfl
   exact sh111
  ·have HE : Hid (rEnd s.l 0 = 0) := by unfold rEnd; rw [if_neg (fun h => hl h.2)]; exact aA rfl
   exact sh111
 ·have HE : Hid (rEnd s.l f = f) := by unfold rEnd; rw [if_neg (fun h => hf h.1)]; exact aA rfl
  rw [unhide HE]
  go_enter Tryz.func237, Tryz.ntmps237
  go_wp2
  go_ret
  exact ⟨rfl, rfl⟩
theorem newReader_any (b : Sl) (w : World) (hb : b.Ok w) (hm : b.n ≤ 1099511627776) :
  Calls Tryz.prog 235 #[b.v] w fun e w' => ∃ p s, e = .returned (.pointer (some ⟨p, 0, none⟩)) ∧ Rdr w' p s 0 ∧ s.l = b.l ∧ w.heap.size ≤ p ∧ (∀ x, s.a = some x → w.heap.size ≤ x.block) ∧ Below w.heap.size w w' := by
 have hJ := join_one b w hb hm
 obtain ⟨ba, bn, bc, bl⟩ := b
 simp only [Sl.v] at *
 go_enter Tryz.func235, Tryz.ntmps235
 go_wp2_with (go_at_call 377; refine hJ.mono ?_; rintro e w' ⟨v, rfl, hown, hbel⟩; obtain ⟨s, rfl, hok, hsl, hsn, hge⟩ := iH hown hb.isB; obtain ⟨sa, sn, sc, sl⟩ := s; simp only [Sl.v])
 go_ret
 subst hsn
 have hlt : ∀ x, sa = some x → x.block < w'.heap.size := fun x hx => by subst hx; exact (hown.lt x.block rfl).2
 have hb2 : Below w'.heap.size w' (w'.alloc (.cells #[.slice sa bl.length sc, .int .i64 0] 452)) := (Below.refl _ _).alloc (Nat.le_refl _) _
 refine ⟨w'.heap.size, rfl, ⟨sa, bl.length, sc, sl⟩, ⟨Arr.new w' _ [.slice sa bl.length sc, .int .i64 0], hok.later hb2, fun x hx => ⟨?_, Nat.lt_of_lt_of_le (hlt x hx) hb2.size⟩⟩, hsl, hbel.size, fun x hx => Nat.le_of_succ_le (hge x hx), hbel.trans (hb2.mono hbel.size)⟩
 have := hlt x hx
 omega
theorem gT {P : Program} (w : World) (base : Nat) (t ty e : TypeId) (i : TypeInfo) (z : Value) (size bytes : Nat) (ht : P.underlying t = some (.slice e)) (hi : P.info? e = some i) (hz : i.zero = some z)
  (hsize : i.size = size) (hby : i.bytes = bytes) (hzs : z.cells.size = size) (hsz : 0 < size)
  (v : Value) (n : Nat) (xs : List Value) (hown : w.ownsRow base e size v n xs)
  (a : Addr) (m c : Nat) (news : List Value) (hl : news.length = m * size) (hnews : ∀ j u, news[j]? = some u → w.cell? (a.add j) = some u) (h1 : ∀ u ∈ news, u.oneCell' = true)
  (h63 : n + m ≤ maxLen) (hbytes : (n + m) * bytes ≤ 140737488355328) (hbase : base ≤ w.heap.size) :
  ∃ v' w', (Builtin.append_ #[t, t] ty #[v, .slice (some a) m c]).run P w = .ok v' w' ∧ w'.ownsRow base e size v' (n + m) (xs ++ news) ∧ w.grownBy w' v.ownBlock ∧
   (v'.ownBlock = v.ownBlock ∨ v'.ownBlock = some w.heap.size) := by
 obtain ⟨v', w', hr, h2, h3, h4⟩ := run_append_own (P := P) w base t ty e i z size bytes ht hi hz hsize hby hzs hsz v n xs hown a m c news hl hnews h1 h63 hbytes hbase
 refine ⟨v', w', hr, h2, h3, ?_⟩
 subst hsize
 subst hby
 have hsmall : n + m ≤ 9223372036854775807 := by simp only [maxLen] at h63; omega
 rcases hown.2 with ⟨rfl, rfl⟩ | ⟨g, cap, cur, rfl, hbg, hg, hnc, hcm, hcs, htake⟩
 ·by_cases hm : m = 0
  ·left; rw [h4.2 ⟨rfl, hm⟩]
  ·have hr2 := run_append_nil (P := P) w t ty e i z ht hi hz a m c news hl hnews (by omega) (by omega) (by have hb := hbytes; simp only [Nat.zero_add] at hb; omega)
   rw [hr] at hr2
   injection hr2 with e1 e2
   right; rw [e1]; rfl
 ·by_cases hroom : n + m ≤ cap
  ·have hfit : n * i.size + news.length ≤ cur.size := by rw [hl, hcs, ← Nat.add_mul]; exact Nat.mul_le_mul_right _ hroom
   have hr2 := run_append_room (P := P) w t ty e i ht hi g n cap cur hg a m c news hl hnews h1 hroom hfit
   rw [hr] at hr2
   injection hr2 with e1 e2
   left; rw [e1]; rfl
  ·have holds : ∀ j u, xs[j]? = some u → w.cell? ((⟨g, 0, none⟩ : Addr).add j) = some u := hown.cells (g := g) rfl
   have hr2 := run_append_grow (P := P) w t ty e i z ht hi hz ⟨g, 0, none⟩ n cap xs hown.1 holds a m c news hl hnews (by omega) (by omega) (growslice_fits (by omega) hbytes)
   rw [hr] at hr2
   injection hr2 with e1 e2
   right; rw [e1]; rfl
theorem eG {P : Program} {w : World} {ops : Array Oper} {rest : List Oper} {o : Oper} {a : Act} {Q : Exit → Act → World → Prop} (hgd : o.guard = none) (s x : Operand) (t : TypeId)
  (ho : o.op = .call { callee := .builtin .append, args := #[s, x], argTypes := #[t, t] })
  (base : Nat) (e : TypeId) (i : TypeInfo) (z : Value) (size bytes : Nat) (ht : P.underlying t = some (.slice e)) (hi : P.info? e = some i) (hz : i.zero = some z)
  (hsize : i.size = size) (hby : i.bytes = bytes) (hzs : z.cells.size = size) (hsz : 0 < size)
  (v : Value) (n : Nat) (xs : List Value) (hs : a.eval s = v) (hown : w.ownsRow base e size v n xs)
  (ad : Addr) (m c : Nat) (news : List Value) (hx : a.eval x = .slice (some ad) m c) (hl : news.length = m * size) (hnews : ∀ j u, news[j]? = some u → w.cell? (ad.add j) = some u) (h1 : ∀ u ∈ news, u.oneCell' = true)
  (h63 : n + m ≤ maxLen) (hbytes : (n + m) * bytes ≤ 140737488355328) (hbase : base ≤ w.heap.size)
  (h : ∀ v' w', Hid (w'.ownsRow base e size v' (n + m) (xs ++ news)) → Hid (w.grownBy w' v.ownBlock) → Hid (v'.ownBlock = v.ownBlock ∨ v'.ownBlock = some w.heap.size) → wpList P ops Q rest (a.put o.dst v') w') : wpList P ops Q (o :: rest) a w := by
 refine wpList_plain hgd fun K hK => ?_
 obtain ⟨v', w', hr, h2, h3, h4⟩ := gT (P := P) w base t o.type e i z size bytes ht hi hz hsize hby hzs hsz v n xs hown ad m c news hl hnews h1 h63 hbytes hbase
 unfold Oper.wp execOp
 simp only [ho, resolve, invoke, builtin, Sem.run_bind, Sem.run_pure, Result.andThen_ok, List.map_toArray, List.map_cons, List.map_nil, hs, hx, hr]
 exact hK _ _ (h v' w' h2 h3 h4)
def Apt (v u : Value) : Prop := v.ownBlock = none ∨ v.ownBlock ≠ u.ownBlock
theorem Apt.symm {v u : Value} (h : Apt v u) : Apt u v := by
  unfold Apt at *
  cases hu : u.ownBlock with
  | none => exact .inl rfl
  | some k => right; intro e; rcases h with h | h
              · rw [h] at e; cases e
              · exact h (e.symm.trans hu.symm ▸ e.symm ▸ rfl)
theorem Apt.grown {w : World} {base e n : Nat} {v v' u : Value} {xs : List Value} (h : Apt v u) (hu : w.ownsRow base e 1 u n xs) (hv : v'.ownBlock = v.ownBlock ∨ v'.ownBlock = some w.heap.size) : Apt v' u := by
 unfold Apt at *
 rcases hv with hv | hv
 ·rw [hv]; exact h
 ·right
  rw [hv]
  intro e1
  have := (hu.lt _ e1.symm).2
  omega
theorem gF {P : Program} {w : World} {ops : Array Oper} {rest : List Oper} {o : Oper} {a : Act} {Q : Exit → Act → World → Prop} (hgd : o.guard = none) (s x : Operand) (t : TypeId)
  (ho : o.op = .call { callee := .builtin .append, args := #[s, x], argTypes := #[t, t] })
  (base : Nat) (e : TypeId) (i : TypeInfo) (z : Value) (ht : P.underlying t = some (.slice e)) (hi : P.info? e = some i) (hz : i.zero = some z) (hsize : i.size = 1) (hby : i.bytes = 1) (hzs : z.cells.size = 1)
  (v : Value) (n : Nat) (xs : List Value) (hs : a.eval s = v) (hown : w.ownsRow base e 1 v n xs) (d : Sl) (hd : d.Ok w) (hx : a.eval x = .slice d.a d.n d.c)
  (hb : n + d.n ≤ 140737488355328) (hbase : base ≤ w.heap.size)
  (h : ∀ v' w', Hid (w'.ownsRow base e 1 v' (n + d.n) (xs ++ U8 d.l)) → Hid (w.grownBy w' v.ownBlock) → Hid (v'.ownBlock = v.ownBlock ∨ v'.ownBlock = some w.heap.size) → wpList P ops Q rest (a.put o.dst v') w') : wpList P ops Q (o :: rest) a w := by
 cases hda : d.a with
 | none =>
  obtain ⟨h0, hc0⟩ := hd.nn hda
  have hl0 : d.l = [] := List.eq_nil_of_length_eq_zero (by rw [hd.len, h0])
  refine wpList_append_own_none hgd s x t ho base e i 1 ht hi v n xs hs hown (by rw [hx, hda, h0, hc0]) ?_
  refine h v w (show _ from ?_) (show _ from World.grownBy.refl w _) (show _ from .inl rfl)
  have h2 : w.ownsRow base e 1 v (n + d.n) (xs ++ U8 d.l) := by rw [h0, hl0]; simpa [U8] using hown
  exact h2
 | some ad =>
  exact eG hgd s x t ho base e i z 1 1 ht hi hz hsize hby hzs (by decide) v n xs hs hown ad d.n d.c (U8 d.l) (by rw [hx, hda]) (by rw [U8_length, hd.len, Nat.mul_one]) (hd.cells ad hda) (U8_one _) (by unfold maxLen; omega) (by omega) hbase h
theorem bK {w : World} {base e sz n : Nat} {v : Value} {xs : List Value} (h : w.ownsRow base e sz v n xs) : ∃ a c, v = .slice a n c := by
 rcases h.2 with ⟨rfl, rfl⟩ | ⟨g, cap, cur, rfl, -⟩
 ·exact ⟨_, _, rfl⟩
 ·exact ⟨_, _, rfl⟩
structure Wtr (w : World) (base p : Nat) (lv : Value) (l : List Int) (f : Int) : Prop where
 arr : Arr w p 460 [lv, .int .i64 f]
 own : w.ownsRow base 5 1 lv l.length (U8 l)
 isB : IsB l
def Wset (p : Nat) (lv : Value) (k : Nat) : Prop := k = p ∨ lv.ownBlock = some k
structure Wst (base p : Nat) (lv : Value) (l' : List Int) (f' : Int) (w w' : World) (lv' : Value) : Prop where
 wtr : Wtr w' base p lv' l' f'
 but : Buts (Wset p lv) w w'
 at_ : ∀ k, lv'.ownBlock = some k → lv.ownBlock = some k ∨ w.heap.size ≤ k
theorem Wst.refl {base p : Nat} {lv : Value} {l : List Int} {f : Int} {w : World} (h : Wtr w base p lv l f) : Wst base p lv l f w w lv :=
 ⟨h, Buts.refl _ _, fun _ h => .inl h⟩
theorem Wst.trans {base p : Nat} {lv lv1 lv2 : Value} {l1 l2 : List Int} {f1 f2 : Int} {w w1 w2 : World} (hp : p < w.heap.size) (h : Wst base p lv l1 f1 w w1 lv1) (k : Wst base p lv1 l2 f2 w1 w2 lv2) : Wst base p lv l2 f2 w w2 lv2 := sh104
theorem Wtr.later {w w' : World} {base p : Nat} {lv : Value} {l : List Int} {f : Int} (h : Wtr w base p lv l f) (hb : Below w.heap.size w w') : Wtr w' base p lv l f :=
 ⟨h.arr.later hb, iB h.own hb, h.isB⟩
theorem Wst.later {base p : Nat} {lv lv' : Value} {l : List Int} {f : Int} {w W w' : World} (hb : Below w.heap.size w W) (h : Wst base p lv l f W w' lv') : Wst base p lv l f w w' lv' :=
 ⟨h.wtr, (Buts.of_below hb).trans h.but, fun k hk => (h.at_ k hk).imp id (fun h1 => Nat.le_trans hb.size h1)⟩
theorem Wtr.keep {S : Nat → Prop} {w w' : World} {base p : Nat} {lv : Value} {l : List Int} {f : Int} (h : Wtr w base p lv l f) (hb : Buts S w w') (hp : ¬ S p) (hl : ∀ k, lv.ownBlock = some k → ¬ S k) : Wtr w' base p lv l f :=
 ⟨hb.arr h.arr hp, hb.own h.own hl, h.isB⟩
theorem Wtr.ne {w : World} {base p : Nat} {lv : Value} {l : List Int} {f : Int} (h : Wtr w base p lv l f) : lv.ownBlock ≠ some p := gJ h.own h.arr (by decide)
def bZ (b : List Int) (st : List Int × Int) : List Int × Int := if st.2 = 0 then (st.1 ++ b, 0) else st
def wCount (n : Nat) (most : Int) (st : List Int × Int) : List Int × Int := if most < (n : Int) then (st.1, 1) else bZ (sho n) st
def wBytes (b : List Int) (most : Int) (st : List Int × Int) : List Int × Int := bZ b (wCount b.length most st)
def wList (L : List Int) (most : Int) (st : List Int × Int) : List Int × Int := L.foldl (fun st x => bZ (sho x.toNat) st) (wCount L.length most st)
def fZ (base p : Nat) (lv : Value) (st : List Int × Int) (w : World) (e : Ending) (w' : World) : Prop :=
 e = .returned (.tuple #[]) ∧ ∃ lv', Wst base p lv st.1 st.2 w w' lv'
theorem one_ok (w : World) (x : Int) (h0 : 0 ≤ x) (h1 : x ≤ 255) : Sl.Ok (w.alloc (.cells #[.int .u8 x] 5)) ⟨some ⟨w.heap.size, 0, none⟩, 1, 1, [x]⟩ := by
 have hA : Arr (w.alloc (.cells #[.int .u8 x] 5)) w.heap.size 5 (U8 [x]) := Arr.new w _ (U8 [x])
 exact ⟨rfl, Nat.le_refl _, (by unfold maxLen; decide : 1 ≤ maxLen), (fun h => by cases h), (fun y hy => by simp at hy; omega), hA.lies⟩
theorem aJ (w : World) (o : Obj) : Below w.heap.size w (w.alloc o) := (Below.refl _ _).alloc (Nat.le_refl _) _
def Q8 (l : List Int) : List Value := l.map (Value.int .u64)
@[simp] theorem Q8_length (l : List Int) : (Q8 l).length = l.length := by simp [Q8]
theorem Q8_at (l : List Int) (i : Nat) (h : i < l.length) : (Q8 l)[i]? = some (.int .u64 (l.getD i 0)) := by
 simp only [Q8, List.getElem?_map, List.getD_eq_getElem?_getD, List.getElem?_eq_getElem h]; rfl
def IsQ (l : List Int) : Prop := ∀ x ∈ l, 0 ≤ x ∧ x < 18446744073709551616
theorem IsQ.at {l : List Int} (h : IsQ l) (i : Nat) : 0 ≤ l.getD i 0 ∧ l.getD i 0 < 18446744073709551616 := sh101
theorem IsQ.append {a b : List Int} (h : IsQ a) (k : IsQ b) : IsQ (a ++ b) := fun x hx => by
 rcases List.mem_append.1 hx with h' | h'
 ·exact h x h'
 ·exact k x h'
def LiesQ (w : World) (a : Option Addr) (l : List Int) : Prop :=
 0 < l.length → ∃ b off, a = some ⟨b, off, none⟩ ∧ b < w.heap.size ∧ ∀ i, i < l.length → w.cell? ⟨b, off + i, none⟩ = some (.int .u64 (l.getD i 0))
structure Sq where
 a : Option Addr
 n : Nat
 c : Nat
 l : List Int
def Sq.v (s : Sq) : Value := .slice s.a s.n s.c
structure Sq.Ok (w : World) (s : Sq) : Prop where
 len : s.l.length = s.n
 le : s.n ≤ s.c
 mx : s.c ≤ maxLen
 nn : s.a = none → s.n = 0 ∧ s.c = 0
 isQ : IsQ s.l
 lies : LiesQ w s.a s.l
theorem LiesQ.buts {S : Nat → Prop} {a b : World} (x : Buts S a b) {ad : Option Addr} {l : List Int} (hl : LiesQ a ad l) (hg : 0 < l.length → ∀ y, ad = some y → ¬ S y.block) : LiesQ b ad l := sh109
theorem Sq.Ok.keep {S : Nat → Prop} {a b : World} {s : Sq} (h : s.Ok a) (x : Buts S a b) (hg : 0 < s.l.length → ∀ y, s.a = some y → ¬ S y.block) : s.Ok b :=
 ⟨h.len, h.le, h.mx, h.nn, h.isQ, h.lies.buts x hg⟩
theorem Sq.Ok.later {w w' : World} {s : Sq} (h : s.Ok w) (hb : Below w.heap.size w w') : s.Ok w' :=
 h.keep (Buts.of_below (S := fun _ => False) hb) (fun _ _ _ h => h)
section
open Go.Proofs.YtejagcngbgnogaaGreat renaming Q8_at → z100a
theorem Sq.Ok.cells {w : World} {s : Sq} (h : s.Ok w) : ∀ ad, s.a = some ad → ∀ j u, (Q8 s.l)[j]? = some u → w.cell? (ad.add j) = some u := sh100
end
theorem ownq_sq {w : World} {base n : Nat} {v : Value} {l : List Int} (h : w.ownsRow base 215 1 v n (Q8 l)) (hQ : IsQ l) : ∃ s : Sq, v = s.v ∧ s.Ok w ∧ s.l = l ∧ s.n = n ∧ (∀ x, s.a = some x → base ≤ x.block ∧ v.ownBlock = some x.block) := by
 have hl : l.length = n := by have := h.1; simpa using this
 rcases h.2 with ⟨rfl, rfl⟩ | ⟨g, cap, cur, rfl, hb, hg, hnc, hcm, -⟩
 ·exact ⟨⟨none, 0, 0, l⟩, rfl, ⟨by simpa using hl, Nat.le_refl _, Nat.zero_le _, fun _ => ⟨rfl, rfl⟩, hQ, fun hp => by simp only at hp; omega⟩, rfl, rfl, fun _ h => by cases h⟩
 ·refine ⟨⟨some ⟨g, 0, none⟩, n, cap, l⟩, rfl, ⟨hl, hnc, hcm, (fun h => by cases h), hQ, fun hp => ⟨g, 0, rfl, (h.lt g rfl).2, fun i hi => ?_⟩⟩, rfl, rfl, fun x hx => ?_⟩
  ·rw [Nat.zero_add, h.cellAt i (by simp only at hi; omega), Q8_at l i hi]
  ·simp at hx; subst hx; exact ⟨hb, rfl⟩
end Go.Proofs.YtejagcngbgnogaaGreat
