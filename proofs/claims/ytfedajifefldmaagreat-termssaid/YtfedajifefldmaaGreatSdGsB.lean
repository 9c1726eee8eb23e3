import Derived.Test.YtfedajifefldmaaGreatSdGsA
import Derived.Test.YtfedajifefldmaaGreatSdFacW
import Derived.Test.YtfedajifefldmaaGreatSdGrB
import Derived.Test.YtfedajifefldmaaGreatProg
import Derived.Lib.SlBytesConst
import Derived.Laws.BytesArg
import Derived.Lib.SmallJoins
import Derived.Deep.QuietTactic
import Derived.BigQuiet
namespace Go.Proofs.YtfedajifefldmaaGreat
open Go.RowKit
theorem Fac.ret {α : Type} {V : α → Value → World → World → Prop} {z : Value} {p : Nat} {s : Sl} {f : Int} {D : Parse α} {w w' : World} {e : Ending} (h : Fac V z p s f D w e w') : ∃ v, e = .returned v := by
  obtain ⟨-, h⟩ := h
  split at h
  · exact ⟨z, h.1⟩
  · split at h
    · obtain ⟨v, _, rfl, -⟩ := h; exact ⟨v, rfl⟩
    · exact ⟨z, h.1⟩
theorem Rdr.later {w w' : World} {p : Nat} {s : Sl} {f : Int} (h : Rdr w p s f) (hb : Below w.heap.size w w') : Rdr w' p s f :=
  ⟨h.arr.later hb, h.ok.later hb, fun x hx => ⟨(h.off x hx).1, Nat.lt_of_lt_of_le (h.off x hx).2 hb.size⟩⟩
theorem Rdr.keep {S : Nat → Prop} {w w' : World} {p : Nat} {s : Sl} {f : Int} (h : Rdr w p s f) (hb : Buts S w w') (hp : ¬ S p) (hs : 0 < s.l.length → ∀ x, s.a = some x → ¬ S x.block) : Rdr w' p s f :=
  ⟨hb.arr h.arr hp, hb.ok h.ok hs, fun x hx => ⟨(h.off x hx).1, Nat.lt_of_lt_of_le (h.off x hx).2 hb.size⟩⟩
theorem Fac.early {α : Type} {V : α → Value → World → World → Prop} (hL : Lasts V) {z : Value} {p : Nat} {s : Sl} {f : Int} {D : Parse α} {w W w' : World} {e : Ending} (h : Fac V z p s f D W e w') (hb : Below w.heap.size w W) : Fac V z p s f D w e w' := by
  obtain ⟨hB, h⟩ := h
  refine ⟨⟨hB.os.trans hb.os, hB.tape.trans hb.tape, hB.output.trans hb.output, Nat.le_trans hb.size hB.size, fun k hk hp => (hB.block k (Nat.lt_of_lt_of_le hk hb.size) hp).trans (hb.block k hk)⟩, ?_⟩
  split at h
  · rename_i hf
    rw [if_pos hf]; exact h
  · rename_i hf
    rw [if_neg hf]
    split at h
    · obtain ⟨v, t, he, hV, hR, hr, hS⟩ := h
      exact ⟨v, t, he, hL _ _ w W w' w' p _ hV hb.size (But.refl _ _) hR.arr, hR, hr, hS⟩
    · exact h
end Go.Proofs.YtfedajifefldmaaGreat
namespace Go.Proofs.YtfedajifefldmaaGreat
open Go.RowKit
set_option maxHeartbeats 1000000 in
set_option maxRecDepth 100000 in
theorem rU32_any (p : Nat) (s : Sl) (f : Int) (w : World) (h : Rdr w p s f) :
    Calls Tryz.prog 239 #[.pointer (some ⟨p, 0, none⟩)] w (Fac (isI .u32) (.int .u32 0) p s f (pU32 s.l) w) := by
  go_enter Tryz.func239, Tryz.ntmps239
  go_wp2_with (go_at_call 319; refine (read_u32 p s f w h).mono ?_; rintro e w' hF; obtain ⟨v, rfl⟩ := hF.ret)
  go_ret
  exact hF
set_option maxHeartbeats 1000000 in
set_option maxRecDepth 100000 in
theorem rU64_any (p : Nat) (s : Sl) (f : Int) (w : World) (h : Rdr w p s f) :
    Calls Tryz.prog 225 #[.pointer (some ⟨p, 0, none⟩)] w (Fac (isI .u64) (.int .u64 0) p s f (pU64 s.l) w) := by
  go_enter Tryz.func225, Tryz.ntmps225
  go_wp2_with (go_at_call 316; refine (read_u64 p s f w h).mono ?_; rintro e w' hF; obtain ⟨v, rfl⟩ := hF.ret)
  go_ret
  exact hF
set_option maxHeartbeats 1000000 in
set_option maxRecDepth 100000 in
theorem rBool_any (p : Nat) (s : Sl) (f : Int) (w : World) (h : Rdr w p s f) :
    Calls Tryz.prog 258 #[.pointer (some ⟨p, 0, none⟩)] w (Fac isT (.bool false) p s f (pBool s.l) w) := by
  go_enter Tryz.func258, Tryz.ntmps258
  go_wp2_with (go_at_call 321; refine (read_bool p s f w h).mono ?_; rintro e w' hF; obtain ⟨v, rfl⟩ := hF.ret)
  go_ret
  exact hF
set_option maxHeartbeats 1000000 in
set_option maxRecDepth 100000 in
theorem rFixed_any (p : Nat) (s : Sl) (f : Int) (n : Int) (w : World) (h : Rdr w p s f) (hm : s.n ≤ 1099511627776) :
    Calls Tryz.prog 210 #[.pointer (some ⟨p, 0, none⟩), .int .i64 n] w (Fac isL (.slice none 0 0) p s f (pFixed n s.l) w) := by
  have hmf : ∀ (fn : Fn) (first cap : Array Value) (w : World), (Instr.makeFunc fn first cap).run Tryz.prog w = .ok (.func fn first cap) w := fun _ _ _ _ => rfl
  have hb : Below w.heap.size w (w.alloc (.cells #[.int .i64 n] 3)) := (Below.refl _ _).alloc (Nat.le_refl _) _
  have hA : Arr (w.alloc (.cells #[.int .i64 n] 3)) w.heap.size 3 [.int .i64 n] := Arr.new w _ [.int .i64 n]
  go_enter Tryz.func210, Tryz.ntmps210
  go_wp2_with (go_at_call 309; refine (read_fixed p s f _ w.heap.size n (h.later hb) hA hm).mono ?_; rintro e w' hF; obtain ⟨v, rfl⟩ := hF.ret)
  go_ret
  exact hF.early lasts_L hb
set_option maxHeartbeats 1000000 in
set_option maxRecDepth 100000 in
theorem rLeft_any (p : Nat) (s : Sl) (f : Int) (w : World) (h : Rdr w p s f) :
    Calls Tryz.prog 231 #[.pointer (some ⟨p, 0, none⟩)] w fun e w' => e = .returned (.int .i64 s.l.length) ∧ w' = w := by
  have c0 : w.cell? ⟨p, 0, none⟩ = some (.slice s.a s.n s.c) := by simpa [Sl.v] using h.arr.cell 0
  rw [h.ok.len]
  go_enter Tryz.func231, Tryz.ntmps231
  go_wp2
  go_ret
  exact ⟨rfl, rfl⟩
def rEnd (l : List Int) (f : Int) : Int := if f = 0 ∧ 0 < l.length then 90 else f
set_option maxHeartbeats 1000000 in
set_option maxRecDepth 100000 in
theorem rDone_any (p : Nat) (s : Sl) (f : Int) (w : World) (h : Rdr w p s f) :
    Calls Tryz.prog 124 #[.pointer (some ⟨p, 0, none⟩)] w fun e w' => e = .returned (.int .i64 (rEnd s.l f)) ∧ w' = w := by
  have c1 : w.cell? ⟨p, 1, none⟩ = some (.int .i64 f) := by simpa using h.arr.cell 1
  have hL := rLeft_any p s f w h
  by_cases hf : f = 0
  · subst hf
    by_cases hl : 0 < s.l.length
    · have HE : Hid (rEnd s.l 0 = 90) := by unfold rEnd; rw [if_pos ⟨rfl, hl⟩]; exact hide rfl
      rw [unhide HE]
      generalize s.l.length = n at *
      go_enter Tryz.func124, Tryz.ntmps124
      go_wp2_with (go_at_call 231; refine hL.mono ?_; rintro e w' ⟨rfl, rfl⟩)
      go_ret
      exact ⟨rfl, rfl⟩
    · have HE : Hid (rEnd s.l 0 = 0) := by unfold rEnd; rw [if_neg (fun h => hl h.2)]; exact hide rfl
      rw [unhide HE]
      generalize s.l.length = n at *
      go_enter Tryz.func124, Tryz.ntmps124
      go_wp2_with (go_at_call 231; refine hL.mono ?_; rintro e w' ⟨rfl, rfl⟩)
      go_ret
      exact ⟨rfl, rfl⟩
  · have HE : Hid (rEnd s.l f = f) := by unfold rEnd; rw [if_neg (fun h => hf h.1)]; exact hide rfl
    rw [unhide HE]
    go_enter Tryz.func124, Tryz.ntmps124
    go_wp2
    go_ret
    exact ⟨rfl, rfl⟩
set_option maxHeartbeats 1000000 in
set_option maxRecDepth 100000 in
theorem newReader_any (b : Sl) (w : World) (hb : b.Ok w) (hm : b.n ≤ 1099511627776) :
    Calls Tryz.prog 122 #[b.v] w fun e w' => ∃ p s, e = .returned (.pointer (some ⟨p, 0, none⟩)) ∧ Rdr w' p s 0 ∧ s.l = b.l ∧ w.heap.size ≤ p ∧ (∀ x, s.a = some x → w.heap.size ≤ x.block) ∧ Below w.heap.size w w' := by
  have hJ := join_one b w hb hm
  obtain ⟨ba, bn, bc, bl⟩ := b
  simp only [Sl.v] at *
  go_enter Tryz.func122, Tryz.ntmps122
  go_wp2_with (go_at_call 230; refine hJ.mono ?_; rintro e w' ⟨v, rfl, hown, hbel⟩; obtain ⟨s, rfl, hok, hsl, hsn, hge⟩ := own_sl hown hb.isB; obtain ⟨sa, sn, sc, sl⟩ := s; simp only [Sl.v])
  go_ret
  subst hsn
  have hlt : ∀ x, sa = some x → x.block < w'.heap.size := fun x hx => by subst hx; exact (hown.lt x.block rfl).2
  have hb2 : Below w'.heap.size w' (w'.alloc (.cells #[.slice sa bl.length sc, .int .i64 0] 353)) := (Below.refl _ _).alloc (Nat.le_refl _) _
  refine ⟨w'.heap.size, rfl, ⟨sa, bl.length, sc, sl⟩, ⟨Arr.new w' _ [.slice sa bl.length sc, .int .i64 0], hok.later hb2, fun x hx => ⟨?_, Nat.lt_of_lt_of_le (hlt x hx) hb2.size⟩⟩, hsl, hbel.size, fun x hx => Nat.le_of_succ_le (hge x hx), hbel.trans (hb2.mono hbel.size)⟩
  have := hlt x hx
  omega
end Go.Proofs.YtfedajifefldmaaGreat
namespace Go.Proofs.YtfedajifefldmaaGreat
open Go.RowKit
theorem run_append_own_at {P : Program} (w : World) (base : Nat) (t ty e : TypeId) (i : TypeInfo) (z : Value) (size bytes : Nat) (ht : P.underlying t = some (.slice e)) (hi : P.info? e = some i) (hz : i.zero = some z)
    (hsize : i.size = size) (hby : i.bytes = bytes) (hzs : z.cells.size = size) (hsz : 0 < size)
    (v : Value) (n : Nat) (xs : List Value) (hown : w.ownsRow base e size v n xs)
    (a : Addr) (m c : Nat) (news : List Value) (hl : news.length = m * size) (hnews : ∀ j u, news[j]? = some u → w.cell? (a.add j) = some u) (h1 : ∀ u ∈ news, u.oneCell' = true)
    (h63 : n + m ≤ maxLen) (hbytes : (n + m) * bytes ≤ 140737488355328) (hbase : base ≤ w.heap.size) :
    ∃ v' w', (Builtin.append_ #[t, t] ty #[v, .slice (some a) m c]).run P w = .ok v' w' ∧ w'.ownsRow base e size v' (n + m) (xs ++ news) ∧ w.grownBy w' v.ownBlock ∧
      (v'.ownBlock = v.ownBlock ∨ v'.ownBlock = some w.heap.size) := by
  obtain ⟨v', w', hr, h2, h3, h4⟩ := run_append_own (P := P) w base t ty e i z size bytes ht hi hz hsize hby hzs hsz v n xs hown a m c news hl hnews h1 h63 hbytes hbase
  refine ⟨v', w', hr, h2, h3, ?_⟩
  subst hsize
  subst hby
  have hsmall : n + m ≤ 9223372036854775807 := by simp only [maxLen] at h63; omega
  rcases hown.2 with ⟨rfl, rfl⟩ | ⟨g, cap, cur, rfl, hbg, hg, hnc, hcm, hcs, htake⟩
  · by_cases hm : m = 0
    · left; rw [h4.2 ⟨rfl, hm⟩]
    · have hr2 := run_append_nil (P := P) w t ty e i z ht hi hz a m c news hl hnews (by omega) (by omega) (by have hb := hbytes; simp only [Nat.zero_add] at hb; omega)
      rw [hr] at hr2
      injection hr2 with e1 e2
      right; rw [e1]; rfl
  · by_cases hroom : n + m ≤ cap
    · have hfit : n * i.size + news.length ≤ cur.size := by rw [hl, hcs, ← Nat.add_mul]; exact Nat.mul_le_mul_right _ hroom
      have hr2 := run_append_room (P := P) w t ty e i ht hi g n cap cur hg a m c news hl hnews h1 hroom hfit
      rw [hr] at hr2
      injection hr2 with e1 e2
      left; rw [e1]; rfl
    · have holds : ∀ j u, xs[j]? = some u → w.cell? ((⟨g, 0, none⟩ : Addr).add j) = some u := hown.cells (g := g) rfl
      have hr2 := run_append_grow (P := P) w t ty e i z ht hi hz ⟨g, 0, none⟩ n cap xs hown.1 holds a m c news hl hnews (by omega) (by omega) (growslice_fits (by omega) hbytes)
      rw [hr] at hr2
      injection hr2 with e1 e2
      right; rw [e1]; rfl
theorem wpList_append_own_at {P : Program} {w : World} {ops : Array Oper} {rest : List Oper} {o : Oper} {a : Act} {Q : Exit → Act → World → Prop} (hgd : o.guard = none) (s x : Operand) (t : TypeId)
    (ho : o.op = .call { callee := .builtin .append, args := #[s, x], argTypes := #[t, t] })
    (base : Nat) (e : TypeId) (i : TypeInfo) (z : Value) (size bytes : Nat) (ht : P.underlying t = some (.slice e)) (hi : P.info? e = some i) (hz : i.zero = some z)
    (hsize : i.size = size) (hby : i.bytes = bytes) (hzs : z.cells.size = size) (hsz : 0 < size)
    (v : Value) (n : Nat) (xs : List Value) (hs : a.eval s = v) (hown : w.ownsRow base e size v n xs)
    (ad : Addr) (m c : Nat) (news : List Value) (hx : a.eval x = .slice (some ad) m c) (hl : news.length = m * size) (hnews : ∀ j u, news[j]? = some u → w.cell? (ad.add j) = some u) (h1 : ∀ u ∈ news, u.oneCell' = true)
    (h63 : n + m ≤ maxLen) (hbytes : (n + m) * bytes ≤ 140737488355328) (hbase : base ≤ w.heap.size)
    (h : ∀ v' w', Hid (w'.ownsRow base e size v' (n + m) (xs ++ news)) → Hid (w.grownBy w' v.ownBlock) → Hid (v'.ownBlock = v.ownBlock ∨ v'.ownBlock = some w.heap.size) → wpList P ops Q rest (a.put o.dst v') w') : wpList P ops Q (o :: rest) a w := by
  refine wpList_plain hgd fun K hK => ?_
  obtain ⟨v', w', hr, h2, h3, h4⟩ := run_append_own_at (P := P) w base t o.type e i z size bytes ht hi hz hsize hby hzs hsz v n xs hown ad m c news hl hnews h1 h63 hbytes hbase
  unfold Oper.wp execOp
  simp only [ho, resolve, invoke, builtin, Sem.run_bind, Sem.run_pure, Result.andThen_ok, List.map_toArray, List.map_cons, List.map_nil, hs, hx, hr]
  exact hK _ _ (h v' w' h2 h3 h4)
def Apt (v u : Value) : Prop := v.ownBlock = none ∨ v.ownBlock ≠ u.ownBlock
theorem Apt.symm {v u : Value} (h : Apt v u) : Apt u v := by
  unfold Apt at *
  cases hu : u.ownBlock with
  | none => exact .inl rfl
  | some k => right; intro e; rcases h with h | h
              · rw [h] at e; cases e
              · exact h (e.symm.trans hu.symm ▸ e.symm ▸ rfl)
theorem Apt.grown {w : World} {base e n : Nat} {v v' u : Value} {xs : List Value} (h : Apt v u) (hu : w.ownsRow base e 1 u n xs) (hv : v'.ownBlock = v.ownBlock ∨ v'.ownBlock = some w.heap.size) : Apt v' u := by
  unfold Apt at *
  rcases hv with hv | hv
  · rw [hv]; exact h
  · right
    rw [hv]
    intro e1
    have := (hu.lt _ e1.symm).2
    omega
end Go.Proofs.YtfedajifefldmaaGreat
namespace Go.Proofs.YtfedajifefldmaaGreat
open Go.RowKit
theorem wpList_append_slat {P : Program} {w : World} {ops : Array Oper} {rest : List Oper} {o : Oper} {a : Act} {Q : Exit → Act → World → Prop} (hgd : o.guard = none) (s x : Operand) (t : TypeId)
    (ho : o.op = .call { callee := .builtin .append, args := #[s, x], argTypes := #[t, t] })
    (base : Nat) (e : TypeId) (i : TypeInfo) (z : Value) (ht : P.underlying t = some (.slice e)) (hi : P.info? e = some i) (hz : i.zero = some z) (hsize : i.size = 1) (hby : i.bytes = 1) (hzs : z.cells.size = 1)
    (v : Value) (n : Nat) (xs : List Value) (hs : a.eval s = v) (hown : w.ownsRow base e 1 v n xs) (d : Sl) (hd : d.Ok w) (hx : a.eval x = .slice d.a d.n d.c)
    (hb : n + d.n ≤ 140737488355328) (hbase : base ≤ w.heap.size)
    (h : ∀ v' w', Hid (w'.ownsRow base e 1 v' (n + d.n) (xs ++ U8 d.l)) → Hid (w.grownBy w' v.ownBlock) → Hid (v'.ownBlock = v.ownBlock ∨ v'.ownBlock = some w.heap.size) → wpList P ops Q rest (a.put o.dst v') w') : wpList P ops Q (o :: rest) a w := by
  cases hda : d.a with
  | none =>
    obtain ⟨h0, hc0⟩ := hd.nn hda
    have hl0 : d.l = [] := List.eq_nil_of_length_eq_zero (by rw [hd.len, h0])
    refine wpList_append_own_none hgd s x t ho base e i 1 ht hi v n xs hs hown (by rw [hx, hda, h0, hc0]) ?_
    refine h v w (show _ from ?_) (show _ from World.grownBy.refl w _) (show _ from .inl rfl)
    have h2 : w.ownsRow base e 1 v (n + d.n) (xs ++ U8 d.l) := by rw [h0, hl0]; simpa [U8] using hown
    exact h2
  | some ad =>
    exact wpList_append_own_at hgd s x t ho base e i z 1 1 ht hi hz hsize hby hzs (by decide) v n xs hs hown ad d.n d.c (U8 d.l) (by rw [hx, hda]) (by rw [U8_length, hd.len, Nat.mul_one]) (hd.cells ad hda) (U8_one _) (by unfold maxLen; omega) (by omega) hbase h
theorem own_parts {w : World} {base e sz n : Nat} {v : Value} {xs : List Value} (h : w.ownsRow base e sz v n xs) : ∃ a c, v = .slice a n c := by
  rcases h.2 with ⟨rfl, rfl⟩ | ⟨g, cap, cur, rfl, -⟩
  · exact ⟨_, _, rfl⟩
  · exact ⟨_, _, rfl⟩
structure Wtr (w : World) (base p : Nat) (lv : Value) (l : List Int) (f : Int) : Prop where
  arr : Arr w p 382 [lv, .int .i64 f]
  own : w.ownsRow base 5 1 lv l.length (U8 l)
  isB : IsB l
def Wset (p : Nat) (lv : Value) (k : Nat) : Prop := k = p ∨ lv.ownBlock = some k
structure Wst (base p : Nat) (lv : Value) (l' : List Int) (f' : Int) (w w' : World) (lv' : Value) : Prop where
  wtr : Wtr w' base p lv' l' f'
  but : Buts (Wset p lv) w w'
  at_ : ∀ k, lv'.ownBlock = some k → lv.ownBlock = some k ∨ w.heap.size ≤ k
theorem Wst.refl {base p : Nat} {lv : Value} {l : List Int} {f : Int} {w : World} (h : Wtr w base p lv l f) : Wst base p lv l f w w lv :=
  ⟨h, Buts.refl _ _, fun _ h => .inl h⟩
theorem Wst.trans {base p : Nat} {lv lv1 lv2 : Value} {l1 l2 : List Int} {f1 f2 : Int} {w w1 w2 : World} (hp : p < w.heap.size) (h : Wst base p lv l1 f1 w w1 lv1) (k : Wst base p lv1 l2 f2 w1 w2 lv2) : Wst base p lv l2 f2 w w2 lv2 := by
  refine ⟨k.wtr, h.but.trans' k.but (fun i hi hs => ?_), fun i hi => ?_⟩
  · rcases hs with rfl | hs
    · exact .inl rfl
    · rcases h.at_ i hs with h1 | h1
      · exact .inr h1
      · omega
  · rcases k.at_ i hi with h1 | h1
    · exact h.at_ i h1
    · exact .inr (Nat.le_trans h.but.size h1)
theorem Wtr.later {w w' : World} {base p : Nat} {lv : Value} {l : List Int} {f : Int} (h : Wtr w base p lv l f) (hb : Below w.heap.size w w') : Wtr w' base p lv l f :=
  ⟨h.arr.later hb, own_later h.own hb, h.isB⟩
theorem Wst.later {base p : Nat} {lv lv' : Value} {l : List Int} {f : Int} {w W w' : World} (hb : Below w.heap.size w W) (h : Wst base p lv l f W w' lv') : Wst base p lv l f w w' lv' :=
  ⟨h.wtr, (Buts.of_below hb).trans h.but, fun k hk => (h.at_ k hk).imp id (fun h1 => Nat.le_trans hb.size h1)⟩
theorem Wtr.keep {S : Nat → Prop} {w w' : World} {base p : Nat} {lv : Value} {l : List Int} {f : Int} (h : Wtr w base p lv l f) (hb : Buts S w w') (hp : ¬ S p) (hl : ∀ k, lv.ownBlock = some k → ¬ S k) : Wtr w' base p lv l f :=
  ⟨hb.arr h.arr hp, hb.own h.own hl, h.isB⟩
theorem Wtr.ne {w : World} {base p : Nat} {lv : Value} {l : List Int} {f : Int} (h : Wtr w base p lv l f) : lv.ownBlock ≠ some p := own_arr_ne h.own h.arr (by decide)
def wLay (b : List Int) (st : List Int × Int) : List Int × Int := if st.2 = 0 then (st.1 ++ b, 0) else st
def wCount (n : Nat) (most : Int) (st : List Int × Int) : List Int × Int := if most < (n : Int) then (st.1, 1) else wLay (sho n) st
def wBytes (b : List Int) (most : Int) (st : List Int × Int) : List Int × Int := wLay b (wCount b.length most st)
def wList (L : List Int) (most : Int) (st : List Int × Int) : List Int × Int := L.foldl (fun st x => wLay (sho x.toNat) st) (wCount L.length most st)
def WPost (base p : Nat) (lv : Value) (st : List Int × Int) (w : World) (e : Ending) (w' : World) : Prop :=
  e = .returned (.tuple #[]) ∧ ∃ lv', Wst base p lv st.1 st.2 w w' lv'
theorem one_ok (w : World) (x : Int) (h0 : 0 ≤ x) (h1 : x ≤ 255) : Sl.Ok (w.alloc (.cells #[.int .u8 x] 5)) ⟨some ⟨w.heap.size, 0, none⟩, 1, 1, [x]⟩ := by
  have hA : Arr (w.alloc (.cells #[.int .u8 x] 5)) w.heap.size 5 (U8 [x]) := Arr.new w _ (U8 [x])
  exact ⟨rfl, Nat.le_refl _, (by unfold maxLen; decide : 1 ≤ maxLen), (fun h => by cases h), (fun y hy => by simp at hy; omega), hA.lies⟩
theorem below_one (w : World) (o : Obj) : Below w.heap.size w (w.alloc o) := (Below.refl _ _).alloc (Nat.le_refl _) _
end Go.Proofs.YtfedajifefldmaaGreat
namespace Go.Proofs.YtfedajifefldmaaGreat
open Go.RowKit
def Q8 (l : List Int) : List Value := l.map (Value.int .u64)
@[simp] theorem Q8_length (l : List Int) : (Q8 l).length = l.length := by simp [Q8]
theorem Q8_at (l : List Int) (i : Nat) (h : i < l.length) : (Q8 l)[i]? = some (.int .u64 (l.getD i 0)) := by
  simp only [Q8, List.getElem?_map, List.getD_eq_getElem?_getD, List.getElem?_eq_getElem h]; rfl
def IsQ (l : List Int) : Prop := ∀ x ∈ l, 0 ≤ x ∧ x < 18446744073709551616
theorem IsQ.at {l : List Int} (h : IsQ l) (i : Nat) : 0 ≤ l.getD i 0 ∧ l.getD i 0 < 18446744073709551616 := by
  rw [List.getD_eq_getElem?_getD]
  by_cases hi : i < l.length
  · rw [List.getElem?_eq_getElem hi]; exact h _ (List.getElem_mem hi)
  · rw [List.getElem?_eq_none (by omega)]; simp
theorem IsQ.append {a b : List Int} (h : IsQ a) (k : IsQ b) : IsQ (a ++ b) := fun x hx => by
  rcases List.mem_append.1 hx with h' | h'
  · exact h x h'
  · exact k x h'
def LiesQ (w : World) (a : Option Addr) (l : List Int) : Prop :=
  0 < l.length → ∃ b off, a = some ⟨b, off, none⟩ ∧ b < w.heap.size ∧ ∀ i, i < l.length → w.cell? ⟨b, off + i, none⟩ = some (.int .u64 (l.getD i 0))
structure Sq where
  a : Option Addr
  n : Nat
  c : Nat
  l : List Int
def Sq.v (s : Sq) : Value := .slice s.a s.n s.c
structure Sq.Ok (w : World) (s : Sq) : Prop where
  len : s.l.length = s.n
  le : s.n ≤ s.c
  mx : s.c ≤ maxLen
  nn : s.a = none → s.n = 0 ∧ s.c = 0
  isQ : IsQ s.l
  lies : LiesQ w s.a s.l
theorem LiesQ.buts {S : Nat → Prop} {a b : World} (x : Buts S a b) {ad : Option Addr} {l : List Int} (hl : LiesQ a ad l) (hg : 0 < l.length → ∀ y, ad = some y → ¬ S y.block) : LiesQ b ad l := by
  intro hp
  obtain ⟨bk, off, rfl, hlt, hc⟩ := hl hp
  exact ⟨bk, off, rfl, Nat.lt_of_lt_of_le hlt x.size, fun i hi => (World.cell?_of_block (w := a) (w' := b) (a := ⟨bk, off + i, none⟩) (x.block bk hlt (hg hp _ rfl))).trans (hc i hi)⟩
theorem Sq.Ok.keep {S : Nat → Prop} {a b : World} {s : Sq} (h : s.Ok a) (x : Buts S a b) (hg : 0 < s.l.length → ∀ y, s.a = some y → ¬ S y.block) : s.Ok b :=
  ⟨h.len, h.le, h.mx, h.nn, h.isQ, h.lies.buts x hg⟩
theorem Sq.Ok.later {w w' : World} {s : Sq} (h : s.Ok w) (hb : Below w.heap.size w w') : s.Ok w' :=
  h.keep (Buts.of_below (S := fun _ => False) hb) (fun _ _ _ h => h)
theorem Sq.Ok.cells {w : World} {s : Sq} (h : s.Ok w) : ∀ ad, s.a = some ad → ∀ j u, (Q8 s.l)[j]? = some u → w.cell? (ad.add j) = some u := by
  intro ad had j u hu
  have hj : j < s.l.length := by
    by_cases hj : j < s.l.length
    · exact hj
    · rw [List.getElem?_eq_none (by simp; omega)] at hu; simp at hu
  obtain ⟨b, off, ha, _, hc⟩ := h.lies (by omega)
  rw [ha] at had; simp at had; subst had
  rw [Q8_at s.l j hj] at hu; simp only [Option.some.injEq] at hu; subst hu
  rw [addr_add]; exact hc j hj
end Go.Proofs.YtfedajifefldmaaGreat
namespace Go.Proofs.YtfedajifefldmaaGreat
open Go.RowKit
def face {α : Type} (z : α) (P : List Int → Parse α) (st : List Int × Int) : α × List Int × Int :=
  if st.2 ≠ 0 then (z, st) else match P st.1 with
    | .ok (x, r) => (x, r, 0)
    | .error c => (z, st.1, c)
def RPost {α : Type} (V : α → Value → World → World → Prop) (p : Nat) (s : Sl) (q : α × List Int × Int) (w : World) (e : Ending) (w' : World) : Prop :=
  But p w w' ∧ ∃ v t, e = .returned v ∧ V q.1 v w w' ∧ Rdr w' p t q.2.2 ∧ t.l = q.2.1 ∧ s.Same t
theorem Fac.post {α : Type} {V : α → Value → World → World → Prop} {zv : Value} {p : Nat} {s : Sl} {f : Int} {P : List Int → Parse α} {w w' : World} {e : Ending} (h : Fac V zv p s f (P s.l) w e w') (z : α) (hz : V z zv w w') : RPost V p s (face z P (s.l, f)) w e w' := by
  obtain ⟨hB, h⟩ := h
  refine ⟨hB, ?_⟩
  unfold face
  split at h
  · rename_i hf
    rw [if_pos hf]
    exact ⟨zv, s, h.1, hz, h.2, rfl, Sl.Same.refl s⟩
  · rename_i hf
    rw [if_neg hf]
    simp only
    split at h
    · rename_i x r hP
      rw [hP]
      obtain ⟨v, t, he, hV, hR, hr, hS⟩ := h
      exact ⟨v, t, he, hV, hR, hr, hS⟩
    · rename_i c hP
      rw [hP]
      exact ⟨zv, s, h.1, hz, h.2, rfl, Sl.Same.refl s⟩
theorem RPost.ret {α : Type} {V : α → Value → World → World → Prop} {p : Nat} {s : Sl} {q : α × List Int × Int} {w w' : World} {e : Ending} (h : RPost V p s q w e w') : ∃ v, e = .returned v := by
  obtain ⟨-, v, -, he, -⟩ := h; exact ⟨v, he⟩
def gNums : Nat → List Int → Except (Int × List Int) (List Int × List Int)
  | 0, l => .ok ([], l)
  | n + 1, l => match pUint l with
    | .error c => .error (c, l)
    | .ok (x, r) => match gNums n r with
      | .error e => .error e
      | .ok (xs, r') => .ok (x :: xs, r')
def gJoin (acc : List Int) : Except (Int × List Int) (List Int × List Int) → Except (Int × List Int) (List Int × List Int)
  | .error e => .error e
  | .ok (xs, r) => .ok (acc ++ xs, r)
def gList (most : Int) (st : List Int × Int) : List Int × List Int × Int :=
  if st.2 ≠ 0 then ([], st) else match pCount most st.1 with
    | .error c => ([], st.1, c)
    | .ok (n, r) => match gNums n r with
      | .error (c, l) => ([], l, c)
      | .ok (xs, r') => (xs, r', 0)
def isQ8 (x : List Int) (v : Value) (w w' : World) : Prop := w'.ownsRow w.heap.size 348 1 v x.length (Q8 x) ∧ IsQ x
end Go.Proofs.YtfedajifefldmaaGreat
namespace Go.Proofs.YtfedajifefldmaaGreat
open Go.RowKit
set_option maxHeartbeats 1000000 in
set_option maxRecDepth 100000 in
theorem lay_any (base p : Nat) (lv : Value) (l : List Int) (f : Int) (d : Sl) (w : World) (h : Wtr w base p lv l f) (hd : d.Ok w) (hm : l.length + d.n ≤ 1099511627776) (hbase : base ≤ w.heap.size) :
    Calls Tryz.prog 308 #[.pointer (some ⟨p, 0, none⟩), d.v] w (WPost base p lv (wLay d.l (l, f)) w) := by
  obtain ⟨i0, hi, hz0, hz1, hz2⟩ := info_parts Tryz.infoB
  have c0 : w.cell? ⟨p, 0, none⟩ = some lv := by simpa using h.arr.cell 0
  have c1 : w.cell? ⟨p, 1, none⟩ = some (.int .i64 f) := by simpa using h.arr.cell 1
  have hdv : d.v = .slice d.a d.n d.c := rfl
  have hlt := h.arr.lt
  rw [hdv]
  by_cases hf : f = 0
  · subst hf
    have HL : Hid (wLay d.l (l, 0) = (l ++ d.l, 0)) := hide rfl
    rw [unhide HL]
    have hown := h.own
    obtain ⟨la, lc, rfl⟩ := own_parts hown
    have HO := hide hown
    clear hown
    go_enter Tryz.func308, Tryz.ntmps308
    go_wp2_with (at_builtin; refine wpList_append_slat rfl _ _ 22 rfl base 5 i0 (.int .u8 0) Tryz.underlying22 hi hz0 hz1 hz2 rfl (.slice la l.length lc) l.length (U8 l) rfl (unhide HO) d hd rfl (by omega) hbase ?_; intro v' w' hown' hgrow hat; obtain ⟨a', c', rfl⟩ := own_parts (unhide hown'); have Ap : Arr w' p 382 [.slice la l.length lc, .int .i64 0] := (hgrow.out.block p hlt (fun e => h.ne e.symm)).trans h.arr; have fp := Ap.frozen 0; have cp : w'.cell? ⟨p, 0, none⟩ = some (.slice la l.length lc) := by simpa using Ap.cell 0)
    go_end0
    have hown' := unhide hown'
    have hgrow := unhide hgrow
    have hat := unhide hat
    have Ap2 := Ap.set 0 (.slice a' (l.length + d.n) c')
    have hne : (Value.slice a' (l.length + d.n) c').ownBlock ≠ some p := own_arr_ne hown' Ap (by decide)
    have hbp : Buts (· = p) w' (w'.setCell ⟨p, 0, none⟩ (.slice a' (l.length + d.n) c')) := Buts.of_but ((But.refl p w').setCell 0 _)
    refine ⟨rfl, .slice a' (l.length + d.n) c', ⟨by simpa using Ap2, ?_, h.isB.append hd.isB⟩, ?_, fun k hk => ?_⟩
    · have := hbp.own hown' (fun g hg e => hne (by rw [hg, e]))
      rw [U8_append, List.length_append, hd.len]; exact this
    · have h1 : Buts (Wset p (.slice la l.length lc)) w w' := ⟨hgrow.os, hgrow.tape, hgrow.output, hgrow.size, fun k hk hs => hgrow.block k hk (fun e => hs (.inr e.symm))⟩
      exact h1.trans' hbp (fun k _ e => .inl e)
    · rcases hat with hat | hat
      · left; rw [← hat]; exact hk
      · right; rw [hat] at hk; simp at hk; omega
  · have HL : Hid (wLay d.l (l, f) = (l, f)) := by unfold wLay; rw [if_neg hf]; exact hide rfl
    rw [unhide HL]
    go_enter Tryz.func308, Tryz.ntmps308
    go_wp2
    go_end0
    exact ⟨rfl, lv, Wst.refl h⟩
def beB (n : Nat) (x : Int) : List Int := (leB n x).reverse
set_option maxHeartbeats 1000000 in
set_option maxRecDepth 100000 in
theorem wU32_any (base p : Nat) (lv : Value) (l : List Int) (f x : Int) (w : World) (h : Wtr w base p lv l f) (hx0 : 0 ≤ x) (hm : l.length + 4 ≤ 1099511627776) (hbase : base ≤ w.heap.size) :
    Calls Tryz.prog 237 #[.pointer (some ⟨p, 0, none⟩), .int .u32 x] w (WPost base p lv (wLay (beB 4 x) (l, f)) w) := by
  have hS := storebe32_any x w hx0
  go_enter Tryz.func237, Tryz.ntmps237
  go_wp2_with (first
    | (go_at_call 318; refine hS.mono ?_; rintro e w1 ⟨rfl, hown, hb⟩)
    | (have hd := Sl.Ok.of_own hown (leB_isB 4 x).reverse
       have hL := lay_any base p lv l f _ _ (h.later hb) hd hm (Nat.le_trans hbase hb.size)
       simp only [Sl.v] at hL
       go_at_call 308; refine hL.mono ?_; rintro e w' ⟨rfl, lv', hW⟩))
  go_end0
  exact ⟨rfl, lv', hW.later hb⟩
set_option maxHeartbeats 1000000 in
set_option maxRecDepth 100000 in
theorem wU64_any (base p : Nat) (lv : Value) (l : List Int) (f x : Int) (w : World) (h : Wtr w base p lv l f) (hx0 : 0 ≤ x) (hm : l.length + 8 ≤ 1099511627776) (hbase : base ≤ w.heap.size) :
    Calls Tryz.prog 223 #[.pointer (some ⟨p, 0, none⟩), .int .u64 x] w (WPost base p lv (wLay (beB 8 x) (l, f)) w) := by
  have hS := storebe64_any x w hx0
  go_enter Tryz.func223, Tryz.ntmps223
  go_wp2_with (first
    | (go_at_call 315; refine hS.mono ?_; rintro e w1 ⟨rfl, hown, hb⟩)
    | (have hd := Sl.Ok.of_own hown (leB_isB 8 x).reverse
       have hL := lay_any base p lv l f _ _ (h.later hb) hd hm (Nat.le_trans hbase hb.size)
       simp only [Sl.v] at hL
       go_at_call 308; refine hL.mono ?_; rintro e w' ⟨rfl, lv', hW⟩))
  go_end0
  exact ⟨rfl, lv', hW.later hb⟩
set_option maxHeartbeats 1000000 in
set_option maxRecDepth 100000 in
theorem wBool_any (base p : Nat) (lv : Value) (l : List Int) (f : Int) (x : Bool) (w : World) (h : Wtr w base p lv l f) (hm : l.length + 1 ≤ 1099511627776) (hbase : base ≤ w.heap.size) :
    Calls Tryz.prog 256 #[.pointer (some ⟨p, 0, none⟩), .bool x] w (WPost base p lv (wLay [if x then 1 else 0] (l, f)) w) := by
  cases x
  · have hb := below_one w (.cells #[.int .u8 0] 5)
    have hL := lay_any base p lv l f _ _ (h.later hb) (one_ok w 0 (by omega) (by omega)) hm (Nat.le_trans hbase hb.size)
    simp only [Sl.v] at hL
    go_enter Tryz.func256, Tryz.ntmps256
    go_wp2_with (go_at_call 308; refine hL.mono ?_; rintro e w' ⟨rfl, lv', hW⟩)
    go_end0
    exact ⟨rfl, lv', hW.later hb⟩
  · have hb := below_one w (.cells #[.int .u8 1] 5)
    have hL := lay_any base p lv l f _ _ (h.later hb) (one_ok w 1 (by omega) (by omega)) hm (Nat.le_trans hbase hb.size)
    simp only [Sl.v] at hL
    go_enter Tryz.func256, Tryz.ntmps256
    go_wp2_with (go_at_call 308; refine hL.mono ?_; rintro e w' ⟨rfl, lv', hW⟩)
    go_end0
    exact ⟨rfl, lv', hW.later hb⟩
set_option maxHeartbeats 1000000 in
set_option maxRecDepth 100000 in
theorem wFixed_any (base p : Nat) (lv : Value) (l : List Int) (f : Int) (d : Sl) (w : World) (h : Wtr w base p lv l f) (hd : d.Ok w) (hm : l.length + d.n ≤ 1099511627776) (hbase : base ≤ w.heap.size) :
    Calls Tryz.prog 208 #[.pointer (some ⟨p, 0, none⟩), d.v] w (WPost base p lv (wLay d.l (l, f)) w) := by
  have hL := lay_any base p lv l f d w h hd hm hbase
  go_enter Tryz.func208, Tryz.ntmps208
  go_wp2_with (go_at_call 308; refine hL.mono ?_; rintro e w' ⟨rfl, lv', hW⟩)
  go_end0
  exact ⟨rfl, lv', hW⟩
theorem Wst.ok {base p : Nat} {lv lv' : Value} {l : List Int} {f : Int} {w w' : World} (h : Wst base p lv l f w w' lv') {d : Sl} (hd : d.Ok w) (ho : 0 < d.l.length → ∀ y, d.a = some y → ¬ Wset p lv y.block) : d.Ok w' := h.but.ok hd ho
end Go.Proofs.YtfedajifefldmaaGreat
namespace Go.Proofs.YtfedajifefldmaaGreat
open Go.RowKit
theorem cat_one' (s : Sl) : cat [s] = s.l := by simp [cat]
theorem joins_one (s : Sl) (w : World) (hs : s.Ok w) (hm : s.n ≤ 1099511627776) :
    Calls Tryz.prog 230 #[.slice (some ⟨w.heap.size, 0, none⟩) 1 1] (w.alloc (.cells #[s.v] 22)) fun e w' => ∃ v, e = .returned v ∧ w'.ownsRow (w.heap.size + 1) 5 1 v s.l.length (U8 s.l) ∧ Below w.heap.size w w' := by
  have hb := below_one w (.cells #[s.v] 22)
  have hA : Arr (w.alloc (.cells #[s.v] 22)) w.heap.size 22 [s.v] := Arr.new w _ [s.v]
  have hsz : (w.alloc (.cells #[s.v] 22)).heap.size = w.heap.size + 1 := by simp
  refine (join_any (some ⟨w.heap.size, 0, none⟩) 1 [s] (w.alloc (.cells #[s.v] 22)) ?_ ?_ (by simp) (by rw [cat_one', hs.len]; exact hm)).mono ?_
  · intro _
    refine ⟨w.heap.size, 0, rfl, by omega, fun i v hi => ?_⟩
    rw [Nat.zero_add, hA.cell i]
    simpa using hi
  · intro t ht
    simp at ht; subst ht
    exact hs.later hb
  · rintro e w' ⟨rfl, hown, hbel⟩
    rw [cat_one', hsz] at hown
    exact ⟨_, by rw [cat_one', hsz], hown, hb.trans (hbel.mono (by omega))⟩
def wOut (l : List Int) (f : Int) : List Int := if f = 0 then l else []
set_option maxHeartbeats 1000000 in
set_option maxRecDepth 100000 in
theorem wDone_any (base p : Nat) (lv : Value) (l : List Int) (f : Int) (w : World) (h : Wtr w base p lv l f) (hm : l.length ≤ 1099511627776) :
    Calls Tryz.prog 215 #[.pointer (some ⟨p, 0, none⟩)] w fun e w' => Below w.heap.size w w' ∧ ∃ v, e = .returned (.tuple #[v, .int .i64 f]) ∧ w'.ownsRow w.heap.size 5 1 v (wOut l f).length (U8 (wOut l f)) := by
  have c0 : w.cell? ⟨p, 0, none⟩ = some lv := by simpa using h.arr.cell 0
  have c1 : w.cell? ⟨p, 1, none⟩ = some (.int .i64 f) := by simpa using h.arr.cell 1
  by_cases hf : f = 0
  · subst hf
    have HL : Hid (wOut l 0 = l) := hide rfl
    rw [unhide HL]
    obtain ⟨s, rfl, hok, hsl, hsn, -⟩ := own_sl h.own h.isB
    have hJ := joins_one s w hok (by omega)
    rw [hsl] at hJ
    have hsv : s.v = .slice s.a s.n s.c := rfl
    rw [hsv] at c0 hJ
    clear hsl hsn hsv
    go_enter Tryz.func215, Tryz.ntmps215
    go_wp2_with (go_at_call 230; refine hJ.mono ?_; rintro e w' ⟨v, rfl, hown, hbel⟩)
    go_ret2
    exact ⟨hbel, v, rfl, own_mono hown (by omega)⟩
  · have HL : Hid (wOut l f = []) := by unfold wOut; rw [if_neg hf]; exact hide rfl
    rw [unhide HL]
    go_enter Tryz.func215, Tryz.ntmps215
    go_wp2
    go_region
    go_wp2
    go_ret2
    exact ⟨below_drewN (Below.refl _ _) 1, .slice none 0 0, rfl, rfl, .inl ⟨rfl, rfl⟩⟩
set_option maxHeartbeats 1000000 in
set_option maxRecDepth 100000 in
theorem newWriter_any (w : World) :
    Calls Tryz.prog 212 #[] w fun e w' => e = .returned (.pointer (some ⟨w.heap.size, 0, none⟩)) ∧ Wtr w' w.heap.size w.heap.size (.slice none 0 0) [] 0 ∧ Below w.heap.size w w' ∧ w.heap.size < w'.heap.size := by
  go_enter Tryz.func212, Tryz.ntmps212
  go_wp2
  go_ret
  exact ⟨rfl, ⟨Arr.new w _ [.slice none 0 0, .int .i64 0], ⟨rfl, .inl ⟨rfl, rfl⟩⟩, fun x hx => by simp at hx⟩, below_one _ _, by simp⟩
def wNums (L : List Int) (st : List Int × Int) : List Int × Int := L.foldl (fun st x => wLay (sho x.toNat) st) st
end Go.Proofs.YtfedajifefldmaaGreat
namespace Go.Proofs.YtfedajifefldmaaGreat
open Go.RowKit
def hdL (d : Int) : List Int := if 1 ≤ d ∧ d ≤ 255 then [70, 66, 1, d] else []
def rdH (l : List Int) : Int × Int × Int := if l.take 3 = [70, 66, 1] ∧ 0 < l.getD 3 0 then (l.getD 3 0, 4, 0) else (0, 0, 90)
set_option maxHeartbeats 1000000 in
set_option maxRecDepth 100000 in
theorem head_any (d : Int) (w : World) :
    Calls Tryz.prog 213 #[.int .i64 d] w fun e w' => ∃ s : Sl, e = .returned s.v ∧ s.Ok w' ∧ s.l = hdL d ∧ Below w.heap.size w w' ∧ (∀ x, s.a = some x → w.heap.size ≤ x.block) := by
  obtain ⟨i0, hi, hz0, hz1, hz2⟩ := info_parts Tryz.infoB
  have kc := fun (w : World) (C : Array Value) (n c : Nat) => Lib.run_convert_bytes_const (P := Tryz.prog) w 22 5 C n c Tryz.underlying22 Tryz.underlying5
  by_cases hd : 1 ≤ d ∧ d ≤ 255
  · have HL : Hid (hdL d = [70, 66, 1, d]) := by unfold hdL; rw [if_pos hd]; exact hide rfl
    obtain ⟨h1, h2⟩ := hd
    have hb1 : Below w.heap.size w (w.alloc (.cells #[.int .u8 70, .int .u8 66, .int .u8 1] 5 (3, 4))) := below_one _ _
    have hA := Arr.new (w.alloc (.cells #[.int .u8 70, .int .u8 66, .int .u8 1] 5 (3, 4))) 5 (U8 [d])
    have hb2 := below_one (w.alloc (.cells #[.int .u8 70, .int .u8 66, .int .u8 1] 5 (3, 4))) (.cells #[.int .u8 d] 5)
    have hs1 : (w.alloc (.cells #[.int .u8 70, .int .u8 66, .int .u8 1] 5 (3, 4))).heap.size = w.heap.size + 1 := by simp
    have hok := one_ok (w.alloc (.cells #[.int .u8 70, .int .u8 66, .int .u8 1] 5 (3, 4))) d (by omega) (by omega)
    rw [hs1] at hok
    have hcl : ∀ j u, (U8 [70, 66, 1])[j]? = some u → ((w.alloc (.cells #[.int .u8 70, .int .u8 66, .int .u8 1] 5 (3, 4))).alloc (.cells #[.int .u8 d] 5)).cell? ((⟨w.heap.size, 0, none⟩ : Addr).add j) = some u := by
      intro j u hu
      rw [addr_add, Nat.zero_add, hb2.cell (p := ⟨w.heap.size, j, none⟩) (by rw [hs1]; exact Nat.lt_succ_self _), World.cell?_alloc_mark]
      simpa [U8] using hu
    have hbb := hb1.trans (hb2.mono (by omega))
    clear hA hb1 hb2
    go_enter Tryz.func213, Tryz.ntmps213
    go_wp2_with (at_builtin; refine wpList_append_new rfl _ _ 22 rfl 5 i0 (.int .u8 0) Tryz.underlying22 hi hz0 hz1 hz2 ⟨w.heap.size, 0, none⟩ 3 3 rfl [70, 66, 1] rfl (by unfold IsB; decide) hcl ⟨some ⟨w.heap.size + 1, 0, none⟩, 1, 1, [d]⟩ hok rfl (by show 0 < 1; decide) (by show 3 < 3 + 1; decide) (by show 3 + 1 ≤ 140737488355328; decide) ?_; intro cap w' H1 H2 _)
    go_ret
    have hb3 := unhide H2
    have H1 := unhide H1
    have hs2 : ((w.alloc (.cells #[.int .u8 70, .int .u8 66, .int .u8 1] 5 (3, 4))).alloc (.cells #[.int .u8 d] 5)).heap.size = w.heap.size + 1 + 1 := by simp
    rw [hs2] at H1
    refine ⟨⟨some ⟨w.heap.size + 1 + 1, 0, none⟩, 4, cap, [70, 66, 1, d]⟩, rfl, H1, (unhide HL).symm, hbb.trans (hb3.mono hbb.size), fun x hx => ?_⟩
    simp only [Option.some.injEq] at hx
    subst hx
    show w.heap.size ≤ w.heap.size + 1 + 1
    omega
  · have HL : Hid (hdL d = []) := by unfold hdL; rw [if_neg hd]; exact hide rfl
    have hd' : d < 1 ∨ 255 < d := by omega
    have ok0 : ∀ w : World, Sl.Ok w ⟨none, 0, 0, []⟩ := fun w => ⟨rfl, Nat.le_refl _, Nat.zero_le _, fun _ => ⟨rfl, rfl⟩, fun x hx => by simp at hx, Lies.nil _ _⟩
    rcases hd' with hd' | hd'
    · go_enter Tryz.func213, Tryz.ntmps213
      go_wp2
      go_ret
      exact ⟨⟨none, 0, 0, []⟩, rfl, ok0 _, (unhide HL).symm, Below.refl _ _, fun _ h => by cases h⟩
    · go_enter Tryz.func213, Tryz.ntmps213
      go_wp2
      go_ret
      exact ⟨⟨none, 0, 0, []⟩, rfl, ok0 _, (unhide HL).symm, Below.refl _ _, fun _ h => by cases h⟩
theorem u8_is (a : Int) (k : Nat) (hk : k < 256) (h0 : 0 ≤ a) (h1 : a ≤ 255) : (UInt8.ofNat a.toNat == UInt8.ofNat k) = decide (a = k) := by
  rw [Bool.eq_iff_iff, beq_iff_eq, decide_eq_true_eq]
  constructor
  · intro h
    have h2 := congrArg UInt8.toNat h
    simp only [UInt8.toNat_ofNat'] at h2
    omega
  · rintro rfl; rfl
theorem str3 (a b c : Int) : (strOfNums [a, b, c]).toList = [UInt8.ofNat a.toNat, UInt8.ofNat b.toNat, UInt8.ofNat c.toNat] := by
  unfold strOfNums
  simp only [List.map_cons, List.map_nil]
  unfold ByteArray.toList
  rw [ByteArray.toList.loop, if_pos (by show (0 : Nat) < 3; decide), ByteArray.toList.loop, if_pos (by show (1 : Nat) < 3; decide), ByteArray.toList.loop, if_pos (by show (2 : Nat) < 3; decide), ByteArray.toList.loop, if_neg (by show ¬ (3 : Nat) < 3; decide)]
  rfl
theorem str3_is (l : List Int) (h : l.length = 3) (hB : IsB l) : ((strOfNums l).toList == [70, 66, 1]) = decide (l = [70, 66, 1]) := by
  match l, h with
  | [a, b, c], _ =>
    have ha := hB a (by simp)
    have hb := hB b (by simp)
    have hc := hB c (by simp)
    rw [str3]
    show (UInt8.ofNat a.toNat == UInt8.ofNat 70 && (UInt8.ofNat b.toNat == UInt8.ofNat 66 && (UInt8.ofNat c.toNat == UInt8.ofNat 1 && true))) = _
    rw [u8_is a 70 (by omega) ha.1 ha.2, u8_is b 66 (by omega) hb.1 hb.2, u8_is c 1 (by omega) hc.1 hc.2]
    simp
set_option maxHeartbeats 1000000 in
set_option maxRecDepth 100000 in
theorem readHead_any (s : Sl) (w : World) (hs : s.Ok w) :
    Calls Tryz.prog 53 #[s.v] w fun e w' => e = .returned (.tuple #[.int .i64 (rdH s.l).1, .int .i64 (rdH s.l).2.1, .int .i64 (rdH s.l).2.2]) ∧ w' = w := by
  have hmx := hs.mx
  have hle := hs.le
  have hlen := hs.len
  unfold maxLen at hmx
  have hsv : s.v = .slice s.a s.n s.c := rfl
  rw [hsv]
  by_cases h4 : s.n < 4
  · have HL : Hid (rdH s.l = (0, 0, 90)) := by
      unfold rdH; rw [if_neg]; exact hide rfl
      rintro ⟨-, h⟩
      rw [List.getD_eq_getElem?_getD, List.getElem?_eq_none (by omega)] at h
      simp at h
    rw [unhide HL]
    go_enter Tryz.func53, Tryz.ntmps53
    go_wp2
    go_ret3
    exact ⟨rfl, rfl⟩
  · obtain ⟨bk, off, ha, hbl, hc⟩ := hs.lies (by omega)
    have c3 := hc 3 (by omega)
    have b3 := hs.isB.at 3
    have kw := run_convert_bytes_arg (P := Tryz.prog) w 22 5 Tryz.underlying22 Tryz.underlying5 bk off 3 s.c (s.l.take 3) (by simp; omega) (fun i hi => by rw [hc i (by omega)]; simp [List.getD_eq_getElem?_getD, hi]) 9 Tryz.underlying9
    have hs3 := str3_is (s.l.take 3) (by simp; omega) (hs.isB.take 3)
    rw [ha]
    have HR : Hid (rdH s.l = if s.l.take 3 = [70, 66, 1] ∧ 0 < s.l.getD 3 0 then (s.l.getD 3 0, 4, 0) else (0, 0, 90)) := hide rfl
    generalize s.l.getD 3 0 = x at *
    generalize strOfNums (s.l.take 3) = S at *
    clear hc hs hlen
    by_cases h3 : s.l.take 3 = [70, 66, 1]
    · rw [decide_eq_true h3] at hs3
      by_cases hx : x = 0
      · have HL : Hid (rdH s.l = (0, 0, 90)) := by rw [unhide HR, if_neg (by omega)]; exact hide rfl
        rw [unhide HL]
        clear h3
        go_enter Tryz.func53, Tryz.ntmps53
        go_wp2
        go_ret3
        exact ⟨rfl, rfl⟩
      · have HL : Hid (rdH s.l = (x, 4, 0)) := by rw [unhide HR, if_pos ⟨h3, by omega⟩]; exact hide rfl
        rw [unhide HL]
        clear h3
        go_enter Tryz.func53, Tryz.ntmps53
        go_wp2
        go_ret3
        exact ⟨rfl, rfl⟩
    · rw [decide_eq_false h3] at hs3
      have HL : Hid (rdH s.l = (0, 0, 90)) := by rw [unhide HR, if_neg (fun h => h3 h.1)]; exact hide rfl
      rw [unhide HL]
      clear h3
      go_enter Tryz.func53, Tryz.ntmps53
      go_wp2
      go_ret3
      exact ⟨rfl, rfl⟩
end Go.Proofs.YtfedajifefldmaaGreat
namespace Go.Proofs.YtfedajifefldmaaGreat
open Go.RowKit
theorem take_eq_succ {a b : List Int} {k : Nat} (ha : k < a.length) (hb : k < b.length) (h : a.take k = b.take k) (e : a.getD k 0 = b.getD k 0) : a.take (k + 1) = b.take (k + 1) := by
  rw [take_succ_getD a k ha, take_succ_getD b k hb, h, e]
def marks : List Int := List.replicate 64 201
end Go.Proofs.YtfedajifefldmaaGreat
namespace Go.Proofs.YtfedajifefldmaaGreat
open Go.RowKit
end Go.Proofs.YtfedajifefldmaaGreat
