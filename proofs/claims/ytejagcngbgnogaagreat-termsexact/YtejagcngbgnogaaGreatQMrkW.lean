import Derived.Test.YtejagcngbgnogaaGreatQShr
import Derived.Test.YtejagcngbgnogaaGreatQGamZ
import Derived.Test.YtejagcngbgnogaaGreatQGaoZ
import Derived.Deep.MidRow
import Derived.Deep.Cut
set_option maxHeartbeats 2000000
set_option maxRecDepth 100000
set_option linter.unusedSimpArgs false
set_option linter.unusedVariables false
namespace Go.Proofs.YtejagcngbgnogaaGreat
open Go.RowKit
theorem mrkSl {S : Nat → Prop} {w0 : World} {b bx : Nat} {pv : Value} {ty0 : TypeId} (hp : bL S w0 b pv) (hA : Arr w0 bx ty0 [pv]) (hbx : S bx) :
  cO S w0 b 64 (.func (.func 320) #[] #[.pointer (some ⟨bx, 0, none⟩)]) := by
 obtain ⟨k, caps, rfl, eg, hp⟩ := hp
 refine ⟨_, _, rfl, enters_of Tryz.func320 (by kernel_rfl) rfl, ?_⟩
 intro w q o hb hc
 obtain ⟨c, hc⟩ := hc
 have cb : w.cell? ⟨bx, 0, none⟩ = some (.func (.func k) #[] caps) := by simpa using (hb.arr hA hbx).cell 0
 have hC := hp w q o hb
 clear hp
 simp only [Enters] at eg
 go_enter Tryz.func320, Tryz.ntmps320
 go_wp2_with (go_at_fn k; refine hC.mono ?_; rintro e w' ⟨rfl, hw⟩; have hw := hw.symm; subst hw; clear hC)
 go_ret
 exact ⟨rfl, rfl⟩
def fO (a : Nat) : FdS where
 fit _ := true
 enc x := [x a]
 get x s := match cH s with
  | .ok (v, r) => some (upd x a (if v then 1 else 0), r)
  | .error _ => none
theorem sft_upd (o a : Nat) (x : Nat → Int) (v : Int) : sft o (upd x (o + a) v) = upd (sft o x) a v := by
 funext i; unfold sft upd
 by_cases h : i = a
 ·rw [if_pos h, if_pos (by omega)]
 ·rw [if_neg h, if_neg (by omega)]
theorem ins_upd' (o a : Nat) (x y : Nat → Int) (v : Int) : ins o (upd x (o + a) v) y = ins o x y := by
 funext i; unfold ins upd
 split
 ·rw [if_neg (by omega)]
 ·rfl
theorem ggot_flag {s l : List Int} {o a : Nat} {x : Nat → Int} {fl : Int} {v : Bool} (h : Got (cH s) fl v l) : GGot ((fO a).get (sft o x) s) o x fl (upd x (o + a) (if v then 1 else 0)) l := by
 unfold Got at h
 simp only [fO, GGot]
 cases hE : cH s with
 | ok q =>
  obtain ⟨u, r⟩ := q
  exact sh107
 | error c => rw [hE] at h; exact h
theorem kd_flag (y : Bool) : Kd.v .t (if y then 1 else 0) = .bool y := by cases y <;> rfl
theorem flag_step {N p q o a nT : Nat} {w W : World} {ty : TypeId} {sT sh : Nat → Kd} {x : Nat → Int} {s : Sl} {fl : Int} {e : Ending} (hT : Trm w q ty sh N x) (hR : Rdr w p s fl) (hq : ∀ y, s.a = some y → y.block ≠ q) (hS : Seg sT nT sh N o) (ha : a < nT) (hs : sT a = .t)
  (hF : Fac isT (.bool false) p s fl (cH s.l) w e W) :
  ∃ (y : Bool) (t : Sl) (fl' : Int), e = .returned (.bool y) ∧ W.frozen? ⟨q, o + a, none⟩ = false ∧ W.cell? ⟨q, o + a, none⟩ = some (.bool (decide (x (o + a) ≠ 0))) ∧ Hid (GRes (fO a) p q o s fl ty sh N x w (W.setCell ⟨q, o + a, none⟩ (.bool y)) t fl' (upd x (o + a) (if y then 1 else 0))) ∧ Hid (fl = 0 → Got (cH s.l) fl' y t.l) ∧ Hid (y = true → fl = 0 ∧ fl' = 0) := by
 have hsh : sh (o + a) = .t := (hS.eq a ha).trans hs
 have hlt : o + a < N := by have := hS.le; omega
 have hF' := hF
 obtain ⟨v, t, fl', y, rfl, hv, hW, hB, hSa, hle, hst, hgot, hy⟩ := hF.plain false rfl (fun c => pBool_err) (fun _ _ h => by rw [← hR.ok.len]; exact pBool_len h)
 simp only [isT] at hv; subst hv
 have hG := gres_set (f := fO a) (o := o) (i := o + a) (v := if y then 1 else 0) hT hR hq hW hB hSa hle hst hlt (by rw [hsh]; simp only [Kd.ok]; cases y <;> simp) (fun h0 => ggot_flag (hgot h0))
 rw [hsh, kd_flag] at hG
 obtain ⟨fz, ca, hG⟩ := hG
 refine ⟨y, t, fl', rfl, fz, ca, aA hG, aA hgot, aA fun hyt => ?_⟩
 subst hyt
 have h0 : fl = 0 := by
  by_cases h : fl = 0
  ·exact h
  ·have h2 := hF'.2
   rw [if_pos h] at h2
   have := h2.1
   simp at this
 refine ⟨h0, ?_⟩
 have := hgot h0
 rcases hy with hy | ⟨r, hr⟩
 ·cases hy
 ·rw [hr] at this; exact this.1
theorem mrk_no {N p q o a b n : Nat} {w W : World} {ty : TypeId} {sh : Nat → Kd} {x : Nat → Int} {s t : Sl} {fl fl' : Int} (hG : GRes (fO a) p q o s fl ty sh N x w W t fl' (upd x (o + a) 0)) (hg : fl = 0 → Got (cH s.l) fl' false t.l) :
  GRes (bN a b n) p q o s fl ty sh N x w W t fl' (upd x (o + a) 0) := by
 refine ⟨hG.rdr, hG.same, hG.le, hG.trm, hG.but, hG.stays, fun h0 => ?_⟩
 have h := hg h0
 unfold Got at h
 simp only [bN, GGot]
 cases hE : cH s.l with
 | ok u =>
  obtain ⟨u, r⟩ := u
  exact sh107
 | error c => rw [hE] at h; exact h
theorem mrk_yes {N p q o a b n : Nat} {w W W2 : World} {ty : TypeId} {sh : Nat → Kd} {x x2 : Nat → Int} {s t t2 : Sl} {fl2 : Int} (hG : GRes (fO a) p q o s 0 ty sh N x w W t 0 (upd x (o + a) 1)) (hg : Got (cH s.l) 0 true t.l) (hG2 : GRes (aL b n) p q o t 0 ty sh N (upd x (o + a) 1) W W2 t2 fl2 x2) :
  GRes (bN a b n) p q o s 0 ty sh N x w W2 t2 fl2 x2 := by
 refine ⟨hG2.rdr, hG.same.trans hG2.same, Nat.le_trans hG2.le hG.le, hG2.trm, hG.but.trans hG2.but, fun h => absurd rfl h, fun _ => ?_⟩
 have h := hG2.got rfl
 unfold Got at hg
 simp only [bN, aL] at h ⊢
 cases hE : cH s.l with
 | ok u =>
  obtain ⟨u, r⟩ := u
  rw [hE] at hg
  obtain ⟨-, rfl, h2⟩ := hg
  rw [h2] at h
  simp only
  by_cases hl : r.length < n
  ·rw [if_pos hl] at h ⊢; exact h
  ·rw [if_neg hl] at h ⊢
   rw [sft_upd] at h
   obtain ⟨e1, e2, e3⟩ := h
   exact ⟨e1, by rw [e2, ins_upd'], e3⟩
 | error c => rw [hE] at hg; exact absurd rfl hg
theorem mrkPut {S : Nat → Prop} {w0 : World} {sT : Nat → Kd} {nT a b bf bw : Nat} {fv : Value} {ty0 tyF : TypeId} {v : FV} (hf : bL S w0 a fv) (hA : Arr w0 bf ty0 [fv]) (hbf : S bf) (hW : Fld S w0 sT nT (aL b 64) v.t) (hB : Arr w0 bw tyF v.l) (hbw : S bw) (ha : a < nT) (hs : sT a = .t) :
  dE S w0 sT nT (bN a b 64) (.func (.func 321) #[] #[.pointer (some ⟨bf, 0, none⟩), .pointer (some ⟨bw, 0, none⟩)]) := by
 obtain ⟨k, caps, rfl, eg, hp⟩ := hf
 refine ⟨_, _, rfl, enters_of Tryz.func321 (by kernel_rfl) rfl, ?_⟩
 intro w base p lv l q ty sh N x o hb hWt hKp hKb hbs hT hSg hl
 have cb : w.cell? ⟨bf, 0, none⟩ = some (.func (.func k) #[] caps) := by simpa using (hb.arr hA hbf).cell 0
 have ca : w.cell? ⟨q, o + a, none⟩ = some (.bool (decide (sft o x a ≠ 0))) := by rw [hSg.cell hT a ha, hs]; rfl
 have hC := hp w q o hb
 have hplt := hWt.arr.lt
 obtain ⟨k1, a1, k2, a2, k3, a3⟩ := v
 obtain ⟨eg1, hP⟩ := dE.open hW.put
 have hll : l.length + 1 ≤ 1000000 := by
  have : 1 ≤ ((bN a b 64).enc (sft o x)).length := by simp only [bN]; split <;> simp
  omega
 have hU := wBool_any base p lv l 0 (decide (sft o x a ≠ 0)) w hWt (by omega) hbs
 have HN : Hid (∀ w1 lv1 l1, Wst base p lv l1 0 w w1 lv1 → Kept S w0 w1 ∧ Trm w1 q ty sh N x ∧ (∀ k, lv1.ownBlock = some k → ¬ S k) ∧ base ≤ w1.heap.size) := by
  intro w1 lv1 l1 h
  have hlv1 : ∀ k, lv1.ownBlock = some k → ¬ S k := fun i hi hs => by
   rcases h.at_ i hi with h1 | h1
   ·exact hKb i h1 hs
   ·have := hb.lt i hs; have := hb.size; omega
  exact ⟨hb.buts h.but (fun i hi hs => by rcases hs with rfl | h1; exact hKp hi; exact hKb i h1 hi), hT.keep h.but (fun hs => by rcases hs with h1 | h1; exact (hT.ne_w hWt).1 h1; exact (hT.ne_w hWt).2 h1), hlv1, Nat.le_trans hbs h.but.size⟩
 by_cases hx : sft o x a ≠ 0
 ·have hd : decide (sft o x a ≠ 0) = true := decide_eq_true hx
  have HE : Hid ((bN a b 64).enc (sft o x) = 1 :: run (sft o x) b 64) := by show _ = _; simp only [bN, if_pos hx]
  rw [hd] at ca hU
  have hw : bZ [if true = true then 1 else 0] (l, 0) = (l ++ [1], 0) := by simp [bZ]
  rw [hw] at hU
  have HS := aA hSg
  have HL := aA hl
  clear hd hw hx hll hb hT hWt hbs hl
  simp only [Enters] at eg eg1
  go_enter Tryz.func321, Tryz.ntmps321
  go_wp2_with fail
  go_at_fn k
  refine hC.mono ?_
  rintro e w' ⟨rfl, hw⟩
  have hw := hw.symm
  subst hw
  clear hC
  go_wp2_with fail
  refine hU.mono ?_
  rintro e w1 ⟨rfl, lv1, hW1⟩
  simp only at hW1
  obtain ⟨hb1, hT1, hK1, hs1⟩ := unhide HN w1 lv1 _ hW1
  have cb1 : w1.cell? ⟨bf, 0, none⟩ = some (.func (.func k) #[] caps) := by simpa using (hb1.arr hA hbf).cell 0
  have ca1 : w1.cell? ⟨q, o + a, none⟩ = some (.bool (decide (sft o x a ≠ 0))) := by rw [(unhide HS).cell hT1 a ha, hs]; rfl
  have cw1 : w1.cell? ⟨bw, 0, none⟩ = some (.func (.func k1) #[] a1) := by simpa [FV.l] using (hb1.arr hB hbw).cell 0
  have hx : sft o x a ≠ 0 := by
   intro h0
   have := unhide HE
   simp [bN, h0] at this
  rw [decide_eq_true hx] at ca1
  have hC1 := hp w1 q o hb1
  have hP1 := hP w1 base p lv1 (l ++ [1]) q ty sh N x o hb1 hW1.wtr hKp hK1 hs1 hT1 (unhide HS) (by have := unhide HL; rw [unhide HE] at this; simp [run] at this; simp [aL, run]; omega)
  have HQ : Hid (∀ w2 lv2, Wst base p lv1 (l ++ [1] ++ (aL b 64).enc (sft o x)) 0 w1 w2 lv2 → Wst base p lv (l ++ (bN a b 64).enc (sft o x)) 0 w w2 lv2) := by
   intro w2 lv2 h
   refine hW1.trans hplt ?_
   rw [unhide HE]
   have e : l ++ (1 :: run (sft o x) b 64) = l ++ [1] ++ (aL b 64).enc (sft o x) := by simp [aL]
   rw [e]; exact h
  clear hU hW1 HN hp hP hb1 hT1 hK1 hs1 hA hB cb ca hx hplt HE HL HS
  go_wp2_with fail
  go_at_fn k
  refine hC1.mono ?_
  rintro e w' ⟨rfl, hw⟩
  have hw := hw.symm
  subst hw
  clear hC1
  go_wp2_with fail
  go_at_fn k1
  refine hP1.mono ?_
  rintro e w2 ⟨rfl, lv2, hW2⟩
  clear hP1
  go_wp2
  go_end0
  exact ⟨rfl, lv2, unhide HQ w2 lv2 hW2⟩
 ·have hd : decide (sft o x a ≠ 0) = false := decide_eq_false hx
  have HE : Hid ((bN a b 64).enc (sft o x) = [0]) := by show _ = _; simp only [bN, if_neg hx]
  rw [hd] at ca hU
  have hw : bZ [if false = true then 1 else 0] (l, 0) = (l ++ [0], 0) := by simp [bZ]
  rw [hw] at hU
  have HS := aA hSg
  have hx0 : sft o x a = 0 := by omega
  clear hd hw hll hb hT hWt hbs hl
  simp only [Enters] at eg eg1
  go_enter Tryz.func321, Tryz.ntmps321
  go_wp2_with fail
  go_at_fn k
  refine hC.mono ?_
  rintro e w' ⟨rfl, hw⟩
  have hw := hw.symm
  subst hw
  clear hC
  go_wp2_with fail
  refine hU.mono ?_
  rintro e w1 ⟨rfl, lv1, hW1⟩
  simp only at hW1
  obtain ⟨hb1, hT1, hK1, hs1⟩ := unhide HN w1 lv1 _ hW1
  have cb1 : w1.cell? ⟨bf, 0, none⟩ = some (.func (.func k) #[] caps) := by simpa using (hb1.arr hA hbf).cell 0
  have ca1 : w1.cell? ⟨q, o + a, none⟩ = some (.bool (decide (sft o x a ≠ 0))) := by rw [(unhide HS).cell hT1 a ha, hs]; rfl
  rw [decide_eq_false (fun h => h hx0)] at ca1
  have hC1 := hp w1 q o hb1
  have HQ : Hid (Wst base p lv (l ++ (bN a b 64).enc (sft o x)) 0 w w1 lv1) := by
   show Wst _ _ _ _ _ _ _ _
   rw [unhide HE]; exact hW1
  clear hU hW1 HN hp hP hb1 hT1 hK1 hs1 hA hB cb ca hx hx0 hplt HE HS
  go_wp2_with fail
  go_at_fn k
  refine hC1.mono ?_
  rintro e w' ⟨rfl, hw⟩
  have hw := hw.symm
  subst hw
  clear hC1
  go_wp2
  go_end0
  exact ⟨rfl, lv1, unhide HQ⟩
theorem mrkGet {S : Nat → Prop} {w0 : World} {sT : Nat → Kd} {nT a b bf bw : Nat} {fv : Value} {ty0 tyF : TypeId} {v : FV} (hf : bL S w0 a fv) (hA : Arr w0 bf ty0 [fv]) (hbf : S bf) (hW : Fld S w0 sT nT (aL b 64) v.t) (hB : Arr w0 bw tyF v.l) (hbw : S bw) (ha : a < nT) (hs : sT a = .t) :
  dF S w0 sT nT (bN a b 64) (.func (.func 323) #[] #[.pointer (some ⟨bf, 0, none⟩), .pointer (some ⟨bw, 0, none⟩)]) := by
 obtain ⟨k, caps, rfl, eg, hp⟩ := hf
 refine ⟨_, _, rfl, enters_of Tryz.func323 (by kernel_rfl) rfl, ?_⟩
 intro w p s fl q ty sh N x o hb hR hKp hKq hT hSg hq hn
 have cb : w.cell? ⟨bf, 0, none⟩ = some (.func (.func k) #[] caps) := by simpa using (hb.arr hA hbf).cell 0
 have hC := hp w q o hb
 have hU := rBool_any p s fl w hR
 have HF := fun W e => flag_step (W := W) (e := e) hT hR hq hSg ha hs
 obtain ⟨k1, a1, k2, a2, k3, a3⟩ := v
 obtain ⟨eg2, hP⟩ := dF.open hW.get
 have HK : Hid (∀ W f t fl' x', GRes f p q o s fl ty sh N x w W t fl' x' → Kept S w0 W) := fun W f t fl' x' h => hb.buts h.but (fun i hi hs => by rcases hs with rfl | rfl; exact hKp hi; exact hKq hi)
 have HS := aA hSg
 have HQ := aA hq
 have HN := aA hn
 simp only [Enters] at eg eg2
 clear hb hT hR hSg hq hn hW
 go_enter Tryz.func323, Tryz.ntmps323
 go_wp2_with fail
 go_at_fn k
 refine hC.mono ?_
 rintro e w' ⟨rfl, hw⟩
 have hw := hw.symm
 subst hw
 clear hC
 go_wp2_with fail
 refine hU.mono ?_
 rintro e w1 hF
 obtain ⟨y, t, fl', rfl, fz, ca, HG, Hg, Hy⟩ := HF _ _ hF
 clear HF hF hU
 have hb1 := unhide HK _ _ _ _ _ (unhide HG)
 have cb1 : (w1.setCell ⟨q, o + a, none⟩ (.bool y)).cell? ⟨bf, 0, none⟩ = some (.func (.func k) #[] caps) := by simpa using (hb1.arr hA hbf).cell 0
 have cw1 : (w1.setCell ⟨q, o + a, none⟩ (.bool y)).cell? ⟨bw, 1, none⟩ = some (.func (.func k2) #[] a2) := by simpa [FV.l] using (hb1.arr hB hbw).cell 1
 have ca1 : (w1.setCell ⟨q, o + a, none⟩ (.bool y)).cell? ⟨q, o + a, none⟩ = some (.bool y) := by
  rw [(unhide HS).cell (unhide HG).trm a ha, hs]
  have e : sft o (upd x (o + a) (if y = true then 1 else 0)) a = if y = true then 1 else 0 := by simp [sft, upd]
  rw [e, kd_flag]
 have hC1 := hp _ q o hb1
 cases y with
 | false =>
  have HE : Hid (GRes (bN a b 64) p q o s fl ty sh N x w (w1.setCell ⟨q, o + a, none⟩ (.bool false)) t fl' (upd x (o + a) 0)) := mrk_no (unhide HG) (unhide Hg)
  clear hp hP hb1 HK HG Hg Hy HS HQ HN hA hB cb
  go_wp2_with fail
  generalize w1.setCell ⟨q, o + a, none⟩ (.bool false) = W at *
  go_at_fn k
  refine hC1.mono ?_
  rintro e w' ⟨rfl, hw⟩
  have hw := hw.symm
  subst hw
  clear hC1
  go_wp2
  go_end0
  exact ⟨rfl, t, fl', _, unhide HE⟩
 | true =>
  obtain ⟨rfl, rfl⟩ := unhide Hy rfl
  have hG1 : GRes (fO a) p q o s 0 ty sh N x w (w1.setCell ⟨q, o + a, none⟩ (.bool true)) t 0 (upd x (o + a) 1) := unhide HG
  have hP1 := hP _ p t 0 q ty sh N (upd x (o + a) 1) o hb1 hG1.rdr hKp hKq hG1.trm (unhide HS) (fun z hz e => by obtain ⟨z', hz', e2⟩ := hG1.same z hz; exact unhide HQ z' hz' (e2.trans e)) (Nat.le_trans hG1.le (unhide HN))
  have HE : Hid (∀ W2 t2 fl2 x2, GRes (aL b 64) p q o t 0 ty sh N (upd x (o + a) 1) (w1.setCell ⟨q, o + a, none⟩ (.bool true)) W2 t2 fl2 x2 → GRes (bN a b 64) p q o s 0 ty sh N x w W2 t2 fl2 x2) := fun W2 t2 fl2 x2 h => mrk_yes hG1 (unhide Hg rfl) h
  clear hp hP hb1 HK HG Hg Hy HS HQ HN hA hB cb hG1
  go_wp2_with fail
  generalize w1.setCell ⟨q, o + a, none⟩ (.bool true) = W at *
  go_at_fn k
  refine hC1.mono ?_
  rintro e w' ⟨rfl, hw⟩
  have hw := hw.symm
  subst hw
  clear hC1
  go_wp2_with fail
  go_at_fn k2
  refine hP1.mono ?_
  rintro e w2 ⟨rfl, t2, fl2, x2, hG2⟩
  have HE2 := aA (unhide HE _ _ _ _ hG2)
  clear hP1 hG2 HE
  go_wp2
  go_end0
  exact ⟨rfl, t2, fl2, x2, unhide HE2⟩
theorem zero64m : Tryz.prog.built 30 [] = some (cl sB 64 (fun _ => 0)).toArray := by kernel_rfl
theorem pL (x y : Nat → Int) (w : World) : (Op.equalIn 10000 30 (.agg (cl sB 64 x).toArray) (.agg (cl sB 64 y).toArray)).run Tryz.prog w = .ok (ag 64 x y) w := by
 rw [cl_b (s := sB) (x := x) (fun _ _ => rfl), cl_b (s := sB) (x := y) (fun _ _ => rfl), show (10000 : Nat) = 9998 + 1 + 1 from rfl, run_eqB 9998 Tryz.underlying30 Tryz.underlying5 Tryz.sz1e _ _ (by simp [run]) (by simp [run]), run_eq]
theorem run_zero (x : Nat → Int) (b n : Nat) : decide (run x b n = List.replicate n 0) = ag n (sft b x) (fun _ => 0) := by
 have e : (List.replicate n (0 : Int)) = run (fun _ => 0) 0 n := by
  unfold run
  apply List.ext_getElem?
  intro i
  by_cases h : i < n <;> simp [h]
 have e2 : run x b n = run (sft b x) 0 n := by
  unfold run sft
  apply List.map_congr_left
  intro i _
  rw [Nat.zero_add]
 rw [e, e2, run_eq]
theorem oT {sT : Nat → Kd} {nT : Nat} {sh : Nat → Kd} {N o : Nat} (h : Seg sT nT sh N o) {w : World} {q : Nat} {ty : TypeId} {x : Nat → Int} (t : Trm w q ty sh N x) (b n : Nat) (hb : b + n ≤ nT) (hs : ∀ i, i < n → sT (b + i) = .b) : w.rangeAt q (o + b) (cl sB n (sft b (sft o x))) := by
 intro j v hj
 have hjn : j < n := by
  by_cases h : j < n
  ·exact h
  ·rw [List.getElem?_eq_none (by rw [aC]; omega)] at hj; cases hj
 rw [eB _ _ _ _ hjn] at hj
 have := h.cell t (b + j) (by omega)
 rw [← Nat.add_assoc, hs j hjn] at this
 rw [this]
 exact hj
theorem bG {P : Program} {ops : Array Oper} {rest : List Oper} {o : Oper} {a : Act} {w : World} {Q : Exit → Act → World → Prop} (hw : Region.wanted o (yielded ops a.tmps) = true) (h : ∀ K : Act → World → Prop, (∀ a w, wpList P ops Q rest a w → K a w) → o.wp P a w K Q) : wpList P ops Q (o :: rest) a w :=
 wpList_step fun K hK => by rw [if_pos hw]; exact h K hK
theorem eV {P : Program} {ops : Array Oper} {rest : List Oper} {o : Oper} {a : Act} {w : World} {Q : Exit → Act → World → Prop} (hw : Region.wanted o (yielded ops a.tmps) = true) (t : TypeId) (ps : Array (Nat × Operand)) (ho : o.op = .build t ps) (cells : Array Value)
  (hb : P.built t (ps.map fun p => (p.1, a.eval p.2)).toList = some cells) (h : wpList P ops Q rest (a.put o.dst (.agg cells)) w) : wpList P ops Q (o :: rest) a w := by
 refine bG hw fun K hK => ?_
 have hrun := run_build (P := P) w t (ps.map fun p => (p.1, a.eval p.2)) cells hb
 unfold Oper.wp
 simp [execOp, ho, hrun, Result.andThen]
 exact hK _ _ h
theorem mrkFit {S : Nat → Prop} {w0 : World} {sT : Nat → Kd} {nT a b bf bg : Nat} {fv gv : Value} {ty0 ty1 : TypeId} (hf : bL S w0 a fv) (hA : Arr w0 bf ty0 [fv]) (hbf : S bf) (hg : bL S w0 b gv) (hB : Arr w0 bg ty1 [gv]) (hbg : S bg) (ha : a < nT) (hs : sT a = .t) (hb : b + 64 ≤ nT) (hsb : ∀ i, i < 64 → sT (b + i) = .b) :
    dJ S w0 sT nT (bN a b 64) (.func (.func 325) #[] #[.pointer (some ⟨bf, 0, none⟩), .pointer (some ⟨bg, 0, none⟩)]) := by
  obtain ⟨k, caps, rfl, eg, hp⟩ := hf
  obtain ⟨k2, caps2, rfl, eg2, hp2⟩ := hg
  refine ⟨_, _, rfl, enters_of Tryz.func325 (by kernel_rfl) rfl, ?_⟩
  intro w q ty sh N x o hK hT hSg
  have cb : w.cell? ⟨bf, 0, none⟩ = some (.func (.func k) #[] caps) := by simpa using (hK.arr hA hbf).cell 0
  have cg : w.cell? ⟨bg, 0, none⟩ = some (.func (.func k2) #[] caps2) := by simpa using (hK.arr hB hbg).cell 0
  have ca : w.cell? ⟨q, o + a, none⟩ = some (.bool (decide (sft o x a ≠ 0))) := by rw [hSg.cell hT a ha, hs]; rfl
  have hC := hp w q o hK
  have hC2 := hp2 w q o hK
  have rg := oT hSg hT b 64 hb hsb
  have c0 : ∃ c, w.cell? ⟨q, o + b, none⟩ = some c := ⟨_, hSg.cell hT b (by omega)⟩
  obtain ⟨cc, c0⟩ := c0
  have HP : Hid ((bN a b 64).fit (sft o x) = (decide (sft o x a ≠ 0) || ag 64 (sft b (sft o x)) (fun _ => 0))) := by
    show _ = _
    simp only [bN, run_zero]
  have hE := fun W => pL (sft b (sft o x)) (fun _ => 0) W
  have hl : (cl sB 64 (sft b (sft o x))).length = 64 := aC _ _ _
  have hz := zero64m
  generalize (bN a b 64).fit (sft o x) = R at *
  generalize ag 64 (sft b (sft o x)) (fun _ => 0) = r at *
  generalize decide (sft o x a ≠ 0) = fl at *
  generalize cl sB 64 (sft b (sft o x)) = X at *
  generalize cl sB 64 (fun _ => (0 : Int)) = Z at *
  have RG := aA rg
  have HL := aA hl
  have HZ := aA hz
  clear hp hp2 hSg hK hT hA hB rg hl hz
  simp only [Enters] at eg eg2
  cases fl with
  | true =>
    rw [Bool.true_or] at HP
    go_enter Tryz.func325, Tryz.ntmps325
    go_wp2_with fail
    go_at_fn k
    refine hC.mono ?_
    rintro e w' ⟨rfl, hw⟩
    have hw := hw.symm
    subst hw
    clear hC
    go_wp2
    go_ret
    exact ⟨by rw [unhide HP]; rfl, Below.refl _ _⟩
  | false =>
    rw [Bool.false_or] at HP
    go_enter Tryz.func325, Tryz.ntmps325
    go_wp2_with fail
    go_at_fn k
    refine hC.mono ?_
    rintro e w' ⟨rfl, hw⟩
    have hw := hw.symm
    subst hw
    clear hC
    go_wp2_with fail
    go_at_fn k2
    refine hC2.mono ?_
    rintro e w' ⟨rfl, hw⟩
    have hw := hw.symm
    subst hw
    clear hC2
    go_wp2_with (first
      | (refine bG (by rfl) fun K1 hK1 => ?_
         refine wp_load_mid 30 (.tmp 14) rfl q (o + b) rfl X _ (unhide RG) Tryz.underlying30 rfl (by rw [unhide HL]; exact Tryz.szKSig) ?_
         refine hK1 _ _ ?_
         clear hK1 K1
         simp only [Act.put]
         refine eV (by rfl) 30 _ rfl _ (by have h := unhide HZ; simpa using h) ?_))
    go_ret
    exact ⟨by rw [unhide HP]; rfl, Below.refl _ _⟩
theorem Tryz.szMEntry : (Tryz.prog.info? 270).map (·.size) = some 3 := by kernel_rfl
theorem pI {S : Nat → Prop} {sT : Nat → Kd} {nT a b : Nat} (w : World) (fv gv : Value) (hS : ∀ k, S k → k < w.heap.size) (hf : bL S w a fv) (hg : bL S w b gv) (ha : a < nT) (hs : sT a = .t) (hb : b + 64 ≤ nT) (hsb : ∀ i, i < 64 → sT (b + i) = .b) :
  Calls Tryz.prog 178 #[fv, gv] w (cL S sT nT (bN a b 64) w) := by
 have hmf : ∀ (fn : Fn) (first cap : Array Value) (w : World), (Instr.makeFunc fn first cap).run Tryz.prog w = .ok (.func fn first cap) w := fun _ _ _ _ => rfl
 have hf' := hf
 have hg' := hg
 obtain ⟨k, caps, rfl, -, -⟩ := hf
 obtain ⟨k2, caps2, rfl, -, -⟩ := hg
 have B3 : Below w.heap.size w (((w.alloc (.cells #[.func (.func k) #[] caps] 281)).alloc (.cells #[.func (.func k2) #[] caps2] 283)).alloc (.cells #[.nilFunc, .nilFunc, .nilFunc] 270)) := bV (bV (aJ w _) _ (by simp)) _ (by simp; omega)
 have F3 : Arr (((w.alloc (.cells #[.func (.func k) #[] caps] 281)).alloc (.cells #[.func (.func k2) #[] caps2] 283)).alloc (.cells #[.nilFunc, .nilFunc, .nilFunc] 270)) w.heap.size 281 [.func (.func k) #[] caps] := ((Arr.new w 281 [.func (.func k) #[] caps]).alloc _).alloc _
 have G3 : Arr (((w.alloc (.cells #[.func (.func k) #[] caps] 281)).alloc (.cells #[.func (.func k2) #[] caps2] 283)).alloc (.cells #[.nilFunc, .nilFunc, .nilFunc] 270)) (w.heap.size + 1) 283 [.func (.func k2) #[] caps2] := by
  have := (Arr.new (w.alloc (.cells #[.func (.func k) #[] caps] 281)) 283 [.func (.func k2) #[] caps2]).alloc (.cells #[.nilFunc, .nilFunc, .nilFunc] 270)
  have s1 : (w.alloc (.cells #[.func (.func k) #[] caps] 281)).heap.size = w.heap.size + 1 := by simp
  rw [s1] at this; exact this
 have R3 : Arr (((w.alloc (.cells #[.func (.func k) #[] caps] 281)).alloc (.cells #[.func (.func k2) #[] caps2] 283)).alloc (.cells #[.nilFunc, .nilFunc, .nilFunc] 270)) (w.heap.size + 2) 270 [.nilFunc, .nilFunc, .nilFunc] := by
  have := Arr.new ((w.alloc (.cells #[.func (.func k) #[] caps] 281)).alloc (.cells #[.func (.func k2) #[] caps2] 283)) 270 [.nilFunc, .nilFunc, .nilFunc]
  have s1 : ((w.alloc (.cells #[.func (.func k) #[] caps] 281)).alloc (.cells #[.func (.func k2) #[] caps2] 283)).heap.size = w.heap.size + 2 := by simp
  rw [s1] at this; exact this
 have s3 : (((w.alloc (.cells #[.func (.func k) #[] caps] 281)).alloc (.cells #[.func (.func k2) #[] caps2] 283)).alloc (.cells #[.nilFunc, .nilFunc, .nilFunc] 270)).heap.size = w.heap.size + 3 := by simp
 generalize hWW : (((w.alloc (.cells #[.func (.func k) #[] caps] 281)).alloc (.cells #[.func (.func k2) #[] caps2] 283)).alloc (.cells #[.nilFunc, .nilFunc, .nilFunc] 270)) = W at *
 have hS3 : ∀ j, (fun j => S j ∨ j = w.heap.size ∨ j = w.heap.size + 1) j → j < W.heap.size := fun j hj => by
  rcases hj with h | h | h
  ·have := hS j h; omega
  ·omega
  ·omega
 have hK3 := New.kept hS B3
 have hf3 := hf'.later (S' := fun j => S j ∨ j = w.heap.size ∨ j = w.heap.size + 1) (fun j h => .inl h) hK3
 have hg3 := hg'.later (S' := fun j => S j ∨ j = w.heap.size ∨ j = w.heap.size + 1) (fun j h => .inl h) hK3
 have hC := qT (sT := sT) (nT := nT) W _ hS3 (mrkSl hg3 G3 (.inr (.inr rfl))) hb hsb (by decide) (by decide)
 have HE : Hid (∀ (w4 : World) (v : FV) (c : Array Value), cL (fun j => S j ∨ j = w.heap.size ∨ j = w.heap.size + 1) sT nT (aL b 64) W (.returned (.agg v.a)) w4 → Arr (w4.alloc (.cells v.a 270)) (w.heap.size + 2) 270 [.nilFunc, .nilFunc, .nilFunc] ∧
   cL S sT nT (bN a b 64) w (.returned (.agg #[.func (.func 321) #[] #[.pointer (some ⟨w.heap.size, 0, none⟩), .pointer (some ⟨w4.heap.size, 0, none⟩)], .func (.func 323) #[] #[.pointer (some ⟨w.heap.size, 0, none⟩), .pointer (some ⟨w4.heap.size, 0, none⟩)], .func (.func 325) #[] #[.pointer (some ⟨w.heap.size, 0, none⟩), .pointer (some ⟨w.heap.size + 1, 0, none⟩)]])) ((w4.alloc (.cells v.a 270)).setRow (w.heap.size + 2) c)) := by
  intro w4 v c hM
  obtain ⟨v', hv, hF, hb4⟩ := hM
  have hvv : v' = v := by
   obtain ⟨a1, a2, a3, a4, a5, a6⟩ := v
   obtain ⟨b1, b2, b3, b4, b5, b6⟩ := v'
   simp [FV.a] at hv
   obtain ⟨⟨rfl, rfl⟩, ⟨rfl, rfl⟩, rfl, rfl⟩ := hv
   rfl
  subst hvv
  have z4 := hb4.size
  have hb5 : Below W.heap.size W (w4.alloc (.cells v'.a 270)) := hb4.alloc hb4.size _
  have s5 : (w4.alloc (.cells v'.a 270)).heap.size = w4.heap.size + 1 := by simp
  have hbl : Below w.heap.size w (w4.alloc (.cells v'.a 270)) := B3.trans (hb5.mono B3.size)
  refine ⟨R3.later hb5, ⟨⟨_, _, _, _, _, _⟩, rfl, ?_, bJ hbl (by omega) c⟩⟩
  have hw6 : ∀ j, j ≠ w.heap.size + 2 → ((w4.alloc (.cells v'.a 270)).setRow (w.heap.size + 2) c).heap[j]? = (w4.alloc (.cells v'.a 270)).heap[j]? := fun j hj => setRow_other _ _ _ _ hj
  have s6 : ((w4.alloc (.cells v'.a 270)).setRow (w.heap.size + 2) c).heap.size = w4.heap.size + 1 := by simp
  have A5 : Arr (w4.alloc (.cells v'.a 270)) w4.heap.size 270 v'.l := Arr.new w4 _ v'.l
  have A6 : Arr ((w4.alloc (.cells v'.a 270)).setRow (w.heap.size + 2) c) w4.heap.size 270 v'.l := (hw6 _ (by omega)).trans A5
  have F6 : Arr ((w4.alloc (.cells v'.a 270)).setRow (w.heap.size + 2) c) w.heap.size 281 [.func (.func k) #[] caps] := (hw6 _ (by omega)).trans (F3.later hb5)
  have G6 : Arr ((w4.alloc (.cells v'.a 270)).setRow (w.heap.size + 2) c) (w.heap.size + 1) 283 [.func (.func k2) #[] caps2] := (hw6 _ (by omega)).trans (G3.later hb5)
  have hKw : Kept S w ((w4.alloc (.cells v'.a 270)).setRow (w.heap.size + 2) c) := New.kept hS (bJ hbl (by omega) c)
  have hsub : ∀ j, S j → New S w ((w4.alloc (.cells v'.a 270)).setRow (w.heap.size + 2) c) j := fun j h => .inl h
  have hf6 := hf'.later hsub hKw
  have hg6 := hg'.later hsub hKw
  have hF6 : Fld (New S w ((w4.alloc (.cells v'.a 270)).setRow (w.heap.size + 2) c)) ((w4.alloc (.cells v'.a 270)).setRow (w.heap.size + 2) c) sT nT (aL b 64) v'.t := by
   refine hF.later (fun j hj => ?_) ⟨fun j hj => ?_, by rw [s6]; omega, fun j hj => ?_⟩
   ·rcases hj with (h | h | h) | h
    ·exact .inl h
    ·exact .inr ⟨by omega, by rw [s6]; omega⟩
    ·exact .inr ⟨by omega, by rw [s6]; omega⟩
    ·exact .inr ⟨by omega, by rw [s6]; omega⟩
   ·rcases hj with h | h
    ·have := hS3 j h; omega
    ·exact h.2
   ·have hj4 : j < w4.heap.size := by
     rcases hj with h | h
     ·have := hS3 j h; omega
     ·exact h.2
    have hj2 : j ≠ w.heap.size + 2 := by
     rcases hj with (h | h | h) | h
     ·have := hS j h; omega
     ·omega
     ·omega
     ·omega
    rw [hw6 j hj2]
    exact (aJ w4 (.cells v'.a 270)).block j hj4
  have nF : New S w ((w4.alloc (.cells v'.a 270)).setRow (w.heap.size + 2) c) w.heap.size := .inr ⟨Nat.le_refl _, by rw [s6]; omega⟩
  have nG : New S w ((w4.alloc (.cells v'.a 270)).setRow (w.heap.size + 2) c) (w.heap.size + 1) := .inr ⟨by omega, by rw [s6]; omega⟩
  have nW : New S w ((w4.alloc (.cells v'.a 270)).setRow (w.heap.size + 2) c) w4.heap.size := .inr ⟨by omega, by rw [s6]; omega⟩
  exact ⟨mrkPut hf6 F6 nF hF6 A6 nW ha hs, mrkGet hf6 F6 nF hF6 A6 nW ha hs, mrkFit hf6 F6 nF hg6 G6 nG ha hs hb hsb⟩
 subst hWW
 clear B3 F3 G3 R3 s3 hS3 hK3 hf3 hg3 hf' hg' hS
 go_enter Tryz.func178, Tryz.ntmps178
 go_wp2_with fail
 refine hC.mono ?_
 intro e w4 hM
 have hM' := hM
 obtain ⟨v, rfl, -, -⟩ := hM
 have HE4 := aA (fun c => unhide HE w4 v c hM')
 clear hC hM' HE
 obtain ⟨a1, a2, a3, a4, a5, a6⟩ := v
 simp only [FV.a] at *
 go_upto_region 2 with fail
 refine rgY4 ?_
 refine wpList_store_row rfl 270 (.tmp 4) (.tmp 11) rfl (w.heap.size + 2) _ rfl rfl 270 _ (unhide HE4 #[]).1 Tryz.szMEntry rfl (by simp [Value.oneCell']) ?_
 refine wpList_nil ?_
 go_wp2
 refine bodyPost_ret (results_cell_row rfl _ _ (w.heap.size + 2) 270 #[.func (.func 321) #[] #[.pointer (some ⟨w.heap.size, 0, none⟩), .pointer (some ⟨w4.heap.size, 0, none⟩)], .func (.func 323) #[] #[.pointer (some ⟨w.heap.size, 0, none⟩), .pointer (some ⟨w4.heap.size, 0, none⟩)], .func (.func 325) #[] #[.pointer (some ⟨w.heap.size, 0, none⟩), .pointer (some ⟨w.heap.size + 1, 0, none⟩)]] (0, 0) _ rfl (setRow_heap _ (w.heap.size + 2) _ _ _ _ (unhide HE4 #[]).1) Tryz.underlying270 rfl Tryz.szMEntry) rfl ?_
 exact (unhide HE4 _).2
end Go.Proofs.YtejagcngbgnogaaGreat
