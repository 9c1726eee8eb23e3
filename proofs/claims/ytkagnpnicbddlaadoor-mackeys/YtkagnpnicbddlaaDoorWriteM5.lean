import Derived.Test.YtkagnpnicbddlaaDoorDigM5
import Derived.Test.YtkagnpnicbddlaaDoorButM
import Derived.Test.YtkagnpnicbddlaaDoorBlockW5
namespace Go.Proofs.YtkagnpnicbddlaaDoor.S5
open Go.RowKit

/-- at the loop: p bytes of the piece are taken, the whole is blocks -/
structure WI (w : World) (g : Nat) (M l : List Int) (N : Int) (b : Option Addr) (k cp : Nat) (p : Nat) (st held : List Int) (wr : World) : Prop where
  hp : p ≤ l.length
  hk : k = l.length - p
  hmod : (M.length + p) % 128 = 0
  lies : Lies wr b (l.drop p)
  blk : 0 < (l.drop p).length → ∀ x, b = some x → x.block ≠ g
  hcp : k ≤ cp
  hmx : cp ≤ 9223372036854775807
  dig : DgR wr g st held N
  hst : st = led FZ (M ++ l) ((M.length + p) / 128)
  but : But g w wr
  kon : KLaid wr
theorem KLaid.but {w w' : World} {g : Nat} (h : KLaid w) (hb : But g w w') (hg : 3 ≠ g) : KLaid w' := fun i hi => (hb.cell (p := ⟨3, i, none⟩) h.lt hg).trans (h i hi)

theorem WI.start {w W : World} {g : Nat} {M l : List Int} {N : Int} {a : Option Addr} {len cap : Nat} {st held : List Int} (hD : DgR W g st held N) (hst : st = led FZ M (M.length / 128)) (hr : M.length % 128 = 0) (hl : l.length = len)
    (hlies : Lies w a l) (hblk : 0 < l.length → ∀ x, a = some x → x.block ≠ g) (h2 : len ≤ cap) (h3 : cap ≤ 9223372036854775807) (hb : But g w W) (hK : KLaid w) (hgK : 3 ≠ g) : WI w g M l N a len cap 0 st held W :=
  ⟨by omega, by omega, by omega, hb.lies hlies hblk, hblk, h2, h3, hD, by rw [hst, led_append _ _ _ _ (by omega)]; rfl, hb, hK.but hb hgK⟩

theorem held_block {M l held : List Int} {r c : Nat} (hr : M.length % 128 = r) (hh : held.take r = M.drop (128 * (M.length / 128))) (hd : held.length = 128) (hc : c ≤ l.length) (hf : r + c = 128) :
    splice held r (l.take c) = ((M ++ l).drop (128 * (M.length / 128))).take 128 := by
  have hq : 128 * (M.length / 128) ≤ M.length := by omega
  have hdl : (M.drop (128 * (M.length / 128))).length = r := by simp; omega
  unfold splice
  have hcl : (l.take c).length = c := by simp; omega
  have h0 : held.drop (r + (l.take c).length) = [] := List.drop_eq_nil_of_le (by omega)
  have h1 := take_app (M.drop (128 * (M.length / 128))) l r c hdl
  rw [hf] at h1
  rw [h0, List.append_nil, hh, List.drop_append_of_le_length hq, h1]
theorem WI.full {w W : World} {g : Nat} {M l : List Int} {N : Int} {a b : Option Addr} {len cap r c : Nat} {st held st0 held0 : List Int} (hD : DgR W g st held N) (hst : st = blockZ st0 held) (hst0 : st0 = led FZ M (M.length / 128))
    (hhd : held = splice held0 r (l.take c)) (hr : M.length % 128 = r) (hh0 : held0.take r = M.drop (128 * (M.length / 128))) (hd0 : held0.length = 128) (hl : l.length = len) (hc : c ≤ len) (hf : r + c = 128)
    (hb0 : b = if cap = c then a else a.map (·.add c))
    (hlies : Lies w a l) (hblk : 0 < l.length → ∀ x, a = some x → x.block ≠ g) (h2 : len ≤ cap) (h3 : cap ≤ 9223372036854775807) (hb : But g w W) (hK : KLaid w) (hgK : 3 ≠ g) : WI w g M l N b (len - c) (cap - c) c st held W := by
  refine ⟨by omega, by omega, by omega, Lies.from (hb.lies hlies hblk) hb0 (by omega), fun hp => from_block hb0 (hblk (by rw [List.length_drop] at hp; omega)), by omega, by omega, hD, ?_, hb, hK.but hb hgK⟩
  have e : (M.length + c) / 128 = M.length / 128 + 1 := by omega
  rw [e, led, led_append _ _ _ _ (by omega), ← hst0, hst, hhd, held_block hr hh0 hd0 (by omega) hf]
theorem WI.step {w wr W : World} {g : Nat} {M l : List Int} {N : Int} {b b' : Option Addr} {k cp p : Nat} {st held st' : List Int} (I : WI w g M l N b k cp p st held wr) (hk : 128 ≤ k) (hD : DgR W g st' held N)
    (hst : st' = blockZ st ((l.drop p).take 128)) (hb' : b' = if cp = 128 then b else b.map (·.add 128)) (hb : But g wr W) (hgK : 3 ≠ g) : WI w g M l N b' (k - 128) (cp - 128) (p + 128) st' held W := by
  have h1 := I.hp
  have h2 := I.hk
  have h3 := I.hmod
  have h4 := I.hcp
  have h5 := I.hmx
  have hl : Lies W b' ((l.drop p).drop 128) := Lies.from (hb.lies I.lies I.blk) hb' (by simp; omega)
  rw [List.drop_drop] at hl
  refine ⟨by omega, by omega, by omega, hl, fun hp => from_block hb' (I.blk (by rw [List.length_drop] at hp ⊢; omega)), by omega, by omega, hD, ?_, I.but.trans hb, I.kon.but hb hgK⟩
  have e : (M.length + (p + 128)) / 128 = (M.length + p) / 128 + 1 := by omega
  have e2 : 128 * ((M.length + p) / 128) = M.length + p := by omega
  rw [e, led, ← I.hst, hst, e2, drop_app]
theorem WI.done {w wr W : World} {g : Nat} {M l : List Int} {N : Int} {b : Option Addr} {k cp p : Nat} {st held held' : List Int} (I : WI w g M l N b k cp p st held wr) (hk : k < 128) (hD : DgR W g st held' N)
    (hh : held' = splice held 0 (l.drop p)) (hN : N = ((M.length : Int) + l.length) % 18446744073709551616) (hMB : IsB M) (hB : IsB l) : Dg W g (M ++ l) := by
  have h1 := I.hp
  have h2 := I.hk
  have h3 := I.hmod
  have hlen : (M ++ l).length = M.length + l.length := by simp
  have e1 : (M.length + l.length) / 128 = (M.length + p) / 128 := by omega
  have e2 : (M.length + l.length) % 128 = k := by omega
  have e3 : 128 * ((M.length + p) / 128) = M.length + p := by omega
  have hdl : (l.drop p).length = k := by simp; omega
  refine ⟨st, held', ?_, ?_, ?_, fun x hx => ?_⟩
  · have : (((M ++ l).length : Nat) : Int) % 18446744073709551616 = N := by rw [hN, hlen]; omega
    rw [this]; exact hD
  · rw [hlen, e1]; exact I.hst
  · rw [hlen, e1, e2, e3, hh]
    unfold splice
    have h0 := take_app (l.drop p) (held.drop (0 + (l.drop p).length)) k 0 hdl
    rw [Nat.add_zero, List.take_zero, List.append_nil] at h0
    rw [List.take_zero, List.nil_append, h0, drop_app]
  · rcases List.mem_append.1 hx with h | h
    · exact hMB x h
    · exact hB x h
theorem dg_short {W : World} {g : Nat} {M l : List Int} {N : Int} {r : Nat} {st held held0 : List Int} (hD : DgR W g st held N) (hst : st = led FZ M (M.length / 128))
    (hhd : held = splice held0 r l) (hr : M.length % 128 = r) (hh0 : held0.take r = M.drop (128 * (M.length / 128))) (hd0 : held0.length = 128) (hf : r + l.length < 128) (hN : N = ((M.length : Int) + l.length) % 18446744073709551616) (hMB : IsB M) (hB : IsB l) : Dg W g (M ++ l) := by
  have hlen : (M ++ l).length = M.length + l.length := by simp
  have e1 : (M.length + l.length) / 128 = M.length / 128 := by omega
  have e2 : (M.length + l.length) % 128 = r + l.length := by omega
  have hdl : (M.drop (128 * (M.length / 128))).length = r := by simp; omega
  refine ⟨st, held, ?_, ?_, ?_, fun x hx => ?_⟩
  · have : (((M ++ l).length : Nat) : Int) % 18446744073709551616 = N := by rw [hN, hlen]; omega
    rw [this]; exact hD
  · rw [hlen, e1, led_append _ _ _ _ (by omega)]; exact hst
  · rw [hlen, e1, e2, hhd]
    unfold splice
    have ht : (held0.take r).length = r := by simp; omega
    have h0 := take_app (held0.take r) (l ++ held0.drop (r + l.length)) r l.length ht
    have h1 := take_app l (held0.drop (r + l.length)) l.length 0 rfl
    rw [Nat.add_zero, List.take_zero, List.append_nil] at h1
    rw [h0, h1, hh0, List.drop_append_of_le_length (by omega)]
  · rcases List.mem_append.1 hx with h | h
    · exact hMB x h
    · exact hB x h
theorem WI.here {w wr : World} {g : Nat} {M l : List Int} {N : Int} {b : Option Addr} {k cp p : Nat} {st held : List Int} (I : WI w g M l N b k cp p st held wr) (hk : 128 ≤ k) :
    ∃ bk off, b = some ⟨bk, off, none⟩ ∧ bk ≠ g ∧ bk < wr.heap.size ∧ wr.rangeAt bk off (U8 ((l.drop p).take 128)) ∧ ((l.drop p).take 128).length = 128 := by
  have h1 := I.hp
  have h2 := I.hk
  have hl : (l.drop p).length = k := by simp; omega
  obtain ⟨bk, off, hb, hlt, hc⟩ := I.lies (by omega)
  refine ⟨bk, off, hb, I.blk (by omega) _ hb, hlt, fun j v hv => ?_, by simp; omega⟩
  have hj : j < ((l.drop p).take 128).length := by
    by_cases hj : j < ((l.drop p).take 128).length
    · exact hj
    · rw [List.getElem?_eq_none (by rw [U8_length]; omega)] at hv; simp at hv
  rw [U8_at _ j hj] at hv
  simp only [Option.some.injEq] at hv
  subst hv
  have hj2 : j < (l.drop p).length ∧ j < 128 := by rw [List.length_take] at hj; omega
  rw [hc j hj2.1]
  congr 2
  simp only [List.getD_eq_getElem?_getD, List.getElem?_take, hj2.2, if_true]
theorem toArr8 (l : List Int) (h : l.length = 8) : (U64 l).toArray = #[.int .u64 (St.ofL l).a, .int .u64 (St.ofL l).b, .int .u64 (St.ofL l).c, .int .u64 (St.ofL l).d, .int .u64 (St.ofL l).e, .int .u64 (St.ofL l).f, .int .u64 (St.ofL l).g, .int .u64 (St.ofL l).h] := by
  match l, h with
  | [a, b, c, d, e, f, g, h], _ => rfl
theorem toL_ofL (l : List Int) (h : l.length = 8) : (St.ofL l).toL = l := by
  match l, h with
  | [a, b, c, d, e, f, g, h], _ => rfl
theorem DgR.drew {w : World} {g : Nat} {st held : List Int} {n : Int} (h : DgR w g st held n) : DgR w.drew g st held n := ⟨h.arr, h.stl, h.hdl, h.stW, h.hdB⟩
theorem DgR.set8 {w : World} {g : Nat} {st held : List Int} {n : Int} (h : DgR w g st held n) (l : List Int) (hl : l.length = 8) (hW : IsW l) :
    DgR ((((((((w.setCell ⟨g, 0, none⟩ (.int .u64 (St.ofL l).a)).setCell ⟨g, 1, none⟩ (.int .u64 (St.ofL l).b)).setCell ⟨g, 2, none⟩ (.int .u64 (St.ofL l).c)).setCell ⟨g, 3, none⟩ (.int .u64 (St.ofL l).d)).setCell ⟨g, 4, none⟩ (.int .u64 (St.ofL l).e)).setCell ⟨g, 5, none⟩ (.int .u64 (St.ofL l).f)).setCell ⟨g, 6, none⟩ (.int .u64 (St.ofL l).g)).setCell ⟨g, 7, none⟩ (.int .u64 (St.ofL l).h)) g l held n := by
  refine ⟨?_, hl, h.hdl, hW, h.hdB⟩
  have h1 := h.stl
  have h0 := h.arr
  match st, h1, h0 with
  | [a, b, c, d, e, f, g', i], _, h0 =>
    have := (((((((h0.set 0 (.int .u64 (St.ofL l).a)).set 1 (.int .u64 (St.ofL l).b)).set 2 (.int .u64 (St.ofL l).c)).set 3 (.int .u64 (St.ofL l).d)).set 4 (.int .u64 (St.ofL l).e)).set 5 (.int .u64 (St.ofL l).f)).set 6 (.int .u64 (St.ofL l).g)).set 7 (.int .u64 (St.ofL l).h)
    have e : digL l held n = digL (St.ofL l).toL held n := by rw [toL_ofL l hl]
    rw [e]
    exact this
theorem _root_.Go.Proofs.YtkagnpnicbddlaaDoor.But.set8w {g : Nat} {a w : World} (h : But g a w) (T : St) :
    But g a ((((((((w.setCell ⟨g, 0, none⟩ (.int .u64 T.a)).setCell ⟨g, 1, none⟩ (.int .u64 T.b)).setCell ⟨g, 2, none⟩ (.int .u64 T.c)).setCell ⟨g, 3, none⟩ (.int .u64 T.d)).setCell ⟨g, 4, none⟩ (.int .u64 T.e)).setCell ⟨g, 5, none⟩ (.int .u64 T.f)).setCell ⟨g, 6, none⟩ (.int .u64 T.g)).setCell ⟨g, 7, none⟩ (.int .u64 T.h)) :=
  (((((((h.setCell 0 _).setCell 1 _).setCell 2 _).setCell 3 _).setCell 4 _).setCell 5 _).setCell 6 _).setCell 7 _
end Go.Proofs.YtkagnpnicbddlaaDoor.S5
