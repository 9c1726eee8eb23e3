import Derived.Test.YtaidncibndcbfaaDoorQGrC
import Derived.Test.YtaidncibndcbfaaDoorQGrA
import Derived.Test.YtaidncibndcbfaaDoorQGrB
import Derived.RegionTactic
import Derived.BigRegion
import Derived.Deep.RegionWith
namespace Go.Proofs.YtaidncibndcbfaaDoor
open Go.RowKit

/-! The reference's own turns, words and schedule. -/
theorem turned_code (x n : Int) (h0 : 0 ≤ x) (h1 : x < 4294967296) (hn0 : 1 ≤ n) (hn1 : n ≤ 31) :
    bits .or .u32 (x / 2 ^ n.toNat) (x * 2 ^ (32 - n).toNat % 4294967296) = rotZ 32 x (-n) := by
  have h := rot32_code x (-n) h0 h1
  have e1 : ((-n) % 32).toNat = (32 - n).toNat := by omega
  have e2 : (32 - (-n) % 32).toNat = n.toNat := by omega
  rw [e1, e2] at h
  rw [← h, bits_or32, bits_or32, BitVec.or_comm]

theorem leV_step (p : List Int) (k : Nat) (hk : k < p.length) : leV (p.take (k + 1)).reverse = leV (p.take k).reverse * 256 + p.getD k 0 := by
  rw [List.take_succ_eq_append_getElem hk, List.reverse_append, getD_lt p k hk]
  simp [leV]
  omega
end Go.Proofs.YtaidncibndcbfaaDoor

namespace Go.Proofs.YtaidncibndcbfaaDoor
open Go.RowKit

theorem cell_set_off_drew (w : World) (b : Nat) (v : Value) {i j : Nat} (h : i ≠ j) : (w.setCell ⟨b, j, none⟩ v).drew.cell? ⟨b, i, none⟩ = w.cell? ⟨b, i, none⟩ := cell_set_off w b v h

end Go.Proofs.YtaidncibndcbfaaDoor

namespace Go.Proofs.YtaidncibndcbfaaDoor
open Go.RowKit

theorem Z8 : (#[Value.int .u32 0, .int .u32 0, .int .u32 0, .int .u32 0, .int .u32 0, .int .u32 0, .int .u32 0, .int .u32 0] : Array Value) = (U32 [0, 0, 0, 0, 0, 0, 0, 0]).toArray := rfl
/-- what the reference's loop lays: the state, one place on -/
def sh (s : List Int) (i : Nat) : Int := if i = 0 then 0 else s.getD (i - 1) 0

end Go.Proofs.YtaidncibndcbfaaDoor

namespace Go.Proofs.YtaidncibndcbfaaDoor
open Go.RowKit

structure RBI (s L KL : List Int) (w : World) (gL gK gS : Nat) (S : St) (wr : World) : Prop where
  sta : Arr wr w.heap.size 73 (U32 s)
  res : Arr wr (w.heap.size + 1 + 1) 73 (U32 [0, 0, 0, 0, 0, 0, 0, 0])
  arr : Arr wr gL 85 (U32 L)
  kon : Arr wr gK 85 (U32 KL)
  cur : Arr wr gS 73 (U32 S.toL)
  bel : Below w.heap.size w wr

theorem RBI.later {s L KL : List Int} {w : World} {gL gK gS : Nat} {S : St} {wr w' : World} (h : RBI s L KL w gL gK gS S wr) (hb : Below wr.heap.size wr w') : RBI s L KL w gL gK gS S w' :=
  ⟨h.sta.later hb, h.res.later hb, h.arr.later hb, h.kon.later hb, h.cur.later hb, h.bel.trans (hb.mono h.bel.size)⟩

theorem Arr.set8x {w : World} {g : Nat} {ty : TypeId} {S : St} (h : Arr w g ty (U32 S.toL)) (T : St) :
    Arr ((((((((w.setCell ⟨g, 0, none⟩ (.int .u32 T.a)).setCell ⟨g, 1, none⟩ (.int .u32 T.b)).setCell ⟨g, 2, none⟩ (.int .u32 T.c)).setCell ⟨g, 3, none⟩ (.int .u32 T.d)).setCell ⟨g, 4, none⟩ (.int .u32 T.e)).setCell ⟨g, 5, none⟩ (.int .u32 T.f)).setCell ⟨g, 6, none⟩ (.int .u32 T.g)).setCell ⟨g, 7, none⟩ (.int .u32 T.h)) g ty (U32 T.toL) :=
  (((((((h.set32 0 T.a).set32 1 T.b).set32 2 T.c).set32 3 T.d).set32 4 T.e).set32 5 T.f).set32 6 T.g).set32 7 T.h
theorem Arr.far8 {w : World} {g k : Nat} {ty : TypeId} {l : List Value} (h : Arr w k ty l) (T : St) (hk : k ≠ g) :
    Arr ((((((((w.setCell ⟨g, 0, none⟩ (.int .u32 T.a)).setCell ⟨g, 1, none⟩ (.int .u32 T.b)).setCell ⟨g, 2, none⟩ (.int .u32 T.c)).setCell ⟨g, 3, none⟩ (.int .u32 T.d)).setCell ⟨g, 4, none⟩ (.int .u32 T.e)).setCell ⟨g, 5, none⟩ (.int .u32 T.f)).setCell ⟨g, 6, none⟩ (.int .u32 T.g)).setCell ⟨g, 7, none⟩ (.int .u32 T.h)) k ty l :=
  (((((((h.other _ hk).other _ hk).other _ hk).other _ hk).other _ hk).other _ hk).other _ hk).other _ hk
theorem below8x {B : Nat} {a w : World} {g : Nat} (h : Below B a w) (T : St) (hk : B ≤ g) :
    Below B a ((((((((w.setCell ⟨g, 0, none⟩ (.int .u32 T.a)).setCell ⟨g, 1, none⟩ (.int .u32 T.b)).setCell ⟨g, 2, none⟩ (.int .u32 T.c)).setCell ⟨g, 3, none⟩ (.int .u32 T.d)).setCell ⟨g, 4, none⟩ (.int .u32 T.e)).setCell ⟨g, 5, none⟩ (.int .u32 T.f)).setCell ⟨g, 6, none⟩ (.int .u32 T.g)).setCell ⟨g, 7, none⟩ (.int .u32 T.h)) :=
  (((((((h.setCell hk _).setCell hk _).setCell hk _).setCell hk _).setCell hk _).setCell hk _).setCell hk _).setCell hk _

end Go.Proofs.YtaidncibndcbfaaDoor
