import Derived.Test.YtdcaojiiaocnaaaDoorQGaxZ
import Derived.Test.YtdcaojiiaocnaaaDoorQFlP25
import Derived.Test.YtdcaojiiaocnaaaDoorQGanZ
import Derived.Deep.DeepCutAuto
import Derived.Deep.QuietTactic
import Derived.BigQuiet
import Derived.Test.YtdcaojiiaocnaaaDoorQGawZ
import Derived.Test.YtdcaojiiaocnaaaDoorQGapZ
import Derived.WalkKit
import Derived.LaidEql
import Derived.Stop.Asserts
import Derived.RowKitTokens
set_option linter.unusedSimpArgs false
set_option linter.unusedVariables false
namespace Go.Proofs.YtdcaojiiaocnaaaDoor
open Go.RowKit

theorem sx_keepB {B : Nat} {w w' : World} {a : Option Addr} {n c : Nat} {l : List Int} (h : Sx.Ok iC 1 w ⟨a, n, c, l⟩) (hB : ∀ x, a = some x → B ≤ x.block) (h1 : w.heap.size ≤ w'.heap.size) (h2 : ∀ k, B ≤ k → k < w.heap.size → w'.heap[k]? = w.heap[k]?) : Sx.Ok iC 1 w' ⟨a, n, c, l⟩ :=
  h.keep h1 (fun _ x hx hl => h2 _ (hB x hx) hl)
def HitP (k : Nat) (w : World) (e : Ending) (w' : World) : Prop :=
  ∃ (va : Option Addr) (vn vc : Nat) (vl : List Int), e = .returned (.tuple #[aV (cdC (.string (strOfNums (cmdW k))) k (.slice va vn vc)), .bool true]) ∧ Sx.Ok iC 1 w' ⟨va, vn, vc, vl⟩ ∧ (∀ x, va = some x → w.heap.size ≤ x.block) ∧ vl = (cmdF k).map fldN ∧ Below w.heap.size w w'
theorem cdp_no {w w' : World} {e : Ending} (h : CdP 0 w e w') : e = .returned (.tuple #[aV (cdC (.string .empty) 0 (.slice none 0 0)), .bool false]) ∧ Below w.heap.size w w' := by
  rcases h with h | h
  · exact h.2
  · omega
theorem cdp_yes {k : Nat} {w w' : World} {e : Ending} (hk : 1 ≤ k) (h : CdP k w e w') : HitP k w e w' := by
  rcases h with h | ⟨-, -, ⟨va, vn, vc, vl⟩, h1, h2, h3, h4, h5⟩
  · omega
  · exact ⟨va, vn, vc, vl, h1, h2, h3, h4, h5⟩
theorem bykind_no (kk : Int) (w : World) (h : ¬ (1 ≤ kk ∧ kk ≤ 21)) : Calls Tryd.prog 19 #[.int .i64 kk] w fun e w' => e = .returned (.tuple #[aV (cdC (.string .empty) 0 (.slice none 0 0)), .bool false]) ∧ Below w.heap.size w w' := by
  have h9 := bykind_any kk w
  unfold kdI at h9
  rw [if_neg h] at h9
  exact h9.mono (fun e w' h => cdp_no h)
theorem bykind_yes (kk : Int) (w : World) (h : 1 ≤ kk ∧ kk ≤ 21) : Calls Tryd.prog 19 #[.int .i64 kk] w (HitP kk.toNat w) := by
  have h9 := bykind_any kk w
  unfold kdI at h9
  rw [if_pos h] at h9
  exact h9.mono (fun e w' h' => cdp_yes (by omega) h')
theorem byword_no (s : ByteArray) (w : World) (h : kindOf (strL s) = 0) : Calls Tryd.prog 32 #[.string s] w fun e w' => e = .returned (.tuple #[aV (cdC (.string .empty) 0 (.slice none 0 0)), .bool false]) ∧ Below w.heap.size w w' := by
  have h9 := byword_any s w
  rw [h] at h9
  exact h9.mono (fun e w' h => cdp_no h)
theorem byword_yes (s : ByteArray) (w : World) {k : Nat} (hk : 1 ≤ k) (h : kindOf (strL s) = k) : Calls Tryd.prog 32 #[.string s] w (HitP k w) := by
  have h9 := byword_any s w
  rw [h] at h9
  exact h9.mono (fun e w' h => cdp_yes hk h)
theorem emp_str : ({ data := #[] } : ByteArray) = .empty := rfl

def PrP (l : List Int) (w : World) (e : Ending) (w' : World) : Prop :=
  ∃ v : Sx Int, e = .returned (.tuple #[aV (opC (parseL l).1.k (parseL l).1.n (parseL l).1.o (parseL l).1.c (parseL l).1.p v.v), .int .i64 (parseL l).2.1, .int .i64 (parseL l).2.2]) ∧ v.xs = (parseL l).1.b ∧ Ou w' w.heap.size v.v v.xs ∧ Below w.heap.size w w'
theorem prP_no {l : List Int} {w w' : World} {e : Ending} {z y : Int} (h : parseL l = (zOp, z, y)) (he : e = .returned (.tuple #[aV (opC 0 0 0 0 0 (.slice none 0 0)), .int .i64 z, .int .i64 y])) (hb : Below w.heap.size w w') : PrP l w e w' := by
  unfold PrP
  rw [h]
  exact ⟨⟨none, 0, 0, []⟩, he, rfl, ou_nil25 _ _, hb⟩
theorem ex_convV {o : Oper} {act : Act} {w : World} (x : Operand) (ho : o.op = .convert 28 9 x) (s : Sx Int) (hx : act.eval x = s.v) (h : Su w s) (T : ByteArray) (hT : strOfNums s.xs = T) : (execOp act.eval o).run Tryd.prog w = .ok (.value (.string T)) w := by
  rw [← hT]; exact ex_conv x ho s hx h
theorem own_mono25 {w : World} {B B' : Nat} {v : Value} {l : List Int} (h : Ou w B v l) (hB : B' ≤ B) : Ou w B' v l := by
  refine ⟨h.1, ?_⟩
  rcases h.2 with h1 | ⟨g, cap, cur, h1, h2, h3⟩
  · exact .inl h1
  · exact .inr ⟨g, cap, cur, h1, Nat.le_trans hB h2, h3⟩
end Go.Proofs.YtdcaojiiaocnaaaDoor

set_option linter.unusedSimpArgs false
set_option linter.unusedVariables false
namespace Go.Proofs.YtdcaojiiaocnaaaDoor
open Go.RowKit Go.Extern.Stop Go.Stop Go.Extern

/-! errors.As at a fault. -/
theorem as_nil25 (t : Value) (w : World) : Calls Tryd.prog 22 #[.nilIface, t] w fun e w' => e = .returned (.bool false) ∧ w' = w := by
  go_enter Tryd.func22, Tryd.ntmps22
  go_wp2
  go_ret
  exact ⟨rfl, rfl⟩
theorem Tryd.ufP (t : Addr) (w : World) : (ReflectliteValue.unpack (.iface 65 (.pointer (some t)))).run Tryd.prog w
    = .ok (.agg #[.pointer (some ⟨7, 65, none⟩), .pointer (some ⟨w.heap.size, 0, none⟩), .int .u64 150]) (w.alloc (.cells #[.pointer (some t)] 65)) := by kernel_rfl
theorem Tryd.tyP (a : Addr) (w : World) : (ReflectliteValue.methodAny (ReflectliteValue.valueError "reflectlite.Value.Type" 0) (fun t _ _ _ => ReflectliteType.toType t) #[.agg #[.pointer (some ⟨7, 65, none⟩), .pointer (some a), .int .u64 150]]).run Tryd.prog w
    = .ok (.iface 107 (.agg #[.pointer (some ⟨7, 65, none⟩)])) w := by kernel_rfl
theorem Tryd.kdP (w : World) : ((ReflectliteType.abiMethod fun t => Functor.map (fun a : Nat => Value.int IntKind.u8 (a : Int)) (Rtype.kind t)) #[.pointer (some ⟨7, 65, none⟩)]).run Tryd.prog w = .ok (.int .u8 22) w := by kernel_rfl
theorem Tryd.kdF (w : World) : ((ReflectliteType.abiMethod fun t => Functor.map (fun a : Nat => Value.int IntKind.u8 (a : Int)) (Rtype.kind t)) #[.pointer (some ⟨7, 63, none⟩)]).run Tryd.prog w = .ok (.int .u8 25) w := by kernel_rfl
theorem Tryd.ufF (a b : Int) (w : World) : (ReflectliteValue.unpack (.iface 63 (aV (faC a b)))).run Tryd.prog w
    = .ok (.agg #[.pointer (some ⟨7, 63, none⟩), .pointer (some ⟨w.heap.size, 0, none⟩), .int .u64 153]) (w.alloc (.cells #[.int .i64 a, .int .i64 b] 63)) := by kernel_rfl
theorem Tryd.elP (w : World) : (ReflectliteType.method ReflectliteType.elem #[.agg #[.pointer (some ⟨7, 65, none⟩)]]).run Tryd.prog w = .ok (.iface 107 (.agg #[.pointer (some ⟨7, 63, none⟩)])) w := by kernel_rfl
theorem Tryd.imF (w : World) : (ReflectliteType.relation "Implements" ReflectliteType.implements_ #[.agg #[.pointer (some ⟨7, 63, none⟩)], .iface 107 (.agg #[.pointer (some ⟨7, 48, none⟩)])]).run Tryd.prog w = .ok (.bool true) w := by kernel_rfl
theorem Tryd.toF (v : Value) (w : World) : (ReflectliteType.typeOf #[.iface 63 v]).run Tryd.prog w = .ok (.iface 107 (.agg #[.pointer (some ⟨7, 63, none⟩)])) w := by kernel_rfl
theorem Tryd.asF (w : World) : (ReflectliteType.relation "AssignableTo" ReflectliteType.assignableTo #[.agg #[.pointer (some ⟨7, 63, none⟩)], .iface 107 (.agg #[.pointer (some ⟨7, 63, none⟩)])]).run Tryd.prog w = .ok (.bool true) w := by kernel_rfl
theorem Tryd.eoP (w : World) : (Rtype.elem? 65).run Tryd.prog w = .ok (some 63) w := by kernel_rfl
theorem Tryd.mkF (p : Addr) (w : World) : (ReflectliteValue.mk 63 p ReflectliteValue.flagAddr).run Tryd.prog w = .ok (.agg #[.pointer (some ⟨7, 63, none⟩), .pointer (some p), .int .u64 409]) w := by kernel_rfl
theorem Tryd.paP (a : Addr) (w : World) : (ReflectliteValue.parts (.agg #[.pointer (some ⟨7, 65, none⟩), .pointer (some a), .int .u64 150])).run Tryd.prog w = .ok (some (65, a, 150)) w := by kernel_rfl
theorem Tryd.paA (a : Addr) (w : World) : (ReflectliteValue.parts (.agg #[.pointer (some ⟨7, 63, none⟩), .pointer (some a), .int .u64 409])).run Tryd.prog w = .ok (some (63, a, 409)) w := by kernel_rfl
theorem Tryd.paF (a : Addr) (w : World) : (ReflectliteValue.parts (.agg #[.pointer (some ⟨7, 63, none⟩), .pointer (some a), .int .u64 153])).run Tryd.prog w = .ok (some (63, a, 153)) w := by kernel_rfl
theorem Tryd.daF (w : World) : (Rtype.directlyAssignable 63 63).run Tryd.prog w = .ok true w := by kernel_rfl

/-! errors.As at a fault: what reads and writes memory. -/
theorem mt_one (z : Sem Value) (f : TypeId → Addr → Nat → Nat → Sem Value) (v : Value) :
    ReflectliteValue.method z f #[v] = (do match ← ReflectliteValue.parts v with | none => z | some (t, a, fl) => f t a fl (fl % 32)) := rfl
theorem Tryd.inP (a p : Addr) (W : World) (ha : W.cell? a = some (.pointer (some p))) :
    (ReflectliteValue.method (ReflectliteValue.valueError "reflectlite.Value.IsNil" 0) ReflectliteValue.isNil #[.agg #[.pointer (some ⟨7, 65, none⟩), .pointer (some a), .int .u64 150]]).run Tryd.prog W = .ok (.bool false) W := by
  rw [mt_one]
  simp only [Sem.run_bind, Tryd.paP, Result.andThen]
  simp [ReflectliteValue.isNil, loadVar, isAgg, underlying, Tryd.underlying65, ha, Result.andThen]
theorem Tryd.evP (a p : Addr) (W : World) (ha : W.cell? a = some (.pointer (some p))) :
    (ReflectliteValue.method (ReflectliteValue.valueError "reflectlite.Value.Elem" 0) ReflectliteValue.elem #[.agg #[.pointer (some ⟨7, 65, none⟩), .pointer (some a), .int .u64 150]]).run Tryd.prog W
      = .ok (.agg #[.pointer (some ⟨7, 63, none⟩), .pointer (some p), .int .u64 409]) W := by
  rw [mt_one]
  simp only [Sem.run_bind, Tryd.paP, Result.andThen]
  simp [ReflectliteValue.elem, loadVar, isAgg, underlying, Tryd.underlying65, ha, Result.andThen, Tryd.eoP, Tryd.mkF]
theorem set_two (v x : Value) : ∃ s1 s2 s3 s4 s5 : String, ReflectliteValue.set #[v, x] = (do
    let (some (dst, a, fl), some (src, b, _)) := (← ReflectliteValue.parts v, ← ReflectliteValue.parts x)
      | unsupported (.noEntry s1)
    if fl / ReflectliteValue.flagAddr % 2 == 0 then unsupported (.noEntry s2)
    let val ← loadVar src b
    if ← Rtype.directlyAssignable dst src then storeVar dst a val
    else if ← Rtype.implements dst src then
      if (← Rtype.kind src) == 20 then
        match val with
        | .nilIface => unsupported (.noEntry s3)
        | _ => storeVar dst a val
      else storeVar dst a (.iface src val)
    else panicString (s4 ++ (← Rtype.spelt src) ++ s5 ++ (← Rtype.spelt dst))
    pure (.tuple #[])) := ⟨_, _, _, _, _, rfl⟩
theorem se_two (v x : Value) {t t' : TypeId} {a b : Addr} {f f' : Nat} {W : World} {val : Value} {W' : World} (hv : (ReflectliteValue.parts v).run Tryd.prog W = .ok (some (t, a, f)) W) (hx : (ReflectliteValue.parts x).run Tryd.prog W = .ok (some (t', b, f')) W)
    (hf : (f / ReflectliteValue.flagAddr % 2 == 0) = false) (hl : (loadVar t' b).run Tryd.prog W = .ok val W) (hd : (Rtype.directlyAssignable t t').run Tryd.prog W = .ok true W) (hs : (storeVar t a val).run Tryd.prog W = .ok () W') :
    (ReflectliteValue.set #[v, x]).run Tryd.prog W = .ok (.tuple #[]) W' := by
  obtain ⟨s1, s2, s3, s4, s5, e⟩ := set_two v x
  rw [e]
  simp only [Sem.run_bind, hv, hx, Result.andThen]
  simp [hf, hl, hd, hs, Result.andThen]
theorem Tryd.stF (g b : Nat) (x y u v : Int) (W : World) (hb : Arr W b 63 (faC x y)) (ht : Arr W g 63 (faC u v)) :
    (ReflectliteValue.set #[.agg #[.pointer (some ⟨7, 63, none⟩), .pointer (some ⟨g, 0, none⟩), .int .u64 409], .agg #[.pointer (some ⟨7, 63, none⟩), .pointer (some ⟨b, 0, none⟩), .int .u64 153]]).run Tryd.prog W
      = .ok (.tuple #[]) (W.setCells g 0 (faC x y)) := by
  refine se_two _ _ (Tryd.paA ⟨g, 0, none⟩ W) (Tryd.paF ⟨b, 0, none⟩ W) (by decide) (val := aV (faC x y)) ?_ (Tryd.daF W) ?_
  · exact run_loadVar_mid W b 0 63 (faC x y) _ ((At.self _).range hb) Tryd.underlying63 rfl (sz_A x y)
  · exact run_storeV W g 0 63 (aV (faC x y)) (faC x y) rfl (Hs17.there ht (Pt.self (c := faC u v) (c' := faC x y) rfl)) (sz_A x y) (one_A x y)

/-! errors.As at a fault. -/
theorem Tryd.meK (h : Value) (w : World) : (Go.method 280 107 (.agg #[h]) "Kind").run Tryd.prog w = .ok (102, h) w := by kernel_rfl
theorem Tryd.meE (h : Value) (w : World) : (Go.method 280 107 (.agg #[h]) "Elem").run Tryd.prog w = .ok (113, .agg #[h]) w := by kernel_rfl
theorem Tryd.meI (h : Value) (w : World) : (Go.method 280 107 (.agg #[h]) "Implements").run Tryd.prog w = .ok (114, .agg #[h]) w := by kernel_rfl
theorem Tryd.meA (h : Value) (w : World) : (Go.method 280 107 (.agg #[h]) "AssignableTo").run Tryd.prog w = .ok (111, .agg #[h]) w := by kernel_rfl
def ETy (w : World) : Prop := w.cell? ⟨0, 0, none⟩ = some (.iface 107 (.agg #[.pointer (some ⟨7, 48, none⟩)]))
set_option maxHeartbeats 4000000 in
set_option maxRecDepth 100000 in
theorem as_hit25 (g : Nat) (x y u v : Int) (w : World) (hg : ETy w) (ht : Arr w g 63 (faC u v)) :
    Calls Tryd.prog 22 #[.iface 63 (aV (faC x y)), .iface 65 (.pointer (some ⟨g, 0, none⟩))] w fun ev w' => ev = .returned (.bool true) ∧ w' = ((((w.alloc (.cells #[.pointer (some ⟨g, 0, none⟩)] 65)).alloc (.cells #[.pointer (some ⟨7, 65, none⟩), .pointer (some ⟨w.heap.size, 0, none⟩), .int .u64 150] 83)).alloc (.cells #[.pointer (some ⟨7, 65, none⟩), .pointer (some ⟨w.heap.size, 0, none⟩), .int .u64 150] 83)).alloc (.cells #[.int .i64 x, .int .i64 y] 63)).setCells g 0 (faC x y) := by
  have h6 := @run_callFunc_extern Tryd.prog 34 _ (fun args => ReflectliteValue.unpack (args.getD 0 (.tuple #[]))) Tryd.func34 (by kernel_rfl) (by kernel_rfl) (by kernel_rfl) (by kernel_rfl)
  have h7 := @run_callFunc_extern Tryd.prog 35 _ (ReflectliteValue.methodAny (ReflectliteValue.valueError "reflectlite.Value.Type" 0) (fun t _ _ _ => ReflectliteType.toType t)) Tryd.func35 (by kernel_rfl) (by kernel_rfl) (by kernel_rfl) (by kernel_rfl)
  have h8 := @run_callFunc_extern Tryd.prog 36 _ (ReflectliteValue.method (ReflectliteValue.valueError "reflectlite.Value.IsNil" 0) ReflectliteValue.isNil) Tryd.func36 (by kernel_rfl) (by kernel_rfl) (by kernel_rfl) (by kernel_rfl)
  have h27 := @run_callFunc_extern Tryd.prog 102 _ (ReflectliteType.abiMethod fun t => do pure (.int .u8 (← Rtype.kind t))) Tryd.func102 (by kernel_rfl) (by kernel_rfl) (by kernel_rfl) (by kernel_rfl)
  have h37 := @run_callFunc_extern Tryd.prog 113 _ (ReflectliteType.method ReflectliteType.elem) Tryd.func113 (by kernel_rfl) (by kernel_rfl) (by kernel_rfl) (by kernel_rfl)
  have h38 := @run_callFunc_extern Tryd.prog 114 _ (ReflectliteType.relation "Implements" ReflectliteType.implements_) Tryd.func114 (by kernel_rfl) (by kernel_rfl) (by kernel_rfl) (by kernel_rfl)
  have h10 := @run_callFunc_extern Tryd.prog 48 _ ReflectliteType.typeOf Tryd.func48 (by kernel_rfl) (by kernel_rfl) (by kernel_rfl) (by kernel_rfl)
  have h35 := @run_callFunc_extern Tryd.prog 111 _ (ReflectliteType.relation "AssignableTo" ReflectliteType.assignableTo) Tryd.func111 (by kernel_rfl) (by kernel_rfl) (by kernel_rfl) (by kernel_rfl)
  have h11 := @run_callFunc_extern Tryd.prog 49 _ (ReflectliteValue.method (ReflectliteValue.valueError "reflectlite.Value.Elem" 0) ReflectliteValue.elem) Tryd.func49 (by kernel_rfl) (by kernel_rfl) (by kernel_rfl) (by kernel_rfl)
  have h12 := @run_callFunc_extern Tryd.prog 50 _ ReflectliteValue.set Tryd.func50 (by kernel_rfl) (by kernel_rfl) (by kernel_rfl) (by kernel_rfl)
  have tO := Tryd.toF
  have mA := Tryd.meA
  have a25 := Tryd.asF
  have v25 := Tryd.ufF
  have f6 := Tryd.ufP
  have f7 := Tryd.tyP
  have mK := Tryd.meK
  have mE := Tryd.meE
  have mI := Tryd.meI
  have k27 := Tryd.kdP
  have k25 := Tryd.kdF
  have e27 := Tryd.elP
  have i25 := Tryd.imF
  have n8 := Tryd.inP ⟨w.heap.size, 0, none⟩ ⟨g, 0, none⟩ ((w.alloc (.cells #[.pointer (some ⟨g, 0, none⟩)] 65)).alloc (.cells #[.pointer (some ⟨7, 65, none⟩), .pointer (some ⟨w.heap.size, 0, none⟩), .int .u64 150] 83)) (by simp)
  have hgl : g < w.heap.size := ht.lt
  have hel : 0 < w.heap.size := cell_lt hg
  have hg2 : ((w.alloc (.cells #[.pointer (some ⟨g, 0, none⟩)] 65)).alloc (.cells #[.pointer (some ⟨7, 65, none⟩), .pointer (some ⟨w.heap.size, 0, none⟩), .int .u64 150] 83)).cell? ⟨0, 0, none⟩ = some (.iface 107 (.agg #[.pointer (some ⟨7, 48, none⟩)])) := by
    rw [World.cell?_alloc_lt _ _ ⟨0, 0, none⟩ (by simp), World.cell?_alloc_lt _ _ ⟨0, 0, none⟩ hel]; exact hg
  have el := Tryd.evP ⟨w.heap.size, 0, none⟩ ⟨g, 0, none⟩ (((w.alloc (.cells #[.pointer (some ⟨g, 0, none⟩)] 65)).alloc (.cells #[.pointer (some ⟨7, 65, none⟩), .pointer (some ⟨w.heap.size, 0, none⟩), .int .u64 150] 83)).alloc (.cells #[.pointer (some ⟨7, 65, none⟩), .pointer (some ⟨w.heap.size, 0, none⟩), .int .u64 150] 83)) (by rw [World.cell?_alloc_lt _ _ ⟨w.heap.size, 0, none⟩ (by simp; omega)]; simp)
  have st := Tryd.stF g (w.heap.size + 1 + 1 + 1) x y u v ((((w.alloc (.cells #[.pointer (some ⟨g, 0, none⟩)] 65)).alloc (.cells #[.pointer (some ⟨7, 65, none⟩), .pointer (some ⟨w.heap.size, 0, none⟩), .int .u64 150] 83)).alloc (.cells #[.pointer (some ⟨7, 65, none⟩), .pointer (some ⟨w.heap.size, 0, none⟩), .int .u64 150] 83)).alloc (.cells #[.int .i64 x, .int .i64 y] 63))
    (by have := Arr.new (((w.alloc (.cells #[.pointer (some ⟨g, 0, none⟩)] 65)).alloc (.cells #[.pointer (some ⟨7, 65, none⟩), .pointer (some ⟨w.heap.size, 0, none⟩), .int .u64 150] 83)).alloc (.cells #[.pointer (some ⟨7, 65, none⟩), .pointer (some ⟨w.heap.size, 0, none⟩), .int .u64 150] 83)) 63 (faC x y); simp only [World.size_alloc] at this; exact this)
    (by refine Arr.alloc ?_ _; refine Arr.alloc ?_ _; refine Arr.alloc ?_ _; exact Arr.alloc ht _)
  go_enter Tryd.func22, Tryd.ntmps22
  go_wp2
  refine wp_loop_rounds 1 ?_
  rw [rounds_succ]
  go_wp2
  go_ret
  exact ⟨rfl, rfl⟩
theorem as_but (g : Nat) (x y u v : Int) (w : World) (hg : ETy w) (ht : Arr w g 63 (faC u v)) :
    Calls Tryd.prog 22 #[.iface 63 (aV (faC x y)), .iface 65 (.pointer (some ⟨g, 0, none⟩))] w fun ev w' => ev = .returned (.bool true) ∧ Arr w' g 63 (faC x y) ∧ But g w w' := by
  refine (as_hit25 g x y u v w hg ht).mono ?_
  rintro e w' ⟨rfl, rfl⟩
  have hgl : g < w.heap.size := ht.lt
  generalize hW : (((w.alloc (.cells #[.pointer (some ⟨g, 0, none⟩)] 65)).alloc (.cells #[.pointer (some ⟨7, 65, none⟩), .pointer (some ⟨w.heap.size, 0, none⟩), .int .u64 150] 83)).alloc (.cells #[.pointer (some ⟨7, 65, none⟩), .pointer (some ⟨w.heap.size, 0, none⟩), .int .u64 150] 83)).alloc (.cells #[.int .i64 x, .int .i64 y] 63) = W
  have hb : Below w.heap.size w W := by
    rw [← hW]
    exact ((((Below.refl _ _).alloc (Nat.le_refl _) _).alloc (by simp) _).alloc (by simp; omega) _).alloc (by simp; omega) _
  have hA : Arr W g 63 (faC u v) := ht.later hb
  have hA2 := arr_setCells (faC x y) W [] (faC u v) [] (by simpa using hA) rfl
  refine ⟨rfl, by simpa using hA2, ?_⟩
  exact ((But.of_below hb).setCell 0 (.int .i64 x)).setCell 1 (.int .i64 y)
end Go.Proofs.YtdcaojiiaocnaaaDoor
