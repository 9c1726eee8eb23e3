import Derived.Test.YtdcaojiiaocnaaaGreatDoorQGapZ
import Derived.WalkKit
import Derived.LaidEql
import Derived.Stop.Asserts
import Derived.RowKitTokens
import Derived.Test.YtdcaojiiaocnaaaGreatDoorQGbbZ
import Derived.Test.YtdcaojiiaocnaaaGreatDoorQPaM25
import Derived.Test.YtdcaojiiaocnaaaGreatDoorQGatZ
import Derived.Deep.DeepCutAuto
import Derived.Deep.QuietTactic
import Derived.BigQuiet
set_option linter.unusedSimpArgs false
set_option linter.unusedVariables false
namespace Go.Proofs.YtdcaojiiaocnaaaGreatDoor
open Go.RowKit Go.Extern.Stop Go.Stop Go.Extern

/-! errors.As at a fault. -/
theorem as_nil25 (t : Value) (w : World) : Calls Tryz.prog 22 #[.nilIface, t] w fun e w' => e = .returned (.bool false) ∧ w' = w := by
  go_enter Tryz.func22, Tryz.ntmps22
  go_wp2
  go_ret
  exact ⟨rfl, rfl⟩
theorem Tryz.ufP (t : Addr) (w : World) : (ReflectliteValue.unpack (.iface 60 (.pointer (some t)))).run Tryz.prog w
    = .ok (.agg #[.pointer (some ⟨7, 60, none⟩), .pointer (some ⟨w.heap.size, 0, none⟩), .int .u64 150]) (w.alloc (.cells #[.pointer (some t)] 60)) := by kernel_rfl
theorem Tryz.tyP (a : Addr) (w : World) : (ReflectliteValue.methodAny (ReflectliteValue.valueError "reflectlite.Value.Type" 0) (fun t _ _ _ => ReflectliteType.toType t) #[.agg #[.pointer (some ⟨7, 60, none⟩), .pointer (some a), .int .u64 150]]).run Tryz.prog w
    = .ok (.iface 119 (.agg #[.pointer (some ⟨7, 60, none⟩)])) w := by kernel_rfl
theorem Tryz.kdP (w : World) : ((ReflectliteType.abiMethod fun t => Functor.map (fun a : Nat => Value.int IntKind.u8 (a : Int)) (Rtype.kind t)) #[.pointer (some ⟨7, 60, none⟩)]).run Tryz.prog w = .ok (.int .u8 22) w := by kernel_rfl
theorem Tryz.kdF (w : World) : ((ReflectliteType.abiMethod fun t => Functor.map (fun a : Nat => Value.int IntKind.u8 (a : Int)) (Rtype.kind t)) #[.pointer (some ⟨7, 58, none⟩)]).run Tryz.prog w = .ok (.int .u8 25) w := by kernel_rfl
theorem Tryz.ufF (a b : Int) (w : World) : (ReflectliteValue.unpack (.iface 58 (aV (faC a b)))).run Tryz.prog w
    = .ok (.agg #[.pointer (some ⟨7, 58, none⟩), .pointer (some ⟨w.heap.size, 0, none⟩), .int .u64 153]) (w.alloc (.cells #[.int .i64 a, .int .i64 b] 58)) := by kernel_rfl
theorem Tryz.elP (w : World) : (ReflectliteType.method ReflectliteType.elem #[.agg #[.pointer (some ⟨7, 60, none⟩)]]).run Tryz.prog w = .ok (.iface 119 (.agg #[.pointer (some ⟨7, 58, none⟩)])) w := by kernel_rfl
theorem Tryz.imF (w : World) : (ReflectliteType.relation "Implements" ReflectliteType.implements_ #[.agg #[.pointer (some ⟨7, 58, none⟩)], .iface 119 (.agg #[.pointer (some ⟨7, 54, none⟩)])]).run Tryz.prog w = .ok (.bool true) w := by kernel_rfl
theorem Tryz.toF (v : Value) (w : World) : (ReflectliteType.typeOf #[.iface 58 v]).run Tryz.prog w = .ok (.iface 119 (.agg #[.pointer (some ⟨7, 58, none⟩)])) w := by kernel_rfl
theorem Tryz.asF (w : World) : (ReflectliteType.relation "AssignableTo" ReflectliteType.assignableTo #[.agg #[.pointer (some ⟨7, 58, none⟩)], .iface 119 (.agg #[.pointer (some ⟨7, 58, none⟩)])]).run Tryz.prog w = .ok (.bool true) w := by kernel_rfl
theorem Tryz.eoP (w : World) : (Rtype.elem? 60).run Tryz.prog w = .ok (some 58) w := by kernel_rfl
theorem Tryz.mkF (p : Addr) (w : World) : (ReflectliteValue.mk 58 p ReflectliteValue.flagAddr).run Tryz.prog w = .ok (.agg #[.pointer (some ⟨7, 58, none⟩), .pointer (some p), .int .u64 409]) w := by kernel_rfl
theorem Tryz.paP (a : Addr) (w : World) : (ReflectliteValue.parts (.agg #[.pointer (some ⟨7, 60, none⟩), .pointer (some a), .int .u64 150])).run Tryz.prog w = .ok (some (60, a, 150)) w := by kernel_rfl
theorem Tryz.paA (a : Addr) (w : World) : (ReflectliteValue.parts (.agg #[.pointer (some ⟨7, 58, none⟩), .pointer (some a), .int .u64 409])).run Tryz.prog w = .ok (some (58, a, 409)) w := by kernel_rfl
theorem Tryz.paF (a : Addr) (w : World) : (ReflectliteValue.parts (.agg #[.pointer (some ⟨7, 58, none⟩), .pointer (some a), .int .u64 153])).run Tryz.prog w = .ok (some (58, a, 153)) w := by kernel_rfl
theorem Tryz.daF (w : World) : (Rtype.directlyAssignable 58 58).run Tryz.prog w = .ok true w := by kernel_rfl

/-! errors.As at a fault: what reads and writes memory. -/
theorem mt_one (z : Sem Value) (f : TypeId → Addr → Nat → Nat → Sem Value) (v : Value) :
    ReflectliteValue.method z f #[v] = (do match ← ReflectliteValue.parts v with | none => z | some (t, a, fl) => f t a fl (fl % 32)) := rfl
theorem Tryz.inP (a p : Addr) (W : World) (ha : W.cell? a = some (.pointer (some p))) :
    (ReflectliteValue.method (ReflectliteValue.valueError "reflectlite.Value.IsNil" 0) ReflectliteValue.isNil #[.agg #[.pointer (some ⟨7, 60, none⟩), .pointer (some a), .int .u64 150]]).run Tryz.prog W = .ok (.bool false) W := by
  rw [mt_one]
  simp only [Sem.run_bind, Tryz.paP, Result.andThen]
  simp [ReflectliteValue.isNil, loadVar, isAgg, underlying, Tryz.underlying60, ha, Result.andThen]
theorem Tryz.evP (a p : Addr) (W : World) (ha : W.cell? a = some (.pointer (some p))) :
    (ReflectliteValue.method (ReflectliteValue.valueError "reflectlite.Value.Elem" 0) ReflectliteValue.elem #[.agg #[.pointer (some ⟨7, 60, none⟩), .pointer (some a), .int .u64 150]]).run Tryz.prog W
      = .ok (.agg #[.pointer (some ⟨7, 58, none⟩), .pointer (some p), .int .u64 409]) W := by
  rw [mt_one]
  simp only [Sem.run_bind, Tryz.paP, Result.andThen]
  simp [ReflectliteValue.elem, loadVar, isAgg, underlying, Tryz.underlying60, ha, Result.andThen, Tryz.eoP, Tryz.mkF]
theorem set_two (v x : Value) : ∃ s1 s2 s3 s4 s5 : String, ReflectliteValue.set #[v, x] = (do
    let (some (dst, a, fl), some (src, b, _)) := (← ReflectliteValue.parts v, ← ReflectliteValue.parts x)
      | unsupported (.noEntry s1)
    if fl / ReflectliteValue.flagAddr % 2 == 0 then unsupported (.noEntry s2)
    let val ← loadVar src b
    if ← Rtype.directlyAssignable dst src then storeVar dst a val
    else if ← Rtype.implements dst src then
      if (← Rtype.kind src) == 20 then
        match val with
        | .nilIface => unsupported (.noEntry s3)
        | _ => storeVar dst a val
      else storeVar dst a (.iface src val)
    else panicString (s4 ++ (← Rtype.spelt src) ++ s5 ++ (← Rtype.spelt dst))
    pure (.tuple #[])) := ⟨_, _, _, _, _, rfl⟩
theorem se_two (v x : Value) {t t' : TypeId} {a b : Addr} {f f' : Nat} {W : World} {val : Value} {W' : World} (hv : (ReflectliteValue.parts v).run Tryz.prog W = .ok (some (t, a, f)) W) (hx : (ReflectliteValue.parts x).run Tryz.prog W = .ok (some (t', b, f')) W)
    (hf : (f / ReflectliteValue.flagAddr % 2 == 0) = false) (hl : (loadVar t' b).run Tryz.prog W = .ok val W) (hd : (Rtype.directlyAssignable t t').run Tryz.prog W = .ok true W) (hs : (storeVar t a val).run Tryz.prog W = .ok () W') :
    (ReflectliteValue.set #[v, x]).run Tryz.prog W = .ok (.tuple #[]) W' := by
  obtain ⟨s1, s2, s3, s4, s5, e⟩ := set_two v x
  rw [e]
  simp only [Sem.run_bind, hv, hx, Result.andThen]
  simp [hf, hl, hd, hs, Result.andThen]
theorem Tryz.stF (g b : Nat) (x y u v : Int) (W : World) (hb : Arr W b 58 (faC x y)) (ht : Arr W g 58 (faC u v)) :
    (ReflectliteValue.set #[.agg #[.pointer (some ⟨7, 58, none⟩), .pointer (some ⟨g, 0, none⟩), .int .u64 409], .agg #[.pointer (some ⟨7, 58, none⟩), .pointer (some ⟨b, 0, none⟩), .int .u64 153]]).run Tryz.prog W
      = .ok (.tuple #[]) (W.setCells g 0 (faC x y)) := by
  refine se_two _ _ (Tryz.paA ⟨g, 0, none⟩ W) (Tryz.paF ⟨b, 0, none⟩ W) (by decide) (val := aV (faC x y)) ?_ (Tryz.daF W) ?_
  · exact run_loadVar_mid W b 0 58 (faC x y) _ ((At.self _).range hb) Tryz.underlying58 rfl (sz_A x y)
  · exact run_storeV W g 0 58 (aV (faC x y)) (faC x y) rfl (Hs17.there ht (Pt.self (c := faC u v) (c' := faC x y) rfl)) (sz_A x y) (one_A x y)

/-! errors.As at a fault. -/
theorem Tryz.meK (h : Value) (w : World) : (Go.method 300 119 (.agg #[h]) "Kind").run Tryz.prog w = .ok (120, h) w := by kernel_rfl
theorem Tryz.meE (h : Value) (w : World) : (Go.method 300 119 (.agg #[h]) "Elem").run Tryz.prog w = .ok (131, .agg #[h]) w := by kernel_rfl
theorem Tryz.meI (h : Value) (w : World) : (Go.method 300 119 (.agg #[h]) "Implements").run Tryz.prog w = .ok (132, .agg #[h]) w := by kernel_rfl
theorem Tryz.meA (h : Value) (w : World) : (Go.method 300 119 (.agg #[h]) "AssignableTo").run Tryz.prog w = .ok (129, .agg #[h]) w := by kernel_rfl
def ETy (w : World) : Prop := w.cell? ⟨0, 0, none⟩ = some (.iface 119 (.agg #[.pointer (some ⟨7, 54, none⟩)]))
set_option maxHeartbeats 4000000 in
set_option maxRecDepth 100000 in
theorem as_hit25 (g : Nat) (x y u v : Int) (w : World) (hg : ETy w) (ht : Arr w g 58 (faC u v)) :
    Calls Tryz.prog 22 #[.iface 58 (aV (faC x y)), .iface 60 (.pointer (some ⟨g, 0, none⟩))] w fun ev w' => ev = .returned (.bool true) ∧ w' = ((((w.alloc (.cells #[.pointer (some ⟨g, 0, none⟩)] 60)).alloc (.cells #[.pointer (some ⟨7, 60, none⟩), .pointer (some ⟨w.heap.size, 0, none⟩), .int .u64 150] 95)).alloc (.cells #[.pointer (some ⟨7, 60, none⟩), .pointer (some ⟨w.heap.size, 0, none⟩), .int .u64 150] 95)).alloc (.cells #[.int .i64 x, .int .i64 y] 58)).setCells g 0 (faC x y) := by
  have h6 := @run_callFunc_extern Tryz.prog 40 _ (fun args => ReflectliteValue.unpack (args.getD 0 (.tuple #[]))) Tryz.func40 (by kernel_rfl) (by kernel_rfl) (by kernel_rfl) (by kernel_rfl)
  have h7 := @run_callFunc_extern Tryz.prog 41 _ (ReflectliteValue.methodAny (ReflectliteValue.valueError "reflectlite.Value.Type" 0) (fun t _ _ _ => ReflectliteType.toType t)) Tryz.func41 (by kernel_rfl) (by kernel_rfl) (by kernel_rfl) (by kernel_rfl)
  have h8 := @run_callFunc_extern Tryz.prog 42 _ (ReflectliteValue.method (ReflectliteValue.valueError "reflectlite.Value.IsNil" 0) ReflectliteValue.isNil) Tryz.func42 (by kernel_rfl) (by kernel_rfl) (by kernel_rfl) (by kernel_rfl)
  have h27 := @run_callFunc_extern Tryz.prog 120 _ (ReflectliteType.abiMethod fun t => do pure (.int .u8 (← Rtype.kind t))) Tryz.func120 (by kernel_rfl) (by kernel_rfl) (by kernel_rfl) (by kernel_rfl)
  have h37 := @run_callFunc_extern Tryz.prog 131 _ (ReflectliteType.method ReflectliteType.elem) Tryz.func131 (by kernel_rfl) (by kernel_rfl) (by kernel_rfl) (by kernel_rfl)
  have h38 := @run_callFunc_extern Tryz.prog 132 _ (ReflectliteType.relation "Implements" ReflectliteType.implements_) Tryz.func132 (by kernel_rfl) (by kernel_rfl) (by kernel_rfl) (by kernel_rfl)
  have h10 := @run_callFunc_extern Tryz.prog 58 _ ReflectliteType.typeOf Tryz.func58 (by kernel_rfl) (by kernel_rfl) (by kernel_rfl) (by kernel_rfl)
  have h35 := @run_callFunc_extern Tryz.prog 129 _ (ReflectliteType.relation "AssignableTo" ReflectliteType.assignableTo) Tryz.func129 (by kernel_rfl) (by kernel_rfl) (by kernel_rfl) (by kernel_rfl)
  have h11 := @run_callFunc_extern Tryz.prog 59 _ (ReflectliteValue.method (ReflectliteValue.valueError "reflectlite.Value.Elem" 0) ReflectliteValue.elem) Tryz.func59 (by kernel_rfl) (by kernel_rfl) (by kernel_rfl) (by kernel_rfl)
  have h12 := @run_callFunc_extern Tryz.prog 60 _ ReflectliteValue.set Tryz.func60 (by kernel_rfl) (by kernel_rfl) (by kernel_rfl) (by kernel_rfl)
  have tO := Tryz.toF
  have mA := Tryz.meA
  have a25 := Tryz.asF
  have v25 := Tryz.ufF
  have f6 := Tryz.ufP
  have f7 := Tryz.tyP
  have mK := Tryz.meK
  have mE := Tryz.meE
  have mI := Tryz.meI
  have k27 := Tryz.kdP
  have k25 := Tryz.kdF
  have e27 := Tryz.elP
  have i25 := Tryz.imF
  have n8 := Tryz.inP ⟨w.heap.size, 0, none⟩ ⟨g, 0, none⟩ ((w.alloc (.cells #[.pointer (some ⟨g, 0, none⟩)] 60)).alloc (.cells #[.pointer (some ⟨7, 60, none⟩), .pointer (some ⟨w.heap.size, 0, none⟩), .int .u64 150] 95)) (by simp)
  have hgl : g < w.heap.size := ht.lt
  have hel : 0 < w.heap.size := cell_lt hg
  have hg2 : ((w.alloc (.cells #[.pointer (some ⟨g, 0, none⟩)] 60)).alloc (.cells #[.pointer (some ⟨7, 60, none⟩), .pointer (some ⟨w.heap.size, 0, none⟩), .int .u64 150] 95)).cell? ⟨0, 0, none⟩ = some (.iface 119 (.agg #[.pointer (some ⟨7, 54, none⟩)])) := by
    rw [World.cell?_alloc_lt _ _ ⟨0, 0, none⟩ (by simp), World.cell?_alloc_lt _ _ ⟨0, 0, none⟩ hel]; exact hg
  have el := Tryz.evP ⟨w.heap.size, 0, none⟩ ⟨g, 0, none⟩ (((w.alloc (.cells #[.pointer (some ⟨g, 0, none⟩)] 60)).alloc (.cells #[.pointer (some ⟨7, 60, none⟩), .pointer (some ⟨w.heap.size, 0, none⟩), .int .u64 150] 95)).alloc (.cells #[.pointer (some ⟨7, 60, none⟩), .pointer (some ⟨w.heap.size, 0, none⟩), .int .u64 150] 95)) (by rw [World.cell?_alloc_lt _ _ ⟨w.heap.size, 0, none⟩ (by simp; omega)]; simp)
  have st := Tryz.stF g (w.heap.size + 1 + 1 + 1) x y u v ((((w.alloc (.cells #[.pointer (some ⟨g, 0, none⟩)] 60)).alloc (.cells #[.pointer (some ⟨7, 60, none⟩), .pointer (some ⟨w.heap.size, 0, none⟩), .int .u64 150] 95)).alloc (.cells #[.pointer (some ⟨7, 60, none⟩), .pointer (some ⟨w.heap.size, 0, none⟩), .int .u64 150] 95)).alloc (.cells #[.int .i64 x, .int .i64 y] 58))
    (by have := Arr.new (((w.alloc (.cells #[.pointer (some ⟨g, 0, none⟩)] 60)).alloc (.cells #[.pointer (some ⟨7, 60, none⟩), .pointer (some ⟨w.heap.size, 0, none⟩), .int .u64 150] 95)).alloc (.cells #[.pointer (some ⟨7, 60, none⟩), .pointer (some ⟨w.heap.size, 0, none⟩), .int .u64 150] 95)) 58 (faC x y); simp only [World.size_alloc] at this; exact this)
    (by refine Arr.alloc ?_ _; refine Arr.alloc ?_ _; refine Arr.alloc ?_ _; exact Arr.alloc ht _)
  go_enter Tryz.func22, Tryz.ntmps22
  go_wp2
  refine wp_loop_rounds 1 ?_
  rw [rounds_succ]
  go_wp2
  go_ret
  exact ⟨rfl, rfl⟩
theorem as_but (g : Nat) (x y u v : Int) (w : World) (hg : ETy w) (ht : Arr w g 58 (faC u v)) :
    Calls Tryz.prog 22 #[.iface 58 (aV (faC x y)), .iface 60 (.pointer (some ⟨g, 0, none⟩))] w fun ev w' => ev = .returned (.bool true) ∧ Arr w' g 58 (faC x y) ∧ But g w w' := by
  refine (as_hit25 g x y u v w hg ht).mono ?_
  rintro e w' ⟨rfl, rfl⟩
  have hgl : g < w.heap.size := ht.lt
  generalize hW : (((w.alloc (.cells #[.pointer (some ⟨g, 0, none⟩)] 60)).alloc (.cells #[.pointer (some ⟨7, 60, none⟩), .pointer (some ⟨w.heap.size, 0, none⟩), .int .u64 150] 95)).alloc (.cells #[.pointer (some ⟨7, 60, none⟩), .pointer (some ⟨w.heap.size, 0, none⟩), .int .u64 150] 95)).alloc (.cells #[.int .i64 x, .int .i64 y] 58) = W
  have hb : Below w.heap.size w W := by
    rw [← hW]
    exact ((((Below.refl _ _).alloc (Nat.le_refl _) _).alloc (by simp) _).alloc (by simp; omega) _).alloc (by simp; omega) _
  have hA : Arr W g 58 (faC u v) := ht.later hb
  have hA2 := arr_setCells (faC x y) W [] (faC u v) [] (by simpa using hA) rfl
  refine ⟨rfl, by simpa using hA2, ?_⟩
  exact ((But.of_below hb).setCell 0 (.int .i64 x)).setCell 1 (.int .i64 y)
end Go.Proofs.YtdcaojiiaocnaaaGreatDoor

set_option linter.unusedSimpArgs false
set_option linter.unusedVariables false
namespace Go.Proofs.YtdcaojiiaocnaaaGreatDoor
open Go.RowKit

/-! The program's read: what it answers, and what its walk needs. -/
def errV (z y : Int) : Value := if z = 0 then .nilIface else .iface 58 (aV (faC z y))
def RdP (l : List Int) (w : World) (e : Ending) (w' : World) : Prop :=
  ∃ v : Sx Int, e = .returned (.tuple #[aV (opC (parseL l).1.k (parseL l).1.n (parseL l).1.o (parseL l).1.c (parseL l).1.p v.v), errV (parseL l).2.1 (parseL l).2.2]) ∧ v.xs = (parseL l).1.b ∧ Ou w' w.heap.size v.v v.xs ∧ Below w.heap.size w w'
theorem rdP_no {l : List Int} {w w' : World} {e : Ending} {z y : Int} (h : parseL l = (zOp, z, y)) (hz : z ≠ 0) (he : e = .returned (.tuple #[aV (opC 0 0 0 0 0 (.slice none 0 0)), .iface 58 (aV (faC z y))])) (hb : Below w.heap.size w w') : RdP l w e w' := by
  unfold RdP
  rw [h]
  refine ⟨⟨none, 0, 0, []⟩, ?_, rfl, ou_nil25 _ _, hb⟩
  rw [he]; unfold errV; rw [if_neg hz]; rfl
theorem rdP_ok {l : List Int} {w w' : World} {e : Ending} {O : Opq} {v : Sx Int} (h : parseL l = (O, 0, 0)) (hv : v.xs = O.b) (he : e = .returned (.tuple #[aV (opC O.k O.n O.o O.c O.p v.v), .nilIface])) (hO : Ou w' w.heap.size v.v v.xs) (hb : Below w.heap.size w w') : RdP l w e w' := by
  unfold RdP
  rw [h]
  refine ⟨v, ?_, hv, hO, hb⟩
  rw [he]; rfl
theorem b_A (x y : Int) : Tryz.prog.built 58 [(0, .int .i64 x), (1, .int .i64 y)] = some (faC x y).toArray := by kernel_rfl
theorem b_z : Tryz.prog.built 30 [] = some (opC 0 0 0 0 0 (.slice none 0 0)).toArray := by kernel_rfl
theorem split_new (s : ByteArray) (w : World) (hs : s.size ≤ 1048576) (hm : MLn w) :
    Calls Tryz.prog 37 #[.string s, .string { data := #[32] }] w fun e w' => ∃ (g N : Nat) (s0 : ByteArray) (st : List ByteArray), (s0 :: st).map strL = splitB (strL s) ∧ st.length + 1 = N ∧ e = .returned (.slice (some ⟨g, 0, none⟩) N N) ∧ w.heap.size ≤ g ∧ Arr w' g 9 ((s0 :: st).map Value.string) ∧ Below w.heap.size w w' := by
  refine (split_any s w hs hm).mono ?_
  rintro e w' ⟨ss, h1, rfl, rfl⟩
  cases ss with
  | nil => exact absurd h1.symm (splitB_ne _)
  | cons s0 st => exact ⟨w.heap.size, _, s0, st, h1, rfl, rfl, Nat.le_refl _, Arr.new w 9 ((s0 :: st).map Value.string), (Below.refl _ _).alloc (Nat.le_refl _) _⟩
theorem split_le {l : List Int} {ss : List ByteArray} (h : ss.map strL = splitB l) : ∀ s ∈ ss, s.size ≤ l.length := fun s hs => by
  have h1 : strL s ∈ splitB l := by rw [← h]; exact List.mem_map.2 ⟨s, hs, rfl⟩
  have h9 := join_len (splitB l) (splitB_ne l)
  rw [join_split] at h9
  have : (strL s).length + 1 ≤ ((splitB l).map (fun f => f.length + 1)).sum := le_sum25 (List.mem_map.2 ⟨_, h1, rfl⟩)
  rw [strL_length] at this; omega
theorem mln_blk {w w' : World} (h : MLn w) (hk : ∀ k, k < w.heap.size → w'.heap[k]? = w.heap[k]?) : MLn w' := by
  obtain ⟨m, hm⟩ := h
  exact ⟨m, by rw [World.cell?_of_block (hk _ (cell_lt hm))]; exact hm⟩
theorem ety_blk {w w' : World} (h : ETy w) (hk : ∀ k, k < w.heap.size → w'.heap[k]? = w.heap[k]?) : ETy w' := by
  unfold ETy at *
  rw [World.cell?_of_block (hk _ (cell_lt h))]; exact h
/-- a row changed by a call that may make bytes anew: the bytes that are kept are the old ones or the new ones -/
theorem Hs17.chgOu {w0 w w' : World} {rows : List Row} {K : World → Prop} {vb v : Value} {lb l : List Int} (h : Hs17 w0 rows (fun u => K u ∧ Ou u w0.heap.size vb lb) w) (i : Nat) {g : Nat} {t : TypeId} {c c' : List Value} (hi : rows[i]? = some (g, t, c)) (hA' : Arr w' g t c') (hb : But g w w') (hv : (v = vb ∧ l = lb) ∨ Ou w' w.heap.size v l) : Hs17 w0 (rows.set i (g, t, c')) (fun u => K u ∧ Ou u w0.heap.size v l) w' := by
  rcases hv with ⟨rfl, rfl⟩ | hO
  · exact h.chg i hi hA' hb
  · refine ((h.chg i hi hA' hb).also (N := fun u => Ou u w0.heap.size v l) (fun w'' h1 h2 => ?_)).weak (fun _ h => ⟨h.1.1, h.2⟩)
    refine own_monoG (own_blk hO (fun k hk => h2 k (own_lt hO hk).2 (fun p hp e => ?_))) h.bel.size
    have h4 := (own_lt hO hk).1
    rcases List.mem_or_eq_of_mem_set hp with hp | rfl
    · have := (h.arr p hp).lt; omega
    · have := (h.get i hi).lt
      simp only at e; omega
theorem strs_at {w : World} {g : Nat} {ss : List ByteArray} (hA : Arr w g 9 (ss.map Value.string)) {k : Nat} {x : ByteArray} (hk : ss[k]? = some x) : w.cell? ⟨g, k, none⟩ = some (.string x) := by
  have := hA.cell k
  rw [this, List.getElem?_map, hk]; rfl
def rdNext (q : Option Opq) (P m : Nat) (F : List Int) (fs : List (List Int)) : Opq × Int × Int := match q with | none => (zOp, 252, (P : Int)) | some o' => readF F fs (P + m + 1) o'
theorem rd_next {l : Int} {ls : List Int} {f : List Int} {fs : List (List Int)} {P m : Nat} {o : Opq} {q : Option Opq} {r : Opq × Int × Int} (h : readF (l :: ls) (f :: fs) P o = r) (hq : putL o l f = q) (hm : f.length = m) : rdNext q P m ls fs = r := by
  rw [read_cons, hq, hm] at h
  exact h
theorem as_nilB (t : Value) (w : World) : Calls Tryz.prog 22 #[.nilIface, t] w fun e w' => e = .returned (.bool false) ∧ Below w.heap.size w w' := by
  refine (as_nil25 t w).mono ?_
  rintro e w' ⟨rfl, rfl⟩
  exact ⟨rfl, Below.refl _ _⟩
theorem read_y0 : ∀ (ls : List Int) (fs : List (List Int)) (at_ : Nat) (o : Opq), (readF ls fs at_ o).2.1 = 0 → (readF ls fs at_ o).2.2 = 0
  | [], fs, at_, o, _ => by cases fs <;> rfl
  | l :: ls, [], at_, o, _ => rfl
  | l :: ls, f :: fs, at_, o, h => by
    rw [read_cons] at *
    cases hq : putL o l f with
    | none => rw [hq] at h; simp at h
    | some o' => rw [hq] at h; exact read_y0 ls fs _ o' h
theorem parse_y0 {l : List Int} (h : (parseL l).2.1 = 0) : (parseL l).2.2 = 0 := by
  by_cases h1 : 2200 < l.length
  · rw [parse_long h1] at h; simp at h
  · obtain ⟨w, fs, hsp⟩ := split_exists l
    by_cases h2 : kindOf w = 0
    · rw [parse_word h1 hsp h2] at h; simp at h
    · by_cases h3 : l.count 32 = (cmdF (kindOf w)).length
      · rw [(parse_read h1 hsp h2 h3).1] at h ⊢; exact read_y0 _ _ _ _ h
      · rw [parse_fields h1 hsp h2 h3] at h; simp at h
end Go.Proofs.YtdcaojiiaocnaaaGreatDoor
