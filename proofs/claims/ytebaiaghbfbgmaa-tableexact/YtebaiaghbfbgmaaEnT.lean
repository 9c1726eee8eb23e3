import Derived.Test.YtebaiaghbfbgmaaFeM
set_option linter.unusedSimpArgs false
set_option linter.unusedVariables false
namespace Go.Proofs.Ytebaiaghbfbgmaa
open Go.RowKit

/-! Certificates, entries, floors, marks, states: what they are, and their cells. -/
structure Crt where (serial rides price : Int) (anchor sig : List Int)
structure Ent where (cert : Crt) (idx : Int) (val : List Int) (fz : Bool) (fs : List Int) (rv : Bool) (rs : List Int)
structure Flr where (n : Int) (sig : List Int)
structure Mrk where (idx : Int) (val : List Int)
/-! as tuples: to be told apart -/
def Crt.tup (c : Crt) : Int × Int × Int × List Int × List Int := (c.serial, c.rides, c.price, c.anchor, c.sig)
def Flr.tup (f : Flr) : Int × List Int := (f.n, f.sig)
theorem tupC {a b : Crt} : a.tup = b.tup ↔ a = b := by
  refine ⟨fun h => ?_, fun h => by rw [h]⟩
  cases a; cases b; simpa [Crt.tup] using h
theorem tupF {a b : Flr} : a.tup = b.tup ↔ a = b := by
  refine ⟨fun h => ?_, fun h => by rw [h]⟩
  cases a; cases b; simpa [Flr.tup] using h
def eqCb (a b : Crt) : Bool := decide (a.tup = b.tup)
def eqFb (a b : Flr) : Bool := decide (a.tup = b.tup)
def eqEb (a b : Ent) : Bool := eqCb a.cert b.cert && (decide (a.idx = b.idx) && (decide (a.val = b.val) && (decide (a.fz = b.fz) && (decide (a.fs = b.fs) && (decide (a.rv = b.rv) && decide (a.rs = b.rs))))))
theorem eqCb_iff {a b : Crt} : eqCb a b = true ↔ a = b := by rw [eqCb, decide_eq_true_iff, tupC]
theorem eqFb_iff {a b : Flr} : eqFb a b = true ↔ a = b := by rw [eqFb, decide_eq_true_iff, tupF]
theorem eqEb_iff {a b : Ent} : eqEb a b = true ↔ a = b := by
  cases a; cases b; simp [eqEb, eqCb_iff]
theorem eqCb_t {a b : Crt} (h : a = b) : eqCb a b = true := eqCb_iff.2 h
theorem eqFb_t {a b : Flr} (h : a = b) : eqFb a b = true := eqFb_iff.2 h
theorem eqEb_t {a b : Ent} (h : a = b) : eqEb a b = true := eqEb_iff.2 h
theorem eqCb_f {a b : Crt} (h : ¬ a = b) : eqCb a b = false := by rw [Bool.eq_false_iff]; exact fun q => h (eqCb_iff.1 q)
theorem eqFb_f {a b : Flr} (h : ¬ a = b) : eqFb a b = false := by rw [Bool.eq_false_iff]; exact fun q => h (eqFb_iff.1 q)
theorem eqEb_f {a b : Ent} (h : ¬ a = b) : eqEb a b = false := by rw [Bool.eq_false_iff]; exact fun q => h (eqEb_iff.1 q)
/-- so many bytes -/
structure By (n : Nat) (l : List Int) : Prop where
  len : l.length = n
  isB : IsB l
structure Crt.Ok (c : Crt) : Prop where
  an : By 32 c.anchor
  sg : By 64 c.sig
structure Ent.Ok (e : Ent) : Prop where
  cert : e.cert.Ok
  val : By 32 e.val
  fs : By 64 e.fs
  rs : By 64 e.rs
structure Flr.Ok (f : Flr) : Prop where
  sg : By 64 f.sig
structure Mrk.Ok (m : Mrk) : Prop where
  val : By 32 m.val
def iV (z : Int) : Value := .int .i64 z
def crtC (c : Crt) : List Value := [.int .i64 c.serial] ++ ([.int .i64 c.rides] ++ ([.int .i64 c.price] ++ (U8 c.anchor ++ U8 c.sig)))
def eC (e : Ent) : List Value := crtC e.cert ++ ([.int .i64 e.idx] ++ (U8 e.val ++ ([.bool e.fz] ++ (U8 e.fs ++ ([.bool e.rv] ++ U8 e.rs)))))
def fC (f : Flr) : List Value := [.int .i64 f.n] ++ U8 f.sig
def mC (m : Mrk) : List Value := [.int .i64 m.idx] ++ U8 m.val
def gC (f : Flr) (acc : Int) (v : Value) : List Value := fC f ++ ([.int .i64 acc] ++ [v])
theorem crtC_len {c : Crt} (h : c.Ok) : (crtC c).length = 99 := by simp [crtC, h.an.len, h.sg.len]
theorem eC_len {e : Ent} (h : e.Ok) : (eC e).length = 262 := by simp [eC, crtC_len h.cert, h.val.len, h.fs.len, h.rs.len]
theorem fC_len {f : Flr} (h : f.Ok) : (fC f).length = 65 := by simp [fC, h.sg.len]
theorem mC_len {m : Mrk} (h : m.Ok) : (mC m).length = 33 := by simp [mC, h.val.len]
theorem gC_len {f : Flr} (h : f.Ok) (acc : Int) (v : Value) : (gC f acc v).length = 67 := by simp [gC, fC_len h]
theorem one_U8 (l : List Int) : ∀ v ∈ U8 l, v.oneCell' = true := fun v hv => by
  simp [U8] at hv; obtain ⟨x, -, rfl⟩ := hv; rfl
theorem one_app {a b : List Value} (h : ∀ v ∈ a, v.oneCell' = true) (h' : ∀ v ∈ b, v.oneCell' = true) : ∀ v ∈ a ++ b, v.oneCell' = true := fun v hv => (List.mem_append.1 hv).elim (h v) (h' v)
theorem one_one {u : Value} (h : u.oneCell' = true) : ∀ v ∈ [u], v.oneCell' = true := fun v hv => by simp at hv; subst hv; exact h
theorem one_crt (c : Crt) : ∀ v ∈ crtC c, v.oneCell' = true := one_app (one_one rfl) (one_app (one_one rfl) (one_app (one_one rfl) (one_app (one_U8 _) (one_U8 _))))
theorem one_e (e : Ent) : ∀ v ∈ eC e, v.oneCell' = true := one_app (one_crt _) (one_app (one_one rfl) (one_app (one_U8 _) (one_app (one_one rfl) (one_app (one_U8 _) (one_app (one_one rfl) (one_U8 _))))))
theorem one_f (f : Flr) : ∀ v ∈ fC f, v.oneCell' = true := one_app (one_one rfl) (one_U8 _)
theorem one_m (m : Mrk) : ∀ v ∈ mC m, v.oneCell' = true := one_app (one_one rfl) (one_U8 _)
theorem one_g (f : Flr) (acc : Int) {v : Value} (hv : v.oneCell' = true) : ∀ u ∈ gC f acc v, u.oneCell' = true := one_app (one_f _) (one_app (one_one rfl) (one_one hv))

/-! parts -/
theorem at_cert (e : Ent) : At (eC e) 0 (crtC e.cert) := ⟨[], _, rfl, rfl⟩
theorem at_ser (c : Crt) : At (crtC c) 0 [.int .i64 c.serial] := ⟨[], _, rfl, rfl⟩
theorem at_eser (e : Ent) : At (eC e) 0 [.int .i64 e.cert.serial] := (at_cert e).trans (at_ser _) rfl
theorem at_idx {e : Ent} (h : e.Ok) : At (eC e) 99 [.int .i64 e.idx] := ⟨crtC e.cert, _, rfl, crtC_len h.cert⟩
theorem at_val {e : Ent} (h : e.Ok) : At (eC e) 100 (U8 e.val) := ⟨crtC e.cert ++ [.int .i64 e.idx], [.bool e.fz] ++ (U8 e.fs ++ ([.bool e.rv] ++ U8 e.rs)), by simp [eC], by simp [crtC_len h.cert]⟩
theorem at_fz {e : Ent} (h : e.Ok) : At (eC e) 132 [.bool e.fz] := ⟨crtC e.cert ++ ([.int .i64 e.idx] ++ U8 e.val), (U8 e.fs ++ ([.bool e.rv] ++ U8 e.rs)), by simp [eC], by simp [crtC_len h.cert, h.val.len]⟩
theorem at_fs {e : Ent} (h : e.Ok) : At (eC e) 133 (U8 e.fs) := ⟨crtC e.cert ++ ([.int .i64 e.idx] ++ (U8 e.val ++ [.bool e.fz])), ([.bool e.rv] ++ U8 e.rs), by simp [eC], by simp [crtC_len h.cert, h.val.len]⟩
theorem at_rv {e : Ent} (h : e.Ok) : At (eC e) 197 [.bool e.rv] := ⟨crtC e.cert ++ ([.int .i64 e.idx] ++ (U8 e.val ++ ([.bool e.fz] ++ U8 e.fs))), U8 e.rs, by simp [eC], by simp [crtC_len h.cert, h.val.len, h.fs.len]⟩
theorem at_rs {e : Ent} (h : e.Ok) : At (eC e) 198 (U8 e.rs) := ⟨crtC e.cert ++ ([.int .i64 e.idx] ++ (U8 e.val ++ ([.bool e.fz] ++ (U8 e.fs ++ [.bool e.rv])))), [], by simp [eC], by simp [crtC_len h.cert, h.val.len, h.fs.len]⟩
theorem pt_cert {e : Ent} {c : Crt} (h : e.Ok) (hc : c.Ok) : Pt (eC e) 0 (crtC c) (eC { e with cert := c }) := ⟨[], crtC e.cert, _, rfl, rfl, rfl, by rw [crtC_len h.cert, crtC_len hc]⟩
theorem pt_idx {e : Ent} (h : e.Ok) (z : Int) : Pt (eC e) 99 [.int .i64 z] (eC { e with idx := z }) := ⟨crtC e.cert, [.int .i64 e.idx], _, rfl, rfl, crtC_len h.cert, rfl⟩
theorem pt_val {e : Ent} (h : e.Ok) {l : List Int} (hl : By 32 l) : Pt (eC e) 100 (U8 l) (eC { e with val := l }) := ⟨crtC e.cert ++ [.int .i64 e.idx], U8 e.val, [.bool e.fz] ++ (U8 e.fs ++ ([.bool e.rv] ++ U8 e.rs)), by simp [eC], by simp [eC], by simp [crtC_len h.cert], by simp [h.val.len, hl.len]⟩
theorem pt_fz {e : Ent} (h : e.Ok) (b : Bool) : Pt (eC e) 132 [.bool b] (eC { e with fz := b }) := ⟨crtC e.cert ++ ([.int .i64 e.idx] ++ U8 e.val), [.bool e.fz], (U8 e.fs ++ ([.bool e.rv] ++ U8 e.rs)), by simp [eC], by simp [eC], by simp [crtC_len h.cert, h.val.len], rfl⟩
theorem pt_fs {e : Ent} (h : e.Ok) {l : List Int} (hl : By 64 l) : Pt (eC e) 133 (U8 l) (eC { e with fs := l }) := ⟨crtC e.cert ++ ([.int .i64 e.idx] ++ (U8 e.val ++ [.bool e.fz])), U8 e.fs, ([.bool e.rv] ++ U8 e.rs), by simp [eC], by simp [eC], by simp [crtC_len h.cert, h.val.len], by simp [h.fs.len, hl.len]⟩
theorem pt_rv {e : Ent} (h : e.Ok) (b : Bool) : Pt (eC e) 197 [.bool b] (eC { e with rv := b }) := ⟨crtC e.cert ++ ([.int .i64 e.idx] ++ (U8 e.val ++ ([.bool e.fz] ++ U8 e.fs))), [.bool e.rv], U8 e.rs, by simp [eC], by simp [eC], by simp [crtC_len h.cert, h.val.len, h.fs.len], rfl⟩
theorem pt_rs {e : Ent} (h : e.Ok) {l : List Int} (hl : By 64 l) : Pt (eC e) 198 (U8 l) (eC { e with rs := l }) := ⟨crtC e.cert ++ ([.int .i64 e.idx] ++ (U8 e.val ++ ([.bool e.fz] ++ (U8 e.fs ++ [.bool e.rv])))), U8 e.rs, [], by simp [eC], by simp [eC], by simp [crtC_len h.cert, h.val.len, h.fs.len], by simp [h.rs.len, hl.len]⟩
theorem at_fn (f : Flr) : At (fC f) 0 [.int .i64 f.n] := ⟨[], _, rfl, rfl⟩
theorem at_fsig (f : Flr) : At (fC f) 1 (U8 f.sig) := ⟨[.int .i64 f.n], [], by simp [fC], rfl⟩
theorem at_mi (m : Mrk) : At (mC m) 0 [.int .i64 m.idx] := ⟨[], _, rfl, rfl⟩
theorem at_mv (m : Mrk) : At (mC m) 1 (U8 m.val) := ⟨[.int .i64 m.idx], [], by simp [mC], rfl⟩
theorem at_gf (f : Flr) (acc : Int) (v : Value) : At (gC f acc v) 0 (fC f) := ⟨[], _, rfl, rfl⟩
theorem at_gn (f : Flr) (acc : Int) (v : Value) : At (gC f acc v) 0 [.int .i64 f.n] := (at_gf f acc v).trans (at_fn f) rfl
theorem at_gs (f : Flr) (acc : Int) (v : Value) : At (gC f acc v) 1 (U8 f.sig) := (at_gf f acc v).trans (at_fsig f) rfl
theorem at_ga {f : Flr} (h : f.Ok) (acc : Int) (v : Value) : At (gC f acc v) 65 [.int .i64 acc] := ⟨fC f, _, rfl, fC_len h⟩
theorem at_gr {f : Flr} (h : f.Ok) (acc : Int) (v : Value) : At (gC f acc v) 66 [v] := ⟨fC f ++ [.int .i64 acc], [], by simp [gC], by simp [fC_len h]⟩
theorem pt_gf {f f' : Flr} (h : f.Ok) (h' : f'.Ok) (acc : Int) (v : Value) : Pt (gC f acc v) 0 (fC f') (gC f' acc v) := ⟨[], fC f, _, rfl, rfl, rfl, by rw [fC_len h, fC_len h']⟩
theorem pt_ga {f : Flr} (h : f.Ok) (acc acc' : Int) (v : Value) : Pt (gC f acc v) 65 [.int .i64 acc'] (gC f acc' v) := ⟨fC f, [.int .i64 acc], _, rfl, rfl, fC_len h, rfl⟩
theorem pt_gr {f : Flr} (h : f.Ok) (acc : Int) (v v' : Value) : Pt (gC f acc v) 66 [v'] (gC f acc v') := ⟨fC f ++ [.int .i64 acc], [v], [], by simp [gC], by simp [gC], by simp [fC_len h], rfl⟩
theorem pt_e {e e' : Ent} (h : e.Ok) (h' : e'.Ok) : Pt (eC e) 0 (eC e') (eC e') := Pt.self (by rw [eC_len h, eC_len h'])
theorem pt_f {f f' : Flr} (h : f.Ok) (h' : f'.Ok) : Pt (fC f) 0 (fC f') (fC f') := Pt.self (by rw [fC_len h, fC_len h'])
theorem pt_m {m m' : Mrk} (h : m.Ok) (h' : m'.Ok) : Pt (mC m) 0 (mC m') (mC m') := Pt.self (by rw [mC_len h, mC_len h'])
theorem pt_b {n : Nat} {l l' : List Int} (h : By n l) (h' : By n l') : Pt (U8 l) 0 (U8 l') (U8 l') := Pt.self (by simp [h.len, h'.len])
theorem pt_g {f f' : Flr} (h : f.Ok) (h' : f'.Ok) (acc acc' : Int) (v v' : Value) : Pt (gC f acc v) 0 (gC f' acc' v') (gC f' acc' v') := Pt.self (by rw [gC_len h, gC_len h'])

/-! of nothing -/
def z32 : List Int := List.replicate 32 0
def z64 : List Int := List.replicate 64 0
theorem z32_by : By 32 z32 := ⟨by simp [z32], fun x hx => by simp [z32] at hx; omega⟩
theorem z64_by : By 64 z64 := ⟨by simp [z64], fun x hx => by simp [z64] at hx; omega⟩
def zCrt : Crt := ⟨0, 0, 0, z32, z64⟩
def zEnt : Ent := ⟨zCrt, 0, z32, false, z64, false, z64⟩
def zFlr : Flr := ⟨0, z64⟩
def zMrk : Mrk := ⟨0, z32⟩
theorem zCrt_ok : zCrt.Ok := ⟨z32_by, z64_by⟩
theorem zEnt_ok : zEnt.Ok := ⟨zCrt_ok, z32_by, z64_by, z64_by⟩
theorem zFlr_ok : zFlr.Ok := ⟨z64_by⟩
theorem zMrk_ok : zMrk.Ok := ⟨z32_by⟩
def nilS : Value := .slice none 0 0

/-! the types -/
theorem Try.inE : (Try.prog.info? 37).map (fun i => (i.zero, i.size, i.bytes)) = some (some (aV (eC zEnt)), 262, 296) := by kernel_rfl
theorem Try.inC : (Try.prog.info? 35).map (fun i => (i.zero, i.size)) = some (some (aV (crtC zCrt)), 99) := by kernel_rfl
theorem Try.inH : (Try.prog.info? 33).map (fun i => (i.zero, i.size)) = some (some (aV (U8 z32)), 32) := by kernel_rfl
theorem Try.inS : (Try.prog.info? 24).map (fun i => (i.zero, i.size)) = some (some (aV (U8 z64)), 64) := by kernel_rfl
theorem Try.inF : (Try.prog.info? 26).map (fun i => (i.zero, i.size)) = some (some (aV (fC zFlr)), 65) := by kernel_rfl
theorem Try.inG : (Try.prog.info? 29).map (fun i => (i.zero, i.size)) = some (some (aV (gC zFlr 0 nilS)), 67) := by kernel_rfl
theorem Try.inM : (Try.prog.info? 87).map (fun i => (i.zero, i.size)) = some (some (aV (mC zMrk)), 33) := by kernel_rfl
theorem Try.inS2 : (Try.prog.info? 84).map (fun i => (i.zero, i.size)) = some (some (aV (U8 z64)), 64) := by kernel_rfl
theorem Try.inF2 : (Try.prog.info? 72).map (fun i => (i.zero, i.size)) = some (some (aV (fC zFlr)), 65) := by kernel_rfl
theorem Try.in1 : (Try.prog.info? 3).map (·.size) = some 1 := by kernel_rfl
theorem Try.in1l : (Try.prog.info? 2).map (·.size) = some 1 := by kernel_rfl
theorem Try.in1b : (Try.prog.info? 4).map (·.size) = some 1 := by kernel_rfl
theorem Try.in1u : (Try.prog.info? 5).map (·.size) = some 1 := by kernel_rfl
theorem Try.in1s : (Try.prog.info? 27).map (·.size) = some 1 := by kernel_rfl
theorem info_of {P : Program} {t : TypeId} {z : Value} {n : Nat} (h : (P.info? t).map (fun i => (i.zero, i.size)) = some (some z, n)) : ∃ i, P.info? t = some i ∧ i.zero = some z ∧ i.size = n := by
  cases hi : P.info? t with
  | none => rw [hi] at h; simp at h
  | some i =>
    rw [hi] at h
    simp only [Option.map_some, Option.some.injEq, Prod.mk.injEq] at h
    exact ⟨i, rfl, h.1, h.2⟩
theorem size_of {P : Program} {t : TypeId} {z : Value} {n m : Nat} (h : (P.info? t).map (fun i => (i.zero, i.size)) = some (some z, n)) (hm : m = n) : (P.info? t).map (·.size) = some m := by
  obtain ⟨i, hi, -, hs⟩ := info_of h
  rw [hi]; simp [hs, hm]
theorem Try.inE' : (Try.prog.info? 37).map (fun i => (i.zero, i.size)) = some (some (aV (eC zEnt)), 262) := by
  have h := Try.inE
  cases hi : Try.prog.info? 37 with
  | none => rw [hi] at h; simp at h
  | some i =>
    rw [hi] at h
    simp only [Option.map_some, Option.some.injEq, Prod.mk.injEq] at h
    simp [h.1, h.2.1]
theorem szE {e : Ent} (h : e.Ok) : (Try.prog.info? 37).map (·.size) = some (eC e).length := size_of Try.inE' (eC_len h)
theorem szC {c : Crt} (h : c.Ok) : (Try.prog.info? 35).map (·.size) = some (crtC c).length := size_of Try.inC (crtC_len h)
theorem szH {l : List Int} (h : By 32 l) : (Try.prog.info? 33).map (·.size) = some (U8 l).length := size_of Try.inH (by simp [h.len])
theorem szS {l : List Int} (h : By 64 l) : (Try.prog.info? 24).map (·.size) = some (U8 l).length := size_of Try.inS (by simp [h.len])
theorem szS2 {l : List Int} (h : By 64 l) : (Try.prog.info? 84).map (·.size) = some (U8 l).length := size_of Try.inS2 (by simp [h.len])
theorem szF {f : Flr} (h : f.Ok) : (Try.prog.info? 26).map (·.size) = some (fC f).length := size_of Try.inF (fC_len h)
theorem szF2 {f : Flr} (h : f.Ok) : (Try.prog.info? 72).map (·.size) = some (fC f).length := size_of Try.inF2 (fC_len h)
theorem szM {m : Mrk} (h : m.Ok) : (Try.prog.info? 87).map (·.size) = some (mC m).length := size_of Try.inM (mC_len h)
theorem szG {f : Flr} (h : f.Ok) (acc : Int) (v : Value) : (Try.prog.info? 29).map (·.size) = some (gC f acc v).length := size_of Try.inG (gC_len h acc v)

/-! compared -/
def ksC : List (List CK) := [[some .i64], [some .i64], [some .i64], List.replicate 32 (some .u8), List.replicate 64 (some .u8)]
def ksE : List (List CK) := [ksC.flatten, [some .i64], List.replicate 32 (some .u8), [none], List.replicate 64 (some .u8), [none], List.replicate 64 (some .u8)]
def ksF : List (List CK) := [[some .i64], List.replicate 64 (some .u8)]
theorem wt1 (k : IntKind) (z : Int) : Wt [some k] [.int k z] := ⟨⟨z, rfl⟩, trivial⟩
theorem wtb (b : Bool) : Wt [none] [.bool b] := ⟨⟨b, rfl⟩, trivial⟩
theorem wtC {c : Crt} (h : c.Ok) : Wt ksC.flatten (crtC c) := by
  have : ksC.flatten = [some .i64] ++ ([some .i64] ++ ([some .i64] ++ (List.replicate 32 (some .u8) ++ List.replicate 64 (some .u8)))) := by simp [ksC]
  rw [this]
  exact (wt1 _ _).app ((wt1 _ _).app ((wt1 _ _).app ((Wt.u8n h.an.len).app (Wt.u8n h.sg.len))))
theorem wtE {e : Ent} (h : e.Ok) : Wt ksE.flatten (eC e) := by
  have : ksE.flatten = ksC.flatten ++ ([some .i64] ++ (List.replicate 32 (some .u8) ++ ([none] ++ (List.replicate 64 (some .u8) ++ ([none] ++ List.replicate 64 (some .u8)))))) := by rw [ksE]; simp only [List.flatten_cons, List.flatten_nil, List.append_nil]
  rw [this]
  exact (wtC h.cert).app ((wt1 _ _).app ((Wt.u8n h.val.len).app ((wtb _).app ((Wt.u8n h.fs.len).app ((wtb _).app (Wt.u8n h.rs.len))))))
theorem wtF {f : Flr} (h : f.Ok) : Wt ksF.flatten (fC f) := by
  have : ksF.flatten = [some .i64] ++ List.replicate 64 (some .u8) := by simp [ksF]
  rw [this]
  exact (wt1 _ _).app (Wt.u8n h.sg.len)
theorem Try.fqS (d : Nat) : Feq Try.prog (d + 1 + 1) 24 (List.replicate 64 (some .u8)) := feq_bytes Try.underlying24 Try.underlying5 Try.in1u (size_of Try.inS rfl)
theorem Try.fqH (d : Nat) : Feq Try.prog (d + 1 + 1) 33 (List.replicate 32 (some .u8)) := feq_bytes Try.underlying33 Try.underlying5 Try.in1u (size_of Try.inH rfl)
theorem Try.fqC (d : Nat) : Feq Try.prog (d + 1 + 1 + 1) 35 ksC.flatten :=
  feq_struct Try.underlying35 (by kernel_rfl) (size_of Try.inC (by simp [ksC])) ⟨by decide, rfl, feq_int Try.underlying3 Try.in1, by decide, rfl, feq_int Try.underlying3 Try.in1, by decide, rfl, feq_int Try.underlying2 Try.in1l, by decide, rfl, Try.fqH d, by decide, rfl, Try.fqS d, trivial⟩
theorem Try.fqE (d : Nat) : Feq Try.prog (d + 1 + 1 + 1 + 1) 37 ksE.flatten :=
  feq_struct Try.underlying37 (by kernel_rfl) (size_of Try.inE' ((wtE zEnt_ok).len.symm.trans (eC_len zEnt_ok))) ⟨by decide, rfl, Try.fqC d, by decide, rfl, feq_int Try.underlying3 Try.in1, by decide, rfl, Try.fqH (d + 1), by decide, rfl, feq_bool Try.underlying4 Try.in1b, by decide, rfl, Try.fqS (d + 1), by decide, rfl, feq_bool Try.underlying4 Try.in1b, by decide, rfl, Try.fqS (d + 1), trivial⟩
theorem Try.fqF (d : Nat) : Feq Try.prog (d + 1 + 1 + 1) 26 ksF.flatten :=
  feq_struct Try.underlying26 (by kernel_rfl) (size_of Try.inF (by simp [ksF])) ⟨by decide, rfl, feq_int Try.underlying3 Try.in1, by decide, rfl, Try.fqS d, trivial⟩
theorem crtC_inj {c c' : Crt} (h : c.Ok) (h' : c'.Ok) : crtC c = crtC c' ↔ c = c' := by
  refine ⟨fun e => ?_, fun e => by rw [e]⟩
  obtain ⟨s, r, p, an, sg⟩ := c
  obtain ⟨s', r', p', an', sg'⟩ := c'
  simp only [crtC, List.cons_append, List.nil_append, List.cons.injEq, Value.int.injEq, true_and] at e
  obtain ⟨rfl, rfl, rfl, e⟩ := e
  obtain ⟨e1, e2⟩ := List.append_inj e (by simp [h.an.len, h'.an.len])
  rw [U8_inj] at e1 e2
  rw [e1, e2]
theorem eC_inj {e e' : Ent} (h : e.Ok) (h' : e'.Ok) : eC e = eC e' ↔ e = e' := by
  refine ⟨fun q0 => ?_, fun q => by rw [q]⟩
  obtain ⟨c, i, v, a, s, b, t⟩ := e
  obtain ⟨c', i', v', a', s', b', t'⟩ := e'
  simp only [eC] at q0
  obtain ⟨q1, q2⟩ := List.append_inj q0 (by rw [crtC_len h.cert, crtC_len h'.cert])
  rw [crtC_inj h.cert h'.cert] at q1
  clear q0
  simp only [List.cons_append, List.nil_append, List.cons.injEq, Value.int.injEq, true_and] at q2
  obtain ⟨q3, q4⟩ := q2
  obtain ⟨q5, q6⟩ := List.append_inj q4 (by simp [h.val.len, h'.val.len])
  simp only [List.cons.injEq, Value.bool.injEq] at q6
  obtain ⟨q7, q8⟩ := q6
  obtain ⟨q9, q10⟩ := List.append_inj q8 (by simp [h.fs.len, h'.fs.len])
  simp only [List.cons.injEq, Value.bool.injEq] at q10
  obtain ⟨q11, q12⟩ := q10
  rw [U8_inj] at q5 q9 q12
  have q13 : c = c' := q1
  rw [q13, q3, q5, q7, q9, q11, q12]
theorem fC_inj {f f' : Flr} : fC f = fC f' ↔ f = f' := by
  refine ⟨fun q => ?_, fun q => by rw [q]⟩
  obtain ⟨n, s⟩ := f
  obtain ⟨n', s'⟩ := f'
  simp only [fC, List.cons_append, List.nil_append, List.cons.injEq, Value.int.injEq, true_and] at q
  rw [U8_inj] at q
  rw [q.1, q.2]
theorem eqC {c c' : Crt} (h : c.Ok) (h' : c'.Ok) (w : World) : (Op.equalIn 10000 35 (aV (crtC c)) (aV (crtC c'))).run Try.prog w = .ok (eqCb c c') w :=
  (Try.fqC 9997).row Try.underlying35 rfl (wtC h) (wtC h') (by rw [eqCb_iff, crtC_inj h h']) w
theorem eqE {e e' : Ent} (h : e.Ok) (h' : e'.Ok) (w : World) : (Op.equalIn 10000 37 (aV (eC e)) (aV (eC e'))).run Try.prog w = .ok (eqEb e e') w :=
  (Try.fqE 9996).row Try.underlying37 rfl (wtE h) (wtE h') (by rw [eqEb_iff, eC_inj h h']) w
theorem eqF {f f' : Flr} (h : f.Ok) (h' : f'.Ok) (w : World) : (Op.equalIn 10000 26 (aV (fC f)) (aV (fC f'))).run Try.prog w = .ok (eqFb f f') w :=
  (Try.fqF 9997).row Try.underlying26 rfl (wtF h) (wtF h') (by rw [eqFb_iff, fC_inj]) w
theorem Try.egC : Try.prog.eqGuardType Try.prog.depth 35 = false := by kernel_rfl
theorem Try.egE : Try.prog.eqGuardType Try.prog.depth 37 = false := by kernel_rfl
theorem Try.egF : Try.prog.eqGuardType Try.prog.depth 26 = false := by kernel_rfl
end Go.Proofs.Ytebaiaghbfbgmaa
