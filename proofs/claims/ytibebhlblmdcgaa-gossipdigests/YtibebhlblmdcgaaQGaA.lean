import Derived.Test.YtibebhlblmdcgaaQStM
set_option linter.unusedSimpArgs false
set_option linter.unusedVariables false
namespace Go.Proofs.Ytibebhlblmdcgaa
open Go.RowKit

/-! Structs compared: of any program. -/
/-- a cell's kind: an integer's, or none: a bool -/
abbrev CK := Option IntKind
def fitK : CK → Value → Prop
  | some k, v => ∃ z, v = .int k z
  | none, v => ∃ q, v = .bool q
/-- cells of these kinds -/
def Wt : List CK → List Value → Prop
  | [], [] => True
  | k :: ks, v :: c => fitK k v ∧ Wt ks c
  | _, _ => False
theorem Wt.len : ∀ {ks : List CK} {c : List Value}, Wt ks c → c.length = ks.length
  | [], [], _ => rfl
  | k :: ks, v :: c, h => by simp [Wt.len h.2]
  | [], _ :: _, h => h.elim
  | _ :: _, [], h => h.elim
theorem Wt.app : ∀ {ks ks' : List CK} {c c' : List Value}, Wt ks c → Wt ks' c' → Wt (ks ++ ks') (c ++ c')
  | [], ks', [], c', _, h => h
  | k :: ks, ks', v :: c, c', h, h' => ⟨h.1, Wt.app h.2 h'⟩
  | [], _, _ :: _, _, h, _ => h.elim
  | _ :: _, _, [], _, h, _ => h.elim
theorem Wt.split : ∀ {ks ks' : List CK} {c : List Value}, Wt (ks ++ ks') c → ∃ c1 c2, c = c1 ++ c2 ∧ Wt ks c1 ∧ Wt ks' c2
  | [], ks', c, h => ⟨[], c, rfl, trivial, h⟩
  | k :: ks, ks', v :: c, h => by
    obtain ⟨c1, c2, rfl, h1, h2⟩ := Wt.split (ks := ks) (ks' := ks') h.2
    exact ⟨v :: c1, c2, rfl, ⟨h.1, h1⟩, h2⟩
  | k :: ks, ks', [], h => h.elim
theorem Wt.u8 (l : List Int) : Wt (List.replicate l.length (some .u8)) (U8 l) := by
  induction l with
  | nil => trivial
  | cons a t ih => exact ⟨⟨a, rfl⟩, ih⟩
theorem Wt.u8n {l : List Int} {n : Nat} (h : l.length = n) : Wt (List.replicate n (some .u8)) (U8 l) := by subst h; exact Wt.u8 l
theorem Wt.of_u8 : ∀ {n : Nat} {c : List Value}, Wt (List.replicate n (some .u8)) c → ∃ l : List Int, l.length = n ∧ c = U8 l
  | 0, [], _ => ⟨[], rfl, rfl⟩
  | n + 1, v :: c, h => by
    obtain ⟨z, rfl⟩ := h.1
    obtain ⟨l, hl, rfl⟩ := Wt.of_u8 (n := n) h.2
    exact ⟨z :: l, by simp [hl], rfl⟩
  | 0, _ :: _, h => h.elim
  | n + 1, [], h => h.elim
def Fv (td : TypeDesc) (c : List Value) : Value := if td.isRow then aV c else c.headD undef
def Feq (P : Program) (d : Nat) (t : TypeId) (ks : List CK) : Prop := ∃ td, P.underlying t = some td ∧ (P.info? t).map (·.size) = some ks.length ∧ (td.isRow = false → ks.length = 1) ∧
  ∀ c c' w q, Wt ks c → Wt ks c' → (q = true ↔ c = c') → (Op.equalIn d t (Fv td c) (Fv td c')).run P w = .ok q w
theorem run_eqB {P : Program} {t e : TypeId} {n : Nat} {k : IntKind} (d : Nat) (hu : P.underlying t = some (.array n e)) (hue : P.underlying e = some (.int k)) (hi : (P.info? e).map (·.size) = some 1)
    (l l' : List Int) (hl : l.length = n) (hl' : l'.length = n) (w : World) :
    (Op.equalIn (d + 1 + 1) t (.agg (l.map (Value.int k)).toArray) (.agg (l'.map (Value.int k)).toArray)).run P w = .ok (decide (l = l')) w := by
  obtain ⟨i, hii⟩ : ∃ i, P.info? e = some i := by cases hq : P.info? e with
    | none => simp [hq] at hi
    | some i => exact ⟨i, rfl⟩
  have hs : P.cellsOf e = 1 := by simp [Program.cellsOf, hii] at hi ⊢; exact hi
  rw [run_equalIn_array w (d + 1) _ _ hu hii, hs]
  rw [run_eqItems_int hue d l l' w _ (by intro j hj; rw [List.mem_range] at hj; omega), ← hl, all_range_eq l l' (by omega)]
theorem bool_iff {q q' : Bool} {p : Prop} (h : q = true ↔ p) (h' : q' = true ↔ p) : q = q' := by
  rw [Bool.eq_iff_iff, h, h']
theorem U8_inj {l l' : List Int} : U8 l = U8 l' ↔ l = l' := by
  constructor
  · intro h
    unfold U8 at h
    exact (List.map_inj_right (fun x y e => by cases e; rfl)).1 h
  · rintro rfl; rfl
theorem feq_int {P : Program} {d : Nat} {t : TypeId} {k : IntKind} (hu : P.underlying t = some (.int k)) (hi : (P.info? t).map (·.size) = some 1) : Feq P (d + 1) t [some k] := by
  refine ⟨.int k, hu, hi, fun _ => rfl, fun c c' w q hc hc' hq => ?_⟩
  match c, c', hc, hc' with
  | [v], [v'], hc, hc' =>
    obtain ⟨z, rfl⟩ := hc.1
    obtain ⟨z', rfl⟩ := hc'.1
    show (Op.equalIn (d + 1) t (.int k z) (.int k z')).run P w = _
    rw [run_equalIn_int w d t k k _ _ hu]
    congr 1
    refine bool_iff (p := z = z') (by simp) (hq.trans (by simp))
theorem feq_bool {P : Program} {d : Nat} {t : TypeId} (hu : P.underlying t = some .bool) (hi : (P.info? t).map (·.size) = some 1) : Feq P (d + 1) t [none] := by
  refine ⟨.bool, hu, hi, fun _ => rfl, fun c c' w q hc hc' hq => ?_⟩
  match c, c', hc, hc' with
  | [v], [v'], hc, hc' =>
    obtain ⟨z, rfl⟩ := hc.1
    obtain ⟨z', rfl⟩ := hc'.1
    show (Op.equalIn (d + 1) t (.bool z) (.bool z')).run P w = _
    rw [run_equalIn_bool' w d t _ _ hu]
    congr 1
    refine bool_iff (p := z = z') (by simp) (hq.trans (by simp))
theorem feq_bytes {P : Program} {d : Nat} {t e : TypeId} {n : Nat} (hu : P.underlying t = some (.array n e)) (hue : P.underlying e = some (.int .u8)) (hie : (P.info? e).map (·.size) = some 1) (hi : (P.info? t).map (·.size) = some n) : Feq P (d + 1 + 1) t (List.replicate n (some .u8)) := by
  refine ⟨_, hu, by simpa using hi, fun h => by simp [TypeDesc.isRow] at h, fun c c' w q hc hc' hq => ?_⟩
  obtain ⟨l, hl, rfl⟩ := hc.of_u8
  obtain ⟨l', hl', rfl⟩ := hc'.of_u8
  show (Op.equalIn (d + 1 + 1) t (.agg (U8 l).toArray) (.agg (U8 l').toArray)).run P w = _
  have := run_eqB (P := P) d hu hue hie l l' hl hl' w
  unfold U8
  rw [this]
  congr 1
  exact bool_iff (p := l = l') (by simp) (hq.trans U8_inj)
theorem run_part {P : Program} {t : TypeId} {td : TypeDesc} {n : Nat} (hu : P.underlying t = some td) (hi : (P.info? t).map (·.size) = some n) (pre c post : List Value) (hc : c.length = n) (h1 : td.isRow = false → n = 1) (w : World) :
    (part t (pre ++ (c ++ post)).toArray pre.length).run P w = .ok (Fv td c) w := by
  obtain ⟨i, hii⟩ : ∃ i, P.info? t = some i := by cases hq : P.info? t with
    | none => simp [hq] at hi
    | some i => exact ⟨i, rfl⟩
  have hs : i.size = n := by rw [hii] at hi; simpa using hi
  cases hr : td.isRow
  · have hA : (isAgg t).run P w = .ok false w := by
      unfold isAgg
      rw [Sem.run_bind, run_underlying hu w]
      cases td <;> simp_all [TypeDesc.isRow]
    obtain ⟨v, rfl⟩ : ∃ v, c = [v] := by
      have := h1 hr
      match c, hc with
      | [v], _ => exact ⟨v, rfl⟩
      | [], h => simp at h; omega
      | _ :: _ :: _, h => simp at h; omega
    unfold part Fv
    simp [hA, hr]
  · have hA : (isAgg t).run P w = .ok true w := by
      unfold isAgg
      rw [Sem.run_bind, run_underlying hu w]
      cases td <;> simp_all [TypeDesc.isRow]
    have e1 : (pre ++ (c ++ post)).toArray.extract pre.length (pre.length + n) = c.toArray := by
      apply Array.ext'
      simp [List.extract, hc]
    unfold part
    rw [Sem.run_bind, hA]
    simp only [Result.andThen_ok, if_true, Sem.run_bind, sizeOf, run_typeInfo w hii, Sem.run_pure, hs, e1]
    unfold Fv
    rw [hr]; rfl
def Ffs (P : Program) (d : Nat) : List Field → List (List CK) → Nat → Prop
  | [], [], _ => True
  | f :: fs, ks :: kss, o => f.name ≠ "_" ∧ f.offset = o ∧ Feq P d f.type ks ∧ Ffs P d fs kss (o + ks.length)
  | _, _, _ => False
theorem eqFields_run {P : Program} {d : Nat} : ∀ (fs : List Field) (kss : List (List CK)) (pre pre' c c' : List Value) (q : Bool) (w : World), pre.length = pre'.length → Ffs P d fs kss pre.length → Wt kss.flatten c → Wt kss.flatten c' → (q = true ↔ c = c') →
    (Op.eqFields d (pre ++ c).toArray (pre' ++ c').toArray fs).run P w = .ok q w
  | [], [], pre, pre', c, c', q, w, _, _, hc, hc', hq => by
    have h1 := hc.len
    have h2 := hc'.len
    have e1 : c = [] := List.eq_nil_of_length_eq_zero (by simpa using h1)
    have e2 : c' = [] := List.eq_nil_of_length_eq_zero (by simpa using h2)
    subst e1 e2
    have : q = true := hq.2 rfl
    subst this
    simp [Op.eqFields]
  | [], _ :: _, _, _, _, _, _, _, _, h, _, _, _ => h.elim
  | _ :: _, [], _, _, _, _, _, _, _, h, _, _, _ => h.elim
  | f :: fs, ks :: kss, pre, pre', c, c', q, w, hl, h, hc, hc', hq => by
    obtain ⟨h1, h2, ⟨td, hu, hi, hone, he⟩, h4⟩ := h
    rw [List.flatten_cons] at hc hc'
    obtain ⟨c1, c2, rfl, hc1, hc2⟩ := hc.split
    obtain ⟨d1, d2, rfl, hd1, hd2⟩ := hc'.split
    have p1 := run_part hu hi pre c1 c2 hc1.len hone w
    have p2 := run_part hu hi pre' d1 d2 hd1.len hone w
    rw [← hl] at p2
    obtain ⟨q1, hq1⟩ : ∃ q1 : Bool, q1 = true ↔ c1 = d1 := by
      by_cases h : c1 = d1
      · exact ⟨true, by simp [h]⟩
      · exact ⟨false, by simp [h]⟩
    have he1 := he c1 d1 w q1 hc1 hd1 hq1
    rw [Op.eqFields, if_pos h1, h2]
    simp only [Sem.run_bind, p1, p2, he1, Result.andThen_ok]
    have hlen : c1.length = d1.length := by rw [hc1.len, hd1.len]
    cases hqq : q1
    · have hne : c1 ≠ d1 := fun e => by rw [hq1.2 e] at hqq; cases hqq
      have : q = false := by
        cases hq9 : q
        · rfl
        · exact absurd (List.append_inj_left (hq.1 hq9) hlen) hne
      subst this
      simp
    · have heq : c1 = d1 := hq1.1 hqq
      subst heq
      have := eqFields_run fs kss (pre ++ c1) (pre' ++ c1) c2 d2 q w (by simp [hl]) (by rw [List.length_append, hc1.len]; exact h4) hc2 hd2 (hq.trans (by simp))
      simp only [List.append_assoc] at this
      simp [this]
theorem feq_struct {P : Program} {d : Nat} {t : TypeId} {fields : Array Field} {kss : List (List CK)} (hu : P.underlying t = some (.struct fields)) (hp : P.stoodInHeld t = false) (hi : (P.info? t).map (·.size) = some kss.flatten.length) (hf : Ffs P d fields.toList kss 0) : Feq P (d + 1) t kss.flatten := by
  refine ⟨_, hu, hi, fun h => by simp [TypeDesc.isRow] at h, fun c c' w q hc hc' hq => ?_⟩
  show (Op.equalIn (d + 1) t (.agg c.toArray) (.agg c'.toArray)).run P w = _
  have hfo : P.fieldsOf t = fields := by unfold Program.fieldsOf; rw [hu]
  rw [run_equalIn_struct w d t _ _ (by rw [hfo]; exact hu) hp, hfo]
  exact eqFields_run fields.toList kss [] [] c c' q w rfl hf hc hc' hq
theorem Feq.row {P : Program} {d : Nat} {t : TypeId} {ks : List CK} (h : Feq P d t ks) {td : TypeDesc} (hu : P.underlying t = some td) (hd : td.isRow = true) {c c' : List Value} (hc : Wt ks c) (hc' : Wt ks c') {q : Bool} (hq : q = true ↔ c = c') (w : World) : (Op.equalIn d t (aV c) (aV c')).run P w = .ok q w := by
  obtain ⟨td', hu', -, -, h⟩ := h
  rw [hu] at hu'; cases hu'
  have := h c c' w q hc hc' hq
  unfold Fv at this
  rw [hd] at this
  exact this
section
variable {P : Program} {o : Oper} {a : Act} {w : World}
/-- two structs compared -/
theorem ex_eql (t : TypeId) (x y : Operand) (ho : o.op = .binOp .eql t x y t) (c c' : List Value) (hx : a.eval x = aV c) (hy : a.eval y = aV c') (q : Bool) (he : (Op.equalIn 10000 t (aV c) (aV c')).run P w = .ok q w) (hg : P.eqGuardType P.depth t = false) : (execOp a.eval o).run P w = .ok (.value (.bool q)) w := by
  unfold aV at *
  unfold execOp
  rw [ho]
  simp only [hx, hy]
  simp [eqGuard, binOp, Op.equal, Op.maxDepth, Sem.run_bind, Result.andThen, hg, he]
theorem ex_neq (t : TypeId) (x y : Operand) (ho : o.op = .binOp .neq t x y t) (c c' : List Value) (hx : a.eval x = aV c) (hy : a.eval y = aV c') (q : Bool) (he : (Op.equalIn 10000 t (aV c) (aV c')).run P w = .ok q w) (hg : P.eqGuardType P.depth t = false) : (execOp a.eval o).run P w = .ok (.value (.bool (!q))) w := by
  unfold aV at *
  unfold execOp
  rw [ho]
  simp only [hx, hy]
  simp [eqGuard, binOp, Op.equal, Op.maxDepth, Sem.run_bind, Result.andThen, hg, he]
end
end Go.Proofs.Ytibebhlblmdcgaa

set_option linter.unusedSimpArgs false
set_option linter.unusedVariables false
namespace Go.Proofs.Ytibebhlblmdcgaa
open Go.RowKit

/-! Certificates, entries, floors, marks, states: what they are, and their cells. -/
structure Crt where (serial rides price : Int) (anchor sig : List Int)
structure Ent where (cert : Crt) (idx : Int) (val : List Int) (fz : Bool) (fs : List Int) (rv : Bool) (rs : List Int)
structure Flr where (n : Int) (sig : List Int)
structure Mrk where (idx : Int) (val : List Int)
/-! as tuples: to be told apart -/
def Crt.tup (c : Crt) : Int × Int × Int × List Int × List Int := (c.serial, c.rides, c.price, c.anchor, c.sig)
def Flr.tup (f : Flr) : Int × List Int := (f.n, f.sig)
theorem tupC {a b : Crt} : a.tup = b.tup ↔ a = b := by
  refine ⟨fun h => ?_, fun h => by rw [h]⟩
  cases a; cases b; simpa [Crt.tup] using h
theorem tupF {a b : Flr} : a.tup = b.tup ↔ a = b := by
  refine ⟨fun h => ?_, fun h => by rw [h]⟩
  cases a; cases b; simpa [Flr.tup] using h
def eqCb (a b : Crt) : Bool := decide (a.tup = b.tup)
def eqFb (a b : Flr) : Bool := decide (a.tup = b.tup)
def eqEb (a b : Ent) : Bool := eqCb a.cert b.cert && (decide (a.idx = b.idx) && (decide (a.val = b.val) && (decide (a.fz = b.fz) && (decide (a.fs = b.fs) && (decide (a.rv = b.rv) && decide (a.rs = b.rs))))))
theorem eqCb_iff {a b : Crt} : eqCb a b = true ↔ a = b := by rw [eqCb, decide_eq_true_iff, tupC]
theorem eqFb_iff {a b : Flr} : eqFb a b = true ↔ a = b := by rw [eqFb, decide_eq_true_iff, tupF]
theorem eqEb_iff {a b : Ent} : eqEb a b = true ↔ a = b := by
  cases a; cases b; simp [eqEb, eqCb_iff]
theorem eqCb_t {a b : Crt} (h : a = b) : eqCb a b = true := eqCb_iff.2 h
theorem eqFb_t {a b : Flr} (h : a = b) : eqFb a b = true := eqFb_iff.2 h
theorem eqEb_t {a b : Ent} (h : a = b) : eqEb a b = true := eqEb_iff.2 h
theorem eqCb_f {a b : Crt} (h : ¬ a = b) : eqCb a b = false := by rw [Bool.eq_false_iff]; exact fun q => h (eqCb_iff.1 q)
theorem eqFb_f {a b : Flr} (h : ¬ a = b) : eqFb a b = false := by rw [Bool.eq_false_iff]; exact fun q => h (eqFb_iff.1 q)
theorem eqEb_f {a b : Ent} (h : ¬ a = b) : eqEb a b = false := by rw [Bool.eq_false_iff]; exact fun q => h (eqEb_iff.1 q)
/-- so many bytes -/
structure By (n : Nat) (l : List Int) : Prop where
  len : l.length = n
  isB : IsB l
structure Crt.Ok (c : Crt) : Prop where
  an : By 32 c.anchor
  sg : By 64 c.sig
structure Ent.Ok (e : Ent) : Prop where
  cert : e.cert.Ok
  val : By 32 e.val
  fs : By 64 e.fs
  rs : By 64 e.rs
structure Flr.Ok (f : Flr) : Prop where
  sg : By 64 f.sig
structure Mrk.Ok (m : Mrk) : Prop where
  val : By 32 m.val
def iV (z : Int) : Value := .int .i64 z
def crtC (c : Crt) : List Value := [.int .i64 c.serial] ++ ([.int .i64 c.rides] ++ ([.int .i64 c.price] ++ (U8 c.anchor ++ U8 c.sig)))
def eC (e : Ent) : List Value := crtC e.cert ++ ([.int .i64 e.idx] ++ (U8 e.val ++ ([.bool e.fz] ++ (U8 e.fs ++ ([.bool e.rv] ++ U8 e.rs)))))
def fC (f : Flr) : List Value := [.int .i64 f.n] ++ U8 f.sig
def mC (m : Mrk) : List Value := [.int .i64 m.idx] ++ U8 m.val
def gC (f : Flr) (acc : Int) (v : Value) : List Value := fC f ++ ([.int .i64 acc] ++ [v])
theorem crtC_len {c : Crt} (h : c.Ok) : (crtC c).length = 99 := by simp [crtC, h.an.len, h.sg.len]
theorem eC_len {e : Ent} (h : e.Ok) : (eC e).length = 262 := by simp [eC, crtC_len h.cert, h.val.len, h.fs.len, h.rs.len]
theorem fC_len {f : Flr} (h : f.Ok) : (fC f).length = 65 := by simp [fC, h.sg.len]
theorem mC_len {m : Mrk} (h : m.Ok) : (mC m).length = 33 := by simp [mC, h.val.len]
theorem gC_len {f : Flr} (h : f.Ok) (acc : Int) (v : Value) : (gC f acc v).length = 67 := by simp [gC, fC_len h]
theorem one_U8 (l : List Int) : ∀ v ∈ U8 l, v.oneCell' = true := fun v hv => by
  simp [U8] at hv; obtain ⟨x, -, rfl⟩ := hv; rfl
theorem one_app {a b : List Value} (h : ∀ v ∈ a, v.oneCell' = true) (h' : ∀ v ∈ b, v.oneCell' = true) : ∀ v ∈ a ++ b, v.oneCell' = true := fun v hv => (List.mem_append.1 hv).elim (h v) (h' v)
theorem one_one {u : Value} (h : u.oneCell' = true) : ∀ v ∈ [u], v.oneCell' = true := fun v hv => by simp at hv; subst hv; exact h
theorem one_crt (c : Crt) : ∀ v ∈ crtC c, v.oneCell' = true := one_app (one_one rfl) (one_app (one_one rfl) (one_app (one_one rfl) (one_app (one_U8 _) (one_U8 _))))
theorem one_e (e : Ent) : ∀ v ∈ eC e, v.oneCell' = true := one_app (one_crt _) (one_app (one_one rfl) (one_app (one_U8 _) (one_app (one_one rfl) (one_app (one_U8 _) (one_app (one_one rfl) (one_U8 _))))))
theorem one_f (f : Flr) : ∀ v ∈ fC f, v.oneCell' = true := one_app (one_one rfl) (one_U8 _)
theorem one_m (m : Mrk) : ∀ v ∈ mC m, v.oneCell' = true := one_app (one_one rfl) (one_U8 _)
theorem one_g (f : Flr) (acc : Int) {v : Value} (hv : v.oneCell' = true) : ∀ u ∈ gC f acc v, u.oneCell' = true := one_app (one_f _) (one_app (one_one rfl) (one_one hv))

/-! parts -/
theorem at_cert (e : Ent) : At (eC e) 0 (crtC e.cert) := ⟨[], _, rfl, rfl⟩
theorem at_ser (c : Crt) : At (crtC c) 0 [.int .i64 c.serial] := ⟨[], _, rfl, rfl⟩
theorem at_eser (e : Ent) : At (eC e) 0 [.int .i64 e.cert.serial] := (at_cert e).trans (at_ser _) rfl
theorem at_idx {e : Ent} (h : e.Ok) : At (eC e) 99 [.int .i64 e.idx] := ⟨crtC e.cert, _, rfl, crtC_len h.cert⟩
theorem at_val {e : Ent} (h : e.Ok) : At (eC e) 100 (U8 e.val) := ⟨crtC e.cert ++ [.int .i64 e.idx], [.bool e.fz] ++ (U8 e.fs ++ ([.bool e.rv] ++ U8 e.rs)), by simp [eC], by simp [crtC_len h.cert]⟩
theorem at_fz {e : Ent} (h : e.Ok) : At (eC e) 132 [.bool e.fz] := ⟨crtC e.cert ++ ([.int .i64 e.idx] ++ U8 e.val), (U8 e.fs ++ ([.bool e.rv] ++ U8 e.rs)), by simp [eC], by simp [crtC_len h.cert, h.val.len]⟩
theorem at_fs {e : Ent} (h : e.Ok) : At (eC e) 133 (U8 e.fs) := ⟨crtC e.cert ++ ([.int .i64 e.idx] ++ (U8 e.val ++ [.bool e.fz])), ([.bool e.rv] ++ U8 e.rs), by simp [eC], by simp [crtC_len h.cert, h.val.len]⟩
theorem at_rv {e : Ent} (h : e.Ok) : At (eC e) 197 [.bool e.rv] := ⟨crtC e.cert ++ ([.int .i64 e.idx] ++ (U8 e.val ++ ([.bool e.fz] ++ U8 e.fs))), U8 e.rs, by simp [eC], by simp [crtC_len h.cert, h.val.len, h.fs.len]⟩
theorem at_rs {e : Ent} (h : e.Ok) : At (eC e) 198 (U8 e.rs) := ⟨crtC e.cert ++ ([.int .i64 e.idx] ++ (U8 e.val ++ ([.bool e.fz] ++ (U8 e.fs ++ [.bool e.rv])))), [], by simp [eC], by simp [crtC_len h.cert, h.val.len, h.fs.len]⟩
theorem pt_cert {e : Ent} {c : Crt} (h : e.Ok) (hc : c.Ok) : Pt (eC e) 0 (crtC c) (eC { e with cert := c }) := ⟨[], crtC e.cert, _, rfl, rfl, rfl, by rw [crtC_len h.cert, crtC_len hc]⟩
theorem pt_idx {e : Ent} (h : e.Ok) (z : Int) : Pt (eC e) 99 [.int .i64 z] (eC { e with idx := z }) := ⟨crtC e.cert, [.int .i64 e.idx], _, rfl, rfl, crtC_len h.cert, rfl⟩
theorem pt_val {e : Ent} (h : e.Ok) {l : List Int} (hl : By 32 l) : Pt (eC e) 100 (U8 l) (eC { e with val := l }) := ⟨crtC e.cert ++ [.int .i64 e.idx], U8 e.val, [.bool e.fz] ++ (U8 e.fs ++ ([.bool e.rv] ++ U8 e.rs)), by simp [eC], by simp [eC], by simp [crtC_len h.cert], by simp [h.val.len, hl.len]⟩
theorem pt_fz {e : Ent} (h : e.Ok) (b : Bool) : Pt (eC e) 132 [.bool b] (eC { e with fz := b }) := ⟨crtC e.cert ++ ([.int .i64 e.idx] ++ U8 e.val), [.bool e.fz], (U8 e.fs ++ ([.bool e.rv] ++ U8 e.rs)), by simp [eC], by simp [eC], by simp [crtC_len h.cert, h.val.len], rfl⟩
theorem pt_fs {e : Ent} (h : e.Ok) {l : List Int} (hl : By 64 l) : Pt (eC e) 133 (U8 l) (eC { e with fs := l }) := ⟨crtC e.cert ++ ([.int .i64 e.idx] ++ (U8 e.val ++ [.bool e.fz])), U8 e.fs, ([.bool e.rv] ++ U8 e.rs), by simp [eC], by simp [eC], by simp [crtC_len h.cert, h.val.len], by simp [h.fs.len, hl.len]⟩
theorem pt_rv {e : Ent} (h : e.Ok) (b : Bool) : Pt (eC e) 197 [.bool b] (eC { e with rv := b }) := ⟨crtC e.cert ++ ([.int .i64 e.idx] ++ (U8 e.val ++ ([.bool e.fz] ++ U8 e.fs))), [.bool e.rv], U8 e.rs, by simp [eC], by simp [eC], by simp [crtC_len h.cert, h.val.len, h.fs.len], rfl⟩
theorem pt_rs {e : Ent} (h : e.Ok) {l : List Int} (hl : By 64 l) : Pt (eC e) 198 (U8 l) (eC { e with rs := l }) := ⟨crtC e.cert ++ ([.int .i64 e.idx] ++ (U8 e.val ++ ([.bool e.fz] ++ (U8 e.fs ++ [.bool e.rv])))), U8 e.rs, [], by simp [eC], by simp [eC], by simp [crtC_len h.cert, h.val.len, h.fs.len], by simp [h.rs.len, hl.len]⟩
theorem at_fn (f : Flr) : At (fC f) 0 [.int .i64 f.n] := ⟨[], _, rfl, rfl⟩
theorem at_fsig (f : Flr) : At (fC f) 1 (U8 f.sig) := ⟨[.int .i64 f.n], [], by simp [fC], rfl⟩
theorem at_mi (m : Mrk) : At (mC m) 0 [.int .i64 m.idx] := ⟨[], _, rfl, rfl⟩
theorem at_mv (m : Mrk) : At (mC m) 1 (U8 m.val) := ⟨[.int .i64 m.idx], [], by simp [mC], rfl⟩
theorem at_gf (f : Flr) (acc : Int) (v : Value) : At (gC f acc v) 0 (fC f) := ⟨[], _, rfl, rfl⟩
theorem at_gn (f : Flr) (acc : Int) (v : Value) : At (gC f acc v) 0 [.int .i64 f.n] := (at_gf f acc v).trans (at_fn f) rfl
theorem at_gs (f : Flr) (acc : Int) (v : Value) : At (gC f acc v) 1 (U8 f.sig) := (at_gf f acc v).trans (at_fsig f) rfl
theorem at_ga {f : Flr} (h : f.Ok) (acc : Int) (v : Value) : At (gC f acc v) 65 [.int .i64 acc] := ⟨fC f, _, rfl, fC_len h⟩
theorem at_gr {f : Flr} (h : f.Ok) (acc : Int) (v : Value) : At (gC f acc v) 66 [v] := ⟨fC f ++ [.int .i64 acc], [], by simp [gC], by simp [fC_len h]⟩
theorem pt_gf {f f' : Flr} (h : f.Ok) (h' : f'.Ok) (acc : Int) (v : Value) : Pt (gC f acc v) 0 (fC f') (gC f' acc v) := ⟨[], fC f, _, rfl, rfl, rfl, by rw [fC_len h, fC_len h']⟩
theorem pt_ga {f : Flr} (h : f.Ok) (acc acc' : Int) (v : Value) : Pt (gC f acc v) 65 [.int .i64 acc'] (gC f acc' v) := ⟨fC f, [.int .i64 acc], _, rfl, rfl, fC_len h, rfl⟩
theorem pt_gr {f : Flr} (h : f.Ok) (acc : Int) (v v' : Value) : Pt (gC f acc v) 66 [v'] (gC f acc v') := ⟨fC f ++ [.int .i64 acc], [v], [], by simp [gC], by simp [gC], by simp [fC_len h], rfl⟩
theorem pt_e {e e' : Ent} (h : e.Ok) (h' : e'.Ok) : Pt (eC e) 0 (eC e') (eC e') := Pt.self (by rw [eC_len h, eC_len h'])
theorem pt_f {f f' : Flr} (h : f.Ok) (h' : f'.Ok) : Pt (fC f) 0 (fC f') (fC f') := Pt.self (by rw [fC_len h, fC_len h'])
theorem pt_m {m m' : Mrk} (h : m.Ok) (h' : m'.Ok) : Pt (mC m) 0 (mC m') (mC m') := Pt.self (by rw [mC_len h, mC_len h'])
theorem pt_b {n : Nat} {l l' : List Int} (h : By n l) (h' : By n l') : Pt (U8 l) 0 (U8 l') (U8 l') := Pt.self (by simp [h.len, h'.len])
theorem pt_g {f f' : Flr} (h : f.Ok) (h' : f'.Ok) (acc acc' : Int) (v v' : Value) : Pt (gC f acc v) 0 (gC f' acc' v') (gC f' acc' v') := Pt.self (by rw [gC_len h, gC_len h'])

/-! of nothing -/
def z32 : List Int := List.replicate 32 0
def z64 : List Int := List.replicate 64 0
theorem z32_by : By 32 z32 := ⟨by simp [z32], fun x hx => by simp [z32] at hx; omega⟩
theorem z64_by : By 64 z64 := ⟨by simp [z64], fun x hx => by simp [z64] at hx; omega⟩
def zCrt : Crt := ⟨0, 0, 0, z32, z64⟩
def zEnt : Ent := ⟨zCrt, 0, z32, false, z64, false, z64⟩
def zFlr : Flr := ⟨0, z64⟩
def zMrk : Mrk := ⟨0, z32⟩
theorem zCrt_ok : zCrt.Ok := ⟨z32_by, z64_by⟩
theorem zEnt_ok : zEnt.Ok := ⟨zCrt_ok, z32_by, z64_by, z64_by⟩
theorem zFlr_ok : zFlr.Ok := ⟨z64_by⟩
theorem zMrk_ok : zMrk.Ok := ⟨z32_by⟩
def nilS : Value := .slice none 0 0

/-! the types -/
theorem Try.inE : (Try.prog.info? 45).map (fun i => (i.zero, i.size, i.bytes)) = some (some (aV (eC zEnt)), 262, 296) := by kernel_rfl
theorem Try.inC : (Try.prog.info? 43).map (fun i => (i.zero, i.size)) = some (some (aV (crtC zCrt)), 99) := by kernel_rfl
theorem Try.inH : (Try.prog.info? 41).map (fun i => (i.zero, i.size)) = some (some (aV (U8 z32)), 32) := by kernel_rfl
theorem Try.inS : (Try.prog.info? 25).map (fun i => (i.zero, i.size)) = some (some (aV (U8 z64)), 64) := by kernel_rfl
theorem Try.inF : (Try.prog.info? 27).map (fun i => (i.zero, i.size)) = some (some (aV (fC zFlr)), 65) := by kernel_rfl
theorem Try.inG : (Try.prog.info? 30).map (fun i => (i.zero, i.size)) = some (some (aV (gC zFlr 0 nilS)), 67) := by kernel_rfl
theorem Try.in1 : (Try.prog.info? 3).map (·.size) = some 1 := by kernel_rfl
theorem Try.in1l : (Try.prog.info? 2).map (·.size) = some 1 := by kernel_rfl
theorem Try.in1b : (Try.prog.info? 4).map (·.size) = some 1 := by kernel_rfl
theorem Try.in1u : (Try.prog.info? 5).map (·.size) = some 1 := by kernel_rfl
theorem Try.in1s : (Try.prog.info? 28).map (·.size) = some 1 := by kernel_rfl
theorem info_of {P : Program} {t : TypeId} {z : Value} {n : Nat} (h : (P.info? t).map (fun i => (i.zero, i.size)) = some (some z, n)) : ∃ i, P.info? t = some i ∧ i.zero = some z ∧ i.size = n := by
  cases hi : P.info? t with
  | none => rw [hi] at h; simp at h
  | some i =>
    rw [hi] at h
    simp only [Option.map_some, Option.some.injEq, Prod.mk.injEq] at h
    exact ⟨i, rfl, h.1, h.2⟩
theorem size_of {P : Program} {t : TypeId} {z : Value} {n m : Nat} (h : (P.info? t).map (fun i => (i.zero, i.size)) = some (some z, n)) (hm : m = n) : (P.info? t).map (·.size) = some m := by
  obtain ⟨i, hi, -, hs⟩ := info_of h
  rw [hi]; simp [hs, hm]
theorem Try.inE' : (Try.prog.info? 45).map (fun i => (i.zero, i.size)) = some (some (aV (eC zEnt)), 262) := by
  have h := Try.inE
  cases hi : Try.prog.info? 45 with
  | none => rw [hi] at h; simp at h
  | some i =>
    rw [hi] at h
    simp only [Option.map_some, Option.some.injEq, Prod.mk.injEq] at h
    simp [h.1, h.2.1]
theorem szE {e : Ent} (h : e.Ok) : (Try.prog.info? 45).map (·.size) = some (eC e).length := size_of Try.inE' (eC_len h)
theorem szC {c : Crt} (h : c.Ok) : (Try.prog.info? 43).map (·.size) = some (crtC c).length := size_of Try.inC (crtC_len h)
theorem szH {l : List Int} (h : By 32 l) : (Try.prog.info? 41).map (·.size) = some (U8 l).length := size_of Try.inH (by simp [h.len])
theorem szS {l : List Int} (h : By 64 l) : (Try.prog.info? 25).map (·.size) = some (U8 l).length := size_of Try.inS (by simp [h.len])
theorem szF {f : Flr} (h : f.Ok) : (Try.prog.info? 27).map (·.size) = some (fC f).length := size_of Try.inF (fC_len h)
theorem szG {f : Flr} (h : f.Ok) (acc : Int) (v : Value) : (Try.prog.info? 30).map (·.size) = some (gC f acc v).length := size_of Try.inG (gC_len h acc v)

/-! compared -/
def ksC : List (List CK) := [[some .i64], [some .i64], [some .i64], List.replicate 32 (some .u8), List.replicate 64 (some .u8)]
def ksE : List (List CK) := [ksC.flatten, [some .i64], List.replicate 32 (some .u8), [none], List.replicate 64 (some .u8), [none], List.replicate 64 (some .u8)]
def ksF : List (List CK) := [[some .i64], List.replicate 64 (some .u8)]
theorem wt1 (k : IntKind) (z : Int) : Wt [some k] [.int k z] := ⟨⟨z, rfl⟩, trivial⟩
theorem wtb (b : Bool) : Wt [none] [.bool b] := ⟨⟨b, rfl⟩, trivial⟩
theorem wtC {c : Crt} (h : c.Ok) : Wt ksC.flatten (crtC c) := by
  have : ksC.flatten = [some .i64] ++ ([some .i64] ++ ([some .i64] ++ (List.replicate 32 (some .u8) ++ List.replicate 64 (some .u8)))) := by simp [ksC]
  rw [this]
  exact (wt1 _ _).app ((wt1 _ _).app ((wt1 _ _).app ((Wt.u8n h.an.len).app (Wt.u8n h.sg.len))))
theorem wtE {e : Ent} (h : e.Ok) : Wt ksE.flatten (eC e) := by
  have : ksE.flatten = ksC.flatten ++ ([some .i64] ++ (List.replicate 32 (some .u8) ++ ([none] ++ (List.replicate 64 (some .u8) ++ ([none] ++ List.replicate 64 (some .u8)))))) := by rw [ksE]; simp only [List.flatten_cons, List.flatten_nil, List.append_nil]
  rw [this]
  exact (wtC h.cert).app ((wt1 _ _).app ((Wt.u8n h.val.len).app ((wtb _).app ((Wt.u8n h.fs.len).app ((wtb _).app (Wt.u8n h.rs.len))))))
theorem wtF {f : Flr} (h : f.Ok) : Wt ksF.flatten (fC f) := by
  have : ksF.flatten = [some .i64] ++ List.replicate 64 (some .u8) := by simp [ksF]
  rw [this]
  exact (wt1 _ _).app (Wt.u8n h.sg.len)
theorem Try.fqS (d : Nat) : Feq Try.prog (d + 1 + 1) 25 (List.replicate 64 (some .u8)) := feq_bytes Try.underlying25 Try.underlying5 Try.in1u (size_of Try.inS rfl)
theorem Try.fqH (d : Nat) : Feq Try.prog (d + 1 + 1) 41 (List.replicate 32 (some .u8)) := feq_bytes Try.underlying41 Try.underlying5 Try.in1u (size_of Try.inH rfl)
theorem Try.fqC (d : Nat) : Feq Try.prog (d + 1 + 1 + 1) 43 ksC.flatten :=
  feq_struct Try.underlying43 (by kernel_rfl) (size_of Try.inC (by simp [ksC])) ⟨by decide, rfl, feq_int Try.underlying3 Try.in1, by decide, rfl, feq_int Try.underlying3 Try.in1, by decide, rfl, feq_int Try.underlying2 Try.in1l, by decide, rfl, Try.fqH d, by decide, rfl, Try.fqS d, trivial⟩
theorem Try.fqE (d : Nat) : Feq Try.prog (d + 1 + 1 + 1 + 1) 45 ksE.flatten :=
  feq_struct Try.underlying45 (by kernel_rfl) (size_of Try.inE' ((wtE zEnt_ok).len.symm.trans (eC_len zEnt_ok))) ⟨by decide, rfl, Try.fqC d, by decide, rfl, feq_int Try.underlying3 Try.in1, by decide, rfl, Try.fqH (d + 1), by decide, rfl, feq_bool Try.underlying4 Try.in1b, by decide, rfl, Try.fqS (d + 1), by decide, rfl, feq_bool Try.underlying4 Try.in1b, by decide, rfl, Try.fqS (d + 1), trivial⟩
theorem Try.fqF (d : Nat) : Feq Try.prog (d + 1 + 1 + 1) 27 ksF.flatten :=
  feq_struct Try.underlying27 (by kernel_rfl) (size_of Try.inF (by simp [ksF])) ⟨by decide, rfl, feq_int Try.underlying3 Try.in1, by decide, rfl, Try.fqS d, trivial⟩
theorem crtC_inj {c c' : Crt} (h : c.Ok) (h' : c'.Ok) : crtC c = crtC c' ↔ c = c' := by
  refine ⟨fun e => ?_, fun e => by rw [e]⟩
  obtain ⟨s, r, p, an, sg⟩ := c
  obtain ⟨s', r', p', an', sg'⟩ := c'
  simp only [crtC, List.cons_append, List.nil_append, List.cons.injEq, Value.int.injEq, true_and] at e
  obtain ⟨rfl, rfl, rfl, e⟩ := e
  obtain ⟨e1, e2⟩ := List.append_inj e (by simp [h.an.len, h'.an.len])
  rw [U8_inj] at e1 e2
  rw [e1, e2]
theorem eC_inj {e e' : Ent} (h : e.Ok) (h' : e'.Ok) : eC e = eC e' ↔ e = e' := by
  refine ⟨fun q0 => ?_, fun q => by rw [q]⟩
  obtain ⟨c, i, v, a, s, b, t⟩ := e
  obtain ⟨c', i', v', a', s', b', t'⟩ := e'
  simp only [eC] at q0
  obtain ⟨q1, q2⟩ := List.append_inj q0 (by rw [crtC_len h.cert, crtC_len h'.cert])
  rw [crtC_inj h.cert h'.cert] at q1
  clear q0
  simp only [List.cons_append, List.nil_append, List.cons.injEq, Value.int.injEq, true_and] at q2
  obtain ⟨q3, q4⟩ := q2
  obtain ⟨q5, q6⟩ := List.append_inj q4 (by simp [h.val.len, h'.val.len])
  simp only [List.cons.injEq, Value.bool.injEq] at q6
  obtain ⟨q7, q8⟩ := q6
  obtain ⟨q9, q10⟩ := List.append_inj q8 (by simp [h.fs.len, h'.fs.len])
  simp only [List.cons.injEq, Value.bool.injEq] at q10
  obtain ⟨q11, q12⟩ := q10
  rw [U8_inj] at q5 q9 q12
  have q13 : c = c' := q1
  rw [q13, q3, q5, q7, q9, q11, q12]
theorem fC_inj {f f' : Flr} : fC f = fC f' ↔ f = f' := by
  refine ⟨fun q => ?_, fun q => by rw [q]⟩
  obtain ⟨n, s⟩ := f
  obtain ⟨n', s'⟩ := f'
  simp only [fC, List.cons_append, List.nil_append, List.cons.injEq, Value.int.injEq, true_and] at q
  rw [U8_inj] at q
  rw [q.1, q.2]
theorem eqC {c c' : Crt} (h : c.Ok) (h' : c'.Ok) (w : World) : (Op.equalIn 10000 43 (aV (crtC c)) (aV (crtC c'))).run Try.prog w = .ok (eqCb c c') w :=
  (Try.fqC 9997).row Try.underlying43 rfl (wtC h) (wtC h') (by rw [eqCb_iff, crtC_inj h h']) w
theorem eqE {e e' : Ent} (h : e.Ok) (h' : e'.Ok) (w : World) : (Op.equalIn 10000 45 (aV (eC e)) (aV (eC e'))).run Try.prog w = .ok (eqEb e e') w :=
  (Try.fqE 9996).row Try.underlying45 rfl (wtE h) (wtE h') (by rw [eqEb_iff, eC_inj h h']) w
theorem eqF {f f' : Flr} (h : f.Ok) (h' : f'.Ok) (w : World) : (Op.equalIn 10000 27 (aV (fC f)) (aV (fC f'))).run Try.prog w = .ok (eqFb f f') w :=
  (Try.fqF 9997).row Try.underlying27 rfl (wtF h) (wtF h') (by rw [eqFb_iff, fC_inj]) w
theorem Try.egC : Try.prog.eqGuardType Try.prog.depth 43 = false := by kernel_rfl
theorem Try.egE : Try.prog.eqGuardType Try.prog.depth 45 = false := by kernel_rfl
theorem Try.egF : Try.prog.eqGuardType Try.prog.depth 27 = false := by kernel_rfl
end Go.Proofs.Ytibebhlblmdcgaa

set_option linter.unusedSimpArgs false
set_option linter.unusedVariables false
namespace Go.Proofs.Ytibebhlblmdcgaa

/-! The greater of two; the join of two entries. -/
structure TOrd {α : Type} (ok : α → Prop) (gt : α → α → Bool) : Prop where
  asymm : ∀ a b, gt a b = true → gt b a = false
  tot : ∀ a b, ok a → ok b → gt a b = false → gt b a = false → a = b
  trans : ∀ a b c, ok a → ok b → ok c → gt a b = true → gt b c = true → gt a c = true
def mxG {α : Type} (gt : α → α → Bool) (a b : α) : α := if gt b a then b else a
section
variable {α : Type} {ok : α → Prop} {gt : α → α → Bool}
theorem mxG_ok (a b : α) (ha : ok a) (hb : ok b) : ok (mxG gt a b) := by unfold mxG; split <;> assumption
theorem mxG_idem (a : α) : mxG gt a a = a := by unfold mxG; split <;> rfl
theorem TOrd.comm (h : TOrd ok gt) (a b : α) (ha : ok a) (hb : ok b) : mxG gt a b = mxG gt b a := by
  unfold mxG
  cases h1 : gt b a <;> cases h2 : gt a b <;> simp
  · exact h.tot a b ha hb h2 h1
  · have := h.asymm _ _ h1; rw [h2] at this; cases this
/-- the other way of asking -/
theorem TOrd.other (h : TOrd ok gt) (a b : α) (ha : ok a) (hb : ok b) : (if gt a b then a else b) = mxG gt a b := by
  rw [h.comm a b ha hb]; rfl
theorem TOrd.assoc (h : TOrd ok gt) (a b c : α) (ha : ok a) (hb : ok b) (hc : ok c) : mxG gt (mxG gt a b) c = mxG gt a (mxG gt b c) := by
  unfold mxG
  cases h1 : gt b a <;> cases h2 : gt c b <;> simp [h1, h2]
  · cases h3 : gt c a <;> simp
    -- c above a, a not below b, c not above b
    cases h4 : gt a b
    · have := h.tot a b ha hb h4 h1; subst this; rw [h2] at h3; cases h3
    · have := h.trans c a b hc ha hb h3 h4; rw [h2] at this; cases this
  · have := h.trans c b a hc hb ha h2 h1
    simp [this]
end
/-- is the first of two lists of bytes the greater one? -/
def abv : List Int → List Int → Bool
  | x :: a, y :: b => if x = y then abv a b else decide (y < x)
  | _, _ => false
theorem abv_asymm : ∀ (a b : List Int), abv a b = true → abv b a = false
  | [], _, h => by simp [abv] at h
  | _ :: _, [], h => by simp [abv] at h
  | x :: a, y :: b, h => by
    simp only [abv] at h ⊢
    by_cases e : x = y
    · subst e; simp at h ⊢; exact abv_asymm a b h
    · rw [if_neg e] at h
      rw [if_neg (fun q => e q.symm)]
      simp at h ⊢; omega
theorem abv_tot : ∀ (a b : List Int), a.length = b.length → abv a b = false → abv b a = false → a = b
  | [], [], _, _, _ => rfl
  | [], _ :: _, h, _, _ => by simp at h
  | _ :: _, [], h, _, _ => by simp at h
  | x :: a, y :: b, hl, h, h' => by
    simp only [abv] at h h'
    by_cases e : x = y
    · subst e; simp at h h'; rw [abv_tot a b (by simpa using hl) h h']
    · rw [if_neg e] at h
      rw [if_neg (fun q => e q.symm)] at h'
      simp at h h'; omega
theorem abv_trans : ∀ (a b c : List Int), a.length = b.length → b.length = c.length → abv a b = true → abv b c = true → abv a c = true
  | [], _, _, _, _, h, _ => by simp [abv] at h
  | _ :: _, [], _, _, _, h, _ => by simp [abv] at h
  | _ :: _, _ :: _, [], _, _, _, h => by simp [abv] at h
  | x :: a, y :: b, z :: c, h1, h2, h, h' => by
    simp only [abv] at h h' ⊢
    by_cases e : x = y
    · subst e
      simp at h
      by_cases e2 : x = z
      · subst e2; simp at h' ⊢; exact abv_trans a b c (by simpa using h1) (by simpa using h2) h h'
      · rw [if_neg e2] at h' ⊢; exact h'
    · rw [if_neg e] at h
      by_cases e2 : y = z
      · subst e2; rw [if_neg e]; exact h
      · rw [if_neg e2] at h'
        simp at h h'
        rw [if_neg (by omega)]; simp; omega
theorem ordB (n : Nat) : TOrd (fun l : List Int => l.length = n) abv := ⟨abv_asymm, fun a b ha hb => abv_tot a b (ha.trans hb.symm), fun a b c ha hb hc => abv_trans a b c (ha.trans hb.symm) (hb.trans hc.symm)⟩
def gtM (m m' : Mrk) : Bool := if m.idx = m'.idx then abv m.val m'.val else decide (m'.idx < m.idx)
def gtF (f f' : Flr) : Bool := if f.n = f'.n then abv f.sig f'.sig else decide (f'.n < f.n)
theorem ordM : TOrd (fun m : Mrk => m.val.length = 32) gtM := by
  refine ⟨fun a b h => ?_, fun a b ha hb h h' => ?_, fun a b c ha hb hc h h' => ?_⟩
  · unfold gtM at h ⊢
    by_cases e : a.idx = b.idx
    · rw [if_pos e] at h; rw [if_pos e.symm]; exact abv_asymm _ _ h
    · rw [if_neg e] at h; rw [if_neg (fun q => e q.symm)]; simp at h ⊢; omega
  · unfold gtM at h h'
    by_cases e : a.idx = b.idx
    · rw [if_pos e] at h; rw [if_pos e.symm] at h'
      have := abv_tot _ _ (ha.trans hb.symm) h h'
      cases a; cases b; simp at e this ⊢; exact ⟨e, this⟩
    · rw [if_neg e] at h; rw [if_neg (fun q => e q.symm)] at h'; simp at h h'; omega
  · unfold gtM at h h' ⊢
    by_cases e : a.idx = b.idx
    · rw [if_pos e] at h
      by_cases e2 : b.idx = c.idx
      · rw [if_pos e2] at h'; rw [if_pos (e.trans e2)]; exact abv_trans _ _ _ (ha.trans hb.symm) (hb.trans hc.symm) h h'
      · rw [if_neg e2] at h'; rw [if_neg (by omega)]; simp at h' ⊢; omega
    · rw [if_neg e] at h
      by_cases e2 : b.idx = c.idx
      · rw [if_neg (by omega)]; simp at h ⊢; omega
      · rw [if_neg e2] at h'; simp at h h'; rw [if_neg (by omega)]; simp; omega
theorem ordF : TOrd (fun f : Flr => f.sig.length = 64) gtF := by
  refine ⟨fun a b h => ?_, fun a b ha hb h h' => ?_, fun a b c ha hb hc h h' => ?_⟩
  · unfold gtF at h ⊢
    by_cases e : a.n = b.n
    · rw [if_pos e] at h; rw [if_pos e.symm]; exact abv_asymm _ _ h
    · rw [if_neg e] at h; rw [if_neg (fun q => e q.symm)]; simp at h ⊢; omega
  · unfold gtF at h h'
    by_cases e : a.n = b.n
    · rw [if_pos e] at h; rw [if_pos e.symm] at h'
      have := abv_tot _ _ (ha.trans hb.symm) h h'
      cases a; cases b; simp at e this ⊢; exact ⟨e, this⟩
    · rw [if_neg e] at h; rw [if_neg (fun q => e q.symm)] at h'; simp at h h'; omega
  · unfold gtF at h h' ⊢
    by_cases e : a.n = b.n
    · rw [if_pos e] at h
      by_cases e2 : b.n = c.n
      · rw [if_pos e2] at h'; rw [if_pos (e.trans e2)]; exact abv_trans _ _ _ (ha.trans hb.symm) (hb.trans hc.symm) h h'
      · rw [if_neg e2] at h'; rw [if_neg (by omega)]; simp at h' ⊢; omega
    · rw [if_neg e] at h
      by_cases e2 : b.n = c.n
      · rw [if_neg (by omega)]; simp at h ⊢; omega
      · rw [if_neg e2] at h'; simp at h h'; rw [if_neg (by omega)]; simp; omega
def mxB (a b : List Int) : List Int := mxG abv a b
def mxM (a b : Mrk) : Mrk := mxG gtM a b
def mxF (a b : Flr) : Flr := mxG gtF a b
theorem mxB_by {n : Nat} {a b : List Int} (ha : By n a) (hb : By n b) : By n (mxB a b) := mxG_ok a b ha hb
theorem mxM_ok {a b : Mrk} (ha : a.Ok) (hb : b.Ok) : (mxM a b).Ok := mxG_ok a b ha hb
theorem mxF_ok {a b : Flr} (ha : a.Ok) (hb : b.Ok) : (mxF a b).Ok := mxG_ok a b ha hb
/-- two flags with their signatures -/
def jfS (x : Bool) (s : List Int) (y : Bool) (t : List Int) : List Int := if x then (if y then mxB s t else s) else (if y then t else z64)
theorem jfS_by {x y : Bool} {s t : List Int} (hs : By 64 s) (ht : By 64 t) : By 64 (jfS x s y t) := by
  cases x <;> cases y <;> simp [jfS] <;> first | exact z64_by | assumption | exact mxB_by hs ht
def mrk (e : Ent) : Mrk := ⟨e.idx, e.val⟩
theorem mrk_ok {e : Ent} (h : e.Ok) : (mrk e).Ok := ⟨h.val⟩
/-- the join of two entries of one certificate -/
def joinE (a b : Ent) : Ent := ⟨a.cert, (mxM (mrk a) (mrk b)).idx, (mxM (mrk a) (mrk b)).val, a.fz || b.fz, jfS a.fz a.fs b.fz b.fs, a.rv || b.rv, jfS a.rv a.rs b.rv b.rs⟩
theorem joinE_ok {a b : Ent} (ha : a.Ok) (hb : b.Ok) : (joinE a b).Ok := ⟨ha.cert, (mxM_ok (mrk_ok ha) (mrk_ok hb)).val, jfS_by ha.fs hb.fs, jfS_by ha.rs hb.rs⟩
def joinR (a b : Ent) : Ent := if eqCb a.cert b.cert then joinE a b else zEnt
def joinC (a b : Ent) : Int := if eqCb a.cert b.cert then 0 else 171
theorem joinR_t {a b : Ent} (h : a.cert = b.cert) : joinR a b = joinE a b := by unfold joinR; rw [if_pos (eqCb_t h)]
theorem joinR_f {a b : Ent} (h : ¬ a.cert = b.cert) : joinR a b = zEnt := by unfold joinR; rw [if_neg (by rw [eqCb_f h]; simp)]
theorem joinC_t {a b : Ent} (h : a.cert = b.cert) : joinC a b = 0 := by unfold joinC; rw [if_pos (eqCb_t h)]
theorem joinC_f {a b : Ent} (h : ¬ a.cert = b.cert) : joinC a b = 171 := by unfold joinC; rw [if_neg (by rw [eqCb_f h]; simp)]
theorem joinR_ok {a b : Ent} (ha : a.Ok) (hb : b.Ok) : (joinR a b).Ok := by
  unfold joinR; split
  · exact joinE_ok ha hb
  · exact zEnt_ok
def covB (a b : Ent) : Bool := eqCb a.cert b.cert && eqEb (joinE a b) a
theorem covB_iff {a b : Ent} : covB a b = true ↔ a.cert = b.cert ∧ joinE a b = a := by rw [covB, Bool.and_eq_true, eqCb_iff, eqEb_iff]
/-- an entry that may be -/
structure Ent.Fit (e : Ent) : Prop where
  fz : e.fz = false → e.fs = z64
  rv : e.rv = false → e.rs = z64
theorem jfS_fit {x y : Bool} {s t : List Int} (h : (x || y) = false) : jfS x s y t = z64 := by
  cases x <;> cases y <;> simp at h <;> rfl
theorem joinE_fit (a b : Ent) : (joinE a b).Fit := ⟨fun h => jfS_fit h, fun h => jfS_fit h⟩
theorem jfS_comm {x y : Bool} {s t : List Int} (hs : By 64 s) (ht : By 64 t) : jfS x s y t = jfS y t x s := by
  cases x <;> cases y <;> simp [jfS]
  exact (ordB 64).comm s t hs.len ht.len
theorem jfS_assoc {x y z : Bool} {s t u : List Int} (hs : By 64 s) (ht : By 64 t) (hu : By 64 u) : jfS (x || y) (jfS x s y t) z u = jfS x s (y || z) (jfS y t z u) := by
  cases x <;> cases y <;> cases z <;> simp [jfS]
  exact (ordB 64).assoc s t u hs.len ht.len hu.len
theorem jfS_idem {x : Bool} {s : List Int} (h : x = false → s = z64) : jfS x s x s = s := by
  cases x
  · simp [jfS, h rfl]
  · simp [jfS, mxB, mxG_idem]
theorem joinE_comm {a b : Ent} (ha : a.Ok) (hb : b.Ok) (hc : a.cert = b.cert) : joinE a b = joinE b a := by
  unfold joinE
  rw [hc, show mxM (mrk a) (mrk b) = mxM (mrk b) (mrk a) from ordM.comm _ _ ha.val.len hb.val.len, Bool.or_comm a.fz, Bool.or_comm a.rv, jfS_comm ha.fs hb.fs, jfS_comm ha.rs hb.rs]
theorem mrk_join (a b : Ent) : mrk (joinE a b) = mxM (mrk a) (mrk b) := rfl
theorem joinE_assoc {a b c : Ent} (ha : a.Ok) (hb : b.Ok) (hc : c.Ok) : joinE (joinE a b) c = joinE a (joinE b c) := by
  have h1 : mxM (mxM (mrk a) (mrk b)) (mrk c) = mxM (mrk a) (mxM (mrk b) (mrk c)) := ordM.assoc _ _ _ ha.val.len hb.val.len hc.val.len
  have h2 := jfS_assoc (x := a.fz) (y := b.fz) (z := c.fz) ha.fs hb.fs hc.fs
  have h3 := jfS_assoc (x := a.rv) (y := b.rv) (z := c.rv) ha.rs hb.rs hc.rs
  show (⟨_, (mxM (mrk (joinE a b)) (mrk c)).idx, (mxM (mrk (joinE a b)) (mrk c)).val, _, _, _, _⟩ : Ent) = ⟨_, (mxM (mrk a) (mrk (joinE b c))).idx, (mxM (mrk a) (mrk (joinE b c))).val, _, _, _, _⟩
  rw [mrk_join, mrk_join, h1]
  simp only [joinE, h2, h3, Bool.or_assoc]
theorem joinE_idem {a : Ent} (h : a.Fit) : joinE a a = a := by
  unfold joinE
  rw [show mxM (mrk a) (mrk a) = mrk a from mxG_idem _, Bool.or_self, Bool.or_self, jfS_idem h.fz, jfS_idem h.rv]
  rfl
end Go.Proofs.Ytibebhlblmdcgaa
