import Derived.Test.YtiloacnjgaoceabWriW
namespace Go.Proofs.Ytiloacnjgaoceab
open Go.RowKit

theorem lwrite_any (base p : Nat) (lv : Value) (l : List Int) (f : Int) (q : Stp) (w : World) (h : Wtr w base p lv l f) (hpb : base ≤ p) (hq : q.Ok w) (hl : q.Low base) (hbn : q.b.n ≤ 100000) (hqn : q.q.n ≤ 100000)
    (hm : l.length + 2000000 ≤ 1099511627776) (hbase : base ≤ w.heap.size) :
    Calls Try.prog 11 #[.pointer (some ⟨p, 0, none⟩), q.v] w fun e w' => e = .returned (.bool true) ∧ ∃ lv', Wst base p lv (wStep q (l, f)).1 (wStep q (l, f)).2 w w' lv' := by
  obtain ⟨kd, x, b, s, n, most⟩ := q
  have x0 := hq.x0
  have x1 := hq.x1
  have hb := hq.b
  have hs := hq.q
  have lb := hl.b
  have ls := hl.q
  simp only [Stp.v] at *
  unfold wStep
  simp only
  by_cases h1 : kd = 1
  · rw [if_pos h1]; subst h1; exact write_1 base p lv l f x n most b s w h hpb x0 x1 hb hs lb ls hbn hqn hm hbase
  rw [if_neg h1]
  by_cases h2 : kd = 2
  · rw [if_pos h2]; subst h2; exact write_2 base p lv l f x n most b s w h hpb x0 x1 hb hs lb ls hbn hqn hm hbase
  rw [if_neg h2]
  by_cases h3 : kd = 3
  · rw [if_pos h3]; subst h3; exact write_3 base p lv l f x n most b s w h hpb x0 x1 hb hs lb ls hbn hqn hm hbase
  rw [if_neg h3]
  by_cases h4 : kd = 4
  · rw [if_pos h4]; subst h4; exact write_4 base p lv l f x n most b s w h hpb x0 x1 hb hs lb ls hbn hqn hm hbase
  rw [if_neg h4]
  by_cases h5 : kd = 5
  · rw [if_pos h5]; subst h5; exact write_5 base p lv l f x n most b s w h hpb x0 x1 hb hs lb ls hbn hqn hm hbase
  rw [if_neg h5]
  by_cases h6 : kd = 6
  · rw [if_pos h6]; subst h6; exact write_6 base p lv l f x n most b s w h hpb x0 x1 hb hs lb ls hbn hqn hm hbase
  rw [if_neg h6]
  by_cases h7 : kd = 7
  · rw [if_pos h7]; subst h7; exact write_7 base p lv l f x n most b s w h hpb x0 x1 hb hs lb ls hbn hqn hm hbase
  rw [if_neg h7]
  by_cases h8 : kd = 8
  · rw [if_pos h8]; subst h8; exact write_8 base p lv l f x n most b s w h hpb x0 x1 hb hs lb ls hbn hqn hm hbase
  rw [if_neg h8]
  exact write_0 base p lv l f kd x n most b s w h hpb (by omega) x0 x1 hb hs lb ls hbn hqn hm hbase

/-- steps in memory -/
def LiesS (w : World) (a : Option Addr) (ss : List Stp) : Prop :=
  0 < ss.length → ∃ b off, a = some ⟨b, off, none⟩ ∧ b < w.heap.size ∧ ∀ i q, ss[i]? = some q → ∀ j v, q.cells[j]? = some v → w.cell? ⟨b, off + i * 6 + j, none⟩ = some v
structure Sps where
  a : Option Addr
  n : Nat
  c : Nat
  ss : List Stp
def Sps.v (s : Sps) : Value := .slice s.a s.n s.c
structure Sps.Ok (w : World) (s : Sps) : Prop where
  len : s.ss.length = s.n
  le : s.n ≤ s.c
  mx : s.c ≤ maxLen
  lies : LiesS w s.a s.ss
  all : ∀ q ∈ s.ss, q.Ok w
theorem LiesS.keep {S : Nat → Prop} {w w' : World} {a : Option Addr} {ss : List Stp} (h : LiesS w a ss) (hb : Buts S w w') (hS : 0 < ss.length → ∀ y, a = some y → ¬ S y.block) : LiesS w' a ss := by
  intro hp
  obtain ⟨b, off, rfl, hlt, hc⟩ := h hp
  exact ⟨b, off, rfl, Nat.lt_of_lt_of_le hlt hb.size, fun i q hi j v hv => (World.cell?_of_block (w := w) (w' := w') (a := ⟨b, off + i * 6 + j, none⟩) (hb.block b hlt (hS hp _ rfl))).trans (hc i q hi j v hv)⟩
theorem Sps.Ok.keep {S : Nat → Prop} {w w' : World} {s : Sps} {B : Nat} (h : s.Ok w) (hl : ∀ q ∈ s.ss, q.Low B) (ha : 0 < s.ss.length → ∀ y, s.a = some y → y.block < B) (hb : Buts S w w') (hS : ∀ k, S k → B ≤ k) : s.Ok w' :=
  ⟨h.len, h.le, h.mx, h.lies.keep hb (fun hp y hy e => by have := ha hp y hy; have := hS _ e; omega), fun q hq => (h.all q hq).keep (hl q hq) hb hS⟩
theorem Sps.Ok.later {w w' : World} {s : Sps} (h : s.Ok w) (hb : Below w.heap.size w w') : s.Ok w' :=
  ⟨h.len, h.le, h.mx, h.lies.keep (Buts.of_below (S := fun _ => False) hb) (fun _ _ _ e => e), fun q hq => (h.all q hq).later hb⟩
theorem Sps.Ok.blk {w : World} {s : Sps} (h : s.Ok w) : 0 < s.ss.length → ∀ y, s.a = some y → y.block < w.heap.size := by
  intro hp y hy
  obtain ⟨b, off, ha, hlt, -⟩ := h.lies hp
  rw [ha] at hy; simp at hy; subst hy; exact hlt
/-- the cells of the i-th -/
theorem Sps.Ok.at_ {w : World} {s : Sps} (h : s.Ok w) {i : Nat} {q : Stp} (hi : s.ss[i]? = some q) : ∃ b off, s.a = some ⟨b, off, none⟩ ∧ b < w.heap.size ∧
    w.cell? ⟨b, off + i * 6, none⟩ = some (.int .i64 q.kind) ∧ w.cell? ⟨b, off + i * 6 + 1, none⟩ = some (.int .u64 q.x) ∧ w.cell? ⟨b, off + i * 6 + 2, none⟩ = some (.slice q.b.a q.b.n q.b.c) ∧
    w.cell? ⟨b, off + i * 6 + 3, none⟩ = some (.slice q.q.a q.q.n q.q.c) ∧ w.cell? ⟨b, off + i * 6 + 4, none⟩ = some (.int .i64 q.n) ∧ w.cell? ⟨b, off + i * 6 + 5, none⟩ = some (.int .i64 q.most) := by
  have hp : 0 < s.ss.length := by
    by_cases hl : i < s.ss.length
    · omega
    · rw [List.getElem?_eq_none (by omega)] at hi; simp at hi
  obtain ⟨b, off, ha, hlt, hc⟩ := h.lies hp
  have hc := hc i q hi
  exact ⟨b, off, ha, hlt, hc 0 _ rfl, hc 1 _ rfl, hc 2 _ rfl, hc 3 _ rfl, hc 4 _ rfl, hc 5 _ rfl⟩

/-- all steps on a Writer -/
def wAll (ss : List Stp) (st : List Int × Int) : List Int × Int := ss.foldl (fun st q => wStep q st) st
theorem wAll_snoc (ss : List Stp) (k : Nat) (q : Stp) (h : ss[k]? = some q) (st : List Int × Int) : wAll (ss.take (k + 1)) st = wStep q (wAll (ss.take k) st) := by
  have hk : k < ss.length := by
    by_cases hl : k < ss.length
    · exact hl
    · rw [List.getElem?_eq_none (by omega)] at h; simp at h
  rw [List.take_succ_eq_append_getElem hk]
  rw [List.getElem?_eq_getElem hk] at h; simp at h
  simp [wAll, h]
theorem beB_len (n : Nat) (x : Int) : (beB n x).length = n := by simp [beB]
theorem wNums_len (L : List Int) (hL : IsQ L) (st : List Int × Int) : (wNums L st).1.length ≤ st.1.length + 10 * L.length := by
  induction L generalizing st with
  | nil => simp [wNums]
  | cons x r ih =>
    have h1 := ih (fun y hy => hL y (by simp [hy])) (wLay (sho x.toNat) st)
    have h2 := wLay_len (sho x.toNat) st
    have h3 := sho_len10 (x := x.toNat) (by have := hL x (by simp); omega)
    have h4 : wNums (x :: r) st = wNums r (wLay (sho x.toNat) st) := rfl
    rw [h4, List.length_cons]; omega
theorem wStep_len (q : Stp) {w : World} (hq : q.Ok w) (hbn : q.b.n ≤ 100000) (hqn : q.q.n ≤ 100000) (st : List Int × Int) : (wStep q st).1.length ≤ st.1.length + 1100020 := by
  have x0 := hq.x0
  have x1 := hq.x1
  have hb := hq.b.len
  have hs := hq.q.len
  unfold wStep
  split
  · have := wLay_len [q.x % 256] st; simp at this ⊢; omega
  split
  · have := wLay_len (beB 4 (q.x % 4294967296)) st; rw [beB_len] at this; omega
  split
  · have := wLay_len (beB 8 q.x) st; rw [beB_len] at this; omega
  split
  · have := wLay_len (sho q.x.toNat) st; have := sho_len10 (x := q.x.toNat) (by omega); omega
  split
  · have := wLay_len [if q.x % 2 = 1 then 1 else 0] st; simp at this ⊢; omega
  split
  · have := wLay_len q.b.l st; omega
  split
  · have h1 := wLay_len q.b.l (wCount q.b.l.length q.most st); have h2 := wCount_len q.b.l.length q.most st; have h3 := sho_len10 (x := q.b.l.length) (by omega)
    unfold wBytes; omega
  split
  · have h1 := wNums_len q.q.l hq.q.isQ (wCount q.q.l.length q.most st); have h2 := wCount_len q.q.l.length q.most st; have h3 := sho_len10 (x := q.q.l.length) (by omega)
    have h4 : wList q.q.l q.most st = wNums q.q.l (wCount q.q.l.length q.most st) := rfl
    rw [h4]; omega
  · omega
end Go.Proofs.Ytiloacnjgaoceab
