import Derived.Test.YtppmgfkpfamabaaQGapZ
import Derived.Test.YtppmgfkpfamabaaQGrA
set_option linter.unusedSimpArgs false
set_option linter.unusedVariables false
namespace Go.Proofs.Ytppmgfkpfamabaa
open Go.RowKit
def Rb (w : World) (v : Value) (s : FlS) (O : Nat → Prop) : Prop :=
  ∃ fa sa va fc sc vc ar cnt, v = .agg #[.int .i64 s.size, .slice fa s.l0.length fc, .slice sa s.l1.length sc, .slice va ar.length vc, .int .i64 cnt, .int .i64 s.wr, .bool s.down] ∧ RV w (.slice fa s.l0.length fc) (.slice sa s.l1.length sc) (.slice va ar.length vc) s ar cnt ∧ (∀ x ∈ ar, x.1 ≤ 1000000) ∧ ∀ k, RSet (.slice fa s.l0.length fc) (.slice sa s.l1.length sc) (.slice va ar.length vc) k → O k
theorem rb_mk {w' : World} {O : Nat → Prop} {s' : FlS} {fv sv av : Value} {ar : List (Int × Int)} {cnt : Int} (hf : OwB w' fv s'.l0) (hg : OwB w' sv s'.l1) (ha : w'.ownsRow 0 89 2 av ar.length (Cr ar)) (hq : s'.q = qOf ar cnt) (c0 : 0 ≤ cnt) (cn : ar = [] → cnt = 0) (ok : s'.Ok) (h6 : ∀ x ∈ ar, x.1 ≤ 1000000) (hO : ∀ k, RSet fv sv av k → O k) {dn : Bool} (hdn : s'.down = dn := by rfl) :
    Rb w' (.agg #[.int .i64 s'.size, fv, sv, av, .int .i64 cnt, .int .i64 s'.wr, .bool dn]) s' O := by
  subst hdn
  obtain ⟨a1, c1, rfl⟩ := own_parts hf.1
  obtain ⟨a2, c2, rfl⟩ := own_parts hg.1
  obtain ⟨a3, c3, rfl⟩ := own_parts ha
  exact ⟨_, _, _, _, _, _, _, _, rfl, ⟨hf, hg, ha, hq, c0, cn, ok⟩, h6, hO⟩
theorem Rb.mono {w : World} {v : Value} {s : FlS} {O O' : Nat → Prop} (h : Rb w v s O) (hO : ∀ k, O k → O' k) : Rb w v s O' := by
  obtain ⟨fa, sa, va, fc, sc, vc, ar, cnt, h1, h2, h3, h4⟩ := h
  exact ⟨fa, sa, va, fc, sc, vc, ar, cnt, h1, h2, h3, fun k hk => hO k (h4 k hk)⟩
theorem Rb.keep {S : Nat → Prop} {w w' : World} {v : Value} {s : FlS} {O : Nat → Prop} (h : Rb w v s O) (hb : Buts S w w') (hd : ∀ k, O k → ¬ S k) : Rb w' v s O := by
  obtain ⟨fa, sa, va, fc, sc, vc, ar, cnt, h1, h2, h3, h4⟩ := h
  exact ⟨fa, sa, va, fc, sc, vc, ar, cnt, h1, h2.keep hb (fun k hk => hd k (h4 k hk)), h3, h4⟩
theorem Rb.later {w w' : World} {v : Value} {s : FlS} {O : Nat → Prop} (h : Rb w v s O) (hb : Below w.heap.size w w') : Rb w' v s O :=
  h.keep (Buts.of_below (S := fun _ => False) hb) (fun _ _ h => h)
def RC (old : Nat → Prop) (r : FlS × Int) (w : World) (e : Ending) (w' : World) : Prop :=
  ∃ v, e = .returned (.tuple #[v, .int .i64 r.2]) ∧ Rb w' v r.1 (fun k => old k ∨ w.heap.size ≤ k) ∧ Below w.heap.size w w'
theorem rc_same (fa sa va : Option Addr) (fc sc vc : Nat) (s : FlS) (ar : List (Int × Int)) (cnt : Int) (w : World) (h : RV w (.slice fa s.l0.length fc) (.slice sa s.l1.length sc) (.slice va ar.length vc) s ar cnt) (h6 : ∀ x ∈ ar, x.1 ≤ 1000000) (er : Int) {f : Nat} {args : Array Value} (hc : Calls Try.prog f args w fun e w' => e = .returned (.tuple #[.agg #[.int .i64 s.size, .slice fa s.l0.length fc, .slice sa s.l1.length sc, .slice va ar.length vc, .int .i64 cnt, .int .i64 s.wr, .bool s.down], .int .i64 er]) ∧ Below w.heap.size w w') :
    Calls Try.prog f args w (RC (RSet (.slice fa s.l0.length fc) (.slice sa s.l1.length sc) (.slice va ar.length vc)) (s, er) w) := by
  refine hc.mono ?_
  rintro e w' ⟨rfl, b⟩
  exact ⟨_, rfl, ⟨_, _, _, _, _, _, _, _, rfl, h.later b, h6, fun k hk => .inl hk⟩, b⟩
def StA (fa sa va : Option Addr) (fc sc vc : Nat) (s : FlS) (ar : List (Int × Int)) (cnt : Int) (w : World) : Prop :=
  ∃ cnt2 : Int, (∀ w1, Below w.heap.size w w1 → Calls Try.prog 58 #[.agg #[.int .i64 s.size, .slice fa s.l0.length fc, .slice sa s.l1.length sc, .slice va ar.length vc, .int .i64 cnt, .int .i64 s.wr, .bool s.down]] w1 fun e w' => e = .returned (.tuple #[.agg #[.int .i64 s.size, .slice fa s.l0.length fc, .slice sa s.l1.length sc, .slice va ar.length vc, .int .i64 cnt2, .int .i64 ((s.wr : Int) + 1), .bool false], .bool false, .int .i64 0]) ∧ Below w1.heap.size w1 w') ∧ s.write.1.q = qOf ar cnt2 ∧ 0 ≤ cnt2 ∧ (ar = [] → cnt2 = 0) ∧ s.write.2.2 = false
def StB (fa sa va : Option Addr) (fc sc vc : Nat) (s : FlS) (ar : List (Int × Int)) (cnt : Int) (w : World) : Prop :=
  ∃ (K : Nat) (t : List (Int × Int)), K ≤ 1048576 ∧ (∀ w1, Below w.heap.size w w1 → Calls Try.prog 58 #[.agg #[.int .i64 s.size, .slice fa s.l0.length fc, .slice sa s.l1.length sc, .slice va ar.length vc, .int .i64 cnt, .int .i64 s.wr, .bool s.down]] w1 fun e w' => ∃ va2 vc2, e = .returned (.tuple #[.agg #[.int .i64 s.size, .slice fa s.l0.length fc, .slice sa s.l1.length sc, .slice va2 t.length vc2, .int .i64 0, .int .i64 ((s.wr : Int) + 1), .bool true], .bool true, .int .i64 (K : Nat)]) ∧ w'.ownsRow w1.heap.size 89 2 (.slice va2 t.length vc2) t.length (Cr t) ∧ Below w1.heap.size w1 w') ∧ s.write.1.q = qOf t 0 ∧ s.write.2.1 = K ∧ s.write.2.2 = true ∧ ∀ x ∈ t, x.1 ≤ 1000000
theorem qOf_zero (t : List (Int × Int)) : qOf t 0 = t := by
  cases t with
  | nil => rfl
  | cons y r => unfold qOf; simp
theorem struck_any (fa sa va : Option Addr) (fc sc vc : Nat) (s : FlS) (ar : List (Int × Int)) (cnt : Int) (w : World) (h : RV w (.slice fa s.l0.length fc) (.slice sa s.l1.length sc) (.slice va ar.length vc) s ar cnt) (h6 : ∀ x ∈ ar, x.1 ≤ 1000000) (hdn : s.down = false) (hw : s.wr ≤ 1000000000) : StA fa sa va fc sc vc s ar cnt w ∨ StB fa sa va fc sc vc s ar cnt w := by
  have hq := h.q
  have h0 := h.c0
  obtain ⟨c, rfl⟩ : ∃ c : Nat, cnt = c := ⟨cnt.toNat, by omega⟩
  cases har : ar with
  | nil =>
    left
    subst har
    have hc : (c : Int) = 0 := h.cn rfl
    refine ⟨0, fun w1 b1 => ?_, ?_, Int.le_refl _, fun _ => rfl, ?_⟩
    · have := rstruck_nil fa sa va fc sc vc s c w1 hw
      rw [hdn]
      rw [hc] at this ⊢
      exact this
    · show (cntQ s.q).1 = _
      rw [hq]; rfl
    · show (cntQ s.q).2.2 = _
      rw [hq]; rfl
  | cons x t =>
    subst har
    have hx6 := h6 x (List.mem_cons_self ..)
    have hqb := h.ok.qb (x.1 - c, x.2) (by rw [hq]; exact List.mem_cons_self ..)
    simp only at hqb
    have hlen : t.length ≤ 63 := by have := h.ok.ql; rw [hq] at this; simp only [qOf, List.length_cons] at this; omega
    have hal := h.a
    obtain ⟨g, cap, hv⟩ := own_some hal (by simp)
    simp only [Value.slice.injEq] at hv
    obtain ⟨rfl, -, rfl⟩ := hv
    by_cases hlt : (c : Int) + 1 < x.1
    · left
      refine ⟨(c : Int) + 1, fun w1 b1 => ?_, ?_, by omega, (fun h => by cases h), ?_⟩
      · have hc0 := (arm_cells hal 0 x rfl rfl).1
        simp only [Nat.zero_mul] at hc0
        have := rstruck_wait fa sa fc sc vc s g t.length x c w1 hlt hx6 ((b1.cell (p := ⟨g, 0, none⟩) (World.block_lt_of_cell? w _ hc0)).trans hc0) hw
        rw [hdn]
        exact this
      · show (cntQ s.q).1 = _
        rw [hq]
        simp only [qOf, cntQ]
        rw [if_pos (by omega)]
        simp only [List.cons.injEq, Prod.mk.injEq, and_true]
        omega
      · show (cntQ s.q).2.2 = _
        rw [hq]
        simp only [qOf, cntQ]
        rw [if_pos (by omega)]
    · right
      obtain ⟨K, hK⟩ : ∃ K : Nat, x.2 = K := ⟨x.2.toNat, by omega⟩
      refine ⟨K, t, by omega, fun w1 b1 => ?_, ?_, ?_, ?_, fun y hy => h6 y (List.mem_cons_of_mem _ hy)⟩
      · have := rstruck_cut fa sa fc sc vc s g t.length x t c w1 hlt (by omega) rfl (by omega) (own_laterG hal b1) hw
        rw [hdn]
        rw [hK] at this
        exact this
      · show (cntQ s.q).1 = _
        rw [hq, qOf_zero]
        simp only [qOf, cntQ]
        rw [if_neg (by omega)]
      · show (cntQ s.q).2.1 = _
        rw [hq]
        simp only [qOf, cntQ]
        rw [if_neg (by omega)]
        exact hK
      · show (cntQ s.q).2.2 = _
        rw [hq]
        simp only [qOf, cntQ]
        rw [if_neg (by omega)]
theorem rappend_any (fa sa va : Option Addr) (fc sc vc : Nat) (s : FlS) (ar : List (Int × Int)) (cnt : Int) (w : World) (h : RV w (.slice fa s.l0.length fc) (.slice sa s.l1.length sc) (.slice va ar.length vc) s ar cnt) (h6 : ∀ x ∈ ar, x.1 ≤ 1000000) (bank : Int) (d : Sl) (hd : d.Ok w) (hdn : d.n ≤ 140737488351232) (hw : s.wr ≤ 1000000000) (hok : (s.append bank d.l).1.Ok) :
    Calls Try.prog 36 #[.agg #[.int .i64 s.size, .slice fa s.l0.length fc, .slice sa s.l1.length sc, .slice va ar.length vc, .int .i64 cnt, .int .i64 s.wr, .bool s.down], .int .i64 bank, d.v] w (RC (RSet (.slice fa s.l0.length fc) (.slice sa s.l1.length sc) (.slice va ar.length vc)) (s.append bank d.l) w) := by
  by_cases hr : s.ref bank = 0
  · obtain ⟨hb, hdw⟩ := ref_zero hr
    rcases hb with rfl | rfl
    · by_cases hf : s.size < s.l0.length + d.n
      · have hP : s.append 0 d.l = (s, 122) := by
          unfold FlS.append
          rw [if_neg (by omega), if_pos (by show s.size < s.l0.length + _; rw [hd.len]; exact hf)]
        rw [hP]
        exact rc_same fa sa va fc sc vc s ar cnt w h h6 122 (rappend_full_0 fa sa va fc sc vc s ar cnt w h d hd hr hf hdn)
      · have hz : ¬ s.size < (s.bk 0).length + d.l.length := by show ¬ s.size < s.l0.length + _; rw [hd.len]; exact hf
        rcases struck_any fa sa va fc sc vc s ar cnt w h h6 hdw hw with ⟨c2, hst, hq2, hc2, hn2, hdd⟩ | ⟨K, t, hK, hst, hq2, hkk, hdd, ht6⟩
        · have hP : s.append 0 d.l = ({ s.write.1 with l0 := s.l0 ++ d.l }, 0) := by
            unfold FlS.append
            rw [if_neg (by omega), if_neg hz, hdd]; rfl
          rw [hP] at hok ⊢
          refine (rappend_ok_0 fa sa va fc sc vc s ar cnt w h d hd hr (by omega) va ar.length vc c2 _ false hst).mono ?_
          rintro e w' ⟨na, nn, nc, rfl, ho, hn, bw⟩
          have hdd' : s.write.1.down = false := hdd
          refine ⟨_, rfl, ?_, bw⟩
          exact rb_mk (O := fun k => (RSet (.slice fa s.l0.length fc) (.slice sa s.l1.length sc) (.slice va ar.length vc)) k ∨ w.heap.size ≤ k) (s' := { s.write.1 with l0 := s.l0 ++ d.l }) ho (h.g.later bw) (own_laterG h.a bw) hq2 hc2 hn2 hok h6 (fun k hk => hk.elim (fun hk => .inr (hn k hk)) (fun hk => hk.elim (fun hk => .inl (.inr (.inl hk))) (fun hk => .inl (.inr (.inr hk))))) hdd'
        · have hP : s.append 0 d.l = ({ s.write.1 with l0 := s.l0 ++ d.l.take K }, 121) := by
            unfold FlS.append
            rw [if_neg (by omega), if_neg hz, hdd, hkk]; rfl
          rw [hP] at hok ⊢
          refine (rappend_cut_0 fa sa va fc sc vc s ar cnt w h d hd hr (by omega) t.length t 0 _ true K hK hst).mono ?_
          rintro e w' ⟨va2, vc2, na, nn, nc, rfl, ho, hn, hqr, bw⟩
          have hdd' : s.write.1.down = true := hdd
          refine ⟨_, rfl, ?_, bw⟩
          exact rb_mk (O := fun k => (RSet (.slice fa s.l0.length fc) (.slice sa s.l1.length sc) (.slice va ar.length vc)) k ∨ w.heap.size ≤ k) (s' := { s.write.1 with l0 := s.l0 ++ d.l.take K }) ho (h.g.later bw) (own_mono hqr (Nat.zero_le _)) hq2 (Int.le_refl _) (fun _ => rfl) hok ht6 (fun k hk => hk.elim (fun hk => .inr (hn k hk)) (fun hk => hk.elim (fun hk => .inl (.inr (.inl hk))) (fun hk => .inr (hqr.lt k hk).1))) hdd'
    · by_cases hf : s.size < s.l1.length + d.n
      · have hP : s.append 1 d.l = (s, 122) := by
          unfold FlS.append
          rw [if_neg (by omega), if_pos (by show s.size < s.l1.length + _; rw [hd.len]; exact hf)]
        rw [hP]
        exact rc_same fa sa va fc sc vc s ar cnt w h h6 122 (rappend_full_1 fa sa va fc sc vc s ar cnt w h d hd hr hf hdn)
      · have hz : ¬ s.size < (s.bk 1).length + d.l.length := by show ¬ s.size < s.l1.length + _; rw [hd.len]; exact hf
        rcases struck_any fa sa va fc sc vc s ar cnt w h h6 hdw hw with ⟨c2, hst, hq2, hc2, hn2, hdd⟩ | ⟨K, t, hK, hst, hq2, hkk, hdd, ht6⟩
        · have hP : s.append 1 d.l = ({ s.write.1 with l1 := s.l1 ++ d.l }, 0) := by
            unfold FlS.append
            rw [if_neg (by omega), if_neg hz, hdd]; rfl
          rw [hP] at hok ⊢
          refine (rappend_ok_1 fa sa va fc sc vc s ar cnt w h d hd hr (by omega) va ar.length vc c2 _ false hst).mono ?_
          rintro e w' ⟨na, nn, nc, rfl, ho, hn, bw⟩
          have hdd' : s.write.1.down = false := hdd
          refine ⟨_, rfl, ?_, bw⟩
          exact rb_mk (O := fun k => (RSet (.slice fa s.l0.length fc) (.slice sa s.l1.length sc) (.slice va ar.length vc)) k ∨ w.heap.size ≤ k) (s' := { s.write.1 with l1 := s.l1 ++ d.l }) (h.f.later bw) ho (own_laterG h.a bw) hq2 hc2 hn2 hok h6 (fun k hk => hk.elim (fun hk => .inl (.inl hk)) (fun hk => hk.elim (fun hk => .inr (hn k hk)) (fun hk => .inl (.inr (.inr hk))))) hdd'
        · have hP : s.append 1 d.l = ({ s.write.1 with l1 := s.l1 ++ d.l.take K }, 121) := by
            unfold FlS.append
            rw [if_neg (by omega), if_neg hz, hdd, hkk]; rfl
          rw [hP] at hok ⊢
          refine (rappend_cut_1 fa sa va fc sc vc s ar cnt w h d hd hr (by omega) t.length t 0 _ true K hK hst).mono ?_
          rintro e w' ⟨va2, vc2, na, nn, nc, rfl, ho, hn, hqr, bw⟩
          have hdd' : s.write.1.down = true := hdd
          refine ⟨_, rfl, ?_, bw⟩
          exact rb_mk (O := fun k => (RSet (.slice fa s.l0.length fc) (.slice sa s.l1.length sc) (.slice va ar.length vc)) k ∨ w.heap.size ≤ k) (s' := { s.write.1 with l1 := s.l1 ++ d.l.take K }) (h.f.later bw) ho (own_mono hqr (Nat.zero_le _)) hq2 (Int.le_refl _) (fun _ => rfl) hok ht6 (fun k hk => hk.elim (fun hk => .inl (.inl hk)) (fun hk => hk.elim (fun hk => .inr (hn k hk)) (fun hk => .inr (hqr.lt k hk).1))) hdd'
  · have hP : s.append bank d.l = (s, s.ref bank) := by
      unfold FlS.append
      rw [if_pos hr]
    rw [hP]
    exact rc_same fa sa va fc sc vc s ar cnt w h h6 _ (rappend_no fa sa va fc sc vc s ar cnt w h bank d hr)
theorem rerase_any (fa sa va : Option Addr) (fc sc vc : Nat) (s : FlS) (ar : List (Int × Int)) (cnt : Int) (w : World) (h : RV w (.slice fa s.l0.length fc) (.slice sa s.l1.length sc) (.slice va ar.length vc) s ar cnt) (h6 : ∀ x ∈ ar, x.1 ≤ 1000000) (bank : Int) (hw : s.wr ≤ 1000000000) (hok : (s.erase bank).1.Ok) :
    Calls Try.prog 57 #[.agg #[.int .i64 s.size, .slice fa s.l0.length fc, .slice sa s.l1.length sc, .slice va ar.length vc, .int .i64 cnt, .int .i64 s.wr, .bool s.down], .int .i64 bank] w (RC (RSet (.slice fa s.l0.length fc) (.slice sa s.l1.length sc) (.slice va ar.length vc)) (s.erase bank) w) := by
  by_cases hr : s.ref bank = 0
  · obtain ⟨hb, hdw⟩ := ref_zero hr
    rcases hb with rfl | rfl
    · rcases struck_any fa sa va fc sc vc s ar cnt w h h6 hdw hw with ⟨c2, hst, hq2, hc2, hn2, hdd⟩ | ⟨K, t, hK, hst, hq2, hkk, hdd, ht6⟩
      · have hP : s.erase 0 = ({ s.write.1 with l0 := [] }, 0) := by
          unfold FlS.erase
          rw [if_neg (by omega), hdd]; rfl
        rw [hP] at hok ⊢
        refine (rerase_ok_0 fa sa va fc sc vc s ar cnt w h hr va ar.length vc c2 _ false 0 hst).mono ?_
        rintro e w' ⟨rfl, bw⟩
        have hdd' : s.write.1.down = false := hdd
        refine ⟨_, rfl, ?_, bw⟩
        exact rb_mk (O := fun k => (RSet (.slice fa s.l0.length fc) (.slice sa s.l1.length sc) (.slice va ar.length vc)) k ∨ w.heap.size ≤ k) (s' := { s.write.1 with l0 := [] }) (OwB.nil w') (h.g.later bw) (own_laterG h.a bw) hq2 hc2 hn2 hok h6 (fun k hk => hk.elim (fun hk => by simp [Value.ownBlock] at hk) (fun hk => hk.elim (fun hk => .inl (.inr (.inl hk))) (fun hk => .inl (.inr (.inr hk))))) hdd'
      · by_cases hle : s.l0.length ≤ K
        · have hP : s.erase 0 = ({ s.write.1 with l0 := [] }, 121) := by
            unfold FlS.erase
            rw [if_neg (by omega), hdd, hkk, if_pos rfl, if_pos (by exact hle)]; rfl
          rw [hP] at hok ⊢
          refine (rerase_all_0 fa sa va fc sc vc s ar cnt w h hr t.length t 0 _ true K (by omega) hst).mono ?_
          rintro e w' ⟨va2, vc2, rfl, hqr, bw⟩
          have hdd' : s.write.1.down = true := hdd
          refine ⟨_, rfl, ?_, bw⟩
          exact rb_mk (O := fun k => (RSet (.slice fa s.l0.length fc) (.slice sa s.l1.length sc) (.slice va ar.length vc)) k ∨ w.heap.size ≤ k) (s' := { s.write.1 with l0 := [] }) (OwB.nil w') (h.g.later bw) (own_mono hqr (Nat.zero_le _)) hq2 (Int.le_refl _) (fun _ => rfl) hok ht6 (fun k hk => hk.elim (fun hk => by simp [Value.ownBlock] at hk) (fun hk => hk.elim (fun hk => .inl (.inr (.inl hk))) (fun hk => .inr (hqr.lt k hk).1))) hdd'
        · have hP : s.erase 0 = ({ s.write.1 with l0 := tearL s.l0 K }, 121) := by
            unfold FlS.erase
            rw [if_neg (by omega), hdd, hkk, if_pos rfl, if_neg (by exact hle)]; rfl
          rw [hP] at hok ⊢
          refine (rerase_cut_0 fa sa va fc sc vc s ar cnt w h hr t.length t 0 _ true K (by omega) hst).mono ?_
          rintro e w' ⟨va2, vc2, na, nn, nc, rfl, ho, hn, hqr, bw⟩
          have hdd' : s.write.1.down = true := hdd
          refine ⟨_, rfl, ?_, bw⟩
          exact rb_mk (O := fun k => (RSet (.slice fa s.l0.length fc) (.slice sa s.l1.length sc) (.slice va ar.length vc)) k ∨ w.heap.size ≤ k) (s' := { s.write.1 with l0 := tearL s.l0 K }) ho (h.g.later bw) (own_mono hqr (Nat.zero_le _)) hq2 (Int.le_refl _) (fun _ => rfl) hok ht6 (fun k hk => hk.elim (fun hk => .inr (hn k hk)) (fun hk => hk.elim (fun hk => .inl (.inr (.inl hk))) (fun hk => .inr (hqr.lt k hk).1))) hdd'
    · rcases struck_any fa sa va fc sc vc s ar cnt w h h6 hdw hw with ⟨c2, hst, hq2, hc2, hn2, hdd⟩ | ⟨K, t, hK, hst, hq2, hkk, hdd, ht6⟩
      · have hP : s.erase 1 = ({ s.write.1 with l1 := [] }, 0) := by
          unfold FlS.erase
          rw [if_neg (by omega), hdd]; rfl
        rw [hP] at hok ⊢
        refine (rerase_ok_1 fa sa va fc sc vc s ar cnt w h hr va ar.length vc c2 _ false 0 hst).mono ?_
        rintro e w' ⟨rfl, bw⟩
        have hdd' : s.write.1.down = false := hdd
        refine ⟨_, rfl, ?_, bw⟩
        exact rb_mk (O := fun k => (RSet (.slice fa s.l0.length fc) (.slice sa s.l1.length sc) (.slice va ar.length vc)) k ∨ w.heap.size ≤ k) (s' := { s.write.1 with l1 := [] }) (h.f.later bw) (OwB.nil w') (own_laterG h.a bw) hq2 hc2 hn2 hok h6 (fun k hk => hk.elim (fun hk => .inl (.inl hk)) (fun hk => hk.elim (fun hk => by simp [Value.ownBlock] at hk) (fun hk => .inl (.inr (.inr hk))))) hdd'
      · by_cases hle : s.l1.length ≤ K
        · have hP : s.erase 1 = ({ s.write.1 with l1 := [] }, 121) := by
            unfold FlS.erase
            rw [if_neg (by omega), hdd, hkk, if_pos rfl, if_pos (by exact hle)]; rfl
          rw [hP] at hok ⊢
          refine (rerase_all_1 fa sa va fc sc vc s ar cnt w h hr t.length t 0 _ true K (by omega) hst).mono ?_
          rintro e w' ⟨va2, vc2, rfl, hqr, bw⟩
          have hdd' : s.write.1.down = true := hdd
          refine ⟨_, rfl, ?_, bw⟩
          exact rb_mk (O := fun k => (RSet (.slice fa s.l0.length fc) (.slice sa s.l1.length sc) (.slice va ar.length vc)) k ∨ w.heap.size ≤ k) (s' := { s.write.1 with l1 := [] }) (h.f.later bw) (OwB.nil w') (own_mono hqr (Nat.zero_le _)) hq2 (Int.le_refl _) (fun _ => rfl) hok ht6 (fun k hk => hk.elim (fun hk => .inl (.inl hk)) (fun hk => hk.elim (fun hk => by simp [Value.ownBlock] at hk) (fun hk => .inr (hqr.lt k hk).1))) hdd'
        · have hP : s.erase 1 = ({ s.write.1 with l1 := tearL s.l1 K }, 121) := by
            unfold FlS.erase
            rw [if_neg (by omega), hdd, hkk, if_pos rfl, if_neg (by exact hle)]; rfl
          rw [hP] at hok ⊢
          refine (rerase_cut_1 fa sa va fc sc vc s ar cnt w h hr t.length t 0 _ true K (by omega) hst).mono ?_
          rintro e w' ⟨va2, vc2, na, nn, nc, rfl, ho, hn, hqr, bw⟩
          have hdd' : s.write.1.down = true := hdd
          refine ⟨_, rfl, ?_, bw⟩
          exact rb_mk (O := fun k => (RSet (.slice fa s.l0.length fc) (.slice sa s.l1.length sc) (.slice va ar.length vc)) k ∨ w.heap.size ≤ k) (s' := { s.write.1 with l1 := tearL s.l1 K }) (h.f.later bw) ho (own_mono hqr (Nat.zero_le _)) hq2 (Int.le_refl _) (fun _ => rfl) hok ht6 (fun k hk => hk.elim (fun hk => .inl (.inl hk)) (fun hk => hk.elim (fun hk => .inr (hn k hk)) (fun hk => .inr (hqr.lt k hk).1))) hdd'
  · have hP : s.erase bank = (s, s.ref bank) := by
      unfold FlS.erase
      rw [if_pos hr]
    rw [hP]
    exact rc_same fa sa va fc sc vc s ar cnt w h h6 _ (rerase_no fa sa va fc sc vc s ar cnt w h bank hr)
theorem rarm_any (fa sa va : Option Addr) (fc sc vc : Nat) (s : FlS) (ar : List (Int × Int)) (cnt : Int) (w : World) (h : RV w (.slice fa s.l0.length fc) (.slice sa s.l1.length sc) (.slice va ar.length vc) s ar cnt) (h6 : ∀ x ∈ ar, x.1 ≤ 1000000) (x y : Int) (hok : (s.arm x y).1.Ok) :
    Calls Try.prog 19 #[.agg #[.int .i64 s.size, .slice fa s.l0.length fc, .slice sa s.l1.length sc, .slice va ar.length vc, .int .i64 cnt, .int .i64 s.wr, .bool s.down], .int .i64 x, .int .i64 y] w (RC (RSet (.slice fa s.l0.length fc) (.slice sa s.l1.length sc) (.slice va ar.length vc)) (s.arm x y) w) := by
  by_cases hb : x < 1 ∨ 1000000 < x ∨ y < 0 ∨ 1048576 < y
  · have hP : s.arm x y = (s, 2) := by unfold FlS.arm; rw [if_pos hb]
    rw [hP]
    exact rc_same fa sa va fc sc vc s ar cnt w h h6 2 (rarm_bad fa sa va fc sc vc s ar cnt w h x y hb)
  · have hql : s.q.length = ar.length := by rw [h.q]; cases ar <;> rfl
    by_cases hl : 64 ≤ ar.length
    · have hP : s.arm x y = (s, 1) := by unfold FlS.arm; rw [if_neg hb, if_pos (by omega)]
      rw [hP]
      exact rc_same fa sa va fc sc vc s ar cnt w h h6 1 (rarm_full fa sa va fc sc vc s ar cnt w h x y (by omega) (by omega) (by omega) (by omega) (by omega))
    · have hP : s.arm x y = ({ s with q := s.q ++ [(x, y)] }, 0) := by unfold FlS.arm; rw [if_neg hb, if_neg (by omega)]
      rw [hP] at hok ⊢
      refine (rarm_ok fa sa va fc sc vc s ar.length ar cnt w rfl (by omega) h.a x y (by omega) (by omega) (by omega) (by omega)).mono ?_
      rintro e w' ⟨va2, vc2, rfl, hqr, bw⟩
      refine ⟨_, rfl, ?_, bw⟩
      refine rb_mk (O := fun k => (RSet (.slice fa s.l0.length fc) (.slice sa s.l1.length sc) (.slice va ar.length vc)) k ∨ w.heap.size ≤ k) (s' := { s with q := s.q ++ [(x, y)] }) (ar := ar ++ [(x, y)]) (h.f.later bw) (h.g.later bw) (by rw [List.length_append]; exact own_mono hqr (Nat.zero_le _)) ?_ h.c0 (fun e => by simp at e) hok (fun z hz => by rcases List.mem_append.1 hz with hz | hz; exact h6 z hz; simp at hz; subst hz; show x ≤ _; omega) (fun k hk => hk.elim (fun hk => .inl (.inl hk)) (fun hk => hk.elim (fun hk => .inl (.inr (.inl hk))) (fun hk => .inr (hqr.lt k hk).1)))
      show s.q ++ [(x, y)] = _
      rw [h.q]
      cases har : ar with
      | nil => have := h.cn har; subst this; rw [qOf_zero, qOf_zero]
      | cons z r => rfl
theorem rrestart_any (fa sa va : Option Addr) (fc sc vc : Nat) (s : FlS) (ar : List (Int × Int)) (cnt : Int) (w : World) (h : RV w (.slice fa s.l0.length fc) (.slice sa s.l1.length sc) (.slice va ar.length vc) s ar cnt) (h6 : ∀ x ∈ ar, x.1 ≤ 1000000) (hok : s.restart.1.Ok) :
    Calls Try.prog 21 #[.agg #[.int .i64 s.size, .slice fa s.l0.length fc, .slice sa s.l1.length sc, .slice va ar.length vc, .int .i64 cnt, .int .i64 s.wr, .bool s.down]] w (RC (RSet (.slice fa s.l0.length fc) (.slice sa s.l1.length sc) (.slice va ar.length vc)) s.restart w) := by
  cases hd : s.down with
  | false =>
    have hP : s.restart = (s, 123) := by unfold FlS.restart; rw [hd]; rfl
    rw [hP]
    have := rc_same fa sa va fc sc vc s ar cnt w h h6 123 (f := 21) (args := #[.agg #[.int .i64 s.size, .slice fa s.l0.length fc, .slice sa s.l1.length sc, .slice va ar.length vc, .int .i64 cnt, .int .i64 s.wr, .bool s.down]]) (by rw [hd]; exact rrestart_up fa sa va s.l0.length fc s.l1.length sc ar.length vc s.size cnt s.wr w)
    rw [hd] at this
    exact this
  | true =>
    have hP : s.restart = ({ s with down := false }, 0) := by unfold FlS.restart; rw [hd]; rfl
    rw [hP] at hok ⊢
    refine (rrestart_ok fa sa va s.l0.length fc s.l1.length sc ar.length vc s.size cnt s.wr w).mono ?_
    rintro e w' ⟨rfl, bw⟩
    exact ⟨_, rfl, rb_mk (O := fun k => (RSet (.slice fa s.l0.length fc) (.slice sa s.l1.length sc) (.slice va ar.length vc)) k ∨ w.heap.size ≤ k) (s' := { s with down := false }) (h.f.later bw) (h.g.later bw) (own_laterG h.a bw) h.q h.c0 h.cn hok h6 (fun k hk => .inl hk), bw⟩
def sN (x : Nat) : Nat := if x % 2 = 1 then x / 2 ^^^ 3988292384 else x / 2
def sNs : Nat → Nat → Nat
  | 0, x => x
  | n + 1, x => sNs n (sN x)
theorem xor_div2 (x y : Nat) : (x ^^^ y) / 2 = x / 2 ^^^ y / 2 := by
  have h := Nat.shiftRight_xor_distrib (a := x) (b := y) (i := 1)
  simpa [Nat.shiftRight_eq_div_pow] using h
theorem xor_mod2 (x y : Nat) : (x ^^^ y) % 2 = (x + y) % 2 := by
  have h : (x ^^^ y).testBit 0 = (x.testBit 0 ^^ y.testBit 0) := Nat.testBit_xor ..
  simp only [Nat.testBit_zero] at h
  have h1 : (x ^^^ y) % 2 = 0 ∨ (x ^^^ y) % 2 = 1 := by omega
  have h2 : x % 2 = 0 ∨ x % 2 = 1 := by omega
  have h3 : y % 2 = 0 ∨ y % 2 = 1 := by omega
  rw [Nat.add_mod]
  rcases h1 with h1 | h1 <;> rcases h2 with h2 | h2 <;> rcases h3 with h3 | h3 <;> simp [h1, h2, h3] at h ⊢
theorem xor_l (a b c : Nat) : a ^^^ (b ^^^ c) = b ^^^ (a ^^^ c) := by rw [← Nat.xor_assoc, Nat.xor_comm a b, Nat.xor_assoc]
theorem sN_xor (x y : Nat) : sN (x ^^^ y) = sN x ^^^ sN y := by
  unfold sN
  rw [xor_div2, xor_mod2]
  have hx : x % 2 = 0 ∨ x % 2 = 1 := by omega
  have hy : y % 2 = 0 ∨ y % 2 = 1 := by omega
  rcases hx with hx | hx <;> rcases hy with hy | hy
  · rw [if_neg (by omega), if_neg (by omega), if_neg (by omega)]
  · rw [if_pos (by omega), if_neg (by omega), if_pos (by omega), Nat.xor_assoc]
  · rw [if_pos (by omega), if_pos (by omega), if_neg (by omega), Nat.xor_assoc, Nat.xor_comm (y / 2), ← Nat.xor_assoc]
  · rw [if_neg (by omega), if_pos (by omega), if_pos (by omega)]
    have e : (x / 2 ^^^ 3988292384) ^^^ (y / 2 ^^^ 3988292384) = (x / 2 ^^^ y / 2) ^^^ (3988292384 ^^^ 3988292384) := by
      rw [Nat.xor_assoc, Nat.xor_assoc, xor_l 3988292384 (y / 2)]
    rw [e, Nat.xor_self, Nat.xor_zero]
theorem sNs_add (m n : Nat) : ∀ x, sNs (m + n) x = sNs n (sNs m x) := by
  induction m with
  | zero => intro x; rw [Nat.zero_add]; rfl
  | succ m ih => intro x; rw [Nat.succ_add]; exact ih (sN x)
theorem sN_dbl (x : Nat) : sN (2 * x) = x := by unfold sN; rw [if_neg (by omega)]; omega
theorem sN_lt {x : Nat} (h : x < 4294967296) : sN x < 4294967296 := by
  unfold sN
  split
  · exact Nat.xor_lt_two_pow (n := 32) (by omega) (by decide)
  · omega
theorem sNs_lt (n : Nat) : ∀ {x}, x < 4294967296 → sNs n x < 4294967296 := by
  induction n with
  | zero => intro x h; exact h
  | succ n ih => intro x h; exact ih (sN_lt h)
def regN : Nat → List Int → Nat
  | r, [] => r
  | r, c :: l => regN (sNs 8 (r ^^^ c.toNat)) l
def crcN (l : List Int) : Nat := regN 4294967295 l ^^^ 4294967295
def crc (l : List Int) : Int := (crcN l : Int)
theorem regN_append (a : List Int) : ∀ r b, regN r (a ++ b) = regN (regN r a) b := by
  induction a with
  | nil => intro r b; rfl
  | cons c a ih => intro r b; exact ih _ b
theorem regN_lt (l : List Int) : IsB l → ∀ {r}, r < 4294967296 → regN r l < 4294967296 := by
  induction l with
  | nil => intro _ r h; exact h
  | cons c l ih =>
    intro hB r h
    have hc := hB c (by simp)
    exact ih (fun x hx => hB x (by simp [hx])) (sNs_lt 8 (Nat.xor_lt_two_pow (n := 32) h (by omega)))
theorem crcN_lt {l : List Int} (h : IsB l) : crcN l < 4294967296 := Nat.xor_lt_two_pow (n := 32) (regN_lt l h (by decide)) (by decide)
theorem crc_bd {l : List Int} (h : IsB l) : 0 ≤ crc l ∧ crc l < 4294967296 := by
  have := crcN_lt h; unfold crc; omega
def lvN : List Int → Nat
  | [] => 0
  | c :: l => c.toNat + 256 * lvN l
theorem IsB.tail {c : Int} {l : List Int} (h : IsB (c :: l)) : IsB l := fun x hx => h x (by simp [hx])
theorem IsB.head {c : Int} {l : List Int} (h : IsB (c :: l)) : 0 ≤ c ∧ c ≤ 255 := h c (by simp)
theorem lvN_leV : ∀ (l : List Int), IsB l → (lvN l : Int) = leV l
  | [], _ => rfl
  | c :: l, h => by
    have := lvN_leV l h.tail
    have := h.head
    unfold lvN leV
    omega
theorem add_xor (k a b : Nat) (h : a < 2 ^ k) : a + 2 ^ k * b = a ^^^ 2 ^ k * b := by
  rw [Nat.add_comm, Nat.two_pow_add_eq_or_of_lt h, Nat.xor_comm]
  apply Nat.eq_of_testBit_eq
  intro i
  rw [Nat.testBit_or, Nat.testBit_xor, Nat.testBit_two_pow_mul]
  by_cases hi : k ≤ i
  · rw [Nat.testBit_lt_two_pow (Nat.lt_of_lt_of_le h (Nat.pow_le_pow_right (by decide) hi))]; simp
  · simp [hi]
theorem lvN_inj : ∀ (a b : List Int), a.length = b.length → IsB a → IsB b → lvN a = lvN b → a = b
  | [], [], _, _, _, _ => rfl
  | c :: a, d :: b, hl, ha, hb, h => by
    have h1 := ha.head
    have h2 := hb.head
    unfold lvN at h
    have := lvN_inj a b (by simpa using hl) ha.tail hb.tail (by omega)
    rw [this, show c = d by omega]
def xor3 : List Int → List Int → List Int → List Int
  | a :: l, b :: m, c :: n => ((a.toNat ^^^ b.toNat ^^^ c.toNat : Nat) : Int) :: xor3 l m n
  | _, _, _ => []
end Go.Proofs.Ytppmgfkpfamabaa
