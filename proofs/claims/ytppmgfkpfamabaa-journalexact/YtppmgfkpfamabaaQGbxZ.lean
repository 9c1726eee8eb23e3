import Derived.Test.YtppmgfkpfamabaaQOnB
import Derived.Test.YtppmgfkpfamabaaQOnC
import Derived.Test.YtppmgfkpfamabaaQOnD
import Derived.Deep.DeepCutAuto
import Derived.Deep.QuietTactic
import Derived.BigQuiet
import Derived.Test.YtppmgfkpfamabaaQGbnZ
import Derived.Test.YtppmgfkpfamabaaQGbsZ
import Derived.Test.YtppmgfkpfamabaaQGbmZ
import Derived.Test.YtppmgfkpfamabaaQJnC
set_option linter.unusedSimpArgs false
set_option linter.unusedVariables false
namespace Go.Proofs.Ytppmgfkpfamabaa
open Go.RowKit
theorem qopen_any (O : Nat → Prop) (s : FlS) (c : List Value) (w : World) (h : Rq O s c w) (hw : s.wr + 3 ≤ 1000000000) :
    Calls Try.prog 38 #[aV c] w (QO O s w) := by
  cases hu : s.down with
  | true => exact qopen_down O s c w h hu
  | false =>
    by_cases hz : s.pickC.e = 0
    · exact qopen_blank O s c w h hu hz
    · by_cases hlt : (look s.l0).e < (look s.l1).e
      · by_cases h0 : (look s.l0).e = 0
        · exact qopen_f1 O s c w h hu hz hw hlt h0
        · exact qopen_t1 O s c w h hu hz hw hlt h0
      · exact qopen_t0 O s c w h hu hz hw hlt
def TyJ (t : TypeId) : Bool := t == 50 || t == 5 || t == 87 || t == 99 || t == 89 || t == 22
structure Sam (B : Nat) (w w' : World) : Prop where
  size : w.heap.size ≤ w'.heap.size
  ty : ∀ k, k < w.heap.size → ∀ cs t fr, w.heap[k]? = some (.cells cs t fr) → TyJ t = true → w'.heap[k]? = w.heap[k]?
  lo : ∀ k, k < B → k < w.heap.size → w'.heap[k]? = w.heap[k]?
def NoP (rows : List Row) : Bool := rows.all fun p => !TyJ p.2.1
def wcut (B : Nat) (w : World) : World := { w with heap := w.heap.extract 0 B }
theorem wcut_size {B : Nat} {w : World} (h : B ≤ w.heap.size) : (wcut B w).heap.size = B := by simp [wcut]; omega
theorem wcut_at {B : Nat} {w : World} {k : Nat} (h : B ≤ w.heap.size) (hk : k < B) : (wcut B w).heap[k]? = w.heap[k]? := by
  simp only [wcut]
  rw [Array.getElem?_extract]
  simp
  omega
theorem below_wcut {B : Nat} {w : World} (h : B ≤ w.heap.size) : Below (wcut B w).heap.size (wcut B w) w :=
  ⟨rfl, rfl, rfl, by rw [wcut_size h]; exact h, fun k hk => by rw [wcut_size h] at hk; exact (wcut_at h hk).symm⟩
theorem Hs17.cutB {B : Nat} {w : World} {K : World → Prop} (h : B ≤ w.heap.size) (hK : ∀ w', Sam B w w' → K w') : Hs17 (wcut B w) [] K w :=
  ⟨by simp, (fun p hp => by cases hp), (fun p hp => by cases hp), below_wcut h, fun w' h1 h2 => hK w' ⟨h1, fun k hk _ _ _ _ _ => h2 k hk (fun p hp => by cases hp), fun k _ hk => h2 k hk (fun p hp => by cases hp)⟩⟩
theorem Hs17.belB {B : Nat} {w w' : World} {rows : List Row} {K : World → Prop} (h : B ≤ w.heap.size) (hS : Hs17 (wcut B w) rows K w') (hs : w.heap.size ≤ w'.heap.size) : Below B w w' := by
  have hb := hS.bel
  have e := wcut_size h
  refine ⟨hb.os, hb.tape, hb.output, hs, fun k hk => ?_⟩
  rw [hb.block k (by omega), wcut_at h hk]
theorem NoP.ty {w0 w : World} {rows : List Row} {K : World → Prop} (hS : Hs17 w0 rows K w) (hr : NoP rows = true) : ∀ p ∈ rows, ∀ cs t fr, w.heap[p.1]? = some (.cells cs t fr) → TyJ t = true → False := by
  intro p hp cs t fr h ht
  have hA := hS.arr p hp
  unfold Arr at hA
  rw [hA] at h
  unfold NoP at hr
  rw [List.all_eq_true] at hr
  have h1 := hr p hp
  simp only [Option.some.injEq, Obj.cells.injEq] at h
  obtain ⟨-, h2, -⟩ := h
  rw [h2, ht] at h1
  cases h1
theorem Hs17.goT {B : Nat} {wx w w' : World} {rows : List Row} {K K' : World → Prop} {T : Nat → Prop} (hB : B ≤ wx.heap.size) (hS : Hs17 (wcut B wx) rows K w) (hr : NoP rows = true) (hb : Buts T w w')
    (hT : ∀ k, T k → B ≤ k ∧ (k < w.heap.size → ∃ cs t fr, w.heap[k]? = some (.cells cs t fr) ∧ TyJ t = true)) (hK : ∀ w'', Sam B w' w'' → K' w'') : Hs17 (wcut B wx) rows K' w' := by
  have hty := NoP.ty hS hr
  have hne : ∀ p ∈ rows, ¬ T p.1 := fun p hp ht => by
    obtain ⟨cs, t, fr, h1, h2⟩ := (hT _ ht).2 (hS.arr p hp).lt
    exact hty p hp cs t fr h1 h2
  have hA' : ∀ p ∈ rows, Arr w' p.1 p.2.1 p.2.2 := fun p hp => (hb.block _ (hS.arr p hp).lt (hne p hp)).trans (hS.arr p hp)
  have hbl := hS.bel
  refine ⟨hS.nd, hA', hS.old, ⟨hb.os.trans hbl.os, hb.tape.trans hbl.tape, hb.output.trans hbl.output, Nat.le_trans hbl.size hb.size, fun k hk => ?_⟩, fun w'' h1 h2 => hK w'' ⟨h1, fun k hk cs t fr he ht => ?_, fun k hk hk2 => ?_⟩⟩
  · have hkB : k < B := by rw [wcut_size hB] at hk; exact hk
    exact (hb.block k (Nat.lt_of_lt_of_le hk hbl.size) (fun ht => by have := (hT k ht).1; omega)).trans (hbl.block k hk)
  · refine h2 k hk (fun p hp e => ?_)
    subst e
    have := hA' p hp
    unfold Arr at this
    rw [this] at he
    simp only [Option.some.injEq, Obj.cells.injEq] at he
    obtain ⟨-, e2, -⟩ := he
    unfold NoP at hr
    rw [List.all_eq_true] at hr
    have h1 := hr p hp
    rw [e2, ht] at h1
    cases h1
  · refine h2 k hk2 (fun p hp e => ?_)
    have := hS.old p hp
    rw [wcut_size hB] at this
    omega
theorem own_sam {B : Nat} {w w' : World} {base e sz n : Nat} {v : Value} {xs : List Value} (h : w.ownsRow base e sz v n xs) (he : TyJ e = true) (hs : Sam B w w') : w'.ownsRow base e sz v n xs := by
  refine own_blk h (fun g hg => ?_)
  rcases h.2 with ⟨rfl, -⟩ | ⟨g1, cap, cur, rfl, -, h1, -⟩
  · cases hg
  · cases hg
    exact hs.ty g1 (own_lt h rfl).2 _ _ _ h1 he
theorem arr_sam {B : Nat} {w w' : World} {g : Nat} {t : TypeId} {c : List Value} (h : Arr w g t c) (he : TyJ t = true) (hs : Sam B w w') : Arr w' g t c := (hs.ty g h.lt _ _ _ h he).trans h
theorem Fl.sam {B : Nat} {w w' : World} {p : Nat} {S : Nat → Prop} {s : FlS} (h : Fl w p S s) (hs : Sam B w w') : Fl w' p S s := by
  obtain ⟨v0, v1, qv, hf, rfl⟩ := h
  exact ⟨v0, v1, qv, ⟨arr_sam hf.arr (by decide) hs, own_sam hf.o0 (by decide) hs, own_sam hf.o1 (by decide) hs, own_sam hf.oq (by decide) hs, hf.ne, hf.ok⟩, rfl⟩
theorem Fl.ty {w : World} {p : Nat} {S : Nat → Prop} {s : FlS} (h : Fl w p S s) : ∀ k, S k → ∃ cs t fr, w.heap[k]? = some (.cells cs t fr) ∧ TyJ t = true := by
  obtain ⟨v0, v1, qv, hf, rfl⟩ := h
  have key : ∀ {e sz n : Nat} {v : Value} {xs : List Value}, TyJ e = true → w.ownsRow 0 e sz v n xs → ∀ k, v.ownBlock = some k → ∃ cs t fr, w.heap[k]? = some (.cells cs t fr) ∧ TyJ t = true := by
    intro e sz n v xs he ho k hk
    rcases ho.2 with ⟨rfl, -⟩ | ⟨g1, cap, cur, rfl, -, h1, -⟩
    · cases hk
    · cases hk; exact ⟨_, _, _, h1, he⟩
  rintro k (rfl | hk | hk | hk)
  · exact ⟨_, _, _, hf.arr, by decide⟩
  · exact key (by decide) hf.o0 k hk
  · exact key (by decide) hf.o1 k hk
  · exact key (by decide) hf.oq k hk
theorem Jn.sam {B : Nat} {w w' : World} {jp p : Nat} {o : Option JS} (h : Jn w jp p o) (hs : Sam B w w') : Jn w' jp p o := arr_sam h (by decide) hs
theorem Rq.sam {B : Nat} {O : Nat → Prop} {s : FlS} {c : List Value} {w w' : World} (h : Rq O s c w) (hs : Sam B w w') : Rq O s c w' :=
  h.typ (fun k hk t cs fr he ht => hs.ty k hk cs t fr he (by rcases ht with rfl | rfl <;> decide))
theorem Sl.sam {B : Nat} {w w' : World} {d : Sl} (h : d.Ok w) (hB : ∀ x, d.a = some x → x.block < B ∧ x.block < w.heap.size) (hs : Sam B w w') : d.Ok w' := slOk_blk h hs.size (fun x hx => hs.lo _ (hB x hx).1 (hB x hx).2)
theorem Mk.sam {B B0 g n c : Nat} {l : List Int} {w w' : World} (h : Mk B0 g n c l w) (hs : Sam B w w') : Mk B0 g n c l w' := ⟨own_sam h.1 (by decide) hs, h.2⟩
theorem Sam.trans {B : Nat} {w w' w'' : World} (h : Sam B w w') (k : Sam B w' w'') : Sam B w w'' :=
  ⟨Nat.le_trans h.size k.size, fun i hi cs t fr he ht => (k.ty i (Nat.lt_of_lt_of_le hi h.size) cs t fr ((h.ty i hi cs t fr he ht).trans he) ht).trans (h.ty i hi cs t fr he ht), fun i hi hi2 => (k.lo i hi (Nat.lt_of_lt_of_le hi2 h.size)).trans (h.lo i hi hi2)⟩
theorem Sam.of {B : Nat} {w w' : World} (h : Below w.heap.size w w') : Sam B w w' := ⟨h.size, fun k hk _ _ _ _ _ => h.block k hk, fun k _ hk => h.block k hk⟩
theorem Rq.tight {O : Nat → Prop} {s : FlS} {c : List Value} {w : World} (h : Rq O s c w) : ∃ O', Rq O' s c w ∧ ∀ k, O' k → O k ∧ k < w.heap.size ∧ ∃ cs t fr, w.heap[k]? = some (.cells cs t fr) ∧ (t = 5 ∨ t = 89) := by
  obtain ⟨fa, sa, va, fc, sc, vc, ar, cnt, h1, h2, h3, h4⟩ := h.rb
  have key : ∀ {e sz n : Nat} {v : Value} {xs : List Value}, (e = 5 ∨ e = 89) → w.ownsRow 0 e sz v n xs → ∀ k, v.ownBlock = some k → ∃ cs t fr, w.heap[k]? = some (.cells cs t fr) ∧ (t = 5 ∨ t = 89) := by
    intro e sz n v xs he ho k hk
    rcases ho.2 with ⟨rfl, -⟩ | ⟨g1, cap, cur, rfl, -, h1, -⟩
    · cases hk
    · cases hk; exact ⟨_, _, _, h1, he⟩
  refine ⟨RSet (.slice fa s.l0.length fc) (.slice sa s.l1.length sc) (.slice va ar.length vc), ⟨⟨fa, sa, va, fc, sc, vc, ar, cnt, h1, h2, h3, fun k hk => hk⟩, h.ln, h.one⟩, fun k hk => ⟨h4 k hk, h2.lt k hk, ?_⟩⟩
  rcases hk with hk | hk | hk
  · exact key (.inl rfl) h2.f.1 k hk
  · exact key (.inl rfl) h2.g.1 k hk
  · exact key (.inr rfl) h2.a k hk
def JOkN (N : Nat) (s : FlS) (o : Option JS) : Prop := ∀ j, o = some j → s.down = false ∧ (j.bank = 0 ∨ j.bank = 1) ∧ j.cnt ≤ N ∧ j.ep ≤ 9223372036854775807
theorem JOkN.ok {N : Nat} {s : FlS} {o : Option JS} (h : JOkN N s o) (hN : N ≤ 1000000000) : JOk s o := fun j hj => by
  obtain ⟨h1, h2, h3, h4⟩ := h j hj
  exact ⟨h1, h2, by omega, h4⟩
theorem JOkN.mono {N M : Nat} {s : FlS} {o : Option JS} (h : JOkN N s o) (hN : N ≤ M) : JOkN M s o := fun j hj => by
  obtain ⟨h1, h2, h3, h4⟩ := h j hj
  exact ⟨h1, h2, by omega, h4⟩
theorem JOkN.none (N : Nat) (s : FlS) : JOkN N s none := fun j hj => by cases hj
theorem jappend_okN {N : Nat} {s : FlS} {o : Option JS} (h : JOkN N s o) (ho : s.Ok) (r : List Int) : JOkN (N + 1) (s.jappend o r).1 (s.jappend o r).2.1 ∧ (s.jappend o r).1.wr ≤ s.wr + 1 := by
  cases o with
  | none => exact ⟨JOkN.none _ _, Nat.le_succ _⟩
  | some j =>
    obtain ⟨hu, hb, hc, he⟩ := h j rfl
    unfold FlS.jappend
    simp only
    by_cases h1 : 262144 < r.length
    · rw [if_pos h1]; exact ⟨h.mono (Nat.le_succ _), Nat.le_succ _⟩
    rw [if_neg h1]
    by_cases h2 : s.size < (s.bk j.bank).length + (r.length + 10)
    · rw [if_pos h2]; exact ⟨h.mono (Nat.le_succ _), Nat.le_succ _⟩
    rw [if_neg h2]
    rcases FlS.append_spec (l := encL 82 r) hb hu (by rw [encL_length]; omega) with ⟨t, q, p⟩ | ⟨t, k, q, p⟩
    · rw [q, if_neg (by simp)]
      exact ⟨fun j' hj' => by cases hj'; exact ⟨p.dn, hb, by simp only; omega, he⟩, p.wr⟩
    · rw [q, if_pos (by simp)]
      exact ⟨JOkN.none _ _, p.wr⟩
theorem jcompact_okN {N : Nat} {s : FlS} {o : Option JS} (h : JOkN N s o) (ho : s.Ok) (l : List Int) (more : Nat) : JOkN N (s.jcompact o l more).1 (s.jcompact o l more).2.1 ∧ (s.jcompact o l more).1.wr ≤ s.wr + 2 := by
  cases o with
  | none => exact ⟨JOkN.none _ _, Nat.le_add_right _ _⟩
  | some j =>
    obtain ⟨hu, hb, hc, he⟩ := h j rfl
    unfold FlS.jcompact
    simp only
    by_cases h1 : 262144 < l.length + 12
    · rw [if_pos h1]; exact ⟨h, Nat.le_add_right _ _⟩
    rw [if_neg h1]
    by_cases h2 : j.ep = 9223372036854775807
    · rw [if_pos h2]; exact ⟨h, Nat.le_add_right _ _⟩
    rw [if_neg h2]
    by_cases h3 : s.size < l.length + 22 + more
    · rw [if_pos h3]; exact ⟨h, Nat.le_add_right _ _⟩
    rw [if_neg h3]
    have hb1 : 1 - j.bank = 0 ∨ 1 - j.bank = 1 := by omega
    have hwr := FlS.refill_wr s (1 - j.bank) (hdr (j.ep + 1) 0 l)
    rcases FlS.refill_spec (d := hdr (j.ep + 1) 0 l) hb1 hu (by rw [hdr_length]; omega) with ⟨t, q, p⟩ | ⟨t, l1, q, p, -⟩
    · rw [q] at hwr ⊢
      rw [if_neg (by simp)]
      exact ⟨fun j' hj' => by cases hj'; exact ⟨p.dn, hb1, Nat.zero_le _, by simp only; omega⟩, hwr⟩
    · rw [q] at hwr ⊢
      rw [if_pos (by simp)]
      exact ⟨JOkN.none _ _, hwr⟩
theorem jkeep_okN {N : Nat} {s : FlS} {o : Option JS} (h : JOkN N s o) (ho : s.Ok) (r l : List Int) (hc : (s.jcompact o l (r.length + 10)).1.Ok) : JOkN (N + 1) (s.jkeep o r l).1 (s.jkeep o r l).2.1 ∧ (s.jkeep o r l).1.wr ≤ s.wr + 3 := by
  have h1 := jappend_okN h ho r
  have h2 := jcompact_okN h ho l (r.length + 10)
  have h3 := jappend_okN h2.1 hc r
  unfold FlS.jkeep
  split
  · exact ⟨h1.1, by omega⟩
  · split
    · exact ⟨h2.1.mono (Nat.le_succ _), by omega⟩
    · exact ⟨h3.1, by omega⟩
structure PSt (B N : Nat) (w : World) (p : Nat) (S : Nat → Prop) (s : FlS) (O : Nat → Prop) (c : List Value) (ja : Option Addr) (op : Bool) (b e n : Int) (d : Bool) : Prop where
  fl : Fl w p S s
  rq : Rq O s c w
  pB : ∀ k, S k → B ≤ k
  oB : ∀ k, O k → B ≤ k ∧ k < w.heap.size ∧ ¬ S k ∧ ∃ cs t fr, w.heap[k]? = some (.cells cs t fr) ∧ (t = 5 ∨ t = 89)
  jn : op = true → ∃ jb o, ja = some ⟨jb, 0, none⟩ ∧ Jn w jb p o ∧ DJ o b e n d ∧ JOkN N s o ∧ ¬ S jb ∧ B ≤ jb
theorem PSt.sam {B N : Nat} {w w' : World} {p : Nat} {S O : Nat → Prop} {s : FlS} {c : List Value} {ja : Option Addr} {op : Bool} {b e n : Int} {d : Bool} (h : PSt B N w p S s O c ja op b e n d) (hs : Sam B w w') : PSt B N w' p S s O c ja op b e n d := by
  refine ⟨h.fl.sam hs, h.rq.sam hs, h.pB, fun k hk => ?_, fun ho => ?_⟩
  · obtain ⟨h1, h2, h3, cs, t, fr, h4, h5⟩ := h.oB k hk
    exact ⟨h1, Nat.lt_of_lt_of_le h2 hs.size, h3, cs, t, fr, (hs.ty k h2 cs t fr h4 (by rcases h5 with rfl | rfl <;> decide)).trans h4, h5⟩
  · obtain ⟨jb, o, h1, h2, h3⟩ := h.jn ho
    exact ⟨jb, o, h1, h2.sam hs, h3⟩
theorem PSt.jO {B N : Nat} {w : World} {p : Nat} {S O : Nat → Prop} {s : FlS} {c : List Value} {ja : Option Addr} {op : Bool} {b e n : Int} {d : Bool} (h : PSt B N w p S s O c ja op b e n d) {jb : Nat} {o : Option JS} (hj : Jn w jb p o) : ¬ O jb := fun hO => by
  obtain ⟨-, -, -, cs, t, fr, h4, h5⟩ := h.oB jb hO
  have h6 : Arr w jb 99 (jv p o) := hj
  unfold Arr at h6
  rw [h6] at h4
  simp only [Option.some.injEq, Obj.cells.injEq] at h4
  obtain ⟨-, h7, -⟩ := h4
  rcases h5 with h5 | h5 <;> rw [h5] at h7 <;> exact absurd h7 (by decide)
def ChJ (S : Nat → Prop) (ja : Option Addr) (op : Bool) (k : Nat) : Prop := S k ∨ (op = true ∧ ∃ x, ja = some x ∧ x.block = k)
theorem PSt.chT {B N : Nat} {w : World} {p : Nat} {S O : Nat → Prop} {s : FlS} {c : List Value} {ja : Option Addr} {op : Bool} {b e n : Int} {d : Bool} (h : PSt B N w p S s O c ja op b e n d) : ∀ k, ChJ S ja op k → B ≤ k ∧ (k < w.heap.size → ∃ cs t fr, w.heap[k]? = some (.cells cs t fr) ∧ TyJ t = true) := by
  rintro k (hk | ⟨ho, x, hx, rfl⟩)
  · exact ⟨h.pB k hk, fun _ => h.fl.ty k hk⟩
  · obtain ⟨jb, o, h1, h2, h3, h4, h5, h6⟩ := h.jn ho
    rw [h1] at hx
    cases hx
    exact ⟨h6, fun _ => ⟨_, _, _, h2, by decide⟩⟩
theorem PSt.chO {B N : Nat} {w : World} {p : Nat} {S O : Nat → Prop} {s : FlS} {c : List Value} {ja : Option Addr} {op : Bool} {b e n : Int} {d : Bool} (h : PSt B N w p S s O c ja op b e n d) : ∀ k, O k → ¬ ChJ S ja op k := by
  rintro k hk (h1 | ⟨ho, x, hx, rfl⟩)
  · exact (h.oB k hk).2.2.1 h1
  · obtain ⟨jb, o, h1, h2, -⟩ := h.jn ho
    rw [h1] at hx
    cases hx
    exact h.jO h2 hk
theorem PSt.next {B N N' : Nat} {w1 w2 w3 : World} {p jb : Nat} {S S' O : Nat → Prop} {s s' : FlS} {c c' : List Value} {o o' : Option JS} {op : Bool} {b e n b' e' n' : Int} {d d' : Bool} {ja : Option Addr} (h : PSt B N w1 p S s O c ja op b e n d) (hB : B ≤ w1.heap.size) (hj : Jn w1 jb p o) (hjS : ¬ S jb) (hjB : B ≤ jb) (hst : JSt p jb S s' o' w1 w2 S')
    (hq : Rq (On O w2) s' c' w3) (hb : Below w2.heap.size w2 w3) (hD : DJ o' b' e' n' d') (hJ : JOkN N' s' o') : ∃ O', PSt B N' w3 p S' s' O' c' (some ⟨jb, 0, none⟩) true b' e' n' d' ∧ ∀ k, O' k → O k ∨ w2.heap.size ≤ k := by
  obtain ⟨O', hq', hO'⟩ := hq.tight
  have hs1 := hst.but.size
  refine ⟨O', ⟨hst.fl.later hb, hq', fun k hk => ?_, fun k hk => ?_, fun _ => ⟨jb, o', rfl, Arr.later hst.jn hb, hD, hJ, fun hs => ?_, hjB⟩⟩, fun k hk => (hO' k hk).1⟩
  · rcases hst.at_ k hk with h1 | h1
    · exact h.pB k h1
    · omega
  · obtain ⟨h1, h2, cs, t, fr, h3, h4⟩ := hO' k hk
    have hlt := hst.fl.lt
    rcases h1 with h1 | h1
    · obtain ⟨k1, k2, k3, -⟩ := h.oB k h1
      refine ⟨k1, h2, fun hs => ?_, cs, t, fr, h3, h4⟩
      rcases hst.at_ k hs with h5 | h5
      · exact k3 h5
      · omega
    · refine ⟨by omega, h2, fun hs => ?_, cs, t, fr, h3, h4⟩
      have := hlt k hs
      omega
  · have hjl := hj.lt
    rcases hst.at_ jb hs with h5 | h5
    · exact hjS h5
    · omega
set_option maxHeartbeats 4000000
set_option maxRecDepth 100000
theorem jroomB_dead (jp p : Nat) (w : World) (h : Jn w jp p none) : Calls Try.prog 23 #[.pointer (some ⟨jp, 0, none⟩)] w fun e w' => e = .returned (.int .i64 0) ∧ Below w.heap.size w w' :=
 (jroom_dead jp p w h).mono (fun e w' ⟨h1, h2⟩ => ⟨h1, by subst h2; exact Below.refl _ _⟩)
theorem jepochB_dead (jp p : Nat) (w : World) (h : Jn w jp p none) : Calls Try.prog 24 #[.pointer (some ⟨jp, 0, none⟩)] w fun e w' => e = .returned (.int .i64 0) ∧ Below w.heap.size w w' :=
 (jepoch_dead jp p w h).mono (fun e w' ⟨h1, h2⟩ => ⟨h1, by subst h2; exact Below.refl _ _⟩)
theorem jcountB_dead (jp p : Nat) (w : World) (h : Jn w jp p none) : Calls Try.prog 25 #[.pointer (some ⟨jp, 0, none⟩)] w fun e w' => e = .returned (.int .i64 0) ∧ Below w.heap.size w w' :=
 (jcount_dead jp p w h).mono (fun e w' ⟨h1, h2⟩ => ⟨h1, by subst h2; exact Below.refl _ _⟩)
theorem jroomB_any (jp p : Nat) (S : Nat → Prop) (s : FlS) (j : JS) (w : World) (h : Jn w jp p (some j)) (hf : Fl w p S s) : Calls Try.prog 23 #[.pointer (some ⟨jp, 0, none⟩)] w fun e w' => e = .returned (.int .i64 (s.room j.bank)) ∧ Below w.heap.size w w' :=
 (jroom_any jp p S s j w h hf).mono (fun e w' ⟨h1, k, h2⟩ => ⟨h1, by subst h2; exact below_drewN (Below.refl _ _) k⟩)
theorem jepochB_any (jp p : Nat) (j : JS) (w : World) (h : Jn w jp p (some j)) (he : j.ep ≤ 9223372036854775807) : Calls Try.prog 24 #[.pointer (some ⟨jp, 0, none⟩)] w fun e w' => e = .returned (.int .i64 j.ep) ∧ Below w.heap.size w w' :=
 (jepoch_any jp p j w h he).mono (fun e w' ⟨h1, h2⟩ => ⟨h1, by subst h2; exact Below.refl _ _⟩)
theorem jcountB_any (jp p : Nat) (j : JS) (w : World) (h : Jn w jp p (some j)) : Calls Try.prog 25 #[.pointer (some ⟨jp, 0, none⟩)] w fun e w' => e = .returned (.int .i64 j.cnt) ∧ Below w.heap.size w w' :=
 (jcount_any jp p j w h).mono (fun e w' ⟨h1, h2⟩ => ⟨h1, by subst h2; exact Below.refl _ _⟩)
theorem Fl.oldJ {w w' : World} {p : Nat} {S : Nat → Prop} {s : FlS} (h : Fl w p S s) (ho : Old w w') : Fl w' p S s := h.sam (B := 0) ⟨ho.size, fun k hk _ _ _ _ _ => ho.block k hk, fun k _ hk => ho.block k hk⟩
theorem Jn.oldJ {w w' : World} {jp p : Nat} {o : Option JS} (h : Jn w jp p o) (ho : Old w w') : Jn w' jp p o := Arr.old h ho
theorem told_any (B N : Nat) (w : World) (p : Nat) (S : Nat → Prop) (s : FlS) (O : Nat → Prop) (c : List Value) (ja : Option Addr) (op : Bool) (b e n : Int) (d : Bool) (h : PSt B N w p S s O c ja op b e n d) :
  Calls Try.prog 7 #[aV (prC (.pointer (some ⟨p, 0, none⟩)) (.pointer ja) op c (yC b e n d))] w fun r w' => r = .returned (.bool true) ∧ Below w.heap.size w w' := by
 have hlc := h.rq.ln
 have hoc := h.rq.one
 have hfl := h.fl
 have hrq := h.rq
 cases op with
 | false =>
  have hS : Hs17 w [] (fun w9 => Rq O s c w9) w := Hs17.begin w _ (fun w' ho => hrq.old ho)
  clear h hfl hrq
  go_enter Try.func7, Try.ntmps7
  go_upto_region 0 with fail
  refine wp_region_lit ?_
  refine bxZ 34 (.tmp 0) rfl (prC (.pointer (some ⟨p, 0, none⟩)) (.pointer ja) false c (yC b e n d)) rfl hS ?_
  clear hS
  intro g1 w1 hS
  refine snZ1 ?_
  go_upto_region 1 with fail
  refine rgZ1 ?_
  refine l1Z 4 (.tmp 3) rfl 0 rfl 2 rfl _ (at_p2 (.pointer (some ⟨p, 0, none⟩)) (.pointer ja) false c (yC b e n d)) Try.underlying4 rfl hS ?_
  refine snZ1 ?_
  go_wp2_with fail
  go_ret
  exact ⟨rfl, hS.bel⟩
 | true =>
  obtain ⟨jb, oo, rfl, hj, hD, hok, -⟩ := h.jn rfl
  cases oo with
  | none =>
   obtain rfl : d = true := hD
   have hS : Hs17 w [] (fun w9 => Jn w9 jb p none ∧ Rq O s c w9) w := Hs17.begin w _ (fun w' ho => ⟨hj.oldJ ho, hrq.old ho⟩)
   clear h hfl hrq hj hok
   go_enter Try.func7, Try.ntmps7
   go_upto_region 0 with fail
   refine wp_region_lit ?_
   refine bxZ 34 (.tmp 0) rfl (prC (.pointer (some ⟨p, 0, none⟩)) (.pointer (some ⟨jb, 0, none⟩)) true c (yC b e n true)) rfl hS ?_
   clear hS
   intro g1 w1 hS
   refine snZ1 ?_
   go_upto_region 1 with fail
   refine rgZ1 ?_
   refine l1Z 4 (.tmp 3) rfl 0 rfl 2 rfl _ (at_p2 (.pointer (some ⟨p, 0, none⟩)) (.pointer (some ⟨jb, 0, none⟩)) true c (yC b e n true)) Try.underlying4 rfl hS ?_
   refine snZ1 ?_
   go_upto_region 3 with fail
   refine rgZ2 ?_
   refine l1Z 4 (.tmp 7) rfl 0 rfl 13 rfl _ ((at_p4 (.pointer (some ⟨p, 0, none⟩)) (.pointer (some ⟨jb, 0, none⟩)) true hlc (yC b e n true)).trans (at_y3 b e n true) rfl) Try.underlying4 rfl hS ?_
   refine wpList_nil ?_
   go_upto_region 4 with fail
   refine rgZ1 ?_
   refine l1Z 30 (.tmp 9) rfl 0 rfl 1 rfl _ (at_p1 (.pointer (some ⟨p, 0, none⟩)) (.pointer (some ⟨jb, 0, none⟩)) true c (yC b e n true)) Try.underlying30 rfl hS ?_
   refine caZ ?_
   intro kQ hkQ
   refine (jroomB_dead jb p _ hS.K.1).mono ?_
   rintro e w2 ⟨rfl, hb1⟩
   replace hS := hS.later hb1
   refine hkQ _ _ ?_
   clear hkQ kQ hb1
   refine stZ3 ?_
   refine l1Z 30 (.tmp 14) rfl 0 rfl 1 rfl _ (at_p1 (.pointer (some ⟨p, 0, none⟩)) (.pointer (some ⟨jb, 0, none⟩)) true c (yC b e n true)) Try.underlying30 rfl hS ?_
   refine caZ ?_
   intro kQ hkQ
   refine (jepochB_dead jb p _ hS.K.1).mono ?_
   rintro e w3 ⟨rfl, hb1⟩
   replace hS := hS.later hb1
   refine hkQ _ _ ?_
   clear hkQ kQ hb1
   refine stZ4 ?_
   refine l1Z 30 (.tmp 20) rfl 0 rfl 1 rfl _ (at_p1 (.pointer (some ⟨p, 0, none⟩)) (.pointer (some ⟨jb, 0, none⟩)) true c (yC b e n true)) Try.underlying30 rfl hS ?_
   refine caZ ?_
   intro kQ hkQ
   refine (jcountB_dead jb p _ hS.K.1).mono ?_
   rintro e w4 ⟨rfl, hb1⟩
   replace hS := hS.later hb1
   refine hkQ _ _ ?_
   clear hkQ kQ hb1
   refine snZ3 ?_
   go_wp2_with fail
   go_ret
   exact ⟨rfl, hS.bel⟩
  | some jj =>
   obtain ⟨rfl, rfl, rfl, rfl⟩ := hD
   have HEP : Hid (jj.ep ≤ 9223372036854775807) := hide (hok jj rfl).2.2.2
   have hS : Hs17 w [] (fun w9 => (Fl w9 p S s ∧ Jn w9 jb p (some jj)) ∧ Rq O s c w9) w := Hs17.begin w _ (fun w' ho => ⟨⟨hfl.oldJ ho, hj.oldJ ho⟩, hrq.old ho⟩)
   clear h hfl hrq hj hok
   go_enter Try.func7, Try.ntmps7
   go_upto_region 0 with fail
   refine wp_region_lit ?_
   refine bxZ 34 (.tmp 0) rfl (prC (.pointer (some ⟨p, 0, none⟩)) (.pointer (some ⟨jb, 0, none⟩)) true c (yC jj.bank (jj.ep : Int) (jj.cnt : Int) false)) rfl hS ?_
   clear hS
   intro g1 w1 hS
   refine snZ1 ?_
   go_upto_region 1 with fail
   refine rgZ1 ?_
   refine l1Z 4 (.tmp 3) rfl 0 rfl 2 rfl _ (at_p2 (.pointer (some ⟨p, 0, none⟩)) (.pointer (some ⟨jb, 0, none⟩)) true c (yC jj.bank (jj.ep : Int) (jj.cnt : Int) false)) Try.underlying4 rfl hS ?_
   refine snZ1 ?_
   go_upto_region 3 with fail
   refine rgZ2 ?_
   refine l1Z 4 (.tmp 7) rfl 0 rfl 13 rfl _ ((at_p4 (.pointer (some ⟨p, 0, none⟩)) (.pointer (some ⟨jb, 0, none⟩)) true hlc (yC jj.bank (jj.ep : Int) (jj.cnt : Int) false)).trans (at_y3 jj.bank (jj.ep : Int) (jj.cnt : Int) false) rfl) Try.underlying4 rfl hS ?_
   refine wpList_nil ?_
   go_upto_region 5 with fail
   replace hS := hS.drew
   refine wp_region_held_drew (S := Hs17 _ _ _) (by kernel_rfl) (hS.sub ((List.Sublist.slnil).cons_cons _)) (fun hHeld => ?_)
   generalize World.drew _ = w2 at hS hHeld ⊢
   refine tkZ 0 (.pointer (some ⟨g1, 1, none⟩)) rfl (Or.inl ⟨by rfl, fun w hSw => by go_simp⟩) hHeld ?_
   refine tkZ 1 _ rfl (yl_load1 (by kernel_rfl) 30 (.tmp 25) rfl 0 rfl 1 rfl _ (at_p1 (.pointer (some ⟨p, 0, none⟩)) (.pointer (some ⟨jb, 0, none⟩)) true c (yC jj.bank (jj.ep : Int) (jj.cnt : Int) false)) Try.underlying30 rfl) hHeld ?_
   refine tkZ 3 (.pointer (some ⟨g1, 3, none⟩)) rfl (Or.inl ⟨by rfl, fun w hSw => by go_simp⟩) hHeld ?_
   refine tkZ 4 _ rfl (yl_load (by kernel_rfl) 28 (.tmp 28) rfl 0 rfl 3 rfl _ (at_p3 (.pointer (some ⟨p, 0, none⟩)) (.pointer (some ⟨jb, 0, none⟩)) true c (yC jj.bank (jj.ep : Int) (jj.cnt : Int) false)) Try.underlying28 rfl (szX hlc)) hHeld ?_
   refine tkZ 5 (.pointer (some ⟨g1, 10, none⟩)) rfl (Or.inl ⟨by rfl, fun w hSw => by go_simp⟩) hHeld ?_
   refine tkZ 6 _ rfl (yl_load (by kernel_rfl) 32 (.tmp 30) rfl 0 rfl 10 rfl _ (at_p4 (.pointer (some ⟨p, 0, none⟩)) (.pointer (some ⟨jb, 0, none⟩)) true hlc (yC jj.bank (jj.ep : Int) (jj.cnt : Int) false)) Try.underlying32 rfl (szY _ _ _ _)) hHeld ?_
   refine rd1 2 rfl fun kQ hkQ => ?_
   go_simp
   refine (jroomB_any jb p S s jj _ hS.K.1.2 hS.K.1.1).mono ?_
   rintro e w3 ⟨rfl, hb1⟩
   replace hS := hS.later hb1
   clear hHeld hb1
   refine hkQ.out _ _ hS.sbZ (fun hHeld => ?_)
   clear hkQ kQ
   try simp [Act.put]
   refine rd1 7 rfl fun kQ hkQ => ?_
   go_simp
   refine (qroom_up O s c jj.bank jj.ep jj.cnt _ hS.K.2).mono ?_
   rintro e w4 ⟨rfl, hb1⟩
   replace hS := hS.later hb1
   clear hHeld hb1
   refine hkQ.out _ _ hS.sbZ (fun hHeld => ?_)
   clear hkQ kQ
   try simp [Act.put]
   refine tkZ 8 (.bool true) rfl (Or.inl ⟨by rfl, fun w hSw => by go_simp⟩) hHeld ?_
   refine tkZ 9 (.bool true) rfl (Or.inl ⟨by rfl, fun w hSw => by go_simp⟩) hHeld ?_
   refine tkZ 10 (.pointer (some ⟨g1, 1, none⟩)) rfl (Or.inl ⟨by rfl, fun w hSw => by go_simp⟩) hHeld ?_
   refine tkZ 11 _ rfl (yl_load1 (by kernel_rfl) 30 (.tmp 35) rfl 0 rfl 1 rfl _ (at_p1 (.pointer (some ⟨p, 0, none⟩)) (.pointer (some ⟨jb, 0, none⟩)) true c (yC jj.bank (jj.ep : Int) (jj.cnt : Int) false)) Try.underlying30 rfl) hHeld ?_
   refine tkZ 13 (.pointer (some ⟨g1, 10, none⟩)) rfl (Or.inl ⟨by rfl, fun w hSw => by go_simp⟩) hHeld ?_
   refine tkZ 14 (.pointer (some ⟨g1, 11, none⟩)) rfl (Or.inl ⟨by rfl, fun w hSw => by go_simp⟩) hHeld ?_
   refine tkZ 15 _ rfl (yl_load1 (by kernel_rfl) 3 (.tmp 39) rfl 0 rfl 11 rfl _ ((at_p4 (.pointer (some ⟨p, 0, none⟩)) (.pointer (some ⟨jb, 0, none⟩)) true hlc (yC jj.bank (jj.ep : Int) (jj.cnt : Int) false)).trans (at_y1 jj.bank (jj.ep : Int) (jj.cnt : Int) false) rfl) Try.underlying3 rfl) hHeld ?_
   refine rd1 12 rfl fun kQ hkQ => ?_
   go_simp
   refine (jepochB_any jb p jj _ hS.K.1.2 (unhide HEP)).mono ?_
   rintro e w5 ⟨rfl, hb1⟩
   replace hS := hS.later hb1
   clear hHeld hb1
   refine hkQ.out _ _ hS.sbZ (fun hHeld => ?_)
   clear hkQ kQ
   try simp [Act.put]
   refine tkZ 16 (.bool true) rfl (Or.inl ⟨by rfl, fun w hSw => by go_simp⟩) hHeld ?_
   refine tkZ 17 (.bool true) rfl (Or.inl ⟨by rfl, fun w hSw => by go_simp⟩) hHeld ?_
   refine tkZ 18 (.bool true) rfl (Or.inl ⟨by rfl, fun w hSw => by go_simp⟩) hHeld ?_
   refine tkZ 19 (.pointer (some ⟨g1, 1, none⟩)) rfl (Or.inl ⟨by rfl, fun w hSw => by go_simp⟩) hHeld ?_
   refine tkZ 20 _ rfl (yl_load1 (by kernel_rfl) 30 (.tmp 44) rfl 0 rfl 1 rfl _ (at_p1 (.pointer (some ⟨p, 0, none⟩)) (.pointer (some ⟨jb, 0, none⟩)) true c (yC jj.bank (jj.ep : Int) (jj.cnt : Int) false)) Try.underlying30 rfl) hHeld ?_
   refine tkZ 22 (.pointer (some ⟨g1, 10, none⟩)) rfl (Or.inl ⟨by rfl, fun w hSw => by go_simp⟩) hHeld ?_
   refine tkZ 23 (.pointer (some ⟨g1, 12, none⟩)) rfl (Or.inl ⟨by rfl, fun w hSw => by go_simp⟩) hHeld ?_
   refine tkZ 24 _ rfl (yl_load1 (by kernel_rfl) 3 (.tmp 48) rfl 0 rfl 12 rfl _ ((at_p4 (.pointer (some ⟨p, 0, none⟩)) (.pointer (some ⟨jb, 0, none⟩)) true hlc (yC jj.bank (jj.ep : Int) (jj.cnt : Int) false)).trans (at_y2 jj.bank (jj.ep : Int) (jj.cnt : Int) false) rfl) Try.underlying3 rfl) hHeld ?_
   refine rd1 21 rfl fun kQ hkQ => ?_
   go_simp
   refine (jcountB_any jb p jj _ hS.K.1.2).mono ?_
   rintro e w6 ⟨rfl, hb1⟩
   replace hS := hS.later hb1
   clear hHeld hb1
   refine hkQ.out _ _ hS.sbZ (fun hHeld => ?_)
   clear hkQ kQ
   try simp [Act.put]
   refine tkZ 25 (.bool true) rfl (Or.inl ⟨by rfl, fun w hSw => by go_simp⟩) hHeld ?_
   refine tkZ 26 (.bool true) rfl (Or.inl ⟨by rfl, fun w hSw => by go_simp⟩) hHeld ?_
   refine tkZ 27 (.bool true) rfl (Or.inl ⟨by rfl, fun w hSw => by go_simp⟩) hHeld ?_
   refine wpAnyH_done (by kernel_rfl) ?_ _
   clear hHeld
   go_wp2_with fail
   go_ret
   exact ⟨rfl, hS.bel⟩
end Go.Proofs.Ytppmgfkpfamabaa
