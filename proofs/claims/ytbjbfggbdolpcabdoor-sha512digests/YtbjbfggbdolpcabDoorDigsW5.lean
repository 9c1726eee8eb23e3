import Derived.Test.YtbjbfggbdolpcabDoorToldW5
namespace Go.Proofs.YtbjbfggbdolpcabDoor.S5
open Go.RowKit

/-- one step of the script -/
structure OpR where
  kd : Int
  who : Int
  from_ : Int
  p : Sl
/-- the script lies at a -/
def OpsAt (w : World) (a : Option Addr) (ops : List OpR) : Prop :=
  0 < ops.length → ∃ b off, a = some ⟨b, off, none⟩ ∧ b < w.heap.size ∧ ∀ i o, ops[i]? = some o → w.cell? ⟨b, off + i * 4, none⟩ = some (.int .i64 o.kd) ∧ w.cell? ⟨b, off + i * 4 + 1, none⟩ = some (.int .u8 o.who) ∧ w.cell? ⟨b, off + i * 4 + 2, none⟩ = some (.int .u8 o.from_) ∧ w.cell? ⟨b, off + i * 4 + 3, none⟩ = some o.p.v
structure OpR.Ok (w : World) (o : OpR) : Prop where
  who : 0 ≤ o.who ∧ o.who ≤ 255
  from_ : 0 ≤ o.from_ ∧ o.from_ ≤ 255
  p : o.p.Ok w
  pc : o.p.c ≤ 140737488351232

/-- the four pairs -/
structure DI (w : World) (gA : Nat) (G : Nat → Nat) (B : Nat → Sl) (M : Nat → List Int) (L : List Value) (wr : World) : Prop where
  row : Arr wr gA 39 L
  len : L.length = 8
  d : ∀ k, k < 4 → L[2 * k]? = some (.pointer (some ⟨G k, 0, none⟩))
  b : ∀ k, k < 4 → L[2 * k + 1]? = some (B k).v
  dg : ∀ k, k < 4 → Dg wr (G k) (M k)
  own : ∀ k, k < 4 → wr.ownsRow w.heap.size 5 1 (B k).v (B k).n (U8 (M k))
  ne : ∀ i j, i < 4 → j < 4 → i ≠ j → G i ≠ G j
  ge : ∀ k, k < 4 → w.heap.size ≤ G k
  geA : w.heap.size ≤ gA
  bel : Below w.heap.size w wr
theorem DI.later {w : World} {gA : Nat} {G : Nat → Nat} {B : Nat → Sl} {M : Nat → List Int} {L : List Value} {wr w' : World} (h : DI w gA G B M L wr) (hb : Below wr.heap.size wr w') : DI w gA G B M L w' :=
  ⟨h.row.later hb, h.len, h.d, h.b, fun k hk => (h.dg k hk).later hb, fun k hk => own_later (h.own k hk) hb, h.ne, h.ge, h.geA, h.bel.trans (hb.mono h.bel.size)⟩
theorem DI.isB {w : World} {gA : Nat} {G : Nat → Nat} {B : Nat → Sl} {M : Nat → List Int} {L : List Value} {wr : World} (h : DI w gA G B M L wr) (k : Nat) (hk : k < 4) : IsB (M k) := by
  obtain ⟨_, _, _, _, _, h⟩ := h.dg k hk; exact h
theorem DI.ok {w : World} {gA : Nat} {G : Nat → Nat} {B : Nat → Sl} {M : Nat → List Int} {L : List Value} {wr : World} (h : DI w gA G B M L wr) (k : Nat) (hk : k < 4) : Sl.Ok wr ⟨(B k).a, (B k).n, (B k).c, M k⟩ := by
  obtain ⟨s', hs', oks, hsl, -, -⟩ := own_sl (h.own k hk) (h.isB k hk)
  obtain ⟨xa, xn, xc, xl⟩ := s'
  have hsl' : xl = M k := hsl
  simp only [Sl.v, Value.slice.injEq] at hs'
  obtain ⟨e1, e2, e3⟩ := hs'
  rw [e1, e2, e3, ← hsl']; exact oks
theorem DI.pr {w : World} {gA : Nat} {G : Nat → Nat} {B : Nat → Sl} {M : Nat → List Int} {L : List Value} {wr : World} (h : DI w gA G B M L wr) (hV : All4 w) (k : Nat) (hk : k < 4) : PrI gA k (G k) w.heap.size (M k) (B k) wr :=
  ⟨by rw [h.row.cell]; exact h.d k hk, by rw [h.row.cell]; exact h.b k hk, h.dg k hk, h.own k hk, h.ok k hk, hV.later h.bel⟩
theorem DI.gAne {w : World} {gA : Nat} {G : Nat → Nat} {B : Nat → Sl} {M : Nat → List Int} {L : List Value} {wr : World} (h : DI w gA G B M L wr) (k : Nat) (hk : k < 4) : gA ≠ G k := by
  intro e
  obtain ⟨st, held, hR, -⟩ := h.dg k hk
  have h1 := hR.arr
  have h2 := h.row
  unfold Arr at h1 h2
  rw [← e, h2] at h1
  simp at h1
theorem DI.took {w : World} {gA : Nat} {G : Nat → Nat} {B : Nat → Sl} {M : Nat → List Int} {L : List Value} {wr w' : World} (h : DI w gA G B M L wr) (k : Nat) (hk : k < 4) (l : List Int) (s' : Sl) (hl : s'.l = M k ++ l)
    (hD : Dg w' (G k) (M k ++ l)) (ho : w'.ownsRow w.heap.size 5 1 s'.v s'.n (U8 (M k ++ l))) (hA : Arr w' gA 39 (L.set (2 * k + 1) s'.v)) (hB : But2 (G k) gA wr w') :
    DI w gA G (fun i => if i = k then s' else B i) (fun i => if i = k then M k ++ l else M i) (L.set (2 * k + 1) s'.v) w' := by
  have hnb : ∀ i, i < 4 → ∀ g, (B i).v.ownBlock = some g → g ≠ G k ∧ g ≠ gA := by
    intro i hi g hg
    refine ⟨fun e => own_ne_dg (h.own i hi) (h.dg k hk) (by rw [hg, e]), fun e => ?_⟩
    have h2 := h.row
    unfold Arr at h2
    rcases (h.own i hi).2 with ⟨h3, -⟩ | ⟨g', cap, cur, h3, -, h4, -⟩
    · rw [h3] at hg; simp [Value.ownBlock] at hg
    · rw [h3] at hg
      simp only [Value.ownBlock, Option.some.injEq] at hg
      rw [hg, e, h2] at h4
      simp at h4
  refine ⟨hA, by rw [List.length_set]; exact h.len, fun i hi => ?_, fun i hi => ?_, fun i hi => ?_, fun i hi => ?_, h.ne, h.ge, h.geA, ?_⟩
  · rw [List.getElem?_set_ne (by omega)]; exact h.d i hi
  · by_cases e : i = k
    · subst e
      rw [if_pos rfl, List.getElem?_set_self (by rw [h.len]; omega)]
    · rw [if_neg e, List.getElem?_set_ne (by omega)]; exact h.b i hi
  · by_cases e : i = k
    · subst e; simpa using hD
    · simp only [e, if_false]
      obtain ⟨st, held, hR, hr⟩ := h.dg i hi
      exact ⟨st, held, ⟨(hB.block (G i) hR.arr.lt (h.ne i k hi hk e) (Ne.symm (h.gAne i hi))).trans hR.arr, hR.stl, hR.hdl, hR.stW, hR.hdB⟩, hr⟩
  · by_cases e : i = k
    · subst e; simpa using ho
    · simp only [e, if_false]
      have hh := h.own i hi
      refine ⟨hh.1, ?_⟩
      rcases hh.2 with h2 | ⟨g, cap, cur, h1, h2, h3, h4⟩
      · exact .inl h2
      · have hgl : g < wr.heap.size := (hh.lt g (by rw [h1]; rfl)).2
        have := hnb i hi g (by rw [h1]; rfl)
        exact .inr ⟨g, cap, cur, h1, h2, (hB.block g hgl this.1 this.2).trans h3, h4⟩
  · exact h.bel.trans ⟨hB.os, hB.tape, hB.output, hB.size, fun i hi => hB.block i (Nat.lt_of_lt_of_le hi h.bel.size) (by have := h.ge k hk; omega) (by have := h.geA; omega)⟩

theorem DI.put {w : World} {gA : Nat} {G : Nat → Nat} {B : Nat → Sl} {M : Nat → List Int} {L L' : List Value} {wr w' : World} (h : DI w gA G B M L wr) (k : Nat) (hk : k < 4) (g' : Nat) (s' : Sl) (m' : List Int)
    (hlen : L'.length = 8) (hLd : L'[2 * k]? = some (.pointer (some ⟨g', 0, none⟩))) (hLb : L'[2 * k + 1]? = some s'.v) (hLo : ∀ i, i ≠ 2 * k → i ≠ 2 * k + 1 → L'[i]? = L[i]?)
    (hD : Dg w' g' m') (ho : w'.ownsRow w.heap.size 5 1 s'.v s'.n (U8 m')) (hA : Arr w' gA 39 L') (hB : But2 (G k) gA wr w') (hge : w.heap.size ≤ g') (hne : ∀ i, i < 4 → i ≠ k → G i ≠ g') :
    DI w gA (fun i => if i = k then g' else G i) (fun i => if i = k then s' else B i) (fun i => if i = k then m' else M i) L' w' := by
  have hnb : ∀ i, i < 4 → ∀ g, (B i).v.ownBlock = some g → g ≠ G k ∧ g ≠ gA := by
    intro i hi g hg
    refine ⟨fun e => own_ne_dg (h.own i hi) (h.dg k hk) (by rw [hg, e]), fun e => ?_⟩
    have h2 := h.row
    unfold Arr at h2
    rcases (h.own i hi).2 with ⟨h3, -⟩ | ⟨g', cap, cur, h3, -, h4, -⟩
    · rw [h3] at hg; simp [Value.ownBlock] at hg
    · rw [h3] at hg
      simp only [Value.ownBlock, Option.some.injEq] at hg
      rw [hg, e, h2] at h4
      simp at h4
  refine ⟨hA, hlen, fun i hi => ?_, fun i hi => ?_, fun i hi => ?_, fun i hi => ?_, fun i j hi hj hij => ?_, fun i hi => ?_, h.geA, ?_⟩
  · by_cases e : i = k
    · subst e; simpa using hLd
    · rw [hLo _ (by omega) (by omega)]; simp only [e, if_false]; exact h.d i hi
  · by_cases e : i = k
    · subst e; simpa using hLb
    · rw [hLo _ (by omega) (by omega)]; simp only [e, if_false]; exact h.b i hi
  · by_cases e : i = k
    · subst e; simpa using hD
    · simp only [e, if_false]
      obtain ⟨st, held, hR, hr⟩ := h.dg i hi
      exact ⟨st, held, ⟨(hB.block (G i) hR.arr.lt (h.ne i k hi hk e) (Ne.symm (h.gAne i hi))).trans hR.arr, hR.stl, hR.hdl, hR.stW, hR.hdB⟩, hr⟩
  · by_cases e : i = k
    · subst e; simpa using ho
    · simp only [e, if_false]
      have hh := h.own i hi
      refine ⟨hh.1, ?_⟩
      rcases hh.2 with h2 | ⟨g, cap, cur, h1, h2, h3, h4⟩
      · exact .inl h2
      · have hgl : g < wr.heap.size := (hh.lt g (by rw [h1]; rfl)).2
        have := hnb i hi g (by rw [h1]; rfl)
        exact .inr ⟨g, cap, cur, h1, h2, (hB.block g hgl this.1 this.2).trans h3, h4⟩
  · by_cases e : i = k
    · by_cases e2 : j = k
      · omega
      · rw [if_pos e, if_neg e2]; exact fun x => hne j hj e2 x.symm
    · by_cases e2 : j = k
      · rw [if_neg e, if_pos e2]; exact hne i hi e
      · rw [if_neg e, if_neg e2]; exact h.ne i j hi hj hij
  · by_cases e : i = k
    · rw [if_pos e]; exact hge
    · rw [if_neg e]; exact h.ge i hi
  · exact h.bel.trans ⟨hB.os, hB.tape, hB.output, hB.size, fun i hi => hB.block i (Nat.lt_of_lt_of_le hi h.bel.size) (by have := h.ge k hk; omega) (by have := h.geA; omega)⟩

set_option maxHeartbeats 4000000 in
set_option maxRecDepth 100000 in
theorem digests_any (sa : Option Addr) (sc : Nat) (ops : List OpR) (w : World) (hS : OpsAt w sa ops) (hO : ∀ o ∈ ops, o.Ok w) (hV : All4 w) (hn : ops.length ≤ 140737488351232) :
    Calls Tryd.prog 5 #[.slice sa ops.length sc] w fun e w' => e = .returned (.bool true) ∧ Below w.heap.size w w' := by
  have HS := hide hS
  have HO := hide hO
  clear hS hO
  go_enter Tryd.func5, Tryd.ntmps5
  go_wp2_with fail
  refine (begun_any w hV.f).mono ?_
  rintro e w1 ⟨rfl, hD1, hb1⟩
  go_wp2_with fail
  refine (begun_any w1 (hV.later hb1).f).mono ?_
  rintro e w2 ⟨rfl, hD2, hb2⟩
  have hb02 : Below w.heap.size w w2 := hb1.trans (hb2.mono hb1.size)
  go_wp2_with fail
  refine (begun_any w2 (hV.later hb02).f).mono ?_
  rintro e w3 ⟨rfl, hD3, hb3⟩
  have hb03 : Below w.heap.size w w3 := hb02.trans (hb3.mono hb02.size)
  go_wp2_with fail
  refine (begun_any w3 (hV.later hb03).f).mono ?_
  rintro e w4 ⟨rfl, hD4, hb4⟩
  go_wp2_with fail
  have hs1 := hb1.size
  have hs2 := hb2.size
  have hs3 := hb3.size
  have hs4 := hb4.size
  have hl1 := hD1.lt
  have hl2 := hD2.lt
  have hl3 := hD3.lt
  have hl4 := hD4.lt
  obtain ⟨W5, hW5, hA5, hb5, hs5⟩ := arr1 w4 39 [.pointer (some ⟨w.heap.size + 1, 0, none⟩), .slice none 0 0, .pointer (some ⟨w1.heap.size + 1, 0, none⟩), .slice none 0 0, .pointer (some ⟨w2.heap.size + 1, 0, none⟩), .slice none 0 0, .pointer (some ⟨w3.heap.size + 1, 0, none⟩), .slice none 0 0]
  rw [show (#[Value.pointer (some ⟨w.heap.size + 1, 0, none⟩), .slice none 0 0, .pointer (some ⟨w1.heap.size + 1, 0, none⟩), .slice none 0 0, .pointer (some ⟨w2.heap.size + 1, 0, none⟩), .slice none 0 0, .pointer (some ⟨w3.heap.size + 1, 0, none⟩), .slice none 0 0] : Array Value) = [Value.pointer (some ⟨w.heap.size + 1, 0, none⟩), .slice none 0 0, .pointer (some ⟨w1.heap.size + 1, 0, none⟩), .slice none 0 0, .pointer (some ⟨w2.heap.size + 1, 0, none⟩), .slice none 0 0, .pointer (some ⟨w3.heap.size + 1, 0, none⟩), .slice none 0 0].toArray from rfl, ← hW5]
  have hb04 : Below w.heap.size w w4 := hb03.trans (hb4.mono hb03.size)
  have hI : ∃ (G : Nat → Nat) (B : Nat → Sl) (M : Nat → List Int) (L : List Value), DI w w4.heap.size G B M L W5 ∧ ∀ k, k < 4 → (M k).length ≤ 0 := by
    refine ⟨fun k => match k with | 0 => w.heap.size + 1 | 1 => w1.heap.size + 1 | 2 => w2.heap.size + 1 | _ => w3.heap.size + 1, fun _ => ⟨none, 0, 0, []⟩, fun _ => [], _, ⟨hA5, rfl, ?_, ?_, ?_, ?_, ?_, ?_, ?_, ?_⟩, fun _ _ => by simp⟩
    · intro k hk
      match k, hk with
      | 0, _ => rfl
      | 1, _ => rfl
      | 2, _ => rfl
      | 3, _ => rfl
    · intro k hk
      match k, hk with
      | 0, _ => rfl
      | 1, _ => rfl
      | 2, _ => rfl
      | 3, _ => rfl
    · intro k hk
      match k, hk with
      | 0, _ => exact (((hD1.later hb2).later hb3).later hb4).later hb5
      | 1, _ => exact ((hD2.later hb3).later hb4).later hb5
      | 2, _ => exact (hD3.later hb4).later hb5
      | 3, _ => exact hD4.later hb5
    · intro k _; exact World.ownsRow_nil _ _ _ _
    · intro i j hi hj hij
      match i, j, hi, hj with
      | 0, 0, _, _ => exact absurd rfl hij
      | 0, 1, _, _ => show w.heap.size + 1 ≠ w1.heap.size + 1; omega
      | 0, 2, _, _ => show w.heap.size + 1 ≠ w2.heap.size + 1; omega
      | 0, 3, _, _ => show w.heap.size + 1 ≠ w3.heap.size + 1; omega
      | 1, 0, _, _ => show w1.heap.size + 1 ≠ w.heap.size + 1; omega
      | 1, 1, _, _ => exact absurd rfl hij
      | 1, 2, _, _ => show w1.heap.size + 1 ≠ w2.heap.size + 1; omega
      | 1, 3, _, _ => show w1.heap.size + 1 ≠ w3.heap.size + 1; omega
      | 2, 0, _, _ => show w2.heap.size + 1 ≠ w.heap.size + 1; omega
      | 2, 1, _, _ => show w2.heap.size + 1 ≠ w1.heap.size + 1; omega
      | 2, 2, _, _ => exact absurd rfl hij
      | 2, 3, _, _ => show w2.heap.size + 1 ≠ w3.heap.size + 1; omega
      | 3, 0, _, _ => show w3.heap.size + 1 ≠ w.heap.size + 1; omega
      | 3, 1, _, _ => show w3.heap.size + 1 ≠ w1.heap.size + 1; omega
      | 3, 2, _, _ => show w3.heap.size + 1 ≠ w2.heap.size + 1; omega
      | 3, 3, _, _ => exact absurd rfl hij
    · intro k hk
      match k, hk with
      | 0, _ => show w.heap.size ≤ w.heap.size + 1; omega
      | 1, _ => show w.heap.size ≤ w1.heap.size + 1; omega
      | 2, _ => show w.heap.size ≤ w2.heap.size + 1; omega
      | 3, _ => show w.heap.size ≤ w3.heap.size + 1; omega
    · omega
    · exact hb04.trans (hb5.mono hb04.size)
  obtain ⟨G0, B0, M0, L0, I0, hM0⟩ := hI
  clear hW5 hA5 hb5 hs5 hD1 hD2 hD3 hD4 hb04 hb03 hb02 hb4 hb3 hb2 hb1 hs1 hs2 hs3 hs4 hl1 hl2 hl3 hl4
  generalize w4.heap.size = gA at *
  go_loopw [4, 5] (fun vb vi wr => ∃ (j by_ : Nat) (G : Nat → Nat) (B : Nat → Sl) (M : Nat → List Int) (L : List Value), vb = .int .i64 by_ ∧ vi = .int .i64 j ∧ j ≤ ops.length ∧ by_ ≤ 200000 ∧ (∀ k, k < 4 → (M k).length ≤ by_) ∧ DI w gA G B M L wr) (fun _ i _ => ops.length - (intOf i).toNat)
  case atStart => exact ⟨0, 0, G0, B0, M0, L0, rfl, rfl, by omega, by omega, hM0, I0⟩
  case round =>
    clear I0 hM0
    obtain ⟨j, by_, G, B, M, L, rfl, rfl, hj, hby, hMb, I⟩ := hrel
    by_cases hlt : j < ops.length
    · obtain ⟨o, ho⟩ : ∃ o, ops[j]? = some o := ⟨_, List.getElem?_eq_getElem hlt⟩
      have hoo := (unhide HO) o (List.mem_of_getElem? ho)
      obtain ⟨ob, oo, hsa, hol, hoc⟩ := (unhide HS) (by omega)
      subst hsa
      obtain ⟨c0, c1, c2, c3⟩ := hoc j o ho
      have k0 := (I.bel.cell (p := ⟨ob, oo + j * 4, none⟩) hol).trans c0
      have k1 := (I.bel.cell (p := ⟨ob, oo + j * 4 + 1, none⟩) hol).trans c1
      have k2 := (I.bel.cell (p := ⟨ob, oo + j * 4 + 2, none⟩) hol).trans c2
      have k3 := (I.bel.cell (p := ⟨ob, oo + j * 4 + 3, none⟩) hol).trans c3
      obtain ⟨kd, who, fr, ⟨pa, pn, pc, pl⟩⟩ := o
      simp only [Sl.v] at k0 k1 k2 k3
      have hltz : (j : Int) < (ops.length : Int) := by omega
      have hpn : pl.length = pn := hoo.p.len
      have hpl : pn ≤ pc := hoo.p.le
      have hpc : pc ≤ 140737488351232 := hoo.pc
      obtain ⟨hw0, hw1⟩ : 0 ≤ who ∧ who ≤ 255 := hoo.who
      obtain ⟨hf0, hf1⟩ : 0 ≤ fr ∧ fr ≤ 255 := hoo.from_
      obtain ⟨kw, hkw⟩ : ∃ kw : Nat, who % 4 = (kw : Int) := ⟨(who % 4).toNat, by omega⟩
      obtain ⟨kf, hkf⟩ : ∃ kf : Nat, fr % 4 = (kf : Int) := ⟨(fr % 4).toNat, by omega⟩
      have hkw4 : kw < 4 := by omega
      have hkf4 : kf < 4 := by omega
      have HPN := hide hpn
      have HOO := hide hoo
      clear c0 c1 c2 c3 hoc hpn hoo ho
      by_cases hbig : 200000 < by_ + pn ∨ 400 < j
      · have hbb := I.bel
        have hbs := I.bel.size
        rcases Classical.em (200000 < by_ + pn) with hx | hx
        · have hx1 : (200000 : Int) < (by_ : Int) + (pn : Int) := by omega
          clear hbig I
          go_wp2
          go_ret
          exact ⟨rfl, hbb.alloc hbs _⟩
        · have hx1 : ¬ ((200000 : Int) < (by_ : Int) + (pn : Int)) := by omega
          have hxd : decide ((200000 : Int) < (by_ : Int) + (pn : Int)) = false := by simpa using hx1
          have hx2 : (400 : Int) < (j : Int) := by omega
          clear hbig I
          go_wp2
          go_ret
          exact ⟨rfl, hbb.alloc hbs _⟩
      · have hb1 : ¬ ((200000 : Int) < (by_ : Int) + (pn : Int)) := by omega
        have hb2 : ¬ ((400 : Int) < (j : Int)) := by omega
        have hd1 : decide ((200000 : Int) < (by_ : Int) + (pn : Int)) = false := by simpa using hb1
        have hd2 : decide ((400 : Int) < (j : Int)) = false := by simpa using hb2
        obtain ⟨We, hWe, hOE, hbE, -⟩ := arr1 wr 43 [.int .i64 kd, .int .u8 who, .int .u8 fr, .slice pa pn pc]
        have IE := I.later hbE
        have PE := IE.pr hV kw hkw4
        have pd : We.cell? ⟨gA, kw * 2, none⟩ = some (.pointer (some ⟨G kw, 0, none⟩)) := by have h := PE.d; rwa [Nat.mul_comm] at h
        rw [hWe] at pd
        have HWE := hide hWe
        clear hWe hb1 hb2 hbig
        by_cases hk1 : kd = 1
        · subst hk1
          go_wp2_with fail
          rw [Nat.mul_comm kw 2, show (#[Value.int .i64 1, .int .u8 who, .int .u8 fr, .slice pa pn pc] : Array Value) = [Value.int .i64 1, .int .u8 who, .int .u8 fr, .slice pa pn pc].toArray from rfl, ← unhide HWE]
          have hoo := unhide HOO
          have hbE0 := IE.bel
          have hKE : 2 ≠ G kw := by have := hV.k.lt; have := IE.ge kw hkw4; omega
          have hpnb : pn ≤ 200000 := by have := of_decide_eq_false hd1; omega
          refine (took_any gA kw (G kw) w.heap.size (M kw) L (B kw) ⟨pa, pn, pc, pl⟩ We IE.row (IE.d kw hkw4) (IE.b kw hkw4) (IE.dg kw hkw4) (IE.own kw hkw4) IE.bel.size (hoo.p.later hbE0) hpnb (by have := hMb kw hkw4; omega) (hV.k.later hbE0) hKE (IE.gAne kw hkw4) (fun hp x hx => by have := hoo.p.blk hp x hx; have := IE.ge kw hkw4; omega)).mono ?_
          rintro e w6 ⟨rfl, hD6, v6, ho6, hA6, hB6⟩
          have hplB : IsB pl := hoo.p.isB
          obtain ⟨s6, rfl, -, hs6l, hs6n, -⟩ := own_sl ho6 ((IE.isB kw hkw4).append hplB)
          have I6 := IE.took kw hkw4 pl s6 hs6l hD6 (by rw [hs6n]; exact ho6) hA6 hB6
          have hM6 : ∀ i, i < 4 → (if i = kw then M kw ++ pl else M i).length ≤ by_ + pn := by
            intro i hi
            by_cases e : i = kw
            · rw [if_pos e, List.length_append, unhide HPN]; have := hMb kw hkw4; omega
            · rw [if_neg e]; have := hMb i hi; omega
          have hbyn : by_ + pn ≤ 200000 := by have := of_decide_eq_false hd1; omega
          clear IE PE pd hOE hbE HWE hD6 ho6 hA6 hB6 I hs6l hs6n
          go_wp2
          go_roundw
          case rel => exact ⟨j + 1, by_ + pn, G, _, _, _, by go_num, by go_num, by omega, hbyn, hM6, I6⟩
          case measure => simp [intOf]; omega
        · by_cases hk5 : kd = 5
          · subst hk5
            go_wp2_with fail
            rw [show (#[Value.int .i64 5, .int .u8 who, .int .u8 fr, .slice pa pn pc] : Array Value) = [Value.int .i64 5, .int .u8 who, .int .u8 fr, .slice pa pn pc].toArray from rfl, ← unhide HWE]
            refine (reset_any (G kw) (M kw) We (IE.dg kw hkw4) (hV.later IE.bel).f).mono ?_
            rintro e w6 ⟨rfl, hD6, hbt6⟩
            have hA6 := hbt6.arr IE.row (IE.gAne kw hkw4)
            have hLb := IE.b kw hkw4
            have cb : w6.cell? ⟨gA, kw * 2 + 1, none⟩ = some (B kw).v := by rw [hA6.cell, show kw * 2 + 1 = 2 * kw + 1 by omega]; exact hLb
            have fb := hA6.frozen (kw * 2 + 1)
            have hbyn : by_ + pn ≤ 200000 := by have := of_decide_eq_false hd1; omega
            have I6 := IE.put (L' := L.set (2 * kw + 1) (.slice none 0 0)) (w' := w6.setCell ⟨gA, kw * 2 + 1, none⟩ (.slice none 0 0)) kw hkw4 (G kw) ⟨none, 0, 0, []⟩ [] (by rw [List.length_set]; exact IE.len) (by rw [List.getElem?_set_ne (by omega)]; exact IE.d kw hkw4) (by rw [List.getElem?_set_self (by rw [IE.len]; omega)]; rfl) (fun i _ h2 => by rw [List.getElem?_set_ne (Ne.symm h2)])
              (hD6.but ((But.refl gA w6).setCell _ _) (Ne.symm (IE.gAne kw hkw4))) (World.ownsRow_nil _ _ _ _) (by have h := hA6.set (kw * 2 + 1) (.slice none 0 0); rw [show kw * 2 + 1 = 2 * kw + 1 by omega] at h ⊢; exact h) ((But2.of_but hbt6).trans (But2.of_but' ((But.refl gA w6).setCell _ _))) (IE.ge kw hkw4) (fun i hi h => IE.ne i kw hi hkw4 h)
            have hM6 : ∀ i, i < 4 → (if i = kw then ([] : List Int) else M i).length ≤ by_ + pn := by
              intro i hi
              by_cases e : i = kw
              · rw [if_pos e]; simp
              · rw [if_neg e]; have := hMb i hi; omega
            obtain ⟨sb, hsb⟩ : ∃ sb, sb = B kw := ⟨_, rfl⟩
            rw [← hsb] at cb
            obtain ⟨ba, bn, bc, bl⟩ := sb
            simp only [Sl.v] at cb
            have HI6 := hide I6
            have HM6 := hide hM6
            clear IE PE pd hOE hbE HWE hD6 hA6 hbt6 I hLb hsb I6 hM6
            go_wp2
            go_roundw
            case rel => exact ⟨j + 1, by_ + pn, _, _, _, _, by go_num, by go_num, by omega, hbyn, unhide HM6, unhide HI6⟩
            case measure => simp [intOf]; omega
          · by_cases hk2 : kd = 2
            · subst hk2
              go_wp2_with fail
              rw [Nat.mul_comm kw 2, show (#[Value.int .i64 2, .int .u8 who, .int .u8 fr, .slice pa pn pc] : Array Value) = [Value.int .i64 2, .int .u8 who, .int .u8 fr, .slice pa pn pc].toArray from rfl, ← unhide HWE]
              have hbyn : by_ + pn ≤ 200000 := by have := of_decide_eq_false hd1; omega
              have hM6 : ∀ i, i < 4 → (M i).length ≤ by_ + pn := fun i hi => by have := hMb i hi; omega
              have hMw := hMb kw hkw4
              obtain ⟨sb, hsb⟩ : ∃ sb, sb = B kw := ⟨_, rfl⟩
              rw [← hsb] at PE
              obtain ⟨ba, bn, bc, bl⟩ := sb
              have hlen : (M kw).length = bn := PE.ok.len
              have hbn : bn ≤ 400000 := by omega
              obtain ⟨R, hRR⟩ : ∃ R, R = U8 (sumZ (M kw)) := ⟨_, rfl⟩
              have HRR := hide hRR
              have E1 : ∀ w, (Op.equalIn 10000 28 (.agg R.toArray) (.agg R.toArray)).run Tryd.prog w = .ok true w := fun w => by
                rw [hRR, eqWide (sumZ (M kw)) (sumZ (M kw)) (sumZ_length _) (sumZ_length _) w]; simp
              have HLEN := hide (show (((M kw).length : Int) % 18446744073709551616) = (bn : Int) by rw [hlen]; omega)
              have hwu := hide (show IntKind.u64.wrap (bn : Int) = (bn : Int) by rw [IntKind.wrap_u64]; omega)
              have hS : TdS We gA kw (G kw) w.heap.size (M kw) ⟨ba, bn, bc, bl⟩ We := ⟨PE, Below.refl _ _⟩
              have HIE := hide IE
              clear hRR hlen PE IE I hOE hbE pd HWE hsb
              refine wp_region_held_drew (S := TdS We gA kw (G kw) w.heap.size (M kw) ⟨ba, bn, bc, bl⟩) (by kernel_rfl) hS.drew (fun hHeld => ?_)
              clear hS
              refine wpAnyH_take (i := 0) (oi := _) (v := .pointer (some ⟨gA, 2 * kw, none⟩)) rfl (by kernel_rfl) (by kernel_rfl) (by kernel_rfl) (fun _ _ _ h => h) (Or.inl ⟨by rfl, fun w hSw => by go_simp⟩) hHeld ?_
              simp [Act.put]
              refine wpAnyH_take (i := 1) (oi := _) (v := .pointer (some ⟨gA, 2 * kw, none⟩)) rfl (by kernel_rfl) (by kernel_rfl) (by kernel_rfl) (fun _ _ _ h => h) (Or.inl ⟨by rfl, fun w hSw => by go_simp⟩) hHeld ?_
              simp [Act.put]
              refine wpAnyH_take (i := 2) (oi := _) (v := .pointer (some ⟨gA, 2 * kw, none⟩)) rfl (by kernel_rfl) (by kernel_rfl) (by kernel_rfl) (fun _ _ _ h => h) (Or.inl ⟨by rfl, fun w hSw => by go_simp⟩) hHeld ?_
              simp [Act.put]
              refine wpAnyH_take (i := 3) (oi := _) (v := .pointer (some ⟨G kw, 0, none⟩)) rfl (by kernel_rfl) (by kernel_rfl) (by kernel_rfl) (fun _ _ _ h => h) (Or.inl ⟨by rfl, fun w hSw => by have hc := hSw.p.d; go_simp⟩) hHeld ?_
              simp [Act.put]
              refine wpAnyH_take (i := 5) (oi := _) (v := .pointer (some ⟨gA, 2 * kw, none⟩)) rfl (by kernel_rfl) (by kernel_rfl) (by kernel_rfl) (fun _ _ _ h => h) (Or.inl ⟨by rfl, fun w hSw => by go_simp⟩) hHeld ?_
              simp [Act.put]
              refine wpAnyH_take (i := 6) (oi := _) (v := .pointer (some ⟨gA, 2 * kw, none⟩)) rfl (by kernel_rfl) (by kernel_rfl) (by kernel_rfl) (fun _ _ _ h => h) (Or.inl ⟨by rfl, fun w hSw => by go_simp⟩) hHeld ?_
              simp [Act.put]
              refine wpAnyH_take (i := 7) (oi := _) (v := .pointer (some ⟨gA, 2 * kw + 1, none⟩)) rfl (by kernel_rfl) (by kernel_rfl) (by kernel_rfl) (fun _ _ _ h => h) (Or.inl ⟨by rfl, fun w hSw => by go_simp⟩) hHeld ?_
              simp [Act.put]
              refine wpAnyH_take (i := 8) (oi := _) (v := .slice ba bn bc) rfl (by kernel_rfl) (by kernel_rfl) (by kernel_rfl) (fun _ _ _ h => h) (Or.inl ⟨by rfl, fun w hSw => by have hc := hSw.p.b; simp only [Sl.v] at hc; go_simp⟩) hHeld ?_
              simp [Act.put]
              refine wpAnyH_ready (rs := [4]) (by kernel_rfl) (by simp) ?_
              refine AllReadyH.cons rfl (fun K hK => ?_) AllReadyH.nil
              go_simp
              refine (digSum_any (G kw) (M kw) _ hHeld.p.dg hHeld.p.v.k).mono ?_
              rintro e x1 ⟨rfl, hb1⟩
              rw [← unhide HRR]
              refine hK.out _ _ (hHeld.later hb1) (fun hHeld => ?_)
              clear hK K
              refine wpAnyH_ready (rs := [9]) (by kernel_rfl) (by simp) ?_
              refine AllReadyH.cons rfl (fun K hK => ?_) AllReadyH.nil
              go_simp
              refine (refSum_any ⟨ba, bn, bc, M kw⟩ _ hHeld.p.ok hHeld.p.v.rk hHeld.p.v.rf hbn).mono ?_
              rintro e x2 ⟨rfl, hb2⟩
              rw [show (Sl.mk ba bn bc (M kw)).l = M kw from rfl, ← unhide HRR]
              refine hK.out _ _ (hHeld.later hb2) (fun hHeld => ?_)
              clear hK K
              refine wpAnyH_take (i := 10) (oi := _) (v := .bool true) rfl (by kernel_rfl) (by kernel_rfl) (by kernel_rfl) (fun _ _ _ h => h) (Or.inl ⟨by rfl, fun w hSw => by go_simp⟩) hHeld ?_
              simp [Act.put]
              refine wpAnyH_take (i := 11) (oi := _) (v := .bool true) rfl (by kernel_rfl) (by kernel_rfl) (by kernel_rfl) (fun _ _ _ h => h) (Or.inl ⟨by rfl, fun w hSw => by go_simp⟩) hHeld ?_
              simp [Act.put]
              refine wpAnyH_done (by kernel_rfl) ?_ _
              have I6 := (unhide HIE).later hHeld.bel
              clear hHeld
              go_wp2
              go_roundw
              case rel => exact ⟨j + 1, by_ + pn, G, B, M, L, by go_num, by go_num, by omega, hbyn, hM6, I6⟩
              case measure => simp [intOf]; omega
            · by_cases hk3 : kd = 3
              · subst hk3
                go_wp2_with fail
                rw [Nat.mul_comm kw 2, show (#[Value.int .i64 3, .int .u8 who, .int .u8 fr, .slice pa pn pc] : Array Value) = [Value.int .i64 3, .int .u8 who, .int .u8 fr, .slice pa pn pc].toArray from rfl, ← unhide HWE]
                have hbyn : by_ + pn ≤ 200000 := by have := of_decide_eq_false hd1; omega
                have hM6 : ∀ i, i < 4 → (M i).length ≤ by_ + pn := fun i hi => by have := hMb i hi; omega
                have hMw := hMb kw hkw4
                obtain ⟨sb, hsb⟩ : ∃ sb, sb = B kw := ⟨_, rfl⟩
                rw [← hsb] at PE
                obtain ⟨ba, bn, bc, bl⟩ := sb
                have hlen : (M kw).length = bn := PE.ok.len
                have hbn : bn ≤ 400000 := by omega
                obtain ⟨R, hRR⟩ : ∃ R, R = U8 (sumZ (M kw)) := ⟨_, rfl⟩
                have HRR := hide hRR
                have E1 : ∀ w, (Op.equalIn 10000 28 (.agg R.toArray) (.agg R.toArray)).run Tryd.prog w = .ok true w := fun w => by
                  rw [hRR, eqWide (sumZ (M kw)) (sumZ (M kw)) (sumZ_length _) (sumZ_length _) w]; simp
                have HLEN := hide (show (((M kw).length : Int) % 18446744073709551616) = (bn : Int) by rw [hlen]; omega)
                have hwu := hide (show IntKind.u64.wrap (bn : Int) = (bn : Int) by rw [IntKind.wrap_u64]; omega)
                have hS : TdS We gA kw (G kw) w.heap.size (M kw) ⟨ba, bn, bc, bl⟩ We := ⟨PE, Below.refl _ _⟩
                have HIE := hide IE
                clear hRR hlen PE IE I hOE hbE pd HWE hsb
                refine wp_region_held_drew (S := TdS We gA kw (G kw) w.heap.size (M kw) ⟨ba, bn, bc, bl⟩) (by kernel_rfl) hS.drew (fun hHeld => ?_)
                clear hS
                refine wpAnyH_take (i := 0) (oi := _) (v := .pointer (some ⟨gA, 2 * kw, none⟩)) rfl (by kernel_rfl) (by kernel_rfl) (by kernel_rfl) (fun _ _ _ h => h) (Or.inl ⟨by rfl, fun w hSw => by go_simp⟩) hHeld ?_
                simp [Act.put]
                refine wpAnyH_take (i := 1) (oi := _) (v := .pointer (some ⟨gA, 2 * kw, none⟩)) rfl (by kernel_rfl) (by kernel_rfl) (by kernel_rfl) (fun _ _ _ h => h) (Or.inl ⟨by rfl, fun w hSw => by go_simp⟩) hHeld ?_
                simp [Act.put]
                refine wpAnyH_take (i := 2) (oi := _) (v := .pointer (some ⟨gA, 2 * kw, none⟩)) rfl (by kernel_rfl) (by kernel_rfl) (by kernel_rfl) (fun _ _ _ h => h) (Or.inl ⟨by rfl, fun w hSw => by go_simp⟩) hHeld ?_
                simp [Act.put]
                refine wpAnyH_take (i := 3) (oi := _) (v := .pointer (some ⟨G kw, 0, none⟩)) rfl (by kernel_rfl) (by kernel_rfl) (by kernel_rfl) (fun _ _ _ h => h) (Or.inl ⟨by rfl, fun w hSw => by have hc := hSw.p.d; go_simp⟩) hHeld ?_
                simp [Act.put]
                refine wpAnyH_take (i := 5) (oi := _) (v := .pointer (some ⟨gA, 2 * kw, none⟩)) rfl (by kernel_rfl) (by kernel_rfl) (by kernel_rfl) (fun _ _ _ h => h) (Or.inl ⟨by rfl, fun w hSw => by go_simp⟩) hHeld ?_
                simp [Act.put]
                refine wpAnyH_take (i := 6) (oi := _) (v := .pointer (some ⟨gA, 2 * kw, none⟩)) rfl (by kernel_rfl) (by kernel_rfl) (by kernel_rfl) (fun _ _ _ h => h) (Or.inl ⟨by rfl, fun w hSw => by go_simp⟩) hHeld ?_
                simp [Act.put]
                refine wpAnyH_take (i := 7) (oi := _) (v := .pointer (some ⟨gA, 2 * kw + 1, none⟩)) rfl (by kernel_rfl) (by kernel_rfl) (by kernel_rfl) (fun _ _ _ h => h) (Or.inl ⟨by rfl, fun w hSw => by go_simp⟩) hHeld ?_
                simp [Act.put]
                refine wpAnyH_take (i := 8) (oi := _) (v := .slice ba bn bc) rfl (by kernel_rfl) (by kernel_rfl) (by kernel_rfl) (fun _ _ _ h => h) (Or.inl ⟨by rfl, fun w hSw => by have hc := hSw.p.b; simp only [Sl.v] at hc; go_simp⟩) hHeld ?_
                simp [Act.put]
                refine wpAnyH_take (i := 9) (oi := _) (v := .int .i64 bn) rfl (by kernel_rfl) (by kernel_rfl) (by kernel_rfl) (fun _ _ _ h => h) (Or.inl ⟨by rfl, fun w hSw => by go_simp⟩) hHeld ?_
                simp [Act.put]
                refine wpAnyH_take (i := 10) (oi := _) (v := .int .u64 bn) rfl (by kernel_rfl) (by kernel_rfl) (by kernel_rfl) (fun _ _ _ h => h) (Or.inl ⟨by rfl, fun w hSw => by have hq := unhide hwu; go_simp⟩) hHeld ?_
                simp [Act.put]
                refine wpAnyH_ready (rs := [4]) (by kernel_rfl) (by simp) ?_
                refine AllReadyH.cons rfl (fun K hK => ?_) AllReadyH.nil
                go_simp
                refine (len_any (G kw) (M kw) _ hHeld.p.dg).mono ?_
                rintro e x3 ⟨rfl, rfl⟩
                rw [unhide HLEN]
                refine hK.out _ _ hHeld (fun hHeld => ?_)
                clear hK K
                refine wpAnyH_take (i := 11) (oi := _) (v := .bool true) rfl (by kernel_rfl) (by kernel_rfl) (by kernel_rfl) (fun _ _ _ h => h) (Or.inl ⟨by rfl, fun w hSw => by go_simp⟩) hHeld ?_
                simp [Act.put]
                refine wpAnyH_take (i := 12) (oi := _) (v := .bool true) rfl (by kernel_rfl) (by kernel_rfl) (by kernel_rfl) (fun _ _ _ h => h) (Or.inl ⟨by rfl, fun w hSw => by go_simp⟩) hHeld ?_
                simp [Act.put]
                refine wpAnyH_done (by kernel_rfl) ?_ _
                have I6 := (unhide HIE).later hHeld.bel
                clear hHeld
                go_wp2
                go_roundw
                case rel => exact ⟨j + 1, by_ + pn, G, B, M, L, by go_num, by go_num, by omega, hbyn, hM6, I6⟩
                case measure => simp [intOf]; omega
              · by_cases hk4 : kd = 4
                · subst hk4
                  have QE := IE.pr hV kf hkf4
                  have qd : We.cell? ⟨gA, kf * 2, none⟩ = some (.pointer (some ⟨G kf, 0, none⟩)) := by have h := QE.d; rwa [Nat.mul_comm] at h
                  have qb : We.cell? ⟨gA, kf * 2 + 1, none⟩ = some (B kf).v := by have h := QE.b; rwa [Nat.mul_comm] at h
                  obtain ⟨sf, hsf⟩ : ∃ sf, sf = B kf := ⟨_, rfl⟩
                  rw [← hsf] at qb
                  obtain ⟨fa, fn, fc, fl⟩ := sf
                  simp only [Sl.v] at qb
                  rw [unhide HWE] at qd qb
                  go_wp2_with fail
                  obtain ⟨Wq, hWq, hQ, hbq, -⟩ := arr1 We 39 [.pointer (some ⟨G kf, 0, none⟩), .slice fa fn fc]
                  rw [show (#[Value.int .i64 4, .int .u8 who, .int .u8 fr, .slice pa pn pc] : Array Value) = [Value.int .i64 4, .int .u8 who, .int .u8 fr, .slice pa pn pc].toArray from rfl, ← unhide HWE, show (#[Value.pointer (some ⟨G kf, 0, none⟩), .slice fa fn fc] : Array Value) = [Value.pointer (some ⟨G kf, 0, none⟩), .slice fa fn fc].toArray from rfl, ← hWq]
                  have IQ := IE.later hbq
                  refine (clone_any (G kf) (M kf) Wq (IQ.dg kf hkf4)).mono ?_
                  rintro e w6 ⟨rfl, hD6, hb6⟩
                  have I6 := IQ.later hb6
                  have hQ6 := hQ.later hb6
                  have eWe : We.heap.size = wr.heap.size + 1 := by rw [unhide HWE]; simp
                  have cq1 : w6.cell? ⟨wr.heap.size + 1, 1, none⟩ = some (.slice fa fn fc) := by rw [← eWe]; exact hQ6.cell 1
                  have cq0 : w6.cell? ⟨wr.heap.size + 1, 0, none⟩ = some (.pointer (some ⟨G kf, 0, none⟩)) := by rw [← eWe]; exact hQ6.cell 0
                  have cd6 : w6.cell? ⟨gA, kw * 2, none⟩ = some (.pointer (some ⟨G kw, 0, none⟩)) := by rw [I6.row.cell, Nat.mul_comm]; exact I6.d kw hkw4
                  have cb6 : w6.cell? ⟨gA, kw * 2 + 1, none⟩ = some (B kw).v := by rw [I6.row.cell, Nat.mul_comm]; exact I6.b kw hkw4
                  have fd6 := I6.row.frozen (kw * 2)
                  have fb6 := I6.row.frozen (kw * 2 + 1)
                  have hgAq : gA < wr.heap.size := I.row.lt
                  obtain ⟨sw, hsw⟩ : ∃ sw, sw = B kw := ⟨_, rfl⟩
                  rw [← hsw] at cb6
                  obtain ⟨xa, xn, xc, xl⟩ := sw
                  simp only [Sl.v] at cb6
                  have hbyn : by_ + pn ≤ 200000 := by have := of_decide_eq_false hd1; omega
                  have hgq : ∀ i, i < 4 → G i < Wq.heap.size := fun i hi => (IQ.dg i hi).lt
                  have hgew : w.heap.size ≤ Wq.heap.size := IQ.bel.size
                  have hAgq : gA < Wq.heap.size := IQ.row.lt
                  generalize Wq.heap.size = gq at *
                  have hbf : (B kf).v = .slice fa fn fc := by rw [← hsf]; rfl
                  have hfin := ((But.refl gA w6).setCell (kw * 2) (.pointer (some ⟨gq, 0, none⟩))).setCell (kw * 2 + 1) (.slice fa fn fc)
                  have hnf : (B kf).v.ownBlock ≠ some gA := by
                    intro e
                    have h2 := I6.row
                    unfold Arr at h2
                    rcases (I6.own kf hkf4).2 with ⟨h3, -⟩ | ⟨g', cap, cur, h3, -, h4, -⟩
                    · rw [h3] at e; simp [Value.ownBlock] at e
                    · rw [h3] at e
                      simp only [Value.ownBlock, Option.some.injEq] at e
                      rw [e, h2] at h4
                      simp at h4
                  have I7 := I6.put (L' := (L.set (2 * kw) (.pointer (some ⟨gq, 0, none⟩))).set (2 * kw + 1) (.slice fa fn fc)) (w' := (w6.setCell ⟨gA, kw * 2, none⟩ (.pointer (some ⟨gq, 0, none⟩))).setCell ⟨gA, kw * 2 + 1, none⟩ (.slice fa fn fc)) kw hkw4 gq (B kf) (M kf) (by rw [List.length_set, List.length_set]; exact I6.len)
                    (by rw [List.getElem?_set_ne (by omega), List.getElem?_set_self (by rw [I6.len]; omega)]) (by rw [List.getElem?_set_self (by rw [List.length_set, I6.len]; omega), hbf]) (fun i h1 h2 => by rw [List.getElem?_set_ne (Ne.symm h2), List.getElem?_set_ne (Ne.symm h1)])
                    (hD6.but hfin (by omega)) (own_but (I6.own kf hkf4) hfin hnf) (by have h := (I6.row.set (kw * 2) (.pointer (some ⟨gq, 0, none⟩))).set (kw * 2 + 1) (.slice fa fn fc); rw [Nat.mul_comm kw 2] at h ⊢; exact h) (But2.of_but' hfin) hgew (fun i hi _ => by have := hgq i hi; omega)
                  have hM6 : ∀ i, i < 4 → (if i = kw then M kf else M i).length ≤ by_ + pn := by
                    intro i hi
                    by_cases e : i = kw
                    · rw [if_pos e]; have := hMb kf hkf4; omega
                    · rw [if_neg e]; have := hMb i hi; omega
                  have HI7 := hide I7
                  have HM6 := hide hM6
                  have hneq : wr.heap.size + 1 ≠ gA := by omega
                  have cq1' : (w6.setCell ⟨gA, kw * 2, none⟩ (.pointer (some ⟨gq, 0, none⟩))).cell? ⟨wr.heap.size + 1, 1, none⟩ = some (.slice fa fn fc) := (World.cell?_of_block (a := ⟨wr.heap.size + 1, 1, none⟩) (heap_setCell_other w6 ⟨gA, kw * 2, none⟩ (wr.heap.size + 1) _ hneq)).trans cq1
                  have cb6' : (w6.setCell ⟨gA, kw * 2, none⟩ (.pointer (some ⟨gq, 0, none⟩))).cell? ⟨gA, kw * 2 + 1, none⟩ = some (.slice xa xn xc) := (cell_set_off w6 gA _ (by omega)).trans cb6
                  have fb6' : (w6.setCell ⟨gA, kw * 2, none⟩ (.pointer (some ⟨gq, 0, none⟩))).frozen? ⟨gA, kw * 2 + 1, none⟩ = false := (I6.row.set (kw * 2) _).frozen (kw * 2 + 1)
                  clear IE PE QE qd qb pd hOE hbE HWE hWq hQ hbq IQ hD6 hb6 I6 hQ6 I eWe hsf hsw hgq hgew hbf hfin hnf I7 hM6 hAgq
                  go_wp2
                  go_roundw
                  case rel => exact ⟨j + 1, by_ + pn, _, _, _, _, by go_num, by go_num, by omega, hbyn, unhide HM6, unhide HI7⟩
                  case measure => simp [intOf]; omega
                · have hbyn : by_ + pn ≤ 200000 := by have := of_decide_eq_false hd1; omega
                  have hM6 : ∀ i, i < 4 → (M i).length ≤ by_ + pn := fun i hi => by have := hMb i hi; omega
                  have IE' := IE
                  rw [unhide HWE] at IE'
                  have HIE := hide IE'
                  clear IE' IE PE hOE hbE I
                  go_wp2
                  go_roundw
                  case rel => exact ⟨j + 1, by_ + pn, G, B, M, L, by go_num, by go_num, by omega, hbyn, hM6, unhide HIE⟩
                  case measure => simp [intOf]; omega
    · have hjd : decide ((j : Int) < (ops.length : Int)) = false := by simp; omega
      go_wp2_with fail
      clear hjd hlt hj
      generalize hj0 : (j : Int) = j0
      clear hj0
      go_loopw [10] (fun vi wr => ∃ i : Nat, i ≤ 4 ∧ vi = .int .i64 i ∧ DI w gA G B M L wr) (fun i _ => 4 - (intOf i).toNat)
      case atStart => exact ⟨0, by omega, rfl, I⟩
      case round =>
        clear I
        obtain ⟨i, hi4, rfl, I⟩ := hrel
        by_cases hi : i < 4
        · have P := I.pr hV i hi
          have pd : wr.cell? ⟨gA, i * 2, none⟩ = some (.pointer (some ⟨G i, 0, none⟩)) := by have h := P.d; rwa [Nat.mul_comm] at h
          have hMi : (M i).length ≤ 400000 := by have := hMb i hi; omega
          have hiz : (i : Int) < 4 := by omega
          go_wp2_with fail
          rw [Nat.mul_comm i 2]
          refine (told_any gA i (G i) w.heap.size (M i) (B i) wr P hMi).mono ?_
          rintro e w6 ⟨rfl, hb6⟩
          have I6 := I.later hb6
          clear P I pd hb6
          go_wp2
          go_roundw
          case rel => exact ⟨i + 1, by omega, by go_num, I6⟩
          case measure => simp [intOf]; omega
        · have hid : decide ((i : Int) < 4) = false := by simp; omega
          have hbb := I.bel
          go_wp2
          go_ret
          exact ⟨rfl, hbb⟩
end Go.Proofs.YtbjbfggbdolpcabDoor.S5
