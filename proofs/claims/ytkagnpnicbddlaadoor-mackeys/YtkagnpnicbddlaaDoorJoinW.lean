import Derived.Test.YtkagnpnicbddlaaDoorProg
import Derived.Test.YtkagnpnicbddlaaDoorVal
import Derived.Test.YtkagnpnicbddlaaDoorStoreW
namespace Go.Proofs.YtkagnpnicbddlaaDoor
open Go.RowKit

/-- a slice of bytes: its parts, and the bytes that lie there -/
structure Sl where
  a : Option Addr
  n : Nat
  c : Nat
  l : List Int
def Sl.v (s : Sl) : Value := .slice s.a s.n s.c

structure Sl.Ok (w : World) (s : Sl) : Prop where
  len : s.l.length = s.n
  le : s.n ≤ s.c
  mx : s.c ≤ maxLen
  nn : s.a = none → s.n = 0 ∧ s.c = 0
  isB : IsB s.l
  lies : Lies w s.a s.l

theorem Sl.Ok.later {w w' : World} {s : Sl} (h : s.Ok w) (hb : Below w.heap.size w w') : s.Ok w' := ⟨h.len, h.le, h.mx, h.nn, h.isB, h.lies.later hb⟩

theorem Sl.Ok.cells {w : World} {s : Sl} (h : s.Ok w) : ∀ ad, s.a = some ad → ∀ j u, (U8 s.l)[j]? = some u → w.cell? (ad.add j) = some u := by
  intro ad had j u hu
  have hj : j < s.l.length := by
    by_cases hj : j < s.l.length
    · exact hj
    · rw [List.getElem?_eq_none (by simp; omega)] at hu; simp at hu
  obtain ⟨b, off, ha, _, hc⟩ := h.lies (by omega)
  rw [ha] at had; simp at had; subst had
  rw [U8_at s.l j hj] at hu; simp only [Option.some.injEq] at hu; subst hu
  rw [addr_add]; exact hc j hj

theorem U8_one (l : List Int) : ∀ u ∈ U8 l, u.oneCell' = true := by
  intro u hu; simp [U8] at hu; obtain ⟨x, _, rfl⟩ := hu; rfl

/-- values that lie in a row -/
def LiesV (w : World) (a : Option Addr) (vs : List Value) : Prop :=
  0 < vs.length → ∃ b off, a = some ⟨b, off, none⟩ ∧ b < w.heap.size ∧ ∀ i v, vs[i]? = some v → w.cell? ⟨b, off + i, none⟩ = some v

theorem LiesV.later {w w' : World} {a : Option Addr} {vs : List Value} (h : LiesV w a vs) (hb : Below w.heap.size w w') : LiesV w' a vs := by
  intro hl
  obtain ⟨b, off, rfl, hlt, hc⟩ := h hl
  exact ⟨b, off, rfl, Nat.lt_of_lt_of_le hlt hb.size, fun i v hi => (hb.cell (p := ⟨b, off + i, none⟩) hlt).trans (hc i v hi)⟩

def cat (ps : List Sl) : List Int := ps.flatMap Sl.l
theorem cat_take_succ (ps : List Sl) (k : Nat) (s : Sl) (h : ps[k]? = some s) : cat (ps.take (k + 1)) = cat (ps.take k) ++ s.l := by
  have hk : k < ps.length := by
    by_cases hk : k < ps.length
    · exact hk
    · rw [List.getElem?_eq_none (by omega)] at h; simp at h
  rw [List.take_succ_eq_append_getElem hk]
  rw [List.getElem?_eq_getElem hk] at h; simp at h
  simp [cat, h]
theorem cat_take_le (ps : List Sl) (k : Nat) : (cat (ps.take k)).length ≤ (cat ps).length := by
  have h : cat ps = cat (ps.take k) ++ cat (ps.drop k) := by
    unfold cat; rw [← List.flatMap_append, List.take_append_drop]
  rw [h, List.length_append]; omega

set_option maxHeartbeats 2000000 in
set_option maxRecDepth 100000 in
theorem join_any (pa : Option Addr) (pc : Nat) (ps : List Sl) (w : World) (hv : LiesV w pa (ps.map Sl.v)) (hok : ∀ s ∈ ps, s.Ok w)
    (hn : ps.length ≤ 1099511627776) (htot : (cat ps).length ≤ 1099511627776) :
    Calls Tryd.prog 20 #[.slice pa ps.length pc] w fun e w' => e = .returned (.slice (some ⟨w.heap.size, 0, none⟩) (cat ps).length (cat ps).length) ∧
      w'.ownsRow w.heap.size 5 1 (.slice (some ⟨w.heap.size, 0, none⟩) (cat ps).length (cat ps).length) (cat ps).length (U8 (cat ps)) ∧ Below w.heap.size w w' := by
  obtain ⟨i0, hi, hz0, hz1, hz2⟩ := info_parts Tryd.infoB
  obtain ⟨T, hT⟩ : ∃ T, T = (cat ps).length := ⟨_, rfl⟩
  have HT := hide hT
  have htot' : T ≤ 1099511627776 := by omega
  rw [← hT]
  have hbs : i0.bytes * T ≤ 281474976710656 := by rw [hz2]; omega
  have hmx : T ≤ maxLen := by unfold maxLen; omega
  clear hT htot
  go_enter Tryd.func20, Tryd.ntmps20
  go_wp2
  go_loop [3, 11] (fun t i => ∃ k : Nat, k ≤ ps.length ∧ i = .int .i64 k ∧ t = .int .i64 (cat (ps.take k)).length) (fun _ i => ps.length - (intOf i).toNat)
  case atStart => exact ⟨0, by omega, rfl, by simp [cat]⟩
  case round =>
    obtain ⟨k, hk, rfl, rfl⟩ := hrel
    have hle := cat_take_le ps k
    rw [← unhide HT] at hle
    by_cases hlt : k < ps.length
    · obtain ⟨s, hs⟩ : ∃ s, ps[k]? = some s := ⟨_, List.getElem?_eq_getElem hlt⟩
      have hmem : s ∈ ps := List.mem_of_getElem? hs
      have hso := hok s hmem
      obtain ⟨b, off, rfl, hbl, hc⟩ := hv (by simp; omega)
      have hck := hc k s.v (by simp [hs])
      have hlen := hso.len
      have hcs := cat_take_succ ps k s hs
      have hle2 := cat_take_le ps (k + 1)
      rw [← unhide HT, hcs, List.length_append] at hle2
      have HL := hide hlen
      have HC := hide hcs
      have hsn : (cat (ps.take k)).length + s.n ≤ 1099511627776 := by omega
      obtain ⟨sa, sn, sc, sl⟩ := s
      simp only [Sl.v] at hck hsn
      clear hc hs hmem hso hlen hcs hle2 hok hv
      generalize hq : (cat (ps.take k)).length = q at *
      have HQ := hide hq
      clear hq
      go_wp2
      go_round
      case rel => exact ⟨k + 1, by omega, by go_num, by rw [unhide HC, List.length_append, unhide HL, unhide HQ]; go_num⟩
      case measure => simp [intOf]; omega
    · have hkk : k = ps.length := by omega
      subst hkk
      rw [List.take_length, ← unhide HT]
      go_wp2_with (at_make; refine wpList_make_own _ rfl _ _ 24 rfl w.heap.size 5 i0 (.int .u8 0) 1 Tryd.underlying24 hi hz0 hz1 .i64 .i64 T T rfl rfl rfl hbs hmx (Nat.le_refl _) ?_)
      intro w1 hown hgrow
      have hb1 : Below w.heap.size w w1 := (Below.refl _ _).grown hgrow (Nat.le_refl _) (fun _ h => by cases h)
      clear hgrow
      go_wp2
      go_loopw [6, 24] (fun j i wr => ∃ k : Nat, k ≤ ps.length ∧ i = .int .i64 k ∧ j = .slice (some ⟨w.heap.size, 0, none⟩) (cat (ps.take k)).length T ∧
          wr.ownsRow w.heap.size 5 1 (.slice (some ⟨w.heap.size, 0, none⟩) (cat (ps.take k)).length T) (cat (ps.take k)).length (U8 (cat (ps.take k))) ∧ Below w.heap.size w wr)
        (fun _ i _ => ps.length - (intOf i).toNat)
      case atStart => exact ⟨0, by omega, rfl, by simp [cat], hown, hb1⟩
      case round =>
        obtain ⟨k, hk, rfl, rfl, hown, hbl⟩ := hrel
        by_cases hlt : k < ps.length
        · obtain ⟨s, hs⟩ : ∃ s, ps[k]? = some s := ⟨_, List.getElem?_eq_getElem hlt⟩
          have hmem : s ∈ ps := List.mem_of_getElem? hs
          have hso := (hok s hmem).later hbl
          obtain ⟨b, off, rfl, hbw, hc⟩ := hv.later hbl (by simp; omega)
          have hck := hc k s.v (by simp [hs])
          have hlen := hso.len
          have hcs := cat_take_succ ps k s hs
          have hle2 := cat_take_le ps (k + 1)
          rw [← unhide HT, hcs, List.length_append] at hle2
          have HC := hide hcs
          have HL := hide hlen
          have HSO := hide hso
          have HS := hide hs
          have hle3 : (cat (ps.take k)).length + s.n ≤ T := by omega
          obtain ⟨sa, sn, sc, sl⟩ := s
          simp only [Sl.v] at hck
          clear hc hs hmem hso hlen hcs hle2 hok hv
          go_wp2_with (at_builtin; refine wpList_append_fits_any _ rfl _ _ 24 rfl w.heap.size 5 i0 1 Tryd.underlying24 hi hz1 w.heap.size (cat (ps.take k)).length T (U8 (cat (ps.take k))) rfl hown sa sn sc (U8 sl) rfl (by have := unhide HL; simpa using this) (unhide HSO).nn (unhide HSO).cells (U8_one _) hle3 ?_)
          intro w2 hown2 hgrow2
          have hb2 : Below w.heap.size w w2 := hbl.grown hgrow2 hbl.size (fun _ h => by cases h; exact Nat.le_refl _)
          clear hgrow2 hown hck
          go_wp2
          go_roundw
          case rel =>
            have hl := unhide HL
            have hc := unhide HC
            have e1 : (cat (ps.take (k + 1))).length = (cat (ps.take k)).length + sn := by rw [hc, List.length_append]; omega
            have e2 : U8 (cat (ps.take (k + 1))) = U8 (cat (ps.take k)) ++ U8 sl := by rw [hc]; simp [U8]
            exact ⟨k + 1, by omega, by go_num, by rw [e1], by rw [e1, e2]; exact hown2, hb2⟩
          case measure => simp [intOf]; omega
        · have hkk : k = ps.length := by omega
          subst hkk
          rw [List.take_length, ← unhide HT] at hown
          go_wp2
          go_ret
          rw [List.take_length, ← unhide HT]
          exact ⟨rfl, hown, hbl⟩
end Go.Proofs.YtkagnpnicbddlaaDoor
