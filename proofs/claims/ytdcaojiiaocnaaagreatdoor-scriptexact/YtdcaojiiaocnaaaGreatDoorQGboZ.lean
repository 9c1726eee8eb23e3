import Derived.Test.YtdcaojiiaocnaaaGreatDoorQGbiZ
import Derived.Maps.AppendAt
set_option linter.unusedSimpArgs false
set_option linter.unusedVariables false
namespace Go.Proofs.YtdcaojiiaocnaaaGreatDoor
open Go.RowKit

/-! The document's Lines: a list under way and a line under way, apart. -/
def LnS (w : World) (out : List (List Int)) (line : List Int) (ov lv : Value) (X : World) : Prop :=
  ∃ ss : List (Sx Int), Osb X w.heap.size ov ss ∧ ss.map (·.xs) = out ∧ Ou X w.heap.size lv line ∧ (∀ s ∈ ss, ∀ k, s.v.ownBlock = some k → lv.ownBlock ≠ some k) ∧ Below w.heap.size w X
theorem LnS.app {w X X3 : World} {out : List (List Int)} {line : List Int} {b : Int} {ov lv v' : Value} {tmp : Obj} (h : LnS w out line ov lv X) (hO' : Ou X3 w.heap.size v' (line ++ [b])) (hg : (X.alloc tmp).grownBy X3 lv.ownBlock) (hl : v'.ownBlock = lv.ownBlock ∨ v'.ownBlock = some (X.alloc tmp).heap.size) : LnS w out (line ++ [b]) ov v' X3 := by
  obtain ⟨ss, h1, h2, h3, h4, h5⟩ := h
  have hk : ∀ k, k < X.heap.size → lv.ownBlock ≠ some k → X3.heap[k]? = X.heap[k]? := fun k hk hn => (hg.block k (by simp; omega) (fun e => hn e.symm)).trans (Below.heap_alloc _ _ _ hk)
  refine ⟨ss, ⟨own_blk h1.own (fun g hg' => ?_), fun s hs => own_blk (h1.el s hs) (fun g hg' => ?_), h1.ap⟩, h2, hO', fun s hs k hk' => ?_, ?_⟩
  · obtain ⟨-, hlt, cur, hc⟩ := own_cells h1.own hg'
    refine hk g hlt (fun e => ?_)
    obtain ⟨-, -, cur', hc'⟩ := own_cells h3 e
    rw [hc'] at hc
    have := Option.some.inj hc
    simp only [Obj.cells.injEq] at this
    exact absurd this.2.1 (by decide)
  · obtain ⟨-, hlt, -⟩ := own_cells (h1.el s hs) hg'
    exact hk g hlt (h4 s hs g hg')
  · rcases hl with hl | hl
    · rw [hl]; exact h4 s hs k hk'
    · rw [hl]
      have := (own_cells (h1.el s hs) hk').2.1
      simp; omega
  · refine ⟨hg.os.trans h5.os, hg.tape.trans h5.tape, hg.output.trans h5.output, ?_, fun k hk' => ?_⟩
    · have := hg.size; simp at this; have := h5.size; omega
    · refine (hk k (Nat.lt_of_lt_of_le hk' h5.size) (fun e => ?_)).trans (h5.block k hk')
      have := (own_cells h3 e).1; omega
theorem LnS.cut0 {w X : World} {out : List (List Int)} {line : List Int} {ov lv : Value} (h : LnS w out line ov lv X) : LnS w out [] ov (.slice none 0 0) X := by
  obtain ⟨ss, h1, h2, h3, h4, h5⟩ := h
  exact ⟨ss, h1, h2, ou_nil25 _ _, fun _ _ _ _ => by simp [Value.ownBlock], h5⟩
theorem LnS.flush {w X X3 : World} {out : List (List Int)} {line : List Int} {ov v' : Value} {lv : Sx Int} {ss : List (Sx Int)} {tmp : Obj} (h1 : Osb X w.heap.size ov ss) (h2 : ss.map (·.xs) = out) (h3 : Ou X w.heap.size lv.v line) (h4 : ∀ s ∈ ss, ∀ k, s.v.ownBlock = some k → lv.v.ownBlock ≠ some k) (h5 : Below w.heap.size w X) (hx : lv.xs = line)
    (hO' : X3.ownsRow w.heap.size 28 1 v' (ss.length + 1) (ss.map (·.v) ++ [lv.v])) (hg : (X.alloc tmp).grownBy X3 ov.ownBlock) : LnS w (out ++ [line]) [] v' (.slice none 0 0) X3 := by
  have hk : ∀ k, k < X.heap.size → ov.ownBlock ≠ some k → X3.heap[k]? = X.heap[k]? := fun k hk hn => (hg.block k (by simp; omega) (fun e => hn e.symm)).trans (Below.heap_alloc _ _ _ hk)
  have hu : ∀ (s : Sx Int) (xs : List Int), Ou X w.heap.size s.v xs → Ou X3 w.heap.size s.v xs := fun s xs hs => own_blk hs (fun g hg' => by
    obtain ⟨-, hlt, cur, hc⟩ := own_cells hs hg'
    refine hk g hlt (fun e => ?_)
    obtain ⟨-, -, cur', hc'⟩ := own_cells h1.own e
    rw [hc'] at hc
    have := Option.some.inj hc
    simp only [Obj.cells.injEq] at this
    exact absurd this.2.1 (by decide))
  refine ⟨ss ++ [lv], ⟨by simpa using hO', fun s hs => ?_, ?_⟩, by rw [List.map_append, h2]; simp [hx], ou_nil25 _ _, fun _ _ _ _ => by simp [Value.ownBlock], ?_⟩
  · rcases List.mem_append.1 hs with hs | hs
    · exact hu s _ (h1.el s hs)
    · obtain rfl : s = lv := by simpa using hs
      rw [hx]; exact hu s _ h3
  · refine List.pairwise_append.2 ⟨h1.ap, List.pairwise_singleton _ _, fun s hs s' hs' k hk hk' => ?_⟩
    obtain rfl : s' = lv := by simpa using hs'
    exact h4 s hs k hk hk'
  · refine ⟨hg.os.trans h5.os, hg.tape.trans h5.tape, hg.output.trans h5.output, ?_, fun k hk' => ?_⟩
    · have := hg.size; simp at this; have := h5.size; omega
    · refine (hk k (Nat.lt_of_lt_of_le hk' h5.size) (fun e => ?_)).trans (h5.block k hk')
      have := (own_cells h1.own e).1; omega
def stK (l : List Int) (k : Nat) : List (List Int) × List Int := if k ≤ l.length then stLn (l.take k) else (linesL l, [])
theorem stK_byte {l : List Int} {k : Nat} {y : Int} (h : l[k]? = some y) (hy : y ≠ 10) : stK l (k + 1) = ((stK l k).1, (stK l k).2 ++ [y]) := by
  have hlt := (List.getElem?_eq_some_iff.1 h).1
  unfold stK
  rw [if_pos (by omega), if_pos (by omega), List.take_add_one, h]
  show stLn (l.take k ++ [y]) = _
  rw [stLn_snoc]; unfold stepLn; rw [if_neg hy]
theorem stK_cut {l : List Int} {k : Nat} (h : l[k]? = some 10 ∨ k = l.length) : stK l (k + 1) = (flushL (stK l k).1 (stK l k).2, []) := by
  rcases h with h | rfl
  · have hlt := (List.getElem?_eq_some_iff.1 h).1
    unfold stK
    rw [if_pos (by omega), if_pos (by omega), List.take_add_one, h]
    show stLn (l.take k ++ [10]) = _
    rw [stLn_snoc]; unfold stepLn; rw [if_pos rfl]
  · unfold stK
    rw [if_neg (by omega), if_pos (Nat.le_refl _), List.take_of_length_le (Nat.le_refl _)]; rfl
theorem stK_0 (l : List Int) : stK l 0 = ([], []) := rfl
theorem flush_no {out : List (List Int)} {line : List Int} (h : ¬ (line ≠ [] ∧ line.head? ≠ some 35)) : flushL out line = out := by unfold flushL; rw [if_neg h]
theorem flush_yes {out : List (List Int)} {line : List Int} (h : line ≠ [] ∧ line.head? ≠ some 35) : flushL out line = out ++ [line] := by unfold flushL; rw [if_pos h]
theorem stK_len (l : List Int) (k : Nat) : (stK l k).1.length ≤ l.length + 1 ∧ (stK l k).2.length ≤ l.length := by
  have h : ∀ (t : List Int) (s : List (List Int) × List Int), (t.foldl stepLn s).1.length ≤ s.1.length + t.length ∧ (t.foldl stepLn s).2.length ≤ s.2.length + t.length := by
    intro t
    induction t with
    | nil => intro s; simp
    | cons c r ih =>
      intro s
      rw [List.foldl_cons]
      have h1 := ih (stepLn s c)
      have hf : (flushL s.1 s.2).length ≤ s.1.length + 1 := by unfold flushL; split <;> simp
      have h2 : (stepLn s c).1.length ≤ s.1.length + 1 ∧ (stepLn s c).2.length ≤ s.2.length + 1 := by
        unfold stepLn; split
        · exact ⟨hf, by simp⟩
        · simp
      rw [List.length_cons]; omega
  have hst : ∀ t : List Int, (stLn t).1.length ≤ t.length ∧ (stLn t).2.length ≤ t.length := fun t => by
    have := h t ([], []); simpa [stLn] using this
  unfold stK
  split
  · have := hst (l.take k)
    rw [List.length_take] at this
    omega
  · have := hst l
    have hf : (linesL l).length ≤ (stLn l).1.length + 1 := by unfold linesL flushL; split <;> simp
    simp only [List.length_nil]; omega

/-! The document's Lines. -/
theorem Tryz.infoS2 : (Tryz.prog.info? 28).map (fun i => (i.zero, i.size, i.bytes)) = some (some (.slice none 0 0), 1, 24) := by kernel_rfl
theorem Tryz.infoU2 : (Tryz.prog.info? 5).map (fun i => (i.zero, i.size, i.bytes)) = some (some (.int .u8 0), 1, 1) := by kernel_rfl
set_option maxHeartbeats 4000000 in
set_option maxRecDepth 100000 in
theorem reflines_any (s : Sx Int) (w : World) (hs : Su w s) (hb : IsB s.xs) (hm : s.n ≤ 1048576) :
    Calls Tryz.prog 20 #[s.v] w fun e w' => ∃ (v : Value) (ss : List (Sx Int)), e = .returned v ∧ ss.map (·.xs) = linesL s.xs ∧ Osb w' w.heap.size v ss ∧ Below w.heap.size w w' := by
  obtain ⟨a, n, c, l⟩ := s
  have hm' : n ≤ 1048576 := hm
  have hl : l.length = n := hs.len
  simp only [Sx.v]
  obtain ⟨iS, hiS, hzS0, hzS1, hzS2⟩ := info_parts Tryz.infoS2
  obtain ⟨iU, hiU, hzU0, hzU1, hzU2⟩ := info_parts Tryz.infoU2
  go_enter Tryz.func20, Tryz.ntmps20
  go_wp2
  go_loopw [3, 4, 5] (fun vo vl vi wr => ∃ k : Nat, k ≤ n + 1 ∧ vi = .int .i64 k ∧ LnS w (stK l k).1 (stK l k).2 vo vl wr) (fun _ _ vi _ => n + 1 - (intOf vi).toNat)
  case atStart => exact ⟨0, by omega, rfl, [], ⟨World.ownsRow_nil _ _ _ _, (fun s hs => by cases hs), List.Pairwise.nil⟩, rfl, ou_nil25 _ _, (fun s hs => by cases hs), Below.refl _ _⟩
  case round =>
    obtain ⟨k, hk, rfl, HL⟩ := hrel
    by_cases hle : k ≤ n
    · have hlez : (k : Int) ≤ (n : Int) := by omega
      have hkw : IntKind.i64.wrap ((k : Int) + 1) = (k : Int) + 1 := wi_of24 (by omega) (by omega)
      obtain ⟨st1, hst1⟩ : ∃ x, (stK l k).1 = x := ⟨_, rfl⟩
      obtain ⟨st2, hst2⟩ : ∃ x, (stK l k).2 = x := ⟨_, rfl⟩
      have hlen := stK_len l k
      rw [hst1, hst2] at hlen
      rw [hst1, hst2] at HL
      by_cases hlt : k < n
      · have hltz : (k : Int) < (n : Int) := by omega
        have hbel : Below w.heap.size w wr := HL.choose_spec.2.2.2.2
        have hsr : Su wr ⟨a, n, c, l⟩ := hs.old ⟨hbel.size, hbel.block⟩
        obtain ⟨b, off, h1, -, h3⟩ := hsr.lies (show 0 < n by omega)
        have h1' : a = some ⟨b, off, none⟩ := h1
        subst h1'
        clear h1
        obtain ⟨y, hy⟩ : ∃ y, l[k]? = some y := ⟨_, List.getElem?_eq_getElem (by omega)⟩
        have hcy : wr.cell? ⟨b, off + k, none⟩ = some (.int .u8 y) := by
          have h9 := h3 k y hy 0 _ rfl
          simpa using h9
        clear h3
        by_cases h10 : y = 10
        · subst h10
          have hnext : stK l (k + 1) = (flushL st1 st2, []) := by rw [stK_cut (.inl hy), hst1, hst2]
          obtain ⟨ss, h1, h2, h3, h4, h5⟩ := HL
          obtain ⟨sv, rfl, hsx, hsS⟩ : ∃ sv : Sx Int, u4 = sv.v ∧ sv.xs = st2 ∧ Su wr sv := by
            obtain ⟨sv, e, hx, hok, -⟩ := Ou.su h3
            exact ⟨sv, e, hx, hok⟩
          obtain ⟨la, ln, lc, ll⟩ := sv
          simp only [Sx.v] at h3 h4 ⊢
          have hll : ll.length = ln := hsS.len
          have hsx' : ll = st2 := hsx
          by_cases hn0 : ln = 0
          · have hnz : ¬ (0 : Int) < (ln : Int) := by omega
            have hno : flushL st1 st2 = st1 := flush_no (fun h => h.1 (by rw [← hsx']; exact List.eq_nil_of_length_eq_zero (by omega)))
            go_wp2_with fail
            go_roundw
            case rel => exact ⟨k + 1, by omega, by go_num, by rw [hnext, hno]; exact ⟨ss, h1, h2, ou_nil25 _ _, fun _ _ _ _ => by simp [Value.ownBlock], h5⟩⟩
            case measure => first | (simp [intOf]; done) | (simp [intOf]; omega)
          · have hnz : (0 : Int) < (ln : Int) := by omega
            obtain ⟨b8, o8, e8, -, h8⟩ := hsS.lies (show 0 < ln by omega)
            have e8' : la = some ⟨b8, o8, none⟩ := e8
            subst e8'
            obtain ⟨q, hq⟩ : ∃ q, ll.head? = some q := by
              cases ll with
              | nil => simp at hll; omega
              | cons q r => exact ⟨q, rfl⟩
            have hc8 : wr.cell? ⟨b8, o8, none⟩ = some (.int .u8 q) := by
              have h9 := h8 0 q (by rw [← hq, List.head?_eq_getElem?]) 0 _ rfl
              simpa [addr_add] using h9
            have hne : st2 ≠ [] := fun e => by rw [← hsx'] at e; rw [e] at hq; cases hq
            by_cases h35 : q = 35
            · subst h35
              have hno : flushL st1 st2 = st1 := flush_no (fun h => h.2 (by rw [← hsx']; exact hq))
              go_wp2_with fail
              go_roundw
              case rel => exact ⟨k + 1, by omega, by go_num, by rw [hnext, hno]; exact ⟨ss, h1, h2, ou_nil25 _ _, fun _ _ _ _ => by simp [Value.ownBlock], h5⟩⟩
              case measure => first | (simp [intOf]; done) | (simp [intOf]; omega)
            · have h35b : (q != 35) = true := by simpa using h35
              have hyes : flushL st1 st2 = st1 ++ [st2] := flush_yes ⟨hne, fun e => h35 (by rw [← hsx', hq] at e; exact Option.some.inj e)⟩
              have hlen2 : ss.length ≤ 1048600 := by
                have e9 : ss.length = st1.length := by rw [← h2, List.length_map]
                omega
              go_upto_region 9 with fail
              refine wp_region_lit ?_
              refine wl (by kernel_rfl) fun kQ hkQ => ?_
              go_simp
              refine hkQ _ _ ?_
              clear hkQ kQ
              refine wl (by kernel_rfl) fun kQ hkQ => ?_
              go_simp
              refine hkQ _ _ ?_
              clear hkQ kQ
              refine wl (by kernel_rfl) fun kQ hkQ => ?_
              go_simp
              refine hkQ _ _ ?_
              clear hkQ kQ
              refine wpList_append_own_at rfl _ _ 24 rfl w.heap.size 28 iS (.slice none 0 0) 1 24 Tryz.underlying24 hiS hzS0 hzS1 hzS2 rfl (by decide) _ ss.length (ss.map (·.v)) rfl (h1.keep (fun k' o' hk' _ _ => (Below.heap_alloc _ _ _ (Array.getElem?_eq_some_iff.1 hk').1).trans hk')).own ⟨wr.heap.size, 0, none⟩ 1 1 [.slice (some ⟨b8, o8, none⟩) ln lc] rfl rfl (cell_one_new _ _ _) (by simp [Value.oneCell']) (by unfold maxLen; omega) (by omega) (by have := h5.size; first | (simp; done) | (simp; omega)) ?_
              intro v' w1 hown' hgrow _
              simp [Act.put]
              refine wl (by kernel_rfl) fun kQ hkQ => ?_
              go_simp
              refine hkQ _ _ ?_
              clear hkQ kQ
              refine wpList_nil ?_
              go_wp2_with fail
              go_roundw
              case rel => exact ⟨k + 1, by omega, by go_num, by rw [hnext, hyes]; exact LnS.flush (lv := ⟨some ⟨b8, o8, none⟩, ln, lc, ll⟩) h1 h2 h3 h4 h5 hsx hown' hgrow⟩
              case measure => first | (simp [intOf]; done) | (simp [intOf]; omega)
        · have h10b : (y != 10) = true := by simpa using h10
          have hnext : stK l (k + 1) = (st1, st2 ++ [y]) := by rw [stK_byte hy h10, hst1, hst2]
          obtain ⟨ss, h1, h2, h3, h4, h5⟩ := HL
          have hHL : LnS w st1 st2 u3 u4 wr := ⟨ss, h1, h2, h3, h4, h5⟩
          have h3' : Ou (wr.alloc (.cells #[.int .u8 y] 5)) w.heap.size u4 st2 := own_blk h3 (fun g hg => Below.heap_alloc _ _ _ (own_cells h3 hg).2.1)
          obtain ⟨la, ln, lc, rfl⟩ : ∃ a n c, u4 = .slice a n c := by
            rcases h3.2 with ⟨h, -⟩ | ⟨g, cap, cur, h, -⟩
            · exact ⟨_, _, _, h⟩
            · exact ⟨_, _, _, h⟩
          go_upto_region 7 with fail
          refine wp_region_lit ?_
          refine wl (by kernel_rfl) fun kQ hkQ => ?_
          go_simp
          refine hkQ _ _ ?_
          clear hkQ kQ
          refine wl (by kernel_rfl) fun kQ hkQ => ?_
          go_simp
          refine hkQ _ _ ?_
          clear hkQ kQ
          refine wl (by kernel_rfl) fun kQ hkQ => ?_
          go_simp
          refine hkQ _ _ ?_
          clear hkQ kQ
          refine wl (by kernel_rfl) fun kQ hkQ => ?_
          go_simp
          refine hkQ _ _ ?_
          clear hkQ kQ
          refine wl (by kernel_rfl) fun kQ hkQ => ?_
          go_simp
          refine hkQ _ _ ?_
          clear hkQ kQ
          refine wl (by kernel_rfl) fun kQ hkQ => ?_
          go_simp
          refine hkQ _ _ ?_
          clear hkQ kQ
          refine wpList_append_own_at rfl _ _ 28 rfl w.heap.size 5 iU (.int .u8 0) 1 1 Tryz.underlying28 hiU hzU0 hzU1 hzU2 rfl (by decide) _ st2.length (st2.flatMap uC) rfl h3' ⟨wr.heap.size, 0, none⟩ 1 1 [.int .u8 y] rfl rfl (cell_one_new _ _ _) (by simp [Value.oneCell']) (by unfold maxLen; omega) (by omega) (by have := h5.size; first | (simp; done) | (simp; omega)) ?_
          intro v' w1 hown' hgrow hloc
          simp [Act.put]
          refine wl (by kernel_rfl) fun kQ hkQ => ?_
          go_simp
          refine hkQ _ _ ?_
          clear hkQ kQ
          refine wpList_nil ?_
          go_wp2_with fail
          go_roundw
          case rel =>
            refine ⟨k + 1, by omega, by go_num, ?_⟩
            rw [hnext]
            refine LnS.app hHL ?_ hgrow hloc
            have e9 : (st2 ++ [y]).flatMap uC = st2.flatMap uC ++ [.int .u8 y] := by rw [List.flatMap_append]; rfl
            show w1.ownsRow _ _ 1 v' (st2 ++ [y]).length ((st2 ++ [y]).flatMap uC)
            rw [e9, List.length_append]; exact hown'
          case measure => first | (simp [intOf]; done) | (simp [intOf]; omega)
      · obtain rfl : k = n := by omega
        have hltz : ¬ (k : Int) < (k : Int) := by omega
        have hnext : stK l (k + 1) = (flushL st1 st2, []) := by rw [stK_cut (.inr hl.symm), hst1, hst2]
        obtain ⟨ss, h1, h2, h3, h4, h5⟩ := HL
        obtain ⟨sv, rfl, hsx, hsS⟩ : ∃ sv : Sx Int, u4 = sv.v ∧ sv.xs = st2 ∧ Su wr sv := by
          obtain ⟨sv, e, hx, hok, -⟩ := Ou.su h3
          exact ⟨sv, e, hx, hok⟩
        obtain ⟨la, ln, lc, ll⟩ := sv
        simp only [Sx.v] at h3 h4 ⊢
        have hll : ll.length = ln := hsS.len
        have hsx' : ll = st2 := hsx
        by_cases hn0 : ln = 0
        · have hnz : ¬ (0 : Int) < (ln : Int) := by omega
          have hno : flushL st1 st2 = st1 := flush_no (fun h => h.1 (by rw [← hsx']; exact List.eq_nil_of_length_eq_zero (by omega)))
          go_wp2_with fail
          go_roundw
          case rel => exact ⟨k + 1, by omega, by go_num, by rw [hnext, hno]; exact ⟨ss, h1, h2, ou_nil25 _ _, fun _ _ _ _ => by simp [Value.ownBlock], h5⟩⟩
          case measure => first | (simp [intOf]; done) | (simp [intOf]; omega)
        · have hnz : (0 : Int) < (ln : Int) := by omega
          obtain ⟨b8, o8, e8, -, h8⟩ := hsS.lies (show 0 < ln by omega)
          have e8' : la = some ⟨b8, o8, none⟩ := e8
          subst e8'
          obtain ⟨q, hq⟩ : ∃ q, ll.head? = some q := by
            cases ll with
            | nil => simp at hll; omega
            | cons q r => exact ⟨q, rfl⟩
          have hc8 : wr.cell? ⟨b8, o8, none⟩ = some (.int .u8 q) := by
            have h9 := h8 0 q (by rw [← hq, List.head?_eq_getElem?]) 0 _ rfl
            simpa [addr_add] using h9
          have hne : st2 ≠ [] := fun e => by rw [← hsx'] at e; rw [e] at hq; cases hq
          by_cases h35 : q = 35
          · subst h35
            have hno : flushL st1 st2 = st1 := flush_no (fun h => h.2 (by rw [← hsx']; exact hq))
            go_wp2_with fail
            go_roundw
            case rel => exact ⟨k + 1, by omega, by go_num, by rw [hnext, hno]; exact ⟨ss, h1, h2, ou_nil25 _ _, fun _ _ _ _ => by simp [Value.ownBlock], h5⟩⟩
            case measure => first | (simp [intOf]; done) | (simp [intOf]; omega)
          · have h35b : (q != 35) = true := by simpa using h35
            have hyes : flushL st1 st2 = st1 ++ [st2] := flush_yes ⟨hne, fun e => h35 (by rw [← hsx', hq] at e; exact Option.some.inj e)⟩
            have hlen2 : ss.length ≤ 1048600 := by
              have e9 : ss.length = st1.length := by rw [← h2, List.length_map]
              omega
            go_upto_region 9 with fail
            refine wp_region_lit ?_
            refine wl (by kernel_rfl) fun kQ hkQ => ?_
            go_simp
            refine hkQ _ _ ?_
            clear hkQ kQ
            refine wl (by kernel_rfl) fun kQ hkQ => ?_
            go_simp
            refine hkQ _ _ ?_
            clear hkQ kQ
            refine wl (by kernel_rfl) fun kQ hkQ => ?_
            go_simp
            refine hkQ _ _ ?_
            clear hkQ kQ
            refine wpList_append_own_at rfl _ _ 24 rfl w.heap.size 28 iS (.slice none 0 0) 1 24 Tryz.underlying24 hiS hzS0 hzS1 hzS2 rfl (by decide) _ ss.length (ss.map (·.v)) rfl (h1.keep (fun k' o' hk' _ _ => (Below.heap_alloc _ _ _ (Array.getElem?_eq_some_iff.1 hk').1).trans hk')).own ⟨wr.heap.size, 0, none⟩ 1 1 [.slice (some ⟨b8, o8, none⟩) ln lc] rfl rfl (cell_one_new _ _ _) (by simp [Value.oneCell']) (by unfold maxLen; omega) (by omega) (by have := h5.size; first | (simp; done) | (simp; omega)) ?_
            intro v' w1 hown' hgrow _
            simp [Act.put]
            refine wl (by kernel_rfl) fun kQ hkQ => ?_
            go_simp
            refine hkQ _ _ ?_
            clear hkQ kQ
            refine wpList_nil ?_
            go_wp2_with fail
            go_roundw
            case rel => exact ⟨k + 1, by omega, by go_num, by rw [hnext, hyes]; exact LnS.flush (lv := ⟨some ⟨b8, o8, none⟩, ln, lc, ll⟩) h1 h2 h3 h4 h5 hsx hown' hgrow⟩
            case measure => first | (simp [intOf]; done) | (simp [intOf]; omega)
    · obtain rfl : k = n + 1 := by omega
      have hlez : ¬ ((n + 1 : Nat) : Int) ≤ (n : Int) := by omega
      have hst : stK l (n + 1) = (linesL l, []) := by unfold stK; rw [if_neg (by omega)]
      rw [hst] at HL
      obtain ⟨ss, h1, h2, h3, h4, h5⟩ := HL
      go_wp2_with fail
      go_ret
      exact ⟨_, rfl, ss, h2, h1, h5⟩
end Go.Proofs.YtdcaojiiaocnaaaGreatDoor
