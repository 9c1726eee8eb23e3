import Derived.Test.YtmdpmkdofgligaaRdM
import Derived.Test.YtmdpmkdofgligaaREn
import Derived.Test.YtmdpmkdofgligaaScaN
set_option linter.unusedSimpArgs false
set_option linter.unusedVariables false
namespace Go.Proofs.Ytmdpmkdofgligaa
open Go.RowKit

/-- a frame as the document's Scan tells it -/
structure Ry where
  k : Int
  v : Value
  p : List Int
def Ry.d (y : Ry) : Int × List Int := (y.k, y.p)
def ryC : List Ry → List Value
  | [] => []
  | y :: ys => .int .u8 y.k :: y.v :: ryC ys
theorem ryC_append (a b : List Ry) : ryC (a ++ b) = ryC a ++ ryC b := by
  induction a with
  | nil => rfl
  | cons x a ih => simp only [List.cons_append, ryC, ih]
theorem mz_tail {r : List Int} (h : (mz r).1 = 0) (hr : r ≠ []) : (mz r).2 ≠ 0 := by
  unfold mz at h ⊢
  have hl : r.length ≠ 0 := fun e => hr (List.eq_nil_of_length_eq_zero e)
  rw [if_neg hl] at h ⊢
  split at h <;> rename_i h1
  · rw [if_pos h1]; decide
  rw [if_neg h1]
  split at h <;> rename_i h2
  · rw [if_pos h2]; decide
  rw [if_neg h2]
  split at h <;> rename_i h3
  · rw [if_pos h3]; decide
  rw [if_neg h3]
  split at h <;> rename_i h4
  · rw [if_pos h4]; decide
  rw [if_neg h4]
  split at h <;> rename_i h5
  · rw [if_pos h5]; decide
  · simp at h
theorem Rw.apt {B B' : Nat} {v V : Value} {l : List Int} {e n sz : Nat} {xs : List Value} {W W' : World} (h : Rw B v l W) (hV : W.ownsRow B' e sz V n xs) (he : e ≠ 5) (hg : W.grownBy W' V.ownBlock) : Rw B v l W' := by
  refine ⟨?_, h.2⟩
  obtain ⟨h1, h2⟩ := h.1
  refine ⟨h1, ?_⟩
  rcases h2 with h2 | ⟨b, cap, cur, r1, r2, r3, r4⟩
  · exact .inl h2
  · refine .inr ⟨b, cap, cur, r1, r2, (hg.block b (Array.getElem?_eq_some_iff.1 r3).1 (fun e' => own_typ hV r3 (fun e2 => he e2.symm) e'.symm)).trans r3, r4⟩
theorem own_laterG {w w' : World} {base e sz n : Nat} {v : Value} {xs : List Value} (h : w.ownsRow base e sz v n xs) (hb : Below w.heap.size w w') : w'.ownsRow base e sz v n xs := own_blk h (fun g hg => hb.block g (h.lt g hg).2)
set_option maxHeartbeats 4000000 in
set_option maxRecDepth 100000 in
theorem rscan_any (d : Sl) (fs : List (Int × List Int)) (r : List Int) (w : World) (hd : d.Ok w) (hl : d.l = flat fs ++ r) (hfs : Okf fs) (hr : (mz r).1 = 0) (hsz : d.n ≤ 1099511627776) :
    Calls Try.prog 20 #[d.v] w fun e w' => ∃ V ys, e = .returned (.tuple #[V, .int .i64 (flat fs).length, .int .i64 (mz r).2]) ∧ w'.ownsRow w.heap.size 39 2 V ys.length (ryC ys) ∧
      ys.map Ry.d = fs ∧ (∀ y ∈ ys, Rw w.heap.size y.v y.p w') ∧ Below w.heap.size w w' := by
  obtain ⟨i0, hi, hz0, hz1, hz2⟩ := info_parts Try.infoF
  obtain ⟨a, n, c, L⟩ := d
  have hlen : L.length = n := hd.len
  have hsz' : n ≤ 1099511627776 := hsz
  have hl' : L = flat fs ++ r := hl
  have HD := hide hd
  have HL := hide hl'
  have HFS := hide hfs
  have HR := hide hr
  have HLN := hide hlen
  simp only [Sl.v]
  obtain ⟨t, ht⟩ : ∃ t, t = (mz r).2 := ⟨_, rfl⟩
  obtain ⟨E, hE⟩ : ∃ E, E = (flat fs).length := ⟨_, rfl⟩
  rw [← ht, ← hE]
  have HT := hide ht
  have HE := hide hE
  clear hd hl hl' hfs hr hsz hlen ht hE
  go_enter Try.func20, Try.ntmps20
  go_wp2
  go_loopw [5, 6, 7, 8, 9] (fun lv iv _ _ _ wr => ∃ (ys : List Ry) (o : Nat) (fs' : List (Int × List Int)), iv = .int .i64 o ∧ o ≤ n ∧ Hid (L.drop o = flat fs' ++ r ∧ ys.map Ry.d ++ fs' = fs ∧ o + (flat fs').length = E) ∧ Hid (wr.ownsRow w.heap.size 39 2 lv ys.length (ryC ys)) ∧ Hid (∀ y ∈ ys, Rw w.heap.size y.v y.p wr) ∧ Below w.heap.size w wr)
    (fun _ iv _ _ _ _ => n - (intOf iv).toNat)
  case atStart => exact ⟨[], 0, fs, rfl, by omega, hide ⟨by rw [List.drop_zero]; exact unhide HL, rfl, by rw [unhide HE, Nat.zero_add]⟩, hide (World.ownsRow_nil _ _ _ _), hide (fun y hy => by cases hy), Below.refl _ _⟩
  case round =>
    obtain ⟨ys, o, fs', rfl, ho, HF, HO, HY, hB⟩ := hrel
    obtain ⟨la, lc, hform⟩ : ∃ la lc, u5 = .slice la ys.length lc := by
      rcases (unhide HO).2 with ⟨h, h0⟩ | ⟨g, c, cur, h, -⟩
      · exact ⟨none, 0, by rw [h, h0]⟩
      · exact ⟨_, _, h⟩
    subst hform
    by_cases hlt : o < n
    · have hoz : (o : Int) < (n : Int) := by omega
      have hdr : Sl.Ok wr ⟨a, n, c, L⟩ := (unhide HD).later hB
      cases fs' with
      | nil =>
        have hdn := (unhide HF).1
        simp only [flat, List.nil_append] at hdn
        have hD := rdecode_none ⟨a, n, c, L⟩ o wr hdr ho (by simp only; rw [hdn]; exact unhide HR)
        simp only [Sl.v, fr0, frV, hdn] at hD
        rw [← unhide HT] at hD
        have hne : r ≠ [] := fun e => by
          have h := congrArg List.length hdn
          rw [List.length_drop, unhide HLN, e, List.length_nil] at h
          omega
        have ht0 : (t != 0) = true := by rw [bne_iff_ne, unhide HT]; exact mz_tail (unhide HR) hne
        have hEo : Hid (o = E) := hide (by have h := (unhide HF).2.2; simpa [flat] using h)
        have hys : Hid (ys.map Ry.d = fs) := hide (by have h := (unhide HF).2.1; simpa using h)
        clear hdn hne
        go_wp2_with (go_at_call 11; refine hD.mono ?_; rintro e w2 ⟨rfl, b2⟩; clear hD)
        refine bodyPost_ret (results_tmp3 rfl _ _ _) rfl ?_
        have b3 := bel_then b2 b2.size (below_alloc w2 (.cells #[.int .u8 0, .slice none 0 0] 39))
        rw [← unhide hEo]
        refine ⟨_, ys, rfl, own_laterG (unhide HO) b3, unhide hys, fun y hy => ((unhide HY) y hy).later b3, bel_then hB hB.size b3⟩
      | cons f fs'' =>
        have hdn := (unhide HF).1
        simp only [flat, List.append_assoc] at hdn
        obtain ⟨k, p⟩ := f
        have hfm : (k, p) ∈ fs := by rw [← (unhide HF).2.1]; simp
        obtain ⟨hfk, hfB, hfl⟩ := unhide HFS _ hfm
        simp only at hfk hfB hfl hdn
        have hmz := mz_enc k p (flat fs'' ++ r) hfk hfB hfl
        have hlen : o + p.length + 10 ≤ n := by
          have h := congrArg List.length hdn
          rw [List.length_drop, List.length_append, encL_length, unhide HLN] at h
          omega
        have hD := rdecode_some ⟨a, n, c, L⟩ o p.length wr hdr (by simp only; rw [hdn]; exact hmz) hlen
        have hk1 : L.getD (o + 1) 0 = k := by
          have h := enc_kind k p (flat fs'' ++ r)
          rw [← hdn] at h
          simpa [List.getD, List.getElem?_drop] using h
        have hp1 : (L.drop (o + 6)).take p.length = p := by
          have h := enc_pay k p (flat fs'' ++ r)
          rw [← hdn, List.drop_drop] at h
          exact h
        simp only [Sl.v, hk1, hp1, frV] at hD
        obtain ⟨N, hN⟩ : ∃ N, N = p.length := ⟨_, rfl⟩
        have HF2 : Hid (L.drop (o + N + 10) = flat fs'' ++ r ∧ (ys.map Ry.d ++ [(k, p)]) ++ fs'' = fs ∧ o + N + 10 + (flat fs'').length = E) := hide (by
          have h := congrArg (List.drop (p.length + 10)) hdn
          rw [List.drop_drop, List.drop_left' (encL_length k p)] at h
          rw [hN, Nat.add_assoc]
          refine ⟨h, by rw [List.append_assoc]; exact (unhide HF).2.1, ?_⟩
          have h3 := (unhide HF).2.2
          simp only [flat, List.length_append, encL_length] at h3
          omega)
        have hys : ys.length ≤ 1099511627776 := by
          have h1 := flat_len fs
          have h2 := congrArg List.length (unhide HF).2.1
          have h3 := congrArg List.length (unhide HL)
          rw [List.length_append, List.length_map] at h2
          rw [List.length_append, unhide HLN] at h3
          omega
        rw [← hN] at hD hlen
        have HPB := hide hfB
        have HNN := hide hN
        clear hdn hmz hk1 hp1 hfk hN hfB hfl hfm
        go_wp2_with (first
          | (go_at_call 11
             refine hD.mono ?_
             rintro e w2 ⟨v2, rfl, o2, b2⟩
             obtain ⟨a2, c2, rfl⟩ : ∃ a c, v2 = Value.slice a N c := by
               rcases o2.2 with ⟨h, h0⟩ | ⟨g, c, cur, h, -⟩
               · exact ⟨none, 0, by rw [h, h0]⟩
               · exact ⟨_, _, h⟩
             have R2 : Hid (Rw w.heap.size (.slice a2 N c2) p w2) := hide ⟨by rw [← unhide HNN]; exact own_low o2 hB.size, unhide HPB⟩
             have B2 := hide b2
             clear hD o2 b2)
          | (at_builtin
             refine wpList_append_own_at rfl (.tmp 26) (.tmp 28) 48 rfl w.heap.size 39 i0 (.agg #[.int .u8 0, .slice none 0 0]) 2 32 Try.underlying48 hi hz0 hz1 hz2 rfl (by decide) (.slice la ys.length lc) ys.length (ryC ys) rfl (own_laterG (own_laterG (own_laterG (unhide HO) (unhide B2)) (below_alloc _ _)) (below_alloc _ _)) ⟨w2.heap.size + 1, 0, none⟩ 1 1 [.int .u8 k, .slice a2 N c2] rfl rfl (by have h := cell2_new (w2.alloc (.cells #[.int .u8 k, .slice a2 N c2] 39)) (.int .u8 k) (.slice a2 N c2) 39; rw [World.size_alloc] at h; exact h) (one2 _ _ _ _) (by unfold maxLen; omega) (by omega) (by have := hB.size; have := (unhide B2).size; simp; omega) ?_
             intro v4 w4 ho4 hg4 _
             have b3 : Below wr.heap.size wr ((w2.alloc (.cells #[.int .u8 k, .slice a2 N c2] 39)).alloc (.cells #[.int .u8 k, .slice a2 N c2] 39)) := bel_then (bel_then (unhide B2) (unhide B2).size (below_alloc _ _)) (by have := (unhide B2).size; simp; omega) (below_alloc _ _)
             have r3 : Rw w.heap.size (.slice a2 N c2) p ((w2.alloc (.cells #[.int .u8 k, .slice a2 N c2] 39)).alloc (.cells #[.int .u8 k, .slice a2 N c2] 39)) := ((unhide R2).later (below_alloc _ _)).later (below_alloc _ _)
             have hV3 := own_laterG (unhide HO) b3
             have HB4 : Hid (Below w.heap.size w w4) := hide ((bel_then hB hB.size b3).grown (unhide hg4) (by have := hB.size; have := b3.size; omega) (fun k hk => (hV3.lt k hk).1))
             have HY4 : Hid (∀ y ∈ ys ++ [⟨k, .slice a2 N c2, p⟩], Rw w.heap.size y.v y.p w4) := hide (fun y hy => by
               rcases List.mem_append.1 hy with h | h
               · exact ((unhide HY y h).later b3).apt hV3 (by decide) (unhide hg4)
               · obtain rfl := List.mem_singleton.1 h
                 exact r3.apt hV3 (by decide) (unhide hg4))
             have HO4 : Hid (w4.ownsRow w.heap.size 39 2 v4 (ys ++ [(⟨k, .slice a2 N c2, p⟩ : Ry)]).length (ryC (ys ++ [⟨k, .slice a2 N c2, p⟩]))) := hide (by
               rw [ryC_append, List.length_append]
               exact unhide ho4)
             clear ho4 hg4 b3 r3 hV3)
          | fail)
        go_roundw
        case rel => exact ⟨ys ++ [⟨k, .slice a2 N c2, p⟩], o + N + 10, fs'', by simp, hlen, hide ⟨(unhide HF2).1, by rw [List.map_append]; exact (unhide HF2).2.1, (unhide HF2).2.2⟩, HO4, HY4, unhide HB4⟩
        case measure => simp [intOf]; omega
    · have hon : o = n := by omega
      have hod : decide ((o : Int) < (n : Int)) = false := decide_eq_false (by omega)
      have hdn := (unhide HF).1
      rw [List.drop_of_length_le (by rw [unhide HLN]; omega)] at hdn
      have hfn : fs' = [] := by
        cases fs' with
        | nil => rfl
        | cons f fs'' =>
          have h := congrArg List.length hdn
          simp only [flat, List.length_append, encL_length, List.length_nil] at h
          omega
      have hrn : r = [] := by rw [hfn] at hdn; simpa [flat] using hdn.symm
      have hys : Hid (ys.map Ry.d = fs) := hide (by have h := (unhide HF).2.1; rw [hfn] at h; simpa using h)
      have hEo : Hid (o = E) := hide (by have h := (unhide HF).2.2; rw [hfn] at h; simpa [flat] using h)
      have ht0 : t = 0 := by rw [unhide HT, hrn]; rfl
      subst ht0
      clear hdn hon
      go_wp2
      refine bodyPost_ret (results_tmp3 rfl _ _ _) rfl ?_
      rw [← unhide hEo]
      exact ⟨_, ys, rfl, unhide HO, unhide hys, unhide HY, hB⟩
end Go.Proofs.Ytmdpmkdofgligaa
