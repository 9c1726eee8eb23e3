import Derived.Test.YtmdpmkdofgligaaRngN
import Derived.Test.YtmdpmkdofgligaaAllW
set_option linter.unusedVariables false
namespace Go.Proofs.Ytmdpmkdofgligaa
open Go.RowKit Go.Shelf
attribute [local go_sem] Oper.semAt_some

/-- what is handed on was made since W0 -/
def RN (x : Fx) (W0 W1 : World) : Prop := x.Lies W0.heap.size W1 ∧ Below W0.heap.size W0 W1
/-- what the iterator needs to be kept -/
structure KpN (d : Sl) (bx : Nat) (W W' : World) : Prop where
  size : W.heap.size ≤ W'.heap.size
  ok : d.Ok W → d.Ok W'
  box : ∀ cs fr, W.heap[bx]? = some (.cells cs 29 fr) → W'.heap[bx]? = some (.cells cs 29 fr)
theorem KpN.refl (d : Sl) (bx : Nat) (W : World) : KpN d bx W W := ⟨Nat.le_refl _, fun h => h, fun _ _ h => h⟩
theorem KpN.trans {d : Sl} {bx : Nat} {A B C : World} (h : KpN d bx A B) (k : KpN d bx B C) : KpN d bx A C := ⟨Nat.le_trans h.size k.size, fun x => k.ok (h.ok x), fun cs fr x => k.box cs fr (h.box cs fr x)⟩
theorem KpN.of_below {d : Sl} {bx : Nat} {A B : World} (h : Below A.heap.size A B) : KpN d bx A B :=
  ⟨h.size, fun x => x.later h, fun cs fr x => (h.block bx (Array.getElem?_eq_some_iff.1 x).1).trans x⟩
set_option maxHeartbeats 4000000 in
set_option maxRecDepth 100000 in
theorem all1_inN (n l bx : Nat) (hn : 1 ≤ n) (d : Sl) (fs : List (Int × List Int)) (r : List Int) (hl : d.l = flat fs ++ r) (hfs : Okf fs) (hr : (mz r).1 = 0) (hsz : d.n ≤ 1099511627776) (J Jx : List Fx → World → Prop) (W : World) (hJ : AbidesFrom W.heap.size J) (hJx : AbidesFrom W.heap.size Jx)
    (hY : ∀ pre x W0 W1, J pre W0 → J pre W1 → RN x W0 W1 → (∃ q, (pre ++ [x]).map Fx.d ++ q = pls 0 fs) → YieldAt Fence.wide (n - 1) Try.prog l x.enc W1 fun e W' => (e = .returned (.bool true) ∧ J (pre ++ [x]) W' ∧ KpN d bx W1 W') ∨ (e = .returned (.bool false) ∧ Jx (pre ++ [x]) W'))
    (hd : d.Ok W) (hbx : W.heap[bx]? = some (.cells #[d.v] 29 (0, 0))) (h0 : J [] W) :
    CallsIn Fence.wide n Try.prog 29 #[.func (.yield l) #[] #[], .pointer (some ⟨bx, 0, none⟩)] W fun e W' => (∃ v, e = .returned v) ∧
      ((∃ xs, xs.map Fx.d = pls 0 fs ∧ J xs W') ∨ (∃ pre, (∃ q, pre.map Fx.d ++ q = pls 0 fs) ∧ Jx pre W')) := by
  obtain ⟨a, m, c, L⟩ := d
  have HL := hide hl
  have HD := hide hd
  have HFS := hide hfs
  have HR := hide hr
  have hL : L.length = m := hd.len
  have HLn := hide hL
  have hsz' : m ≤ 1099511627776 := hsz
  simp only [Sl.v] at hbx
  clear hl hd hfs hr hsz hL
  refine callsIn_of_wp Try.func29 rfl trivial ?_ rfl
  simp only [Try.ntmps29, List.size_toArray, List.length_cons, List.length_nil, Nat.reduceAdd, Nat.reduceSub, Array.replicate_succ, Array.replicate_zero, List.push_toArray, List.append_toArray, List.nil_append, List.cons_append]
  gi_wp2
  gi_loopw [3] (fun i wr => ∃ (pre : List Fx) (o : Nat) (fs' : List (Int × List Int)), i = .int .i64 o ∧ o ≤ m ∧ Hid (L.drop o = flat fs' ++ r ∧ pre.map Fx.d ++ pls o fs' = pls 0 fs ∧ Okf fs') ∧ J pre wr ∧ KpN ⟨a, m, c, L⟩ bx W wr)
    (fun i _ => m - (intOf i).toNat)
  case atStart => exact ⟨[], 0, fs, rfl, Nat.zero_le _, hide ⟨by rw [List.drop_zero]; exact unhide HL, rfl, unhide HFS⟩, h0, KpN.refl _ _ _⟩
  case round =>
    obtain ⟨pre, o, fs', rfl, ho, HF, hJs, hK⟩ := hrel
    have hdr : Sl.Ok wr ⟨a, m, c, L⟩ := hK.ok (unhide HD)
    have hbr := hK.box _ _ hbx
    have hcell : wr.cell? ⟨bx, 0, none⟩ = some (.slice a m c) := by rw [cell_of_row _ bx 0 _ _ _ hbr]; rfl
    cases fs' with
    | nil =>
      have hdn := (unhide HF).1
      simp only [flat, List.nil_append] at hdn
      have hD := decode_none ⟨a, m, c, L⟩ o wr hdr ho (by rw [hdn]; exact unhide HR)
      simp only [Sl.v, fr0, frV] at hD
      generalize (mz (L.drop o)).2 = t at hD
      have hoo : ((o : Int) == (o : Int)) = true := by simp
      gi_wp2_with (refine ⟨trivial, ?_⟩; gi_at_call 10; refine (callsIn_wide.2 hD).mono ?_; rintro e w2 ⟨rfl, b2⟩; clear hD)
      refine ⟨fun _ h => (by cases h), ?_⟩
      gi_wp2
      refine bodyPost_ret (results_none rfl _ _ _) rfl ?_
      have b3 := bel_then b2 b2.size (below_alloc w2 (.cells #[.int .u8 0, .slice none 0 0] 39))
      refine ⟨⟨_, rfl⟩, .inl ⟨pre, ?_, abide hJ hJs b3⟩⟩
      have h := (unhide HF).2.1
      simp only [pls, List.append_nil] at h
      exact h
    | cons f fs'' =>
      have hdn := (unhide HF).1
      simp only [flat, List.append_assoc] at hdn
      obtain ⟨hfk, hfB, hfl⟩ := (unhide HF).2.2 f (by simp)
      obtain ⟨k, p⟩ := f
      simp only at hfk hfB hfl hdn
      have hmz := mz_enc k p (flat fs'' ++ r) hfk hfB hfl
      have hlen : o + p.length + 10 ≤ m := by
        have h := congrArg List.length hdn
        rw [List.length_drop, List.length_append, encL_length, unhide HLn] at h
        omega
      have hD := decode_some ⟨a, m, c, L⟩ o p.length wr hdr (by simp only; rw [hdn]; exact hmz) hlen hfl
      have hk1 : L.getD (o + 1) 0 = k := by
        have h := enc_kind k p (flat fs'' ++ r)
        rw [← hdn] at h
        simpa [List.getD, List.getElem?_drop] using h
      have hp1 : (L.drop (o + 6)).take p.length = p := by
        have h := enc_pay k p (flat fs'' ++ r)
        rw [← hdn, List.drop_drop] at h
        exact h
      simp only [Sl.v, hk1, hp1, frV] at hD
      obtain ⟨N, hN⟩ : ∃ N, N = p.length := ⟨_, rfl⟩
      have HF2 : Hid (L.drop (o + N + 10) = flat fs'' ++ r) := hide (by
        have h := congrArg (List.drop (p.length + 10)) hdn
        rw [List.drop_drop, List.drop_left' (encL_length k p)] at h
        rw [hN, Nat.add_assoc]
        exact h)
      rw [← hN] at hD hlen hfl
      have HP := hide hfB
      have HNN := hide hN
      have hne : ((o + N + 10 : Nat) : Int) ≠ (o : Int) := by omega
      have hoo : (((o + N + 10 : Nat) : Int) == (o : Int)) = false := by rw [beq_eq_false_iff_ne]; exact hne
      clear hdn hmz hk1 hp1 hfk hN hfB hne
      gi_wp2_with (refine ⟨trivial, ?_⟩; gi_at_call 10; refine (callsIn_wide.2 hD).mono ?_; rintro e w2 ⟨a2, c2, rfl, o2, b2⟩; clear hD
                   have b3 := hide (bel_then b2 b2.size (below_alloc w2 (.cells #[.int .u8 k, .slice a2 N N] 39)))
                   have O3 : Fx.Lies wr.heap.size ⟨o, k, a2, p⟩ (w2.alloc (.cells #[.int .u8 k, .slice a2 N N] 39)) := ⟨⟨c2, by simp only; rw [← unhide HNN]; exact own_to' (own_later o2 (below_alloc w2 _)) (Nat.le_refl _) (Nat.le_refl _)⟩, unhide HP, by simp only; rw [← unhide HNN]; exact hfl, by simp only; omega⟩
                   obtain ⟨fn, tmps, assign, body, hy, hRR⟩ := hY pre ⟨o, k, a2, p⟩ wr (w2.alloc (.cells #[.int .u8 k, .slice a2 N N] 39)) hJs (abide hJ hJs (unhide b3)) ⟨O3, unhide b3⟩ ⟨pls (o + p.length + 10) fs'', by rw [List.map_append, List.append_assoc]; exact (unhide HF).2.1⟩
                   simp only [Fx.enc, ← unhide HNN] at hy
                   have HO2 := hide o2
                   have HRR := hide hRR
                   clear o2 b2 O3 hRR)
      refine (unhide HRR).mono ?_
      rintro e W3 (⟨rfl, hJ3, hk3⟩ | ⟨rfl, hJx3⟩)
      · have hK3 := hK.trans ((KpN.of_below (bx := bx) (unhide b3)).trans hk3)
        gi_wp2
        go_roundw
        case rel => exact ⟨pre ++ [⟨o, k, a2, p⟩], o + N + 10, fs'', by simp, hlen, hide ⟨unhide HF2, by
            have h := (unhide HF).2.1
            rw [List.map_append, List.append_assoc]
            rw [unhide HNN]
            exact h, fun f hf => (unhide HF).2.2 f (List.mem_cons_of_mem _ hf)⟩, hJ3, hK3⟩
        case measure => simp [intOf]; omega
      · gi_wp2
        refine bodyPost_ret (results_none rfl _ _ _) rfl ?_
        exact ⟨⟨_, rfl⟩, .inr ⟨_, ⟨pls (o + p.length + 10) fs'', by
          have h := (unhide HF).2.1
          rw [List.map_append, List.append_assoc]
          exact h⟩, hJx3⟩⟩
theorem all1_seqN (n bx : Nat) (hn : 1 ≤ n) (d : Sl) (fs : List (Int × List Int)) (r : List Int) (hl : d.l = flat fs ++ r) (hfs : Okf fs) (hr : (mz r).1 = 0) (hsz : d.n ≤ 1099511627776) (w : World)
    (hd : d.Ok w) (hbx : w.heap[bx]? = some (.cells #[d.v] 29 (0, 0))) :
    SeqN Fence.wide n Try.prog 29 #[.pointer (some ⟨bx, 0, none⟩)] Fx.enc RN (KpN d bx) (fun xs => xs.map Fx.d = pls 0 fs) (fun pre => ∃ q, pre.map Fx.d ++ q = pls 0 fs) w := by
  intro l J Jx W hb hJ hJx hY h0
  exact all1_inN n l bx hn d fs r hl hfs hr hsz J Jx W hJ hJx hY (hd.later hb) ((hb.block bx (Array.getElem?_eq_some_iff.1 hbx).1).trans hbx) h0
end Go.Proofs.Ytmdpmkdofgligaa
