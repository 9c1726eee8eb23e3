import Derived.Test.YtppklfckpmenbaaPgM
import Derived.Test.YtppklfckpmenbaaCoW
import Derived.Test.YtppklfckpmenbaaSmO
import Derived.Test.YtppklfckpmenbaaKnW
set_option linter.unusedSimpArgs false
set_option linter.unusedVariables false
namespace Go.Proofs.Ytppklfckpmenbaa
open Go.RowKit

section
variable {P : Program} {o : Oper} {a : Act} {w : World}
theorem ex_load1R (t : TypeId) (x : Operand) (ho : o.op = .load t x) (g off : Nat) (hx : a.eval x = .pointer (some ⟨g, off, none⟩)) (v : Value) (hr : w.rangeAt g off [v]) {d : TypeDesc} (hu : P.underlying t = some d) (hd : d.isRow = false) :
    (execOp a.eval o).run P w = .ok (.value v) w := by
  have hc := hr 0 v rfl
  have hA : (isAgg t).run P w = .ok false w := by
    unfold isAgg
    rw [Sem.run_bind, run_underlying hu w]
    cases d <;> simp_all [TypeDesc.isRow]
  rw [Nat.add_zero] at hc
  have hl : (loadVar t ⟨g, off, none⟩).run P w = .ok v w := by
    simp [loadVar, Sem.run_bind, hA, run_load, hc]
  unfold execOp
  simp only [ho, hx, Instr.loadAt, Instr.sureAddr, Sem.run_bind, Sem.run_pure, Result.andThen_ok, hl]
end
/-- a part of what lies there -/
theorem At.rangeR {w : World} {g off o : Nat} {c p : List Value} (h : At c o p) (hr : w.rangeAt g off c) : w.rangeAt g (off + o) p := fun j v hv => by
  rw [Nat.add_assoc]; exact hr _ v (h.get hv)
/-- things that may be read -/
structure Ss (w : World) (s : Sx Sml) : Prop where
  ok : s.Ok smC 329 w
  e : ∀ x ∈ s.xs, x.Ok
theorem Ss.later {w w' : World} {s : Sx Sml} (h : Ss w s) (hb : Below w.heap.size w w') : Ss w' s := ⟨h.ok.later hb, h.e⟩
theorem Ss.old {w w' : World} {s : Sx Sml} (h : Ss w s) (ho : Old w w') : Ss w' s := ⟨h.ok.keep ho.size (fun _ x _ hx => ho.block _ hx), h.e⟩
theorem Ss.at_ {w : World} {s : Sx Sml} (h : Ss w s) {k : Nat} (hk : k < s.n) : ∃ x b off, s.xs[k]? = some x ∧ x.Ok ∧ s.a = some ⟨b, off, none⟩ ∧ b < w.heap.size ∧ w.rangeAt b (off + k * 329) (smC x) := by
  have hl := h.ok.len
  have hg : s.xs[k]? = some (s.xs[k]'(by omega)) := List.getElem?_eq_getElem (by omega)
  obtain ⟨b, off, e, hb, hr⟩ := h.ok.at_ hg
  exact ⟨_, b, off, hg, h.e _ (List.mem_of_getElem? hg), e, hb, hr⟩
/-- the state behind things -/
def mdStep (t : Flr × (Int → Option Ent)) (x : Sml) : Flr × (Int → Option Ent) :=
  if x.rs then (if x.f.n ≤ t.1.n then t else (x.f, fun s => if x.f.n ≤ s then t.2 s else none))
  else if x.ser < t.1.n then t else (t.1, fun s => if s = x.ser then jo (t.2 s) (some (fitE (cf x.ser) x.e)) else t.2 s)
def mdS (l : List Sml) : Flr × (Int → Option Ent) := l.foldl mdStep (zFlr, fun _ => none)
theorem mdS_take {l : List Sml} {k : Nat} {x : Sml} (h : l[k]? = some x) : mdS (l.take (k + 1)) = mdStep (mdS (l.take k)) x := by
  unfold mdS; rw [List.take_add_one, h]; simp
/-- what stands there behind k things -/
structure MdI (l : List Sml) (f : Flr) (xs : List Ent) : Prop where
  gt : GT cf ⟨f, 0, xs⟩
  eq : (f, lk xs) = mdS l
  len : xs.length ≤ l.length
theorem MdI.nil : MdI [] zFlr [] := ⟨⟨zFlr_ok, by simp [Sorted], (fun x hx => by cases hx), (fun x hx => by cases hx)⟩, by simp [mdS]; funext s; rfl, by simp⟩
theorem MdI.raise {l : List Sml} {k : Nat} {x : Sml} {f : Flr} {xs : List Ent} (h : MdI (l.take k) f xs) (hx : l[k]? = some x) (hr : x.rs = true) (hxo : x.Ok) : MdI (l.take (k + 1)) (if x.f.n ≤ f.n then f else x.f) (if x.f.n ≤ f.n then xs else nbX xs x.f.n) := by
  refine ⟨raise_gt h.gt hxo.f, ?_, ?_⟩
  · rw [mdS_take hx, ← h.eq]
    unfold mdStep
    rw [if_pos hr]
    by_cases q : x.f.n ≤ f.n
    · rw [if_pos q, if_pos q, if_pos q]
    · rw [if_neg q, if_neg q, if_neg q]
      congr 1; funext s; rw [lk_nb]
  · have h1 := h.len
    have hk := (List.getElem?_eq_some_iff.1 hx).1
    rw [List.length_take] at h1 ⊢
    split
    · omega
    · have := nbX_len xs x.f.n; omega
theorem MdI.put {l : List Sml} {k : Nat} {x : Sml} {f : Flr} {xs xs' : List Ent} {m : Int} {b : Bool} {c : Int} (h : MdI (l.take k) f xs) (hx : l[k]? = some x) (hr : x.rs = false) (hxo : x.Ok) (hm : (l.length : Int) < m) (hP : PutD f xs m (fitE (cf x.ser) x.e) xs' b c) : MdI (l.take (k + 1)) f xs' := by
  have hge : GE (cf (fitE (cf x.ser) x.e).cert.serial) (fitE (cf x.ser) x.e) := fitE_ge (cf_ok _) hxo.e
  have hse : (fitE (cf x.ser) x.e).cert.serial = x.ser := rfl
  obtain ⟨g1, g2⟩ := hP.gt h.gt hge
  have hk := (List.getElem?_eq_some_iff.1 hx).1
  have h1 := h.len
  rw [List.length_take] at h1
  refine ⟨g1, ?_, ?_⟩
  · rw [mdS_take hx, ← h.eq]
    unfold mdStep
    rw [if_neg (by rw [hr]; simp)]
    rcases hP with ⟨q, rfl, -, -⟩ | ⟨-, -, q, -⟩ | ⟨q, -, hlk, -⟩
    · rw [hse] at q; rw [if_pos q]
    · omega
    · rw [hse] at q hlk
      rw [if_neg q]
      congr 1; funext s; rw [hlk]
  · rw [List.length_take]
    rcases hP with ⟨q, rfl, -, -⟩ | ⟨-, -, q, -⟩ | ⟨q, -, hlk, -, -, hl⟩
    · omega
    · omega
    · omega
set_option maxHeartbeats 4000000 in
set_option maxRecDepth 100000 in
theorem made_any (s : Sx Sml) (w : World) (hs : Ss w s) (hbd : (s.n + 1) * 296 ≤ 140737488355328) :
    Calls Try.prog 16 #[s.v] w fun r w' => ∃ (f : Flr) (s1 : Sx Ent), r = .returned (aV (gC f 0 s1.v)) ∧ MdI s.xs f s1.xs ∧ Oe w' w.heap.size s1.v s1.xs ∧ Below w.heap.size w w' := by
  obtain ⟨sa, sn, sc, sx⟩ := s
  have hlen : sx.length = sn := hs.ok.len
  have hS := Hs17.begin w (fun w' => Ss w' ⟨sa, sn, sc, sx⟩ ∧ Oe w' w.heap.size (Sx.v (⟨none, 0, 0, []⟩ : Sx Ent)) []) (fun w' ho => ⟨hs.old ho, Oe.nil _ _⟩)
  have HL := hide hlen
  have hsm : sn ≤ 475464663362 := by simp only at hbd; omega
  have HB := hide hbd
  simp only [Sx.v]
  clear hs hlen hbd
  go_enter Try.func16, Try.ntmps16
  go_upto_region 0 with fail
  refine wp_region_lit ?_
  refine wl_alloc (by kernel_rfl) 48 rfl (gC zFlr 0 nilS) Try.inG hS ?_
  clear hS
  intro g1 w1 hS
  simp [Act.put]
  refine wpList_nil ?_
  go_upto_region 1 with fail
  refine wp_region_lit ?_
  refine wl_alloc (by kernel_rfl) 48 rfl (gC zFlr 0 nilS) Try.inG hS ?_
  clear hS
  intro g2 w2 hS
  simp [Act.put]
  refine wpList_nil ?_
  go_wp2_with fail
  go_loopw [4] (fun i wr => ∃ (k : Nat) (f : Flr) (s1 : Sx Ent), k ≤ sn ∧ i = .int .i64 k ∧ Hid (MdI (sx.take k) f s1.xs) ∧ Hs17 w [(g2, 48, gC f 0 (Sx.v s1)), (g1, 48, gC zFlr 0 nilS)] (fun w' => Ss w' ⟨sa, sn, sc, sx⟩ ∧ Oe w' w.heap.size s1.v s1.xs) wr) (fun i _ => sn - (intOf i).toNat)
  case atStart => exact ⟨0, zFlr, ⟨none, 0, 0, []⟩, by omega, rfl, hide MdI.nil, hS⟩
  case round =>
    clear hS
    obtain ⟨k, f, s1, hk, rfl, HI, hS⟩ := hrel
    have hfo := (unhide HI).gt.fl
    have hln := (unhide HI).len
    have hEs := Oe.es' hS.K.2
    have hl1 : s1.n ≤ k := by rw [← hEs.ok.len]; rw [List.length_take] at hln; omega
    by_cases hlt : k < sn
    · obtain ⟨x, b, off, hge, hxo, hsa, hbs, hrg⟩ := hS.K.1.at_ (k := k) hlt
      simp only at hge hsa
      subst hsa
      have hR : ∀ w', Ss w' ⟨some ⟨b, off, none⟩, sn, sc, sx⟩ → w'.rangeAt b (off + k * 329) (smC x) := fun w' h' => by
        obtain ⟨x', b', o', e1, -, e3, -, e5⟩ := h'.at_ (k := k) hlt
        simp only at e1 e3; rw [hge] at e1; cases e1; cases e3; exact e5
      have hkz : (k : Int) < (sn : Int) := by omega
      have hb1 : s1.n * 296 ≤ 140737488355328 := by have := unhide HB; (try simp only at this); omega
      have hb2 : (s1.n + 1) * 296 ≤ 140737488355328 := by have := unhide HB; (try simp only at this); omega
      have wm : IntKind.i64.wrap ((sn : Int) + 1) = ((sn + 1 : Nat) : Int) := by rw [IntKind.wrap_i64]; omega
      have HG := hide hge
      clear hrg hbs hEs hln
      cases hrs : x.rs with
  | true =>
      go_upto_region 5 with fail
      refine wp_region_lit ?_
      refine wl (by kernel_rfl) fun kQ hkQ => ?_
      go_simp
      refine hkQ _ _ ?_
      clear hkQ kQ
      refine wl (by kernel_rfl) fun kQ hkQ => ?_
      go_simp
      refine hkQ _ _ ?_
      clear hkQ kQ
      refine wl (by kernel_rfl) fun kQ hkQ => ?_
      go_simp
      refine hkQ _ _ ?_
      clear hkQ kQ
      refine wl (by kernel_rfl) fun kQ hkQ => ?_
      go_simp
      refine hkQ _ _ ?_
      clear hkQ kQ
      refine wv (.bool x.rs) (by kernel_rfl) (ex_load1R 4 (.tmp 14) rfl b (off + k * 329) rfl (.bool x.rs) (by simpa using (at_srs x).rangeR (hR _ hS.K.1)) Try.underlying4 rfl) ?_
      simp [Act.put]
      refine wpList_nil ?_
      rw [hrs]
      go_upto_region 6 with fail
      refine wp_region_noPanic ?_
      replace hS := hS.drew
      refine wp_region_held_drew (S := Hs17 w [(g1, 48, (gC zFlr 0 nilS))] _) (by kernel_rfl) (hS.sub (((List.Sublist.slnil).cons_cons _).cons _)) (fun hHeld => ?_)
      generalize World.drew _ = w21 at hS hHeld ⊢
      refine wpAnyH_take (i := 1) (oi := _) (v := (.slice (some ⟨b, off, none⟩) sn sc)) rfl (by kernel_rfl) (by kernel_rfl) (by kernel_rfl) (fun _ _ _ h => h) (Or.inl ⟨by rfl, fun w hSw => by go_simp⟩) hHeld ?_
      simp [Act.put]
      refine wpAnyH_take (i := 2) (oi := _) (v := .int .i64 k) rfl (by kernel_rfl) (by kernel_rfl) (by kernel_rfl) (fun _ _ _ h => h) (Or.inl ⟨by rfl, fun w hSw => by go_simp⟩) hHeld ?_
      simp [Act.put]
      refine wpAnyH_take (i := 3) (oi := _) (v := .pointer (some ⟨b, off + k * 329, none⟩)) rfl (by kernel_rfl) (by kernel_rfl) (by kernel_rfl) (fun _ _ _ h => h) (Or.inl ⟨by rfl, fun w hSw => by go_simp⟩) hHeld ?_
      simp [Act.put]
      refine wpAnyH_take (i := 4) (oi := _) (v := .pointer (some ⟨b, off + k * 329 + 264, none⟩)) rfl (by kernel_rfl) (by kernel_rfl) (by kernel_rfl) (fun _ _ _ h => h) (Or.inl ⟨by rfl, fun w hSw => by go_simp⟩) hHeld ?_
      simp [Act.put]
      refine wpAnyH_take (i := 5) (oi := _) (v := aV (fC x.f)) rfl (by kernel_rfl) (by kernel_rfl) (by kernel_rfl) (fun _ _ _ h => h) (.inl ⟨by kernel_rfl, fun w' hw => ex_loadR 43 (.tmp 21) rfl b (off + k * 329 + 264) rfl (fC x.f) ((at_sf hxo).rangeR (hR _ hw.K.1)) Try.underlying43 rfl (szF hxo.f)⟩) hHeld ?_
      simp [Act.put]
      refine wpAnyH_ready (rs := [0]) (by kernel_rfl) (by simp) ?_
      refine (AllReadyH.cons rfl (fun kQ hkQ => ?_) AllReadyH.nil)
      refine dw (by kernel_rfl) (op_val (aV (gC f 0 (Sx.v s1))) (ex_load 48 (.tmp 3) rfl 0 rfl 0 rfl (gC f 0 (Sx.v s1)) (At.self _) Try.underlying48 rfl (szG hfo _ _) hS) ?_)
      refine hkQ.out _ _ (hS.sub (((List.Sublist.slnil).cons_cons _).cons _)) (fun hHeld => ?_)
      clear hkQ kQ
      simp [Act.put]
      refine wpAnyH_ready (rs := [6]) (by kernel_rfl) (by simp) ?_
      refine (AllReadyH.cons rfl (fun kQ hkQ => ?_) AllReadyH.nil)
      go_simp
      refine (raise_any f 0 s1 x.f _ hfo hxo.f (Oe.es' hS.K.2) hb1).mono ?_
      rintro e9 w61 ⟨s2, rfl, hx2, hO2, hb9⟩
      generalize hF : (if x.f.n ≤ f.n then f else x.f) = F
      generalize (if x.f.n ≤ f.n then (172 : Int) else 0) = c9
      have hN := (unhide HI).raise (unhide HG) hrs hxo
      rw [← hx2, hF] at hN
      have hFo : F.Ok := hN.gt.fl
      have hS2 := hS.own hb9 hO2
      replace hS := hS.later hb9
      clear hHeld hb9 hO2 hF
      refine hkQ.out _ _ (hS.sub (((List.Sublist.slnil).cons_cons _).cons _)) (fun hHeld => ?_)
      clear hkQ kQ
      refine wpAnyH_take (i := 7) (oi := _) (v := .tuple #[aV (gC F 0 (Sx.v s2)), .int .i64 c9]) rfl (by kernel_rfl) (by kernel_rfl) (by kernel_rfl) (fun _ _ _ h => h) (Or.inl ⟨by rfl, fun w hSw => by go_simp⟩) hHeld ?_
      simp [Act.put]
      refine wpAnyH_take (i := 8) (oi := _) (v := aV (gC F 0 (Sx.v s2))) rfl (by kernel_rfl) (by kernel_rfl) (by kernel_rfl) (fun _ _ _ h => h) (Or.inl ⟨by rfl, fun w hSw => by go_simp⟩) hHeld ?_
      simp [Act.put]
      refine wpAnyH_take (i := 9) (oi := _) (v := .int .i64 c9) rfl (by kernel_rfl) (by kernel_rfl) (by kernel_rfl) (fun _ _ _ h => h) (Or.inl ⟨by rfl, fun w hSw => by go_simp⟩) hHeld ?_
      simp [Act.put]
      refine wpAnyH_ready (rs := [10]) (by kernel_rfl) (by simp) ?_
      refine (AllReadyH.cons rfl (fun kQ hkQ => ?_) AllReadyH.nil)
      refine dw (by kernel_rfl) (op_store 48 (.tmp 3) (.tmp 24) rfl 0 rfl 0 rfl (gC F 0 (Sx.v s2)) (gC F 0 (Sx.v s2)) (pt_g hfo hFo 0 0 (Sx.v s1) (Sx.v s2)) rfl (szG hFo _ _) (one_g _ _ rfl) hS2 ?_)
      clear hS hHeld hS2
      intro w22 hS
      change Hs17 w [(g2, 48, (gC F 0 (Sx.v s2))), (g1, 48, (gC zFlr 0 nilS))] _ w22 at hS
      refine hkQ.out _ _ ((hS.weak (fun _ h => h.1)).sub (((List.Sublist.slnil).cons_cons _).cons _)) (fun hHeld => ?_)
      clear hkQ kQ
      simp [Act.put]
      refine wpAnyH_done (by kernel_rfl) ?_ _
      unfold NoPanic
      clear hHeld
      clear hR
      go_wp2_with fail
      go_roundw
      case rel => exact ⟨k + 1, F, s2, by omega, by go_num, hide hN, hS.weak (fun _ h => ⟨h.1.1, h.2⟩)⟩
      case measure => simp [intOf]; omega
    | false =>
      go_upto_region 5 with fail
      refine wp_region_lit ?_
      refine wl (by kernel_rfl) fun kQ hkQ => ?_
      go_simp
      refine hkQ _ _ ?_
      clear hkQ kQ
      refine wl (by kernel_rfl) fun kQ hkQ => ?_
      go_simp
      refine hkQ _ _ ?_
      clear hkQ kQ
      refine wl (by kernel_rfl) fun kQ hkQ => ?_
      go_simp
      refine hkQ _ _ ?_
      clear hkQ kQ
      refine wl (by kernel_rfl) fun kQ hkQ => ?_
      go_simp
      refine hkQ _ _ ?_
      clear hkQ kQ
      refine wv (.bool x.rs) (by kernel_rfl) (ex_load1R 4 (.tmp 14) rfl b (off + k * 329) rfl (.bool x.rs) (by simpa using (at_srs x).rangeR (hR _ hS.K.1)) Try.underlying4 rfl) ?_
      simp [Act.put]
      refine wpList_nil ?_
      rw [hrs]
      go_upto_region 7 with fail
      refine wp_region_noPanic ?_
      replace hS := hS.drew
      refine wp_region_held_drew (S := Hs17 w [(g1, 48, (gC zFlr 0 nilS))] _) (by kernel_rfl) (hS.sub (((List.Sublist.slnil).cons_cons _).cons _)) (fun hHeld => ?_)
      generalize World.drew _ = w21 at hS hHeld ⊢
      refine wpAnyH_take (i := 1) (oi := _) (v := (.slice (some ⟨b, off, none⟩) sn sc)) rfl (by kernel_rfl) (by kernel_rfl) (by kernel_rfl) (fun _ _ _ h => h) (Or.inl ⟨by rfl, fun w hSw => by go_simp⟩) hHeld ?_
      simp [Act.put]
      refine wpAnyH_take (i := 2) (oi := _) (v := .int .i64 (sn : Int)) rfl (by kernel_rfl) (by kernel_rfl) (by kernel_rfl) (fun _ _ _ h => h) (Or.inl ⟨by rfl, fun w hSw => by go_simp⟩) hHeld ?_
      simp [Act.put]
      refine wpAnyH_take (i := 3) (oi := _) (v := .int .i64 ((sn + 1 : Nat) : Int)) rfl (by kernel_rfl) (by kernel_rfl) (by kernel_rfl) (fun _ _ _ h => h) (Or.inl ⟨by rfl, fun w hSw => by go_simp⟩) hHeld ?_
      simp [Act.put]
      refine wpAnyH_take (i := 4) (oi := _) (v := (.slice (some ⟨b, off, none⟩) sn sc)) rfl (by kernel_rfl) (by kernel_rfl) (by kernel_rfl) (fun _ _ _ h => h) (Or.inl ⟨by rfl, fun w hSw => by go_simp⟩) hHeld ?_
      simp [Act.put]
      refine wpAnyH_take (i := 5) (oi := _) (v := .int .i64 k) rfl (by kernel_rfl) (by kernel_rfl) (by kernel_rfl) (fun _ _ _ h => h) (Or.inl ⟨by rfl, fun w hSw => by go_simp⟩) hHeld ?_
      simp [Act.put]
      refine wpAnyH_take (i := 6) (oi := _) (v := .pointer (some ⟨b, off + k * 329, none⟩)) rfl (by kernel_rfl) (by kernel_rfl) (by kernel_rfl) (fun _ _ _ h => h) (Or.inl ⟨by rfl, fun w hSw => by go_simp⟩) hHeld ?_
      simp [Act.put]
      refine wpAnyH_take (i := 7) (oi := _) (v := .pointer (some ⟨b, off + k * 329 + 1, none⟩)) rfl (by kernel_rfl) (by kernel_rfl) (by kernel_rfl) (fun _ _ _ h => h) (Or.inl ⟨by rfl, fun w hSw => by go_simp⟩) hHeld ?_
      simp [Act.put]
      refine wpAnyH_take (i := 8) (oi := _) (v := .int .i64 x.ser) rfl (by kernel_rfl) (by kernel_rfl) (by kernel_rfl) (fun _ _ _ h => h) (.inl ⟨by kernel_rfl, fun w' hw => ex_load1R 3 (.tmp 34) rfl b (off + k * 329 + 1) rfl (.int .i64 x.ser) ((at_sser x).rangeR (hR _ hw.K.1)) Try.underlying3 rfl⟩) hHeld ?_
      simp [Act.put]
      refine wpAnyH_take (i := 10) (oi := _) (v := (.slice (some ⟨b, off, none⟩) sn sc)) rfl (by kernel_rfl) (by kernel_rfl) (by kernel_rfl) (fun _ _ _ h => h) (Or.inl ⟨by rfl, fun w hSw => by go_simp⟩) hHeld ?_
      simp [Act.put]
      refine wpAnyH_take (i := 11) (oi := _) (v := .int .i64 k) rfl (by kernel_rfl) (by kernel_rfl) (by kernel_rfl) (fun _ _ _ h => h) (Or.inl ⟨by rfl, fun w hSw => by go_simp⟩) hHeld ?_
      simp [Act.put]
      refine wpAnyH_take (i := 12) (oi := _) (v := .pointer (some ⟨b, off + k * 329, none⟩)) rfl (by kernel_rfl) (by kernel_rfl) (by kernel_rfl) (fun _ _ _ h => h) (Or.inl ⟨by rfl, fun w hSw => by go_simp⟩) hHeld ?_
      simp [Act.put]
      refine wpAnyH_take (i := 13) (oi := _) (v := .pointer (some ⟨b, off + k * 329 + 2, none⟩)) rfl (by kernel_rfl) (by kernel_rfl) (by kernel_rfl) (fun _ _ _ h => h) (Or.inl ⟨by rfl, fun w hSw => by go_simp⟩) hHeld ?_
      simp [Act.put]
      refine wpAnyH_take (i := 14) (oi := _) (v := aV (eC x.e)) rfl (by kernel_rfl) (by kernel_rfl) (by kernel_rfl) (fun _ _ _ h => h) (.inl ⟨by kernel_rfl, fun w' hw => ex_loadR 29 (.tmp 40) rfl b (off + k * 329 + 2) rfl (eC x.e) ((at_se x).rangeR (hR _ hw.K.1)) Try.underlying29 rfl (szE hxo.e)⟩) hHeld ?_
      simp [Act.put]
      refine wpAnyH_ready (rs := [0, 9]) (by kernel_rfl) (by simp) ?_
      refine (AllReadyH.cons rfl (fun kQ hkQ => ?_) (AllReadyH.cons rfl (fun kQ hkQ => ?_) AllReadyH.nil))
      · skip
        refine dw (by kernel_rfl) (op_val (aV (gC f 0 (Sx.v s1))) (ex_load 48 (.tmp 3) rfl 0 rfl 0 rfl (gC f 0 (Sx.v s1)) (At.self _) Try.underlying48 rfl (szG hfo _ _) hS) ?_)
        refine hkQ.out _ _ (hS.sub (((List.Sublist.slnil).cons_cons _).cons _)) (fun hHeld => ?_)
        clear hkQ kQ
        simp [Act.put]
        refine wpAnyH_ready (rs := [9]) (by kernel_rfl) (by simp) ?_
        refine (AllReadyH.cons rfl (fun kQ hkQ => ?_) AllReadyH.nil)
        go_simp
        refine (certOf_any x.ser _).mono ?_
        rintro e w22 ⟨rfl, hb1⟩
        replace hS := hS.later hb1
        clear hHeld hb1
        refine hkQ.out _ _ (hS.sub (((List.Sublist.slnil).cons_cons _).cons _)) (fun hHeld => ?_)
        clear hkQ kQ
        refine wpAnyH_ready (rs := [15]) (by kernel_rfl) (by simp) ?_
        refine (AllReadyH.cons rfl (fun kQ hkQ => ?_) AllReadyH.nil)
        go_simp
        refine (fitted_any (cf x.ser) x.e _ (cf_ok x.ser) hxo.e).mono ?_
        rintro e w23 ⟨rfl, hb1⟩
        replace hS := hS.later hb1
        clear hHeld hb1
        refine hkQ.out _ _ (hS.sub (((List.Sublist.slnil).cons_cons _).cons _)) (fun hHeld => ?_)
        clear hkQ kQ
        refine wpAnyH_ready (rs := [16]) (by kernel_rfl) (by simp) ?_
        refine (AllReadyH.cons rfl (fun kQ hkQ => ?_) AllReadyH.nil)
        go_simp
        refine (put_any (cf := cf) f 0 s1 ((sn + 1 : Nat) : Int) (fitE (cf x.ser) x.e) _ (unhide HI).gt (fitE_ge (cf_ok x.ser) hxo.e) (Oe.es' hS.K.2) hb2).mono ?_
        rintro e9 w61 ⟨s2, b9, c9, rfl, hP, hO2, hb9⟩
        have hN := (unhide HI).put (unhide HG) hrs hxo (by rw [unhide HL]; omega) hP
        have hS2 := hS.own hb9 hO2
        replace hS := hS.later hb9
        clear hHeld hb9 hO2 hP
        refine hkQ.out _ _ (hS.sub (((List.Sublist.slnil).cons_cons _).cons _)) (fun hHeld => ?_)
        clear hkQ kQ
        refine wpAnyH_take (i := 17) (oi := _) (v := .tuple #[aV (gC f 0 (Sx.v s2)), .bool b9, .int .i64 c9]) rfl (by kernel_rfl) (by kernel_rfl) (by kernel_rfl) (fun _ _ _ h => h) (Or.inl ⟨by rfl, fun w hSw => by go_simp⟩) hHeld ?_
        simp [Act.put]
        refine wpAnyH_take (i := 18) (oi := _) (v := aV (gC f 0 (Sx.v s2))) rfl (by kernel_rfl) (by kernel_rfl) (by kernel_rfl) (fun _ _ _ h => h) (Or.inl ⟨by rfl, fun w hSw => by go_simp⟩) hHeld ?_
        simp [Act.put]
        refine wpAnyH_take (i := 19) (oi := _) (v := .bool b9) rfl (by kernel_rfl) (by kernel_rfl) (by kernel_rfl) (fun _ _ _ h => h) (Or.inl ⟨by rfl, fun w hSw => by go_simp⟩) hHeld ?_
        simp [Act.put]
        refine wpAnyH_take (i := 20) (oi := _) (v := .int .i64 c9) rfl (by kernel_rfl) (by kernel_rfl) (by kernel_rfl) (fun _ _ _ h => h) (Or.inl ⟨by rfl, fun w hSw => by go_simp⟩) hHeld ?_
        simp [Act.put]
        refine wpAnyH_ready (rs := [21]) (by kernel_rfl) (by simp) ?_
        refine (AllReadyH.cons rfl (fun kQ hkQ => ?_) AllReadyH.nil)
        refine dw (by kernel_rfl) (op_store 48 (.tmp 3) (.tmp 44) rfl 0 rfl 0 rfl (gC f 0 (Sx.v s2)) (gC f 0 (Sx.v s2)) (pt_g hfo hfo 0 0 (Sx.v s1) (Sx.v s2)) rfl (szG hfo _ _) (one_g _ _ rfl) hS2 ?_)
        clear hS hHeld hS2
        intro w24 hS
        change Hs17 w [(g2, 48, (gC f 0 (Sx.v s2))), (g1, 48, (gC zFlr 0 nilS))] _ w24 at hS
        refine hkQ.out _ _ ((hS.weak (fun _ h => h.1)).sub (((List.Sublist.slnil).cons_cons _).cons _)) (fun hHeld => ?_)
        clear hkQ kQ
        simp [Act.put]
        refine wpAnyH_done (by kernel_rfl) ?_ _
        unfold NoPanic
        clear hHeld
        clear hR
        go_wp2_with fail
        go_roundw
        case rel => exact ⟨k + 1, f, s2, by omega, by go_num, hide hN, hS.weak (fun _ h => ⟨h.1.1, h.2⟩)⟩
        case measure => simp [intOf]; omega
      · skip
        go_simp
        refine (certOf_any x.ser _).mono ?_
        rintro e w25 ⟨rfl, hb1⟩
        replace hS := hS.later hb1
        clear hHeld hb1
        refine hkQ.out _ _ (hS.sub (((List.Sublist.slnil).cons_cons _).cons _)) (fun hHeld => ?_)
        clear hkQ kQ
        refine wpAnyH_ready (rs := [0, 15]) (by kernel_rfl) (by simp) ?_
        refine (AllReadyH.cons rfl (fun kQ hkQ => ?_) (AllReadyH.cons rfl (fun kQ hkQ => ?_) AllReadyH.nil))
        · skip
          refine dw (by kernel_rfl) (op_val (aV (gC f 0 (Sx.v s1))) (ex_load 48 (.tmp 3) rfl 0 rfl 0 rfl (gC f 0 (Sx.v s1)) (At.self _) Try.underlying48 rfl (szG hfo _ _) hS) ?_)
          refine hkQ.out _ _ (hS.sub (((List.Sublist.slnil).cons_cons _).cons _)) (fun hHeld => ?_)
          clear hkQ kQ
          simp [Act.put]
          refine wpAnyH_ready (rs := [15]) (by kernel_rfl) (by simp) ?_
          refine (AllReadyH.cons rfl (fun kQ hkQ => ?_) AllReadyH.nil)
          go_simp
          refine (fitted_any (cf x.ser) x.e _ (cf_ok x.ser) hxo.e).mono ?_
          rintro e w26 ⟨rfl, hb1⟩
          replace hS := hS.later hb1
          clear hHeld hb1
          refine hkQ.out _ _ (hS.sub (((List.Sublist.slnil).cons_cons _).cons _)) (fun hHeld => ?_)
          clear hkQ kQ
          refine wpAnyH_ready (rs := [16]) (by kernel_rfl) (by simp) ?_
          refine (AllReadyH.cons rfl (fun kQ hkQ => ?_) AllReadyH.nil)
          go_simp
          refine (put_any (cf := cf) f 0 s1 ((sn + 1 : Nat) : Int) (fitE (cf x.ser) x.e) _ (unhide HI).gt (fitE_ge (cf_ok x.ser) hxo.e) (Oe.es' hS.K.2) hb2).mono ?_
          rintro e9 w61 ⟨s2, b9, c9, rfl, hP, hO2, hb9⟩
          have hN := (unhide HI).put (unhide HG) hrs hxo (by rw [unhide HL]; omega) hP
          have hS2 := hS.own hb9 hO2
          replace hS := hS.later hb9
          clear hHeld hb9 hO2 hP
          refine hkQ.out _ _ (hS.sub (((List.Sublist.slnil).cons_cons _).cons _)) (fun hHeld => ?_)
          clear hkQ kQ
          refine wpAnyH_take (i := 17) (oi := _) (v := .tuple #[aV (gC f 0 (Sx.v s2)), .bool b9, .int .i64 c9]) rfl (by kernel_rfl) (by kernel_rfl) (by kernel_rfl) (fun _ _ _ h => h) (Or.inl ⟨by rfl, fun w hSw => by go_simp⟩) hHeld ?_
          simp [Act.put]
          refine wpAnyH_take (i := 18) (oi := _) (v := aV (gC f 0 (Sx.v s2))) rfl (by kernel_rfl) (by kernel_rfl) (by kernel_rfl) (fun _ _ _ h => h) (Or.inl ⟨by rfl, fun w hSw => by go_simp⟩) hHeld ?_
          simp [Act.put]
          refine wpAnyH_take (i := 19) (oi := _) (v := .bool b9) rfl (by kernel_rfl) (by kernel_rfl) (by kernel_rfl) (fun _ _ _ h => h) (Or.inl ⟨by rfl, fun w hSw => by go_simp⟩) hHeld ?_
          simp [Act.put]
          refine wpAnyH_take (i := 20) (oi := _) (v := .int .i64 c9) rfl (by kernel_rfl) (by kernel_rfl) (by kernel_rfl) (fun _ _ _ h => h) (Or.inl ⟨by rfl, fun w hSw => by go_simp⟩) hHeld ?_
          simp [Act.put]
          refine wpAnyH_ready (rs := [21]) (by kernel_rfl) (by simp) ?_
          refine (AllReadyH.cons rfl (fun kQ hkQ => ?_) AllReadyH.nil)
          refine dw (by kernel_rfl) (op_store 48 (.tmp 3) (.tmp 44) rfl 0 rfl 0 rfl (gC f 0 (Sx.v s2)) (gC f 0 (Sx.v s2)) (pt_g hfo hfo 0 0 (Sx.v s1) (Sx.v s2)) rfl (szG hfo _ _) (one_g _ _ rfl) hS2 ?_)
          clear hS hHeld hS2
          intro w27 hS
          change Hs17 w [(g2, 48, (gC f 0 (Sx.v s2))), (g1, 48, (gC zFlr 0 nilS))] _ w27 at hS
          refine hkQ.out _ _ ((hS.weak (fun _ h => h.1)).sub (((List.Sublist.slnil).cons_cons _).cons _)) (fun hHeld => ?_)
          clear hkQ kQ
          simp [Act.put]
          refine wpAnyH_done (by kernel_rfl) ?_ _
          unfold NoPanic
          clear hHeld
          clear hR
          go_wp2_with fail
          go_roundw
          case rel => exact ⟨k + 1, f, s2, by omega, by go_num, hide hN, hS.weak (fun _ h => ⟨h.1.1, h.2⟩)⟩
          case measure => simp [intOf]; omega
        · skip
          go_simp
          refine (fitted_any (cf x.ser) x.e _ (cf_ok x.ser) hxo.e).mono ?_
          rintro e w28 ⟨rfl, hb1⟩
          replace hS := hS.later hb1
          clear hHeld hb1
          refine hkQ.out _ _ (hS.sub (((List.Sublist.slnil).cons_cons _).cons _)) (fun hHeld => ?_)
          clear hkQ kQ
          refine wpAnyH_ready (rs := [0]) (by kernel_rfl) (by simp) ?_
          refine (AllReadyH.cons rfl (fun kQ hkQ => ?_) AllReadyH.nil)
          refine dw (by kernel_rfl) (op_val (aV (gC f 0 (Sx.v s1))) (ex_load 48 (.tmp 3) rfl 0 rfl 0 rfl (gC f 0 (Sx.v s1)) (At.self _) Try.underlying48 rfl (szG hfo _ _) hS) ?_)
          refine hkQ.out _ _ (hS.sub (((List.Sublist.slnil).cons_cons _).cons _)) (fun hHeld => ?_)
          clear hkQ kQ
          simp [Act.put]
          refine wpAnyH_ready (rs := [16]) (by kernel_rfl) (by simp) ?_
          refine (AllReadyH.cons rfl (fun kQ hkQ => ?_) AllReadyH.nil)
          go_simp
          refine (put_any (cf := cf) f 0 s1 ((sn + 1 : Nat) : Int) (fitE (cf x.ser) x.e) _ (unhide HI).gt (fitE_ge (cf_ok x.ser) hxo.e) (Oe.es' hS.K.2) hb2).mono ?_
          rintro e9 w61 ⟨s2, b9, c9, rfl, hP, hO2, hb9⟩
          have hN := (unhide HI).put (unhide HG) hrs hxo (by rw [unhide HL]; omega) hP
          have hS2 := hS.own hb9 hO2
          replace hS := hS.later hb9
          clear hHeld hb9 hO2 hP
          refine hkQ.out _ _ (hS.sub (((List.Sublist.slnil).cons_cons _).cons _)) (fun hHeld => ?_)
          clear hkQ kQ
          refine wpAnyH_take (i := 17) (oi := _) (v := .tuple #[aV (gC f 0 (Sx.v s2)), .bool b9, .int .i64 c9]) rfl (by kernel_rfl) (by kernel_rfl) (by kernel_rfl) (fun _ _ _ h => h) (Or.inl ⟨by rfl, fun w hSw => by go_simp⟩) hHeld ?_
          simp [Act.put]
          refine wpAnyH_take (i := 18) (oi := _) (v := aV (gC f 0 (Sx.v s2))) rfl (by kernel_rfl) (by kernel_rfl) (by kernel_rfl) (fun _ _ _ h => h) (Or.inl ⟨by rfl, fun w hSw => by go_simp⟩) hHeld ?_
          simp [Act.put]
          refine wpAnyH_take (i := 19) (oi := _) (v := .bool b9) rfl (by kernel_rfl) (by kernel_rfl) (by kernel_rfl) (fun _ _ _ h => h) (Or.inl ⟨by rfl, fun w hSw => by go_simp⟩) hHeld ?_
          simp [Act.put]
          refine wpAnyH_take (i := 20) (oi := _) (v := .int .i64 c9) rfl (by kernel_rfl) (by kernel_rfl) (by kernel_rfl) (fun _ _ _ h => h) (Or.inl ⟨by rfl, fun w hSw => by go_simp⟩) hHeld ?_
          simp [Act.put]
          refine wpAnyH_ready (rs := [21]) (by kernel_rfl) (by simp) ?_
          refine (AllReadyH.cons rfl (fun kQ hkQ => ?_) AllReadyH.nil)
          refine dw (by kernel_rfl) (op_store 48 (.tmp 3) (.tmp 44) rfl 0 rfl 0 rfl (gC f 0 (Sx.v s2)) (gC f 0 (Sx.v s2)) (pt_g hfo hfo 0 0 (Sx.v s1) (Sx.v s2)) rfl (szG hfo _ _) (one_g _ _ rfl) hS2 ?_)
          clear hS hHeld hS2
          intro w29 hS
          change Hs17 w [(g2, 48, (gC f 0 (Sx.v s2))), (g1, 48, (gC zFlr 0 nilS))] _ w29 at hS
          refine hkQ.out _ _ ((hS.weak (fun _ h => h.1)).sub (((List.Sublist.slnil).cons_cons _).cons _)) (fun hHeld => ?_)
          clear hkQ kQ
          simp [Act.put]
          refine wpAnyH_done (by kernel_rfl) ?_ _
          unfold NoPanic
          clear hHeld
          clear hR
          go_wp2_with fail
          go_roundw
          case rel => exact ⟨k + 1, f, s2, by omega, by go_num, hide hN, hS.weak (fun _ h => ⟨h.1.1, h.2⟩)⟩
          case measure => simp [intOf]; omega
    · have hkd : decide ((k : Int) < (sn : Int)) = false := by simp; omega
      have hke : sx.take k = sx := List.take_of_length_le (by rw [unhide HL]; omega)
      have hI := unhide HI
      rw [hke] at hI
      have HI2 := hide hI
      clear hke hI hEs
      go_upto_region 8 with fail
      refine wp_region_lit ?_
      refine wl_load (by kernel_rfl) 48 (.tmp 3) rfl 0 rfl 0 rfl (gC f 0 (Sx.v s1)) (At.self _) Try.underlying48 rfl (szG hfo _ _) hS ?_
      simp [Act.put]
      refine wl_store (by kernel_rfl) 48 (.tmp 2) (.tmp 47) rfl 1 rfl 0 rfl (gC f 0 (Sx.v s1)) (gC f 0 (Sx.v s1)) (pt_g zFlr_ok hfo 0 0 nilS (Sx.v s1)) rfl (szG hfo _ _) (one_g _ _ rfl) hS ?_
      clear hS
      intro w61 hS
      change Hs17 w [(g2, 48, (gC f 0 (Sx.v s1))), (g1, 48, (gC f 0 (Sx.v s1)))] _ w61 at hS
      simp [Act.put]
      refine wpList_nil ?_
      go_wp2
      refine bodyPost_ret (res_c rfl hS 1 rfl rfl Try.underlying48 rfl (szG hfo _ _)) rfl ?_
      exact ⟨f, s1, rfl, unhide HI2, hS.K.2, hS.bel⟩
end Go.Proofs.Ytppklfckpmenbaa
