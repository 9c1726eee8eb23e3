import Derived.Test.YteijlppmgkdieaaDoorQGrB
import Derived.Test.YteijlppmgkdieaaDoorQGrA
namespace Go.Proofs.YteijlppmgkdieaaDoor
open Go.RowKit

theorem Z64 : #[Value.int .u32 0, .int .u32 0, .int .u32 0, .int .u32 0, .int .u32 0, .int .u32 0, .int .u32 0, .int .u32 0, .int .u32 0, .int .u32 0, .int .u32 0, .int .u32 0, .int .u32 0, .int .u32 0, .int .u32 0, .int .u32 0, .int .u32 0, .int .u32 0, .int .u32 0, .int .u32 0, .int .u32 0, .int .u32 0, .int .u32 0, .int .u32 0, .int .u32 0, .int .u32 0, .int .u32 0, .int .u32 0, .int .u32 0, .int .u32 0, .int .u32 0, .int .u32 0, .int .u32 0, .int .u32 0, .int .u32 0, .int .u32 0, .int .u32 0, .int .u32 0, .int .u32 0, .int .u32 0, .int .u32 0, .int .u32 0, .int .u32 0, .int .u32 0, .int .u32 0, .int .u32 0, .int .u32 0, .int .u32 0, .int .u32 0, .int .u32 0, .int .u32 0, .int .u32 0, .int .u32 0, .int .u32 0, .int .u32 0, .int .u32 0, .int .u32 0, .int .u32 0, .int .u32 0, .int .u32 0, .int .u32 0, .int .u32 0, .int .u32 0, .int .u32 0]
    = (U32 (List.replicate 64 0)).toArray := rfl

theorem cell_set_off (w : World) (b : Nat) (v : Value) {i j : Nat} (h : i ≠ j) : (w.setCell ⟨b, j, none⟩ v).cell? ⟨b, i, none⟩ = w.cell? ⟨b, i, none⟩ := by
  apply World.cell?_setCell_other
  intro e
  exact h (congrArg Addr.off e).symm

theorem Tryd.sz64w : (Tryd.prog.info? 71).map (·.size) = some 64 := by kernel_rfl

structure SchedI (B : List Int) (w : World) (k : Nat) (wr : World) : Prop where
  blk : Arr wr w.heap.size 52 (U8 B)
  res : Arr wr (w.heap.size + 1) 71 (U32 (List.replicate 64 0))
  arr : Arr wr (w.heap.size + 1 + 1) 71 (U32 (schedA B k))
  bel : Below w.heap.size w wr

set_option maxHeartbeats 1000000 in
set_option maxRecDepth 100000 in
theorem schedule_any (B : List Int) (w : World) (hl : B.length = 64) (hB : IsB B) :
    Calls Tryd.prog 42 #[.agg (U8 B).toArray] w fun e w' => e = .returned (.agg (U32 (sched B 64)).toArray) ∧ Below w.heap.size w w' := by
  have HL := hide hl
  clear hl
  go_enter Tryd.func42, Tryd.ntmps42
  go_wp2_with fail
  rw [Z64]
  go_loopw [6] (fun i wr => ∃ k : Nat, k ≤ 16 ∧ i = .int .i64 k ∧ SchedI B w k wr) (fun i _ => 16 - (intOf i).toNat)
  case atStart =>
    refine ⟨0, by omega, rfl, ?_⟩
    have hs : (((w.alloc (Obj.cells (U8 B).toArray 52)).alloc (Obj.cells (U32 (List.replicate 64 0)).toArray 71))).heap.size = w.heap.size + 1 + 1 := by simp
    have hs1 : (w.alloc (Obj.cells (U8 B).toArray 52)).heap.size = w.heap.size + 1 := by simp
    refine ⟨((Arr.new _ _ _).alloc _).alloc _, ?_, ?_, ((Below.refl _ _).alloc (Nat.le_refl _) _ |>.alloc (by rw [hs1]; omega) _).alloc (by rw [hs]; omega) _⟩
    · have := (Arr.new (w.alloc (Obj.cells (U8 B).toArray 52)) 71 (U32 (List.replicate 64 0))).alloc (Obj.cells (U32 (List.replicate 64 0)).toArray 71)
      rw [hs1] at this; exact this
    · have := Arr.new ((w.alloc (Obj.cells (U8 B).toArray 52)).alloc (Obj.cells (U32 (List.replicate 64 0)).toArray 71)) 71 (U32 (List.replicate 64 0))
      rw [hs] at this; rw [schedA_zero]; exact this
  case round =>
    obtain ⟨k, hk, rfl, I⟩ := hrel
    by_cases hlt : k < 16
    · have hfz := I.arr.frozen k
      have hcl := I.arr.cell32 k (by rw [schedA_length _ _ (by omega)]; omega)
      go_wp2_with fail
      have e4 : (4 * (k : Int)) = ((4 * k : Nat) : Int) := by omega
      rw [e4]
      clear e4
      refine (loadbe32_ok w.heap.size 0 64 64 (4 * k) B wr (unhide HL) hB I.blk.lies (by omega) (by omega) (by decide)).mono ?_
      rintro e w' ⟨rfl, rfl⟩
      have hx : leV ((B.drop (4 * k)).take 4).reverse = wordAt B k := rfl
      rw [hx]
      have bd := wordAt_bd B k hB
      generalize hX : wordAt B k = X at bd
      have HX := hide hX
      clear hX hx
      go_wp2
      go_roundw
      case rel =>
        refine ⟨k + 1, by omega, by go_num, I.blk.other _ (by show w.heap.size ≠ w.heap.size + 1 + 1; omega), I.res.other _ (by show w.heap.size + 1 ≠ w.heap.size + 1 + 1; omega), ?_, I.bel.setCell (by show w.heap.size ≤ w.heap.size + 1 + 1; omega) _⟩
        have := I.arr.set32 k X
        rwa [schedA_set B k (by omega) X (by rw [if_pos hlt]; exact (unhide HX).symm)] at this
      case measure => simp [intOf]; omega
    · have I16 : SchedI B w 16 wr := by
        have e : k = 16 := by omega
        rw [← e]; exact I
      clear I
      go_wp2_with fail
      clear hk hlt
      generalize (k : Int) = k0
      generalize decide (k0 < 16) = b0
      go_loopw [5] (fun i wr => ∃ k : Nat, 16 ≤ k ∧ k ≤ 64 ∧ i = .int .i64 k ∧ SchedI B w k wr) (fun i _ => 64 - (intOf i).toNat)
      case atStart => exact ⟨16, by omega, by omega, rfl, I16⟩
      case round =>
        clear I16
        obtain ⟨k, hk0, hk, rfl, I⟩ := hrel
        by_cases hlt : k < 64
        · have hfz := I.arr.frozen k
          have hL := schedA_length B k (by omega)
          have hcl := I.arr.cell32 k (by omega)
          have g2 := schedA_at B k (k - 2) (by omega)
          have g7 := schedA_at B k (k - 7) (by omega)
          have g15 := schedA_at B k (k - 15) (by omega)
          have g16 := schedA_at B k (k - 16) (by omega)
          have c2 := I.arr.cell32 (k - 2) (by omega)
          have c7 := I.arr.cell32 (k - 7) (by omega)
          have c15 := I.arr.cell32 (k - 15) (by omega)
          have c16 := I.arr.cell32 (k - 16) (by omega)
          have hW := sched_isW B k hB
          have b2 := hW.at (k - 2)
          have b15 := hW.at (k - 15)
          rw [g2] at c2
          rw [g7] at c7
          rw [g15] at c15
          rw [g16] at c16
          have HX : Hid (ad (ad (ad (s1Z ((sched B k).getD (k - 2) 0)) ((sched B k).getD (k - 7) 0)) (s0Z ((sched B k).getD (k - 15) 0))) ((sched B k).getD (k - 16) 0) = nextW (sched B k)) := by
            show _ = _; unfold nextW; rw [sched_length]
          generalize (sched B k).getD (k - 2) 0 = x2 at c2 b2 HX
          generalize (sched B k).getD (k - 7) 0 = x7 at c7 HX
          generalize (sched B k).getD (k - 15) 0 = x15 at c15 b15 HX
          generalize (sched B k).getD (k - 16) 0 = x16 at c16 HX
          generalize (schedA B k).getD k 0 = xk at hcl
          obtain ⟨m2, hm2, hn2⟩ : ∃ m, k - 2 = m ∧ (k : Int) - 2 = (m : Int) := ⟨k - 2, rfl, by omega⟩
          obtain ⟨m7, hm7, hn7⟩ : ∃ m, k - 7 = m ∧ (k : Int) - 7 = (m : Int) := ⟨k - 7, rfl, by omega⟩
          obtain ⟨m15, hm15, hn15⟩ : ∃ m, k - 15 = m ∧ (k : Int) - 15 = (m : Int) := ⟨k - 15, rfl, by omega⟩
          obtain ⟨m16, hm16, hn16⟩ : ∃ m, k - 16 = m ∧ (k : Int) - 16 = (m : Int) := ⟨k - 16, rfl, by omega⟩
          rw [hm2] at c2
          rw [hm7] at c7
          rw [hm15] at c15
          rw [hm16] at c16
          have d2 : (m2 : Int) < 64 := by omega
          have p2 : (0 : Int) ≤ (m2 : Int) := by omega
          have w2 : IntKind.i64.wrap ((k : Int) - 2) = (m2 : Int) := by rw [IntKind.wrap_i64]; omega
          have d7 : (m7 : Int) < 64 := by omega
          have p7 : (0 : Int) ≤ (m7 : Int) := by omega
          have w7 : IntKind.i64.wrap ((k : Int) - 7) = (m7 : Int) := by rw [IntKind.wrap_i64]; omega
          have d15 : (m15 : Int) < 64 := by omega
          have p15 : (0 : Int) ≤ (m15 : Int) := by omega
          have w15 : IntKind.i64.wrap ((k : Int) - 15) = (m15 : Int) := by rw [IntKind.wrap_i64]; omega
          have d16 : (m16 : Int) < 64 := by omega
          have p16 : (0 : Int) ≤ (m16 : Int) := by omega
          have w16 : IntKind.i64.wrap ((k : Int) - 16) = (m16 : Int) := by rw [IntKind.wrap_i64]; omega
          have ne2 : m2 ≠ k := by omega
          have ne7 : m7 ≠ k := by omega
          have ne15 : m15 ≠ k := by omega
          have ne16 : m16 ≠ k := by omega
          obtain ⟨b20, b21⟩ := b2
          obtain ⟨b150, b151⟩ := b15
          clear hn2 hn7 hn15 hn16 hm2 hm7 hm15 hm16 g2 g7 g15 g16 hW hL
          have hI := hide I
          clear I
          go_wp2_with fail
          generalize hb : w.heap.size + 1 + 1 = b at *
          go_region_held3 (fun w' => w'.cell? ⟨b, m2, none⟩ = some (.int .u32 x2) ∧ w'.cell? ⟨b, m7, none⟩ = some (.int .u32 x7) ∧ w'.cell? ⟨b, m15, none⟩ = some (.int .u32 x15) ∧ w'.cell? ⟨b, m16, none⟩ = some (.int .u32 x16)) (first | go_keep | exact ⟨(cell_set_off _ _ _ ne2).trans (by go_keep), (cell_set_off _ _ _ ne7).trans (by go_keep), (cell_set_off _ _ _ ne15).trans (by go_keep), (cell_set_off _ _ _ ne16).trans (by go_keep)⟩)
            (first
              | (go_at_call 64; refine (smallSigma1_any x2 _ b20 b21).mono ?_; rintro e w' ⟨rfl, kk, rfl⟩)
              | (go_at_call 65; refine (smallSigma0_any x15 _ b150 b151).mono ?_; rintro e w' ⟨rfl, kk, rfl⟩))
          subst hb
          generalize hv : IntKind.u32.wrap (IntKind.u32.wrap (IntKind.u32.wrap (s1Z x2 + x7) + s0Z x15) + x16) = X
          have HV := hide hv
          clear hv
          go_wp2
          go_roundw
          case rel =>
            have I := unhide hI
            have hX : X = nextW (sched B k) := by
              rw [← unhide HX, ← unhide HV]
              simp only [IntKind.wrap_u32', ad]
            refine ⟨k + 1, by omega, by omega, by go_num, I.blk.drewN _ |>.other _ (by show w.heap.size ≠ w.heap.size + 1 + 1; omega), I.res.drewN _ |>.other _ (by show w.heap.size + 1 ≠ w.heap.size + 1 + 1; omega), ?_, (below_drewN I.bel _).setCell (by show w.heap.size ≤ w.heap.size + 1 + 1; omega) _⟩
            rw [← schedA_set B k (by omega) X (by rw [if_neg (by omega)]; exact hX)]
            exact (I.arr.drewN _).set32 k X
          case measure => simp [intOf]; omega
        · have : k = 64 := by omega
          subst this
          clear hk hlt
          have ha := I.arr
          rw [schedA_all] at ha
          have hLn : (sched B 64).length = 64 := sched_length B 64
          obtain ⟨L, hL⟩ : ∃ L, L = sched B 64 := ⟨_, rfl⟩
          rw [← hL] at ha hLn
          have HLL := hide hL
          have HLN := hide hLn
          clear hL hLn
          have hz : (Tryd.prog.info? 71).map (·.size) = some (U32 L).toArray.size := by rw [Tryd.sz64w]; simp [unhide HLN]
          have hbel := I.bel
          have hres := I.res
          clear I
          go_wp2_with (first
            | refine wpList_load_row rfl 71 (.tmp 3) rfl (w.heap.size + 1 + 1) rfl 71 _ (0, 0) _ ha Tryd.underlying71 rfl hz ?_
            | refine wpList_store_row rfl 71 (.tmp 2) (.tmp 46) rfl (w.heap.size + 1) _ rfl rfl 71 _ hres hz (by simp [unhide HLN]) (all_one (U32_one _)) ?_)
          refine bodyPost_ret (results_cell_row rfl _ _ (w.heap.size + 1) 71 _ (0, 0) _ rfl (Arr.setRow hres (U32 L)) Tryd.underlying71 rfl hz) rfl ?_
          rw [← unhide HLL]
          exact ⟨rfl, below_setRow hbel (by omega) _⟩
end Go.Proofs.YteijlppmgkdieaaDoor

namespace Go.Proofs.YteijlppmgkdieaaDoor
open Go.RowKit

/-! One block, as plain mathematics. -/
def KZ : List Int := [1116352408, 1899447441, 3049323471, 3921009573, 961987163, 1508970993, 2453635748, 2870763221, 3624381080, 310598401, 607225278, 1426881987, 1925078388, 2162078206, 2614888103, 3248222580, 3835390401, 4022224774, 264347078, 604807628, 770255983, 1249150122, 1555081692, 1996064986, 2554220882, 2821834349, 2952996808, 3210313671, 3336571891, 3584528711, 113926993, 338241895, 666307205, 773529912, 1294757372, 1396182291, 1695183700, 1986661051, 2177026350, 2456956037, 2730485921, 2820302411, 3259730800, 3345764771, 3516065817, 3600352804, 4094571909, 275423344, 430227734, 506948616, 659060556, 883997877, 958139571, 1322822218, 1537002063, 1747873779, 1955562222, 2024104815, 2227730452, 2361852424, 2428436474, 2756734187, 3204031479, 3329325298]
def FZ : List Int := [1779033703, 3144134277, 1013904242, 2773480762, 1359893119, 2600822924, 528734635, 1541459225]
theorem KZ_length : KZ.length = 64 := rfl
theorem FZ_length : FZ.length = 8 := rfl
theorem KZ_isW : IsW KZ := by unfold IsW KZ; decide
theorem FZ_isW : IsW FZ := by unfold IsW FZ; decide

structure St where
  (a b c d e f g h : Int)
def chZ (e f g : Int) : Int := bits .xor .u32 (bits .and .u32 e f) (bits .and .u32 (4294967295 - e) g)
def majZ (a b c : Int) : Int := bits .xor .u32 (bits .xor .u32 (bits .and .u32 a b) (bits .and .u32 a c)) (bits .and .u32 b c)
def t1Z (s : St) (k w : Int) : Int := ad (ad (ad (ad s.h (S1Z s.e)) (chZ s.e s.f s.g)) k) w
def t2Z (s : St) : Int := ad (S0Z s.a) (majZ s.a s.b s.c)
def rnd (s : St) (k w : Int) : St := ⟨ad (t1Z s k w) (t2Z s), s.a, s.b, s.c, ad s.d (t1Z s k w), s.e, s.f, s.g⟩
def rounds (s : St) (W : List Int) : Nat → St
  | 0 => s
  | k + 1 => rnd (rounds s W k) (KZ.getD k 0) (W.getD k 0)
def St.toL (s : St) : List Int := [s.a, s.b, s.c, s.d, s.e, s.f, s.g, s.h]
def St.ofL (l : List Int) : St := ⟨l.getD 0 0, l.getD 1 0, l.getD 2 0, l.getD 3 0, l.getD 4 0, l.getD 5 0, l.getD 6 0, l.getD 7 0⟩
def St.Ok (s : St) : Prop := IsW s.toL
theorem St.ok_parts {s : St} (h : s.Ok) : (0 ≤ s.a ∧ s.a < 4294967296) ∧ (0 ≤ s.b ∧ s.b < 4294967296) ∧ (0 ≤ s.c ∧ s.c < 4294967296) ∧ (0 ≤ s.d ∧ s.d < 4294967296) ∧ (0 ≤ s.e ∧ s.e < 4294967296) ∧ (0 ≤ s.f ∧ s.f < 4294967296) ∧ (0 ≤ s.g ∧ s.g < 4294967296) ∧ (0 ≤ s.h ∧ s.h < 4294967296) := by
  simpa [St.Ok, IsW, St.toL] using h
theorem St.ok_mk {s : St} (h : (0 ≤ s.a ∧ s.a < 4294967296) ∧ (0 ≤ s.b ∧ s.b < 4294967296) ∧ (0 ≤ s.c ∧ s.c < 4294967296) ∧ (0 ≤ s.d ∧ s.d < 4294967296) ∧ (0 ≤ s.e ∧ s.e < 4294967296) ∧ (0 ≤ s.f ∧ s.f < 4294967296) ∧ (0 ≤ s.g ∧ s.g < 4294967296) ∧ (0 ≤ s.h ∧ s.h < 4294967296)) : s.Ok := by
  simpa [St.Ok, IsW, St.toL] using h
theorem St.Ok.rnd {s : St} (h : s.Ok) (k w : Int) : (rnd s k w).Ok := by
  obtain ⟨h1, h2, h3, h4, h5, h6, h7, h8⟩ := St.ok_parts h
  exact St.ok_mk ⟨ad_bd _ _, h1, h2, h3, ad_bd _ _, h5, h6, h7⟩
theorem St.Ok.rounds {s : St} (h : s.Ok) (W : List Int) (k : Nat) : (rounds s W k).Ok := by
  induction k with
  | zero => exact h
  | succ k ih => exact ih.rnd _ _
theorem St.ofL_ok {l : List Int} (h : IsW l) : (St.ofL l).Ok := St.ok_mk ⟨h.at 0, h.at 1, h.at 2, h.at 3, h.at 4, h.at 5, h.at 6, h.at 7⟩
def blockZ (s B : List Int) : List Int := List.zipWith ad s (rounds (St.ofL s) (sched B 64) 64).toL
theorem blockZ_length (s B : List Int) (h : s.length = 8) : (blockZ s B).length = 8 := by simp [blockZ, St.toL, h]
theorem zipAd_isW (a b : List Int) : IsW (List.zipWith ad a b) := by
  induction a generalizing b with
  | nil => intro x hx; simp at hx
  | cons x a ih =>
    cases b with
    | nil => intro x hx; simp at hx
    | cons y b =>
      intro z hz
      simp only [List.zipWith_cons_cons, List.mem_cons] at hz
      rcases hz with rfl | hz
      · exact ad_bd _ _
      · exact ih b z hz
theorem blockZ_isW (s B : List Int) : IsW (blockZ s B) := zipAd_isW _ _
/-- the state behind k words of the sum -/
def addTo (s t : List Int) (k : Nat) : List Int := (List.range 8).map fun i => if i < k then ad (s.getD i 0) (t.getD i 0) else s.getD i 0
@[simp] theorem addTo_length (s t : List Int) (k : Nat) : (addTo s t k).length = 8 := by simp [addTo]
theorem addTo_zero (s t : List Int) (h : s.length = 8) : addTo s t 0 = s := by
  apply List.ext_getElem
  · simp [h]
  · intro i h1 h2; simp [addTo, h2]
theorem addTo_at (s t : List Int) (k : Nat) (h : k < 8) : (addTo s t k).getD k 0 = s.getD k 0 := by
  simp [addTo, h]
theorem addTo_set (s t : List Int) (k : Nat) : (addTo s t k).set k (ad (s.getD k 0) (t.getD k 0)) = addTo s t (k + 1) := by
  apply List.ext_getElem
  · simp
  · intro i h1 h2
    simp only [addTo, List.getElem_set, List.getElem_map, List.getElem_range]
    by_cases e : k = i
    · subst e; simp
    · simp only [e, if_false]
      by_cases h : i < k
      · simp [h, Nat.lt_succ_of_lt h]
      · rw [if_neg h, if_neg (by omega)]
theorem addTo_all (s t : List Int) (hs : s.length = 8) (ht : t.length = 8) : addTo s t 8 = List.zipWith ad s t := by
  apply List.ext_getElem
  · simp [hs, ht]
  · intro i h1 h2
    simp at h1
    simp [addTo, h1, hs, ht]
end Go.Proofs.YteijlppmgkdieaaDoor

namespace Go.Proofs.YteijlppmgkdieaaDoor
open Go.RowKit

/-- the round constants lie in their variable -/
def KLaid (w : World) : Prop := ∀ i, i < 64 → w.cell? ⟨1, i, none⟩ = some (.int .u32 (KZ.getD i 0))
theorem KLaid.lt {w : World} (h : KLaid w) : 1 < w.heap.size := cell_lt (h 0 (by decide))
theorem KLaid.later {w w' : World} (h : KLaid w) (hb : Below w.heap.size w w') : KLaid w' := fun i hi => (hb.cell (p := ⟨1, i, none⟩) h.lt).trans (h i hi)
theorem KLaid.below {w w' : World} {B : Nat} (h : KLaid w) (hb : Below B w w') (hB : 1 < B) : KLaid w' := fun i hi => (hb.cell (p := ⟨1, i, none⟩) hB).trans (h i hi)
theorem KLaid.drewN {w : World} (h : KLaid w) (k : Nat) : KLaid (w.drewN k) := h

theorem Tryd.sz64b : (Tryd.prog.info? 52).map (·.size) = some 64 := by kernel_rfl
theorem Tryd.sz8w : (Tryd.prog.info? 51).map (·.size) = some 8 := by kernel_rfl

theorem u32_not (x : Int) (h0 : 0 ≤ x) (h1 : x < 4294967296) : bits .xor .u32 (if IntKind.u32.signed = true then -1 else IntKind.u32.max) x = 4294967295 - x := by
  show bits .xor .u32 4294967295 x = _
  obtain ⟨X, rfl⟩ := Int.eq_ofNat_of_zero_le h0
  rw [bits_xor32]
  have e : (BitVec.ofInt 32 4294967295) = BitVec.allOnes 32 := by decide
  rw [e, BitVec.allOnes_xor, BitVec.toNat_not, BitVec.ofInt_natCast, BitVec.toNat_ofNat, Nat.mod_eq_of_lt (by omega)]
  omega

theorem run_index8 (T : List Int) (j : Nat) (w : World) (y : Int) (hj : j < 8) (hy : (U32 T).toArray[j]? = some (.int .u32 y)) : (Instr.index 51 (.agg (U32 T).toArray) (.int .i64 j)).run Tryd.prog w = .ok (.int .u32 y) w := by
  have hy' : (U32 T)[j]? = some (.int .u32 y) := by simpa using hy
  simp [Instr.index, asIntOf, run_underlying Tryd.underlying51, part, hy', hj]

structure BlkI (s L : List Int) (w : World) (gL : Nat) (wr : World) : Prop where
  sta : Arr wr w.heap.size 51 (U32 s)
  res : Arr wr (w.heap.size + 1 + 1) 51 (U32 [0, 0, 0, 0, 0, 0, 0, 0])
  arr : Arr wr gL 71 (U32 L)
  kon : KLaid wr
  bel : Below w.heap.size w wr
theorem BlkI.drewN {s L : List Int} {w : World} {gL : Nat} {wr : World} (h : BlkI s L w gL wr) (k : Nat) : BlkI s L w gL (wr.drewN k) :=
  ⟨h.sta.drewN k, h.res.drewN k, h.arr.drewN k, h.kon.drewN k, below_drewN h.bel k⟩

set_option maxHeartbeats 2000000 in
set_option maxRecDepth 100000 in
theorem block_any (s B : List Int) (w : World) (hs : s.length = 8) (hsW : IsW s) (hl : B.length = 64) (hB : IsB B) (hK : KLaid w) :
    Calls Tryd.prog 23 #[.agg (U32 s).toArray, .agg (U8 B).toArray] w fun e w' => e = .returned (.agg (U32 (blockZ s B)).toArray) ∧ Below w.heap.size w w' := by
  have HL := hide hl
  have HS := hide hs
  have hzb : (Tryd.prog.info? 52).map (·.size) = some (U8 B).toArray.size := by rw [Tryd.sz64b]; simp [hl]
  clear hl hs
  go_enter Tryd.func23, Tryd.ntmps23
  obtain ⟨a0, b0, c0, d0, e0, f0, g0, h0, rfl⟩ : ∃ a b c d e f g h, s = [a, b, c, d, e, f, g, h] := by
    have := unhide HS
    match s, this with
    | [a, b, c, d, e, f, g, h], _ => exact ⟨a, b, c, d, e, f, g, h, rfl⟩
  clear HS
  obtain ⟨W, hW, hA, hBk, hR, hbW, hsW2⟩ := arr3 w 51 52 51 (U32 [a0, b0, c0, d0, e0, f0, g0, h0]) (U8 B) (U32 [0, 0, 0, 0, 0, 0, 0, 0])
  have hld := hBk
  rw [hW] at hld
  have HW := hide hW
  have hz8 : (Tryd.prog.info? 51).map (·.size) = some 8 := Tryd.sz8w
  clear hW
  go_wp2_with (refine wpList_load_row rfl 52 (.tmp 3) rfl (w.heap.size + 1) rfl 52 (U8 B).toArray (0, 0) _ hld Tryd.underlying52 rfl hzb ?_)
  have hz0 : (#[Value.int .u32 0, .int .u32 0, .int .u32 0, .int .u32 0, .int .u32 0, .int .u32 0, .int .u32 0, .int .u32 0] : Array Value) = (U32 [0, 0, 0, 0, 0, 0, 0, 0]).toArray := rfl
  rw [hz0, ← unhide HW]
  clear hld hz0
  refine (schedule_any B W (unhide HL) hB).mono ?_
  rintro e w1 ⟨rfl, hb1⟩
  have hLn : (sched B 64).length = 64 := sched_length B 64
  obtain ⟨L, hL⟩ : ∃ L, L = sched B 64 := ⟨_, rfl⟩
  rw [← hL] at hLn ⊢
  have HLL := hide hL
  have hz : (Tryd.prog.info? 71).map (·.size) = some (U32 L).toArray.size := by rw [Tryd.sz64w]; simp [hLn]
  have hzs : (U32 (List.replicate 64 0)).toArray.size = (U32 L).toArray.size := by simp [hLn]
  have HLN := hide hLn
  clear hL hLn
  go_wp2_with (rw [Z64]; refine wpList_store_row rfl 71 (.tmp 5) (.tmp 20) rfl w1.heap.size _ rfl rfl 71 _ (heap_alloc_last w1 _) hz hzs (all_one (U32_one _)) ?_)
  rw [World.setRow_alloc_new]
  obtain ⟨W2, hW2, hAL, hb2, hs2⟩ := arr1 w1 71 (U32 L)
  rw [← hW2]
  clear hW2
  have hlt1 : w.heap.size + 1 + 1 < w1.heap.size := by have := hb1.size; omega
  have hbT : Below w.heap.size w W2 := (hbW.trans (hb1.mono (by omega))).trans (hb2.mono (by omega))
  have hA2 : Arr W2 w.heap.size 51 (U32 [a0, b0, c0, d0, e0, f0, g0, h0]) := (hA.later hb1).later hb2
  have hR2 : Arr W2 (w.heap.size + 1 + 1) 51 (U32 [0, 0, 0, 0, 0, 0, 0, 0]) := (hR.later hb1).later hb2
  have hK2 : KLaid W2 := hK.later hbT
  generalize w1.heap.size = gL at *
  clear hA hBk hR hbW hsW2 HW hb1 hs2 hb2 hK hzb hzs hz
  have q0 : W2.cell? ⟨w.heap.size, 0, none⟩ = some (.int .u32 a0) := hA2.cell 0
  have q1 : W2.cell? ⟨w.heap.size, 1, none⟩ = some (.int .u32 b0) := hA2.cell 1
  have q2 : W2.cell? ⟨w.heap.size, 2, none⟩ = some (.int .u32 c0) := hA2.cell 2
  have q3 : W2.cell? ⟨w.heap.size, 3, none⟩ = some (.int .u32 d0) := hA2.cell 3
  have q4 : W2.cell? ⟨w.heap.size, 4, none⟩ = some (.int .u32 e0) := hA2.cell 4
  have q5 : W2.cell? ⟨w.heap.size, 5, none⟩ = some (.int .u32 f0) := hA2.cell 5
  have q6 : W2.cell? ⟨w.heap.size, 6, none⟩ = some (.int .u32 g0) := hA2.cell 6
  have q7 : W2.cell? ⟨w.heap.size, 7, none⟩ = some (.int .u32 h0) := hA2.cell 7
  go_wp2_with fail
  go_quiet (fail)
  go_wp2_with fail
  go_quiet (fail)
  go_wp2_with fail
  clear q0 q1 q2 q3 q4 q5 q6 q7
  go_loopw [6, 7, 8, 9, 10, 11, 12, 13, 37] (fun va vb vc vd ve vf vg vh i wr => ∃ k : Nat, ∃ S : St, k ≤ 64 ∧ i = .int .i64 k ∧ S = rounds (St.ofL [a0, b0, c0, d0, e0, f0, g0, h0]) L k ∧ va = .int .u32 S.a ∧ vb = .int .u32 S.b ∧ vc = .int .u32 S.c ∧ vd = .int .u32 S.d ∧ ve = .int .u32 S.e ∧ vf = .int .u32 S.f ∧ vg = .int .u32 S.g ∧ vh = .int .u32 S.h ∧ BlkI [a0, b0, c0, d0, e0, f0, g0, h0] L w gL wr)
    (fun _ _ _ _ _ _ _ _ i _ => 64 - (intOf i).toNat)
  case atStart => exact ⟨0, _, by omega, rfl, rfl, rfl, rfl, rfl, rfl, rfl, rfl, rfl, rfl, (BlkI.drewN ⟨hA2, hR2, hAL, hK2, hbT⟩ _).drewN _⟩
  case round =>
    obtain ⟨k, S, hk, rfl, hS, rfl, rfl, rfl, rfl, rfl, rfl, rfl, rfl, I⟩ := hrel
    clear hA2 hR2 hAL hK2 hbT
    have HSS := hide hS
    have hok : S.Ok := by rw [hS]; exact (St.ofL_ok hsW).rounds L k
    clear hS
    obtain ⟨⟨pa, qa⟩, -, -, -, ⟨pe, qe⟩, -, -, -⟩ := St.ok_parts hok
    have HOK := hide hok
    clear hok
    by_cases hlt : k < 64
    · have ck := I.kon k hlt
      have cl := I.arr.cell32 k (by rw [unhide HLN]; exact hlt)
      generalize hkk : KZ.getD k 0 = kk at ck
      generalize hll : L.getD k 0 = ll at cl
      have HKK := hide hkk
      have HLK := hide hll
      clear hkk hll
      go_wp2_with fail
      go_quiet (first
        | (go_at_call 43; exact Calls.quiet_of (bigSigma1_any _ _ pe qe)))
      have hnot := u32_not S.e pe qe
      generalize hT : (((S.h + S1Z S.e + bits BinOp.xor IntKind.u32 (bits BinOp.and IntKind.u32 S.e S.f) (bits BinOp.and IntKind.u32 (bits BinOp.xor IntKind.u32 (if IntKind.u32.signed = true then -1 else IntKind.u32.max) S.e) S.g) + kk) % 4294967296 + ll) % 4294967296) = T1
      have HT : Hid (T1 = t1Z S kk ll) := by
        show _ = _
        rw [← hT, hnot]
        unfold t1Z ad chZ
        omega
      clear hT hnot
      go_wp2_with fail
      refine (bigSigma0_any _ _ pa qa).mono ?_
      rintro e w' ⟨rfl, m, rfl⟩
      go_wp2
      go_roundw
      case rel =>
        refine ⟨k + 1, rnd S kk ll, by omega, by go_num, ?_, ?_, rfl, rfl, rfl, ?_, rfl, rfl, rfl, I.drewN _⟩
        · rw [rounds, ← unhide HSS, unhide HKK, unhide HLK]
        · rw [unhide HT]; rfl
        · rw [unhide HT]; rfl
      case measure => simp [intOf]; omega
    · have e64 : k = 64 := by omega
      have HF : Hid (S = rounds (St.ofL [a0, b0, c0, d0, e0, f0, g0, h0]) L 64) := by
        show _ = _; rw [← e64]; exact unhide HSS
      clear e64
      go_wp2_with fail
      have hT8 : #[Value.int .u32 S.a, .int .u32 S.b, .int .u32 S.c, .int .u32 S.d, .int .u32 S.e, .int .u32 S.f, .int .u32 S.g, .int .u32 S.h] = (U32 S.toL).toArray := rfl
      rw [hT8]
      clear hT8
      have hTl : S.toL.length = 8 := rfl
      generalize hTT : S.toL = T at hTl
      have HTT := hide hTT
      have HTL := hide hTl
      clear hTT hTl
      generalize hs0 : [a0, b0, c0, d0, e0, f0, g0, h0] = s at *
      have hs8 : s.length = 8 := by rw [← hs0]; rfl
      have HS8 := hide hs8
      have HS0 := hide hs0
      clear hs8 hs0
      go_loopw [97] (fun i wr => ∃ j : Nat, j ≤ 8 ∧ i = .int .i64 j ∧ Arr wr w.heap.size 51 (U32 (addTo s T j)) ∧ Arr wr (w.heap.size + 1 + 1) 51 (U32 [0, 0, 0, 0, 0, 0, 0, 0]) ∧ Below w.heap.size w wr) (fun i _ => 8 - (intOf i).toNat)
      case atStart =>
        refine ⟨0, by omega, rfl, ?_, I.res, I.bel⟩
        rw [addTo_zero _ _ (unhide HS8)]; exact I.sta
      case round =>
        clear I
        obtain ⟨j, hj, rfl, hA, hR, hbl⟩ := hrel
        by_cases hjl : j < 8
        · have cj := hA.cell32 j (by simpa using hjl)
          rw [addTo_at _ _ _ hjl] at cj
          have fj := hA.frozen j
          have tj : (U32 T).toArray[j]? = some (.int .u32 (T.getD j 0)) := by
            have := U32_at T j (by rw [unhide HTL]; exact hjl)
            simpa using this
          generalize hx : s.getD j 0 = x at cj
          generalize hy : T.getD j 0 = y at tj
          have HX := hide hx
          have HY := hide hy
          clear hx hy
          have hix := run_index8 T j wr y hjl tj
          go_wp2
          go_roundw
          case rel =>
            refine ⟨j + 1, by omega, by go_num, ?_, hR.other _ (by show w.heap.size + 1 + 1 ≠ w.heap.size; omega), hbl.setCell (Nat.le_refl _) _⟩
            rw [← addTo_set, unhide HX, unhide HY]
            exact hA.set32 j _
          case measure => simp [intOf]; omega
        · have e8 : j = 8 := by omega
          have hA8 : Arr wr w.heap.size 51 (U32 (blockZ s B)) := by
            rw [e8, addTo_all s T (unhide HS8) (unhide HTL)] at hA
            have : List.zipWith ad s T = blockZ s B := by
              unfold blockZ; rw [← unhide HTT, unhide HF, unhide HLL]
            rwa [this] at hA
          have hR0 : (blockZ s B).length = 8 := blockZ_length s B (unhide HS8)
          clear e8 hA
          generalize hRR : blockZ s B = R at hA8 hR0
          have HRR := hide hRR
          clear hRR
          have hzr : (Tryd.prog.info? 51).map (·.size) = some (U32 R).toArray.size := by rw [hz8]; simp [hR0]
          have hzo : (U32 [0, 0, 0, 0, 0, 0, 0, 0]).toArray.size = (U32 R).toArray.size := by simp [hR0]
          have HR0 := hide hR0
          clear hR0
          go_wp2_with (first
            | refine wpList_load_row rfl 51 (.tmp 2) rfl w.heap.size rfl 51 _ (0, 0) _ hA8 Tryd.underlying51 rfl hzr ?_
            | refine wpList_store_row rfl 51 (.tmp 4) (.tmp 108) rfl (w.heap.size + 1 + 1) _ rfl rfl 51 _ hR hzr hzo (all_one (U32_one _)) ?_)
          refine bodyPost_ret (results_cell_row rfl _ _ (w.heap.size + 1 + 1) 51 _ (0, 0) _ rfl (Arr.setRow hR (U32 R)) Tryd.underlying51 rfl hzr) rfl ?_
          refine ⟨?_, below_setRow hbl (by omega) _⟩
          rw [unhide HS0, ← unhide HRR]
end Go.Proofs.YteijlppmgkdieaaDoor
