import Derived.Test.YtppklfckpmenbaaLatM
set_option linter.unusedSimpArgs false
set_option linter.unusedVariables false
namespace Go.Proofs.Ytppklfckpmenbaa
open Go.RowKit

/-- the one certificate of a serial -/
def cfA (s : Int) : List Int := IntKind.u8.wrap s :: List.replicate 31 0
def cf (s : Int) : Crt := ⟨s, IntKind.i64.wrap (1 + s.tmod 7), 0, cfA s, z64⟩
theorem cfA_by (s : Int) : By 32 (cfA s) := by
  refine ⟨by simp [cfA], fun x hx => ?_⟩
  unfold cfA at hx
  rcases List.mem_cons.1 hx with rfl | hx
  · have e : IntKind.u8.wrap s = s % 256 := rfl
    rw [e]; omega
  · have := List.eq_of_mem_replicate hx; omega
theorem cf_ok (s : Int) : (cf s).Ok := ⟨cfA_by s, z64_by⟩
theorem b_hash1 (z : Int) : Try.prog.built 23 [(0, .int .u8 z)] = some (U8 (z :: List.replicate 31 0)).toArray := by
  rw [Try.bH, fill_pt (p' := [.int .u8 z]) (c := U8 z32) (c' := U8 (z :: List.replicate 31 0)) rfl rfl ⟨[], [.int .u8 0], U8 (List.replicate 31 0), rfl, rfl, rfl, rfl⟩]
  rfl
theorem b_crt3 {s r : Int} {l : List Int} (hl : By 32 l) : Try.prog.built 27 [(0, .int .i64 s), (1, .int .i64 r), (3, aV (U8 l))] = some (crtC ⟨s, r, 0, l, z64⟩).toArray := by
  rw [Try.bC, fill_pt (p' := [.int .i64 s]) (c := crtC zCrt) (c' := crtC ⟨s, 0, 0, z32, z64⟩) rfl rfl ⟨[], [.int .i64 0], _, rfl, rfl, rfl, rfl⟩, fill_pt (p' := [.int .i64 r]) (c := crtC ⟨s, 0, 0, z32, z64⟩) (c' := crtC ⟨s, r, 0, z32, z64⟩) rfl rfl ⟨[.int .i64 s], [.int .i64 0], _, rfl, rfl, rfl, rfl⟩,
    fill_pt (p' := U8 l) (c := crtC ⟨s, r, 0, z32, z64⟩) (c' := crtC ⟨s, r, 0, l, z64⟩) (pl_len (by simp [hl.len])) rfl ⟨[.int .i64 s, .int .i64 r, .int .i64 0], U8 z32, U8 z64, rfl, rfl, rfl, by simp [hl.len, z32_by.len]⟩]
  rfl
set_option maxHeartbeats 4000000 in
set_option maxRecDepth 100000 in
theorem certOf_any (s : Int) (w : World) :
    Calls Try.prog 21 #[.int .i64 s] w fun r w' => r = .returned (aV (crtC (cf s))) ∧ Below w.heap.size w w' := by
  have hS := Hs17.start0 w
  have hC : Try.prog.built 27 [(0, .int .i64 s), (1, .int .i64 (IntKind.i64.wrap (1 + s.tmod 7))), (3, aV (U8 (cfA s)))] = some (crtC (cf s)).toArray := b_crt3 (cfA_by s)
  have hH : Try.prog.built 23 [(0, .int .u8 (IntKind.u8.wrap s))] = some (U8 (cfA s)).toArray := b_hash1 _
  go_enter Try.func21, Try.ntmps21
  go_upto_region 0 with fail
  refine wp_region_lit ?_
  refine wl_alloc (by kernel_rfl) 27 rfl (crtC zCrt) Try.inC hS ?_
  clear hS
  intro g1 w1 hS
  simp [Act.put]
  refine wpList_nil ?_
  go_upto_region 1 with fail
  refine wp_region_lit ?_
  refine wl (by kernel_rfl) fun kQ hkQ => ?_
  go_simp
  refine hkQ _ _ ?_
  clear hkQ kQ
  refine wl (by kernel_rfl) fun kQ hkQ => ?_
  go_simp
  refine hkQ _ _ ?_
  clear hkQ kQ
  refine wl (by kernel_rfl) fun kQ hkQ => ?_
  go_simp
  refine hkQ _ _ ?_
  clear hkQ kQ
  refine wl (by kernel_rfl) fun kQ hkQ => ?_
  go_simp
  refine hkQ _ _ ?_
  clear hkQ kQ
  refine wl (by kernel_rfl) fun kQ hkQ => ?_
  go_simp
  refine hkQ _ _ ?_
  clear hkQ kQ
  refine wl (by kernel_rfl) fun kQ hkQ => ?_
  go_simp
  refine hkQ _ _ ?_
  clear hkQ kQ
  refine wv (aV (U8 (cfA s))) (by kernel_rfl) (ex_build 23 #[(0, .tmp 8)] rfl (U8 (cfA s)) hH rfl) ?_
  simp [Act.put]
  refine wv (aV (crtC (cf s))) (by kernel_rfl) (ex_build 27 #[(0, .tmp 3), (1, .tmp 6), (3, .tmp 9)] rfl (crtC (cf s)) hC rfl) ?_
  simp [Act.put]
  refine wl_store (by kernel_rfl) 27 (.tmp 2) (.tmp 10) rfl 0 rfl 0 rfl (crtC (cf s)) (crtC (cf s)) (Pt.self (by rw [crtC_len zCrt_ok, crtC_len (cf_ok s)])) rfl (szC (cf_ok s)) (one_crt _) hS ?_
  clear hS
  intro w2 hS
  change Hs17 w [(g1, 27, (crtC (cf s)))] _ w2 at hS
  simp [Act.put]
  refine wpList_nil ?_
  go_wp2
  refine bodyPost_ret (res_c rfl hS 0 rfl rfl Try.underlying27 rfl (szC (cf_ok s))) rfl ?_
  exact ⟨rfl, hS.bel⟩
end Go.Proofs.Ytppklfckpmenbaa
