import Derived.Test.YtdcaojiiaocnaaaDoorQSfM
set_option linter.unusedSimpArgs false
set_option linter.unusedVariables false
namespace Go.Proofs.YtdcaojiiaocnaaaDoor

/-! What must have a line. -/
def costL (l : Int) : Nat := if l = 66 then 2101 else 20
theorem cmd_cost : ∀ k, k < 22 → (cmdW k).length + 1 + ((cmdF k).map costL).sum ≤ 2201 := by decide
theorem tell_cost {o : Opq} {l : Int} {f : List Int} (hb : o.b.length ≤ 1050) (h : tellL o l = some f) : f.length + 1 ≤ costL l := by
  unfold tellL at h
  unfold costL
  split at h
  · rename_i h66
    rw [if_pos h66]
    split at h
    · simp only [Option.some.injEq] at h; subst h; simp
    · split at h
      · simp only [Option.some.injEq] at h; subst h; rw [hexL_length]; omega
      · cases h
  · rename_i h66
    rw [if_neg h66]
    split at h
    · rename_i hn
      simp only [Option.some.injEq] at h
      subst h
      have := (dec_len18 (getL o l)).2 hn
      omega
    · cases h
theorem tellF_cost {o : Opq} (hb : o.b.length ≤ 1050) : ∀ {ls : List Int} {fs : List (List Int)}, tellF o ls = some fs → (fs.map (fun f => f.length + 1)).sum ≤ (ls.map costL).sum
  | [], fs, h => by simp [tellF] at h; subst h; simp
  | l :: ls, fs, h => by
    unfold tellF at h
    split at h
    · rename_i f gs h1 h2
      simp only [Option.some.injEq] at h
      subst h
      have := tellF_cost hb h2
      have := tell_cost hb h1
      simp only [List.map_cons, List.sum_cons]; omega
    · cases h
theorem tellF_some {o : Opq} : ∀ {ls : List Int}, (∀ l ∈ ls, (tellL o l).isSome = true) → ∃ fs, tellF o ls = some fs
  | [], _ => ⟨[], rfl⟩
  | l :: ls, h => by
    obtain ⟨fs, h2⟩ := tellF_some (o := o) (ls := ls) (fun x hx => h x (by simp [hx]))
    obtain ⟨f, h1⟩ := Option.isSome_iff_exists.1 (h l (by simp))
    exact ⟨f :: fs, by unfold tellF; rw [h1, h2]⟩
theorem tellF_same {a b : Opq} : ∀ {ls : List Int}, (∀ l ∈ ls, tellL a l = tellL b l) → tellF a ls = tellF b ls
  | [], _ => rfl
  | l :: ls, h => by
    unfold tellF
    rw [h l (by simp), tellF_same (ls := ls) (fun x hx => h x (by simp [hx]))]
theorem slim_k (o : Opq) (hk : 1 ≤ o.k ∧ o.k ≤ 21) : (slimL o).k = o.k := (set_fold o (cmdF o.k.toNat) ⟨o.k, 0, 0, 0, 0, []⟩ (cmdF_ok _ (by omega))).1
theorem slim_tell (o : Opq) (hk : 1 ≤ o.k ∧ o.k ≤ 21) : ∀ l ∈ cmdF o.k.toNat, tellL (slimL o) l = tellL o l := fun l hl =>
  tell_same (((set_fold o (cmdF o.k.toNat) ⟨o.k, 0, 0, 0, 0, []⟩ (cmdF_ok _ (by omega))).2 l (cmdF_ok _ (by omega) l hl)).1 hl)
theorem slim_format (o : Opq) : formatL (slimL o) = formatL o := by
  by_cases hk : 1 ≤ o.k ∧ o.k ≤ 21
  · have h1 := slim_k o hk
    unfold formatL
    rw [h1, if_pos hk, if_pos hk, tellF_same (slim_tell o hk)]
  · have h1 : (slimL o).k = o.k := by
      have e : cmdF o.k.toNat = [] := by
        by_cases h0 : o.k.toNat = 0
        · rw [h0]; rfl
        · obtain ⟨j, hj⟩ : ∃ j, o.k.toNat = j + 22 := ⟨o.k.toNat - 22, by omega⟩
          rw [hj]; rfl
      unfold slimL; rw [e]; rfl
    unfold formatL
    rw [h1, if_neg hk, if_neg hk]
/-- a narrow operation has a line -/
theorem may_format {o : Opq} (hk : 1 ≤ o.k ∧ o.k ≤ 21) (hn : (slimL o).n.natAbs < nineQ) (ho : (slimL o).o.natAbs < nineQ) (hc : (slimL o).c.natAbs < nineQ) (hp : (slimL o).p.natAbs < nineQ) (hb : (slimL o).b.length ≤ 1050) : (formatL o).isSome = true := by
  rw [← slim_format]
  have h1 := slim_k o hk
  generalize slimL o = q at *
  have hkn : q.k.toNat < 22 := by omega
  have hs : ∀ l ∈ cmdF q.k.toNat, (tellL q l).isSome = true := fun l hl => by
    unfold tellL
    rcases cmdF_ok _ hkn l hl with rfl | rfl | rfl | rfl | rfl
    · rw [if_neg (by omega), show getL q 78 = q.n from rfl, if_pos hn]; rfl
    · rw [if_neg (by omega), show getL q 79 = q.o from rfl, if_pos ho]; rfl
    · rw [if_neg (by omega), show getL q 67 = q.c from rfl, if_pos hc]; rfl
    · rw [if_neg (by omega), show getL q 80 = q.p from rfl, if_pos hp]; rfl
    · rw [if_pos rfl]
      split
      · rfl
      · rw [if_pos (by omega)]; rfl
  obtain ⟨fs, hfs⟩ := tellF_some hs
  have h2 := tellF_cost hb hfs
  have h3 := cmd_cost _ hkn
  have h4 := join_len (cmdW q.k.toNat :: fs) (by simp)
  simp only [List.map_cons, List.sum_cons] at h4
  unfold formatL
  rw [if_pos (by omega), hfs]
  simp only
  rw [if_pos (by omega)]; rfl
end Go.Proofs.YtdcaojiiaocnaaaDoor
