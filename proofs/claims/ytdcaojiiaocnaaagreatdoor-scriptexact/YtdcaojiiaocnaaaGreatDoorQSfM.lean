import Derived.Test.YtdcaojiiaocnaaaGreatDoorQScM
set_option linter.unusedSimpArgs false
set_option linter.unusedVariables false
namespace Go.Proofs.YtdcaojiiaocnaaaGreatDoor

/-! Fields, commands, lines. -/
def noB25 (f : List Int) : Prop := ∀ c ∈ f, c ≠ 32
def splitB : List Int → List (List Int)
  | [] => [[]]
  | c :: r => if c = 32 then [] :: splitB r else (match splitB r with | [] => [[c]] | f :: fs => (c :: f) :: fs)
def joinB : List (List Int) → List Int
  | [] => []
  | [f] => f
  | f :: g :: r => f ++ 32 :: joinB (g :: r)
theorem splitB_ne : ∀ l : List Int, splitB l ≠ []
  | [] => by simp [splitB]
  | c :: r => by
    unfold splitB
    split
    · simp
    · split <;> simp
theorem splitB_c {c : Int} {r f : List Int} {fs : List (List Int)} (hc : c ≠ 32) (h : splitB r = f :: fs) : splitB (c :: r) = (c :: f) :: fs := by
  rw [splitB, if_neg hc, h]
theorem splitB_b (r : List Int) : splitB (32 :: r) = [] :: splitB r := by rw [splitB, if_pos rfl]
theorem join_split : ∀ l : List Int, joinB (splitB l) = l
  | [] => rfl
  | c :: r => by
    have ih := join_split r
    obtain ⟨f, fs, h⟩ : ∃ f fs, splitB r = f :: fs := by
      cases hq : splitB r with
      | nil => exact absurd hq (splitB_ne r)
      | cons f fs => exact ⟨f, fs, rfl⟩
    by_cases hc : c = 32
    · subst hc
      rw [splitB_b]
      rw [h] at ih ⊢
      show [] ++ 32 :: joinB (f :: fs) = _
      rw [ih]; rfl
    · rw [splitB_c hc h]
      rw [h] at ih
      cases fs with
      | nil => show c :: f = _; rw [show f = r from ih]
      | cons g gs => show (c :: f) ++ 32 :: joinB (g :: gs) = _; rw [List.cons_append]; congr 1
theorem split_one : ∀ f : List Int, noB25 f → splitB f = [f]
  | [], _ => rfl
  | c :: r, h => splitB_c (h c (by simp)) (split_one r (fun x hx => h x (by simp [hx])))
theorem split_app : ∀ (f r : List Int), noB25 f → splitB (f ++ 32 :: r) = f :: splitB r
  | [], r, _ => splitB_b r
  | c :: f, r, h => splitB_c (h c (by simp)) (split_app f r (fun x hx => h x (by simp [hx])))
theorem split_join : ∀ fs : List (List Int), fs ≠ [] → (∀ f ∈ fs, noB25 f) → splitB (joinB fs) = fs
  | [], h, _ => absurd rfl h
  | [f], _, h => split_one f (h f (by simp))
  | f :: g :: r, _, h => by
    show splitB (f ++ 32 :: joinB (g :: r)) = _
    rw [split_app f _ (h f (by simp)), split_join (g :: r) (by simp) (fun x hx => h x (by simp [hx]))]
theorem split_noB : ∀ l : List Int, ∀ f ∈ splitB l, noB25 f
  | [] => by intro f hf; simp [splitB] at hf; subst hf; intro c hc; simp at hc
  | c :: r => by
    intro f hf
    have ih := split_noB r
    obtain ⟨g, gs, h⟩ : ∃ g gs, splitB r = g :: gs := by
      cases hq : splitB r with
      | nil => exact absurd hq (splitB_ne r)
      | cons g gs => exact ⟨g, gs, rfl⟩
    by_cases hc : c = 32
    · subst hc
      rw [splitB_b] at hf
      rcases List.mem_cons.1 hf with rfl | hf
      · intro c hc; simp at hc
      · exact ih f hf
    · rw [splitB_c hc h] at hf
      rw [h] at ih
      rcases List.mem_cons.1 hf with rfl | hf
      · intro x hx
        rcases List.mem_cons.1 hx with rfl | hx
        · exact hc
        · exact ih g (by simp) x hx
      · exact ih f (by simp [hf])
theorem split_len : ∀ l : List Int, (splitB l).length = l.count 32 + 1
  | [] => rfl
  | c :: r => by
    have ih := split_len r
    obtain ⟨g, gs, h⟩ : ∃ g gs, splitB r = g :: gs := by
      cases hq : splitB r with
      | nil => exact absurd hq (splitB_ne r)
      | cons g gs => exact ⟨g, gs, rfl⟩
    by_cases hc : c = 32
    · subst hc; rw [splitB_b, List.length_cons, ih, List.count_cons_self]
    · rw [splitB_c hc h, List.count_cons_of_ne (fun e => hc e)]
      rw [h] at ih; exact ih
/-- the first field, and what is behind it -/
theorem split_cons {l f : List Int} {fs : List (List Int)} (h : splitB l = f :: fs) : l.takeWhile (fun c => c != 32) = f ∧ (fs = [] → l = f) ∧ (fs ≠ [] → ∃ r, l = f ++ 32 :: r ∧ splitB r = fs) := by
  have hj := join_split l
  rw [h] at hj
  have hf : noB25 f := split_noB l f (by rw [h]; simp)
  have htw : ∀ (f r : List Int), noB25 f → (f ++ 32 :: r).takeWhile (fun c => c != 32) = f := by
    intro f
    induction f with
    | nil => intro r _; simp
    | cons c f ih => intro r h; simp [h c (by simp), ih r (fun x hx => h x (by simp [hx]))]
  cases fs with
  | nil =>
    have hj' : f = l := hj
    subst hj'
    refine ⟨?_, fun _ => rfl, fun h => absurd rfl h⟩
    have hts : ∀ (f : List Int), noB25 f → f.takeWhile (fun c => c != 32) = f := by
      intro f
      induction f with
      | nil => intro _; rfl
      | cons c f ih => intro h; simp [h c (by simp), ih (fun x hx => h x (by simp [hx]))]
    exact hts f hf
  | cons g gs =>
    have hj' : f ++ 32 :: joinB (g :: gs) = l := hj
    subst hj'
    refine ⟨htw f _ hf, fun h => by simp at h, fun _ => ⟨_, rfl, ?_⟩⟩
    rw [split_app f _ hf] at h
    simpa using h
theorem join_len : ∀ (fs : List (List Int)), fs ≠ [] → (joinB fs).length + 1 = (fs.map (fun f => f.length + 1)).sum
  | [], h => absurd rfl h
  | [f], _ => by simp [joinB]
  | f :: g :: r, _ => by
    have := join_len (g :: r) (by simp)
    show (f ++ 32 :: joinB (g :: r)).length + 1 = _
    rw [List.map_cons, List.sum_cons, ← this]; simp; omega
def cmdW : Nat → List Int
  | 1 => [98, 117, 121]
  | 2 => [114, 105, 100, 101]
  | 3 => [103, 111, 115, 115, 105, 112]
  | 4 => [115, 121, 110, 99]
  | 5 => [102, 114, 101, 101, 122, 101]
  | 6 => [112, 97, 121]
  | 7 => [114, 101, 118, 111, 107, 101]
  | 8 => [102, 108, 111, 111, 114]
  | 9 => [100, 101, 108, 105, 118, 101, 114]
  | 10 => [100, 114, 111, 112]
  | 11 => [100, 111, 117, 98, 108, 101]
  | 12 => [105, 110, 106, 101, 99, 116]
  | 13 => [99, 114, 97, 115, 104]
  | 14 => [114, 101, 115, 116, 97, 114, 116]
  | 15 => [104, 101, 97, 100]
  | 16 => [114, 111, 119]
  | 17 => [99, 97, 114, 110, 101, 116]
  | 18 => [112, 117, 114, 115, 101]
  | 19 => [109, 111, 110, 101, 121]
  | 20 => [98, 97, 103]
  | 21 => [115, 116, 97, 116, 101]
  | _ => []
def cmdF : Nat → List Int
  | 1 => [78, 67, 80]
  | 2 => [78, 67, 79]
  | 3 => [78, 79]
  | 4 => [78, 79]
  | 5 => [67]
  | 6 => [67]
  | 7 => [67]
  | 8 => [67]
  | 9 => [67]
  | 10 => [67]
  | 11 => [67]
  | 12 => [78, 66]
  | 13 => [78, 67, 79]
  | 14 => [78]
  | 15 => []
  | 16 => [78, 67]
  | 17 => [67]
  | 18 => [78, 67]
  | 19 => []
  | 20 => []
  | 21 => []
  | _ => []
theorem cmdW_noB : ∀ k, k < 22 → ∀ c ∈ cmdW k, c ≠ 32 ∧ c ≠ 10 := by decide
theorem cmdW_ne : ∀ k, k < 22 → 1 ≤ k → cmdW k ≠ [] := by decide
theorem cmdF_ok : ∀ k, k < 22 → ∀ l ∈ cmdF k, l = 78 ∨ l = 79 ∨ l = 67 ∨ l = 80 ∨ l = 66 := by decide
theorem cmdF_nodup : ∀ k, k < 22 → (cmdF k).Nodup := by decide
theorem cmdW_isB : ∀ k, k < 22 → ∀ c ∈ cmdW k, 0 ≤ c ∧ c ≤ 255 := by decide
def kindOf (w : List Int) : Nat := ((List.range' 1 21).find? (fun k => cmdW k == w)).getD 0
theorem kindOf_cmd' : ∀ k, k < 22 → 1 ≤ k → kindOf (cmdW k) = k := by decide
theorem kindOf_cmd (k : Nat) (h1 : 1 ≤ k) (h2 : k < 22) : kindOf (cmdW k) = k := kindOf_cmd' k h2 h1
theorem le_sum25 : ∀ {l : List Nat} {x : Nat}, x ∈ l → x ≤ l.sum
  | [], x, h => by simp at h
  | y :: l, x, h => by
    rw [List.sum_cons]
    rcases List.mem_cons.1 h with rfl | h
    · omega
    · have := le_sum25 h; omega
theorem kindOf_ne {w : List Int} (h : kindOf w ≠ 0) : cmdW (kindOf w) = w ∧ 1 ≤ kindOf w ∧ kindOf w < 22 := by
  unfold kindOf at h ⊢
  cases hq : (List.range' 1 21).find? (fun k => cmdW k == w) with
  | none => rw [hq] at h; exact absurd rfl h
  | some k =>
    have h1 := List.find?_some hq
    have h2 := List.mem_of_find?_eq_some hq
    rw [List.mem_range'_1] at h2
    refine ⟨?_, h2.1, by simp only [Option.getD_some]; omega⟩
    simpa using h1
/-- an operation -/
structure Opq where (k n o c p : Int) (b : List Int)
def zOp : Opq := ⟨0, 0, 0, 0, 0, []⟩
def bytesL (f : List Int) : Option (List Int) := if f = [45] then some [] else if f ≠ [] ∧ OkHex f then some (unhexL f) else none
def putL (o : Opq) (l : Int) (f : List Int) : Option Opq :=
  if l = 66 then (bytesL f).map (fun b => { o with b := b })
  else (wholeL f).map (fun n => if l = 78 then { o with n := n } else if l = 79 then { o with o := n } else if l = 67 then { o with c := n } else if l = 80 then { o with p := n } else o)
def readF : List Int → List (List Int) → Nat → Opq → Opq × Int × Int
  | l :: ls, f :: fs, at_, o => (match putL o l f with | none => (zOp, 252, (at_ : Int)) | some o' => readF ls fs (at_ + f.length + 1) o')
  | _, _, _, o => (o, 0, 0)
def parseL (l : List Int) : Opq × Int × Int :=
  if 2200 < l.length then (zOp, 1, 0)
  else (match splitB l with
    | [] => (zOp, 250, 0)
    | w :: fs => if kindOf w = 0 then (zOp, 250, 0) else if fs.length ≠ (cmdF (kindOf w)).length then (zOp, 251, (l.length : Int)) else readF (cmdF (kindOf w)) fs (w.length + 1) ⟨kindOf w, 0, 0, 0, 0, []⟩)
def getL (o : Opq) (l : Int) : Int := if l = 78 then o.n else if l = 79 then o.o else if l = 67 then o.c else if l = 80 then o.p else 0
def tellL (o : Opq) (l : Int) : Option (List Int) :=
  if l = 66 then (if o.b = [] then some [45] else if o.b.length ≤ 2200 then some (hexL o.b) else none)
  else if (getL o l).natAbs < nineQ then some (decL (getL o l)) else none
def tellF (o : Opq) : List Int → Option (List (List Int))
  | [] => some []
  | l :: ls => (match tellL o l, tellF o ls with | some f, some fs => some (f :: fs) | _, _ => none)
def formatL (o : Opq) : Option (List Int) :=
  if 1 ≤ o.k ∧ o.k ≤ 21 then (match tellF o (cmdF o.k.toNat) with
    | none => none
    | some fs => if (joinB (cmdW o.k.toNat :: fs)).length ≤ 2200 then some (joinB (cmdW o.k.toNat :: fs)) else none)
  else none
def setL (o a : Opq) (l : Int) : Opq :=
  if l = 66 then { a with b := o.b } else if l = 78 then { a with n := o.n } else if l = 79 then { a with o := o.o } else if l = 67 then { a with c := o.c } else if l = 80 then { a with p := o.p } else a
def slimL (o : Opq) : Opq := (cmdF o.k.toNat).foldl (setL o) ⟨o.k, 0, 0, 0, 0, []⟩
def okLt (l : Int) : Prop := l = 78 ∨ l = 79 ∨ l = 67 ∨ l = 80 ∨ l = 66
theorem tellF_len {o : Opq} : ∀ {ls : List Int} {fs : List (List Int)}, tellF o ls = some fs → fs.length = ls.length
  | [], fs, h => by simp [tellF] at h; subst h; rfl
  | l :: ls, fs, h => by
    unfold tellF at h
    split at h
    · rename_i f gs h1 h2
      simp at h; subst h
      simp [tellF_len h2]
    · cases h
theorem hex_noB (l : List Int) (h : IsB l) : ∀ c ∈ hexL l, c ≠ 32 ∧ c ≠ 10 := by
  intro c hc
  unfold hexL at hc
  obtain ⟨x, hx, hc⟩ := List.mem_flatMap.1 hc
  have hb := h x hx
  simp at hc
  have e : ∀ v : Int, 0 ≤ v → hexD v ≠ 32 ∧ hexD v ≠ 10 := fun v hv => by unfold hexD; split <;> omega
  rcases hc with rfl | rfl
  · exact e _ (by omega)
  · exact e _ (by omega)
theorem tell_noB {o : Opq} (hb : IsB o.b) {l : Int} {f : List Int} (h : tellL o l = some f) : ∀ c ∈ f, c ≠ 32 ∧ c ≠ 10 := by
  unfold tellL at h
  split at h
  · split at h
    · simp at h; subst h; intro c hc; simp at hc; omega
    · split at h
      · simp at h; subst h; exact hex_noB _ hb
      · cases h
  · split at h
    · simp at h; subst h; exact decL_noBlank _
    · cases h
theorem tell_isB {o : Opq} (hb : IsB o.b) {l : Int} {f : List Int} (h : tellL o l = some f) : IsB f := by
  unfold tellL at h
  split at h
  · split at h
    · simp at h; subst h; intro c hc; simp at hc; omega
    · split at h
      · simp at h; subst h; exact hexL_isB _ hb
      · cases h
  · split at h
    · simp at h; subst h; exact decL_isB _
    · cases h
theorem hexL_ne {l : List Int} (h : l ≠ []) : hexL l ≠ [] ∧ hexL l ≠ [45] := by
  have := hexL_length l
  have h1 : 1 ≤ l.length := by cases l with
    | nil => exact absurd rfl h
    | cons a r => simp
  constructor <;> intro e <;> rw [e] at this <;> simp at this <;> omega
/-- what was told is read back -/
theorem put_tell {o a : Opq} (hb : IsB o.b) {l : Int} (hl : okLt l) {f : List Int} (h : tellL o l = some f) : putL a l f = some (setL o a l) := by
  unfold tellL at h
  by_cases h66 : l = 66
  · subst h66
    rw [if_pos rfl] at h
    unfold putL setL
    rw [if_pos rfl, if_pos rfl]
    by_cases h0 : o.b = []
    · rw [if_pos h0] at h
      simp only [Option.some.injEq] at h
      subst h
      unfold bytesL
      rw [if_pos rfl, h0]; rfl
    · rw [if_neg h0] at h
      split at h
      · simp only [Option.some.injEq] at h
        subst h
        obtain ⟨n1, n2⟩ := hexL_ne h0
        unfold bytesL
        rw [if_neg n2, if_pos ⟨n1, hex_okHex _ hb⟩, unhex_hexL _ hb]; rfl
      · cases h
  · rw [if_neg h66] at h
    split at h
    · rename_i hn
      simp only [Option.some.injEq] at h
      subst h
      unfold putL
      rw [if_neg h66, whole_dec hn]
      unfold setL getL
      rw [if_neg h66]
      rcases hl with rfl | rfl | rfl | rfl | rfl
      · rfl
      · rfl
      · rfl
      · rfl
      · exact absurd rfl h66
    · cases h
theorem read_tell {o : Opq} (hb : IsB o.b) : ∀ (ls : List Int) (fs : List (List Int)) (at_ : Nat) (a : Opq), (∀ l ∈ ls, okLt l) → tellF o ls = some fs → readF ls fs at_ a = (ls.foldl (setL o) a, 0, 0)
  | [], fs, at_, a, _, h => by simp [tellF] at h; subst h; rfl
  | l :: ls, fs, at_, a, hl, h => by
    unfold tellF at h
    split at h
    · rename_i f gs h1 h2
      simp only [Option.some.injEq] at h
      subst h
      unfold readF
      rw [put_tell hb (hl l (by simp)) h1]
      exact read_tell hb ls gs _ _ (fun x hx => hl x (by simp [hx])) h2
    · cases h
theorem tellF_mem {o : Opq} : ∀ {ls : List Int} {fs : List (List Int)}, tellF o ls = some fs → ∀ f ∈ fs, ∃ l ∈ ls, tellL o l = some f
  | [], fs, h => by simp [tellF] at h; subst h; intro f hf; simp at hf
  | l :: ls, fs, h => by
    unfold tellF at h
    split at h
    · rename_i f gs h1 h2
      simp only [Option.some.injEq] at h
      subst h
      intro x hx
      rcases List.mem_cons.1 hx with rfl | hx
      · exact ⟨l, by simp, h1⟩
      · obtain ⟨l', q1, q2⟩ := tellF_mem h2 x hx
        exact ⟨l', by simp [q1], q2⟩
    · cases h
theorem parse_format {o : Opq} (hb : IsB o.b) {line : List Int} (h : formatL o = some line) : parseL line = (slimL o, 0, 0) ∧ line.length ≤ 2200 := by
  unfold formatL at h
  split at h
  · rename_i hk
    split at h
    · cases h
    · rename_i fs hfs
      split at h
      · rename_i hlen
        simp only [Option.some.injEq] at h
        subst h
        refine ⟨?_, hlen⟩
        have hk1 : 1 ≤ o.k.toNat := by omega
        have hk2 : o.k.toNat < 22 := by omega
        have hsp : splitB (joinB (cmdW o.k.toNat :: fs)) = cmdW o.k.toNat :: fs := split_join _ (by simp) (fun f hf => by
          rcases List.mem_cons.1 hf with rfl | hf
          · exact fun c hc => (cmdW_noB _ hk2 c hc).1
          · obtain ⟨l, -, hl⟩ := tellF_mem hfs f hf
            exact fun c hc => (tell_noB hb hl c hc).1)
        unfold parseL
        rw [if_neg (by omega), hsp]
        have e := kindOf_cmd _ hk1 hk2
        have hkk : ((o.k.toNat : Nat) : Int) = o.k := by omega
        simp only [e]
        rw [if_neg (by omega), if_neg (by rw [tellF_len hfs]; simp), read_tell hb _ _ _ _ (cmdF_ok _ hk2) hfs, hkk]
        rfl
      · cases h
  · cases h
/-- one field -/
def sameF (a b : Opq) (l : Int) : Prop := if l = 66 then a.b = b.b else getL a l = getL b l
theorem put_some {a a' : Opq} {l : Int} (hl : okLt l) {f : List Int} (h : putL a l f = some a') (hlen : f.length ≤ 2200) : tellL a' l = some f ∧ a'.k = a.k ∧ (∀ l', okLt l' → l' ≠ l → sameF a' a l') := by
  unfold putL at h
  by_cases h66 : l = 66
  · subst h66
    rw [if_pos rfl] at h
    cases hq : bytesL f with
    | none => rw [hq] at h; cases h
    | some b =>
      rw [hq] at h
      simp only [Option.map_some, Option.some.injEq] at h
      subst h
      refine ⟨?_, rfl, fun l' hl' hne => ?_⟩
      · unfold bytesL at hq
        unfold tellL
        rw [if_pos rfl]
        split at hq
        · rename_i h0
          simp only [Option.some.injEq] at hq
          subst hq
          rw [if_pos rfl, h0]
        · split at hq
          · rename_i h0 h1
            simp only [Option.some.injEq] at hq
            subst hq
            have hl2 := unhexL_length f
            have h2 := h1.2.1
            have hpos : 0 < f.length := by cases f with
              | nil => exact absurd rfl h1.1
              | cons a r => simp
            rw [if_neg (fun e => by have e' : (unhexL f).length = 0 := by rw [show unhexL f = [] from e]; rfl
                                    omega)]
            show (if (unhexL f).length ≤ 2200 then some (hexL (unhexL f)) else none) = some f
            rw [if_pos (by omega), hex_unhexL _ h1.2]
          · cases hq
      · unfold sameF
        rw [if_neg hne]; rfl
  · rw [if_neg h66] at h
    cases hq : wholeL f with
    | none => rw [hq] at h; cases h
    | some n =>
      rw [hq] at h
      simp only [Option.map_some, Option.some.injEq] at h
      obtain ⟨d1, d2⟩ := dec_whole hq
      rcases hl with rfl | rfl | rfl | rfl | rfl
      · rw [if_pos rfl] at h
        subst h
        refine ⟨?_, rfl, fun l' hl' hne => ?_⟩
        · show (if n.natAbs < nineQ then some (decL n) else none) = _
          rw [if_pos d2, d1]
        · rcases hl' with rfl | rfl | rfl | rfl | rfl <;> first | exact absurd rfl hne | rfl
      · simp only [show ¬ ((79 : Int) = 78) from by omega, if_false, if_true] at h
        subst h
        refine ⟨?_, rfl, fun l' hl' hne => ?_⟩
        · show (if n.natAbs < nineQ then some (decL n) else none) = _
          rw [if_pos d2, d1]
        · rcases hl' with rfl | rfl | rfl | rfl | rfl <;> first | exact absurd rfl hne | rfl
      · simp only [show ¬ ((67 : Int) = 78) from by omega, show ¬ ((67 : Int) = 79) from by omega, if_false, if_true] at h
        subst h
        refine ⟨?_, rfl, fun l' hl' hne => ?_⟩
        · show (if n.natAbs < nineQ then some (decL n) else none) = _
          rw [if_pos d2, d1]
        · rcases hl' with rfl | rfl | rfl | rfl | rfl <;> first | exact absurd rfl hne | rfl
      · simp only [show ¬ ((80 : Int) = 78) from by omega, show ¬ ((80 : Int) = 79) from by omega, show ¬ ((80 : Int) = 67) from by omega, if_false, if_true] at h
        subst h
        refine ⟨?_, rfl, fun l' hl' hne => ?_⟩
        · show (if n.natAbs < nineQ then some (decL n) else none) = _
          rw [if_pos d2, d1]
        · rcases hl' with rfl | rfl | rfl | rfl | rfl <;> first | exact absurd rfl hne | rfl
      · exact absurd rfl h66
theorem tell_same {a b : Opq} {l : Int} (h : sameF a b l) : tellL a l = tellL b l := by
  unfold sameF at h
  unfold tellL
  by_cases h66 : l = 66
  · rw [if_pos h66] at h ⊢; rw [if_pos h66, h]
  · rw [if_neg h66] at h ⊢; rw [if_neg h66, h]
theorem sameF_trans {a b c : Opq} {l : Int} (h : sameF a b l) (h' : sameF b c l) : sameF a c l := by
  unfold sameF at *
  split <;> simp_all
theorem read_some : ∀ (ls : List Int) (fs : List (List Int)) (at_ : Nat) (a : Opq) (r : Opq × Int × Int), (∀ l ∈ ls, okLt l) → ls.Nodup → fs.length = ls.length → (∀ f ∈ fs, f.length ≤ 2200) → readF ls fs at_ a = r →
    (r.2.1 ≠ 0 → r.1 = zOp) ∧ (r.2.1 = 0 → tellF r.1 ls = some fs ∧ r.1.k = a.k ∧ (∀ l, okLt l → l ∉ ls → sameF r.1 a l))
  | [], fs, at_, a, r, _, _, hlen, _, h => by
    have h0 : fs = [] := List.eq_nil_of_length_eq_zero hlen
    subst h0
    have h1 : (a, 0, 0) = r := h
    subst h1
    exact ⟨fun h => absurd rfl h, fun _ => ⟨rfl, rfl, fun l _ _ => by unfold sameF; split <;> rfl⟩⟩
  | l :: ls, [], at_, a, r, _, _, hlen, _, _ => by simp at hlen
  | l :: ls, f :: fs, at_, a, r, hl, hn, hlen, hf, h => by
    unfold readF at h
    obtain ⟨n1, n2⟩ := List.nodup_cons.1 hn
    cases hq : putL a l f with
    | none =>
      rw [hq] at h
      simp only at h
      subst h
      exact ⟨fun _ => rfl, fun h => absurd h (by simp)⟩
    | some a' =>
      rw [hq] at h
      simp only at h
      obtain ⟨t1, t2, t3⟩ := put_some (hl l (by simp)) hq (hf f (by simp))
      obtain ⟨i1, i2⟩ := read_some ls fs _ a' r (fun x hx => hl x (by simp [hx])) n2 (by simpa using hlen) (fun x hx => hf x (by simp [hx])) h
      refine ⟨i1, fun h0 => ?_⟩
      obtain ⟨j1, j2, j3⟩ := i2 h0
      refine ⟨?_, j2.trans t2, fun x hx hm => ?_⟩
      · unfold tellF
        rw [tell_same (j3 l (hl l (by simp)) n1), t1, j1]
      · simp only [List.mem_cons, not_or] at hm
        exact sameF_trans (j3 x hx hm.2) (t3 x hx hm.1)
theorem set_fold (o : Opq) : ∀ (ls : List Int) (a : Opq), (∀ l ∈ ls, okLt l) → (ls.foldl (setL o) a).k = a.k ∧ (∀ l, okLt l → (l ∈ ls → sameF (ls.foldl (setL o) a) o l) ∧ (l ∉ ls → sameF (ls.foldl (setL o) a) a l))
  | [], a, _ => ⟨rfl, fun l _ => ⟨fun h => by simp at h, fun _ => by unfold sameF; split <;> rfl⟩⟩
  | x :: ls, a, hl => by
    obtain ⟨i1, i2⟩ := set_fold o ls (setL o a x) (fun y hy => hl y (by simp [hy]))
    have hx := hl x (by simp)
    have ek : (setL o a x).k = a.k := by unfold setL; rcases hx with rfl | rfl | rfl | rfl | rfl <;> rfl
    have es : sameF (setL o a x) o x := by unfold setL; rcases hx with rfl | rfl | rfl | rfl | rfl <;> rfl
    have en : ∀ l, okLt l → l ≠ x → sameF (setL o a x) a l := fun l h1 h2 => by
      unfold setL
      rcases hx with rfl | rfl | rfl | rfl | rfl <;> rcases h1 with rfl | rfl | rfl | rfl | rfl <;> first | exact absurd rfl h2 | rfl
    refine ⟨i1.trans ek, fun l h1 => ⟨fun hm => ?_, fun hm => ?_⟩⟩
    · by_cases hml : l ∈ ls
      · exact (i2 l h1).1 hml
      · rcases List.mem_cons.1 hm with rfl | hm
        · exact sameF_trans ((i2 l h1).2 hml) es
        · exact absurd hm hml
    · simp only [List.mem_cons, not_or] at hm
      exact sameF_trans ((i2 l h1).2 hm.2) (en l h1 hm.1)
theorem opq_ext {a b : Opq} (hk : a.k = b.k) (h : ∀ l, okLt l → sameF a b l) : a = b := by
  have h1 : a.n = b.n := h 78 (.inl rfl)
  have h2 : a.o = b.o := h 79 (.inr (.inl rfl))
  have h3 : a.c = b.c := h 67 (.inr (.inr (.inl rfl)))
  have h4 : a.p = b.p := h 80 (.inr (.inr (.inr (.inl rfl))))
  have h5 : a.b = b.b := h 66 (.inr (.inr (.inr (.inr rfl))))
  cases a; cases b; simp_all
theorem sameF_symm {a b : Opq} {l : Int} (h : sameF a b l) : sameF b a l := by unfold sameF at *; split <;> simp_all
/-- what is read is what is told -/
theorem format_parse {l : List Int} : ((parseL l).2.1 ≠ 0 → (parseL l).1 = zOp) ∧ ((parseL l).2.1 = 0 → formatL (parseL l).1 = some l ∧ slimL (parseL l).1 = (parseL l).1) := by
  by_cases h1 : 2200 < l.length
  · have e : parseL l = (zOp, 1, 0) := by unfold parseL; rw [if_pos h1]
    rw [e]; exact ⟨fun _ => rfl, fun h => by simp at h⟩
  · obtain ⟨w, fs, hsp⟩ : ∃ w fs, splitB l = w :: fs := by
      cases hq : splitB l with
      | nil => exact absurd hq (splitB_ne l)
      | cons w fs => exact ⟨w, fs, rfl⟩
    have e : parseL l = if kindOf w = 0 then (zOp, 250, 0) else if fs.length ≠ (cmdF (kindOf w)).length then (zOp, 251, (l.length : Int)) else readF (cmdF (kindOf w)) fs (w.length + 1) ⟨kindOf w, 0, 0, 0, 0, []⟩ := by
      unfold parseL; rw [if_neg h1, hsp]
    by_cases h2 : kindOf w = 0
    · rw [e, if_pos h2]; exact ⟨fun _ => rfl, fun h => by simp at h⟩
    · by_cases h3 : fs.length ≠ (cmdF (kindOf w)).length
      · rw [e, if_neg h2, if_pos h3]; exact ⟨fun _ => rfl, fun h => by simp at h⟩
      · rw [if_neg h2, if_neg h3] at e
        obtain ⟨hw, k1, k2⟩ := kindOf_ne h2
        have hj : joinB (w :: fs) = l := by rw [← hsp]; exact join_split l
        have hfl : ∀ f ∈ fs, f.length ≤ 2200 := fun f hf => by
          have h9 := join_len (w :: fs) (by simp)
          rw [hj] at h9
          have : f.length + 1 ≤ ((w :: fs).map (fun f => f.length + 1)).sum := le_sum25 (List.mem_map.2 ⟨f, by simp [hf], rfl⟩)
          omega
        obtain ⟨r1, r2⟩ := read_some (cmdF (kindOf w)) fs (w.length + 1) ⟨kindOf w, 0, 0, 0, 0, []⟩ _ (cmdF_ok _ k2) (cmdF_nodup _ k2) (by omega) hfl rfl
        rw [e]
        refine ⟨r1, fun h0 => ?_⟩
        obtain ⟨q1, q2, q3⟩ := r2 h0
        generalize (readF (cmdF (kindOf w)) fs (w.length + 1) ⟨kindOf w, 0, 0, 0, 0, []⟩).1 = p at q1 q2 q3 ⊢
        have hpk : p.k = (kindOf w : Int) := q2
        have hpt : p.k.toNat = kindOf w := by omega
        constructor
        · unfold formatL
          rw [if_pos (by omega), hpt, q1]
          simp only
          rw [hw, hj, if_pos (by omega)]
        · unfold slimL
          rw [hpt]
          obtain ⟨s1, s2⟩ := set_fold p (cmdF (kindOf w)) ⟨p.k, 0, 0, 0, 0, []⟩ (cmdF_ok _ k2)
          refine opq_ext s1 (fun x hx => ?_)
          by_cases hm : x ∈ cmdF (kindOf w)
          · exact (s2 x hx).1 hm
          · refine sameF_trans ((s2 x hx).2 hm) ?_
            have := sameF_symm (q3 x hx hm)
            unfold sameF getL at this ⊢
            exact this
/-- replies -/
def okT : List Int := [111, 107]
def errT : List Int := [101, 114, 114, 111, 114]
def showF (e : Int) (ns : List Int) : List (List Int) := (if e = 0 then [okT] else [errT, decL e]) ++ ns.map decL
def showL (e : Int) (ns : List Int) : List Int := joinB (showF e ns)
theorem showF_ne (e : Int) (ns : List Int) : showF e ns ≠ [] := by unfold showF; split <;> simp
theorem showF_noB (e : Int) (ns : List Int) : ∀ f ∈ showF e ns, noB25 f := by
  intro f hf c hc
  unfold showF at hf
  have hT : ∀ x ∈ okT, x ≠ 32 := by decide
  have hE : ∀ x ∈ errT, x ≠ 32 := by decide
  rcases List.mem_append.1 hf with hf | hf
  · split at hf
    · simp at hf; subst hf; exact hT c hc
    · simp at hf
      rcases hf with rfl | rfl
      · exact hE c hc
      · exact (decL_noBlank _ c hc).1
  · obtain ⟨n, -, rfl⟩ := List.mem_map.1 hf
    exact (decL_noBlank _ c hc).1
theorem map_decL_inj : ∀ {a b : List Int}, a.map decL = b.map decL → a = b
  | [], [], _ => rfl
  | [], b :: bs, h => by simp at h
  | a :: at', [], h => by simp at h
  | a :: at', b :: bs, h => by
    rw [List.map_cons, List.map_cons, List.cons.injEq] at h
    rw [decL_inj h.1, map_decL_inj h.2]
theorem show_inj {e e' : Int} {a b : List Int} (h : showL e a = showL e' b) : e = e' ∧ a = b := by
  unfold showL at h
  have h1 : showF e a = showF e' b := by rw [← split_join _ (showF_ne e a) (showF_noB e a), h, split_join _ (showF_ne e' b) (showF_noB e' b)]
  have hne : okT ≠ errT := by decide
  unfold showF at h1
  by_cases h0 : e = 0 <;> by_cases h0' : e' = 0
  · rw [if_pos h0, if_pos h0'] at h1
    simp only [List.cons_append, List.nil_append, List.cons.injEq, true_and] at h1
    exact ⟨by omega, map_decL_inj h1⟩
  · rw [if_pos h0, if_neg h0'] at h1
    simp only [List.cons_append, List.nil_append, List.cons.injEq] at h1
    exact absurd h1.1 hne
  · rw [if_neg h0, if_pos h0'] at h1
    simp only [List.cons_append, List.nil_append, List.cons.injEq] at h1
    exact absurd h1.1.symm hne
  · rw [if_neg h0, if_neg h0'] at h1
    simp only [List.cons_append, List.nil_append, List.cons.injEq, true_and] at h1
    exact ⟨decL_inj h1.1, map_decL_inj h1.2⟩
/-- lines -/
def flushL (out : List (List Int)) (line : List Int) : List (List Int) := if line ≠ [] ∧ line.head? ≠ some 35 then out ++ [line] else out
def stepLn (s : List (List Int) × List Int) (c : Int) : List (List Int) × List Int := if c = 10 then (flushL s.1 s.2, []) else (s.1, s.2 ++ [c])
def stLn (t : List Int) : List (List Int) × List Int := t.foldl stepLn ([], [])
def linesL (t : List Int) : List (List Int) := flushL (stLn t).1 (stLn t).2
theorem stLn_snoc (t : List Int) (c : Int) : stLn (t ++ [c]) = stepLn (stLn t) c := by unfold stLn; rw [List.foldl_append]; rfl
theorem fold_ln : ∀ (l : List Int) (s : List (List Int) × List Int), (∀ c ∈ l, c ≠ 10) → l.foldl stepLn s = (s.1, s.2 ++ l)
  | [], s, _ => by simp
  | c :: r, s, h => by
    rw [List.foldl_cons]
    have e : stepLn s c = (s.1, s.2 ++ [c]) := by unfold stepLn; rw [if_neg (h c (by simp))]
    rw [e, fold_ln r _ (fun x hx => h x (by simp [hx]))]
    simp
/-- one line, a remark, an empty line -/
theorem fold_seg (out : List (List Int)) (l r : List Int) (hl : ∀ c ∈ l, c ≠ 10) (hr : ∀ c ∈ r, c ≠ 10) : (l ++ [10, 35] ++ r ++ [10, 10]).foldl stepLn (out, []) = (flushL out l, []) := by
  rw [List.foldl_append, List.foldl_append, List.foldl_append, fold_ln l _ hl]
  have e1 : ([10, 35] : List Int).foldl stepLn (out, [] ++ l) = (flushL out l, [35]) := by
    show stepLn (stepLn (out, [] ++ l) 10) 35 = _
    unfold stepLn; simp
  rw [e1, fold_ln r _ hr]
  show stepLn (stepLn (flushL out l, [35] ++ r) 10) 10 = _
  have e2 : stepLn (flushL out l, [35] ++ r) 10 = (flushL out l, []) := by
    unfold stepLn; rw [if_pos rfl]
    unfold flushL
    simp
  rw [e2]
  unfold stepLn; rw [if_pos rfl]
  show (flushL (flushL out l) [], []) = _
  conv => lhs; rw [show flushL (flushL out l) [] = flushL out l from by rw [flushL]; simp]
end Go.Proofs.YtdcaojiiaocnaaaGreatDoor
