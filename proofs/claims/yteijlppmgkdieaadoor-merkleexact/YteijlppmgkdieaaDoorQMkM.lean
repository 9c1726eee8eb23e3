import Derived.KernelRfl
namespace Go.Proofs.YteijlppmgkdieaaDoor

/-! The tree over a list, its paths and its bridges: of any 'hash over two'. -/

/-- a function by steps down a measure -/
def fxM {A B : Type} (d : A → B) (F : (A → B) → A → B) : Nat → A → B
  | 0 => d
  | n + 1 => F (fxM d F n)
theorem fxM_two {A B : Type} (m : A → Nat) (d : A → B) (F : (A → B) → A → B) (hF : ∀ f g x, (∀ y, m y < m x → f y = g y) → F f x = F g x) : ∀ (n k : Nat) (x : A), m x < n → m x < k → fxM d F n x = fxM d F k x
  | 0, _, _, h, _ => absurd h (by omega)
  | _ + 1, 0, _, _, h => absurd h (by omega)
  | n + 1, k + 1, x, h1, h2 => hF _ _ x fun y hy => fxM_two m d F hF n k y (by omega) (by omega)
theorem fxM_unf {A B : Type} (m : A → Nat) (d : A → B) (F : (A → B) → A → B) (hF : ∀ f g x, (∀ y, m y < m x → f y = g y) → F f x = F g x) (x : A) : fxM d F (m x + 1) x = F (fun y => fxM d F (m y + 1) y) x :=
  hF _ _ x fun y hy => fxM_two m d F hF _ _ y hy (by omega)

/-- the greatest power of two below n, n above 1 -/
def halfS (f : Nat → Nat) (n : Nat) : Nat := if n ≤ 2 then 1 else 2 * f ((n + 1) / 2)
def halfN (n : Nat) : Nat := fxM (fun _ => 1) halfS (n + 1) n
theorem halfN_eq (n : Nat) : halfN n = if n ≤ 2 then 1 else 2 * halfN ((n + 1) / 2) :=
  fxM_unf (fun n => n) (fun _ => 1) halfS (fun f g x h => by
    unfold halfS
    by_cases c : x ≤ 2
    · rw [if_pos c, if_pos c]
    · rw [if_neg c, if_neg c, h _ (by omega)]) n
theorem halfN_small {n : Nat} (h : n ≤ 2) : halfN n = 1 := by rw [halfN_eq, if_pos h]
theorem halfN_big {n : Nat} (h : 3 ≤ n) : halfN n = 2 * halfN ((n + 1) / 2) := by rw [halfN_eq, if_neg (by omega)]
theorem halfN_spec : ∀ n, 2 ≤ n → 1 ≤ halfN n ∧ halfN n < n ∧ n ≤ 2 * halfN n := by
  intro n
  induction n using Nat.strongRecOn with
  | ind n ih =>
    intro h
    by_cases h2 : n ≤ 2
    · rw [halfN_small h2]; omega
    · rw [halfN_big (by omega)]
      have := ih ((n + 1) / 2) (by omega) (by omega)
      omega
/-- a number is a power of two -/
def Pw (k : Nat) : Prop := ∃ j, k = 2 ^ j
theorem halfN_pw : ∀ n, Pw (halfN n) := by
  intro n
  induction n using Nat.strongRecOn with
  | ind n ih =>
    by_cases h2 : n ≤ 2
    · rw [halfN_small h2]; exact ⟨0, rfl⟩
    · rw [halfN_big (by omega)]
      obtain ⟨j, hj⟩ := ih ((n + 1) / 2) (by omega)
      exact ⟨j + 1, by rw [hj, Nat.pow_succ]; omega⟩
theorem pw_one {k k' n : Nat} (h : Pw k) (h' : Pw k') (h1 : k < n) (h2 : n ≤ 2 * k) (h3 : k' < n) (h4 : n ≤ 2 * k') : k = k' := by
  obtain ⟨j, rfl⟩ := h
  obtain ⟨j', rfl⟩ := h'
  rcases Nat.lt_trichotomy j j' with hj | rfl | hj
  · have : 2 ^ (j + 1) ≤ 2 ^ j' := Nat.pow_le_pow_right (by omega) hj
    rw [Nat.pow_succ] at this; omega
  · rfl
  · have : 2 ^ (j' + 1) ≤ 2 ^ j := Nat.pow_le_pow_right (by omega) hj
    rw [Nat.pow_succ] at this; omega
/-- of a longer beginning than the half the half is the same -/
theorem halfN_take {n m : Nat} (hn : 2 ≤ n) (h1 : halfN n < m) (h2 : m ≤ n) : halfN m = halfN n := by
  have a := halfN_spec n hn
  have b := halfN_spec m (by omega)
  exact pw_one (n := m) (halfN_pw m) (halfN_pw n) b.2.1 b.2.2 h1 (by omega)

section
variable {α : Type} (nd : α → α → α) (e : α)

def mrootS (f : List α → α) (l : List α) : α :=
  if _h : l.length ≤ 1 then l.headD e
  else nd (f (l.take (halfN l.length))) (f (l.drop (halfN l.length)))
def mroot (l : List α) : α := fxM (fun _ => e) (mrootS nd e) (l.length + 1) l
theorem mroot_eq (l : List α) : mroot nd e l = if _h : l.length ≤ 1 then l.headD e else nd (mroot nd e (l.take (halfN l.length))) (mroot nd e (l.drop (halfN l.length))) :=
  fxM_unf List.length (fun _ => e) (mrootS nd e) (fun f g x h => by
    unfold mrootS
    by_cases c : x.length ≤ 1
    · rw [dif_pos c, dif_pos c]
    · have hs := halfN_spec x.length (by omega)
      rw [dif_neg c, dif_neg c, h (x.take (halfN x.length)) (by simp; omega), h (x.drop (halfN x.length)) (by simp; omega)]) l
theorem mroot_small {l : List α} (h : l.length ≤ 1) : mroot nd e l = l.headD e := by rw [mroot_eq, dif_pos h]
theorem mroot_big {l : List α} (h : 2 ≤ l.length) : mroot nd e l = nd (mroot nd e (l.take (halfN l.length))) (mroot nd e (l.drop (halfN l.length))) := by rw [mroot_eq, dif_neg (by omega)]

/-- the path of leaf i -/
def mpathS (f : Nat × List α → List α) (x : Nat × List α) : List α :=
  if _h : x.2.length ≤ 1 then []
  else if x.1 < halfN x.2.length then f (x.1, x.2.take (halfN x.2.length)) ++ [mroot nd e (x.2.drop (halfN x.2.length))]
  else f (x.1 - halfN x.2.length, x.2.drop (halfN x.2.length)) ++ [mroot nd e (x.2.take (halfN x.2.length))]
def mpath (i : Nat) (l : List α) : List α := fxM (fun _ => []) (mpathS nd e) (l.length + 1) (i, l)
theorem mpath_eq (i : Nat) (l : List α) : mpath nd e i l =
    if _h : l.length ≤ 1 then []
    else if i < halfN l.length then mpath nd e i (l.take (halfN l.length)) ++ [mroot nd e (l.drop (halfN l.length))]
    else mpath nd e (i - halfN l.length) (l.drop (halfN l.length)) ++ [mroot nd e (l.take (halfN l.length))] :=
  fxM_unf (fun x : Nat × List α => x.2.length) (fun _ => []) (mpathS nd e) (fun f g x h => by
    unfold mpathS
    by_cases c : x.2.length ≤ 1
    · rw [dif_pos c, dif_pos c]
    · have hs := halfN_spec x.2.length (by omega)
      rw [dif_neg c, dif_neg c]
      by_cases d : x.1 < halfN x.2.length
      · rw [if_pos d, if_pos d, h (x.1, x.2.take (halfN x.2.length)) (by simp; omega)]
      · rw [if_neg d, if_neg d, h (x.1 - halfN x.2.length, x.2.drop (halfN x.2.length)) (by simp; omega)]) (i, l)
/-- how many hashes it has -/
def mplenS (f : Nat × Nat → Nat) (x : Nat × Nat) : Nat :=
  if x.2 ≤ 1 then 0 else if x.1 < halfN x.2 then f (x.1, halfN x.2) + 1 else f (x.1 - halfN x.2, x.2 - halfN x.2) + 1
def mplen (i n : Nat) : Nat := fxM (fun _ => 0) mplenS (n + 1) (i, n)
theorem mplen_eq (i n : Nat) : mplen i n = if n ≤ 1 then 0 else if i < halfN n then mplen i (halfN n) + 1 else mplen (i - halfN n) (n - halfN n) + 1 :=
  fxM_unf (fun x : Nat × Nat => x.2) (fun _ => 0) mplenS (fun f g x h => by
    unfold mplenS
    by_cases c : x.2 ≤ 1
    · rw [if_pos c, if_pos c]
    · have hs := halfN_spec x.2 (by omega)
      rw [if_neg c, if_neg c]
      by_cases d : x.1 < halfN x.2
      · rw [if_pos d, if_pos d, h (x.1, halfN x.2) (by show halfN x.2 < x.2; omega)]
      · rw [if_neg d, if_neg d, h (x.1 - halfN x.2, x.2 - halfN x.2) (by show x.2 - halfN x.2 < x.2; omega)]) (i, n)
/-- what a proof comes to -/
def mclimbS (x : α) (f : Nat × Nat × List α → α) (y : Nat × Nat × List α) : α :=
  if y.2.1 ≤ 1 then x
  else if y.1 < halfN y.2.1 then nd (f (y.1, halfN y.2.1, y.2.2.dropLast)) (y.2.2.getLastD e)
  else nd (y.2.2.getLastD e) (f (y.1 - halfN y.2.1, y.2.1 - halfN y.2.1, y.2.2.dropLast))
def mclimb (i n : Nat) (x : α) (p : List α) : α := fxM (fun _ => x) (mclimbS nd e x) (n + 1) (i, n, p)
theorem mclimb_eq (i n : Nat) (x : α) (p : List α) : mclimb nd e i n x p =
    if n ≤ 1 then x
    else if i < halfN n then nd (mclimb nd e i (halfN n) x p.dropLast) (p.getLastD e)
    else nd (p.getLastD e) (mclimb nd e (i - halfN n) (n - halfN n) x p.dropLast) :=
  fxM_unf (fun y : Nat × Nat × List α => y.2.1) (fun _ => x) (mclimbS nd e x) (fun f g y h => by
    unfold mclimbS
    by_cases c : y.2.1 ≤ 1
    · rw [if_pos c, if_pos c]
    · have hs := halfN_spec y.2.1 (by omega)
      rw [if_neg c, if_neg c]
      by_cases d : y.1 < halfN y.2.1
      · rw [if_pos d, if_pos d, h (y.1, halfN y.2.1, y.2.2.dropLast) (by show halfN y.2.1 < y.2.1; omega)]
      · rw [if_neg d, if_neg d, h (y.1 - halfN y.2.1, y.2.1 - halfN y.2.1, y.2.2.dropLast) (by show y.2.1 - halfN y.2.1 < y.2.1; omega)]) (i, n, p)
theorem mpath_len : ∀ (n i : Nat) (l : List α), l.length = n → (mpath nd e i l).length = mplen i n := by
  intro n
  induction n using Nat.strongRecOn with
  | ind n ih =>
    intro i l hl
    rw [mpath_eq, mplen_eq]
    by_cases h : n ≤ 1
    · rw [dif_pos (by omega), if_pos h]; rfl
    · have hs := halfN_spec n (by omega)
      rw [dif_neg (by omega), if_neg h, hl]
      by_cases hi : i < halfN n
      · rw [if_pos hi, if_pos hi, List.length_append, ih (halfN n) (by omega) i _ (by simp; omega)]; rfl
      · rw [if_neg hi, if_neg hi, List.length_append, ih (n - halfN n) (by omega) _ _ (by simp; omega)]; rfl
theorem dropLast_snoc {β : Type} (l : List β) (x : β) : (l ++ [x]).dropLast = l := by simp
theorem getLastD_snoc {β : Type} (l : List β) (x d : β) : (l ++ [x]).getLastD d = x := by simp
/-- what is there is proved -/
theorem mclimb_path : ∀ (n i : Nat) (l : List α) (x : α), l.length = n → l[i]? = some x → mclimb nd e i n x (mpath nd e i l) = mroot nd e l := by
  intro n
  induction n using Nat.strongRecOn with
  | ind n ih =>
    intro i l x hl hx
    have hi := (List.getElem?_eq_some_iff.1 hx).1
    rw [mclimb_eq, mpath_eq]
    by_cases h : n ≤ 1
    · rw [if_pos h, mroot_small nd e (by omega)]
      have h0 : i = 0 := by omega
      subst h0
      cases l with
      | nil => simp at hx
      | cons a r => simp at hx ⊢; exact hx.symm
    · have hs := halfN_spec n (by omega)
      rw [if_neg h, dif_neg (by omega), mroot_big nd e (l := l) (by omega), hl]
      by_cases hk : i < halfN n
      · rw [if_pos hk, if_pos hk, dropLast_snoc, getLastD_snoc, ih (halfN n) (by omega) i (l.take (halfN n)) x (by simp; omega) (by rw [List.getElem?_take, if_pos hk]; exact hx)]
      · rw [if_neg hk, if_neg hk, dropLast_snoc, getLastD_snoc, ih (n - halfN n) (by omega) (i - halfN n) (l.drop (halfN n)) x (by simp; omega) (by rw [List.getElem?_drop, Nat.add_sub_cancel' (by omega)]; exact hx)]

/-- the bridge from the first m -/
def mbridgeS (f : Nat × List α × Bool → List α) (x : Nat × List α × Bool) : List α :=
  if x.1 = x.2.1.length then (if x.2.2 then [] else [mroot nd e x.2.1])
  else if _h : x.2.1.length ≤ 1 then []
  else if x.1 ≤ halfN x.2.1.length then f (x.1, x.2.1.take (halfN x.2.1.length), x.2.2) ++ [mroot nd e (x.2.1.drop (halfN x.2.1.length))]
  else f (x.1 - halfN x.2.1.length, x.2.1.drop (halfN x.2.1.length), false) ++ [mroot nd e (x.2.1.take (halfN x.2.1.length))]
def mbridge (m : Nat) (l : List α) (whole : Bool) : List α := fxM (fun _ => []) (mbridgeS nd e) (l.length + 1) (m, l, whole)
theorem mbridge_eq (m : Nat) (l : List α) (whole : Bool) : mbridge nd e m l whole =
    if m = l.length then (if whole then [] else [mroot nd e l])
    else if _h : l.length ≤ 1 then []
    else if m ≤ halfN l.length then mbridge nd e m (l.take (halfN l.length)) whole ++ [mroot nd e (l.drop (halfN l.length))]
    else mbridge nd e (m - halfN l.length) (l.drop (halfN l.length)) false ++ [mroot nd e (l.take (halfN l.length))] :=
  fxM_unf (fun x : Nat × List α × Bool => x.2.1.length) (fun _ => []) (mbridgeS nd e) (fun f g x h => by
    unfold mbridgeS
    by_cases b : x.1 = x.2.1.length
    · rw [if_pos b, if_pos b]
    rw [if_neg b, if_neg b]
    by_cases c : x.2.1.length ≤ 1
    · rw [dif_pos c, dif_pos c]
    · have hs := halfN_spec x.2.1.length (by omega)
      rw [dif_neg c, dif_neg c]
      by_cases d : x.1 ≤ halfN x.2.1.length
      · rw [if_pos d, if_pos d, h (x.1, x.2.1.take (halfN x.2.1.length), x.2.2) (by simp; omega)]
      · rw [if_neg d, if_neg d, h (x.1 - halfN x.2.1.length, x.2.1.drop (halfN x.2.1.length), false) (by simp; omega)]) (m, l, whole)
def mblenS (f : Nat × Nat × Bool → Nat) (x : Nat × Nat × Bool) : Nat :=
  if x.1 = x.2.1 then (if x.2.2 then 0 else 1)
  else if x.2.1 ≤ 1 then 0
  else if x.1 ≤ halfN x.2.1 then f (x.1, halfN x.2.1, x.2.2) + 1
  else f (x.1 - halfN x.2.1, x.2.1 - halfN x.2.1, false) + 1
def mblen (m n : Nat) (whole : Bool) : Nat := fxM (fun _ => 0) mblenS (n + 1) (m, n, whole)
theorem mblen_eq (m n : Nat) (whole : Bool) : mblen m n whole =
    if m = n then (if whole then 0 else 1)
    else if n ≤ 1 then 0
    else if m ≤ halfN n then mblen m (halfN n) whole + 1
    else mblen (m - halfN n) (n - halfN n) false + 1 :=
  fxM_unf (fun x : Nat × Nat × Bool => x.2.1) (fun _ => 0) mblenS (fun f g x h => by
    unfold mblenS
    by_cases b : x.1 = x.2.1
    · rw [if_pos b, if_pos b]
    rw [if_neg b, if_neg b]
    by_cases c : x.2.1 ≤ 1
    · rw [if_pos c, if_pos c]
    · have hs := halfN_spec x.2.1 (by omega)
      rw [if_neg c, if_neg c]
      by_cases d : x.1 ≤ halfN x.2.1
      · rw [if_pos d, if_pos d, h (x.1, halfN x.2.1, x.2.2) (by show halfN x.2.1 < x.2.1; omega)]
      · rw [if_neg d, if_neg d, h (x.1 - halfN x.2.1, x.2.1 - halfN x.2.1, false) (by show x.2.1 - halfN x.2.1 < x.2.1; omega)]) (m, n, whole)
/-- what a bridge comes to: the old and the new -/
def mcrossS (old : α) (f : Nat × Nat × Bool × List α → α × α) (x : Nat × Nat × Bool × List α) : α × α :=
  if x.1 = x.2.1 then (if x.2.2.1 then (old, old) else (x.2.2.2.getLastD e, x.2.2.2.getLastD e))
  else if x.2.1 ≤ 1 then (old, old)
  else if x.1 ≤ halfN x.2.1 then
    let r := f (x.1, halfN x.2.1, x.2.2.1, x.2.2.2.dropLast)
    (r.1, nd r.2 (x.2.2.2.getLastD e))
  else
    let r := f (x.1 - halfN x.2.1, x.2.1 - halfN x.2.1, false, x.2.2.2.dropLast)
    (nd (x.2.2.2.getLastD e) r.1, nd (x.2.2.2.getLastD e) r.2)
def mcross (m n : Nat) (whole : Bool) (old : α) (p : List α) : α × α := fxM (fun _ => (old, old)) (mcrossS nd e old) (n + 1) (m, n, whole, p)
theorem mcross_eq (m n : Nat) (whole : Bool) (old : α) (p : List α) : mcross nd e m n whole old p =
    if m = n then (if whole then (old, old) else (p.getLastD e, p.getLastD e))
    else if n ≤ 1 then (old, old)
    else if m ≤ halfN n then
      let r := mcross nd e m (halfN n) whole old p.dropLast
      (r.1, nd r.2 (p.getLastD e))
    else
      let r := mcross nd e (m - halfN n) (n - halfN n) false old p.dropLast
      (nd (p.getLastD e) r.1, nd (p.getLastD e) r.2) :=
  fxM_unf (fun x : Nat × Nat × Bool × List α => x.2.1) (fun _ => (old, old)) (mcrossS nd e old) (fun f g x h => by
    unfold mcrossS
    by_cases b : x.1 = x.2.1
    · rw [if_pos b, if_pos b]
    rw [if_neg b, if_neg b]
    by_cases c : x.2.1 ≤ 1
    · rw [if_pos c, if_pos c]
    · have hs := halfN_spec x.2.1 (by omega)
      rw [if_neg c, if_neg c]
      by_cases d : x.1 ≤ halfN x.2.1
      · rw [if_pos d, if_pos d, h (x.1, halfN x.2.1, x.2.2.1, x.2.2.2.dropLast) (by show halfN x.2.1 < x.2.1; omega)]
      · rw [if_neg d, if_neg d, h (x.1 - halfN x.2.1, x.2.1 - halfN x.2.1, false, x.2.2.2.dropLast) (by show x.2.1 - halfN x.2.1 < x.2.1; omega)]) (m, n, whole, p)
theorem mbridge_len : ∀ (n m : Nat) (l : List α) (whole : Bool), l.length = n → (mbridge nd e m l whole).length = mblen m n whole := by
  intro n
  induction n using Nat.strongRecOn with
  | ind n ih =>
    intro m l whole hl
    rw [mbridge_eq, mblen_eq, hl]
    by_cases h0 : m = n
    · rw [if_pos h0, if_pos h0]; cases whole <;> rfl
    · rw [if_neg h0, if_neg h0]
      by_cases h : n ≤ 1
      · rw [dif_pos h, if_pos h]; rfl
      · have hs := halfN_spec n (by omega)
        rw [dif_neg h, if_neg h]
        by_cases hm : m ≤ halfN n
        · rw [if_pos hm, if_pos hm, List.length_append, ih (halfN n) (by omega) m _ whole (by simp; omega)]; rfl
        · rw [if_neg hm, if_neg hm, List.length_append, ih (n - halfN n) (by omega) _ _ false (by simp; omega)]; rfl
/-- every beginning is proved -/
theorem mcross_bridge : ∀ (n m : Nat) (l : List α) (whole : Bool) (old : α), l.length = n → 1 ≤ m → m ≤ n → (whole = true → old = mroot nd e (l.take m)) →
    mcross nd e m n whole old (mbridge nd e m l whole) = (mroot nd e (l.take m), mroot nd e l) := by
  intro n
  induction n using Nat.strongRecOn with
  | ind n ih =>
    intro m l whole old hl h1 h2 ho
    rw [mcross_eq, mbridge_eq, hl]
    by_cases h0 : m = n
    · rw [if_pos h0, if_pos h0]
      have ht : l.take m = l := List.take_of_length_le (by omega)
      cases whole
      · rw [if_neg (by simp), if_neg (by simp), ht]; rfl
      · rw [if_pos rfl, ho rfl, ht]
    · rw [if_neg h0, if_neg h0, if_neg (by omega), dif_neg (by omega)]
      have hs := halfN_spec n (by omega)
      by_cases hm : m ≤ halfN n
      · rw [if_pos hm, if_pos hm, dropLast_snoc, getLastD_snoc]
        have ht : (l.take (halfN n)).take m = l.take m := by rw [List.take_take, Nat.min_eq_left hm]
        rw [ih (halfN n) (by omega) m (l.take (halfN n)) whole old (by simp; omega) h1 hm (by rw [ht]; exact ho), ht, mroot_big nd e (l := l) (by omega), hl]
      · rw [if_neg hm, if_neg hm, dropLast_snoc, getLastD_snoc]
        have hh := halfN_take (n := n) (m := m) (by omega) (by omega) h2
        rw [ih (n - halfN n) (by omega) (m - halfN n) (l.drop (halfN n)) false old (by simp; omega) (by omega) (by omega) (fun h => by cases h)]
        have hlt : (l.take m).length = m := by simp; omega
        rw [mroot_big nd e (l := l.take m) (by omega), hlt, hh, mroot_big nd e (l := l) (by omega), hl]
        have e1 : (l.take m).take (halfN n) = l.take (halfN n) := by rw [List.take_take, Nat.min_eq_left (by omega)]
        have e2 : (l.take m).drop (halfN n) = (l.drop (halfN n)).take (m - halfN n) := by rw [List.drop_take]
        rw [e1, e2]
end
end Go.Proofs.YteijlppmgkdieaaDoor
