import GoSem.Claim
import GoSem.ClaimJoined
import GoSem.ClaimMapViews
import Derived.JoinedTies
import Derived.KernelRfl
import Derived.RowKit
import Derived.WalkKit
import Derived.Laws.BitsAllLaws
import Derived.WalkSpells
import Derived.WalkLawsBesides
import Derived.Deep.QuietTactic
import Derived.BigQuiet
import Derived.RegionTactic
import Derived.BigRegion
import Derived.ProofKit
import Derived.LaidMore
import Derived.OpenShut
import Derived.Stop.Joined
import Derived.ChangeOld
import Derived.Deep.WholeRow
import Derived.Deep.RegionHeld3
import Derived.Laws.CopyOwn
import Derived.DeepKeys
import Derived.Laws.StructEq
import Derived.Laws.AppendOwnNone
import Derived.Laws.ResultCell
import Derived.Laws.Tables
import Derived.Deep.AppendLies
import Derived.Recover
import Derived.Shelf.Abstract
import Derived.Laws.IdiomCopy
import Derived.Laws.CopyRow
import Derived.Laws.EntriesVeiled
import Derived.Deep.MidRow
import Derived.SizedLaws
import Derived.Deep.Slices
import Derived.Lib.SlBytesConst
import Derived.Laws.BytesArg
import Derived.Lib.SmallJoins
import Derived.Deep.Cut
import Derived.Deep.DeepCutAuto
namespace Go.Proofs.YtejagcngbgnogaaGreat
open Go.RowKit
theorem cV {p q : Prop} (k : q) (h : q → p := by intro k; refine wpList_plain rfl fun K1 hK1 => ?_; go_simp; refine hK1 _ _ ?_; clear hK1 K1; exact k) : p := h k
theorem stY2 {p q : Prop} (k : q) (h : q → p := by intro k; refine wpList_plain rfl fun K1 hK1 => ?_; go_simp; refine hK1 _ _ ?_; clear hK1 K1; refine wpList_plain rfl fun K1 hK1 => ?_; go_simp; refine hK1 _ _ ?_; clear hK1 K1; exact k) : p := h k
theorem stY3 {p q : Prop} (k : q) (h : q → p := by intro k; refine wpList_plain rfl fun K1 hK1 => ?_; go_simp; refine hK1 _ _ ?_; clear hK1 K1; refine wpList_plain rfl fun K1 hK1 => ?_; go_simp; refine hK1 _ _ ?_; clear hK1 K1; refine wpList_plain rfl fun K1 hK1 => ?_; go_simp; refine hK1 _ _ ?_; clear hK1 K1; exact k) : p := h k
theorem stY4 {p q : Prop} (k : q) (h : q → p := by intro k; refine wpList_plain rfl fun K1 hK1 => ?_; go_simp; refine hK1 _ _ ?_; clear hK1 K1; refine wpList_plain rfl fun K1 hK1 => ?_; go_simp; refine hK1 _ _ ?_; clear hK1 K1; refine wpList_plain rfl fun K1 hK1 => ?_; go_simp; refine hK1 _ _ ?_; clear hK1 K1; refine wpList_plain rfl fun K1 hK1 => ?_; go_simp; refine hK1 _ _ ?_; clear hK1 K1; exact k) : p := h k
theorem stY5 {p q : Prop} (k : q) (h : q → p := by intro k; refine wpList_plain rfl fun K1 hK1 => ?_; go_simp; refine hK1 _ _ ?_; clear hK1 K1; refine wpList_plain rfl fun K1 hK1 => ?_; go_simp; refine hK1 _ _ ?_; clear hK1 K1; refine wpList_plain rfl fun K1 hK1 => ?_; go_simp; refine hK1 _ _ ?_; clear hK1 K1; refine wpList_plain rfl fun K1 hK1 => ?_; go_simp; refine hK1 _ _ ?_; clear hK1 K1; refine wpList_plain rfl fun K1 hK1 => ?_; go_simp; refine hK1 _ _ ?_; clear hK1 K1; exact k) : p := h k
theorem stY6 {p q : Prop} (k : q) (h : q → p := by intro k; refine wpList_plain rfl fun K1 hK1 => ?_; go_simp; refine hK1 _ _ ?_; clear hK1 K1; refine wpList_plain rfl fun K1 hK1 => ?_; go_simp; refine hK1 _ _ ?_; clear hK1 K1; refine wpList_plain rfl fun K1 hK1 => ?_; go_simp; refine hK1 _ _ ?_; clear hK1 K1; refine wpList_plain rfl fun K1 hK1 => ?_; go_simp; refine hK1 _ _ ?_; clear hK1 K1; refine wpList_plain rfl fun K1 hK1 => ?_; go_simp; refine hK1 _ _ ?_; clear hK1 K1; refine wpList_plain rfl fun K1 hK1 => ?_; go_simp; refine hK1 _ _ ?_; clear hK1 K1; exact k) : p := h k
theorem stY7 {p q : Prop} (k : q) (h : q → p := by intro k; refine wpList_plain rfl fun K1 hK1 => ?_; go_simp; refine hK1 _ _ ?_; clear hK1 K1; refine wpList_plain rfl fun K1 hK1 => ?_; go_simp; refine hK1 _ _ ?_; clear hK1 K1; refine wpList_plain rfl fun K1 hK1 => ?_; go_simp; refine hK1 _ _ ?_; clear hK1 K1; refine wpList_plain rfl fun K1 hK1 => ?_; go_simp; refine hK1 _ _ ?_; clear hK1 K1; refine wpList_plain rfl fun K1 hK1 => ?_; go_simp; refine hK1 _ _ ?_; clear hK1 K1; refine wpList_plain rfl fun K1 hK1 => ?_; go_simp; refine hK1 _ _ ?_; clear hK1 K1; refine wpList_plain rfl fun K1 hK1 => ?_; go_simp; refine hK1 _ _ ?_; clear hK1 K1; exact k) : p := h k
theorem stY8 {p q : Prop} (k : q) (h : q → p := by intro k; refine wpList_plain rfl fun K1 hK1 => ?_; go_simp; refine hK1 _ _ ?_; clear hK1 K1; refine wpList_plain rfl fun K1 hK1 => ?_; go_simp; refine hK1 _ _ ?_; clear hK1 K1; refine wpList_plain rfl fun K1 hK1 => ?_; go_simp; refine hK1 _ _ ?_; clear hK1 K1; refine wpList_plain rfl fun K1 hK1 => ?_; go_simp; refine hK1 _ _ ?_; clear hK1 K1; refine wpList_plain rfl fun K1 hK1 => ?_; go_simp; refine hK1 _ _ ?_; clear hK1 K1; refine wpList_plain rfl fun K1 hK1 => ?_; go_simp; refine hK1 _ _ ?_; clear hK1 K1; refine wpList_plain rfl fun K1 hK1 => ?_; go_simp; refine hK1 _ _ ?_; clear hK1 K1; refine wpList_plain rfl fun K1 hK1 => ?_; go_simp; refine hK1 _ _ ?_; clear hK1 K1; exact k) : p := h k
theorem stY9 {p q : Prop} (k : q) (h : q → p := by intro k; refine wpList_plain rfl fun K1 hK1 => ?_; go_simp; refine hK1 _ _ ?_; clear hK1 K1; refine wpList_plain rfl fun K1 hK1 => ?_; go_simp; refine hK1 _ _ ?_; clear hK1 K1; refine wpList_plain rfl fun K1 hK1 => ?_; go_simp; refine hK1 _ _ ?_; clear hK1 K1; refine wpList_plain rfl fun K1 hK1 => ?_; go_simp; refine hK1 _ _ ?_; clear hK1 K1; refine wpList_plain rfl fun K1 hK1 => ?_; go_simp; refine hK1 _ _ ?_; clear hK1 K1; refine wpList_plain rfl fun K1 hK1 => ?_; go_simp; refine hK1 _ _ ?_; clear hK1 K1; refine wpList_plain rfl fun K1 hK1 => ?_; go_simp; refine hK1 _ _ ?_; clear hK1 K1; refine wpList_plain rfl fun K1 hK1 => ?_; go_simp; refine hK1 _ _ ?_; clear hK1 K1; refine wpList_plain rfl fun K1 hK1 => ?_; go_simp; refine hK1 _ _ ?_; clear hK1 K1; exact k) : p := h k
theorem stY10 {p q : Prop} (k : q) (h : q → p := by intro k; refine wpList_plain rfl fun K1 hK1 => ?_; go_simp; refine hK1 _ _ ?_; clear hK1 K1; refine wpList_plain rfl fun K1 hK1 => ?_; go_simp; refine hK1 _ _ ?_; clear hK1 K1; refine wpList_plain rfl fun K1 hK1 => ?_; go_simp; refine hK1 _ _ ?_; clear hK1 K1; refine wpList_plain rfl fun K1 hK1 => ?_; go_simp; refine hK1 _ _ ?_; clear hK1 K1; refine wpList_plain rfl fun K1 hK1 => ?_; go_simp; refine hK1 _ _ ?_; clear hK1 K1; refine wpList_plain rfl fun K1 hK1 => ?_; go_simp; refine hK1 _ _ ?_; clear hK1 K1; refine wpList_plain rfl fun K1 hK1 => ?_; go_simp; refine hK1 _ _ ?_; clear hK1 K1; refine wpList_plain rfl fun K1 hK1 => ?_; go_simp; refine hK1 _ _ ?_; clear hK1 K1; refine wpList_plain rfl fun K1 hK1 => ?_; go_simp; refine hK1 _ _ ?_; clear hK1 K1; refine wpList_plain rfl fun K1 hK1 => ?_; go_simp; refine hK1 _ _ ?_; clear hK1 K1; exact k) : p := h k
theorem stY11 {p q : Prop} (k : q) (h : q → p := by intro k; refine wpList_plain rfl fun K1 hK1 => ?_; go_simp; refine hK1 _ _ ?_; clear hK1 K1; refine wpList_plain rfl fun K1 hK1 => ?_; go_simp; refine hK1 _ _ ?_; clear hK1 K1; refine wpList_plain rfl fun K1 hK1 => ?_; go_simp; refine hK1 _ _ ?_; clear hK1 K1; refine wpList_plain rfl fun K1 hK1 => ?_; go_simp; refine hK1 _ _ ?_; clear hK1 K1; refine wpList_plain rfl fun K1 hK1 => ?_; go_simp; refine hK1 _ _ ?_; clear hK1 K1; refine wpList_plain rfl fun K1 hK1 => ?_; go_simp; refine hK1 _ _ ?_; clear hK1 K1; refine wpList_plain rfl fun K1 hK1 => ?_; go_simp; refine hK1 _ _ ?_; clear hK1 K1; refine wpList_plain rfl fun K1 hK1 => ?_; go_simp; refine hK1 _ _ ?_; clear hK1 K1; refine wpList_plain rfl fun K1 hK1 => ?_; go_simp; refine hK1 _ _ ?_; clear hK1 K1; refine wpList_plain rfl fun K1 hK1 => ?_; go_simp; refine hK1 _ _ ?_; clear hK1 K1; refine wpList_plain rfl fun K1 hK1 => ?_; go_simp; refine hK1 _ _ ?_; clear hK1 K1; exact k) : p := h k
theorem stY12 {p q : Prop} (k : q) (h : q → p := by intro k; refine wpList_plain rfl fun K1 hK1 => ?_; go_simp; refine hK1 _ _ ?_; clear hK1 K1; refine wpList_plain rfl fun K1 hK1 => ?_; go_simp; refine hK1 _ _ ?_; clear hK1 K1; refine wpList_plain rfl fun K1 hK1 => ?_; go_simp; refine hK1 _ _ ?_; clear hK1 K1; refine wpList_plain rfl fun K1 hK1 => ?_; go_simp; refine hK1 _ _ ?_; clear hK1 K1; refine wpList_plain rfl fun K1 hK1 => ?_; go_simp; refine hK1 _ _ ?_; clear hK1 K1; refine wpList_plain rfl fun K1 hK1 => ?_; go_simp; refine hK1 _ _ ?_; clear hK1 K1; refine wpList_plain rfl fun K1 hK1 => ?_; go_simp; refine hK1 _ _ ?_; clear hK1 K1; refine wpList_plain rfl fun K1 hK1 => ?_; go_simp; refine hK1 _ _ ?_; clear hK1 K1; refine wpList_plain rfl fun K1 hK1 => ?_; go_simp; refine hK1 _ _ ?_; clear hK1 K1; refine wpList_plain rfl fun K1 hK1 => ?_; go_simp; refine hK1 _ _ ?_; clear hK1 K1; refine wpList_plain rfl fun K1 hK1 => ?_; go_simp; refine hK1 _ _ ?_; clear hK1 K1; refine wpList_plain rfl fun K1 hK1 => ?_; go_simp; refine hK1 _ _ ?_; clear hK1 K1; exact k) : p := h k
theorem eI {p q : Prop} (k : q) (h : q → p := by intro k; refine wp_region_lit ?_; refine wpList_plain rfl fun K1 hK1 => ?_; go_simp; refine hK1 _ _ ?_; clear hK1 K1; exact k) : p := h k
theorem rgY2 {p q : Prop} (k : q) (h : q → p := by intro k; refine wp_region_lit ?_; refine wpList_plain rfl fun K1 hK1 => ?_; go_simp; refine hK1 _ _ ?_; clear hK1 K1; refine wpList_plain rfl fun K1 hK1 => ?_; go_simp; refine hK1 _ _ ?_; clear hK1 K1; exact k) : p := h k
theorem rgY3 {p q : Prop} (k : q) (h : q → p := by intro k; refine wp_region_lit ?_; refine wpList_plain rfl fun K1 hK1 => ?_; go_simp; refine hK1 _ _ ?_; clear hK1 K1; refine wpList_plain rfl fun K1 hK1 => ?_; go_simp; refine hK1 _ _ ?_; clear hK1 K1; refine wpList_plain rfl fun K1 hK1 => ?_; go_simp; refine hK1 _ _ ?_; clear hK1 K1; exact k) : p := h k
theorem rgY4 {p q : Prop} (k : q) (h : q → p := by intro k; refine wp_region_lit ?_; refine wpList_plain rfl fun K1 hK1 => ?_; go_simp; refine hK1 _ _ ?_; clear hK1 K1; refine wpList_plain rfl fun K1 hK1 => ?_; go_simp; refine hK1 _ _ ?_; clear hK1 K1; refine wpList_plain rfl fun K1 hK1 => ?_; go_simp; refine hK1 _ _ ?_; clear hK1 K1; refine wpList_plain rfl fun K1 hK1 => ?_; go_simp; refine hK1 _ _ ?_; clear hK1 K1; exact k) : p := h k
theorem rgY5 {p q : Prop} (k : q) (h : q → p := by intro k; refine wp_region_lit ?_; refine wpList_plain rfl fun K1 hK1 => ?_; go_simp; refine hK1 _ _ ?_; clear hK1 K1; refine wpList_plain rfl fun K1 hK1 => ?_; go_simp; refine hK1 _ _ ?_; clear hK1 K1; refine wpList_plain rfl fun K1 hK1 => ?_; go_simp; refine hK1 _ _ ?_; clear hK1 K1; refine wpList_plain rfl fun K1 hK1 => ?_; go_simp; refine hK1 _ _ ?_; clear hK1 K1; refine wpList_plain rfl fun K1 hK1 => ?_; go_simp; refine hK1 _ _ ?_; clear hK1 K1; exact k) : p := h k
theorem rgY6 {p q : Prop} (k : q) (h : q → p := by intro k; refine wp_region_lit ?_; refine wpList_plain rfl fun K1 hK1 => ?_; go_simp; refine hK1 _ _ ?_; clear hK1 K1; refine wpList_plain rfl fun K1 hK1 => ?_; go_simp; refine hK1 _ _ ?_; clear hK1 K1; refine wpList_plain rfl fun K1 hK1 => ?_; go_simp; refine hK1 _ _ ?_; clear hK1 K1; refine wpList_plain rfl fun K1 hK1 => ?_; go_simp; refine hK1 _ _ ?_; clear hK1 K1; refine wpList_plain rfl fun K1 hK1 => ?_; go_simp; refine hK1 _ _ ?_; clear hK1 K1; refine wpList_plain rfl fun K1 hK1 => ?_; go_simp; refine hK1 _ _ ?_; clear hK1 K1; exact k) : p := h k
theorem rgY7 {p q : Prop} (k : q) (h : q → p := by intro k; refine wp_region_lit ?_; refine wpList_plain rfl fun K1 hK1 => ?_; go_simp; refine hK1 _ _ ?_; clear hK1 K1; refine wpList_plain rfl fun K1 hK1 => ?_; go_simp; refine hK1 _ _ ?_; clear hK1 K1; refine wpList_plain rfl fun K1 hK1 => ?_; go_simp; refine hK1 _ _ ?_; clear hK1 K1; refine wpList_plain rfl fun K1 hK1 => ?_; go_simp; refine hK1 _ _ ?_; clear hK1 K1; refine wpList_plain rfl fun K1 hK1 => ?_; go_simp; refine hK1 _ _ ?_; clear hK1 K1; refine wpList_plain rfl fun K1 hK1 => ?_; go_simp; refine hK1 _ _ ?_; clear hK1 K1; refine wpList_plain rfl fun K1 hK1 => ?_; go_simp; refine hK1 _ _ ?_; clear hK1 K1; exact k) : p := h k
theorem rgY8 {p q : Prop} (k : q) (h : q → p := by intro k; refine wp_region_lit ?_; refine wpList_plain rfl fun K1 hK1 => ?_; go_simp; refine hK1 _ _ ?_; clear hK1 K1; refine wpList_plain rfl fun K1 hK1 => ?_; go_simp; refine hK1 _ _ ?_; clear hK1 K1; refine wpList_plain rfl fun K1 hK1 => ?_; go_simp; refine hK1 _ _ ?_; clear hK1 K1; refine wpList_plain rfl fun K1 hK1 => ?_; go_simp; refine hK1 _ _ ?_; clear hK1 K1; refine wpList_plain rfl fun K1 hK1 => ?_; go_simp; refine hK1 _ _ ?_; clear hK1 K1; refine wpList_plain rfl fun K1 hK1 => ?_; go_simp; refine hK1 _ _ ?_; clear hK1 K1; refine wpList_plain rfl fun K1 hK1 => ?_; go_simp; refine hK1 _ _ ?_; clear hK1 K1; refine wpList_plain rfl fun K1 hK1 => ?_; go_simp; refine hK1 _ _ ?_; clear hK1 K1; exact k) : p := h k
theorem rgY9 {p q : Prop} (k : q) (h : q → p := by intro k; refine wp_region_lit ?_; refine wpList_plain rfl fun K1 hK1 => ?_; go_simp; refine hK1 _ _ ?_; clear hK1 K1; refine wpList_plain rfl fun K1 hK1 => ?_; go_simp; refine hK1 _ _ ?_; clear hK1 K1; refine wpList_plain rfl fun K1 hK1 => ?_; go_simp; refine hK1 _ _ ?_; clear hK1 K1; refine wpList_plain rfl fun K1 hK1 => ?_; go_simp; refine hK1 _ _ ?_; clear hK1 K1; refine wpList_plain rfl fun K1 hK1 => ?_; go_simp; refine hK1 _ _ ?_; clear hK1 K1; refine wpList_plain rfl fun K1 hK1 => ?_; go_simp; refine hK1 _ _ ?_; clear hK1 K1; refine wpList_plain rfl fun K1 hK1 => ?_; go_simp; refine hK1 _ _ ?_; clear hK1 K1; refine wpList_plain rfl fun K1 hK1 => ?_; go_simp; refine hK1 _ _ ?_; clear hK1 K1; refine wpList_plain rfl fun K1 hK1 => ?_; go_simp; refine hK1 _ _ ?_; clear hK1 K1; exact k) : p := h k
theorem rgY10 {p q : Prop} (k : q) (h : q → p := by intro k; refine wp_region_lit ?_; refine wpList_plain rfl fun K1 hK1 => ?_; go_simp; refine hK1 _ _ ?_; clear hK1 K1; refine wpList_plain rfl fun K1 hK1 => ?_; go_simp; refine hK1 _ _ ?_; clear hK1 K1; refine wpList_plain rfl fun K1 hK1 => ?_; go_simp; refine hK1 _ _ ?_; clear hK1 K1; refine wpList_plain rfl fun K1 hK1 => ?_; go_simp; refine hK1 _ _ ?_; clear hK1 K1; refine wpList_plain rfl fun K1 hK1 => ?_; go_simp; refine hK1 _ _ ?_; clear hK1 K1; refine wpList_plain rfl fun K1 hK1 => ?_; go_simp; refine hK1 _ _ ?_; clear hK1 K1; refine wpList_plain rfl fun K1 hK1 => ?_; go_simp; refine hK1 _ _ ?_; clear hK1 K1; refine wpList_plain rfl fun K1 hK1 => ?_; go_simp; refine hK1 _ _ ?_; clear hK1 K1; refine wpList_plain rfl fun K1 hK1 => ?_; go_simp; refine hK1 _ _ ?_; clear hK1 K1; refine wpList_plain rfl fun K1 hK1 => ?_; go_simp; refine hK1 _ _ ?_; clear hK1 K1; exact k) : p := h k
theorem rgY11 {p q : Prop} (k : q) (h : q → p := by intro k; refine wp_region_lit ?_; refine wpList_plain rfl fun K1 hK1 => ?_; go_simp; refine hK1 _ _ ?_; clear hK1 K1; refine wpList_plain rfl fun K1 hK1 => ?_; go_simp; refine hK1 _ _ ?_; clear hK1 K1; refine wpList_plain rfl fun K1 hK1 => ?_; go_simp; refine hK1 _ _ ?_; clear hK1 K1; refine wpList_plain rfl fun K1 hK1 => ?_; go_simp; refine hK1 _ _ ?_; clear hK1 K1; refine wpList_plain rfl fun K1 hK1 => ?_; go_simp; refine hK1 _ _ ?_; clear hK1 K1; refine wpList_plain rfl fun K1 hK1 => ?_; go_simp; refine hK1 _ _ ?_; clear hK1 K1; refine wpList_plain rfl fun K1 hK1 => ?_; go_simp; refine hK1 _ _ ?_; clear hK1 K1; refine wpList_plain rfl fun K1 hK1 => ?_; go_simp; refine hK1 _ _ ?_; clear hK1 K1; refine wpList_plain rfl fun K1 hK1 => ?_; go_simp; refine hK1 _ _ ?_; clear hK1 K1; refine wpList_plain rfl fun K1 hK1 => ?_; go_simp; refine hK1 _ _ ?_; clear hK1 K1; refine wpList_plain rfl fun K1 hK1 => ?_; go_simp; refine hK1 _ _ ?_; clear hK1 K1; exact k) : p := h k
theorem rgY12 {p q : Prop} (k : q) (h : q → p := by intro k; refine wp_region_lit ?_; refine wpList_plain rfl fun K1 hK1 => ?_; go_simp; refine hK1 _ _ ?_; clear hK1 K1; refine wpList_plain rfl fun K1 hK1 => ?_; go_simp; refine hK1 _ _ ?_; clear hK1 K1; refine wpList_plain rfl fun K1 hK1 => ?_; go_simp; refine hK1 _ _ ?_; clear hK1 K1; refine wpList_plain rfl fun K1 hK1 => ?_; go_simp; refine hK1 _ _ ?_; clear hK1 K1; refine wpList_plain rfl fun K1 hK1 => ?_; go_simp; refine hK1 _ _ ?_; clear hK1 K1; refine wpList_plain rfl fun K1 hK1 => ?_; go_simp; refine hK1 _ _ ?_; clear hK1 K1; refine wpList_plain rfl fun K1 hK1 => ?_; go_simp; refine hK1 _ _ ?_; clear hK1 K1; refine wpList_plain rfl fun K1 hK1 => ?_; go_simp; refine hK1 _ _ ?_; clear hK1 K1; refine wpList_plain rfl fun K1 hK1 => ?_; go_simp; refine hK1 _ _ ?_; clear hK1 K1; refine wpList_plain rfl fun K1 hK1 => ?_; go_simp; refine hK1 _ _ ?_; clear hK1 K1; refine wpList_plain rfl fun K1 hK1 => ?_; go_simp; refine hK1 _ _ ?_; clear hK1 K1; refine wpList_plain rfl fun K1 hK1 => ?_; go_simp; refine hK1 _ _ ?_; clear hK1 K1; exact k) : p := h k
theorem dO {p q : Prop} (k : q) (h : q → p := by intro k; refine wpList_plain rfl fun K1 hK1 => ?_; go_simp; refine hK1 _ _ ?_; clear hK1 K1; refine wpList_nil ?_; exact k) : p := h k
theorem snY2 {p q : Prop} (k : q) (h : q → p := by intro k; refine wpList_plain rfl fun K1 hK1 => ?_; go_simp; refine hK1 _ _ ?_; clear hK1 K1; refine wpList_plain rfl fun K1 hK1 => ?_; go_simp; refine hK1 _ _ ?_; clear hK1 K1; refine wpList_nil ?_; exact k) : p := h k
theorem snY3 {p q : Prop} (k : q) (h : q → p := by intro k; refine wpList_plain rfl fun K1 hK1 => ?_; go_simp; refine hK1 _ _ ?_; clear hK1 K1; refine wpList_plain rfl fun K1 hK1 => ?_; go_simp; refine hK1 _ _ ?_; clear hK1 K1; refine wpList_plain rfl fun K1 hK1 => ?_; go_simp; refine hK1 _ _ ?_; clear hK1 K1; refine wpList_nil ?_; exact k) : p := h k
theorem snY4 {p q : Prop} (k : q) (h : q → p := by intro k; refine wpList_plain rfl fun K1 hK1 => ?_; go_simp; refine hK1 _ _ ?_; clear hK1 K1; refine wpList_plain rfl fun K1 hK1 => ?_; go_simp; refine hK1 _ _ ?_; clear hK1 K1; refine wpList_plain rfl fun K1 hK1 => ?_; go_simp; refine hK1 _ _ ?_; clear hK1 K1; refine wpList_plain rfl fun K1 hK1 => ?_; go_simp; refine hK1 _ _ ?_; clear hK1 K1; refine wpList_nil ?_; exact k) : p := h k
theorem snY5 {p q : Prop} (k : q) (h : q → p := by intro k; refine wpList_plain rfl fun K1 hK1 => ?_; go_simp; refine hK1 _ _ ?_; clear hK1 K1; refine wpList_plain rfl fun K1 hK1 => ?_; go_simp; refine hK1 _ _ ?_; clear hK1 K1; refine wpList_plain rfl fun K1 hK1 => ?_; go_simp; refine hK1 _ _ ?_; clear hK1 K1; refine wpList_plain rfl fun K1 hK1 => ?_; go_simp; refine hK1 _ _ ?_; clear hK1 K1; refine wpList_plain rfl fun K1 hK1 => ?_; go_simp; refine hK1 _ _ ?_; clear hK1 K1; refine wpList_nil ?_; exact k) : p := h k
theorem snY6 {p q : Prop} (k : q) (h : q → p := by intro k; refine wpList_plain rfl fun K1 hK1 => ?_; go_simp; refine hK1 _ _ ?_; clear hK1 K1; refine wpList_plain rfl fun K1 hK1 => ?_; go_simp; refine hK1 _ _ ?_; clear hK1 K1; refine wpList_plain rfl fun K1 hK1 => ?_; go_simp; refine hK1 _ _ ?_; clear hK1 K1; refine wpList_plain rfl fun K1 hK1 => ?_; go_simp; refine hK1 _ _ ?_; clear hK1 K1; refine wpList_plain rfl fun K1 hK1 => ?_; go_simp; refine hK1 _ _ ?_; clear hK1 K1; refine wpList_plain rfl fun K1 hK1 => ?_; go_simp; refine hK1 _ _ ?_; clear hK1 K1; refine wpList_nil ?_; exact k) : p := h k
theorem snY7 {p q : Prop} (k : q) (h : q → p := by intro k; refine wpList_plain rfl fun K1 hK1 => ?_; go_simp; refine hK1 _ _ ?_; clear hK1 K1; refine wpList_plain rfl fun K1 hK1 => ?_; go_simp; refine hK1 _ _ ?_; clear hK1 K1; refine wpList_plain rfl fun K1 hK1 => ?_; go_simp; refine hK1 _ _ ?_; clear hK1 K1; refine wpList_plain rfl fun K1 hK1 => ?_; go_simp; refine hK1 _ _ ?_; clear hK1 K1; refine wpList_plain rfl fun K1 hK1 => ?_; go_simp; refine hK1 _ _ ?_; clear hK1 K1; refine wpList_plain rfl fun K1 hK1 => ?_; go_simp; refine hK1 _ _ ?_; clear hK1 K1; refine wpList_plain rfl fun K1 hK1 => ?_; go_simp; refine hK1 _ _ ?_; clear hK1 K1; refine wpList_nil ?_; exact k) : p := h k
theorem snY8 {p q : Prop} (k : q) (h : q → p := by intro k; refine wpList_plain rfl fun K1 hK1 => ?_; go_simp; refine hK1 _ _ ?_; clear hK1 K1; refine wpList_plain rfl fun K1 hK1 => ?_; go_simp; refine hK1 _ _ ?_; clear hK1 K1; refine wpList_plain rfl fun K1 hK1 => ?_; go_simp; refine hK1 _ _ ?_; clear hK1 K1; refine wpList_plain rfl fun K1 hK1 => ?_; go_simp; refine hK1 _ _ ?_; clear hK1 K1; refine wpList_plain rfl fun K1 hK1 => ?_; go_simp; refine hK1 _ _ ?_; clear hK1 K1; refine wpList_plain rfl fun K1 hK1 => ?_; go_simp; refine hK1 _ _ ?_; clear hK1 K1; refine wpList_plain rfl fun K1 hK1 => ?_; go_simp; refine hK1 _ _ ?_; clear hK1 K1; refine wpList_plain rfl fun K1 hK1 => ?_; go_simp; refine hK1 _ _ ?_; clear hK1 K1; refine wpList_nil ?_; exact k) : p := h k
theorem snY9 {p q : Prop} (k : q) (h : q → p := by intro k; refine wpList_plain rfl fun K1 hK1 => ?_; go_simp; refine hK1 _ _ ?_; clear hK1 K1; refine wpList_plain rfl fun K1 hK1 => ?_; go_simp; refine hK1 _ _ ?_; clear hK1 K1; refine wpList_plain rfl fun K1 hK1 => ?_; go_simp; refine hK1 _ _ ?_; clear hK1 K1; refine wpList_plain rfl fun K1 hK1 => ?_; go_simp; refine hK1 _ _ ?_; clear hK1 K1; refine wpList_plain rfl fun K1 hK1 => ?_; go_simp; refine hK1 _ _ ?_; clear hK1 K1; refine wpList_plain rfl fun K1 hK1 => ?_; go_simp; refine hK1 _ _ ?_; clear hK1 K1; refine wpList_plain rfl fun K1 hK1 => ?_; go_simp; refine hK1 _ _ ?_; clear hK1 K1; refine wpList_plain rfl fun K1 hK1 => ?_; go_simp; refine hK1 _ _ ?_; clear hK1 K1; refine wpList_plain rfl fun K1 hK1 => ?_; go_simp; refine hK1 _ _ ?_; clear hK1 K1; refine wpList_nil ?_; exact k) : p := h k
theorem snY10 {p q : Prop} (k : q) (h : q → p := by intro k; refine wpList_plain rfl fun K1 hK1 => ?_; go_simp; refine hK1 _ _ ?_; clear hK1 K1; refine wpList_plain rfl fun K1 hK1 => ?_; go_simp; refine hK1 _ _ ?_; clear hK1 K1; refine wpList_plain rfl fun K1 hK1 => ?_; go_simp; refine hK1 _ _ ?_; clear hK1 K1; refine wpList_plain rfl fun K1 hK1 => ?_; go_simp; refine hK1 _ _ ?_; clear hK1 K1; refine wpList_plain rfl fun K1 hK1 => ?_; go_simp; refine hK1 _ _ ?_; clear hK1 K1; refine wpList_plain rfl fun K1 hK1 => ?_; go_simp; refine hK1 _ _ ?_; clear hK1 K1; refine wpList_plain rfl fun K1 hK1 => ?_; go_simp; refine hK1 _ _ ?_; clear hK1 K1; refine wpList_plain rfl fun K1 hK1 => ?_; go_simp; refine hK1 _ _ ?_; clear hK1 K1; refine wpList_plain rfl fun K1 hK1 => ?_; go_simp; refine hK1 _ _ ?_; clear hK1 K1; refine wpList_plain rfl fun K1 hK1 => ?_; go_simp; refine hK1 _ _ ?_; clear hK1 K1; refine wpList_nil ?_; exact k) : p := h k
theorem snY11 {p q : Prop} (k : q) (h : q → p := by intro k; refine wpList_plain rfl fun K1 hK1 => ?_; go_simp; refine hK1 _ _ ?_; clear hK1 K1; refine wpList_plain rfl fun K1 hK1 => ?_; go_simp; refine hK1 _ _ ?_; clear hK1 K1; refine wpList_plain rfl fun K1 hK1 => ?_; go_simp; refine hK1 _ _ ?_; clear hK1 K1; refine wpList_plain rfl fun K1 hK1 => ?_; go_simp; refine hK1 _ _ ?_; clear hK1 K1; refine wpList_plain rfl fun K1 hK1 => ?_; go_simp; refine hK1 _ _ ?_; clear hK1 K1; refine wpList_plain rfl fun K1 hK1 => ?_; go_simp; refine hK1 _ _ ?_; clear hK1 K1; refine wpList_plain rfl fun K1 hK1 => ?_; go_simp; refine hK1 _ _ ?_; clear hK1 K1; refine wpList_plain rfl fun K1 hK1 => ?_; go_simp; refine hK1 _ _ ?_; clear hK1 K1; refine wpList_plain rfl fun K1 hK1 => ?_; go_simp; refine hK1 _ _ ?_; clear hK1 K1; refine wpList_plain rfl fun K1 hK1 => ?_; go_simp; refine hK1 _ _ ?_; clear hK1 K1; refine wpList_plain rfl fun K1 hK1 => ?_; go_simp; refine hK1 _ _ ?_; clear hK1 K1; refine wpList_nil ?_; exact k) : p := h k
theorem snY12 {p q : Prop} (k : q) (h : q → p := by intro k; refine wpList_plain rfl fun K1 hK1 => ?_; go_simp; refine hK1 _ _ ?_; clear hK1 K1; refine wpList_plain rfl fun K1 hK1 => ?_; go_simp; refine hK1 _ _ ?_; clear hK1 K1; refine wpList_plain rfl fun K1 hK1 => ?_; go_simp; refine hK1 _ _ ?_; clear hK1 K1; refine wpList_plain rfl fun K1 hK1 => ?_; go_simp; refine hK1 _ _ ?_; clear hK1 K1; refine wpList_plain rfl fun K1 hK1 => ?_; go_simp; refine hK1 _ _ ?_; clear hK1 K1; refine wpList_plain rfl fun K1 hK1 => ?_; go_simp; refine hK1 _ _ ?_; clear hK1 K1; refine wpList_plain rfl fun K1 hK1 => ?_; go_simp; refine hK1 _ _ ?_; clear hK1 K1; refine wpList_plain rfl fun K1 hK1 => ?_; go_simp; refine hK1 _ _ ?_; clear hK1 K1; refine wpList_plain rfl fun K1 hK1 => ?_; go_simp; refine hK1 _ _ ?_; clear hK1 K1; refine wpList_plain rfl fun K1 hK1 => ?_; go_simp; refine hK1 _ _ ?_; clear hK1 K1; refine wpList_plain rfl fun K1 hK1 => ?_; go_simp; refine hK1 _ _ ?_; clear hK1 K1; refine wpList_plain rfl fun K1 hK1 => ?_; go_simp; refine hK1 _ _ ?_; clear hK1 K1; refine wpList_nil ?_; exact k) : p := h k
section
variable {P : Program} {ops : Array Oper} {a : Act} {w : World} {Q : Exit → Act → World → Prop}
theorem tkY {md : Region.Mode} {S : World → Prop} {oi : Oper} {fuel : Nat} {listed : Array Bool} (i : Nat) (v : Value) (hi : ops[i]? = some oi) (hy : YieldsIf P ops S oi v a) (hS : S w) {q : Prop} (k : q)
  (hs : Region.noSelect ops = true := by kernel_rfl) (hf : Region.free md ops listed i = true := by kernel_rfl) (hr : (Region.ready md ops listed).contains i = true := by kernel_rfl)
  (hQ : ∀ c a w, Q (.panic c) (a.put oi.dst v) w → Q (.panic c) a w := by exact fun _ _ _ h => h)
  (h : q → wpAnyH P md ops Q S fuel (listed.setIfInBounds i true) (a.put oi.dst v) w := by intro k; simp [Act.put]; exact k) : wpAnyH P md ops Q S (fuel + 1) listed a w := wpAnyH_take hi hs hf hr hQ hy hS (h k)
theorem tkS {md : Region.Mode} {S : World → Prop} {oi : Oper} {fuel : Nat} {listed : Array Bool} (i : Nat) (v : Value) (hi : ops[i]? = some oi) (hS : S w) {q : Prop} (k : q) (hy : YieldsIf P ops S oi v a := by exact Or.inl ⟨by rfl, fun w hSw => by go_simp⟩)
  (hs : Region.noSelect ops = true := by kernel_rfl) (hf : Region.free md ops listed i = true := by kernel_rfl) (hr : (Region.ready md ops listed).contains i = true := by kernel_rfl)
  (hQ : ∀ c a w, Q (.panic c) (a.put oi.dst v) w → Q (.panic c) a w := by exact fun _ _ _ h => h)
  (h : q → wpAnyH P md ops Q S fuel (listed.setIfInBounds i true) (a.put oi.dst v) w := by intro k; simp [Act.put]; exact k) : wpAnyH P md ops Q S (fuel + 1) listed a w := wpAnyH_take hi hs hf hr hQ hy hS (h k)
theorem rdY {md : Region.Mode} {S : World → Prop} {fuel : Nat} {listed : Array Bool} (i : Nat) {o : Oper} (ho : ops[i]? = some o) (h : ∀ K' : Act → World → Prop, Shut (∀ a w, S w → (S w → wpAnyH P md ops Q S fuel (listed.setIfInBounds i true) a w) → K' a w) → if Region.wanted o (yielded ops a.tmps) = true then Oper.wp P o a w K' Q else K' (a.put o.dst undef) w) (hr : Region.ready md ops listed = [i] := by kernel_rfl) : wpAnyH P md ops Q S (fuel + 1) listed a w :=
 wpAnyH_ready hr (by simp) (AllReadyH.cons ho h AllReadyH.nil)
end
abbrev nq0 {α : Type} [OfNat α 0] : α := 0
abbrev nq1 {α : Type} [OfNat α 1] : α := 1
abbrev nq2 {α : Type} [OfNat α 2] : α := 2
abbrev nq3 {α : Type} [OfNat α 3] : α := 3
abbrev nq4 {α : Type} [OfNat α 4] : α := 4
abbrev nq5 {α : Type} [OfNat α 5] : α := 5
abbrev nq6 {α : Type} [OfNat α 6] : α := 6
abbrev nq7 {α : Type} [OfNat α 7] : α := 7
abbrev nq8 {α : Type} [OfNat α 8] : α := 8
abbrev nq9 {α : Type} [OfNat α 9] : α := 9
abbrev nq10 {α : Type} [OfNat α 10] : α := 10
abbrev nq11 {α : Type} [OfNat α 11] : α := 11
abbrev nq12 {α : Type} [OfNat α 12] : α := 12
abbrev nq13 {α : Type} [OfNat α 13] : α := 13
abbrev nq14 {α : Type} [OfNat α 14] : α := 14
abbrev nq15 {α : Type} [OfNat α 15] : α := 15
abbrev nq16 {α : Type} [OfNat α 16] : α := 16
abbrev nq17 {α : Type} [OfNat α 17] : α := 17
abbrev nq19 {α : Type} [OfNat α 19] : α := 19
abbrev nq21 {α : Type} [OfNat α 21] : α := 21
abbrev nq23 {α : Type} [OfNat α 23] : α := 23
abbrev nq24 {α : Type} [OfNat α 24] : α := 24
abbrev nq25 {α : Type} [OfNat α 25] : α := 25
abbrev nq26 {α : Type} [OfNat α 26] : α := 26
abbrev nq27 {α : Type} [OfNat α 27] : α := 27
abbrev nq28 {α : Type} [OfNat α 28] : α := 28
abbrev nq29 {α : Type} [OfNat α 29] : α := 29
abbrev nq30 {α : Type} [OfNat α 30] : α := 30
abbrev nq31 {α : Type} [OfNat α 31] : α := 31
abbrev nq32 {α : Type} [OfNat α 32] : α := 32
abbrev nq33 {α : Type} [OfNat α 33] : α := 33
abbrev nq34 {α : Type} [OfNat α 34] : α := 34
abbrev nq35 {α : Type} [OfNat α 35] : α := 35
abbrev nq37 {α : Type} [OfNat α 37] : α := 37
abbrev nq39 {α : Type} [OfNat α 39] : α := 39
abbrev nq40 {α : Type} [OfNat α 40] : α := 40
abbrev nq41 {α : Type} [OfNat α 41] : α := 41
abbrev nq42 {α : Type} [OfNat α 42] : α := 42
abbrev nq43 {α : Type} [OfNat α 43] : α := 43
abbrev nq45 {α : Type} [OfNat α 45] : α := 45
abbrev nq53 {α : Type} [OfNat α 53] : α := 53
abbrev nq57 {α : Type} [OfNat α 57] : α := 57
abbrev nq58 {α : Type} [OfNat α 58] : α := 58
abbrev nq61 {α : Type} [OfNat α 61] : α := 61
abbrev nq64 {α : Type} [OfNat α 64] : α := 64
abbrev nq65 {α : Type} [OfNat α 65] : α := 65
abbrev nq67 {α : Type} [OfNat α 67] : α := 67
abbrev nq69 {α : Type} [OfNat α 69] : α := 69
abbrev nq71 {α : Type} [OfNat α 71] : α := 71
abbrev nq72 {α : Type} [OfNat α 72] : α := 72
abbrev nq73 {α : Type} [OfNat α 73] : α := 73
abbrev nq76 {α : Type} [OfNat α 76] : α := 76
abbrev nq78 {α : Type} [OfNat α 78] : α := 78
abbrev nq80 {α : Type} [OfNat α 80] : α := 80
abbrev nq84 {α : Type} [OfNat α 84] : α := 84
abbrev nq88 {α : Type} [OfNat α 88] : α := 88
abbrev nq93 {α : Type} [OfNat α 93] : α := 93
abbrev nq95 {α : Type} [OfNat α 95] : α := 95
abbrev nq97 {α : Type} [OfNat α 97] : α := 97
abbrev nq98 {α : Type} [OfNat α 98] : α := 98
abbrev nq99 {α : Type} [OfNat α 99] : α := 99
abbrev nq100 {α : Type} [OfNat α 100] : α := 100
abbrev nq113 {α : Type} [OfNat α 113] : α := 113
abbrev nq118 {α : Type} [OfNat α 118] : α := 118
abbrev nq132 {α : Type} [OfNat α 132] : α := 132
abbrev nq133 {α : Type} [OfNat α 133] : α := 133
abbrev nq138 {α : Type} [OfNat α 138] : α := 138
abbrev nq153 {α : Type} [OfNat α 153] : α := 153
abbrev nq156 {α : Type} [OfNat α 156] : α := 156
abbrev nq158 {α : Type} [OfNat α 158] : α := 158
abbrev nq160 {α : Type} [OfNat α 160] : α := 160
abbrev nq162 {α : Type} [OfNat α 162] : α := 162
abbrev nq163 {α : Type} [OfNat α 163] : α := 163
abbrev nq164 {α : Type} [OfNat α 164] : α := 164
abbrev nq166 {α : Type} [OfNat α 166] : α := 166
abbrev nq168 {α : Type} [OfNat α 168] : α := 168
abbrev nq170 {α : Type} [OfNat α 170] : α := 170
abbrev nq172 {α : Type} [OfNat α 172] : α := 172
abbrev nq173 {α : Type} [OfNat α 173] : α := 173
abbrev nq174 {α : Type} [OfNat α 174] : α := 174
abbrev nq176 {α : Type} [OfNat α 176] : α := 176
abbrev nq178 {α : Type} [OfNat α 178] : α := 178
abbrev nq180 {α : Type} [OfNat α 180] : α := 180
abbrev nq182 {α : Type} [OfNat α 182] : α := 182
abbrev nq185 {α : Type} [OfNat α 185] : α := 185
abbrev nq186 {α : Type} [OfNat α 186] : α := 186
abbrev nq188 {α : Type} [OfNat α 188] : α := 188
abbrev nq190 {α : Type} [OfNat α 190] : α := 190
abbrev nq192 {α : Type} [OfNat α 192] : α := 192
abbrev nq193 {α : Type} [OfNat α 193] : α := 193
abbrev nq194 {α : Type} [OfNat α 194] : α := 194
abbrev nq198 {α : Type} [OfNat α 198] : α := 198
abbrev nq213 {α : Type} [OfNat α 213] : α := 213
abbrev nq218 {α : Type} [OfNat α 218] : α := 218
abbrev nq233 {α : Type} [OfNat α 233] : α := 233
abbrev nq238 {α : Type} [OfNat α 238] : α := 238
abbrev nq241 {α : Type} [OfNat α 241] : α := 241
abbrev nq245 {α : Type} [OfNat α 245] : α := 245
abbrev nq248 {α : Type} [OfNat α 248] : α := 248
abbrev nq250 {α : Type} [OfNat α 250] : α := 250
abbrev nq256 {α : Type} [OfNat α 256] : α := 256
abbrev nq259 {α : Type} [OfNat α 259] : α := 259
abbrev nq261 {α : Type} [OfNat α 261] : α := 261
abbrev nq262 {α : Type} [OfNat α 262] : α := 262
abbrev nq264 {α : Type} [OfNat α 264] : α := 264
abbrev nq270 {α : Type} [OfNat α 270] : α := 270
abbrev nq273 {α : Type} [OfNat α 273] : α := 273
abbrev nq275 {α : Type} [OfNat α 275] : α := 275
abbrev nq276 {α : Type} [OfNat α 276] : α := 276
abbrev nq278 {α : Type} [OfNat α 278] : α := 278
abbrev nq285 {α : Type} [OfNat α 285] : α := 285
abbrev nq287 {α : Type} [OfNat α 287] : α := 287
abbrev nq289 {α : Type} [OfNat α 289] : α := 289
abbrev nq290 {α : Type} [OfNat α 290] : α := 290
abbrev nq292 {α : Type} [OfNat α 292] : α := 292
abbrev nq294 {α : Type} [OfNat α 294] : α := 294
abbrev nq299 {α : Type} [OfNat α 299] : α := 299
abbrev nq300 {α : Type} [OfNat α 300] : α := 300
abbrev nq301 {α : Type} [OfNat α 301] : α := 301
abbrev nq302 {α : Type} [OfNat α 302] : α := 302
abbrev nq303 {α : Type} [OfNat α 303] : α := 303
abbrev nq304 {α : Type} [OfNat α 304] : α := 304
abbrev nq305 {α : Type} [OfNat α 305] : α := 305
abbrev nq306 {α : Type} [OfNat α 306] : α := 306
abbrev nq307 {α : Type} [OfNat α 307] : α := 307
abbrev nq308 {α : Type} [OfNat α 308] : α := 308
abbrev nq309 {α : Type} [OfNat α 309] : α := 309
abbrev nq311 {α : Type} [OfNat α 311] : α := 311
abbrev nq312 {α : Type} [OfNat α 312] : α := 312
abbrev nq313 {α : Type} [OfNat α 313] : α := 313
abbrev nq314 {α : Type} [OfNat α 314] : α := 314
abbrev nq315 {α : Type} [OfNat α 315] : α := 315
abbrev nq316 {α : Type} [OfNat α 316] : α := 316
abbrev nq317 {α : Type} [OfNat α 317] : α := 317
abbrev nq318 {α : Type} [OfNat α 318] : α := 318
abbrev nq319 {α : Type} [OfNat α 319] : α := 319
abbrev nq322 {α : Type} [OfNat α 322] : α := 322
abbrev nq325 {α : Type} [OfNat α 325] : α := 325
abbrev nq327 {α : Type} [OfNat α 327] : α := 327
abbrev nq328 {α : Type} [OfNat α 328] : α := 328
abbrev nq329 {α : Type} [OfNat α 329] : α := 329
abbrev nq330 {α : Type} [OfNat α 330] : α := 330
abbrev nq331 {α : Type} [OfNat α 331] : α := 331
abbrev nq332 {α : Type} [OfNat α 332] : α := 332
abbrev nq333 {α : Type} [OfNat α 333] : α := 333
abbrev nq336 {α : Type} [OfNat α 336] : α := 336
abbrev nq337 {α : Type} [OfNat α 337] : α := 337
abbrev nq338 {α : Type} [OfNat α 338] : α := 338
abbrev nq340 {α : Type} [OfNat α 340] : α := 340
abbrev nq341 {α : Type} [OfNat α 341] : α := 341
abbrev nq342 {α : Type} [OfNat α 342] : α := 342
abbrev nq343 {α : Type} [OfNat α 343] : α := 343
abbrev nq344 {α : Type} [OfNat α 344] : α := 344
abbrev nq345 {α : Type} [OfNat α 345] : α := 345
abbrev nq346 {α : Type} [OfNat α 346] : α := 346
abbrev nq349 {α : Type} [OfNat α 349] : α := 349
abbrev nq350 {α : Type} [OfNat α 350] : α := 350
abbrev nq351 {α : Type} [OfNat α 351] : α := 351
abbrev nq353 {α : Type} [OfNat α 353] : α := 353
abbrev nq355 {α : Type} [OfNat α 355] : α := 355
abbrev nq356 {α : Type} [OfNat α 356] : α := 356
abbrev nq357 {α : Type} [OfNat α 357] : α := 357
abbrev nq358 {α : Type} [OfNat α 358] : α := 358
abbrev nq359 {α : Type} [OfNat α 359] : α := 359
abbrev nq360 {α : Type} [OfNat α 360] : α := 360
abbrev nq362 {α : Type} [OfNat α 362] : α := 362
abbrev nq364 {α : Type} [OfNat α 364] : α := 364
abbrev nq365 {α : Type} [OfNat α 365] : α := 365
abbrev nq366 {α : Type} [OfNat α 366] : α := 366
abbrev nq367 {α : Type} [OfNat α 367] : α := 367
abbrev nq368 {α : Type} [OfNat α 368] : α := 368
abbrev nq369 {α : Type} [OfNat α 369] : α := 369
abbrev nq373 {α : Type} [OfNat α 373] : α := 373
abbrev nq374 {α : Type} [OfNat α 374] : α := 374
abbrev nq375 {α : Type} [OfNat α 375] : α := 375
abbrev nq379 {α : Type} [OfNat α 379] : α := 379
abbrev nq380 {α : Type} [OfNat α 380] : α := 380
abbrev nq381 {α : Type} [OfNat α 381] : α := 381
abbrev nq394 {α : Type} [OfNat α 394] : α := 394
abbrev nq395 {α : Type} [OfNat α 395] : α := 395
abbrev nq396 {α : Type} [OfNat α 396] : α := 396
abbrev nq397 {α : Type} [OfNat α 397] : α := 397
abbrev nq398 {α : Type} [OfNat α 398] : α := 398
abbrev nq399 {α : Type} [OfNat α 399] : α := 399
abbrev nq400 {α : Type} [OfNat α 400] : α := 400
abbrev nq401 {α : Type} [OfNat α 401] : α := 401
abbrev nq402 {α : Type} [OfNat α 402] : α := 402
abbrev nq403 {α : Type} [OfNat α 403] : α := 403
abbrev nq404 {α : Type} [OfNat α 404] : α := 404
abbrev nq405 {α : Type} [OfNat α 405] : α := 405
abbrev nq406 {α : Type} [OfNat α 406] : α := 406
abbrev nq407 {α : Type} [OfNat α 407] : α := 407
abbrev nq408 {α : Type} [OfNat α 408] : α := 408
abbrev nq411 {α : Type} [OfNat α 411] : α := 411
abbrev nq413 {α : Type} [OfNat α 413] : α := 413
abbrev nq415 {α : Type} [OfNat α 415] : α := 415
abbrev nq417 {α : Type} [OfNat α 417] : α := 417
abbrev nq425 {α : Type} [OfNat α 425] : α := 425
abbrev nq434 {α : Type} [OfNat α 434] : α := 434
abbrev nq438 {α : Type} [OfNat α 438] : α := 438
abbrev nq441 {α : Type} [OfNat α 441] : α := 441
abbrev nq444 {α : Type} [OfNat α 444] : α := 444
abbrev nq447 {α : Type} [OfNat α 447] : α := 447
abbrev nq4096 {α : Type} [OfNat α 4096] : α := 4096
abbrev nq65535 {α : Type} [OfNat α 65535] : α := 65535
abbrev nq65536 {α : Type} [OfNat α 65536] : α := 65536
theorem nqe0 : (nq0 : Nat) = 0 ∧ (nq0 : Int) = 0 := ⟨rfl, rfl⟩
theorem fQ : (nq1 : Nat) = 1 ∧ (nq1 : Int) = 1 := ⟨rfl, rfl⟩
theorem nqe2 : (nq2 : Nat) = 2 ∧ (nq2 : Int) = 2 := ⟨rfl, rfl⟩
theorem nqe3 : (nq3 : Nat) = 3 ∧ (nq3 : Int) = 3 := ⟨rfl, rfl⟩
theorem nqe4 : (nq4 : Nat) = 4 ∧ (nq4 : Int) = 4 := ⟨rfl, rfl⟩
theorem nqe5 : (nq5 : Nat) = 5 ∧ (nq5 : Int) = 5 := ⟨rfl, rfl⟩
theorem nqe6 : (nq6 : Nat) = 6 ∧ (nq6 : Int) = 6 := ⟨rfl, rfl⟩
theorem nqe7 : (nq7 : Nat) = 7 ∧ (nq7 : Int) = 7 := ⟨rfl, rfl⟩
theorem nqe8 : (nq8 : Nat) = 8 ∧ (nq8 : Int) = 8 := ⟨rfl, rfl⟩
theorem nqe9 : (nq9 : Nat) = 9 ∧ (nq9 : Int) = 9 := ⟨rfl, rfl⟩
theorem nqe10 : (nq10 : Nat) = 10 ∧ (nq10 : Int) = 10 := ⟨rfl, rfl⟩
theorem nqe12 : (nq12 : Nat) = 12 ∧ (nq12 : Int) = 12 := ⟨rfl, rfl⟩
theorem nqe14 : (nq14 : Nat) = 14 ∧ (nq14 : Int) = 14 := ⟨rfl, rfl⟩
theorem nqe16 : (nq16 : Nat) = 16 ∧ (nq16 : Int) = 16 := ⟨rfl, rfl⟩
theorem nqe17 : (nq17 : Nat) = 17 ∧ (nq17 : Int) = 17 := ⟨rfl, rfl⟩
theorem iF : (nq32 : Nat) = 32 ∧ (nq32 : Int) = 32 := ⟨rfl, rfl⟩
theorem nqe33 : (nq33 : Nat) = 33 ∧ (nq33 : Int) = 33 := ⟨rfl, rfl⟩
theorem iP : (nq34 : Nat) = 34 ∧ (nq34 : Int) = 34 := ⟨rfl, rfl⟩
theorem nqe35 : (nq35 : Nat) = 35 ∧ (nq35 : Int) = 35 := ⟨rfl, rfl⟩
theorem iO : (nq57 : Nat) = 57 ∧ (nq57 : Int) = 57 := ⟨rfl, rfl⟩
theorem jA : (nq61 : Nat) = 61 ∧ (nq61 : Int) = 61 := ⟨rfl, rfl⟩
theorem nqe64 : (nq64 : Nat) = 64 ∧ (nq64 : Int) = 64 := ⟨rfl, rfl⟩
theorem dP : (nq65 : Nat) = 65 ∧ (nq65 : Int) = 65 := ⟨rfl, rfl⟩
theorem gW : (nq67 : Nat) = 67 ∧ (nq67 : Int) = 67 := ⟨rfl, rfl⟩
theorem gL : (nq69 : Nat) = 69 ∧ (nq69 : Int) = 69 := ⟨rfl, rfl⟩
theorem iE : (nq72 : Nat) = 72 ∧ (nq72 : Int) = 72 := ⟨rfl, rfl⟩
theorem gV : (nq76 : Nat) = 76 ∧ (nq76 : Int) = 76 := ⟨rfl, rfl⟩
theorem gK : (nq80 : Nat) = 80 ∧ (nq80 : Int) = 80 := ⟨rfl, rfl⟩
theorem iD : (nq84 : Nat) = 84 ∧ (nq84 : Int) = 84 := ⟨rfl, rfl⟩
theorem fY : (nq88 : Nat) = 88 ∧ (nq88 : Int) = 88 := ⟨rfl, rfl⟩
theorem gU : (nq97 : Nat) = 97 ∧ (nq97 : Int) = 97 := ⟨rfl, rfl⟩
theorem dI : (nq99 : Nat) = 99 ∧ (nq99 : Int) = 99 := ⟨rfl, rfl⟩
theorem nqe100 : (nq100 : Nat) = 100 ∧ (nq100 : Int) = 100 := ⟨rfl, rfl⟩
theorem fV : (nq132 : Nat) = 132 ∧ (nq132 : Int) = 132 := ⟨rfl, rfl⟩
theorem nqe158 : (nq158 : Nat) = 158 ∧ (nq158 : Int) = 158 := ⟨rfl, rfl⟩
theorem nqe162 : (nq162 : Nat) = 162 ∧ (nq162 : Int) = 162 := ⟨rfl, rfl⟩
theorem dK : (nq163 : Nat) = 163 ∧ (nq163 : Int) = 163 := ⟨rfl, rfl⟩
theorem nqe164 : (nq164 : Nat) = 164 ∧ (nq164 : Int) = 164 := ⟨rfl, rfl⟩
theorem nqe166 : (nq166 : Nat) = 166 ∧ (nq166 : Int) = 166 := ⟨rfl, rfl⟩
theorem nqe170 : (nq170 : Nat) = 170 ∧ (nq170 : Int) = 170 := ⟨rfl, rfl⟩
theorem nqe172 : (nq172 : Nat) = 172 ∧ (nq172 : Int) = 172 := ⟨rfl, rfl⟩
theorem nqe174 : (nq174 : Nat) = 174 ∧ (nq174 : Int) = 174 := ⟨rfl, rfl⟩
theorem nqe178 : (nq178 : Nat) = 178 ∧ (nq178 : Int) = 178 := ⟨rfl, rfl⟩
theorem nqe182 : (nq182 : Nat) = 182 ∧ (nq182 : Int) = 182 := ⟨rfl, rfl⟩
theorem nqe185 : (nq185 : Nat) = 185 ∧ (nq185 : Int) = 185 := ⟨rfl, rfl⟩
theorem nqe186 : (nq186 : Nat) = 186 ∧ (nq186 : Int) = 186 := ⟨rfl, rfl⟩
theorem nqe190 : (nq190 : Nat) = 190 ∧ (nq190 : Int) = 190 := ⟨rfl, rfl⟩
theorem nqe194 : (nq194 : Nat) = 194 ∧ (nq194 : Int) = 194 := ⟨rfl, rfl⟩
theorem nqe198 : (nq198 : Nat) = 198 ∧ (nq198 : Int) = 198 := ⟨rfl, rfl⟩
theorem jZ : (nq241 : Nat) = 241 ∧ (nq241 : Int) = 241 := ⟨rfl, rfl⟩
theorem nqe245 : (nq245 : Nat) = 245 ∧ (nq245 : Int) = 245 := ⟨rfl, rfl⟩
theorem nqe248 : (nq248 : Nat) = 248 ∧ (nq248 : Int) = 248 := ⟨rfl, rfl⟩
theorem lG : (nq256 : Nat) = 256 ∧ (nq256 : Int) = 256 := ⟨rfl, rfl⟩
theorem nqe259 : (nq259 : Nat) = 259 ∧ (nq259 : Int) = 259 := ⟨rfl, rfl⟩
theorem nqe261 : (nq261 : Nat) = 261 ∧ (nq261 : Int) = 261 := ⟨rfl, rfl⟩
theorem gM : (nq262 : Nat) = 262 ∧ (nq262 : Int) = 262 := ⟨rfl, rfl⟩
theorem lF : (nq270 : Nat) = 270 ∧ (nq270 : Int) = 270 := ⟨rfl, rfl⟩
theorem nqe273 : (nq273 : Nat) = 273 ∧ (nq273 : Int) = 273 := ⟨rfl, rfl⟩
theorem nqe275 : (nq275 : Nat) = 275 ∧ (nq275 : Int) = 275 := ⟨rfl, rfl⟩
theorem nqe276 : (nq276 : Nat) = 276 ∧ (nq276 : Int) = 276 := ⟨rfl, rfl⟩
theorem nqe285 : (nq285 : Nat) = 285 ∧ (nq285 : Int) = 285 := ⟨rfl, rfl⟩
theorem nqe287 : (nq287 : Nat) = 287 ∧ (nq287 : Int) = 287 := ⟨rfl, rfl⟩
theorem lE : (nq289 : Nat) = 289 ∧ (nq289 : Int) = 289 := ⟨rfl, rfl⟩
theorem nqe292 : (nq292 : Nat) = 292 ∧ (nq292 : Int) = 292 := ⟨rfl, rfl⟩
theorem nqe299 : (nq299 : Nat) = 299 ∧ (nq299 : Int) = 299 := ⟨rfl, rfl⟩
theorem jY : (nq300 : Nat) = 300 ∧ (nq300 : Int) = 300 := ⟨rfl, rfl⟩
theorem nqe301 : (nq301 : Nat) = 301 ∧ (nq301 : Int) = 301 := ⟨rfl, rfl⟩
theorem nqe302 : (nq302 : Nat) = 302 ∧ (nq302 : Int) = 302 := ⟨rfl, rfl⟩
theorem nqe303 : (nq303 : Nat) = 303 ∧ (nq303 : Int) = 303 := ⟨rfl, rfl⟩
theorem nqe304 : (nq304 : Nat) = 304 ∧ (nq304 : Int) = 304 := ⟨rfl, rfl⟩
theorem nqe306 : (nq306 : Nat) = 306 ∧ (nq306 : Int) = 306 := ⟨rfl, rfl⟩
theorem lD : (nq311 : Nat) = 311 ∧ (nq311 : Int) = 311 := ⟨rfl, rfl⟩
theorem nqe312 : (nq312 : Nat) = 312 ∧ (nq312 : Int) = 312 := ⟨rfl, rfl⟩
theorem nqe313 : (nq313 : Nat) = 313 ∧ (nq313 : Int) = 313 := ⟨rfl, rfl⟩
theorem nqe314 : (nq314 : Nat) = 314 ∧ (nq314 : Int) = 314 := ⟨rfl, rfl⟩
theorem nqe315 : (nq315 : Nat) = 315 ∧ (nq315 : Int) = 315 := ⟨rfl, rfl⟩
theorem nqe316 : (nq316 : Nat) = 316 ∧ (nq316 : Int) = 316 := ⟨rfl, rfl⟩
theorem lC : (nq322 : Nat) = 322 ∧ (nq322 : Int) = 322 := ⟨rfl, rfl⟩
theorem nqe325 : (nq325 : Nat) = 325 ∧ (nq325 : Int) = 325 := ⟨rfl, rfl⟩
theorem nqe327 : (nq327 : Nat) = 327 ∧ (nq327 : Int) = 327 := ⟨rfl, rfl⟩
theorem nqe328 : (nq328 : Nat) = 328 ∧ (nq328 : Int) = 328 := ⟨rfl, rfl⟩
theorem nqe329 : (nq329 : Nat) = 329 ∧ (nq329 : Int) = 329 := ⟨rfl, rfl⟩
theorem lB : (nq333 : Nat) = 333 ∧ (nq333 : Int) = 333 := ⟨rfl, rfl⟩
theorem nqe336 : (nq336 : Nat) = 336 ∧ (nq336 : Int) = 336 := ⟨rfl, rfl⟩
theorem nqe338 : (nq338 : Nat) = 338 ∧ (nq338 : Int) = 338 := ⟨rfl, rfl⟩
theorem nqe340 : (nq340 : Nat) = 340 ∧ (nq340 : Int) = 340 := ⟨rfl, rfl⟩
theorem nqe341 : (nq341 : Nat) = 341 ∧ (nq341 : Int) = 341 := ⟨rfl, rfl⟩
theorem nqe342 : (nq342 : Nat) = 342 ∧ (nq342 : Int) = 342 := ⟨rfl, rfl⟩
theorem jX : (nq346 : Nat) = 346 ∧ (nq346 : Int) = 346 := ⟨rfl, rfl⟩
theorem nqe349 : (nq349 : Nat) = 349 ∧ (nq349 : Int) = 349 := ⟨rfl, rfl⟩
theorem nqe351 : (nq351 : Nat) = 351 ∧ (nq351 : Int) = 351 := ⟨rfl, rfl⟩
theorem nqe355 : (nq355 : Nat) = 355 ∧ (nq355 : Int) = 355 := ⟨rfl, rfl⟩
theorem nqe356 : (nq356 : Nat) = 356 ∧ (nq356 : Int) = 356 := ⟨rfl, rfl⟩
theorem nqe357 : (nq357 : Nat) = 357 ∧ (nq357 : Int) = 357 := ⟨rfl, rfl⟩
theorem lA : (nq359 : Nat) = 359 ∧ (nq359 : Int) = 359 := ⟨rfl, rfl⟩
theorem nqe362 : (nq362 : Nat) = 362 ∧ (nq362 : Int) = 362 := ⟨rfl, rfl⟩
theorem nqe364 : (nq364 : Nat) = 364 ∧ (nq364 : Int) = 364 := ⟨rfl, rfl⟩
theorem nqe365 : (nq365 : Nat) = 365 ∧ (nq365 : Int) = 365 := ⟨rfl, rfl⟩
theorem nqe366 : (nq366 : Nat) = 366 ∧ (nq366 : Int) = 366 := ⟨rfl, rfl⟩
theorem nqe379 : (nq379 : Nat) = 379 ∧ (nq379 : Int) = 379 := ⟨rfl, rfl⟩
theorem nqe380 : (nq380 : Nat) = 380 ∧ (nq380 : Int) = 380 := ⟨rfl, rfl⟩
theorem nqe381 : (nq381 : Nat) = 381 ∧ (nq381 : Int) = 381 := ⟨rfl, rfl⟩
theorem nqe394 : (nq394 : Nat) = 394 ∧ (nq394 : Int) = 394 := ⟨rfl, rfl⟩
theorem nqe395 : (nq395 : Nat) = 395 ∧ (nq395 : Int) = 395 := ⟨rfl, rfl⟩
theorem nqe396 : (nq396 : Nat) = 396 ∧ (nq396 : Int) = 396 := ⟨rfl, rfl⟩
theorem nqe397 : (nq397 : Nat) = 397 ∧ (nq397 : Int) = 397 := ⟨rfl, rfl⟩
theorem nqe398 : (nq398 : Nat) = 398 ∧ (nq398 : Int) = 398 := ⟨rfl, rfl⟩
theorem nqe399 : (nq399 : Nat) = 399 ∧ (nq399 : Int) = 399 := ⟨rfl, rfl⟩
theorem nqe400 : (nq400 : Nat) = 400 ∧ (nq400 : Int) = 400 := ⟨rfl, rfl⟩
theorem nqe401 : (nq401 : Nat) = 401 ∧ (nq401 : Int) = 401 := ⟨rfl, rfl⟩
theorem nqe402 : (nq402 : Nat) = 402 ∧ (nq402 : Int) = 402 := ⟨rfl, rfl⟩
theorem nqe403 : (nq403 : Nat) = 403 ∧ (nq403 : Int) = 403 := ⟨rfl, rfl⟩
theorem nqe404 : (nq404 : Nat) = 404 ∧ (nq404 : Int) = 404 := ⟨rfl, rfl⟩
theorem nqe405 : (nq405 : Nat) = 405 ∧ (nq405 : Int) = 405 := ⟨rfl, rfl⟩
theorem nqe406 : (nq406 : Nat) = 406 ∧ (nq406 : Int) = 406 := ⟨rfl, rfl⟩
theorem nqe407 : (nq407 : Nat) = 407 ∧ (nq407 : Int) = 407 := ⟨rfl, rfl⟩
theorem nqe408 : (nq408 : Nat) = 408 ∧ (nq408 : Int) = 408 := ⟨rfl, rfl⟩
theorem nqe425 : (nq425 : Nat) = 425 ∧ (nq425 : Int) = 425 := ⟨rfl, rfl⟩
theorem nqe434 : (nq434 : Nat) = 434 ∧ (nq434 : Int) = 434 := ⟨rfl, rfl⟩
theorem nqe438 : (nq438 : Nat) = 438 ∧ (nq438 : Int) = 438 := ⟨rfl, rfl⟩
theorem nqe441 : (nq441 : Nat) = 441 ∧ (nq441 : Int) = 441 := ⟨rfl, rfl⟩
theorem nqe444 : (nq444 : Nat) = 444 ∧ (nq444 : Int) = 444 := ⟨rfl, rfl⟩
theorem nqe447 : (nq447 : Nat) = 447 ∧ (nq447 : Int) = 447 := ⟨rfl, rfl⟩
theorem nqe4096 : (nq4096 : Nat) = 4096 ∧ (nq4096 : Int) = 4096 := ⟨rfl, rfl⟩
theorem nqe65535 : (nq65535 : Nat) = 65535 ∧ (nq65535 : Int) = 65535 := ⟨rfl, rfl⟩
theorem nqe65536 : (nq65536 : Nat) = 65536 ∧ (nq65536 : Int) = 65536 := ⟨rfl, rfl⟩
theorem sh1 {G : Prop} (h : G := by
 obtain ⟨k, caps, rfl, eg, hp⟩ := hp
 refine ⟨_, _, rfl, enters_of z1a (by kernel_rfl) rfl, ?_⟩
 intro w p s fl q ty sh N x o hb hR hKp hKq hT hSg hq hn
 have cb : w.cell? ⟨bx, 0, none⟩ = some (.func (.func k) #[] caps) := by simpa using (hb.arr hA hbx).cell 0
 have hC := hp w.drew q o (hb.drewN 1) ⟨_, hSg.cell hT a (by omega)⟩
 have hU := rFixed_any p s fl n w.drew (hR.later (fL (Below.refl _ _) 1)) (by omega)
 have hR' : Rdr w.drew p s fl := hR.later (fL (Below.refl _ _) 1)
 have hT' : Trm w.drew q ty sh N x := hT.drewN 1
 have hbb : bx ≠ p ∧ bx ≠ q := ⟨fun e => hKp (e ▸ hbx), fun e => hKq (e ▸ hbx)⟩
 clear hp
 simp only [Enters] at eg
 by_cases hno : fl ≠ 0 ∨ s.n < n
 ·have HF := fun W e => fix_no (W := W) (e := e) (a := a) (o := o) hT' hR' hno
  clear hno
  go_enter z1a, z1b
  refine wp_region_noPanic ?_
  refine wp_region_held_drew (S := fun w' => w'.cell? ⟨bx, 0, none⟩ = some (.func (.func k) #[] caps)) (by kernel_rfl) cb (fun hHeld => ?_)
  refine tkS 0 (.func (.func k) #[] caps) rfl hHeld ?_
  refine tkS 1 (.pointer (some ⟨q, o, none⟩)) rfl hHeld ?_
  refine tkS 3 (.pointer (some ⟨p, 0, none⟩)) rfl hHeld ?_
  refine tkS 4 (.func (.func k) #[] caps) rfl hHeld ?_
  refine tkS 5 (.pointer (some ⟨q, o, none⟩)) rfl hHeld ?_
  refine rdY 2 rfl fun K hK => ?_
  go_simp
  refine hC.mono ?_
  rintro e w1 ⟨rfl, hw⟩
  have hw := hw.symm; subst hw
  refine hK.out _ _ hHeld (fun hHeld => ?_)
  clear hK K
  refine rdY 6 rfl fun K hK => ?_
  go_simp
  refine hC.mono ?_
  rintro e w1 ⟨rfl, hw⟩
  have hw := hw.symm; subst hw
  refine hK.out _ _ hHeld (fun hHeld => ?_)
  clear hK K
  refine tkS 7 (.int .i64 n) rfl hHeld ?_
  refine rdY 8 rfl fun K hK => ?_
  go_simp
  refine hU.mono ?_
  rintro e w1 hF
  obtain ⟨rfl, hB, fl', HG⟩ := HF _ _ hF
  refine hK.out _ _ ?_ (fun hHeld => ?_)
  ·rw [← hHeld]; exact hB.cell (p := ⟨bx, 0, none⟩) (fM hHeld) hbb.1
  clear hK K
  refine rdY 9 rfl fun K hK => ?_
  refine step_copy_no rfl (.tmp 7) (.tmp 13) 33 33 rfl 5 Tryz.underlying33 Tryz.sz1q _ _ _ rfl rfl ?_
  simp [Act.put]
  refine hK.out _ _ hHeld (fun hHeld => ?_)
  refine wpAnyH_done (by kernel_rfl) ?_ _
  unfold NoPanic
  clear hHeld hK
  go_end0
  exact ⟨rfl, s, fl', x, (unhide HG).undrew⟩
 ·obtain ⟨hf0, hns⟩ : fl = 0 ∧ n ≤ s.n := by omega
  subst hf0
  have hne := hT'.ne_r hR'
  have hSle := hSg.le
  clear hno
  go_enter z1a, z1b
  refine wp_region_noPanic ?_
  refine wp_region_held_drew (S := fun w' => w'.cell? ⟨bx, 0, none⟩ = some (.func (.func k) #[] caps)) (by kernel_rfl) cb (fun hHeld => ?_)
  refine tkS 0 (.func (.func k) #[] caps) rfl hHeld ?_
  refine tkS 1 (.pointer (some ⟨q, o, none⟩)) rfl hHeld ?_
  refine tkS 3 (.pointer (some ⟨p, 0, none⟩)) rfl hHeld ?_
  refine tkS 4 (.func (.func k) #[] caps) rfl hHeld ?_
  refine tkS 5 (.pointer (some ⟨q, o, none⟩)) rfl hHeld ?_
  refine rdY 2 rfl fun K hK => ?_
  go_simp
  refine hC.mono ?_
  rintro e w1 ⟨rfl, hw⟩
  have hw := hw.symm; subst hw
  refine hK.out _ _ hHeld (fun hHeld => ?_)
  clear hK K
  refine rdY 6 rfl fun K hK => ?_
  go_simp
  refine hC.mono ?_
  rintro e w1 ⟨rfl, hw⟩
  have hw := hw.symm; subst hw
  refine hK.out _ _ hHeld (fun hHeld => ?_)
  clear hK K
  refine tkS 7 (.int .i64 n) rfl hHeld ?_
  refine rdY 8 rfl fun K hK => ?_
  go_simp
  refine hU.mono ?_
  rintro e w1 hF
  obtain ⟨ad, c, t, rfl, hB, hRt, htl, hSa, hsrc⟩ := fix_yes hR' hns hn0 hF
  refine hK.out _ _ ?_ (fun hHeld => ?_)
  ·rw [← hHeld]; exact hB.cell (p := ⟨bx, 0, none⟩) (fM hHeld) hbb.1
  clear hK K
  have hT1 : Trm w1 q ty sh N x := hT'.keep (Buts.of_but hB) hne
  have hlen : (s.l.take n).length = n := by rw [List.length_take, hR.ok.len]; omega
  refine rdY 9 rfl fun K hK => ?_
  refine step_copy_bt rfl (.tmp 7) (.tmp 13) 33 33 rfl 5 Tryz.underlying33 Tryz.sz1q _ _ _ _ q (o + a) ad rfl rfl (cl sh N x) ty hT1.arr (U8 (s.l.take n)) (by rw [U8_length, hlen]; simp) hsrc (by rw [U8_length, hlen, aC]; omega) (u8_oc _) ?_
  intro w2 hA2 hB2
  simp [Act.put]
  refine hK.out _ _ ?_ (fun hHeld => ?_)
  ·rw [← hHeld]; exact hB2.cell (p := ⟨bx, 0, none⟩) (fM hHeld) hbb.2
  have HG := fix_done hT' hR' hq hSg ha hs hns hB hRt htl hSa hA2 hB2
  refine wpAnyH_done (by kernel_rfl) ?_ _
  unfold NoPanic
  clear hHeld hK
  go_end0
  exact ⟨rfl, t, 0, _, HG.undrew⟩) : G := h
theorem sh2 {G : Prop} (h : G := by
 have z2dq := z2dQ
 rw [hfk, bF] at hF
 have c3 : w3.cell? ⟨w.heap.size, 2, none⟩ = some (.slice (some ⟨g, 0, none⟩) z2a z2a) := hSt3.a0.cell 2
 have hEr := fun h => unhide HDF _ _ _ _ _ _ _ _ _ _ _ (unhide HSL) hR3 h
 have hEe := fun h => unhide HDE _ _ _ _ _ _ _ _ _ _ _ (unhide HSL) hR3 h
 have hMok := hR3.trm.ok
 have HME : Hid (cl z2b z2c x = cl z2b z2c x) := rfl
 have hsM : (Tryz.prog.info? z2d).map (·.size) = some (cl z2b z2c x).length := by rw [aC]; exact z2e
 have hsaM : (Tryz.prog.info? z2d).map (·.size) = some (cl z2b z2c x).toArray.size := by rw [List.size_toArray, aC]; exact z2e
 have hlM : Z.toArray.size = (cl z2b z2c x).toArray.size := by rw [List.size_toArray, List.size_toArray, aC, unhide HZL]
 have hocM : (cl z2b z2c x).toArray.all (·.oneCell') = true := all_oneCell_toArray (cK _ _ _)
 have HSM := aA hsM
 have HSAM := aA hsaM
 have HLM := aA hlM
 have HOCM := aA hocM
 have HOK := aA hMok
 have ST := aA hSt3
 have HER := aA hEr
 have HEE := aA hEe
 clear hG hR3 hSt3 hK3 hfk hEr hEe hMok hsM hsaM hlM hocM HT HN HB ST2 HK2 HNS HDF HDE HSL HP c2
 generalize hRE : rEnd t.l fl = re at *
 clear hRE
 generalize hFX : (aB z2f).fit x = fx at *
 have HFX := aA hFX
 clear hFX
 by_cases hre : re = 0
 ·have HX := aA (unhide HEE hre)
  subst hre
  clear HER HEE
  go_wp2_with fail
  refine hDn.mono ?_
  rintro e w4 ⟨rfl, rfl⟩
  clear hDn
  go_wp2_with fail
  refine hF.mono ?_
  rintro e w5 ⟨rfl, hB5⟩
  have ST := aA ((unhide ST).later hB5)
  clear hF hB5 c3
  cases fx with
  | true =>
   rw [if_pos rfl] at HX
   generalize hMM : cl z2b z2c x = M at *
   have HME := aA hMM.symm
   clear hMM
   go_upto_region 11 with fail
   refine wp_region_lit ?_
   refine wpList_load_mid rfl z2d (.tmp 7) rfl (w.heap.size + 3) 0 rfl M _ (unhide ST).a3.range z2g rfl (unhide HSM) ?_
   simp only [Act.put]
   refine wpList_store_row rfl z2d (.tmp 4) (.tmp 43) rfl (w.heap.size + 1) M.toArray rfl rfl z2d Z.toArray (unhide ST).a1 (unhide HSAM) (unhide HLM) (unhide HOCM) ?_
   refine dO ?_
   go_wp2
   refine bodyPost_ret (bT rfl _ _ (w.heap.size + 1) z2d M.toArray (0, 0) _ rfl (.int .i64 0) rfl (setRow_heap _ (w.heap.size + 1) _ _ _ _ (unhide ST).a1) z2g rfl (unhide HSAM)) rfl ?_
   exact bU.of (unhide HX) (unhide HME) (unhide HOK) (bJ (unhide ST).bel (Nat.le_succ _) _)
  | false =>
   rw [if_neg Bool.false_ne_true] at HX
   exact sh161
 ·have HX := aA (unhide HER hre)
  clear HER HEE hF
  go_wp2_with fail
  refine hDn.mono ?_
  rintro e w4 ⟨rfl, rfl⟩
  clear hDn
  exact sh161) : G := h
theorem sh3 {G : Prop} (h : G := by
 have z3bq := z3bQ
 have z3cq := z3cQ
 have z3dq := z3dQ
 have z3eq := z3eQ
 have z3iq := z3iQ
 obtain ⟨Z, it, -, hZl, hit, hzz, hzv⟩ := z3a
 have b1 : Below w.heap.size w (w.alloc (.cells #[.int .i64 z3b, .int .i64 z3c, .slice (some ⟨g, 0, none⟩) z3d z3d] z3e)) := aJ w _
 have A1 := Arr.new w z3e [.int .i64 z3b, .int .i64 z3c, .slice (some ⟨g, 0, none⟩) z3d z3d]
 have c0 : (w.alloc (.cells #[.int .i64 z3b, .int .i64 z3c, .slice (some ⟨g, 0, none⟩) z3d z3d] z3e)).cell? ⟨w.heap.size, 0, none⟩ = some (.int .i64 z3b) := A1.cell 0
 have c1 : (w.alloc (.cells #[.int .i64 z3b, .int .i64 z3c, .slice (some ⟨g, 0, none⟩) z3d z3d] z3e)).cell? ⟨w.heap.size, 1, none⟩ = some (.int .i64 z3c) := A1.cell 1
 have c2 : (w.alloc (.cells #[.int .i64 z3b, .int .i64 z3c, .slice (some ⟨g, 0, none⟩) z3d z3d] z3e)).cell? ⟨w.heap.size, 2, none⟩ = some (.slice (some ⟨g, 0, none⟩) z3d z3d) := A1.cell 2
 have hD := z3f hTab _ z3b z3c b (hbo.later b1) (hb.below b1)
 have HM : Hid (∀ e w1, bU z3b (aB z3g) z3h z3i b.l (w.alloc (.cells #[.int .i64 z3b, .int .i64 z3c, .slice (some ⟨g, 0, none⟩) z3d z3d] z3e)) e w1 → e = .returned (.tuple #[.agg (cl z3h z3i (fun _ => 0)).toArray, .int .i64 k]) ∧ Below w.heap.size w w1) := by
  rintro e w1 ⟨rfl, -, hB⟩
  rw [hz]
  exact ⟨rfl, b1.trans (hB.mono b1.size)⟩
 have hML : (cl z3h z3i (fun _ => 0)).length = z3i := aC _ _ _
 have hOC := cK z3h z3i (fun _ => 0)
 have eg := enters_of z3j (by kernel_rfl) rfl
 simp only [Enters] at eg
 have HZL := aA hZl
 clear hit hzz hZl hbo hb hTab hz A1 b1
 have hbv : b.v = .slice b.a b.n b.c := rfl
 rw [hbv] at hD ⊢
 generalize b.a = ba at *
 generalize b.n = bn at *
 generalize b.c = bc at *
 generalize b.l = bl at *
 clear hbv b
 generalize cl z3h z3i (fun _ => 0) = M at *
 have HML := aA hML
 have HOC := aA hOC
 have HSA : Hid ((Tryz.prog.info? z3k).map (·.size) = some M.toArray.size) := by
  show _ = _
  rw [List.size_toArray, hML]; exact z3l
 have HSM : Hid ((Tryz.prog.info? z3k).map (·.size) = some M.length) := by
  show _ = _
  rw [hML]; exact z3l
 have HLL : Hid (Z.toArray.size = M.toArray.size) := by
  show _ = _
  rw [List.size_toArray, List.size_toArray, hML, unhide HZL]
 clear hML hOC
 go_enter z3m, z3n
 go_wp2_with fail
 refine hD.mono ?_
 intro e w1 hP
 obtain ⟨rfl, hB1⟩ := unhide HM _ _ hP
 clear hD hP HM c0 c1 c2
 simp only []
 go_at_K
 rename_i hK
 refine hK _ _ ?_
 clear hK
 refine stY4 ?_
 have HA := aA (Arr.new w1 z3k Z)
 have HA2 : Arr ((w1.alloc (.cells Z.toArray z3k)).setRow w1.heap.size M.toArray) w1.heap.size z3k M := setRow_heap _ _ _ _ _ _ (unhide HA)
 have HB2 : Hid (Below w.heap.size w ((w1.alloc (.cells Z.toArray z3k)).setRow w1.heap.size M.toArray)) := aA (bJ (hB1.alloc hB1.size _) hB1.size _)
 refine wpList_store_row rfl z3k (.tmp 8) (.tmp 14) rfl w1.heap.size M.toArray rfl rfl z3k Z.toArray (unhide HA) (unhide HSA) (unhide HLL) (all_oneCell_toArray (unhide HOC)) ?_
 have RM := aA HA2.range
 clear HA HA2 hB1
 generalize (w1.alloc (.cells Z.toArray z3k)).setRow w1.heap.size M.toArray = W at *
 refine dO ?_
 clear RM
 go_wp2
 go_ret2
 exact ⟨rfl, unhide HB2⟩) : G := h
theorem sh4 {G : Prop} (h : G := by
 have z4aq := z4aQ
 have z4bq := z4bQ
 have b2 : Below w.heap.size w ((w.alloc (.cells #[.int .i64 dom, .int .i64 sgn, .slice (some ⟨g, 0, none⟩) n c] z4a)).alloc (.cells (cl sT nT x).toArray z4b)) := bV (aJ w _) _ (by simp)
 have A1 := (Arr.new w z4a [.int .i64 dom, .int .i64 sgn, .slice (some ⟨g, 0, none⟩) n c]).alloc (.cells (cl sT nT x).toArray z4b)
 have A2 : Arr ((w.alloc (.cells #[.int .i64 dom, .int .i64 sgn, .slice (some ⟨g, 0, none⟩) n c] z4a)).alloc (.cells (cl sT nT x).toArray z4b)) (w.heap.size + 1) z4b (cl sT nT x) := by
  have := Arr.new (w.alloc (.cells #[.int .i64 dom, .int .i64 sgn, .slice (some ⟨g, 0, none⟩) n c] z4a)) z4b (cl sT nT x)
  have s1 : (w.alloc (.cells #[.int .i64 dom, .int .i64 sgn, .slice (some ⟨g, 0, none⟩) n c] z4a)).heap.size = w.heap.size + 1 := by simp
  rw [s1] at this
  exact this
 have hT2 : Trm _ _ _ _ _ _ := ⟨A2, hok, by decide, by decide, by decide⟩
 have hU := fun W (h : Below _ _ W) => z4c hTab (Nat.le_trans hsn hn) (Nat.le_trans hsn hc) hc2 W dom (w.heap.size + 1) z4b sT nT x 0 ((hb.below b2).below h) (hT2.later h) ⟨by (have := z4aQ; have := z4bQ; omega), fun j hj => by rw [Nat.zero_add]⟩ (by rw [bF]; exact hl)
 simp only [bF] at hU
 have c0 : ((w.alloc (.cells #[.int .i64 dom, .int .i64 sgn, .slice (some ⟨g, 0, none⟩) n c] z4a)).alloc (.cells (cl sT nT x).toArray z4b)).cell? ⟨w.heap.size, 0, none⟩ = some (.int .i64 dom) := A1.cell 0
 have c1 : ((w.alloc (.cells #[.int .i64 dom, .int .i64 sgn, .slice (some ⟨g, 0, none⟩) n c] z4a)).alloc (.cells (cl sT nT x).toArray z4b)).cell? ⟨w.heap.size, 1, none⟩ = some (.int .i64 sgn) := A1.cell 1
 have c2 : ((w.alloc (.cells #[.int .i64 dom, .int .i64 sgn, .slice (some ⟨g, 0, none⟩) n c] z4a)).alloc (.cells (cl sT nT x).toArray z4b)).cell? ⟨w.heap.size, 2, none⟩ = some (.slice (some ⟨g, 0, none⟩) n c) := A1.cell 2
 have hsc : sgn ≤ c := Nat.le_trans hsn hc
 have HB := aA b2
 clear hTab hb hok hl A1 A2 hT2 b2
 generalize hM : tellL dom (aB (fs.take sgn)) x = L at *
 clear hM
 generalize hN : cl sT nT x = X at *
 clear hN
 go_enter z4d, z4e
 go_wp2
 generalize ((w.alloc (.cells #[.int .i64 dom, .int .i64 sgn, .slice (some ⟨g, 0, none⟩) n c] z4a)).alloc (.cells X.toArray z4b)) = W at *
 have hU := hU W.drew (fL (Below.refl _ _) 1)
 refine wp_region_noPanic ?_
 refine wp_region_held_drew (S := fun w' => w'.cell? ⟨w.heap.size, 0, none⟩ = some (.int .i64 dom) ∧ w'.cell? ⟨w.heap.size, 1, none⟩ = some (.int .i64 sgn) ∧ w'.cell? ⟨w.heap.size, 2, none⟩ = some (.slice (some ⟨g, 0, none⟩) n c)) (by kernel_rfl) ⟨c0, c1, c2⟩ (fun hHeld => ?_)
 refine tkS 0 (.pointer (some ⟨w.heap.size, 0, none⟩)) rfl hHeld ?_
 refine tkY 1 (.int .i64 dom) rfl (Or.inl ⟨by rfl, fun w hSw => by obtain ⟨h1, h2, h3⟩ := hSw; go_simp⟩) hHeld ?_
 refine tkS 2 (.pointer (some ⟨w.heap.size, 2, none⟩)) rfl hHeld ?_
 refine tkY 3 (.slice (some ⟨g, 0, none⟩) n c) rfl (Or.inl ⟨by rfl, fun w hSw => by obtain ⟨h1, h2, h3⟩ := hSw; go_simp⟩) hHeld ?_
 refine tkS 4 (.pointer (some ⟨w.heap.size, 1, none⟩)) rfl hHeld ?_
 refine tkY 5 (.int .i64 sgn) rfl (Or.inl ⟨by rfl, fun w hSw => by obtain ⟨h1, h2, h3⟩ := hSw; go_simp⟩) hHeld ?_
 refine tkS 6 (.slice (some ⟨g, 0, none⟩) sgn c) rfl hHeld ?_
 refine rdY 7 rfl fun K hK => ?_
 go_simp
 refine hU.mono ?_
 rintro e w1 ⟨av, cv, rfl, hown, hLB, hB1⟩
 refine hK.out _ _ ?_ (fun hHeld => ?_)
 ·exact ⟨by rw [← hHeld.1]; exact World.cell?_of_block (hB1.block _ (fM hHeld.1)), by rw [← hHeld.2.1]; exact World.cell?_of_block (hB1.block _ (fM hHeld.2.1)), by rw [← hHeld.2.2]; exact World.cell?_of_block (hB1.block _ (fM hHeld.2.2))⟩
 clear hK K
 refine tkS 8 (.slice av L.length cv) rfl hHeld ?_
 refine wpAnyH_done (by kernel_rfl) ?_ _
 unfold NoPanic
 clear hHeld
 go_wp2
 go_ret
 exact ⟨av, cv, rfl, dC hown (unhide HB).size, hLB, (unhide HB).trans (cJ hB1 (unhide HB).size)⟩) : G := h
theorem sh5 {G : Prop} (h : G := by
 have hA := z5a hTab hn hc hc2 w q ty sh N x o hb hT hSg
 cases hR : (aB (fs.take n)).fit (sft o x) with
 | false =>
  rw [hR] at hA
  have HL : Hid (tellL dom (aB (fs.take n)) (sft o x) = []) := by
   show _ = _
   unfold tellL; rw [hR]; rfl
  rw [unhide HL]
  clear hR hTab hb hT hSg hl
  go_enter z5b, z5c
  go_wp2_with ((first | go_at_call 238 | go_at_call 241 | go_at_call 245 | go_at_call 248 | go_at_call 250 | go_at_call 252 | go_at_call 254 | go_at_call 256 | go_at_call 258 | go_at_call 260); refine hA.mono ?_; rintro e w1 ⟨rfl, hB⟩)
  go_ret
  exact cZ.nil hB
 | true =>
  rw [hR] at hA
  have HL : Hid (tellL dom (aB (fs.take n)) (sft o x) = hdL dom ++ (aB (fs.take n)).enc (sft o x)) := by
   show _ = _
   unfold tellL; rw [hR]; rfl
  rw [unhide HL]
  clear hR
  have hP := fun W base p lv l => z5e hTab hn hc hc2 W base p lv l q ty sh N x o
  have HB := aA hb
  have HT := aA hT
  have HS := aA hSg
  have HH := aA hl
  clear hTab hb hT hSg hl
  go_enter z5b, z5c
  go_wp2_with fail
  refine hA.mono ?_
  rintro e w1 ⟨rfl, hB1⟩
  clear hA
  have B1 := aA hB1
  clear hB1
  go_wp2_with fail
  refine (newWriter_any w1).mono ?_
  rintro e w2 ⟨rfl, hW2, hB2, -⟩
  have W2 := aA hW2
  have B2 := aA hB2
  clear hW2 hB2
  go_wp2_with fail
  refine (head_any dom w2).mono ?_
  rintro e w3 ⟨s, rfl, hs3, hsl, hB3, -⟩
  have hsn : s.n ≤ 4 := by rw [← hs3.len, hsl]; unfold hdL; split <;> simp
  have hF := sA w1.heap.size w1.heap.size (.slice none 0 0) [] 0 s w3 ((unhide W2).later hB3) hs3 (by simp; omega) (Nat.le_trans (unhide B2).size hB3.size)
  rw [hsl] at hF
  have hsv : s.v = .slice s.a s.n s.c := rfl
  rw [hsv] at hF ⊢
  have B3 := aA hB3
  clear hsl hsn hsv hs3 hB3
  go_wp2_with fail
  refine hF.mono ?_
  rintro e w4 ⟨rfl, lv4, hW4⟩
  clear hF
  have hst4 : Wst w1.heap.size w1.heap.size (.slice none 0 0) (hdL dom) 0 w3 w4 lv4 := by
   have : bZ (hdL dom) ([], 0) = (hdL dom, 0) := by simp [bZ]
   rw [this] at hW4
   exact hW4
  clear hW4
  have hE := tell_mid (unhide HB) (unhide HT) (unhide B1) (unhide W2) (unhide B2) (unhide B3) hst4
  have hU := hP w4 w1.heap.size w1.heap.size lv4 (hdL dom) hE.1 hst4.wtr hE.2.1 hE.2.2.1 hE.2.2.2.1 hE.2.2.2.2 (unhide HS) (by have := unhide HH; have := mE dom; omega)
  have S4 := aA hst4
  clear hP hst4 hE
  go_wp2_with fail
  refine hU.mono ?_
  rintro e w5 ⟨rfl, lv5, hW5⟩
  clear hU
  simp only at hW5
  have hD := wDone_any w1.heap.size w1.heap.size lv5 _ 0 w5 hW5.wtr (by have := unhide HH; have := mE dom; rw [List.length_append]; omega)
  have HW : Hid (Below w.heap.size w w5 ∧ IsB (hdL dom ++ (aB (fs.take n)).enc (sft o x))) := aA ⟨tell_bel (unhide B1) (unhide B2) (unhide B3) (unhide S4) hW5, hW5.wtr.isB⟩
  clear hW5 S4
  have hw0 : wOut (hdL dom ++ (aB (fs.take n)).enc (sft o x)) 0 = hdL dom ++ (aB (fs.take n)).enc (sft o x) := by simp [wOut]
  rw [hw0] at hD
  clear hw0
  go_wp2_with fail
  refine hD.mono ?_
  rintro e w6 ⟨hB6, v, rfl, hown⟩
  obtain ⟨av, cv, rfl⟩ := bK hown
  have HE := aA (cZ.of (unhide HW).1 hB6 hown (unhide HW).2)
  clear hD hown HW hB6
  generalize (hdL dom ++ (aB (fs.take n)).enc (sft o x)).length = m at HE ⊢
  go_wp2
  go_ret
  exact unhide HE) : G := h
theorem sh6 {G : Prop} (h : G := by
 have z6aq := z6aQ
 have z6bq := z6bQ
 have b2 : Below w.heap.size w ((w.alloc (.cells #[.int .i64 dom, .int .i64 sgn, .slice (some ⟨g, 0, none⟩) n c] z6a)).alloc (.cells (cl sT nT x).toArray z6b)) := bV (aJ w _) _ (by simp)
 have A1 := (Arr.new w z6a [.int .i64 dom, .int .i64 sgn, .slice (some ⟨g, 0, none⟩) n c]).alloc (.cells (cl sT nT x).toArray z6b)
 have A2 : Arr ((w.alloc (.cells #[.int .i64 dom, .int .i64 sgn, .slice (some ⟨g, 0, none⟩) n c] z6a)).alloc (.cells (cl sT nT x).toArray z6b)) (w.heap.size + 1) z6b (cl sT nT x) := by
  have := Arr.new (w.alloc (.cells #[.int .i64 dom, .int .i64 sgn, .slice (some ⟨g, 0, none⟩) n c] z6a)) z6b (cl sT nT x)
  have s1 : (w.alloc (.cells #[.int .i64 dom, .int .i64 sgn, .slice (some ⟨g, 0, none⟩) n c] z6a)).heap.size = w.heap.size + 1 := by simp
  rw [s1] at this
  exact this
 have hT2 : Trm _ _ _ _ _ _ := ⟨A2, hok, by decide, by decide, by decide⟩
 have hU := z6c hTab hn hc hc2 _ dom (w.heap.size + 1) z6b sT nT x 0 (hb.below b2) hT2 ⟨by (have := z6aQ; have := z6bQ; omega), fun j hj => by rw [Nat.zero_add]⟩ (by rw [bF]; exact hl)
 simp only [bF] at hU
 have c0 : ((w.alloc (.cells #[.int .i64 dom, .int .i64 sgn, .slice (some ⟨g, 0, none⟩) n c] z6a)).alloc (.cells (cl sT nT x).toArray z6b)).cell? ⟨w.heap.size, 0, none⟩ = some (.int .i64 dom) := A1.cell 0
 have c2 : ((w.alloc (.cells #[.int .i64 dom, .int .i64 sgn, .slice (some ⟨g, 0, none⟩) n c] z6a)).alloc (.cells (cl sT nT x).toArray z6b)).cell? ⟨w.heap.size, 2, none⟩ = some (.slice (some ⟨g, 0, none⟩) n c) := A1.cell 2
 have HB := aA b2
 clear hTab hb hok hl A1 A2 hT2 b2 hn hc hc2
 generalize tellL dom (aB (fs.take n)) x = L at *
 generalize cl sT nT x = X at *
 by_cases hL : L = []
 ·subst hL
  go_enter z6d, z6e
  go_wp2_with fail
  generalize ((w.alloc (.cells #[.int .i64 dom, .int .i64 sgn, .slice (some ⟨g, 0, none⟩) n c] z6a)).alloc (.cells X.toArray z6b)) = W at *
  refine hU.mono ?_
  rintro e w1 ⟨av, cv, rfl, -, hLB, hB1⟩
  have HE : Hid (dG [] w (.returned (.tuple #[.slice none 0 0, .int .i64 2])) w1) := aA ⟨none, 0, rfl, ⟨rfl, .inl ⟨rfl, rfl⟩⟩, hLB, (unhide HB).trans (hB1.mono (unhide HB).size)⟩
  clear hU hLB hB1 c0 c2
  rw [List.length_nil]
  go_wp2
  go_ret2
  exact unhide HE
 ·have hlen : 0 < L.length := List.length_pos_iff.2 hL
  go_enter z6d, z6e
  go_wp2_with fail
  generalize ((w.alloc (.cells #[.int .i64 dom, .int .i64 sgn, .slice (some ⟨g, 0, none⟩) n c] z6a)).alloc (.cells X.toArray z6b)) = W at *
  refine hU.mono ?_
  rintro e w1 ⟨av, cv, rfl, hown, hLB, hB1⟩
  have hlt : L.length ≤ 9223372036854775807 := by
   rcases hown.2 with ⟨-, h⟩ | ⟨g, cap, cur, -, -, -, h1, h2, -⟩
   ·(have := z6aQ; have := z6bQ; omega)
   ·unfold maxLen at h2; (have := z6aQ; have := z6bQ; omega)
  have HE : Hid (dG L w (.returned (.tuple #[.slice av L.length cv, .int .i64 0])) w1) := aA ⟨av, cv, by rw [if_neg hL], dC hown (unhide HB).size, hLB, (unhide HB).trans (hB1.mono (unhide HB).size)⟩
  clear hU hLB hB1 c0 c2 hown hL
  generalize L.length = m at HE hlen hlt ⊢
  go_wp2
  go_ret2
  exact unhide HE) : G := h
theorem sh7 {G : Prop} (h : G := by
 have z7cq := z7cQ
 have hplt := hW.arr.lt
 have hvl := hTab.len
 go_enter z7a, z7b
 go_wp2
 go_loopw [10] (fun s10 wr => ∃ (k : Nat) (lv' : Value), s10 = .int .i64 k ∧ k ≤ n ∧ Wst base p lv (l ++ (aB (fs.take k)).enc (sft o x)) 0 w wr lv') (fun j _ => n - (intOf j).toNat)
 case atStart => exact ⟨0, lv, rfl, Nat.zero_le _, by simpa [aB] using Wst.refl hW⟩
 case round =>
  obtain ⟨k, lv', rfl, hk, hWk⟩ := hrel
  by_cases hlt : k < n
  ·have hkb : Kept S w0 wr := hb.buts hWk.but (fun i hi hs => by rcases hs with rfl | h1; exact hp hi; exact hlv i h1 hi)
   obtain ⟨f, v, hf, htk, hF, c0, c1, c2⟩ := hTab.at hkb (Nat.lt_of_lt_of_le hlt hn)
   obtain ⟨k1, a1, k2, a2, k3, a3⟩ := v
   obtain ⟨eg, hP⟩ := dE.open hF.put
   simp only at c0 c1 c2 eg hP
   have hTr : Trm wr q ty sh N x := hT.keep hWk.but (fun hs => by rcases hs with h1 | h1; exact (hT.ne_w hW).1 h1; exact (hT.ne_w hW).2 h1)
   have hlv' : ∀ k, lv'.ownBlock = some k → ¬ S k := fun i hi hs => by
    rcases hWk.at_ i hi with h1 | h1
    ·exact hlv i h1 hs
    ·have := hb.lt i hs; have := hb.size; (have := z7cQ; omega)
   have hlen : (l ++ (aB (fs.take k)).enc (sft o x)).length + (f.enc (sft o x)).length ≤ 1000000 := by
    have h1 := fsAll_take_le (fs.take n) (k + 1) (sft o x)
    rw [List.take_take, Nat.min_eq_left (by (have := z7cQ; omega)), htk, sY, List.length_append] at h1
    rw [List.length_append]; (have := z7cQ; omega)
   have HE : Hid ((aB (fs.take (k + 1))).enc (sft o x) = (aB (fs.take k)).enc (sft o x) ++ f.enc (sft o x)) := by
    show _ = _
    rw [htk, sY]
   have hbr : Below wr.heap.size wr (wr.alloc (.cells #[.func (.func k1) #[] a1, .func (.func k2) #[] a2, .func (.func k3) #[] a3] z7c)) := aJ wr _
   have hC := hP _ base p lv' _ q ty sh N x o (hkb.below hbr) (hWk.wtr.later hbr) hp hlv' (Nat.le_trans hbase (Nat.le_trans hWk.but.size hbr.size)) (hTr.later hbr) hSg hlen
   have HC : Hid (∀ e w', fZ base p lv' (l ++ (aB (fs.take k)).enc (sft o x) ++ f.enc (sft o x), 0) (wr.alloc (.cells #[.func (.func k1) #[] a1, .func (.func k2) #[] a2, .func (.func k3) #[] a3] z7c)) e w' → e = .returned (.tuple #[]) ∧ ∃ lv2, Wst base p lv (l ++ (aB (fs.take (k + 1))).enc (sft o x)) 0 w w' lv2) := by
    rintro e w' ⟨rfl, lv2, h2⟩
    refine ⟨rfl, lv2, hWk.trans hplt ?_⟩
    rw [unhide HE, ← List.append_assoc]
    exact h2.later hbr
   clear hP hF hkb hTr hlv' hlen hbr hTab hb hWk hT hW hSg hf htk HE
   simp only [Enters] at eg
   go_wp2_with (go_at_fn k1; refine hC.mono ?_; intro e w' hF; obtain ⟨rfl, lv2, hW2⟩ := unhide HC e w' hF)
   go_roundw
   case rel => exact ⟨k + 1, lv2, by go_num, by (have := z7cQ; omega), hW2⟩
   case measure => simp [intOf]; (have := z7cQ; omega)
  ·obtain rfl : k = n := by (have := z7cQ; omega)
   clear hTab hb hT hW hSg
   go_wp2
   go_end0
   exact ⟨rfl, lv', hWk⟩) : G := h
theorem sh8 {G : Prop} (h : G := by
 have z8aq := z8aQ
 refine wp_region_lit ?_
 refine wpList_load_mid rfl z8a (.tmp 6) rfl (w.heap.size + 2) 0 rfl Z _ (unhide ST).a2.range z8b rfl (unhide HSZ) ?_
 simp only [Act.put]
 refine wpList_store_row rfl z8a (.tmp 4) (.tmp 26) rfl (w.heap.size + 1) Z.toArray rfl rfl z8a Z.toArray (unhide ST).a1 (unhide HSAZ) rfl (unhide HOCZ) ?_
 refine dO ?_
 go_wp2
 refine bodyPost_ret (bT rfl _ _ (w.heap.size + 1) z8a Z.toArray (0, 0) _ rfl (.int .i64 91) rfl (setRow_heap _ (w.heap.size + 1) _ _ _ _ (unhide ST).a1) z8b rfl (unhide HSAZ)) rfl ?_
 exact sh181) : G := h
theorem sh9 {G : Prop} (h : G := by
 have z9eq := z9eQ
 have z9fq := z9fQ
 have z9gq := z9gQ
 have z9hq := z9hQ
 have z9iq := z9iQ
 have z9jq := z9jQ
 have hmf : ∀ (fn : Fn) (first cap : Array Value) (w : World), (Instr.makeFunc fn first cap).run Tryz.prog w = .ok (.func fn first cap) w := fun _ _ _ _ => rfl
 have hp' := hp
 obtain ⟨k, caps, rfl, -, -⟩ := hp
 have hm' := hm
 obtain ⟨k2, caps2, rfl, -, -⟩ := hm
 have Hp := aA hp'
 have Hm := aA hm'
 clear hp' hm'
 go_enter z9a, z9b
 go_wp2
 refine bodyPost_ret (jT rfl _ _ _ _ _ _ _ (by simp) z9c rfl z9d) rfl ?_
 have b3 : Below w.heap.size w (((w.alloc (.cells #[.func (.func k) #[] caps] z9e)).alloc (.cells #[.int .i64 least] 3)).alloc (.cells #[.func (.func k2) #[] caps2] z9f)) := bV (bV (aJ w _) _ (by simp)) _ (by simp; (have := z9eQ; have := z9fQ; have := z9gQ; have := z9hQ; have := z9iQ; have := z9jQ; omega))
 have P3 := ((Arr.new w z9e [.func (.func k) #[] caps]).alloc (.cells #[.int .i64 least] 3)).alloc (.cells #[.func (.func k2) #[] caps2] z9f)
 have L3 := (Arr.new (w.alloc (.cells #[.func (.func k) #[] caps] z9e)) 3 [.int .i64 least]).alloc (.cells #[.func (.func k2) #[] caps2] z9f)
 have M3 := Arr.new ((w.alloc (.cells #[.func (.func k) #[] caps] z9e)).alloc (.cells #[.int .i64 least] 3)) z9f [.func (.func k2) #[] caps2]
 have s1 : (w.alloc (.cells #[.func (.func k) #[] caps] z9e)).heap.size = w.heap.size + 1 := by simp
 have s2 : ((w.alloc (.cells #[.func (.func k) #[] caps] z9e)).alloc (.cells #[.int .i64 least] 3)).heap.size = w.heap.size + 1 + 1 := by simp
 rw [s1] at L3
 rw [s2] at M3
 generalize ((w.alloc (.cells #[.func (.func k) #[] caps] z9e)).alloc (.cells #[.int .i64 least] 3)).alloc (.cells #[.func (.func k2) #[] caps2] z9f) = w3 at *
 refine ⟨⟨_, _, _, _, _, _⟩, rfl, ?_, bV b3 _ b3.size⟩
 have P4 := P3.alloc (.cells #[.func (.func z9g) #[] #[.pointer (some ⟨w.heap.size, 0, none⟩)], .func (.func z9h) #[] #[.pointer (some ⟨w.heap.size, 0, none⟩)], .func (.func z9i) #[] #[.pointer (some ⟨w.heap.size + 1, 0, none⟩), .pointer (some ⟨w.heap.size, 0, none⟩), .pointer (some ⟨w.heap.size + 1 + 1, 0, none⟩)]] z9j)
 have L4 := L3.alloc (.cells #[.func (.func z9g) #[] #[.pointer (some ⟨w.heap.size, 0, none⟩)], .func (.func z9h) #[] #[.pointer (some ⟨w.heap.size, 0, none⟩)], .func (.func z9i) #[] #[.pointer (some ⟨w.heap.size + 1, 0, none⟩), .pointer (some ⟨w.heap.size, 0, none⟩), .pointer (some ⟨w.heap.size + 1 + 1, 0, none⟩)]] z9j)
 have M4 := M3.alloc (.cells #[.func (.func z9g) #[] #[.pointer (some ⟨w.heap.size, 0, none⟩)], .func (.func z9h) #[] #[.pointer (some ⟨w.heap.size, 0, none⟩)], .func (.func z9i) #[] #[.pointer (some ⟨w.heap.size + 1, 0, none⟩), .pointer (some ⟨w.heap.size, 0, none⟩), .pointer (some ⟨w.heap.size + 1 + 1, 0, none⟩)]] z9j)
 have b4 := bV b3 (.cells #[.func (.func z9g) #[] #[.pointer (some ⟨w.heap.size, 0, none⟩)], .func (.func z9h) #[] #[.pointer (some ⟨w.heap.size, 0, none⟩)], .func (.func z9i) #[] #[.pointer (some ⟨w.heap.size + 1, 0, none⟩), .pointer (some ⟨w.heap.size, 0, none⟩), .pointer (some ⟨w.heap.size + 1 + 1, 0, none⟩)]] z9j) b3.size
 have hp2 := (unhide Hp).new hS b4
 have hm2 := (unhide Hm).new hS b4
 exact ⟨z9k hp2 P4 (New.at (Nat.le_refl _) P4.lt) ha hs, z9l hp2 P4 (New.at (Nat.le_refl _) P4.lt) ha hs, z9m hp2 hm2 P4 L4 M4 (New.at (Nat.le_refl _) P4.lt) (New.at (by (have := z9eQ; have := z9fQ; have := z9gQ; have := z9hQ; have := z9iQ; have := z9jQ; omega)) L4.lt) (New.at (by (have := z9eQ; have := z9fQ; have := z9gQ; have := z9hQ; have := z9iQ; have := z9jQ; omega)) M4.lt) ha hs⟩) : G := h
theorem sh10 {G : Prop} (h : G := by
 have hvl := hTab.len
 go_enter z10a, z10b
 go_wp2
 go_loopw [9] (fun s9 wr => ∃ (k : Nat), s9 = .int .i64 k ∧ k ≤ n ∧ Hid ((aB (fs.take k)).fit (sft o x) = true) ∧ Below w.heap.size w wr) (fun j _ => n - (intOf j).toNat)
 case atStart => exact ⟨0, rfl, Nat.zero_le _, aA (by simp [aB]), Below.refl _ _⟩
 case round =>
  obtain ⟨k, rfl, hk, HK, hB⟩ := hrel
  by_cases hlt : k < n
  ·have hkb : Kept S w0 wr := hb.below hB
   obtain ⟨f, v, hf, htk, hF, c0, c1, c2⟩ := hTab.at hkb (Nat.lt_of_lt_of_le hlt hn)
   obtain ⟨k1, a1, k2, a2, k3, a3⟩ := v
   obtain ⟨eg, hP⟩ := dJ.open hF.fits
   simp only at c0 c1 c2 eg hP
   have hbr : Below wr.heap.size wr (wr.alloc (.cells #[.func (.func k1) #[] a1, .func (.func k2) #[] a2, .func (.func k3) #[] a3] z10c)) := aJ wr _
   have hC := hP _ q ty sh N x o (hkb.below hbr) ((hT.later hB).later hbr) hSg
   have HB : Hid (∀ w', Below (wr.alloc (.cells #[.func (.func k1) #[] a1, .func (.func k2) #[] a2, .func (.func k3) #[] a3] z10c)).heap.size (wr.alloc (.cells #[.func (.func k1) #[] a1, .func (.func k2) #[] a2, .func (.func k3) #[] a3] z10c)) w' → Below w.heap.size w w') :=
    fun w' h2 => hB.trans ((hbr.trans (h2.mono hbr.size)).mono hB.size)
   have H1 : Hid ((aB (fs.take (k + 1))).fit (sft o x) = f.fit (sft o x)) := by
    show _ = _
    rw [htk, fsAll_fit, unhide HK, Bool.true_and]
   have H0 : Hid (f.fit (sft o x) = false → (aB (fs.take n)).fit (sft o x) = false) := by
    intro h0
    refine uK (fs.take n) (k + 1) _ ?_
    rw [List.take_take, Nat.min_eq_left (by omega), unhide H1]; exact h0
   clear hP hF hkb hbr hTab hb hT hSg hf htk hB
   simp only [Enters] at eg
   cases hR : f.fit (sft o x) with
   | true =>
    rw [hR] at hC
    have H2 := aA ((unhide H1).trans hR)
    clear hR H1 H0
    go_wp2_with (go_at_fn k3; refine hC.mono ?_; rintro e w' ⟨rfl, hF⟩; have HF := aA (unhide HB w' hF); clear hF)
    go_roundw
    case rel => exact ⟨k + 1, by go_num, by omega, H2, unhide HF⟩
    case measure => simp [intOf]; omega
   | false =>
    rw [hR] at hC
    have H2 := aA (unhide H0 hR)
    clear hR H1 H0
    go_wp2_with (go_at_fn k3; refine hC.mono ?_; rintro e w' ⟨rfl, hF⟩; have HF := aA (unhide HB w' hF); clear hF)
    go_ret
    exact ⟨by rw [unhide H2]; rfl, unhide HF⟩
  ·obtain rfl : k = n := by omega
   clear hTab hb hT hSg
   go_wp2
   go_ret
   exact ⟨by rw [unhide HK]; rfl, hB⟩) : G := h
theorem sh11 {G : Prop} (h : G := by
 have z11cq := z11cQ
 have hvl := hTab.len
 go_enter z11a, z11b
 go_wp2
 go_loopw [10] (fun s10 wr => ∃ (k : Nat) (t : Sl) (fl' : Int) (x' : Nat → Int), s10 = .int .i64 k ∧ k ≤ n ∧ GRes (aB (fs.take k)) p q o s fl ty sh N x w wr t fl' x') (fun j _ => n - (intOf j).toNat)
 case atStart => exact ⟨0, s, fl, x, rfl, Nat.zero_le _, by simpa using GRes.refl hR hT⟩
 case round =>
  obtain ⟨k, t, fl', x', rfl, hk, hG⟩ := hrel
  by_cases hlt : k < n
  ·have hkb : Kept S w0 wr := hb.buts hG.but (fun i hi hs => by rcases hs with rfl | rfl; exact hp hi; exact hq hi)
   obtain ⟨f, v, hf, htk, hF, c0, c1, c2⟩ := hTab.at hkb (Nat.lt_of_lt_of_le hlt hn)
   obtain ⟨k1, a1, k2, a2, k3, a3⟩ := v
   obtain ⟨eg, hP⟩ := dF.open hF.get
   simp only at c0 c1 c2 eg hP
   have hbr : Below wr.heap.size wr (wr.alloc (.cells #[.func (.func k1) #[] a1, .func (.func k2) #[] a2, .func (.func k3) #[] a3] z11c)) := aJ wr _
   have hC := hP _ p t fl' q ty sh N x' o (hkb.below hbr) (hG.rdr.later hbr) hp hq (hG.trm.later hbr) hSg (fun y hy e => by obtain ⟨z, hz, e2⟩ := hG.same y hy; exact hsq z hz (e2.trans e)) (Nat.le_trans hG.le hsn)
   have HC : Hid (∀ w' t2 fl2 x2, GRes f p q o t fl' ty sh N x' (wr.alloc (.cells #[.func (.func k1) #[] a1, .func (.func k2) #[] a2, .func (.func k3) #[] a3] z11c)) w' t2 fl2 x2 → GRes (aB (fs.take (k + 1))) p q o s fl ty sh N x w w' t2 fl2 x2) := by
    intro w' t2 fl2 x2 h2
    rw [htk]
    exact hG.step (h2.later hbr)
   clear hP hF hkb hbr hTab hb hG hT hR hSg hf htk
   simp only [Enters] at eg
   go_wp2_with (go_at_fn k2; refine hC.mono ?_; rintro e w' ⟨rfl, t2, fl2, x2, hF⟩; have HF := aA (unhide HC w' t2 fl2 x2 hF); clear hF)
   go_roundw
   case rel => exact ⟨k + 1, t2, fl2, x2, by go_num, by (have := z11cQ; omega), unhide HF⟩
   case measure => simp [intOf]; (have := z11cQ; omega)
  ·obtain rfl : k = n := by (have := z11cQ; omega)
   clear hTab hb hT hR hSg
   go_wp2
   go_end0
   exact ⟨rfl, t, fl', x', hG⟩) : G := h
theorem sh12 {G : Prop} (h : G := by
 have z12aq := z12aQ
 refine wp_region_noPanic ?_
 refine wp_region_held_drew (S := fun w' => w'.rangeAt q 0 X ∧ w'.rangeAt q z12a (U8 G0)) (by kernel_rfl) ⟨rW, rg0⟩ (fun hHeld => ?_)
 have hKeep : ∀ (a c : World), c.heap[q]? = a.heap[q]? → (a.rangeAt q 0 X ∧ a.rangeAt q z12a (U8 G0)) → (c.rangeAt q 0 X ∧ c.rangeAt q z12a (U8 G0)) := fun a c h hh => ⟨fun j v hj => (World.cell?_of_block h).trans (hh.1 j v hj), fun j v hj => (World.cell?_of_block h).trans (hh.2 j v hj)⟩
 refine tkY 0 (.agg #[.slice none 0 0, .slice none 0 0]) rfl (dB (by rfl) _ _ rfl _ (by kernel_rfl)) hHeld ?_
 refine tkY 1 _ rfl (yieldsIf_load_mid (by rfl) _ _ rfl _ _ rfl _ _ (fun _ h => h.1) z12b rfl hZW) hHeld ?_
 refine tkS 3 (.pointer (some ⟨q, z12a, none⟩)) rfl hHeld ?_
 refine tkY 4 _ rfl (yieldsIf_load_mid (by rfl) _ _ rfl _ _ rfl _ _ (fun _ h => h.2) Tryz.underlying30 rfl hZg0) hHeld ?_
 refine tkS 6 (.int .i64 k) rfl hHeld ?_
 have hq0 : q < W.heap.size := by (have := z12aQ; omega)
 clear rW rg0 hZW hZg0
 refine rdY 2 rfl fun K hK => ?_
 go_simp
 refine (hS0 W.drew).mono ?_
 rintro e y0 ⟨s0, rfl, hs0, hsl0, hsf0, hBs0⟩
 have hsv0 : s0.v = .slice s0.a s0.n s0.c := rfl
 have bY0 : Below W.heap.size W y0 := cJ hBs0 (Nat.le_refl _)
 have RS0 := RSads.nil y0 W.heap.size
 have o10 : s0.Off (Value.slice none 0 0).ownBlock := fun _ _ _ e => by simp [Value.ownBlock] at e
 have o20 := o10
 have hsb0 : ∀ y, s0.a = some y → W.heap.size ≤ y.block := hsf0
 refine hK.out _ _ (hKeep W.drew y0 (hBs0.block q (by exact hq0)) hHeld) (fun hHeld => ?_)
 clear hK K hS0
 have hC := gR y0 W.heap.size (.slice none 0 0) (.slice none 0 0) [] [] s0 G0 RS0 (by simp) hs0 o10 o20 hsb0 hG0 hB0 bY0.size
 rw [hsl0, hsv0] at hC
 refine rdY 5 rfl fun K hK => ?_
 go_simp
 refine hC.mono ?_
 rintro e y1 ⟨x0, z0, rfl, RS1, hBw0, -⟩
 have bY1 : Below W.heap.size W y1 := bY0.trans hBw0
 refine hK.out _ _ (hKeep y0 y1 (hBw0.block q hq0) hHeld) (fun hHeld => ?_)
 clear hK K hC
 have hARF : Arr y1 w.heap.size 234 [.slice none 0 0, .slice none 0 0] := (bY1.block _ (by (have := z12aQ; omega))).trans hAR
 have b9 : But w.heap.size y1 (y1.setRow w.heap.size #[x0, z0]) := (But.refl _ _).setRow _
 have RSF := RS1.but b9 (by (have := z12aQ; omega))
 obtain ⟨ax, cx, hx1⟩ := bK RS1.l1
 obtain ⟨az, cz, hz1⟩ := bK RS1.l2
 have bYF := (hbW.trans ((bY1.mono hbW.size).trans (fF b9 (by have := hbW.size; have := bY1.size; (have := z12aQ; omega)) (Nat.le_refl _))))
 have HPO : Hid (gA EE k w (.returned (.tuple #[.agg #[x0, z0], .int .i64 k])) (y1.setRow w.heap.size #[x0, z0])) := aA ⟨_, _, ([] ++ [s0]), rfl, by rw [unhide HEE]; simpa using RSF.mono hbW.size, bYF⟩
 have hoc9 : (#[x0, z0] : Array Value).all (·.oneCell') = true := by rw [hx1, hz1]; simp [Value.oneCell']
 clear hx1 hz1
 refine rdY 7 rfl fun K hK => ?_
 refine eH rfl 234 (.tmp 4) (.tmp z12c) rfl w.heap.size #[x0, z0] rfl rfl 234 #[.slice none 0 0, .slice none 0 0] hARF (by kernel_rfl) rfl hoc9 ?_
 simp only [Act.put]
 refine hK.out _ _ (hKeep y1 _ (b9.block q (by have := bY1.size; (have := z12aQ; omega)) (by (have := z12aQ; omega))) hHeld) (fun hHeld => ?_)
 clear hK K
 refine wpAnyH_take (i := 8) (v := (.int .i64 k)) rfl (by kernel_rfl) (by kernel_rfl) (by kernel_rfl) (fun _ _ _ h => h) (Or.inl ⟨by rfl, fun w hSw => by go_simp⟩) hHeld ?_
 exact sh168) : G := h
theorem sh13 {G : Prop} (h : G := by
 rw [hfl]
 clear hfl
 have hU := hSay _ _ _ _ hTab hB1.size
 refine hK.out _ _ (fun j v hj => (World.cell?_of_block (hB1.block _ hlt)).trans (hHeld j v hj)) (fun hHeld => ?_)
 have hlt1 : w.heap.size < w1.heap.size := Nat.lt_of_lt_of_le hlt hB1.size
 clear hK K hTab hC hSay
 refine rdY 2 rfl fun K hK => ?_
 go_simp
 refine hU.mono ?_
 rintro e w2 ⟨av, cv, rfl, hown, hLB, hB2⟩
 refine hK.out _ _ (fun j v hj => (World.cell?_of_block (hB2.block _ hlt1)).trans (hHeld j v hj)) (fun hHeld => ?_)
 clear hK K hU
 have hb1 := unhide HB
 have HE : Hid (dG L w (.returned (.tuple #[.slice av L.length cv, .int .i64 (if L = [] then 2 else 0)])) w2) := aA ⟨av, cv, rfl, dC hown (Nat.le_trans hb1.size hB1.size), hLB, (hb1.trans (cJ hB1 hb1.size)).trans (hB2.mono (Nat.le_trans hb1.size hB1.size))⟩
 clear hown hLB hb1 hB1 hB2 hlt hlt1
 generalize (if L = [] then (2 : Int) else 0) = ee at HE ⊢
 refine tkS 3 (.slice av L.length cv) rfl hHeld ?_
 refine tkS 4 (.int .i64 ee) rfl hHeld ?_
 refine tkS 5 (.slice av L.length cv) rfl hHeld ?_
 refine tkS 6 (.int .i64 ee) rfl hHeld ?_
 refine wpAnyH_done (by kernel_rfl) ?_ _
 unfold NoPanic
 clear hHeld
 go_wp2
 go_ret2
 exact unhide HE) : G := h
theorem sh14 {G : Prop} (h : G := by
 rw [hfl]
 have hB : Below w.heap.size w w1 := b1.trans (hB1.mono b1.size)
 have hU := hDec _ _ _ _ hTab hB1.size hB
 have A1 := A1.later hB1
 have HA := aA A1
 have HB := aA hB
 clear hTab hDec hB1 hB A1 b1 hfl
 go_wp2_with fail
 refine hU.mono ?_
 intro e w2 hP
 obtain ⟨M, k, rfl, hB2, HML, HOC, HE⟩ := unhide HM _ _ _ hP
 have HA := aA ((unhide HA).later hB2)
 have HB := aA ((unhide HB).trans (hB2.mono (unhide HB).size))
 have HSA : Hid ((Tryz.prog.info? z14a).map (·.size) = some M.toArray.size) := by
  show _ = _
  rw [List.size_toArray, unhide HML]; exact z14b
 have HLL : Hid (Z.toArray.size = M.toArray.size) := by
  show _ = _
  rw [List.size_toArray, List.size_toArray, unhide HML, unhide HZL]
 clear hU hP hB2 HM
 simp only []
 go_at_K
 rename_i hK
 refine hK _ _ ?_
 clear hK
 refine stY2 ?_
 refine wpList_store_row rfl z14a (.tmp 2) (.tmp 7) rfl w.heap.size M.toArray rfl rfl z14a Z.toArray (unhide HA) (unhide HSA) (unhide HLL) (all_oneCell_toArray (unhide HOC)) ?_
 refine dO ?_
 go_wp2
 refine bodyPost_ret (bT rfl _ _ w.heap.size z14a M.toArray (0, 0) _ rfl (.int .i64 k) rfl (setRow_heap _ w.heap.size _ _ _ _ (unhide HA)) z14c rfl (unhide HSA)) rfl ?_
 exact unhide HE _ (bJ (unhide HB) (Nat.le_refl _) _)) : G := h
theorem sh15 {G : Prop} (h : G := by
 have z15cq := z15cQ
 generalize cl z15a z15b x = X at *
 generalize run x z15c 64 = G at *
 clear hL
 go_enter z15d, z15e
 go_wp2
 generalize w.alloc (.cells X.toArray z15f) = W at *
 have hC := hSay W.drew
 refine wp_region_noPanic ?_
 refine wp_region_held_drew (S := fun w' => w'.rangeAt w.heap.size 0 X ∧ w'.rangeAt w.heap.size z15c (U8 G)) (by kernel_rfl) ⟨r1, r2⟩ (fun hHeld => ?_)
 refine tkY 0 _ rfl (yieldsIf_load_mid (by rfl) _ _ rfl _ _ rfl _ _ (fun _ h => h.1) z15g rfl hZ) hHeld ?_
 refine tkS 2 (.pointer (some ⟨w.heap.size, z15c, none⟩)) rfl hHeld ?_
 refine tkY 3 _ rfl (yieldsIf_load_mid (by rfl) _ _ rfl _ _ rfl _ _ (fun _ h => h.2) Tryz.underlying30 rfl hZG) hHeld ?_
 refine rdY 1 rfl fun K hK => ?_
 go_simp
 refine hC.mono ?_
 intro e w1 hT
 obtain ⟨av, cv, rfl, hown, hB1⟩ := hT.ownB
 refine hK.out _ _ ⟨fun j v hj => (World.cell?_of_block (hB1.block _ hlt)).trans (hHeld.1 j v hj), fun j v hj => (World.cell?_of_block (hB1.block _ hlt)).trans (hHeld.2 j v hj)⟩ (fun hHeld => ?_)
 have hlt1 : w.heap.size < w1.heap.size := Nat.lt_of_lt_of_le hlt hB1.size
 clear hK K hC hT hSay
 have hbd := jV hown G hGl
 have hrun := jU w1 ⟨.slice av L.length cv, L, G⟩ hGl
 have HP : Hid (jC [(L, G)] w (.returned (.slice (some ⟨w1.heap.size, 0, none⟩) 1 1)) (w1.alloc (.cells (Prt.cells ⟨.slice av L.length cv, L, G⟩).toArray 232))) := aA ⟨_, [⟨.slice av L.length cv, L, G⟩], rfl, (Prts.one (p := ⟨.slice av L.length cv, L, G⟩) hown hB1.size hGl hGB).mono b1.size, rfl, b1.trans ((cJ (hB1.alloc hB1.size _) (Nat.le_refl _)).mono b1.size)⟩
 clear hown hB1
 generalize hCC : (Prt.cells ⟨.slice av L.length cv, L, G⟩).toArray = C at *
 clear hCC
 generalize L.length = m at *
 refine tkY 4 (.agg C) rfl (dB (by rfl) _ _ rfl _ (by simpa [Act.eval] using hbd)) hHeld ?_
 refine rdY 5 rfl fun K hK => ?_
 refine lY rfl _ _ _ rfl _ _ (by simpa [Act.eval] using hrun) ?_
 simp only [Act.put]
 have hblk : ∀ k, k < w1.heap.size → (w1.alloc (.cells C 232)).heap[k]? = w1.heap[k]? := (aJ w1 (.cells C 232)).block
 refine hK.out _ _ ⟨fun j v hj => (World.cell?_of_block (hblk _ hlt1)).trans (hHeld.1 j v hj), fun j v hj => (World.cell?_of_block (hblk _ hlt1)).trans (hHeld.2 j v hj)⟩ (fun hHeld => ?_)
 clear hK K hrun hbd
 refine tkS 6 (.slice (some ⟨w1.heap.size, 0, none⟩) 1 1) rfl hHeld ?_
 refine wpAnyH_done (by kernel_rfl) ?_ _
 unfold NoPanic
 clear hHeld
 go_wp2
 go_ret
 exact unhide HP) : G := h
theorem sh16 {G : Prop} (h : G := by
 obtain ⟨k, caps, rfl, eg, hp⟩ := hp
 obtain ⟨k2, caps2, rfl, eg2, hm⟩ := hm
 refine ⟨_, _, rfl, enters_of z16a (by kernel_rfl) rfl, ?_⟩
 intro w q ty sh N x o hb hT hSg
 have cb : w.cell? ⟨bx, 0, none⟩ = some (.func (.func k) #[] caps) := by simpa using (hb.arr hA hbx).cell 0
 have cl : w.cell? ⟨bl, 0, none⟩ = some (.int .i64 least) := by simpa using (hb.arr hL hbl).cell 0
 have cm : w.cell? ⟨bm, 0, none⟩ = some (.func (.func k2) #[] caps2) := by simpa using (hb.arr hM hbm).cell 0
 have ca : w.cell? ⟨q, o + a, none⟩ = some (.int .i64 (sft o x a)) := by rw [hSg.cell hT a ha, hs]; rfl
 have hC := fun n => hp (w.drewN n) q o (hb.drewN n)
 have hC2 := fun n => hm (w.drewN n) q ty sh N x o (hb.drewN n) (hT.drewN n) hSg
 have HP : Hid ((aO a least mo).fit (sft o x) = (decide (least ≤ sft o x a) && decide (sft o x a ≤ mo (sft o x)))) := aA rfl
 generalize (aO a least mo).fit (sft o x) = R at *
 generalize mo (sft o x) = m at *
 generalize sft o x a = y at *
 have hK := fun n => fL (Below.refl w.heap.size w) n
 clear hp hm hSg hb hT hA hL hM hbx hbl hbm
 simp only [Enters] at eg eg2
 by_cases h1 : least ≤ y
 ·rw [decide_eq_true h1, Bool.true_and] at HP
  go_enter z16a, z16b
  go_wp2
  go_quiet (first
   | (go_at_fn k; exact Calls.quiet_of_same (hC _))
   | (go_at_fn k2; exact Calls.quiet_of_same (hC2 _)))
  go_wp2
  go_ret
  exact ⟨by rw [unhide HP]; rfl, hK _⟩
 ·have hd : decide (least ≤ y) = false := decide_eq_false h1
  have HR : Hid (R = false) := by show R = false; rw [unhide HP, hd]; rfl
  clear h1 HP
  go_enter z16a, z16b
  go_wp2
  go_quiet (first
   | (go_at_fn k; exact Calls.quiet_of_same (hC _))
   | (go_at_fn k2; exact Calls.quiet_of_same (hC2 _)))
  go_wp2
  go_ret
  exact ⟨by rw [unhide HR]; rfl, hK _⟩) : G := h
theorem sh17 {G : Prop} (h : G := by
 have z17cq := z17cQ
 have z17eq := z17eQ
 obtain ⟨Z, it, hZ, hZl, hit, hz, hzv⟩ := z17a
 have hzb := z17b
 rw [← hZ] at hzb
 have A0 := Arr.new w z17c Z
 have b0 : Below w.heap.size w (w.alloc (.cells Z.toArray z17c)) := aJ w _
 have hlt0 := A0.lt
 have hsa : (Tryz.prog.info? z17c).map (·.size) = some Z.toArray.size := by rw [List.size_toArray, hZl]; exact z17d
 have hoc : Z.toArray.all (·.oneCell') = true := by rw [hZ]; exact all_oneCell_toArray (cK _ _ _)
 have HSAZ := aA hsa
 have HOCZ := aA hoc
 have HZE := aA hZ
 have HZL := aA hZl
 have HZB := aA hzb
 have HBO := aA hb
 have HA0 := aA A0
 have HB0 := aA b0
 have HM := aA hm
 have HEND0 : Hid (∀ (k : Int) W, decL z17e (aB z17f) b.l = (fun _ => 0, k) → Below w.heap.size w W → bU z17e (aB z17f) z17g 163 b.l w (.returned (.tuple #[.agg Z.toArray, .int .i64 k])) (W.setRow w.heap.size Z.toArray)) := aA fun k W hk hW => bU.of hk hZ (fun i _ => iL _) (bJ hW (Nat.le_refl _) _)
 clear A0 hsa hoc hit hz hzb hZ hZl hm
 by_cases h0 : (spl b.l).2.2 = 0
 ·by_cases h1 : (spl b.l).1 = z17e
  ·have hF := oE b z17e _ (hb.later b0) h0 h1
   have HX := aA (fun (x : Nat → Int) (r : List Int) (f : Int) (h : Grd ((aB z17f).get (fun _ => 0) (spl b.l).2.1) x r f) => pN h0 h1 h)
   have HDR := aA (spl_drop h0)
   clear hb b0 h0 h1
   have hbv : b.v = .slice b.a b.n b.c := rfl
   rw [hbv] at hF ⊢
   clear hbv
   go_enter z17h, z17i
   go_wp2_with fail
   generalize hW0 : (w.alloc (.cells Z.toArray z17c)) = W0 at *
   clear hW0
   refine hF.mono ?_
   rintro e w1 ⟨p, rfl, hp, hI, hB1⟩
   clear hF
   have hA1 := (unhide HA0).later hB1
   have hb1 := (unhide HB0).trans (hB1.mono (unhide HB0).size)
   go_upto_region 4 with fail
   refine eI ?_
   refine wpList_plain rfl fun K1 hK1 => ?_
   go_simp
   refine (oZ p b 4 w1 hI (unhide HM)).mono ?_
   rintro e w2 ⟨hB2, y, t2, f2, rfl, hyo, hy0, hI2, hG2⟩
   refine hK1 _ _ ?_
   clear hK1 K1
   have hyo2 : ∀ i, i < 163 → (z17g i).ok (y i) := fun i hi => by
    by_cases h9 : i < 99
    ·have := hyo i h9; unfold z17g; rw [if_pos h9]; exact this
    ·rw [hy0 i (by (have := z17cQ; have := z17eQ; omega))]; exact iL _
   have hbt := z17j y hy0
   have RS0 : Hid (RdS w z17c z17g 163 w2.heap.size p b Z ((aB aF).get (fun _ => 0) (b.l.drop 4)) y ((w2.alloc (.cells Z.toArray z17c)).setRow w2.heap.size (cl z17g 163 y).toArray)) := aA (RdS.first hA1 hb1 (by have := (unhide HB0).size; (have := z17cQ; have := z17eQ; omega)) hB2 hI2 hG2 hyo2 (unhide HBO) (unhide HM) (unhide HZL) (by decide) (by decide) (by decide))
   have HP : Hid (w.heap.size < p) := aA (by have := (unhide HB0).size; (have := z17cQ; have := z17eQ; omega))
   have HS0 : Hid (Z.toArray.size = (cl z17g 163 y).toArray.size) := aA (by rw [List.size_toArray, List.size_toArray, aC, unhide HZL])
   have HI0 : Hid ((Tryz.prog.info? z17c).map (·.size) = some (cl z17g 163 y).toArray.size) := aA (by rw [List.size_toArray, aC]; exact z17d)
   have HO0 : Hid ((cl z17g 163 y).toArray.all (·.oneCell') = true) := aA (all_oneCell_toArray (cK _ _ _))
   have HA2 := aA (Arr.new w2 z17c Z)
   clear hA1 hb1 hB1 hp hI hB2 hyo hyo2 hy0 hI2 hG2 HA0 HB0
   generalize hXC : cl aD 99 y = XC at *
   clear hXC
   generalize hC0 : cl z17g 163 y = C0 at *
   clear hC0
   refine eL rfl z17c _ rfl C0.toArray (by simpa [Act.eval] using hbt) ?_
   simp only [Act.put]
   clear hbt
   refine cV ?_
   generalize hW2 : w2.alloc (.cells Z.toArray z17c) = W2 at *
   clear hW2
   refine wpList_store_row rfl z17c (.tmp 6) (.tmp 18) rfl w2.heap.size C0.toArray rfl rfl z17c Z.toArray (unhide HA2) (unhide HI0) (unhide HS0) (unhide HO0) ?_
   refine wpList_nil ?_
   simp only [Act.put]
   generalize W2.setRow w2.heap.size C0.toArray = U0 at *
   generalize w2.heap.size = q at *
   clear HA2 HI0 HS0 HO0
   go_wp2_with fail
   have hC := (unhide RS0).sig 99 (by decide) (fun i hi => by unfold z17g; (repeat (first | rw [if_pos (by (have := z17cQ; have := z17eQ; omega))] | rw [if_neg (by (have := z17cQ; have := z17eQ; omega))])))
   refine hC.mono ?_
   rintro e V1 ⟨L1, rfl, HL, HT, HO, RS1⟩
   clear hC RS0
   have HI : Hid ((Tryz.prog.info? 30).map (·.size) = some (U8 L1).toArray.size) := aA (by rw [List.size_toArray, U8_length, unhide HL]; exact Tryz.szKSig)
   generalize U8 L1 = C1 at *
   simp only []
   go_at_K
   rename_i hK
   refine hK _ _ ?_
   clear hK
   refine cV ?_
   refine wpList_store_mid rfl 30 (.tmp 21) (.tmp 20) rfl q 99 C1.toArray rfl rfl (unhide HT) (unhide HI) (unhide HO) ?_
   refine wpList_nil ?_
   simp only [Act.put]
   generalize V1.setCells q 99 C1.toArray.toList = U1 at *
   clear HL HT HO HI
   go_upto_region 6 with fail
   obtain ⟨x, RS⟩ : ∃ x : Nat → Int, Hid (RdS w z17c z17g 163 q p b Z ((aB z17f).get (fun _ => 0) (spl b.l).2.1) x U1) := ⟨_, by rw [unhide HDR, gE]; rw [← nE] at RS1; exact RS1⟩
   clear RS1 HDR
   obtain ⟨t, f, hI, hG⟩ := (unhide RS).inr
   have HXX := aA (unhide HX x _ _ hG)
   have HGG := aA hG
   clear HX hG hI
   have rg := aA (Arr.range (unhide RS).trm.arr)
   have HOK := aA (unhide RS).trm.ok
   have HSM : Hid ((Tryz.prog.info? z17c).map (·.size) = some (cl z17g 163 x).length) := aA (by rw [aC]; exact z17d)
   have HSA : Hid ((Tryz.prog.info? z17c).map (·.size) = some (cl z17g 163 x).toArray.size) := aA (by rw [List.size_toArray, aC]; exact z17d)
   have HSS : Hid (Z.toArray.size = (cl z17g 163 x).toArray.size) := aA (by rw [List.size_toArray, List.size_toArray, aC, unhide HZL])
   have HOC : Hid ((cl z17g 163 x).toArray.all (·.oneCell') = true) := aA (all_oneCell_toArray (cK _ _ _))
   have hOf := z17k x U1 (unhide HOK)
   have HFIN : Hid (∀ W, decL z17e (aB z17f) b.l = (x, 0) → Below w.heap.size w W → bU z17e (aB z17f) z17g 163 b.l w (.returned (.tuple #[.agg (cl z17g 163 x).toArray, .int .i64 0])) (W.setRow w.heap.size (cl z17g 163 x).toArray)) := aA fun W hk hW => bU.of hk rfl (unhide HOK) (bJ hW (Nat.le_refl _) _)
   have HRG : Hid (∀ W, RdS w z17c z17g 163 q p b Z ((aB z17f).get (fun _ => 0) (spl b.l).2.1) x W → W.rangeAt q 0 (cl z17g 163 x)) := aA fun W h => Arr.range h.trm.arr
   generalize cl z17g 163 x = M at *
   refine eI ?_
   refine wpList_load_mid rfl z17c (.tmp 6) rfl q 0 rfl M _ (unhide rg) z17l rfl (unhide HSM) ?_
   simp only [Act.put]
   refine wpList_plain rfl fun K1 hK1 => ?_
   go_simp
   refine hOf.mono ?_
   rintro e X1 ⟨rfl, hBX⟩
   have RSX := (unhide RS).later hBX
   refine hK1 _ _ ?_
   clear hK1 K1 hOf hBX RS rg
   obtain ⟨t1, f1, hI1, hG1⟩ := RSX.inr
   have hEn := iU p b t1 f1 ((aB z17f).fit x) X1 hI1 (unhide HM)
   have HEQ : Hid (endE (rEnd (b.l.drop t1) f1) ((aB z17f).fit x) = endE (rEnd (b.l.drop t) f) ((aB z17f).fit x)) := aA (kG hG1 (unhide HGG))
   rw [unhide HEQ] at hEn
   have HEE : Hid (endE (rEnd (b.l.drop t) f) ((aB z17f).fit x) = 0 ∨ endE (rEnd (b.l.drop t) f) ((aB z17f).fit x) = 90) := aA (kI _ _)
   generalize endE (rEnd (b.l.drop t) f) ((aB z17f).fit x) = E at *
   generalize (aB z17f).fit x = fx at *
   refine wpList_plain rfl fun K1 hK1 => ?_
   go_simp
   refine hEn.mono ?_
   rintro e X2 ⟨rfl, kd, hw⟩
   have RS2 : Hid (RdS w z17c z17g 163 q p b Z ((aB z17f).get (fun _ => 0) (spl b.l).2.1) x X2) := aA (by rw [hw]; exact RSX.later (cN (Below.refl _ _) kd))
   clear hw hEn hI1 hG1 RSX HEQ HGG
   refine hK1 _ _ ?_
   clear hK1 K1
   have HBE := aA (iV (unhide RS2).but (Nat.le_of_lt (unhide HP)))
   have HAR := aA (unhide RS2).res
   have rg2 := aA (unhide HRG X2 (unhide RS2))
   clear RS2 HRG
   by_cases hE : E = 0
   ·rw [if_pos hE] at HXX
    subst hE
    go_upto_region 9 with fail
    refine wp_region_lit ?_
    refine wpList_load_mid rfl z17c (.tmp 6) rfl q 0 rfl M _ (unhide rg2) z17l rfl (unhide HSM) ?_
    simp only [Act.put]
    refine wpList_store_row rfl z17c (.tmp 2) (.tmp 30) rfl w.heap.size M.toArray rfl rfl z17c Z.toArray (unhide HAR) (unhide HSA) (unhide HSS) (unhide HOC) ?_
    refine dO ?_
    go_wp2
    refine bodyPost_ret (bT rfl _ _ w.heap.size z17c M.toArray (0, 0) _ rfl (.int .i64 0) rfl (setRow_heap _ w.heap.size _ _ _ _ (unhide HAR)) z17l rfl (unhide HSA)) rfl ?_
    exact unhide HFIN _ (unhide HXX) (unhide HBE)
   ·rw [if_neg hE] at HXX
    have hE90 : E = 90 := by have := unhide HEE; (have := z17cQ; have := z17eQ; omega)
    subst hE90
    go_upto_region 8 with fail
    refine wp_region_lit ?_
    refine eL rfl z17c _ rfl Z.toArray (by have h := unhide HZB; simpa using h) ?_
    simp only [Act.put]
    refine cV ?_
    refine wpList_store_row rfl z17c (.tmp 2) (.tmp 28) rfl w.heap.size Z.toArray rfl rfl z17c Z.toArray (unhide HAR) (unhide HSAZ) rfl (unhide HOCZ) ?_
    refine dO ?_
    go_wp2
    refine bodyPost_ret (bT rfl _ _ w.heap.size z17c Z.toArray (0, 0) _ rfl (.int .i64 90) rfl (setRow_heap _ w.heap.size _ _ _ _ (unhide HAR)) z17l rfl (unhide HSAZ)) rfl ?_
    exact unhide HEND0 _ _ (unhide HXX) (unhide HBE)
  ·have hF := tB b z17e _ (hb.later b0) h0 h1
   have HX := aA (dec_dom (f := aB z17f) h0 h1)
   clear hb b0 h0 h1
   have hbv : b.v = .slice b.a b.n b.c := rfl
   rw [hbv] at hF ⊢
   clear hbv
   go_enter z17h, z17i
   go_wp2_with fail
   generalize hW0 : (w.alloc (.cells Z.toArray z17c)) = W0 at *
   clear hW0
   refine hF.mono ?_
   rintro e w1 ⟨rfl, hB1⟩
   clear hF
   have HAR := aA ((unhide HA0).later hB1)
   have HBE := aA ((unhide HB0).trans (hB1.mono (unhide HB0).size))
   clear HA0 HB0 hB1
   go_upto_region 3 with fail
   refine wp_region_lit ?_
   refine eL rfl z17c _ rfl Z.toArray (by have h := unhide HZB; simpa using h) ?_
   simp only [Act.put]
   refine cV ?_
   refine wpList_store_row rfl z17c (.tmp 2) (.tmp 14) rfl w.heap.size Z.toArray rfl rfl z17c Z.toArray (unhide HAR) (unhide HSAZ) rfl (unhide HOCZ) ?_
   refine dO ?_
   go_wp2
   refine bodyPost_ret (bT rfl _ _ w.heap.size z17c Z.toArray (0, 0) _ rfl (.int .i64 91) rfl (setRow_heap _ w.heap.size _ _ _ _ (unhide HAR)) z17l rfl (unhide HSAZ)) rfl ?_
   exact unhide HEND0 _ _ (unhide HX) (unhide HBE)
 ·have hF := tA b z17e _ (hb.later b0) h0
  have HX := aA (dec_far (dom := z17e) (f := aB z17f) h0)
  generalize hk : (spl b.l).2.2 = k at *
  clear hk
  clear hb b0
  have hbv : b.v = .slice b.a b.n b.c := rfl
  rw [hbv] at hF ⊢
  clear hbv
  go_enter z17h, z17i
  go_wp2_with fail
  generalize hW0 : (w.alloc (.cells Z.toArray z17c)) = W0 at *
  clear hW0
  refine hF.mono ?_
  rintro e w1 ⟨rfl, hB1⟩
  clear hF
  have HAR := aA ((unhide HA0).later hB1)
  have HBE := aA ((unhide HB0).trans (hB1.mono (unhide HB0).size))
  clear HA0 HB0 hB1
  go_upto_region 3 with fail
  refine wp_region_lit ?_
  refine eL rfl z17c _ rfl Z.toArray (by have h := unhide HZB; simpa using h) ?_
  simp only [Act.put]
  refine cV ?_
  refine wpList_store_row rfl z17c (.tmp 2) (.tmp 14) rfl w.heap.size Z.toArray rfl rfl z17c Z.toArray (unhide HAR) (unhide HSAZ) rfl (unhide HOCZ) ?_
  refine dO ?_
  go_wp2
  refine bodyPost_ret (bT rfl _ _ w.heap.size z17c Z.toArray (0, 0) _ rfl (.int .i64 k) rfl (setRow_heap _ w.heap.size _ _ _ _ (unhide HAR)) z17l rfl (unhide HSAZ)) rfl ?_
  exact unhide HEND0 _ _ (unhide HX) (unhide HBE)) : G := h
theorem sh18 {G : Prop} (h : G := by
 have HFIN : Hid (∀ W, decL 3 (aB aT) b.l = (x, 0) → Below w.heap.size w W → bU 3 (aB aT) aI 262 b.l w (.returned (.tuple #[.agg (cl aI 262 x).toArray, .int .i64 0])) (W.setRow w.heap.size (cl aI 262 x).toArray)) := aA fun W hk hW => bU.of hk rfl (unhide HOK) (bJ hW (Nat.le_refl _) _)
 have HRG : Hid (∀ W, RdS w 61 aI 262 q p b Z ((aB aT).get (fun _ => 0) (spl b.l).2.1) x W → W.rangeAt q 0 (cl aI 262 x)) := aA fun W h => Arr.range h.trm.arr
 generalize cl aI 262 x = M at *
 refine eI ?_
 refine wpList_load_mid rfl 61 (.tmp 6) rfl q 0 rfl M _ (unhide rg) Tryz.underlying61 rfl (unhide HSM) ?_
 simp only [Act.put]
 refine wpList_plain rfl fun K1 hK1 => ?_
 go_simp
 refine hOf.mono ?_
 rintro e X1 ⟨rfl, hBX⟩
 have RSX := (unhide RS).later hBX
 refine hK1 _ _ ?_
 clear hK1 K1 hOf hBX RS rg
 obtain ⟨t1, f1, hI1, hG1⟩ := RSX.inr
 have hEn := iU p b t1 f1 ((aB aT).fit x) X1 hI1 (unhide HM)
 have HEQ : Hid (endE (rEnd (b.l.drop t1) f1) ((aB aT).fit x) = endE (rEnd (b.l.drop t) f) ((aB aT).fit x)) := aA (kG hG1 (unhide HGG))
 rw [unhide HEQ] at hEn
 have HEE : Hid (endE (rEnd (b.l.drop t) f) ((aB aT).fit x) = 0 ∨ endE (rEnd (b.l.drop t) f) ((aB aT).fit x) = 90) := aA (kI _ _)
 generalize endE (rEnd (b.l.drop t) f) ((aB aT).fit x) = E at *
 generalize (aB aT).fit x = fx at *
 refine wpList_plain rfl fun K1 hK1 => ?_
 go_simp
 refine hEn.mono ?_
 rintro e X2 ⟨rfl, kd, hw⟩
 have RS2 : Hid (RdS w 61 aI 262 q p b Z ((aB aT).get (fun _ => 0) (spl b.l).2.1) x X2) := aA (by rw [hw]; exact RSX.later (cN (Below.refl _ _) kd))
 clear hw hEn hI1 hG1 RSX HEQ HGG
 refine hK1 _ _ ?_
 clear hK1 K1
 have HBE := aA (iV (unhide RS2).but (Nat.le_of_lt (unhide HP)))
 have HAR := aA (unhide RS2).res
 have rg2 := aA (unhide HRG X2 (unhide RS2))
 clear RS2 HRG
 by_cases hE : E = 0
 ·rw [if_pos hE] at HXX
  subst hE
  go_upto_region 16 with fail
  refine wp_region_lit ?_
  refine wpList_load_mid rfl 61 (.tmp 6) rfl q 0 rfl M _ (unhide rg2) Tryz.underlying61 rfl (unhide HSM) ?_
  simp only [Act.put]
  refine wpList_store_row rfl 61 (.tmp 2) (.tmp 50) rfl w.heap.size M.toArray rfl rfl 61 Z.toArray (unhide HAR) (unhide HSA) (unhide HSS) (unhide HOC) ?_
  refine dO ?_
  go_wp2
  refine bodyPost_ret (bT rfl _ _ w.heap.size 61 M.toArray (0, 0) _ rfl (.int .i64 0) rfl (setRow_heap _ w.heap.size _ _ _ _ (unhide HAR)) Tryz.underlying61 rfl (unhide HSA)) rfl ?_
  exact unhide HFIN _ (unhide HXX) (unhide HBE)
 ·rw [if_neg hE] at HXX
  have hE90 : E = 90 := by have := unhide HEE; omega
  subst hE90
  go_upto_region 15 with fail
  refine wp_region_lit ?_
  refine eL rfl 61 _ rfl Z.toArray (by have h := unhide HZB; simpa using h) ?_
  simp only [Act.put]
  refine cV ?_
  refine wpList_store_row rfl 61 (.tmp 2) (.tmp 48) rfl w.heap.size Z.toArray rfl rfl 61 Z.toArray (unhide HAR) (unhide HSAZ) rfl (unhide HOCZ) ?_
  refine dO ?_
  go_wp2
  refine bodyPost_ret (bT rfl _ _ w.heap.size 61 Z.toArray (0, 0) _ rfl (.int .i64 90) rfl (setRow_heap _ w.heap.size _ _ _ _ (unhide HAR)) Tryz.underlying61 rfl (unhide HSAZ)) rfl ?_
  exact unhide HEND0 _ _ (unhide HXX) (unhide HBE)) : G := h
theorem sh19 {G : Prop} (h : G := by
 have hF := tB b z19a _ (hb.later b0) h0 h1
 have HX := aA (dec_dom (f := aB z19b) h0 h1)
 clear hb b0 h0 h1
 have hbv : b.v = .slice b.a b.n b.c := rfl
 rw [hbv] at hF ⊢
 clear hbv
 go_enter z19c, z19d
 go_wp2_with fail
 generalize hW0 : (w.alloc (.cells Z.toArray z19e)) = W0 at *
 clear hW0
 refine hF.mono ?_
 rintro e w1 ⟨rfl, hB1⟩
 clear hF
 have HAR := aA ((unhide HA0).later hB1)
 have HBE := aA ((unhide HB0).trans (hB1.mono (unhide HB0).size))
 clear HA0 HB0 hB1
 go_upto_region 3 with fail
 refine wp_region_lit ?_
 refine eL rfl z19e _ rfl Z.toArray (by have h := unhide HZB; simpa using h) ?_
 simp only [Act.put]
 refine cV ?_
 refine wpList_store_row rfl z19e (.tmp 2) (.tmp 14) rfl w.heap.size Z.toArray rfl rfl z19e Z.toArray (unhide HAR) (unhide HSAZ) rfl (unhide HOCZ) ?_
 refine dO ?_
 go_wp2
 refine bodyPost_ret (bT rfl _ _ w.heap.size z19e Z.toArray (0, 0) _ rfl (.int .i64 91) rfl (setRow_heap _ w.heap.size _ _ _ _ (unhide HAR)) z19f rfl (unhide HSAZ)) rfl ?_
 exact unhide HEND0 _ _ (unhide HX) (unhide HBE)) : G := h
theorem sh20 {G : Prop} (h : G := by
 have hF := tA b z20a _ (hb.later b0) h0
 have HX := aA (dec_far (dom := z20a) (f := aB z20b) h0)
 generalize hk : (spl b.l).2.2 = k at *
 clear hk
 clear hb b0
 have hbv : b.v = .slice b.a b.n b.c := rfl
 rw [hbv] at hF ⊢
 clear hbv
 go_enter z20c, z20d
 go_wp2_with fail
 generalize hW0 : (w.alloc (.cells Z.toArray z20e)) = W0 at *
 clear hW0
 refine hF.mono ?_
 rintro e w1 ⟨rfl, hB1⟩
 clear hF
 have HAR := aA ((unhide HA0).later hB1)
 have HBE := aA ((unhide HB0).trans (hB1.mono (unhide HB0).size))
 clear HA0 HB0 hB1
 go_upto_region 3 with fail
 refine wp_region_lit ?_
 refine eL rfl z20e _ rfl Z.toArray (by have h := unhide HZB; simpa using h) ?_
 simp only [Act.put]
 refine cV ?_
 refine wpList_store_row rfl z20e (.tmp 2) (.tmp 14) rfl w.heap.size Z.toArray rfl rfl z20e Z.toArray (unhide HAR) (unhide HSAZ) rfl (unhide HOCZ) ?_
 refine dO ?_
 go_wp2
 refine bodyPost_ret (bT rfl _ _ w.heap.size z20e Z.toArray (0, 0) _ rfl (.int .i64 k) rfl (setRow_heap _ w.heap.size _ _ _ _ (unhide HAR)) z20f rfl (unhide HSAZ)) rfl ?_
 exact unhide HEND0 _ _ (unhide HX) (unhide HBE)) : G := h
theorem sh21 {G : Prop} (h : G := by
 have z21aq := z21aQ
 have hmf : ∀ (fn : Fn) (first cap : Array Value) (w : World), (Instr.makeFunc fn first cap).run Tryz.prog w = .ok (.func fn first cap) w := fun _ _ _ _ => rfl
 have b2 : Below w.heap.size w ((w.alloc (.cells #[.int .i64 most] 3)).alloc (.cells #[.nilFunc, .nilFunc, .nilFunc] z21a)) := bV (aJ w _) _ (by simp)
 have M2 := (Arr.new w 3 [.int .i64 most]).alloc (.cells #[.nilFunc, .nilFunc, .nilFunc] z21a)
 have R2 := Arr.new (w.alloc (.cells #[.int .i64 most] 3)) z21a [.nilFunc, .nilFunc, .nilFunc]
 have s1 : (w.alloc (.cells #[.int .i64 most] 3)).heap.size = w.heap.size + 1 := by simp
 rw [s1] at R2
 have h12 : ((w.alloc (.cells #[.int .i64 most] 3)).alloc (.cells #[.nilFunc, .nilFunc, .nilFunc] z21a)).heap.size = w.heap.size + 2 := by simp
 have hS1 : ∀ k, (fun k => S k ∨ k = w.heap.size) k → k < ((w.alloc (.cells #[.int .i64 most] 3)).alloc (.cells #[.nilFunc, .nilFunc, .nilFunc] z21a)).heap.size := fun k hk => by
  rcases hk with h | h
  ·have := hS k h; (have := z21aQ; omega)
  ·(have := z21aQ; omega)
 have hp2 := hp.later (S' := fun k => S k ∨ k = w.heap.size) (fun k h => .inl h) (New.kept hS b2)
 have hC := z21b (least := least) _ _ _ hS1 hp2 (z21c (S := fun k => S k ∨ k = w.heap.size) (sT := sT) (nT := nT) M2 (.inr rfl)) ha hs
 have HE : Hid (∀ w2 v c, Fld (New (fun k => S k ∨ k = w.heap.size) _ w2) w2 sT nT (aO a least (fun _ => most)) (FV.t v) → Below _ _ w2 → cL S sT nT (aO a least (fun _ => most)) w (.returned (.agg v.a)) (w2.setRow (w.heap.size + 1) c)) :=
  fun w2 v c hF hb2 => mk_row c hS (fun k hk => by
   rcases hk with h | h
   ·have := hS k h; exact ⟨by (have := z21aQ; omega), .inl h⟩
   ·exact ⟨by (have := z21aQ; omega), .inr (by (have := z21aQ; omega))⟩) (by (have := z21aQ; omega)) (by (have := z21aQ; omega)) hF b2 hb2
 have HR := aA R2
 clear b2 M2 R2 s1 hp2 h12 hS1
 obtain ⟨k, caps, rfl, -, -⟩ := hp
 go_enter z21d, z21e
 go_wp2_with (first
  | ((first | go_at_call 283 | go_at_call 334 | go_at_call 347 | go_at_call 353 | go_at_call 362 | go_at_call 371); refine hC.mono ?_; rintro e w2 ⟨v, rfl, hF, hb2⟩; clear hC; have R3 := aA ((unhide HR).later hb2); have HF := aA (unhide HE w2 v v.a hF hb2); clear hb2 hF)
  | refine wpList_store_row rfl z21a (.tmp 6) (.tmp 10) rfl (w.heap.size + 1) v.a rfl rfl z21a _ (unhide R3) z21g rfl v.a_one ?_)
 refine bodyPost_ret (results_cell_row rfl _ _ (w.heap.size + 1) z21a v.a (0, 0) _ rfl (setRow_heap w2 (w.heap.size + 1) _ _ _ _ (unhide R3)) z21h rfl z21g) rfl ?_
 exact unhide HF) : G := h
theorem sh22 {G : Prop} (h : G := by
 refine hK.out _ _ (unhide HK1 _ bs) (fun hHeld => ?_)
 clear hK K
 have hC := gR ys1 W.heap.size v1 v2 [s] [(L0, G0)] s1 G1 RSs (by simp) hs (Sl.Off.of (B := 0) hE1.rs.l1 hsf) (Sl.Off.of (B := 0) hE1.rs.l2 hsf) (fun y hy => Nat.le_trans hE1.bel.size (hsf y hy)) hG1 hB1 bs.size
 rw [hsl1, hsv] at hC
 refine rdY 7 rfl fun K hK => ?_
 go_simp
 refine hC.mono ?_
 rintro e yw1 ⟨a1, b1, rfl, RS1, hBw, hfr⟩
 obtain ⟨svw, hF1⟩ := hE1.next bu hsf RS1 hBw hfr
 have bw := bs.trans hBw
 refine hK.out _ _ (unhide HK1 _ bw) (fun hHeld => ?_)
 clear hK K hC
 refine rdY 8 rfl fun K hK => ?_
 refine eH rfl 234 (.tmp 3) (.tmp 21) rfl q #[a1, b1] rfl rfl 234 #[v1, v2] svw (by kernel_rfl) rfl (jF RS1) ?_
 simp only [Act.put]
 refine hK.out _ _ (unhide HK1 _ hF1.bel) (fun hHeld => ?_)
 clear hK K
 have HF1 := aA hF1
 have d1n := unhide HC2 _ hF1.bel
 clear hF1 svw bw hfr hBw RS1 RSs svs bs bu hsf hs hBs hE1 hsl1 hsv
 generalize yw1.setRow q #[a1, b1] = Y1 at *
 refine wpAnyH_done (by kernel_rfl) ?_ _
 unfold NoPanic
 clear hHeld
 by_cases h197 : x 197 ≠ 0
 ·rw [decide_eq_true h197] at d1n
  rw [if_pos h197] at HEE
  go_upto_region 5 with fail
  refine wp_region_noPanic ?_
  refine wp_region_held_drew (S := fun w' => w'.rangeAt w.heap.size 0 XC ∧ w'.rangeAt w.heap.size 198 (U8 G2)) (by kernel_rfl) (unhide HK2 _ (kK (unhide HF1).bel)) (fun hHeld => ?_)
  refine tkS 1 (.pointer (some ⟨w.heap.size, 0, none⟩)) rfl hHeld ?_
  refine tkY 2 _ rfl (yieldsIf_load_mid (by rfl) _ _ rfl _ _ rfl _ _ (fun _ h => h.1) Tryz.underlying32 rfl hZC) hHeld ?_
  refine tkY 3 (.agg XR.toArray) rfl (dB (by rfl) _ _ rfl _ (by simpa [Act.eval] using (unhide HBR))) hHeld ?_
  refine tkS 5 (.pointer (some ⟨w.heap.size, 198, none⟩)) rfl hHeld ?_
  refine tkY 6 _ rfl (yieldsIf_load_mid (by rfl) _ _ rfl _ _ rfl _ _ (fun _ h => h.2) Tryz.underlying30 rfl hZg2) hHeld ?_
  have hE2 := unhide HF1
  refine wpAnyH_ready (rs := [0, 4]) (by kernel_rfl) (by simp) ?_
  refine AllReadyH.cons rfl (fun K hK => ?_) (AllReadyH.cons rfl (fun K hK => ?_) AllReadyH.nil)
  ·refine gC rfl 234 (.tmp 3) rfl q rfl 234 #[a1, b1] (0, 0) _ (unhide HF1).sv Tryz.underlying234 rfl (by kernel_rfl) ?_
   simp only [Act.put]
   refine hK.out _ _ (unhide HK2 _ (kK (unhide HF1).bel)) (fun hHeld => ?_)
   clear hK K
   refine rdY 4 rfl fun K hK => ?_
   go_simp
   refine (hS2 _).mono ?_
   rintro e ys2 ⟨s2, rfl, hs, hsl2, hsf, hBs⟩
   have hsv : s2.v = .slice s2.a s2.n s2.c := rfl
   have bu : Below Y1.heap.size Y1 ys2 := cJ hBs (Nat.le_refl _)
   have bs := hE2.bel.trans (bu.mono hE2.bel.size)
   have svs := hE2.sv.later bu
   have RSs := hE2.rs.later bu
   exact sh179
  ·go_simp
   refine (hS2 _).mono ?_
   rintro e ys2 ⟨s2, rfl, hs, hsl2, hsf, hBs⟩
   have hsv : s2.v = .slice s2.a s2.n s2.c := rfl
   have bu : Below Y1.heap.size Y1 ys2 := cJ hBs (Nat.le_refl _)
   have bs := hE2.bel.trans (bu.mono hE2.bel.size)
   have svs := hE2.sv.later bu
   have RSs := hE2.rs.later bu
   refine hK.out _ _ (unhide HK2 _ bs) (fun hHeld => ?_)
   clear hK K
   refine rdY 0 rfl fun K hK => ?_
   refine gC rfl 234 (.tmp 3) rfl q rfl 234 #[a1, b1] (0, 0) _ svs Tryz.underlying234 rfl (by kernel_rfl) ?_
   simp only [Act.put]
   exact sh179
 ·rw [decide_eq_false h197] at d1n
  rw [if_neg h197] at HEE
  have hEF := unhide HF1
  have hR9 := unhide HKR _ hEF.bel
  go_upto_region 6 with fail
  refine wp_region_lit ?_
  refine wpList_load_mid rfl 234 (.tmp 3) rfl q 0 rfl [a1, b1] _ (Arr.range hEF.sv) Tryz.underlying234 rfl (by kernel_rfl) ?_
  simp only [Act.put]
  refine wpList_store_row rfl 234 (.tmp 2) (.tmp 32) rfl (w.heap.size + 1) #[a1, b1] rfl rfl 234 #[.slice none 0 0, .slice none 0 0] hR9 (by kernel_rfl) rfl (jF hEF.rs) ?_
  have HPO := aA (pM hEF (unhide HB1) hR9 hltR)
  refine wpList_nil ?_
  go_wp2
  refine bodyPost_ret (results_cell_row rfl _ _ (w.heap.size + 1) 234 #[a1, b1] (0, 0) _ rfl (setRow_heap _ (w.heap.size + 1) _ _ _ _ hR9) Tryz.underlying234 rfl (by kernel_rfl)) rfl ?_
  exact sh162) : G := h
theorem sh23 {G : Prop} (h : G := by
 have hmf : ∀ (fn : Fn) (first cap : Array Value) (w : World), (Instr.makeFunc fn first cap).run Tryz.prog w = .ok (.func fn first cap) w := fun _ _ _ _ => rfl
 have hp' := hp
 obtain ⟨k, caps, rfl, -, -⟩ := hp
 have Hp := aA hp'
 clear hp'
 go_enter z23a, z23b
 go_wp2
 refine bodyPost_ret (jT rfl _ _ _ _ _ _ _ (by simp) z23c rfl z23d) rfl ?_
 refine ⟨⟨_, _, _, _, _, _⟩, rfl, ?_, bV (aJ w _) _ (by simp)⟩
 have b2 := bV (aJ w (.cells #[.func (.func k) #[] caps] z23e)) (.cells #[.func (.func z23f) #[] #[.pointer (some ⟨w.heap.size, 0, none⟩)], .func (.func z23g) #[] #[.pointer (some ⟨w.heap.size, 0, none⟩)], .func (.func z23h) #[] #[]] z23i) (by simp)
 have A2 := (Arr.new w z23e [.func (.func k) #[] caps]).alloc (.cells #[.func (.func z23f) #[] #[.pointer (some ⟨w.heap.size, 0, none⟩)], .func (.func z23g) #[] #[.pointer (some ⟨w.heap.size, 0, none⟩)], .func (.func z23h) #[] #[]] z23i)
 have hp2 := (unhide Hp).new hS b2
 exact ⟨z23j hp2 A2 (New.at (Nat.le_refl _) A2.lt) ha hs hn hn0, z23k hp2 A2 (New.at (Nat.le_refl _) A2.lt) ha hs hn0, z23l⟩) : G := h
theorem sh24 {G : Prop} (h : G := by
 have z24bq := z24bQ
 have HX := aA (dec_far (dom := dom) (f := aB z24a) h0)
 generalize (spl bl).1 = d at *
 generalize (spl bl).2.2 = k at *
 generalize (spl bl).2.1 = r at *
 obtain ⟨sa, sn, sc, sl⟩ := s1
 simp only [Sl.v] at *
 clear hs1 hsl1
 go_upto_region 4 with fail
 refine wp_region_lit ?_
 refine wpList_load_mid rfl z24b (.tmp 6) rfl (w.heap.size + 2) 0 rfl Z _ (unhide ST).a2.range z24c rfl (unhide HSZ) ?_
 simp only [Act.put]
 refine cV ?_
 refine wpList_store_row rfl z24b (.tmp 4) (.tmp 20) rfl (w.heap.size + 1) Z.toArray rfl rfl z24b Z.toArray (unhide ST).a1 (unhide HSAZ) rfl (unhide HOCZ) ?_
 refine dO ?_
 go_wp2
 refine bodyPost_ret (bT rfl _ _ (w.heap.size + 1) z24b Z.toArray (0, 0) _ rfl (.int .i64 k) rfl (setRow_heap _ (w.heap.size + 1) _ _ _ _ (unhide ST).a1) z24c rfl (unhide HSAZ)) rfl ?_
 exact sh181) : G := h
theorem sh25 {G : Prop} (h : G := by
 subst hn
 obtain ⟨k, caps, rfl, eg, hp⟩ := hp
 refine ⟨_, _, rfl, enters_of z25a (by kernel_rfl) rfl, ?_⟩
 intro w base p lv l q ty sh N x o hb hW hKp hKl hbs hT hSg hl
 have cb : w.cell? ⟨bp, 0, none⟩ = some (.func (.func k) #[] caps) := by simpa using (hb.arr hA hbp).cell 0
 have cf : w.cell? ⟨bf, 0, none⟩ = some (.slice (some ⟨g, 0, none⟩) vs.length c) := by simpa using (hb.arr hF hbf).cell 0
 have hC := hp w.drew q o (hb.drewN 1)
 have hSP : Seg sP nP sh N (o + a) := hSg.in ha hs
 have hlen := hTab.len
 have htk : fs.take vs.length = fs := by rw [hlen]; exact List.take_length
 have hl' : l.length + ((aB (fs.take vs.length)).enc (sft (o + a) x)).length ≤ 1000000 := by rw [htk, ← lV]; exact hl
 have hU := qO hTab (Nat.le_refl _) hc hc2 w.drew base p lv l q ty sh N x (o + a) (hb.drewN 1) (hW.later (fL (Below.refl _ _) 1)) hKp hKl hbs (hT.drewN 1) hSP hl'
 have HP : Hid (l ++ (aB (fs.take vs.length)).enc (sft (o + a) x) = l ++ (bR a (aB fs)).enc (sft o x)) := by
  show _ = _
  simp only [bR, htk, lV]
 rw [unhide HP] at hU
 clear hp hl hl' HP htk hlen
 simp only [Enters] at eg
 go_enter z25a, z25b
 refine wp_region_noPanic ?_
 refine wp_region_held_drew (S := fun w' => w'.cell? ⟨bp, 0, none⟩ = some (.func (.func k) #[] caps) ∧ w'.cell? ⟨bf, 0, none⟩ = some (.slice (some ⟨g, 0, none⟩) vs.length c)) (by kernel_rfl) ⟨cb, cf⟩ (fun hHeld => ?_)
 refine tkS 0 (.pointer (some ⟨p, 0, none⟩)) rfl hHeld ?_
 refine tkY 1 (.slice (some ⟨g, 0, none⟩) vs.length c) rfl (Or.inl ⟨by rfl, fun w hSw => by obtain ⟨h1, h2⟩ := hSw; go_simp⟩) hHeld ?_
 refine tkY 2 (.func (.func k) #[] caps) rfl (Or.inl ⟨by rfl, fun w hSw => by obtain ⟨h1, h2⟩ := hSw; go_simp⟩) hHeld ?_
 refine tkS 3 (.pointer (some ⟨q, o, none⟩)) rfl hHeld ?_
 refine rdY 4 rfl fun K hK => ?_
 go_simp
 refine hC.mono ?_
 rintro e w1 ⟨rfl, hw⟩
 have hw := hw.symm; subst hw
 refine hK.out _ _ hHeld (fun hHeld => ?_)
 clear hK K
 refine rdY 5 rfl fun K hK => ?_
 go_simp
 refine hU.mono ?_
 rintro e w1 ⟨rfl, lv1, hW1⟩
 refine hK.out _ _ ?_ (fun hHeld => ?_)
 ·have hbt := hW1.but
  have hlt1 := fM hHeld.1
  have hlt2 := fM hHeld.2
  refine ⟨?_, ?_⟩
  ·rw [← hHeld.1]; exact World.cell?_of_block (hbt.block bp hlt1 (fun h => by rcases h with rfl | h; exact hKp hbp; exact hKl _ h hbp))
  ·rw [← hHeld.2]; exact World.cell?_of_block (hbt.block bf hlt2 (fun h => by rcases h with rfl | h; exact hKp hbf; exact hKl _ h hbf))
 refine wpAnyH_done (by kernel_rfl) ?_ _
 unfold NoPanic
 clear hHeld hK
 go_end0
 exact ⟨rfl, lv1, hW1.later (fL (Below.refl _ _) 1)⟩) : G := h
theorem sh26 {G : Prop} (h : G := by
 have z26aq := z26aQ
 have z26cq := z26cQ
 have z26fq := z26fQ
 clear RS2 HDR
 obtain ⟨t, f, hI, hG⟩ := (unhide RS).inr
 have HXX := aA (unhide HX x _ _ hG)
 have HGG := aA hG
 clear HX hG hI
 have rg := aA (Arr.range (unhide RS).trm.arr)
 have HOK := aA (unhide RS).trm.ok
 have HSM : Hid ((Tryz.prog.info? z26a).map (·.size) = some (cl z26b z26c x).length) := aA (by rw [aC]; exact z26d)
 have HSA : Hid ((Tryz.prog.info? z26a).map (·.size) = some (cl z26b z26c x).toArray.size) := aA (by rw [List.size_toArray, aC]; exact z26d)
 have HSS : Hid (Z.toArray.size = (cl z26b z26c x).toArray.size) := aA (by rw [List.size_toArray, List.size_toArray, aC, unhide HZL])
 have HOC : Hid ((cl z26b z26c x).toArray.all (·.oneCell') = true) := aA (all_oneCell_toArray (cK _ _ _))
 have hOf := z26e x U2 (unhide HOK)
 have HFIN : Hid (∀ W, decL z26f (aB z26g) b.l = (x, 0) → Below w.heap.size w W → bU z26f (aB z26g) z26b z26c b.l w (.returned (.tuple #[.agg (cl z26b z26c x).toArray, .int .i64 0])) (W.setRow w.heap.size (cl z26b z26c x).toArray)) := aA fun W hk hW => bU.of hk rfl (unhide HOK) (bJ hW (Nat.le_refl _) _)
 have HRG : Hid (∀ W, RdS w z26a z26b z26c q p b Z ((aB z26g).get (fun _ => 0) (spl b.l).2.1) x W → W.rangeAt q 0 (cl z26b z26c x)) := aA fun W h => Arr.range h.trm.arr
 generalize cl z26b z26c x = M at *
 refine eI ?_
 refine wpList_load_mid rfl z26a (.tmp 6) rfl q 0 rfl M _ (unhide rg) z26h rfl (unhide HSM) ?_
 simp only [Act.put]
 refine wpList_plain rfl fun K1 hK1 => ?_
 go_simp
 refine hOf.mono ?_
 rintro e X1 ⟨rfl, hBX⟩
 have RSX := (unhide RS).later hBX
 refine hK1 _ _ ?_
 clear hK1 K1 hOf hBX RS rg
 obtain ⟨t1, f1, hI1, hG1⟩ := RSX.inr
 have hEn := iU p b t1 f1 ((aB z26g).fit x) X1 hI1 (unhide HM)
 have HEQ : Hid (endE (rEnd (b.l.drop t1) f1) ((aB z26g).fit x) = endE (rEnd (b.l.drop t) f) ((aB z26g).fit x)) := aA (kG hG1 (unhide HGG))
 rw [unhide HEQ] at hEn
 have HEE : Hid (endE (rEnd (b.l.drop t) f) ((aB z26g).fit x) = 0 ∨ endE (rEnd (b.l.drop t) f) ((aB z26g).fit x) = 90) := aA (kI _ _)
 generalize endE (rEnd (b.l.drop t) f) ((aB z26g).fit x) = E at *
 generalize (aB z26g).fit x = fx at *
 refine wpList_plain rfl fun K1 hK1 => ?_
 go_simp
 refine hEn.mono ?_
 rintro e X2 ⟨rfl, kd, hw⟩
 have RS2 : Hid (RdS w z26a z26b z26c q p b Z ((aB z26g).get (fun _ => 0) (spl b.l).2.1) x X2) := aA (by rw [hw]; exact RSX.later (cN (Below.refl _ _) kd))
 clear hw hEn hI1 hG1 RSX HEQ HGG
 refine hK1 _ _ ?_
 clear hK1 K1
 have HBE := aA (iV (unhide RS2).but (Nat.le_of_lt (unhide HP)))
 have HAR := aA (unhide RS2).res
 have rg2 := aA (unhide HRG X2 (unhide RS2))
 clear RS2 HRG
 by_cases hE : E = 0
 ·rw [if_pos hE] at HXX
  subst hE
  go_upto_region 10 with fail
  refine wp_region_lit ?_
  refine wpList_load_mid rfl z26a (.tmp 6) rfl q 0 rfl M _ (unhide rg2) z26h rfl (unhide HSM) ?_
  simp only [Act.put]
  refine wpList_store_row rfl z26a (.tmp 2) (.tmp z26i) rfl w.heap.size M.toArray rfl rfl z26a Z.toArray (unhide HAR) (unhide HSA) (unhide HSS) (unhide HOC) ?_
  refine dO ?_
  go_wp2
  refine bodyPost_ret (bT rfl _ _ w.heap.size z26a M.toArray (0, 0) _ rfl (.int .i64 0) rfl (setRow_heap _ w.heap.size _ _ _ _ (unhide HAR)) z26h rfl (unhide HSA)) rfl ?_
  exact unhide HFIN _ (unhide HXX) (unhide HBE)
 ·rw [if_neg hE] at HXX
  have hE90 : E = 90 := by have := unhide HEE; (have := z26aQ; have := z26cQ; have := z26fQ; omega)
  subst hE90
  go_upto_region 9 with fail
  refine wp_region_lit ?_
  refine eL rfl z26a _ rfl Z.toArray (by have h := unhide HZB; simpa using h) ?_
  simp only [Act.put]
  refine cV ?_
  refine wpList_store_row rfl z26a (.tmp 2) (.tmp z26j) rfl w.heap.size Z.toArray rfl rfl z26a Z.toArray (unhide HAR) (unhide HSAZ) rfl (unhide HOCZ) ?_
  refine dO ?_
  go_wp2
  refine bodyPost_ret (bT rfl _ _ w.heap.size z26a Z.toArray (0, 0) _ rfl (.int .i64 90) rfl (setRow_heap _ w.heap.size _ _ _ _ (unhide HAR)) z26h rfl (unhide HSAZ)) rfl ?_
  exact unhide HEND0 _ _ (unhide HXX) (unhide HBE)) : G := h
theorem sh27 {G : Prop} (h : G := by
 obtain ⟨k, caps, rfl, eg, hp⟩ := hp
 refine ⟨_, _, rfl, enters_of z27a (by kernel_rfl) rfl, ?_⟩
 intro w base p lv l q ty sh N x o hb hW hKp hKb hbs hT hSg hl
 have cb : w.cell? ⟨bx, 0, none⟩ = some (.func (.func k) #[] caps) := by simpa using (hb.arr hA hbx).cell 0
 have hok := fsl_ok hT hSg ha hs hn
 have hC := hp w q o hb ⟨_, hSg.cell hT a (by omega)⟩
 have hU := sA base p lv l 0 (fsl q o a n x) w hW hok (by simp only [fsl]; omega) hbs
 have hv : (fsl q o a n x).v = .slice (some ⟨q, o + a, none⟩) n n := rfl
 rw [hv] at hU
 have HP : Hid (bZ (fsl q o a n x).l (l, 0) = (l ++ (aL a n).enc (sft o x), 0)) := by
  show _ = _
  simp only [bZ, aL, fsl, if_true]
 clear hp hSg hl
 simp only [Enters] at eg
 go_enter z27a, z27b
 go_wp2_with (first
  | (go_at_fn k; refine hC.mono ?_; rintro e w' ⟨rfl, hw⟩; have hw := hw.symm; subst hw)
  | (go_at_call 291; refine hU.mono ?_; rintro e w' hF; rw [unhide HP] at hF; obtain ⟨rfl, hF⟩ := hF))
 go_end0
 exact ⟨rfl, hF⟩) : G := h
theorem sh28 {G : Prop} (h : G := by
 refine wp_region_lit ?_
 refine eL rfl z28a _ rfl Z.toArray (by have h := unhide HZB; simpa using h) ?_
 simp only [Act.put]
 refine cV ?_
 refine wpList_store_row rfl z28a (.tmp 2) (.tmp z28b) rfl w.heap.size Z.toArray rfl rfl z28a Z.toArray (unhide HAR) (unhide HSAZ) rfl (unhide HOCZ) ?_
 refine dO ?_
 go_wp2
 refine bodyPost_ret (bT rfl _ _ w.heap.size z28a Z.toArray (0, 0) _ rfl (.int .i64 90) rfl (setRow_heap _ w.heap.size _ _ _ _ (unhide HAR)) z28c rfl (unhide HSAZ)) rfl ?_
 exact unhide HEND0 _ _ (unhide HXX) (unhide HBE)) : G := h
theorem sh29 {G : Prop} (h : G := by
 subst hn
 obtain ⟨k, caps, rfl, eg, hp⟩ := hp
 refine ⟨_, _, rfl, enters_of z29a (by kernel_rfl) rfl, ?_⟩
 intro w q ty sh N x o hb hT hSg
 have cb : w.cell? ⟨bp, 0, none⟩ = some (.func (.func k) #[] caps) := by simpa using (hb.arr hA hbp).cell 0
 have cf : w.cell? ⟨bf, 0, none⟩ = some (.slice (some ⟨g, 0, none⟩) vs.length c) := by simpa using (hb.arr hF hbf).cell 0
 have hC := hp w.drew q o (hb.drewN 1)
 have hSP : Seg sP nP sh N (o + a) := hSg.in ha hs
 have hlen := hTab.len
 have htk : fs.take vs.length = fs := by rw [hlen]; exact List.take_length
 have hU := nD hTab (Nat.le_refl _) hc hc2 w.drew q ty sh N x (o + a) (hb.drewN 1) (hT.drewN 1) hSP
 rw [htk] at hU
 have HP : Hid ((bR a (aB fs)).fit (sft o x) = (aB fs).fit (sft (o + a) x)) := by
  show _ = _
  simp only [bR, lV]
 generalize (bR a (aB fs)).fit (sft o x) = R at *
 generalize (aB fs).fit (sft (o + a) x) = R2 at *
 clear hp htk hlen
 simp only [Enters] at eg
 go_enter z29a, z29b
 go_wp2
 refine wp_region_noPanic ?_
 refine wp_region_held_drew (S := fun w' => w'.cell? ⟨bp, 0, none⟩ = some (.func (.func k) #[] caps) ∧ w'.cell? ⟨bf, 0, none⟩ = some (.slice (some ⟨g, 0, none⟩) vs.length c)) (by kernel_rfl) ⟨cb, cf⟩ (fun hHeld => ?_)
 refine tkY 0 (.slice (some ⟨g, 0, none⟩) vs.length c) rfl (Or.inl ⟨by rfl, fun w hSw => by obtain ⟨h1, h2⟩ := hSw; go_simp⟩) hHeld ?_
 refine tkY 1 (.func (.func k) #[] caps) rfl (Or.inl ⟨by rfl, fun w hSw => by obtain ⟨h1, h2⟩ := hSw; go_simp⟩) hHeld ?_
 refine tkS 2 (.pointer (some ⟨q, o, none⟩)) rfl hHeld ?_
 refine rdY 3 rfl fun K hK => ?_
 go_simp
 refine hC.mono ?_
 rintro e w1 ⟨rfl, hw⟩
 have hw := hw.symm; subst hw
 refine hK.out _ _ hHeld (fun hHeld => ?_)
 clear hK K
 refine rdY 4 rfl fun K hK => ?_
 go_simp
 refine hU.mono ?_
 rintro e w1 ⟨rfl, hB1⟩
 refine hK.out _ _ ?_ (fun hHeld => ?_)
 ·have hlt1 := fM hHeld.1
  have hlt2 := fM hHeld.2
  exact ⟨by rw [← hHeld.1]; exact World.cell?_of_block (hB1.block bp hlt1), by rw [← hHeld.2]; exact World.cell?_of_block (hB1.block bf hlt2)⟩
 clear hK K
 refine tkS 5 (.bool R2) rfl hHeld ?_
 refine wpAnyH_done (by kernel_rfl) ?_ _
 unfold NoPanic
 clear hHeld
 go_wp2
 go_ret
 exact ⟨by rw [unhide HP]; rfl, (fL (Below.refl _ _) 1).trans (hB1.mono (Nat.le_refl _))⟩) : G := h
theorem sh30 {G : Prop} (h : G := by
 subst hn
 obtain ⟨k, caps, rfl, eg, hp⟩ := hp
 refine ⟨_, _, rfl, enters_of z30a (by kernel_rfl) rfl, ?_⟩
 intro w p s fl q ty sh N x o hb hR hKp hKq hT hSg hsq hsn
 have cb : w.cell? ⟨bp, 0, none⟩ = some (.func (.func k) #[] caps) := by simpa using (hb.arr hA hbp).cell 0
 have cf : w.cell? ⟨bf, 0, none⟩ = some (.slice (some ⟨g, 0, none⟩) vs.length c) := by simpa using (hb.arr hF hbf).cell 0
 have hC := hp w.drew q o (hb.drewN 1)
 have hSP : Seg sP nP sh N (o + a) := hSg.in ha hs
 have hlen := hTab.len
 have htk : fs.take vs.length = fs := by rw [hlen]; exact List.take_length
 have hU := qS hTab (Nat.le_refl _) hc hc2 w.drew p s fl q ty sh N x (o + a) (hb.drewN 1) (hR.later (fL (Below.refl _ _) 1)) hKp hKq (hT.drewN 1) hSP hsq hsn
 rw [htk] at hU
 clear hp htk hlen
 simp only [Enters] at eg
 go_enter z30a, z30b
 refine wp_region_noPanic ?_
 refine wp_region_held_drew (S := fun w' => w'.cell? ⟨bp, 0, none⟩ = some (.func (.func k) #[] caps) ∧ w'.cell? ⟨bf, 0, none⟩ = some (.slice (some ⟨g, 0, none⟩) vs.length c)) (by kernel_rfl) ⟨cb, cf⟩ (fun hHeld => ?_)
 refine tkS 0 (.pointer (some ⟨p, 0, none⟩)) rfl hHeld ?_
 refine tkY 1 (.slice (some ⟨g, 0, none⟩) vs.length c) rfl (Or.inl ⟨by rfl, fun w hSw => by obtain ⟨h1, h2⟩ := hSw; go_simp⟩) hHeld ?_
 refine tkY 2 (.func (.func k) #[] caps) rfl (Or.inl ⟨by rfl, fun w hSw => by obtain ⟨h1, h2⟩ := hSw; go_simp⟩) hHeld ?_
 refine tkS 3 (.pointer (some ⟨q, o, none⟩)) rfl hHeld ?_
 refine rdY 4 rfl fun K hK => ?_
 go_simp
 refine hC.mono ?_
 rintro e w1 ⟨rfl, hw⟩
 have hw := hw.symm; subst hw
 refine hK.out _ _ hHeld (fun hHeld => ?_)
 clear hK K
 refine rdY 5 rfl fun K hK => ?_
 go_simp
 refine hU.mono ?_
 rintro e w1 ⟨rfl, t1, fl1, x1, hG⟩
 refine hK.out _ _ ?_ (fun hHeld => ?_)
 ·have hbt := hG.but
  have hlt1 := fM hHeld.1
  have hlt2 := fM hHeld.2
  refine ⟨?_, ?_⟩
  ·rw [← hHeld.1]; exact World.cell?_of_block (hbt.block bp hlt1 (fun h => by rcases h with rfl | rfl; exact hKp hbp; exact hKq hbp))
  ·rw [← hHeld.2]; exact World.cell?_of_block (hbt.block bf hlt2 (fun h => by rcases h with rfl | rfl; exact hKp hbf; exact hKq hbf))
 refine wpAnyH_done (by kernel_rfl) ?_ _
 unfold NoPanic
 clear hHeld hK
 go_end0
 exact ⟨rfl, t1, fl1, x1, hG.in.undrew⟩) : G := h
theorem sh31 {G : Prop} (h : G := by
 refine wp_region_lit ?_
 refine wpList_load_mid rfl z31a (.tmp 6) rfl q 0 rfl M _ (unhide rg2) z31b rfl (unhide HSM) ?_
 simp only [Act.put]
 refine wpList_store_row rfl z31a (.tmp 2) (.tmp z31c) rfl w.heap.size M.toArray rfl rfl z31a Z.toArray (unhide HAR) (unhide HSA) (unhide HSS) (unhide HOC) ?_
 refine dO ?_
 go_wp2
 refine bodyPost_ret (bT rfl _ _ w.heap.size z31a M.toArray (0, 0) _ rfl (.int .i64 0) rfl (setRow_heap _ w.heap.size _ _ _ _ (unhide HAR)) z31b rfl (unhide HSA)) rfl ?_
 exact unhide HFIN _ (unhide HXX) (unhide HBE)) : G := h
theorem gY {G : Prop} (h : G := by
 refine hK1 _ _ ?_
 clear hK1 K1
 refine snY4 ?_
 go_wp2
 go_ret2
 exact unhide HE) : G := h
theorem sh33 {G : Prop} (h : G := by
 have z33eq := z33eQ
 have z33fq := z33fQ
 have z33gq := z33gQ
 have z33hq := z33hQ
 have z33iq := z33iQ
 have hmf : ∀ (fn : Fn) (first cap : Array Value) (w : World), (Instr.makeFunc fn first cap).run Tryz.prog w = .ok (.func fn first cap) w := fun _ _ _ _ => rfl
 have hp' := hp
 obtain ⟨k, caps, rfl, -, -⟩ := hp
 have Hp := aA hp'
 have Ht := aA hTab
 have Hn := aA hn
 clear hp' hTab hn
 go_enter z33a, z33b
 go_wp2
 refine bodyPost_ret (jT rfl _ _ _ _ _ _ _ (by simp) z33c rfl z33d) rfl ?_
 have b3 : Below w.heap.size w ((w.alloc (.cells #[.func (.func k) #[] caps] z33e)).alloc (.cells #[.slice (some ⟨g, 0, none⟩) n c] 156)) := bV (aJ w _) _ (by simp)
 have P3 := (Arr.new w z33e [.func (.func k) #[] caps]).alloc (.cells #[.slice (some ⟨g, 0, none⟩) n c] 156)
 have L3 := Arr.new (w.alloc (.cells #[.func (.func k) #[] caps] z33e)) 156 [.slice (some ⟨g, 0, none⟩) n c]
 have s1 : (w.alloc (.cells #[.func (.func k) #[] caps] z33e)).heap.size = w.heap.size + 1 := by simp
 rw [s1] at L3
 generalize (w.alloc (.cells #[.func (.func k) #[] caps] z33e)).alloc (.cells #[.slice (some ⟨g, 0, none⟩) n c] 156) = w3 at *
 refine ⟨⟨_, _, _, _, _, _⟩, rfl, ?_, bV b3 _ b3.size⟩
 have P4 := P3.alloc (.cells #[.func (.func z33f) #[] #[.pointer (some ⟨w.heap.size + 1, 0, none⟩), .pointer (some ⟨w.heap.size, 0, none⟩)], .func (.func z33g) #[] #[.pointer (some ⟨w.heap.size + 1, 0, none⟩), .pointer (some ⟨w.heap.size, 0, none⟩)], .func (.func z33h) #[] #[.pointer (some ⟨w.heap.size + 1, 0, none⟩), .pointer (some ⟨w.heap.size, 0, none⟩)]] z33i)
 have L4 := L3.alloc (.cells #[.func (.func z33f) #[] #[.pointer (some ⟨w.heap.size + 1, 0, none⟩), .pointer (some ⟨w.heap.size, 0, none⟩)], .func (.func z33g) #[] #[.pointer (some ⟨w.heap.size + 1, 0, none⟩), .pointer (some ⟨w.heap.size, 0, none⟩)], .func (.func z33h) #[] #[.pointer (some ⟨w.heap.size + 1, 0, none⟩), .pointer (some ⟨w.heap.size, 0, none⟩)]] z33i)
 have b4 := bV b3 (.cells #[.func (.func z33f) #[] #[.pointer (some ⟨w.heap.size + 1, 0, none⟩), .pointer (some ⟨w.heap.size, 0, none⟩)], .func (.func z33g) #[] #[.pointer (some ⟨w.heap.size + 1, 0, none⟩), .pointer (some ⟨w.heap.size, 0, none⟩)], .func (.func z33h) #[] #[.pointer (some ⟨w.heap.size + 1, 0, none⟩), .pointer (some ⟨w.heap.size, 0, none⟩)]] z33i) b3.size
 have hp2 := (unhide Hp).new hS b4
 have ht2 := (unhide Ht).new hS b4
 have hn := unhide Hn
 exact ⟨z33j hp2 ht2 hn hc hc2 L4 P4 (New.at (by (have := z33eQ; have := z33fQ; have := z33gQ; have := z33hQ; have := z33iQ; omega)) L4.lt) (New.at (Nat.le_refl _) P4.lt) ha hs, z33k hp2 ht2 hn hc hc2 L4 P4 (New.at (by (have := z33eQ; have := z33fQ; have := z33gQ; have := z33hQ; have := z33iQ; omega)) L4.lt) (New.at (Nat.le_refl _) P4.lt) ha hs, z33l hp2 ht2 hn hc hc2 L4 P4 (New.at (by (have := z33eQ; have := z33fQ; have := z33gQ; have := z33hQ; have := z33iQ; omega)) L4.lt) (New.at (Nat.le_refl _) P4.lt) ha hs⟩) : G := h
theorem sh34 {G : Prop} (h : G := by
 obtain ⟨k, caps, rfl, eg, hp⟩ := hp
 refine ⟨_, _, rfl, enters_of z34a (by kernel_rfl) rfl, ?_⟩
 intro w base p lv l q ty sh N x o hb hW hKp hKb hbs hT hSg hl
 have cb : w.cell? ⟨bx, 0, none⟩ = some (.func (.func k) #[] caps) := by simpa using (hb.arr hA hbx).cell 0
 have ca : w.cell? ⟨q, o + a, none⟩ = some (.int .i64 (sft o x a)) := by rw [hSg.cell hT a ha, hs]; rfl
 have hC := hp w q o hb
 have hU := wU32_any base p lv l 0 (IntKind.u32.wrap (sft o x a)) w hW (wrap32_nn _) (by omega) hbs
 generalize hy : sft o x a = y at *
 have HP : Hid (bZ (beB 4 (IntKind.u32.wrap y)) (l, 0) = (l ++ (aO a least mo).enc (sft o x), 0)) := by
  show _ = _
  simp only [bZ, aO, hy, if_true]; rfl
 clear hp hSg hl
 simp only [Enters] at eg
 go_enter z34a, z34b
 go_wp2_with (first
  | (go_at_fn k; refine hC.mono ?_; rintro e w' ⟨rfl, hw⟩; have hw := hw.symm; subst hw)
  | (go_at_call 303; refine hU.mono ?_; rintro e w' hF; rw [unhide HP] at hF; obtain ⟨rfl, hF⟩ := hF))
 go_end0
 exact ⟨rfl, hF⟩) : G := h
theorem sh35 {G : Prop} (h : G := by
 exact sh159) : G := h
theorem sh36 {G : Prop} (h : G := by
 refine stY2 ?_
 refine bG (by kernel_rfl) fun K1 hK1 => ?_
 go_simp
 refine hK1 _ _ ?_
 clear hK1 K1
 refine bG (by kernel_rfl) fun K1 hK1 => ?_
 go_simp
 refine hK1 _ _ ?_
 clear hK1 K1
 refine bG (by kernel_rfl) fun K1 hK1 => ?_
 go_simp
 refine hK1 _ _ ?_
 clear hK1 K1
 refine bG (by kernel_rfl) fun K1 hK1 => ?_
 go_simp
 refine hK1 _ _ ?_
 clear hK1 K1
 refine bG (by kernel_rfl) fun K1 hK1 => ?_
 go_simp
 refine hK1 _ _ ?_
 clear hK1 K1
 refine bG (by kernel_rfl) fun K1 hK1 => ?_
 refine wp_load_mid 30 (.tmp 19) rfl w.heap.size 198 rfl X2 _ (unhide R2) Tryz.underlying30 rfl (unhide HZ2) ?_
 exact sh180) : G := h
theorem sh37 {G : Prop} (h : G := by
 refine wp_region_noPanic ?_
 refine wp_region_held_drew (S := fun w' => w'.rangeAt q 0 X ∧ w'.rangeAt q 0 XC ∧ w'.rangeAt q 35 (U8 G0) ∧ w'.rangeAt q 99 (U8 G1)) (by kernel_rfl) ⟨rW, rC, rg0, rg1⟩ (fun hHeld => ?_)
 have hKeep : ∀ (a c : World), c.heap[q]? = a.heap[q]? → (a.rangeAt q 0 X ∧ a.rangeAt q 0 XC ∧ a.rangeAt q 35 (U8 G0) ∧ a.rangeAt q 99 (U8 G1)) → (c.rangeAt q 0 X ∧ c.rangeAt q 0 XC ∧ c.rangeAt q 35 (U8 G0) ∧ c.rangeAt q 99 (U8 G1)) := fun a c h hh => ⟨fun j v hj => (World.cell?_of_block h).trans (hh.1 j v hj), fun j v hj => (World.cell?_of_block h).trans (hh.2.1 j v hj), fun j v hj => (World.cell?_of_block h).trans (hh.2.2.1 j v hj), fun j v hj => (World.cell?_of_block h).trans (hh.2.2.2 j v hj)⟩
 refine tkY 0 (.agg #[.slice none 0 0, .slice none 0 0]) rfl (dB (by rfl) _ _ rfl _ (by kernel_rfl)) hHeld ?_
 refine tkS 1 (.pointer (some ⟨q, 0, none⟩)) rfl hHeld ?_
 refine tkY 2 _ rfl (yieldsIf_load_mid (by rfl) _ _ rfl _ _ rfl _ _ (fun _ h => h.2.1) Tryz.underlying32 rfl hZC) hHeld ?_
 refine tkS 4 (.pointer (some ⟨q, 0, none⟩)) rfl hHeld ?_
 refine tkS 5 (.pointer (some ⟨q, 35, none⟩)) rfl hHeld ?_
 refine tkY 6 _ rfl (yieldsIf_load_mid (by rfl) _ _ rfl _ _ rfl _ _ (fun _ h => h.2.2.1) Tryz.underlying30 rfl hZg0) hHeld ?_
 refine tkY 8 _ rfl (yieldsIf_load_mid (by rfl) _ _ rfl _ _ rfl _ _ (fun _ h => h.1) z37a rfl hZW) hHeld ?_
 refine tkS 10 (.pointer (some ⟨q, 99, none⟩)) rfl hHeld ?_
 refine tkY 11 _ rfl (yieldsIf_load_mid (by rfl) _ _ rfl _ _ rfl _ _ (fun _ h => h.2.2.2) Tryz.underlying30 rfl hZg1) hHeld ?_
 refine tkS 13 (.int .i64 k) rfl hHeld ?_
 have hq0 : q < W.heap.size := by omega
 clear rW rC rg0 rg1 hZW hZC hZg0 hZg1
 refine rdY 3 rfl fun K hK => ?_
 go_simp
 refine (hS0 W.drew).mono ?_
 rintro e y0 ⟨s0, rfl, hs0, hsl0, hsf0, hBs0⟩
 have hsv0 : s0.v = .slice s0.a s0.n s0.c := rfl
 have bY0 : Below W.heap.size W y0 := cJ hBs0 (Nat.le_refl _)
 have RS0 := RSads.nil y0 W.heap.size
 have o10 : s0.Off (Value.slice none 0 0).ownBlock := fun _ _ _ e => by simp [Value.ownBlock] at e
 have o20 := o10
 have hsb0 : ∀ y, s0.a = some y → W.heap.size ≤ y.block := hsf0
 refine hK.out _ _ (hKeep W.drew y0 (hBs0.block q (by exact hq0)) hHeld) (fun hHeld => ?_)
 clear hK K hS0
 have hC := gR y0 W.heap.size (.slice none 0 0) (.slice none 0 0) [] [] s0 G0 RS0 (by simp) hs0 o10 o20 hsb0 hG0 hB0 bY0.size
 rw [hsl0, hsv0] at hC
 refine rdY 7 rfl fun K hK => ?_
 go_simp
 refine hC.mono ?_
 rintro e y1 ⟨x0, z0, rfl, RS1, hBw0, -⟩
 have bY1 : Below W.heap.size W y1 := bY0.trans hBw0
 refine hK.out _ _ (hKeep y0 y1 (hBw0.block q hq0) hHeld) (fun hHeld => ?_)
 clear hK K hC
 refine rdY 9 rfl fun K hK => ?_
 go_simp
 refine (hS1 y1).mono ?_
 rintro e y2 ⟨s1, rfl, hs1, hsl1, hsf1, hBs1⟩
 have hsv1 : s1.v = .slice s1.a s1.n s1.c := rfl
 have bY2 : Below W.heap.size W y2 := bY1.trans (hBs1.mono bY1.size)
 have RS2 := RS1.later hBs1
 have o11 : s1.Off (x0).ownBlock := Sl.Off.of (B := 0) RS1.l1 hsf1
 have o21 : s1.Off (z0).ownBlock := Sl.Off.of (B := 0) RS1.l2 hsf1
 have hsb1 : ∀ y, s1.a = some y → W.heap.size ≤ y.block := fun y hy => by have := hsf1 y hy; have := bY1.size; omega
 refine hK.out _ _ (hKeep y1 y2 (hBs1.block q (by have := bY1.size; omega)) hHeld) (fun hHeld => ?_)
 clear hK K hS1
 have hC := gR y2 W.heap.size x0 z0 ([] ++ [s0]) ([] ++ [(L0, G0)]) s1 G1 RS2 (by simp) hs1 o11 o21 hsb1 hG1 hB1 bY2.size
 rw [hsl1, hsv1] at hC
 refine rdY 12 rfl fun K hK => ?_
 go_simp
 refine hC.mono ?_
 rintro e y3 ⟨x1, z1, rfl, RS3, hBw1, -⟩
 have bY3 : Below W.heap.size W y3 := bY2.trans hBw1
 refine hK.out _ _ (hKeep y2 y3 (hBw1.block q hq0) hHeld) (fun hHeld => ?_)
 clear hK K hC
 have hARF : Arr y3 w.heap.size 234 [.slice none 0 0, .slice none 0 0] := (bY3.block _ (by omega)).trans hAR
 have b9 : But w.heap.size y3 (y3.setRow w.heap.size #[x1, z1]) := (But.refl _ _).setRow _
 have RSF := RS3.but b9 (by omega)
 obtain ⟨ax, cx, hx1⟩ := bK RS3.l1
 obtain ⟨az, cz, hz1⟩ := bK RS3.l2
 have bYF := (hbW.trans ((bY3.mono hbW.size).trans (fF b9 (by have := hbW.size; have := bY3.size; omega) (Nat.le_refl _))))
 have HPO : Hid (gA EE k w (.returned (.tuple #[.agg #[x1, z1], .int .i64 k])) (y3.setRow w.heap.size #[x1, z1])) := aA ⟨_, _, (([] ++ [s0]) ++ [s1]), rfl, by rw [unhide HEE]; simpa using RSF.mono hbW.size, bYF⟩
 have hoc9 : (#[x1, z1] : Array Value).all (·.oneCell') = true := by rw [hx1, hz1]; simp [Value.oneCell']
 clear hx1 hz1
 refine rdY 14 rfl fun K hK => ?_
 refine eH rfl 234 (.tmp 4) (.tmp z37b) rfl w.heap.size #[x1, z1] rfl rfl 234 #[.slice none 0 0, .slice none 0 0] hARF (by kernel_rfl) rfl hoc9 ?_
 simp only [Act.put]
 refine hK.out _ _ (hKeep y3 _ (b9.block q (by have := bY3.size; omega) (by omega)) hHeld) (fun hHeld => ?_)
 clear hK K
 refine tkS 15 (.int .i64 k) rfl hHeld ?_
 refine wpAnyH_done (by kernel_rfl) ?_ _
 unfold NoPanic
 clear hHeld
 go_wp2
 refine bodyPost_ret (bT rfl _ _ w.heap.size 234 #[x1, z1] (0, 0) _ rfl (.int .i64 k) rfl (setRow_heap _ w.heap.size _ _ _ _ hARF) Tryz.underlying234 rfl (by kernel_rfl)) rfl ?_
 exact unhide HPO) : G := h
theorem sh38 {G : Prop} (h : G := by
 have hzb : Tryz.prog.built 234 [] = some #[.slice none 0 0, .slice none 0 0] := by kernel_rfl
 go_enter Tryz.func84, Tryz.ntmps84
 go_wp2_with fail
 refine hDm.mono ?_
 rintro e w1 ⟨rfl, hB1⟩
 clear hDm
 go_upto_region 4 with fail
 refine wp_region_lit ?_
 refine eL rfl 234 _ rfl #[.slice none 0 0, .slice none 0 0] (by simpa using hzb) ?_
 simp only [Act.put]
 refine cV ?_
 have A2 := Arr.new w1 234 [.slice none 0 0, .slice none 0 0]
 refine wpList_store_row rfl 234 (.tmp 7) (.tmp 16) rfl w1.heap.size #[.slice none 0 0, .slice none 0 0] rfl rfl 234 #[.slice none 0 0, .slice none 0 0] A2 (by kernel_rfl) rfl (by simp [Value.oneCell']) ?_
 refine wpList_nil ?_
 simp only [Act.put]
 have A3 : Arr ((w1.alloc (.cells #[.slice none 0 0, .slice none 0 0] 234)).setRow w1.heap.size #[.slice none 0 0, .slice none 0 0]) w1.heap.size 234 [.slice none 0 0, .slice none 0 0] := A2.setRow [.slice none 0 0, .slice none 0 0]
 have b3 : Below w1.heap.size w1 ((w1.alloc (.cells #[.slice none 0 0, .slice none 0 0] 234)).setRow w1.heap.size #[.slice none 0 0, .slice none 0 0]) := bJ (aJ w1 _) (Nat.le_refl _) _
 have hb3 := hB1.trans (b3.mono hB1.size)
 have hs1 := hB1.size
 clear A2 b3 hB1
 generalize hq : w1.heap.size = q at *
 generalize (w1.alloc (.cells #[.slice none 0 0, .slice none 0 0] 234)).setRow q #[.slice none 0 0, .slice none 0 0] = W3 at *
 have hcc := hC W3 hb3
 clear hC hq
 have hqlt := A3.lt
 go_wp2_with fail
 refine hcc.mono ?_
 rintro e w4 ⟨v1, v2, ss, rfl, RS, hB4⟩
 obtain ⟨a1, c1, hv1⟩ := bK RS.l1
 obtain ⟨a2, c2, hv2⟩ := bK RS.l2
 have HV1 := aA hv1
 have HV2 := aA hv2
 have hoc := (by rw [hv1, hv2]; simp [Value.oneCell'] : (#[v1, v2] : Array Value).all (·.oneCell') = true)
 clear hv1 hv2
 have A4 := A3.later hB4
 have b9 : But q w4 (w4.setRow q #[v1, v2]) := (But.refl _ _).setRow _
 have RS9 := RS.but b9 hqlt
 have A9 : Arr (w4.setRow q #[v1, v2]) q 234 [v1, v2] := A4.setRow [v1, v2]
 have hb4 := hb3.trans (hB4.mono hb3.size)
 have hb9 : Below w.heap.size w (w4.setRow q #[v1, v2]) := hb4.trans (fF b9 hb4.size hs1)
 have c0 : (w4.setRow q #[v1, v2]).cell? ⟨q, 0, none⟩ = some v1 := by rw [A9.cell]; rfl
 have cc1 : (w4.setRow q #[v1, v2]).cell? ⟨q, 1, none⟩ = some v2 := by rw [A9.cell]; rfl
 have HRS := aA (RS9.mono hb3.size)
 have HA4 := aA A4
 have HB9 := aA hb9
 clear hcc RS hB4 A4 b9 RS9 A9 hb4 hb9 hb3 A3
 simp only []
 go_at_K
 rename_i hK
 refine hK _ _ ?_
 clear hK
 refine stY3 ?_
 refine wpList_store_row rfl 234 (.tmp 7) (.tmp z38a) rfl q #[v1, v2] rfl rfl 234 #[.slice none 0 0, .slice none 0 0] (unhide HA4) (by kernel_rfl) rfl hoc ?_
 simp only [Act.put]
 generalize w4.setRow q #[v1, v2] = W9 at *
 clear hoc HA4
 have hv1 := unhide HV1
 have hv2 := unhide HV2
 clear HV1 HV2
 subst hv1 hv2
 by_cases hk : k = 0
 ·subst hk
  go_wp2
  go_region
  go_wp2
  go_ret3
  exact ⟨_, _, ss, rfl, (unhide HRS).later (cN (Below.refl _ _) 1), fL (unhide HB9) 1⟩
 ·have HS : Hid (sgE k E = []) := aA (by unfold sgE; rw [if_neg hk])
  go_wp2
  go_ret3
  exact ⟨.slice none 0 0, .slice none 0 0, [], rfl, by rw [unhide HS]; exact RSads.nil _ _, unhide HB9⟩) : G := h
theorem sh39 {G : Prop} (h : G := by
 generalize cl z39a 163 x = X at *
 generalize cl aD 99 x = XC at *
 generalize run x 99 64 = G at *
 clear hL
 go_enter z39b, z39c
 go_wp2
 generalize w.alloc (.cells X.toArray z39d) = W at *
 have hC := hCP W.drew
 refine wp_region_noPanic ?_
 refine wp_region_held_drew (S := fun w' => w'.rangeAt w.heap.size 0 X ∧ w'.rangeAt w.heap.size 99 (U8 G) ∧ w'.rangeAt w.heap.size 0 XC) (by kernel_rfl) ⟨r1, r2, r3⟩ (fun hHeld => ?_)
 have hKeep : ∀ (a b : World), (∀ k, k < a.heap.size → b.heap[k]? = a.heap[k]?) → w.heap.size < a.heap.size → (a.rangeAt w.heap.size 0 X ∧ a.rangeAt w.heap.size 99 (U8 G) ∧ a.rangeAt w.heap.size 0 XC) → (b.rangeAt w.heap.size 0 X ∧ b.rangeAt w.heap.size 99 (U8 G) ∧ b.rangeAt w.heap.size 0 XC) := fun a b h hl hh => ⟨fun j v hj => (World.cell?_of_block (h _ hl)).trans (hh.1 j v hj), fun j v hj => (World.cell?_of_block (h _ hl)).trans (hh.2.1 j v hj), fun j v hj => (World.cell?_of_block (h _ hl)).trans (hh.2.2 j v hj)⟩
 refine tkS 0 (.pointer (some ⟨w.heap.size, 0, none⟩)) rfl hHeld ?_
 refine tkY 1 _ rfl (yieldsIf_load_mid (by rfl) _ _ rfl _ _ rfl _ _ (fun _ h => h.2.2) Tryz.underlying32 rfl hZC) hHeld ?_
 refine tkY 3 _ rfl (yieldsIf_load_mid (by rfl) _ _ rfl _ _ rfl _ _ (fun _ h => h.1) z39e rfl hZ) hHeld ?_
 refine tkS 5 (.pointer (some ⟨w.heap.size, 99, none⟩)) rfl hHeld ?_
 refine tkY 6 _ rfl (yieldsIf_load_mid (by rfl) _ _ rfl _ _ rfl _ _ (fun _ h => h.2.1) Tryz.underlying30 rfl hZG) hHeld ?_
 refine rdY 2 rfl fun K hK => ?_
 go_simp
 refine hC.mono ?_
 rintro e w1 ⟨v1, ps, rfl, hP1, hE1, hB1⟩
 have hlt1 : w.heap.size < w1.heap.size := Nat.lt_of_lt_of_le hlt hB1.size
 have hl1 : ps.length = 1 := by have := congrArg List.length hE1; simpa using this
 obtain ⟨av1, cv1, rfl⟩ := bK hP1.own
 rw [hl1]
 refine hK.out _ _ (hKeep _ _ hB1.block hlt hHeld) (fun hHeld => ?_)
 clear hK K hC
 have hD := hSay w1
 refine rdY 4 rfl fun K hK => ?_
 go_simp
 refine hD.mono ?_
 intro e w2 hT
 obtain ⟨av, cv, rfl, hown, hB2⟩ := hT.ownB
 refine hK.out _ _ (hKeep _ _ hB2.block hlt1 hHeld) (fun hHeld => ?_)
 have hlt2 : w.heap.size < w2.heap.size := Nat.lt_of_lt_of_le hlt1 hB2.size
 clear hK K hD hT hSay hCP
 have hbd := jV hown G hGl
 have hrun := jU w2 ⟨.slice av L.length cv, L, G⟩ hGl
 have hb3 : Below w2.heap.size w2 (w2.alloc (.cells (Prt.cells ⟨.slice av L.length cv, L, G⟩).toArray 232)) := aJ w2 _
 have hP3 := (hP1.later hB2).later hb3
 have hO3 : cI (w2.alloc (.cells (Prt.cells ⟨.slice av L.length cv, L, G⟩).toArray 232)) W.heap.size (.slice av L.length cv) L := (hown.later hb3).mono hB1.size
 have hnews := fX (Arr.new w2 232 (Prt.cells ⟨.slice av L.length cv, L, G⟩))
 have hoc := nM (p := ⟨.slice av L.length cv, L, G⟩) hO3
 have hcl : (Prt.cells ⟨.slice av L.length cv, L, G⟩).length = 65 := Prt.len (p := ⟨.slice av L.length cv, L, G⟩) hGl
 have hs3 : W.heap.size ≤ (w2.alloc (.cells (Prt.cells ⟨.slice av L.length cv, L, G⟩).toArray 232)).heap.size := Nat.le_trans hB1.size (Nat.le_trans hB2.size hb3.size)
 have hbW : Below W.heap.size W (w2.alloc (.cells (Prt.cells ⟨.slice av L.length cv, L, G⟩).toArray 232)) := (cJ hB1 (Nat.le_refl _)).trans ((hB2.trans (hb3.mono hB2.size)).mono hB1.size)
 have HA : Hid (∀ v' w', w'.ownsRow W.heap.size 232 65 v' (1 + 1) (ps.flatMap Prt.cells ++ Prt.cells ⟨.slice av L.length cv, L, G⟩) → (w2.alloc (.cells (Prt.cells ⟨.slice av L.length cv, L, G⟩).toArray 232)).grownBy w' (.slice av1 ps.length cv1 : Value).ownBlock → jC [cT x, (L, G)] w (.returned v') w' ∧ ∀ k, k < W.heap.size → w'.heap[k]? = W.heap[k]?) := by
  intro v' w' ho hg
  have hp' := Prts.app (p := ⟨.slice av L.length cv, L, G⟩) hP3 hO3 hGl hGB (by rw [hl1]; exact ho) hg (fun q hq g hg1 hg2 => Nat.lt_irrefl _ (Nat.lt_of_lt_of_le ((hP1.each q hq).1.1.lt g hg1).2 (hown.1.lt g hg2).1))
  have hbe : Below W.heap.size (w2.alloc (.cells (Prt.cells ⟨.slice av L.length cv, L, G⟩).toArray 232)) w' := iR (row := none) hP3.own hg (Nat.le_refl _) hs3
  refine ⟨⟨v', ps ++ [⟨.slice av L.length cv, L, G⟩], rfl, hp'.mono b1.size, by rw [List.map_append, hE1]; rfl, b1.trans ((hbW.trans hbe).mono b1.size)⟩, fun k hk => (hbW.trans hbe).block k hk⟩
 have hown3 := hP3.own
 rw [hl1] at hown3 HA
 clear hP3 hO3 hown hP1 hE1 hB1 hB2 hbW
 generalize hXS : ps.flatMap Prt.cells = XS at *
 generalize hCC : Prt.cells ⟨.slice av L.length cv, L, G⟩ = C at *
 clear hCC hXS hl1 ps
 generalize L.length = m at *
 refine tkY 7 (.agg C.toArray) rfl (dB (by rfl) _ _ rfl _ (by simpa [Act.eval] using hbd)) hHeld ?_
 refine rdY 8 rfl fun K hK => ?_
 refine lY rfl _ _ _ rfl _ _ (by simpa [Act.eval] using hrun) ?_
 simp only [Act.put]
 refine hK.out _ _ (hKeep _ _ hb3.block hlt2 hHeld) (fun hHeld => ?_)
 clear hK K hrun hbd
 have hlt3 := Nat.lt_of_lt_of_le hlt2 hb3.size
 refine rdY 9 rfl fun K hK => ?_
 refine mP rfl (.tmp 5) (.tmp 11) 228 rfl W.heap.size 232 it (.agg Z.toArray) 65 88 Tryz.underlying228 hi hz hs hb (by simp [Value.cells, hZl]) (by decide) (.slice av1 1 cv1) 1 XS rfl hown3 ⟨w2.heap.size, 0, none⟩ 1 1 C rfl (by rw [hcl]) hnews hoc (by unfold maxLen; omega) (by omega) hs3 (fun v' w' ho hg => ?_)
 obtain ⟨hPP, hbk⟩ := unhide HA v' w' ho hg
 obtain ⟨av', cv', rfl⟩ := bK ho
 refine hK.out _ _ (hKeep W w' hbk hlt ⟨r1, r2, r3⟩) (fun hHeld => ?_)
 clear hK K HA ho hg hbk hnews hoc hown3
 refine tkS 10 (.slice av' (1 + 1) cv') rfl hHeld ?_
 refine wpAnyH_done (by kernel_rfl) ?_ _
 unfold NoPanic
 clear hHeld
 go_wp2
 go_ret
 exact hPP) : G := h
theorem sh40 {G : Prop} (h : G := by
 clear hp hSg hl
 simp only [Enters] at eg
 go_enter z40a, z40b
 go_wp2_with (first
  | (go_at_fn k; refine hC.mono ?_; rintro e w' ⟨rfl, hw⟩; have hw := hw.symm; subst hw)
  | (go_at_call 286; refine hU.mono ?_; rintro e w' hF; rw [unhide HP] at hF; obtain ⟨rfl, hF⟩ := hF))
 go_end0
 exact ⟨rfl, hF⟩) : G := h
theorem sh41 {G : Prop} (h : G := by
 exact sh180) : G := h
theorem sh42 {G : Prop} (h : G := by
 rw [hfl]
 clear hfl
 have hU := hSay _ _ _ _ hTab hB1.size
 refine hK.out _ _ (fun j v hj => (World.cell?_of_block (hB1.block _ hlt)).trans (hHeld j v hj)) (fun hHeld => ?_)
 have hlt1 : w.heap.size < w1.heap.size := Nat.lt_of_lt_of_le hlt hB1.size
 clear hK K hTab hC hSay
 refine rdY 2 rfl fun K hK => ?_
 go_simp
 refine hU.mono ?_
 rintro e w2 ⟨av, cv, rfl, hown, hLB, hB2⟩
 refine hK.out _ _ (fun j v hj => (World.cell?_of_block (hB2.block _ hlt1)).trans (hHeld j v hj)) (fun hHeld => ?_)
 clear hK K hU
 refine tkS 3 (.slice av L.length cv) rfl hHeld ?_
 refine wpAnyH_done (by kernel_rfl) ?_ _
 unfold NoPanic
 clear hHeld
 go_wp2
 go_ret
 have hb1 := unhide HB
 exact ⟨av, cv, rfl, dC hown (Nat.le_trans hb1.size hB1.size), hLB, (hb1.trans (cJ hB1 hb1.size)).trans (hB2.mono (Nat.le_trans hb1.size hB1.size))⟩) : G := h
theorem sh43 {G : Prop} (h : G := by
 have z43aq := z43aQ
 have z43cq := z43cQ
 have hok : ∀ i, i < z43a → (z43b i).ok ((decL z43c (aB z43d) b.l).1 i) := by
  obtain ⟨e, w', -, h, -⟩ := oH (z43e b w hb)
  exact h
 rw [z43f]
 by_cases h0 : (decL z43c (aB z43d) b.l).2 = 0
 ·have hz : decL z43c (aB z43d) b.l = ((decL z43c (aB z43d) b.l).1, 0) := by rw [← h0]
  have := said_all b w hb z43c _ (by simp) hd (fun W hW => z43g W b (hb.later hW) _ _ hz (fun _ _ => rfl) hok)
  rw [h0]
  exact this.mono fun e w' h => PSg.yes h
 ·have hz : decL z43c (aB z43d) b.l = (fun _ => 0, (decL z43c (aB z43d) b.l).2) := dec_zero h0
  have hs : ∀ E, sgE (decL z43c (aB z43d) b.l).2 E = [] := fun E => by unfold sgE; rw [if_neg h0]
  rw [hs]
  exact (said_no b w hb z43c _ h0 hd (fun W hW => z43h W b (hb.later hW) _ h0 hz)).mono fun e w' h => PSg.no h) : G := h
theorem sh44 {G : Prop} (h : G := by
 exact sh160) : G := h
theorem sh45 {G : Prop} (h : G := by
 obtain ⟨k, caps, rfl, eg, hp⟩ := hp
 refine ⟨_, _, rfl, enters_of z45a (by kernel_rfl) rfl, ?_⟩
 intro w p s fl q ty sh N x o hb hR hKp hKq hT hSg hq hn
 have cb : w.cell? ⟨bx, 0, none⟩ = some (.func (.func k) #[] caps) := by simpa using (hb.arr hA hbx).cell 0
 have hC := hp w q o hb
 have hU := rU32_any p s fl w hR
 have HF := fun W e => num_step (W := W) (e := e) (least := least) (mo := mo) hT hR hq hSg ha hs
 clear hp hSg
 simp only [Enters] at eg
 go_enter z45a, z45b
 go_wp2_with (first
  | (go_at_fn k; refine hC.mono ?_; rintro e w' ⟨rfl, hw⟩; have hw := hw.symm; subst hw)
  | (go_at_call 305; refine hU.mono ?_; rintro e w' hF; obtain ⟨y, t, fl', rfl, fz, ca, hwr, HG⟩ := HF _ _ hF))
 go_end0
 exact ⟨rfl, t, fl', _, unhide HG⟩) : G := h
theorem sh46 {G : Prop} (h : G := by
 have HL : Hid (tellL z46a (aB z46b) x = []) := aA (by unfold tellL; rw [hf]; rfl)
 rw [unhide HL]
 rw [hf] at hOf
 clear hf
 go_enter z46c, z46d
 go_upto_region 1 with fail
 generalize hW : w.alloc (.cells X.toArray z46e) = W at *
 have EW := aA hW
 clear hW
 refine wp_region_lit ?_
 refine wpList_load_mid rfl z46e (.tmp 1) rfl w.heap.size 0 rfl X _ (unhide HR) z46f rfl hZ ?_
 exact sh169) : G := h
theorem sh47 {G : Prop} (h : G := by
 have z47aq := z47aQ
 have z47bq := z47bQ
 simp only [Act.put]
 refine eL rfl z47a _ rfl M.toArray (by have hb := unhide HBT; simpa [Act.eval, prts] using hb) ?_
 refine wpList_store_row rfl z47a (.tmp 2) (.tmp z47b) rfl (w.heap.size + 1) M.toArray rfl rfl z47a Z.toArray (unhide HA) (unhide HS) (unhide HL2) (unhide HOC) ?_
 refine wpList_nil ?_
 go_wp2
 refine bodyPost_ret (results_cell_row rfl _ _ (w.heap.size + 1) z47a M.toArray (0, 0) _ rfl (setRow_heap _ (w.heap.size + 1) _ _ _ _ (unhide HA)) z47c rfl (unhide HS)) rfl ?_
 exact ⟨rfl, bJ (unhide HB) (Nat.le_succ _) _⟩) : G := h
theorem sh48 {G : Prop} (h : G := by
 have z48aq := z48aQ
 go_wp2_with fail
 refine hC.mono ?_
 rintro e w4 ⟨s, rfl, hs, hsl, hat, hB⟩
 have hne : tellL z48a (aB z48b) x ≠ [] := fun h => by rw [unhide HL] at h; simp [hdL] at h
 have HE : Hid (REP (tellL z48a (aB z48b) x) w (.returned (.tuple #[s.v, .int .i64 0])) w4) := aA ⟨s, by rw [if_neg hne], hs, by rw [hsl, unhide HL], hat, hB⟩
 clear hC hs hsl hat hB hne
 exact sh167) : G := h
theorem sh49 {G : Prop} (h : G := by
 have z49eq := z49eQ
 have z49fq := z49fQ
 have z49gq := z49gQ
 have z49hq := z49hQ
 have z49iq := z49iQ
 have hmf : ∀ (fn : Fn) (first cap : Array Value) (w : World), (Instr.makeFunc fn first cap).run Tryz.prog w = .ok (.func fn first cap) w := fun _ _ _ _ => rfl
 have hp' := hp
 obtain ⟨k, caps, rfl, -, -⟩ := hp
 have Hp := aA hp'
 clear hp'
 go_enter z49a, z49b
 go_wp2
 refine bodyPost_ret (jT rfl _ _ _ _ _ _ _ (by simp) z49c rfl z49d) rfl ?_
 have b3 : Below w.heap.size w ((w.alloc (.cells #[.func (.func k) #[] caps] z49e)).alloc (.cells #[.int .i64 most] 2)) := bV (aJ w _) _ (by simp)
 have P3 := (Arr.new w z49e [.func (.func k) #[] caps]).alloc (.cells #[.int .i64 most] 2)
 have L3 := Arr.new (w.alloc (.cells #[.func (.func k) #[] caps] z49e)) 2 [.int .i64 most]
 have s1 : (w.alloc (.cells #[.func (.func k) #[] caps] z49e)).heap.size = w.heap.size + 1 := by simp
 rw [s1] at L3
 generalize (w.alloc (.cells #[.func (.func k) #[] caps] z49e)).alloc (.cells #[.int .i64 most] 2) = w3 at *
 refine ⟨⟨_, _, _, _, _, _⟩, rfl, ?_, bV b3 _ b3.size⟩
 have P4 := P3.alloc (.cells #[.func (.func z49f) #[] #[.pointer (some ⟨w.heap.size, 0, none⟩)], .func (.func z49g) #[] #[.pointer (some ⟨w.heap.size, 0, none⟩)], .func (.func z49h) #[] #[.pointer (some ⟨w.heap.size, 0, none⟩), .pointer (some ⟨w.heap.size + 1, 0, none⟩)]] z49i)
 have L4 := L3.alloc (.cells #[.func (.func z49f) #[] #[.pointer (some ⟨w.heap.size, 0, none⟩)], .func (.func z49g) #[] #[.pointer (some ⟨w.heap.size, 0, none⟩)], .func (.func z49h) #[] #[.pointer (some ⟨w.heap.size, 0, none⟩), .pointer (some ⟨w.heap.size + 1, 0, none⟩)]] z49i)
 have b4 := bV b3 (.cells #[.func (.func z49f) #[] #[.pointer (some ⟨w.heap.size, 0, none⟩)], .func (.func z49g) #[] #[.pointer (some ⟨w.heap.size, 0, none⟩)], .func (.func z49h) #[] #[.pointer (some ⟨w.heap.size, 0, none⟩), .pointer (some ⟨w.heap.size + 1, 0, none⟩)]] z49i) b3.size
 have hp2 := (unhide Hp).new hS b4
 exact ⟨z49j hp2 P4 (New.at (Nat.le_refl _) P4.lt) ha hs, z49k hp2 P4 (New.at (Nat.le_refl _) P4.lt) ha hs, z49l hp2 P4 L4 (New.at (Nat.le_refl _) P4.lt) (New.at (by (have := z49eQ; have := z49fQ; have := z49gQ; have := z49hQ; have := z49iQ; omega)) L4.lt) ha hs⟩) : G := h
theorem sh50 {G : Prop} (h : G := by
 obtain ⟨Z, it, -, hZl, hit, hzz, hzv⟩ := z50a
 have b1 : Below w.heap.size w (w.alloc (.cells #[.int .i64 z50b, .int .i64 z50c, .slice (some ⟨g, 0, none⟩) z50d z50d] z50e)) := aJ w _
 have A1 := Arr.new w z50e [.int .i64 z50b, .int .i64 z50c, .slice (some ⟨g, 0, none⟩) z50d z50d]
 have c0 : (w.alloc (.cells #[.int .i64 z50b, .int .i64 z50c, .slice (some ⟨g, 0, none⟩) z50d z50d] z50e)).cell? ⟨w.heap.size, 0, none⟩ = some (.int .i64 z50b) := A1.cell 0
 have c1 : (w.alloc (.cells #[.int .i64 z50b, .int .i64 z50c, .slice (some ⟨g, 0, none⟩) z50d z50d] z50e)).cell? ⟨w.heap.size, 1, none⟩ = some (.int .i64 z50c) := A1.cell 1
 have c2 : (w.alloc (.cells #[.int .i64 z50b, .int .i64 z50c, .slice (some ⟨g, 0, none⟩) z50d z50d] z50e)).cell? ⟨w.heap.size, 2, none⟩ = some (.slice (some ⟨g, 0, none⟩) z50d z50d) := A1.cell 2
 have hD := z50f hTab _ z50b z50c b (hbo.later b1) (hb.below b1)
 have HM : Hid (∀ e w1, bU z50b (aB z50g) z50h z50i b.l (w.alloc (.cells #[.int .i64 z50b, .int .i64 z50c, .slice (some ⟨g, 0, none⟩) z50d z50d] z50e)) e w1 → e = .returned (.tuple #[.agg (cl z50h z50i x).toArray, .int .i64 0]) ∧ Below w.heap.size w w1) := by
  rintro e w1 ⟨rfl, -, hB⟩
  rw [hz]
  exact ⟨by rw [cl_ext hzx], b1.trans (hB.mono b1.size)⟩
 have hF := fun W => z50j W x hokm
 have hML : (cl z50h z50i x).length = z50i := aC _ _ _
 have hOC := cK z50h z50i x
 have eg := enters_of z50k (by kernel_rfl) rfl
 simp only [Enters] at eg
 have HZL := aA hZl
 clear hit hzz hZl hbo hb hTab hz hzx hokm A1 b1
 have hbv : b.v = .slice b.a b.n b.c := rfl
 rw [hbv] at hD ⊢
 generalize b.a = ba at *
 generalize b.n = bn at *
 generalize b.c = bc at *
 generalize b.l = bl at *
 clear hbv b
 generalize cl z50h z50i x = M at *
 have HML := aA hML
 have HOC := aA hOC
 have HSA : Hid ((Tryz.prog.info? z50l).map (·.size) = some M.toArray.size) := by
  show _ = _
  rw [List.size_toArray, hML]; exact z50m
 have HSM : Hid ((Tryz.prog.info? z50l).map (·.size) = some M.length) := by
  show _ = _
  rw [hML]; exact z50m
 have HLL : Hid (Z.toArray.size = M.toArray.size) := by
  show _ = _
  rw [List.size_toArray, List.size_toArray, hML, unhide HZL]
 clear hML hOC
 go_enter z50n, z50o
 go_wp2_with fail
 refine hD.mono ?_
 intro e w1 hP
 obtain ⟨rfl, hB1⟩ := unhide HM _ _ hP
 clear hD hP HM c0 c1 c2
 simp only []
 go_at_K
 rename_i hK
 refine hK _ _ ?_
 clear hK
 refine stY4 ?_
 have HA := aA (Arr.new w1 z50l Z)
 have HA2 : Arr ((w1.alloc (.cells Z.toArray z50l)).setRow w1.heap.size M.toArray) w1.heap.size z50l M := setRow_heap _ _ _ _ _ _ (unhide HA)
 have HB2 : Hid (Below w.heap.size w ((w1.alloc (.cells Z.toArray z50l)).setRow w1.heap.size M.toArray)) := aA (bJ (hB1.alloc hB1.size _) hB1.size _)
 refine wpList_store_row rfl z50l (.tmp 8) (.tmp 14) rfl w1.heap.size M.toArray rfl rfl z50l Z.toArray (unhide HA) (unhide HSA) (unhide HLL) (all_oneCell_toArray (unhide HOC)) ?_
 have RM := aA HA2.range
 clear HA HA2 hB1
 generalize (w1.alloc (.cells Z.toArray z50l)).setRow w1.heap.size M.toArray = W at *
 refine dO ?_
 have hC := hF W
 clear hF
 go_upto_region 4 with fail
 refine eI ?_
 refine wpList_load_mid rfl z50l (.tmp 8) rfl w1.heap.size 0 rfl M _ (unhide RM) z50p rfl (unhide HSM) ?_
 simp only [Act.put]
 refine wpList_plain rfl fun K1 hK1 => ?_
 go_simp
 refine hC.mono ?_
 rintro e w3 ⟨v, ps, rfl, hPr, hE, hB3⟩
 obtain ⟨av, cv, rfl⟩ := bK hPr.own
 have HE : Hid (cS ([cT x]) w (.returned (.tuple #[.slice av ps.length cv, .int .i64 0])) w3) := aA ⟨_, ps, rfl, hPr.mono (unhide HB2).size, hE, (unhide HB2).trans (hB3.mono (unhide HB2).size)⟩
 clear hC hPr hE hB3
 generalize ps.length = nn at *
 refine hK1 _ _ ?_
 clear hK1 K1
 go_wp2
 go_ret2
 exact unhide HE) : G := h
theorem sh51 {G : Prop} (h : G := by
 have z51cq := z51cQ
 have z51dq := z51dQ
 have z51gq := z51gQ
 have z51kq := z51kQ
 go_wp2_with fail
 have h2 := z51a (S := noS) (sT := z51b) (nT := z51c) (a := z51d) (n := 64) w1 _ (cD _) z51e (by decide) (fun i hi => by unfold z51b; rw [if_neg (by (have := z51cQ; have := z51dQ; have := z51gQ; have := z51kQ; omega))]) (by decide) (by decide)
 refine h2.mono ?_
 rintro e w2 ⟨v2, rfl, f2, c2⟩
 have F2 := aA f2
 have B2 := aA c2
 clear h2 f2 c2
 simp only []
 go_at_K
 rename_i hK
 refine hK _ _ ?_
 have hrun := run_bs w2 z51f z51g i0 [v1, v2] z51h hi hsz hzr (by simp) (by simp)
 refine mN rfl z51f 2 _ rfl (.slice (some ⟨w2.heap.size, 0, none⟩) 2 2) (w2.alloc (.cells (List.flatMap FV.l [v1, v2]).toArray z51g)) (by simpa [Act.eval, kS] using hrun) ?_
 clear hK hrun
 generalize hL : (List.flatMap FV.l [v1, v2]).toArray = L
 have HL := aA hL
 clear hL
 simp only [Act.put]
 have M5 : dR z51b z51c (w.alloc (.cells #[.int .i64 0, .int .i64 0, .slice none 0 0] z51i)) w2 z51j [v1, v2] :=
  .cons (unhide F1) (unhide B1) (.cons (unhide F2) (unhide B2) (.nil w2))
 have A0 : Arr (w2.alloc (.cells L z51g)) w.heap.size z51i [.int .i64 0, .int .i64 0, .slice none 0 0] := ((Arr.new w _ _).later M5.bel).alloc _
 have HD := aA (fun W => oD (W := W) (dom := z51k) (sgn := 1) (tyF := z51g) (by simp) (aJ w _) M5)
 rw [unhide HL] at HD
 clear F1 B1 F2 B2 M5 HL hi hsz hzr
 generalize w2.alloc (.cells L z51g) = W at *
 have c0 : W.cell? ⟨w.heap.size, 0, none⟩ = some (.int .i64 0) := by simpa using A0.cell 0
 have c1 : W.cell? ⟨w.heap.size, 1, none⟩ = some (.int .i64 0) := by simpa using A0.cell 1
 have c2 : W.cell? ⟨w.heap.size, 2, none⟩ = some (.slice none 0 0) := by simpa using A0.cell 2
 have z0 := A0.frozen 0
 have z1 := A0.frozen 1
 have z2 := A0.frozen 2
 go_wp2
 have A3 := ((A0.set 0 (.int .i64 z51k)).set 1 (.int .i64 1)).set 2 (.slice (some ⟨w2.heap.size, 0, none⟩) 2 2)
 refine bodyPost_ret (results_cell_row rfl _ _ w.heap.size z51i _ (0, 0) _ rfl A3 z51l rfl (by kernel_rfl)) rfl ?_
 exact sh164) : G := h
theorem sh52 {G : Prop} (h : G := by
 have z52bq := z52bQ
 have z52hq := z52hQ
 have z52iq := z52iQ
 refine h5.mono ?_
 rintro e w5 ⟨v5, rfl, f5, c5⟩
 have F5 := aA f5
 have B5 := aA c5
 clear h5 f5 c5
 simp only []
 go_at_K
 rename_i hK
 refine hK _ _ ?_
 have hrun := run_bs w5 z52a z52b i0 [v1, v2, v3, v4, v5] z52c hi hsz hzr (by simp) (by simp)
 refine mN rfl z52a 5 _ rfl (.slice (some ⟨w5.heap.size, 0, none⟩) 5 5) (w5.alloc (.cells (List.flatMap FV.l [v1, v2, v3, v4, v5]).toArray z52b)) (by simpa [Act.eval, kS] using hrun) ?_
 clear hK hrun
 generalize hL : (List.flatMap FV.l [v1, v2, v3, v4, v5]).toArray = L
 have HL := aA hL
 clear hL
 simp only [Act.put]
 have M5 : dR z52d z52e (w.alloc (.cells #[.int .i64 0, .int .i64 0, .slice none 0 0] z52f)) w5 z52g [v1, v2, v3, v4, v5] :=
  .cons (unhide F1) (unhide B1) (.cons (unhide F2) (unhide B2) (.cons (unhide F3) (unhide B3) (.cons (unhide F4) (unhide B4) (.cons (unhide F5) (unhide B5) (.nil w5)))))
 have A0 : Arr (w5.alloc (.cells L z52b)) w.heap.size z52f [.int .i64 0, .int .i64 0, .slice none 0 0] := ((Arr.new w _ _).later M5.bel).alloc _
 have HD := aA (fun W => oD (W := W) (dom := z52h) (sgn := z52i) (tyF := z52b) (by simp) (aJ w _) M5)
 rw [unhide HL] at HD
 clear F1 B1 F2 B2 F3 B3 F4 B4 F5 B5 M5 HL hi hsz hzr
 generalize w5.alloc (.cells L z52b) = W at *
 have c0 : W.cell? ⟨w.heap.size, 0, none⟩ = some (.int .i64 0) := by simpa using A0.cell 0
 have c1 : W.cell? ⟨w.heap.size, 1, none⟩ = some (.int .i64 0) := by simpa using A0.cell 1
 have c2 : W.cell? ⟨w.heap.size, 2, none⟩ = some (.slice none 0 0) := by simpa using A0.cell 2
 have z0 := A0.frozen 0
 have z1 := A0.frozen 1
 have z2 := A0.frozen 2
 go_wp2
 have A3 := ((A0.set 0 (.int .i64 z52h)).set 1 (.int .i64 z52i)).set 2 (.slice (some ⟨w5.heap.size, 0, none⟩) 5 5)
 refine bodyPost_ret (results_cell_row rfl _ _ w.heap.size z52f _ (0, 0) _ rfl A3 z52j rfl (by kernel_rfl)) rfl ?_
 exact sh164) : G := h
theorem sh53 {G : Prop} (h : G := by
  rw [fC]
  simp only [List.flatMap_cons, List.flatMap_nil, gO, cells_int, cells_bool, List.append_nil]
  repeat (apply congrArg₂ (· ++ ·))
  all_goals first
    | rfl
    | (refine cl_eq (fun i hi => ⟨?_, ?_⟩)
       · simp only [z53a, aD, sB]
         repeat (first | rw [if_pos (by omega)] | rw [if_neg (by omega)])
       · simp only [sft, z53b, cU]
         repeat (first | rw [if_pos (by omega)] | rw [if_neg (by omega)])
         try (first | rfl | (congr 1; omega)))) : G := h
theorem sh54 {G : Prop} (h : G := by
 rw [unhide HL]
 rw [hf] at hOf
 clear hf
 go_enter z54a, z54b
 go_upto_region 1 with fail
 generalize hW : w.alloc (.cells X.toArray z54c) = W at *
 have EW := aA hW
 clear hW
 refine wp_region_lit ?_
 refine wpList_load_mid rfl z54c (.tmp 1) rfl w.heap.size 0 rfl X _ (unhide HR) z54d rfl hZ ?_
 simp only [Act.put]
 refine wpList_plain rfl fun K1 hK1 => ?_
 go_simp
 refine (hOf W).mono ?_
 rintro e w1 ⟨rfl, hB1⟩
 have HB1 := aA ((unhide HB).trans (hB1.mono (unhide HB).size))
 clear hOf hB1
 refine hK1 _ _ ?_
 clear hK1 K1
 go_wp2
 go_ret
 exact RSP.nil (unhide HB1)) : G := h
theorem fU {G : Prop} (h : G := by
 refine ⟨_, _, rfl, enters_of z55a (by kernel_rfl) rfl, ?_⟩
 intro w q o hb
 clear hb
 go_enter z55a, z55b
 go_wp2
 go_ret
 exact ⟨rfl, rfl⟩) : G := h
theorem sh56 {G : Prop} (h : G := by
 have z56bq := z56bQ
 have z56hq := z56hQ
 have z56iq := z56iQ
 refine h3.mono ?_
 rintro e w3 ⟨v3, rfl, f3, c3⟩
 have F3 := aA f3
 have B3 := aA c3
 clear h3 f3 c3
 simp only []
 go_at_K
 rename_i hK
 refine hK _ _ ?_
 have hrun := run_bs w3 z56a z56b i0 [v1, v2, v3] z56c hi hsz hzr (by simp) (by simp)
 refine mN rfl z56a 3 _ rfl (.slice (some ⟨w3.heap.size, 0, none⟩) 3 3) (w3.alloc (.cells (List.flatMap FV.l [v1, v2, v3]).toArray z56b)) (by simpa [Act.eval, kS] using hrun) ?_
 clear hK hrun
 generalize hL : (List.flatMap FV.l [v1, v2, v3]).toArray = L
 have HL := aA hL
 clear hL
 simp only [Act.put]
 have M5 : dR z56d z56e (w.alloc (.cells #[.int .i64 0, .int .i64 0, .slice none 0 0] z56f)) w3 z56g [v1, v2, v3] :=
  .cons (unhide F1) (unhide B1) (.cons (unhide F2) (unhide B2) (.cons (unhide F3) (unhide B3) (.nil w3)))
 have A0 : Arr (w3.alloc (.cells L z56b)) w.heap.size z56f [.int .i64 0, .int .i64 0, .slice none 0 0] := ((Arr.new w _ _).later M5.bel).alloc _
 have HD := aA (fun W => oD (W := W) (dom := z56h) (sgn := z56i) (tyF := z56b) (by simp) (aJ w _) M5)
 rw [unhide HL] at HD
 clear F1 B1 F2 B2 F3 B3 M5 HL hi hsz hzr
 generalize w3.alloc (.cells L z56b) = W at *
 have c0 : W.cell? ⟨w.heap.size, 0, none⟩ = some (.int .i64 0) := by simpa using A0.cell 0
 have c1 : W.cell? ⟨w.heap.size, 1, none⟩ = some (.int .i64 0) := by simpa using A0.cell 1
 have c2 : W.cell? ⟨w.heap.size, 2, none⟩ = some (.slice none 0 0) := by simpa using A0.cell 2
 have z0 := A0.frozen 0
 have z1 := A0.frozen 1
 have z2 := A0.frozen 2
 go_wp2
 have A3 := ((A0.set 0 (.int .i64 z56h)).set 1 (.int .i64 z56i)).set 2 (.slice (some ⟨w3.heap.size, 0, none⟩) 3 3)
 refine bodyPost_ret (results_cell_row rfl _ _ w.heap.size z56f _ (0, 0) _ rfl A3 z56j rfl (by kernel_rfl)) rfl ?_
 exact sh164) : G := h
theorem sh57 {G : Prop} (h : G := by
 have z57aq := z57aQ
 have z57cq := z57cQ
 have h : (Tryz.prog.info? z57a).bind (·.zero) = some (.agg (cl z57b z57c (fun _ => 0)).toArray) := by kernel_rfl
 cases hit : Tryz.prog.info? z57a with
 | none => rw [hit] at h; simp at h
 | some it =>
  rw [hit] at h
  have hz : it.zero = some (.agg (cl z57b z57c (fun _ => 0)).toArray) := h
  exact ⟨_, it, rfl, aC _ _ _, rfl, hz, fun w => by simp [zeroValue, run_typeInfo w hit, hz]⟩) : G := h
theorem sh58 {G : Prop} (h : G := by
 refine wp_region_lit ?_
 refine wpList_load_mid rfl z58a (.tmp z58b) rfl q1 0 rfl M _ (unhide R1) z58c rfl (unhide HSM) ?_
 simp only [Act.put]
 refine wpList_load_mid rfl z58a (.tmp z58d) rfl q2 0 rfl M _ (unhide R2) z58c rfl (unhide HSM) ?_
 simp only [Act.put]
 go_wp2
 go_ret
 exact ⟨rfl, unhide HB⟩) : G := h
theorem sh59 {G : Prop} (h : G := by
 obtain ⟨k, caps, rfl, eg, hp⟩ := hp
 refine ⟨_, _, rfl, enters_of z59a (by kernel_rfl) rfl, ?_⟩
 intro w q ty sh N x o hb hT hSg
 have cb : w.cell? ⟨bx, 0, none⟩ = some (.func (.func k) #[] caps) := by simpa using (hb.arr hA hbx).cell 0
 have cm : w.cell? ⟨bm, 0, none⟩ = some (.int .i64 most) := by simpa using (hb.arr hM hbm).cell 0
 have ca : w.cell? ⟨q, o + a, none⟩ = some (.int .i64 (sft o x a)) := by rw [hSg.cell hT a ha, hs]; rfl
 have hC := fun n => hp (w.drewN n) q o (hb.drewN n)
 have HP : Hid ((aV a most).fit (sft o x) = (decide (0 ≤ sft o x a) && decide (sft o x a ≤ most))) := aA rfl
 generalize (aV a most).fit (sft o x) = R at *
 generalize sft o x a = y at *
 have hK := fun n => fL (Below.refl w.heap.size w) n
 clear hp hSg hb hT hA hM hbx hbm
 simp only [Enters] at eg
 by_cases h1 : 0 ≤ y
 ·rw [decide_eq_true h1, Bool.true_and] at HP
  go_enter z59a, z59b
  go_wp2
  go_quiet (first
   | (go_at_fn k; exact Calls.quiet_of_same (hC _)))
  go_wp2
  go_ret
  exact ⟨by rw [unhide HP]; rfl, hK _⟩
 ·have hd : decide (0 ≤ y) = false := decide_eq_false h1
  have HR : Hid (R = false) := by show R = false; rw [unhide HP, hd]; rfl
  clear h1 HP
  go_enter z59a, z59b
  go_wp2
  go_quiet (first
   | (go_at_fn k; exact Calls.quiet_of_same (hC _)))
  go_wp2
  go_ret
  exact ⟨by rw [unhide HR]; rfl, hK _⟩) : G := h
theorem sh60 {G : Prop} (h : G := by
 exact sh169) : G := h
theorem sh61 {G : Prop} (h : G := by
 have cb : w.cell? ⟨b, 0, none⟩ = some (.pointer (some ⟨p, 0, none⟩)) := by simpa using hb.cell 0
 have fz := hp.frozen 1
 have cp : w.cell? ⟨p, 1, none⟩ = some (.int .i64 f) := by simpa using hp.cell 1
 refine callsD_of_wpS z61a rfl fun c₀ cs hu => ?_
 apply wpS_seq
 apply wpS_region
 simp [wpOpsS, go_sem, recoverD, hu, z61b, Exit.thenS]
 refine wpS_of_wp ?_
 have ht : ∀ x y : Value, #[x] ++ ((Array.replicate 9 undef).setIfInBounds 1 y).setIfInBounds 0 y = #[x, y, y, undef, undef, undef, undef, undef, undef, undef] := fun _ _ => rfl
 rw [ht]
 have hta : ∀ w : World, (Instr.typeAssert (.iface 39 (.int .i64 c)) 20 39 false).run Tryz.prog w = .ok (.int .i64 c) w := fun _ => by kernel_rfl
 go_wp2
 go_region
 refine ⟨rfl, _, rfl, .tuple #[], ?_, rfl, rfl, ?_, ?_⟩
 ·simp [results, z61c]
 ·exact (hp.set 1 (.int .i64 c)).drewN 1
 ·exact ((But.refl p w).setCell 1 _).drew) : G := h
theorem sh62 {G : Prop} (h : G := by
 have z62bq := z62bQ
 have b0 : Below w.heap.size w (w.alloc (.cells (cl z62a 163 x).toArray z62b)) := aJ w _
 have T0 : Trm (w.alloc (.cells (cl z62a 163 x).toArray z62b)) w.heap.size z62b z62a 163 x := ⟨Arr.new w _ _, hok, by decide, by decide, by decide⟩
 have hSg : Seg aD 99 z62a 163 0 := ⟨by (have := z62bQ; omega), fun j hj => by rw [Nat.zero_add]; unfold z62a; rw [if_pos hj]⟩
 have hR := T0.part hSg
 rw [bF] at hR
 have hokC : ∀ i, i < 99 → (aD i).ok (x i) := fun i hi => by have := hok i (by (have := z62bQ; omega)); unfold z62a at this; rw [if_pos hi] at this; exact this
 have hOf := fun W => iZ x W hokC
 have hZ : (Tryz.prog.info? 32).map (·.size) = some (cl aD 99 x).length := by rw [aC]; exact Tryz.szKCert
 have HR := aA hR
 clear hSg hR hokC
 generalize hXC : cl aD 99 x = XC at *
 clear hXC
 have HF : Hid ((aB z62c).fit x = (aB aF).fit x) := aA (by
  simp only [aB, z62c, aO, aV, aL, bR, bF, Bool.and_true, Bool.decide_and]
  try simp only [Bool.and_true, Bool.and_assoc])
 generalize (aB z62c).fit x = R at *
 have HLT := aA T0.arr.lt
 have HB := aA b0
 clear b0 T0 hok
 generalize hX : cl z62a 163 x = X at *
 clear hX
 cases hf : (aB aF).fit x with
 | true =>
  rw [hf] at hOf HF
  clear hf
  skip
  exact sh163
 | false =>
  rw [hf] at hOf HF
  clear hf
  exact sh163) : G := h
theorem sh63 {G : Prop} (h : G := by
 refine ⟨_, _, rfl, enters_of z63a (by kernel_rfl) rfl, ?_⟩
 intro w q o hb hc
 clear hb
 obtain ⟨c, hc⟩ := hc
 go_enter z63a, z63b
 go_wp2
 go_ret
 exact ⟨rfl, rfl⟩) : G := h
theorem sh64 {G : Prop} (h : G := by
 simp only [Bool.not_true, Bool.not_false, Bool.true_and, Bool.false_and, Bool.and_true, Bool.and_false, Bool.or_true, Bool.or_false, Bool.true_or, Bool.false_or] at HF
 go_enter Tryz.func112, Tryz.ntmps112
 go_upto_region 1 with fail
 refine wp_region_lit ?_
 refine eV (by rfl) 30 _ rfl _ (by have h := unhide HZB; simpa using h) ?_
 simp only [Act.put]
 refine cV ?_
 generalize (w.alloc (.cells X.toArray 61)).alloc (.cells Z.toArray 30) = W1 at *
 refine wpList_store_row rfl 30 (.tmp 3) (.tmp 4) rfl (w.heap.size + 1) Z.toArray rfl rfl 30 Z.toArray (unhide HA1) (unhide HZA) rfl (unhide HZO) ?_
 obtain ⟨hb2, hA2, hT2⟩ := unhide HK W1 (unhide HB1) (unhide HA1) (unhide HT1)
 generalize W1.setRow (w.heap.size + 1) Z.toArray = W2 at *
 obtain ⟨k1, k2, k3, k4, r0, r1, r2⟩ := unhide HC W2 hT2
 have R0 := aA r0
 have R1 := aA r1
 have R2 := aA r2
 have RZ := aA (Arr.range (w := W2) (g := w.heap.size + 1) (ty := 30) (l := Z) hA2)
 have HB2 := aA hb2
 have HT2 := aA hT2
 clear r0 r1 r2 hA2 hb2 hT2 HB1 HA1 HT1 HK
 go_upto_region 2 with fail
 simp only [Act.put]
 refine rgY4 ?_
 refine bG (by kernel_rfl) fun K1 hK1 => ?_
 go_simp
 refine hK1 _ _ ?_
 clear hK1 K1
 refine bG (by kernel_rfl) fun K1 hK1 => ?_
 refine wp_load_mid 30 (.tmp 9) rfl w.heap.size 133 rfl X1 _ (unhide R1) Tryz.underlying30 rfl (unhide HZ1) ?_
 exact sh166) : G := h
theorem sh65 {G : Prop} (h : G := by
 have hmf : ∀ (fn : Fn) (first cap : Array Value) (w : World), (Instr.makeFunc fn first cap).run Tryz.prog w = .ok (.func fn first cap) w := fun _ _ _ _ => rfl
 have c0 : w.cell? ⟨p, 0, none⟩ = some s.v := by simpa using h.arr.cell 0
 have c1 : w.cell? ⟨p, 1, none⟩ = some (.int .i64 f) := by simpa using h.arr.cell 1
 have hlt := h.arr.lt
 have hsv : s.v = .slice s.a s.n s.c := rfl
 rw [hsv] at c0
 by_cases hf : f = 0
 ·subst hf
  obtain ⟨W, hW, A1, A2, hb, hsz⟩ := arr2 w 374 450 [.pointer (some ⟨p, 0, none⟩)] [s.v]
  have hW' : (w.alloc (.cells #[.pointer (some ⟨p, 0, none⟩)] 374)).alloc (.cells #[.slice s.a s.n s.c] 450) = W := hW.symm
  have HW := aA hW'
  clear hW hW'
  have hI := z65a (w.heap.size + 1) s W (h.unr hb (by omega) A2)
  cases hP : z65b s.l with
  | ok q =>
   obtain ⟨x, r⟩ := q
   rw [hP] at hI
   clear hP hsz hsv
   go_enter_defers z65c, z65d
   go_wp2_with (
    (first | go_at_call 391 | go_at_call 385)
    rw [unhide HW]
    refine hI.mono ?_
    rintro e w' ⟨hB, v, t, rfl, hV, hU, hr, hS⟩
    have cu := hU.cell'
    obtain ⟨cb, cp, fp, A1', Ap⟩ := h.after A1 hb hB)
   refine leaves_cons (f := z65f) (args := #[.pointer (some ⟨w.heap.size, 0, none⟩)]) (by simp) (by simp [go_sem]) ?_
   refine (z65g _ _).mono ?_
   rintro e u' w'' ⟨rfl, rfl, rfl⟩
   refine ⟨_, results_tmp rfl _ _ _, ?_⟩
   exact Fac.yes (lasts_I _) rfl h hb hB (by omega) hV hU hr hS
  | error c =>
   rw [hP] at hI
   clear hP hsz hsv
   go_enter_defers z65c, z65d
   go_wp2_with (
    (first | go_at_call 391 | go_at_call 385)
    rw [unhide HW]
    refine hI.mono ?_
    rintro e w' ⟨hB, he⟩
    simp only [gives] at he
    subst he
    obtain ⟨cb, cp, fp, A1', Ap⟩ := h.after A1 hb hB)
   refine leaves_cons (f := z65f) (args := #[.pointer (some ⟨w.heap.size, 0, none⟩)]) (by simp) (by simp [go_sem]) ?_
   refine (z65h w.heap.size p s.v 0 c _ w' A1' Ap []).mono ?_
   rintro e u' w'' ⟨rfl, rfl, hA, hB3⟩
   refine ⟨_, results_tmp rfl _ _ _, ?_⟩
   exact Fac.no rfl h hb hB (by omega) hA hB3
 ·go_enter_defers z65c, z65d
  go_wp2
  refine ⟨_, results_tmp rfl _ _ _, ?_⟩
  exact Fac.sticks hf ((Below.refl _ _).alloc (Nat.le_refl _) _) h) : G := h
theorem sh66 {G : Prop} (h : G := by
 go_upto_region 4 with fail
 refine eI ?_
 refine wpList_load_mid rfl 32 (.tmp 25) rfl w.heap.size 0 rfl XC _ (unhide R0) Tryz.underlying32 rfl (unhide HZC) ?_
 simp only [Act.put]
 refine wpList_plain rfl fun K1 hK1 => ?_
 go_simp
 refine (hOf W2).mono ?_
 rintro e W3 ⟨rfl, hB3⟩
 obtain ⟨j1, j2, j3, j4, -, -, -⟩ := unhide HC W3 ((unhide HT2).later hB3)
 have HB3 := aA ((unhide HB2).trans (hB3.mono (unhide HB2).size))
 clear hB3 k1 k2 k3 k4 hOf
 refine hK1 _ _ ?_
 clear hK1 K1
 go_wp2
 go_ret
 exact ⟨by rw [unhide HF]; try rfl, unhide HB3⟩) : G := h
theorem sh67 {G : Prop} (h : G := by
 rintro e w1 ⟨s, rfl, hs, hsl, hat, hB1⟩
 have hsv : s.v = .slice s.a s.n s.c := rfl
 rw [hsv]
 refine hK1 _ _ ?_
 clear hK1 K1
 refine dO ?_
 go_wp2
 go_ret
 rw [unhide HM] at *
 have hb0 := dL (unhide B1) hB0
 exact ⟨s, rfl, hs, hsl, fun z hz => Nat.le_trans hb0.size (hat z hz), hb0.trans (hB1.mono hb0.size)⟩) : G := h
theorem sh68 {G : Prop} (h : G := by
 rw [hfl]
 have hC := hU _ _ _ hTab hB1
 clear hU hTab hfl
 go_wp2_with fail
 refine hC.mono ?_
 rintro e w3 ⟨rfl, hB3⟩
 have HE := aA (hB1.trans (hB3.mono hB1.size))
 clear hC hB3 hB1
 go_wp2
 go_ret2
 exact ⟨rfl, unhide HE⟩) : G := h
theorem sh69 {G : Prop} (h : G := by
 refine ⟨_, _, rfl, enters_of z69a (by kernel_rfl) rfl, ?_⟩
 intro w q ty sh N x o hb hT hSg
 have hK := Below.refl w.heap.size w
 clear hb hT hSg
 go_enter z69a, z69b
 go_wp2
 go_ret
 exact ⟨rfl, hK⟩) : G := h
theorem sh70 {G : Prop} (h : G := by
 go_enter z70a, z70b
 go_wp2_with fail
 generalize w.alloc (.cells X.toArray z70c) = W at *
 refine (V0 _).mono ?_
 rintro e v0 ⟨rfl, rfl⟩
 clear V0
 go_wp2
 go_ret
 exact ⟨by rw [unhide HF]; try rfl, unhide HB⟩) : G := h
theorem sh71 {G : Prop} (h : G := by
 rw [hP] at hI
 clear hP hsz hsv
 go_enter_defers z71a, z71b
 go_wp2_with (
  (first | go_at_call 393 | go_at_call 387)
  rw [unhide HW]
  refine hI.mono ?_
  rintro e w' ⟨hB, he⟩
  simp only [gives] at he
  subst he
  obtain ⟨cb, cp, fp, A1', Ap⟩ := h.after A1 hb hB)
 refine leaves_cons (f := z71d) (args := #[.pointer (some ⟨w.heap.size, 0, none⟩)]) (by simp) (by simp [go_sem]) ?_
 refine (z71e w.heap.size p s.v 0 c _ w' A1' Ap []).mono ?_
 rintro e u' w'' ⟨rfl, rfl, hA, hB3⟩
 refine ⟨_, results_tmp rfl _ _ _, ?_⟩
 exact Fac.no rfl h hb hB (by omega) hA hB3) : G := h
theorem sh72 {G : Prop} (h : G := by
 rintro e w1 ⟨av, cv, rfl, hown, hLB, hB1⟩
 refine hK1 _ _ ?_
 clear hK1 K1
 refine dO ?_
 go_wp2
 go_ret
 rw [unhide HM] at *
 have hb0 := dL (unhide B1) hB0
 exact ⟨av, cv, rfl, dC hown hb0.size, hLB, hb0.trans (hB1.mono hb0.size)⟩) : G := h
theorem sh73 {G : Prop} (h : G := by
 clear hok
 simp only [aB, aF, aO, aV, aL, bN, Bool.and_eq_true, Bool.or_eq_true, decide_eq_true_eq] at hf
 (try refine ⟨?_, ?_⟩) <;> (repeat (first | exact trivial | omega | refine ⟨?_, ?_⟩))) : G := h
theorem sh74 {G : Prop} (h : G := by
 obtain ⟨k, caps, rfl, eg, hp⟩ := hp
 refine ⟨_, _, rfl, enters_of z74a (by kernel_rfl) rfl, ?_⟩
 intro w p s fl q ty sh N x o hb hR hKp hKq hT hSg hq hn
 have cb : w.cell? ⟨bx, 0, none⟩ = some (.func (.func k) #[] caps) := by simpa using (hb.arr hA hbx).cell 0
 have hC := hp w q o hb
 have hU := rU64_any p s fl w hR
 have HF := fun W e => mon_step (W := W) (e := e) (most := most) hT hR hq hSg ha hs
 clear hp hSg
 simp only [Enters] at eg
 go_enter z74a, z74b
 go_wp2_with (first
  | (go_at_fn k; refine hC.mono ?_; rintro e w' ⟨rfl, hw⟩; have hw := hw.symm; subst hw)
  | (go_at_call 288; refine hU.mono ?_; rintro e w' hF; obtain ⟨y, t, fl', rfl, fz, ca, HG⟩ := HF _ _ hF))
 go_end0
 have HG := unhide HG
 rw [i64_w] at HG
 exact ⟨rfl, t, fl', _, HG⟩) : G := h
theorem sh75 {G : Prop} (h : G := by
 refine ⟨_, _, rfl, enters_of z75a (by kernel_rfl) rfl, ?_⟩
 intro w q ty sh N x o hb hT hSg
 have cb : w.cell? ⟨bx, 0, none⟩ = some (.int .i64 most) := by simpa using (hb.arr hA hbx).cell 0
 clear hb hT hSg
 go_enter z75a, z75b
 go_wp2
 go_ret
 exact ⟨rfl, rfl⟩) : G := h
theorem sh76 {G : Prop} (h : G := by
 have z76aq := z76aQ
 by_cases hn : z76a ≤ s.n
 ·obtain ⟨bk, off, ha, -, -⟩ := h.ok.lies (by rw [h.ok.len]; (have := z76aQ; omega))
  have hset := h.set hn
  have ho := ((Unr.but (w := w) (u := u) (s.cut z76a).v).ok (h.ok.pre hn) (Sl.off_same (s := s) (t := s.pre z76a) (fun x hx => ⟨x, hx, rfl⟩) (by simp only [Sl.pre, List.length_take]; (have := z76aQ; omega)) h.off))
  have hp : (s.pre z76a).v = .slice (some ⟨bk, off, none⟩) z76a s.c := by simp [Sl.pre, Sl.v, ha]
  have hL := z76b bk off z76a s.c 0 (s.l.take z76a) (w.setCell ⟨u, 0, none⟩ (s.cut z76a).v) (by have := h.ok.len; simp; (have := z76aQ; omega)) ho.isB (by have := ho.lies; simp only [Sl.pre, ha] at this; exact this) (by (have := z76aQ; omega)) (by have := h.ok.le; (have := z76aQ; omega)) h.ok.mx
  rw [List.drop_zero, List.take_take, Nat.min_self] at hL
  have HP : Hid (z76c s.l = .ok (leV (s.l.take z76a).reverse, s.l.drop z76a)) := by unfold z76c; rw [if_neg (by rw [h.ok.len]; (have := z76aQ; omega))]; exact aA rfl
  go_enter z76d, z76e
  go_wp2_with (first
   | (go_at_call 388; refine (take_ok u s z76a w h hn).mono ?_; rintro e w' ⟨rfl, rfl⟩; rw [hp])
   | ((first | go_at_call 416 | go_at_call 412); refine hL.mono ?_; rintro e w' ⟨rfl, rfl⟩))
  go_ret
  exact Prs.yes (unhide HP) (Unr.but _) rfl hset rfl (s.same_cut z76a)
 ·have HP : Hid (z76c s.l = .error 90) := by unfold z76c; rw [if_pos (by rw [h.ok.len]; (have := z76aQ; omega))]; exact aA rfl
  go_enter z76d, z76e
  go_wp2_with (go_at_call 388; refine (take_no u s z76a w h (by (have := z76aQ; omega))).mono ?_; rintro e w' ⟨rfl, rfl⟩; unfold gives)
  exact ⟨rfl, Prs.no (unhide HP) (But.refl _ _)⟩) : G := h
theorem sh77 {G : Prop} (h : G := by
 refine stY2 ?_
 refine bG (by kernel_rfl) fun K1 hK1 => ?_
 go_simp
 refine hK1 _ _ ?_
 clear hK1 K1
 refine bG (by kernel_rfl) fun K1 hK1 => ?_
 go_simp
 refine hK1 _ _ ?_
 clear hK1 K1
 refine bG (by kernel_rfl) fun K1 hK1 => ?_
 go_simp
 refine hK1 _ _ ?_
 clear hK1 K1
 refine bG (by kernel_rfl) fun K1 hK1 => ?_
 go_simp
 refine hK1 _ _ ?_
 clear hK1 K1
 refine bG (by kernel_rfl) fun K1 hK1 => ?_
 go_simp
 refine hK1 _ _ ?_
 clear hK1 K1
 refine bG (by kernel_rfl) fun K1 hK1 => ?_
 refine wp_load_mid 30 (.tmp 19) rfl w.heap.size 198 rfl X2 _ (unhide R2) Tryz.underlying30 rfl (unhide HZ2) ?_
 exact sh166) : G := h
theorem sh78 {G : Prop} (h : G := by
 refine callsD_of_wpS z78a rfl fun c₀ cs hu => ?_
 apply wpS_seq
 apply wpS_region
 simp [wpOpsS, go_sem, recoverD, hu, z78b, Exit.thenS]
 refine wpS_of_wp ?_
 have ht : ∀ x y : Value, #[x] ++ ((Array.replicate 9 undef).setIfInBounds 1 y).setIfInBounds 0 y = #[x, y, y, undef, undef, undef, undef, undef, undef, undef] := fun _ _ => rfl
 rw [ht]
 go_wp2
 cases c₀
 simp_all [bodyPostS, results, z78c]) : G := h
theorem sh79 {G : Prop} (h : G := by
 rw [hL] at hS hB hm ⊢
 clear hL
 have HM := aA hm
 clear hm
 go_enter z79a, z79b
 go_wp2_with fail
 refine hS.mono ?_
 rintro e w1 ⟨v1, rfl, hown, hb⟩
 obtain ⟨d, rfl, hd, hdl, hdn, -⟩ := iH hown hB
 have hP := oPut_any base p lv l f d w1 (h.later hb) hd (by have := unhide HM; omega) (Nat.le_trans hbase hb.size)
 rw [hdl] at hP
 clear hS hown hdl hdn hd
 have hdv : d.v = .slice d.a d.n d.c := rfl
 rw [hdv] at hP ⊢
 clear hdv
 go_wp2_with fail
 refine hP.mono ?_
 rintro e w' ⟨rfl, lv', hW⟩
 go_wp2
 go_end0
 exact ⟨rfl, lv', hW.later hb⟩) : G := h
theorem sh80 {G : Prop} (h : G := by
 clear hC hPr hE hB3
 generalize ps.length = nn at *
 refine hK1 _ _ ?_
 clear hK1 K1
 go_wp2
 go_ret2
 exact unhide HE) : G := h
theorem sh81 {G : Prop} (h : G := by
 go_enter Tryz.func109, Tryz.ntmps109
 go_upto_region 1 with fail
 generalize hW : w.alloc (.cells X.toArray 57) = W at *
 clear hW
 refine eI ?_
 refine wpList_load_mid rfl 32 (.tmp 3) rfl w.heap.size 0 rfl XC _ (unhide HR) Tryz.underlying32 rfl hZ ?_
 simp only [Act.put]
 refine wpList_plain rfl fun K1 hK1 => ?_
 go_simp
 refine (hOf W).mono ?_
 rintro e w1 ⟨rfl, hB1⟩
 have HB1 := aA ((unhide HB).trans (hB1.mono (unhide HB).size))
 have d1 := (World.cell?_of_block (hB1.block w.heap.size (by have := unhide HLT; omega))).trans c1
 have d99 := (World.cell?_of_block (hB1.block w.heap.size (by have := unhide HLT; omega))).trans c99
 clear hOf hB1 c1 c99
 refine hK1 _ _ ?_
 clear hK1 K1
 go_wp2_with fail
 refine (V1 _).mono ?_
 rintro e v1 ⟨rfl, rfl⟩
 clear V1
 go_wp2
 go_ret
 exact ⟨by rw [unhide HF]; try rfl, unhide HB1⟩) : G := h
theorem sh82 {G : Prop} (h : G := by
 simp only [aB, aF, aO, aV, aL, bN, List.length_append, fN, aN, List.length_nil]
 omega) : G := h
theorem sh83 {G : Prop} (h : G := by
 have A1 := Arr.new w 35 (tmC y bv)
 have b1 : Below w.heap.size w (w.alloc (.cells (tmC y bv).toArray 35)) := aJ w _
 have c0 : (w.alloc (.cells (tmC y bv).toArray 35)).cell? ⟨w.heap.size, 0, none⟩ = some (.int .i64 (y 0)) := eD A1 0 (by decide)
 have q1 : (y 0 == 1) = false := by simpa using h1
 have q2 : (y 0 == 2) = false := by simpa using h2
 have q3 : (y 0 == 3) = false := by simpa using h3
 have q4 : (y 0 == 4) = false := by simpa using h4
 have q5 : (y 0 == 5) = false := by simpa using h5
 have q6 : (y 0 == 6) = false := by simpa using h6
 have q7 : (y 0 == 7) = false := by simpa using h7
 have q8 : (y 0 == 8) = false := by simpa using h8
 have q9 : (y 0 == 9) = false := by simpa using h9
 have q10 : (y 0 == 10) = false := by simpa using h10
 have HB := aA b1
 clear b1 A1
 generalize tmC y bv = X at *
 generalize y 0 = k at *
 go_enter z83a, z83b
 go_wp2
 go_ret2
 exact ⟨rfl, unhide HB⟩) : G := h
theorem sh84 {G : Prop} (h : G := by
 rw [unhide HL]
 obtain ⟨ba, bn, bc, bl⟩ := b
 simp only [Sl.v] at *
 generalize (spl bl).1 = d at *
 generalize (spl bl).2.1 = r at *
 clear HL h0
 exact sh170) : G := h
theorem sh85 {G : Prop} (h : G := by
 clear hC hPr hE hB3 hB1
 generalize ps.length = nn at *
 go_wp2
 go_ret2
 exact unhide HE) : G := h
theorem sh86 {G : Prop} (h : G := by
 have A1 := Arr.new w 35 (tmC y bv)
 have b1 : Below w.heap.size w (w.alloc (.cells (tmC y bv).toArray 35)) := aJ w _
 have c0 : (w.alloc (.cells (tmC y bv).toArray 35)).cell? ⟨w.heap.size, 0, none⟩ = some (.int .i64 (y 0)) := eD A1 0 (by decide)
 have q1 : (y 0 == 1) = false := by simpa using h1
 have q4 : (y 0 == 4) = false := by simpa using h4
 have q5 : (y 0 == 5) = false := by simpa using h5
 have q6 : (y 0 == 6) = false := by simpa using h6
 have q7 : (y 0 == 7) = false := by simpa using h7
 have q8 : (y 0 == 8) = false := by simpa using h8
 have q10 : (y 0 == 10) = false := by simpa using h10
 have HB := aA b1
 clear b1 A1
 generalize tmC y bv = X at *
 generalize y 0 = k at *
 go_enter z86a, z86b
 go_wp2
 go_ret
 exact ⟨rfl, unhide HB⟩) : G := h
theorem sh87 {G : Prop} (h : G := by
 clear hC hs hsl hat hB
 obtain ⟨sa, sn, sc, sl⟩ := s
 simp only [Sl.v] at *
 go_wp2
 go_ret
 exact unhide HE) : G := h
theorem sh88 {G : Prop} (h : G := by
 have e : bY (.int .i64 v) = cl z88a 1 (upd (fun _ => 0) 0 v) := rfl
 rw [this, e, hZ, jI _ (by decide) (fun i hi => rfl) (fun i hi => by unfold upd; rw [if_neg (by omega)])]) : G := h
theorem sh89 {G : Prop} (h : G := by
 go_enter z89a, z89b
 go_wp2_with fail
 generalize w.alloc (.cells X.toArray z89c) = W at *
 refine (V0 _).mono ?_
 rintro e v0 ⟨rfl, rfl⟩
 clear V0
 go_wp2_with fail
 refine (V1 _).mono ?_
 rintro e v1 ⟨rfl, rfl⟩
 clear V1
 go_wp2
 go_ret
 exact ⟨by rw [unhide HF]; try rfl, unhide HB⟩) : G := h
theorem sh90 {G : Prop} (h : G := by
 go_enter z90a, z90b
 go_wp2
 go_ret3
 exact ⟨rfl, rfl⟩) : G := h
theorem sh91 {G : Prop} (h : G := by
 go_enter Tryz.func105, Tryz.ntmps105
 go_wp2_with fail
 generalize w.alloc (.cells X.toArray 32) = W at *
 refine (W1 W).mono ?_
 rintro e w1 ⟨rfl, rfl⟩
 go_wp2_with fail
 refine (W2 _).mono ?_
 rintro e w2 ⟨rfl, rfl⟩
 go_wp2
 go_ret
 exact ⟨by rw [unhide HF]; rfl, unhide HB⟩) : G := h
theorem sh92 {G : Prop} (h : G := by
 go_enter z92a, z92b
 go_wp2_with (go_at_call 62; refine hR.mono ?_; rintro e w' ⟨rfl, rfl⟩)
 go_ret2
 exact ⟨rfl, Below.refl _ _⟩) : G := h
theorem sh93 {G : Prop} (h : G := by
 obtain ⟨x, r⟩ := q
 rw [hP] at hI
 clear hP hsz hsv
 go_enter_defers z93a, z93b
 go_wp2_with (
  (first | go_at_call 393 | go_at_call 387)
  rw [unhide HW]
  refine hI.mono ?_
  rintro e w' ⟨hB, v, t, rfl, hV, hU, hr, hS⟩
  have cu := hU.cell'
  obtain ⟨cb, cp, fp, A1', Ap⟩ := h.after A1 hb hB)
 refine leaves_cons (f := z93d) (args := #[.pointer (some ⟨w.heap.size, 0, none⟩)]) (by simp) (by simp [go_sem]) ?_
 refine (z93e _ _).mono ?_
 rintro e u' w'' ⟨rfl, rfl, rfl⟩
 refine ⟨_, results_tmp rfl _ _ _, ?_⟩
 exact Fac.yes (z93f) rfl h hb hB (by omega) hV hU hr hS) : G := h
theorem sh94 {G : Prop} (h : G := by
 refine hK.out _ _ (unhide HK0 _ hE.bel) (fun hHeld => ?_)
 clear hK K
 refine wpAnyH_done (by kernel_rfl) ?_ _
 unfold NoPanic
 clear hHeld
 have HE := aA hE
 clear hE
 go_wp2_with fail
 go_meet
 case rel => exact ⟨_, v1, v2, s, rfl, by simpa [hsl] using HE⟩) : G := h
theorem sh95 {G : Prop} (h : G := by
 have hA : Arr (w.alloc (.cells #[s.v] 33)) w.heap.size 33 [s.v] := Arr.new w _ [s.v]
 have hsz : (w.alloc (.cells #[s.v] 33)).heap.size = w.heap.size + 1 := by simp
 refine (join_any (some ⟨w.heap.size, 0, none⟩) 1 [s] (w.alloc (.cells #[s.v] 33)) ?_ ?_ (by simp) (by rw [z95a, hs.len]; exact hm)).mono ?_
 ·intro _
  refine ⟨w.heap.size, 0, rfl, by omega, fun i v hi => ?_⟩
  rw [Nat.zero_add, hA.cell i]
  simpa using hi
 ·intro t ht
  simp at ht; subst ht
  exact hs.later hb
 ·rintro e w' ⟨rfl, hown, hbel⟩
  rw [z95a, hsz] at hown
  exact ⟨_, by rw [z95a, hsz], hown, hb.trans (hbel.mono (by omega))⟩) : G := h
theorem sh96 {G : Prop} (h : G := by
 go_enter Tryz.func115, Tryz.ntmps115
 go_wp2_with fail
 generalize w.alloc (.cells X.toArray 69) = W at *
 refine (V0 _).mono ?_
 rintro e v0 ⟨rfl, rfl⟩
 clear V0
 go_wp2_with fail
 refine (V1 _).mono ?_
 rintro e v1 ⟨rfl, rfl⟩
 clear V1
 go_wp2_with fail
 refine (V2 _).mono ?_
 rintro e v2 ⟨rfl, rfl⟩
 clear V2
 go_wp2
 go_ret
 exact ⟨by rw [unhide HF]; try rfl, unhide HB⟩) : G := h
theorem sh97 {G : Prop} (h : G := by
 have hv4 : (fsl w.heap.size 0 3 32 x).v = .slice (some ⟨w.heap.size, 0 + 3, none⟩) 32 32 := rfl
 rw [hv4] at hC4
 rw [hw4] at hC4
 refine hC4.mono ?_
 rintro e W4 ⟨rfl, lv4, hS4⟩
 obtain ⟨s4, t4⟩ := unhide HK _ _ _ _ _ _ (unhide SS3) (unhide TT3) hS4
 have SS4 := aA s4
 have TT4 := aA t4
 clear hC4 hw4 hS4 s4 t4
 go_wp2
 go_end0
 refine ⟨rfl, lv4, ?_⟩
 rw [unhide HX]
 have h := unhide SS4
 simp only [List.append_assoc] at h
 exact h) : G := h
theorem sh98 {G : Prop} (h : G := by
 cases D with
 | none => simp only [Grd] at h; rw [face1 _ _ _ _ h]; exact h
 | some q =>
  obtain ⟨y, s⟩ := q
  obtain ⟨rfl, rfl, rfl⟩ := h
  rw [face0]
  simp only [stp, z98a]
  cases hp : z98b r with
  | ok z => obtain ⟨v, s⟩ := z; exact ⟨rfl, rfl, rfl⟩
  | error c =>
   have : c = 90 := by unfold z98b at hp; split at hp <;> simp at hp; exact hp.symm
   subst this
   simp [Grd]) : G := h
theorem sh99 {G : Prop} (h : G := by
 go_enter Tryz.func136, Tryz.ntmps136
 go_wp2_with (go_at_call 239; refine hD.mono ?_; rintro e w' ⟨rfl, k, hw⟩; have HW := aA hw; clear hw)
 go_ret
 exact ⟨rfl, k, unhide HW⟩) : G := h
theorem sh100 {G : Prop} (h : G := by
 intro ad had j u hu
 have hj : j < s.l.length := by
  by_cases hj : j < s.l.length
  ·exact hj
  ·rw [List.getElem?_eq_none (by simp; omega)] at hu; simp at hu
 obtain ⟨b, off, ha, _, hc⟩ := h.lies (by omega)
 rw [ha] at had; simp at had; subst had
 rw [z100a s.l j hj] at hu; simp only [Option.some.injEq] at hu; subst hu
 rw [mM]; exact hc j hj) : G := h
theorem sh101 {G : Prop} (h : G := by
 rw [List.getD_eq_getElem?_getD]
 by_cases hi : i < l.length
 ·rw [List.getElem?_eq_getElem hi]; exact h _ (List.getElem_mem hi)
 ·rw [List.getElem?_eq_none (by omega)]; simp) : G := h
theorem sh102 {G : Prop} (h : G := by
 rw [hE]
 clear h hLl hE
 go_enter Tryz.func239, Tryz.ntmps239
 go_wp2_with fail
 go_quiet (fail)
 go_wp2
 go_ret
 exact ⟨rfl, _, rfl⟩) : G := h
theorem sh103 {G : Prop} (h : G := by
 simp [Act.put]
 refine wpAnyH_done (by kernel_rfl) ?_ _
 unfold NoPanic
 clear hHeld
 go_wp2
 go_ret
 exact ⟨_, psx2, rfl, (by have := unhide Px2; rw [unhide Lx2] at this; exact this.mono (unhide HB1).size), by rw [unhide Mx2, unhide HEE]; rfl, (unhide HB1).trans ((unhide Bx2).mono (unhide HB1).size)⟩) : G := h
theorem sh104 {G : Prop} (h : G := by
 refine ⟨k.wtr, h.but.trans' k.but (fun i hi hs => ?_), fun i hi => ?_⟩
 ·rcases hs with rfl | hs
  ·exact .inl rfl
  ·rcases h.at_ i hs with h1 | h1
   ·exact .inr h1
   ·omega
 ·rcases k.at_ i hi with h1 | h1
  ·exact h.at_ i h1
  ·exact .inr (Nat.le_trans h.but.size h1)) : G := h
theorem sh105 {G : Prop} (h : G := by
 rw [Instr.fill]
 simp only [h0]
 rw [if_neg (by simp [hv]; omega), ← Array.foldl_toList, Array.toList_zipIdx]
 have hf' : List.foldl (fun (cs : Array Value) (x : Value × Nat) => cs.setIfInBounds (0 + x.2) x.1) Z.toArray (v.cells.toList.zipIdx) = (bY v ++ Z.drop n).toArray := hf
 rw [hf']
 rfl) : G := h
theorem sh106 {G : Prop} (h : G := by
 have HH := aA h
 clear hP hLl h
 go_enter Tryz.func243, Tryz.ntmps243
 go_wp2_with fail
 go_quiet (fail)
 go_wp2_with fail
 refine (hF _).mono ?_
 rintro e w1 ⟨rfl, hB, hI⟩
 go_wp2
 go_ret
 exact fR.no (unhide HP) hB.undrewN hI (isL_nil _ _)) : G := h
theorem sh107 {G : Prop} (h : G := by
 rw [hE] at h
 obtain ⟨h0, rfl, h2⟩ := h
 exact ⟨h0, by rw [ins_upd], h2⟩) : G := h
theorem sh108 {G : Prop} (h : G := by
 go_enter Tryz.func141, Tryz.ntmps141
 go_wp2_with fail
 go_quiet (fail)
 go_wp2_with fail
 refine (hF _).mono ?_
 rintro e w1 ⟨rfl, hB, hI⟩
 go_wp2
 go_ret
 exact fR.no (unhide HP) hB.undrewN hI rfl) : G := h
theorem sh109 {G : Prop} (h : G := by
 intro hp
 obtain ⟨bk, off, rfl, hlt, hc⟩ := hl hp
 exact ⟨bk, off, rfl, Nat.lt_of_lt_of_le hlt x.size, fun i hi => (World.cell?_of_block (w := a) (w' := b) (a := ⟨bk, off + i, none⟩) (x.block bk hlt (hg hp _ rfl))).trans (hc i hi)⟩) : G := h
theorem sh110 {G : Prop} (h : G := by
 rw [haa]
 clear haa hac hab hne hkL hkl HA HBw
 go_wp2
 go_roundw
 case rel =>
  have h := unhide HN _ rfl
  exact ⟨k + 1, by omega, by go_num, aA h.1, aA h.2⟩
 case measure => simp [intOf]; omega) : G := h
theorem sh111 {G : Prop} (h : G := by
 rw [unhide HE]
 generalize s.l.length = n at *
 go_enter Tryz.func237, Tryz.ntmps237
 go_wp2_with (go_at_call 378; refine hL.mono ?_; rintro e w' ⟨rfl, rfl⟩)
 go_ret
 exact ⟨rfl, rfl⟩) : G := h
theorem sh112 {G : Prop} (h : G := by
 have z112bq := z112bQ
 obtain ⟨Z, it, -, hZl, hit, hz, hzv⟩ := z112a
 have A1 : Arr ((w.alloc (.cells (tmC x bv).toArray 35)).alloc (.cells Z.toArray z112b)) w.heap.size 35 (tmC x bv) := (Arr.new w 35 (tmC x bv)).alloc _
 have A2 : Arr ((w.alloc (.cells (tmC x bv).toArray 35)).alloc (.cells Z.toArray z112b)) (w.heap.size + 1) z112b Z := by
  have h := Arr.new (w.alloc (.cells (tmC x bv).toArray 35)) z112b Z
  have s1 : (w.alloc (.cells (tmC x bv).toArray 35)).heap.size = w.heap.size + 1 := by simp
  rw [s1] at h
  exact h
 have hB : Below w.heap.size w ((w.alloc (.cells (tmC x bv).toArray 35)).alloc (.cells Z.toArray z112b)) := bV (aJ w _) _ (by simp)
 have r1 : ((w.alloc (.cells (tmC x bv).toArray 35)).alloc (.cells Z.toArray z112b)).rangeAt w.heap.size 1 (cl aD 99 (sft 1 x)) := eZ A1 1 99 aD (by decide) (fun i hi => by unfold bM; (repeat (first | rw [if_pos (by (have := z112bQ; omega))] | rw [if_neg (by (have := z112bQ; omega))])); try (congr 1; (have := z112bQ; omega)))
 have r265 : ((w.alloc (.cells (tmC x bv).toArray 35)).alloc (.cells Z.toArray z112b)).rangeAt w.heap.size 265 (cl sB 64 (sft 265 x)) := eZ A1 265 64 sB (by decide) (fun i hi => by unfold bM sB aD; (repeat (first | rw [if_pos (by (have := z112bQ; omega))] | rw [if_neg (by (have := z112bQ; omega))])); try (congr 1; (have := z112bQ; omega)))
 have hbt := gQ hit z112c hz (sz := [99, 64]) (by kernel_rfl) [.agg (cl aD 99 (sft 1 x)).toArray, .agg (cl sB 64 (sft 265 x)).toArray] (by simp [Value.cells, aC]) (by rw [hZl]; rfl)
 rw [z112d] at hbt
 have hl1 : (cl z112e 163 (z112f x)).toArray.size = 163 := by simp [aC]
 have hl2 : Z.toArray.size = (cl z112e 163 (z112f x)).toArray.size := by simp [aC, hZl]
 have hsz : (Tryz.prog.info? z112b).map (·.size) = some (cl z112e 163 (z112f x)).toArray.size := by rw [hl1]; exact z112g
 have hoc := all_oneCell_toArray (cK z112e 163 (z112f x))
 have HB := aA hB
 have HA := aA A2
 have HBT := aA hbt
 clear A1 A2 hB hit hz hZl hbt hl1
 have R1 := aA r1
 clear r1
 have R265 := aA r265
 clear r265
 have HS := aA hsz
 have HL2 := aA hl2
 have HOC := aA hoc
 clear hsz hl2 hoc
 generalize hM : cl z112e 163 (z112f x) = M at *
 clear hM
 go_enter z112h, z112i
 go_upto_region 1 with fail
 generalize (w.alloc (.cells (tmC x bv).toArray 35)).alloc (.cells Z.toArray z112b) = W at *
 refine eI ?_
 refine wpList_load_mid rfl 32 (.tmp 3) rfl w.heap.size 1 rfl (cl aD 99 (sft 1 x)) _ (unhide R1) Tryz.underlying32 rfl (by rw [aC]; exact Tryz.szKCert) ?_
 simp only [Act.put]
 refine cV ?_
 refine wpList_load_mid rfl 30 (.tmp 5) rfl w.heap.size 265 rfl (cl sB 64 (sft 265 x)) _ (unhide R265) Tryz.underlying30 rfl (by rw [aC]; exact Tryz.szKSig) ?_
 exact sh47) : G := h
theorem sh113 {G : Prop} (h : G := by
 have HX := aA (dec_dom (f := aB z113a) h0 h1)
 rw [h0]
 generalize (spl bl).1 = d at *
 generalize (spl bl).2.1 = r at *
 obtain ⟨sa, sn, sc, sl⟩ := s1
 simp only [Sl.v] at *
 clear hs1 hsl1 h0
 go_upto_region 6 with fail
 exact sh8) : G := h
theorem sh114 {G : Prop} (h : G := by
 clear h0
 go_enter Tryz.func112, Tryz.ntmps112
 go_upto_region 1 with fail
 refine wp_region_lit ?_
 refine eV (by rfl) 30 _ rfl _ (by have h := unhide HZB; simpa using h) ?_
 simp only [Act.put]
 refine cV ?_
 generalize (w.alloc (.cells X.toArray 61)).alloc (.cells Z.toArray 30) = W1 at *
 refine wpList_store_row rfl 30 (.tmp 3) (.tmp 4) rfl (w.heap.size + 1) Z.toArray rfl rfl 30 Z.toArray (unhide HA1) (unhide HZA) rfl (unhide HZO) ?_
 obtain ⟨hb2, hA2, hT2⟩ := unhide HK W1 (unhide HB1) (unhide HA1) (unhide HT1)
 generalize W1.setRow (w.heap.size + 1) Z.toArray = W2 at *
 obtain ⟨k1, k2, k3, k4, r0, r1, r2⟩ := unhide HC W2 hT2
 have R0 := aA r0
 have R1 := aA r1
 have R2 := aA r2
 have RZ := aA (Arr.range (w := W2) (g := w.heap.size + 1) (ty := 30) (l := Z) hA2)
 have HB2 := aA hb2
 have HT2 := aA hT2
 clear r0 r1 r2 hA2 hb2 hT2 HB1 HA1 HT1 HK
 go_upto_region 2 with fail
 simp only [Act.put]
 refine rgY4 ?_
 refine bG (by kernel_rfl) fun K1 hK1 => ?_
 go_simp
 refine hK1 _ _ ?_
 clear hK1 K1
 refine bG (by kernel_rfl) fun K1 hK1 => ?_
 refine wp_load_mid 30 (.tmp 9) rfl w.heap.size 133 rfl X1 _ (unhide R1) Tryz.underlying30 rfl (unhide HZ1) ?_
 refine hK1 _ _ ?_
 clear hK1 K1
 simp only [Act.put]
 refine bG (by kernel_rfl) fun K1 hK1 => ?_
 refine wp_load_mid 30 (.tmp 3) rfl (w.heap.size + 1) 0 rfl Z _ (unhide RZ) Tryz.underlying30 rfl (unhide HZZ) ?_
 refine hK1 _ _ ?_
 clear hK1 K1
 simp only [Act.put]
 refine bG (by kernel_rfl) fun K1 hK1 => ?_
 go_simp
 refine hK1 _ _ ?_
 clear hK1 K1
 exact sh36) : G := h
theorem sh115 {G : Prop} (h : G := by
 have z115iq := z115iQ
 rw [hf] at hOf
 clear hf
 go_enter z115a, z115b
 go_upto_region 1 with fail
 generalize hW : w.alloc (.cells X.toArray z115c) = W at *
 have EW := aA hW
 clear hW
 refine wp_region_lit ?_
 refine wpList_load_mid rfl z115c (.tmp 1) rfl w.heap.size 0 rfl X _ (unhide HR) z115d rfl hZ ?_
 simp only [Act.put]
 refine wpList_plain rfl fun K1 hK1 => ?_
 go_simp
 refine (hOf W).mono ?_
 rintro e w1 ⟨rfl, hB1⟩
 clear hOf
 refine hK1 _ _ ?_
 clear hK1 K1
 go_wp2_with fail
 refine (cR z115e w1).mono ?_
 rintro e w2 ⟨p, lv, rfl, hO2, hp2, hB2⟩
 have RS0 : Hid (RSt w z115c z115f z115g x w1.heap.size p lv (hdL z115e) w2) := aA (by rw [← unhide EW] at hB1 HT; exact RSt.new (unhide HT) hB1 hO2 hp2 hB2)
 clear hB1 hB2 hO2 hp2 HR HT EW HB
 generalize w1.heap.size = B at *
 have rr := (unhide RS0).part (unhide HS)
 have hC := z115h (unhide RS0) (by have := hh; (try simp only [List.length_append, List.length_cons, List.length_nil, bQ, bP, aN, bB, aW, bC, bA]); (have := z115iQ; omega))
 rw [unhide EX] at rr hC
 go_upto_region 4 with fail
 refine eI ?_
 refine wpList_load_mid rfl z115c (.tmp 1) rfl w.heap.size 0 rfl X _ rr z115d rfl hZ ?_
 simp only [Act.put]
 refine wpList_plain rfl fun K1 hK1 => ?_
 go_simp
 refine hC.mono ?_
 rintro e uv ⟨rfl, lv1, R1⟩
 have RS1 := aA R1
 clear R1 RS0 hC rr
 refine hK1 _ _ ?_
 clear hK1 K1
 have hC := (unhide RS1).fix z115i 64 (by decide) (fun i hi => by unfold z115f; (repeat (first | rw [if_pos (by (have := z115iQ; omega))] | rw [if_neg (by (have := z115iQ; omega))]))) (by decide) (by have := hh; (try simp only [List.length_append, List.length_cons, List.length_nil, bQ, bP, aN, bB, aW, bC, bA]); (have := z115iQ; omega))
 go_wp2_with fail
 refine hC.mono ?_
 rintro e uw ⟨rfl, lv2, R2⟩
 have RS2 := aA R2
 clear R2 RS1 hC
 have hC := (unhide RS2).whole
 exact sh48) : G := h
theorem sh116 {G : Prop} (h : G := by
 clear h0
 go_enter Tryz.func112, Tryz.ntmps112
 go_upto_region 1 with fail
 refine wp_region_lit ?_
 refine eV (by rfl) 30 _ rfl _ (by have h := unhide HZB; simpa using h) ?_
 simp only [Act.put]
 refine cV ?_
 generalize (w.alloc (.cells X.toArray 61)).alloc (.cells Z.toArray 30) = W1 at *
 refine wpList_store_row rfl 30 (.tmp 3) (.tmp 4) rfl (w.heap.size + 1) Z.toArray rfl rfl 30 Z.toArray (unhide HA1) (unhide HZA) rfl (unhide HZO) ?_
 obtain ⟨hb2, hA2, hT2⟩ := unhide HK W1 (unhide HB1) (unhide HA1) (unhide HT1)
 generalize W1.setRow (w.heap.size + 1) Z.toArray = W2 at *
 obtain ⟨k1, k2, k3, k4, r0, r1, r2⟩ := unhide HC W2 hT2
 have R0 := aA r0
 have R1 := aA r1
 have R2 := aA r2
 have RZ := aA (Arr.range (w := W2) (g := w.heap.size + 1) (ty := 30) (l := Z) hA2)
 have HB2 := aA hb2
 have HT2 := aA hT2
 clear r0 r1 r2 hA2 hb2 hT2 HB1 HA1 HT1 HK
 go_upto_region 2 with fail
 simp only [Act.put]
 refine rgY4 ?_
 refine bG (by kernel_rfl) fun K1 hK1 => ?_
 go_simp
 refine hK1 _ _ ?_
 clear hK1 K1
 refine bG (by kernel_rfl) fun K1 hK1 => ?_
 refine wp_load_mid 30 (.tmp 9) rfl w.heap.size 133 rfl X1 _ (unhide R1) Tryz.underlying30 rfl (unhide HZ1) ?_
 exact sh41) : G := h
theorem sh117 {G : Prop} (h : G := by
 clear h0
 go_enter Tryz.func112, Tryz.ntmps112
 go_upto_region 1 with fail
 refine wp_region_lit ?_
 refine eV (by rfl) 30 _ rfl _ (by have h := unhide HZB; simpa using h) ?_
 simp only [Act.put]
 refine cV ?_
 generalize (w.alloc (.cells X.toArray 61)).alloc (.cells Z.toArray 30) = W1 at *
 refine wpList_store_row rfl 30 (.tmp 3) (.tmp 4) rfl (w.heap.size + 1) Z.toArray rfl rfl 30 Z.toArray (unhide HA1) (unhide HZA) rfl (unhide HZO) ?_
 obtain ⟨hb2, hA2, hT2⟩ := unhide HK W1 (unhide HB1) (unhide HA1) (unhide HT1)
 generalize W1.setRow (w.heap.size + 1) Z.toArray = W2 at *
 obtain ⟨k1, k2, k3, k4, r0, r1, r2⟩ := unhide HC W2 hT2
 have R0 := aA r0
 have R1 := aA r1
 have R2 := aA r2
 have RZ := aA (Arr.range (w := W2) (g := w.heap.size + 1) (ty := 30) (l := Z) hA2)
 have HB2 := aA hb2
 have HT2 := aA hT2
 clear r0 r1 r2 hA2 hb2 hT2 HB1 HA1 HT1 HK
 go_upto_region 2 with fail
 simp only [Act.put]
 refine rgY4 ?_
 refine eU (by kernel_rfl) ?_
 simp only [Act.put]
 refine eU (by kernel_rfl) ?_
 simp only [Act.put]
 refine eU (by kernel_rfl) ?_
 simp only [Act.put]
 refine eU (by kernel_rfl) ?_
 simp only [Act.put]
 exact sh36) : G := h
theorem sh118 {G : Prop} (h : G := by
 have z118dq := z118dQ
 have z118gq := z118gQ
 obtain ⟨i0, hi, hsz, hzr⟩ : ∃ i0, Tryz.prog.info? z118a = some i0 ∧ i0.size = 3 ∧ i0.zero = some (.agg #[.nilFunc, .nilFunc, .nilFunc]) := ⟨_, rfl, rfl, rfl⟩
 go_enter z118b, z118c
 go_wp2_with fail
 have h0 := fW (w.alloc (.cells #[.int .i64 0, .int .i64 0, .slice none 0 0] z118d))
 refine h0.mono ?_
 rintro e w0 ⟨g0, vs0, rfl, t0, c0⟩
 clear h0
 have e5 : aF.length = 5 := rfl
 rw [e5]
 have T0 := aA t0
 have B0 := aA c0
 clear t0 c0 e5
 have hfd : ∀ (w : World), (Instr.field 158 (.agg #[.int .i64 1, .int .i64 4, .slice (some ⟨g0, 0, none⟩) 5 5]) 2).run Tryz.prog w = .ok (.slice (some ⟨g0, 0, none⟩) 5 5) w := fun _ => by kernel_rfl
 go_wp2_with fail
 have h1 := z118e (S := New noS (w.alloc (.cells #[.int .i64 0, .int .i64 0, .slice none 0 0] z118d)) w0) (sT := z118f) (sP := aD) (nT := 163) (nP := 99) (a := 0) (n := 5) (c := 5) (fs := aF) w0 (.func (.func z118g) #[] #[]) (New.lt (cD _) (unhide B0).size) z118h (unhide T0) (unhide T0).len.symm (by decide) (by decide) (by decide) (fun j hj => by unfold z118f; rw [Nat.zero_add, if_pos hj])
 refine h1.mono ?_
 rintro e w1 ⟨v1, rfl, f1, c1⟩
 have F1 := aA (in_first f1 (unhide B0) c1)
 have B1 : Hid (Below ((w.alloc (.cells #[.int .i64 0, .int .i64 0, .slice none 0 0] z118d))).heap.size (w.alloc (.cells #[.int .i64 0, .int .i64 0, .slice none 0 0] z118d)) w1) := aA (dL (unhide B0) c1)
 clear h1 f1 c1 T0 B0 hfd
 exact sh51) : G := h
theorem sh119 {G : Prop} (h : G := by
 obtain ⟨k, caps, rfl, eg, hp⟩ := hp
 refine ⟨_, _, rfl, enters_of z119a (by kernel_rfl) rfl, ?_⟩
 intro w base p lv l q ty sh N x o hb hW hKp hKb hbs hT hSg hl
 have cb : w.cell? ⟨bx, 0, none⟩ = some (.func (.func k) #[] caps) := by simpa using (hb.arr hA hbx).cell 0
 have ca : w.cell? ⟨q, o + a, none⟩ = some (.int .i64 (sft o x a)) := by rw [hSg.cell hT a ha, hs]; rfl
 have hC := hp w q o hb
 have hU := wU64_any base p lv l 0 (IntKind.u64.wrap (sft o x a)) w hW (wrap64_nn _) (by omega) hbs
 generalize hy : sft o x a = y at *
 have HP : Hid (bZ (beB 8 (IntKind.u64.wrap y)) (l, 0) = (l ++ (aV a most).enc (sft o x), 0)) := by
  show _ = _
  simp only [bZ, aV, hy, if_true]; rfl
 exact sh40) : G := h
theorem sh120 {G : Prop} (h : G := by
 refine stY2 ?_
 refine bG (by kernel_rfl) fun K1 hK1 => ?_
 go_simp
 refine hK1 _ _ ?_
 clear hK1 K1
 refine bG (by kernel_rfl) fun K1 hK1 => ?_
 go_simp
 refine hK1 _ _ ?_
 clear hK1 K1
 refine bG (by kernel_rfl) fun K1 hK1 => ?_
 go_simp
 refine hK1 _ _ ?_
 clear hK1 K1
 refine bG (by kernel_rfl) fun K1 hK1 => ?_
 go_simp
 refine hK1 _ _ ?_
 clear hK1 K1
 refine bG (by kernel_rfl) fun K1 hK1 => ?_
 go_simp
 refine hK1 _ _ ?_
 clear hK1 K1
 refine bG (by kernel_rfl) fun K1 hK1 => ?_
 refine wp_load_mid 30 (.tmp 19) rfl w.heap.size 198 rfl X2 _ (unhide R2) Tryz.underlying30 rfl (unhide HZ2) ?_
 exact sh165) : G := h
theorem sh121 {G : Prop} (h : G := by
 refine cV ?_
 refine wpList_load_mid rfl 30 (.tmp z121a) rfl w.heap.size 265 rfl (cl sB 64 (sft 265 x)) _ (unhide R265) Tryz.underlying30 rfl (by rw [aC]; exact Tryz.szKSig) ?_
 exact sh47) : G := h
theorem sh122 {G : Prop} (h : G := by
 obtain ⟨x, RS⟩ : ∃ x : Nat → Int, Hid (RdS w 61 aI 262 q p b Z ((aB aT).get (fun _ => 0) (spl b.l).2.1) x U5) := ⟨_, by rw [unhide HDR, gE]; rw [← nE] at RS5; exact RS5⟩
 clear RS5 HDR
 obtain ⟨t, f, hI, hG⟩ := (unhide RS).inr
 have HXX := aA (unhide HX x _ _ hG)
 have HGG := aA hG
 clear HX hG hI
 have rg := aA (Arr.range (unhide RS).trm.arr)
 have HOK := aA (unhide RS).trm.ok
 have HSM : Hid ((Tryz.prog.info? 61).map (·.size) = some (cl aI 262 x).length) := aA (by rw [aC]; exact Tryz.szTEntry)
 have HSA : Hid ((Tryz.prog.info? 61).map (·.size) = some (cl aI 262 x).toArray.size) := aA (by rw [List.size_toArray, aC]; exact Tryz.szTEntry)
 have HSS : Hid (Z.toArray.size = (cl aI 262 x).toArray.size) := aA (by rw [List.size_toArray, List.size_toArray, aC, unhide HZL])
 have HOC : Hid ((cl aI 262 x).toArray.all (·.oneCell') = true) := aA (all_oneCell_toArray (cK _ _ _))
 have hOf := kT x U5 (unhide HOK)
 exact sh18) : G := h
theorem sh123 {G : Prop} (h : G := by
 clear h0
 go_enter Tryz.func112, Tryz.ntmps112
 go_upto_region 1 with fail
 refine wp_region_lit ?_
 refine eV (by rfl) 30 _ rfl _ (by have h := unhide HZB; simpa using h) ?_
 simp only [Act.put]
 refine cV ?_
 generalize (w.alloc (.cells X.toArray 61)).alloc (.cells Z.toArray 30) = W1 at *
 refine wpList_store_row rfl 30 (.tmp 3) (.tmp 4) rfl (w.heap.size + 1) Z.toArray rfl rfl 30 Z.toArray (unhide HA1) (unhide HZA) rfl (unhide HZO) ?_
 obtain ⟨hb2, hA2, hT2⟩ := unhide HK W1 (unhide HB1) (unhide HA1) (unhide HT1)
 generalize W1.setRow (w.heap.size + 1) Z.toArray = W2 at *
 obtain ⟨k1, k2, k3, k4, r0, r1, r2⟩ := unhide HC W2 hT2
 have R0 := aA r0
 have R1 := aA r1
 have R2 := aA r2
 have RZ := aA (Arr.range (w := W2) (g := w.heap.size + 1) (ty := 30) (l := Z) hA2)
 have HB2 := aA hb2
 have HT2 := aA hT2
 clear r0 r1 r2 hA2 hb2 hT2 HB1 HA1 HT1 HK
 exact sh44) : G := h
theorem sh124 {G : Prop} (h : G := by
 refine hK.out _ _ (unhide HK2 _ bs) (fun hHeld => ?_)
 clear hK K
 have hC := gR ys2 W.heap.size v1 v2 [s] [(L0, G0)] s2 G2 RSs (by simp) hs (Sl.Off.of (B := 0) hE2.rs.l1 hsf) (Sl.Off.of (B := 0) hE2.rs.l2 hsf) (fun y hy => Nat.le_trans hE2.bel.size (hsf y hy)) hG2 hB2 bs.size
 rw [hsl2, hsv] at hC
 refine rdY 7 rfl fun K hK => ?_
 go_simp
 refine hC.mono ?_
 rintro e yw2 ⟨a2, b2, rfl, RS2, hBw, hfr⟩
 obtain ⟨svw, hF2⟩ := hE2.next bu hsf RS2 hBw hfr
 have bw := bs.trans hBw
 refine hK.out _ _ (unhide HK2 _ bw) (fun hHeld => ?_)
 clear hK K hC
 refine rdY 8 rfl fun K hK => ?_
 refine eH rfl 234 (.tmp 3) (.tmp 31) rfl q #[a2, b2] rfl rfl 234 #[v1, v2] svw (by kernel_rfl) rfl (jF RS2) ?_
 exact sh35) : G := h
theorem sh125 {G : Prop} (h : G := by
 have z125aq := z125aQ
 have z125bq := z125bQ
 have hC := (unhide RS2).fix z125a z125b (by decide) (fun i hi => by unfold z125c; (repeat (first | rw [if_pos (by (have := z125aQ; have := z125bQ; omega))] | rw [if_neg (by (have := z125aQ; have := z125bQ; omega))]))) (by decide) (by have := hh; (try simp only [List.length_append, List.length_cons, List.length_nil, bQ, bP, aN, bB, aW, bC, bA]); (have := z125aQ; have := z125bQ; omega))
 go_wp2_with fail
 refine hC.mono ?_
 rintro e ux ⟨rfl, lv3, R3⟩
 have RS3 := aA R3
 clear R3 RS2 hC
 have hC := (unhide RS3).whole
 exact sh48) : G := h
theorem sh126 {G : Prop} (h : G := by
 clear hok
 generalize hg0 : run x 35 64 = G0 at *
 generalize cl z126a 99 x = X at *
 clear hl0 hg0
 simp only []
 go_at_K
 rename_i hK
 refine hK _ _ ?_
 clear hK
 refine stY4 ?_
 refine wpList_store_row rfl z126b (.tmp 6) (.tmp 22) rfl w1.heap.size X.toArray rfl rfl z126b Z.toArray (unhide hAq) (unhide HSA) (unhide HLL) (all_oneCell_toArray (unhide HOC)) ?_
 generalize hq : w1.heap.size = q at *
 generalize hWq : (w1.alloc (.cells Z.toArray z126b)).setRow q X.toArray = W at *
 clear hWq
 refine dO ?_
 clear hAq HSA HLL HOC HXL HZL hQ bq hA1 hb1
 go_upto_region 4 with fail
 exact sh12) : G := h
theorem sh127 {G : Prop} (h : G := by
 have z127bq := z127bQ
 have z127cq := z127cQ
 have z127eq := z127eQ
 have b0 : Below w.heap.size w (w.alloc (.cells (cl z127a z127b x).toArray z127c)) := aJ w _
 have T0 : Trm (w.alloc (.cells (cl z127a z127b x).toArray z127c)) w.heap.size z127c z127a z127b x := ⟨Arr.new w _ _, hok, by decide, by decide, by decide⟩
 have c0 : (w.alloc (.cells (cl z127a z127b x).toArray z127c)).cell? ⟨w.heap.size, 0, none⟩ = some (.int .i64 (x 0)) := T0.cell 0 (by decide)
 have HF : Hid ((aB z127d).fit x = decide (z127e ≤ x 0 ∧ x 0 ≤ 65536)) := aA (by
  simp only [aB, z127d, aO, aV, aL, bR, bF, Bool.and_true, Bool.decide_and]
  try simp only [Bool.and_true, Bool.and_assoc])
 generalize (aB z127d).fit x = R at *
 have HB := aA b0
 clear b0 T0 hok
 generalize hX : cl z127a z127b x = X at *
 clear hX
 by_cases h0 : z127e ≤ x 0 ∧ x 0 ≤ 65536
 ·rw [decide_eq_true h0] at HF
  have V0 := fun W => eA h0 W
  skip
  exact sh70
 ·rw [decide_eq_false h0] at HF
  have V0 := fun W => fE h0 W
  clear h0
  exact sh70) : G := h
theorem sh128 {G : Prop} (h : G := by
 have z128fq := z128fQ
 have z128hq := z128hQ
 refine hC.mono ?_
 rintro e V2 ⟨L2, rfl, HL, HT, HO, RS2⟩
 clear hC RS1
 have HI : Hid ((Tryz.prog.info? z128a).map (·.size) = some (U8 L2).toArray.size) := aA (by rw [List.size_toArray, U8_length, unhide HL]; exact z128b)
 generalize U8 L2 = C2 at *
 simp only []
 go_at_K
 rename_i hK
 refine hK _ _ ?_
 clear hK
 refine cV ?_
 refine wpList_store_mid rfl z128a (.tmp z128c) (.tmp z128d) rfl q z128e C2.toArray rfl rfl (unhide HT) (unhide HI) (unhide HO) ?_
 refine wpList_nil ?_
 simp only [Act.put]
 generalize V2.setCells q z128e C2.toArray.toList = U2 at *
 clear HL HT HO HI
 go_upto_region 7 with fail
 obtain ⟨x, RS⟩ : ∃ x : Nat → Int, Hid (RdS w z128f z128g z128h q p b Z ((aB z128i).get (fun _ => 0) (spl b.l).2.1) x U2) := ⟨_, by rw [unhide HDR, gE]; exact RS2⟩
 exact sh26) : G := h
theorem sh129 {G : Prop} (h : G := by
 refine h3.mono ?_
 rintro e w3 ⟨v3, rfl, f3, c3⟩
 have F3 := aA f3
 have B3 := aA c3
 clear h3 f3 c3
 go_wp2_with fail
 have h4 := z129a (S := noS) (sT := z129b) (nT := 99) (a := 3) (n := 32) w3 _ (cD _) z129c (by decide) (fun i hi => by unfold z129b; rw [if_neg (by omega)]) (by decide) (by decide)
 refine h4.mono ?_
 rintro e w4 ⟨v4, rfl, f4, c4⟩
 have F4 := aA f4
 have B4 := aA c4
 clear h4 f4 c4
 go_wp2_with fail
 have h5 := z129a (S := noS) (sT := z129b) (nT := 99) (a := 35) (n := 64) w4 _ (cD _) z129d (by decide) (fun i hi => by unfold z129b; rw [if_neg (by omega)]) (by decide) (by decide)
 exact sh52) : G := h
theorem sh130 {G : Prop} (h : G := by
 rw [hfl]
 have hC := hU _ _ _ hTab hB1
 clear hU hTab hfl
 go_wp2_with fail
 refine hC.mono ?_
 rintro e w3 ⟨v, ps, rfl, hPr, hE, hB3⟩
 obtain ⟨av, cv, rfl⟩ := bK hPr.own
 have HE : Hid (cS ([cT x]) w (.returned (.tuple #[.slice av ps.length cv, .int .i64 0])) w3) := aA ⟨_, ps, rfl, hPr.mono hB1.size, hE, hB1.trans (hB3.mono hB1.size)⟩
 exact sh85) : G := h
theorem sh131 {G : Prop} (h : G := by
 rw [pK]
 refine ⟨_, (bO (bO (eN 0 1 _ (fun _ _ _ => rfl)) (bO (eN 1 1 _ (fun _ _ _ => rfl)) (bO (lW 2 _) (bO (eO 3 32) (bO (eO 35 64) (gD 99)))))) (bO (eO 99 64) (gD 163))), fun y hok hf => ?_, fun y => ?_⟩
 ·exact sh73
 ·exact sh82) : G := h
theorem kQ {G : Prop} (h : G := by
 have z132fq := z132fQ
 have z132hq := z132hQ
 obtain ⟨Z, it, -, hZl, hit, hzz, hzv⟩ := z132a
 have hD := z132b a w ha
 have hE := fun W (h : Below w.heap.size w W) => z132c b W (hb.later h) hm
 rw [hl] at hD
 unfold bU at hD hE
 generalize decL z132d (aB z132e) b.l = RR at *
 obtain ⟨x, k⟩ := RR
 simp only at hD hE
 have hok : ∀ i, i < z132f → (z132g i).ok (x i) := by
  obtain ⟨e, w', -, h, -⟩ := oH hD
  exact h
 have hq : ∀ W : World, (Op.equalIn 10000 z132h (.agg (cl z132g z132f x).toArray) (.agg (cl z132g z132f x).toArray)).run Tryz.prog W = .ok true W := fun W => by rw [z132i x x W hok hok, ag_self]
 have hML : (cl z132g z132f x).length = z132f := aC _ _ _
 have HOC := aA (cK z132g z132f x)
 have HSM : Hid ((Tryz.prog.info? z132h).map (·.size) = some (cl z132g z132f x).length) := aA (by rw [hML]; exact z132j)
 have HSA : Hid ((Tryz.prog.info? z132h).map (·.size) = some (cl z132g z132f x).toArray.size) := aA (by rw [List.size_toArray, hML]; exact z132j)
 have HLL : Hid (Z.toArray.size = (cl z132g z132f x).toArray.size) := aA (by rw [List.size_toArray, List.size_toArray, hML, hZl])
 clear hit hzz hZl ha hb hl hok hML
 have hav : a.v = .slice a.a a.n a.c := rfl
 have hbv : b.v = .slice b.a b.n b.c := rfl
 rw [hav] at hD ⊢
 rw [hbv] at hE ⊢
 clear hav hbv
 generalize cl z132g z132f x = M at *
 go_enter Tryz.func14, Tryz.ntmps14
 go_wp2_with fail
 refine hD.mono ?_
 rintro e w1 ⟨rfl, -, hB1⟩
 have hA := Arr.new w1 z132h Z
 have A2 : Arr ((w1.alloc (.cells Z.toArray z132h)).setRow w1.heap.size M.toArray) w1.heap.size z132h M := hA.setRow M
 have b2 : Below w.heap.size w ((w1.alloc (.cells Z.toArray z132h)).setRow w1.heap.size M.toArray) := bJ (hB1.alloc hB1.size _) hB1.size _
 clear hD hB1
 simp only []
 go_at_K
 rename_i hK
 refine hK _ _ ?_
 clear hK
 refine stY4 ?_
 refine wpList_store_row rfl z132h (.tmp z132k) (.tmp z132l) rfl w1.heap.size M.toArray rfl rfl z132h Z.toArray hA (unhide HSA) (unhide HLL) (all_oneCell_toArray (unhide HOC)) ?_
 clear hA
 generalize hq1 : w1.heap.size = q1 at *
 generalize (w1.alloc (.cells Z.toArray z132h)).setRow q1 M.toArray = W1 at *
 refine dO ?_
 have hE1 := hE W1 b2
 clear hE hq1
 go_wp2_with fail
 refine hE1.mono ?_
 rintro e w2 ⟨rfl, -, hB3⟩
 have hA := Arr.new w2 z132h Z
 have A3 : Arr ((w2.alloc (.cells Z.toArray z132h)).setRow w2.heap.size M.toArray) w2.heap.size z132h M := hA.setRow M
 have A2' := A2.later hB3
 have hlt := A2'.lt
 have A4 : Arr ((w2.alloc (.cells Z.toArray z132h)).setRow w2.heap.size M.toArray) q1 z132h M := (A2'.alloc _).setRow_ne _ (by (have := z132fQ; have := z132hQ; omega))
 have b3 := b2.trans (hB3.mono b2.size)
 have HB : Hid (Below w.heap.size w ((w2.alloc (.cells Z.toArray z132h)).setRow w2.heap.size M.toArray)) := aA (bJ (b3.alloc b3.size _) b3.size _)
 clear hE1 hB3 A2 A2' b2 b3
 simp only []
 go_at_K
 rename_i hK
 refine hK _ _ ?_
 clear hK
 refine stY4 ?_
 refine wpList_store_row rfl z132h (.tmp z132m) (.tmp z132n) rfl w2.heap.size M.toArray rfl rfl z132h Z.toArray hA (unhide HSA) (unhide HLL) (all_oneCell_toArray (unhide HOC)) ?_
 clear hA hlt
 generalize w2.heap.size = q2 at *
 generalize (w2.alloc (.cells Z.toArray z132h)).setRow q2 M.toArray = W2 at *
 refine cV ?_
 exact z132rr) : G := h
theorem kP {G : Prop} (h : G := by
 have z133cq := z133cQ
 have z133dq := z133dQ
 have z133jq := z133jQ
 obtain ⟨Z, it, hZ, hZl, hit, hz, hzv⟩ := z133a
 have hD := DSt.new w z133b z133c [.int .i64 dom, .int .i64 sgn, .slice (some ⟨g, 0, none⟩) z133d z133d] Z
 have hvl : vs.length = z133d := hTab.len
 have hsz : (Tryz.prog.info? z133c).map (·.size) = some Z.length := by rw [hZl]; exact z133e
 have hsa : (Tryz.prog.info? z133c).map (·.size) = some Z.toArray.size := by rw [List.size_toArray, hZl]; exact z133e
 have hoc : Z.toArray.all (·.oneCell') = true := by rw [hZ]; exact all_oneCell_toArray (cK _ _ _)
 have HSZ := aA hsz
 have HSAZ := aA hsa
 have HOCZ := aA hoc
 have HZE := aA hZ
 have hSp := fun W (h : Below w.heap.size w W) => split_any b W (hbo.later h)
 have HB := aA hb
 have HT := aA hTab
 have HN := aA hvl
 have HZL := aA hZl
 clear hit hz hsz hsa hoc hZ hbo hb hTab hvl hZl
 have hbv : b.v = .slice b.a b.n b.c := rfl
 rw [hbv] at hSp ⊢
 generalize b.a = ba at *
 generalize b.n = bn at *
 generalize b.c = bc at *
 generalize b.l = bl at *
 clear hbv b
 go_enter z133f, z133g
 go_wp2_with fail
 have hC := hSp _ hD.bel
 clear hSp
 have S0 := aA hD
 clear hD
 generalize ((((w.alloc (.cells ([.int .i64 dom, .int .i64 sgn, .slice (some ⟨g, 0, none⟩) z133d z133d]).toArray z133b)).alloc (.cells Z.toArray z133c)).alloc (.cells Z.toArray z133c)).alloc (.cells Z.toArray z133c)) = W at *
 refine hC.mono ?_
 rintro e w1 ⟨⟨s1, rfl, hs1, hsl1⟩, hB1⟩
 have hSt := (unhide S0).later hB1
 have hs1 := hs1.later hB1
 have ST := aA hSt
 clear hC S0 hB1
 have c0 : w1.cell? ⟨w.heap.size, 0, none⟩ = some (.int .i64 dom) := (unhide ST).a0.cell 0
 by_cases h0 : (spl bl).2.2 = 0
 ·by_cases h1 : (spl bl).1 = dom
  ·have hle := spl_le bl
   have hR := newReader_any s1 w1 hs1 (by rw [← hs1.len, hsl1]; (have := z133cQ; have := z133dQ; have := z133jQ; omega))
   have hDF := fun (p q N : Nat) (s t : Sl) (fl : Int) (ty : TypeId) (sh : Nat → Kd) (x : Nat → Int) (w w' : World) => dec_form (f := aB z133h) (l := bl) (p := p) (q := q) (N := N) (s := s) (t := t) (fl := fl) (ty := ty) (sh := sh) (x := x) (w := w) (w' := w') h0 h1
   have hDE := fun (p q N : Nat) (s t : Sl) (fl : Int) (ty : TypeId) (sh : Nat → Kd) (x : Nat → Int) (w w' : World) => dec_end (f := aB z133h) (l := bl) (p := p) (q := q) (N := N) (s := s) (t := t) (fl := fl) (ty := ty) (sh := sh) (x := x) (w := w) (w' := w') h0 h1
   have HDF := aA hDF
   have HDE := aA hDE
   have hsv : s1.v = .slice s1.a s1.n s1.c := rfl
   rw [h0, h1, hsv]
   rw [hsv] at hR
   have HLE := aA hle
   have HL1 := aA hsl1
   clear hDF hDE hle hsl1 hs1 hsv h0 h1
   generalize s1.a = sa at *
   generalize s1.n = sn at *
   generalize s1.c = sc at *
   go_wp2_with fail
   refine hR.mono ?_
   rintro e w2 ⟨p, s, rfl, hRd, hsl, hpw, hsx, hB2⟩
   have hSt2 := (unhide ST).later hB2
   have hlt := (unhide ST).lt
   have hK2 : Kept S w0 w2 := (unhide HB).below hSt2.bel
   have hnS : ∀ k, w.heap.size ≤ k → ¬ S k := fun k hk hS => by have := (unhide HB).lt k hS; have := (unhide HB).size; (have := z133cQ; have := z133dQ; have := z133jQ; omega)
   have hTr : Trm w2 (w.heap.size + 3) z133c z133i z133j (fun _ => 0) := ⟨by rw [← unhide HZE]; exact hSt2.a3, fun i _ => iL _, by decide, by decide, by decide⟩
   have hG := z133k (n := z133d) (c := z133d) (unhide HT) (by rw [unhide HN]; decide) (Nat.le_refl _) (by decide) w2 p s 0 (w.heap.size + 3) z133c z133i z133j (fun _ => 0) 0 hK2 hRd (hnS p (by (have := z133cQ; have := z133dQ; have := z133jQ; omega))) (hnS _ (by (have := z133cQ; have := z133dQ; have := z133jQ; omega))) hTr ⟨by (have := z133cQ; have := z133dQ; have := z133jQ; omega), fun j hj => by rw [Nat.zero_add]⟩ (fun y hy e => by have := hsx y hy; (have := z133cQ; have := z133dQ; have := z133jQ; omega)) (by rw [← hRd.ok.len, hsl, unhide HL1]; have := unhide HLE; (have := z133cQ; have := z133dQ; have := z133jQ; omega))
   exact z133rr
  ·exact sh113
 ·exact sh24) : G := h
theorem sh134 {G : Prop} (h : G := by
 obtain ⟨Z, it, -, hZl, hit, hzz, hzv⟩ := z134a
 have b1 : Below w.heap.size w (w.alloc (.cells #[.int .i64 z134b, .int .i64 z134c, .slice (some ⟨g, 0, none⟩) z134d z134d] z134e)) := aJ w _
 have A1 := Arr.new w z134e [.int .i64 z134b, .int .i64 z134c, .slice (some ⟨g, 0, none⟩) z134d z134d]
 have c0 : (w.alloc (.cells #[.int .i64 z134b, .int .i64 z134c, .slice (some ⟨g, 0, none⟩) z134d z134d] z134e)).cell? ⟨w.heap.size, 0, none⟩ = some (.int .i64 z134b) := A1.cell 0
 have c1 : (w.alloc (.cells #[.int .i64 z134b, .int .i64 z134c, .slice (some ⟨g, 0, none⟩) z134d z134d] z134e)).cell? ⟨w.heap.size, 1, none⟩ = some (.int .i64 z134c) := A1.cell 1
 have c2 : (w.alloc (.cells #[.int .i64 z134b, .int .i64 z134c, .slice (some ⟨g, 0, none⟩) z134d z134d] z134e)).cell? ⟨w.heap.size, 2, none⟩ = some (.slice (some ⟨g, 0, none⟩) z134d z134d) := A1.cell 2
 have hD := z134f hTab _ z134b z134c b (hbo.later b1) (hb.below b1)
 have HM : Hid (∀ e w1, bU z134b (aB z134g) z134h z134i b.l (w.alloc (.cells #[.int .i64 z134b, .int .i64 z134c, .slice (some ⟨g, 0, none⟩) z134d z134d] z134e)) e w1 → e = .returned (.tuple #[.agg (cl z134h z134i x).toArray, .int .i64 0]) ∧ Below w.heap.size w w1) := by
  rintro e w1 ⟨rfl, -, hB⟩
  rw [hz]
  exact ⟨by rw [cl_ext hzx], b1.trans (hB.mono b1.size)⟩
 have hF := fun W => z134j W x hokm
 have hML : (cl z134h z134i x).length = z134i := aC _ _ _
 have hOC := cK z134h z134i x
 have eg := enters_of z134k (by kernel_rfl) rfl
 simp only [Enters] at eg
 have HZL := aA hZl
 clear hit hzz hZl hbo hb hTab hz hzx hokm A1 b1
 have hbv : b.v = .slice b.a b.n b.c := rfl
 rw [hbv] at hD ⊢
 generalize b.a = ba at *
 generalize b.n = bn at *
 generalize b.c = bc at *
 generalize b.l = bl at *
 clear hbv b
 generalize cl z134h z134i x = M at *
 have HML := aA hML
 have HOC := aA hOC
 have HSA : Hid ((Tryz.prog.info? z134l).map (·.size) = some M.toArray.size) := by
  show _ = _
  rw [List.size_toArray, hML]; exact z134m
 have HSM : Hid ((Tryz.prog.info? z134l).map (·.size) = some M.length) := by
  show _ = _
  rw [hML]; exact z134m
 have HLL : Hid (Z.toArray.size = M.toArray.size) := by
  show _ = _
  rw [List.size_toArray, List.size_toArray, hML, unhide HZL]
 clear hML hOC
 go_enter z134n, z134o
 go_wp2_with fail
 refine hD.mono ?_
 intro e w1 hP
 obtain ⟨rfl, hB1⟩ := unhide HM _ _ hP
 clear hD hP HM c0 c1 c2
 simp only []
 go_at_K
 rename_i hK
 refine hK _ _ ?_
 clear hK
 refine stY4 ?_
 have HA := aA (Arr.new w1 z134l Z)
 have HA2 : Arr ((w1.alloc (.cells Z.toArray z134l)).setRow w1.heap.size M.toArray) w1.heap.size z134l M := setRow_heap _ _ _ _ _ _ (unhide HA)
 have HB2 : Hid (Below w.heap.size w ((w1.alloc (.cells Z.toArray z134l)).setRow w1.heap.size M.toArray)) := aA (bJ (hB1.alloc hB1.size _) hB1.size _)
 refine wpList_store_row rfl z134l (.tmp 8) (.tmp 14) rfl w1.heap.size M.toArray rfl rfl z134l Z.toArray (unhide HA) (unhide HSA) (unhide HLL) (all_oneCell_toArray (unhide HOC)) ?_
 have RM := aA HA2.range
 clear HA HA2 hB1
 generalize (w1.alloc (.cells Z.toArray z134l)).setRow w1.heap.size M.toArray = W at *
 refine dO ?_
 have hC := hF W
 clear hF
 go_upto_region 4 with fail
 refine eI ?_
 refine wpList_load_mid rfl z134l (.tmp 8) rfl w1.heap.size 0 rfl M _ (unhide RM) z134p rfl (unhide HSM) ?_
 simp only [Act.put]
 refine wpList_plain rfl fun K1 hK1 => ?_
 go_simp
 refine hC.mono ?_
 rintro e w3 ⟨v, ps, rfl, hPr, hE, hB3⟩
 obtain ⟨av, cv, rfl⟩ := bK hPr.own
 exact z134rr) : G := h
theorem sh135 {G : Prop} (h : G := by
 have z135cq := z135cQ
 have z135eq := z135eQ
 have z135hq := z135hQ
 have z135kq := z135kQ
 have z135lq := z135lQ
 obtain ⟨Z, it, hZ, hZl, hit, hz, hzv⟩ := z135a
 have hzb := z135b
 rw [← hZ] at hzb
 have A0 := Arr.new w z135c Z
 have b0 : Below w.heap.size w (w.alloc (.cells Z.toArray z135c)) := aJ w _
 have hlt0 := A0.lt
 have hsa : (Tryz.prog.info? z135c).map (·.size) = some Z.toArray.size := by rw [List.size_toArray, hZl]; exact z135d
 have hoc : Z.toArray.all (·.oneCell') = true := by rw [hZ]; exact all_oneCell_toArray (cK _ _ _)
 have HSAZ := aA hsa
 have HOCZ := aA hoc
 have HZE := aA hZ
 have HZL := aA hZl
 have HZB := aA hzb
 have HBO := aA hb
 have HA0 := aA A0
 have HB0 := aA b0
 have HM := aA hm
 have HEND0 : Hid (∀ (k : Int) W, decL z135e (aB z135f) b.l = (fun _ => 0, k) → Below w.heap.size w W → bU z135e (aB z135f) z135g z135h b.l w (.returned (.tuple #[.agg Z.toArray, .int .i64 k])) (W.setRow w.heap.size Z.toArray)) := aA fun k W hk hW => bU.of hk hZ (fun i _ => iL _) (bJ hW (Nat.le_refl _) _)
 clear A0 hsa hoc hit hz hzb hZ hZl hm
 by_cases h0 : (spl b.l).2.2 = 0
 ·by_cases h1 : (spl b.l).1 = z135e
  ·have hF := oE b z135e _ (hb.later b0) h0 h1
   have HX := aA (fun (x : Nat → Int) (r : List Int) (f : Int) (h : Grd ((aB z135f).get (fun _ => 0) (spl b.l).2.1) x r f) => pN h0 h1 h)
   have HDR := aA (spl_drop h0)
   clear hb b0 h0 h1
   have hbv : b.v = .slice b.a b.n b.c := rfl
   rw [hbv] at hF ⊢
   clear hbv
   go_enter z135i, z135j
   go_wp2_with fail
   generalize hW0 : (w.alloc (.cells Z.toArray z135c)) = W0 at *
   clear hW0
   refine hF.mono ?_
   rintro e w1 ⟨p, rfl, hp, hI, hB1⟩
   clear hF
   have hA1 := (unhide HA0).later hB1
   have hb1 := (unhide HB0).trans (hB1.mono (unhide HB0).size)
   go_upto_region 4 with fail
   refine eI ?_
   refine wpList_plain rfl fun K1 hK1 => ?_
   go_simp
   have hbd := face_bd (C := fun y : Int => 0 ≤ y ∧ y < 4294967296) (z := 0) (P := dV) (st := (b.l.drop 4, 0)) (by (have := z135cQ; have := z135eQ; have := z135hQ; have := z135kQ; have := z135lQ; omega)) (fun _ _ hh => pU32_bd (fun c hc => hI.ok.isB c (List.mem_of_mem_drop hc)) hh)
   refine (iU32_any p b 4 0 w1 hI (by have := unhide HM; (have := z135cQ; have := z135eQ; have := z135hQ; have := z135kQ; have := z135lQ; omega))).mono ?_
   rintro e w2 ⟨hB2, v0, t2, rfl, hV, hI2, hr2⟩
   simp only [isI] at hV
   subst hV
   have hG2 := (show Grd (some (fun _ => 0, b.l.drop 4)) (fun _ => 0) (b.l.drop 4) 0 from ⟨rfl, rfl, rfl⟩).num 0 z135k (fun _ => z135l)
   rw [← hr2] at hG2
   generalize (face 0 dV (b.l.drop 4, 0)).2.2 = f2 at *
   generalize (face 0 dV (b.l.drop 4, 0)).1 = v at *
   have hwv : IntKind.i64.wrap v = v := nS _ (by (have := z135cQ; have := z135eQ; have := z135hQ; have := z135kQ; have := z135lQ; omega))
   have hyo2 : ∀ i, i < z135h → (z135g i).ok (upd (fun _ => 0) 0 v i) := fun i hi => by
    unfold upd
    split
    ·rename_i e; subst e; exact ⟨by (have := z135cQ; have := z135eQ; have := z135hQ; have := z135kQ; have := z135lQ; omega), by (have := z135cQ; have := z135eQ; have := z135hQ; have := z135kQ; have := z135lQ; omega)⟩
    ·exact iL _
   have hbt := z135m v
   refine hK1 _ _ ?_
   clear hK1 K1
   refine cV ?_
   clear hwv hbd hr2
   have RS0 : Hid (RdS w z135c z135g z135h w2.heap.size p b Z (stp (aO 0 z135k (fun _ => z135l)) (some (fun _ => 0, b.l.drop 4))) (upd (fun _ => 0) 0 v) ((w2.alloc (.cells Z.toArray z135c)).setRow w2.heap.size (cl z135g z135h (upd (fun _ => 0) 0 v)).toArray)) := aA (RdS.first hA1 hb1 (by have := (unhide HB0).size; (have := z135cQ; have := z135eQ; have := z135hQ; have := z135kQ; have := z135lQ; omega)) hB2 hI2 hG2 hyo2 (unhide HBO) (unhide HM) (unhide HZL) (by decide) (by decide) (by decide))
   have HP : Hid (w.heap.size < p) := aA (by have := (unhide HB0).size; (have := z135cQ; have := z135eQ; have := z135hQ; have := z135kQ; have := z135lQ; omega))
   have HS0 : Hid (Z.toArray.size = (cl z135g z135h (upd (fun _ => 0) 0 v)).toArray.size) := aA (by rw [List.size_toArray, List.size_toArray, aC, unhide HZL])
   have HI0 : Hid ((Tryz.prog.info? z135c).map (·.size) = some (cl z135g z135h (upd (fun _ => 0) 0 v)).toArray.size) := aA (by rw [List.size_toArray, aC]; exact z135d)
   have HO0 : Hid ((cl z135g z135h (upd (fun _ => 0) 0 v)).toArray.all (·.oneCell') = true) := aA (all_oneCell_toArray (cK _ _ _))
   have HA2 := aA (Arr.new w2 z135c Z)
   clear hA1 hb1 hB1 hp hI hB2 hyo2 hI2 hG2 HA0 HB0
   generalize hC0 : cl z135g z135h (upd (fun _ => 0) 0 v) = C0 at *
   clear hC0
   refine eL rfl z135c _ rfl C0.toArray (by simpa [Act.eval] using hbt) ?_
   simp only [Act.put]
   clear hbt
   refine cV ?_
   generalize hW2 : w2.alloc (.cells Z.toArray z135c) = W2 at *
   clear hW2
   refine wpList_store_row rfl z135c (.tmp 6) (.tmp 19) rfl w2.heap.size C0.toArray rfl rfl z135c Z.toArray (unhide HA2) (unhide HI0) (unhide HS0) (unhide HO0) ?_
   refine wpList_nil ?_
   simp only [Act.put]
   generalize W2.setRow w2.heap.size C0.toArray = U0 at *
   generalize w2.heap.size = q at *
   clear HA2 HI0 HS0 HO0
   go_wp2_with fail
   exact z135rr
  ·exact sh19
 ·exact sh20) : G := h
theorem sh136 {G : Prop} (h : G := by
 have z136eq := z136eQ
 have z136hq := z136hQ
 obtain ⟨Z, it, hZ, hZl, hit, hz, hzv⟩ := z136a
 have hzb := z136b
 rw [← hZ] at hzb
 have A0 := Arr.new w z136c Z
 have b0 : Below w.heap.size w (w.alloc (.cells Z.toArray z136c)) := aJ w _
 have hlt0 := A0.lt
 have hsa : (Tryz.prog.info? z136c).map (·.size) = some Z.toArray.size := by rw [List.size_toArray, hZl]; exact z136d
 have hoc : Z.toArray.all (·.oneCell') = true := by rw [hZ]; exact all_oneCell_toArray (cK _ _ _)
 have HSAZ := aA hsa
 have HOCZ := aA hoc
 have HZE := aA hZ
 have HZL := aA hZl
 have HZB := aA hzb
 have HBO := aA hb
 have HA0 := aA A0
 have HB0 := aA b0
 have HM := aA hm
 have HEND0 : Hid (∀ (k : Int) W, decL z136e (aB z136f) b.l = (fun _ => 0, k) → Below w.heap.size w W → bU z136e (aB z136f) z136g z136h b.l w (.returned (.tuple #[.agg Z.toArray, .int .i64 k])) (W.setRow w.heap.size Z.toArray)) := aA fun k W hk hW => bU.of hk hZ (fun i _ => iL _) (bJ hW (Nat.le_refl _) _)
 clear A0 hsa hoc hit hz hzb hZ hZl hm
 by_cases h0 : (spl b.l).2.2 = 0
 ·by_cases h1 : (spl b.l).1 = z136e
  ·have hF := oE b z136e _ (hb.later b0) h0 h1
   have HX := aA (fun (x : Nat → Int) (r : List Int) (f : Int) (h : Grd ((aB z136f).get (fun _ => 0) (spl b.l).2.1) x r f) => pN h0 h1 h)
   have HDR := aA (spl_drop h0)
   clear hb b0 h0 h1
   have hbv : b.v = .slice b.a b.n b.c := rfl
   rw [hbv] at hF ⊢
   clear hbv
   go_enter z136i, z136j
   go_wp2_with fail
   generalize hW0 : (w.alloc (.cells Z.toArray z136c)) = W0 at *
   clear hW0
   refine hF.mono ?_
   rintro e w1 ⟨p, rfl, hp, hI, hB1⟩
   clear hF
   have hA1 := (unhide HA0).later hB1
   have hb1 := (unhide HB0).trans (hB1.mono (unhide HB0).size)
   go_upto_region 4 with fail
   refine eI ?_
   refine wpList_plain rfl fun K1 hK1 => ?_
   go_simp
   exact z136rr
  ·exact sh19
 ·exact sh20) : G := h
theorem kO {G : Prop} (h : G := by
 have z137dq := z137dQ
 have z137fq := z137fQ
 have z137hq := z137hQ
 have z137iq := z137iQ
 obtain ⟨Z, it, hZ, hZl, hit, hz, hzv⟩ := z137a
 have A1 := Arr.new w z137b Z
 have b1 : Below w.heap.size w (w.alloc (.cells Z.toArray z137b)) := aJ w _
 have hDec := fun W w1 g vs (h : Tab (New noS W w1) w1 z137c z137d z137e z137f g vs) (hs : W.heap.size ≤ w1.heap.size) (hb : Below w.heap.size w w1) => z137g h w1 z137h z137i b (hbo.later hb) (Kept.refl (New.lt (cD _) hs))
 have HM : Hid (∀ e w2 w', bU z137h (aB z137e) z137c z137d b.l w2 e w' → ∃ (M : List Value) (k : Int), e = .returned (.tuple #[.agg M.toArray, .int .i64 k]) ∧ Below w2.heap.size w2 w' ∧ Hid (M.length = z137d) ∧ Hid (∀ v ∈ M, v.oneCell' = true) ∧ Hid (∀ w', Below w.heap.size w w' → bU z137h (aB z137e) z137c z137d b.l w (.returned (.tuple #[.agg M.toArray, .int .i64 k])) w')) := by
  rintro e w2 w' ⟨rfl, hok, hB⟩
  exact ⟨_, _, rfl, hB, aA (aC _ _ _), aA (cK _ _ _), aA fun w' hB => ⟨rfl, hok, hB⟩⟩
 have HZL := aA hZl
 clear hit hz hZ hbo hZl
 have hbv : b.v = .slice b.a b.n b.c := rfl
 rw [hbv] at hDec ⊢
 generalize b.a = ba at *
 generalize b.n = bn at *
 generalize b.c = bc at *
 generalize b.l = bl at *
 clear hbv b
 go_enter z137j, z137k
 go_wp2_with fail
 generalize w.alloc (.cells Z.toArray z137b) = W at *
 exact z137rr) : G := h
theorem iM {G : Prop} (h : G := by
 have z138bq := z138bQ
 have z138cq := z138cQ
 have b0 : Below w.heap.size w (w.alloc (.cells (cl z138a z138b x).toArray z138c)) := aJ w _
 have T0 : Trm (w.alloc (.cells (cl z138a z138b x).toArray z138c)) w.heap.size z138c z138a z138b x := ⟨Arr.new w _ _, hok, by decide, by decide, by decide⟩
 have hSS : Seg z138a z138b z138a z138b 0 := ⟨by (have := z138bQ; have := z138cQ; omega), fun j hj => by rw [Nat.zero_add]⟩
 have hR := T0.part hSS
 rw [bF] at hR
 have HR := aA hR
 have HT := aA T0
 have hOf := fun W => z138d x W hok
 have hZ : (Tryz.prog.info? z138c).map (·.size) = some (cl z138a z138b x).length := by rw [aC]; exact z138e
 have hh := mE z138f; have hhq := hh; simp only [z138f] at hh
 exact z138rr) : G := h
theorem gG {G : Prop} (h : G := by
 have z139bq := z139bQ
 have z139cq := z139cQ
 have b1 : Below w.heap.size w (w.alloc (.cells (cl z139a z139b x).toArray z139c)) := aJ w _
 have A1 := Arr.new w z139c (cl z139a z139b x)
 have r1 : (w.alloc (.cells (cl z139a z139b x).toArray z139c)).rangeAt w.heap.size 0 (cl z139a z139b x) := fun j v hj => by rw [Nat.zero_add, A1.cell, hj]
 have hlt := A1.lt
 have hZ : (Tryz.prog.info? z139c).map (·.size) = some (cl z139a z139b x).length := by rw [aC]; exact z139d
 exact z139rr) : G := h
theorem sh140 {G : Prop} (h : G := by
 have z140bq := z140bQ
 obtain ⟨Z, it, -, hZl, hit, hz, hzv⟩ := z140a
 have A1 : Arr ((w.alloc (.cells (tmC x bv).toArray 35)).alloc (.cells Z.toArray z140b)) w.heap.size 35 (tmC x bv) := (Arr.new w 35 (tmC x bv)).alloc _
 have A2 : Arr ((w.alloc (.cells (tmC x bv).toArray 35)).alloc (.cells Z.toArray z140b)) (w.heap.size + 1) z140b Z := by
  have h := Arr.new (w.alloc (.cells (tmC x bv).toArray 35)) z140b Z
  have s1 : (w.alloc (.cells (tmC x bv).toArray 35)).heap.size = w.heap.size + 1 := by simp
  rw [s1] at h
  exact h
 have hB : Below w.heap.size w ((w.alloc (.cells (tmC x bv).toArray 35)).alloc (.cells Z.toArray z140b)) := bV (aJ w _) _ (by simp)
 exact z140rr) : G := h
theorem kN {G : Prop} (h : G := by
 have z141bq := z141bQ
 have z141dq := z141dQ
 have hU := fun w1 g vs (h : Tab (New noS w w1) w1 z141a z141b z141c z141d g vs) (hB : Below w.heap.size w w1) => z141e h w1 b (hbo.later hB) (Kept.refl (New.lt (cD _) hB.size)) z x hz hzx hokm
 have hbv : b.v = .slice b.a b.n b.c := rfl
 rw [hbv] at hU ⊢
 generalize b.a = ba at *
 generalize b.n = bn at *
 generalize b.c = bc at *
 clear hbo hz hzx hokm hbv
 go_enter Tryz.func151, Tryz.ntmps151
 go_wp2_with fail
 exact z141rr) : G := h
theorem kM {G : Prop} (h : G := by
 have z142bq := z142bQ
 have z142dq := z142dQ
 have hU := fun w1 g vs (h : Tab (New noS w w1) w1 z142a z142b z142c z142d g vs) (hB : Below w.heap.size w w1) => z142e h w1 b (hbo.later hB) (Kept.refl (New.lt (cD _) hB.size)) k hk hz
 have hbv : b.v = .slice b.a b.n b.c := rfl
 rw [hbv] at hU ⊢
 generalize b.a = ba at *
 generalize b.n = bn at *
 generalize b.c = bc at *
 clear hbo hz hbv
 go_enter Tryz.func151, Tryz.ntmps151
 go_wp2_with fail
 exact z142rr) : G := h
theorem kL {G : Prop} (h : G := by
 obtain ⟨Z, it, hZ, hZl, hit, hz, hzv⟩ := z143a
 have A0 := Arr.new w 234 [.slice none 0 0, .slice none 0 0]
 have b0 : Below w.heap.size w (w.alloc (.cells #[.slice none 0 0, .slice none 0 0] 234)) := aJ w _
 have hD := z143b b _ (hb.later b0) hm
 unfold bU at hD
 generalize decL z143c (aB z143d) b.l = R at *
 obtain ⟨x, k⟩ := R
 simp only at hD ⊢
 exact z143rr) : G := h
theorem sh144 {G : Prop} (h : G := by
 have z144dq := z144dQ
 have b1 : Below w.heap.size w (w.alloc (.cells (cl z144a z144b x).toArray z144c)) := aJ w _
 have A1 := Arr.new w z144c (cl z144a z144b x)
 have r1 := A1.range
 have r2 : (w.alloc (.cells (cl z144a z144b x).toArray z144c)).rangeAt w.heap.size z144d (U8 (run x z144d 64)) := by
  rw [← iG]; exact dM A1 z144d 64 sB (by decide) (fun i hi => by unfold z144a sB; rw [if_neg (by (have := z144dQ; omega))])
 have hlt := A1.lt
 have hZ : (Tryz.prog.info? z144c).map (·.size) = some (cl z144a z144b x).length := by rw [aC]; kernel_rfl
 have hGl : (run x z144d 64).length = 64 := aN _ _ _
 have hGB : IsB (run x z144d 64) := fD hok (by decide) (fun i hi => by unfold z144a; rw [if_neg (by (have := z144dQ; omega))])
 have hZG : (Tryz.prog.info? 30).map (·.size) = some (U8 (run x z144d 64)).length := by rw [U8_length, hGl]; exact Tryz.szPSig
 exact z144rr) : G := h
theorem sh145 {G : Prop} (h : G := by
 have z145bq := z145bQ
 have z145cq := z145cQ
 have hplt := hO.arr.lt
 have b0 : Below w.heap.size w (w.alloc (.cells (cl z145a z145b x).toArray z145c)) := aJ w _
 have T0 : Trm (w.alloc (.cells (cl z145a z145b x).toArray z145c)) w.heap.size z145c z145a z145b x := ⟨Arr.new w _ _, hok, by decide, by decide, by decide⟩
 have hSg : Seg z145a z145b z145a z145b 0 := ⟨by (have := z145bQ; have := z145cQ; omega), fun j hj => by rw [Nat.zero_add]⟩
 have S0 : Ost base p lv l 0 w (w.alloc (.cells (cl z145a z145b x).toArray z145c)) lv := ⟨hO.later b0, Buts.of_below b0, fun _ h => .inl h⟩
 have HK : Hid (∀ (W W' : World) (lv1 lv2 : Value) (l1 l2 : List Int), Ost base p lv l1 0 w W lv1 → Trm W w.heap.size z145c z145a z145b x → Ost base p lv1 l2 0 W W' lv2 → Ost base p lv l2 0 w W' lv2 ∧ Trm W' w.heap.size z145c z145a z145b x) := fun W W' lv1 lv2 l1 l2 h1 hT h2 => ⟨h1.trans hplt h2, hT.keep h2.but (fun hk => by
   rcases hk with h | h
   ·(have := z145bQ; have := z145cQ; omega)
   ·rcases h1.at_ _ h with h3 | h3
    ·have := hO.lts _ h3; (have := z145bQ; have := z145cQ; omega)
    ·have := gJ h1.wtr.own hT.arr (by decide); exact this h)⟩
 exact z145rr) : G := h
theorem sh146 {G : Prop} (h : G := by
 have z146dq := z146dQ
 have z146gq := z146gQ
 have z146hq := z146hQ
 have z146kq := z146kQ
 obtain ⟨i0, hi, hsz, hzr⟩ : ∃ i0, Tryz.prog.info? z146a = some i0 ∧ i0.size = 3 ∧ i0.zero = some (.agg #[.nilFunc, .nilFunc, .nilFunc]) := ⟨_, rfl, rfl, rfl⟩
 go_enter z146b, z146c
 go_wp2_with fail
 have h0 := fW (w.alloc (.cells #[.int .i64 0, .int .i64 0, .slice none 0 0] z146d))
 refine h0.mono ?_
 rintro e w0 ⟨g0, vs0, rfl, t0, c0⟩
 clear h0
 have e5 : aF.length = 5 := rfl
 rw [e5]
 have T0 := aA t0
 have B0 := aA c0
 clear t0 c0 e5
 have hfd : ∀ (w : World), (Instr.field 158 (.agg #[.int .i64 1, .int .i64 4, .slice (some ⟨g0, 0, none⟩) 5 5]) 2).run Tryz.prog w = .ok (.slice (some ⟨g0, 0, none⟩) 5 5) w := fun _ => by kernel_rfl
 go_wp2_with fail
 have h1 := z146e (S := New noS (w.alloc (.cells #[.int .i64 0, .int .i64 0, .slice none 0 0] z146d)) w0) (sT := z146f) (sP := aD) (nT := z146g) (nP := 99) (a := 0) (n := 5) (c := 5) (fs := aF) w0 (.func (.func z146h) #[] #[]) (New.lt (cD _) (unhide B0).size) z146i (unhide T0) (unhide T0).len.symm (by decide) (by decide) (by decide) (fun j hj => by unfold z146f; rw [Nat.zero_add, if_pos hj])
 refine h1.mono ?_
 rintro e w1 ⟨v1, rfl, f1, c1⟩
 have F1 := aA (in_first f1 (unhide B0) c1)
 have B1 : Hid (Below ((w.alloc (.cells #[.int .i64 0, .int .i64 0, .slice none 0 0] z146d))).heap.size (w.alloc (.cells #[.int .i64 0, .int .i64 0, .slice none 0 0] z146d)) w1) := aA (dL (unhide B0) c1)
 clear h1 f1 c1 T0 B0 hfd
 go_wp2_with fail
 have h2 := z146j (S := noS) (sT := z146f) (nT := z146g) (a := 99) (least := z146k) (mo := fun x => x 1) w1 _ _ (cD _) z146l (z146m (by decide) rfl) (by decide) rfl
 refine h2.mono ?_
 rintro e w2 ⟨v2, rfl, f2, c2⟩
 have F2 := aA f2
 have B2 := aA c2
 clear h2 f2 c2
 go_wp2_with fail
 exact z146rr) : G := h
theorem sh147 {G : Prop} (h : G := by
 have z147fq := z147fQ
 have z147gq := z147gQ
 have z147iq := z147iQ
 have z147jq := z147jQ
 obtain ⟨i0, hi, hsz, hzr⟩ : ∃ i0, Tryz.prog.info? z147a = some i0 ∧ i0.size = 3 ∧ i0.zero = some (.agg #[.nilFunc, .nilFunc, .nilFunc]) := ⟨_, rfl, rfl, rfl⟩
 go_enter z147b, z147c
 go_wp2_with fail
 have h1 := z147d (S := noS) (sT := z147e) (nT := z147f) (a := 0) (least := 1) (most := 65535) (w.alloc (.cells #[.int .i64 0, .int .i64 0, .slice none 0 0] z147g)) _ (cD _) z147h (by decide) rfl
 refine h1.mono ?_
 rintro e w1 ⟨v1, rfl, f1, c1⟩
 have F1 := aA f1
 have B1 := aA c1
 clear h1 f1 c1
 go_wp2_with fail
 have h2 := z147d (S := noS) (sT := z147e) (nT := z147f) (a := 1) (least := z147i) (most := z147j) w1 _ (cD _) z147k (by decide) rfl
 refine h2.mono ?_
 rintro e w2 ⟨v2, rfl, f2, c2⟩
 have F2 := aA f2
 have B2 := aA c2
 clear h2 f2 c2
 go_wp2_with fail
 exact z147rr) : G := h
theorem sh148 {G : Prop} (h : G := by
 have z148bq := z148bQ
 have z148cq := z148cQ
 have b0 : Below w.heap.size w (w.alloc (.cells (cl z148a z148b x).toArray z148c)) := aJ w _
 have T0 : Trm (w.alloc (.cells (cl z148a z148b x).toArray z148c)) w.heap.size z148c z148a z148b x := ⟨Arr.new w _ _, hok, by decide, by decide, by decide⟩
 have c0 : (w.alloc (.cells (cl z148a z148b x).toArray z148c)).cell? ⟨w.heap.size, 0, none⟩ = some (.int .i64 (x 0)) := T0.cell 0 (by decide)
 have c1 : (w.alloc (.cells (cl z148a z148b x).toArray z148c)).cell? ⟨w.heap.size, 1, none⟩ = some (.int .i64 (x 1)) := T0.cell 1 (by decide)
 exact z148rr) : G := h
theorem sh149 {G : Prop} (h : G := by
 have A1 := Arr.new w 35 (tmC y bv)
 have b1 : Below w.heap.size w (w.alloc (.cells (tmC y bv).toArray 35)) := aJ w _
 have c0 : (w.alloc (.cells (tmC y bv).toArray 35)).cell? ⟨w.heap.size, 0, none⟩ = some (.int .i64 (y 0)) := eD A1 0 (by decide)
 have hra := tm_all A1
 have hrc : (w.alloc (.cells (tmC y bv).toArray 35)).rangeAt w.heap.size 1 (cl aD 99 (sft 1 y)) := eZ A1 1 99 aD (by decide) (fun i hi => by unfold bM; rw [if_neg (by omega), if_pos (by omega)]; congr 1; omega)
 exact z149rr) : G := h
theorem sh150 {G : Prop} (h : G := by
 have b1 : Below w.heap.size w (w.alloc (.cells (cl z150a 163 x).toArray z150b)) := aJ w _
 have A1 := Arr.new w z150b (cl z150a 163 x)
 have r1 := A1.range
 have r2 : (w.alloc (.cells (cl z150a 163 x).toArray z150b)).rangeAt w.heap.size 99 (U8 (run x 99 64)) := by
  rw [← iG]; exact dM A1 99 64 sB (by decide) (fun i hi => by unfold z150a sB; rw [if_neg (by omega)])
 have r3 : (w.alloc (.cells (cl z150a 163 x).toArray z150b)).rangeAt w.heap.size 0 (cl aD 99 x) := by
  have := dM A1 0 99 aD (by decide) (fun i hi => by unfold z150a; rw [Nat.zero_add, if_pos hi])
  rwa [bF] at this
 have hlt := A1.lt
 have hZ : (Tryz.prog.info? z150b).map (·.size) = some (cl z150a 163 x).length := by rw [aC]; kernel_rfl
 have hZC : (Tryz.prog.info? 32).map (·.size) = some (cl aD 99 x).length := by rw [aC]; exact Tryz.szPCert
 have hGl : (run x 99 64).length = 64 := aN _ _ _
 have hGB : IsB (run x 99 64) := fD hok (by decide) (fun i hi => by unfold z150a; rw [if_neg (by omega)])
 have hZG : (Tryz.prog.info? 30).map (·.size) = some (U8 (run x 99 64)).length := by rw [U8_length, hGl]; exact Tryz.szPSig
 have hSay := fun W => z150c W x hok
 have hCP := fun W => jN W x (fun i hi => by have := hok i (by omega); unfold z150a at this; rwa [if_pos hi] at this)
 exact z150rr) : G := h
theorem sh151 {G : Prop} (h : G := by
 have hmf : ∀ (fn : Fn) (first cap : Array Value) (w : World), (Instr.makeFunc fn first cap).run Tryz.prog w = .ok (.func fn first cap) w := fun _ _ _ _ => rfl
 have c0 : w.cell? ⟨p, 0, none⟩ = some s.v := by simpa using h.arr.cell 0
 have c1 : w.cell? ⟨p, 1, none⟩ = some (.int .i64 f) := by simpa using h.arr.cell 1
 have hlt := h.arr.lt
 have hsv : s.v = .slice s.a s.n s.c := rfl
 rw [hsv] at c0
 by_cases hf : f = 0
 ·subst hf
  obtain ⟨W, hW, A1, A2, hb, hsz⟩ := arr2 w 374 450 [.pointer (some ⟨p, 0, none⟩)] [s.v]
  have hW' : (w.alloc (.cells #[.pointer (some ⟨p, 0, none⟩)] 374)).alloc (.cells #[.slice s.a s.n s.c] 450) = W := hW.symm
  have HW := aA hW'
  clear hW hW'
  exact z151rr
 ·go_enter_defers z151a, z151b
  go_wp2
  refine ⟨_, results_tmp rfl _ _ _, ?_⟩
  exact Fac.sticks hf ((Below.refl _ _).alloc (Nat.le_refl _) _) h) : G := h
theorem sh152 {G : Prop} (h : G := by
 have z152aq := z152aQ
 have hp : ((l.drop at_).take z152a).length = z152a := by simp; (have := z152aQ; omega)
 have hpB : IsB ((l.drop at_).take z152a) := (hB.drop _).take _
 have hpl : dW w (some ⟨b, off + at_, none⟩) ((l.drop at_).take z152a) := hlies.sub at_ z152a (by (have := z152aQ; omega))
 have hpc : ∀ i, i < z152a → w.cell? ⟨b, off + at_ + i, none⟩ = some (.int .u8 (((l.drop at_).take z152a).getD i 0)) := by
  obtain ⟨b', off', he, _, hc⟩ := hpl (by (have := z152aQ; omega))
  simp at he; obtain ⟨rfl, rfl⟩ := he
  intro i hi; exact hc i (by (have := z152aQ; omega))
 generalize (l.drop at_).take z152a = p at hp hpB hpc
 have HP : Hid (p.length = z152a) := hp
 clear hpl hlies hB hl hp
 go_enter z152b, z152c
 go_wp2_with ((first | go_at_call 419 | go_at_call 421); refine (z152e _).mono ?_; rintro e w' ⟨rfl, rfl⟩)
 refine (piece_ok b off len cap at_ z152a _ h1 h2 h3 (by (have := z152aQ; omega))).mono ?_
 rintro e w' ⟨rfl, rfl⟩
 go_wp2
 exact z152rr) : G := h
theorem sh153 {G : Prop} (h : G := by
 refine stY3 ?_
 refine wpList_load_mid rfl 28 (.tmp z153a) rfl w.heap.size 101 rfl (cl sB 32 (sft 101 x)) _ (unhide R101) Tryz.underlying28 rfl (by rw [aC]; exact Tryz.szKHash) ?_
 simp only [Act.put]
 exact sh121) : G := h
theorem sh154 {G : Prop} (h : G := by
 refine stY3 ?_
 exact sh121) : G := h
theorem sh155 {G : Prop} (h : G := by
 have z155aq := z155aQ
 have z155dq := z155dQ
 have z155fq := z155fQ
 refine (oZ p b 4 w1 hI (unhide HM)).mono ?_
 rintro e w2 ⟨hB2, y, t2, f2, rfl, hyo, hy0, hI2, hG2⟩
 refine hK1 _ _ ?_
 clear hK1 K1
 have hyo2 : ∀ i, i < z155a → (z155b i).ok (y i) := fun i hi => by
  by_cases h9 : i < 99
  ·have := hyo i h9; unfold z155b; rw [if_pos h9]; exact this
  ·rw [hy0 i (by (have := z155aQ; have := z155dQ; have := z155fQ; omega))]; exact iL _
 have hbt := z155c y hy0
 have RS0 : Hid (RdS w z155d z155b z155a w2.heap.size p b Z ((aB aF).get (fun _ => 0) (b.l.drop 4)) y ((w2.alloc (.cells Z.toArray z155d)).setRow w2.heap.size (cl z155b z155a y).toArray)) := aA (RdS.first hA1 hb1 (by have := (unhide HB0).size; (have := z155aQ; have := z155dQ; have := z155fQ; omega)) hB2 hI2 hG2 hyo2 (unhide HBO) (unhide HM) (unhide HZL) (by decide) (by decide) (by decide))
 have HP : Hid (w.heap.size < p) := aA (by have := (unhide HB0).size; (have := z155aQ; have := z155dQ; have := z155fQ; omega))
 have HS0 : Hid (Z.toArray.size = (cl z155b z155a y).toArray.size) := aA (by rw [List.size_toArray, List.size_toArray, aC, unhide HZL])
 have HI0 : Hid ((Tryz.prog.info? z155d).map (·.size) = some (cl z155b z155a y).toArray.size) := aA (by rw [List.size_toArray, aC]; exact z155e)
 have HO0 : Hid ((cl z155b z155a y).toArray.all (·.oneCell') = true) := aA (all_oneCell_toArray (cK _ _ _))
 have HA2 := aA (Arr.new w2 z155d Z)
 clear hA1 hb1 hB1 hp hI hB2 hyo hyo2 hy0 hI2 hG2 HA0 HB0
 generalize hXC : cl aD 99 y = XC at *
 clear hXC
 generalize hC0 : cl z155b z155a y = C0 at *
 clear hC0
 refine eL rfl z155d _ rfl C0.toArray (by simpa [Act.eval] using hbt) ?_
 simp only [Act.put]
 clear hbt
 refine cV ?_
 generalize hW2 : w2.alloc (.cells Z.toArray z155d) = W2 at *
 clear hW2
 refine wpList_store_row rfl z155d (.tmp 6) (.tmp 18) rfl w2.heap.size C0.toArray rfl rfl z155d Z.toArray (unhide HA2) (unhide HI0) (unhide HS0) (unhide HO0) ?_
 refine wpList_nil ?_
 simp only [Act.put]
 generalize W2.setRow w2.heap.size C0.toArray = U0 at *
 generalize w2.heap.size = q at *
 clear HA2 HI0 HS0 HO0
 go_wp2_with fail
 have hC := (unhide RS0).u32 99 z155f (fun x => x 1) (by decide) (by decide)
 refine hC.mono ?_
 rintro e V1 ⟨v1, rfl, ew, cc, fz, RS1⟩
 clear hC RS0
 go_wp2_with fail
 generalize V1.setCell ⟨q, 99, none⟩ (.int .i64 v1) = U1 at *
 clear cc fz ew
 have hC := (unhide RS1).hash 100 (by decide) (fun i hi => by unfold z155b; (repeat (first | rw [if_pos (by (have := z155aQ; have := z155dQ; have := z155fQ; omega))] | rw [if_neg (by (have := z155aQ; have := z155dQ; have := z155fQ; omega))])))
 refine hC.mono ?_
 rintro e V2 ⟨L2, rfl, HL, HT, HO, RS2⟩
 clear hC RS1
 have HI : Hid ((Tryz.prog.info? 28).map (·.size) = some (U8 L2).toArray.size) := aA (by rw [List.size_toArray, U8_length, unhide HL]; exact Tryz.szKHash)
 generalize U8 L2 = C2 at *
 simp only []
 go_at_K
 rename_i hK
 refine hK _ _ ?_
 clear hK
 refine cV ?_
 refine wpList_store_mid rfl 28 (.tmp 25) (.tmp 24) rfl q 100 C2.toArray rfl rfl (unhide HT) (unhide HI) (unhide HO) ?_
 refine wpList_nil ?_
 simp only [Act.put]
 generalize V2.setCells q 100 C2.toArray.toList = U2 at *
 clear HL HT HO HI
 exact z155rr) : G := h
theorem sh156 {G : Prop} (h : G := by
 have z156bq := z156bQ
 have hSg : Seg aD 99 z156a z156b 0 := ⟨by (have := z156bQ; omega), fun j hj => by rw [Nat.zero_add]; unfold z156a; rw [if_pos hj]⟩
 have hZC : (Tryz.prog.info? 32).map (·.size) = some (cl aD 99 x).length := by rw [aC]; exact Tryz.szKCert
 have HB := aA b0
 have HS := aA hSS
 have HSG := aA hSg
 clear hSg
 clear b0 hok hR hSS T0
 generalize hX : cl z156a z156b x = X at *
 generalize hXC : cl aD 99 x = XC at *
 have EXC := aA hXC
 clear hXC
 have EX := aA hX
 clear hX
 exact z156rr) : G := h
theorem sh157 {G : Prop} (h : G := by
 generalize hEE : [cT x] = EE
 have HEE : Hid (EE = [(tellL 1 (aB (aF.take 4)) x, run x 35 64)]) := aA (by rw [← hEE]; try rfl)
 clear hEE
 have HA0 := aA A0
 have HB0 := aA b0
 have HZL := aA hZl
 clear hb b0 A0 hit hz hZ hZl
 have hbv : b.v = .slice b.a b.n b.c := rfl
 rw [hbv] at hD ⊢
 clear hbv
 go_enter Tryz.func152, Tryz.ntmps152
 go_wp2_with fail
 generalize hW0 : w.alloc (.cells #[.slice none 0 0, .slice none 0 0] 234) = W0 at *
 clear hW0
 refine hD.mono ?_
 rintro e w1 ⟨rfl, hok, hB1⟩
 clear hD
 have hA1 := (unhide HA0).later hB1
 have hb1 := (unhide HB0).trans (hB1.mono (unhide HB0).size)
 have r1 : w.heap.size < w1.heap.size := hA1.lt
 clear HA0 HB0 hB1
 have HXL : Hid ((cl z157a z157b x).length = z157b) := aA (aC _ _ _)
 have HOC := aA (cK z157a z157b x)
 have hG0 : (run x 35 64).length = 64 := aN _ _ _
 have hB0 : IsB (run x 35 64) := fD hok (by decide) (fun i hi => by unfold z157a; (repeat (first | rw [if_pos (by omega)] | rw [if_neg (by omega)])); try (unfold aD; rw [if_neg (by omega)]))
 exact z157rr) : G := h
theorem sh158 {G : Prop} (h : G := by
 have z158aq := z158aQ
 have r1 : ((w.alloc (.cells (tmC x bv).toArray 35)).alloc (.cells Z.toArray z158a)).rangeAt w.heap.size 1 (cl aD 99 (sft 1 x)) := eZ A1 1 99 aD (by decide) (fun i hi => by unfold bM; (repeat (first | rw [if_pos (by (have := z158aQ; omega))] | rw [if_neg (by (have := z158aQ; omega))])); try (congr 1; (have := z158aQ; omega)))
 have c100 : ((w.alloc (.cells (tmC x bv).toArray 35)).alloc (.cells Z.toArray z158a)).cell? ⟨w.heap.size, 100, none⟩ = some (.int .i64 (x 100)) := eD A1 100 (by decide)
 have r101 : ((w.alloc (.cells (tmC x bv).toArray 35)).alloc (.cells Z.toArray z158a)).rangeAt w.heap.size 101 (cl sB 32 (sft 101 x)) := eZ A1 101 32 sB (by decide) (fun i hi => by unfold bM sB aD; (repeat (first | rw [if_pos (by (have := z158aQ; omega))] | rw [if_neg (by (have := z158aQ; omega))])); try (congr 1; (have := z158aQ; omega)))
 exact z158rr) : G := h
theorem sh159 {G : Prop} (h : G := by
 simp only [Act.put]
 refine hK.out _ _ (unhide HK2 _ hF2.bel) (fun hHeld => ?_)
 clear hK K
 have HF2 := aA hF2
 have d2n := unhide HC2 _ hF2.bel
 clear hF2 svw bw hfr hBw RS2 RSs svs bs bu hsf hs hBs hE2 hsl2 hsv
 generalize yw2.setRow q #[a2, b2] = Y2 at *
 refine wpAnyH_done (by kernel_rfl) ?_ _
 unfold NoPanic
 clear hHeld
 have hEF := unhide HF2
 have hR9 := unhide HKR _ hEF.bel
 go_upto_region 6 with fail
 refine wp_region_lit ?_
 refine wpList_load_mid rfl 234 (.tmp 3) rfl q 0 rfl [a2, b2] _ (Arr.range hEF.sv) Tryz.underlying234 rfl (by kernel_rfl) ?_
 simp only [Act.put]
 refine wpList_store_row rfl 234 (.tmp 2) (.tmp 32) rfl (w.heap.size + 1) #[a2, b2] rfl rfl 234 #[.slice none 0 0, .slice none 0 0] hR9 (by kernel_rfl) rfl (jF hEF.rs) ?_
 have HPO := aA (pM hEF (unhide HB1) hR9 hltR)
 refine wpList_nil ?_
 go_wp2
 refine bodyPost_ret (results_cell_row rfl _ _ (w.heap.size + 1) 234 #[a2, b2] (0, 0) _ rfl (setRow_heap _ (w.heap.size + 1) _ _ _ _ hR9) Tryz.underlying234 rfl (by kernel_rfl)) rfl ?_
 have hEE := unhide HEE
 simp only [List.append_nil, List.nil_append, List.cons_append] at hEE
 exact ⟨_, _, _, rfl, by rw [hEE]; simpa using (unhide HPO).1, (unhide HPO).2⟩) : G := h
theorem sh160 {G : Prop} (h : G := by
 go_upto_region 4 with fail
 refine eI ?_
 refine wpList_load_mid rfl 32 (.tmp 25) rfl w.heap.size 0 rfl XC _ (unhide R0) Tryz.underlying32 rfl (unhide HZC) ?_
 simp only [Act.put]
 refine wpList_plain rfl fun K1 hK1 => ?_
 go_simp
 refine (hOf W2).mono ?_
 rintro e W3 ⟨rfl, hB3⟩
 obtain ⟨j1, j2, j3, j4, -, -, -⟩ := unhide HC W3 ((unhide HT2).later hB3)
 have HB3 := aA ((unhide HB2).trans (hB3.mono (unhide HB2).size))
 clear hB3 k1 k2 k3 k4 hOf
 refine hK1 _ _ ?_
 clear hK1 K1
 go_wp2_with fail
 refine (V0 _).mono ?_
 rintro e v0 ⟨rfl, rfl⟩
 clear V0
 go_wp2
 go_ret
 exact ⟨by rw [unhide HF]; try rfl, unhide HB3⟩) : G := h
theorem sh161 {G : Prop} (h : G := by
 go_upto_region 10 with fail
 refine wp_region_lit ?_
 refine wpList_load_mid rfl z2d (.tmp 6) rfl (w.heap.size + 2) 0 rfl Z _ (unhide ST).a2.range z2g rfl (unhide HSZ) ?_
 simp only [Act.put]
 refine wpList_store_row rfl z2d (.tmp 4) (.tmp 42) rfl (w.heap.size + 1) Z.toArray rfl rfl z2d Z.toArray (unhide ST).a1 (unhide HSAZ) rfl (unhide HOCZ) ?_
 refine dO ?_
 go_wp2
 refine bodyPost_ret (bT rfl _ _ (w.heap.size + 1) z2d Z.toArray (0, 0) _ rfl (.int .i64 90) rfl (setRow_heap _ (w.heap.size + 1) _ _ _ _ (unhide ST).a1) z2g rfl (unhide HSAZ)) rfl ?_
 exact sh181) : G := h
theorem sh162 {G : Prop} (h : G := by
 have hEE := unhide HEE
 simp only [List.append_nil, List.nil_append, List.cons_append] at hEE
 exact ⟨_, _, _, rfl, by rw [hEE]; simpa using (unhide HPO).1, (unhide HPO).2⟩) : G := h
theorem sh163 {G : Prop} (h : G := by
 go_enter z62d, z62e
 go_upto_region 1 with fail
 generalize hW : w.alloc (.cells X.toArray z62b) = W at *
 clear hW
 refine eI ?_
 refine wpList_load_mid rfl 32 (.tmp 3) rfl w.heap.size 0 rfl XC _ (unhide HR) Tryz.underlying32 rfl hZ ?_
 simp only [Act.put]
 refine wpList_plain rfl fun K1 hK1 => ?_
 go_simp
 refine (hOf W).mono ?_
 rintro e w1 ⟨rfl, hB1⟩
 have HB1 := aA ((unhide HB).trans (hB1.mono (unhide HB).size))
 clear hOf hB1
 refine hK1 _ _ ?_
 clear hK1 K1
 go_wp2
 go_ret
 exact ⟨by rw [unhide HF]; try rfl, unhide HB1⟩) : G := h
theorem sh164 {G : Prop} (h : G := by
 exact unhide HD _ ((((Buts.refl (fun b => b = w.heap.size) W).setCell (g := w.heap.size) rfl 0 _).setCell (g := w.heap.size) rfl 1 _).setCell (g := w.heap.size) rfl 2 _)) : G := h
theorem sh165 {G : Prop} (h : G := by
 refine hK1 _ _ ?_
 clear hK1 K1
 simp only [Act.put]
 refine bG (by kernel_rfl) fun K1 hK1 => ?_
 refine wp_load_mid 30 (.tmp 3) rfl (w.heap.size + 1) 0 rfl Z _ (unhide RZ) Tryz.underlying30 rfl (unhide HZZ) ?_
 refine hK1 _ _ ?_
 clear hK1 K1
 simp only [Act.put]
 exact sh66) : G := h
theorem sh166 {G : Prop} (h : G := by
 refine hK1 _ _ ?_
 clear hK1 K1
 simp only [Act.put]
 refine bG (by kernel_rfl) fun K1 hK1 => ?_
 refine wp_load_mid 30 (.tmp 3) rfl (w.heap.size + 1) 0 rfl Z _ (unhide RZ) Tryz.underlying30 rfl (unhide HZZ) ?_
 refine hK1 _ _ ?_
 clear hK1 K1
 simp only [Act.put]
 go_wp2
 go_ret
 exact ⟨by rw [unhide HF]; try rfl, unhide HB2⟩) : G := h
theorem sh167 {G : Prop} (h : G := by
 obtain ⟨sa, sn, sc, sl⟩ := s
 simp only [Sl.v] at *
 go_wp2
 go_ret2
 exact unhide HE) : G := h
theorem sh168 {G : Prop} (h : G := by
 simp [Act.put]
 refine wpAnyH_done (by kernel_rfl) ?_ _
 unfold NoPanic
 clear hHeld
 go_wp2
 refine bodyPost_ret (bT rfl _ _ w.heap.size 234 #[x0, z0] (0, 0) _ rfl (.int .i64 k) rfl (setRow_heap _ w.heap.size _ _ _ _ hARF) Tryz.underlying234 rfl (by kernel_rfl)) rfl ?_
 exact unhide HPO) : G := h
theorem sh169 {G : Prop} (h : G := by
 simp only [Act.put]
 refine wpList_plain rfl fun K1 hK1 => ?_
 go_simp
 refine (hOf W).mono ?_
 rintro e w1 ⟨rfl, hB1⟩
 have HB1 := aA ((unhide HB).trans (hB1.mono (unhide HB).size))
 clear hOf hB1
 refine hK1 _ _ ?_
 clear hK1 K1
 go_wp2
 go_ret2
 exact REP.nil (unhide HB1)) : G := h
theorem sh170 {G : Prop} (h : G := by
 go_enter Tryz.func12, Tryz.ntmps12
 go_wp2_with (go_at_call 61; refine hS.mono ?_; rintro e w' ⟨⟨s, rfl, -, -⟩, hB⟩; have HB := aA hB; clear hB; obtain ⟨sa, sn, sc, sl⟩ := s; simp only [])
 go_ret2
 exact ⟨rfl, unhide HB⟩) : G := h
theorem sh171 {G : Prop} (h : G := by
 rw [decide_eq_false h0, Bool.false_and] at HF
 have V0 := fun W => fE h0 W
 clear h0
 exact sh70) : G := h
theorem sh172 {G : Prop} (h : G := by
 rintro e w1 ⟨rfl, hown, hb1⟩
 go_wp2_with fail
 refine (reverse_any w.heap.size _ _ _ _ w1 (by omega) hown).mono ?_
 rintro e w2 ⟨rfl, hown2, hb2⟩
 clear hown
 go_wp2
 go_ret
 exact ⟨rfl, hown2, hb1.trans hb2⟩) : G := h
theorem sh173 {G : Prop} (h : G := by
 simp only [Sl.v] at hL
 go_enter Tryz.func322, Tryz.ntmps322
 go_wp2_with (go_at_call 382; refine hL.mono ?_; rintro e w' ⟨rfl, lv', hW⟩)
 go_end0
 exact ⟨rfl, lv', hW.later hb⟩) : G := h
theorem sh174 {G : Prop} (h : G := by
 obtain ⟨k', c', e, h1, h2⟩ := h
 simp at e
 obtain ⟨rfl, rfl⟩ := e
 exact ⟨h1, h2⟩) : G := h
theorem sh175 {G : Prop} (h : G := by
 exact (b2.block i (Nat.lt_of_lt_of_le (Nat.lt_of_lt_of_le hi hb.size) hbw.size) (by omega)).trans ((hbw.block i (Nat.lt_of_lt_of_le hi hb.size) (by omega)).trans (hb.block i hi hip))) : G := h
theorem sh176 {G : Prop} (h : G := by
 go_wp2_with fail
 refine hF.mono ?_
 rintro e w1 ⟨hB, v, t1, rfl, hV, hI, hr⟩
 simp only [isI] at hV
 subst hV
 clear hF
 go_wp2
 go_ret
 exact ⟨hB, _, t1, rfl, rfl, hI, hr⟩) : G := h
theorem sh177 {G : Prop} (h : G := by
 go_ret3
 exact ⟨⟨⟨none, 0, 0, []⟩, rfl, ⟨rfl, Nat.le_refl _, Nat.zero_le _, fun _ => ⟨rfl, rfl⟩, fun x hx => by simp at hx, dW.nil _ _⟩, rfl⟩, Below.refl _ _⟩) : G := h
theorem sh178 {G : Prop} (h : G := by
 go_enter Tryz.func296, Tryz.ntmps296
 go_wp2
 go_ret
 exact ⟨⟨none, 0, 0, []⟩, rfl, ok0 _, (unhide HL).symm, Below.refl _ _, fun _ h => by cases h⟩) : G := h
theorem sh179 {G : Prop} (h : G := by
 refine hK.out _ _ (unhide HK2 _ bs) (fun hHeld => ?_)
 clear hK K
 have hC := gR ys2 W.heap.size a1 b1 ([s] ++ [s1]) ([(L0, G0)] ++ [(L1, G1)]) s2 G2 RSs (by simp) hs (Sl.Off.of (B := 0) hE2.rs.l1 hsf) (Sl.Off.of (B := 0) hE2.rs.l2 hsf) (fun y hy => Nat.le_trans hE2.bel.size (hsf y hy)) hG2 hB2 bs.size
 rw [hsl2, hsv] at hC
 refine rdY 7 rfl fun K hK => ?_
 go_simp
 refine hC.mono ?_
 rintro e yw2 ⟨a2, b2, rfl, RS2, hBw, hfr⟩
 obtain ⟨svw, hF2⟩ := hE2.next bu hsf RS2 hBw hfr
 have bw := bs.trans hBw
 refine hK.out _ _ (unhide HK2 _ bw) (fun hHeld => ?_)
 clear hK K hC
 refine rdY 8 rfl fun K hK => ?_
 refine eH rfl 234 (.tmp 3) (.tmp 31) rfl q #[a2, b2] rfl rfl 234 #[a1, b1] svw (by kernel_rfl) rfl (jF RS2) ?_
 exact sh159) : G := h
theorem sh180 {G : Prop} (h : G := by
 refine hK1 _ _ ?_
 clear hK1 K1
 simp only [Act.put]
 refine bG (by kernel_rfl) fun K1 hK1 => ?_
 refine wp_load_mid 30 (.tmp 3) rfl (w.heap.size + 1) 0 rfl Z _ (unhide RZ) Tryz.underlying30 rfl (unhide HZZ) ?_
 refine hK1 _ _ ?_
 clear hK1 K1
 simp only [Act.put]
 exact sh160) : G := h
theorem sh181 {G : Prop} (h : G := by
 exact bU.of (unhide HX) (unhide HZE) (fun i _ => iL _) (bJ (unhide ST).bel (Nat.le_succ _) _)) : G := h
end Go.Proofs.YtejagcngbgnogaaGreat
