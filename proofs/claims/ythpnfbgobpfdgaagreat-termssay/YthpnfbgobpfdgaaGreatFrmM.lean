import Derived.Test.YthpnfbgobpfdgaaGreatQtN
namespace Go.Proofs.YthpnfbgobpfdgaaGreat
open Go.RowKit

/-! The forms of the kinds. -/
def sCert (i : Nat) : Kd := if i < 3 then .n else .b
def sTicket (i : Nat) : Kd := if i < 99 then sCert i else if i = 99 then .n else .b
def sEntry (i : Nat) : Kd := if i < 99 then sCert i else if i = 99 then .n else if i = 132 ∨ i = 197 then .t else .b
def sFreeze (i : Nat) : Kd := if i < 99 then sCert i else .b
def sAck (i : Nat) : Kd := if i < 3 then .n else .b
def sRevocation (i : Nat) : Kd := if i < 99 then sCert i else .b
def sFloor (i : Nat) : Kd := if i < 1 then .n else .b
def sReceipt (i : Nat) : Kd := if i < 3 then .n else .b
def sOrder (i : Nat) : Kd := if i < 2 then .n else .b
def sHead (i : Nat) : Kd := if i < 1 then .n else .b

def fCert : List FdS := [fsNum 0 1 (fun _ => 65535), fsNum 1 1 (fun _ => 4096), fsMon 2 1000000000, fsFix 3 32, fsFix 35 64]
def fTicket : List FdS := [fsIn 0 (fsAll fCert), fsNum 99 1 (fun x => x 1), fsFix 100 32]
def fEntry : List FdS := [fsIn 0 (fsAll fCert), fsNum 99 0 (fun x => x 1), fsFix 100 32, fsMrk 132 133 64, fsMrk 197 198 64]
def fFreeze : List FdS := [fsIn 0 (fsAll fCert), fsFix 99 64]
def fAck : List FdS := [fsNum 0 1 (fun _ => 65535), fsNum 1 1 (fun _ => 16), fsNum 2 0 (fun _ => 4096), fsFix 3 32, fsFix 35 64]
def fRevocation : List FdS := [fsIn 0 (fsAll fCert), fsFix 99 64]
def fFloor : List FdS := [fsNum 0 1 (fun _ => 65536), fsFix 1 64]
def fReceipt : List FdS := [fsNum 0 1 (fun _ => 65535), fsNum 1 0 (fun _ => 4096), fsMon 2 9223372036854775807, fsFix 3 64]
def fOrder : List FdS := [fsNum 0 1 (fun _ => 4096), fsMon 1 1000000000, fsFix 2 32]
def fHead : List FdS := [fsNum 0 0 (fun _ => 65536), fsFix 1 32, fsFix 33 64]

def noS : Nat → Prop := fun _ => False
theorem noS_lt (w : World) : ∀ k, noS k → k < w.heap.size := fun _ h => h.elim
/-- what a form answers -/
def FrmPost (dom sgn : Int) (sT : Nat → Kd) (nT : Nat) (fs : List FdS) (tyF : TypeId) (w : World) (e : Ending) (w' : World) : Prop :=
  ∃ g vs, e = .returned (.agg #[.int .i64 dom, .int .i64 sgn, .slice (some ⟨g, 0, none⟩) fs.length fs.length]) ∧ Tab (New noS w w') w' sT nT fs tyF g vs ∧ Below w.heap.size w w'
end Go.Proofs.YthpnfbgobpfdgaaGreat
