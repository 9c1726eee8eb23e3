import Derived.Test.YthpnfbgobpfdgaaGreatQtN
namespace Go.Proofs.YthpnfbgobpfdgaaGreat
open Go.RowKit

set_option maxHeartbeats 1000000 in
set_option maxRecDepth 100000 in
theorem cert1_pl {S : Nat → Prop} {w0 : World}  : PlOk S w0 0 (.func (.func 38) #[] #[]) := by
  refine ⟨_, _, rfl, enters_of Tryz.func38 (by kernel_rfl) rfl, ?_⟩
  intro w q o hb
  clear hb
  go_enter Tryz.func38, Tryz.ntmps38
  go_wp2
  go_ret
  exact ⟨rfl, rfl⟩

set_option maxHeartbeats 1000000 in
set_option maxRecDepth 100000 in
theorem cert2_pl {S : Nat → Prop} {w0 : World}  : PlOk S w0 1 (.func (.func 39) #[] #[]) := by
  refine ⟨_, _, rfl, enters_of Tryz.func39 (by kernel_rfl) rfl, ?_⟩
  intro w q o hb
  clear hb
  go_enter Tryz.func39, Tryz.ntmps39
  go_wp2
  go_ret
  exact ⟨rfl, rfl⟩

set_option maxHeartbeats 1000000 in
set_option maxRecDepth 100000 in
theorem cert3_pl {S : Nat → Prop} {w0 : World}  : PlOk S w0 2 (.func (.func 41) #[] #[]) := by
  refine ⟨_, _, rfl, enters_of Tryz.func41 (by kernel_rfl) rfl, ?_⟩
  intro w q o hb
  clear hb
  go_enter Tryz.func41, Tryz.ntmps41
  go_wp2
  go_ret
  exact ⟨rfl, rfl⟩

set_option maxHeartbeats 1000000 in
set_option maxRecDepth 100000 in
theorem cert4_pl {S : Nat → Prop} {w0 : World}  : SlOk S w0 3 32 (.func (.func 43) #[] #[]) := by
  refine ⟨_, _, rfl, enters_of Tryz.func43 (by kernel_rfl) rfl, ?_⟩
  intro w q o hb hc
  clear hb
  obtain ⟨c, hc⟩ := hc
  go_enter Tryz.func43, Tryz.ntmps43
  go_wp2
  go_ret
  exact ⟨rfl, rfl⟩

set_option maxHeartbeats 1000000 in
set_option maxRecDepth 100000 in
theorem cert5_pl {S : Nat → Prop} {w0 : World}  : SlOk S w0 35 64 (.func (.func 44) #[] #[]) := by
  refine ⟨_, _, rfl, enters_of Tryz.func44 (by kernel_rfl) rfl, ?_⟩
  intro w q o hb hc
  clear hb
  obtain ⟨c, hc⟩ := hc
  go_enter Tryz.func44, Tryz.ntmps44
  go_wp2
  go_ret
  exact ⟨rfl, rfl⟩

set_option maxHeartbeats 1000000 in
set_option maxRecDepth 100000 in
theorem freeze1_pl {S : Nat → Prop} {w0 : World}  : PlOk S w0 0 (.func (.func 47) #[] #[]) := by
  refine ⟨_, _, rfl, enters_of Tryz.func47 (by kernel_rfl) rfl, ?_⟩
  intro w q o hb
  clear hb
  go_enter Tryz.func47, Tryz.ntmps47
  go_wp2
  go_ret
  exact ⟨rfl, rfl⟩

set_option maxHeartbeats 1000000 in
set_option maxRecDepth 100000 in
theorem freeze2_pl {S : Nat → Prop} {w0 : World}  : SlOk S w0 99 64 (.func (.func 49) #[] #[]) := by
  refine ⟨_, _, rfl, enters_of Tryz.func49 (by kernel_rfl) rfl, ?_⟩
  intro w q o hb hc
  clear hb
  obtain ⟨c, hc⟩ := hc
  go_enter Tryz.func49, Tryz.ntmps49
  go_wp2
  go_ret
  exact ⟨rfl, rfl⟩

set_option maxHeartbeats 1000000 in
set_option maxRecDepth 100000 in
theorem revocation1_pl {S : Nat → Prop} {w0 : World}  : PlOk S w0 0 (.func (.func 60) #[] #[]) := by
  refine ⟨_, _, rfl, enters_of Tryz.func60 (by kernel_rfl) rfl, ?_⟩
  intro w q o hb
  clear hb
  go_enter Tryz.func60, Tryz.ntmps60
  go_wp2
  go_ret
  exact ⟨rfl, rfl⟩

set_option maxHeartbeats 1000000 in
set_option maxRecDepth 100000 in
theorem revocation2_pl {S : Nat → Prop} {w0 : World}  : SlOk S w0 99 64 (.func (.func 62) #[] #[]) := by
  refine ⟨_, _, rfl, enters_of Tryz.func62 (by kernel_rfl) rfl, ?_⟩
  intro w q o hb hc
  clear hb
  obtain ⟨c, hc⟩ := hc
  go_enter Tryz.func62, Tryz.ntmps62
  go_wp2
  go_ret
  exact ⟨rfl, rfl⟩

set_option maxHeartbeats 1000000 in
set_option maxRecDepth 100000 in
theorem ack1_pl {S : Nat → Prop} {w0 : World}  : PlOk S w0 0 (.func (.func 52) #[] #[]) := by
  refine ⟨_, _, rfl, enters_of Tryz.func52 (by kernel_rfl) rfl, ?_⟩
  intro w q o hb
  clear hb
  go_enter Tryz.func52, Tryz.ntmps52
  go_wp2
  go_ret
  exact ⟨rfl, rfl⟩

set_option maxHeartbeats 1000000 in
set_option maxRecDepth 100000 in
theorem ack2_pl {S : Nat → Prop} {w0 : World}  : PlOk S w0 1 (.func (.func 53) #[] #[]) := by
  refine ⟨_, _, rfl, enters_of Tryz.func53 (by kernel_rfl) rfl, ?_⟩
  intro w q o hb
  clear hb
  go_enter Tryz.func53, Tryz.ntmps53
  go_wp2
  go_ret
  exact ⟨rfl, rfl⟩

set_option maxHeartbeats 1000000 in
set_option maxRecDepth 100000 in
theorem ack3_pl {S : Nat → Prop} {w0 : World}  : PlOk S w0 2 (.func (.func 54) #[] #[]) := by
  refine ⟨_, _, rfl, enters_of Tryz.func54 (by kernel_rfl) rfl, ?_⟩
  intro w q o hb
  clear hb
  go_enter Tryz.func54, Tryz.ntmps54
  go_wp2
  go_ret
  exact ⟨rfl, rfl⟩

set_option maxHeartbeats 1000000 in
set_option maxRecDepth 100000 in
theorem ack4_pl {S : Nat → Prop} {w0 : World}  : SlOk S w0 3 32 (.func (.func 56) #[] #[]) := by
  refine ⟨_, _, rfl, enters_of Tryz.func56 (by kernel_rfl) rfl, ?_⟩
  intro w q o hb hc
  clear hb
  obtain ⟨c, hc⟩ := hc
  go_enter Tryz.func56, Tryz.ntmps56
  go_wp2
  go_ret
  exact ⟨rfl, rfl⟩

set_option maxHeartbeats 1000000 in
set_option maxRecDepth 100000 in
theorem ack5_pl {S : Nat → Prop} {w0 : World}  : SlOk S w0 35 64 (.func (.func 57) #[] #[]) := by
  refine ⟨_, _, rfl, enters_of Tryz.func57 (by kernel_rfl) rfl, ?_⟩
  intro w q o hb hc
  clear hb
  obtain ⟨c, hc⟩ := hc
  go_enter Tryz.func57, Tryz.ntmps57
  go_wp2
  go_ret
  exact ⟨rfl, rfl⟩

set_option maxHeartbeats 1000000 in
set_option maxRecDepth 100000 in
theorem floor1_pl {S : Nat → Prop} {w0 : World}  : PlOk S w0 0 (.func (.func 65) #[] #[]) := by
  refine ⟨_, _, rfl, enters_of Tryz.func65 (by kernel_rfl) rfl, ?_⟩
  intro w q o hb
  clear hb
  go_enter Tryz.func65, Tryz.ntmps65
  go_wp2
  go_ret
  exact ⟨rfl, rfl⟩

set_option maxHeartbeats 1000000 in
set_option maxRecDepth 100000 in
theorem floor2_pl {S : Nat → Prop} {w0 : World}  : SlOk S w0 1 64 (.func (.func 67) #[] #[]) := by
  refine ⟨_, _, rfl, enters_of Tryz.func67 (by kernel_rfl) rfl, ?_⟩
  intro w q o hb hc
  clear hb
  obtain ⟨c, hc⟩ := hc
  go_enter Tryz.func67, Tryz.ntmps67
  go_wp2
  go_ret
  exact ⟨rfl, rfl⟩

set_option maxHeartbeats 1000000 in
set_option maxRecDepth 100000 in
theorem receipt1_pl {S : Nat → Prop} {w0 : World}  : PlOk S w0 0 (.func (.func 70) #[] #[]) := by
  refine ⟨_, _, rfl, enters_of Tryz.func70 (by kernel_rfl) rfl, ?_⟩
  intro w q o hb
  clear hb
  go_enter Tryz.func70, Tryz.ntmps70
  go_wp2
  go_ret
  exact ⟨rfl, rfl⟩

set_option maxHeartbeats 1000000 in
set_option maxRecDepth 100000 in
theorem receipt2_pl {S : Nat → Prop} {w0 : World}  : PlOk S w0 1 (.func (.func 71) #[] #[]) := by
  refine ⟨_, _, rfl, enters_of Tryz.func71 (by kernel_rfl) rfl, ?_⟩
  intro w q o hb
  clear hb
  go_enter Tryz.func71, Tryz.ntmps71
  go_wp2
  go_ret
  exact ⟨rfl, rfl⟩

set_option maxHeartbeats 1000000 in
set_option maxRecDepth 100000 in
theorem receipt3_pl {S : Nat → Prop} {w0 : World}  : PlOk S w0 2 (.func (.func 73) #[] #[]) := by
  refine ⟨_, _, rfl, enters_of Tryz.func73 (by kernel_rfl) rfl, ?_⟩
  intro w q o hb
  clear hb
  go_enter Tryz.func73, Tryz.ntmps73
  go_wp2
  go_ret
  exact ⟨rfl, rfl⟩

set_option maxHeartbeats 1000000 in
set_option maxRecDepth 100000 in
theorem receipt4_pl {S : Nat → Prop} {w0 : World}  : SlOk S w0 3 64 (.func (.func 75) #[] #[]) := by
  refine ⟨_, _, rfl, enters_of Tryz.func75 (by kernel_rfl) rfl, ?_⟩
  intro w q o hb hc
  clear hb
  obtain ⟨c, hc⟩ := hc
  go_enter Tryz.func75, Tryz.ntmps75
  go_wp2
  go_ret
  exact ⟨rfl, rfl⟩

set_option maxHeartbeats 1000000 in
set_option maxRecDepth 100000 in
theorem head1_pl {S : Nat → Prop} {w0 : World}  : PlOk S w0 0 (.func (.func 78) #[] #[]) := by
  refine ⟨_, _, rfl, enters_of Tryz.func78 (by kernel_rfl) rfl, ?_⟩
  intro w q o hb
  clear hb
  go_enter Tryz.func78, Tryz.ntmps78
  go_wp2
  go_ret
  exact ⟨rfl, rfl⟩

set_option maxHeartbeats 1000000 in
set_option maxRecDepth 100000 in
theorem head2_pl {S : Nat → Prop} {w0 : World}  : SlOk S w0 1 32 (.func (.func 80) #[] #[]) := by
  refine ⟨_, _, rfl, enters_of Tryz.func80 (by kernel_rfl) rfl, ?_⟩
  intro w q o hb hc
  clear hb
  obtain ⟨c, hc⟩ := hc
  go_enter Tryz.func80, Tryz.ntmps80
  go_wp2
  go_ret
  exact ⟨rfl, rfl⟩

set_option maxHeartbeats 1000000 in
set_option maxRecDepth 100000 in
theorem head3_pl {S : Nat → Prop} {w0 : World}  : SlOk S w0 33 64 (.func (.func 81) #[] #[]) := by
  refine ⟨_, _, rfl, enters_of Tryz.func81 (by kernel_rfl) rfl, ?_⟩
  intro w q o hb hc
  clear hb
  obtain ⟨c, hc⟩ := hc
  go_enter Tryz.func81, Tryz.ntmps81
  go_wp2
  go_ret
  exact ⟨rfl, rfl⟩
end Go.Proofs.YthpnfbgobpfdgaaGreat
