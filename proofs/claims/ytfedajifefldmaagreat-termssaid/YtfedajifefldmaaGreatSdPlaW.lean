import Derived.Test.YtfedajifefldmaaGreatSdGsM
namespace Go.Proofs.YtfedajifefldmaaGreat
open Go.RowKit
set_option maxHeartbeats 1000000 in
set_option maxRecDepth 100000 in
theorem cert1_pl {S : Nat → Prop} {w0 : World}  : PlOk S w0 0 (.func (.func 115) #[] #[]) := by
  refine ⟨_, _, rfl, enters_of Tryz.func115 (by kernel_rfl) rfl, ?_⟩
  intro w q o hb
  clear hb
  go_enter Tryz.func115, Tryz.ntmps115
  go_wp2
  go_ret
  exact ⟨rfl, rfl⟩
set_option maxHeartbeats 1000000 in
set_option maxRecDepth 100000 in
theorem cert2_pl {S : Nat → Prop} {w0 : World}  : PlOk S w0 1 (.func (.func 116) #[] #[]) := by
  refine ⟨_, _, rfl, enters_of Tryz.func116 (by kernel_rfl) rfl, ?_⟩
  intro w q o hb
  clear hb
  go_enter Tryz.func116, Tryz.ntmps116
  go_wp2
  go_ret
  exact ⟨rfl, rfl⟩
set_option maxHeartbeats 1000000 in
set_option maxRecDepth 100000 in
theorem cert3_pl {S : Nat → Prop} {w0 : World}  : PlOk S w0 2 (.func (.func 118) #[] #[]) := by
  refine ⟨_, _, rfl, enters_of Tryz.func118 (by kernel_rfl) rfl, ?_⟩
  intro w q o hb
  clear hb
  go_enter Tryz.func118, Tryz.ntmps118
  go_wp2
  go_ret
  exact ⟨rfl, rfl⟩
set_option maxHeartbeats 1000000 in
set_option maxRecDepth 100000 in
theorem cert4_pl {S : Nat → Prop} {w0 : World}  : SlOk S w0 3 32 (.func (.func 120) #[] #[]) := by
  refine ⟨_, _, rfl, enters_of Tryz.func120 (by kernel_rfl) rfl, ?_⟩
  intro w q o hb hc
  clear hb
  obtain ⟨c, hc⟩ := hc
  go_enter Tryz.func120, Tryz.ntmps120
  go_wp2
  go_ret
  exact ⟨rfl, rfl⟩
set_option maxHeartbeats 1000000 in
set_option maxRecDepth 100000 in
theorem cert5_pl {S : Nat → Prop} {w0 : World}  : SlOk S w0 35 64 (.func (.func 121) #[] #[]) := by
  refine ⟨_, _, rfl, enters_of Tryz.func121 (by kernel_rfl) rfl, ?_⟩
  intro w q o hb hc
  clear hb
  obtain ⟨c, hc⟩ := hc
  go_enter Tryz.func121, Tryz.ntmps121
  go_wp2
  go_ret
  exact ⟨rfl, rfl⟩
set_option maxHeartbeats 1000000 in
set_option maxRecDepth 100000 in
theorem ticket1_pl {S : Nat → Prop} {w0 : World}  : PlOk S w0 0 (.func (.func 128) #[] #[]) := by
  refine ⟨_, _, rfl, enters_of Tryz.func128 (by kernel_rfl) rfl, ?_⟩
  intro w q o hb
  clear hb
  go_enter Tryz.func128, Tryz.ntmps128
  go_wp2
  go_ret
  exact ⟨rfl, rfl⟩
set_option maxHeartbeats 1000000 in
set_option maxRecDepth 100000 in
theorem ticket2_pl {S : Nat → Prop} {w0 : World}  : PlOk S w0 99 (.func (.func 130) #[] #[]) := by
  refine ⟨_, _, rfl, enters_of Tryz.func130 (by kernel_rfl) rfl, ?_⟩
  intro w q o hb
  clear hb
  go_enter Tryz.func130, Tryz.ntmps130
  go_wp2
  go_ret
  exact ⟨rfl, rfl⟩
set_option maxHeartbeats 1000000 in
set_option maxRecDepth 100000 in
theorem ticket3_pl {S : Nat → Prop} {w0 : World} {sT : Nat → Kd} {nT : Nat} (h1 : 1 < nT) (hs : sT 1 = .n) : MoOk S w0 sT nT (fun x => x 1) (.func (.func 131) #[] #[]) := by
  refine ⟨_, _, rfl, enters_of Tryz.func131 (by kernel_rfl) rfl, ?_⟩
  intro w q ty sh N x o hb hT hSg
  have c1 : w.cell? ⟨q, o + 1, none⟩ = some (.int .i64 (sft o x 1)) := by rw [hSg.cell hT 1 h1, hs]; rfl
  clear hb hT hSg
  go_enter Tryz.func131, Tryz.ntmps131
  go_wp2
  go_ret
  exact ⟨rfl, rfl⟩
set_option maxHeartbeats 1000000 in
set_option maxRecDepth 100000 in
theorem ticket4_pl {S : Nat → Prop} {w0 : World}  : SlOk S w0 100 32 (.func (.func 133) #[] #[]) := by
  refine ⟨_, _, rfl, enters_of Tryz.func133 (by kernel_rfl) rfl, ?_⟩
  intro w q o hb hc
  clear hb
  obtain ⟨c, hc⟩ := hc
  go_enter Tryz.func133, Tryz.ntmps133
  go_wp2
  go_ret
  exact ⟨rfl, rfl⟩
set_option maxHeartbeats 1000000 in
set_option maxRecDepth 100000 in
theorem entry1_pl {S : Nat → Prop} {w0 : World}  : PlOk S w0 0 (.func (.func 138) #[] #[]) := by
  refine ⟨_, _, rfl, enters_of Tryz.func138 (by kernel_rfl) rfl, ?_⟩
  intro w q o hb
  clear hb
  go_enter Tryz.func138, Tryz.ntmps138
  go_wp2
  go_ret
  exact ⟨rfl, rfl⟩
set_option maxHeartbeats 1000000 in
set_option maxRecDepth 100000 in
theorem entry2_pl {S : Nat → Prop} {w0 : World}  : PlOk S w0 99 (.func (.func 140) #[] #[]) := by
  refine ⟨_, _, rfl, enters_of Tryz.func140 (by kernel_rfl) rfl, ?_⟩
  intro w q o hb
  clear hb
  go_enter Tryz.func140, Tryz.ntmps140
  go_wp2
  go_ret
  exact ⟨rfl, rfl⟩
set_option maxHeartbeats 1000000 in
set_option maxRecDepth 100000 in
theorem entry3_pl {S : Nat → Prop} {w0 : World} {sT : Nat → Kd} {nT : Nat} (h1 : 1 < nT) (hs : sT 1 = .n) : MoOk S w0 sT nT (fun x => x 1) (.func (.func 141) #[] #[]) := by
  refine ⟨_, _, rfl, enters_of Tryz.func141 (by kernel_rfl) rfl, ?_⟩
  intro w q ty sh N x o hb hT hSg
  have c1 : w.cell? ⟨q, o + 1, none⟩ = some (.int .i64 (sft o x 1)) := by rw [hSg.cell hT 1 h1, hs]; rfl
  clear hb hT hSg
  go_enter Tryz.func141, Tryz.ntmps141
  go_wp2
  go_ret
  exact ⟨rfl, rfl⟩
set_option maxHeartbeats 1000000 in
set_option maxRecDepth 100000 in
theorem entry4_pl {S : Nat → Prop} {w0 : World}  : SlOk S w0 100 32 (.func (.func 143) #[] #[]) := by
  refine ⟨_, _, rfl, enters_of Tryz.func143 (by kernel_rfl) rfl, ?_⟩
  intro w q o hb hc
  clear hb
  obtain ⟨c, hc⟩ := hc
  go_enter Tryz.func143, Tryz.ntmps143
  go_wp2
  go_ret
  exact ⟨rfl, rfl⟩
set_option maxHeartbeats 1000000 in
set_option maxRecDepth 100000 in
theorem entry5_pl {S : Nat → Prop} {w0 : World}  : PlOk S w0 132 (.func (.func 145) #[] #[]) := by
  refine ⟨_, _, rfl, enters_of Tryz.func145 (by kernel_rfl) rfl, ?_⟩
  intro w q o hb
  clear hb
  go_enter Tryz.func145, Tryz.ntmps145
  go_wp2
  go_ret
  exact ⟨rfl, rfl⟩
set_option maxHeartbeats 1000000 in
set_option maxRecDepth 100000 in
theorem entry6_pl {S : Nat → Prop} {w0 : World}  : PlOk S w0 133 (.func (.func 146) #[] #[]) := by
  refine ⟨_, _, rfl, enters_of Tryz.func146 (by kernel_rfl) rfl, ?_⟩
  intro w q o hb
  clear hb
  go_enter Tryz.func146, Tryz.ntmps146
  go_wp2
  go_ret
  exact ⟨rfl, rfl⟩
set_option maxHeartbeats 1000000 in
set_option maxRecDepth 100000 in
theorem entry7_pl {S : Nat → Prop} {w0 : World}  : PlOk S w0 197 (.func (.func 147) #[] #[]) := by
  refine ⟨_, _, rfl, enters_of Tryz.func147 (by kernel_rfl) rfl, ?_⟩
  intro w q o hb
  clear hb
  go_enter Tryz.func147, Tryz.ntmps147
  go_wp2
  go_ret
  exact ⟨rfl, rfl⟩
set_option maxHeartbeats 1000000 in
set_option maxRecDepth 100000 in
theorem entry8_pl {S : Nat → Prop} {w0 : World}  : PlOk S w0 198 (.func (.func 148) #[] #[]) := by
  refine ⟨_, _, rfl, enters_of Tryz.func148 (by kernel_rfl) rfl, ?_⟩
  intro w q o hb
  clear hb
  go_enter Tryz.func148, Tryz.ntmps148
  go_wp2
  go_ret
  exact ⟨rfl, rfl⟩
set_option maxHeartbeats 1000000 in
set_option maxRecDepth 100000 in
theorem freeze1_pl {S : Nat → Prop} {w0 : World}  : PlOk S w0 0 (.func (.func 153) #[] #[]) := by
  refine ⟨_, _, rfl, enters_of Tryz.func153 (by kernel_rfl) rfl, ?_⟩
  intro w q o hb
  clear hb
  go_enter Tryz.func153, Tryz.ntmps153
  go_wp2
  go_ret
  exact ⟨rfl, rfl⟩
set_option maxHeartbeats 1000000 in
set_option maxRecDepth 100000 in
theorem freeze2_pl {S : Nat → Prop} {w0 : World}  : SlOk S w0 99 64 (.func (.func 155) #[] #[]) := by
  refine ⟨_, _, rfl, enters_of Tryz.func155 (by kernel_rfl) rfl, ?_⟩
  intro w q o hb hc
  clear hb
  obtain ⟨c, hc⟩ := hc
  go_enter Tryz.func155, Tryz.ntmps155
  go_wp2
  go_ret
  exact ⟨rfl, rfl⟩
set_option maxHeartbeats 1000000 in
set_option maxRecDepth 100000 in
theorem revocation1_pl {S : Nat → Prop} {w0 : World}  : PlOk S w0 0 (.func (.func 170) #[] #[]) := by
  refine ⟨_, _, rfl, enters_of Tryz.func170 (by kernel_rfl) rfl, ?_⟩
  intro w q o hb
  clear hb
  go_enter Tryz.func170, Tryz.ntmps170
  go_wp2
  go_ret
  exact ⟨rfl, rfl⟩
set_option maxHeartbeats 1000000 in
set_option maxRecDepth 100000 in
theorem revocation2_pl {S : Nat → Prop} {w0 : World}  : SlOk S w0 99 64 (.func (.func 172) #[] #[]) := by
  refine ⟨_, _, rfl, enters_of Tryz.func172 (by kernel_rfl) rfl, ?_⟩
  intro w q o hb hc
  clear hb
  obtain ⟨c, hc⟩ := hc
  go_enter Tryz.func172, Tryz.ntmps172
  go_wp2
  go_ret
  exact ⟨rfl, rfl⟩
set_option maxHeartbeats 1000000 in
set_option maxRecDepth 100000 in
theorem ack1_pl {S : Nat → Prop} {w0 : World}  : PlOk S w0 0 (.func (.func 160) #[] #[]) := by
  refine ⟨_, _, rfl, enters_of Tryz.func160 (by kernel_rfl) rfl, ?_⟩
  intro w q o hb
  clear hb
  go_enter Tryz.func160, Tryz.ntmps160
  go_wp2
  go_ret
  exact ⟨rfl, rfl⟩
set_option maxHeartbeats 1000000 in
set_option maxRecDepth 100000 in
theorem ack2_pl {S : Nat → Prop} {w0 : World}  : PlOk S w0 1 (.func (.func 161) #[] #[]) := by
  refine ⟨_, _, rfl, enters_of Tryz.func161 (by kernel_rfl) rfl, ?_⟩
  intro w q o hb
  clear hb
  go_enter Tryz.func161, Tryz.ntmps161
  go_wp2
  go_ret
  exact ⟨rfl, rfl⟩
set_option maxHeartbeats 1000000 in
set_option maxRecDepth 100000 in
theorem ack3_pl {S : Nat → Prop} {w0 : World}  : PlOk S w0 2 (.func (.func 162) #[] #[]) := by
  refine ⟨_, _, rfl, enters_of Tryz.func162 (by kernel_rfl) rfl, ?_⟩
  intro w q o hb
  clear hb
  go_enter Tryz.func162, Tryz.ntmps162
  go_wp2
  go_ret
  exact ⟨rfl, rfl⟩
set_option maxHeartbeats 1000000 in
set_option maxRecDepth 100000 in
theorem ack4_pl {S : Nat → Prop} {w0 : World}  : SlOk S w0 3 32 (.func (.func 164) #[] #[]) := by
  refine ⟨_, _, rfl, enters_of Tryz.func164 (by kernel_rfl) rfl, ?_⟩
  intro w q o hb hc
  clear hb
  obtain ⟨c, hc⟩ := hc
  go_enter Tryz.func164, Tryz.ntmps164
  go_wp2
  go_ret
  exact ⟨rfl, rfl⟩
set_option maxHeartbeats 1000000 in
set_option maxRecDepth 100000 in
theorem ack5_pl {S : Nat → Prop} {w0 : World}  : SlOk S w0 35 64 (.func (.func 165) #[] #[]) := by
  refine ⟨_, _, rfl, enters_of Tryz.func165 (by kernel_rfl) rfl, ?_⟩
  intro w q o hb hc
  clear hb
  obtain ⟨c, hc⟩ := hc
  go_enter Tryz.func165, Tryz.ntmps165
  go_wp2
  go_ret
  exact ⟨rfl, rfl⟩
set_option maxHeartbeats 1000000 in
set_option maxRecDepth 100000 in
theorem floor1_pl {S : Nat → Prop} {w0 : World}  : PlOk S w0 0 (.func (.func 83) #[] #[]) := by
  refine ⟨_, _, rfl, enters_of Tryz.func83 (by kernel_rfl) rfl, ?_⟩
  intro w q o hb
  clear hb
  go_enter Tryz.func83, Tryz.ntmps83
  go_wp2
  go_ret
  exact ⟨rfl, rfl⟩
set_option maxHeartbeats 1000000 in
set_option maxRecDepth 100000 in
theorem floor2_pl {S : Nat → Prop} {w0 : World}  : SlOk S w0 1 64 (.func (.func 85) #[] #[]) := by
  refine ⟨_, _, rfl, enters_of Tryz.func85 (by kernel_rfl) rfl, ?_⟩
  intro w q o hb hc
  clear hb
  obtain ⟨c, hc⟩ := hc
  go_enter Tryz.func85, Tryz.ntmps85
  go_wp2
  go_ret
  exact ⟨rfl, rfl⟩
set_option maxHeartbeats 1000000 in
set_option maxRecDepth 100000 in
theorem receipt1_pl {S : Nat → Prop} {w0 : World}  : PlOk S w0 0 (.func (.func 179) #[] #[]) := by
  refine ⟨_, _, rfl, enters_of Tryz.func179 (by kernel_rfl) rfl, ?_⟩
  intro w q o hb
  clear hb
  go_enter Tryz.func179, Tryz.ntmps179
  go_wp2
  go_ret
  exact ⟨rfl, rfl⟩
set_option maxHeartbeats 1000000 in
set_option maxRecDepth 100000 in
theorem receipt2_pl {S : Nat → Prop} {w0 : World}  : PlOk S w0 1 (.func (.func 180) #[] #[]) := by
  refine ⟨_, _, rfl, enters_of Tryz.func180 (by kernel_rfl) rfl, ?_⟩
  intro w q o hb
  clear hb
  go_enter Tryz.func180, Tryz.ntmps180
  go_wp2
  go_ret
  exact ⟨rfl, rfl⟩
set_option maxHeartbeats 1000000 in
set_option maxRecDepth 100000 in
theorem receipt3_pl {S : Nat → Prop} {w0 : World}  : PlOk S w0 2 (.func (.func 182) #[] #[]) := by
  refine ⟨_, _, rfl, enters_of Tryz.func182 (by kernel_rfl) rfl, ?_⟩
  intro w q o hb
  clear hb
  go_enter Tryz.func182, Tryz.ntmps182
  go_wp2
  go_ret
  exact ⟨rfl, rfl⟩
set_option maxHeartbeats 1000000 in
set_option maxRecDepth 100000 in
theorem receipt4_pl {S : Nat → Prop} {w0 : World}  : SlOk S w0 3 64 (.func (.func 184) #[] #[]) := by
  refine ⟨_, _, rfl, enters_of Tryz.func184 (by kernel_rfl) rfl, ?_⟩
  intro w q o hb hc
  clear hb
  obtain ⟨c, hc⟩ := hc
  go_enter Tryz.func184, Tryz.ntmps184
  go_wp2
  go_ret
  exact ⟨rfl, rfl⟩
set_option maxHeartbeats 1000000 in
set_option maxRecDepth 100000 in
theorem order1_pl {S : Nat → Prop} {w0 : World}  : PlOk S w0 0 (.func (.func 189) #[] #[]) := by
  refine ⟨_, _, rfl, enters_of Tryz.func189 (by kernel_rfl) rfl, ?_⟩
  intro w q o hb
  clear hb
  go_enter Tryz.func189, Tryz.ntmps189
  go_wp2
  go_ret
  exact ⟨rfl, rfl⟩
set_option maxHeartbeats 1000000 in
set_option maxRecDepth 100000 in
theorem order2_pl {S : Nat → Prop} {w0 : World}  : PlOk S w0 1 (.func (.func 191) #[] #[]) := by
  refine ⟨_, _, rfl, enters_of Tryz.func191 (by kernel_rfl) rfl, ?_⟩
  intro w q o hb
  clear hb
  go_enter Tryz.func191, Tryz.ntmps191
  go_wp2
  go_ret
  exact ⟨rfl, rfl⟩
set_option maxHeartbeats 1000000 in
set_option maxRecDepth 100000 in
theorem order3_pl {S : Nat → Prop} {w0 : World}  : SlOk S w0 2 32 (.func (.func 193) #[] #[]) := by
  refine ⟨_, _, rfl, enters_of Tryz.func193 (by kernel_rfl) rfl, ?_⟩
  intro w q o hb hc
  clear hb
  obtain ⟨c, hc⟩ := hc
  go_enter Tryz.func193, Tryz.ntmps193
  go_wp2
  go_ret
  exact ⟨rfl, rfl⟩
set_option maxHeartbeats 1000000 in
set_option maxRecDepth 100000 in
theorem head1_pl {S : Nat → Prop} {w0 : World}  : PlOk S w0 0 (.func (.func 198) #[] #[]) := by
  refine ⟨_, _, rfl, enters_of Tryz.func198 (by kernel_rfl) rfl, ?_⟩
  intro w q o hb
  clear hb
  go_enter Tryz.func198, Tryz.ntmps198
  go_wp2
  go_ret
  exact ⟨rfl, rfl⟩
set_option maxHeartbeats 1000000 in
set_option maxRecDepth 100000 in
theorem head2_pl {S : Nat → Prop} {w0 : World}  : SlOk S w0 1 32 (.func (.func 200) #[] #[]) := by
  refine ⟨_, _, rfl, enters_of Tryz.func200 (by kernel_rfl) rfl, ?_⟩
  intro w q o hb hc
  clear hb
  obtain ⟨c, hc⟩ := hc
  go_enter Tryz.func200, Tryz.ntmps200
  go_wp2
  go_ret
  exact ⟨rfl, rfl⟩
set_option maxHeartbeats 1000000 in
set_option maxRecDepth 100000 in
theorem head3_pl {S : Nat → Prop} {w0 : World}  : SlOk S w0 33 64 (.func (.func 201) #[] #[]) := by
  refine ⟨_, _, rfl, enters_of Tryz.func201 (by kernel_rfl) rfl, ?_⟩
  intro w q o hb hc
  clear hb
  obtain ⟨c, hc⟩ := hc
  go_enter Tryz.func201, Tryz.ntmps201
  go_wp2
  go_ret
  exact ⟨rfl, rfl⟩
end Go.Proofs.YtfedajifefldmaaGreat
