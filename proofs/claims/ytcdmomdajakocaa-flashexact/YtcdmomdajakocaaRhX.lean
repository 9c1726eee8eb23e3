import Derived.Test.YtcdmomdajakocaaRhA
import Derived.Test.YtcdmomdajakocaaRhR
set_option linter.unusedVariables false
set_option linter.unusedSimpArgs false
namespace Go.Proofs.Ytcdmomdajakocaa
open Go.RowKit

theorem both_any (p : Nat) (S : Nat → Prop) (fa sa va : Option Addr) (fc sc vc : Nat) (s : FlS) (ar : List (Int × Int)) (cnt : Int) (w : World) (h : RV w (.slice fa s.l0.length fc) (.slice sa s.l1.length sc) (.slice va ar.length vc) s ar cnt) (h6 : ∀ x ∈ ar, x.1 ≤ 1000000) (hf : Fl w p S s) (hap : ∀ k, RSet (.slice fa s.l0.length fc) (.slice sa s.l1.length sc) (.slice va ar.length vc) k → ¬ S k) (bank x y : Int) (d : Sl) (hd : d.Ok w) (hdn : d.n ≤ 2097152) (hS : Sepd S d) (hw : s.wr ≤ 1000000000) (kd : Int) :
    Calls Try.prog 10 #[.pointer (some ⟨p, 0, none⟩), .agg #[.int .i64 s.size, .slice fa s.l0.length fc, .slice sa s.l1.length sc, .slice va ar.length vc, .int .i64 cnt, .int .i64 s.wr, .bool s.down], .agg #[.int .i64 kd, .int .i64 bank, .slice d.a d.n d.c, .int .i64 x, .int .i64 y]] w (BoP p S (RSet (.slice fa s.l0.length fc) (.slice sa s.l1.length sc) (.slice va ar.length vc)) (s.step ⟨kd, bank, d, x, y⟩).1 w) := by
  by_cases e1 : kd = 1
  · subst e1; exact both_app p S fa sa va fc sc vc s ar cnt w h h6 hf hap bank x y d hd hdn hS hw
  by_cases e2 : kd = 2
  · subst e2; exact both_era p S fa sa va fc sc vc s ar cnt w h h6 hf hap bank x y d hd hdn hS hw
  by_cases e3 : kd = 3
  · subst e3; exact both_red p S fa sa va fc sc vc s ar cnt w h h6 hf hap bank x y d hd hdn hS hw
  by_cases e4 : kd = 4
  · subst e4; exact both_rom p S fa sa va fc sc vc s ar cnt w h h6 hf hap bank x y d hd hdn hS hw
  by_cases e5 : kd = 5
  · subst e5; exact both_arm p S fa sa va fc sc vc s ar cnt w h h6 hf hap bank x y d hd hdn hS hw
  by_cases e6 : kd = 6
  · subst e6; exact both_dis p S fa sa va fc sc vc s ar cnt w h h6 hf hap bank x y d hd hdn hS hw
  by_cases e7 : kd = 7
  · subst e7; exact both_res p S fa sa va fc sc vc s ar cnt w h h6 hf hap bank x y d hd hdn hS hw
  exact both_oth p S fa sa va fc sc vc s ar cnt w h h6 hf hap bank x y d hd hdn hS hw kd e1 e2 e3 e4 e5 e6 e7
end Go.Proofs.Ytcdmomdajakocaa
