import Derived.Test.YtibebhlblmdcgaaQGaB
set_option linter.unusedSimpArgs false
set_option linter.unusedVariables false
namespace Go.Proofs.Ytibebhlblmdcgaa
open Go.RowKit

end Go.Proofs.Ytibebhlblmdcgaa

set_option linter.unusedSimpArgs false
set_option linter.unusedVariables false
namespace Go.Proofs.Ytibebhlblmdcgaa
open Go.RowKit

end Go.Proofs.Ytibebhlblmdcgaa

set_option linter.unusedSimpArgs false
set_option linter.unusedVariables false
namespace Go.Proofs.Ytibebhlblmdcgaa
open Go.RowKit

theorem eqC_t {c c' : Crt} (h : c.Ok) (h' : c'.Ok) (e : c = c') (w : World) : (Op.equalIn 10000 43 (aV (crtC c)) (aV (crtC c'))).run Try.prog w = .ok true w := by rw [eqC h h' w, eqCb_t e]
theorem eqC_f {c c' : Crt} (h : c.Ok) (h' : c'.Ok) (e : ¬ c = c') (w : World) : (Op.equalIn 10000 43 (aV (crtC c)) (aV (crtC c'))).run Try.prog w = .ok false w := by rw [eqC h h' w, eqCb_f e]
theorem eqE_t {c c' : Ent} (h : c.Ok) (h' : c'.Ok) (e : c = c') (w : World) : (Op.equalIn 10000 45 (aV (eC c)) (aV (eC c'))).run Try.prog w = .ok true w := by rw [eqE h h' w, eqEb_t e]
theorem eqE_f {c c' : Ent} (h : c.Ok) (h' : c'.Ok) (e : ¬ c = c') (w : World) : (Op.equalIn 10000 45 (aV (eC c)) (aV (eC c'))).run Try.prog w = .ok false w := by rw [eqE h h' w, eqEb_f e]
theorem eqF_t {c c' : Flr} (h : c.Ok) (h' : c'.Ok) (e : c = c') (w : World) : (Op.equalIn 10000 27 (aV (fC c)) (aV (fC c'))).run Try.prog w = .ok true w := by rw [eqF h h' w, eqFb_t e]
theorem eqF_f {c c' : Flr} (h : c.Ok) (h' : c'.Ok) (e : ¬ c = c') (w : World) : (Op.equalIn 10000 27 (aV (fC c)) (aV (fC c'))).run Try.prog w = .ok false w := by rw [eqF h h' w, eqFb_f e]
end Go.Proofs.Ytibebhlblmdcgaa
