/- The model's win chance, for all positions: by induction on the pips. -/
import Derived.Test.YtlnljfbdicgkcaaGreatV25
namespace Go.Proofs.YtlnljfbdicgkcaaGreat
open Go.ChangeShapes Go.WideShapes Go.ChangeAt Go.RowKit
set_option linter.unusedVariables false
set_option linter.unusedSimpArgs false
set_option maxRecDepth 4000
theorem wm_all (t : Tm) (hS : 1 ≤ t.S ∧ t.S ≤ 6) : ∀ n : Nat, WmOk t (n : Int)
  | 0, xs, ys, a1, a2, n1, n2, c1, c2, w, hI, hx, hy, hn1, hn2, hc1, hc2, r1, r2, hlt => by
    have hx' : Ps t.p t.c t.h (t.S : Int) xs := hx
    have hy' : Ps t.p t.c t.h (t.S : Int) ys := hy
    have h1 := pw_pos hx'.po.1
    have h2 := pw_pos hy'.po.1
    omega
  | n + 1, xs, ys, a1, a2, n1, n2, c1, c2, w, hI, hx, hy, hn1, hn2, hc1, hc2, r1, r2, hlt => by
    refine l12Value_step t hS xs ys a1 a2 n1 n2 c1 c2 ?_ w hI hx hy hn1 hn2 hc1 hc2 r1 r2
    intro us vs b1 b2 m1 m2 d1 d2 W k1 k2 k3 k4 k5 k6 k7 k8 k9 k10
    exact wm_all t hS n us vs b1 b2 m1 m2 d1 d2 W k1 k2 k3 k4 k5 k6 k7 k8 k9 (by omega)
theorem wm_any (t : Tm) (hS : 1 ≤ t.S ∧ t.S ≤ 6) (m : Int) : WmOk t m := fun xs ys a1 a2 n1 n2 c1 c2 w hI hx hy hn1 hn2 hc1 hc2 r1 r2 hlt =>
  wm_all t hS ((pwT xs + pwT ys).toNat + 1) xs ys a1 a2 n1 n2 c1 c2 w hI hx hy hn1 hn2 hc1 hc2 r1 r2 (by omega)
end Go.Proofs.YtlnljfbdicgkcaaGreat
