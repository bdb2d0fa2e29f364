/- Contracts of the model on new games and valid games. -/
import Derived.Test.Ytokjkcnjmfbfiaa08g
namespace Go.Proofs.Ytokjkcnjmfbfiaa
open Go.ChangeShapes Go.WideShapes Go.ChangeAt Go.RowKit
set_option linter.unusedVariables false
set_option linter.unusedSimpArgs false
set_option maxRecDepth 4000

theorem specIsGame_any (p c h s : Int) (a1 a2 : Option Addr) (n1 n2 c1 c2 : Nat) (xs ys : List Int) (w : World) (h1 : xs.length = n1) (h2 : ys.length = n2) (l1 : n1 ≤ 1048576) (l2 : n2 ≤ 1048576) (r1 : IRow w a1 xs) (r2 : IRow w a2 ys) (pl ra rb ph wi re tu : Int) :
    Calls Try.prog 47 #[.agg #[.int .i64 p, .int .i64 c, .int .i64 h, .int .i64 s], .agg #[.slice a1 n1 c1, .slice a2 n2 c2, .int .i64 pl, .int .i64 ra, .int .i64 rb, .int .i64 ph, .int .i64 wi, .int .i64 re, .int .i64 tu]] w fun e w' => e = .returned (.bool (gmB p c h s xs ys pl ra rb ph wi re tu)) ∧ Below w.heap.size w w' := by
  obtain ⟨BV, BG, hb, hz⟩ := two_new' w #[.int .i64 p, .int .i64 c, .int .i64 h, .int .i64 s] #[.slice a1 n1 c1, .slice a2 n2 c2, .int .i64 pl, .int .i64 ra, .int .i64 rb, .int .i64 ph, .int .i64 wi, .int .i64 re, .int .i64 tu] 32 70
  replace r1 := r1.below hb
  replace r2 := r2.below hb
  go_enter Try.func47, Try.ntmps47
  obtain ⟨x0, x1, x2, x3, xf, xl⟩ := BV.four
  obtain ⟨ga0, ga1, ga2, ga3, ga4, ga5, ga6, ga7, ga8, gaf, gal⟩ := BG.nine
  go_wp2_with fail
  clear x0 x1 x2 x3 xf xl
  clear ga0 ga1 ga2 ga3 ga4 ga5 ga6 ga7 ga8 gaf gal
  generalize ((w.alloc (.cells #[.int .i64 p, .int .i64 c, .int .i64 h, .int .i64 s] 32)).alloc (.cells #[.slice a1 n1 c1, .slice a2 n2 c2, .int .i64 pl, .int .i64 ra, .int .i64 rb, .int .i64 ph, .int .i64 wi, .int .i64 re, .int .i64 tu] 70)) = v0 at *
  obtain ⟨q0_BV, q1_BV, q2_BV, q3_BV, qf_BV, ql_BV⟩ := BV.four
  obtain ⟨q0_BG, q1_BG, q2_BG, q3_BG, q4_BG, q5_BG, q6_BG, q7_BG, q8_BG, qf_BG, ql_BG⟩ := BG.nine
  go_wp2_with fail
  clear q0_BV q1_BV q2_BV q3_BV qf_BV ql_BV
  clear q0_BG q1_BG q2_BG q3_BG q4_BG q5_BG q6_BG q7_BG q8_BG qf_BG ql_BG
  refine (l08Valid_any p c h s a1 a2 n1 n2 c1 c2 xs ys _ h1 h2 l1 l2 r1 r2 pl ra rb ph wi re tu).mono ?_
  rintro e w1 ⟨rfl, hb1⟩
  replace BV := BV.below hb1
  replace BG := BG.below hb1
  replace r1 := r1.below hb1
  replace r2 := r2.below hb1
  have hz1 := hb1.size
  replace hb := chain hb hb1
  clear hb1
  obtain ⟨q0_BV, q1_BV, q2_BV, q3_BV, qf_BV, ql_BV⟩ := BV.four
  obtain ⟨q0_BG, q1_BG, q2_BG, q3_BG, q4_BG, q5_BG, q6_BG, q7_BG, q8_BG, qf_BG, ql_BG⟩ := BG.nine
  go_wp2_with fail
  go_ret
  exact ⟨rfl, hb⟩
end Go.Proofs.Ytokjkcnjmfbfiaa
