/- Contracts of the program on valid games, new games and phases. -/
import Derived.Test.Ytokjkcnjmfbfiaa08e
namespace Go.Proofs.Ytokjkcnjmfbfiaa
open Go.ChangeShapes Go.WideShapes Go.ChangeAt Go.RowKit
set_option linter.unusedVariables false
set_option linter.unusedSimpArgs false
set_option maxRecDepth 4000

/-- A game is valid. -/
def gmB (p c h s : Int) (xs ys : List Int) (pl ra rb ph wi re tu : Int) : Bool :=
  hgB p c h s && (isB p c h s xs ys && (((pl == 0) || (pl == 1)) && (decide (0 ≤ tu) && (decide (tu ≤ 2000) && phB p c h s xs ys pl ra rb ph wi re tu))))
set_option maxRecDepth 8000 in
set_option maxHeartbeats 2000000 in
theorem hasGame_any (p c h s : Int) (a1 a2 : Option Addr) (n1 n2 c1 c2 : Nat) (xs ys : List Int) (w : World) (h1 : xs.length = n1) (h2 : ys.length = n2) (l1 : n1 ≤ 1048576) (l2 : n2 ≤ 1048576) (r1 : IRow w a1 xs) (r2 : IRow w a2 ys) (pl ra rb ph wi re tu : Int) :
    Calls Try.prog 92 #[.agg #[.int .i64 p, .int .i64 c, .int .i64 h, .int .i64 s], .agg #[.slice a1 n1 c1, .slice a2 n2 c2, .int .i64 pl, .int .i64 ra, .int .i64 rb, .int .i64 ph, .int .i64 wi, .int .i64 re, .int .i64 tu]] w fun e w' => e = .returned (.bool (gmB p c h s xs ys pl ra rb ph wi re tu)) ∧ Below w.heap.size w w' := by
  have hG := fun (W : World) => hasGames_any p c h s W
  have hI := fun (W : World) (r1 : IRow W a1 xs) (r2 : IRow W a2 ys) => isBoard_any p c h s a1 a2 n1 n2 c1 c2 xs ys W h1 h2 l1 l2 r1 r2
  have hF := fun (g : isB p c h s xs ys = true) (hg : hgB p c h s = true) (hpl : 0 ≤ pl ∧ pl ≤ 1) (W : World) (r1 : IRow W a1 xs) (r2 : IRow W a2 ys) => fitsPhase_any p c h s a1 a2 n1 n2 c1 c2 xs ys W h1 h2 l1 l2 r1 r2 pl ra rb ph wi re tu g hg hpl
  unfold gmB
  obtain ⟨A, hA⟩ : ∃ q, hgB p c h s = q := ⟨_, rfl⟩
  obtain ⟨B, hB⟩ : ∃ q, isB p c h s xs ys = q := ⟨_, rfl⟩
  obtain ⟨D, hD⟩ : ∃ q, phB p c h s xs ys pl ra rb ph wi re tu = q := ⟨_, rfl⟩
  rw [hA] at hG hF ⊢
  rw [hB] at hI hF ⊢
  rw [hD] at hF ⊢
  have HG := Lib.hid hG
  have HI := Lib.hid hI
  have HF := Lib.hid hF
  clear hG hI hF hA hB hD
  obtain ⟨BV, BG, hb, hz⟩ := two_new' w #[.int .i64 p, .int .i64 c, .int .i64 h, .int .i64 s] #[.slice a1 n1 c1, .slice a2 n2 c2, .int .i64 pl, .int .i64 ra, .int .i64 rb, .int .i64 ph, .int .i64 wi, .int .i64 re, .int .i64 tu] 32 70
  have hr1 := r1.below hb
  have hr2 := r2.below hb
  clear r1 r2
  have r1 := hr1
  have r2 := hr2
  clear hr1 hr2
  cases A with
  | false =>
    rw [Bool.false_and]
    go_enter Try.func92, Try.ntmps92
    obtain ⟨x0, x1, x2, x3, xf, xl⟩ := BV.four
    obtain ⟨ga0, ga1, ga2, ga3, ga4, ga5, ga6, ga7, ga8, gaf, gal⟩ := BG.nine
    go_wp2_with fail
    clear x0 x1 x2 x3 xf xl
    clear ga0 ga1 ga2 ga3 ga4 ga5 ga6 ga7 ga8 gaf gal
    generalize ((w.alloc (.cells #[.int .i64 p, .int .i64 c, .int .i64 h, .int .i64 s] 32)).alloc (.cells #[.slice a1 n1 c1, .slice a2 n2 c2, .int .i64 pl, .int .i64 ra, .int .i64 rb, .int .i64 ph, .int .i64 wi, .int .i64 re, .int .i64 tu] 70)) = v0 at *
    obtain ⟨q0_BV, q1_BV, q2_BV, q3_BV, qf_BV, ql_BV⟩ := BV.four
    obtain ⟨q0_BG, q1_BG, q2_BG, q3_BG, q4_BG, q5_BG, q6_BG, q7_BG, q8_BG, qf_BG, ql_BG⟩ := BG.nine
    go_wp2_with fail
    clear q0_BV q1_BV q2_BV q3_BV qf_BV ql_BV
    clear q0_BG q1_BG q2_BG q3_BG q4_BG q5_BG q6_BG q7_BG q8_BG qf_BG ql_BG
    refine (HG.out _).mono ?_
    rintro e w1 ⟨rfl, hb1⟩
    replace BV := BV.below hb1
    replace BG := BG.below hb1
    replace r1 := r1.below hb1
    replace r2 := r2.below hb1
    have hz1 := hb1.size
    replace hb := chain hb hb1
    clear hb1
    obtain ⟨q0_BV, q1_BV, q2_BV, q3_BV, qf_BV, ql_BV⟩ := BV.four
    obtain ⟨q0_BG, q1_BG, q2_BG, q3_BG, q4_BG, q5_BG, q6_BG, q7_BG, q8_BG, qf_BG, ql_BG⟩ := BG.nine
    go_wp2_with fail
    go_ret
    exact ⟨rfl, hb⟩
  | true =>
    rw [Bool.true_and]
    cases B with
    | false =>
      rw [Bool.false_and]
      go_enter Try.func92, Try.ntmps92
      obtain ⟨x0, x1, x2, x3, xf, xl⟩ := BV.four
      obtain ⟨ga0, ga1, ga2, ga3, ga4, ga5, ga6, ga7, ga8, gaf, gal⟩ := BG.nine
      go_wp2_with fail
      clear x0 x1 x2 x3 xf xl
      clear ga0 ga1 ga2 ga3 ga4 ga5 ga6 ga7 ga8 gaf gal
      generalize ((w.alloc (.cells #[.int .i64 p, .int .i64 c, .int .i64 h, .int .i64 s] 32)).alloc (.cells #[.slice a1 n1 c1, .slice a2 n2 c2, .int .i64 pl, .int .i64 ra, .int .i64 rb, .int .i64 ph, .int .i64 wi, .int .i64 re, .int .i64 tu] 70)) = v0 at *
      obtain ⟨q0_BV, q1_BV, q2_BV, q3_BV, qf_BV, ql_BV⟩ := BV.four
      obtain ⟨q0_BG, q1_BG, q2_BG, q3_BG, q4_BG, q5_BG, q6_BG, q7_BG, q8_BG, qf_BG, ql_BG⟩ := BG.nine
      go_wp2_with fail
      clear q0_BV q1_BV q2_BV q3_BV qf_BV ql_BV
      clear q0_BG q1_BG q2_BG q3_BG q4_BG q5_BG q6_BG q7_BG q8_BG qf_BG ql_BG
      refine (HG.out _).mono ?_
      rintro e w1 ⟨rfl, hb1⟩
      replace BV := BV.below hb1
      replace BG := BG.below hb1
      replace r1 := r1.below hb1
      replace r2 := r2.below hb1
      have hz1 := hb1.size
      replace hb := chain hb hb1
      clear hb1
      obtain ⟨q0_BV, q1_BV, q2_BV, q3_BV, qf_BV, ql_BV⟩ := BV.four
      obtain ⟨q0_BG, q1_BG, q2_BG, q3_BG, q4_BG, q5_BG, q6_BG, q7_BG, q8_BG, qf_BG, ql_BG⟩ := BG.nine
      go_wp2_with fail
      clear q0_BV q1_BV q2_BV q3_BV qf_BV ql_BV
      clear q0_BG q1_BG q2_BG q3_BG q4_BG q5_BG q6_BG q7_BG q8_BG qf_BG ql_BG
      refine (HI.out _ r1 r2).mono ?_
      rintro e w2 ⟨rfl, hb2⟩
      replace BV := BV.below hb2
      replace BG := BG.below hb2
      replace r1 := r1.below hb2
      replace r2 := r2.below hb2
      have hz2 := hb2.size
      replace hb := chain hb hb2
      clear hb2
      obtain ⟨q0_BV, q1_BV, q2_BV, q3_BV, qf_BV, ql_BV⟩ := BV.four
      obtain ⟨q0_BG, q1_BG, q2_BG, q3_BG, q4_BG, q5_BG, q6_BG, q7_BG, q8_BG, qf_BG, ql_BG⟩ := BG.nine
      go_wp2_with fail
      go_ret
      exact ⟨rfl, hb⟩
    | true =>
      rw [Bool.true_and]
      by_cases p0 : pl = 0
      · have f0 : (pl == 0) = true := by rw [beq_iff_eq]; exact p0
        rw [f0]
        have hpl : 0 ≤ pl ∧ pl ≤ 1 := by omega
        have HPL := Lib.hid hpl
        clear hpl p0
        by_cases t0 : 0 ≤ tu
        · have f_t0 : decide (0 ≤ tu) = true := by simpa using t0
          rw [f_t0]
          by_cases t1 : tu ≤ 2000
          · have f_t1 : decide (tu ≤ 2000) = true := by simpa using t1
            rw [f_t1]
            simp only [Bool.false_and, Bool.true_and, Bool.or_false, Bool.or_true, Bool.false_or, Bool.true_or]
            go_enter Try.func92, Try.ntmps92
            obtain ⟨x0, x1, x2, x3, xf, xl⟩ := BV.four
            obtain ⟨ga0, ga1, ga2, ga3, ga4, ga5, ga6, ga7, ga8, gaf, gal⟩ := BG.nine
            go_wp2_with fail
            clear x0 x1 x2 x3 xf xl
            clear ga0 ga1 ga2 ga3 ga4 ga5 ga6 ga7 ga8 gaf gal
            generalize ((w.alloc (.cells #[.int .i64 p, .int .i64 c, .int .i64 h, .int .i64 s] 32)).alloc (.cells #[.slice a1 n1 c1, .slice a2 n2 c2, .int .i64 pl, .int .i64 ra, .int .i64 rb, .int .i64 ph, .int .i64 wi, .int .i64 re, .int .i64 tu] 70)) = v0 at *
            obtain ⟨q0_BV, q1_BV, q2_BV, q3_BV, qf_BV, ql_BV⟩ := BV.four
            obtain ⟨q0_BG, q1_BG, q2_BG, q3_BG, q4_BG, q5_BG, q6_BG, q7_BG, q8_BG, qf_BG, ql_BG⟩ := BG.nine
            go_wp2_with fail
            clear q0_BV q1_BV q2_BV q3_BV qf_BV ql_BV
            clear q0_BG q1_BG q2_BG q3_BG q4_BG q5_BG q6_BG q7_BG q8_BG qf_BG ql_BG
            refine (HG.out _).mono ?_
            rintro e w1 ⟨rfl, hb1⟩
            replace BV := BV.below hb1
            replace BG := BG.below hb1
            replace r1 := r1.below hb1
            replace r2 := r2.below hb1
            have hz1 := hb1.size
            replace hb := chain hb hb1
            clear hb1
            obtain ⟨q0_BV, q1_BV, q2_BV, q3_BV, qf_BV, ql_BV⟩ := BV.four
            obtain ⟨q0_BG, q1_BG, q2_BG, q3_BG, q4_BG, q5_BG, q6_BG, q7_BG, q8_BG, qf_BG, ql_BG⟩ := BG.nine
            go_wp2_with fail
            clear q0_BV q1_BV q2_BV q3_BV qf_BV ql_BV
            clear q0_BG q1_BG q2_BG q3_BG q4_BG q5_BG q6_BG q7_BG q8_BG qf_BG ql_BG
            refine (HI.out _ r1 r2).mono ?_
            rintro e w2 ⟨rfl, hb2⟩
            replace BV := BV.below hb2
            replace BG := BG.below hb2
            replace r1 := r1.below hb2
            replace r2 := r2.below hb2
            have hz2 := hb2.size
            replace hb := chain hb hb2
            clear hb2
            obtain ⟨q0_BV, q1_BV, q2_BV, q3_BV, qf_BV, ql_BV⟩ := BV.four
            obtain ⟨q0_BG, q1_BG, q2_BG, q3_BG, q4_BG, q5_BG, q6_BG, q7_BG, q8_BG, qf_BG, ql_BG⟩ := BG.nine
            go_wp2_with fail
            clear q0_BV q1_BV q2_BV q3_BV qf_BV ql_BV
            clear q0_BG q1_BG q2_BG q3_BG q4_BG q5_BG q6_BG q7_BG q8_BG qf_BG ql_BG
            refine (HF.out (by simp) (by simp) HPL.out _ r1 r2).mono ?_
            rintro e w3 ⟨rfl, hb3⟩
            replace BV := BV.below hb3
            replace BG := BG.below hb3
            replace r1 := r1.below hb3
            replace r2 := r2.below hb3
            have hz3 := hb3.size
            replace hb := chain hb hb3
            clear hb3
            obtain ⟨q0_BV, q1_BV, q2_BV, q3_BV, qf_BV, ql_BV⟩ := BV.four
            obtain ⟨q0_BG, q1_BG, q2_BG, q3_BG, q4_BG, q5_BG, q6_BG, q7_BG, q8_BG, qf_BG, ql_BG⟩ := BG.nine
            go_wp2_with fail
            go_ret
            exact ⟨rfl, hb⟩
          · have f_t1 : decide (tu ≤ 2000) = false := by simpa using t1
            rw [f_t1]
            simp only [Bool.false_and, Bool.true_and, Bool.or_false, Bool.or_true, Bool.false_or, Bool.true_or]
            go_enter Try.func92, Try.ntmps92
            obtain ⟨x0, x1, x2, x3, xf, xl⟩ := BV.four
            obtain ⟨ga0, ga1, ga2, ga3, ga4, ga5, ga6, ga7, ga8, gaf, gal⟩ := BG.nine
            go_wp2_with fail
            clear x0 x1 x2 x3 xf xl
            clear ga0 ga1 ga2 ga3 ga4 ga5 ga6 ga7 ga8 gaf gal
            generalize ((w.alloc (.cells #[.int .i64 p, .int .i64 c, .int .i64 h, .int .i64 s] 32)).alloc (.cells #[.slice a1 n1 c1, .slice a2 n2 c2, .int .i64 pl, .int .i64 ra, .int .i64 rb, .int .i64 ph, .int .i64 wi, .int .i64 re, .int .i64 tu] 70)) = v0 at *
            obtain ⟨q0_BV, q1_BV, q2_BV, q3_BV, qf_BV, ql_BV⟩ := BV.four
            obtain ⟨q0_BG, q1_BG, q2_BG, q3_BG, q4_BG, q5_BG, q6_BG, q7_BG, q8_BG, qf_BG, ql_BG⟩ := BG.nine
            go_wp2_with fail
            clear q0_BV q1_BV q2_BV q3_BV qf_BV ql_BV
            clear q0_BG q1_BG q2_BG q3_BG q4_BG q5_BG q6_BG q7_BG q8_BG qf_BG ql_BG
            refine (HG.out _).mono ?_
            rintro e w1 ⟨rfl, hb1⟩
            replace BV := BV.below hb1
            replace BG := BG.below hb1
            replace r1 := r1.below hb1
            replace r2 := r2.below hb1
            have hz1 := hb1.size
            replace hb := chain hb hb1
            clear hb1
            obtain ⟨q0_BV, q1_BV, q2_BV, q3_BV, qf_BV, ql_BV⟩ := BV.four
            obtain ⟨q0_BG, q1_BG, q2_BG, q3_BG, q4_BG, q5_BG, q6_BG, q7_BG, q8_BG, qf_BG, ql_BG⟩ := BG.nine
            go_wp2_with fail
            clear q0_BV q1_BV q2_BV q3_BV qf_BV ql_BV
            clear q0_BG q1_BG q2_BG q3_BG q4_BG q5_BG q6_BG q7_BG q8_BG qf_BG ql_BG
            refine (HI.out _ r1 r2).mono ?_
            rintro e w2 ⟨rfl, hb2⟩
            replace BV := BV.below hb2
            replace BG := BG.below hb2
            replace r1 := r1.below hb2
            replace r2 := r2.below hb2
            have hz2 := hb2.size
            replace hb := chain hb hb2
            clear hb2
            obtain ⟨q0_BV, q1_BV, q2_BV, q3_BV, qf_BV, ql_BV⟩ := BV.four
            obtain ⟨q0_BG, q1_BG, q2_BG, q3_BG, q4_BG, q5_BG, q6_BG, q7_BG, q8_BG, qf_BG, ql_BG⟩ := BG.nine
            go_wp2_with fail
            go_ret
            exact ⟨rfl, hb⟩
        · have f_t0 : decide (0 ≤ tu) = false := by simpa using t0
          rw [f_t0]
          simp only [Bool.false_and, Bool.true_and, Bool.or_false, Bool.or_true, Bool.false_or, Bool.true_or]
          go_enter Try.func92, Try.ntmps92
          obtain ⟨x0, x1, x2, x3, xf, xl⟩ := BV.four
          obtain ⟨ga0, ga1, ga2, ga3, ga4, ga5, ga6, ga7, ga8, gaf, gal⟩ := BG.nine
          go_wp2_with fail
          clear x0 x1 x2 x3 xf xl
          clear ga0 ga1 ga2 ga3 ga4 ga5 ga6 ga7 ga8 gaf gal
          generalize ((w.alloc (.cells #[.int .i64 p, .int .i64 c, .int .i64 h, .int .i64 s] 32)).alloc (.cells #[.slice a1 n1 c1, .slice a2 n2 c2, .int .i64 pl, .int .i64 ra, .int .i64 rb, .int .i64 ph, .int .i64 wi, .int .i64 re, .int .i64 tu] 70)) = v0 at *
          obtain ⟨q0_BV, q1_BV, q2_BV, q3_BV, qf_BV, ql_BV⟩ := BV.four
          obtain ⟨q0_BG, q1_BG, q2_BG, q3_BG, q4_BG, q5_BG, q6_BG, q7_BG, q8_BG, qf_BG, ql_BG⟩ := BG.nine
          go_wp2_with fail
          clear q0_BV q1_BV q2_BV q3_BV qf_BV ql_BV
          clear q0_BG q1_BG q2_BG q3_BG q4_BG q5_BG q6_BG q7_BG q8_BG qf_BG ql_BG
          refine (HG.out _).mono ?_
          rintro e w1 ⟨rfl, hb1⟩
          replace BV := BV.below hb1
          replace BG := BG.below hb1
          replace r1 := r1.below hb1
          replace r2 := r2.below hb1
          have hz1 := hb1.size
          replace hb := chain hb hb1
          clear hb1
          obtain ⟨q0_BV, q1_BV, q2_BV, q3_BV, qf_BV, ql_BV⟩ := BV.four
          obtain ⟨q0_BG, q1_BG, q2_BG, q3_BG, q4_BG, q5_BG, q6_BG, q7_BG, q8_BG, qf_BG, ql_BG⟩ := BG.nine
          go_wp2_with fail
          clear q0_BV q1_BV q2_BV q3_BV qf_BV ql_BV
          clear q0_BG q1_BG q2_BG q3_BG q4_BG q5_BG q6_BG q7_BG q8_BG qf_BG ql_BG
          refine (HI.out _ r1 r2).mono ?_
          rintro e w2 ⟨rfl, hb2⟩
          replace BV := BV.below hb2
          replace BG := BG.below hb2
          replace r1 := r1.below hb2
          replace r2 := r2.below hb2
          have hz2 := hb2.size
          replace hb := chain hb hb2
          clear hb2
          obtain ⟨q0_BV, q1_BV, q2_BV, q3_BV, qf_BV, ql_BV⟩ := BV.four
          obtain ⟨q0_BG, q1_BG, q2_BG, q3_BG, q4_BG, q5_BG, q6_BG, q7_BG, q8_BG, qf_BG, ql_BG⟩ := BG.nine
          go_wp2_with fail
          go_ret
          exact ⟨rfl, hb⟩
      · have f0 : (pl == 0) = false := by rw [beq_eq_false_iff_ne]; exact p0
        rw [f0]
        clear p0
        by_cases p0 : pl = 1
        · have f1 : (pl == 1) = true := by rw [beq_iff_eq]; exact p0
          rw [f1]
          have hpl : 0 ≤ pl ∧ pl ≤ 1 := by omega
          have HPL := Lib.hid hpl
          clear hpl p0
          by_cases t0 : 0 ≤ tu
          · have f_t0 : decide (0 ≤ tu) = true := by simpa using t0
            rw [f_t0]
            by_cases t1 : tu ≤ 2000
            · have f_t1 : decide (tu ≤ 2000) = true := by simpa using t1
              rw [f_t1]
              simp only [Bool.false_and, Bool.true_and, Bool.or_false, Bool.or_true, Bool.false_or, Bool.true_or]
              go_enter Try.func92, Try.ntmps92
              obtain ⟨x0, x1, x2, x3, xf, xl⟩ := BV.four
              obtain ⟨ga0, ga1, ga2, ga3, ga4, ga5, ga6, ga7, ga8, gaf, gal⟩ := BG.nine
              go_wp2_with fail
              clear x0 x1 x2 x3 xf xl
              clear ga0 ga1 ga2 ga3 ga4 ga5 ga6 ga7 ga8 gaf gal
              generalize ((w.alloc (.cells #[.int .i64 p, .int .i64 c, .int .i64 h, .int .i64 s] 32)).alloc (.cells #[.slice a1 n1 c1, .slice a2 n2 c2, .int .i64 pl, .int .i64 ra, .int .i64 rb, .int .i64 ph, .int .i64 wi, .int .i64 re, .int .i64 tu] 70)) = v0 at *
              obtain ⟨q0_BV, q1_BV, q2_BV, q3_BV, qf_BV, ql_BV⟩ := BV.four
              obtain ⟨q0_BG, q1_BG, q2_BG, q3_BG, q4_BG, q5_BG, q6_BG, q7_BG, q8_BG, qf_BG, ql_BG⟩ := BG.nine
              go_wp2_with fail
              clear q0_BV q1_BV q2_BV q3_BV qf_BV ql_BV
              clear q0_BG q1_BG q2_BG q3_BG q4_BG q5_BG q6_BG q7_BG q8_BG qf_BG ql_BG
              refine (HG.out _).mono ?_
              rintro e w1 ⟨rfl, hb1⟩
              replace BV := BV.below hb1
              replace BG := BG.below hb1
              replace r1 := r1.below hb1
              replace r2 := r2.below hb1
              have hz1 := hb1.size
              replace hb := chain hb hb1
              clear hb1
              obtain ⟨q0_BV, q1_BV, q2_BV, q3_BV, qf_BV, ql_BV⟩ := BV.four
              obtain ⟨q0_BG, q1_BG, q2_BG, q3_BG, q4_BG, q5_BG, q6_BG, q7_BG, q8_BG, qf_BG, ql_BG⟩ := BG.nine
              go_wp2_with fail
              clear q0_BV q1_BV q2_BV q3_BV qf_BV ql_BV
              clear q0_BG q1_BG q2_BG q3_BG q4_BG q5_BG q6_BG q7_BG q8_BG qf_BG ql_BG
              refine (HI.out _ r1 r2).mono ?_
              rintro e w2 ⟨rfl, hb2⟩
              replace BV := BV.below hb2
              replace BG := BG.below hb2
              replace r1 := r1.below hb2
              replace r2 := r2.below hb2
              have hz2 := hb2.size
              replace hb := chain hb hb2
              clear hb2
              obtain ⟨q0_BV, q1_BV, q2_BV, q3_BV, qf_BV, ql_BV⟩ := BV.four
              obtain ⟨q0_BG, q1_BG, q2_BG, q3_BG, q4_BG, q5_BG, q6_BG, q7_BG, q8_BG, qf_BG, ql_BG⟩ := BG.nine
              go_wp2_with fail
              clear q0_BV q1_BV q2_BV q3_BV qf_BV ql_BV
              clear q0_BG q1_BG q2_BG q3_BG q4_BG q5_BG q6_BG q7_BG q8_BG qf_BG ql_BG
              refine (HF.out (by simp) (by simp) HPL.out _ r1 r2).mono ?_
              rintro e w3 ⟨rfl, hb3⟩
              replace BV := BV.below hb3
              replace BG := BG.below hb3
              replace r1 := r1.below hb3
              replace r2 := r2.below hb3
              have hz3 := hb3.size
              replace hb := chain hb hb3
              clear hb3
              obtain ⟨q0_BV, q1_BV, q2_BV, q3_BV, qf_BV, ql_BV⟩ := BV.four
              obtain ⟨q0_BG, q1_BG, q2_BG, q3_BG, q4_BG, q5_BG, q6_BG, q7_BG, q8_BG, qf_BG, ql_BG⟩ := BG.nine
              go_wp2_with fail
              go_ret
              exact ⟨rfl, hb⟩
            · have f_t1 : decide (tu ≤ 2000) = false := by simpa using t1
              rw [f_t1]
              simp only [Bool.false_and, Bool.true_and, Bool.or_false, Bool.or_true, Bool.false_or, Bool.true_or]
              go_enter Try.func92, Try.ntmps92
              obtain ⟨x0, x1, x2, x3, xf, xl⟩ := BV.four
              obtain ⟨ga0, ga1, ga2, ga3, ga4, ga5, ga6, ga7, ga8, gaf, gal⟩ := BG.nine
              go_wp2_with fail
              clear x0 x1 x2 x3 xf xl
              clear ga0 ga1 ga2 ga3 ga4 ga5 ga6 ga7 ga8 gaf gal
              generalize ((w.alloc (.cells #[.int .i64 p, .int .i64 c, .int .i64 h, .int .i64 s] 32)).alloc (.cells #[.slice a1 n1 c1, .slice a2 n2 c2, .int .i64 pl, .int .i64 ra, .int .i64 rb, .int .i64 ph, .int .i64 wi, .int .i64 re, .int .i64 tu] 70)) = v0 at *
              obtain ⟨q0_BV, q1_BV, q2_BV, q3_BV, qf_BV, ql_BV⟩ := BV.four
              obtain ⟨q0_BG, q1_BG, q2_BG, q3_BG, q4_BG, q5_BG, q6_BG, q7_BG, q8_BG, qf_BG, ql_BG⟩ := BG.nine
              go_wp2_with fail
              clear q0_BV q1_BV q2_BV q3_BV qf_BV ql_BV
              clear q0_BG q1_BG q2_BG q3_BG q4_BG q5_BG q6_BG q7_BG q8_BG qf_BG ql_BG
              refine (HG.out _).mono ?_
              rintro e w1 ⟨rfl, hb1⟩
              replace BV := BV.below hb1
              replace BG := BG.below hb1
              replace r1 := r1.below hb1
              replace r2 := r2.below hb1
              have hz1 := hb1.size
              replace hb := chain hb hb1
              clear hb1
              obtain ⟨q0_BV, q1_BV, q2_BV, q3_BV, qf_BV, ql_BV⟩ := BV.four
              obtain ⟨q0_BG, q1_BG, q2_BG, q3_BG, q4_BG, q5_BG, q6_BG, q7_BG, q8_BG, qf_BG, ql_BG⟩ := BG.nine
              go_wp2_with fail
              clear q0_BV q1_BV q2_BV q3_BV qf_BV ql_BV
              clear q0_BG q1_BG q2_BG q3_BG q4_BG q5_BG q6_BG q7_BG q8_BG qf_BG ql_BG
              refine (HI.out _ r1 r2).mono ?_
              rintro e w2 ⟨rfl, hb2⟩
              replace BV := BV.below hb2
              replace BG := BG.below hb2
              replace r1 := r1.below hb2
              replace r2 := r2.below hb2
              have hz2 := hb2.size
              replace hb := chain hb hb2
              clear hb2
              obtain ⟨q0_BV, q1_BV, q2_BV, q3_BV, qf_BV, ql_BV⟩ := BV.four
              obtain ⟨q0_BG, q1_BG, q2_BG, q3_BG, q4_BG, q5_BG, q6_BG, q7_BG, q8_BG, qf_BG, ql_BG⟩ := BG.nine
              go_wp2_with fail
              go_ret
              exact ⟨rfl, hb⟩
          · have f_t0 : decide (0 ≤ tu) = false := by simpa using t0
            rw [f_t0]
            simp only [Bool.false_and, Bool.true_and, Bool.or_false, Bool.or_true, Bool.false_or, Bool.true_or]
            go_enter Try.func92, Try.ntmps92
            obtain ⟨x0, x1, x2, x3, xf, xl⟩ := BV.four
            obtain ⟨ga0, ga1, ga2, ga3, ga4, ga5, ga6, ga7, ga8, gaf, gal⟩ := BG.nine
            go_wp2_with fail
            clear x0 x1 x2 x3 xf xl
            clear ga0 ga1 ga2 ga3 ga4 ga5 ga6 ga7 ga8 gaf gal
            generalize ((w.alloc (.cells #[.int .i64 p, .int .i64 c, .int .i64 h, .int .i64 s] 32)).alloc (.cells #[.slice a1 n1 c1, .slice a2 n2 c2, .int .i64 pl, .int .i64 ra, .int .i64 rb, .int .i64 ph, .int .i64 wi, .int .i64 re, .int .i64 tu] 70)) = v0 at *
            obtain ⟨q0_BV, q1_BV, q2_BV, q3_BV, qf_BV, ql_BV⟩ := BV.four
            obtain ⟨q0_BG, q1_BG, q2_BG, q3_BG, q4_BG, q5_BG, q6_BG, q7_BG, q8_BG, qf_BG, ql_BG⟩ := BG.nine
            go_wp2_with fail
            clear q0_BV q1_BV q2_BV q3_BV qf_BV ql_BV
            clear q0_BG q1_BG q2_BG q3_BG q4_BG q5_BG q6_BG q7_BG q8_BG qf_BG ql_BG
            refine (HG.out _).mono ?_
            rintro e w1 ⟨rfl, hb1⟩
            replace BV := BV.below hb1
            replace BG := BG.below hb1
            replace r1 := r1.below hb1
            replace r2 := r2.below hb1
            have hz1 := hb1.size
            replace hb := chain hb hb1
            clear hb1
            obtain ⟨q0_BV, q1_BV, q2_BV, q3_BV, qf_BV, ql_BV⟩ := BV.four
            obtain ⟨q0_BG, q1_BG, q2_BG, q3_BG, q4_BG, q5_BG, q6_BG, q7_BG, q8_BG, qf_BG, ql_BG⟩ := BG.nine
            go_wp2_with fail
            clear q0_BV q1_BV q2_BV q3_BV qf_BV ql_BV
            clear q0_BG q1_BG q2_BG q3_BG q4_BG q5_BG q6_BG q7_BG q8_BG qf_BG ql_BG
            refine (HI.out _ r1 r2).mono ?_
            rintro e w2 ⟨rfl, hb2⟩
            replace BV := BV.below hb2
            replace BG := BG.below hb2
            replace r1 := r1.below hb2
            replace r2 := r2.below hb2
            have hz2 := hb2.size
            replace hb := chain hb hb2
            clear hb2
            obtain ⟨q0_BV, q1_BV, q2_BV, q3_BV, qf_BV, ql_BV⟩ := BV.four
            obtain ⟨q0_BG, q1_BG, q2_BG, q3_BG, q4_BG, q5_BG, q6_BG, q7_BG, q8_BG, qf_BG, ql_BG⟩ := BG.nine
            go_wp2_with fail
            go_ret
            exact ⟨rfl, hb⟩
        · have f1 : (pl == 1) = false := by rw [beq_eq_false_iff_ne]; exact p0
          rw [f1]
          clear p0
          simp only [Bool.false_and, Bool.true_and, Bool.or_false, Bool.or_true, Bool.false_or, Bool.true_or]
          go_enter Try.func92, Try.ntmps92
          obtain ⟨x0, x1, x2, x3, xf, xl⟩ := BV.four
          obtain ⟨ga0, ga1, ga2, ga3, ga4, ga5, ga6, ga7, ga8, gaf, gal⟩ := BG.nine
          go_wp2_with fail
          clear x0 x1 x2 x3 xf xl
          clear ga0 ga1 ga2 ga3 ga4 ga5 ga6 ga7 ga8 gaf gal
          generalize ((w.alloc (.cells #[.int .i64 p, .int .i64 c, .int .i64 h, .int .i64 s] 32)).alloc (.cells #[.slice a1 n1 c1, .slice a2 n2 c2, .int .i64 pl, .int .i64 ra, .int .i64 rb, .int .i64 ph, .int .i64 wi, .int .i64 re, .int .i64 tu] 70)) = v0 at *
          obtain ⟨q0_BV, q1_BV, q2_BV, q3_BV, qf_BV, ql_BV⟩ := BV.four
          obtain ⟨q0_BG, q1_BG, q2_BG, q3_BG, q4_BG, q5_BG, q6_BG, q7_BG, q8_BG, qf_BG, ql_BG⟩ := BG.nine
          go_wp2_with fail
          clear q0_BV q1_BV q2_BV q3_BV qf_BV ql_BV
          clear q0_BG q1_BG q2_BG q3_BG q4_BG q5_BG q6_BG q7_BG q8_BG qf_BG ql_BG
          refine (HG.out _).mono ?_
          rintro e w1 ⟨rfl, hb1⟩
          replace BV := BV.below hb1
          replace BG := BG.below hb1
          replace r1 := r1.below hb1
          replace r2 := r2.below hb1
          have hz1 := hb1.size
          replace hb := chain hb hb1
          clear hb1
          obtain ⟨q0_BV, q1_BV, q2_BV, q3_BV, qf_BV, ql_BV⟩ := BV.four
          obtain ⟨q0_BG, q1_BG, q2_BG, q3_BG, q4_BG, q5_BG, q6_BG, q7_BG, q8_BG, qf_BG, ql_BG⟩ := BG.nine
          go_wp2_with fail
          clear q0_BV q1_BV q2_BV q3_BV qf_BV ql_BV
          clear q0_BG q1_BG q2_BG q3_BG q4_BG q5_BG q6_BG q7_BG q8_BG qf_BG ql_BG
          refine (HI.out _ r1 r2).mono ?_
          rintro e w2 ⟨rfl, hb2⟩
          replace BV := BV.below hb2
          replace BG := BG.below hb2
          replace r1 := r1.below hb2
          replace r2 := r2.below hb2
          have hz2 := hb2.size
          replace hb := chain hb hb2
          clear hb2
          obtain ⟨q0_BV, q1_BV, q2_BV, q3_BV, qf_BV, ql_BV⟩ := BV.four
          obtain ⟨q0_BG, q1_BG, q2_BG, q3_BG, q4_BG, q5_BG, q6_BG, q7_BG, q8_BG, qf_BG, ql_BG⟩ := BG.nine
          go_wp2_with fail
          go_ret
          exact ⟨rfl, hb⟩
theorem isGame_any (p c h s : Int) (a1 a2 : Option Addr) (n1 n2 c1 c2 : Nat) (xs ys : List Int) (w : World) (h1 : xs.length = n1) (h2 : ys.length = n2) (l1 : n1 ≤ 1048576) (l2 : n2 ≤ 1048576) (r1 : IRow w a1 xs) (r2 : IRow w a2 ys) (pl ra rb ph wi re tu : Int) :
    Calls Try.prog 49 #[.agg #[.int .i64 p, .int .i64 c, .int .i64 h, .int .i64 s], .agg #[.slice a1 n1 c1, .slice a2 n2 c2, .int .i64 pl, .int .i64 ra, .int .i64 rb, .int .i64 ph, .int .i64 wi, .int .i64 re, .int .i64 tu]] w fun e w' => e = .returned (.bool (gmB p c h s xs ys pl ra rb ph wi re tu)) ∧ Below w.heap.size w w' := by
  obtain ⟨BV, BG, hb, hz⟩ := two_new' w #[.int .i64 p, .int .i64 c, .int .i64 h, .int .i64 s] #[.slice a1 n1 c1, .slice a2 n2 c2, .int .i64 pl, .int .i64 ra, .int .i64 rb, .int .i64 ph, .int .i64 wi, .int .i64 re, .int .i64 tu] 32 70
  have hr1 := r1.below hb
  have hr2 := r2.below hb
  clear r1 r2
  have r1 := hr1
  have r2 := hr2
  clear hr1 hr2
  go_enter Try.func49, Try.ntmps49
  obtain ⟨x0, x1, x2, x3, xf, xl⟩ := BV.four
  obtain ⟨ga0, ga1, ga2, ga3, ga4, ga5, ga6, ga7, ga8, gaf, gal⟩ := BG.nine
  go_wp2_with fail
  clear x0 x1 x2 x3 xf xl
  clear ga0 ga1 ga2 ga3 ga4 ga5 ga6 ga7 ga8 gaf gal
  generalize ((w.alloc (.cells #[.int .i64 p, .int .i64 c, .int .i64 h, .int .i64 s] 32)).alloc (.cells #[.slice a1 n1 c1, .slice a2 n2 c2, .int .i64 pl, .int .i64 ra, .int .i64 rb, .int .i64 ph, .int .i64 wi, .int .i64 re, .int .i64 tu] 70)) = v0 at *
  obtain ⟨q0_BV, q1_BV, q2_BV, q3_BV, qf_BV, ql_BV⟩ := BV.four
  obtain ⟨q0_BG, q1_BG, q2_BG, q3_BG, q4_BG, q5_BG, q6_BG, q7_BG, q8_BG, qf_BG, ql_BG⟩ := BG.nine
  go_wp2_with fail
  clear q0_BV q1_BV q2_BV q3_BV qf_BV ql_BV
  clear q0_BG q1_BG q2_BG q3_BG q4_BG q5_BG q6_BG q7_BG q8_BG qf_BG ql_BG
  refine (hasGame_any p c h s a1 a2 n1 n2 c1 c2 xs ys _ h1 h2 l1 l2 r1 r2 pl ra rb ph wi re tu).mono ?_
  rintro e w1 ⟨rfl, hb1⟩
  replace BV := BV.below hb1
  replace BG := BG.below hb1
  replace r1 := r1.below hb1
  replace r2 := r2.below hb1
  have hz1 := hb1.size
  replace hb := chain hb hb1
  clear hb1
  obtain ⟨q0_BV, q1_BV, q2_BV, q3_BV, qf_BV, ql_BV⟩ := BV.four
  obtain ⟨q0_BG, q1_BG, q2_BG, q3_BG, q4_BG, q5_BG, q6_BG, q7_BG, q8_BG, qf_BG, ql_BG⟩ := BG.nine
  go_wp2_with fail
  go_ret
  exact ⟨rfl, hb⟩
/-- The code for a new game. -/
def ngC (p c h s : Int) : Int := if vB p c h s = true then (if hgB p c h s = true then 0 else 2) else 1
end Go.Proofs.Ytokjkcnjmfbfiaa
