/- Contracts of the program on valid games, new games and phases. -/
import Derived.Test.Ythfmackfkdbhhaa08e
namespace Go.Proofs.Ythfmackfkdbhhaa
open Go.ChangeShapes Go.WideShapes Go.ChangeAt Go.RowKit
set_option linter.unusedVariables false
set_option linter.unusedSimpArgs false

/-- A game is valid. -/
def gmB (p c h s : Int) (xs ys : List Int) (pl ra rb ph wi re tu : Int) : Bool :=
  hgB p c h s && (isB p c h s xs ys && (((pl == 0) || (pl == 1)) && (decide (0 ≤ tu) && (decide (tu ≤ 2000) && phB p c h s xs ys pl ra rb ph wi re tu))))
set_option maxRecDepth 8000 in
set_option maxHeartbeats 2000000 in
theorem hasGame_any (p c h s : Int) (a1 a2 : Option Addr) (n1 n2 c1 c2 : Nat) (xs ys : List Int) (w : World) (h1 : xs.length = n1) (h2 : ys.length = n2) (l1 : n1 ≤ 1048576) (l2 : n2 ≤ 1048576) (r1 : IRow w a1 xs) (r2 : IRow w a2 ys) (pl ra rb ph wi re tu : Int) :
    Calls Try.prog 38 #[.agg #[.int .i64 p, .int .i64 c, .int .i64 h, .int .i64 s], .agg #[.slice a1 n1 c1, .slice a2 n2 c2, .int .i64 pl, .int .i64 ra, .int .i64 rb, .int .i64 ph, .int .i64 wi, .int .i64 re, .int .i64 tu]] w fun e w' => e = .returned (.bool (gmB p c h s xs ys pl ra rb ph wi re tu)) ∧ Below w.heap.size w w' := by
  have hG := fun (W : World) => hasGames_any p c h s W
  have hI := fun (W : World) (r1 : IRow W a1 xs) (r2 : IRow W a2 ys) => isBoard_any p c h s a1 a2 n1 n2 c1 c2 xs ys W h1 h2 l1 l2 r1 r2
  have hF := fun (g : isB p c h s xs ys = true) (hg : hgB p c h s = true) (hpl : 0 ≤ pl ∧ pl ≤ 1) (W : World) (r1 : IRow W a1 xs) (r2 : IRow W a2 ys) => fitsPhase_any p c h s a1 a2 n1 n2 c1 c2 xs ys W h1 h2 l1 l2 r1 r2 pl ra rb ph wi re tu g hg hpl
  unfold gmB
  obtain ⟨A, hA⟩ : ∃ q, hgB p c h s = q := ⟨_, rfl⟩
  obtain ⟨B, hB⟩ : ∃ q, isB p c h s xs ys = q := ⟨_, rfl⟩
  obtain ⟨D, hD⟩ : ∃ q, phB p c h s xs ys pl ra rb ph wi re tu = q := ⟨_, rfl⟩
  rw [hA] at hG hF ⊢
  rw [hB] at hI hF ⊢
  rw [hD] at hF ⊢
  have HG := Lib.hid hG
  have HI := Lib.hid hI
  have HF := Lib.hid hF
  clear hG hI hF hA hB hD
  obtain ⟨BV, BG, hb, hz⟩ := two_new' w #[.int .i64 p, .int .i64 c, .int .i64 h, .int .i64 s] #[.slice a1 n1 c1, .slice a2 n2 c2, .int .i64 pl, .int .i64 ra, .int .i64 rb, .int .i64 ph, .int .i64 wi, .int .i64 re, .int .i64 tu] 33 38
  have hr1 := r1.below hb
  have hr2 := r2.below hb
  clear r1 r2
  have r1 := hr1
  have r2 := hr2
  clear hr1 hr2
  cases A with
  | false =>
    rw [Bool.false_and]
    go_enter Try.func38, Try.ntmps38
    obtain ⟨x0, x1, x2, x3, xf, xl⟩ := BV.four
    obtain ⟨ga0, ga1, ga2, ga3, ga4, ga5, ga6, ga7, ga8, gaf, gal⟩ := BG.nine
    go_wp2_with fail
    clear x0 x1 x2 x3 xf xl
    clear ga0 ga1 ga2 ga3 ga4 ga5 ga6 ga7 ga8 gaf gal
    generalize ((w.alloc (.cells #[.int .i64 p, .int .i64 c, .int .i64 h, .int .i64 s] 33)).alloc (.cells #[.slice a1 n1 c1, .slice a2 n2 c2, .int .i64 pl, .int .i64 ra, .int .i64 rb, .int .i64 ph, .int .i64 wi, .int .i64 re, .int .i64 tu] 38)) = v0 at *
    obtain ⟨q0_BV, q1_BV, q2_BV, q3_BV, qf_BV, ql_BV⟩ := BV.four
    obtain ⟨q0_BG, q1_BG, q2_BG, q3_BG, q4_BG, q5_BG, q6_BG, q7_BG, q8_BG, qf_BG, ql_BG⟩ := BG.nine
    go_wp2_with fail
    clear q0_BV q1_BV q2_BV q3_BV qf_BV ql_BV
    clear q0_BG q1_BG q2_BG q3_BG q4_BG q5_BG q6_BG q7_BG q8_BG qf_BG ql_BG
    refine (HG.out _).mono ?_
    rintro e w1 ⟨rfl, hb1⟩
    replace BV := BV.below hb1
    replace BG := BG.below hb1
    replace r1 := r1.below hb1
    replace r2 := r2.below hb1
    have hz1 := hb1.size
    replace hb := chain hb hb1
    clear hb1
    obtain ⟨q0_BV, q1_BV, q2_BV, q3_BV, qf_BV, ql_BV⟩ := BV.four
    obtain ⟨q0_BG, q1_BG, q2_BG, q3_BG, q4_BG, q5_BG, q6_BG, q7_BG, q8_BG, qf_BG, ql_BG⟩ := BG.nine
    go_wp2_with fail
    go_ret
    exact ⟨rfl, hb⟩
  | true =>
    rw [Bool.true_and]
    cases B with
    | false =>
      rw [Bool.false_and]
      go_enter Try.func38, Try.ntmps38
      obtain ⟨x0, x1, x2, x3, xf, xl⟩ := BV.four
      obtain ⟨ga0, ga1, ga2, ga3, ga4, ga5, ga6, ga7, ga8, gaf, gal⟩ := BG.nine
      go_wp2_with fail
      clear x0 x1 x2 x3 xf xl
      clear ga0 ga1 ga2 ga3 ga4 ga5 ga6 ga7 ga8 gaf gal
      generalize ((w.alloc (.cells #[.int .i64 p, .int .i64 c, .int .i64 h, .int .i64 s] 33)).alloc (.cells #[.slice a1 n1 c1, .slice a2 n2 c2, .int .i64 pl, .int .i64 ra, .int .i64 rb, .int .i64 ph, .int .i64 wi, .int .i64 re, .int .i64 tu] 38)) = v0 at *
      obtain ⟨q0_BV, q1_BV, q2_BV, q3_BV, qf_BV, ql_BV⟩ := BV.four
      obtain ⟨q0_BG, q1_BG, q2_BG, q3_BG, q4_BG, q5_BG, q6_BG, q7_BG, q8_BG, qf_BG, ql_BG⟩ := BG.nine
      go_wp2_with fail
      clear q0_BV q1_BV q2_BV q3_BV qf_BV ql_BV
      clear q0_BG q1_BG q2_BG q3_BG q4_BG q5_BG q6_BG q7_BG q8_BG qf_BG ql_BG
      refine (HG.out _).mono ?_
      rintro e w1 ⟨rfl, hb1⟩
      replace BV := BV.below hb1
      replace BG := BG.below hb1
      replace r1 := r1.below hb1
      replace r2 := r2.below hb1
      have hz1 := hb1.size
      replace hb := chain hb hb1
      clear hb1
      obtain ⟨q0_BV, q1_BV, q2_BV, q3_BV, qf_BV, ql_BV⟩ := BV.four
      obtain ⟨q0_BG, q1_BG, q2_BG, q3_BG, q4_BG, q5_BG, q6_BG, q7_BG, q8_BG, qf_BG, ql_BG⟩ := BG.nine
      go_wp2_with fail
      clear q0_BV q1_BV q2_BV q3_BV qf_BV ql_BV
      clear q0_BG q1_BG q2_BG q3_BG q4_BG q5_BG q6_BG q7_BG q8_BG qf_BG ql_BG
      refine (HI.out _ r1 r2).mono ?_
      rintro e w2 ⟨rfl, hb2⟩
      replace BV := BV.below hb2
      replace BG := BG.below hb2
      replace r1 := r1.below hb2
      replace r2 := r2.below hb2
      have hz2 := hb2.size
      replace hb := chain hb hb2
      clear hb2
      obtain ⟨q0_BV, q1_BV, q2_BV, q3_BV, qf_BV, ql_BV⟩ := BV.four
      obtain ⟨q0_BG, q1_BG, q2_BG, q3_BG, q4_BG, q5_BG, q6_BG, q7_BG, q8_BG, qf_BG, ql_BG⟩ := BG.nine
      go_wp2_with fail
      go_ret
      exact ⟨rfl, hb⟩
    | true =>
      rw [Bool.true_and]
      by_cases p0 : pl = 0
      · have f0 : (pl == 0) = true := by rw [beq_iff_eq]; exact p0
        rw [f0]
        have hpl : 0 ≤ pl ∧ pl ≤ 1 := by omega
        have HPL := Lib.hid hpl
        clear hpl p0
        by_cases t0 : 0 ≤ tu
        · have f_t0 : decide (0 ≤ tu) = true := by simpa using t0
          rw [f_t0]
          by_cases t1 : tu ≤ 2000
          · have f_t1 : decide (tu ≤ 2000) = true := by simpa using t1
            rw [f_t1]
            simp only [Bool.false_and, Bool.true_and, Bool.or_false, Bool.or_true, Bool.false_or, Bool.true_or]
            go_enter Try.func38, Try.ntmps38
            obtain ⟨x0, x1, x2, x3, xf, xl⟩ := BV.four
            obtain ⟨ga0, ga1, ga2, ga3, ga4, ga5, ga6, ga7, ga8, gaf, gal⟩ := BG.nine
            go_wp2_with fail
            clear x0 x1 x2 x3 xf xl
            clear ga0 ga1 ga2 ga3 ga4 ga5 ga6 ga7 ga8 gaf gal
            generalize ((w.alloc (.cells #[.int .i64 p, .int .i64 c, .int .i64 h, .int .i64 s] 33)).alloc (.cells #[.slice a1 n1 c1, .slice a2 n2 c2, .int .i64 pl, .int .i64 ra, .int .i64 rb, .int .i64 ph, .int .i64 wi, .int .i64 re, .int .i64 tu] 38)) = v0 at *
            obtain ⟨q0_BV, q1_BV, q2_BV, q3_BV, qf_BV, ql_BV⟩ := BV.four
            obtain ⟨q0_BG, q1_BG, q2_BG, q3_BG, q4_BG, q5_BG, q6_BG, q7_BG, q8_BG, qf_BG, ql_BG⟩ := BG.nine
            go_wp2_with fail
            clear q0_BV q1_BV q2_BV q3_BV qf_BV ql_BV
            clear q0_BG q1_BG q2_BG q3_BG q4_BG q5_BG q6_BG q7_BG q8_BG qf_BG ql_BG
            refine (HG.out _).mono ?_
            rintro e w1 ⟨rfl, hb1⟩
            replace BV := BV.below hb1
            replace BG := BG.below hb1
            replace r1 := r1.below hb1
            replace r2 := r2.below hb1
            have hz1 := hb1.size
            replace hb := chain hb hb1
            clear hb1
            obtain ⟨q0_BV, q1_BV, q2_BV, q3_BV, qf_BV, ql_BV⟩ := BV.four
            obtain ⟨q0_BG, q1_BG, q2_BG, q3_BG, q4_BG, q5_BG, q6_BG, q7_BG, q8_BG, qf_BG, ql_BG⟩ := BG.nine
            go_wp2_with fail
            clear q0_BV q1_BV q2_BV q3_BV qf_BV ql_BV
            clear q0_BG q1_BG q2_BG q3_BG q4_BG q5_BG q6_BG q7_BG q8_BG qf_BG ql_BG
            refine (HI.out _ r1 r2).mono ?_
            rintro e w2 ⟨rfl, hb2⟩
            replace BV := BV.below hb2
            replace BG := BG.below hb2
            replace r1 := r1.below hb2
            replace r2 := r2.below hb2
            have hz2 := hb2.size
            replace hb := chain hb hb2
            clear hb2
            obtain ⟨q0_BV, q1_BV, q2_BV, q3_BV, qf_BV, ql_BV⟩ := BV.four
            obtain ⟨q0_BG, q1_BG, q2_BG, q3_BG, q4_BG, q5_BG, q6_BG, q7_BG, q8_BG, qf_BG, ql_BG⟩ := BG.nine
            go_wp2_with fail
            clear q0_BV q1_BV q2_BV q3_BV qf_BV ql_BV
            clear q0_BG q1_BG q2_BG q3_BG q4_BG q5_BG q6_BG q7_BG q8_BG qf_BG ql_BG
            refine (HF.out (by simp) (by simp) HPL.out _ r1 r2).mono ?_
            rintro e w3 ⟨rfl, hb3⟩
            replace BV := BV.below hb3
            replace BG := BG.below hb3
            replace r1 := r1.below hb3
            replace r2 := r2.below hb3
            have hz3 := hb3.size
            replace hb := chain hb hb3
            clear hb3
            obtain ⟨q0_BV, q1_BV, q2_BV, q3_BV, qf_BV, ql_BV⟩ := BV.four
            obtain ⟨q0_BG, q1_BG, q2_BG, q3_BG, q4_BG, q5_BG, q6_BG, q7_BG, q8_BG, qf_BG, ql_BG⟩ := BG.nine
            go_wp2_with fail
            go_ret
            exact ⟨rfl, hb⟩
          · have f_t1 : decide (tu ≤ 2000) = false := by simpa using t1
            rw [f_t1]
            simp only [Bool.false_and, Bool.true_and, Bool.or_false, Bool.or_true, Bool.false_or, Bool.true_or]
            go_enter Try.func38, Try.ntmps38
            obtain ⟨x0, x1, x2, x3, xf, xl⟩ := BV.four
            obtain ⟨ga0, ga1, ga2, ga3, ga4, ga5, ga6, ga7, ga8, gaf, gal⟩ := BG.nine
            go_wp2_with fail
            clear x0 x1 x2 x3 xf xl
            clear ga0 ga1 ga2 ga3 ga4 ga5 ga6 ga7 ga8 gaf gal
            generalize ((w.alloc (.cells #[.int .i64 p, .int .i64 c, .int .i64 h, .int .i64 s] 33)).alloc (.cells #[.slice a1 n1 c1, .slice a2 n2 c2, .int .i64 pl, .int .i64 ra, .int .i64 rb, .int .i64 ph, .int .i64 wi, .int .i64 re, .int .i64 tu] 38)) = v0 at *
            obtain ⟨q0_BV, q1_BV, q2_BV, q3_BV, qf_BV, ql_BV⟩ := BV.four
            obtain ⟨q0_BG, q1_BG, q2_BG, q3_BG, q4_BG, q5_BG, q6_BG, q7_BG, q8_BG, qf_BG, ql_BG⟩ := BG.nine
            go_wp2_with fail
            clear q0_BV q1_BV q2_BV q3_BV qf_BV ql_BV
            clear q0_BG q1_BG q2_BG q3_BG q4_BG q5_BG q6_BG q7_BG q8_BG qf_BG ql_BG
            refine (HG.out _).mono ?_
            rintro e w1 ⟨rfl, hb1⟩
            replace BV := BV.below hb1
            replace BG := BG.below hb1
            replace r1 := r1.below hb1
            replace r2 := r2.below hb1
            have hz1 := hb1.size
            replace hb := chain hb hb1
            clear hb1
            obtain ⟨q0_BV, q1_BV, q2_BV, q3_BV, qf_BV, ql_BV⟩ := BV.four
            obtain ⟨q0_BG, q1_BG, q2_BG, q3_BG, q4_BG, q5_BG, q6_BG, q7_BG, q8_BG, qf_BG, ql_BG⟩ := BG.nine
            go_wp2_with fail
            clear q0_BV q1_BV q2_BV q3_BV qf_BV ql_BV
            clear q0_BG q1_BG q2_BG q3_BG q4_BG q5_BG q6_BG q7_BG q8_BG qf_BG ql_BG
            refine (HI.out _ r1 r2).mono ?_
            rintro e w2 ⟨rfl, hb2⟩
            replace BV := BV.below hb2
            replace BG := BG.below hb2
            replace r1 := r1.below hb2
            replace r2 := r2.below hb2
            have hz2 := hb2.size
            replace hb := chain hb hb2
            clear hb2
            obtain ⟨q0_BV, q1_BV, q2_BV, q3_BV, qf_BV, ql_BV⟩ := BV.four
            obtain ⟨q0_BG, q1_BG, q2_BG, q3_BG, q4_BG, q5_BG, q6_BG, q7_BG, q8_BG, qf_BG, ql_BG⟩ := BG.nine
            go_wp2_with fail
            go_ret
            exact ⟨rfl, hb⟩
        · have f_t0 : decide (0 ≤ tu) = false := by simpa using t0
          rw [f_t0]
          simp only [Bool.false_and, Bool.true_and, Bool.or_false, Bool.or_true, Bool.false_or, Bool.true_or]
          go_enter Try.func38, Try.ntmps38
          obtain ⟨x0, x1, x2, x3, xf, xl⟩ := BV.four
          obtain ⟨ga0, ga1, ga2, ga3, ga4, ga5, ga6, ga7, ga8, gaf, gal⟩ := BG.nine
          go_wp2_with fail
          clear x0 x1 x2 x3 xf xl
          clear ga0 ga1 ga2 ga3 ga4 ga5 ga6 ga7 ga8 gaf gal
          generalize ((w.alloc (.cells #[.int .i64 p, .int .i64 c, .int .i64 h, .int .i64 s] 33)).alloc (.cells #[.slice a1 n1 c1, .slice a2 n2 c2, .int .i64 pl, .int .i64 ra, .int .i64 rb, .int .i64 ph, .int .i64 wi, .int .i64 re, .int .i64 tu] 38)) = v0 at *
          obtain ⟨q0_BV, q1_BV, q2_BV, q3_BV, qf_BV, ql_BV⟩ := BV.four
          obtain ⟨q0_BG, q1_BG, q2_BG, q3_BG, q4_BG, q5_BG, q6_BG, q7_BG, q8_BG, qf_BG, ql_BG⟩ := BG.nine
          go_wp2_with fail
          clear q0_BV q1_BV q2_BV q3_BV qf_BV ql_BV
          clear q0_BG q1_BG q2_BG q3_BG q4_BG q5_BG q6_BG q7_BG q8_BG qf_BG ql_BG
          refine (HG.out _).mono ?_
          rintro e w1 ⟨rfl, hb1⟩
          replace BV := BV.below hb1
          replace BG := BG.below hb1
          replace r1 := r1.below hb1
          replace r2 := r2.below hb1
          have hz1 := hb1.size
          replace hb := chain hb hb1
          clear hb1
          obtain ⟨q0_BV, q1_BV, q2_BV, q3_BV, qf_BV, ql_BV⟩ := BV.four
          obtain ⟨q0_BG, q1_BG, q2_BG, q3_BG, q4_BG, q5_BG, q6_BG, q7_BG, q8_BG, qf_BG, ql_BG⟩ := BG.nine
          go_wp2_with fail
          clear q0_BV q1_BV q2_BV q3_BV qf_BV ql_BV
          clear q0_BG q1_BG q2_BG q3_BG q4_BG q5_BG q6_BG q7_BG q8_BG qf_BG ql_BG
          refine (HI.out _ r1 r2).mono ?_
          rintro e w2 ⟨rfl, hb2⟩
          replace BV := BV.below hb2
          replace BG := BG.below hb2
          replace r1 := r1.below hb2
          replace r2 := r2.below hb2
          have hz2 := hb2.size
          replace hb := chain hb hb2
          clear hb2
          obtain ⟨q0_BV, q1_BV, q2_BV, q3_BV, qf_BV, ql_BV⟩ := BV.four
          obtain ⟨q0_BG, q1_BG, q2_BG, q3_BG, q4_BG, q5_BG, q6_BG, q7_BG, q8_BG, qf_BG, ql_BG⟩ := BG.nine
          go_wp2_with fail
          go_ret
          exact ⟨rfl, hb⟩
      · have f0 : (pl == 0) = false := by rw [beq_eq_false_iff_ne]; exact p0
        rw [f0]
        clear p0
        by_cases p0 : pl = 1
        · have f1 : (pl == 1) = true := by rw [beq_iff_eq]; exact p0
          rw [f1]
          have hpl : 0 ≤ pl ∧ pl ≤ 1 := by omega
          have HPL := Lib.hid hpl
          clear hpl p0
          by_cases t0 : 0 ≤ tu
          · have f_t0 : decide (0 ≤ tu) = true := by simpa using t0
            rw [f_t0]
            by_cases t1 : tu ≤ 2000
            · have f_t1 : decide (tu ≤ 2000) = true := by simpa using t1
              rw [f_t1]
              simp only [Bool.false_and, Bool.true_and, Bool.or_false, Bool.or_true, Bool.false_or, Bool.true_or]
              go_enter Try.func38, Try.ntmps38
              obtain ⟨x0, x1, x2, x3, xf, xl⟩ := BV.four
              obtain ⟨ga0, ga1, ga2, ga3, ga4, ga5, ga6, ga7, ga8, gaf, gal⟩ := BG.nine
              go_wp2_with fail
              clear x0 x1 x2 x3 xf xl
              clear ga0 ga1 ga2 ga3 ga4 ga5 ga6 ga7 ga8 gaf gal
              generalize ((w.alloc (.cells #[.int .i64 p, .int .i64 c, .int .i64 h, .int .i64 s] 33)).alloc (.cells #[.slice a1 n1 c1, .slice a2 n2 c2, .int .i64 pl, .int .i64 ra, .int .i64 rb, .int .i64 ph, .int .i64 wi, .int .i64 re, .int .i64 tu] 38)) = v0 at *
              obtain ⟨q0_BV, q1_BV, q2_BV, q3_BV, qf_BV, ql_BV⟩ := BV.four
              obtain ⟨q0_BG, q1_BG, q2_BG, q3_BG, q4_BG, q5_BG, q6_BG, q7_BG, q8_BG, qf_BG, ql_BG⟩ := BG.nine
              go_wp2_with fail
              clear q0_BV q1_BV q2_BV q3_BV qf_BV ql_BV
              clear q0_BG q1_BG q2_BG q3_BG q4_BG q5_BG q6_BG q7_BG q8_BG qf_BG ql_BG
              refine (HG.out _).mono ?_
              rintro e w1 ⟨rfl, hb1⟩
              replace BV := BV.below hb1
              replace BG := BG.below hb1
              replace r1 := r1.below hb1
              replace r2 := r2.below hb1
              have hz1 := hb1.size
              replace hb := chain hb hb1
              clear hb1
              obtain ⟨q0_BV, q1_BV, q2_BV, q3_BV, qf_BV, ql_BV⟩ := BV.four
              obtain ⟨q0_BG, q1_BG, q2_BG, q3_BG, q4_BG, q5_BG, q6_BG, q7_BG, q8_BG, qf_BG, ql_BG⟩ := BG.nine
              go_wp2_with fail
              clear q0_BV q1_BV q2_BV q3_BV qf_BV ql_BV
              clear q0_BG q1_BG q2_BG q3_BG q4_BG q5_BG q6_BG q7_BG q8_BG qf_BG ql_BG
              refine (HI.out _ r1 r2).mono ?_
              rintro e w2 ⟨rfl, hb2⟩
              replace BV := BV.below hb2
              replace BG := BG.below hb2
              replace r1 := r1.below hb2
              replace r2 := r2.below hb2
              have hz2 := hb2.size
              replace hb := chain hb hb2
              clear hb2
              obtain ⟨q0_BV, q1_BV, q2_BV, q3_BV, qf_BV, ql_BV⟩ := BV.four
              obtain ⟨q0_BG, q1_BG, q2_BG, q3_BG, q4_BG, q5_BG, q6_BG, q7_BG, q8_BG, qf_BG, ql_BG⟩ := BG.nine
              go_wp2_with fail
              clear q0_BV q1_BV q2_BV q3_BV qf_BV ql_BV
              clear q0_BG q1_BG q2_BG q3_BG q4_BG q5_BG q6_BG q7_BG q8_BG qf_BG ql_BG
              refine (HF.out (by simp) (by simp) HPL.out _ r1 r2).mono ?_
              rintro e w3 ⟨rfl, hb3⟩
              replace BV := BV.below hb3
              replace BG := BG.below hb3
              replace r1 := r1.below hb3
              replace r2 := r2.below hb3
              have hz3 := hb3.size
              replace hb := chain hb hb3
              clear hb3
              obtain ⟨q0_BV, q1_BV, q2_BV, q3_BV, qf_BV, ql_BV⟩ := BV.four
              obtain ⟨q0_BG, q1_BG, q2_BG, q3_BG, q4_BG, q5_BG, q6_BG, q7_BG, q8_BG, qf_BG, ql_BG⟩ := BG.nine
              go_wp2_with fail
              go_ret
              exact ⟨rfl, hb⟩
            · have f_t1 : decide (tu ≤ 2000) = false := by simpa using t1
              rw [f_t1]
              simp only [Bool.false_and, Bool.true_and, Bool.or_false, Bool.or_true, Bool.false_or, Bool.true_or]
              go_enter Try.func38, Try.ntmps38
              obtain ⟨x0, x1, x2, x3, xf, xl⟩ := BV.four
              obtain ⟨ga0, ga1, ga2, ga3, ga4, ga5, ga6, ga7, ga8, gaf, gal⟩ := BG.nine
              go_wp2_with fail
              clear x0 x1 x2 x3 xf xl
              clear ga0 ga1 ga2 ga3 ga4 ga5 ga6 ga7 ga8 gaf gal
              generalize ((w.alloc (.cells #[.int .i64 p, .int .i64 c, .int .i64 h, .int .i64 s] 33)).alloc (.cells #[.slice a1 n1 c1, .slice a2 n2 c2, .int .i64 pl, .int .i64 ra, .int .i64 rb, .int .i64 ph, .int .i64 wi, .int .i64 re, .int .i64 tu] 38)) = v0 at *
              obtain ⟨q0_BV, q1_BV, q2_BV, q3_BV, qf_BV, ql_BV⟩ := BV.four
              obtain ⟨q0_BG, q1_BG, q2_BG, q3_BG, q4_BG, q5_BG, q6_BG, q7_BG, q8_BG, qf_BG, ql_BG⟩ := BG.nine
              go_wp2_with fail
              clear q0_BV q1_BV q2_BV q3_BV qf_BV ql_BV
              clear q0_BG q1_BG q2_BG q3_BG q4_BG q5_BG q6_BG q7_BG q8_BG qf_BG ql_BG
              refine (HG.out _).mono ?_
              rintro e w1 ⟨rfl, hb1⟩
              replace BV := BV.below hb1
              replace BG := BG.below hb1
              replace r1 := r1.below hb1
              replace r2 := r2.below hb1
              have hz1 := hb1.size
              replace hb := chain hb hb1
              clear hb1
              obtain ⟨q0_BV, q1_BV, q2_BV, q3_BV, qf_BV, ql_BV⟩ := BV.four
              obtain ⟨q0_BG, q1_BG, q2_BG, q3_BG, q4_BG, q5_BG, q6_BG, q7_BG, q8_BG, qf_BG, ql_BG⟩ := BG.nine
              go_wp2_with fail
              clear q0_BV q1_BV q2_BV q3_BV qf_BV ql_BV
              clear q0_BG q1_BG q2_BG q3_BG q4_BG q5_BG q6_BG q7_BG q8_BG qf_BG ql_BG
              refine (HI.out _ r1 r2).mono ?_
              rintro e w2 ⟨rfl, hb2⟩
              replace BV := BV.below hb2
              replace BG := BG.below hb2
              replace r1 := r1.below hb2
              replace r2 := r2.below hb2
              have hz2 := hb2.size
              replace hb := chain hb hb2
              clear hb2
              obtain ⟨q0_BV, q1_BV, q2_BV, q3_BV, qf_BV, ql_BV⟩ := BV.four
              obtain ⟨q0_BG, q1_BG, q2_BG, q3_BG, q4_BG, q5_BG, q6_BG, q7_BG, q8_BG, qf_BG, ql_BG⟩ := BG.nine
              go_wp2_with fail
              go_ret
              exact ⟨rfl, hb⟩
          · have f_t0 : decide (0 ≤ tu) = false := by simpa using t0
            rw [f_t0]
            simp only [Bool.false_and, Bool.true_and, Bool.or_false, Bool.or_true, Bool.false_or, Bool.true_or]
            go_enter Try.func38, Try.ntmps38
            obtain ⟨x0, x1, x2, x3, xf, xl⟩ := BV.four
            obtain ⟨ga0, ga1, ga2, ga3, ga4, ga5, ga6, ga7, ga8, gaf, gal⟩ := BG.nine
            go_wp2_with fail
            clear x0 x1 x2 x3 xf xl
            clear ga0 ga1 ga2 ga3 ga4 ga5 ga6 ga7 ga8 gaf gal
            generalize ((w.alloc (.cells #[.int .i64 p, .int .i64 c, .int .i64 h, .int .i64 s] 33)).alloc (.cells #[.slice a1 n1 c1, .slice a2 n2 c2, .int .i64 pl, .int .i64 ra, .int .i64 rb, .int .i64 ph, .int .i64 wi, .int .i64 re, .int .i64 tu] 38)) = v0 at *
            obtain ⟨q0_BV, q1_BV, q2_BV, q3_BV, qf_BV, ql_BV⟩ := BV.four
            obtain ⟨q0_BG, q1_BG, q2_BG, q3_BG, q4_BG, q5_BG, q6_BG, q7_BG, q8_BG, qf_BG, ql_BG⟩ := BG.nine
            go_wp2_with fail
            clear q0_BV q1_BV q2_BV q3_BV qf_BV ql_BV
            clear q0_BG q1_BG q2_BG q3_BG q4_BG q5_BG q6_BG q7_BG q8_BG qf_BG ql_BG
            refine (HG.out _).mono ?_
            rintro e w1 ⟨rfl, hb1⟩
            replace BV := BV.below hb1
            replace BG := BG.below hb1
            replace r1 := r1.below hb1
            replace r2 := r2.below hb1
            have hz1 := hb1.size
            replace hb := chain hb hb1
            clear hb1
            obtain ⟨q0_BV, q1_BV, q2_BV, q3_BV, qf_BV, ql_BV⟩ := BV.four
            obtain ⟨q0_BG, q1_BG, q2_BG, q3_BG, q4_BG, q5_BG, q6_BG, q7_BG, q8_BG, qf_BG, ql_BG⟩ := BG.nine
            go_wp2_with fail
            clear q0_BV q1_BV q2_BV q3_BV qf_BV ql_BV
            clear q0_BG q1_BG q2_BG q3_BG q4_BG q5_BG q6_BG q7_BG q8_BG qf_BG ql_BG
            refine (HI.out _ r1 r2).mono ?_
            rintro e w2 ⟨rfl, hb2⟩
            replace BV := BV.below hb2
            replace BG := BG.below hb2
            replace r1 := r1.below hb2
            replace r2 := r2.below hb2
            have hz2 := hb2.size
            replace hb := chain hb hb2
            clear hb2
            obtain ⟨q0_BV, q1_BV, q2_BV, q3_BV, qf_BV, ql_BV⟩ := BV.four
            obtain ⟨q0_BG, q1_BG, q2_BG, q3_BG, q4_BG, q5_BG, q6_BG, q7_BG, q8_BG, qf_BG, ql_BG⟩ := BG.nine
            go_wp2_with fail
            go_ret
            exact ⟨rfl, hb⟩
        · have f1 : (pl == 1) = false := by rw [beq_eq_false_iff_ne]; exact p0
          rw [f1]
          clear p0
          simp only [Bool.false_and, Bool.true_and, Bool.or_false, Bool.or_true, Bool.false_or, Bool.true_or]
          go_enter Try.func38, Try.ntmps38
          obtain ⟨x0, x1, x2, x3, xf, xl⟩ := BV.four
          obtain ⟨ga0, ga1, ga2, ga3, ga4, ga5, ga6, ga7, ga8, gaf, gal⟩ := BG.nine
          go_wp2_with fail
          clear x0 x1 x2 x3 xf xl
          clear ga0 ga1 ga2 ga3 ga4 ga5 ga6 ga7 ga8 gaf gal
          generalize ((w.alloc (.cells #[.int .i64 p, .int .i64 c, .int .i64 h, .int .i64 s] 33)).alloc (.cells #[.slice a1 n1 c1, .slice a2 n2 c2, .int .i64 pl, .int .i64 ra, .int .i64 rb, .int .i64 ph, .int .i64 wi, .int .i64 re, .int .i64 tu] 38)) = v0 at *
          obtain ⟨q0_BV, q1_BV, q2_BV, q3_BV, qf_BV, ql_BV⟩ := BV.four
          obtain ⟨q0_BG, q1_BG, q2_BG, q3_BG, q4_BG, q5_BG, q6_BG, q7_BG, q8_BG, qf_BG, ql_BG⟩ := BG.nine
          go_wp2_with fail
          clear q0_BV q1_BV q2_BV q3_BV qf_BV ql_BV
          clear q0_BG q1_BG q2_BG q3_BG q4_BG q5_BG q6_BG q7_BG q8_BG qf_BG ql_BG
          refine (HG.out _).mono ?_
          rintro e w1 ⟨rfl, hb1⟩
          replace BV := BV.below hb1
          replace BG := BG.below hb1
          replace r1 := r1.below hb1
          replace r2 := r2.below hb1
          have hz1 := hb1.size
          replace hb := chain hb hb1
          clear hb1
          obtain ⟨q0_BV, q1_BV, q2_BV, q3_BV, qf_BV, ql_BV⟩ := BV.four
          obtain ⟨q0_BG, q1_BG, q2_BG, q3_BG, q4_BG, q5_BG, q6_BG, q7_BG, q8_BG, qf_BG, ql_BG⟩ := BG.nine
          go_wp2_with fail
          clear q0_BV q1_BV q2_BV q3_BV qf_BV ql_BV
          clear q0_BG q1_BG q2_BG q3_BG q4_BG q5_BG q6_BG q7_BG q8_BG qf_BG ql_BG
          refine (HI.out _ r1 r2).mono ?_
          rintro e w2 ⟨rfl, hb2⟩
          replace BV := BV.below hb2
          replace BG := BG.below hb2
          replace r1 := r1.below hb2
          replace r2 := r2.below hb2
          have hz2 := hb2.size
          replace hb := chain hb hb2
          clear hb2
          obtain ⟨q0_BV, q1_BV, q2_BV, q3_BV, qf_BV, ql_BV⟩ := BV.four
          obtain ⟨q0_BG, q1_BG, q2_BG, q3_BG, q4_BG, q5_BG, q6_BG, q7_BG, q8_BG, qf_BG, ql_BG⟩ := BG.nine
          go_wp2_with fail
          go_ret
          exact ⟨rfl, hb⟩
theorem isGame_any (p c h s : Int) (a1 a2 : Option Addr) (n1 n2 c1 c2 : Nat) (xs ys : List Int) (w : World) (h1 : xs.length = n1) (h2 : ys.length = n2) (l1 : n1 ≤ 1048576) (l2 : n2 ≤ 1048576) (r1 : IRow w a1 xs) (r2 : IRow w a2 ys) (pl ra rb ph wi re tu : Int) :
    Calls Try.prog 14 #[.agg #[.int .i64 p, .int .i64 c, .int .i64 h, .int .i64 s], .agg #[.slice a1 n1 c1, .slice a2 n2 c2, .int .i64 pl, .int .i64 ra, .int .i64 rb, .int .i64 ph, .int .i64 wi, .int .i64 re, .int .i64 tu]] w fun e w' => e = .returned (.bool (gmB p c h s xs ys pl ra rb ph wi re tu)) ∧ Below w.heap.size w w' := by
  obtain ⟨BV, BG, hb, hz⟩ := two_new' w #[.int .i64 p, .int .i64 c, .int .i64 h, .int .i64 s] #[.slice a1 n1 c1, .slice a2 n2 c2, .int .i64 pl, .int .i64 ra, .int .i64 rb, .int .i64 ph, .int .i64 wi, .int .i64 re, .int .i64 tu] 33 38
  have hr1 := r1.below hb
  have hr2 := r2.below hb
  clear r1 r2
  have r1 := hr1
  have r2 := hr2
  clear hr1 hr2
  go_enter Try.func14, Try.ntmps14
  obtain ⟨x0, x1, x2, x3, xf, xl⟩ := BV.four
  obtain ⟨ga0, ga1, ga2, ga3, ga4, ga5, ga6, ga7, ga8, gaf, gal⟩ := BG.nine
  go_wp2_with fail
  clear x0 x1 x2 x3 xf xl
  clear ga0 ga1 ga2 ga3 ga4 ga5 ga6 ga7 ga8 gaf gal
  generalize ((w.alloc (.cells #[.int .i64 p, .int .i64 c, .int .i64 h, .int .i64 s] 33)).alloc (.cells #[.slice a1 n1 c1, .slice a2 n2 c2, .int .i64 pl, .int .i64 ra, .int .i64 rb, .int .i64 ph, .int .i64 wi, .int .i64 re, .int .i64 tu] 38)) = v0 at *
  obtain ⟨q0_BV, q1_BV, q2_BV, q3_BV, qf_BV, ql_BV⟩ := BV.four
  obtain ⟨q0_BG, q1_BG, q2_BG, q3_BG, q4_BG, q5_BG, q6_BG, q7_BG, q8_BG, qf_BG, ql_BG⟩ := BG.nine
  go_wp2_with fail
  clear q0_BV q1_BV q2_BV q3_BV qf_BV ql_BV
  clear q0_BG q1_BG q2_BG q3_BG q4_BG q5_BG q6_BG q7_BG q8_BG qf_BG ql_BG
  refine (hasGame_any p c h s a1 a2 n1 n2 c1 c2 xs ys _ h1 h2 l1 l2 r1 r2 pl ra rb ph wi re tu).mono ?_
  rintro e w1 ⟨rfl, hb1⟩
  replace BV := BV.below hb1
  replace BG := BG.below hb1
  replace r1 := r1.below hb1
  replace r2 := r2.below hb1
  have hz1 := hb1.size
  replace hb := chain hb hb1
  clear hb1
  obtain ⟨q0_BV, q1_BV, q2_BV, q3_BV, qf_BV, ql_BV⟩ := BV.four
  obtain ⟨q0_BG, q1_BG, q2_BG, q3_BG, q4_BG, q5_BG, q6_BG, q7_BG, q8_BG, qf_BG, ql_BG⟩ := BG.nine
  go_wp2_with fail
  go_ret
  exact ⟨rfl, hb⟩
/-- The code for a new game. -/
def ngC (p c h s : Int) : Int := if vB p c h s = true then (if hgB p c h s = true then 0 else 2) else 1
set_option maxRecDepth 8000 in
theorem newGameCode_any (p c h s : Int) (w : World) :
    Calls Try.prog 42 #[.agg #[.int .i64 p, .int .i64 c, .int .i64 h, .int .i64 s]] w fun e w' => e = .returned (.int .i64 (ngC p c h s)) ∧ Below w.heap.size w w' := by
  have hG := fun (W : World) => hasGames_any p c h s W
  have hI := fun (W : World) => valid_any p c h s W
  unfold ngC
  obtain ⟨A, hA⟩ : ∃ q, vB p c h s = q := ⟨_, rfl⟩
  obtain ⟨B, hB⟩ : ∃ q, hgB p c h s = q := ⟨_, rfl⟩
  rw [hA] at hI ⊢
  rw [hB] at hG ⊢
  have HG := Lib.hid hG
  have HI := Lib.hid hI
  clear hG hI hA hB
  have hb : Below w.heap.size w (w.alloc (.cells #[.int .i64 p, .int .i64 c, .int .i64 h, .int .i64 s] 33)) := (Below.refl _ _).alloc (Nat.le_refl _) _
  have BV := Blk.new w #[.int .i64 p, .int .i64 c, .int .i64 h, .int .i64 s] 33
  cases A with
  | false =>
    rw [if_neg (by simp)]
    go_enter Try.func42, Try.ntmps42
    obtain ⟨x0, x1, x2, x3, xf, xl⟩ := BV.four
    go_wp2_with fail
    clear x0 x1 x2 x3 xf xl
    generalize w.alloc (.cells #[.int .i64 p, .int .i64 c, .int .i64 h, .int .i64 s] 33) = v0 at *
    obtain ⟨q0_BV, q1_BV, q2_BV, q3_BV, qf_BV, ql_BV⟩ := BV.four
    go_wp2_with fail
    clear q0_BV q1_BV q2_BV q3_BV qf_BV ql_BV
    refine (HI.out _).mono ?_
    rintro e w1 ⟨rfl, hb1⟩
    replace BV := BV.below hb1
    have hz1 := hb1.size
    replace hb := chain hb hb1
    clear hb1
    obtain ⟨q0_BV, q1_BV, q2_BV, q3_BV, qf_BV, ql_BV⟩ := BV.four
    go_wp2_with fail
    go_ret
    exact ⟨rfl, hb⟩
  | true =>
    rw [if_pos rfl]
    cases B with
    | false =>
      rw [if_neg (by simp)]
      go_enter Try.func42, Try.ntmps42
      obtain ⟨x0, x1, x2, x3, xf, xl⟩ := BV.four
      go_wp2_with fail
      clear x0 x1 x2 x3 xf xl
      generalize w.alloc (.cells #[.int .i64 p, .int .i64 c, .int .i64 h, .int .i64 s] 33) = v0 at *
      obtain ⟨q0_BV, q1_BV, q2_BV, q3_BV, qf_BV, ql_BV⟩ := BV.four
      go_wp2_with fail
      clear q0_BV q1_BV q2_BV q3_BV qf_BV ql_BV
      refine (HI.out _).mono ?_
      rintro e w1 ⟨rfl, hb1⟩
      replace BV := BV.below hb1
      have hz1 := hb1.size
      replace hb := chain hb hb1
      clear hb1
      obtain ⟨q0_BV, q1_BV, q2_BV, q3_BV, qf_BV, ql_BV⟩ := BV.four
      go_wp2_with fail
      clear q0_BV q1_BV q2_BV q3_BV qf_BV ql_BV
      refine (HG.out _).mono ?_
      rintro e w2 ⟨rfl, hb2⟩
      replace BV := BV.below hb2
      have hz2 := hb2.size
      replace hb := chain hb hb2
      clear hb2
      obtain ⟨q0_BV, q1_BV, q2_BV, q3_BV, qf_BV, ql_BV⟩ := BV.four
      go_wp2_with fail
      go_ret
      exact ⟨rfl, hb⟩
    | true =>
      rw [if_pos rfl]
      go_enter Try.func42, Try.ntmps42
      obtain ⟨x0, x1, x2, x3, xf, xl⟩ := BV.four
      go_wp2_with fail
      clear x0 x1 x2 x3 xf xl
      generalize w.alloc (.cells #[.int .i64 p, .int .i64 c, .int .i64 h, .int .i64 s] 33) = v0 at *
      obtain ⟨q0_BV, q1_BV, q2_BV, q3_BV, qf_BV, ql_BV⟩ := BV.four
      go_wp2_with fail
      clear q0_BV q1_BV q2_BV q3_BV qf_BV ql_BV
      refine (HI.out _).mono ?_
      rintro e w1 ⟨rfl, hb1⟩
      replace BV := BV.below hb1
      have hz1 := hb1.size
      replace hb := chain hb hb1
      clear hb1
      obtain ⟨q0_BV, q1_BV, q2_BV, q3_BV, qf_BV, ql_BV⟩ := BV.four
      go_wp2_with fail
      clear q0_BV q1_BV q2_BV q3_BV qf_BV ql_BV
      refine (HG.out _).mono ?_
      rintro e w2 ⟨rfl, hb2⟩
      replace BV := BV.below hb2
      have hz2 := hb2.size
      replace hb := chain hb hb2
      clear hb2
      obtain ⟨q0_BV, q1_BV, q2_BV, q3_BV, qf_BV, ql_BV⟩ := BV.four
      go_wp2_with fail
      go_ret
      exact ⟨rfl, hb⟩
/-- A new game. -/
def ngV (p c h s : Int) : Gm := if ngC p c h s = 0 then openG p c h s else gm0
set_option maxRecDepth 8000 in
set_option maxHeartbeats 1000000 in
theorem newGame_any (p c h s : Int) (w : World) : Calls Try.prog 17 #[.agg #[.int .i64 p, .int .i64 c, .int .i64 h, .int .i64 s]] w (GameGot (ngV p c h s) (ngC p c h s) w) := by
  have hN := fun (W : World) => newGameCode_any p c h s W
  obtain ⟨BV, BO, hb, hz⟩ := two_new' w #[.int .i64 p, .int .i64 c, .int .i64 h, .int .i64 s] #[.slice none 0 0, .slice none 0 0, .int .i64 0, .int .i64 0, .int .i64 0, .int .i64 0, .int .i64 0, .int .i64 0, .int .i64 0] 33 38
  unfold ngV
  by_cases e0 : ngC p c h s = 0
  · rw [if_pos e0, e0]
    rw [e0] at hN
    have hg : hgB p c h s = true := by
      unfold ngC at e0
      split at e0
      · split at e0
        · assumption
        · omega
      · omega
    have hB := fun (W : World) => beginning_any p c h s W hg
    have hl : (openG p c h s).ys.length = (openG p c h s).xs.length := rfl
    show Calls _ _ _ _ fun e w' => ∃ a1 a2 k1 k2, e = .returned (.tuple #[.agg #[.slice a1 (openG p c h s).xs.length k1, .slice a2 (openG p c h s).ys.length k2, .int .i64 0, .int .i64 0, .int .i64 0, .int .i64 0, .int .i64 0, .int .i64 0, .int .i64 0], .int .i64 0]) ∧ OBd w.heap.size w'.heap.size w' a1 a2 (openG p c h s).xs (openG p c h s).ys ∧ Below w.heap.size w w'
    rw [hl] at hB ⊢
    obtain ⟨n, hn⟩ : ∃ n, (openG p c h s).xs.length = n := ⟨_, rfl⟩
    rw [hn] at hB ⊢
    obtain ⟨H, hH⟩ : ∃ H, openG p c h s = H := ⟨_, rfl⟩
    rw [hH] at hB ⊢
    have HB := Lib.hid hB
    have HN := Lib.hid hN
    clear hB hN hl hn hH hg e0
    go_enter Try.func17, Try.ntmps17
    obtain ⟨x0, x1, x2, x3, xf, xl⟩ := BV.four
    obtain ⟨go0, go1, go2, go3, go4, go5, go6, go7, go8, gof, gol⟩ := BO.nine
    go_wp2_with fail
    clear x0 x1 x2 x3 xf xl
    clear go0 go1 go2 go3 go4 go5 go6 go7 go8 gof gol
    generalize ((w.alloc (.cells #[.int .i64 p, .int .i64 c, .int .i64 h, .int .i64 s] 33)).alloc (.cells #[.slice none 0 0, .slice none 0 0, .int .i64 0, .int .i64 0, .int .i64 0, .int .i64 0, .int .i64 0, .int .i64 0, .int .i64 0] 38)) = v0 at *
    obtain ⟨q0_BV, q1_BV, q2_BV, q3_BV, qf_BV, ql_BV⟩ := BV.four
    obtain ⟨q0_BO, q1_BO, q2_BO, q3_BO, q4_BO, q5_BO, q6_BO, q7_BO, q8_BO, qf_BO, ql_BO⟩ := BO.nine
    go_wp2_with fail
    clear q0_BV q1_BV q2_BV q3_BV qf_BV ql_BV
    clear q0_BO q1_BO q2_BO q3_BO q4_BO q5_BO q6_BO q7_BO q8_BO qf_BO ql_BO
    refine (HN.out _).mono ?_
    rintro e w1 ⟨rfl, hb1⟩
    replace BV := BV.below hb1
    replace BO := BO.below hb1
    have hz1 := hb1.size
    replace hb := chain hb hb1
    clear hb1
    obtain ⟨q0_BV, q1_BV, q2_BV, q3_BV, qf_BV, ql_BV⟩ := BV.four
    obtain ⟨q0_BO, q1_BO, q2_BO, q3_BO, q4_BO, q5_BO, q6_BO, q7_BO, q8_BO, qf_BO, ql_BO⟩ := BO.nine
    go_wp2_with fail
    clear q0_BV q1_BV q2_BV q3_BV qf_BV ql_BV
    clear q0_BO q1_BO q2_BO q3_BO q4_BO q5_BO q6_BO q7_BO q8_BO qf_BO ql_BO
    refine (HB.out _).mono ?_
    rintro e w2 ⟨b1, b2, rfl, hq1, hq2, R1, R2, hb2⟩
    replace BV := BV.below hb2
    replace BO := BO.below hb2
    have hz2 := hb2.size
    replace hb := chain hb hb2
    clear hb2
    obtain ⟨x0, x1, x2, x3, xf, xl⟩ := BV.four
    obtain ⟨go0, go1, go2, go3, go4, go5, go6, go7, go8, gof, gol⟩ := BO.nine
    go_wp2
    clear x0 x1 x2 x3 xf xl go0 go1 go2 go3 go4 go5 go6 go7 go8 gof gol
    have MO := BO.setG9 (.slice (some ⟨b1, 0, none⟩) n n) (.slice (some ⟨b2, 0, none⟩) n n) (.int .i64 0) (.int .i64 0) (.int .i64 0) (.int .i64 0) (.int .i64 0) (.int .i64 0) (.int .i64 0)
    have hl1 := R1.lt
    have hl2 := R2.lt
    have M1 := R1.farG9 (B := w.heap.size + 1) (by omega) (.slice (some ⟨b1, 0, none⟩) n n) (.slice (some ⟨b2, 0, none⟩) n n) (.int .i64 0) (.int .i64 0) (.int .i64 0) (.int .i64 0) (.int .i64 0) (.int .i64 0) (.int .i64 0)
    have M2 := R2.farG9 (B := w.heap.size + 1) (by omega) (.slice (some ⟨b1, 0, none⟩) n n) (.slice (some ⟨b2, 0, none⟩) n n) (.int .i64 0) (.int .i64 0) (.int .i64 0) (.int .i64 0) (.int .i64 0) (.int .i64 0) (.int .i64 0)
    clear R1 R2
    have hM := Below.farG9 hb (B := w.heap.size + 1) (by omega) (.slice (some ⟨b1, 0, none⟩) n n) (.slice (some ⟨b2, 0, none⟩) n n) (.int .i64 0) (.int .i64 0) (.int .i64 0) (.int .i64 0) (.int .i64 0) (.int .i64 0) (.int .i64 0)
    have hsz := size_farG9 w2 (w.heap.size + 1) (.slice (some ⟨b1, 0, none⟩) n n) (.slice (some ⟨b2, 0, none⟩) n n) (.int .i64 0) (.int .i64 0) (.int .i64 0) (.int .i64 0) (.int .i64 0) (.int .i64 0) (.int .i64 0)
    clear BO hb BV
    generalize (((((((((w2.setCell ⟨(w.heap.size + 1), 0, none⟩ (.slice (some ⟨b1, 0, none⟩) n n)).setCell ⟨(w.heap.size + 1), 1, none⟩ (.slice (some ⟨b2, 0, none⟩) n n)).setCell ⟨(w.heap.size + 1), 2, none⟩ (.int .i64 0)).setCell ⟨(w.heap.size + 1), 3, none⟩ (.int .i64 0)).setCell ⟨(w.heap.size + 1), 4, none⟩ (.int .i64 0)).setCell ⟨(w.heap.size + 1), 5, none⟩ (.int .i64 0)).setCell ⟨(w.heap.size + 1), 6, none⟩ (.int .i64 0)).setCell ⟨(w.heap.size + 1), 7, none⟩ (.int .i64 0)).setCell ⟨(w.heap.size + 1), 8, none⟩ (.int .i64 0)) = we at *
    obtain ⟨go0, go1, go2, go3, go4, go5, go6, go7, go8, gof, gol⟩ := MO.nine
    refine bodyPost_ret (v := .tuple #[.agg #[.slice (some ⟨b1, 0, none⟩) n n, .slice (some ⟨b2, 0, none⟩) n n, .int .i64 0, .int .i64 0, .int .i64 0, .int .i64 0, .int .i64 0, .int .i64 0, .int .i64 0], .int .i64 0]) (by simp [results, Try.results17, go_sem, go0, go1, go2, go3, go4, go5, go6, go7, go8]) rfl ?_
    exact ⟨_, _, _, _, rfl, .inr ⟨b1, b2, rfl, rfl, by omega, by omega, by omega, by omega, by omega, M1, M2⟩, hM⟩
  · rw [if_neg e0]
    obtain ⟨N, hNe⟩ : ∃ N, ngC p c h s = N := ⟨_, rfl⟩
    rw [hNe] at hN e0 ⊢
    have f0 : (N != 0) = true := by rw [bne_iff_ne]; exact e0
    have f1 : (N == 0) = false := by rw [beq_eq_false_iff_ne]; exact e0
    have HN := Lib.hid hN
    clear hN hNe e0
    go_enter Try.func17, Try.ntmps17
    obtain ⟨x0, x1, x2, x3, xf, xl⟩ := BV.four
    obtain ⟨go0, go1, go2, go3, go4, go5, go6, go7, go8, gof, gol⟩ := BO.nine
    go_wp2_with fail
    clear x0 x1 x2 x3 xf xl
    clear go0 go1 go2 go3 go4 go5 go6 go7 go8 gof gol
    generalize ((w.alloc (.cells #[.int .i64 p, .int .i64 c, .int .i64 h, .int .i64 s] 33)).alloc (.cells #[.slice none 0 0, .slice none 0 0, .int .i64 0, .int .i64 0, .int .i64 0, .int .i64 0, .int .i64 0, .int .i64 0, .int .i64 0] 38)) = v0 at *
    obtain ⟨q0_BV, q1_BV, q2_BV, q3_BV, qf_BV, ql_BV⟩ := BV.four
    obtain ⟨q0_BO, q1_BO, q2_BO, q3_BO, q4_BO, q5_BO, q6_BO, q7_BO, q8_BO, qf_BO, ql_BO⟩ := BO.nine
    go_wp2_with fail
    clear q0_BV q1_BV q2_BV q3_BV qf_BV ql_BV
    clear q0_BO q1_BO q2_BO q3_BO q4_BO q5_BO q6_BO q7_BO q8_BO qf_BO ql_BO
    refine (HN.out _).mono ?_
    rintro e w1 ⟨rfl, hb1⟩
    replace BV := BV.below hb1
    replace BO := BO.below hb1
    have hz1 := hb1.size
    replace hb := chain hb hb1
    clear hb1
    obtain ⟨x0, x1, x2, x3, xf, xl⟩ := BV.four
    obtain ⟨go0, go1, go2, go3, go4, go5, go6, go7, go8, gof, gol⟩ := BO.nine
    go_wp2
    clear x0 x1 x2 x3 xf xl go0 go1 go2 go3 go4 go5 go6 go7 go8 gof gol
    have MO := BO.setG9 (.slice none 0 0) (.slice none 0 0) (.int .i64 0) (.int .i64 0) (.int .i64 0) (.int .i64 0) (.int .i64 0) (.int .i64 0) (.int .i64 0)
    have hM := Below.farG9 hb (B := w.heap.size + 1) (by omega) (.slice none 0 0) (.slice none 0 0) (.int .i64 0) (.int .i64 0) (.int .i64 0) (.int .i64 0) (.int .i64 0) (.int .i64 0) (.int .i64 0)
    have hsz := size_farG9 w1 (w.heap.size + 1) (.slice none 0 0) (.slice none 0 0) (.int .i64 0) (.int .i64 0) (.int .i64 0) (.int .i64 0) (.int .i64 0) (.int .i64 0) (.int .i64 0)
    clear BO hb BV
    generalize (((((((((w1.setCell ⟨(w.heap.size + 1), 0, none⟩ (.slice none 0 0)).setCell ⟨(w.heap.size + 1), 1, none⟩ (.slice none 0 0)).setCell ⟨(w.heap.size + 1), 2, none⟩ (.int .i64 0)).setCell ⟨(w.heap.size + 1), 3, none⟩ (.int .i64 0)).setCell ⟨(w.heap.size + 1), 4, none⟩ (.int .i64 0)).setCell ⟨(w.heap.size + 1), 5, none⟩ (.int .i64 0)).setCell ⟨(w.heap.size + 1), 6, none⟩ (.int .i64 0)).setCell ⟨(w.heap.size + 1), 7, none⟩ (.int .i64 0)).setCell ⟨(w.heap.size + 1), 8, none⟩ (.int .i64 0)) = we at *
    obtain ⟨go0, go1, go2, go3, go4, go5, go6, go7, go8, gof, gol⟩ := MO.nine
    refine bodyPost_ret (v := .tuple #[.agg #[.slice none 0 0, .slice none 0 0, .int .i64 0, .int .i64 0, .int .i64 0, .int .i64 0, .int .i64 0, .int .i64 0, .int .i64 0], .int .i64 N]) (by simp [results, Try.results17, go_sem, go0, go1, go2, go3, go4, go5, go6, go7, go8]) rfl ?_
    exact ⟨none, none, 0, 0, rfl, .inl ⟨rfl, rfl, rfl, rfl⟩, hM⟩
end Go.Proofs.Ythfmackfkdbhhaa
