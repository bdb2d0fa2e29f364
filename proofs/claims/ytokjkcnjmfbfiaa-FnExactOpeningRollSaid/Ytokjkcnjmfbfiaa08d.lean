/- Contracts of the program on games that go on and games that have ended. -/
import Derived.Test.Ytokjkcnjmfbfiaa08c2
import Derived.BigQuiet
namespace Go.Proofs.Ytokjkcnjmfbfiaa
open Go.ChangeShapes Go.WideShapes Go.ChangeAt Go.RowKit
set_option linter.unusedVariables false
set_option linter.unusedSimpArgs false
set_option maxRecDepth 4000

/-- A game that is not over goes on. -/
def goB (xs ys : List Int) (wi re : Int) : Bool := !overB xs ys && ((wi == 0) && (re == 0))
set_option maxRecDepth 8000 in
set_option maxHeartbeats 2000000 in
theorem goesOn_any (p c h s : Int) (a1 a2 : Option Addr) (n1 n2 c1 c2 : Nat) (xs ys : List Int) (w : World) (h1 : xs.length = n1) (h2 : ys.length = n2) (l1 : n1 ≤ 1048576) (l2 : n2 ≤ 1048576) (r1 : IRow w a1 xs) (r2 : IRow w a2 ys) (pl ra rb ph wi re tu : Int) (g : isB p c h s xs ys = true) :
    Calls Try.prog 166 #[.agg #[.int .i64 p, .int .i64 c, .int .i64 h, .int .i64 s], .agg #[.slice a1 n1 c1, .slice a2 n2 c2, .int .i64 pl, .int .i64 ra, .int .i64 rb, .int .i64 ph, .int .i64 wi, .int .i64 re, .int .i64 tu]] w fun e w' => e = .returned (.bool (goB xs ys wi re)) ∧ Below w.heap.size w w' := by
  obtain ⟨p0, p1, k0, k1, k2, k3, N1, N2, hx, hy, s0, s1, s2, s3⟩ := isB_parts g
  obtain ⟨BV, BG, hb, hz⟩ := two_new' w #[.int .i64 p, .int .i64 c, .int .i64 h, .int .i64 s] #[.slice a1 n1 c1, .slice a2 n2 c2, .int .i64 pl, .int .i64 ra, .int .i64 rb, .int .i64 ph, .int .i64 wi, .int .i64 re, .int .i64 tu] 32 70
  have hr1 := r1.below hb
  have hr2 := r2.below hb
  clear r1 r2
  have r1 := hr1
  have r2 := hr2
  clear hr1 hr2
  have hO := fun (W : World) (B1 : Nat) (q1 : Pays 157 B1 xs W) (q2 : Pays 158 B1 ys W) => over_any p 157 158 B1 xs ys W p0 p1 N1 N2 hx hy q1 q2
  unfold goB
  obtain ⟨O, hOe⟩ : ∃ O, overB xs ys = O := ⟨_, rfl⟩
  rw [hOe] at hO ⊢
  have HO := Lib.hid hO
  clear hO hOe
  cases O with
  | true =>
    rw [Bool.not_true, Bool.false_and]
    go_enter Try.func166, Try.ntmps166
    obtain ⟨x0, x1, x2, x3, xf, xl⟩ := BV.four
    obtain ⟨ga0, ga1, ga2, ga3, ga4, ga5, ga6, ga7, ga8, gaf, gal⟩ := BG.nine
    go_wp2_with fail
    clear x0 x1 x2 x3 xf xl
    clear ga0 ga1 ga2 ga3 ga4 ga5 ga6 ga7 ga8 gaf gal
    generalize ((w.alloc (.cells #[.int .i64 p, .int .i64 c, .int .i64 h, .int .i64 s] 32)).alloc (.cells #[.slice a1 n1 c1, .slice a2 n2 c2, .int .i64 pl, .int .i64 ra, .int .i64 rb, .int .i64 ph, .int .i64 wi, .int .i64 re, .int .i64 tu] 70)) = v0 at *
    obtain ⟨q0_BV, q1_BV, q2_BV, q3_BV, qf_BV, ql_BV⟩ := BV.four
    obtain ⟨q0_BG, q1_BG, q2_BG, q3_BG, q4_BG, q5_BG, q6_BG, q7_BG, q8_BG, qf_BG, ql_BG⟩ := BG.nine
    go_wp2_with fail
    clear q0_BV q1_BV q2_BV q3_BV qf_BV ql_BV
    clear q0_BG q1_BG q2_BG q3_BG q4_BG q5_BG q6_BG q7_BG q8_BG qf_BG ql_BG
    refine (countsOf_any p c h s a1 a2 n1 c1 n2 c2 xs ys _ h1 h2 r1 r2).mono ?_
    rintro e w1 ⟨B1, rfl, q1, q2, hb1⟩
    replace BV := BV.below hb1
    replace BG := BG.below hb1
    replace r1 := r1.below hb1
    replace r2 := r2.below hb1
    have hz1 := hb1.size
    replace hb := chain hb hb1
    clear hb1
    obtain ⟨q0_BV, q1_BV, q2_BV, q3_BV, qf_BV, ql_BV⟩ := BV.four
    obtain ⟨q0_BG, q1_BG, q2_BG, q3_BG, q4_BG, q5_BG, q6_BG, q7_BG, q8_BG, qf_BG, ql_BG⟩ := BG.nine
    go_wp2_with fail
    clear q0_BV q1_BV q2_BV q3_BV qf_BV ql_BV
    clear q0_BG q1_BG q2_BG q3_BG q4_BG q5_BG q6_BG q7_BG q8_BG qf_BG ql_BG
    refine (HO.out _ B1 q1 q2).mono ?_
    rintro e w2 ⟨rfl, hb2⟩
    replace BV := BV.below hb2
    replace BG := BG.below hb2
    replace r1 := r1.below hb2
    replace r2 := r2.below hb2
    replace q1 := q1.below hb2
    replace q2 := q2.below hb2
    have hz2 := hb2.size
    replace hb := chain hb hb2
    clear hb2
    obtain ⟨q0_BV, q1_BV, q2_BV, q3_BV, qf_BV, ql_BV⟩ := BV.four
    obtain ⟨q0_BG, q1_BG, q2_BG, q3_BG, q4_BG, q5_BG, q6_BG, q7_BG, q8_BG, qf_BG, ql_BG⟩ := BG.nine
    go_wp2_with fail
    go_ret
    exact ⟨rfl, hb⟩
  | false =>
    rw [Bool.not_false, Bool.true_and]
    by_cases e1 : wi = 0
    · have f1 : (wi == 0) = true := by rw [beq_iff_eq]; exact e1
      rw [f1, Bool.true_and]
      clear e1
      go_enter Try.func166, Try.ntmps166
      obtain ⟨x0, x1, x2, x3, xf, xl⟩ := BV.four
      obtain ⟨ga0, ga1, ga2, ga3, ga4, ga5, ga6, ga7, ga8, gaf, gal⟩ := BG.nine
      go_wp2_with fail
      clear x0 x1 x2 x3 xf xl
      clear ga0 ga1 ga2 ga3 ga4 ga5 ga6 ga7 ga8 gaf gal
      generalize ((w.alloc (.cells #[.int .i64 p, .int .i64 c, .int .i64 h, .int .i64 s] 32)).alloc (.cells #[.slice a1 n1 c1, .slice a2 n2 c2, .int .i64 pl, .int .i64 ra, .int .i64 rb, .int .i64 ph, .int .i64 wi, .int .i64 re, .int .i64 tu] 70)) = v0 at *
      obtain ⟨q0_BV, q1_BV, q2_BV, q3_BV, qf_BV, ql_BV⟩ := BV.four
      obtain ⟨q0_BG, q1_BG, q2_BG, q3_BG, q4_BG, q5_BG, q6_BG, q7_BG, q8_BG, qf_BG, ql_BG⟩ := BG.nine
      go_wp2_with fail
      clear q0_BV q1_BV q2_BV q3_BV qf_BV ql_BV
      clear q0_BG q1_BG q2_BG q3_BG q4_BG q5_BG q6_BG q7_BG q8_BG qf_BG ql_BG
      refine (countsOf_any p c h s a1 a2 n1 c1 n2 c2 xs ys _ h1 h2 r1 r2).mono ?_
      rintro e w1 ⟨B1, rfl, q1, q2, hb1⟩
      replace BV := BV.below hb1
      replace BG := BG.below hb1
      replace r1 := r1.below hb1
      replace r2 := r2.below hb1
      have hz1 := hb1.size
      replace hb := chain hb hb1
      clear hb1
      obtain ⟨q0_BV, q1_BV, q2_BV, q3_BV, qf_BV, ql_BV⟩ := BV.four
      obtain ⟨q0_BG, q1_BG, q2_BG, q3_BG, q4_BG, q5_BG, q6_BG, q7_BG, q8_BG, qf_BG, ql_BG⟩ := BG.nine
      go_wp2_with fail
      clear q0_BV q1_BV q2_BV q3_BV qf_BV ql_BV
      clear q0_BG q1_BG q2_BG q3_BG q4_BG q5_BG q6_BG q7_BG q8_BG qf_BG ql_BG
      refine (HO.out _ B1 q1 q2).mono ?_
      rintro e w2 ⟨rfl, hb2⟩
      replace BV := BV.below hb2
      replace BG := BG.below hb2
      replace r1 := r1.below hb2
      replace r2 := r2.below hb2
      replace q1 := q1.below hb2
      replace q2 := q2.below hb2
      have hz2 := hb2.size
      replace hb := chain hb hb2
      clear hb2
      obtain ⟨q0_BV, q1_BV, q2_BV, q3_BV, qf_BV, ql_BV⟩ := BV.four
      obtain ⟨q0_BG, q1_BG, q2_BG, q3_BG, q4_BG, q5_BG, q6_BG, q7_BG, q8_BG, qf_BG, ql_BG⟩ := BG.nine
      go_wp2_with fail
      go_ret
      exact ⟨rfl, hb⟩
    · have f1 : (wi == 0) = false := by rw [beq_eq_false_iff_ne]; exact e1
      rw [f1, Bool.false_and]
      clear e1
      go_enter Try.func166, Try.ntmps166
      obtain ⟨x0, x1, x2, x3, xf, xl⟩ := BV.four
      obtain ⟨ga0, ga1, ga2, ga3, ga4, ga5, ga6, ga7, ga8, gaf, gal⟩ := BG.nine
      go_wp2_with fail
      clear x0 x1 x2 x3 xf xl
      clear ga0 ga1 ga2 ga3 ga4 ga5 ga6 ga7 ga8 gaf gal
      generalize ((w.alloc (.cells #[.int .i64 p, .int .i64 c, .int .i64 h, .int .i64 s] 32)).alloc (.cells #[.slice a1 n1 c1, .slice a2 n2 c2, .int .i64 pl, .int .i64 ra, .int .i64 rb, .int .i64 ph, .int .i64 wi, .int .i64 re, .int .i64 tu] 70)) = v0 at *
      obtain ⟨q0_BV, q1_BV, q2_BV, q3_BV, qf_BV, ql_BV⟩ := BV.four
      obtain ⟨q0_BG, q1_BG, q2_BG, q3_BG, q4_BG, q5_BG, q6_BG, q7_BG, q8_BG, qf_BG, ql_BG⟩ := BG.nine
      go_wp2_with fail
      clear q0_BV q1_BV q2_BV q3_BV qf_BV ql_BV
      clear q0_BG q1_BG q2_BG q3_BG q4_BG q5_BG q6_BG q7_BG q8_BG qf_BG ql_BG
      refine (countsOf_any p c h s a1 a2 n1 c1 n2 c2 xs ys _ h1 h2 r1 r2).mono ?_
      rintro e w1 ⟨B1, rfl, q1, q2, hb1⟩
      replace BV := BV.below hb1
      replace BG := BG.below hb1
      replace r1 := r1.below hb1
      replace r2 := r2.below hb1
      have hz1 := hb1.size
      replace hb := chain hb hb1
      clear hb1
      obtain ⟨q0_BV, q1_BV, q2_BV, q3_BV, qf_BV, ql_BV⟩ := BV.four
      obtain ⟨q0_BG, q1_BG, q2_BG, q3_BG, q4_BG, q5_BG, q6_BG, q7_BG, q8_BG, qf_BG, ql_BG⟩ := BG.nine
      go_wp2_with fail
      clear q0_BV q1_BV q2_BV q3_BV qf_BV ql_BV
      clear q0_BG q1_BG q2_BG q3_BG q4_BG q5_BG q6_BG q7_BG q8_BG qf_BG ql_BG
      refine (HO.out _ B1 q1 q2).mono ?_
      rintro e w2 ⟨rfl, hb2⟩
      replace BV := BV.below hb2
      replace BG := BG.below hb2
      replace r1 := r1.below hb2
      replace r2 := r2.below hb2
      replace q1 := q1.below hb2
      replace q2 := q2.below hb2
      have hz2 := hb2.size
      replace hb := chain hb hb2
      clear hb2
      obtain ⟨q0_BV, q1_BV, q2_BV, q3_BV, qf_BV, ql_BV⟩ := BV.four
      obtain ⟨q0_BG, q1_BG, q2_BG, q3_BG, q4_BG, q5_BG, q6_BG, q7_BG, q8_BG, qf_BG, ql_BG⟩ := BG.nine
      go_wp2_with fail
      go_ret
      exact ⟨rfl, hb⟩
/-- A game that is over has been won on the board or resigned. -/
def endB (p c h : Int) (xs ys : List Int) (pl wi re : Int) : Bool :=
  if overB xs ys = true then decide (lastL xs xs.length < 0) && ((wi == pl) && (re == resV p c h xs ys)) else (wi == 1 - pl) && inB re 1 3
set_option maxRecDepth 8000 in
set_option maxHeartbeats 2000000 in
theorem hasEnded_any (p c h s : Int) (a1 a2 : Option Addr) (n1 n2 c1 c2 : Nat) (xs ys : List Int) (w : World) (h1 : xs.length = n1) (h2 : ys.length = n2) (l1 : n1 ≤ 1048576) (l2 : n2 ≤ 1048576) (r1 : IRow w a1 xs) (r2 : IRow w a2 ys) (pl ra rb ph wi re tu : Int) (g : isB p c h s xs ys = true) (hpl : 0 ≤ pl ∧ pl ≤ 1) :
    Calls Try.prog 167 #[.agg #[.int .i64 p, .int .i64 c, .int .i64 h, .int .i64 s], .agg #[.slice a1 n1 c1, .slice a2 n2 c2, .int .i64 pl, .int .i64 ra, .int .i64 rb, .int .i64 ph, .int .i64 wi, .int .i64 re, .int .i64 tu]] w fun e w' => e = .returned (.bool (endB p c h xs ys pl wi re)) ∧ Below w.heap.size w w' := by
  obtain ⟨p0, p1, k0, k1, k2, k3, N1, N2, hx, hy, s0, s1, s2, s3⟩ := isB_parts g
  obtain ⟨BV, BG, hb, hz⟩ := two_new' w #[.int .i64 p, .int .i64 c, .int .i64 h, .int .i64 s] #[.slice a1 n1 c1, .slice a2 n2 c2, .int .i64 pl, .int .i64 ra, .int .i64 rb, .int .i64 ph, .int .i64 wi, .int .i64 re, .int .i64 tu] 32 70
  have hr1 := r1.below hb
  have hr2 := r2.below hb
  clear r1 r2
  have r1 := hr1
  have r2 := hr2
  clear hr1 hr2
  have hO := fun (W : World) (B1 : Nat) (q1 : Pays 157 B1 xs W) (q2 : Pays 158 B1 ys W) => over_any p 157 158 B1 xs ys W p0 p1 N1 N2 hx hy q1 q2
  have hL := fun (W : World) (B1 : Nat) (q1 : Pays 157 B1 xs W) => farthest_any p 157 158 B1 157 B1 xs W (by omega) p1 N1 hx q1
  have hJ := fun (W : World) (B : Nat) (q1 : IRow W a1 xs) (q2 : IRow W a2 ys) (bj : Blk W B #[.int .i64 p, .int .i64 c, .int .i64 h, .int .i64 s] 32) => judgeFn_any B p c h s a1 a2 n1 n2 c1 c2 xs ys W h1 h2 l1 l2 q1 q2 g bj
  have hcf : ∀ (args : Array Value) (w' : World), (callFunc 146 args).run Try.prog w' = .ok (.enter 146 args) w' := enters_of (fn := Try.f146) (by kernel_rfl) (by kernel_rfl) rfl
  unfold endB
  obtain ⟨R, hR⟩ : ∃ R, resV p c h xs ys = R := ⟨_, rfl⟩
  rw [hR] at hJ ⊢
  obtain ⟨u, hu⟩ : ∃ u, lastL xs xs.length = u := ⟨_, rfl⟩
  rw [hu] at hL ⊢
  obtain ⟨O, hOe⟩ : ∃ O, overB xs ys = O := ⟨_, rfl⟩
  rw [hOe] at hO ⊢
  have HO := Lib.hid hO
  have HL := Lib.hid hL
  have HJ := Lib.hid hJ
  have HPL := Lib.hid hpl
  clear hO hOe hL hu hJ hR hpl
  cases O with
  | true =>
    rw [if_pos rfl]
    by_cases e0 : u < 0
    · have f0 : decide (u < 0) = true := by rw [decide_eq_true_eq]; exact e0
      rw [f0, Bool.true_and]
      by_cases e1 : wi = pl
      · have f1 : (wi == pl) = true := by rw [beq_iff_eq]; exact e1
        rw [f1, Bool.true_and]
        clear e1
        go_enter Try.func167, Try.ntmps167
        obtain ⟨x0, x1, x2, x3, xf, xl⟩ := BV.four
        obtain ⟨ga0, ga1, ga2, ga3, ga4, ga5, ga6, ga7, ga8, gaf, gal⟩ := BG.nine
        go_wp2_with fail
        clear x0 x1 x2 x3 xf xl
        clear ga0 ga1 ga2 ga3 ga4 ga5 ga6 ga7 ga8 gaf gal
        generalize ((w.alloc (.cells #[.int .i64 p, .int .i64 c, .int .i64 h, .int .i64 s] 32)).alloc (.cells #[.slice a1 n1 c1, .slice a2 n2 c2, .int .i64 pl, .int .i64 ra, .int .i64 rb, .int .i64 ph, .int .i64 wi, .int .i64 re, .int .i64 tu] 70)) = v0 at *
        obtain ⟨q0_BV, q1_BV, q2_BV, q3_BV, qf_BV, ql_BV⟩ := BV.four
        obtain ⟨q0_BG, q1_BG, q2_BG, q3_BG, q4_BG, q5_BG, q6_BG, q7_BG, q8_BG, qf_BG, ql_BG⟩ := BG.nine
        go_wp2_with fail
        clear q0_BV q1_BV q2_BV q3_BV qf_BV ql_BV
        clear q0_BG q1_BG q2_BG q3_BG q4_BG q5_BG q6_BG q7_BG q8_BG qf_BG ql_BG
        refine (countsOf_any p c h s a1 a2 n1 c1 n2 c2 xs ys _ h1 h2 r1 r2).mono ?_
        rintro e w1 ⟨B1, rfl, q1, q2, hb1⟩
        replace BV := BV.below hb1
        replace BG := BG.below hb1
        replace r1 := r1.below hb1
        replace r2 := r2.below hb1
        have hz1 := hb1.size
        replace hb := chain hb hb1
        clear hb1
        have BT := Blk.new w1 #[.int .i64 p, fv 157 B1, fv 158 B1] 151
        have hal2 : Below w1.heap.size w1 (w1.alloc (.cells #[.int .i64 p, fv 157 B1, fv 158 B1] 151)) := (Below.refl _ _).alloc (Nat.le_refl _) _
        have hz2 : (w1.alloc (.cells #[.int .i64 p, fv 157 B1, fv 158 B1] 151)).heap.size = w1.heap.size + 1 := by simp
        replace BV := BV.below hal2
        replace BG := BG.below hal2
        replace r1 := r1.below hal2
        replace r2 := r2.below hal2
        replace q1 := q1.below hal2
        replace q2 := q2.below hal2
        replace hb := chain hb hal2
        clear hal2
        obtain ⟨q0_BV, q1_BV, q2_BV, q3_BV, qf_BV, ql_BV⟩ := BV.four
        obtain ⟨q0_BG, q1_BG, q2_BG, q3_BG, q4_BG, q5_BG, q6_BG, q7_BG, q8_BG, qf_BG, ql_BG⟩ := BG.nine
        obtain ⟨q0_BT, q1_BT, q2_BT, qf_BT, ql_BT⟩ := BT.tri
        go_wp2_with fail
        clear q0_BV q1_BV q2_BV q3_BV qf_BV ql_BV
        clear q0_BG q1_BG q2_BG q3_BG q4_BG q5_BG q6_BG q7_BG q8_BG qf_BG ql_BG
        clear q0_BT q1_BT q2_BT qf_BT ql_BT
        generalize (w1.alloc (.cells #[.int .i64 p, fv 157 B1, fv 158 B1] 151)) = w2 at *
        obtain ⟨q0_BV, q1_BV, q2_BV, q3_BV, qf_BV, ql_BV⟩ := BV.four
        obtain ⟨q0_BG, q1_BG, q2_BG, q3_BG, q4_BG, q5_BG, q6_BG, q7_BG, q8_BG, qf_BG, ql_BG⟩ := BG.nine
        obtain ⟨q0_BT, q1_BT, q2_BT, qf_BT, ql_BT⟩ := BT.tri
        go_wp2_with fail
        clear q0_BV q1_BV q2_BV q3_BV qf_BV ql_BV
        clear q0_BG q1_BG q2_BG q3_BG q4_BG q5_BG q6_BG q7_BG q8_BG qf_BG ql_BG
        clear q0_BT q1_BT q2_BT qf_BT ql_BT
        refine (HO.out _ B1 q1 q2).mono ?_
        rintro e w3 ⟨rfl, hb3⟩
        replace BV := BV.below hb3
        replace BG := BG.below hb3
        replace r1 := r1.below hb3
        replace r2 := r2.below hb3
        replace q1 := q1.below hb3
        replace q2 := q2.below hb3
        replace BT := BT.below hb3
        have hz3 := hb3.size
        replace hb := chain hb hb3
        clear hb3
        obtain ⟨q0_BV, q1_BV, q2_BV, q3_BV, qf_BV, ql_BV⟩ := BV.four
        obtain ⟨q0_BG, q1_BG, q2_BG, q3_BG, q4_BG, q5_BG, q6_BG, q7_BG, q8_BG, qf_BG, ql_BG⟩ := BG.nine
        obtain ⟨q0_BT, q1_BT, q2_BT, qf_BT, ql_BT⟩ := BT.tri
        go_wp2_with fail
        clear q0_BV q1_BV q2_BV q3_BV qf_BV ql_BV
        clear q0_BG q1_BG q2_BG q3_BG q4_BG q5_BG q6_BG q7_BG q8_BG qf_BG ql_BG
        clear q0_BT q1_BT q2_BT qf_BT ql_BT
        have hd4 : w3.drew.heap.size = w3.heap.size := rfl
        replace BV := BV.drew
        replace BG := BG.drew
        replace r1 := r1.drew
        replace r2 := r2.drew
        replace q1 := q1.drew
        replace q2 := q2.drew
        replace BT := BT.drew
        replace hb := hb.drew
        refine wp_region_held_drew (S := fun w' => w'.cell? ⟨w.heap.size, 0, none⟩ = some (.int .i64 p) ∧ w'.cell? ⟨w.heap.size, 1, none⟩ = some (.int .i64 c) ∧ w'.cell? ⟨w.heap.size, 2, none⟩ = some (.int .i64 h) ∧ w'.cell? ⟨w.heap.size, 3, none⟩ = some (.int .i64 s) ∧ w'.cell? ⟨(w.heap.size + 1), 0, none⟩ = some (.slice a1 n1 c1) ∧ w'.cell? ⟨(w.heap.size + 1), 1, none⟩ = some (.slice a2 n2 c2) ∧ w'.cell? ⟨(w.heap.size + 1), 2, none⟩ = some (.int .i64 pl) ∧ w'.cell? ⟨(w.heap.size + 1), 3, none⟩ = some (.int .i64 ra) ∧ w'.cell? ⟨(w.heap.size + 1), 4, none⟩ = some (.int .i64 rb) ∧ w'.cell? ⟨(w.heap.size + 1), 5, none⟩ = some (.int .i64 ph) ∧ w'.cell? ⟨(w.heap.size + 1), 6, none⟩ = some (.int .i64 wi) ∧ w'.cell? ⟨(w.heap.size + 1), 7, none⟩ = some (.int .i64 re) ∧ w'.cell? ⟨(w.heap.size + 1), 8, none⟩ = some (.int .i64 tu) ∧ w'.cell? ⟨w1.heap.size, 0, none⟩ = some (.int .i64 p) ∧ w'.cell? ⟨w1.heap.size, 1, none⟩ = some (fv 157 B1) ∧ w'.cell? ⟨w1.heap.size, 2, none⟩ = some (fv 158 B1)) (by kernel_rfl) ⟨BV.four.1, BV.four.2.1, BV.four.2.2.1, BV.four.2.2.2.1, BG.nine.1, BG.nine.2.1, BG.nine.2.2.1, BG.nine.2.2.2.1, BG.nine.2.2.2.2.1, BG.nine.2.2.2.2.2.1, BG.nine.2.2.2.2.2.2.1, BG.nine.2.2.2.2.2.2.2.1, BG.nine.2.2.2.2.2.2.2.2.1, BT.tri.1, BT.tri.2.1, BT.tri.2.2.1⟩ (fun hHeld => ?_)
        clear hHeld
        generalize w3.drew = vd4 at *
        have hHeld : vd4.cell? ⟨w.heap.size, 0, none⟩ = some (.int .i64 p) ∧ vd4.cell? ⟨w.heap.size, 1, none⟩ = some (.int .i64 c) ∧ vd4.cell? ⟨w.heap.size, 2, none⟩ = some (.int .i64 h) ∧ vd4.cell? ⟨w.heap.size, 3, none⟩ = some (.int .i64 s) ∧ vd4.cell? ⟨(w.heap.size + 1), 0, none⟩ = some (.slice a1 n1 c1) ∧ vd4.cell? ⟨(w.heap.size + 1), 1, none⟩ = some (.slice a2 n2 c2) ∧ vd4.cell? ⟨(w.heap.size + 1), 2, none⟩ = some (.int .i64 pl) ∧ vd4.cell? ⟨(w.heap.size + 1), 3, none⟩ = some (.int .i64 ra) ∧ vd4.cell? ⟨(w.heap.size + 1), 4, none⟩ = some (.int .i64 rb) ∧ vd4.cell? ⟨(w.heap.size + 1), 5, none⟩ = some (.int .i64 ph) ∧ vd4.cell? ⟨(w.heap.size + 1), 6, none⟩ = some (.int .i64 wi) ∧ vd4.cell? ⟨(w.heap.size + 1), 7, none⟩ = some (.int .i64 re) ∧ vd4.cell? ⟨(w.heap.size + 1), 8, none⟩ = some (.int .i64 tu) ∧ vd4.cell? ⟨w1.heap.size, 0, none⟩ = some (.int .i64 p) ∧ vd4.cell? ⟨w1.heap.size, 1, none⟩ = some (fv 157 B1) ∧ vd4.cell? ⟨w1.heap.size, 2, none⟩ = some (fv 158 B1) := ⟨BV.four.1, BV.four.2.1, BV.four.2.2.1, BV.four.2.2.2.1, BG.nine.1, BG.nine.2.1, BG.nine.2.2.1, BG.nine.2.2.2.1, BG.nine.2.2.2.2.1, BG.nine.2.2.2.2.2.1, BG.nine.2.2.2.2.2.2.1, BG.nine.2.2.2.2.2.2.2.1, BG.nine.2.2.2.2.2.2.2.2.1, BT.tri.1, BT.tri.2.1, BT.tri.2.2.1⟩
        refine wpAnyH_take (i := 0) (oi := { dst := some 12, op := _, type := _, pos := _, after := _, guard := _ }) (v := ?_) rfl (by kernel_rfl) (by kernel_rfl) (by kernel_rfl) (fun _ _ _ h => h) (Or.inl ⟨by rfl, ?_⟩) (by assumption) ?_
        rotate_left
        · intro w hSw
          (try dsimp only at hSw)
          go_simp
          (try (with_reducible rfl))
        try simp only [Act.put, List.setIfInBounds_toArray, List.set_cons_zero, List.set_cons_succ]
        refine wpAnyH_take (i := 1) (oi := { dst := some 13, op := _, type := _, pos := _, after := _, guard := _ }) (v := ?_) rfl (by kernel_rfl) (by kernel_rfl) (by kernel_rfl) (fun _ _ _ h => h) (Or.inl ⟨by rfl, ?_⟩) (by assumption) ?_
        rotate_left
        · intro w hSw
          (try dsimp only at hSw)
          go_simp
          (try (with_reducible rfl))
        try simp only [Act.put, List.setIfInBounds_toArray, List.set_cons_zero, List.set_cons_succ]
        refine wpAnyH_take (i := 2) (oi := { dst := some 14, op := _, type := _, pos := _, after := _, guard := _ }) (v := ?_) rfl (by kernel_rfl) (by kernel_rfl) (by kernel_rfl) (fun _ _ _ h => h) (Or.inl ⟨by rfl, ?_⟩) (by assumption) ?_
        rotate_left
        · intro w hSw
          (try dsimp only at hSw)
          go_simp
          (try (with_reducible rfl))
        try simp only [Act.put, List.setIfInBounds_toArray, List.set_cons_zero, List.set_cons_succ]
        refine wpAnyH_ready (rs := [3]) (by kernel_rfl) (by simp) ?_
        refine AllReadyH.cons (o := { dst := some 15, op := _, type := _, pos := _, after := _, guard := _ }) rfl (fun K hK => ?_) AllReadyH.nil
        go_simp
        refine (HL.out _ B1 q1).mono ?_
        rintro e w5 ⟨rfl, hb5⟩
        replace BV := BV.below hb5
        replace BG := BG.below hb5
        replace r1 := r1.below hb5
        replace r2 := r2.below hb5
        replace q1 := q1.below hb5
        replace q2 := q2.below hb5
        replace BT := BT.below hb5
        have hz5 := hb5.size
        replace hb := chain hb hb5
        clear hb5
        (try go_wp2_with fail)
        refine hK.out _ _ ⟨BV.four.1, BV.four.2.1, BV.four.2.2.1, BV.four.2.2.2.1, BG.nine.1, BG.nine.2.1, BG.nine.2.2.1, BG.nine.2.2.2.1, BG.nine.2.2.2.2.1, BG.nine.2.2.2.2.2.1, BG.nine.2.2.2.2.2.2.1, BG.nine.2.2.2.2.2.2.2.1, BG.nine.2.2.2.2.2.2.2.2.1, BT.tri.1, BT.tri.2.1, BT.tri.2.2.1⟩ (fun hHeld => ?_)
        clear hK K
        try simp only [Act.put, List.setIfInBounds_toArray, List.set_cons_zero, List.set_cons_succ]
        refine wpAnyH_take (i := 4) (oi := { dst := some 16, op := _, type := _, pos := _, after := _, guard := _ }) (v := ?_) rfl (by kernel_rfl) (by kernel_rfl) (by kernel_rfl) (fun _ _ _ h => h) (Or.inl ⟨by rfl, ?_⟩) (by assumption) ?_
        rotate_left
        · intro w hSw
          (try dsimp only at hSw)
          go_simp
          (try (with_reducible rfl))
        try simp only [Act.put, List.setIfInBounds_toArray, List.set_cons_zero, List.set_cons_succ]
        refine wpAnyH_take (i := 5) (oi := { dst := some 17, op := _, type := _, pos := _, after := _, guard := _ }) (v := ?_) rfl (by kernel_rfl) (by kernel_rfl) (by kernel_rfl) (fun _ _ _ h => h) (Or.inl ⟨by rfl, ?_⟩) (by assumption) ?_
        rotate_left
        · intro w hSw
          (try dsimp only at hSw)
          go_simp
          (try (with_reducible rfl))
        try simp only [Act.put, List.setIfInBounds_toArray, List.set_cons_zero, List.set_cons_succ]
        refine wpAnyH_take (i := 6) (oi := { dst := some 18, op := _, type := _, pos := _, after := _, guard := _ }) (v := ?_) rfl (by kernel_rfl) (by kernel_rfl) (by kernel_rfl) (fun _ _ _ h => h) (Or.inl ⟨by rfl, ?_⟩) (by assumption) ?_
        rotate_left
        · intro w hSw
          (try dsimp only at hSw)
          go_simp
          (try (with_reducible rfl))
        try simp only [Act.put, List.setIfInBounds_toArray, List.set_cons_zero, List.set_cons_succ]
        refine wpAnyH_take (i := 7) (oi := { dst := some 19, op := _, type := _, pos := _, after := _, guard := _ }) (v := ?_) rfl (by kernel_rfl) (by kernel_rfl) (by kernel_rfl) (fun _ _ _ h => h) (Or.inl ⟨by rfl, ?_⟩) (by assumption) ?_
        rotate_left
        · intro w hSw
          (try dsimp only at hSw)
          go_simp
          (try (with_reducible rfl))
        try simp only [Act.put, List.setIfInBounds_toArray, List.set_cons_zero, List.set_cons_succ]
        refine wpAnyH_take (i := 8) (oi := { dst := some 20, op := _, type := _, pos := _, after := _, guard := _ }) (v := ?_) rfl (by kernel_rfl) (by kernel_rfl) (by kernel_rfl) (fun _ _ _ h => h) (Or.inl ⟨by rfl, ?_⟩) (by assumption) ?_
        rotate_left
        · intro w hSw
          (try dsimp only at hSw)
          go_simp
          (try (with_reducible rfl))
        try simp only [Act.put, List.setIfInBounds_toArray, List.set_cons_zero, List.set_cons_succ]
        refine wpAnyH_take (i := 9) (oi := { dst := some 21, op := _, type := _, pos := _, after := _, guard := _ }) (v := ?_) rfl (by kernel_rfl) (by kernel_rfl) (by kernel_rfl) (fun _ _ _ h => h) (Or.inl ⟨by rfl, ?_⟩) (by assumption) ?_
        rotate_left
        · intro w hSw
          (try dsimp only at hSw)
          go_simp
          (try (with_reducible rfl))
        try simp only [Act.put, List.setIfInBounds_toArray, List.set_cons_zero, List.set_cons_succ]
        refine wpAnyH_take (i := 10) (oi := { dst := some 22, op := _, type := _, pos := _, after := _, guard := _ }) (v := ?_) rfl (by kernel_rfl) (by kernel_rfl) (by kernel_rfl) (fun _ _ _ h => h) (Or.inl ⟨by rfl, ?_⟩) (by assumption) ?_
        rotate_left
        · intro w hSw
          (try dsimp only at hSw)
          go_simp
          (try (with_reducible rfl))
        try simp only [Act.put, List.setIfInBounds_toArray, List.set_cons_zero, List.set_cons_succ]
        refine wpAnyH_take (i := 11) (oi := { dst := some 23, op := _, type := _, pos := _, after := _, guard := _ }) (v := ?_) rfl (by kernel_rfl) (by kernel_rfl) (by kernel_rfl) (fun _ _ _ h => h) (Or.inl ⟨by rfl, ?_⟩) (by assumption) ?_
        rotate_left
        · intro w hSw
          (try dsimp only at hSw)
          go_simp
          (try (with_reducible rfl))
        try simp only [Act.put, List.setIfInBounds_toArray, List.set_cons_zero, List.set_cons_succ]
        refine wpAnyH_take (i := 12) (oi := { dst := some 24, op := _, type := _, pos := _, after := _, guard := _ }) (v := ?_) rfl (by kernel_rfl) (by kernel_rfl) (by kernel_rfl) (fun _ _ _ h => h) (Or.inl ⟨by rfl, ?_⟩) (by assumption) ?_
        rotate_left
        · intro w hSw
          (try dsimp only at hSw)
          go_simp
          (try (with_reducible rfl))
        try simp only [Act.put, List.setIfInBounds_toArray, List.set_cons_zero, List.set_cons_succ]
        refine wpAnyH_take (i := 13) (oi := { dst := some 25, op := _, type := _, pos := _, after := _, guard := _ }) (v := ?_) rfl (by kernel_rfl) (by kernel_rfl) (by kernel_rfl) (fun _ _ _ h => h) (Or.inl ⟨by rfl, ?_⟩) (by assumption) ?_
        rotate_left
        · intro w hSw
          (try dsimp only at hSw)
          go_simp
          (try (with_reducible rfl))
        try simp only [Act.put, List.setIfInBounds_toArray, List.set_cons_zero, List.set_cons_succ]
        refine wpAnyH_take (i := 14) (oi := { dst := some 26, op := _, type := _, pos := _, after := _, guard := _ }) (v := ?_) rfl (by kernel_rfl) (by kernel_rfl) (by kernel_rfl) (fun _ _ _ h => h) (Or.inl ⟨by rfl, ?_⟩) (by assumption) ?_
        rotate_left
        · intro w hSw
          (try dsimp only at hSw)
          go_simp
          (try (with_reducible rfl))
        try simp only [Act.put, List.setIfInBounds_toArray, List.set_cons_zero, List.set_cons_succ]
        refine wpAnyH_take (i := 15) (oi := { dst := some 27, op := _, type := _, pos := _, after := _, guard := _ }) (v := ?_) rfl (by kernel_rfl) (by kernel_rfl) (by kernel_rfl) (fun _ _ _ h => h) (Or.inl ⟨by rfl, ?_⟩) (by assumption) ?_
        rotate_left
        · intro w hSw
          (try dsimp only at hSw)
          go_simp
          (try (with_reducible rfl))
        try simp only [Act.put, List.setIfInBounds_toArray, List.set_cons_zero, List.set_cons_succ]
        refine wpAnyH_take (i := 17) (oi := { dst := some 29, op := _, type := _, pos := _, after := _, guard := _ }) (v := ?_) rfl (by kernel_rfl) (by kernel_rfl) (by kernel_rfl) (fun _ _ _ h => h) (Or.inl ⟨by rfl, ?_⟩) (by assumption) ?_
        rotate_left
        · intro w hSw
          (try dsimp only at hSw)
          go_simp
          (try (with_reducible rfl))
        try simp only [Act.put, List.setIfInBounds_toArray, List.set_cons_zero, List.set_cons_succ]
        refine wpAnyH_take (i := 18) (oi := { dst := some 30, op := _, type := _, pos := _, after := _, guard := _ }) (v := ?_) rfl (by kernel_rfl) (by kernel_rfl) (by kernel_rfl) (fun _ _ _ h => h) (Or.inl ⟨by rfl, ?_⟩) (by assumption) ?_
        rotate_left
        · intro w hSw
          (try dsimp only at hSw)
          go_simp
          (try (with_reducible rfl))
        try simp only [Act.put, List.setIfInBounds_toArray, List.set_cons_zero, List.set_cons_succ]
        refine wpAnyH_ready (rs := [16]) (by kernel_rfl) (by simp) ?_
        refine AllReadyH.cons (o := { dst := some 28, op := _, type := _, pos := _, after := _, guard := _ }) rfl (fun K hK => ?_) AllReadyH.nil
        go_simp
        refine (judge_any p c h s _).mono ?_
        rintro e w6 ⟨BJ, rfl, hBJ, bj, hb6⟩
        replace BV := BV.below hb6
        replace BG := BG.below hb6
        replace r1 := r1.below hb6
        replace r2 := r2.below hb6
        replace q1 := q1.below hb6
        replace q2 := q2.below hb6
        replace BT := BT.below hb6
        have hz6 := hb6.size
        replace hb := chain hb hb6
        clear hb6
        (try go_wp2_with fail)
        refine hK.out _ _ ⟨BV.four.1, BV.four.2.1, BV.four.2.2.1, BV.four.2.2.2.1, BG.nine.1, BG.nine.2.1, BG.nine.2.2.1, BG.nine.2.2.2.1, BG.nine.2.2.2.2.1, BG.nine.2.2.2.2.2.1, BG.nine.2.2.2.2.2.2.1, BG.nine.2.2.2.2.2.2.2.1, BG.nine.2.2.2.2.2.2.2.2.1, BT.tri.1, BT.tri.2.1, BT.tri.2.2.1⟩ (fun hHeld => ?_)
        clear hK K
        try simp only [Act.put, List.setIfInBounds_toArray, List.set_cons_zero, List.set_cons_succ]
        refine wpAnyH_ready (rs := [19]) (by kernel_rfl) (by simp) ?_
        refine AllReadyH.cons (o := { dst := some 31, op := _, type := _, pos := _, after := _, guard := _ }) rfl (fun K hK => ?_) AllReadyH.nil
        go_simp
        refine (HJ.out _ BJ r1 r2 bj).mono ?_
        rintro e w7 ⟨rfl, hb7⟩
        replace BV := BV.below hb7
        replace BG := BG.below hb7
        replace r1 := r1.below hb7
        replace r2 := r2.below hb7
        replace q1 := q1.below hb7
        replace q2 := q2.below hb7
        replace BT := BT.below hb7
        have hz7 := hb7.size
        replace hb := chain hb hb7
        clear hb7
        (try go_wp2_with fail)
        refine hK.out _ _ ⟨BV.four.1, BV.four.2.1, BV.four.2.2.1, BV.four.2.2.2.1, BG.nine.1, BG.nine.2.1, BG.nine.2.2.1, BG.nine.2.2.2.1, BG.nine.2.2.2.2.1, BG.nine.2.2.2.2.2.1, BG.nine.2.2.2.2.2.2.1, BG.nine.2.2.2.2.2.2.2.1, BG.nine.2.2.2.2.2.2.2.2.1, BT.tri.1, BT.tri.2.1, BT.tri.2.2.1⟩ (fun hHeld => ?_)
        clear hK K
        try simp only [Act.put, List.setIfInBounds_toArray, List.set_cons_zero, List.set_cons_succ]
        refine wpAnyH_take (i := 20) (oi := { dst := some 32, op := _, type := _, pos := _, after := _, guard := _ }) (v := ?_) rfl (by kernel_rfl) (by kernel_rfl) (by kernel_rfl) (fun _ _ _ h => h) (Or.inl ⟨by rfl, ?_⟩) (by assumption) ?_
        rotate_left
        · intro w hSw
          (try dsimp only at hSw)
          go_simp
          (try (with_reducible rfl))
        try simp only [Act.put, List.setIfInBounds_toArray, List.set_cons_zero, List.set_cons_succ]
        refine wpAnyH_take (i := 21) (oi := { dst := some 33, op := _, type := _, pos := _, after := _, guard := _ }) (v := ?_) rfl (by kernel_rfl) (by kernel_rfl) (by kernel_rfl) (fun _ _ _ h => h) (Or.inl ⟨by rfl, ?_⟩) (by assumption) ?_
        rotate_left
        · intro w hSw
          (try dsimp only at hSw)
          go_simp
          (try (with_reducible rfl))
        try simp only [Act.put, List.setIfInBounds_toArray, List.set_cons_zero, List.set_cons_succ]
        refine wpAnyH_take (i := 22) (oi := { dst := some 4, op := _, type := _, pos := _, after := _, guard := _ }) (v := ?_) rfl (by kernel_rfl) (by kernel_rfl) (by kernel_rfl) (fun _ _ _ h => h) (Or.inl ⟨by rfl, ?_⟩) (by assumption) ?_
        rotate_left
        · intro w hSw
          (try dsimp only at hSw)
          go_simp
          (try (with_reducible rfl))
        try simp only [Act.put, List.setIfInBounds_toArray, List.set_cons_zero, List.set_cons_succ]
        refine wpAnyH_done (by kernel_rfl) ?_ _
        clear hHeld
        obtain ⟨q0_BV, q1_BV, q2_BV, q3_BV, qf_BV, ql_BV⟩ := BV.four
        obtain ⟨q0_BG, q1_BG, q2_BG, q3_BG, q4_BG, q5_BG, q6_BG, q7_BG, q8_BG, qf_BG, ql_BG⟩ := BG.nine
        obtain ⟨q0_BT, q1_BT, q2_BT, qf_BT, ql_BT⟩ := BT.tri
        go_wp2_with fail
        go_ret
        exact ⟨rfl, hb⟩
      · have f1 : (wi == pl) = false := by rw [beq_eq_false_iff_ne]; exact e1
        rw [f1, Bool.false_and]
        clear e1
        go_enter Try.func167, Try.ntmps167
        obtain ⟨x0, x1, x2, x3, xf, xl⟩ := BV.four
        obtain ⟨ga0, ga1, ga2, ga3, ga4, ga5, ga6, ga7, ga8, gaf, gal⟩ := BG.nine
        go_wp2_with fail
        clear x0 x1 x2 x3 xf xl
        clear ga0 ga1 ga2 ga3 ga4 ga5 ga6 ga7 ga8 gaf gal
        generalize ((w.alloc (.cells #[.int .i64 p, .int .i64 c, .int .i64 h, .int .i64 s] 32)).alloc (.cells #[.slice a1 n1 c1, .slice a2 n2 c2, .int .i64 pl, .int .i64 ra, .int .i64 rb, .int .i64 ph, .int .i64 wi, .int .i64 re, .int .i64 tu] 70)) = v0 at *
        obtain ⟨q0_BV, q1_BV, q2_BV, q3_BV, qf_BV, ql_BV⟩ := BV.four
        obtain ⟨q0_BG, q1_BG, q2_BG, q3_BG, q4_BG, q5_BG, q6_BG, q7_BG, q8_BG, qf_BG, ql_BG⟩ := BG.nine
        go_wp2_with fail
        clear q0_BV q1_BV q2_BV q3_BV qf_BV ql_BV
        clear q0_BG q1_BG q2_BG q3_BG q4_BG q5_BG q6_BG q7_BG q8_BG qf_BG ql_BG
        refine (countsOf_any p c h s a1 a2 n1 c1 n2 c2 xs ys _ h1 h2 r1 r2).mono ?_
        rintro e w1 ⟨B1, rfl, q1, q2, hb1⟩
        replace BV := BV.below hb1
        replace BG := BG.below hb1
        replace r1 := r1.below hb1
        replace r2 := r2.below hb1
        have hz1 := hb1.size
        replace hb := chain hb hb1
        clear hb1
        have BT := Blk.new w1 #[.int .i64 p, fv 157 B1, fv 158 B1] 151
        have hal2 : Below w1.heap.size w1 (w1.alloc (.cells #[.int .i64 p, fv 157 B1, fv 158 B1] 151)) := (Below.refl _ _).alloc (Nat.le_refl _) _
        have hz2 : (w1.alloc (.cells #[.int .i64 p, fv 157 B1, fv 158 B1] 151)).heap.size = w1.heap.size + 1 := by simp
        replace BV := BV.below hal2
        replace BG := BG.below hal2
        replace r1 := r1.below hal2
        replace r2 := r2.below hal2
        replace q1 := q1.below hal2
        replace q2 := q2.below hal2
        replace hb := chain hb hal2
        clear hal2
        obtain ⟨q0_BV, q1_BV, q2_BV, q3_BV, qf_BV, ql_BV⟩ := BV.four
        obtain ⟨q0_BG, q1_BG, q2_BG, q3_BG, q4_BG, q5_BG, q6_BG, q7_BG, q8_BG, qf_BG, ql_BG⟩ := BG.nine
        obtain ⟨q0_BT, q1_BT, q2_BT, qf_BT, ql_BT⟩ := BT.tri
        go_wp2_with fail
        clear q0_BV q1_BV q2_BV q3_BV qf_BV ql_BV
        clear q0_BG q1_BG q2_BG q3_BG q4_BG q5_BG q6_BG q7_BG q8_BG qf_BG ql_BG
        clear q0_BT q1_BT q2_BT qf_BT ql_BT
        generalize (w1.alloc (.cells #[.int .i64 p, fv 157 B1, fv 158 B1] 151)) = w2 at *
        obtain ⟨q0_BV, q1_BV, q2_BV, q3_BV, qf_BV, ql_BV⟩ := BV.four
        obtain ⟨q0_BG, q1_BG, q2_BG, q3_BG, q4_BG, q5_BG, q6_BG, q7_BG, q8_BG, qf_BG, ql_BG⟩ := BG.nine
        obtain ⟨q0_BT, q1_BT, q2_BT, qf_BT, ql_BT⟩ := BT.tri
        go_wp2_with fail
        clear q0_BV q1_BV q2_BV q3_BV qf_BV ql_BV
        clear q0_BG q1_BG q2_BG q3_BG q4_BG q5_BG q6_BG q7_BG q8_BG qf_BG ql_BG
        clear q0_BT q1_BT q2_BT qf_BT ql_BT
        refine (HO.out _ B1 q1 q2).mono ?_
        rintro e w3 ⟨rfl, hb3⟩
        replace BV := BV.below hb3
        replace BG := BG.below hb3
        replace r1 := r1.below hb3
        replace r2 := r2.below hb3
        replace q1 := q1.below hb3
        replace q2 := q2.below hb3
        replace BT := BT.below hb3
        have hz3 := hb3.size
        replace hb := chain hb hb3
        clear hb3
        obtain ⟨q0_BV, q1_BV, q2_BV, q3_BV, qf_BV, ql_BV⟩ := BV.four
        obtain ⟨q0_BG, q1_BG, q2_BG, q3_BG, q4_BG, q5_BG, q6_BG, q7_BG, q8_BG, qf_BG, ql_BG⟩ := BG.nine
        obtain ⟨q0_BT, q1_BT, q2_BT, qf_BT, ql_BT⟩ := BT.tri
        go_wp2_with fail
        clear q0_BV q1_BV q2_BV q3_BV qf_BV ql_BV
        clear q0_BG q1_BG q2_BG q3_BG q4_BG q5_BG q6_BG q7_BG q8_BG qf_BG ql_BG
        clear q0_BT q1_BT q2_BT qf_BT ql_BT
        have hd4 : w3.drew.heap.size = w3.heap.size := rfl
        replace BV := BV.drew
        replace BG := BG.drew
        replace r1 := r1.drew
        replace r2 := r2.drew
        replace q1 := q1.drew
        replace q2 := q2.drew
        replace BT := BT.drew
        replace hb := hb.drew
        refine wp_region_held_drew (S := fun w' => w'.cell? ⟨w.heap.size, 0, none⟩ = some (.int .i64 p) ∧ w'.cell? ⟨w.heap.size, 1, none⟩ = some (.int .i64 c) ∧ w'.cell? ⟨w.heap.size, 2, none⟩ = some (.int .i64 h) ∧ w'.cell? ⟨w.heap.size, 3, none⟩ = some (.int .i64 s) ∧ w'.cell? ⟨(w.heap.size + 1), 0, none⟩ = some (.slice a1 n1 c1) ∧ w'.cell? ⟨(w.heap.size + 1), 1, none⟩ = some (.slice a2 n2 c2) ∧ w'.cell? ⟨(w.heap.size + 1), 2, none⟩ = some (.int .i64 pl) ∧ w'.cell? ⟨(w.heap.size + 1), 3, none⟩ = some (.int .i64 ra) ∧ w'.cell? ⟨(w.heap.size + 1), 4, none⟩ = some (.int .i64 rb) ∧ w'.cell? ⟨(w.heap.size + 1), 5, none⟩ = some (.int .i64 ph) ∧ w'.cell? ⟨(w.heap.size + 1), 6, none⟩ = some (.int .i64 wi) ∧ w'.cell? ⟨(w.heap.size + 1), 7, none⟩ = some (.int .i64 re) ∧ w'.cell? ⟨(w.heap.size + 1), 8, none⟩ = some (.int .i64 tu) ∧ w'.cell? ⟨w1.heap.size, 0, none⟩ = some (.int .i64 p) ∧ w'.cell? ⟨w1.heap.size, 1, none⟩ = some (fv 157 B1) ∧ w'.cell? ⟨w1.heap.size, 2, none⟩ = some (fv 158 B1)) (by kernel_rfl) ⟨BV.four.1, BV.four.2.1, BV.four.2.2.1, BV.four.2.2.2.1, BG.nine.1, BG.nine.2.1, BG.nine.2.2.1, BG.nine.2.2.2.1, BG.nine.2.2.2.2.1, BG.nine.2.2.2.2.2.1, BG.nine.2.2.2.2.2.2.1, BG.nine.2.2.2.2.2.2.2.1, BG.nine.2.2.2.2.2.2.2.2.1, BT.tri.1, BT.tri.2.1, BT.tri.2.2.1⟩ (fun hHeld => ?_)
        clear hHeld
        generalize w3.drew = vd4 at *
        have hHeld : vd4.cell? ⟨w.heap.size, 0, none⟩ = some (.int .i64 p) ∧ vd4.cell? ⟨w.heap.size, 1, none⟩ = some (.int .i64 c) ∧ vd4.cell? ⟨w.heap.size, 2, none⟩ = some (.int .i64 h) ∧ vd4.cell? ⟨w.heap.size, 3, none⟩ = some (.int .i64 s) ∧ vd4.cell? ⟨(w.heap.size + 1), 0, none⟩ = some (.slice a1 n1 c1) ∧ vd4.cell? ⟨(w.heap.size + 1), 1, none⟩ = some (.slice a2 n2 c2) ∧ vd4.cell? ⟨(w.heap.size + 1), 2, none⟩ = some (.int .i64 pl) ∧ vd4.cell? ⟨(w.heap.size + 1), 3, none⟩ = some (.int .i64 ra) ∧ vd4.cell? ⟨(w.heap.size + 1), 4, none⟩ = some (.int .i64 rb) ∧ vd4.cell? ⟨(w.heap.size + 1), 5, none⟩ = some (.int .i64 ph) ∧ vd4.cell? ⟨(w.heap.size + 1), 6, none⟩ = some (.int .i64 wi) ∧ vd4.cell? ⟨(w.heap.size + 1), 7, none⟩ = some (.int .i64 re) ∧ vd4.cell? ⟨(w.heap.size + 1), 8, none⟩ = some (.int .i64 tu) ∧ vd4.cell? ⟨w1.heap.size, 0, none⟩ = some (.int .i64 p) ∧ vd4.cell? ⟨w1.heap.size, 1, none⟩ = some (fv 157 B1) ∧ vd4.cell? ⟨w1.heap.size, 2, none⟩ = some (fv 158 B1) := ⟨BV.four.1, BV.four.2.1, BV.four.2.2.1, BV.four.2.2.2.1, BG.nine.1, BG.nine.2.1, BG.nine.2.2.1, BG.nine.2.2.2.1, BG.nine.2.2.2.2.1, BG.nine.2.2.2.2.2.1, BG.nine.2.2.2.2.2.2.1, BG.nine.2.2.2.2.2.2.2.1, BG.nine.2.2.2.2.2.2.2.2.1, BT.tri.1, BT.tri.2.1, BT.tri.2.2.1⟩
        refine wpAnyH_take (i := 0) (oi := { dst := some 12, op := _, type := _, pos := _, after := _, guard := _ }) (v := ?_) rfl (by kernel_rfl) (by kernel_rfl) (by kernel_rfl) (fun _ _ _ h => h) (Or.inl ⟨by rfl, ?_⟩) (by assumption) ?_
        rotate_left
        · intro w hSw
          (try dsimp only at hSw)
          go_simp
          (try (with_reducible rfl))
        try simp only [Act.put, List.setIfInBounds_toArray, List.set_cons_zero, List.set_cons_succ]
        refine wpAnyH_take (i := 1) (oi := { dst := some 13, op := _, type := _, pos := _, after := _, guard := _ }) (v := ?_) rfl (by kernel_rfl) (by kernel_rfl) (by kernel_rfl) (fun _ _ _ h => h) (Or.inl ⟨by rfl, ?_⟩) (by assumption) ?_
        rotate_left
        · intro w hSw
          (try dsimp only at hSw)
          go_simp
          (try (with_reducible rfl))
        try simp only [Act.put, List.setIfInBounds_toArray, List.set_cons_zero, List.set_cons_succ]
        refine wpAnyH_take (i := 2) (oi := { dst := some 14, op := _, type := _, pos := _, after := _, guard := _ }) (v := ?_) rfl (by kernel_rfl) (by kernel_rfl) (by kernel_rfl) (fun _ _ _ h => h) (Or.inl ⟨by rfl, ?_⟩) (by assumption) ?_
        rotate_left
        · intro w hSw
          (try dsimp only at hSw)
          go_simp
          (try (with_reducible rfl))
        try simp only [Act.put, List.setIfInBounds_toArray, List.set_cons_zero, List.set_cons_succ]
        refine wpAnyH_ready (rs := [3]) (by kernel_rfl) (by simp) ?_
        refine AllReadyH.cons (o := { dst := some 15, op := _, type := _, pos := _, after := _, guard := _ }) rfl (fun K hK => ?_) AllReadyH.nil
        go_simp
        refine (HL.out _ B1 q1).mono ?_
        rintro e w5 ⟨rfl, hb5⟩
        replace BV := BV.below hb5
        replace BG := BG.below hb5
        replace r1 := r1.below hb5
        replace r2 := r2.below hb5
        replace q1 := q1.below hb5
        replace q2 := q2.below hb5
        replace BT := BT.below hb5
        have hz5 := hb5.size
        replace hb := chain hb hb5
        clear hb5
        (try go_wp2_with fail)
        refine hK.out _ _ ⟨BV.four.1, BV.four.2.1, BV.four.2.2.1, BV.four.2.2.2.1, BG.nine.1, BG.nine.2.1, BG.nine.2.2.1, BG.nine.2.2.2.1, BG.nine.2.2.2.2.1, BG.nine.2.2.2.2.2.1, BG.nine.2.2.2.2.2.2.1, BG.nine.2.2.2.2.2.2.2.1, BG.nine.2.2.2.2.2.2.2.2.1, BT.tri.1, BT.tri.2.1, BT.tri.2.2.1⟩ (fun hHeld => ?_)
        clear hK K
        try simp only [Act.put, List.setIfInBounds_toArray, List.set_cons_zero, List.set_cons_succ]
        refine wpAnyH_take (i := 4) (oi := { dst := some 16, op := _, type := _, pos := _, after := _, guard := _ }) (v := ?_) rfl (by kernel_rfl) (by kernel_rfl) (by kernel_rfl) (fun _ _ _ h => h) (Or.inl ⟨by rfl, ?_⟩) (by assumption) ?_
        rotate_left
        · intro w hSw
          (try dsimp only at hSw)
          go_simp
          (try (with_reducible rfl))
        try simp only [Act.put, List.setIfInBounds_toArray, List.set_cons_zero, List.set_cons_succ]
        refine wpAnyH_take (i := 5) (oi := { dst := some 17, op := _, type := _, pos := _, after := _, guard := _ }) (v := ?_) rfl (by kernel_rfl) (by kernel_rfl) (by kernel_rfl) (fun _ _ _ h => h) (Or.inl ⟨by rfl, ?_⟩) (by assumption) ?_
        rotate_left
        · intro w hSw
          (try dsimp only at hSw)
          go_simp
          (try (with_reducible rfl))
        try simp only [Act.put, List.setIfInBounds_toArray, List.set_cons_zero, List.set_cons_succ]
        refine wpAnyH_take (i := 6) (oi := { dst := some 18, op := _, type := _, pos := _, after := _, guard := _ }) (v := ?_) rfl (by kernel_rfl) (by kernel_rfl) (by kernel_rfl) (fun _ _ _ h => h) (Or.inl ⟨by rfl, ?_⟩) (by assumption) ?_
        rotate_left
        · intro w hSw
          (try dsimp only at hSw)
          go_simp
          (try (with_reducible rfl))
        try simp only [Act.put, List.setIfInBounds_toArray, List.set_cons_zero, List.set_cons_succ]
        refine wpAnyH_take (i := 7) (oi := { dst := some 19, op := _, type := _, pos := _, after := _, guard := _ }) (v := ?_) rfl (by kernel_rfl) (by kernel_rfl) (by kernel_rfl) (fun _ _ _ h => h) (Or.inl ⟨by rfl, ?_⟩) (by assumption) ?_
        rotate_left
        · intro w hSw
          (try dsimp only at hSw)
          go_simp
          (try (with_reducible rfl))
        try simp only [Act.put, List.setIfInBounds_toArray, List.set_cons_zero, List.set_cons_succ]
        refine wpAnyH_take (i := 8) (oi := { dst := some 20, op := _, type := _, pos := _, after := _, guard := _ }) (v := ?_) rfl (by kernel_rfl) (by kernel_rfl) (by kernel_rfl) (fun _ _ _ h => h) (Or.inl ⟨by rfl, ?_⟩) (by assumption) ?_
        rotate_left
        · intro w hSw
          (try dsimp only at hSw)
          go_simp
          (try (with_reducible rfl))
        try simp only [Act.put, List.setIfInBounds_toArray, List.set_cons_zero, List.set_cons_succ]
        refine wpAnyH_take (i := 9) (oi := { dst := some 21, op := _, type := _, pos := _, after := _, guard := _ }) (v := ?_) rfl (by kernel_rfl) (by kernel_rfl) (by kernel_rfl) (fun _ _ _ h => h) (Or.inl ⟨by rfl, ?_⟩) (by assumption) ?_
        rotate_left
        · intro w hSw
          (try dsimp only at hSw)
          go_simp
          (try (with_reducible rfl))
        try simp only [Act.put, List.setIfInBounds_toArray, List.set_cons_zero, List.set_cons_succ]
        refine wpAnyH_take (i := 10) (oi := { dst := some 22, op := _, type := _, pos := _, after := _, guard := _ }) (v := ?_) rfl (by kernel_rfl) (by kernel_rfl) (by kernel_rfl) (fun _ _ _ h => h) (Or.inl ⟨by rfl, ?_⟩) (by assumption) ?_
        rotate_left
        · intro w hSw
          (try dsimp only at hSw)
          go_simp
          (try (with_reducible rfl))
        try simp only [Act.put, List.setIfInBounds_toArray, List.set_cons_zero, List.set_cons_succ]
        refine wpAnyH_take (i := 11) (oi := { dst := some 23, op := _, type := _, pos := _, after := _, guard := _ }) (v := ?_) rfl (by kernel_rfl) (by kernel_rfl) (by kernel_rfl) (fun _ _ _ h => h) (Or.inl ⟨by rfl, ?_⟩) (by assumption) ?_
        rotate_left
        · intro w hSw
          (try dsimp only at hSw)
          go_simp
          (try (with_reducible rfl))
        try simp only [Act.put, List.setIfInBounds_toArray, List.set_cons_zero, List.set_cons_succ]
        refine wpAnyH_take (i := 12) (oi := { dst := some 24, op := _, type := _, pos := _, after := _, guard := _ }) (v := ?_) rfl (by kernel_rfl) (by kernel_rfl) (by kernel_rfl) (fun _ _ _ h => h) (Or.inl ⟨by rfl, ?_⟩) (by assumption) ?_
        rotate_left
        · intro w hSw
          (try dsimp only at hSw)
          go_simp
          (try (with_reducible rfl))
        try simp only [Act.put, List.setIfInBounds_toArray, List.set_cons_zero, List.set_cons_succ]
        refine wpAnyH_take (i := 13) (oi := { dst := some 25, op := _, type := _, pos := _, after := _, guard := _ }) (v := undef) rfl (by kernel_rfl) (by kernel_rfl) (by kernel_rfl) (fun _ _ _ h => h) (Or.inr ⟨by rfl, rfl⟩) (by assumption) ?_
        try simp only [Act.put, List.setIfInBounds_toArray, List.set_cons_zero, List.set_cons_succ]
        refine wpAnyH_take (i := 14) (oi := { dst := some 26, op := _, type := _, pos := _, after := _, guard := _ }) (v := undef) rfl (by kernel_rfl) (by kernel_rfl) (by kernel_rfl) (fun _ _ _ h => h) (Or.inr ⟨by rfl, rfl⟩) (by assumption) ?_
        try simp only [Act.put, List.setIfInBounds_toArray, List.set_cons_zero, List.set_cons_succ]
        refine wpAnyH_take (i := 15) (oi := { dst := some 27, op := _, type := _, pos := _, after := _, guard := _ }) (v := undef) rfl (by kernel_rfl) (by kernel_rfl) (by kernel_rfl) (fun _ _ _ h => h) (Or.inr ⟨by rfl, rfl⟩) (by assumption) ?_
        try simp only [Act.put, List.setIfInBounds_toArray, List.set_cons_zero, List.set_cons_succ]
        refine wpAnyH_take (i := 16) (oi := { dst := some 28, op := _, type := _, pos := _, after := _, guard := _ }) (v := undef) rfl (by kernel_rfl) (by kernel_rfl) (by kernel_rfl) (fun _ _ _ h => h) (Or.inr ⟨by rfl, rfl⟩) (by assumption) ?_
        try simp only [Act.put, List.setIfInBounds_toArray, List.set_cons_zero, List.set_cons_succ]
        refine wpAnyH_take (i := 17) (oi := { dst := some 29, op := _, type := _, pos := _, after := _, guard := _ }) (v := undef) rfl (by kernel_rfl) (by kernel_rfl) (by kernel_rfl) (fun _ _ _ h => h) (Or.inr ⟨by rfl, rfl⟩) (by assumption) ?_
        try simp only [Act.put, List.setIfInBounds_toArray, List.set_cons_zero, List.set_cons_succ]
        refine wpAnyH_take (i := 18) (oi := { dst := some 30, op := _, type := _, pos := _, after := _, guard := _ }) (v := undef) rfl (by kernel_rfl) (by kernel_rfl) (by kernel_rfl) (fun _ _ _ h => h) (Or.inr ⟨by rfl, rfl⟩) (by assumption) ?_
        try simp only [Act.put, List.setIfInBounds_toArray, List.set_cons_zero, List.set_cons_succ]
        refine wpAnyH_take (i := 19) (oi := { dst := some 31, op := _, type := _, pos := _, after := _, guard := _ }) (v := undef) rfl (by kernel_rfl) (by kernel_rfl) (by kernel_rfl) (fun _ _ _ h => h) (Or.inr ⟨by rfl, rfl⟩) (by assumption) ?_
        try simp only [Act.put, List.setIfInBounds_toArray, List.set_cons_zero, List.set_cons_succ]
        refine wpAnyH_take (i := 20) (oi := { dst := some 32, op := _, type := _, pos := _, after := _, guard := _ }) (v := undef) rfl (by kernel_rfl) (by kernel_rfl) (by kernel_rfl) (fun _ _ _ h => h) (Or.inr ⟨by rfl, rfl⟩) (by assumption) ?_
        try simp only [Act.put, List.setIfInBounds_toArray, List.set_cons_zero, List.set_cons_succ]
        refine wpAnyH_take (i := 21) (oi := { dst := some 33, op := _, type := _, pos := _, after := _, guard := _ }) (v := ?_) rfl (by kernel_rfl) (by kernel_rfl) (by kernel_rfl) (fun _ _ _ h => h) (Or.inl ⟨by rfl, ?_⟩) (by assumption) ?_
        rotate_left
        · intro w hSw
          (try dsimp only at hSw)
          go_simp
          (try (with_reducible rfl))
        try simp only [Act.put, List.setIfInBounds_toArray, List.set_cons_zero, List.set_cons_succ]
        refine wpAnyH_take (i := 22) (oi := { dst := some 4, op := _, type := _, pos := _, after := _, guard := _ }) (v := ?_) rfl (by kernel_rfl) (by kernel_rfl) (by kernel_rfl) (fun _ _ _ h => h) (Or.inl ⟨by rfl, ?_⟩) (by assumption) ?_
        rotate_left
        · intro w hSw
          (try dsimp only at hSw)
          go_simp
          (try (with_reducible rfl))
        try simp only [Act.put, List.setIfInBounds_toArray, List.set_cons_zero, List.set_cons_succ]
        refine wpAnyH_done (by kernel_rfl) ?_ _
        clear hHeld
        obtain ⟨q0_BV, q1_BV, q2_BV, q3_BV, qf_BV, ql_BV⟩ := BV.four
        obtain ⟨q0_BG, q1_BG, q2_BG, q3_BG, q4_BG, q5_BG, q6_BG, q7_BG, q8_BG, qf_BG, ql_BG⟩ := BG.nine
        obtain ⟨q0_BT, q1_BT, q2_BT, qf_BT, ql_BT⟩ := BT.tri
        go_wp2_with fail
        go_ret
        exact ⟨rfl, hb⟩
    · have f0 : decide (u < 0) = false := by rw [decide_eq_false_iff_not]; exact e0
      rw [f0, Bool.false_and]
      go_enter Try.func167, Try.ntmps167
      obtain ⟨x0, x1, x2, x3, xf, xl⟩ := BV.four
      obtain ⟨ga0, ga1, ga2, ga3, ga4, ga5, ga6, ga7, ga8, gaf, gal⟩ := BG.nine
      go_wp2_with fail
      clear x0 x1 x2 x3 xf xl
      clear ga0 ga1 ga2 ga3 ga4 ga5 ga6 ga7 ga8 gaf gal
      generalize ((w.alloc (.cells #[.int .i64 p, .int .i64 c, .int .i64 h, .int .i64 s] 32)).alloc (.cells #[.slice a1 n1 c1, .slice a2 n2 c2, .int .i64 pl, .int .i64 ra, .int .i64 rb, .int .i64 ph, .int .i64 wi, .int .i64 re, .int .i64 tu] 70)) = v0 at *
      obtain ⟨q0_BV, q1_BV, q2_BV, q3_BV, qf_BV, ql_BV⟩ := BV.four
      obtain ⟨q0_BG, q1_BG, q2_BG, q3_BG, q4_BG, q5_BG, q6_BG, q7_BG, q8_BG, qf_BG, ql_BG⟩ := BG.nine
      go_wp2_with fail
      clear q0_BV q1_BV q2_BV q3_BV qf_BV ql_BV
      clear q0_BG q1_BG q2_BG q3_BG q4_BG q5_BG q6_BG q7_BG q8_BG qf_BG ql_BG
      refine (countsOf_any p c h s a1 a2 n1 c1 n2 c2 xs ys _ h1 h2 r1 r2).mono ?_
      rintro e w1 ⟨B1, rfl, q1, q2, hb1⟩
      replace BV := BV.below hb1
      replace BG := BG.below hb1
      replace r1 := r1.below hb1
      replace r2 := r2.below hb1
      have hz1 := hb1.size
      replace hb := chain hb hb1
      clear hb1
      have BT := Blk.new w1 #[.int .i64 p, fv 157 B1, fv 158 B1] 151
      have hal2 : Below w1.heap.size w1 (w1.alloc (.cells #[.int .i64 p, fv 157 B1, fv 158 B1] 151)) := (Below.refl _ _).alloc (Nat.le_refl _) _
      have hz2 : (w1.alloc (.cells #[.int .i64 p, fv 157 B1, fv 158 B1] 151)).heap.size = w1.heap.size + 1 := by simp
      replace BV := BV.below hal2
      replace BG := BG.below hal2
      replace r1 := r1.below hal2
      replace r2 := r2.below hal2
      replace q1 := q1.below hal2
      replace q2 := q2.below hal2
      replace hb := chain hb hal2
      clear hal2
      obtain ⟨q0_BV, q1_BV, q2_BV, q3_BV, qf_BV, ql_BV⟩ := BV.four
      obtain ⟨q0_BG, q1_BG, q2_BG, q3_BG, q4_BG, q5_BG, q6_BG, q7_BG, q8_BG, qf_BG, ql_BG⟩ := BG.nine
      obtain ⟨q0_BT, q1_BT, q2_BT, qf_BT, ql_BT⟩ := BT.tri
      go_wp2_with fail
      clear q0_BV q1_BV q2_BV q3_BV qf_BV ql_BV
      clear q0_BG q1_BG q2_BG q3_BG q4_BG q5_BG q6_BG q7_BG q8_BG qf_BG ql_BG
      clear q0_BT q1_BT q2_BT qf_BT ql_BT
      generalize (w1.alloc (.cells #[.int .i64 p, fv 157 B1, fv 158 B1] 151)) = w2 at *
      obtain ⟨q0_BV, q1_BV, q2_BV, q3_BV, qf_BV, ql_BV⟩ := BV.four
      obtain ⟨q0_BG, q1_BG, q2_BG, q3_BG, q4_BG, q5_BG, q6_BG, q7_BG, q8_BG, qf_BG, ql_BG⟩ := BG.nine
      obtain ⟨q0_BT, q1_BT, q2_BT, qf_BT, ql_BT⟩ := BT.tri
      go_wp2_with fail
      clear q0_BV q1_BV q2_BV q3_BV qf_BV ql_BV
      clear q0_BG q1_BG q2_BG q3_BG q4_BG q5_BG q6_BG q7_BG q8_BG qf_BG ql_BG
      clear q0_BT q1_BT q2_BT qf_BT ql_BT
      refine (HO.out _ B1 q1 q2).mono ?_
      rintro e w3 ⟨rfl, hb3⟩
      replace BV := BV.below hb3
      replace BG := BG.below hb3
      replace r1 := r1.below hb3
      replace r2 := r2.below hb3
      replace q1 := q1.below hb3
      replace q2 := q2.below hb3
      replace BT := BT.below hb3
      have hz3 := hb3.size
      replace hb := chain hb hb3
      clear hb3
      obtain ⟨q0_BV, q1_BV, q2_BV, q3_BV, qf_BV, ql_BV⟩ := BV.four
      obtain ⟨q0_BG, q1_BG, q2_BG, q3_BG, q4_BG, q5_BG, q6_BG, q7_BG, q8_BG, qf_BG, ql_BG⟩ := BG.nine
      obtain ⟨q0_BT, q1_BT, q2_BT, qf_BT, ql_BT⟩ := BT.tri
      go_wp2_with fail
      clear q0_BV q1_BV q2_BV q3_BV qf_BV ql_BV
      clear q0_BG q1_BG q2_BG q3_BG q4_BG q5_BG q6_BG q7_BG q8_BG qf_BG ql_BG
      clear q0_BT q1_BT q2_BT qf_BT ql_BT
      have hd4 : w3.drew.heap.size = w3.heap.size := rfl
      replace BV := BV.drew
      replace BG := BG.drew
      replace r1 := r1.drew
      replace r2 := r2.drew
      replace q1 := q1.drew
      replace q2 := q2.drew
      replace BT := BT.drew
      replace hb := hb.drew
      refine wp_region_held_drew (S := fun w' => w'.cell? ⟨w.heap.size, 0, none⟩ = some (.int .i64 p) ∧ w'.cell? ⟨w.heap.size, 1, none⟩ = some (.int .i64 c) ∧ w'.cell? ⟨w.heap.size, 2, none⟩ = some (.int .i64 h) ∧ w'.cell? ⟨w.heap.size, 3, none⟩ = some (.int .i64 s) ∧ w'.cell? ⟨(w.heap.size + 1), 0, none⟩ = some (.slice a1 n1 c1) ∧ w'.cell? ⟨(w.heap.size + 1), 1, none⟩ = some (.slice a2 n2 c2) ∧ w'.cell? ⟨(w.heap.size + 1), 2, none⟩ = some (.int .i64 pl) ∧ w'.cell? ⟨(w.heap.size + 1), 3, none⟩ = some (.int .i64 ra) ∧ w'.cell? ⟨(w.heap.size + 1), 4, none⟩ = some (.int .i64 rb) ∧ w'.cell? ⟨(w.heap.size + 1), 5, none⟩ = some (.int .i64 ph) ∧ w'.cell? ⟨(w.heap.size + 1), 6, none⟩ = some (.int .i64 wi) ∧ w'.cell? ⟨(w.heap.size + 1), 7, none⟩ = some (.int .i64 re) ∧ w'.cell? ⟨(w.heap.size + 1), 8, none⟩ = some (.int .i64 tu) ∧ w'.cell? ⟨w1.heap.size, 0, none⟩ = some (.int .i64 p) ∧ w'.cell? ⟨w1.heap.size, 1, none⟩ = some (fv 157 B1) ∧ w'.cell? ⟨w1.heap.size, 2, none⟩ = some (fv 158 B1)) (by kernel_rfl) ⟨BV.four.1, BV.four.2.1, BV.four.2.2.1, BV.four.2.2.2.1, BG.nine.1, BG.nine.2.1, BG.nine.2.2.1, BG.nine.2.2.2.1, BG.nine.2.2.2.2.1, BG.nine.2.2.2.2.2.1, BG.nine.2.2.2.2.2.2.1, BG.nine.2.2.2.2.2.2.2.1, BG.nine.2.2.2.2.2.2.2.2.1, BT.tri.1, BT.tri.2.1, BT.tri.2.2.1⟩ (fun hHeld => ?_)
      clear hHeld
      generalize w3.drew = vd4 at *
      have hHeld : vd4.cell? ⟨w.heap.size, 0, none⟩ = some (.int .i64 p) ∧ vd4.cell? ⟨w.heap.size, 1, none⟩ = some (.int .i64 c) ∧ vd4.cell? ⟨w.heap.size, 2, none⟩ = some (.int .i64 h) ∧ vd4.cell? ⟨w.heap.size, 3, none⟩ = some (.int .i64 s) ∧ vd4.cell? ⟨(w.heap.size + 1), 0, none⟩ = some (.slice a1 n1 c1) ∧ vd4.cell? ⟨(w.heap.size + 1), 1, none⟩ = some (.slice a2 n2 c2) ∧ vd4.cell? ⟨(w.heap.size + 1), 2, none⟩ = some (.int .i64 pl) ∧ vd4.cell? ⟨(w.heap.size + 1), 3, none⟩ = some (.int .i64 ra) ∧ vd4.cell? ⟨(w.heap.size + 1), 4, none⟩ = some (.int .i64 rb) ∧ vd4.cell? ⟨(w.heap.size + 1), 5, none⟩ = some (.int .i64 ph) ∧ vd4.cell? ⟨(w.heap.size + 1), 6, none⟩ = some (.int .i64 wi) ∧ vd4.cell? ⟨(w.heap.size + 1), 7, none⟩ = some (.int .i64 re) ∧ vd4.cell? ⟨(w.heap.size + 1), 8, none⟩ = some (.int .i64 tu) ∧ vd4.cell? ⟨w1.heap.size, 0, none⟩ = some (.int .i64 p) ∧ vd4.cell? ⟨w1.heap.size, 1, none⟩ = some (fv 157 B1) ∧ vd4.cell? ⟨w1.heap.size, 2, none⟩ = some (fv 158 B1) := ⟨BV.four.1, BV.four.2.1, BV.four.2.2.1, BV.four.2.2.2.1, BG.nine.1, BG.nine.2.1, BG.nine.2.2.1, BG.nine.2.2.2.1, BG.nine.2.2.2.2.1, BG.nine.2.2.2.2.2.1, BG.nine.2.2.2.2.2.2.1, BG.nine.2.2.2.2.2.2.2.1, BG.nine.2.2.2.2.2.2.2.2.1, BT.tri.1, BT.tri.2.1, BT.tri.2.2.1⟩
      refine wpAnyH_take (i := 0) (oi := { dst := some 12, op := _, type := _, pos := _, after := _, guard := _ }) (v := ?_) rfl (by kernel_rfl) (by kernel_rfl) (by kernel_rfl) (fun _ _ _ h => h) (Or.inl ⟨by rfl, ?_⟩) (by assumption) ?_
      rotate_left
      · intro w hSw
        (try dsimp only at hSw)
        go_simp
        (try (with_reducible rfl))
      try simp only [Act.put, List.setIfInBounds_toArray, List.set_cons_zero, List.set_cons_succ]
      refine wpAnyH_take (i := 1) (oi := { dst := some 13, op := _, type := _, pos := _, after := _, guard := _ }) (v := ?_) rfl (by kernel_rfl) (by kernel_rfl) (by kernel_rfl) (fun _ _ _ h => h) (Or.inl ⟨by rfl, ?_⟩) (by assumption) ?_
      rotate_left
      · intro w hSw
        (try dsimp only at hSw)
        go_simp
        (try (with_reducible rfl))
      try simp only [Act.put, List.setIfInBounds_toArray, List.set_cons_zero, List.set_cons_succ]
      refine wpAnyH_take (i := 2) (oi := { dst := some 14, op := _, type := _, pos := _, after := _, guard := _ }) (v := ?_) rfl (by kernel_rfl) (by kernel_rfl) (by kernel_rfl) (fun _ _ _ h => h) (Or.inl ⟨by rfl, ?_⟩) (by assumption) ?_
      rotate_left
      · intro w hSw
        (try dsimp only at hSw)
        go_simp
        (try (with_reducible rfl))
      try simp only [Act.put, List.setIfInBounds_toArray, List.set_cons_zero, List.set_cons_succ]
      refine wpAnyH_ready (rs := [3]) (by kernel_rfl) (by simp) ?_
      refine AllReadyH.cons (o := { dst := some 15, op := _, type := _, pos := _, after := _, guard := _ }) rfl (fun K hK => ?_) AllReadyH.nil
      go_simp
      refine (HL.out _ B1 q1).mono ?_
      rintro e w5 ⟨rfl, hb5⟩
      replace BV := BV.below hb5
      replace BG := BG.below hb5
      replace r1 := r1.below hb5
      replace r2 := r2.below hb5
      replace q1 := q1.below hb5
      replace q2 := q2.below hb5
      replace BT := BT.below hb5
      have hz5 := hb5.size
      replace hb := chain hb hb5
      clear hb5
      (try go_wp2_with fail)
      refine hK.out _ _ ⟨BV.four.1, BV.four.2.1, BV.four.2.2.1, BV.four.2.2.2.1, BG.nine.1, BG.nine.2.1, BG.nine.2.2.1, BG.nine.2.2.2.1, BG.nine.2.2.2.2.1, BG.nine.2.2.2.2.2.1, BG.nine.2.2.2.2.2.2.1, BG.nine.2.2.2.2.2.2.2.1, BG.nine.2.2.2.2.2.2.2.2.1, BT.tri.1, BT.tri.2.1, BT.tri.2.2.1⟩ (fun hHeld => ?_)
      clear hK K
      try simp only [Act.put, List.setIfInBounds_toArray, List.set_cons_zero, List.set_cons_succ]
      refine wpAnyH_take (i := 4) (oi := { dst := some 16, op := _, type := _, pos := _, after := _, guard := _ }) (v := ?_) rfl (by kernel_rfl) (by kernel_rfl) (by kernel_rfl) (fun _ _ _ h => h) (Or.inl ⟨by rfl, ?_⟩) (by assumption) ?_
      rotate_left
      · intro w hSw
        (try dsimp only at hSw)
        go_simp
        (try (with_reducible rfl))
      try simp only [Act.put, List.setIfInBounds_toArray, List.set_cons_zero, List.set_cons_succ]
      refine wpAnyH_take (i := 5) (oi := { dst := some 17, op := _, type := _, pos := _, after := _, guard := _ }) (v := ?_) rfl (by kernel_rfl) (by kernel_rfl) (by kernel_rfl) (fun _ _ _ h => h) (Or.inl ⟨by rfl, ?_⟩) (by assumption) ?_
      rotate_left
      · intro w hSw
        (try dsimp only at hSw)
        go_simp
        (try (with_reducible rfl))
      try simp only [Act.put, List.setIfInBounds_toArray, List.set_cons_zero, List.set_cons_succ]
      refine wpAnyH_take (i := 6) (oi := { dst := some 18, op := _, type := _, pos := _, after := _, guard := _ }) (v := undef) rfl (by kernel_rfl) (by kernel_rfl) (by kernel_rfl) (fun _ _ _ h => h) (Or.inr ⟨by rfl, rfl⟩) (by assumption) ?_
      try simp only [Act.put, List.setIfInBounds_toArray, List.set_cons_zero, List.set_cons_succ]
      refine wpAnyH_take (i := 7) (oi := { dst := some 19, op := _, type := _, pos := _, after := _, guard := _ }) (v := undef) rfl (by kernel_rfl) (by kernel_rfl) (by kernel_rfl) (fun _ _ _ h => h) (Or.inr ⟨by rfl, rfl⟩) (by assumption) ?_
      try simp only [Act.put, List.setIfInBounds_toArray, List.set_cons_zero, List.set_cons_succ]
      refine wpAnyH_take (i := 8) (oi := { dst := some 20, op := _, type := _, pos := _, after := _, guard := _ }) (v := undef) rfl (by kernel_rfl) (by kernel_rfl) (by kernel_rfl) (fun _ _ _ h => h) (Or.inr ⟨by rfl, rfl⟩) (by assumption) ?_
      try simp only [Act.put, List.setIfInBounds_toArray, List.set_cons_zero, List.set_cons_succ]
      refine wpAnyH_take (i := 9) (oi := { dst := some 21, op := _, type := _, pos := _, after := _, guard := _ }) (v := undef) rfl (by kernel_rfl) (by kernel_rfl) (by kernel_rfl) (fun _ _ _ h => h) (Or.inr ⟨by rfl, rfl⟩) (by assumption) ?_
      try simp only [Act.put, List.setIfInBounds_toArray, List.set_cons_zero, List.set_cons_succ]
      refine wpAnyH_take (i := 10) (oi := { dst := some 22, op := _, type := _, pos := _, after := _, guard := _ }) (v := undef) rfl (by kernel_rfl) (by kernel_rfl) (by kernel_rfl) (fun _ _ _ h => h) (Or.inr ⟨by rfl, rfl⟩) (by assumption) ?_
      try simp only [Act.put, List.setIfInBounds_toArray, List.set_cons_zero, List.set_cons_succ]
      refine wpAnyH_take (i := 11) (oi := { dst := some 23, op := _, type := _, pos := _, after := _, guard := _ }) (v := ?_) rfl (by kernel_rfl) (by kernel_rfl) (by kernel_rfl) (fun _ _ _ h => h) (Or.inl ⟨by rfl, ?_⟩) (by assumption) ?_
      rotate_left
      · intro w hSw
        (try dsimp only at hSw)
        go_simp
        (try (with_reducible rfl))
      try simp only [Act.put, List.setIfInBounds_toArray, List.set_cons_zero, List.set_cons_succ]
      refine wpAnyH_take (i := 12) (oi := { dst := some 24, op := _, type := _, pos := _, after := _, guard := _ }) (v := ?_) rfl (by kernel_rfl) (by kernel_rfl) (by kernel_rfl) (fun _ _ _ h => h) (Or.inl ⟨by rfl, ?_⟩) (by assumption) ?_
      rotate_left
      · intro w hSw
        (try dsimp only at hSw)
        go_simp
        (try (with_reducible rfl))
      try simp only [Act.put, List.setIfInBounds_toArray, List.set_cons_zero, List.set_cons_succ]
      refine wpAnyH_take (i := 13) (oi := { dst := some 25, op := _, type := _, pos := _, after := _, guard := _ }) (v := undef) rfl (by kernel_rfl) (by kernel_rfl) (by kernel_rfl) (fun _ _ _ h => h) (Or.inr ⟨by rfl, rfl⟩) (by assumption) ?_
      try simp only [Act.put, List.setIfInBounds_toArray, List.set_cons_zero, List.set_cons_succ]
      refine wpAnyH_take (i := 14) (oi := { dst := some 26, op := _, type := _, pos := _, after := _, guard := _ }) (v := undef) rfl (by kernel_rfl) (by kernel_rfl) (by kernel_rfl) (fun _ _ _ h => h) (Or.inr ⟨by rfl, rfl⟩) (by assumption) ?_
      try simp only [Act.put, List.setIfInBounds_toArray, List.set_cons_zero, List.set_cons_succ]
      refine wpAnyH_take (i := 15) (oi := { dst := some 27, op := _, type := _, pos := _, after := _, guard := _ }) (v := undef) rfl (by kernel_rfl) (by kernel_rfl) (by kernel_rfl) (fun _ _ _ h => h) (Or.inr ⟨by rfl, rfl⟩) (by assumption) ?_
      try simp only [Act.put, List.setIfInBounds_toArray, List.set_cons_zero, List.set_cons_succ]
      refine wpAnyH_take (i := 16) (oi := { dst := some 28, op := _, type := _, pos := _, after := _, guard := _ }) (v := undef) rfl (by kernel_rfl) (by kernel_rfl) (by kernel_rfl) (fun _ _ _ h => h) (Or.inr ⟨by rfl, rfl⟩) (by assumption) ?_
      try simp only [Act.put, List.setIfInBounds_toArray, List.set_cons_zero, List.set_cons_succ]
      refine wpAnyH_take (i := 17) (oi := { dst := some 29, op := _, type := _, pos := _, after := _, guard := _ }) (v := undef) rfl (by kernel_rfl) (by kernel_rfl) (by kernel_rfl) (fun _ _ _ h => h) (Or.inr ⟨by rfl, rfl⟩) (by assumption) ?_
      try simp only [Act.put, List.setIfInBounds_toArray, List.set_cons_zero, List.set_cons_succ]
      refine wpAnyH_take (i := 18) (oi := { dst := some 30, op := _, type := _, pos := _, after := _, guard := _ }) (v := undef) rfl (by kernel_rfl) (by kernel_rfl) (by kernel_rfl) (fun _ _ _ h => h) (Or.inr ⟨by rfl, rfl⟩) (by assumption) ?_
      try simp only [Act.put, List.setIfInBounds_toArray, List.set_cons_zero, List.set_cons_succ]
      refine wpAnyH_take (i := 19) (oi := { dst := some 31, op := _, type := _, pos := _, after := _, guard := _ }) (v := undef) rfl (by kernel_rfl) (by kernel_rfl) (by kernel_rfl) (fun _ _ _ h => h) (Or.inr ⟨by rfl, rfl⟩) (by assumption) ?_
      try simp only [Act.put, List.setIfInBounds_toArray, List.set_cons_zero, List.set_cons_succ]
      refine wpAnyH_take (i := 20) (oi := { dst := some 32, op := _, type := _, pos := _, after := _, guard := _ }) (v := undef) rfl (by kernel_rfl) (by kernel_rfl) (by kernel_rfl) (fun _ _ _ h => h) (Or.inr ⟨by rfl, rfl⟩) (by assumption) ?_
      try simp only [Act.put, List.setIfInBounds_toArray, List.set_cons_zero, List.set_cons_succ]
      refine wpAnyH_take (i := 21) (oi := { dst := some 33, op := _, type := _, pos := _, after := _, guard := _ }) (v := ?_) rfl (by kernel_rfl) (by kernel_rfl) (by kernel_rfl) (fun _ _ _ h => h) (Or.inl ⟨by rfl, ?_⟩) (by assumption) ?_
      rotate_left
      · intro w hSw
        (try dsimp only at hSw)
        go_simp
        (try (with_reducible rfl))
      try simp only [Act.put, List.setIfInBounds_toArray, List.set_cons_zero, List.set_cons_succ]
      refine wpAnyH_take (i := 22) (oi := { dst := some 4, op := _, type := _, pos := _, after := _, guard := _ }) (v := ?_) rfl (by kernel_rfl) (by kernel_rfl) (by kernel_rfl) (fun _ _ _ h => h) (Or.inl ⟨by rfl, ?_⟩) (by assumption) ?_
      rotate_left
      · intro w hSw
        (try dsimp only at hSw)
        go_simp
        (try (with_reducible rfl))
      try simp only [Act.put, List.setIfInBounds_toArray, List.set_cons_zero, List.set_cons_succ]
      refine wpAnyH_done (by kernel_rfl) ?_ _
      clear hHeld
      obtain ⟨q0_BV, q1_BV, q2_BV, q3_BV, qf_BV, ql_BV⟩ := BV.four
      obtain ⟨q0_BG, q1_BG, q2_BG, q3_BG, q4_BG, q5_BG, q6_BG, q7_BG, q8_BG, qf_BG, ql_BG⟩ := BG.nine
      obtain ⟨q0_BT, q1_BT, q2_BT, qf_BT, ql_BT⟩ := BT.tri
      go_wp2_with fail
      go_ret
      exact ⟨rfl, hb⟩
  | false =>
    rw [if_neg (by simp)]
    by_cases e1 : wi = 1 - pl
    · have f1 : (wi == 1 - pl) = true := by rw [beq_iff_eq]; exact e1
      rw [f1, Bool.true_and]
      clear e1
      go_enter Try.func167, Try.ntmps167
      obtain ⟨x0, x1, x2, x3, xf, xl⟩ := BV.four
      obtain ⟨ga0, ga1, ga2, ga3, ga4, ga5, ga6, ga7, ga8, gaf, gal⟩ := BG.nine
      go_wp2_with fail
      clear x0 x1 x2 x3 xf xl
      clear ga0 ga1 ga2 ga3 ga4 ga5 ga6 ga7 ga8 gaf gal
      generalize ((w.alloc (.cells #[.int .i64 p, .int .i64 c, .int .i64 h, .int .i64 s] 32)).alloc (.cells #[.slice a1 n1 c1, .slice a2 n2 c2, .int .i64 pl, .int .i64 ra, .int .i64 rb, .int .i64 ph, .int .i64 wi, .int .i64 re, .int .i64 tu] 70)) = v0 at *
      obtain ⟨q0_BV, q1_BV, q2_BV, q3_BV, qf_BV, ql_BV⟩ := BV.four
      obtain ⟨q0_BG, q1_BG, q2_BG, q3_BG, q4_BG, q5_BG, q6_BG, q7_BG, q8_BG, qf_BG, ql_BG⟩ := BG.nine
      go_wp2_with fail
      clear q0_BV q1_BV q2_BV q3_BV qf_BV ql_BV
      clear q0_BG q1_BG q2_BG q3_BG q4_BG q5_BG q6_BG q7_BG q8_BG qf_BG ql_BG
      refine (countsOf_any p c h s a1 a2 n1 c1 n2 c2 xs ys _ h1 h2 r1 r2).mono ?_
      rintro e w1 ⟨B1, rfl, q1, q2, hb1⟩
      replace BV := BV.below hb1
      replace BG := BG.below hb1
      replace r1 := r1.below hb1
      replace r2 := r2.below hb1
      have hz1 := hb1.size
      replace hb := chain hb hb1
      clear hb1
      have BT := Blk.new w1 #[.int .i64 p, fv 157 B1, fv 158 B1] 151
      have hal2 : Below w1.heap.size w1 (w1.alloc (.cells #[.int .i64 p, fv 157 B1, fv 158 B1] 151)) := (Below.refl _ _).alloc (Nat.le_refl _) _
      have hz2 : (w1.alloc (.cells #[.int .i64 p, fv 157 B1, fv 158 B1] 151)).heap.size = w1.heap.size + 1 := by simp
      replace BV := BV.below hal2
      replace BG := BG.below hal2
      replace r1 := r1.below hal2
      replace r2 := r2.below hal2
      replace q1 := q1.below hal2
      replace q2 := q2.below hal2
      replace hb := chain hb hal2
      clear hal2
      obtain ⟨q0_BV, q1_BV, q2_BV, q3_BV, qf_BV, ql_BV⟩ := BV.four
      obtain ⟨q0_BG, q1_BG, q2_BG, q3_BG, q4_BG, q5_BG, q6_BG, q7_BG, q8_BG, qf_BG, ql_BG⟩ := BG.nine
      obtain ⟨q0_BT, q1_BT, q2_BT, qf_BT, ql_BT⟩ := BT.tri
      go_wp2_with fail
      clear q0_BV q1_BV q2_BV q3_BV qf_BV ql_BV
      clear q0_BG q1_BG q2_BG q3_BG q4_BG q5_BG q6_BG q7_BG q8_BG qf_BG ql_BG
      clear q0_BT q1_BT q2_BT qf_BT ql_BT
      generalize (w1.alloc (.cells #[.int .i64 p, fv 157 B1, fv 158 B1] 151)) = w2 at *
      obtain ⟨q0_BV, q1_BV, q2_BV, q3_BV, qf_BV, ql_BV⟩ := BV.four
      obtain ⟨q0_BG, q1_BG, q2_BG, q3_BG, q4_BG, q5_BG, q6_BG, q7_BG, q8_BG, qf_BG, ql_BG⟩ := BG.nine
      obtain ⟨q0_BT, q1_BT, q2_BT, qf_BT, ql_BT⟩ := BT.tri
      go_wp2_with fail
      clear q0_BV q1_BV q2_BV q3_BV qf_BV ql_BV
      clear q0_BG q1_BG q2_BG q3_BG q4_BG q5_BG q6_BG q7_BG q8_BG qf_BG ql_BG
      clear q0_BT q1_BT q2_BT qf_BT ql_BT
      refine (HO.out _ B1 q1 q2).mono ?_
      rintro e w3 ⟨rfl, hb3⟩
      replace BV := BV.below hb3
      replace BG := BG.below hb3
      replace r1 := r1.below hb3
      replace r2 := r2.below hb3
      replace q1 := q1.below hb3
      replace q2 := q2.below hb3
      replace BT := BT.below hb3
      have hz3 := hb3.size
      replace hb := chain hb hb3
      clear hb3
      obtain ⟨q0_BV, q1_BV, q2_BV, q3_BV, qf_BV, ql_BV⟩ := BV.four
      obtain ⟨q0_BG, q1_BG, q2_BG, q3_BG, q4_BG, q5_BG, q6_BG, q7_BG, q8_BG, qf_BG, ql_BG⟩ := BG.nine
      obtain ⟨q0_BT, q1_BT, q2_BT, qf_BT, ql_BT⟩ := BT.tri
      go_wp2_with fail
      clear q0_BV q1_BV q2_BV q3_BV qf_BV ql_BV
      clear q0_BG q1_BG q2_BG q3_BG q4_BG q5_BG q6_BG q7_BG q8_BG qf_BG ql_BG
      clear q0_BT q1_BT q2_BT qf_BT ql_BT
      have hd4 : w3.drew.heap.size = w3.heap.size := rfl
      replace BV := BV.drew
      replace BG := BG.drew
      replace r1 := r1.drew
      replace r2 := r2.drew
      replace q1 := q1.drew
      replace q2 := q2.drew
      replace BT := BT.drew
      replace hb := hb.drew
      refine wp_region_held_drew (S := fun w' => w'.cell? ⟨w.heap.size, 0, none⟩ = some (.int .i64 p) ∧ w'.cell? ⟨w.heap.size, 1, none⟩ = some (.int .i64 c) ∧ w'.cell? ⟨w.heap.size, 2, none⟩ = some (.int .i64 h) ∧ w'.cell? ⟨w.heap.size, 3, none⟩ = some (.int .i64 s) ∧ w'.cell? ⟨(w.heap.size + 1), 0, none⟩ = some (.slice a1 n1 c1) ∧ w'.cell? ⟨(w.heap.size + 1), 1, none⟩ = some (.slice a2 n2 c2) ∧ w'.cell? ⟨(w.heap.size + 1), 2, none⟩ = some (.int .i64 pl) ∧ w'.cell? ⟨(w.heap.size + 1), 3, none⟩ = some (.int .i64 ra) ∧ w'.cell? ⟨(w.heap.size + 1), 4, none⟩ = some (.int .i64 rb) ∧ w'.cell? ⟨(w.heap.size + 1), 5, none⟩ = some (.int .i64 ph) ∧ w'.cell? ⟨(w.heap.size + 1), 6, none⟩ = some (.int .i64 wi) ∧ w'.cell? ⟨(w.heap.size + 1), 7, none⟩ = some (.int .i64 re) ∧ w'.cell? ⟨(w.heap.size + 1), 8, none⟩ = some (.int .i64 tu) ∧ w'.cell? ⟨w1.heap.size, 0, none⟩ = some (.int .i64 p) ∧ w'.cell? ⟨w1.heap.size, 1, none⟩ = some (fv 157 B1) ∧ w'.cell? ⟨w1.heap.size, 2, none⟩ = some (fv 158 B1)) (by kernel_rfl) ⟨BV.four.1, BV.four.2.1, BV.four.2.2.1, BV.four.2.2.2.1, BG.nine.1, BG.nine.2.1, BG.nine.2.2.1, BG.nine.2.2.2.1, BG.nine.2.2.2.2.1, BG.nine.2.2.2.2.2.1, BG.nine.2.2.2.2.2.2.1, BG.nine.2.2.2.2.2.2.2.1, BG.nine.2.2.2.2.2.2.2.2.1, BT.tri.1, BT.tri.2.1, BT.tri.2.2.1⟩ (fun hHeld => ?_)
      clear hHeld
      generalize w3.drew = vd4 at *
      have hHeld : vd4.cell? ⟨w.heap.size, 0, none⟩ = some (.int .i64 p) ∧ vd4.cell? ⟨w.heap.size, 1, none⟩ = some (.int .i64 c) ∧ vd4.cell? ⟨w.heap.size, 2, none⟩ = some (.int .i64 h) ∧ vd4.cell? ⟨w.heap.size, 3, none⟩ = some (.int .i64 s) ∧ vd4.cell? ⟨(w.heap.size + 1), 0, none⟩ = some (.slice a1 n1 c1) ∧ vd4.cell? ⟨(w.heap.size + 1), 1, none⟩ = some (.slice a2 n2 c2) ∧ vd4.cell? ⟨(w.heap.size + 1), 2, none⟩ = some (.int .i64 pl) ∧ vd4.cell? ⟨(w.heap.size + 1), 3, none⟩ = some (.int .i64 ra) ∧ vd4.cell? ⟨(w.heap.size + 1), 4, none⟩ = some (.int .i64 rb) ∧ vd4.cell? ⟨(w.heap.size + 1), 5, none⟩ = some (.int .i64 ph) ∧ vd4.cell? ⟨(w.heap.size + 1), 6, none⟩ = some (.int .i64 wi) ∧ vd4.cell? ⟨(w.heap.size + 1), 7, none⟩ = some (.int .i64 re) ∧ vd4.cell? ⟨(w.heap.size + 1), 8, none⟩ = some (.int .i64 tu) ∧ vd4.cell? ⟨w1.heap.size, 0, none⟩ = some (.int .i64 p) ∧ vd4.cell? ⟨w1.heap.size, 1, none⟩ = some (fv 157 B1) ∧ vd4.cell? ⟨w1.heap.size, 2, none⟩ = some (fv 158 B1) := ⟨BV.four.1, BV.four.2.1, BV.four.2.2.1, BV.four.2.2.2.1, BG.nine.1, BG.nine.2.1, BG.nine.2.2.1, BG.nine.2.2.2.1, BG.nine.2.2.2.2.1, BG.nine.2.2.2.2.2.1, BG.nine.2.2.2.2.2.2.1, BG.nine.2.2.2.2.2.2.2.1, BG.nine.2.2.2.2.2.2.2.2.1, BT.tri.1, BT.tri.2.1, BT.tri.2.2.1⟩
      refine wpAnyH_take (i := 0) (oi := { dst := some 34, op := _, type := _, pos := _, after := _, guard := _ }) (v := ?_) rfl (by kernel_rfl) (by kernel_rfl) (by kernel_rfl) (fun _ _ _ h => h) (Or.inl ⟨by rfl, ?_⟩) (by assumption) ?_
      rotate_left
      · intro w hSw
        (try dsimp only at hSw)
        go_simp
        (try (with_reducible rfl))
      try simp only [Act.put, List.setIfInBounds_toArray, List.set_cons_zero, List.set_cons_succ]
      refine wpAnyH_take (i := 1) (oi := { dst := some 35, op := _, type := _, pos := _, after := _, guard := _ }) (v := ?_) rfl (by kernel_rfl) (by kernel_rfl) (by kernel_rfl) (fun _ _ _ h => h) (Or.inl ⟨by rfl, ?_⟩) (by assumption) ?_
      rotate_left
      · intro w hSw
        (try dsimp only at hSw)
        go_simp
        (try (with_reducible rfl))
      try simp only [Act.put, List.setIfInBounds_toArray, List.set_cons_zero, List.set_cons_succ]
      refine wpAnyH_take (i := 2) (oi := { dst := some 36, op := _, type := _, pos := _, after := _, guard := _ }) (v := ?_) rfl (by kernel_rfl) (by kernel_rfl) (by kernel_rfl) (fun _ _ _ h => h) (Or.inl ⟨by rfl, ?_⟩) (by assumption) ?_
      rotate_left
      · intro w hSw
        (try dsimp only at hSw)
        go_simp
        (try (with_reducible rfl))
      try simp only [Act.put, List.setIfInBounds_toArray, List.set_cons_zero, List.set_cons_succ]
      refine wpAnyH_take (i := 3) (oi := { dst := some 37, op := _, type := _, pos := _, after := _, guard := _ }) (v := ?_) rfl (by kernel_rfl) (by kernel_rfl) (by kernel_rfl) (fun _ _ _ h => h) (Or.inl ⟨by rfl, ?_⟩) (by assumption) ?_
      rotate_left
      · intro w hSw
        (try dsimp only at hSw)
        go_simp
        (try (with_reducible rfl))
      try simp only [Act.put, List.setIfInBounds_toArray, List.set_cons_zero, List.set_cons_succ]
      refine wpAnyH_ready (rs := [4]) (by kernel_rfl) (by simp) ?_
      refine AllReadyH.cons (o := { dst := some 38, op := _, type := _, pos := _, after := _, guard := _ }) rfl (fun K hK => ?_) AllReadyH.nil
      go_simp
      refine (opponent_any pl _ HPL.out).mono ?_
      rintro e w5 ⟨rfl, hb5⟩
      replace BV := BV.below hb5
      replace BG := BG.below hb5
      replace r1 := r1.below hb5
      replace r2 := r2.below hb5
      replace q1 := q1.below hb5
      replace q2 := q2.below hb5
      replace BT := BT.below hb5
      have hz5 := hb5.size
      replace hb := chain hb hb5
      clear hb5
      (try go_wp2_with fail)
      refine hK.out _ _ ⟨BV.four.1, BV.four.2.1, BV.four.2.2.1, BV.four.2.2.2.1, BG.nine.1, BG.nine.2.1, BG.nine.2.2.1, BG.nine.2.2.2.1, BG.nine.2.2.2.2.1, BG.nine.2.2.2.2.2.1, BG.nine.2.2.2.2.2.2.1, BG.nine.2.2.2.2.2.2.2.1, BG.nine.2.2.2.2.2.2.2.2.1, BT.tri.1, BT.tri.2.1, BT.tri.2.2.1⟩ (fun hHeld => ?_)
      clear hK K
      try simp only [Act.put, List.setIfInBounds_toArray, List.set_cons_zero, List.set_cons_succ]
      refine wpAnyH_take (i := 5) (oi := { dst := some 39, op := _, type := _, pos := _, after := _, guard := _ }) (v := ?_) rfl (by kernel_rfl) (by kernel_rfl) (by kernel_rfl) (fun _ _ _ h => h) (Or.inl ⟨by rfl, ?_⟩) (by assumption) ?_
      rotate_left
      · intro w hSw
        (try dsimp only at hSw)
        go_simp
        (try (with_reducible rfl))
      try simp only [Act.put, List.setIfInBounds_toArray, List.set_cons_zero, List.set_cons_succ]
      refine wpAnyH_take (i := 6) (oi := { dst := some 40, op := _, type := _, pos := _, after := _, guard := _ }) (v := ?_) rfl (by kernel_rfl) (by kernel_rfl) (by kernel_rfl) (fun _ _ _ h => h) (Or.inl ⟨by rfl, ?_⟩) (by assumption) ?_
      rotate_left
      · intro w hSw
        (try dsimp only at hSw)
        go_simp
        (try (with_reducible rfl))
      try simp only [Act.put, List.setIfInBounds_toArray, List.set_cons_zero, List.set_cons_succ]
      refine wpAnyH_take (i := 7) (oi := { dst := some 41, op := _, type := _, pos := _, after := _, guard := _ }) (v := ?_) rfl (by kernel_rfl) (by kernel_rfl) (by kernel_rfl) (fun _ _ _ h => h) (Or.inl ⟨by rfl, ?_⟩) (by assumption) ?_
      rotate_left
      · intro w hSw
        (try dsimp only at hSw)
        go_simp
        (try (with_reducible rfl))
      try simp only [Act.put, List.setIfInBounds_toArray, List.set_cons_zero, List.set_cons_succ]
      refine wpAnyH_take (i := 8) (oi := { dst := some 42, op := _, type := _, pos := _, after := _, guard := _ }) (v := ?_) rfl (by kernel_rfl) (by kernel_rfl) (by kernel_rfl) (fun _ _ _ h => h) (Or.inl ⟨by rfl, ?_⟩) (by assumption) ?_
      rotate_left
      · intro w hSw
        (try dsimp only at hSw)
        go_simp
        (try (with_reducible rfl))
      try simp only [Act.put, List.setIfInBounds_toArray, List.set_cons_zero, List.set_cons_succ]
      refine wpAnyH_ready (rs := [9]) (by kernel_rfl) (by simp) ?_
      refine AllReadyH.cons (o := { dst := some 43, op := _, type := _, pos := _, after := _, guard := _ }) rfl (fun K hK => ?_) AllReadyH.nil
      go_simp
      refine (isResult_any re _).mono ?_
      rintro e w6 ⟨rfl, hb6⟩
      replace BV := BV.below hb6
      replace BG := BG.below hb6
      replace r1 := r1.below hb6
      replace r2 := r2.below hb6
      replace q1 := q1.below hb6
      replace q2 := q2.below hb6
      replace BT := BT.below hb6
      have hz6 := hb6.size
      replace hb := chain hb hb6
      clear hb6
      (try go_wp2_with fail)
      refine hK.out _ _ ⟨BV.four.1, BV.four.2.1, BV.four.2.2.1, BV.four.2.2.2.1, BG.nine.1, BG.nine.2.1, BG.nine.2.2.1, BG.nine.2.2.2.1, BG.nine.2.2.2.2.1, BG.nine.2.2.2.2.2.1, BG.nine.2.2.2.2.2.2.1, BG.nine.2.2.2.2.2.2.2.1, BG.nine.2.2.2.2.2.2.2.2.1, BT.tri.1, BT.tri.2.1, BT.tri.2.2.1⟩ (fun hHeld => ?_)
      clear hK K
      try simp only [Act.put, List.setIfInBounds_toArray, List.set_cons_zero, List.set_cons_succ]
      refine wpAnyH_take (i := 10) (oi := { dst := some 44, op := _, type := _, pos := _, after := _, guard := _ }) (v := ?_) rfl (by kernel_rfl) (by kernel_rfl) (by kernel_rfl) (fun _ _ _ h => h) (Or.inl ⟨by rfl, ?_⟩) (by assumption) ?_
      rotate_left
      · intro w hSw
        (try dsimp only at hSw)
        go_simp
        (try (with_reducible rfl))
      try simp only [Act.put, List.setIfInBounds_toArray, List.set_cons_zero, List.set_cons_succ]
      refine wpAnyH_take (i := 11) (oi := { dst := some 4, op := _, type := _, pos := _, after := _, guard := _ }) (v := ?_) rfl (by kernel_rfl) (by kernel_rfl) (by kernel_rfl) (fun _ _ _ h => h) (Or.inl ⟨by rfl, ?_⟩) (by assumption) ?_
      rotate_left
      · intro w hSw
        (try dsimp only at hSw)
        go_simp
        (try (with_reducible rfl))
      try simp only [Act.put, List.setIfInBounds_toArray, List.set_cons_zero, List.set_cons_succ]
      refine wpAnyH_done (by kernel_rfl) ?_ _
      clear hHeld
      obtain ⟨q0_BV, q1_BV, q2_BV, q3_BV, qf_BV, ql_BV⟩ := BV.four
      obtain ⟨q0_BG, q1_BG, q2_BG, q3_BG, q4_BG, q5_BG, q6_BG, q7_BG, q8_BG, qf_BG, ql_BG⟩ := BG.nine
      obtain ⟨q0_BT, q1_BT, q2_BT, qf_BT, ql_BT⟩ := BT.tri
      go_wp2_with fail
      go_ret
      exact ⟨rfl, hb⟩
    · have f1 : (wi == 1 - pl) = false := by rw [beq_eq_false_iff_ne]; exact e1
      rw [f1, Bool.false_and]
      clear e1
      go_enter Try.func167, Try.ntmps167
      obtain ⟨x0, x1, x2, x3, xf, xl⟩ := BV.four
      obtain ⟨ga0, ga1, ga2, ga3, ga4, ga5, ga6, ga7, ga8, gaf, gal⟩ := BG.nine
      go_wp2_with fail
      clear x0 x1 x2 x3 xf xl
      clear ga0 ga1 ga2 ga3 ga4 ga5 ga6 ga7 ga8 gaf gal
      generalize ((w.alloc (.cells #[.int .i64 p, .int .i64 c, .int .i64 h, .int .i64 s] 32)).alloc (.cells #[.slice a1 n1 c1, .slice a2 n2 c2, .int .i64 pl, .int .i64 ra, .int .i64 rb, .int .i64 ph, .int .i64 wi, .int .i64 re, .int .i64 tu] 70)) = v0 at *
      obtain ⟨q0_BV, q1_BV, q2_BV, q3_BV, qf_BV, ql_BV⟩ := BV.four
      obtain ⟨q0_BG, q1_BG, q2_BG, q3_BG, q4_BG, q5_BG, q6_BG, q7_BG, q8_BG, qf_BG, ql_BG⟩ := BG.nine
      go_wp2_with fail
      clear q0_BV q1_BV q2_BV q3_BV qf_BV ql_BV
      clear q0_BG q1_BG q2_BG q3_BG q4_BG q5_BG q6_BG q7_BG q8_BG qf_BG ql_BG
      refine (countsOf_any p c h s a1 a2 n1 c1 n2 c2 xs ys _ h1 h2 r1 r2).mono ?_
      rintro e w1 ⟨B1, rfl, q1, q2, hb1⟩
      replace BV := BV.below hb1
      replace BG := BG.below hb1
      replace r1 := r1.below hb1
      replace r2 := r2.below hb1
      have hz1 := hb1.size
      replace hb := chain hb hb1
      clear hb1
      have BT := Blk.new w1 #[.int .i64 p, fv 157 B1, fv 158 B1] 151
      have hal2 : Below w1.heap.size w1 (w1.alloc (.cells #[.int .i64 p, fv 157 B1, fv 158 B1] 151)) := (Below.refl _ _).alloc (Nat.le_refl _) _
      have hz2 : (w1.alloc (.cells #[.int .i64 p, fv 157 B1, fv 158 B1] 151)).heap.size = w1.heap.size + 1 := by simp
      replace BV := BV.below hal2
      replace BG := BG.below hal2
      replace r1 := r1.below hal2
      replace r2 := r2.below hal2
      replace q1 := q1.below hal2
      replace q2 := q2.below hal2
      replace hb := chain hb hal2
      clear hal2
      obtain ⟨q0_BV, q1_BV, q2_BV, q3_BV, qf_BV, ql_BV⟩ := BV.four
      obtain ⟨q0_BG, q1_BG, q2_BG, q3_BG, q4_BG, q5_BG, q6_BG, q7_BG, q8_BG, qf_BG, ql_BG⟩ := BG.nine
      obtain ⟨q0_BT, q1_BT, q2_BT, qf_BT, ql_BT⟩ := BT.tri
      go_wp2_with fail
      clear q0_BV q1_BV q2_BV q3_BV qf_BV ql_BV
      clear q0_BG q1_BG q2_BG q3_BG q4_BG q5_BG q6_BG q7_BG q8_BG qf_BG ql_BG
      clear q0_BT q1_BT q2_BT qf_BT ql_BT
      generalize (w1.alloc (.cells #[.int .i64 p, fv 157 B1, fv 158 B1] 151)) = w2 at *
      obtain ⟨q0_BV, q1_BV, q2_BV, q3_BV, qf_BV, ql_BV⟩ := BV.four
      obtain ⟨q0_BG, q1_BG, q2_BG, q3_BG, q4_BG, q5_BG, q6_BG, q7_BG, q8_BG, qf_BG, ql_BG⟩ := BG.nine
      obtain ⟨q0_BT, q1_BT, q2_BT, qf_BT, ql_BT⟩ := BT.tri
      go_wp2_with fail
      clear q0_BV q1_BV q2_BV q3_BV qf_BV ql_BV
      clear q0_BG q1_BG q2_BG q3_BG q4_BG q5_BG q6_BG q7_BG q8_BG qf_BG ql_BG
      clear q0_BT q1_BT q2_BT qf_BT ql_BT
      refine (HO.out _ B1 q1 q2).mono ?_
      rintro e w3 ⟨rfl, hb3⟩
      replace BV := BV.below hb3
      replace BG := BG.below hb3
      replace r1 := r1.below hb3
      replace r2 := r2.below hb3
      replace q1 := q1.below hb3
      replace q2 := q2.below hb3
      replace BT := BT.below hb3
      have hz3 := hb3.size
      replace hb := chain hb hb3
      clear hb3
      obtain ⟨q0_BV, q1_BV, q2_BV, q3_BV, qf_BV, ql_BV⟩ := BV.four
      obtain ⟨q0_BG, q1_BG, q2_BG, q3_BG, q4_BG, q5_BG, q6_BG, q7_BG, q8_BG, qf_BG, ql_BG⟩ := BG.nine
      obtain ⟨q0_BT, q1_BT, q2_BT, qf_BT, ql_BT⟩ := BT.tri
      go_wp2_with fail
      clear q0_BV q1_BV q2_BV q3_BV qf_BV ql_BV
      clear q0_BG q1_BG q2_BG q3_BG q4_BG q5_BG q6_BG q7_BG q8_BG qf_BG ql_BG
      clear q0_BT q1_BT q2_BT qf_BT ql_BT
      have hd4 : w3.drew.heap.size = w3.heap.size := rfl
      replace BV := BV.drew
      replace BG := BG.drew
      replace r1 := r1.drew
      replace r2 := r2.drew
      replace q1 := q1.drew
      replace q2 := q2.drew
      replace BT := BT.drew
      replace hb := hb.drew
      refine wp_region_held_drew (S := fun w' => w'.cell? ⟨w.heap.size, 0, none⟩ = some (.int .i64 p) ∧ w'.cell? ⟨w.heap.size, 1, none⟩ = some (.int .i64 c) ∧ w'.cell? ⟨w.heap.size, 2, none⟩ = some (.int .i64 h) ∧ w'.cell? ⟨w.heap.size, 3, none⟩ = some (.int .i64 s) ∧ w'.cell? ⟨(w.heap.size + 1), 0, none⟩ = some (.slice a1 n1 c1) ∧ w'.cell? ⟨(w.heap.size + 1), 1, none⟩ = some (.slice a2 n2 c2) ∧ w'.cell? ⟨(w.heap.size + 1), 2, none⟩ = some (.int .i64 pl) ∧ w'.cell? ⟨(w.heap.size + 1), 3, none⟩ = some (.int .i64 ra) ∧ w'.cell? ⟨(w.heap.size + 1), 4, none⟩ = some (.int .i64 rb) ∧ w'.cell? ⟨(w.heap.size + 1), 5, none⟩ = some (.int .i64 ph) ∧ w'.cell? ⟨(w.heap.size + 1), 6, none⟩ = some (.int .i64 wi) ∧ w'.cell? ⟨(w.heap.size + 1), 7, none⟩ = some (.int .i64 re) ∧ w'.cell? ⟨(w.heap.size + 1), 8, none⟩ = some (.int .i64 tu) ∧ w'.cell? ⟨w1.heap.size, 0, none⟩ = some (.int .i64 p) ∧ w'.cell? ⟨w1.heap.size, 1, none⟩ = some (fv 157 B1) ∧ w'.cell? ⟨w1.heap.size, 2, none⟩ = some (fv 158 B1)) (by kernel_rfl) ⟨BV.four.1, BV.four.2.1, BV.four.2.2.1, BV.four.2.2.2.1, BG.nine.1, BG.nine.2.1, BG.nine.2.2.1, BG.nine.2.2.2.1, BG.nine.2.2.2.2.1, BG.nine.2.2.2.2.2.1, BG.nine.2.2.2.2.2.2.1, BG.nine.2.2.2.2.2.2.2.1, BG.nine.2.2.2.2.2.2.2.2.1, BT.tri.1, BT.tri.2.1, BT.tri.2.2.1⟩ (fun hHeld => ?_)
      clear hHeld
      generalize w3.drew = vd4 at *
      have hHeld : vd4.cell? ⟨w.heap.size, 0, none⟩ = some (.int .i64 p) ∧ vd4.cell? ⟨w.heap.size, 1, none⟩ = some (.int .i64 c) ∧ vd4.cell? ⟨w.heap.size, 2, none⟩ = some (.int .i64 h) ∧ vd4.cell? ⟨w.heap.size, 3, none⟩ = some (.int .i64 s) ∧ vd4.cell? ⟨(w.heap.size + 1), 0, none⟩ = some (.slice a1 n1 c1) ∧ vd4.cell? ⟨(w.heap.size + 1), 1, none⟩ = some (.slice a2 n2 c2) ∧ vd4.cell? ⟨(w.heap.size + 1), 2, none⟩ = some (.int .i64 pl) ∧ vd4.cell? ⟨(w.heap.size + 1), 3, none⟩ = some (.int .i64 ra) ∧ vd4.cell? ⟨(w.heap.size + 1), 4, none⟩ = some (.int .i64 rb) ∧ vd4.cell? ⟨(w.heap.size + 1), 5, none⟩ = some (.int .i64 ph) ∧ vd4.cell? ⟨(w.heap.size + 1), 6, none⟩ = some (.int .i64 wi) ∧ vd4.cell? ⟨(w.heap.size + 1), 7, none⟩ = some (.int .i64 re) ∧ vd4.cell? ⟨(w.heap.size + 1), 8, none⟩ = some (.int .i64 tu) ∧ vd4.cell? ⟨w1.heap.size, 0, none⟩ = some (.int .i64 p) ∧ vd4.cell? ⟨w1.heap.size, 1, none⟩ = some (fv 157 B1) ∧ vd4.cell? ⟨w1.heap.size, 2, none⟩ = some (fv 158 B1) := ⟨BV.four.1, BV.four.2.1, BV.four.2.2.1, BV.four.2.2.2.1, BG.nine.1, BG.nine.2.1, BG.nine.2.2.1, BG.nine.2.2.2.1, BG.nine.2.2.2.2.1, BG.nine.2.2.2.2.2.1, BG.nine.2.2.2.2.2.2.1, BG.nine.2.2.2.2.2.2.2.1, BG.nine.2.2.2.2.2.2.2.2.1, BT.tri.1, BT.tri.2.1, BT.tri.2.2.1⟩
      refine wpAnyH_take (i := 0) (oi := { dst := some 34, op := _, type := _, pos := _, after := _, guard := _ }) (v := ?_) rfl (by kernel_rfl) (by kernel_rfl) (by kernel_rfl) (fun _ _ _ h => h) (Or.inl ⟨by rfl, ?_⟩) (by assumption) ?_
      rotate_left
      · intro w hSw
        (try dsimp only at hSw)
        go_simp
        (try (with_reducible rfl))
      try simp only [Act.put, List.setIfInBounds_toArray, List.set_cons_zero, List.set_cons_succ]
      refine wpAnyH_take (i := 1) (oi := { dst := some 35, op := _, type := _, pos := _, after := _, guard := _ }) (v := ?_) rfl (by kernel_rfl) (by kernel_rfl) (by kernel_rfl) (fun _ _ _ h => h) (Or.inl ⟨by rfl, ?_⟩) (by assumption) ?_
      rotate_left
      · intro w hSw
        (try dsimp only at hSw)
        go_simp
        (try (with_reducible rfl))
      try simp only [Act.put, List.setIfInBounds_toArray, List.set_cons_zero, List.set_cons_succ]
      refine wpAnyH_take (i := 2) (oi := { dst := some 36, op := _, type := _, pos := _, after := _, guard := _ }) (v := ?_) rfl (by kernel_rfl) (by kernel_rfl) (by kernel_rfl) (fun _ _ _ h => h) (Or.inl ⟨by rfl, ?_⟩) (by assumption) ?_
      rotate_left
      · intro w hSw
        (try dsimp only at hSw)
        go_simp
        (try (with_reducible rfl))
      try simp only [Act.put, List.setIfInBounds_toArray, List.set_cons_zero, List.set_cons_succ]
      refine wpAnyH_take (i := 3) (oi := { dst := some 37, op := _, type := _, pos := _, after := _, guard := _ }) (v := ?_) rfl (by kernel_rfl) (by kernel_rfl) (by kernel_rfl) (fun _ _ _ h => h) (Or.inl ⟨by rfl, ?_⟩) (by assumption) ?_
      rotate_left
      · intro w hSw
        (try dsimp only at hSw)
        go_simp
        (try (with_reducible rfl))
      try simp only [Act.put, List.setIfInBounds_toArray, List.set_cons_zero, List.set_cons_succ]
      refine wpAnyH_ready (rs := [4]) (by kernel_rfl) (by simp) ?_
      refine AllReadyH.cons (o := { dst := some 38, op := _, type := _, pos := _, after := _, guard := _ }) rfl (fun K hK => ?_) AllReadyH.nil
      go_simp
      refine (opponent_any pl _ HPL.out).mono ?_
      rintro e w5 ⟨rfl, hb5⟩
      replace BV := BV.below hb5
      replace BG := BG.below hb5
      replace r1 := r1.below hb5
      replace r2 := r2.below hb5
      replace q1 := q1.below hb5
      replace q2 := q2.below hb5
      replace BT := BT.below hb5
      have hz5 := hb5.size
      replace hb := chain hb hb5
      clear hb5
      (try go_wp2_with fail)
      refine hK.out _ _ ⟨BV.four.1, BV.four.2.1, BV.four.2.2.1, BV.four.2.2.2.1, BG.nine.1, BG.nine.2.1, BG.nine.2.2.1, BG.nine.2.2.2.1, BG.nine.2.2.2.2.1, BG.nine.2.2.2.2.2.1, BG.nine.2.2.2.2.2.2.1, BG.nine.2.2.2.2.2.2.2.1, BG.nine.2.2.2.2.2.2.2.2.1, BT.tri.1, BT.tri.2.1, BT.tri.2.2.1⟩ (fun hHeld => ?_)
      clear hK K
      try simp only [Act.put, List.setIfInBounds_toArray, List.set_cons_zero, List.set_cons_succ]
      refine wpAnyH_take (i := 5) (oi := { dst := some 39, op := _, type := _, pos := _, after := _, guard := _ }) (v := ?_) rfl (by kernel_rfl) (by kernel_rfl) (by kernel_rfl) (fun _ _ _ h => h) (Or.inl ⟨by rfl, ?_⟩) (by assumption) ?_
      rotate_left
      · intro w hSw
        (try dsimp only at hSw)
        go_simp
        (try (with_reducible rfl))
      try simp only [Act.put, List.setIfInBounds_toArray, List.set_cons_zero, List.set_cons_succ]
      refine wpAnyH_take (i := 6) (oi := { dst := some 40, op := _, type := _, pos := _, after := _, guard := _ }) (v := ?_) rfl (by kernel_rfl) (by kernel_rfl) (by kernel_rfl) (fun _ _ _ h => h) (Or.inl ⟨by rfl, ?_⟩) (by assumption) ?_
      rotate_left
      · intro w hSw
        (try dsimp only at hSw)
        go_simp
        (try (with_reducible rfl))
      try simp only [Act.put, List.setIfInBounds_toArray, List.set_cons_zero, List.set_cons_succ]
      refine wpAnyH_take (i := 7) (oi := { dst := some 41, op := _, type := _, pos := _, after := _, guard := _ }) (v := undef) rfl (by kernel_rfl) (by kernel_rfl) (by kernel_rfl) (fun _ _ _ h => h) (Or.inr ⟨by rfl, rfl⟩) (by assumption) ?_
      try simp only [Act.put, List.setIfInBounds_toArray, List.set_cons_zero, List.set_cons_succ]
      refine wpAnyH_take (i := 8) (oi := { dst := some 42, op := _, type := _, pos := _, after := _, guard := _ }) (v := undef) rfl (by kernel_rfl) (by kernel_rfl) (by kernel_rfl) (fun _ _ _ h => h) (Or.inr ⟨by rfl, rfl⟩) (by assumption) ?_
      try simp only [Act.put, List.setIfInBounds_toArray, List.set_cons_zero, List.set_cons_succ]
      refine wpAnyH_take (i := 9) (oi := { dst := some 43, op := _, type := _, pos := _, after := _, guard := _ }) (v := undef) rfl (by kernel_rfl) (by kernel_rfl) (by kernel_rfl) (fun _ _ _ h => h) (Or.inr ⟨by rfl, rfl⟩) (by assumption) ?_
      try simp only [Act.put, List.setIfInBounds_toArray, List.set_cons_zero, List.set_cons_succ]
      refine wpAnyH_take (i := 10) (oi := { dst := some 44, op := _, type := _, pos := _, after := _, guard := _ }) (v := ?_) rfl (by kernel_rfl) (by kernel_rfl) (by kernel_rfl) (fun _ _ _ h => h) (Or.inl ⟨by rfl, ?_⟩) (by assumption) ?_
      rotate_left
      · intro w hSw
        (try dsimp only at hSw)
        go_simp
        (try (with_reducible rfl))
      try simp only [Act.put, List.setIfInBounds_toArray, List.set_cons_zero, List.set_cons_succ]
      refine wpAnyH_take (i := 11) (oi := { dst := some 4, op := _, type := _, pos := _, after := _, guard := _ }) (v := ?_) rfl (by kernel_rfl) (by kernel_rfl) (by kernel_rfl) (fun _ _ _ h => h) (Or.inl ⟨by rfl, ?_⟩) (by assumption) ?_
      rotate_left
      · intro w hSw
        (try dsimp only at hSw)
        go_simp
        (try (with_reducible rfl))
      try simp only [Act.put, List.setIfInBounds_toArray, List.set_cons_zero, List.set_cons_succ]
      refine wpAnyH_done (by kernel_rfl) ?_ _
      clear hHeld
      obtain ⟨q0_BV, q1_BV, q2_BV, q3_BV, qf_BV, ql_BV⟩ := BV.four
      obtain ⟨q0_BG, q1_BG, q2_BG, q3_BG, q4_BG, q5_BG, q6_BG, q7_BG, q8_BG, qf_BG, ql_BG⟩ := BG.nine
      obtain ⟨q0_BT, q1_BT, q2_BT, qf_BT, ql_BT⟩ := BT.tri
      go_wp2_with fail
      go_ret
      exact ⟨rfl, hb⟩
end Go.Proofs.Ytokjkcnjmfbfiaa
