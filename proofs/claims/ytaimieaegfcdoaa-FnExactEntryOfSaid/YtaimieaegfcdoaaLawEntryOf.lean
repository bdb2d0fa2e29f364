/- The exact law of chapter 13 on the entry of a database holds: for every input the law returns true and its arguments read behind the call as they read before. No conditions. -/
import Derived.Test.YtaimieaegfcdoaaDbArg
import Derived.Test.Ytaimieaegfcdoaa13i
import Derived.Test.YtaimieaegfcdoaaOpen
import Derived.ChangeOld
namespace Go.Proofs.Ytaimieaegfcdoaa
open Go.ChangeShapes Go.WideShapes Go.ChangeAt Go.RowKit
set_option linter.unusedVariables false
set_option linter.unusedSimpArgs false
set_option maxRecDepth 4000

set_option maxRecDepth 8000 in
set_option maxHeartbeats 4000000 in
theorem fnExactEntryOf_walk (p c h s kd : Int) (a : Option Addr) (n k : Nat) (L : List Rl) (a1 : Option Addr) (n1 c1 : Nat) (xs : List Int) (a2 : Option Addr) (n2 c2 : Nat) (ys : List Int) (w : World) (hn : L.length = n) (hm : n ≤ 9223372036854775807) (hr : XIn w a L) (hx : ∀ r ∈ L, -9223372036854775808 ≤ r.2 ∧ r.2 ≤ 9223372036854775807)
    (h1 : xs.length = n1) (m1 : n1 ≤ 9223372036854775807) (r1 : IRow w a1 xs) (h2 : ys.length = n2) (m2 : n2 ≤ 9223372036854775807) (r2 : IRow w a2 ys) :
    Calls Try.prog 8 #[.agg #[.int .i64 p, .int .i64 c, .int .i64 h, .int .i64 s, .int .i64 kd, .slice a n k], .slice a1 n1 c1, .slice a2 n2 c2] w fun e w' => e = .returned (.bool true) ∧ Below w.heap.size w w' := by
  subst hn h1 h2
  have BA := Blk.new w #[.int .i64 p, .int .i64 c, .int .i64 h, .int .i64 s, .int .i64 kd, .slice a L.length k] 34
  have hb : Below w.heap.size w (w.alloc (.cells #[.int .i64 p, .int .i64 c, .int .i64 h, .int .i64 s, .int .i64 kd, .slice a L.length k] 34)) := (Below.refl _ _).alloc (Nat.le_refl _) _
  have hsz := fun W => szDatabase_any p c h s kd a L.length k 1048576 W (by omega) (by omega) hm
  have hl0 := BA.lt
  obtain ⟨x0, x1, x2, x3, x4, x5, xf, xl⟩ := BA.six
  by_cases hl1 : xs.length ≤ 1048576
  · have hl1' : (xs.length : Int) ≤ 1048576 := by omega
    by_cases hl2 : ys.length ≤ 1048576
    · have hl2' : (ys.length : Int) ≤ 1048576 := by omega
      by_cases hle : L.length ≤ 1048576
      · have hle' : (L.length : Int) ≤ 1048576 := by omega
        simp only [if_neg (show ¬ (1048576 : Int) - (L.length : Int) < 0 by omega)] at hsz
        obtain ⟨lf, hlf⟩ : ∃ x : Int, (1048576 : Int) - (L.length : Int) = x := ⟨_, rfl⟩
        rw [hlf] at hsz
        have hlf0 : ¬ lf < 0 := by omega
        have HSZ := Lib.hid hsz
        have HTD := Lib.hid (fun W (q : XIn W a L) => toDatabase_any p c h s kd a k L W hle q)
        have HT1 := Lib.hid (fun W (q : IRow W a1 xs) => toInt64S_any a1 xs.length c1 xs W rfl hl1 q)
        have HT2 := Lib.hid (fun W (q : IRow W a2 ys) => toInt64S_any a2 ys.length c2 ys W rfl hl2 q)
        obtain ⟨⟨en1, en2⟩, hV⟩ : ∃ D, enV p c h s kd L xs ys = D := ⟨_, rfl⟩
        obtain ⟨r, hC⟩ : ∃ D, enC p c h s kd L xs ys = D := ⟨_, rfl⟩
        have hsp := fun g1 g2 g3 W (q : XRow W g1 L) (q1 : Row W g2 xs) (q2 : Row W g3 ys) => specEntryOf_any p c h s kd (some ⟨g1, 0, none⟩) L.length L (some ⟨g2, 0, none⟩) (some ⟨g3, 0, none⟩) xs.length ys.length xs.length ys.length xs ys W hle rfl rfl hl1 hl2 (.inr ⟨g1, rfl, q⟩) q1.irow q2.irow hx
        have him := fun g1 g2 g3 W (q : XRow W g1 L) (q1 : Row W g2 xs) (q2 : Row W g3 ys) => implEntryOf_any p c h s kd (some ⟨g1, 0, none⟩) L.length L (some ⟨g2, 0, none⟩) (some ⟨g3, 0, none⟩) xs.length ys.length xs.length ys.length xs ys W hle rfl rfl hl1 hl2 (.inr ⟨g1, rfl, q⟩) q1.irow q2.irow hx
        rw [hV, hC] at hsp him
        unfold EnGot at hsp him
        have HSP := Lib.hid hsp
        have HIM := Lib.hid him
        have HEQ := Lib.hid (fun W g1 g2 (q1 : XRow W g1 L) (q2 : XRow W g2 L) => eqDatabase_same p c h s kd g1 g2 L W hle q1 q2)
        clear hsz hsp him hV hC hx hlf
        go_enter Try.func8, Try.ntmps8
        go_wp2_with fail
        clear x0 x1 x2 x3 x4 x5 xf xl
        generalize (w.alloc (.cells #[.int .i64 p, .int .i64 c, .int .i64 h, .int .i64 s, .int .i64 kd, .slice a L.length k] 34)) = v0 at *
        refine (HSZ.out _).mono ?_
        rintro e w1 ⟨rfl, hb1⟩
        replace BA := BA.below hb1
        have hzz := hb1.size
        replace hb := chain hb hb1
        clear hb1
        obtain ⟨q0_BA, q1_BA, q2_BA, q3_BA, q4_BA, q5_BA, qf_BA, ql_BA⟩ := BA.six
        go_wp2_with fail
        clear q0_BA q1_BA q2_BA q3_BA q4_BA q5_BA qf_BA ql_BA
        refine (HTD.out _ (hr.below hb)).mono ?_
        rintro e w1 ⟨g1, rfl, hg1, hgl1, X0, hb1⟩
        replace BA := BA.below hb1
        have hz1 := hb1.size
        replace hb := chain hb hb1
        clear hb1
        obtain ⟨q0_BA, q1_BA, q2_BA, q3_BA, q4_BA, q5_BA, qf_BA, ql_BA⟩ := BA.six
        go_wp2_with fail
        clear q0_BA q1_BA q2_BA q3_BA q4_BA q5_BA qf_BA ql_BA
        refine (HT1.out _ (r1.below hb)).mono ?_
        rintro e w2 ⟨g2, rfl, hg2, R1, hb2⟩
        replace BA := BA.below hb2
        replace X0 := X0.below hb2
        have hz2 := hb2.size
        replace hb := chain hb hb2
        clear hb2
        obtain ⟨q0_BA, q1_BA, q2_BA, q3_BA, q4_BA, q5_BA, qf_BA, ql_BA⟩ := BA.six
        go_wp2_with fail
        clear q0_BA q1_BA q2_BA q3_BA q4_BA q5_BA qf_BA ql_BA
        refine (HT2.out _ (r2.below hb)).mono ?_
        rintro e w3 ⟨g3, rfl, hg3, R2, hb3⟩
        replace BA := BA.below hb3
        replace X0 := X0.below hb3
        replace R1 := R1.below hb3
        have hz3 := hb3.size
        replace hb := chain hb hb3
        clear hb3
        obtain ⟨q0_BA, q1_BA, q2_BA, q3_BA, q4_BA, q5_BA, qf_BA, ql_BA⟩ := BA.six
        go_wp2_with fail
        clear q0_BA q1_BA q2_BA q3_BA q4_BA q5_BA qf_BA ql_BA
        refine (HSP.out _ _ _ _ X0 R1 R2).mono ?_
        rintro e w4 ⟨rfl, hb4⟩
        replace BA := BA.below hb4
        replace X0 := X0.below hb4
        replace R1 := R1.below hb4
        replace R2 := R2.below hb4
        have hz4 := hb4.size
        replace hb := chain hb hb4
        clear hb4
        clear X0 R1 R2
        have B0 := Blk.new w4 #[.int .i64 en1, .int .i64 en2] 46
        have hal5 : Below w4.heap.size w4 (w4.alloc (.cells #[.int .i64 en1, .int .i64 en2] 46)) := (Below.refl _ _).alloc (Nat.le_refl _) _
        have hz5 : (w4.alloc (.cells #[.int .i64 en1, .int .i64 en2] 46)).heap.size = w4.heap.size + 1 := by simp
        replace BA := BA.below hal5
        replace hb := chain hb hal5
        clear hal5
        obtain ⟨q0_BA, q1_BA, q2_BA, q3_BA, q4_BA, q5_BA, qf_BA, ql_BA⟩ := BA.six
        obtain ⟨q0_B0, q1_B0, qf_B0, ql_B0⟩ := B0.two
        go_wp2_with fail
        clear q0_BA q1_BA q2_BA q3_BA q4_BA q5_BA qf_BA ql_BA
        clear q0_B0 q1_B0 qf_B0 ql_B0
        generalize (w4.alloc (.cells #[.int .i64 en1, .int .i64 en2] 46)) = w5 at *
        obtain ⟨q0_BA, q1_BA, q2_BA, q3_BA, q4_BA, q5_BA, qf_BA, ql_BA⟩ := BA.six
        obtain ⟨q0_B0, q1_B0, qf_B0, ql_B0⟩ := B0.two
        go_wp2_with fail
        clear q0_BA q1_BA q2_BA q3_BA q4_BA q5_BA qf_BA ql_BA
        clear q0_B0 q1_B0 qf_B0 ql_B0
        refine (HTD.out _ (hr.below hb)).mono ?_
        rintro e w6 ⟨gx, rfl, hg6, hgl6, X1, hb6⟩
        replace BA := BA.below hb6
        replace B0 := B0.below hb6
        have hz6 := hb6.size
        replace hb := chain hb hb6
        clear hb6
        have BX := Blk.new w6 #[.int .i64 p, .int .i64 c, .int .i64 h, .int .i64 s, .int .i64 kd, .slice (some ⟨gx, 0, none⟩) L.length L.length] 40
        have hal7 : Below w6.heap.size w6 (w6.alloc (.cells #[.int .i64 p, .int .i64 c, .int .i64 h, .int .i64 s, .int .i64 kd, .slice (some ⟨gx, 0, none⟩) L.length L.length] 40)) := (Below.refl _ _).alloc (Nat.le_refl _) _
        have hz7 : (w6.alloc (.cells #[.int .i64 p, .int .i64 c, .int .i64 h, .int .i64 s, .int .i64 kd, .slice (some ⟨gx, 0, none⟩) L.length L.length] 40)).heap.size = w6.heap.size + 1 := by simp
        replace BA := BA.below hal7
        replace B0 := B0.below hal7
        replace X1 := X1.below hal7
        replace hb := chain hb hal7
        clear hal7
        obtain ⟨q0_BA, q1_BA, q2_BA, q3_BA, q4_BA, q5_BA, qf_BA, ql_BA⟩ := BA.six
        obtain ⟨q0_B0, q1_B0, qf_B0, ql_B0⟩ := B0.two
        obtain ⟨q0_BX, q1_BX, q2_BX, q3_BX, q4_BX, q5_BX, qf_BX, ql_BX⟩ := BX.six
        go_wp2_with fail
        clear q0_BA q1_BA q2_BA q3_BA q4_BA q5_BA qf_BA ql_BA
        clear q0_B0 q1_B0 qf_B0 ql_B0
        clear q0_BX q1_BX q2_BX q3_BX q4_BX q5_BX qf_BX ql_BX
        generalize (w6.alloc (.cells #[.int .i64 p, .int .i64 c, .int .i64 h, .int .i64 s, .int .i64 kd, .slice (some ⟨gx, 0, none⟩) L.length L.length] 40)) = w7 at *
        obtain ⟨q0_BA, q1_BA, q2_BA, q3_BA, q4_BA, q5_BA, qf_BA, ql_BA⟩ := BA.six
        obtain ⟨q0_B0, q1_B0, qf_B0, ql_B0⟩ := B0.two
        obtain ⟨q0_BX, q1_BX, q2_BX, q3_BX, q4_BX, q5_BX, qf_BX, ql_BX⟩ := BX.six
        go_wp2_with fail
        clear q0_BA q1_BA q2_BA q3_BA q4_BA q5_BA qf_BA ql_BA
        clear q0_B0 q1_B0 qf_B0 ql_B0
        clear q0_BX q1_BX q2_BX q3_BX q4_BX q5_BX qf_BX ql_BX
        refine (HT1.out _ (r1.below hb)).mono ?_
        rintro e w8 ⟨go, rfl, hg8, R1, hb8⟩
        replace BA := BA.below hb8
        replace B0 := B0.below hb8
        replace X1 := X1.below hb8
        replace BX := BX.below hb8
        have hz8 := hb8.size
        replace hb := chain hb hb8
        clear hb8
        obtain ⟨q0_BA, q1_BA, q2_BA, q3_BA, q4_BA, q5_BA, qf_BA, ql_BA⟩ := BA.six
        obtain ⟨q0_B0, q1_B0, qf_B0, ql_B0⟩ := B0.two
        obtain ⟨q0_BX, q1_BX, q2_BX, q3_BX, q4_BX, q5_BX, qf_BX, ql_BX⟩ := BX.six
        go_wp2_with fail
        clear q0_BA q1_BA q2_BA q3_BA q4_BA q5_BA qf_BA ql_BA
        clear q0_B0 q1_B0 qf_B0 ql_B0
        clear q0_BX q1_BX q2_BX q3_BX q4_BX q5_BX qf_BX ql_BX
        refine (HT2.out _ (r2.below hb)).mono ?_
        rintro e w9 ⟨gt, rfl, hg9, R2, hb9⟩
        replace BA := BA.below hb9
        replace B0 := B0.below hb9
        replace X1 := X1.below hb9
        replace BX := BX.below hb9
        replace R1 := R1.below hb9
        have hz9 := hb9.size
        replace hb := chain hb hb9
        clear hb9
        obtain ⟨q0_BA, q1_BA, q2_BA, q3_BA, q4_BA, q5_BA, qf_BA, ql_BA⟩ := BA.six
        obtain ⟨q0_B0, q1_B0, qf_B0, ql_B0⟩ := B0.two
        obtain ⟨q0_BX, q1_BX, q2_BX, q3_BX, q4_BX, q5_BX, qf_BX, ql_BX⟩ := BX.six
        go_wp2_with fail
        clear q0_BA q1_BA q2_BA q3_BA q4_BA q5_BA qf_BA ql_BA
        clear q0_B0 q1_B0 qf_B0 ql_B0
        clear q0_BX q1_BX q2_BX q3_BX q4_BX q5_BX qf_BX ql_BX
        refine (HIM.out _ _ _ _ X1 R1 R2).mono ?_
        rintro e w10 ⟨rfl, hb10⟩
        replace BA := BA.below hb10
        replace B0 := B0.below hb10
        replace X1 := X1.below hb10
        replace BX := BX.below hb10
        replace R1 := R1.below hb10
        replace R2 := R2.below hb10
        have hz10 := hb10.size
        replace hb := chain hb hb10
        clear hb10
        have B3 := Blk.new w10 #[.int .i64 en1, .int .i64 en2] 46
        have hal11 : Below w10.heap.size w10 (w10.alloc (.cells #[.int .i64 en1, .int .i64 en2] 46)) := (Below.refl _ _).alloc (Nat.le_refl _) _
        have hz11 : (w10.alloc (.cells #[.int .i64 en1, .int .i64 en2] 46)).heap.size = w10.heap.size + 1 := by simp
        replace BA := BA.below hal11
        replace B0 := B0.below hal11
        replace X1 := X1.below hal11
        replace BX := BX.below hal11
        replace R1 := R1.below hal11
        replace R2 := R2.below hal11
        replace hb := chain hb hal11
        clear hal11
        obtain ⟨q0_BA, q1_BA, q2_BA, q3_BA, q4_BA, q5_BA, qf_BA, ql_BA⟩ := BA.six
        obtain ⟨q0_B0, q1_B0, qf_B0, ql_B0⟩ := B0.two
        obtain ⟨q0_BX, q1_BX, q2_BX, q3_BX, q4_BX, q5_BX, qf_BX, ql_BX⟩ := BX.six
        obtain ⟨q0_B3, q1_B3, qf_B3, ql_B3⟩ := B3.two
        go_wp2_with fail
        clear q0_BA q1_BA q2_BA q3_BA q4_BA q5_BA qf_BA ql_BA
        clear q0_B0 q1_B0 qf_B0 ql_B0
        clear q0_BX q1_BX q2_BX q3_BX q4_BX q5_BX qf_BX ql_BX
        clear q0_B3 q1_B3 qf_B3 ql_B3
        generalize (w10.alloc (.cells #[.int .i64 en1, .int .i64 en2] 46)) = w11 at *
        obtain ⟨q0_BA, q1_BA, q2_BA, q3_BA, q4_BA, q5_BA, qf_BA, ql_BA⟩ := BA.six
        obtain ⟨q0_B0, q1_B0, qf_B0, ql_B0⟩ := B0.two
        obtain ⟨q0_BX, q1_BX, q2_BX, q3_BX, q4_BX, q5_BX, qf_BX, ql_BX⟩ := BX.six
        obtain ⟨q0_B3, q1_B3, qf_B3, ql_B3⟩ := B3.two
        go_wp2_with fail
        clear q0_BA q1_BA q2_BA q3_BA q4_BA q5_BA qf_BA ql_BA
        clear q0_B0 q1_B0 qf_B0 ql_B0
        clear q0_BX q1_BX q2_BX q3_BX q4_BX q5_BX qf_BX ql_BX
        clear q0_B3 q1_B3 qf_B3 ql_B3
        refine (eqExact_same _ _ _).mono ?_
        rintro e w12 ⟨rfl, hb12⟩
        replace BA := BA.below hb12
        replace B0 := B0.below hb12
        replace X1 := X1.below hb12
        replace BX := BX.below hb12
        replace R1 := R1.below hb12
        replace R2 := R2.below hb12
        replace B3 := B3.below hb12
        have hz12 := hb12.size
        replace hb := chain hb hb12
        clear hb12
        obtain ⟨q0_BA, q1_BA, q2_BA, q3_BA, q4_BA, q5_BA, qf_BA, ql_BA⟩ := BA.six
        obtain ⟨q0_B0, q1_B0, qf_B0, ql_B0⟩ := B0.two
        obtain ⟨q0_BX, q1_BX, q2_BX, q3_BX, q4_BX, q5_BX, qf_BX, ql_BX⟩ := BX.six
        obtain ⟨q0_B3, q1_B3, qf_B3, ql_B3⟩ := B3.two
        go_wp2_with fail
        clear q0_BA q1_BA q2_BA q3_BA q4_BA q5_BA qf_BA ql_BA
        clear q0_B0 q1_B0 qf_B0 ql_B0
        clear q0_BX q1_BX q2_BX q3_BX q4_BX q5_BX qf_BX ql_BX
        clear q0_B3 q1_B3 qf_B3 ql_B3
        have hd_ : w12.drew.heap.size = w12.heap.size := rfl
        replace BA := BA.drew
        replace BX := BX.drew
        replace hb := hb.drew
        replace B0 := B0.drew
        replace X1 := X1.drew
        replace R1 := R1.drew
        replace R2 := R2.drew
        replace B3 := B3.drew
        refine wp_region_held_drew (S := fun w' => w'.cell? ⟨w.heap.size, 0, none⟩ = some (.int .i64 p) ∧ w'.cell? ⟨w.heap.size, 1, none⟩ = some (.int .i64 c) ∧ w'.cell? ⟨w.heap.size, 2, none⟩ = some (.int .i64 h) ∧ w'.cell? ⟨w.heap.size, 3, none⟩ = some (.int .i64 s) ∧ w'.cell? ⟨w.heap.size, 4, none⟩ = some (.int .i64 kd) ∧ w'.cell? ⟨w.heap.size, 5, none⟩ = some (.slice a L.length k) ∧ w'.cell? ⟨w6.heap.size, 0, none⟩ = some (.int .i64 p) ∧ w'.cell? ⟨w6.heap.size, 1, none⟩ = some (.int .i64 c) ∧ w'.cell? ⟨w6.heap.size, 2, none⟩ = some (.int .i64 h) ∧ w'.cell? ⟨w6.heap.size, 3, none⟩ = some (.int .i64 s) ∧ w'.cell? ⟨w6.heap.size, 4, none⟩ = some (.int .i64 kd) ∧ w'.cell? ⟨w6.heap.size, 5, none⟩ = some (.slice (some ⟨gx, 0, none⟩) L.length L.length)) (by kernel_rfl) ⟨BA.six.1, BA.six.2.1, BA.six.2.2.1, BA.six.2.2.2.1, BA.six.2.2.2.2.1, BA.six.2.2.2.2.2.1, BX.six.1, BX.six.2.1, BX.six.2.2.1, BX.six.2.2.2.1, BX.six.2.2.2.2.1, BX.six.2.2.2.2.2.1⟩ (fun hHeld => ?_)
        clear hHeld
        generalize w12.drew = vd at *
        have hHeld : vd.cell? ⟨w.heap.size, 0, none⟩ = some (.int .i64 p) ∧ vd.cell? ⟨w.heap.size, 1, none⟩ = some (.int .i64 c) ∧ vd.cell? ⟨w.heap.size, 2, none⟩ = some (.int .i64 h) ∧ vd.cell? ⟨w.heap.size, 3, none⟩ = some (.int .i64 s) ∧ vd.cell? ⟨w.heap.size, 4, none⟩ = some (.int .i64 kd) ∧ vd.cell? ⟨w.heap.size, 5, none⟩ = some (.slice a L.length k) ∧ vd.cell? ⟨w6.heap.size, 0, none⟩ = some (.int .i64 p) ∧ vd.cell? ⟨w6.heap.size, 1, none⟩ = some (.int .i64 c) ∧ vd.cell? ⟨w6.heap.size, 2, none⟩ = some (.int .i64 h) ∧ vd.cell? ⟨w6.heap.size, 3, none⟩ = some (.int .i64 s) ∧ vd.cell? ⟨w6.heap.size, 4, none⟩ = some (.int .i64 kd) ∧ vd.cell? ⟨w6.heap.size, 5, none⟩ = some (.slice (some ⟨gx, 0, none⟩) L.length L.length) := ⟨BA.six.1, BA.six.2.1, BA.six.2.2.1, BA.six.2.2.2.1, BA.six.2.2.2.2.1, BA.six.2.2.2.2.2.1, BX.six.1, BX.six.2.1, BX.six.2.2.1, BX.six.2.2.2.1, BX.six.2.2.2.2.1, BX.six.2.2.2.2.2.1⟩
        refine wpAnyH_take (i := 0) (oi := { dst := some 58, op := _, type := _, pos := _, after := _, guard := _ }) (v := ?_) rfl (by kernel_rfl) (by kernel_rfl) (by kernel_rfl) (fun _ _ _ h => h) (Or.inl ⟨by rfl, ?_⟩) (by assumption) ?_
        rotate_left
        · intro w hSw
          (try dsimp only at hSw)
          go_simp
          (try (with_reducible rfl))
        try simp only [Act.put, List.setIfInBounds_toArray, List.set_cons_zero, List.set_cons_succ]
        refine wpAnyH_take (i := 1) (oi := { dst := some 59, op := _, type := _, pos := _, after := _, guard := _ }) (v := ?_) rfl (by kernel_rfl) (by kernel_rfl) (by kernel_rfl) (fun _ _ _ h => h) (Or.inl ⟨by rfl, ?_⟩) (by assumption) ?_
        rotate_left
        · intro w hSw
          (try dsimp only at hSw)
          go_simp
          (try (with_reducible rfl))
        try simp only [Act.put, List.setIfInBounds_toArray, List.set_cons_zero, List.set_cons_succ]
        refine wpAnyH_ready (rs := [2]) (by kernel_rfl) (by simp) ?_
        refine AllReadyH.cons (o := { dst := some 60, op := _, type := _, pos := _, after := _, guard := _ }) rfl (fun K hK => ?_) AllReadyH.nil
        go_simp
        refine (HTD.out _ (hr.below hb)).mono ?_
        rintro e wr1 ⟨g16, rfl, hg16, hgl16, X2, hbr1⟩
        replace BA := BA.below hbr1
        replace B0 := B0.below hbr1
        replace X1 := X1.below hbr1
        replace BX := BX.below hbr1
        replace R1 := R1.below hbr1
        replace R2 := R2.below hbr1
        replace B3 := B3.below hbr1
        replace hb := chain hb hbr1
        clear hbr1
        (try go_wp2_with fail)
        refine hK.out _ _ ⟨BA.six.1, BA.six.2.1, BA.six.2.2.1, BA.six.2.2.2.1, BA.six.2.2.2.2.1, BA.six.2.2.2.2.2.1, BX.six.1, BX.six.2.1, BX.six.2.2.1, BX.six.2.2.2.1, BX.six.2.2.2.2.1, BX.six.2.2.2.2.2.1⟩ (fun hHeld => ?_)
        clear hK K
        try simp only [Act.put, List.setIfInBounds_toArray, List.set_cons_zero, List.set_cons_succ]
        refine wpAnyH_ready (rs := [3]) (by kernel_rfl) (by simp) ?_
        refine AllReadyH.cons (o := { dst := some 61, op := _, type := _, pos := _, after := _, guard := _ }) rfl (fun K hK => ?_) AllReadyH.nil
        go_simp
        refine (HEQ.out _ _ _ X1 X2).mono ?_
        rintro e wr2 ⟨rfl, hbr2⟩
        replace BA := BA.below hbr2
        replace B0 := B0.below hbr2
        replace X1 := X1.below hbr2
        replace BX := BX.below hbr2
        replace R1 := R1.below hbr2
        replace R2 := R2.below hbr2
        replace B3 := B3.below hbr2
        replace hb := chain hb hbr2
        clear hbr2
        (try go_wp2_with fail)
        refine hK.out _ _ ⟨BA.six.1, BA.six.2.1, BA.six.2.2.1, BA.six.2.2.2.1, BA.six.2.2.2.2.1, BA.six.2.2.2.2.2.1, BX.six.1, BX.six.2.1, BX.six.2.2.1, BX.six.2.2.2.1, BX.six.2.2.2.2.1, BX.six.2.2.2.2.2.1⟩ (fun hHeld => ?_)
        clear hK K
        try simp only [Act.put, List.setIfInBounds_toArray, List.set_cons_zero, List.set_cons_succ]
        refine wpAnyH_take (i := 4) (oi := { dst := some 62, op := _, type := _, pos := _, after := _, guard := _ }) (v := ?_) rfl (by kernel_rfl) (by kernel_rfl) (by kernel_rfl) (fun _ _ _ h => h) (Or.inl ⟨by rfl, ?_⟩) (by assumption) ?_
        rotate_left
        · intro w hSw
          (try dsimp only at hSw)
          go_simp
          (try (with_reducible rfl))
        try simp only [Act.put, List.setIfInBounds_toArray, List.set_cons_zero, List.set_cons_succ]
        refine wpAnyH_done (by kernel_rfl) ?_ _
        clear hHeld
        obtain ⟨q0_BA, q1_BA, q2_BA, q3_BA, q4_BA, q5_BA, qf_BA, ql_BA⟩ := BA.six
        obtain ⟨q0_B0, q1_B0, qf_B0, ql_B0⟩ := B0.two
        obtain ⟨q0_BX, q1_BX, q2_BX, q3_BX, q4_BX, q5_BX, qf_BX, ql_BX⟩ := BX.six
        obtain ⟨q0_B3, q1_B3, qf_B3, ql_B3⟩ := B3.two
        go_wp2_with fail
        clear q0_BA q1_BA q2_BA q3_BA q4_BA q5_BA qf_BA ql_BA
        clear q0_B0 q1_B0 qf_B0 ql_B0
        clear q0_BX q1_BX q2_BX q3_BX q4_BX q5_BX qf_BX ql_BX
        clear q0_B3 q1_B3 qf_B3 ql_B3
        refine (HT1.out _ (r1.below hb)).mono ?_
        rintro e w51 ⟨gp, rfl, hg51, R3, hb51⟩
        replace BA := BA.below hb51
        replace B0 := B0.below hb51
        replace X1 := X1.below hb51
        replace BX := BX.below hb51
        replace R1 := R1.below hb51
        replace R2 := R2.below hb51
        replace B3 := B3.below hb51
        have hz51 := hb51.size
        replace hb := chain hb hb51
        clear hb51
        obtain ⟨q0_BA, q1_BA, q2_BA, q3_BA, q4_BA, q5_BA, qf_BA, ql_BA⟩ := BA.six
        obtain ⟨q0_B0, q1_B0, qf_B0, ql_B0⟩ := B0.two
        obtain ⟨q0_BX, q1_BX, q2_BX, q3_BX, q4_BX, q5_BX, qf_BX, ql_BX⟩ := BX.six
        obtain ⟨q0_B3, q1_B3, qf_B3, ql_B3⟩ := B3.two
        go_wp2_with fail
        clear q0_BA q1_BA q2_BA q3_BA q4_BA q5_BA qf_BA ql_BA
        clear q0_B0 q1_B0 qf_B0 ql_B0
        clear q0_BX q1_BX q2_BX q3_BX q4_BX q5_BX qf_BX ql_BX
        clear q0_B3 q1_B3 qf_B3 ql_B3
        refine (eqInt64S_same _ _ _ _ _ xs _ rfl hl1 R1.irow R3.irow).mono ?_
        rintro e w52 ⟨rfl, hb52⟩
        replace BA := BA.below hb52
        replace B0 := B0.below hb52
        replace X1 := X1.below hb52
        replace BX := BX.below hb52
        replace R1 := R1.below hb52
        replace R2 := R2.below hb52
        replace B3 := B3.below hb52
        replace R3 := R3.below hb52
        have hz52 := hb52.size
        replace hb := chain hb hb52
        clear hb52
        obtain ⟨q0_BA, q1_BA, q2_BA, q3_BA, q4_BA, q5_BA, qf_BA, ql_BA⟩ := BA.six
        obtain ⟨q0_B0, q1_B0, qf_B0, ql_B0⟩ := B0.two
        obtain ⟨q0_BX, q1_BX, q2_BX, q3_BX, q4_BX, q5_BX, qf_BX, ql_BX⟩ := BX.six
        obtain ⟨q0_B3, q1_B3, qf_B3, ql_B3⟩ := B3.two
        go_wp2_with fail
        clear q0_BA q1_BA q2_BA q3_BA q4_BA q5_BA qf_BA ql_BA
        clear q0_B0 q1_B0 qf_B0 ql_B0
        clear q0_BX q1_BX q2_BX q3_BX q4_BX q5_BX qf_BX ql_BX
        clear q0_B3 q1_B3 qf_B3 ql_B3
        refine (HT2.out _ (r2.below hb)).mono ?_
        rintro e w53 ⟨gq, rfl, hg53, R4, hb53⟩
        replace BA := BA.below hb53
        replace B0 := B0.below hb53
        replace X1 := X1.below hb53
        replace BX := BX.below hb53
        replace R1 := R1.below hb53
        replace R2 := R2.below hb53
        replace B3 := B3.below hb53
        replace R3 := R3.below hb53
        have hz53 := hb53.size
        replace hb := chain hb hb53
        clear hb53
        obtain ⟨q0_BA, q1_BA, q2_BA, q3_BA, q4_BA, q5_BA, qf_BA, ql_BA⟩ := BA.six
        obtain ⟨q0_B0, q1_B0, qf_B0, ql_B0⟩ := B0.two
        obtain ⟨q0_BX, q1_BX, q2_BX, q3_BX, q4_BX, q5_BX, qf_BX, ql_BX⟩ := BX.six
        obtain ⟨q0_B3, q1_B3, qf_B3, ql_B3⟩ := B3.two
        go_wp2_with fail
        clear q0_BA q1_BA q2_BA q3_BA q4_BA q5_BA qf_BA ql_BA
        clear q0_B0 q1_B0 qf_B0 ql_B0
        clear q0_BX q1_BX q2_BX q3_BX q4_BX q5_BX qf_BX ql_BX
        clear q0_B3 q1_B3 qf_B3 ql_B3
        refine (eqInt64S_same _ _ _ _ _ ys _ rfl hl2 R2.irow R4.irow).mono ?_
        rintro e w54 ⟨rfl, hb54⟩
        replace BA := BA.below hb54
        replace B0 := B0.below hb54
        replace X1 := X1.below hb54
        replace BX := BX.below hb54
        replace R1 := R1.below hb54
        replace R2 := R2.below hb54
        replace B3 := B3.below hb54
        replace R3 := R3.below hb54
        replace R4 := R4.below hb54
        have hz54 := hb54.size
        replace hb := chain hb hb54
        clear hb54
        obtain ⟨q0_BA, q1_BA, q2_BA, q3_BA, q4_BA, q5_BA, qf_BA, ql_BA⟩ := BA.six
        obtain ⟨q0_B0, q1_B0, qf_B0, ql_B0⟩ := B0.two
        obtain ⟨q0_BX, q1_BX, q2_BX, q3_BX, q4_BX, q5_BX, qf_BX, ql_BX⟩ := BX.six
        obtain ⟨q0_B3, q1_B3, qf_B3, ql_B3⟩ := B3.two
        go_wp2_with fail
        go_ret
        exact ⟨rfl, hb⟩
      · have hle' : ¬ (L.length : Int) ≤ 1048576 := by omega
        simp only [if_pos (show (1048576 : Int) - (L.length : Int) < 0 by omega)] at hsz
        have HSZ := Lib.hid hsz
        clear hsz
        go_enter Try.func8, Try.ntmps8
        go_wp2_with fail
        refine (HSZ.out _).mono ?_
        rintro e w1 ⟨rfl, hb1⟩
        go_wp2_with fail
        go_ret
        exact ⟨rfl, chain hb hb1⟩
    · have hl2' : ¬ (ys.length : Int) ≤ 1048576 := by omega
      go_enter Try.func8, Try.ntmps8
      go_wp2_with fail
      go_ret
      exact ⟨rfl, hb⟩
  · have hl1' : ¬ (xs.length : Int) ≤ 1048576 := by omega
    go_enter Try.func8, Try.ntmps8
    go_wp2_with fail
    go_ret
    exact ⟨rfl, hb⟩
set_option maxRecDepth 100000 in
theorem fnExactEntryOf_lifted (os : Os) (started : os.Started) (H : Type) (enc : TypeId × Value → H) :
    ReturnsInHanded {} Try.checked os 8 .any (Rows.fnExactEntryOfSpec.pre6 enc Try.prog Try.f8 Rows.fnExactEntryOfRow.domain false) (Rows.fnExactEntryOfSpec.post enc Try.prog Try.f8 false true false false) := by
  refine returnsInHanded_of_change (C := Try.checked) own started (by kernel_rfl) Try.func8
    (ChangeSpec.witness6 (enc := enc) (C := Try.checked) false ⟨#[], #[.agg #[.int .i64 0, .int .i64 0, .int .i64 0, .int .i64 0, .int .i64 0, .slice none 0 0], .slice none 0 0, .slice none 0 0], []⟩ 8 (by kernel_rfl) (by kernel_rfl) (by kernel_rfl) (by kernel_rfl)) ?_
  intro W base args ds gs before hval0 hW hcnd _
  have hval : ∀ (j : Nat) t v, Try.f8.params[j]? = some t → args[j]? = some v → Value.okWide Try.prog W .any base t v := hval0
  have hW' := hW
  obtain ⟨p, q, hA0, hV, rfl, hfz, hnd⟩ := hW
  have hA : DataW.TrodAll enc Try.prog W 0 (fun _ => true) true Try.f8.params.toList args.toList ds p := hA0
  rw [Try.params8] at hA hval
  obtain ⟨v0, vs0, d0, ds0, p0, q0, hargs, rfl, rfl, h0, r0⟩ := trodAll_cons hA
  obtain ⟨v1, vs1, d1, ds1, p1, q1, rfl, rfl, rfl, h1, r1⟩ := trodAll_cons r0
  obtain ⟨v2, vs2, d2, ds2, p2, q2, rfl, rfl, rfl, h2, r2⟩ := trodAll_cons r1
  obtain ⟨rfl, rfl, rfl⟩ := trodAll_nil r2
  obtain rfl : args = #[v0, v1, v2] := by cases args; simp_all
  obtain ⟨rfl, rfl⟩ := trodVars_none hV
  have k0 := h0
  have lt0 : ∀ x ∈ p0, x.block < W.heap.size := by obtain ⟨m, hm⟩ := k0; exact DataW.trod_lt m _ _ _ hm
  have k1 := h1
  have lt1 : ∀ x ∈ p1, x.block < W.heap.size := by obtain ⟨m, hm⟩ := k1; exact DataW.trod_lt m _ _ _ hm
  have k2 := h2
  have lt2 : ∀ x ∈ p2, x.block < W.heap.size := by obtain ⟨m, hm⟩ := k2; exact DataW.trod_lt m _ _ _ hm
  obtain ⟨dp_0, dc_0, dh_0, ds_0, dk_0, da_0, dn_0, dm_0, dL_0, rfl, dl_0, db_0, dr_0, dw_0⟩ := open_db (hval 0 34 v0 rfl rfl) h0
  obtain ⟨sa_1, sl_1, sc_1, rfl⟩ := okWide_slice Try.underlying44 (hval 1 44 v1 rfl rfl)
  obtain ⟨ra_1, rn_1, rc_1, rx_1, hv_1, rl_1, rm_1, rr_1, rw_1⟩ : ∃ (a : Option Addr) (n cap : Nat) (xs : List Int), Value.slice sa_1 sl_1 sc_1 = .slice a n cap ∧ xs.length = n ∧ n ≤ 9223372036854775807 ∧ IRow W a xs ∧ ∀ y ∈ xs, (Lit.int .i64 y).wf = true := by
    obtain ⟨fuel, hf⟩ := h1
    exact open_row hf
  simp only [Value.slice.injEq] at hv_1
  obtain ⟨rfl, rfl, rfl⟩ := hv_1
  obtain ⟨sa_2, sl_2, sc_2, rfl⟩ := okWide_slice Try.underlying44 (hval 2 44 v2 rfl rfl)
  obtain ⟨ra_2, rn_2, rc_2, rx_2, hv_2, rl_2, rm_2, rr_2, rw_2⟩ : ∃ (a : Option Addr) (n cap : Nat) (xs : List Int), Value.slice sa_2 sl_2 sc_2 = .slice a n cap ∧ xs.length = n ∧ n ≤ 9223372036854775807 ∧ IRow W a xs ∧ ∀ y ∈ xs, (Lit.int .i64 y).wf = true := by
    obtain ⟨fuel, hf⟩ := h2
    exact open_row hf
  simp only [Value.slice.injEq] at hv_2
  obtain ⟨rfl, rfl, rfl⟩ := hv_2
  clear hA0 hval0
  refine (fnExactEntryOf_walk dp_0 dc_0 dh_0 ds_0 dk_0 da_0 dn_0 dm_0 dL_0 sa_1 sl_1 sc_1 rx_1 sa_2 sl_2 sc_2 rx_2 W dl_0 db_0 dr_0 dw_0 rl_1 rm_1 rr_1 rl_2 rm_2 rr_2).mono fun e W' ⟨he, bel⟩ => ?_
  subst he
  exact ⟨_, rfl, _, _, _, [], _, [], hW', trodAll_mk1 (shut_bool Try.underlying4 _), (trodAll_cons_mk (Below.trod laidOut (by kernel_rfl) (of_decide_eq_true (by kernel_rfl)) k0 bel lt0) (trodAll_cons_mk (Below.trod laidOut (by kernel_rfl) (of_decide_eq_true (by kernel_rfl)) k1 bel lt1) (trodAll_cons_mk (Below.trod laidOut (by kernel_rfl) (of_decide_eq_true (by kernel_rfl)) k2 bel lt2) trodAll_mk0))), rfl, bel.frame _, fun h => by cases h⟩
theorem fnExactEntryOf_holds : Rows.FnExactEntryOfSaid :=
  OpenClaim.holds_of_wide 8 Try.f8 rfl rfl rfl rfl rfl rfl rfl ⟨rfl, rfl, rfl, rfl, rfl⟩ rfl rfl rfl rfl rfl (by kernel_rfl) Try.func8 (by kernel_rfl)
    (of_decide_eq_true (by kernel_rfl)) (by unfold Func.isWrapper; first | (rw [if_pos (by decide +kernel)]; kernel_rfl) | (rw [if_neg (by decide +kernel)]; exact ⟨rfl, rfl⟩))
    (fun os started H enc _ => fnExactEntryOf_lifted os started H enc)
end Go.Proofs.Ytaimieaegfcdoaa
