/- The exact law of chapter 13 on the encoding of a database holds: for every input the law returns true and its arguments read behind the call as they read before. No conditions. -/
import Derived.Test.YtgohipfaojiilaaMkX
import Derived.Test.Ytgohipfaojiilaa13o
import Derived.Test.YtgohipfaojiilaaOpen
import Derived.ChangeOld
namespace Go.Proofs.Ytgohipfaojiilaa
open Go.ChangeShapes Go.WideShapes Go.ChangeAt Go.RowKit
set_option linter.unusedVariables false
set_option linter.unusedSimpArgs false
set_option maxRecDepth 4000

set_option maxRecDepth 8000 in
set_option maxHeartbeats 4000000 in
theorem fnExactEncodeDatabase_walk (p c h s kd : Int) (a : Option Addr) (n k : Nat) (L : List Rl) (w : World) (hn : L.length = n) (hm : n ≤ 9223372036854775807) (hr : XIn w a L) (hx : ∀ r ∈ L, -9223372036854775808 ≤ r.2 ∧ r.2 ≤ 9223372036854775807) :
    Calls Try.prog 3 #[.agg #[.int .i64 p, .int .i64 c, .int .i64 h, .int .i64 s, .int .i64 kd, .slice a n k]] w fun e w' => e = .returned (.bool true) ∧ Below w.heap.size w w' := by
  subst hn
  have BA := Blk.new w #[.int .i64 p, .int .i64 c, .int .i64 h, .int .i64 s, .int .i64 kd, .slice a L.length k] 26
  have hb : Below w.heap.size w (w.alloc (.cells #[.int .i64 p, .int .i64 c, .int .i64 h, .int .i64 s, .int .i64 kd, .slice a L.length k] 26)) := (Below.refl _ _).alloc (Nat.le_refl _) _
  have hsz := fun W => szDatabase_any p c h s kd a L.length k 1048576 W (by omega) (by omega) hm
  have hl0 := BA.lt
  obtain ⟨x0, x1, x2, x3, x4, x5, xf, xl⟩ := BA.six
  by_cases hle : L.length ≤ 1048576
  · have hle' : (L.length : Int) ≤ 1048576 := by omega
    simp only [if_neg (show ¬ (1048576 : Int) - (L.length : Int) < 0 by omega)] at hsz
    obtain ⟨lf, hlf⟩ : ∃ x : Int, (1048576 : Int) - (L.length : Int) = x := ⟨_, rfl⟩
    rw [hlf] at hsz
    have hlf0 : ¬ lf < 0 := by omega
    have HSZ := Lib.hid hsz
    have HTD := Lib.hid (fun W (q : XIn W a L) => toDatabase_any p c h s kd a k L W hle q)
    have hzl := edL_len p c h s kd L
    obtain ⟨zs, hzs⟩ : ∃ D, edL p c h s kd L = D := ⟨_, rfl⟩
    obtain ⟨r, hC⟩ : ∃ D, edC p c h s kd L = D := ⟨_, rfl⟩
    have hsp := fun g W (q : XRow W g L) => specEncodeDatabase_any p c h s kd (some ⟨g, 0, none⟩) L.length L W hle (.inr ⟨g, rfl, q⟩) hx
    have him := fun g W (q : XRow W g L) => encodeDatabase_any p c h s kd (some ⟨g, 0, none⟩) L.length L W hle (.inr ⟨g, rfl, q⟩) hx
    rw [hzs, hC] at hsp him
    rw [hzs] at hzl
    unfold B8.SliceGot2 at hsp him
    have hlz : zs.length ≤ 1048576 := by omega
    have HSP := Lib.hid hsp
    have HIM := Lib.hid him
    have HEQ := Lib.hid (fun W g1 g2 (q1 : XRow W g1 L) (q2 : XRow W g2 L) => eqDatabase_same p c h s kd g1 g2 L W hle q1 q2)
    have HEZ := Lib.hid (fun W x y c d (q : B8.IRow W x zs) (q2 : B8.IRow W y zs) => B8.eqByteS_same x y zs.length c d zs W rfl hlz q q2)
    have HMD := Lib.hid (fun W g (q : XRow W g L) => markDatabase_any p c h s kd g L 1 W hle (by omega) (by omega) q)
    clear hsz hsp him hC hx hlf hzs hzl
    go_enter Try.func3, Try.ntmps3
    go_wp2_with fail
    clear x0 x1 x2 x3 x4 x5 xf xl
    generalize (w.alloc (.cells #[.int .i64 p, .int .i64 c, .int .i64 h, .int .i64 s, .int .i64 kd, .slice a L.length k] 26)) = v0 at *
    refine (HSZ.out _).mono ?_
    rintro e w1 ⟨rfl, hb1⟩
    replace BA := BA.below hb1
    have hzz := hb1.size
    replace hb := chain hb hb1
    clear hb1
    obtain ⟨q0_BA, q1_BA, q2_BA, q3_BA, q4_BA, q5_BA, qf_BA, ql_BA⟩ := BA.six
    go_wp2_with fail
    clear q0_BA q1_BA q2_BA q3_BA q4_BA q5_BA qf_BA ql_BA
    refine (HTD.out _ (hr.below hb)).mono ?_
    rintro e w1 ⟨g1, rfl, hg1, hgl1, X0, hb1⟩
    replace BA := BA.below hb1
    have hz1 := hb1.size
    replace hb := chain hb hb1
    clear hb1
    obtain ⟨q0_BA, q1_BA, q2_BA, q3_BA, q4_BA, q5_BA, qf_BA, ql_BA⟩ := BA.six
    go_wp2_with fail
    clear q0_BA q1_BA q2_BA q3_BA q4_BA q5_BA qf_BA ql_BA
    refine (HSP.out _ _ X0).mono ?_
    rintro e w2 ⟨a0, k0, rfl, O0, hb2⟩
    replace BA := BA.below hb2
    replace X0 := X0.below hb2
    have hz2 := hb2.size
    replace hb := chain hb hb2
    clear hb2
    clear X0
    obtain ⟨q0_BA, q1_BA, q2_BA, q3_BA, q4_BA, q5_BA, qf_BA, ql_BA⟩ := BA.six
    go_wp2_with fail
    clear q0_BA q1_BA q2_BA q3_BA q4_BA q5_BA qf_BA ql_BA
    refine (HTD.out _ (hr.below hb)).mono ?_
    rintro e w3 ⟨gx, rfl, hgx, hgl3, X1, hb3⟩
    replace BA := BA.below hb3
    replace O0 := O0.below hb3
    have hz3 := hb3.size
    replace hb := chain hb hb3
    clear hb3
    have BX := Blk.new w3 #[.int .i64 p, .int .i64 c, .int .i64 h, .int .i64 s, .int .i64 kd, .slice (some ⟨gx, 0, none⟩) L.length L.length] 34
    have hal4 : Below w3.heap.size w3 (w3.alloc (.cells #[.int .i64 p, .int .i64 c, .int .i64 h, .int .i64 s, .int .i64 kd, .slice (some ⟨gx, 0, none⟩) L.length L.length] 34)) := (Below.refl _ _).alloc (Nat.le_refl _) _
    have hz4 : (w3.alloc (.cells #[.int .i64 p, .int .i64 c, .int .i64 h, .int .i64 s, .int .i64 kd, .slice (some ⟨gx, 0, none⟩) L.length L.length] 34)).heap.size = w3.heap.size + 1 := by simp
    replace BA := BA.below hal4
    replace O0 := O0.below hal4
    replace X1 := X1.below hal4
    replace hb := chain hb hal4
    clear hal4
    obtain ⟨q0_BA, q1_BA, q2_BA, q3_BA, q4_BA, q5_BA, qf_BA, ql_BA⟩ := BA.six
    obtain ⟨q0_BX, q1_BX, q2_BX, q3_BX, q4_BX, q5_BX, qf_BX, ql_BX⟩ := BX.six
    go_wp2_with fail
    clear q0_BA q1_BA q2_BA q3_BA q4_BA q5_BA qf_BA ql_BA
    clear q0_BX q1_BX q2_BX q3_BX q4_BX q5_BX qf_BX ql_BX
    generalize (w3.alloc (.cells #[.int .i64 p, .int .i64 c, .int .i64 h, .int .i64 s, .int .i64 kd, .slice (some ⟨gx, 0, none⟩) L.length L.length] 34)) = w4 at *
    obtain ⟨q0_BA, q1_BA, q2_BA, q3_BA, q4_BA, q5_BA, qf_BA, ql_BA⟩ := BA.six
    obtain ⟨q0_BX, q1_BX, q2_BX, q3_BX, q4_BX, q5_BX, qf_BX, ql_BX⟩ := BX.six
    go_wp2_with fail
    clear q0_BA q1_BA q2_BA q3_BA q4_BA q5_BA qf_BA ql_BA
    clear q0_BX q1_BX q2_BX q3_BX q4_BX q5_BX qf_BX ql_BX
    refine (HIM.out _ _ X1).mono ?_
    rintro e w5 ⟨a1, k1, rfl, O1, hb5⟩
    replace BA := BA.below hb5
    replace O0 := O0.below hb5
    replace X1 := X1.below hb5
    replace BX := BX.below hb5
    have hz5 := hb5.size
    replace hb := chain hb hb5
    clear hb5
    obtain ⟨q0_BA, q1_BA, q2_BA, q3_BA, q4_BA, q5_BA, qf_BA, ql_BA⟩ := BA.six
    obtain ⟨q0_BX, q1_BX, q2_BX, q3_BX, q4_BX, q5_BX, qf_BX, ql_BX⟩ := BX.six
    go_wp2_with fail
    clear q0_BA q1_BA q2_BA q3_BA q4_BA q5_BA qf_BA ql_BA
    clear q0_BX q1_BX q2_BX q3_BX q4_BX q5_BX qf_BX ql_BX
    refine (HEZ.out _ _ _ _ _ O1.irow O0.irow).mono ?_
    rintro e w6 ⟨rfl, hb6⟩
    replace BA := BA.below hb6
    replace O0 := O0.below hb6
    replace X1 := X1.below hb6
    replace BX := BX.below hb6
    replace O1 := O1.below hb6
    have hz6 := hb6.size
    replace hb := chain hb hb6
    clear hb6
    obtain ⟨q0_BA, q1_BA, q2_BA, q3_BA, q4_BA, q5_BA, qf_BA, ql_BA⟩ := BA.six
    obtain ⟨q0_BX, q1_BX, q2_BX, q3_BX, q4_BX, q5_BX, qf_BX, ql_BX⟩ := BX.six
    go_wp2_with fail
    clear q0_BA q1_BA q2_BA q3_BA q4_BA q5_BA qf_BA ql_BA
    clear q0_BX q1_BX q2_BX q3_BX q4_BX q5_BX qf_BX ql_BX
    have hd_ : w6.drew.heap.size = w6.heap.size := rfl
    replace BA := BA.drew
    replace BX := BX.drew
    replace hb := hb.drew
    replace O0 := O0.drew
    replace X1 := X1.drew
    replace O1 := O1.drew
    refine wp_region_held_drew (S := fun w' => w'.cell? ⟨w.heap.size, 0, none⟩ = some (.int .i64 p) ∧ w'.cell? ⟨w.heap.size, 1, none⟩ = some (.int .i64 c) ∧ w'.cell? ⟨w.heap.size, 2, none⟩ = some (.int .i64 h) ∧ w'.cell? ⟨w.heap.size, 3, none⟩ = some (.int .i64 s) ∧ w'.cell? ⟨w.heap.size, 4, none⟩ = some (.int .i64 kd) ∧ w'.cell? ⟨w.heap.size, 5, none⟩ = some (.slice a L.length k) ∧ w'.cell? ⟨w3.heap.size, 0, none⟩ = some (.int .i64 p) ∧ w'.cell? ⟨w3.heap.size, 1, none⟩ = some (.int .i64 c) ∧ w'.cell? ⟨w3.heap.size, 2, none⟩ = some (.int .i64 h) ∧ w'.cell? ⟨w3.heap.size, 3, none⟩ = some (.int .i64 s) ∧ w'.cell? ⟨w3.heap.size, 4, none⟩ = some (.int .i64 kd) ∧ w'.cell? ⟨w3.heap.size, 5, none⟩ = some (.slice (some ⟨gx, 0, none⟩) L.length L.length)) (by kernel_rfl) ⟨BA.six.1, BA.six.2.1, BA.six.2.2.1, BA.six.2.2.2.1, BA.six.2.2.2.2.1, BA.six.2.2.2.2.2.1, BX.six.1, BX.six.2.1, BX.six.2.2.1, BX.six.2.2.2.1, BX.six.2.2.2.2.1, BX.six.2.2.2.2.2.1⟩ (fun hHeld => ?_)
    clear hHeld
    generalize w6.drew = vd at *
    have hHeld : vd.cell? ⟨w.heap.size, 0, none⟩ = some (.int .i64 p) ∧ vd.cell? ⟨w.heap.size, 1, none⟩ = some (.int .i64 c) ∧ vd.cell? ⟨w.heap.size, 2, none⟩ = some (.int .i64 h) ∧ vd.cell? ⟨w.heap.size, 3, none⟩ = some (.int .i64 s) ∧ vd.cell? ⟨w.heap.size, 4, none⟩ = some (.int .i64 kd) ∧ vd.cell? ⟨w.heap.size, 5, none⟩ = some (.slice a L.length k) ∧ vd.cell? ⟨w3.heap.size, 0, none⟩ = some (.int .i64 p) ∧ vd.cell? ⟨w3.heap.size, 1, none⟩ = some (.int .i64 c) ∧ vd.cell? ⟨w3.heap.size, 2, none⟩ = some (.int .i64 h) ∧ vd.cell? ⟨w3.heap.size, 3, none⟩ = some (.int .i64 s) ∧ vd.cell? ⟨w3.heap.size, 4, none⟩ = some (.int .i64 kd) ∧ vd.cell? ⟨w3.heap.size, 5, none⟩ = some (.slice (some ⟨gx, 0, none⟩) L.length L.length) := ⟨BA.six.1, BA.six.2.1, BA.six.2.2.1, BA.six.2.2.2.1, BA.six.2.2.2.2.1, BA.six.2.2.2.2.2.1, BX.six.1, BX.six.2.1, BX.six.2.2.1, BX.six.2.2.2.1, BX.six.2.2.2.2.1, BX.six.2.2.2.2.2.1⟩
    refine wpAnyH_take (i := 0) (oi := { dst := some 41, op := _, type := _, pos := _, after := _, guard := _ }) (v := ?_) rfl (by kernel_rfl) (by kernel_rfl) (by kernel_rfl) (fun _ _ _ h => h) (Or.inl ⟨by rfl, ?_⟩) (by assumption) ?_
    rotate_left
    · intro w hSw
      (try dsimp only at hSw)
      go_simp
      (try (with_reducible rfl))
    try simp only [Act.put, List.setIfInBounds_toArray, List.set_cons_zero, List.set_cons_succ]
    refine wpAnyH_take (i := 1) (oi := { dst := some 42, op := _, type := _, pos := _, after := _, guard := _ }) (v := ?_) rfl (by kernel_rfl) (by kernel_rfl) (by kernel_rfl) (fun _ _ _ h => h) (Or.inl ⟨by rfl, ?_⟩) (by assumption) ?_
    rotate_left
    · intro w hSw
      (try dsimp only at hSw)
      go_simp
      (try (with_reducible rfl))
    try simp only [Act.put, List.setIfInBounds_toArray, List.set_cons_zero, List.set_cons_succ]
    refine wpAnyH_ready (rs := [2]) (by kernel_rfl) (by simp) ?_
    refine AllReadyH.cons (o := { dst := some 43, op := _, type := _, pos := _, after := _, guard := _ }) rfl (fun K hK => ?_) AllReadyH.nil
    go_simp
    refine (HTD.out _ (hr.below hb)).mono ?_
    rintro e wr1 ⟨g16, rfl, hg16, hgl16, X2, hbr1⟩
    replace BA := BA.below hbr1
    replace O0 := O0.below hbr1
    replace X1 := X1.below hbr1
    replace BX := BX.below hbr1
    replace O1 := O1.below hbr1
    have hzr1 := hbr1.size
    replace hb := chain hb hbr1
    clear hbr1
    (try go_wp2_with fail)
    refine hK.out _ _ ⟨BA.six.1, BA.six.2.1, BA.six.2.2.1, BA.six.2.2.2.1, BA.six.2.2.2.2.1, BA.six.2.2.2.2.2.1, BX.six.1, BX.six.2.1, BX.six.2.2.1, BX.six.2.2.2.1, BX.six.2.2.2.2.1, BX.six.2.2.2.2.2.1⟩ (fun hHeld => ?_)
    clear hK K
    try simp only [Act.put, List.setIfInBounds_toArray, List.set_cons_zero, List.set_cons_succ]
    refine wpAnyH_ready (rs := [3]) (by kernel_rfl) (by simp) ?_
    refine AllReadyH.cons (o := { dst := some 44, op := _, type := _, pos := _, after := _, guard := _ }) rfl (fun K hK => ?_) AllReadyH.nil
    go_simp
    refine (HEQ.out _ _ _ X1 X2).mono ?_
    rintro e wr2 ⟨rfl, hbr2⟩
    replace BA := BA.below hbr2
    replace O0 := O0.below hbr2
    replace X1 := X1.below hbr2
    replace BX := BX.below hbr2
    replace O1 := O1.below hbr2
    have hzr2 := hbr2.size
    replace hb := chain hb hbr2
    clear hbr2
    (try go_wp2_with fail)
    refine hK.out _ _ ⟨BA.six.1, BA.six.2.1, BA.six.2.2.1, BA.six.2.2.2.1, BA.six.2.2.2.2.1, BA.six.2.2.2.2.2.1, BX.six.1, BX.six.2.1, BX.six.2.2.1, BX.six.2.2.2.1, BX.six.2.2.2.2.1, BX.six.2.2.2.2.2.1⟩ (fun hHeld => ?_)
    clear hK K
    try simp only [Act.put, List.setIfInBounds_toArray, List.set_cons_zero, List.set_cons_succ]
    refine wpAnyH_take (i := 4) (oi := { dst := some 45, op := _, type := _, pos := _, after := _, guard := _ }) (v := ?_) rfl (by kernel_rfl) (by kernel_rfl) (by kernel_rfl) (fun _ _ _ h => h) (Or.inl ⟨by rfl, ?_⟩) (by assumption) ?_
    rotate_left
    · intro w hSw
      (try dsimp only at hSw)
      go_simp
      (try (with_reducible rfl))
    try simp only [Act.put, List.setIfInBounds_toArray, List.set_cons_zero, List.set_cons_succ]
    refine wpAnyH_done (by kernel_rfl) ?_ _
    clear hHeld
    obtain ⟨q0_BA, q1_BA, q2_BA, q3_BA, q4_BA, q5_BA, qf_BA, ql_BA⟩ := BA.six
    obtain ⟨q0_BX, q1_BX, q2_BX, q3_BX, q4_BX, q5_BX, qf_BX, ql_BX⟩ := BX.six
    go_wp2_with fail
    clear q0_BA q1_BA q2_BA q3_BA q4_BA q5_BA qf_BA ql_BA
    clear q0_BX q1_BX q2_BX q3_BX q4_BX q5_BX qf_BX ql_BX
    refine (HMD.out _ _ X1).mono ?_
    rintro e wm ⟨rfl, hszm, hsm⟩
    have hgxs := VRow.lt X1
    clear X1
    replace BA := BA.same hsm (by omega)
    replace O0 := O0.same hsm (by omega)
    replace BX := BX.same hsm (by omega)
    replace O1 := O1.same hsm (by omega)
    replace hb := below_same hb hsm (by omega) (by omega)
    clear hsm
    have hk0 : ¬ ((1 : Int) + 2 * (L.length : Int) < 0) := by omega
    have hq0 : ¬ ((1 : Int) + (zs.length : Int) < 0) := by omega
    obtain ⟨q0_BA, q1_BA, q2_BA, q3_BA, q4_BA, q5_BA, qf_BA, ql_BA⟩ := BA.six
    obtain ⟨q0_BX, q1_BX, q2_BX, q3_BX, q4_BX, q5_BX, qf_BX, ql_BX⟩ := BX.six
    go_wp2_with fail
    clear q0_BA q1_BA q2_BA q3_BA q4_BA q5_BA qf_BA ql_BA
    clear q0_BX q1_BX q2_BX q3_BX q4_BX q5_BX qf_BX ql_BX
    refine (HEZ.out _ _ _ _ _ O1.irow O0.irow).mono ?_
    rintro e w51 ⟨rfl, hb51⟩
    replace BA := BA.below hb51
    replace O0 := O0.below hb51
    replace BX := BX.below hb51
    replace O1 := O1.below hb51
    have hz51 := hb51.size
    replace hb := chain hb hb51
    clear hb51
    obtain ⟨q0_BA, q1_BA, q2_BA, q3_BA, q4_BA, q5_BA, qf_BA, ql_BA⟩ := BA.six
    obtain ⟨q0_BX, q1_BX, q2_BX, q3_BX, q4_BX, q5_BX, qf_BX, ql_BX⟩ := BX.six
    go_wp2_with fail
    clear q0_BA q1_BA q2_BA q3_BA q4_BA q5_BA qf_BA ql_BA
    clear q0_BX q1_BX q2_BX q3_BX q4_BX q5_BX qf_BX ql_BX
    refine (B8.markS_own _ _ _ _ _ zs 1 _ rfl hlz (by omega) (by omega) O1).mono ?_
    rintro e w52 ⟨rfl, O1, hs52⟩
    replace BA := BA.same hs52 (by omega)
    replace O0 := O0.same hs52 (by omega)
    replace BX := BX.same hs52 (by omega)
    have hz52 := hs52.size
    replace hb := below_same hb hs52 (by omega) (by omega)
    clear hs52
    obtain ⟨q0_BA, q1_BA, q2_BA, q3_BA, q4_BA, q5_BA, qf_BA, ql_BA⟩ := BA.six
    obtain ⟨q0_BX, q1_BX, q2_BX, q3_BX, q4_BX, q5_BX, qf_BX, ql_BX⟩ := BX.six
    go_wp2_with fail
    clear q0_BA q1_BA q2_BA q3_BA q4_BA q5_BA qf_BA ql_BA
    clear q0_BX q1_BX q2_BX q3_BX q4_BX q5_BX qf_BX ql_BX
    refine (B8.heldByteS_any _ zs.length _ 1 _ hlz (by omega) (by omega) O1.irow).mono ?_
    rintro e wq ⟨rfl, rfl⟩
    obtain ⟨q0_BA, q1_BA, q2_BA, q3_BA, q4_BA, q5_BA, qf_BA, ql_BA⟩ := BA.six
    obtain ⟨q0_BX, q1_BX, q2_BX, q3_BX, q4_BX, q5_BX, qf_BX, ql_BX⟩ := BX.six
    go_wp2_with fail
    clear q0_BA q1_BA q2_BA q3_BA q4_BA q5_BA qf_BA ql_BA
    clear q0_BX q1_BX q2_BX q3_BX q4_BX q5_BX qf_BX ql_BX
    refine (HTD.out _ (hr.below hb)).mono ?_
    rintro e w53 ⟨g53, rfl, hg53, hgl53, X4, hb53⟩
    replace BA := BA.below hb53
    replace O0 := O0.below hb53
    replace BX := BX.below hb53
    replace O1 := O1.below hb53
    have hz53 := hb53.size
    replace hb := chain hb hb53
    clear hb53
    obtain ⟨q0_BA, q1_BA, q2_BA, q3_BA, q4_BA, q5_BA, qf_BA, ql_BA⟩ := BA.six
    obtain ⟨q0_BX, q1_BX, q2_BX, q3_BX, q4_BX, q5_BX, qf_BX, ql_BX⟩ := BX.six
    go_wp2_with fail
    clear q0_BA q1_BA q2_BA q3_BA q4_BA q5_BA qf_BA ql_BA
    clear q0_BX q1_BX q2_BX q3_BX q4_BX q5_BX qf_BX ql_BX
    refine (HIM.out _ _ X4).mono ?_
    rintro e w54 ⟨a2, k2, rfl, O2, hb54⟩
    replace BA := BA.below hb54
    replace O0 := O0.below hb54
    replace BX := BX.below hb54
    replace O1 := O1.below hb54
    replace X4 := X4.below hb54
    have hz54 := hb54.size
    replace hb := chain hb hb54
    clear hb54
    clear X4
    obtain ⟨q0_BA, q1_BA, q2_BA, q3_BA, q4_BA, q5_BA, qf_BA, ql_BA⟩ := BA.six
    obtain ⟨q0_BX, q1_BX, q2_BX, q3_BX, q4_BX, q5_BX, qf_BX, ql_BX⟩ := BX.six
    go_wp2_with fail
    clear q0_BA q1_BA q2_BA q3_BA q4_BA q5_BA qf_BA ql_BA
    clear q0_BX q1_BX q2_BX q3_BX q4_BX q5_BX qf_BX ql_BX
    refine (HEZ.out _ _ _ _ _ O2.irow O0.irow).mono ?_
    rintro e w55 ⟨rfl, hb55⟩
    replace BA := BA.below hb55
    replace O0 := O0.below hb55
    replace BX := BX.below hb55
    replace O1 := O1.below hb55
    replace O2 := O2.below hb55
    have hz55 := hb55.size
    replace hb := chain hb hb55
    clear hb55
    obtain ⟨q0_BA, q1_BA, q2_BA, q3_BA, q4_BA, q5_BA, qf_BA, ql_BA⟩ := BA.six
    obtain ⟨q0_BX, q1_BX, q2_BX, q3_BX, q4_BX, q5_BX, qf_BX, ql_BX⟩ := BX.six
    go_wp2_with fail
    clear q0_BA q1_BA q2_BA q3_BA q4_BA q5_BA qf_BA ql_BA
    clear q0_BX q1_BX q2_BX q3_BX q4_BX q5_BX qf_BX ql_BX
    refine (B8.heldByteS_any _ zs.length _ 1 _ hlz (by omega) (by omega) O1.irow).mono ?_
    rintro e wq ⟨rfl, rfl⟩
    obtain ⟨q0_BA, q1_BA, q2_BA, q3_BA, q4_BA, q5_BA, qf_BA, ql_BA⟩ := BA.six
    obtain ⟨q0_BX, q1_BX, q2_BX, q3_BX, q4_BX, q5_BX, qf_BX, ql_BX⟩ := BX.six
    go_wp2_with fail
    go_ret
    exact ⟨rfl, hb⟩
  · have hle' : ¬ (L.length : Int) ≤ 1048576 := by omega
    simp only [if_pos (show (1048576 : Int) - (L.length : Int) < 0 by omega)] at hsz
    have HSZ := Lib.hid hsz
    clear hsz
    go_enter Try.func3, Try.ntmps3
    go_wp2_with fail
    refine (HSZ.out _).mono ?_
    rintro e w1 ⟨rfl, hb1⟩
    go_wp2_with fail
    go_ret
    exact ⟨rfl, chain hb hb1⟩
set_option maxRecDepth 100000 in
theorem fnExactEncodeDatabase_lifted (os : Os) (started : os.Started) (H : Type) (enc : TypeId × Value → H) :
    ReturnsInHanded {} Try.checked os 3 .any (Rows.fnExactEncodeDatabaseSpec.pre6 enc Try.prog Try.f3 Rows.fnExactEncodeDatabaseRow.domain false) (Rows.fnExactEncodeDatabaseSpec.post enc Try.prog Try.f3 false true false false) := by
  refine returnsInHanded_of_change (C := Try.checked) own started (by kernel_rfl) Try.func3
    (ChangeSpec.witness6 (enc := enc) (C := Try.checked) false ⟨#[], #[.agg #[.int .i64 0, .int .i64 0, .int .i64 0, .int .i64 0, .int .i64 0, .slice none 0 0]], []⟩ 8 (by kernel_rfl) (by kernel_rfl) (by kernel_rfl) (by kernel_rfl)) ?_
  intro W base args ds gs before hval0 hW hcnd _
  have hval : ∀ (j : Nat) t v, Try.f3.params[j]? = some t → args[j]? = some v → Value.okWide Try.prog W .any base t v := hval0
  have hW' := hW
  obtain ⟨p, q, hA0, hV, rfl, hfz, hnd⟩ := hW
  have hA : DataW.TrodAll enc Try.prog W 0 (fun _ => true) true Try.f3.params.toList args.toList ds p := hA0
  rw [Try.params3] at hA hval
  obtain ⟨v0, vs0, d0, ds0, p0, q0, hargs, rfl, rfl, h0, r0⟩ := trodAll_cons hA
  obtain ⟨rfl, rfl, rfl⟩ := trodAll_nil r0
  obtain rfl : args = #[v0] := by cases args; simp_all
  obtain ⟨rfl, rfl⟩ := trodVars_none hV
  have k0 := h0
  have lt0 : ∀ x ∈ p0, x.block < W.heap.size := by obtain ⟨m, hm⟩ := k0; exact DataW.trod_lt m _ _ _ hm
  obtain ⟨dp_0, dc_0, dh_0, ds_0, dk_0, da_0, dn_0, dm_0, dL_0, rfl, dl_0, db_0, dr_0, dw_0⟩ := open_db (hval 0 26 v0 rfl rfl) h0
  clear hA0 hval0
  refine (fnExactEncodeDatabase_walk dp_0 dc_0 dh_0 ds_0 dk_0 da_0 dn_0 dm_0 dL_0 W dl_0 db_0 dr_0 dw_0).mono fun e W' ⟨he, bel⟩ => ?_
  subst he
  exact ⟨_, rfl, _, _, _, [], _, [], hW', trodAll_mk1 (shut_bool Try.underlying4 _), (trodAll_cons_mk (Below.trod laidOut (by kernel_rfl) (of_decide_eq_true (by kernel_rfl)) k0 bel lt0) trodAll_mk0), rfl, bel.frame _, fun h => by cases h⟩
theorem fnExactEncodeDatabase_holds : Rows.FnExactEncodeDatabaseSaid :=
  OpenClaim.holds_of_wide 3 Try.f3 rfl rfl rfl rfl rfl rfl rfl ⟨rfl, rfl, rfl, rfl, rfl⟩ rfl rfl rfl rfl rfl (by kernel_rfl) Try.func3 (by kernel_rfl)
    (of_decide_eq_true (by kernel_rfl)) (by unfold Func.isWrapper; first | (rw [if_pos (by decide +kernel)]; kernel_rfl) | (rw [if_neg (by decide +kernel)]; exact ⟨rfl, rfl⟩))
    (fun os started H enc _ => fnExactEncodeDatabase_lifted os started H enc)
end Go.Proofs.Ytgohipfaojiilaa
