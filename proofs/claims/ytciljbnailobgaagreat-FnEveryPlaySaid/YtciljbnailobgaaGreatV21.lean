/- Texts of a proof, laid together. -/
import Derived.Test.YtciljbnailobgaaGreatV19
import Derived.Test.YtciljbnailobgaaGreatV01
import Derived.Test.YtciljbnailobgaaGreatV16
import Derived.BigQuiet
import Derived.Laws.StructEq
namespace Go.Proofs.YtciljbnailobgaaGreat
open Go.ChangeShapes Go.WideShapes Go.ChangeAt Go.RowKit
set_option linter.unusedVariables false
set_option linter.unusedSimpArgs false
set_option maxRecDepth 4000
set_option maxRecDepth 8000 in
set_option maxHeartbeats 1000000 in
theorem implAllPlaysD_any (ra rb : Int) (p c h s : Int) (a1 a2 : Option Addr) (n1 n2 c1 c2 : Nat) (xs ys : List Int) (w : World) (h1 : xs.length = n1) (h2 : ys.length = n2) (l1 : n1 ≤ 1048576) (l2 : n2 ≤ 1048576) (r1 : IRow w a1 xs) (r2 : IRow w a2 ys) :
    Calls Tryz.prog 7 #[.agg #[.int .i64 p, .int .i64 c, .int .i64 h, .int .i64 s], .agg #[.slice a1 n1 c1, .slice a2 n2 c2], .agg #[.int .i64 ra, .int .i64 rb]] w (PlaysGotD (apL p c h s xs ys ra rb) (apC p c h s xs ys ra rb) w) := by
  have hC := fun W (q1 : IRow W a1 xs) (q2 : IRow W a2 ys) => rollCode_any ra rb p c h s a1 a2 n1 n2 c1 c2 xs ys W h1 h2 l1 l2 q1 q2
  unfold apL apC
  by_cases g0 : codeB p c h s xs ys ra rb = 0
  · obtain ⟨g, e⟩ := codeB_zero g0
    rw [if_pos g0, if_pos g0]
    rw [g0] at hC
    obtain ⟨p0, p1, k0, k1, k2, k3, N1, N2, hx, hy, s0, s1, s2, s3⟩ := isB_parts g
    clear hx hy
    obtain ⟨P, rfl⟩ := Int.eq_ofNat_of_zero_le (by omega : 0 ≤ p)
    rw [show ((P : Int)).toNat = P by simp]
    obtain ⟨e1, e2⟩ := rlB_two e
    have hU := fun W (q1 : IRow W a1 xs) (q2 : IRow W a2 ys) => implPlaysD_any P c h s ra rb a1 a2 n1 n2 c1 c2 xs ys W h1 h2 q1 q2 g e1 e2
    unfold PlaysGotD at hU
    have t1 : plL P h xs ys ra rb = (if allOk P h xs ys ra rb = true then allP P h xs ys ra rb else []) := rfl
    have t2 : plC2 P h xs ys ra rb = (if allOk P h xs ys ra rb = true then 0 else 3) := rfl
    rw [← t1, ← t2]
    clear t1 t2
    obtain ⟨AO, hAO⟩ : ∃ z, plC2 P h xs ys ra rb = z := ⟨_, rfl⟩
    obtain ⟨AA, hAA⟩ : ∃ z, plL P h xs ys ra rb = z := ⟨_, rfl⟩
    rw [hAO, hAA] at hU
    rw [hAO, hAA]
    have HC := Lib.hid hC
    have HU := Lib.hid hU
    clear hC hU hAO hAA g e e1 e2 g0
    obtain ⟨BV, BB, BR, hb, hz⟩ := three_new w #[.int .i64 (P : Int), .int .i64 c, .int .i64 h, .int .i64 s] #[.slice a1 n1 c1, .slice a2 n2 c2] #[.int .i64 ra, .int .i64 rb] 25 28 30
    clear hz
    obtain ⟨x0, x1, x2, x3, xf, xl⟩ := BV.four
    obtain ⟨y0, y1, yf, yl⟩ := BB.two
    obtain ⟨z0, z1, zf, zl⟩ := BR.two
    go_enter Tryz.func7, Tryz.ntmps7
    go_wp2_with (first | (go_at_call 22; refine (HC.out _ (r1.below hb) (r2.below hb)).mono ?_; clear HC; rintro e w1 ⟨rfl, hb1⟩; obtain ⟨x0, x1, x2, x3, xf, xl⟩ := (BV.below hb1).four; obtain ⟨y0, y1, yf, yl⟩ := (BB.below hb1).two; obtain ⟨z0, z1, zf, zl⟩ := (BR.below hb1).two) | (go_at_call 23; refine (HU.out _ (r1.below (chain hb hb1)) (r2.below (chain hb hb1))).mono ?_; rintro e w2 ⟨aL, kL, L, rfl, hLm, hLO, hLA, hDs, hb2⟩))
    go_ret2
    exact ⟨aL, kL, L, rfl, hLm, hLO.mono (chain hb hb1).size (Nat.le_refl _), hLA.mono (chain hb hb1).size (Nat.le_refl _), hDs, chain (chain hb hb1) hb2⟩
  · rw [if_neg g0, if_neg g0]
    obtain ⟨q, hq⟩ : ∃ q, codeB p c h s xs ys ra rb = q := ⟨_, rfl⟩
    rw [hq] at hC g0 ⊢
    have f0 : (q != 0) = true := by rw [bne_iff_ne]; exact g0
    have HC := Lib.hid hC
    clear hC hq
    obtain ⟨BV, BB, BR, hb, hz⟩ := three_new w #[.int .i64 p, .int .i64 c, .int .i64 h, .int .i64 s] #[.slice a1 n1 c1, .slice a2 n2 c2] #[.int .i64 ra, .int .i64 rb] 25 28 30
    clear hz
    obtain ⟨x0, x1, x2, x3, xf, xl⟩ := BV.four
    obtain ⟨y0, y1, yf, yl⟩ := BB.two
    obtain ⟨z0, z1, zf, zl⟩ := BR.two
    go_enter Tryz.func7, Tryz.ntmps7
    go_wp2_with (first | (go_at_call 22; refine (HC.out _ (r1.below hb) (r2.below hb)).mono ?_; clear HC; rintro e w1 ⟨rfl, hb1⟩; obtain ⟨x0, x1, x2, x3, xf, xl⟩ := (BV.below hb1).four; obtain ⟨y0, y1, yf, yl⟩ := (BB.below hb1).two; obtain ⟨z0, z1, zf, zl⟩ := (BR.below hb1).two))
    go_ret2
    exact ⟨none, 0, [], rfl, rfl, .inl ⟨rfl, rfl⟩, PAll.nil _ _ _, List.Pairwise.nil, chain hb hb1⟩
theorem implAllPlays_any (ra rb : Int) (p c h s : Int) (a1 a2 : Option Addr) (n1 n2 c1 c2 : Nat) (xs ys : List Int) (w : World) (h1 : xs.length = n1) (h2 : ys.length = n2) (l1 : n1 ≤ 1048576) (l2 : n2 ≤ 1048576) (r1 : IRow w a1 xs) (r2 : IRow w a2 ys) :
    Calls Tryz.prog 7 #[.agg #[.int .i64 p, .int .i64 c, .int .i64 h, .int .i64 s], .agg #[.slice a1 n1 c1, .slice a2 n2 c2], .agg #[.int .i64 ra, .int .i64 rb]] w (PlaysGot2 (apL p c h s xs ys ra rb) (apC p c h s xs ys ra rb) w) :=
  (implAllPlaysD_any ra rb p c h s a1 a2 n1 n2 c1 c2 xs ys w h1 h2 l1 l2 r1 r2).mono fun _ _ ⟨a, k, l, e1, e2, e3, e4, _, e6⟩ => ⟨a, k, l, e1, e2, e3, e4, e6⟩
set_option maxRecDepth 8000 in
set_option maxHeartbeats 1000000 in
theorem implIsForced_any (ra rb : Int) (p c h s : Int) (a1 a2 : Option Addr) (n1 n2 c1 c2 : Nat) (xs ys : List Int) (w : World) (h1 : xs.length = n1) (h2 : ys.length = n2) (l1 : n1 ≤ 1048576) (l2 : n2 ≤ 1048576) (r1 : IRow w a1 xs) (r2 : IRow w a2 ys) :
    Calls Tryz.prog 10 #[.agg #[.int .i64 p, .int .i64 c, .int .i64 h, .int .i64 s], .agg #[.slice a1 n1 c1, .slice a2 n2 c2], .agg #[.int .i64 ra, .int .i64 rb]] w fun e w' => e = .returned (ifV p c h s xs ys ra rb) ∧ Below w.heap.size w w' := by
  have hA := fun W (q1 : IRow W a1 xs) (q2 : IRow W a2 ys) => implAllPlays_any ra rb p c h s a1 a2 n1 n2 c1 c2 xs ys W h1 h2 l1 l2 q1 q2
  unfold ifV
  unfold PlaysGot2 at hA
  obtain ⟨AC, hAC⟩ : ∃ z, apC p c h s xs ys ra rb = z := ⟨_, rfl⟩
  obtain ⟨AA, hAA⟩ : ∃ z, apL p c h s xs ys ra rb = z := ⟨_, rfl⟩
  rw [hAC, hAA] at hA
  rw [hAC, hAA]
  have HA := Lib.hid hA
  clear hA hAC hAA
  obtain ⟨BV, BB, BR, hb, hz⟩ := three_new w #[.int .i64 p, .int .i64 c, .int .i64 h, .int .i64 s] #[.slice a1 n1 c1, .slice a2 n2 c2] #[.int .i64 ra, .int .i64 rb] 25 28 30
  clear hz
  obtain ⟨x0, x1, x2, x3, xf, xl⟩ := BV.four
  obtain ⟨y0, y1, yf, yl⟩ := BB.two
  obtain ⟨z0, z1, zf, zl⟩ := BR.two
  by_cases e1 : AA.length = 1
  · rw [decide_eq_true e1]
    go_enter Tryz.func10, Tryz.ntmps10
    go_wp2_with fail
    refine (HA.out _ (r1.below hb) (r2.below hb)).mono ?_
    rintro e w1 ⟨aL, kL, L, rfl, hLm, -, -, hb1⟩
    have hl : L.length = 1 := by rw [← e1, ← hLm, List.length_map]
    have f0 : ((L.length : Int) == 1) = true := by rw [beq_iff_eq]; omega
    clear hl hLm e1
    go_wp2
    go_ret2
    exact ⟨rfl, chain hb hb1⟩
  · rw [decide_eq_false e1]
    go_enter Tryz.func10, Tryz.ntmps10
    go_wp2_with fail
    refine (HA.out _ (r1.below hb) (r2.below hb)).mono ?_
    rintro e w1 ⟨aL, kL, L, rfl, hLm, -, -, hb1⟩
    have hl : L.length ≠ 1 := fun q => e1 (by rw [← q, ← hLm, List.length_map])
    have f0 : ((L.length : Int) == 1) = false := by rw [beq_eq_false_iff_ne]; omega
    clear hl hLm e1
    go_wp2
    go_ret2
    exact ⟨rfl, chain hb hb1⟩
set_option maxRecDepth 8000 in
set_option maxHeartbeats 1000000 in
theorem slicesEqual_any (a b : Option Addr) (n m c d : Nat) (xs us : List Int) (w : World) (h1 : xs.length = n) (h2 : us.length = m) (l1 : n ≤ 1048576) (l2 : m ≤ 1048576) (r : IRow w a xs) (s : IRow w b us) :
    Calls Tryz.prog 61 #[.slice a n c, .slice b m d] w fun e w' => e = .returned (.bool (decide (xs = us))) ∧ Below w.heap.size w w' := by
  obtain ⟨Q, hQ⟩ : ∃ Q, decide (xs = us) = Q := ⟨_, rfl⟩
  rw [hQ]
  have HQ := Lib.hid hQ
  clear hQ
  by_cases e : m = n
  · subst e
    go_enter Tryz.func61, Tryz.ntmps61
    go_wp2_with fail
    go_loopg [13, 5] m (fun k5 i j wr => ∃ k : Nat, k ≤ m ∧ k5 = m - k ∧ i = .int .i64 k ∧ (∀ q, q < k → xs.getD q 0 = us.getD q 0) ∧ Below w.heap.size w wr)
    case atStart => exact ⟨0, by omega, by omega, rfl, fun j hj => by omega, Below.refl _ _⟩
    case round =>
      obtain ⟨k, hk, hm, rfl, hsm, hbel⟩ := hrel
      by_cases hlt : k < m
      · have hlt' : (k : Int) < (m : Int) := by omega
        have hk0 : (0 : Int) ≤ (k : Int) := by omega
        obtain ⟨p1, o1, rfl, hc1⟩ := (r.below hbel) k (by omega)
        obtain ⟨p2, o2, rfl, hc2⟩ := (s.below hbel) k (by omega)
        obtain ⟨v1, hv1⟩ : ∃ v, xs.getD k 0 = v := ⟨_, rfl⟩
        obtain ⟨v2, hv2⟩ : ∃ v, us.getD k 0 = v := ⟨_, rfl⟩
        rw [hv1] at hc1
        rw [hv2] at hc2
        by_cases e : v1 = v2
        · subst e
          have HSM := Lib.hid hsm
          have HV1 := Lib.hid hv1
          have HV2 := Lib.hid hv2
          clear hsm hv1 hv2
          go_wp2_with fail
          go_quiet (fail)
          go_wp2
          go_roundg (m - (k + 1))
          case measure => omega
          case rel => exact ⟨k + 1, by omega, rfl, by go_num, fun j hj => by
            by_cases h : j = k
            · subst h; exact HV1.out.trans HV2.out.symm
            · exact HSM.out j (by omega), below_drewN hbel _⟩
        · have fe : (v1 != v2) = true := by rw [bne_iff_ne]; exact e
          have fe2 : (v1 == v2) = false := by rw [beq_eq_false_iff_ne]; exact e
          have hQ : Q = false := by
            rw [← HQ.out, decide_eq_false_iff_not]
            rintro rfl
            exact e (hv1.symm.trans hv2)
          subst hQ
          clear hsm hv1 hv2
          go_wp2_with fail
          go_quiet (fail)
          go_wp2
          go_ret
          exact ⟨rfl, below_drewN hbel _⟩
      · obtain rfl : k = m := by omega
        have hQ : Q = true := by
          rw [← HQ.out, decide_eq_true_eq]
          exact ext_getD (by omega) (fun j => by
            by_cases hj : j < xs.length
            · exact hsm j (by omega)
            · rw [getD_out (by omega), getD_out (by omega)])
        subst hQ
        clear hsm
        go_wp2
        go_ret
        exact ⟨rfl, hbel⟩
  · have hQ : Q = false := by
      rw [← HQ.out, decide_eq_false_iff_not]
      rintro rfl
      exact e (h2.symm.trans h1)
    subst hQ
    have fe : ((n : Int) != (m : Int)) = true := by rw [bne_iff_ne]; omega
    have fe2 : ((n : Int) == (m : Int)) = false := by rw [beq_eq_false_iff_ne]; omega
    go_enter Tryz.func61, Tryz.ntmps61
    go_wp2
    go_ret
    exact ⟨rfl, Below.refl _ _⟩
set_option maxRecDepth 8000 in
set_option maxHeartbeats 1000000 in
theorem boardEquals_any (a1 a2 b1 b2 : Option Addr) (n1 n2 m1 m2 c1 c2 d1 d2 : Nat) (xs ys us vs : List Int) (w : World) (h1 : xs.length = n1) (h2 : ys.length = n2) (h3 : us.length = m1) (h4 : vs.length = m2) (l1 : n1 ≤ 1048576) (l2 : n2 ≤ 1048576) (l3 : m1 ≤ 1048576) (l4 : m2 ≤ 1048576)
    (r1 : IRow w a1 xs) (r2 : IRow w a2 ys) (s1 : IRow w b1 us) (s2 : IRow w b2 vs) :
    Calls Tryz.prog 34 #[.agg #[.slice a1 n1 c1, .slice a2 n2 c2], .agg #[.slice b1 m1 d1, .slice b2 m2 d2]] w fun e w' => e = .returned (.bool (decide (xs = us) && decide (ys = vs))) ∧ Below w.heap.size w w' := by
  obtain ⟨BA, BB, hb, hz⟩ := two_new w #[.slice a1 n1 c1, .slice a2 n2 c2] #[.slice b1 m1 d1, .slice b2 m2 d2] 28 28
  clear hz
  obtain ⟨x0, x1, xf, xl⟩ := BA.two
  obtain ⟨y0, y1, yf, yl⟩ := BB.two
  have hE1 := fun (W : World) (hW : Below w.heap.size w W) => slicesEqual_any a1 b1 n1 m1 c1 d1 xs us W h1 h3 l1 l3 (r1.below hW) (s1.below hW)
  have hE2 := fun (W : World) (hW : Below w.heap.size w W) => slicesEqual_any a2 b2 n2 m2 c2 d2 ys vs W h2 h4 l2 l4 (r2.below hW) (s2.below hW)
  obtain ⟨A, hA⟩ : ∃ A, decide (xs = us) = A := ⟨_, rfl⟩
  obtain ⟨B, hB⟩ : ∃ B, decide (ys = vs) = B := ⟨_, rfl⟩
  rw [hA] at hE1 ⊢
  rw [hB] at hE2 ⊢
  have HE1 := Lib.hid hE1
  have HE2 := Lib.hid hE2
  clear hA hB hE1 hE2
  cases A with
  | false =>
    go_enter Tryz.func34, Tryz.ntmps34
    go_wp2_with fail
    refine (HE1.out _ hb).mono ?_
    rintro e w1 ⟨rfl, hb1⟩
    go_wp2_with fail
    go_ret
    exact ⟨rfl, chain hb hb1⟩
  | true =>
    go_enter Tryz.func34, Tryz.ntmps34
    go_wp2_with fail
    refine (HE1.out _ hb).mono ?_
    rintro e w1 ⟨rfl, hb1⟩
    clear x0 x1 xf xl y0 y1 yf yl
    obtain ⟨x0, x1, xf, xl⟩ := (BA.below hb1).two
    obtain ⟨y0, y1, yf, yl⟩ := (BB.below hb1).two
    go_wp2_with fail
    refine (HE2.out _ (chain hb hb1)).mono ?_
    rintro e w2 ⟨rfl, hb2⟩
    go_wp2_with fail
    go_ret
    exact ⟨rfl, chain (chain hb hb1) hb2⟩
end Go.Proofs.YtciljbnailobgaaGreat
