/- Contracts of the program on equal boards and games, first games, results and opponents. -/
import Derived.Test.YtokjkcnjmfbfiaaGam
import Derived.Test.Ytokjkcnjmfbfiaa08a
import Derived.Test.YtokjkcnjmfbfiaaStartB
import Derived.BigQuiet
import Derived.Laws.StructEq
namespace Go.Proofs.Ytokjkcnjmfbfiaa
open Go.ChangeShapes Go.WideShapes Go.ChangeAt Go.RowKit
set_option linter.unusedVariables false
set_option linter.unusedSimpArgs false
set_option maxRecDepth 4000

set_option maxRecDepth 8000 in
set_option maxHeartbeats 1000000 in
theorem slicesEqual_any (a b : Option Addr) (n m c d : Nat) (xs us : List Int) (w : World) (h1 : xs.length = n) (h2 : us.length = m) (l1 : n ≤ 1048576) (l2 : m ≤ 1048576) (r : IRow w a xs) (s : IRow w b us) :
    Calls Try.prog 117 #[.slice a n c, .slice b m d] w fun e w' => e = .returned (.bool (decide (xs = us))) ∧ Below w.heap.size w w' := by
  obtain ⟨Q, hQ⟩ : ∃ Q, decide (xs = us) = Q := ⟨_, rfl⟩
  rw [hQ]
  have HQ := Lib.hid hQ
  clear hQ
  by_cases e : m = n
  · subst e
    go_enter Try.func117, Try.ntmps117
    go_wp2_with fail
    go_loopg [13, 5] m (fun k5 i j wr => ∃ k : Nat, k ≤ m ∧ k5 = m - k ∧ i = .int .i64 k ∧ (∀ q, q < k → xs.getD q 0 = us.getD q 0) ∧ Below w.heap.size w wr)
    case atStart => exact ⟨0, by omega, by omega, rfl, fun j hj => by omega, Below.refl _ _⟩
    case round =>
      obtain ⟨k, hk, hm, rfl, hsm, hbel⟩ := hrel
      by_cases hlt : k < m
      · have hlt' : (k : Int) < (m : Int) := by omega
        have hk0 : (0 : Int) ≤ (k : Int) := by omega
        obtain ⟨p1, o1, rfl, hc1⟩ := (r.below hbel) k (by omega)
        obtain ⟨p2, o2, rfl, hc2⟩ := (s.below hbel) k (by omega)
        obtain ⟨v1, hv1⟩ : ∃ v, xs.getD k 0 = v := ⟨_, rfl⟩
        obtain ⟨v2, hv2⟩ : ∃ v, us.getD k 0 = v := ⟨_, rfl⟩
        rw [hv1] at hc1
        rw [hv2] at hc2
        by_cases e : v1 = v2
        · subst e
          have HSM := Lib.hid hsm
          have HV1 := Lib.hid hv1
          have HV2 := Lib.hid hv2
          clear hsm hv1 hv2
          go_wp2_with fail
          go_quiet (fail)
          go_wp2
          go_roundg (m - (k + 1))
          case measure => omega
          case rel => exact ⟨k + 1, by omega, rfl, by go_num, fun j hj => by
            by_cases h : j = k
            · subst h; exact HV1.out.trans HV2.out.symm
            · exact HSM.out j (by omega), below_drewN hbel _⟩
        · have fe : (v1 != v2) = true := by rw [bne_iff_ne]; exact e
          have fe2 : (v1 == v2) = false := by rw [beq_eq_false_iff_ne]; exact e
          have hQ : Q = false := by
            rw [← HQ.out, decide_eq_false_iff_not]
            rintro rfl
            exact e (hv1.symm.trans hv2)
          subst hQ
          clear hsm hv1 hv2
          go_wp2_with fail
          go_quiet (fail)
          go_wp2
          go_ret
          exact ⟨rfl, below_drewN hbel _⟩
      · obtain rfl : k = m := by omega
        have hQ : Q = true := by
          rw [← HQ.out, decide_eq_true_eq]
          exact ext_getD (by omega) (fun j => by
            by_cases hj : j < xs.length
            · exact hsm j (by omega)
            · rw [getD_out (by omega), getD_out (by omega)])
        subst hQ
        clear hsm
        go_wp2
        go_ret
        exact ⟨rfl, hbel⟩
  · have hQ : Q = false := by
      rw [← HQ.out, decide_eq_false_iff_not]
      rintro rfl
      exact e (h2.symm.trans h1)
    subst hQ
    have fe : ((n : Int) != (m : Int)) = true := by rw [bne_iff_ne]; omega
    have fe2 : ((n : Int) == (m : Int)) = false := by rw [beq_eq_false_iff_ne]; omega
    go_enter Try.func117, Try.ntmps117
    go_wp2
    go_ret
    exact ⟨rfl, Below.refl _ _⟩
set_option maxRecDepth 8000 in
set_option maxHeartbeats 1000000 in
theorem boardEquals_any (a1 a2 b1 b2 : Option Addr) (n1 n2 m1 m2 c1 c2 d1 d2 : Nat) (xs ys us vs : List Int) (w : World) (h1 : xs.length = n1) (h2 : ys.length = n2) (h3 : us.length = m1) (h4 : vs.length = m2) (l1 : n1 ≤ 1048576) (l2 : n2 ≤ 1048576) (l3 : m1 ≤ 1048576) (l4 : m2 ≤ 1048576)
    (r1 : IRow w a1 xs) (r2 : IRow w a2 ys) (s1 : IRow w b1 us) (s2 : IRow w b2 vs) :
    Calls Try.prog 75 #[.agg #[.slice a1 n1 c1, .slice a2 n2 c2], .agg #[.slice b1 m1 d1, .slice b2 m2 d2]] w fun e w' => e = .returned (.bool (decide (xs = us) && decide (ys = vs))) ∧ Below w.heap.size w w' := by
  obtain ⟨BA, BB, hb, hz⟩ := two_new w #[.slice a1 n1 c1, .slice a2 n2 c2] #[.slice b1 m1 d1, .slice b2 m2 d2] 34 34
  clear hz
  obtain ⟨x0, x1, xf, xl⟩ := BA.two
  obtain ⟨y0, y1, yf, yl⟩ := BB.two
  have hE1 := fun (W : World) (hW : Below w.heap.size w W) => slicesEqual_any a1 b1 n1 m1 c1 d1 xs us W h1 h3 l1 l3 (r1.below hW) (s1.below hW)
  have hE2 := fun (W : World) (hW : Below w.heap.size w W) => slicesEqual_any a2 b2 n2 m2 c2 d2 ys vs W h2 h4 l2 l4 (r2.below hW) (s2.below hW)
  obtain ⟨A, hA⟩ : ∃ A, decide (xs = us) = A := ⟨_, rfl⟩
  obtain ⟨B, hB⟩ : ∃ B, decide (ys = vs) = B := ⟨_, rfl⟩
  rw [hA] at hE1 ⊢
  rw [hB] at hE2 ⊢
  have HE1 := Lib.hid hE1
  have HE2 := Lib.hid hE2
  clear hA hB hE1 hE2
  cases A with
  | false =>
    go_enter Try.func75, Try.ntmps75
    go_wp2_with fail
    refine (HE1.out _ hb).mono ?_
    rintro e w1 ⟨rfl, hb1⟩
    go_wp2_with fail
    go_ret
    exact ⟨rfl, chain hb hb1⟩
  | true =>
    go_enter Try.func75, Try.ntmps75
    go_wp2_with fail
    refine (HE1.out _ hb).mono ?_
    rintro e w1 ⟨rfl, hb1⟩
    clear x0 x1 xf xl y0 y1 yf yl
    obtain ⟨x0, x1, xf, xl⟩ := (BA.below hb1).two
    obtain ⟨y0, y1, yf, yl⟩ := (BB.below hb1).two
    go_wp2_with fail
    refine (HE2.out _ (chain hb hb1)).mono ?_
    rintro e w2 ⟨rfl, hb2⟩
    go_wp2_with fail
    go_ret
    exact ⟨rfl, chain (chain hb hb1) hb2⟩
/-- A variant has games. -/
def hgB (p c h s : Int) : Bool := vB p c h s && decide (4 ≤ p)
theorem hasGames_any (p c h s : Int) (w : World) :
    Calls Try.prog 137 #[.agg #[.int .i64 p, .int .i64 c, .int .i64 h, .int .i64 s]] w fun e w' => e = .returned (.bool (hgB p c h s)) ∧ Below w.heap.size w w' := by
  have hb : Below w.heap.size w (w.alloc (.cells #[.int .i64 p, .int .i64 c, .int .i64 h, .int .i64 s] 32)) := (Below.refl _ _).alloc (Nat.le_refl _) _
  have BV := Blk.new w #[.int .i64 p, .int .i64 c, .int .i64 h, .int .i64 s] 32
  have hv := fun W => valid_any p c h s W
  unfold hgB
  obtain ⟨A, hA⟩ : ∃ A, vB p c h s = A := ⟨_, rfl⟩
  rw [hA] at hv ⊢
  have HV := Lib.hid hv
  clear hv hA
  obtain ⟨x0, x1, x2, x3, xf, xl⟩ := BV.four
  cases A with
  | false =>
    go_enter Try.func137, Try.ntmps137
    go_wp2_with fail
    refine (HV.out _).mono ?_
    rintro e w1 ⟨rfl, hb1⟩
    go_wp2_with fail
    go_ret
    exact ⟨rfl, chain hb hb1⟩
  | true =>
    go_enter Try.func137, Try.ntmps137
    go_wp2_with fail
    refine (HV.out _).mono ?_
    rintro e w1 ⟨rfl, hb1⟩
    replace BV := BV.below hb1
    clear x0 x1 x2 x3 xf xl
    obtain ⟨x0, x1, x2, x3, xf, xl⟩ := BV.four
    go_wp2_with fail
    go_ret
    exact ⟨by simp, chain hb hb1⟩
theorem opponent_any (x : Int) (w : World) (hx : 0 ≤ x ∧ x ≤ 1) :
    Calls Try.prog 148 #[.int .i64 x] w fun e w' => e = .returned (.int .i64 (1 - x)) ∧ Below w.heap.size w w' := by
  have wz : IntKind.i64.wrap (1 - x) = 1 - x := IntWalk.i64_in _ (by omega)
  go_enter Try.func148, Try.ntmps148
  go_wp2
  go_ret
  exact ⟨rfl, Below.refl _ _⟩
theorem isResult_any (x : Int) (w : World) :
    Calls Try.prog 108 #[.int .i64 x] w fun e w' => e = .returned (.bool (inB x 1 3)) ∧ Below w.heap.size w w' := by
  by_cases g1 : 1 ≤ x
  · by_cases g2 : x ≤ 3
    · have : inB x 1 3 = true := by simp [inB, g1, g2]
      rw [this]
      go_enter Try.func108, Try.ntmps108
      go_wp2
      go_ret
      exact ⟨rfl, Below.refl _ _⟩
    · have : inB x 1 3 = false := by simp [inB, g1, g2]
      rw [this]
      go_enter Try.func108, Try.ntmps108
      go_wp2
      go_ret
      exact ⟨rfl, Below.refl _ _⟩
  · have : inB x 1 3 = false := by simp [inB, g1]
    rw [this]
    go_enter Try.func108, Try.ntmps108
    go_wp2
    go_ret
    exact ⟨rfl, Below.refl _ _⟩
end Go.Proofs.Ytokjkcnjmfbfiaa
