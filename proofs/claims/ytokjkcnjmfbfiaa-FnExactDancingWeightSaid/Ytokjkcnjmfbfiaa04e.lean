/- Contract of the program's test whether a step is legal. -/
import Derived.Test.Ytokjkcnjmfbfiaa04d
namespace Go.Proofs.Ytokjkcnjmfbfiaa
open Go.ChangeShapes Go.WideShapes Go.ChangeAt Go.RowKit
set_option linter.unusedVariables false
set_option linter.unusedSimpArgs false
set_option maxRecDepth 4000

/-- A step is legal on a board. -/
def legB (P : Nat) (h s : Int) (xs ys : List Int) (t : Stp) : Bool :=
  inB t.2.2.1 1 s && (placesB (P : Int) t && (!overB xs ys && decide (stepI P h xs ys t.1.toNat t.2.2.1 = some t)))
set_option maxRecDepth 8000 in
set_option maxHeartbeats 2000000 in
theorem isLegal_any (P : Nat) (c h s : Int) (f1 f2 B : Nat) (xs ys : List Int) (w : World) (p0 : 2 ≤ P) (p1 : P ≤ 24) (n1 : xs.length = P + 1) (n2 : ys.length = P + 1) (hx : ∀ x ∈ xs, 0 ≤ x ∧ x ≤ 1000) (hy : ∀ y ∈ ys, 0 ≤ y ∧ y ≤ 1000) (q1 : Pays f1 B xs w) (q2 : Pays f2 B ys w) (s6 : s ≤ 6) (t : Stp) :
    Calls Try.prog 133 #[.agg #[.int .i64 (P : Int), .int .i64 c, .int .i64 h, .int .i64 s], tv (P : Int) f1 f2 B, stV t] w fun e w' => e = .returned (.bool (legB P h s xs ys t)) ∧ Below w.heap.size w w' := by
  obtain ⟨a, b, d, q⟩ := t
  unfold legB
  dsimp only
  have hd0 := fun W => hasDie_any (P : Int) c h s d W
  have hp0 := fun W => hasPlaces_any (P : Int) c h s (a, b, d, q) W
  have ho0 := fun W (hW : Below w.heap.size w W) => over_any (P : Int) f1 f2 B xs ys W (by omega) (by omega) (by omega) (by omega) hx hy (q1.below hW) (q2.below hW)
  cases g1 : inB d 1 s with
  | false =>
    rw [g1] at hd0
    rw [Bool.false_and]
    have HD := Lib.hid hd0
    clear hd0 hp0 ho0
    obtain ⟨BV, BT, BS, hb, hz⟩ := three_new w #[.int .i64 (P : Int), .int .i64 c, .int .i64 h, .int .i64 s] #[.int .i64 (P : Int), fv f1 B, fv f2 B] #[.int .i64 a, .int .i64 b, .int .i64 d, .bool q] 32 151 112
    obtain ⟨x0, x1, x2, x3, xf, xl⟩ := BV.four
    obtain ⟨z0, z1, z2, zf, zl⟩ := BT.tri
    obtain ⟨r0, r1, r2, r3, rf, rl⟩ := BS.four
    go_enter Try.func133, Try.ntmps133
    go_wp2_with (first | (go_at_call 97; refine (HD.out _).mono ?_; rintro e w1 ⟨rfl, hb1⟩; obtain ⟨x0, x1, x2, x3, xf, xl⟩ := (BV.below hb1).four; obtain ⟨z0, z1, z2, zf, zl⟩ := (BT.below hb1).tri; obtain ⟨r0, r1, r2, r3, rf, rl⟩ := (BS.below hb1).four))
    go_ret
    exact ⟨rfl, chain hb hb1⟩
  | true =>
    rw [g1] at hd0
    rw [Bool.true_and]
    cases g2 : placesB (P : Int) (a, b, d, q) with
    | false =>
      rw [g2] at hp0
      rw [Bool.false_and]
      have HD := Lib.hid hd0
      have HPL := Lib.hid hp0
      clear hd0 hp0 ho0
      obtain ⟨BV, BT, BS, hb, hz⟩ := three_new w #[.int .i64 (P : Int), .int .i64 c, .int .i64 h, .int .i64 s] #[.int .i64 (P : Int), fv f1 B, fv f2 B] #[.int .i64 a, .int .i64 b, .int .i64 d, .bool q] 32 151 112
      obtain ⟨x0, x1, x2, x3, xf, xl⟩ := BV.four
      obtain ⟨z0, z1, z2, zf, zl⟩ := BT.tri
      obtain ⟨r0, r1, r2, r3, rf, rl⟩ := BS.four
      go_enter Try.func133, Try.ntmps133
      go_wp2_with (first | (go_at_call 97; refine (HD.out _).mono ?_; rintro e w1 ⟨rfl, hb1⟩; obtain ⟨x0, x1, x2, x3, xf, xl⟩ := (BV.below hb1).four; obtain ⟨z0, z1, z2, zf, zl⟩ := (BT.below hb1).tri; obtain ⟨r0, r1, r2, r3, rf, rl⟩ := (BS.below hb1).four) | (go_at_call 162; refine (HPL.out _).mono ?_; rintro e w2 ⟨rfl, hb2⟩; obtain ⟨x0, x1, x2, x3, xf, xl⟩ := (BV.below (chain hb1 hb2)).four; obtain ⟨z0, z1, z2, zf, zl⟩ := (BT.below (chain hb1 hb2)).tri; obtain ⟨r0, r1, r2, r3, rf, rl⟩ := (BS.below (chain hb1 hb2)).four))
      go_ret
      exact ⟨rfl, chain hb (chain hb1 hb2)⟩
    | true =>
      rw [g2] at hp0
      rw [Bool.true_and]
      cases g3 : overB xs ys with
      | true =>
        rw [g3] at ho0
        rw [Bool.not_true, Bool.false_and]
        have HD := Lib.hid hd0
        have HPL := Lib.hid hp0
        have HOV := Lib.hid ho0
        clear hd0 hp0 ho0
        obtain ⟨BV, BT, BS, hb, hz⟩ := three_new w #[.int .i64 (P : Int), .int .i64 c, .int .i64 h, .int .i64 s] #[.int .i64 (P : Int), fv f1 B, fv f2 B] #[.int .i64 a, .int .i64 b, .int .i64 d, .bool q] 32 151 112
        obtain ⟨x0, x1, x2, x3, xf, xl⟩ := BV.four
        obtain ⟨z0, z1, z2, zf, zl⟩ := BT.tri
        obtain ⟨r0, r1, r2, r3, rf, rl⟩ := BS.four
        go_enter Try.func133, Try.ntmps133
        go_wp2_with (first | (go_at_call 97; refine (HD.out _).mono ?_; rintro e w1 ⟨rfl, hb1⟩; obtain ⟨x0, x1, x2, x3, xf, xl⟩ := (BV.below hb1).four; obtain ⟨z0, z1, z2, zf, zl⟩ := (BT.below hb1).tri; obtain ⟨r0, r1, r2, r3, rf, rl⟩ := (BS.below hb1).four) | (go_at_call 162; refine (HPL.out _).mono ?_; rintro e w2 ⟨rfl, hb2⟩; obtain ⟨x0, x1, x2, x3, xf, xl⟩ := (BV.below (chain hb1 hb2)).four; obtain ⟨z0, z1, z2, zf, zl⟩ := (BT.below (chain hb1 hb2)).tri; obtain ⟨r0, r1, r2, r3, rf, rl⟩ := (BS.below (chain hb1 hb2)).four) | (go_at_call 145; refine (HOV.out _ (chain hb (chain hb1 hb2))).mono ?_; rintro e w3 ⟨rfl, hb3⟩; obtain ⟨x0, x1, x2, x3, xf, xl⟩ := (BV.below (chain (chain hb1 hb2) hb3)).four; obtain ⟨z0, z1, z2, zf, zl⟩ := (BT.below (chain (chain hb1 hb2) hb3)).tri; obtain ⟨r0, r1, r2, r3, rf, rl⟩ := (BS.below (chain (chain hb1 hb2) hb3)).four))
        go_ret
        exact ⟨rfl, chain hb (chain (chain hb1 hb2) hb3)⟩
      | false =>
        rw [g3] at ho0
        rw [Bool.not_false, Bool.true_and]
        have g1' : 1 ≤ d ∧ d ≤ s := by simpa [inB] using g1
        have g2' := g2
        simp only [placesB, Bool.and_eq_true, decide_eq_true_eq] at g2'
        obtain ⟨k, rfl⟩ := Int.eq_ofNat_of_zero_le g2'.1
        have hs0 := fun W (hW : Below w.heap.size w W) => stepFrom_any P c h s f1 f2 B xs ys W p0 p1 n1 n2 hx hy (q1.below hW) (q2.below hW) k d (by omega) g1'.1 (by omega)
        rw [show ((k : Int)).toNat = k by simp]
        obtain ⟨r, hr0⟩ : ∃ r, stepI P h xs ys k d = r := ⟨_, rfl⟩
        rw [hr0] at hs0 ⊢
        have HD := Lib.hid hd0
        have HPL := Lib.hid hp0
        have HOV := Lib.hid ho0
        have HSF := Lib.hid hs0
        clear hd0 hp0 ho0 hs0 hr0 g1 g2 g3
        obtain ⟨BV, BT, BS, hb, hz⟩ := three_new w #[.int .i64 (P : Int), .int .i64 c, .int .i64 h, .int .i64 s] #[.int .i64 (P : Int), fv f1 B, fv f2 B] #[.int .i64 (k : Int), .int .i64 b, .int .i64 d, .bool q] 32 151 112
        obtain ⟨x0, x1, x2, x3, xf, xl⟩ := BV.four
        obtain ⟨z0, z1, z2, zf, zl⟩ := BT.tri
        obtain ⟨r0, r1, r2, r3, rf, rl⟩ := BS.four
        go_enter Try.func133, Try.ntmps133
        go_wp2_with (first | (go_at_call 97; refine (HD.out _).mono ?_; rintro e w1 ⟨rfl, hb1⟩; obtain ⟨x0, x1, x2, x3, xf, xl⟩ := (BV.below hb1).four; obtain ⟨z0, z1, z2, zf, zl⟩ := (BT.below hb1).tri; obtain ⟨r0, r1, r2, r3, rf, rl⟩ := (BS.below hb1).four) | (go_at_call 162; refine (HPL.out _).mono ?_; rintro e w2 ⟨rfl, hb2⟩; obtain ⟨x0, x1, x2, x3, xf, xl⟩ := (BV.below (chain hb1 hb2)).four; obtain ⟨z0, z1, z2, zf, zl⟩ := (BT.below (chain hb1 hb2)).tri; obtain ⟨r0, r1, r2, r3, rf, rl⟩ := (BS.below (chain hb1 hb2)).four) | (go_at_call 145; refine (HOV.out _ (chain hb (chain hb1 hb2))).mono ?_; rintro e w3 ⟨rfl, hb3⟩; obtain ⟨x0, x1, x2, x3, xf, xl⟩ := (BV.below (chain (chain hb1 hb2) hb3)).four; obtain ⟨z0, z1, z2, zf, zl⟩ := (BT.below (chain (chain hb1 hb2) hb3)).tri; obtain ⟨r0, r1, r2, r3, rf, rl⟩ := (BS.below (chain (chain hb1 hb2) hb3)).four) | (go_at_call 160; refine (HSF.out _ (chain hb (chain (chain hb1 hb2) hb3))).mono ?_; rintro e w4 ⟨x, ok, rfl, hr, hb4⟩; obtain ⟨e1, e2, e3, e4⟩ := x; obtain ⟨x0, x1, x2, x3, xf, xl⟩ := (BV.below (chain (chain (chain hb1 hb2) hb3) hb4)).four; obtain ⟨z0, z1, z2, zf, zl⟩ := (BT.below (chain (chain (chain hb1 hb2) hb3) hb4)).tri; obtain ⟨r0, r1, r2, r3, rf, rl⟩ := (BS.below (chain (chain (chain hb1 hb2) hb3) hb4)).four))
        all_goals (go_ret; refine ⟨?_, (chain hb (chain (chain (chain hb1 hb2) hb3) hb4)).alloc (chain hb (chain (chain (chain hb1 hb2) hb3) hb4)).size _⟩; clear HD HPL HOV HSF hb1 hb2 hb3 hb4 hb q1 q2 BV BT BS hx hy; first | (simp [hr]; done) | (simp [hr, *]; done) | (simp_all; done))

end Go.Proofs.Ytokjkcnjmfbfiaa
