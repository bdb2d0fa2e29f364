/- Contracts of the program and of its model on open points and legal steps. -/
import Derived.Test.Ytokjkcnjmfbfiaa04j
namespace Go.Proofs.Ytokjkcnjmfbfiaa
open Go.ChangeShapes Go.WideShapes Go.ChangeAt Go.RowKit
set_option linter.unusedVariables false
set_option linter.unusedSimpArgs false
set_option maxRecDepth 4000

theorem isB_sides {p c h s : Int} {xs ys : List Int} (g : isB p c h s xs ys = true) : 1 ≤ s ∧ s ≤ 6 := by
  have hv : vB p c h s = true := by
    unfold isB at g
    rw [Bool.and_eq_true] at g
    exact g.1
  have := vB_iff.1 hv
  omega
/-- The board is valid and a point of it is open. -/
def opB (p c h s : Int) (xs ys : List Int) (i : Int) : Bool := isB p c h s xs ys && openB p.toNat ys i
/-- The board is valid and a step is legal on it. -/
def lgB (p c h s : Int) (xs ys : List Int) (t : Stp) : Bool := isB p c h s xs ys && legB p.toNat h s xs ys t
set_option maxRecDepth 8000 in
set_option maxHeartbeats 2000000 in
theorem l04IsLegal_any (P : Nat) (c h s : Int) (a1 a2 : Option Addr) (n1 n2 c1 c2 : Nat) (xs ys : List Int) (w : World) (h1 : xs.length = n1) (h2 : ys.length = n2) (p0 : 2 ≤ P) (p1 : P ≤ 24) (N1 : xs.length = P + 1) (N2 : ys.length = P + 1) (hh0 : 1 ≤ h) (hh : h ≤ (P : Int)) (hx : ∀ x ∈ xs, 0 ≤ x ∧ x ≤ 1000) (hy : ∀ y ∈ ys, 0 ≤ y ∧ y ≤ 1000) (r1 : IRow w a1 xs) (r2 : IRow w a2 ys) (s6 : s ≤ 6) (t : Stp) :
    Calls Try.prog 130 #[.agg #[.int .i64 (P : Int), .int .i64 c, .int .i64 h, .int .i64 s], .agg #[.slice a1 n1 c1, .slice a2 n2 c2], stV t] w fun e w' => e = .returned (.bool (legB P h s xs ys t)) ∧ Below w.heap.size w w' := by
  rw [legB_S]
  obtain ⟨ta, tb, td, tq⟩ := t
  dsimp only
  obtain ⟨BV, BB, BS, hb, hz⟩ := three_new w #[.int .i64 (P : Int), .int .i64 c, .int .i64 h, .int .i64 s] #[.slice a1 n1 c1, .slice a2 n2 c2] #[.int .i64 ta, .int .i64 tb, .int .i64 td, .bool tq] 32 34 112
  obtain ⟨x0, x1, x2, x3, xf, xl⟩ := BV.four
  obtain ⟨y0, y1, yf, yl⟩ := BB.two
  obtain ⟨s0, s1, s2, s3, sf, sl⟩ := BS.four
  have hi1 := fun W => l01In_any td 1 s W
  have hi2 := fun W => l01In_any ta 0 (P : Int) W
  cases g1 : inB td 1 s with
  | false =>
    rw [g1] at hi1
    rw [Bool.false_and]
    have HI := Lib.hid hi1
    clear hi1 hi2
    go_enter Try.func130, Try.ntmps130
    go_wp2_with (go_at_call 94; refine (HI.out _).mono ?_; rintro e w2 ⟨rfl, rfl⟩)
    go_ret
    exact ⟨rfl, hb⟩
  | true =>
    rw [g1] at hi1
    rw [Bool.true_and]
    have g1' : 1 ≤ td ∧ td ≤ s := by simpa [inB] using g1
    cases g2 : inB ta 0 (P : Int) with
    | false =>
      rw [g2] at hi2
      rw [Bool.false_and]
      have HI := Lib.hid hi1
      have HI2 := Lib.hid hi2
      clear hi1 hi2
      go_enter Try.func130, Try.ntmps130
      go_wp2_with (go_at_call 94; with_reducible first | (refine (HI.out _).mono ?_; rintro e w2 ⟨rfl, rfl⟩) | (refine (HI2.out _).mono ?_; rintro e w3 ⟨rfl, rfl⟩))
      go_ret
      exact ⟨rfl, hb⟩
    | true =>
      rw [g2] at hi2
      rw [Bool.true_and]
      have g2' : 0 ≤ ta ∧ ta ≤ (P : Int) := by simpa [inB] using g2
      obtain ⟨k, rfl⟩ := Int.eq_ofNat_of_zero_le g2'.1
      rw [show (k : Int).toNat = k by simp]
      have hs0 := fun W (hW : Below w.heap.size w W) => l04Step_any P c h s a1 a2 n1 n2 c1 c2 xs ys W h1 h2 p0 p1 N1 N2 hh0 hh hx hy (r1.below hW) (r2.below hW) k td (by omega) g1'.1 (by omega)
      obtain ⟨r, hr0⟩ : ∃ r, stepS P h xs ys k td = r := ⟨_, rfl⟩
      rw [hr0] at hs0 ⊢
      have HI := Lib.hid hi1
      have HI2 := Lib.hid hi2
      have HS := Lib.hid hs0
      clear hi1 hi2 hs0 hr0 g1 g2
      go_enter Try.func130, Try.ntmps130
      go_wp2_with (first | (go_at_call 94; with_reducible first | (refine (HI.out _).mono ?_; rintro e w2 ⟨rfl, rfl⟩) | (refine (HI2.out _).mono ?_; rintro e w3 ⟨rfl, rfl⟩)) | (go_at_call 128; refine (HS.out _ hb).mono ?_; rintro e w4 ⟨x, ok, rfl, hr, hb4⟩; obtain ⟨e1, e2, e3, e4⟩ := x; obtain ⟨s0, s1, s2, s3, sf, sl⟩ := (BS.below hb4).four))
      all_goals (go_ret; refine ⟨?_, (chain hb hb4).alloc (chain hb hb4).size _⟩; clear HI HI2 HS hb4 hb r1 r2 BV BB BS hx hy; first | (simp [hr]; done) | (simp [hr, *]; done) | (simp_all; done))
end Go.Proofs.Ytokjkcnjmfbfiaa
