/- Contract of the model's application of a step. -/
import Derived.Test.Ytokjkcnjmfbfiaa04v
namespace Go.Proofs.Ytokjkcnjmfbfiaa
open Go.ChangeShapes Go.WideShapes Go.ChangeAt Go.RowKit
set_option linter.unusedVariables false
set_option linter.unusedSimpArgs false
set_option maxRecDepth 4000

theorem legB_form {P : Nat} {h s : Int} {xs ys : List Int} {a b d : Int} {q : Bool} (g : legB P h s xs ys (a, b, d, q) = true) : ∃ f : Nat, a = (f : Int) ∧ f ≤ P ∧ ((b = -1 ∧ q = false) ∨ ∃ t : Nat, b = (t : Int) ∧ t < P ∧ ¬ t = f) := by
  have hp := legB_places g
  unfold legB at g
  simp only [placesB, Bool.and_eq_true, decide_eq_true_eq] at g hp
  obtain ⟨g1, _, _, g2⟩ := g
  have g1' : 1 ≤ d ∧ d ≤ s := by simpa [inB] using g1
  obtain ⟨p1, p2, p3, p4⟩ := hp
  obtain ⟨f, rfl⟩ := Int.eq_ofNat_of_zero_le p1
  refine ⟨f, rfl, by omega, ?_⟩
  rw [show (f : Int).toNat = f by simp] at g2
  unfold stepI at g2
  split at g2
  · simp at g2
  · split at g2
    · simp only [Option.some.injEq, Prod.mk.injEq] at g2
      obtain ⟨_, g3, _, g4⟩ := g2
      by_cases hb : b = -1
      · left
        refine ⟨hb, ?_⟩
        rw [← g4, g3, hb]
        rfl
      · right
        obtain ⟨t, rfl⟩ := Int.eq_ofNat_of_zero_le (by omega : 0 ≤ b)
        refine ⟨t, rfl, by omega, ?_⟩
        unfold toI at g3
        split at g3
        · omega
        · omega
    · simp at g2
theorem l04Apply_any (P : Nat) (c h s : Int) (a1 a2 : Option Addr) (n1 n2 c1 c2 : Nat) (xs ys : List Int) (w : World) (h1 : xs.length = n1) (h2 : ys.length = n2) (p0 : 2 ≤ P) (p1 : P ≤ 24) (N1 : xs.length = P + 1) (N2 : ys.length = P + 1) (hh0 : 1 ≤ h) (hh : h ≤ (P : Int)) (hx : ∀ x ∈ xs, 0 ≤ x ∧ x ≤ 1000) (hy : ∀ y ∈ ys, 0 ≤ y ∧ y ≤ 1000) (r1 : IRow w a1 xs) (r2 : IRow w a2 ys) (t : Stp) (gl : legB P h s xs ys t = true) :
    Calls Try.prog 131 #[.agg #[.int .i64 (P : Int), .int .i64 c, .int .i64 h, .int .i64 s], .agg #[.slice a1 n1 c1, .slice a2 n2 c2], stV t] w (BoardGot (mvX xs t.1 t.2.1 1) (mvY P ys t.2.1 t.2.2.2 1) w) := by
  obtain ⟨a, b, d, q⟩ := t
  obtain ⟨f, rfl, fP, hc⟩ := legB_form gl
  dsimp only
  rcases hc with ⟨rfl, rfl⟩ | ⟨t, rfl, tP, hne⟩
  · exact l04Apply_off_false P c h s a1 a2 n1 n2 c1 c2 xs ys w h1 h2 p0 p1 N1 N2 hh0 hh hx hy r1 r2 f d fP
  · cases q with
    | true => exact l04Apply_far_true P c h s a1 a2 n1 n2 c1 c2 xs ys w h1 h2 p0 p1 N1 N2 hh0 hh hx hy r1 r2 f d fP t tP hne
    | false => exact l04Apply_far_false P c h s a1 a2 n1 n2 c1 c2 xs ys w h1 h2 p0 p1 N1 N2 hh0 hh hx hy r1 r2 f d fP t tP hne
end Go.Proofs.Ytokjkcnjmfbfiaa
