/- Contracts on legal steps and on the board behind a step, of the program and of its model. -/
import Derived.Test.Ytokjkcnjmfbfiaa04k
import Derived.Test.Ytokjkcnjmfbfiaa04m
namespace Go.Proofs.Ytokjkcnjmfbfiaa
open Go.ChangeShapes Go.WideShapes Go.ChangeAt Go.RowKit
set_option linter.unusedVariables false
set_option linter.unusedSimpArgs false
set_option maxRecDepth 4000

theorem moved_any (P : Nat) (f1 f2 B : Nat) (xs ys : List Int) (w : World) (p0 : 2 ≤ P) (p1 : P ≤ 24) (n1 : xs.length = P + 1) (n2 : ys.length = P + 1) (hx : ∀ x ∈ xs, 0 ≤ x ∧ x ≤ 1000) (hy : ∀ y ∈ ys, 0 ≤ y ∧ y ≤ 1000) (q1 : Pays f1 B xs w) (q2 : Pays f2 B ys w) (t : Stp) (n : Int) (m0 : -1 ≤ n) (m1 : n ≤ 1) (hp : placesB (P : Int) t = true) :
    Calls Try.prog 134 #[tv (P : Int) f1 f2 B, stV t, .int .i64 n] w (BoardMade (mvX xs t.1 t.2.1 n) (mvY P ys t.2.1 t.2.2.2 n) w) := by
  obtain ⟨a, b, d, q⟩ := t
  simp only [placesB, Bool.and_eq_true, decide_eq_true_eq] at hp
  obtain ⟨h1, h2, h3, h4⟩ := hp
  obtain ⟨f, rfl⟩ := Int.eq_ofNat_of_zero_le h1
  dsimp only
  by_cases hb : b = -1
  · subst hb
    cases q with
    | false => exact moved_off_false P f1 f2 B B xs ys w p0 p1 n1 n2 hx hy q1 q2 f d n m0 m1 (by omega)
    | true => exact moved_off_true P f1 f2 B B xs ys w p0 p1 n1 n2 hx hy q1 q2 f d n m0 m1 (by omega)
  · obtain ⟨t, rfl⟩ := Int.eq_ofNat_of_zero_le (by omega : 0 ≤ b)
    by_cases hne : t = f
    · subst hne
      cases q with
      | false => exact moved_same_false P f1 f2 B B xs ys w p0 p1 n1 n2 hx hy q1 q2 t d n m0 m1 (by omega) (by omega)
      | true => exact moved_same_true P f1 f2 B B xs ys w p0 p1 n1 n2 hx hy q1 q2 t d n m0 m1 (by omega) (by omega)
    · cases q with
      | false => exact moved_far_false P f1 f2 B B xs ys w p0 p1 n1 n2 hx hy q1 q2 f d n m0 m1 (by omega) t (by omega) hne
      | true => exact moved_far_true P f1 f2 B B xs ys w p0 p1 n1 n2 hx hy q1 q2 f d n m0 m1 (by omega) t (by omega) hne
end Go.Proofs.Ytokjkcnjmfbfiaa
