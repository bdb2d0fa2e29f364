/- Contracts of the program's functions on whole boards. -/
import Derived.Test.YtdciiocmddlhfaaImpl02c
namespace Go.Proofs.Ytdciiocmddlhfaa
open Go.ChangeShapes Go.WideShapes Go.ChangeAt Go.RowKit
set_option linter.unusedVariables false
set_option linter.unusedSimpArgs false
set_option maxRecDepth 4000

theorem isB_parts {p c h s : Int} {xs ys : List Int} (g : isB p c h s xs ys = true) : 2 ≤ p ∧ p ≤ 24 ∧ 1 ≤ c ∧ c ≤ 15 ∧ 1 ≤ h ∧ h ≤ p ∧ (xs.length : Int) = p + 1 ∧ (ys.length : Int) = p + 1 ∧
    (∀ x ∈ xs, 0 ≤ x ∧ x ≤ 1000) ∧ (∀ x ∈ ys, 0 ≤ x ∧ x ≤ 1000) ∧ 0 ≤ xs.sum ∧ xs.sum ≤ c ∧ 0 ≤ ys.sum ∧ ys.sum ≤ c := by
  simp only [isB, Bool.and_eq_true] at g
  obtain ⟨g0, g1, g2, -, -⟩ := g
  obtain ⟨v0, v1, v2, v3, v4, v5, v6, v7⟩ := vB_iff.1 g0
  obtain ⟨m1, m2, m3⟩ := sideB_iff.1 g1
  obtain ⟨m4, m5, m6⟩ := sideB_iff.1 g2
  exact ⟨v0, v1, v2, v3, v4, v5, m1, m4, fun x hx => by have := m2 x hx; omega, fun x hx => by have := m5 x hx; omega, (sum_bound xs m2).1, m3, (sum_bound ys m5).1, m6⟩
set_option maxHeartbeats 2000000 in
theorem isContact_any (p c h s : Int) (a1 a2 : Option Addr) (n1 n2 c1 c2 : Nat) (xs ys : List Int) (w : World) (h1 : xs.length = n1) (h2 : ys.length = n2) (l1 : n1 ≤ 1048576) (l2 : n2 ≤ 1048576) (r1 : IRow w a1 xs) (r2 : IRow w a2 ys) :
    Calls Try.prog 22 #[.agg #[.int .i64 p, .int .i64 c, .int .i64 h, .int .i64 s], .agg #[.slice a1 n1 c1, .slice a2 n2 c2]] w fun e w' => e = .returned (.bool (isB p c h s xs ys && contB p xs ys)) ∧ Below w.heap.size w w' := by
  obtain ⟨BV, BB, hb, hz⟩ := two_new w #[.int .i64 p, .int .i64 c, .int .i64 h, .int .i64 s] #[.slice a1 n1 c1, .slice a2 n2 c2] 29 26
  have hz1 : w.heap.size + 1 < ((w.alloc (.cells #[.int .i64 p, .int .i64 c, .int .i64 h, .int .i64 s] 29)).alloc (.cells #[.slice a1 n1 c1, .slice a2 n2 c2] 26)).heap.size := by rw [hz]; omega
  clear hz
  obtain ⟨x0, x1, x2, x3, xf, xl⟩ := BV.four
  obtain ⟨y0, y1, yf, yl⟩ := BB.two
  by_cases g : isB p c h s xs ys = true
  · rw [g, Bool.true_and]
    obtain ⟨p0, p1, k0, k1, k2, k3, N1, N2, hx, hy, s0, s1, s2, s3⟩ := isB_parts g
    have hB := fun W (q1 : IRow W a1 xs) (q2 : IRow W a2 ys) => isBoard_any p c h s a1 a2 n1 n2 c1 c2 xs ys W h1 h2 l1 l2 q1 q2
    simp only [g] at hB
    have HB := Lib.hid hB
    clear hB
    go_enter Try.func22, Try.ntmps22
    go_wp2_with (first | (go_at_call 21; refine (HB.out _ (r1.below hb) (r2.below hb)).mono ?_; rintro e w1 ⟨rfl, hb1⟩; obtain ⟨x0, x1, x2, x3, xf, xl⟩ := (BV.below hb1).four; obtain ⟨y0, y1, yf, yl⟩ := (BB.below hb1).two) | (go_at_call 32; refine (countsOf_any _ c h s a1 a2 n1 c1 n2 c2 xs ys _ h1 h2 (r1.below (chain hb hb1)) (r2.below (chain hb hb1))).mono ?_; rintro e w2 ⟨B, rfl, q1, q2, hb2⟩) | (go_at_call 35; refine (contact_any p 37 38 B xs ys _ p0 p1 N1 N2 hx hy q1 q2).mono ?_; rintro e w3 ⟨rfl, hb3⟩))
    go_ret
    exact ⟨rfl, chain (chain (chain hb hb1) hb2) hb3⟩
  · replace g : isB p c h s xs ys = false := by simpa using g
    rw [g, Bool.false_and]
    have hB := fun W (q1 : IRow W a1 xs) (q2 : IRow W a2 ys) => isBoard_any p c h s a1 a2 n1 n2 c1 c2 xs ys W h1 h2 l1 l2 q1 q2
    simp only [g] at hB
    have HB := Lib.hid hB
    clear hB
    go_enter Try.func22, Try.ntmps22
    go_wp2_with (go_at_call 21; refine (HB.out _ (r1.below hb) (r2.below hb)).mono ?_; rintro e w1 ⟨rfl, hb1⟩; obtain ⟨x0, x1, x2, x3, xf, xl⟩ := (BV.below hb1).four; obtain ⟨y0, y1, yf, yl⟩ := (BB.below hb1).two)
    go_ret
    exact ⟨rfl, chain hb hb1⟩
theorem heldVT {w w2 W w3 : World} {p c h s : Int} {f1 f2 B : Nat} (hS : W.cell? ⟨w.heap.size, 0, none⟩ = some (.int .i64 p) ∧ W.cell? ⟨w.heap.size, 1, none⟩ = some (.int .i64 c) ∧ W.cell? ⟨w.heap.size, 2, none⟩ = some (.int .i64 h) ∧ W.cell? ⟨w.heap.size, 3, none⟩ = some (.int .i64 s) ∧ W.cell? ⟨w2.heap.size, 0, none⟩ = some (.int .i64 p) ∧ W.cell? ⟨w2.heap.size, 1, none⟩ = some (fv f1 B) ∧ W.cell? ⟨w2.heap.size, 2, none⟩ = some (fv f2 B) ∧ Below w2.heap.size w2 W ∧ w2.heap.size < W.heap.size ∧ w.heap.size < w2.heap.size) (hb : Below W.heap.size W w3) : w3.cell? ⟨w.heap.size, 0, none⟩ = some (.int .i64 p) ∧ w3.cell? ⟨w.heap.size, 1, none⟩ = some (.int .i64 c) ∧ w3.cell? ⟨w.heap.size, 2, none⟩ = some (.int .i64 h) ∧ w3.cell? ⟨w.heap.size, 3, none⟩ = some (.int .i64 s) ∧ w3.cell? ⟨w2.heap.size, 0, none⟩ = some (.int .i64 p) ∧ w3.cell? ⟨w2.heap.size, 1, none⟩ = some (fv f1 B) ∧ w3.cell? ⟨w2.heap.size, 2, none⟩ = some (fv f2 B) ∧ Below w2.heap.size w2 w3 ∧ w2.heap.size < w3.heap.size ∧ w.heap.size < w2.heap.size := by
  obtain ⟨h0, h1, h2, h3, h4, h5, h6, h7, h8, h9⟩ := hS
  obtain ⟨hc, _⟩ := bcell hb
  have hl : w.heap.size < W.heap.size := by omega
  exact ⟨by rw [hc _ _ hl]; exact h0, by rw [hc _ _ hl]; exact h1, by rw [hc _ _ hl]; exact h2, by rw [hc _ _ hl]; exact h3, by rw [hc _ _ h8]; exact h4, by rw [hc _ _ h8]; exact h5, by rw [hc _ _ h8]; exact h6, chain h7 hb, Nat.lt_of_lt_of_le h8 hb.size, h9⟩
/-- The checkers on a point, those of the other player below 0. -/
def pointV (p c h s : Int) (xs ys : List Int) (i : Int) : Int := if isB p c h s xs ys = true ∧ 0 ≤ i ∧ i < p then xs.getD i.toNat 0 - ys.getD (p - 1 - i).toNat 0 else 0
end Go.Proofs.Ytdciiocmddlhfaa
