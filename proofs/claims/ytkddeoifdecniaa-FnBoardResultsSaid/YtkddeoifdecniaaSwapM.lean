/- The exchange of sides: mathematics, comparing two boards, the draw of a pair. -/
import Derived.Test.YtkddeoifdecniaaSwapS
import Derived.Test.YtkddeoifdecniaaDraw4
import Derived.Test.YtkddeoifdecniaaSrc2
namespace Go.Proofs.Ytkddeoifdecniaa
open Go.ChangeShapes Go.WideShapes Go.ChangeAt Go.RowKit
set_option linter.unusedVariables false
set_option linter.unusedSimpArgs false

theorem apartB_swap {P : Nat} {xs ys : List Int} (h : apartB P xs ys = true) : apartB P ys xs = true := by
  rw [apartB, List.all_eq_true] at h ⊢
  intro i hi
  have hi2 : i < P := by simpa using hi
  have h2 := h (P - 1 - i) (by simp; omega)
  rw [show P - 1 - (P - 1 - i) = i by omega] at h2
  rw [Bool.and_comm]
  exact h2
theorem isB_swap {p c h s : Int} {xs ys : List Int} (g : isB p c h s xs ys = true) : isB p c h s ys xs = true := by
  simp only [isB, Bool.and_eq_true] at g ⊢
  obtain ⟨g0, g1, g2, g3, g4⟩ := g
  exact ⟨g0, g2, g1, by rw [Int.add_comm]; exact g3, apartB_swap g4⟩
theorem overB_swap (xs ys : List Int) : overB ys xs = overB xs ys := by rw [overB, overB, Bool.or_comm]
theorem contB_swap (p : Int) (xs ys : List Int) : contB p ys xs = contB p xs ys := by rw [contB, contB, overB_swap, Int.add_comm]
set_option maxHeartbeats 1000000 in
theorem likeInts_same (a b : Option Addr) (n c1 c2 : Nat) (xs : List Int) (w : World) (hn : xs.length = n) (hle : n ≤ 1048576) (ha : IRow w a xs) (hb : IRow w b xs) :
    Calls Try.prog 65 #[.slice a n c1, .slice b n c2] w fun e w' => e = .returned (.bool true) ∧ Below w.heap.size w w' := by
  subst hn
  go_enter Try.func65, Try.ntmps65
  go_wp2
  go_loopg [5] xs.length (fun m i wr => ∃ k : Nat, k ≤ xs.length ∧ m = xs.length - k ∧ i = .int .i64 k ∧ Below w.heap.size w wr)
  case atStart => exact ⟨0, by omega, by omega, rfl, Below.refl _ _⟩
  case round =>
    obtain ⟨k, hk, hm, rfl, hbel⟩ := hrel
    by_cases hlt : k < xs.length
    · have hlt' : (k : Int) < (xs.length : Int) := by omega
      have hk0 : (0 : Int) ≤ (k : Int) := by omega
      obtain ⟨b1, o1, rfl, hc1⟩ := ha.below hbel k hlt
      obtain ⟨b2, o2, rfl, hc2⟩ := hb.below hbel k hlt
      go_wp2_with fail
      go_quiet (fail)
      go_wp2
      go_roundg (xs.length - (k + 1))
      case measure => omega
      case rel => exact ⟨k + 1, by omega, rfl, by go_num, below_drewN hbel _⟩
    · obtain rfl : k = xs.length := by omega
      go_wp2
      go_ret
      exact ⟨rfl, hbel⟩
set_option maxHeartbeats 1000000 in
theorem w9Boards_same (a1 a2 b1 b2 : Option Addr) (n1 n2 c1 c2 d1 d2 : Nat) (xs ys : List Int) (w : World) (h1 : xs.length = n1) (h2 : ys.length = n2) (l1 : n1 ≤ 1048576) (l2 : n2 ≤ 1048576)
    (r1 : IRow w a1 xs) (r2 : IRow w a2 ys) (s1 : IRow w b1 xs) (s2 : IRow w b2 ys) :
    Calls Try.prog 20 #[.agg #[.slice a1 n1 c1, .slice a2 n2 c2], .agg #[.slice b1 n1 d1, .slice b2 n2 d2]] w fun e w' => e = .returned (.bool true) ∧ Below w.heap.size w w' := by
  obtain ⟨BA, BR, hb, hz⟩ := two_new w #[.slice a1 n1 c1, .slice a2 n2 c2] #[.slice b1 n1 d1, .slice b2 n2 d2] 28 28
  replace r1 := r1.below hb
  replace r2 := r2.below hb
  replace s1 := s1.below hb
  replace s2 := s2.below hb
  have HZ := Lib.hid hz
  clear hz
  go_enter Try.func20, Try.ntmps20
  go_wp2_with fail
  generalize ((w.alloc (.cells #[.slice a1 n1 c1, .slice a2 n2 c2] 28)).alloc (.cells #[.slice b1 n1 d1, .slice b2 n2 d2] 28)) = v0 at *
  refine (likeInts_same a1 b1 n1 c1 d1 xs v0 h1 l1 r1 s1).mono ?_
  rintro e w1 ⟨rfl, hb1⟩
  replace BA := BA.below hb1
  replace BR := BR.below hb1
  have hz1 := HZ.out
  obtain ⟨x0, x1, xf, xl⟩ := BA.two
  obtain ⟨y0, y1, yf, yl⟩ := BR.two
  clear hz1
  go_wp2_with fail
  refine (likeInts_same a2 b2 n2 c2 d2 ys w1 h2 l2 (r2.below hb1) (s2.below hb1)).mono ?_
  rintro e w2 ⟨rfl, hb2⟩
  go_wp2_with fail
  go_ret
  have hz1 := HZ.out
  exact ⟨rfl, (hb.trans (hb1.mono (by omega))).trans (hb2.mono (by have := hb1.size; omega))⟩
theorem big_any (a : Option Addr) (len cap : Nat) (w : World) :
    Calls Try.prog 12 #[.slice a len cap] w fun e w' => e = .returned (.bool (decide (4096 < (len : Int)))) ∧ w = w' := by
  go_enter Try.func12, Try.ntmps12
  go_wp2
  go_ret
  exact ⟨rfl, rfl⟩
/-- A pair has been drawn, all of it in new memory. -/
def PairNew (w : World) (e : Ending) (w' : World) : Prop :=
  ∃ (p c h s : Int) (g1 g2 n1 n2 c1 c2 : Nat) (xs ys : List Int), e = .returned (.tuple #[.agg #[.int .i64 p, .int .i64 c, .int .i64 h, .int .i64 s], .agg #[.slice (some ⟨g1, 0, none⟩) n1 c1, .slice (some ⟨g2, 0, none⟩) n2 c2]]) ∧
    xs.length = n1 ∧ ys.length = n2 ∧ n1 ≤ 1000 ∧ n2 ≤ 1000 ∧ Row w' g1 xs ∧ Row w' g2 ys ∧ Below w.heap.size w w'
set_option maxHeartbeats 2000000 in
theorem drawSwap_any (B : Nat) (a : Option Addr) (len cap : Nat) (w : World) (hB : B ≤ w.heap.size) (hlen : len ≤ 1048576) (hcode : CodeIn B w a len) :
    Calls Try.prog 13 #[.slice a len cap] w (PairNew w) := by
  obtain ⟨BZ, BN, hb, hz⟩ := two_new w #[.int .i64 0, .int .i64 0, .int .i64 0, .int .i64 0] #[.slice none 0 0, .slice none 0 0] 25 28
  have hc1 := hcode.below (hb.mono hB)
  go_enter Try.func13, Try.ntmps13
  go_wp2_with fail
  generalize ((w.alloc (.cells #[.int .i64 0, .int .i64 0, .int .i64 0, .int .i64 0] 25)).alloc (.cells #[.slice none 0 0, .slice none 0 0] 28)) = v0 at *
  refine (from_any B a len cap _ (by omega) hlen hc1).mono ?_
  rintro e w1 ⟨g, rfl, hg, hS, hb1⟩
  replace BZ := BZ.below hb1
  replace BN := BN.below hb1
  replace hb := chain hb hb1
  go_wp2_with fail
  refine (drawPair_any B g a len cap _ hS).mono ?_
  rintro e w2 ⟨p, c, h, s, g1, g2, n1, n2, c1, c2, xs, ys, rfl, bp, hx, hy, l1, l2, e1, e2, b1, b2, R1, R2, hS2, hG⟩
  replace BZ := BZ.grown hG (by omega)
  replace BN := BN.grown hG (by omega)
  replace hb := chain_grown hb hG (by omega)
  have hz1 := hb1.size
  obtain ⟨z0, z1, z2, z3, zf, zl⟩ := BZ.four
  obtain ⟨n0', n1', nf, nl⟩ := BN.two
  go_wp2_with fail
  refine bodyPost_ret (v := .tuple #[.agg #[.int .i64 p, .int .i64 c, .int .i64 h, .int .i64 s], .agg #[.slice (some ⟨g1, 0, none⟩) n1 c1, .slice (some ⟨g2, 0, none⟩) n2 c2]]) (by simp [results, Try.results13, go_sem, z0, z1, z2, z3, n0', n1']) rfl ?_
  exact ⟨p, c, h, s, g1, g2, n1, n2, c1, c2, xs, ys, rfl, hx, hy, l1, l2, (((((R1.other (by omega)).other (by omega)).other (by omega)).other (by omega)).other (by omega)).other (by omega),
    (((((R2.other (by omega)).other (by omega)).other (by omega)).other (by omega)).other (by omega)).other (by omega), (((((hb.setCell (by simp) _).setCell (by simp) _).setCell (by simp) _).setCell (by simp) _).setCell (by simp) _).setCell (by simp) _⟩
end Go.Proofs.Ytkddeoifdecniaa
