/- The laws' comparisons of lists, of boards and of steps; whether a code is too long. -/
import Derived.Test.YtjglempkmenacaaStp
import Derived.Test.YtjglempkmenacaaSrc2
import Derived.BigQuiet
namespace Go.Proofs.Ytjglempkmenacaa
open Go.ChangeShapes Go.WideShapes Go.ChangeAt Go.RowKit
set_option linter.unusedVariables false
set_option linter.unusedSimpArgs false
set_option maxRecDepth 4000

set_option maxHeartbeats 1000000 in
theorem likeInts_same (a b : Option Addr) (n c1 c2 : Nat) (xs : List Int) (w : World) (hn : xs.length = n) (hle : n ≤ 1048576) (ha : IRow w a xs) (hb : IRow w b xs) :
    Calls Try.prog 31 #[.slice a n c1, .slice b n c2] w fun e w' => e = .returned (.bool true) ∧ Below w.heap.size w w' := by
  subst hn
  go_enter Try.func31, Try.ntmps31
  go_wp2
  go_loopg [5] xs.length (fun m i wr => ∃ k : Nat, k ≤ xs.length ∧ m = xs.length - k ∧ i = .int .i64 k ∧ Below w.heap.size w wr)
  case atStart => exact ⟨0, by omega, by omega, rfl, Below.refl _ _⟩
  case round =>
    obtain ⟨k, hk, hm, rfl, hbel⟩ := hrel
    by_cases hlt : k < xs.length
    · have hlt' : (k : Int) < (xs.length : Int) := by omega
      have hk0 : (0 : Int) ≤ (k : Int) := by omega
      obtain ⟨b1, o1, rfl, hc1⟩ := ha.below hbel k hlt
      obtain ⟨b2, o2, rfl, hc2⟩ := hb.below hbel k hlt
      go_wp2_with fail
      go_quiet (fail)
      go_wp2
      go_roundg (xs.length - (k + 1))
      case measure => omega
      case rel => exact ⟨k + 1, by omega, rfl, by go_num, below_drewN hbel _⟩
    · obtain rfl : k = xs.length := by omega
      go_wp2
      go_ret
      exact ⟨rfl, hbel⟩
set_option maxHeartbeats 1000000 in
theorem w9Boards_same (a1 a2 b1 b2 : Option Addr) (n1 n2 c1 c2 d1 d2 : Nat) (xs ys : List Int) (w : World) (h1 : xs.length = n1) (h2 : ys.length = n2) (l1 : n1 ≤ 1048576) (l2 : n2 ≤ 1048576)
    (r1 : IRow w a1 xs) (r2 : IRow w a2 ys) (s1 : IRow w b1 xs) (s2 : IRow w b2 ys) :
    Calls Try.prog 20 #[.agg #[.slice a1 n1 c1, .slice a2 n2 c2], .agg #[.slice b1 n1 d1, .slice b2 n2 d2]] w fun e w' => e = .returned (.bool true) ∧ Below w.heap.size w w' := by
  obtain ⟨BA, BR, hb, hz⟩ := two_new w #[.slice a1 n1 c1, .slice a2 n2 c2] #[.slice b1 n1 d1, .slice b2 n2 d2] 28 28
  replace r1 := r1.below hb
  replace r2 := r2.below hb
  replace s1 := s1.below hb
  replace s2 := s2.below hb
  have HZ := Lib.hid hz
  clear hz
  go_enter Try.func20, Try.ntmps20
  go_wp2_with fail
  generalize ((w.alloc (.cells #[.slice a1 n1 c1, .slice a2 n2 c2] 28)).alloc (.cells #[.slice b1 n1 d1, .slice b2 n2 d2] 28)) = v0 at *
  refine (likeInts_same a1 b1 n1 c1 d1 xs v0 h1 l1 r1 s1).mono ?_
  rintro e w1 ⟨rfl, hb1⟩
  replace BA := BA.below hb1
  replace BR := BR.below hb1
  have hz1 := HZ.out
  obtain ⟨x0, x1, xf, xl⟩ := BA.two
  obtain ⟨y0, y1, yf, yl⟩ := BR.two
  clear hz1
  go_wp2_with fail
  refine (likeInts_same a2 b2 n2 c2 d2 ys w1 h2 l2 (r2.below hb1) (s2.below hb1)).mono ?_
  rintro e w2 ⟨rfl, hb2⟩
  go_wp2_with fail
  go_ret
  have hz1 := HZ.out
  exact ⟨rfl, (hb.trans (hb1.mono (by omega))).trans (hb2.mono (by have := hb1.size; omega))⟩
theorem big_any (a : Option Addr) (len cap : Nat) (w : World) :
    Calls Try.prog 14 #[.slice a len cap] w fun e w' => e = .returned (.bool (decide (4096 < (len : Int)))) ∧ w = w' := by
  go_enter Try.func14, Try.ntmps14
  go_wp2
  go_ret
  exact ⟨rfl, rfl⟩
set_option maxRecDepth 8000 in
set_option maxHeartbeats 1000000 in
theorem w9Steps_same (lo hi lo2 hi2 : Nat) (a1 a2 : Option Addr) (n c1 c2 : Nat) (l : List Stp) (w : World) (hn : l.length = n) (hle : n ≤ 1048576) (h1 : OSt lo hi w a1 l) (h2 : OSt lo2 hi2 w a2 l) :
    Calls Try.prog 26 #[.slice a1 n c1, .slice a2 n c2] w fun e w' => e = .returned (.bool true) ∧ Below w.heap.size w w' := by
  subst hn
  go_enter Try.func26, Try.ntmps26
  go_wp2
  go_loopg [5] l.length (fun m i wr => ∃ k : Nat, k ≤ l.length ∧ m = l.length - k ∧ i = .int .i64 k ∧ Below w.heap.size w wr)
  case atStart => exact ⟨0, by omega, by omega, rfl, Below.refl _ _⟩
  case round =>
    obtain ⟨k, hk, hm, rfl, hbel⟩ := hrel
    by_cases hlt : k < l.length
    · have hlt' : (k : Int) < (l.length : Int) := by omega
      have hk0 : (0 : Int) ≤ (k : Int) := by omega
      have h1w := h1.below hbel
      have h2w := h2.below hbel
      obtain ⟨g1, rfl, R1⟩ := h1w.row hlt
      obtain ⟨g2, rfl, R2⟩ := h2w.row hlt
      obtain ⟨s, hs⟩ : ∃ s, l[k]? = some s := ⟨_, List.getElem?_eq_getElem hlt⟩
      obtain ⟨u0, u1, u2, u3⟩ := R1.four k s hs
      obtain ⟨v0, v1, v2, v3⟩ := R2.four k s hs
      clear h1w h2w hs h1 h2 R1 R2
      obtain ⟨a, b, c, d⟩ := s
      dsimp only at u0 u1 u2 u3 v0 v1 v2 v3
      go_wp2_with fail
      go_quiet (fail)
      go_wp2
      go_roundg (l.length - (k + 1))
      case measure => omega
      case rel => exact ⟨k + 1, by omega, rfl, by go_num, below_drewN hbel _⟩
    · obtain rfl : k = l.length := by omega
      clear h1 h2
      go_wp2
      go_ret
      exact ⟨rfl, hbel⟩
set_option maxHeartbeats 1000000 in
theorem hasInt_any (a : Option Addr) (n cap : Nat) (x : Int) (l : List Int) (w : World) (hn : l.length = n) (hle : n ≤ 1048576) (hr : IRow w a l) :
    Calls Try.prog 34 #[.slice a n cap, .int .i64 x] w fun e w' => e = .returned (.bool (decide (x ∈ l))) ∧ w = w' := by
  subst hn
  obtain ⟨Q, hQ⟩ : ∃ Q, decide (x ∈ l) = Q := ⟨_, rfl⟩
  rw [hQ]
  have HQ := Lib.hid hQ
  clear hQ
  go_enter Try.func34, Try.ntmps34
  go_wp2
  go_loopg [5] l.length (fun m i wr => w = wr ∧ ∃ k : Nat, k ≤ l.length ∧ m = l.length - k ∧ i = .int .i64 k ∧ x ∉ l.take k)
  case atStart => exact ⟨rfl, 0, by omega, by omega, rfl, by simp⟩
  case round =>
    obtain ⟨rfl, k, hk, hm, rfl, hno⟩ := hrel
    by_cases hlt : k < l.length
    · have hlt' : (k : Int) < (l.length : Int) := by omega
      obtain ⟨b, o, rfl, hc⟩ := hr k hlt
      obtain ⟨y, hy⟩ : ∃ y, l.getD k 0 = y := ⟨_, rfl⟩
      rw [hy] at hc
      have hyk : l[k]? = some y := by
        rw [List.getD_eq_getElem?_getD, List.getElem?_eq_getElem hlt] at hy
        rw [List.getElem?_eq_getElem hlt]
        simpa using hy
      by_cases e : y = x
      · have hm : decide (x ∈ l) = true := by
          rw [decide_eq_true_eq, ← e]
          exact List.mem_of_getElem? hyk
        rw [HQ.out] at hm
        subst hm
        have f0 : (y == x) = true := by rw [beq_iff_eq]; exact e
        clear hr hyk hy hno e
        go_wp2
        go_ret
        exact ⟨rfl, rfl⟩
      · have hno2 : x ∉ l.take (k + 1) := by
          rw [List.take_add_one, hyk]
          simp only [Option.toList_some, List.mem_append, List.mem_singleton, not_or]
          exact ⟨hno, fun h => e h.symm⟩
        have f0 : (y == x) = false := by rw [beq_eq_false_iff_ne]; exact e
        have HN := Lib.hid hno2
        clear hr hyk hy hno e hno2
        go_wp2
        go_roundg (l.length - (k + 1))
        case measure => omega
        case rel => exact ⟨rfl, k + 1, by omega, rfl, by go_num, HN.out⟩
    · obtain rfl : k = l.length := by omega
      rw [List.take_length] at hno
      have hm : decide (x ∈ l) = false := by rw [decide_eq_false_iff_not]; exact hno
      rw [HQ.out] at hm
      subst hm
      clear hr hno
      go_wp2
      go_ret
      exact ⟨rfl, rfl⟩
end Go.Proofs.Ytjglempkmenacaa
