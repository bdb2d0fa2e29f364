/- Contracts of chapter 3: how many lists have a bounded sum, of the program and of its model. -/
import Derived.Test.YthnkckflajkaiaaCnt
import Derived.Test.YthnkckflajkaiaaM02
import Derived.Deep.LoopGhost
namespace Go.Proofs.Ythnkckflajkaiaa
open Go.ChangeShapes Go.WideShapes Go.ChangeAt Go.RowKit
set_option linter.unusedVariables false
set_option linter.unusedSimpArgs false

theorem cnt_bnd (n m : Nat) (hn : n ≤ 25) (hm : m ≤ 15) : 1 ≤ (cnt n m : Int) ∧ (cnt n m : Int) ≤ 1099511627776 := by
  have h1 := cnt_pos n m
  have h2 := cnt_bound hn hm
  omega
theorem mul_bnd {a b : Int} (a0 : 1 ≤ a) (a1 : a ≤ 1099511627776) (b0 : 1 ≤ b) (b1 : b ≤ 100) : 0 ≤ a * b ∧ a * b ≤ 109951162777600 :=
  ⟨Int.mul_nonneg (by omega) (by omega), by
    have h := Int.mul_le_mul a1 b1 (by omega) (by omega)
    omega⟩
set_option maxHeartbeats 1000000 in
theorem l03Choose_any (n m t : Nat) (w : World) (hn : n ≤ 25) (hm : m ≤ 15) (ht : t = n + m) :
    Calls Try.prog 100 #[.int .i64 t, .int .i64 m] w fun e w' => e = .returned (.int .i64 (cnt n m)) ∧ w = w' := by
  have E1 : (t : Int) - (m : Int) = (n : Int) := by omega
  have E2 : (t : Int) - (n : Int) = (m : Int) := by omega
  have ht1 : (t : Int) ≤ 40 := by omega
  have ht2 : m ≤ t := by omega
  clear ht
  by_cases h : m ≤ n
  · have h' : (m : Int) ≤ (n : Int) := by omega
    go_enter Try.func100, Try.ntmps100
    go_wp2
    go_loopg [5, 6] m (fun z q i wr => w = wr ∧ ∃ k : Nat, k ≤ m ∧ z = m - k ∧ i = .int .i64 ((k : Int) + 1) ∧ q = .int .i64 (cnt n k))
    case atStart => exact ⟨rfl, 0, by omega, by omega, rfl, by rw [cnt_base]; rfl⟩
    case round =>
      obtain ⟨rfl, k, hk, hz, rfl, rfl⟩ := hrel
      by_cases hlt : k < m
      · have hlt' : (k : Int) + 1 ≤ (m : Int) := by omega
        have hc := cnt_bnd n k (by omega) (by omega)
        have hd := cnt_bnd n (k + 1) (by omega) (by omega)
        have hq := cnt_nextI k n
        rw [cnt_symm k n, cnt_symm (k + 1) n] at hq
        obtain ⟨v, hv⟩ : ∃ v, (cnt n k : Int) = v := ⟨_, rfl⟩
        obtain ⟨u, hu⟩ : ∃ u, (cnt n (k + 1) : Int) = u := ⟨_, rfl⟩
        rw [hv] at hc hq ⊢
        rw [hu] at hd hq
        have e1 : (n : Int) + (k : Int) + 1 = (n : Int) + ((k : Int) + 1) := by omega
        rw [e1] at hq
        have hp := mul_bnd hc.1 hc.2 (b := (n : Int) + ((k : Int) + 1)) (by omega) (by omega)
        obtain ⟨y, hy⟩ : ∃ y, v * ((n : Int) + ((k : Int) + 1)) = y := ⟨_, rfl⟩
        rw [hy] at hq hp
        have hp0 := hp.1
        have hp1 := hp.2
        have hd0 := hd.1
        have hd1 := hd.2
        have HU := Lib.hid hu
        clear hv hu hp hd hc e1
        go_wp2
        go_roundg (m - (k + 1))
        case measure => omega
        case rel => exact ⟨rfl, k + 1, by omega, rfl, by go_num, by rw [HU.out]⟩
      · obtain rfl : k = m := by omega
        have hlt' : ¬ ((k : Int) + 1 ≤ (k : Int)) := by omega
        go_wp2
        go_ret
        exact ⟨rfl, rfl⟩
  · have h' : ¬ (m : Int) ≤ (n : Int) := by omega
    have h2 : (n : Int) ≤ (m : Int) := by omega
    rw [cnt_symm n m]
    go_enter Try.func100, Try.ntmps100
    go_wp2
    go_loopg [5, 6] n (fun z q i wr => w = wr ∧ ∃ k : Nat, k ≤ n ∧ z = n - k ∧ i = .int .i64 ((k : Int) + 1) ∧ q = .int .i64 (cnt m k))
    case atStart => exact ⟨rfl, 0, by omega, by omega, rfl, by rw [cnt_base]; rfl⟩
    case round =>
      obtain ⟨rfl, k, hk, hz, rfl, rfl⟩ := hrel
      by_cases hlt : k < n
      · have hlt' : (k : Int) + 1 ≤ (n : Int) := by omega
        have hc := cnt_bnd m k (by omega) (by omega)
        have hd := cnt_bnd m (k + 1) (by omega) (by omega)
        have hq := cnt_nextI k m
        rw [cnt_symm k m, cnt_symm (k + 1) m] at hq
        obtain ⟨v, hv⟩ : ∃ v, (cnt m k : Int) = v := ⟨_, rfl⟩
        obtain ⟨u, hu⟩ : ∃ u, (cnt m (k + 1) : Int) = u := ⟨_, rfl⟩
        rw [hv] at hc hq ⊢
        rw [hu] at hd hq
        have e1 : (m : Int) + (k : Int) + 1 = (m : Int) + ((k : Int) + 1) := by omega
        rw [e1] at hq
        have hp := mul_bnd hc.1 hc.2 (b := (m : Int) + ((k : Int) + 1)) (by omega) (by omega)
        obtain ⟨y, hy⟩ : ∃ y, v * ((m : Int) + ((k : Int) + 1)) = y := ⟨_, rfl⟩
        rw [hy] at hq hp
        have hp0 := hp.1
        have hp1 := hp.2
        have hd0 := hd.1
        have hd1 := hd.2
        have HU := Lib.hid hu
        clear hv hu hp hd hc e1
        go_wp2
        go_roundg (n - (k + 1))
        case measure => omega
        case rel => exact ⟨rfl, k + 1, by omega, rfl, by go_num, by rw [HU.out]⟩
      · obtain rfl : k = n := by omega
        have hlt' : ¬ ((k : Int) + 1 ≤ (k : Int)) := by omega
        go_wp2
        go_ret
        exact ⟨rfl, rfl⟩
set_option maxHeartbeats 1000000 in
theorem l03Count_any (n m : Nat) (w : World) (hn : n ≤ 25) (hm : m ≤ 15) :
    Calls Try.prog 78 #[.int .i64 n, .int .i64 m] w fun e w' => e = .returned (.int .i64 (cnt n m)) ∧ w = w' := by
  have hc := fun W => l03Choose_any n m (n + m) W hn hm rfl
  rw [show (((n + m : Nat) : Int)) = (n : Int) + (m : Int) by omega] at hc
  have HC := Lib.hid hc
  clear hc
  go_enter Try.func78, Try.ntmps78
  go_wp2_with (go_at_call 100; refine (HC.out _).mono ?_; rintro e w1 ⟨rfl, rfl⟩)
  go_ret
  exact ⟨rfl, rfl⟩
end Go.Proofs.Ythnkckflajkaiaa
