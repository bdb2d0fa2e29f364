/- Contracts of chapter 3: how many lists have a bounded sum, of the program and of its model. -/
import Derived.Test.YtgabhnhkoklgiaaCnt
import Derived.Test.YtgabhnhkoklgiaaM02
import Derived.Deep.LoopGhost
namespace Go.Proofs.Ytgabhnhkoklgiaa
open Go.ChangeShapes Go.WideShapes Go.ChangeAt Go.RowKit
set_option linter.unusedVariables false
set_option linter.unusedSimpArgs false

theorem cnt_bnd (n m : Nat) (hn : n ≤ 25) (hm : m ≤ 15) : 1 ≤ (cnt n m : Int) ∧ (cnt n m : Int) ≤ 1099511627776 := by
  have h1 := cnt_pos n m
  have h2 := cnt_bound hn hm
  omega
theorem mul_bnd {a b : Int} (a0 : 1 ≤ a) (a1 : a ≤ 1099511627776) (b0 : 1 ≤ b) (b1 : b ≤ 100) : 0 ≤ a * b ∧ a * b ≤ 109951162777600 :=
  ⟨Int.mul_nonneg (by omega) (by omega), by
    have h := Int.mul_le_mul a1 b1 (by omega) (by omega)
    omega⟩
set_option maxHeartbeats 1000000 in
theorem listCount_any (n m : Nat) (w : World) (hn : n ≤ 25) (hm : m ≤ 15) :
    Calls Try.prog 74 #[.int .i64 n, .int .i64 m] w fun e w' => e = .returned (.int .i64 (cnt n m)) ∧ w = w' := by
  go_enter Try.func74, Try.ntmps74
  go_wp2
  go_loopg [5, 8] n (fun r q i wr => w = wr ∧ ∃ k : Nat, k ≤ n ∧ r = n - k ∧ i = .int .i64 k ∧ q = .int .i64 (cnt k m))
  case atStart => exact ⟨rfl, 0, by omega, by omega, rfl, by rw [cnt_zero]; rfl⟩
  case round =>
    obtain ⟨rfl, k, hk, hr, rfl, rfl⟩ := hrel
    by_cases hlt : k < n
    · have hlt' : (k : Int) < (n : Int) := by omega
      have hc := cnt_bnd k m (by omega) hm
      have hd := cnt_bnd (k + 1) m (by omega) hm
      have hq := cnt_nextI k m
      obtain ⟨v, hv⟩ : ∃ v, (cnt k m : Int) = v := ⟨_, rfl⟩
      obtain ⟨u, hu⟩ : ∃ u, (cnt (k + 1) m : Int) = u := ⟨_, rfl⟩
      rw [hv] at hc hq ⊢
      rw [hu] at hd hq
      have hp := mul_bnd hc.1 hc.2 (b := (m : Int) + (k : Int) + 1) (by omega) (by omega)
      obtain ⟨t, ht⟩ : ∃ t, v * ((m : Int) + (k : Int) + 1) = t := ⟨_, rfl⟩
      rw [ht] at hq hp
      have hp0 := hp.1
      have hp1 := hp.2
      have hd0 := hd.1
      have hd1 := hd.2
      have HU := Lib.hid hu
      clear hv hu hp hd hc
      go_wp2
      go_roundg (n - (k + 1))
      case measure => omega
      case rel => exact ⟨rfl, k + 1, by omega, rfl, by go_num, by rw [HU.out]⟩
    · obtain rfl : k = n := by omega
      go_wp2
      go_ret
      exact ⟨rfl, rfl⟩
set_option maxHeartbeats 1000000 in
theorem l03Choose_any (n m t : Nat) (w : World) (hn : n ≤ 25) (hm : m ≤ 15) (ht : t = n + m) :
    Calls Try.prog 75 #[.int .i64 t, .int .i64 m] w fun e w' => e = .returned (.int .i64 (cnt n m)) ∧ w = w' := by
  have E1 : (t : Int) - (m : Int) = (n : Int) := by omega
  have E2 : (t : Int) - (n : Int) = (m : Int) := by omega
  have ht1 : (t : Int) ≤ 40 := by omega
  have ht2 : m ≤ t := by omega
  clear ht
  by_cases h : m ≤ n
  · have h' : (m : Int) ≤ (n : Int) := by omega
    go_enter Try.func75, Try.ntmps75
    go_wp2
    go_loopg [5, 6] m (fun z q i wr => w = wr ∧ ∃ k : Nat, k ≤ m ∧ z = m - k ∧ i = .int .i64 ((k : Int) + 1) ∧ q = .int .i64 (cnt n k))
    case atStart => exact ⟨rfl, 0, by omega, by omega, rfl, by rw [cnt_base]; rfl⟩
    case round =>
      obtain ⟨rfl, k, hk, hz, rfl, rfl⟩ := hrel
      by_cases hlt : k < m
      · have hlt' : (k : Int) + 1 ≤ (m : Int) := by omega
        have hc := cnt_bnd n k (by omega) (by omega)
        have hd := cnt_bnd n (k + 1) (by omega) (by omega)
        have hq := cnt_nextI k n
        rw [cnt_symm k n, cnt_symm (k + 1) n] at hq
        obtain ⟨v, hv⟩ : ∃ v, (cnt n k : Int) = v := ⟨_, rfl⟩
        obtain ⟨u, hu⟩ : ∃ u, (cnt n (k + 1) : Int) = u := ⟨_, rfl⟩
        rw [hv] at hc hq ⊢
        rw [hu] at hd hq
        have e1 : (n : Int) + (k : Int) + 1 = (n : Int) + ((k : Int) + 1) := by omega
        rw [e1] at hq
        have hp := mul_bnd hc.1 hc.2 (b := (n : Int) + ((k : Int) + 1)) (by omega) (by omega)
        obtain ⟨y, hy⟩ : ∃ y, v * ((n : Int) + ((k : Int) + 1)) = y := ⟨_, rfl⟩
        rw [hy] at hq hp
        have hp0 := hp.1
        have hp1 := hp.2
        have hd0 := hd.1
        have hd1 := hd.2
        have HU := Lib.hid hu
        clear hv hu hp hd hc e1
        go_wp2
        go_roundg (m - (k + 1))
        case measure => omega
        case rel => exact ⟨rfl, k + 1, by omega, rfl, by go_num, by rw [HU.out]⟩
      · obtain rfl : k = m := by omega
        have hlt' : ¬ ((k : Int) + 1 ≤ (k : Int)) := by omega
        go_wp2
        go_ret
        exact ⟨rfl, rfl⟩
  · have h' : ¬ (m : Int) ≤ (n : Int) := by omega
    have h2 : (n : Int) ≤ (m : Int) := by omega
    rw [cnt_symm n m]
    go_enter Try.func75, Try.ntmps75
    go_wp2
    go_loopg [5, 6] n (fun z q i wr => w = wr ∧ ∃ k : Nat, k ≤ n ∧ z = n - k ∧ i = .int .i64 ((k : Int) + 1) ∧ q = .int .i64 (cnt m k))
    case atStart => exact ⟨rfl, 0, by omega, by omega, rfl, by rw [cnt_base]; rfl⟩
    case round =>
      obtain ⟨rfl, k, hk, hz, rfl, rfl⟩ := hrel
      by_cases hlt : k < n
      · have hlt' : (k : Int) + 1 ≤ (n : Int) := by omega
        have hc := cnt_bnd m k (by omega) (by omega)
        have hd := cnt_bnd m (k + 1) (by omega) (by omega)
        have hq := cnt_nextI k m
        rw [cnt_symm k m, cnt_symm (k + 1) m] at hq
        obtain ⟨v, hv⟩ : ∃ v, (cnt m k : Int) = v := ⟨_, rfl⟩
        obtain ⟨u, hu⟩ : ∃ u, (cnt m (k + 1) : Int) = u := ⟨_, rfl⟩
        rw [hv] at hc hq ⊢
        rw [hu] at hd hq
        have e1 : (m : Int) + (k : Int) + 1 = (m : Int) + ((k : Int) + 1) := by omega
        rw [e1] at hq
        have hp := mul_bnd hc.1 hc.2 (b := (m : Int) + ((k : Int) + 1)) (by omega) (by omega)
        obtain ⟨y, hy⟩ : ∃ y, v * ((m : Int) + ((k : Int) + 1)) = y := ⟨_, rfl⟩
        rw [hy] at hq hp
        have hp0 := hp.1
        have hp1 := hp.2
        have hd0 := hd.1
        have hd1 := hd.2
        have HU := Lib.hid hu
        clear hv hu hp hd hc e1
        go_wp2
        go_roundg (n - (k + 1))
        case measure => omega
        case rel => exact ⟨rfl, k + 1, by omega, rfl, by go_num, by rw [HU.out]⟩
      · obtain rfl : k = n := by omega
        have hlt' : ¬ ((k : Int) + 1 ≤ (k : Int)) := by omega
        go_wp2
        go_ret
        exact ⟨rfl, rfl⟩
set_option maxHeartbeats 1000000 in
theorem l03Count_any (n m : Nat) (w : World) (hn : n ≤ 25) (hm : m ≤ 15) :
    Calls Try.prog 51 #[.int .i64 n, .int .i64 m] w fun e w' => e = .returned (.int .i64 (cnt n m)) ∧ w = w' := by
  have hc := fun W => l03Choose_any n m (n + m) W hn hm rfl
  rw [show (((n + m : Nat) : Int)) = (n : Int) + (m : Int) by omega] at hc
  have HC := Lib.hid hc
  clear hc
  go_enter Try.func51, Try.ntmps51
  go_wp2_with (go_at_call 75; refine (HC.out _).mono ?_; rintro e w1 ⟨rfl, rfl⟩)
  go_ret
  exact ⟨rfl, rfl⟩
def scI (p c h s : Int) : Int := if vB p c h s = true then (cnt (p + 1).toNat c.toNat : Int) else -1
set_option maxHeartbeats 1000000 in
theorem sideCountM_any (p c h s : Int) (w : World) (g : vB p c h s = true) :
    Calls Try.prog 47 #[.agg #[.int .i64 p, .int .i64 c, .int .i64 h, .int .i64 s]] w fun e w' => e = .returned (.int .i64 (cnt (p + 1).toNat c.toNat)) ∧ Below w.heap.size w w' := by
  have hv := vB_iff.1 g
  obtain ⟨n, hn⟩ : ∃ n : Nat, (p + 1).toNat = n := ⟨_, rfl⟩
  obtain ⟨m, hm⟩ : ∃ m : Nat, c.toNat = m := ⟨_, rfl⟩
  rw [hn, hm]
  obtain rfl : p = (n : Int) - 1 := by omega
  obtain rfl : c = (m : Int) := by omega
  have hc := fun W => listCount_any n m W (by omega) (by omega)
  have p1 : (n : Int) ≤ 25 := by omega
  have p0 : (0 : Int) ≤ (n : Int) - 1 := by omega
  have e1 : (n : Int) - 1 + 1 = (n : Int) := by omega
  have HC := Lib.hid hc
  clear hc hv hn hm g
  go_enter Try.func47, Try.ntmps47
  go_wp2_with (go_at_call 74; refine (HC.out _).mono ?_; rintro e w1 ⟨rfl, rfl⟩)
  go_ret
  exact ⟨rfl, (Below.refl _ _).alloc (Nat.le_refl _) _⟩
set_option maxHeartbeats 1000000 in
theorem sideCount_any (p c h s : Int) (w : World) :
    Calls Try.prog 17 #[.agg #[.int .i64 p, .int .i64 c, .int .i64 h, .int .i64 s]] w fun e w' => e = .returned (.int .i64 (scI p c h s)) ∧ Below w.heap.size w w' := by
  have hB := fun W => valid_any p c h s W
  by_cases g : vB p c h s = true
  · have hS := fun W => sideCountM_any p c h s W g
    rw [scI, if_pos g]
    rw [g] at hB
    have HB := Lib.hid hB
    have HS := Lib.hid hS
    clear hB hS g
    go_enter Try.func17, Try.ntmps17
    go_wp2_with (first | (go_at_call 46; refine (HB.out _).mono ?_; rintro e w1 ⟨rfl, hb1⟩; obtain ⟨hc1, hf1⟩ := bcell hb1) | (go_at_call 47; refine (HS.out _).mono ?_; rintro e w2 ⟨rfl, hb2⟩))
    go_ret
    exact ⟨rfl, from_alloc (chain hb1 hb2)⟩
  · rw [scI, if_neg g]
    replace g : vB p c h s = false := by simpa using g
    rw [g] at hB
    have HB := Lib.hid hB
    clear hB
    go_enter Try.func17, Try.ntmps17
    go_wp2_with (go_at_call 46; refine (HB.out _).mono ?_; rintro e w1 ⟨rfl, hb1⟩; obtain ⟨hc1, hf1⟩ := bcell hb1)
    go_ret
    exact ⟨rfl, from_alloc hb1⟩
set_option maxHeartbeats 1000000 in
theorem specSideCount_any (p c h s : Int) (w : World) :
    Calls Try.prog 28 #[.agg #[.int .i64 p, .int .i64 c, .int .i64 h, .int .i64 s]] w fun e w' => e = .returned (.int .i64 (scI p c h s)) ∧ Below w.heap.size w w' := by
  have hB := fun W => specIsVariant_any p c h s W
  by_cases g : vB p c h s = true
  · have hv := vB_iff.1 g
    rw [scI, if_pos g]
    rw [g] at hB
    obtain ⟨n, hn⟩ : ∃ n : Nat, (p + 1).toNat = n := ⟨_, rfl⟩
    obtain ⟨m, hm⟩ : ∃ m : Nat, c.toNat = m := ⟨_, rfl⟩
    rw [hn, hm]
    obtain rfl : p = (n : Int) - 1 := by omega
    obtain rfl : c = (m : Int) := by omega
    have hS := fun W => l03Count_any n m W (by omega) (by omega)
    have p1 : (n : Int) ≤ 25 := by omega
    have p0 : (0 : Int) ≤ (n : Int) - 1 := by omega
    have e1 : (n : Int) - 1 + 1 = (n : Int) := by omega
    have HB := Lib.hid hB
    have HS := Lib.hid hS
    clear hB hS g hv hn hm
    go_enter Try.func28, Try.ntmps28
    go_wp2_with (first | (go_at_call 49; refine (HB.out _).mono ?_; rintro e w1 ⟨rfl, hb1⟩; obtain ⟨hc1, hf1⟩ := bcell hb1) | (go_at_call 51; refine (HS.out _).mono ?_; rintro e w2 ⟨rfl, rfl⟩))
    go_ret
    exact ⟨rfl, from_alloc hb1⟩
  · rw [scI, if_neg g]
    replace g : vB p c h s = false := by simpa using g
    rw [g] at hB
    have HB := Lib.hid hB
    clear hB
    go_enter Try.func28, Try.ntmps28
    go_wp2_with (go_at_call 49; refine (HB.out _).mono ?_; rintro e w1 ⟨rfl, hb1⟩; obtain ⟨hc1, hf1⟩ := bcell hb1)
    go_ret
    exact ⟨rfl, from_alloc hb1⟩
end Go.Proofs.Ytgabhnhkoklgiaa
