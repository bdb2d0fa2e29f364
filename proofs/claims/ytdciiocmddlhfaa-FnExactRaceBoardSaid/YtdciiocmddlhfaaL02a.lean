/- Contracts of the model's functions of chapter 2: sums and sides. -/
import Derived.Test.YtdciiocmddlhfaaM02
import Derived.Test.YtdciiocmddlhfaaBoardLaws
import Derived.Deep.RegionHeld3
namespace Go.Proofs.Ytdciiocmddlhfaa
open Go.ChangeShapes Go.WideShapes Go.ChangeAt Go.RowKit
set_option linter.unusedVariables false
set_option linter.unusedSimpArgs false

set_option maxHeartbeats 1000000 in
theorem l02Sum_any (a : Option Addr) (n cap : Nat) (xs : List Int) (w : World) (hn : xs.length = n) (hle : n ≤ 1000) (hx : ∀ x ∈ xs, 0 ≤ x ∧ x ≤ 1000) (hr : IRow w a xs) :
    Calls Try.prog 26 #[.slice a n cap] w fun e w' => e = .returned (.int .i64 xs.sum) ∧ w = w' := by
  subst hn
  go_enter Try.func26, Try.ntmps26
  go_wp2
  go_loopg [3, 4] xs.length (fun m q i wr => w = wr ∧ ∃ k : Nat, k ≤ xs.length ∧ m = xs.length - k ∧ i = .int .i64 k ∧ q = .int .i64 (xs.take k).sum)
  case atStart => exact ⟨rfl, 0, by omega, by omega, rfl, rfl⟩
  case round =>
    obtain ⟨rfl, k, hk, hm, rfl, rfl⟩ := hrel
    by_cases hlt : k < xs.length
    · have hlt' : (k : Int) < (xs.length : Int) := by omega
      obtain ⟨b, o, rfl, hc⟩ := hr k hlt
      have hb := sum_bound (c := 1000) (xs.take k) (fun x h => hx x (List.mem_of_mem_take h))
      have hl : (xs.take k).length ≤ 1000 := by simp; omega
      have hb0 : 0 ≤ (xs.take k).sum := hb.1
      have hb1 : (xs.take k).sum ≤ 1000000 := by have := hb.2; omega
      have hg := hx _ (getD_mem hlt)
      obtain ⟨v, hv⟩ : ∃ v, xs.getD k 0 = v := ⟨_, rfl⟩
      have hst := sum_take xs k hlt
      rw [hv] at hc hg hst
      have g0 : 0 ≤ v := hg.1
      have g1 : v ≤ 1000 := hg.2
      have HS := Lib.hid hst
      clear hst hv hb hl hg
      go_wp2
      go_roundg (xs.length - (k + 1))
      case measure => omega
      case rel => exact ⟨rfl, k + 1, by omega, rfl, by go_num, by rw [HS.out]⟩
    · obtain rfl : k = xs.length := by omega
      go_wp2
      go_ret
      exact ⟨by simp, rfl⟩
set_option maxHeartbeats 2000000 in
theorem l02Side_any (p c h s : Int) (a : Option Addr) (n cap : Nat) (xs : List Int) (w : World) (g : vB p c h s = true) (hn : xs.length = n) (hle : n ≤ 1048576) (hr : IRow w a xs) :
    Calls Try.prog 25 #[.agg #[.int .i64 p, .int .i64 c, .int .i64 h, .int .i64 s], .slice a n cap] w fun e w' => e = .returned (.bool (sideB p c xs)) ∧ Below w.heap.size w w' := by
  have hv := vB_iff.1 g
  have p0 : 2 ≤ p := hv.1
  have p1 : p ≤ 24 := hv.2.1
  have c0 : 1 ≤ c := hv.2.2.1
  have c1 : c ≤ 15 := hv.2.2.2.1
  clear hv g
  have B0 := Blk.new w #[.int .i64 p, .int .i64 c, .int .i64 h, .int .i64 s] 29
  have hb : Below w.heap.size w (w.alloc (.cells #[.int .i64 p, .int .i64 c, .int .i64 h, .int .i64 s] 29)) := (Below.refl _ _).alloc (Nat.le_refl _) _
  obtain ⟨R, hR⟩ : ∃ R, sideB p c xs = R := ⟨_, rfl⟩
  rw [hR]
  by_cases hlen : (n : Int) = p + 1
  · have e0 : ((n : Int) != p + 1) = false := by rw [bne_eq_false_iff_eq]; exact hlen
    have hr0 := hr.below hb
    subst hn
    have HR := Lib.hid hR
    have HL := Lib.hid hlen
    clear hR hlen
    go_enter Try.func25, Try.ntmps25
    go_wp2
    generalize (w.alloc (.cells #[.int .i64 p, .int .i64 c, .int .i64 h, .int .i64 s] 29)) = v0 at *
    go_loopg [5] xs.length (fun m i wr => ∃ k : Nat, k ≤ xs.length ∧ m = xs.length - k ∧ i = .int .i64 k ∧ (∀ j, j < k → inB (xs.getD j 0) 0 c = true) ∧ Blk wr w.heap.size #[.int .i64 p, .int .i64 c, .int .i64 h, .int .i64 s] 29 ∧ Below w.heap.size w wr)
    case atStart => exact ⟨0, by omega, by omega, rfl, fun j hj => by omega, B0, hb⟩
    case round =>
      obtain ⟨k, hk, hm, rfl, hall, BV, hbel⟩ := hrel
      have HA := Lib.hid hall
      clear hall
      obtain ⟨x0, x1, x2, x3, xf, xl⟩ := BV.four
      by_cases hlt : k < xs.length
      · have hlt' : (k : Int) < (xs.length : Int) := by omega
        have hk0 : (0 : Int) ≤ (k : Int) := by omega
        obtain ⟨b, o, rfl, hc⟩ := hr.below hbel k hlt
        obtain ⟨v, hv⟩ : ∃ v, xs.getD k 0 = v := ⟨_, rfl⟩
        rw [hv] at hc
        have HV := Lib.hid hv
        clear hv
        by_cases hin : inB v 0 c = true
        · go_wp2_with fail
          go_region_held3 (fun w' => w'.cell? ⟨b, o + k, none⟩ = some (.int .i64 v) ∧ w'.cell? ⟨w.heap.size, 1, none⟩ = some (.int .i64 c)) (first | exact ⟨hc, x1⟩ | assumption | go_keep) (first | (go_at_call 24; refine (l01In_any v 0 c _).mono ?_; rintro e w5 ⟨rfl, rfl⟩))
          go_wp2
          go_roundg (xs.length - (k + 1))
          case measure => omega
          case rel =>
            refine ⟨k + 1, by omega, rfl, by go_num, fun j hj => ?_, BV.drew, hbel.drew⟩
            by_cases hjk : j = k
            · subst hjk
              rw [HV.out]
              exact hin
            · exact HA.out j (by omega)
        · have hR2 : R = false := by
            rw [← HR.out]
            have : xs.all (fun x => inB x 0 c) = false := by
              rw [List.all_eq_false]
              exact ⟨v, HV.out ▸ getD_mem hlt, by simpa using hin⟩
            simp [sideB, this]
          subst hR2
          go_wp2_with fail
          go_region_held3 (fun w' => w'.cell? ⟨b, o + k, none⟩ = some (.int .i64 v) ∧ w'.cell? ⟨w.heap.size, 1, none⟩ = some (.int .i64 c)) (first | exact ⟨hc, x1⟩ | assumption | go_keep) (first | (go_at_call 24; refine (l01In_any v 0 c _).mono ?_; rintro e w5 ⟨rfl, rfl⟩))
          go_wp2
          go_ret
          exact ⟨rfl, hbel.drew⟩
      · obtain rfl : k = xs.length := by omega
        have hxs : ∀ x ∈ xs, 0 ≤ x ∧ x ≤ c := fun x hx => by
          obtain ⟨j, hj, rfl⟩ := List.mem_iff_getElem.1 hx
          have := HA.out j hj
          rw [show xs.getD j 0 = xs[j] by simp [hj]] at this
          exact inB_iff.1 this
        have hR2 : R = decide (xs.sum ≤ c) := by
          rw [← HR.out]
          have h1 : xs.all (fun x => inB x 0 c) = true := List.all_eq_true.2 fun x hx => inB_iff.2 (hxs x hx)
          have h2 := HL.out
          simp [sideB, h1, h2]
        have hlen2 : xs.length ≤ 1000 := by have := HL.out; omega
        subst hR2
        have hsum := fun w (hr : IRow w a xs) => l02Sum_any a xs.length cap xs w rfl hlen2 (fun x hx => by have := hxs x hx; omega) hr
        have HS := Lib.hid hsum
        have hrw := hr.below hbel
        have HRW := Lib.hid hrw
        clear hsum hxs hrw
        go_wp2_with fail
        go_region_held3 (fun w' => w'.cell? ⟨w.heap.size, 1, none⟩ = some (.int .i64 c)) (first | exact x1 | assumption | go_keep) (first | (go_at_call 26; refine (HS.out _ HRW.out.drew).mono ?_; rintro e w5 ⟨rfl, rfl⟩))
        go_wp2
        go_ret
        exact ⟨rfl, hbel.drew⟩
  · have e0 : ((n : Int) != p + 1) = true := by rw [bne_iff_ne]; exact hlen
    have hR2 : R = false := by
      rw [← hR]
      simp [sideB, hn, hlen]
    subst hR2
    clear hR
    go_enter Try.func25, Try.ntmps25
    go_wp2
    go_ret
    exact ⟨rfl, hb⟩
set_option maxHeartbeats 1000000 in
theorem l02Last_any (a : Option Addr) (n cap : Nat) (xs : List Int) (w : World) (hn : xs.length = n) (hle : n ≤ 1048576) (hr : IRow w a xs) :
    Calls Try.prog 27 #[.slice a n cap] w fun e w' => e = .returned (.int .i64 (lastL xs n)) ∧ w = w' := by
  subst hn
  go_enter Try.func27, Try.ntmps27
  go_wp2
  go_loopg [3, 4] xs.length (fun m q i wr => w = wr ∧ ∃ k : Nat, k ≤ xs.length ∧ m = xs.length - k ∧ i = .int .i64 k ∧ q = .int .i64 (lastL xs k))
  case atStart => exact ⟨rfl, 0, by omega, by omega, rfl, rfl⟩
  case round =>
    obtain ⟨rfl, k, hk, hm, rfl, rfl⟩ := hrel
    by_cases hlt : k < xs.length
    · have hlt' : (k : Int) < (xs.length : Int) := by omega
      obtain ⟨b, o, rfl, hc⟩ := hr k hlt
      obtain ⟨v, hv⟩ : ∃ v, xs.getD k 0 = v := ⟨_, rfl⟩
      have hst : lastL xs (k + 1) = if 0 < xs.getD k 0 then (k : Int) else lastL xs k := rfl
      rw [hv] at hc hst
      by_cases hp : 0 < v
      · rw [if_pos hp] at hst
        have HS := Lib.hid hst
        clear hst hv
        go_wp2
        go_roundg (xs.length - (k + 1))
        case measure => omega
        case rel => exact ⟨rfl, k + 1, by omega, rfl, by go_num, by rw [HS.out]⟩
      · rw [if_neg hp] at hst
        have HS := Lib.hid hst
        clear hst hv
        go_wp2
        go_roundg (xs.length - (k + 1))
        case measure => omega
        case rel => exact ⟨rfl, k + 1, by omega, rfl, by go_num, by rw [HS.out]⟩
    · obtain rfl : k = xs.length := by omega
      go_wp2
      go_ret
      exact ⟨rfl, rfl⟩
end Go.Proofs.Ytdciiocmddlhfaa
