/- Contracts of chapter 3: the side with a number, of the program and of its model. -/
import Derived.Test.YthnkckflajkaiaaL03b
import Derived.Test.YthnkckflajkaiaaOwnS
import Derived.Deep.RegionHeld3
namespace Go.Proofs.Ythnkckflajkaiaa
open Go.ChangeShapes Go.WideShapes Go.ChangeAt Go.RowKit
set_option linter.unusedVariables false
set_option linter.unusedSimpArgs false

/-- The side with a number, as a list of integers. -/
def unrI (n k l : Nat) : List Int := (unr n k l).map fun (x : Nat) => (x : Int)
theorem unrI_cons (n k l : Nat) (hk : k < cnt (n + 1) l) : ∃ j, j ≤ l ∧ blk n l j ≤ k ∧ k < blk n l j + cnt n (l - j) ∧ unrI (n + 1) k l = (j : Int) :: unrI n (k - blk n l j) (l - j) := by
  obtain ⟨j, h1, h2, h3, h4⟩ := unr_cons n k l hk
  exact ⟨j, h1, h2, h3, by rw [unrI, h4]; rfl⟩
theorem unrI_length (n k l : Nat) (hk : k < cnt n l) : (unrI n k l).length = n := by rw [unrI, List.length_map, (unr_ok n k l hk).1]
theorem put_at (D : List Int) (k b : Nat) (x : Int) (h : D.length = k) : (D ++ List.replicate (b + 1) 0).set k x = (D ++ [x]) ++ List.replicate b 0 := by
  subst h
  simp [List.replicate_succ, List.set_append]
/-- A number is that of a side. -/
def okN (p c k : Int) : Bool := decide (0 ≤ k ∧ k < (cnt (p + 1).toNat c.toNat : Int))
def sonL (p c h s k : Int) : List Int := if vB p c h s = true ∧ okN p c k = true then unrI (p + 1).toNat k.toNat c.toNat else []
def sonE (p c h s k : Int) : Int := if vB p c h s = true then (if okN p c k = true then 0 else 4) else 1
set_option maxHeartbeats 1000000 in
theorem specSideOfNumber_any (p c h s k : Int) (w : World) :
    Calls Try.prog 48 #[.agg #[.int .i64 p, .int .i64 c, .int .i64 h, .int .i64 s], .int .i64 k] w (SliceGot2 (sonL p c h s k) (sonE p c h s k) w) := by
  have BV := Blk.new w #[.int .i64 p, .int .i64 c, .int .i64 h, .int .i64 s] 26
  have hb : Below w.heap.size w (w.alloc (.cells #[.int .i64 p, .int .i64 c, .int .i64 h, .int .i64 s] 26)) := (Below.refl _ _).alloc (Nat.le_refl _) _
  obtain ⟨x0, x1, x2, x3, xf, xl⟩ := BV.four
  have hV := fun W => specIsVariant_any p c h s W
  by_cases g : vB p c h s = true
  rotate_left
  · rw [sonL, sonE, if_neg g, if_neg (fun z => g z.1)]
    replace g : vB p c h s = false := by simpa using g
    rw [g] at hV
    have HV := Lib.hid hV
    clear hV
    go_enter Try.func48, Try.ntmps48
    go_wp2_with (go_at_call 51; refine (HV.out _).mono ?_; rintro e w1 ⟨rfl, hb1⟩; obtain ⟨x0, x1, x2, x3, xf, xl⟩ := (BV.below hb1).four)
    go_ret2
    have hbb := chain hb hb1
    exact ⟨_, _, rfl, (Own.start w1).osl.mono hbb.size (Nat.le_refl _), hbb.alloc hbb.size _⟩
  have hv := vB_iff.1 g
  obtain ⟨P, hP⟩ : ∃ P : Nat, p.toNat = P := ⟨_, rfl⟩
  obtain ⟨C, hC⟩ : ∃ C : Nat, c.toNat = C := ⟨_, rfl⟩
  obtain rfl : p = (P : Int) := by omega
  obtain rfl : c = (C : Int) := by omega
  have p1 : P ≤ 24 := by omega
  have c1 : C ≤ 15 := by omega
  have hS := fun W => l03Count_any (P + 1) C W (by omega) (by omega)
  rw [show ((P + 1 : Nat) : Int) = (P : Int) + 1 by omega] at hS
  have hcb := cnt_bnd (P + 1) C (by omega) (by omega)
  rw [g] at hV
  by_cases z : okN (P : Int) (C : Int) k = true
  rotate_left
  · rw [sonL, sonE, if_pos g, if_neg z, if_neg (fun q => z q.2)]
    simp only [okN, decide_eq_true_eq] at z
    rw [show ((P : Int) + 1).toNat = P + 1 by omega, show ((C : Int)).toNat = C by omega] at z
    obtain ⟨n, hn⟩ : ∃ n, cnt (P + 1) C = n := ⟨_, rfl⟩
    rw [hn] at hS z hcb
    have hI : inB k 0 ((n : Int) - 1) = false := by
      cases hq : inB k 0 ((n : Int) - 1) with
      | false => rfl
      | true => have := inB_iff.1 hq; omega
    have hL := fun W => l01In_any k 0 ((n : Int) - 1) W
    rw [hI] at hL
    have hp2 : (P : Int) ≤ 24 := by omega
    have hn1 : 1 ≤ (n : Int) := hcb.1
    have hn2 : (n : Int) ≤ 1099511627776 := hcb.2
    have HV := Lib.hid hV
    have HS := Lib.hid hS
    have HL := Lib.hid hL
    clear hV hS hL hn hv g z hI hcb hP hC
    go_enter Try.func48, Try.ntmps48
    go_wp2_with (first | (go_at_call 51; refine (HV.out _).mono ?_; rintro e w1 ⟨rfl, hb1⟩; obtain ⟨x0, x1, x2, x3, xf, xl⟩ := (BV.below hb1).four) | (go_at_call 78; refine (HS.out _).mono ?_; rintro e w2 ⟨rfl, rfl⟩) | (go_at_call 66; refine (HL.out _).mono ?_; rintro e w2 ⟨rfl, rfl⟩))
    go_ret2
    have hbb := chain hb hb1
    exact ⟨_, _, rfl, (Own.start w1).osl.mono hbb.size (Nat.le_refl _), hbb.alloc hbb.size _⟩
  · rw [sonL, sonE, if_pos g, if_pos z, if_pos ⟨g, z⟩]
    simp only [okN, decide_eq_true_eq] at z
    obtain ⟨N, rfl⟩ := Int.eq_ofNat_of_zero_le z.1
    rw [show ((P : Int) + 1).toNat = P + 1 by omega, show ((C : Int)).toNat = C by omega, show ((N : Int)).toNat = N by omega] at *
    have hlen := unrI_length (P + 1) N C (by omega)
    obtain ⟨out, hout⟩ : ∃ out, unrI (P + 1) N C = out := ⟨_, rfl⟩
    rw [hout] at hlen ⊢
    have hI : inB (N : Int) 0 ((cnt (P + 1) C : Int) - 1) = true := inB_iff.2 (by omega)
    have hL := fun W => l01In_any (N : Int) 0 ((cnt (P + 1) C : Int) - 1) W
    rw [hI] at hL
    have hp2 : (P : Int) ≤ 24 := by omega
    have hz : N < cnt (P + 1) C := by omega
    have HZ := Lib.hid hz
    obtain ⟨n, hn⟩ : ∃ n, cnt (P + 1) C = n := ⟨_, rfl⟩
    rw [hn] at hS hcb hL
    have hn1 : 1 ≤ (n : Int) := hcb.1
    have hn2 : (n : Int) ≤ 1099511627776 := hcb.2
    have HV := Lib.hid hV
    have HS := Lib.hid hS
    have HL := Lib.hid hL
    have HO := Lib.hid hout
    have HN := Lib.hid hlen
    clear hV hS hL hn hv g z hI hcb hz hout hlen hP hC
    go_enter Try.func48, Try.ntmps48
    go_wp2_with (first | (go_at_call 51; refine (HV.out _).mono ?_; rintro e w1 ⟨rfl, hb1⟩; obtain ⟨x0, x1, x2, x3, xf, xl⟩ := (BV.below hb1).four) | (go_at_call 78; refine (HS.out _).mono ?_; rintro e w2 ⟨rfl, rfl⟩) | (go_at_call 66; refine (HL.out _).mono ?_; rintro e w2 ⟨rfl, rfl⟩))
    have hbb := chain hb hb1
    have hO0 := Own.start w1
    have hq0 : Below w1.heap.size w1 (w1.alloc (.cells #[] 2)) := (Below.refl _ _).alloc (Nat.le_refl _) _
    clear x0 x1 x2 x3 xf xl BV hb1 hb
    generalize (w1.alloc (.cells #[] 2)) = v0 at *
    go_loopg [1, 6, 7, 8] (P + 1) (fun m q o l i wr => ∃ (r L : Nat) (D : List Int), m ≤ P + 1 ∧ D.length + m = P + 1 ∧ i = .int .i64 ((m : Int) - 1) ∧ q = .int .i64 r ∧ l = .int .i64 L ∧ L ≤ 15 ∧ r < cnt m L ∧ out = D ++ unrI m r L ∧ Own wr w1.heap.size o D ∧ Below w1.heap.size w1 wr)
    case atStart => exact ⟨N, C, [], by omega, by simp, by congr 1; omega, rfl, rfl, c1, HZ.out, by simpa using HO.out.symm, hO0, hq0⟩
    case round =>
      clear hO0 hq0
      obtain ⟨r, L, D, hm, hD, rfl, rfl, rfl, hL, hr, hout, hO, hbel⟩ := hrel
      cases gk with
      | zero =>
        have ho : out = D := by rw [hout]; simp [unrI, unr]
        subst ho
        clear hout hD
        obtain ⟨ga, gk2, rfl⟩ := hO.form
        go_wp2
        go_ret2
        exact ⟨ga, gk2, rfl, hO.osl.mono hbb.size (Nat.le_refl _), chain hbb hbel⟩
      | succ bb =>
        obtain ⟨J, q1, q2, q3, q4⟩ := unrI_cons bb r L hr
        rw [q4] at hout
        have hrb : r ≤ 1099511627776 := by have := cnt_bound (n := bb + 1) (m := L) (by omega) hL; omega
        have hbb2 : bb ≤ 24 := by omega
        have hbb3 : (bb : Int) ≤ 24 := by omega
        have e1 : (((bb + 1 : Nat) : Int) - 1) = (bb : Int) := by omega
        rw [e1]
        have HD := Lib.hid hD
        have HT := Lib.hid hout
        clear hD hout q4 e1
        go_wp2_with fail
        go_loopg [1, 9] J (fun m2 q i wi => wr = wi ∧ ∃ j : Nat, j ≤ J ∧ m2 = J - j ∧ q = .int .i64 ((r - blk bb L j : Nat) : Int) ∧ i = .int .i64 j)
        case atStart => exact ⟨rfl, 0, by omega, by omega, by simp [blk], rfl⟩
        case round =>
          obtain ⟨rfl, j, hj, hm2, rfl, rfl⟩ := hrel
          have hC := fun W => l03Count_any bb (L - j) W (by omega) (by omega)
          have e3 : (L : Int) - (j : Int) = ((L - j : Nat) : Int) := by omega
          have hlow := blk_upto bb L hj
          have hcb := cnt_bnd bb (L - j) (by omega) (by omega)
          by_cases hjJ : j < J
          · have hmono := blk_mono bb L hjJ
            have hst : r - blk bb L j - cnt bb (L - j) = r - blk bb L (j + 1) := by rw [blk]; omega
            obtain ⟨u, hu⟩ : ∃ u, r - blk bb L j = u := ⟨_, rfl⟩
            obtain ⟨v, hv⟩ : ∃ v, cnt bb (L - j) = v := ⟨_, rfl⟩
            rw [hv] at hC hst hmono hcb
            rw [hu] at hst ⊢
            have huv : (v : Int) ≤ (u : Int) := by omega
            have hub : (u : Int) ≤ 1099511627776 := by omega
            have hlj : (j : Int) ≤ (L : Int) := by omega
            have hl15 : (L : Int) ≤ 15 := by omega
            have HC := Lib.hid hC
            have HJ := Lib.hid hst
            clear hC hst hu hv hlow hmono hcb
            go_wp2_with (go_at_call 78; refine (HC.out _).mono ?_; rintro e w3 ⟨rfl, rfl⟩)
            go_roundg (J - (j + 1))
            case measure => omega
            case rel => exact ⟨rfl, j + 1, by omega, rfl, by rw [← HJ.out]; go_num, by go_num⟩
          · obtain rfl : j = J := by omega
            obtain ⟨u, hu⟩ : ∃ u, r - blk bb L j = u := ⟨_, rfl⟩
            obtain ⟨v, hv⟩ : ∃ v, cnt bb (L - j) = v := ⟨_, rfl⟩
            have hult : u < cnt bb (L - j) := by rw [hv]; omega
            rw [hv] at hC hcb
            rw [hu]
            have huv : ¬ (v : Int) ≤ (u : Int) := by omega
            have hlj : (j : Int) ≤ (L : Int) := by omega
            have hl15 : (L : Int) ≤ 15 := by omega
            have hDl : D.length ≤ 1048576 := by have := HD.out; omega
            have hbz := hbel.size
            have HC := Lib.hid hC
            have HU := Lib.hid hu
            have HUL := Lib.hid hult
            clear hC hu hv hult hlow hcb
            go_wp2_with (first | (go_at_call 78; refine (HC.out _).mono ?_; rintro e w3 ⟨rfl, rfl⟩) | (at_builtin; refine wp_push rfl _ _ rfl w1.heap.size _ D rfl hO (j : Int) rfl hDl hbz ?_; intro v2 w4 hO2 hb4))
            go_roundg bb
            case measure => omega
            case rel =>
              refine ⟨u, L - j, D ++ [(j : Int)], by omega, by have := HD.out; simp; omega, by go_num, rfl, by go_num, by omega, HUL.out, ?_, hO2, hbel.trans hb4⟩
              rw [HT.out, ← HU.out, List.append_assoc]
              rfl
end Go.Proofs.Ythnkckflajkaiaa
