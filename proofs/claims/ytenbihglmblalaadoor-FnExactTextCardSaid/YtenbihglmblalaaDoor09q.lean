/- Contracts of the model's code and of its sums. -/
import Derived.Test.YtenbihglmblalaaDoor09p
import Derived.Test.YtenbihglmblalaaDoorOwn4
namespace Go.Proofs.YtenbihglmblalaaDoor
open Go.ChangeShapes Go.WideShapes Go.ChangeAt Go.RowKit
set_option linter.unusedVariables false
set_option linter.unusedSimpArgs false
set_option maxRecDepth 4000

theorem sfC_same (p c h s : Int) (r : Rl) : sfC p c h s [r, r] = sfC p c h s [r] := by
  unfold sfC
  simp only [List.all_cons, List.all_nil, Bool.and_true, Bool.and_self]
theorem sfC_no {p c h s : Int} {L : List Rl} (g : vB p c h s = false) : sfC p c h s L = 1 := by unfold sfC; rw [g]; rfl
theorem sfC_two {p c h : Int} {S : Nat} (g : vB p c h (S : Int) = true) (xn xd yn yd : Int) : sfC p c h (S : Int) [(xn, xd), (yn, yd)] = if (xvB S xn xd && xvB S yn yd) = true then 0 else 2 := by
  unfold sfC
  rw [if_pos g, Int.toNat_natCast]
  simp only [List.all_cons, List.all_nil, Bool.and_true]
set_option maxRecDepth 8000 in
set_option maxHeartbeats 2000000 in
theorem l09Code_any (p c h s xn xd yn yd : Int) (hxd : -9223372036854775808 ≤ xd ∧ xd ≤ 9223372036854775807) (hyd : -9223372036854775808 ≤ yd ∧ yd ≤ 9223372036854775807) (w : World) :
    Calls Tryd.prog 25 #[.agg #[.int .i64 p, .int .i64 c, .int .i64 h, .int .i64 s], .agg #[.int .i64 xn, .int .i64 xd], .agg #[.int .i64 yn, .int .i64 yd]] w fun e w' => e = .returned (.int .i64 (sfC p c h s [(xn, xd), (yn, yd)])) ∧ Below w.heap.size w w' := by
  have hv := fun W => specIsVariant_any p c h s W
  cases g : vB p c h s with
  | false =>
    rw [g] at hv
    rw [sfC_no g]
    obtain ⟨BV, BX, BY, hb, hz⟩ := three_new w #[.int .i64 p, .int .i64 c, .int .i64 h, .int .i64 s] #[.int .i64 xn, .int .i64 xd] #[.int .i64 yn, .int .i64 yd] 25 27 27
    have HV := Lib.hid hv
    clear hv g
    obtain ⟨x0, x1, x2, x3, xf, xl⟩ := BV.four
    obtain ⟨a0, a1, af, al⟩ := BX.two
    obtain ⟨b0, b1, bf, bl⟩ := BY.two
    go_enter Tryd.func25, Tryd.ntmps25
    go_wp2_with (first | (go_at_call 17; refine (HV.out _).mono ?_; clear HV; rintro e w1 ⟨rfl, hb1⟩; replace BV := BV.below hb1; replace BX := BX.below hb1; replace BY := BY.below hb1; replace hb := chain hb hb1; clear hb1; obtain ⟨x0, x1, x2, x3, xf, xl⟩ := BV.four; obtain ⟨a0, a1, af, al⟩ := BX.two; obtain ⟨b0, b1, bf, bl⟩ := BY.two))
    go_ret
    exact ⟨rfl, hb⟩
  | true =>
    rw [g] at hv
    obtain ⟨S, rfl, hS⟩ := vB_side g
    rw [sfC_two g]
    obtain ⟨BV, BX, BY, hb, hz⟩ := three_new w #[.int .i64 p, .int .i64 c, .int .i64 h, .int .i64 (S : Int)] #[.int .i64 xn, .int .i64 xd] #[.int .i64 yn, .int .i64 yd] 25 27 27
    have HV := Lib.hid hv
    have hx := fun W => l09Valid_any p c h S hS xn xd hxd.2 W
    have hy := fun W => l09Valid_any p c h S hS yn yd hyd.2 W
    clear hv g
    cases gx : xvB S xn xd with
    | false =>
      rw [gx] at hx
      rw [Bool.false_and, if_neg (by simp)]
      have HX := Lib.hid hx
      clear hx hy gx
      obtain ⟨x0, x1, x2, x3, xf, xl⟩ := BV.four
      obtain ⟨a0, a1, af, al⟩ := BX.two
      obtain ⟨b0, b1, bf, bl⟩ := BY.two
      go_enter Tryd.func25, Tryd.ntmps25
      go_wp2_with (first | (go_at_call 17; refine (HV.out _).mono ?_; clear HV; rintro e w1 ⟨rfl, hb1⟩; replace BV := BV.below hb1; replace BX := BX.below hb1; replace BY := BY.below hb1; replace hb := chain hb hb1; clear hb1; obtain ⟨x0, x1, x2, x3, xf, xl⟩ := BV.four; obtain ⟨a0, a1, af, al⟩ := BX.two; obtain ⟨b0, b1, bf, bl⟩ := BY.two) | (go_at_call 18; first | (refine (HX.out _).mono ?_; clear HX; rintro e w2 ⟨rfl, hb2⟩; replace BV := BV.below hb2; replace BX := BX.below hb2; replace BY := BY.below hb2; replace hb := chain hb hb2; clear hb2; obtain ⟨x0, x1, x2, x3, xf, xl⟩ := BV.four; obtain ⟨a0, a1, af, al⟩ := BX.two; obtain ⟨b0, b1, bf, bl⟩ := BY.two) | (refine (HY.out _).mono ?_; clear HY; rintro e w3 ⟨rfl, hb3⟩; replace BV := BV.below hb3; replace BX := BX.below hb3; replace BY := BY.below hb3; replace hb := chain hb hb3; clear hb3; obtain ⟨x0, x1, x2, x3, xf, xl⟩ := BV.four; obtain ⟨a0, a1, af, al⟩ := BX.two; obtain ⟨b0, b1, bf, bl⟩ := BY.two)))
      go_ret
      exact ⟨rfl, hb⟩
    | true =>
      rw [gx] at hx
      rw [Bool.true_and]
      have HX := Lib.hid hx
      cases gy : xvB S yn yd with
      | false =>
        rw [gy] at hy
        rw [if_neg (by simp)]
        have HY := Lib.hid hy
        clear hx hy gx gy
        obtain ⟨x0, x1, x2, x3, xf, xl⟩ := BV.four
        obtain ⟨a0, a1, af, al⟩ := BX.two
        obtain ⟨b0, b1, bf, bl⟩ := BY.two
        go_enter Tryd.func25, Tryd.ntmps25
        go_wp2_with (first | (go_at_call 17; refine (HV.out _).mono ?_; clear HV; rintro e w1 ⟨rfl, hb1⟩; replace BV := BV.below hb1; replace BX := BX.below hb1; replace BY := BY.below hb1; replace hb := chain hb hb1; clear hb1; obtain ⟨x0, x1, x2, x3, xf, xl⟩ := BV.four; obtain ⟨a0, a1, af, al⟩ := BX.two; obtain ⟨b0, b1, bf, bl⟩ := BY.two) | (go_at_call 18; first | (refine (HX.out _).mono ?_; clear HX; rintro e w2 ⟨rfl, hb2⟩; replace BV := BV.below hb2; replace BX := BX.below hb2; replace BY := BY.below hb2; replace hb := chain hb hb2; clear hb2; obtain ⟨x0, x1, x2, x3, xf, xl⟩ := BV.four; obtain ⟨a0, a1, af, al⟩ := BX.two; obtain ⟨b0, b1, bf, bl⟩ := BY.two) | (refine (HY.out _).mono ?_; clear HY; rintro e w3 ⟨rfl, hb3⟩; replace BV := BV.below hb3; replace BX := BX.below hb3; replace BY := BY.below hb3; replace hb := chain hb hb3; clear hb3; obtain ⟨x0, x1, x2, x3, xf, xl⟩ := BV.four; obtain ⟨a0, a1, af, al⟩ := BX.two; obtain ⟨b0, b1, bf, bl⟩ := BY.two)))
        go_ret
        exact ⟨rfl, hb⟩
      | true =>
        rw [gy] at hy
        rw [if_pos rfl]
        have HY := Lib.hid hy
        clear hx hy gx gy
        obtain ⟨x0, x1, x2, x3, xf, xl⟩ := BV.four
        obtain ⟨a0, a1, af, al⟩ := BX.two
        obtain ⟨b0, b1, bf, bl⟩ := BY.two
        go_enter Tryd.func25, Tryd.ntmps25
        go_wp2_with (first | (go_at_call 17; refine (HV.out _).mono ?_; clear HV; rintro e w1 ⟨rfl, hb1⟩; replace BV := BV.below hb1; replace BX := BX.below hb1; replace BY := BY.below hb1; replace hb := chain hb hb1; clear hb1; obtain ⟨x0, x1, x2, x3, xf, xl⟩ := BV.four; obtain ⟨a0, a1, af, al⟩ := BX.two; obtain ⟨b0, b1, bf, bl⟩ := BY.two) | (go_at_call 18; first | (refine (HX.out _).mono ?_; clear HX; rintro e w2 ⟨rfl, hb2⟩; replace BV := BV.below hb2; replace BX := BX.below hb2; replace BY := BY.below hb2; replace hb := chain hb hb2; clear hb2; obtain ⟨x0, x1, x2, x3, xf, xl⟩ := BV.four; obtain ⟨a0, a1, af, al⟩ := BX.two; obtain ⟨b0, b1, bf, bl⟩ := BY.two) | (refine (HY.out _).mono ?_; clear HY; rintro e w3 ⟨rfl, hb3⟩; replace BV := BV.below hb3; replace BX := BX.below hb3; replace BY := BY.below hb3; replace hb := chain hb hb3; clear hb3; obtain ⟨x0, x1, x2, x3, xf, xl⟩ := BV.four; obtain ⟨a0, a1, af, al⟩ := BX.two; obtain ⟨b0, b1, bf, bl⟩ := BY.two)))
        go_ret
        exact ⟨rfl, hb⟩
theorem ad_form {S : Nat} {a b : Int} {i j : Nat} (ha : -1000000000000000000 ≤ a ∧ a ≤ 1000000000000000000) (hb : -1000000000000000000 ≤ b ∧ b ≤ 1000000000000000000) :
    adX S a i b j = if 2000000000000000000 < (a * ((scN S (max i j - i) : Nat) : Int)).natAbs ∨ 2000000000000000000 < (b * ((scN S (max i j - j) : Nat) : Int)).natAbs then none
      else rdX S (a * ((scN S (max i j - i) : Nat) : Int) + b * ((scN S (max i j - j) : Nat) : Int)) (max i j) := by
  unfold adX
  by_cases c : i ≤ j
  · have e1 : max i j = j := by omega
    rw [if_pos c, e1, Nat.sub_self, scN_zero]
    have h2 : (b * ((1 : Nat) : Int)) = b := by rw [Int.natCast_one, Int.mul_one]
    rw [h2]
    by_cases q : 2000000000000000000 < (a * ((scN S (j - i) : Nat) : Int)).natAbs
    · rw [if_pos q, if_pos (.inl q)]
    · rw [if_neg q, if_neg (by intro z; rcases z with z | z; exact q z; omega)]
  · have e1 : max i j = i := by omega
    rw [if_neg c, e1, Nat.sub_self, scN_zero]
    have h2 : (a * ((1 : Nat) : Int)) = a := by rw [Int.natCast_one, Int.mul_one]
    rw [h2]
    by_cases q : 2000000000000000000 < (b * ((scN S (i - j) : Nat) : Int)).natAbs
    · rw [if_pos q, if_pos (.inr q)]
    · rw [if_neg q, if_neg (by intro z; rcases z with z | z; omega; exact q z), Int.add_comm]
/-- A quotient of twice the limit. -/
theorem two_lim {a C : Int} (hC : 1 ≤ C) (hC2 : C ≤ 1000000000000000) (ha : -1000000000000000000 ≤ a ∧ a ≤ 1000000000000000000) : ∃ Q, (2000000000000000000 : Int) / C = Q ∧ (2000000000000000000 : Int).tdiv C = Q ∧ IntKind.i64.wrap Q = Q ∧ (Q < max a (-a) ↔ 2000000000000000000 < (a * C).natAbs) := by
  have h0 : (0 : Int) ≤ 2000000000000000000 / C := Int.ediv_nonneg (by omega) (by omega)
  have h1 : (2000000000000000000 : Int) / C ≤ 2000000000000000000 := Int.ediv_le_self _ (by omega)
  refine ⟨_, rfl, Int.tdiv_eq_ediv_of_nonneg (by omega), IntWalk.i64_in _ (by omega), ?_⟩
  obtain ⟨k, rfl⟩ := Int.eq_ofNat_of_zero_le (show 0 ≤ C by omega)
  have e : (2000000000000000000 : Int) / (k : Int) = ((2000000000000000000 / k : Nat) : Int) := by rw [Int.natCast_ediv]; rfl
  have e2 : max a (-a) = ((a.natAbs : Nat) : Int) := by omega
  rw [e, e2, Int.natAbs_mul, Int.natAbs_natCast, Int.ofNat_lt, Nat.div_lt_iff_lt_mul (by omega)]
end Go.Proofs.YtenbihglmblalaaDoor
