/- Texts of a proof, laid together. -/
import Derived.Test.YtnlclmlnpkncoaaGreatW08
import Derived.Test.YtnlclmlnpkncoaaGreatW07
namespace Go.Proofs.YtnlclmlnpkncoaaGreat
open Go.ChangeShapes Go.WideShapes Go.ChangeAt Go.RowKit
set_option linter.unusedVariables false
set_option linter.unusedSimpArgs false
set_option maxRecDepth 4000
theorem ad_form {S : Nat} {a b : Int} {i j : Nat} (ha : -1000000000000000000 ≤ a ∧ a ≤ 1000000000000000000) (hb : -1000000000000000000 ≤ b ∧ b ≤ 1000000000000000000) :
    adX S a i b j = if 2000000000000000000 < (a * ((scN S (max i j - i) : Nat) : Int)).natAbs ∨ 2000000000000000000 < (b * ((scN S (max i j - j) : Nat) : Int)).natAbs then none
      else rdX S (a * ((scN S (max i j - i) : Nat) : Int) + b * ((scN S (max i j - j) : Nat) : Int)) (max i j) := by
  unfold adX
  by_cases c : i ≤ j
  · have e1 : max i j = j := by omega
    rw [if_pos c, e1, Nat.sub_self, scN_zero]
    have h2 : (b * ((1 : Nat) : Int)) = b := by rw [Int.natCast_one, Int.mul_one]
    rw [h2]
    by_cases q : 2000000000000000000 < (a * ((scN S (j - i) : Nat) : Int)).natAbs
    · rw [if_pos q, if_pos (.inl q)]
    · rw [if_neg q, if_neg (by intro z; rcases z with z | z; exact q z; omega)]
  · have e1 : max i j = i := by omega
    rw [if_neg c, e1, Nat.sub_self, scN_zero]
    have h2 : (a * ((1 : Nat) : Int)) = a := by rw [Int.natCast_one, Int.mul_one]
    rw [h2]
    by_cases q : 2000000000000000000 < (b * ((scN S (i - j) : Nat) : Int)).natAbs
    · rw [if_pos q, if_pos (.inr q)]
    · rw [if_neg q, if_neg (by intro z; rcases z with z | z; omega; exact q z), Int.add_comm]
theorem two_lim {a C : Int} (hC : 1 ≤ C) (hC2 : C ≤ 1000000000000000) (ha : -1000000000000000000 ≤ a ∧ a ≤ 1000000000000000000) : ∃ Q, (2000000000000000000 : Int) / C = Q ∧ (2000000000000000000 : Int).tdiv C = Q ∧ IntKind.i64.wrap Q = Q ∧ (Q < max a (-a) ↔ 2000000000000000000 < (a * C).natAbs) := by
  have h0 : (0 : Int) ≤ 2000000000000000000 / C := Int.ediv_nonneg (by omega) (by omega)
  have h1 : (2000000000000000000 : Int) / C ≤ 2000000000000000000 := Int.ediv_le_self _ (by omega)
  refine ⟨_, rfl, Int.tdiv_eq_ediv_of_nonneg (by omega), IntWalk.i64_in _ (by omega), ?_⟩
  obtain ⟨k, rfl⟩ := Int.eq_ofNat_of_zero_le (show 0 ≤ C by omega)
  have e : (2000000000000000000 : Int) / (k : Int) = ((2000000000000000000 / k : Nat) : Int) := by rw [Int.natCast_ediv]; rfl
  have e2 : max a (-a) = ((a.natAbs : Nat) : Int) := by omega
  rw [e, e2, Int.natAbs_mul, Int.natAbs_natCast, Int.ofNat_lt, Nat.div_lt_iff_lt_mul (by omega)]
set_option maxRecDepth 8000 in
set_option maxHeartbeats 800000 in
theorem l09Add_any (p c h : Int) (S : Nat) (hS : 1 ≤ S ∧ S ≤ 6) (xn xd yn yd : Int) (hx : -1000000000000000000 ≤ xn ∧ xn ≤ 1000000000000000000) (hy : -1000000000000000000 ≤ yn ∧ yn ≤ 1000000000000000000) (hi : 0 ≤ xd ∧ xd < ((nn S : Nat) : Int)) (hj : 0 ≤ yd ∧ yd < ((nn S : Nat) : Int)) (w : World) :
    Calls Tryz.prog 78 #[.agg #[.int .i64 p, .int .i64 c, .int .i64 h, .int .i64 (S : Int)], .agg #[.int .i64 xn, .int .i64 xd], .agg #[.int .i64 yn, .int .i64 yd]] w fun e w' => e = .returned (.tuple #[.agg #[.int .i64 (xoN (adX S xn xd.toNat yn yd.toNat)), .int .i64 (xoD (adX S xn xd.toNat yn yd.toNat))], .bool (adX S xn xd.toNat yn yd.toNat).isSome]) ∧ Below w.heap.size w w' := by
  have hn := nn_range hS
  obtain ⟨R, hR⟩ : ∃ R, adX S xn xd.toNat yn yd.toNat = R := ⟨_, rfl⟩
  rw [hR]
  rw [ad_form hx hy] at hR
  obtain ⟨DP, hDP, hDe⟩ : ∃ D, max xd yd = D ∧ D = ((max xd.toNat yd.toNat : Nat) : Int) := ⟨_, rfl, by omega⟩
  obtain ⟨d, hd⟩ : ∃ d, max xd.toNat yd.toNat = d := ⟨_, rfl⟩
  rw [hd] at hR hDe
  have hdn : d < nn S := by omega
  have key : ∀ (m : Nat) (z : Int), m < nn S → z = (m : Int) → ∃ C : Int, ((scN S m : Nat) : Int) = C ∧ 1 ≤ C ∧ C ≤ 1000000000000000 ∧ ∀ W, Calls Tryz.prog 75 #[.agg #[.int .i64 p, .int .i64 c, .int .i64 h, .int .i64 (S : Int)], .int .i64 z] W fun e w' => e = .returned (.tuple #[.int .i64 C, .bool true]) ∧ Below W.heap.size W w' := by
    intro m z hm hz
    have h1 := scN_in hS hm
    have h2 := scN_pos hS.1 m
    have hsb : slB S z = true := by unfold slB; rw [decide_eq_true (.inr (by omega))]
    refine ⟨_, rfl, by omega, by omega, fun W => ?_⟩
    have h3 := l09Scale_any p c h S hS z (by omega) W
    rw [hsb, slV_is (k := m) hsb (.inl (by omega))] at h3
    exact h3
  obtain ⟨C0, hC0, C01, C02, hs0⟩ := key d DP hdn hDe
  obtain ⟨C1, hC1, C11, C12, hs1⟩ := key (d - xd.toNat) (DP - xd) (by omega) (by omega)
  obtain ⟨C2, hC2, C21, C22, hs2⟩ := key (d - yd.toNat) (DP - yd) (by omega) (by omega)
  rw [hC1, hC2] at hR
  obtain ⟨Q1, q11, q12, q13, q14⟩ := two_lim C11 C12 hx
  obtain ⟨Q2, q21, q22, q23, q24⟩ := two_lim C21 C22 hy
  have wx : IntKind.i64.wrap (-xn) = -xn := IntWalk.i64_in _ (by omega)
  have wy : IntKind.i64.wrap (-yn) = -yn := IntWalk.i64_in _ (by omega)
  obtain ⟨MX, hMX⟩ : ∃ x, max xn (-xn) = x := ⟨_, rfl⟩
  obtain ⟨MY, hMY⟩ : ∃ x, max yn (-yn) = x := ⟨_, rfl⟩
  rw [hMX] at q14
  rw [hMY] at q24
  have n1 : C1 ≠ 0 := by omega
  have n2 : C2 ≠ 0 := by omega
  have HS0 := Lib.hid hs0
  have HS1 := Lib.hid hs1
  have HS2 := Lib.hid hs2
  have HC0 := Lib.hid hC0
  have HDe := Lib.hid hDe
  have d0 : 0 ≤ DP ∧ DP ≤ 60 := by omega
  obtain ⟨i0, i1⟩ := hi
  obtain ⟨j0, j1⟩ := hj
  obtain ⟨d1, d2⟩ := d0
  have dx : 0 ≤ DP - xd := by omega
  have dy : 0 ≤ DP - yd := by omega
  have i2 : xd ≤ 60 := by omega
  have j2 : yd ≤ 60 := by omega
  clear key hs0 hs1 hs2 hC0 hC1 hC2 hDe hd i1 j1
  obtain ⟨BV, BX, BY, BO, hb, hz⟩ := fourNew w #[.int .i64 p, .int .i64 c, .int .i64 h, .int .i64 (S : Int)] #[.int .i64 xn, .int .i64 xd] #[.int .i64 yn, .int .i64 yd] #[.int .i64 0, .int .i64 0] 25 35 35 35
  by_cases c1 : Q1 < MX
  · rw [if_pos (.inl (q14.1 c1))] at hR
    subst hR
    dsimp only [xoN, xoD, Option.isSome]
    have f1 : decide (Q1 < MX) = true := decide_eq_true c1
    clear q14 q24 c1 hx hy
    obtain ⟨x0, x1, x2, x3, xf, xl⟩ := BV.four
    obtain ⟨a0, a1, af, al⟩ := BX.two
    obtain ⟨b0, b1, bf, bl⟩ := BY.two
    obtain ⟨z0, z1, zf, zl⟩ := BO.two
    go_enter Tryz.func78, Tryz.ntmps78
    go_wp2_with (go_at_call 75; (first | (refine (HS0.out _).mono ?_; clear HS0) | (refine (HS1.out _).mono ?_; clear HS1) | (refine (HS2.out _).mono ?_; clear HS2)); rintro e w1 ⟨rfl, hb1⟩; replace BV := BV.below hb1; replace BX := BX.below hb1; replace BY := BY.below hb1; replace BO := BO.below hb1; replace hb := chain hb hb1; clear hb1; obtain ⟨x0, x1, x2, x3, xf, xl⟩ := BV.four; obtain ⟨a0, a1, af, al⟩ := BX.two; obtain ⟨b0, b1, bf, bl⟩ := BY.two; obtain ⟨z0, z1, zf, zl⟩ := BO.two)
    clear x0 x1 x2 x3 xf xl a0 a1 af al b0 b1 bf bl z0 z1 zf zl
    have hd_ : w1.drew.heap.size = w1.heap.size := rfl
    replace BV := BV.drew
    replace BX := BX.drew
    replace BY := BY.drew
    replace BO := BO.drew
    replace hb := hb.drew
    refine wp_region_held_drew (S := fun w' => w'.cell? ⟨w.heap.size, 0, none⟩ = some (.int .i64 p) ∧ w'.cell? ⟨w.heap.size, 1, none⟩ = some (.int .i64 c) ∧ w'.cell? ⟨w.heap.size, 2, none⟩ = some (.int .i64 h) ∧ w'.cell? ⟨w.heap.size, 3, none⟩ = some (.int .i64 (S : Int)) ∧ w'.cell? ⟨(w.heap.size + 1), 0, none⟩ = some (.int .i64 xn) ∧ w'.cell? ⟨(w.heap.size + 1), 1, none⟩ = some (.int .i64 xd) ∧ w'.cell? ⟨(w.heap.size + 1 + 1), 0, none⟩ = some (.int .i64 yn) ∧ w'.cell? ⟨(w.heap.size + 1 + 1), 1, none⟩ = some (.int .i64 yd)) (by kernel_rfl) ⟨BV.four.1, BV.four.2.1, BV.four.2.2.1, BV.four.2.2.2.1, BX.two.1, BX.two.2.1, BY.two.1, BY.two.2.1⟩ (fun hHeld => ?_)
    clear hHeld
    generalize w1.drew = vd at *
    have hHeld : vd.cell? ⟨w.heap.size, 0, none⟩ = some (.int .i64 p) ∧ vd.cell? ⟨w.heap.size, 1, none⟩ = some (.int .i64 c) ∧ vd.cell? ⟨w.heap.size, 2, none⟩ = some (.int .i64 h) ∧ vd.cell? ⟨w.heap.size, 3, none⟩ = some (.int .i64 (S : Int)) ∧ vd.cell? ⟨(w.heap.size + 1), 0, none⟩ = some (.int .i64 xn) ∧ vd.cell? ⟨(w.heap.size + 1), 1, none⟩ = some (.int .i64 xd) ∧ vd.cell? ⟨(w.heap.size + 1 + 1), 0, none⟩ = some (.int .i64 yn) ∧ vd.cell? ⟨(w.heap.size + 1 + 1), 1, none⟩ = some (.int .i64 yd) := ⟨BV.four.1, BV.four.2.1, BV.four.2.2.1, BV.four.2.2.2.1, BX.two.1, BX.two.2.1, BY.two.1, BY.two.2.1⟩
    refine tk 0 46 ?_
    refine tk 1 47 ?_
    refine tk 2 48 ?_
    refine tk 3 49 ?_
    refine tk 4 50 ?_
    refine tk 5 51 ?_
    refine tk 6 52 ?_
    refine tk 7 53 ?_
    refine tk 8 54 ?_
    refine tk 9 55 ?_
    refine tkv 10 56 ?_
    refine tkv 11 57 ?_
    refine tkv 12 58 ?_
    refine tkv 13 59 ?_
    refine tkv 14 60 ?_
    refine tkv 15 61 ?_
    refine tkv 16 62 ?_
    refine tkv 17 63 ?_
    refine tkv 18 64 ?_
    refine tk 19 65 ?_
    refine wpAnyH_done (by kernel_rfl) ?_ _
    clear hHeld
    obtain ⟨x0, x1, x2, x3, xf, xl⟩ := BV.four
    obtain ⟨a0, a1, af, al⟩ := BX.two
    obtain ⟨b0, b1, bf, bl⟩ := BY.two
    obtain ⟨z0, z1, zf, zl⟩ := BO.two
    go_wp2_with fail
    have BRn := BO.set2 (.int .i64 0) (.int .i64 0)
    obtain ⟨u0, u1, uf, ul⟩ := BRn.two
    refine bodyPost_ret (v := .tuple #[.agg #[.int .i64 0, .int .i64 0], .bool false]) (by simp [results, Tryz.results78, go_sem, u0, u1]) rfl ?_
    exact ⟨rfl, belowFar2 hb (by omega) _ _⟩
  · have f1 : decide (Q1 < MX) = false := decide_eq_false c1
    by_cases c2 : Q2 < MY
    · rw [if_pos (.inr (q24.1 c2))] at hR
      subst hR
      dsimp only [xoN, xoD, Option.isSome]
      have f2 : decide (Q2 < MY) = true := decide_eq_true c2
      clear q14 q24 c1 c2 hx hy
      obtain ⟨x0, x1, x2, x3, xf, xl⟩ := BV.four
      obtain ⟨a0, a1, af, al⟩ := BX.two
      obtain ⟨b0, b1, bf, bl⟩ := BY.two
      obtain ⟨z0, z1, zf, zl⟩ := BO.two
      go_enter Tryz.func78, Tryz.ntmps78
      go_wp2_with (go_at_call 75; (first | (refine (HS0.out _).mono ?_; clear HS0) | (refine (HS1.out _).mono ?_; clear HS1) | (refine (HS2.out _).mono ?_; clear HS2)); rintro e w1 ⟨rfl, hb1⟩; replace BV := BV.below hb1; replace BX := BX.below hb1; replace BY := BY.below hb1; replace BO := BO.below hb1; replace hb := chain hb hb1; clear hb1; obtain ⟨x0, x1, x2, x3, xf, xl⟩ := BV.four; obtain ⟨a0, a1, af, al⟩ := BX.two; obtain ⟨b0, b1, bf, bl⟩ := BY.two; obtain ⟨z0, z1, zf, zl⟩ := BO.two)
      clear x0 x1 x2 x3 xf xl a0 a1 af al b0 b1 bf bl z0 z1 zf zl
      have hd_ : w1.drew.heap.size = w1.heap.size := rfl
      replace BV := BV.drew
      replace BX := BX.drew
      replace BY := BY.drew
      replace BO := BO.drew
      replace hb := hb.drew
      refine wp_region_held_drew (S := fun w' => w'.cell? ⟨w.heap.size, 0, none⟩ = some (.int .i64 p) ∧ w'.cell? ⟨w.heap.size, 1, none⟩ = some (.int .i64 c) ∧ w'.cell? ⟨w.heap.size, 2, none⟩ = some (.int .i64 h) ∧ w'.cell? ⟨w.heap.size, 3, none⟩ = some (.int .i64 (S : Int)) ∧ w'.cell? ⟨(w.heap.size + 1), 0, none⟩ = some (.int .i64 xn) ∧ w'.cell? ⟨(w.heap.size + 1), 1, none⟩ = some (.int .i64 xd) ∧ w'.cell? ⟨(w.heap.size + 1 + 1), 0, none⟩ = some (.int .i64 yn) ∧ w'.cell? ⟨(w.heap.size + 1 + 1), 1, none⟩ = some (.int .i64 yd)) (by kernel_rfl) ⟨BV.four.1, BV.four.2.1, BV.four.2.2.1, BV.four.2.2.2.1, BX.two.1, BX.two.2.1, BY.two.1, BY.two.2.1⟩ (fun hHeld => ?_)
      clear hHeld
      generalize w1.drew = vd at *
      have hHeld : vd.cell? ⟨w.heap.size, 0, none⟩ = some (.int .i64 p) ∧ vd.cell? ⟨w.heap.size, 1, none⟩ = some (.int .i64 c) ∧ vd.cell? ⟨w.heap.size, 2, none⟩ = some (.int .i64 h) ∧ vd.cell? ⟨w.heap.size, 3, none⟩ = some (.int .i64 (S : Int)) ∧ vd.cell? ⟨(w.heap.size + 1), 0, none⟩ = some (.int .i64 xn) ∧ vd.cell? ⟨(w.heap.size + 1), 1, none⟩ = some (.int .i64 xd) ∧ vd.cell? ⟨(w.heap.size + 1 + 1), 0, none⟩ = some (.int .i64 yn) ∧ vd.cell? ⟨(w.heap.size + 1 + 1), 1, none⟩ = some (.int .i64 yd) := ⟨BV.four.1, BV.four.2.1, BV.four.2.2.1, BV.four.2.2.2.1, BX.two.1, BX.two.2.1, BY.two.1, BY.two.2.1⟩
      refine tk 0 46 ?_
      refine tk 1 47 ?_
      refine tk 2 48 ?_
      refine tk 3 49 ?_
      refine tk 4 50 ?_
      refine tk 5 51 ?_
      refine tk 6 52 ?_
      refine tk 7 53 ?_
      refine tk 8 54 ?_
      refine tk 9 55 ?_
      refine tk 10 56 ?_
      refine tk 11 57 ?_
      refine tk 12 58 ?_
      refine tk 13 59 ?_
      refine tk 14 60 ?_
      refine tk 15 61 ?_
      refine tk 16 62 ?_
      refine tk 17 63 ?_
      refine tk 18 64 ?_
      refine tk 19 65 ?_
      refine wpAnyH_done (by kernel_rfl) ?_ _
      clear hHeld
      obtain ⟨x0, x1, x2, x3, xf, xl⟩ := BV.four
      obtain ⟨a0, a1, af, al⟩ := BX.two
      obtain ⟨b0, b1, bf, bl⟩ := BY.two
      obtain ⟨z0, z1, zf, zl⟩ := BO.two
      go_wp2_with fail
      have BRn := BO.set2 (.int .i64 0) (.int .i64 0)
      obtain ⟨u0, u1, uf, ul⟩ := BRn.two
      refine bodyPost_ret (v := .tuple #[.agg #[.int .i64 0, .int .i64 0], .bool false]) (by simp [results, Tryz.results78, go_sem, u0, u1]) rfl ?_
      exact ⟨rfl, belowFar2 hb (by omega) _ _⟩
    · have f2 : decide (Q2 < MY) = false := decide_eq_false c2
      have k1 : ¬ 2000000000000000000 < (xn * C1).natAbs := fun q => c1 (q14.2 q)
      have k2 : ¬ 2000000000000000000 < (yn * C2).natAbs := fun q => c2 (q24.2 q)
      rw [if_neg (by intro z; rcases z with z | z; exact k1 z; exact k2 z)] at hR
      obtain ⟨P1, hP1⟩ : ∃ P, xn * C1 = P := ⟨_, rfl⟩
      obtain ⟨P2, hP2⟩ : ∃ P, yn * C2 = P := ⟨_, rfl⟩
      rw [hP1, hP2] at hR
      rw [hP1] at k1
      rw [hP2] at k2
      have w1_ : IntKind.i64.wrap (xn * C1) = P1 := by rw [hP1]; exact IntWalk.i64_in _ (by omega)
      have w2_ : IntKind.i64.wrap (yn * C2) = P2 := by rw [hP2]; exact IntWalk.i64_in _ (by omega)
      obtain ⟨K, hK⟩ : ∃ K, P1 + P2 = K := ⟨_, rfl⟩
      rw [hK] at hR
      have w3_ : IntKind.i64.wrap (P1 + P2) = K := by rw [hK]; exact IntWalk.i64_in _ (by omega)
      have hf := fun W => l09Fit_any p c h S hS K K C0 d hdn (by omega) (by omega) (by rw [HC0.out]) W
      rw [hR] at hf
      have HF := Lib.hid hf
      clear hf q14 q24 c1 c2 hx hy k1 k2 hP1 hP2 hR hK
      cases R with
      | none =>
        simp only [Option.isSome] at HF ⊢
        dsimp only [xoN, xoD]
        obtain ⟨x0, x1, x2, x3, xf, xl⟩ := BV.four
        obtain ⟨a0, a1, af, al⟩ := BX.two
        obtain ⟨b0, b1, bf, bl⟩ := BY.two
        obtain ⟨z0, z1, zf, zl⟩ := BO.two
        go_enter Tryz.func78, Tryz.ntmps78
        go_wp2_with (go_at_call 75; (first | (refine (HS0.out _).mono ?_; clear HS0) | (refine (HS1.out _).mono ?_; clear HS1) | (refine (HS2.out _).mono ?_; clear HS2)); rintro e w1 ⟨rfl, hb1⟩; replace BV := BV.below hb1; replace BX := BX.below hb1; replace BY := BY.below hb1; replace BO := BO.below hb1; replace hb := chain hb hb1; clear hb1; obtain ⟨x0, x1, x2, x3, xf, xl⟩ := BV.four; obtain ⟨a0, a1, af, al⟩ := BX.two; obtain ⟨b0, b1, bf, bl⟩ := BY.two; obtain ⟨z0, z1, zf, zl⟩ := BO.two)
        clear x0 x1 x2 x3 xf xl a0 a1 af al b0 b1 bf bl z0 z1 zf zl
        have hd_ : w1.drew.heap.size = w1.heap.size := rfl
        replace BV := BV.drew
        replace BX := BX.drew
        replace BY := BY.drew
        replace BO := BO.drew
        replace hb := hb.drew
        refine wp_region_held_drew (S := fun w' => w'.cell? ⟨w.heap.size, 0, none⟩ = some (.int .i64 p) ∧ w'.cell? ⟨w.heap.size, 1, none⟩ = some (.int .i64 c) ∧ w'.cell? ⟨w.heap.size, 2, none⟩ = some (.int .i64 h) ∧ w'.cell? ⟨w.heap.size, 3, none⟩ = some (.int .i64 (S : Int)) ∧ w'.cell? ⟨(w.heap.size + 1), 0, none⟩ = some (.int .i64 xn) ∧ w'.cell? ⟨(w.heap.size + 1), 1, none⟩ = some (.int .i64 xd) ∧ w'.cell? ⟨(w.heap.size + 1 + 1), 0, none⟩ = some (.int .i64 yn) ∧ w'.cell? ⟨(w.heap.size + 1 + 1), 1, none⟩ = some (.int .i64 yd)) (by kernel_rfl) ⟨BV.four.1, BV.four.2.1, BV.four.2.2.1, BV.four.2.2.2.1, BX.two.1, BX.two.2.1, BY.two.1, BY.two.2.1⟩ (fun hHeld => ?_)
        clear hHeld
        generalize w1.drew = vd at *
        have hHeld : vd.cell? ⟨w.heap.size, 0, none⟩ = some (.int .i64 p) ∧ vd.cell? ⟨w.heap.size, 1, none⟩ = some (.int .i64 c) ∧ vd.cell? ⟨w.heap.size, 2, none⟩ = some (.int .i64 h) ∧ vd.cell? ⟨w.heap.size, 3, none⟩ = some (.int .i64 (S : Int)) ∧ vd.cell? ⟨(w.heap.size + 1), 0, none⟩ = some (.int .i64 xn) ∧ vd.cell? ⟨(w.heap.size + 1), 1, none⟩ = some (.int .i64 xd) ∧ vd.cell? ⟨(w.heap.size + 1 + 1), 0, none⟩ = some (.int .i64 yn) ∧ vd.cell? ⟨(w.heap.size + 1 + 1), 1, none⟩ = some (.int .i64 yd) := ⟨BV.four.1, BV.four.2.1, BV.four.2.2.1, BV.four.2.2.2.1, BX.two.1, BX.two.2.1, BY.two.1, BY.two.2.1⟩
        refine tk 0 46 ?_
        refine tk 1 47 ?_
        refine tk 2 48 ?_
        refine tk 3 49 ?_
        refine tk 4 50 ?_
        refine tk 5 51 ?_
        refine tk 6 52 ?_
        refine tk 7 53 ?_
        refine tk 8 54 ?_
        refine tk 9 55 ?_
        refine tk 10 56 ?_
        refine tk 11 57 ?_
        refine tk 12 58 ?_
        refine tk 13 59 ?_
        refine tk 14 60 ?_
        refine tk 15 61 ?_
        refine tk 16 62 ?_
        refine tk 17 63 ?_
        refine tk 18 64 ?_
        refine tk 19 65 ?_
        refine wpAnyH_done (by kernel_rfl) ?_ _
        clear hHeld
        obtain ⟨x0, x1, x2, x3, xf, xl⟩ := BV.four
        obtain ⟨a0, a1, af, al⟩ := BX.two
        obtain ⟨b0, b1, bf, bl⟩ := BY.two
        obtain ⟨z0, z1, zf, zl⟩ := BO.two
        go_wp2_with (go_at_call 109; refine (HF.out _).mono ?_; clear HF; rintro e w5 ⟨u, v, rfl, huv, hb5⟩; replace BO := (BO.below hb5).alloc (.cells #[.int .i64 u, .int .i64 v] 35); replace hb := chain_alloc (chain hb hb5) (.cells #[.int .i64 u, .int .i64 v] 35); obtain ⟨z0, z1, zf, zl⟩ := BO.two)
        have BRn := BO.set2 (.int .i64 0) (.int .i64 0)
        obtain ⟨u0, u1, uf, ul⟩ := BRn.two
        refine bodyPost_ret (v := .tuple #[.agg #[.int .i64 0, .int .i64 0], .bool false]) (by simp [results, Tryz.results78, go_sem, u0, u1]) rfl ?_
        exact ⟨rfl, belowFar2 hb (by omega) _ _⟩
      | some r =>
        obtain ⟨ru, rv⟩ := r
        simp only [Option.isSome] at HF ⊢
        dsimp only [xoN, xoD]
        obtain ⟨x0, x1, x2, x3, xf, xl⟩ := BV.four
        obtain ⟨a0, a1, af, al⟩ := BX.two
        obtain ⟨b0, b1, bf, bl⟩ := BY.two
        obtain ⟨z0, z1, zf, zl⟩ := BO.two
        go_enter Tryz.func78, Tryz.ntmps78
        go_wp2_with (go_at_call 75; (first | (refine (HS0.out _).mono ?_; clear HS0) | (refine (HS1.out _).mono ?_; clear HS1) | (refine (HS2.out _).mono ?_; clear HS2)); rintro e w1 ⟨rfl, hb1⟩; replace BV := BV.below hb1; replace BX := BX.below hb1; replace BY := BY.below hb1; replace BO := BO.below hb1; replace hb := chain hb hb1; clear hb1; obtain ⟨x0, x1, x2, x3, xf, xl⟩ := BV.four; obtain ⟨a0, a1, af, al⟩ := BX.two; obtain ⟨b0, b1, bf, bl⟩ := BY.two; obtain ⟨z0, z1, zf, zl⟩ := BO.two)
        clear x0 x1 x2 x3 xf xl a0 a1 af al b0 b1 bf bl z0 z1 zf zl
        have hd_ : w1.drew.heap.size = w1.heap.size := rfl
        replace BV := BV.drew
        replace BX := BX.drew
        replace BY := BY.drew
        replace BO := BO.drew
        replace hb := hb.drew
        refine wp_region_held_drew (S := fun w' => w'.cell? ⟨w.heap.size, 0, none⟩ = some (.int .i64 p) ∧ w'.cell? ⟨w.heap.size, 1, none⟩ = some (.int .i64 c) ∧ w'.cell? ⟨w.heap.size, 2, none⟩ = some (.int .i64 h) ∧ w'.cell? ⟨w.heap.size, 3, none⟩ = some (.int .i64 (S : Int)) ∧ w'.cell? ⟨(w.heap.size + 1), 0, none⟩ = some (.int .i64 xn) ∧ w'.cell? ⟨(w.heap.size + 1), 1, none⟩ = some (.int .i64 xd) ∧ w'.cell? ⟨(w.heap.size + 1 + 1), 0, none⟩ = some (.int .i64 yn) ∧ w'.cell? ⟨(w.heap.size + 1 + 1), 1, none⟩ = some (.int .i64 yd)) (by kernel_rfl) ⟨BV.four.1, BV.four.2.1, BV.four.2.2.1, BV.four.2.2.2.1, BX.two.1, BX.two.2.1, BY.two.1, BY.two.2.1⟩ (fun hHeld => ?_)
        clear hHeld
        generalize w1.drew = vd at *
        have hHeld : vd.cell? ⟨w.heap.size, 0, none⟩ = some (.int .i64 p) ∧ vd.cell? ⟨w.heap.size, 1, none⟩ = some (.int .i64 c) ∧ vd.cell? ⟨w.heap.size, 2, none⟩ = some (.int .i64 h) ∧ vd.cell? ⟨w.heap.size, 3, none⟩ = some (.int .i64 (S : Int)) ∧ vd.cell? ⟨(w.heap.size + 1), 0, none⟩ = some (.int .i64 xn) ∧ vd.cell? ⟨(w.heap.size + 1), 1, none⟩ = some (.int .i64 xd) ∧ vd.cell? ⟨(w.heap.size + 1 + 1), 0, none⟩ = some (.int .i64 yn) ∧ vd.cell? ⟨(w.heap.size + 1 + 1), 1, none⟩ = some (.int .i64 yd) := ⟨BV.four.1, BV.four.2.1, BV.four.2.2.1, BV.four.2.2.2.1, BX.two.1, BX.two.2.1, BY.two.1, BY.two.2.1⟩
        refine tk 0 46 ?_
        refine tk 1 47 ?_
        refine tk 2 48 ?_
        refine tk 3 49 ?_
        refine tk 4 50 ?_
        refine tk 5 51 ?_
        refine tk 6 52 ?_
        refine tk 7 53 ?_
        refine tk 8 54 ?_
        refine tk 9 55 ?_
        refine tk 10 56 ?_
        refine tk 11 57 ?_
        refine tk 12 58 ?_
        refine tk 13 59 ?_
        refine tk 14 60 ?_
        refine tk 15 61 ?_
        refine tk 16 62 ?_
        refine tk 17 63 ?_
        refine tk 18 64 ?_
        refine tk 19 65 ?_
        refine wpAnyH_done (by kernel_rfl) ?_ _
        clear hHeld
        obtain ⟨x0, x1, x2, x3, xf, xl⟩ := BV.four
        obtain ⟨a0, a1, af, al⟩ := BX.two
        obtain ⟨b0, b1, bf, bl⟩ := BY.two
        obtain ⟨z0, z1, zf, zl⟩ := BO.two
        go_wp2_with (go_at_call 109; refine (HF.out _).mono ?_; clear HF; rintro e w5 ⟨u, v, rfl, huv, hb5⟩; have huv2 : u = ru ∧ v = rv := huv _ rfl; obtain ⟨e1, e2⟩ := huv2; subst e1; subst e2; clear huv; replace BO := (BO.below hb5).alloc (.cells #[.int .i64 u, .int .i64 v] 35); replace hb := chain_alloc (chain hb hb5) (.cells #[.int .i64 u, .int .i64 v] 35); obtain ⟨z0, z1, zf, zl⟩ := BO.two)
        have BRn := BO.set2 (.int .i64 u) (.int .i64 v)
        obtain ⟨u0, u1, uf, ul⟩ := BRn.two
        refine bodyPost_ret (v := .tuple #[.agg #[.int .i64 u, .int .i64 v], .bool true]) (by simp [results, Tryz.results78, go_sem, u0, u1]) rfl ?_
        exact ⟨rfl, belowFar2 hb (by omega) _ _⟩
end Go.Proofs.YtnlclmlnpkncoaaGreat
