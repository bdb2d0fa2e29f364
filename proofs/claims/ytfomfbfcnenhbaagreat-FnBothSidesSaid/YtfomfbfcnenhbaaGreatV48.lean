/- Texts of a proof, laid together. -/
import Derived.Test.YtfomfbfcnenhbaaGreatV45
namespace Go.Proofs.YtfomfbfcnenhbaaGreat
open Go.ChangeShapes Go.WideShapes Go.ChangeAt Go.RowKit
set_option linter.unusedVariables false
theorem below_of_grown {B g : Nat} {w w' : World} (h : w.grownBy w' (some g)) (hB : B ≤ w.heap.size) (hg : B ≤ g) : Below B w w' :=
  (Below.refl B w).grown h hB (fun k hk => by cases hk; exact hg)
theorem grown_drewN {w w1 : World} {r : Option Nat} (h : w.grownBy w1 r) (n : Nat) : w.grownBy (w1.drewN n) r := by
  induction n with
  | zero => exact h
  | succ n ih => exact grown_drew ih
theorem grown_alloc {w w1 : World} {r : Option Nat} (h : w.grownBy w1 r) (o : Obj) : w.grownBy (w1.alloc o) r := grown_trans h (World.grownBy_alloc w1 o r)
theorem chain_grown {w w1 w2 : World} {g : Nat} (h : Below w.heap.size w w1) (k : w1.grownBy w2 (some g)) (hg : w.heap.size ≤ g) : Below w.heap.size w w2 :=
  h.grown k h.size (fun i hi => by cases hi; exact hg)
end Go.Proofs.YtfomfbfcnenhbaaGreat
namespace Go.Proofs.YtfomfbfcnenhbaaGreat
open Go.ChangeShapes Go.WideShapes Go.ChangeAt Go.RowKit
set_option linter.unusedVariables false
set_option linter.unusedSimpArgs false
def Src (B : Nat) (w : World) (g : Nat) (a : Option Addr) (len cap : Nat) : Prop :=
  ∃ (k : Nat) (s : Int), Blk w g #[.slice a len cap, .int .i64 k, .int .i64 s] 121 ∧ k ≤ len ∧ 0 ≤ s ∧ s ≤ 2147483646 ∧ B ≤ g ∧ len ≤ 1048576 ∧ CodeIn B w a len
theorem blk_step {g : Nat} {a : Option Addr} {len cap : Nat} {w : World} {k : Nat} {s s' : Int} (hB : Blk w g #[.slice a len cap, .int .i64 k, .int .i64 s] 121) (m : Nat) :
    Blk (((w.setCell ⟨g, 2, none⟩ (.int .i64 s')).drewN m).setCell ⟨g, 1, none⟩ (.int .i64 ((k : Int) + 1))) g #[.slice a len cap, .int .i64 ((k + 1 : Nat) : Int), .int .i64 s'] 121 := by
  have := ((hB.set (i := 2) (.int .i64 s')).drewN m).set (i := 1) (.int .i64 ((k : Int) + 1))
  simpa using this
end Go.Proofs.YtfomfbfcnenhbaaGreat
namespace Go.Proofs.YtfomfbfcnenhbaaGreat
open Go.ChangeShapes Go.WideShapes Go.ChangeAt Go.RowKit
set_option linter.unusedVariables false
set_option linter.unusedSimpArgs false
set_option maxRecDepth 4000
def sfC (p c h s : Int) (L : List Rl) : Int := if vB p c h s = true then (if L.all (fun r => xvB s.toNat r.1 r.2) = true then 0 else 2) else 1
theorem sfC_zero {p c h s : Int} {L : List Rl} (h0 : sfC p c h s L = 0) : vB p c h s = true ∧ ∀ r ∈ L, xvB s.toNat r.1 r.2 = true := by
  unfold sfC at h0
  split at h0
  · rename_i g
    split at h0
    · rename_i g2
      exact ⟨g, fun r hr => List.all_eq_true.1 g2 r hr⟩
    · omega
  · omega
def adV (p c h s xn xd yn yd : Int) : Int × Int × Int :=
  if sfC p c h s [(xn, xd), (yn, yd)] = 0 then xo3 (adX s.toNat xn xd.toNat yn yd.toNat) 3 else (0, 0, sfC p c h s [(xn, xd), (yn, yd)])
theorem vB_side {p c h s : Int} (g : vB p c h s = true) : ∃ S : Nat, s = (S : Int) ∧ 1 ≤ S ∧ S ≤ 6 := by
  have := vB_iff.1 g
  exact ⟨s.toNat, by omega, by omega, by omega⟩
theorem sfC_no {p c h s : Int} {L : List Rl} (g : vB p c h s = false) : sfC p c h s L = 1 := by unfold sfC; rw [g]; rfl
theorem sfC_two {p c h : Int} {S : Nat} (g : vB p c h (S : Int) = true) (xn xd yn yd : Int) : sfC p c h (S : Int) [(xn, xd), (yn, yd)] = if (xvB S xn xd && xvB S yn yd) = true then 0 else 2 := by
  unfold sfC
  rw [if_pos g, Int.toNat_natCast]
  simp only [List.all_cons, List.all_nil, Bool.and_true]
set_option maxRecDepth 8000 in
set_option maxHeartbeats 2000000 in
theorem l09Code_any (p c h s xn xd yn yd : Int) (hxd : -9223372036854775808 ≤ xd ∧ xd ≤ 9223372036854775807) (hyd : -9223372036854775808 ≤ yd ∧ yd ≤ 9223372036854775807) (w : World) :
    Calls Tryz.prog 58 #[.agg #[.int .i64 p, .int .i64 c, .int .i64 h, .int .i64 s], .agg #[.int .i64 xn, .int .i64 xd], .agg #[.int .i64 yn, .int .i64 yd]] w fun e w' => e = .returned (.int .i64 (sfC p c h s [(xn, xd), (yn, yd)])) ∧ Below w.heap.size w w' := by
  have hv := fun W => specIsVariant_any p c h s W
  cases g : vB p c h s with
  | false =>
    rw [g] at hv
    rw [sfC_no g]
    obtain ⟨BV, BX, BY, hb, hz⟩ := three_new w #[.int .i64 p, .int .i64 c, .int .i64 h, .int .i64 s] #[.int .i64 xn, .int .i64 xd] #[.int .i64 yn, .int .i64 yd] 25 30 30
    have HV := Lib.hid hv
    clear hv g
    obtain ⟨x0, x1, x2, x3, xf, xl⟩ := BV.four
    obtain ⟨a0, a1, af, al⟩ := BX.two
    obtain ⟨b0, b1, bf, bl⟩ := BY.two
    go_enter Tryz.func58, Tryz.ntmps58
    go_wp2_with (first | (go_at_call 73; refine (HV.out _).mono ?_; clear HV; rintro e w1 ⟨rfl, hb1⟩; replace BV := BV.below hb1; replace BX := BX.below hb1; replace BY := BY.below hb1; replace hb := chain hb hb1; clear hb1; obtain ⟨x0, x1, x2, x3, xf, xl⟩ := BV.four; obtain ⟨a0, a1, af, al⟩ := BX.two; obtain ⟨b0, b1, bf, bl⟩ := BY.two))
    go_ret
    exact ⟨rfl, hb⟩
  | true =>
    rw [g] at hv
    obtain ⟨S, rfl, hS⟩ := vB_side g
    rw [sfC_two g]
    obtain ⟨BV, BX, BY, hb, hz⟩ := three_new w #[.int .i64 p, .int .i64 c, .int .i64 h, .int .i64 (S : Int)] #[.int .i64 xn, .int .i64 xd] #[.int .i64 yn, .int .i64 yd] 25 30 30
    have HV := Lib.hid hv
    have hx := fun W => l09Valid_any p c h S hS xn xd hxd.2 W
    have hy := fun W => l09Valid_any p c h S hS yn yd hyd.2 W
    clear hv g
    cases gx : xvB S xn xd with
    | false =>
      rw [gx] at hx
      rw [Bool.false_and, if_neg (by simp)]
      have HX := Lib.hid hx
      clear hx hy gx
      obtain ⟨x0, x1, x2, x3, xf, xl⟩ := BV.four
      obtain ⟨a0, a1, af, al⟩ := BX.two
      obtain ⟨b0, b1, bf, bl⟩ := BY.two
      go_enter Tryz.func58, Tryz.ntmps58
      go_wp2_with (first | (go_at_call 73; refine (HV.out _).mono ?_; clear HV; rintro e w1 ⟨rfl, hb1⟩; replace BV := BV.below hb1; replace BX := BX.below hb1; replace BY := BY.below hb1; replace hb := chain hb hb1; clear hb1; obtain ⟨x0, x1, x2, x3, xf, xl⟩ := BV.four; obtain ⟨a0, a1, af, al⟩ := BX.two; obtain ⟨b0, b1, bf, bl⟩ := BY.two) | (go_at_call 80; first | (refine (HX.out _).mono ?_; clear HX; rintro e w2 ⟨rfl, hb2⟩; replace BV := BV.below hb2; replace BX := BX.below hb2; replace BY := BY.below hb2; replace hb := chain hb hb2; clear hb2; obtain ⟨x0, x1, x2, x3, xf, xl⟩ := BV.four; obtain ⟨a0, a1, af, al⟩ := BX.two; obtain ⟨b0, b1, bf, bl⟩ := BY.two) | (refine (HY.out _).mono ?_; clear HY; rintro e w3 ⟨rfl, hb3⟩; replace BV := BV.below hb3; replace BX := BX.below hb3; replace BY := BY.below hb3; replace hb := chain hb hb3; clear hb3; obtain ⟨x0, x1, x2, x3, xf, xl⟩ := BV.four; obtain ⟨a0, a1, af, al⟩ := BX.two; obtain ⟨b0, b1, bf, bl⟩ := BY.two)))
      go_ret
      exact ⟨rfl, hb⟩
    | true =>
      rw [gx] at hx
      rw [Bool.true_and]
      have HX := Lib.hid hx
      cases gy : xvB S yn yd with
      | false =>
        rw [gy] at hy
        rw [if_neg (by simp)]
        have HY := Lib.hid hy
        clear hx hy gx gy
        obtain ⟨x0, x1, x2, x3, xf, xl⟩ := BV.four
        obtain ⟨a0, a1, af, al⟩ := BX.two
        obtain ⟨b0, b1, bf, bl⟩ := BY.two
        go_enter Tryz.func58, Tryz.ntmps58
        go_wp2_with (first | (go_at_call 73; refine (HV.out _).mono ?_; clear HV; rintro e w1 ⟨rfl, hb1⟩; replace BV := BV.below hb1; replace BX := BX.below hb1; replace BY := BY.below hb1; replace hb := chain hb hb1; clear hb1; obtain ⟨x0, x1, x2, x3, xf, xl⟩ := BV.four; obtain ⟨a0, a1, af, al⟩ := BX.two; obtain ⟨b0, b1, bf, bl⟩ := BY.two) | (go_at_call 80; first | (refine (HX.out _).mono ?_; clear HX; rintro e w2 ⟨rfl, hb2⟩; replace BV := BV.below hb2; replace BX := BX.below hb2; replace BY := BY.below hb2; replace hb := chain hb hb2; clear hb2; obtain ⟨x0, x1, x2, x3, xf, xl⟩ := BV.four; obtain ⟨a0, a1, af, al⟩ := BX.two; obtain ⟨b0, b1, bf, bl⟩ := BY.two) | (refine (HY.out _).mono ?_; clear HY; rintro e w3 ⟨rfl, hb3⟩; replace BV := BV.below hb3; replace BX := BX.below hb3; replace BY := BY.below hb3; replace hb := chain hb hb3; clear hb3; obtain ⟨x0, x1, x2, x3, xf, xl⟩ := BV.four; obtain ⟨a0, a1, af, al⟩ := BX.two; obtain ⟨b0, b1, bf, bl⟩ := BY.two)))
        go_ret
        exact ⟨rfl, hb⟩
      | true =>
        rw [gy] at hy
        rw [if_pos rfl]
        have HY := Lib.hid hy
        clear hx hy gx gy
        obtain ⟨x0, x1, x2, x3, xf, xl⟩ := BV.four
        obtain ⟨a0, a1, af, al⟩ := BX.two
        obtain ⟨b0, b1, bf, bl⟩ := BY.two
        go_enter Tryz.func58, Tryz.ntmps58
        go_wp2_with (first | (go_at_call 73; refine (HV.out _).mono ?_; clear HV; rintro e w1 ⟨rfl, hb1⟩; replace BV := BV.below hb1; replace BX := BX.below hb1; replace BY := BY.below hb1; replace hb := chain hb hb1; clear hb1; obtain ⟨x0, x1, x2, x3, xf, xl⟩ := BV.four; obtain ⟨a0, a1, af, al⟩ := BX.two; obtain ⟨b0, b1, bf, bl⟩ := BY.two) | (go_at_call 80; first | (refine (HX.out _).mono ?_; clear HX; rintro e w2 ⟨rfl, hb2⟩; replace BV := BV.below hb2; replace BX := BX.below hb2; replace BY := BY.below hb2; replace hb := chain hb hb2; clear hb2; obtain ⟨x0, x1, x2, x3, xf, xl⟩ := BV.four; obtain ⟨a0, a1, af, al⟩ := BX.two; obtain ⟨b0, b1, bf, bl⟩ := BY.two) | (refine (HY.out _).mono ?_; clear HY; rintro e w3 ⟨rfl, hb3⟩; replace BV := BV.below hb3; replace BX := BX.below hb3; replace BY := BY.below hb3; replace hb := chain hb hb3; clear hb3; obtain ⟨x0, x1, x2, x3, xf, xl⟩ := BV.four; obtain ⟨a0, a1, af, al⟩ := BX.two; obtain ⟨b0, b1, bf, bl⟩ := BY.two)))
        go_ret
        exact ⟨rfl, hb⟩
set_option maxRecDepth 8000 in
set_option maxHeartbeats 1000000 in
theorem specAddExact_any (p c h s xn xd yn yd : Int) (hxd : -9223372036854775808 ≤ xd ∧ xd ≤ 9223372036854775807) (hyd : -9223372036854775808 ≤ yd ∧ yd ≤ 9223372036854775807) (w : World) :
    Calls Tryz.prog 18 #[.agg #[.int .i64 p, .int .i64 c, .int .i64 h, .int .i64 s], .agg #[.int .i64 xn, .int .i64 xd], .agg #[.int .i64 yn, .int .i64 yd]] w fun e w' => e = .returned (xoV (adV p c h s xn xd yn yd)) ∧ Below w.heap.size w w' := by
  have hcd := fun W => l09Code_any p c h s xn xd yn yd hxd hyd W
  by_cases h0 : sfC p c h s [(xn, xd), (yn, yd)] = 0
  · obtain ⟨g, hall⟩ := sfC_zero h0
    obtain ⟨S, rfl, hS⟩ := vB_side g
    have q1 := hall (xn, xd) (by simp)
    have q2 := hall (yn, yd) (by simp)
    rw [Int.toNat_natCast] at q1 q2
    obtain ⟨q11, q12, q13, q14⟩ := xvB_parts q1
    obtain ⟨q21, q22, q23, q24⟩ := xvB_parts q2
    dsimp only at q11 q12 q13 q14 q21 q22 q23 q24
    have hA := fun W => l09Add_any p c h S hS xn xd yn yd ⟨q13, q14⟩ ⟨q23, q24⟩ ⟨q11, q12⟩ ⟨q21, q22⟩ W
    have ev : adV p c h (S : Int) xn xd yn yd = xo3 (adX S xn xd.toNat yn yd.toNat) 3 := by unfold adV; rw [if_pos h0, Int.toNat_natCast]
    rw [ev]
    rw [h0] at hcd
    have HCD := Lib.hid hcd
    obtain ⟨BV, BX, BY, BO, hb, hz⟩ := fourNew w #[.int .i64 p, .int .i64 c, .int .i64 h, .int .i64 (S : Int)] #[.int .i64 xn, .int .i64 xd] #[.int .i64 yn, .int .i64 yd] #[.int .i64 0, .int .i64 0] 25 30 30 30
    cases ho : adX S xn xd.toNat yn yd.toNat with
    | none =>
      rw [ho] at hA
      dsimp only [xoN, xoD, Option.isSome] at hA
      dsimp only [xo3, xoV]
      obtain ⟨r1, hr1⟩ : ∃ r : Int, (0 : Int) = r := ⟨_, rfl⟩
      obtain ⟨r2, hr2⟩ : ∃ r : Int, (0 : Int) = r := ⟨_, rfl⟩
      have hA2 : ∀ W : World, Calls Tryz.prog 59 #[.agg #[.int .i64 p, .int .i64 c, .int .i64 h, .int .i64 (S : Int)], .agg #[.int .i64 xn, .int .i64 xd], .agg #[.int .i64 yn, .int .i64 yd]] W fun e w' => e = .returned (.tuple #[.agg #[.int .i64 r1, .int .i64 r2], .bool false]) ∧ Below W.heap.size W w' := fun W => by rw [← hr1, ← hr2]; exact hA W
      have HA := Lib.hid hA2
      clear hA hA2 hcd ev h0 ho g hall q1 q2 hr1 hr2
      obtain ⟨x0, x1, x2, x3, xf, xl⟩ := BV.four
      obtain ⟨a0, a1, af, al⟩ := BX.two
      obtain ⟨b0, b1, bf, bl⟩ := BY.two
      obtain ⟨z0, z1, zf, zl⟩ := BO.two
      go_enter Tryz.func18, Tryz.ntmps18
      go_wp2_with (first | (go_at_call 58; refine (HCD.out _).mono ?_; clear HCD; rintro e w1 ⟨rfl, hb1⟩; replace BV := BV.below hb1; replace BX := BX.below hb1; replace BY := BY.below hb1; replace BO := BO.below hb1; replace hb := chain hb hb1; clear hb1; obtain ⟨x0, x1, x2, x3, xf, xl⟩ := BV.four; obtain ⟨a0, a1, af, al⟩ := BX.two; obtain ⟨b0, b1, bf, bl⟩ := BY.two; obtain ⟨z0, z1, zf, zl⟩ := BO.two) | (go_at_call 59; refine (HA.out _).mono ?_; clear HA; rintro e w2 ⟨rfl, hb2⟩; replace BO := (BO.below hb2).alloc (.cells #[.int .i64 r1, .int .i64 r2] 30); replace hb := chain_alloc (chain hb hb2) (.cells #[.int .i64 r1, .int .i64 r2] 30); obtain ⟨z0, z1, zf, zl⟩ := BO.two))
      have BRn := BO.set2 (.int .i64 0) (.int .i64 0)
      obtain ⟨u0, u1, uf, ul⟩ := BRn.two
      refine bodyPost_ret (v := .tuple #[.agg #[.int .i64 0, .int .i64 0], .int .i64 3]) (by simp [results, Tryz.results18, go_sem, u0, u1]) rfl ?_
      exact ⟨rfl, belowFar2 hb (by omega) _ _⟩
    | some r =>
      obtain ⟨r1, r2⟩ := r
      rw [ho] at hA
      dsimp only [xoN, xoD, Option.isSome] at hA
      dsimp only [xo3, xoV]
      have HA := Lib.hid hA
      clear hA hcd ev h0 ho g hall q1 q2
      obtain ⟨x0, x1, x2, x3, xf, xl⟩ := BV.four
      obtain ⟨a0, a1, af, al⟩ := BX.two
      obtain ⟨b0, b1, bf, bl⟩ := BY.two
      obtain ⟨z0, z1, zf, zl⟩ := BO.two
      go_enter Tryz.func18, Tryz.ntmps18
      go_wp2_with (first | (go_at_call 58; refine (HCD.out _).mono ?_; clear HCD; rintro e w1 ⟨rfl, hb1⟩; replace BV := BV.below hb1; replace BX := BX.below hb1; replace BY := BY.below hb1; replace BO := BO.below hb1; replace hb := chain hb hb1; clear hb1; obtain ⟨x0, x1, x2, x3, xf, xl⟩ := BV.four; obtain ⟨a0, a1, af, al⟩ := BX.two; obtain ⟨b0, b1, bf, bl⟩ := BY.two; obtain ⟨z0, z1, zf, zl⟩ := BO.two) | (go_at_call 59; refine (HA.out _).mono ?_; clear HA; rintro e w2 ⟨rfl, hb2⟩; replace BO := (BO.below hb2).alloc (.cells #[.int .i64 r1, .int .i64 r2] 30); replace hb := chain_alloc (chain hb hb2) (.cells #[.int .i64 r1, .int .i64 r2] 30); obtain ⟨z0, z1, zf, zl⟩ := BO.two))
      have BRn := BO.set2 (.int .i64 r1) (.int .i64 r2)
      obtain ⟨u0, u1, uf, ul⟩ := BRn.two
      refine bodyPost_ret (v := .tuple #[.agg #[.int .i64 r1, .int .i64 r2], .int .i64 0]) (by simp [results, Tryz.results18, go_sem, u0, u1]) rfl ?_
      exact ⟨rfl, belowFar2 hb (by omega) _ _⟩
  · have ev : adV p c h s xn xd yn yd = (0, 0, sfC p c h s [(xn, xd), (yn, yd)]) := by unfold adV; rw [if_neg h0]
    rw [ev]
    dsimp only [xoV]
    obtain ⟨r, hr⟩ : ∃ r, sfC p c h s [(xn, xd), (yn, yd)] = r := ⟨_, rfl⟩
    rw [hr] at hcd h0 ⊢
    have f0 : (r == 0) = false := by rw [beq_eq_false_iff_ne]; exact h0
    have HCD := Lib.hid hcd
    clear hcd ev h0 hr
    obtain ⟨BV, BX, BY, BO, hb, hz⟩ := fourNew w #[.int .i64 p, .int .i64 c, .int .i64 h, .int .i64 s] #[.int .i64 xn, .int .i64 xd] #[.int .i64 yn, .int .i64 yd] #[.int .i64 0, .int .i64 0] 25 30 30 30
    obtain ⟨x0, x1, x2, x3, xf, xl⟩ := BV.four
    obtain ⟨a0, a1, af, al⟩ := BX.two
    obtain ⟨b0, b1, bf, bl⟩ := BY.two
    obtain ⟨z0, z1, zf, zl⟩ := BO.two
    go_enter Tryz.func18, Tryz.ntmps18
    go_wp2_with (go_at_call 58; refine (HCD.out _).mono ?_; clear HCD; rintro e w1 ⟨rfl, hb1⟩; replace BV := BV.below hb1; replace BX := BX.below hb1; replace BY := BY.below hb1; replace BO := BO.below hb1; replace hb := chain hb hb1; clear hb1; obtain ⟨x0, x1, x2, x3, xf, xl⟩ := BV.four; obtain ⟨a0, a1, af, al⟩ := BX.two; obtain ⟨b0, b1, bf, bl⟩ := BY.two; obtain ⟨z0, z1, zf, zl⟩ := BO.two)
    have BRn := BO.set2 (.int .i64 0) (.int .i64 0)
    obtain ⟨u0, u1, uf, ul⟩ := BRn.two
    refine bodyPost_ret (v := .tuple #[.agg #[.int .i64 0, .int .i64 0], .int .i64 r]) (by simp [results, Tryz.results18, go_sem, u0, u1]) rfl ?_
    exact ⟨rfl, belowFar2 hb (by omega) _ _⟩
end Go.Proofs.YtfomfbfcnenhbaaGreat
namespace Go.Proofs.YtfomfbfcnenhbaaGreat
set_option maxRecDepth 20000
set_option linter.unusedVariables false
set_option linter.unusedSimpArgs false
theorem ex_some {S : Nat} (hS : 1 ≤ S ∧ S ≤ 6) {P : Int} (h : -1000000000000000000 ≤ P ∧ P ≤ 1000000000000000000) : ∃ n d, rdX S P (dm S) = some (n, d) ∧ IsP S n d P := by
  obtain ⟨n, d, e⟩ := rdX_some (S := S) h (dm_in hS).1
  refine ⟨n, d, e, xvB_of e, ?_⟩
  have := (rdX_val e (Nat.le_refl _)).1
  rw [Nat.sub_self, scN_zero] at this
  omega
theorem isP_uniq {S : Nat} (hS : 1 ≤ S ∧ S ≤ 6) {n d m e P : Int} (h1 : IsP S n d P) (h2 : IsP S m e P) : n = m ∧ d = e := by
  have a := ex_of hS h1
  rw [ex_of hS h2] at a
  injection a with a
  injection a with a b
  exact ⟨a.symm, b.symm⟩
end Go.Proofs.YtfomfbfcnenhbaaGreat
