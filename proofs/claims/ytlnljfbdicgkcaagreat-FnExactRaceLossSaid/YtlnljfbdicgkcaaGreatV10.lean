/- Texts of a proof, laid together. -/
import Derived.Test.YtlnljfbdicgkcaaGreatV09
import Derived.Deep.Cut
import Derived.Test.YtlnljfbdicgkcaaGreatV01
import Derived.Test.YtlnljfbdicgkcaaGreatV06
import Derived.Test.YtlnljfbdicgkcaaGreatV05
import Derived.Lib.MinMax
import Derived.IntWalk
import Derived.Deep.LoopGhost
import Derived.Test.YtlnljfbdicgkcaaGreatV04
import Derived.BigQuiet
import Derived.Deep.QuietTactic
import Derived.Test.YtlnljfbdicgkcaaGreatV08
namespace Go.Proofs.YtlnljfbdicgkcaaGreat
open Go.ChangeShapes Go.WideShapes Go.ChangeAt Go.RowKit
set_option linter.unusedVariables false
set_option linter.unusedSimpArgs false
set_option maxRecDepth 4000
theorem ngB_mul {a b : Int} (h : a * b ≠ 0) : ngB a b = decide (a * b < 0) := by
  have ha : a ≠ 0 := fun e => h (by rw [e, Int.zero_mul])
  have hb : b ≠ 0 := fun e => h (by rw [e, Int.mul_zero])
  unfold ngB
  by_cases ga : a < 0
  · by_cases gb : b < 0
    · have := Int.mul_pos_of_neg_of_neg ga gb
      rw [decide_eq_true ga, decide_eq_true gb, decide_eq_false (by omega)]
      rfl
    · have := Int.mul_neg_of_neg_of_pos ga (show 0 < b by omega)
      rw [decide_eq_true ga, decide_eq_false gb, decide_eq_true this]
      rfl
  · by_cases gb : b < 0
    · have := Int.mul_neg_of_pos_of_neg (show 0 < a by omega) gb
      rw [decide_eq_false ga, decide_eq_true gb, decide_eq_true this]
      rfl
    · have := Int.mul_pos (show 0 < a by omega) (show 0 < b by omega)
      rw [decide_eq_false ga, decide_eq_false gb, decide_eq_false (by omega)]
      rfl
theorem rdN_zero (B : Nat) : ∀ D, (rdN B 0 D).1 = 0
  | 0 => rfl
  | D + 1 => by rw [rdN_go (Nat.zero_mod _), Nat.zero_div, rdN_zero B D]
theorem rdG_sign {S : Nat} {g : Bool} {N : Int} {D : Nat} (h : N ≠ 0 → g = decide (N < 0)) : rdG S g N.natAbs D = rdX S N D := by
  unfold rdG rdX
  have e : sgM g (rdN (S * S) N.natAbs D).1 = sgI N (rdN (S * S) N.natAbs D).1 := by
    by_cases h0 : N = 0
    · subst h0
      rw [Int.natAbs_zero, rdN_zero]
      unfold sgM sgI
      cases g <;> rfl
    · rw [h h0]
      unfold sgM sgI
      by_cases q : N < 0
      · rw [decide_eq_true q, if_pos rfl, if_pos q]
      · rw [decide_eq_false q, if_neg q]; rfl
  rw [e]
theorem rdG_mul (S : Nat) (a b : Int) (D : Nat) : rdG S (ngB a b) (a.natAbs * b.natAbs) D = rdX S (a * b) D := by
  rw [← Int.natAbs_mul]
  exact rdG_sign ngB_mul
def xo3 (o : Option (Int × Int)) (c : Int) : Int × Int × Int := match o with | some r => (r.1, r.2, 0) | none => (0, 0, c)
theorem xo3_1 (o : Option (Int × Int)) (c : Int) : xoN o = (xo3 o c).1 := by cases o <;> rfl
theorem xo3_2 (o : Option (Int × Int)) (c : Int) : xoD o = (xo3 o c).2.1 := by cases o <;> rfl
theorem xo3_3 (o : Option (Int × Int)) (c : Int) : xoE o c = (xo3 o c).2.2 := by cases o <;> rfl
abbrev xoV (r : Int × Int × Int) : Value := .tuple #[.agg #[.int .i64 r.1, .int .i64 r.2.1], .int .i64 r.2.2]
theorem product_reduced (b S : Nat) (hS : 1 ≤ S ∧ S ≤ 6) (x k : Int) (D : Nat) (hD : D ≤ nn S) (W : World) (hh ll : Int) (HS : ScM W b S (nn S)) (HWD : WD hh ll (x.natAbs * k.natAbs)) :
    Calls Tryz.prog 110 #[.map (some b), .agg #[.bool (ngB x k), .int .u64 hh, .int .u64 ll], .int .i64 (D : Int)] W fun e w' => e = .returned (xoV (xo3 (rdX S (x * k) D) 3)) ∧ Below W.heap.size W w' := by
  have h := reduced_any b S hS (ngB x k) hh ll (x.natAbs * k.natAbs) D W HS HWD hD
  rw [rdG_mul, xo3_1 _ 3, xo3_2 _ 3, xo3_3] at h
  exact h
def adO (S : Nat) (a : Int) (i : Nat) (b : Int) (j : Nat) : Option (Int × Int) :=
  if 2000000000000000000 < (a * (scN S (j - i) : Int)).natAbs then none else rdX S (a * (scN S (j - i) : Int) + b) j
theorem adX_le {S : Nat} {a b : Int} {i j : Nat} (h : i ≤ j) : adX S a i b j = adO S a i b j := by unfold adX; rw [if_pos h]; rfl
theorem adX_gt {S : Nat} {a b : Int} {i j : Nat} (h : ¬ i ≤ j) : adX S a i b j = adO S b j a i := by unfold adX; rw [if_neg h]; rfl
end Go.Proofs.YtlnljfbdicgkcaaGreat
namespace Go.Proofs.YtlnljfbdicgkcaaGreat
open Go.ChangeShapes Go.WideShapes Go.ChangeAt Go.RowKit
set_option linter.unusedVariables false
set_option linter.unusedSimpArgs false
theorem fourNew (w : World) (v1 v2 v3 v4 : Array Value) (t1 t2 t3 t4 : TypeId) :
    Blk ((((w.alloc (.cells v1 t1)).alloc (.cells v2 t2)).alloc (.cells v3 t3)).alloc (.cells v4 t4)) w.heap.size v1 t1 ∧ Blk ((((w.alloc (.cells v1 t1)).alloc (.cells v2 t2)).alloc (.cells v3 t3)).alloc (.cells v4 t4)) (w.heap.size + 1) v2 t2 ∧ Blk ((((w.alloc (.cells v1 t1)).alloc (.cells v2 t2)).alloc (.cells v3 t3)).alloc (.cells v4 t4)) (w.heap.size + 1 + 1) v3 t3 ∧
    Blk ((((w.alloc (.cells v1 t1)).alloc (.cells v2 t2)).alloc (.cells v3 t3)).alloc (.cells v4 t4)) (w.heap.size + 1 + 1 + 1) v4 t4 ∧
    Below w.heap.size w ((((w.alloc (.cells v1 t1)).alloc (.cells v2 t2)).alloc (.cells v3 t3)).alloc (.cells v4 t4)) ∧ ((((w.alloc (.cells v1 t1)).alloc (.cells v2 t2)).alloc (.cells v3 t3)).alloc (.cells v4 t4)).heap.size = w.heap.size + 1 + 1 + 1 + 1 := by
  obtain ⟨h1, h2, h3, h4, h5⟩ := three_new w v1 v2 v3 t1 t2 t3
  have hn := Blk.new (((w.alloc (.cells v1 t1)).alloc (.cells v2 t2)).alloc (.cells v3 t3)) v4 t4
  rw [h5] at hn
  exact ⟨h1.alloc _, h2.alloc _, h3.alloc _, hn, h4.alloc h4.size _, by simp⟩
end Go.Proofs.YtlnljfbdicgkcaaGreat
namespace Go.Proofs.YtlnljfbdicgkcaaGreat
open Go.ChangeShapes Go.WideShapes Go.ChangeAt Go.RowKit
set_option linter.unusedVariables false
set_option linter.unusedSimpArgs false
set_option maxRecDepth 4000
theorem xvB_parts {S : Nat} {n d : Int} (h : xvB S n d = true) : 0 ≤ d ∧ d < nn S ∧ -1000000000000000000 ≤ n ∧ n ≤ 1000000000000000000 := by
  unfold xvB at h
  simp only [decide_eq_true_eq] at h
  exact ⟨h.1, h.2.1, h.2.2.1, h.2.2.2.1⟩
set_option maxRecDepth 8000 in
set_option maxHeartbeats 1000000 in
theorem l09Gcd_any (a b : Int) (ha : -9223372036854775807 ≤ a ∧ a ≤ 9223372036854775807) (hb : -9223372036854775807 ≤ b ∧ b ≤ 9223372036854775807) (w : World) :
    Calls Tryz.prog 161 #[.int .i64 a, .int .i64 b] w fun e w' => e = .returned (.int .i64 ((Int.gcd a b : Nat) : Int)) ∧ w = w' := by
  obtain ⟨g, hg⟩ : ∃ g, Int.gcd a b = g := ⟨_, rfl⟩
  have hg2 : Nat.gcd a.natAbs b.natAbs = g := hg
  rw [hg]
  have hx : a.natAbs < 9223372036854775808 := by omega
  have hy : b.natAbs < 9223372036854775808 := by omega
  have e1 : ((a.natAbs : Nat) : Int) = max a (-a) := by omega
  have e2 : ((b.natAbs : Nat) : Int) = max b (-b) := by omega
  obtain ⟨a1, a2⟩ := ha
  obtain ⟨b1, b2⟩ := hb
  have wa : IntKind.i64.wrap (-a) = -a := IntWalk.i64_in _ (by omega)
  have wb : IntKind.i64.wrap (-b) = -b := IntWalk.i64_in _ (by omega)
  have E1 := Lib.hid e1
  have E2 := Lib.hid e2
  have X := Lib.hid hx
  have Y := Lib.hid hy
  clear e1 e2 hx hy hg
  go_enter Tryz.func161, Tryz.ntmps161
  go_wp2_with fail
  go_loopg [0, 1] b.natAbs (fun m q0 q1 wr => ∃ (x y : Nat) (A B : Int), m = y ∧ q0 = .int .i64 A ∧ q1 = .int .i64 B ∧ Hid (A = (x : Int)) ∧ Hid (B = (y : Int)) ∧ Nat.gcd x y = g ∧ Hid (x < 9223372036854775808) ∧ Hid (y < 9223372036854775808) ∧ wr = w)
  case atStart => exact ⟨a.natAbs, b.natAbs, max a (-a), max b (-b), rfl, rfl, rfl, Lib.hid E1.out.symm, Lib.hid E2.out.symm, hg2, X, Y, rfl⟩
  case round =>
    clear X Y E1 E2 hg2
    obtain ⟨x, y, A, B, hm, rfl, rfl, HA, HB, hgg, HX, HY, rfl⟩ := hrel
    have A0 : 0 ≤ A ∧ A < 9223372036854775808 := by have := HA.out; have := HX.out; omega
    have B0 : 0 ≤ B ∧ B < 9223372036854775808 := by have := HB.out; have := HY.out; omega
    obtain ⟨A1, A2⟩ := A0
    obtain ⟨B1, B2⟩ := B0
    by_cases hy : y = 0
    · have hB0 : B = 0 := by have := HB.out; omega
      subst hB0
      have eg : A = (g : Int) := by rw [HA.out, ← hgg, hy, Nat.gcd_zero_right]
      subst eg
      clear hgg hy hm
      go_wp2
      go_ret
      exact ⟨rfl, rfl⟩
    · have hB0 : B ≠ 0 := by have := HB.out; omega
      have f0 : (B == 0) = false := by rw [beq_eq_false_iff_ne]; exact hB0
      have HR : Hid (A % B = ((x % y : Nat) : Int)) := Lib.hid (by rw [HA.out, HB.out]; rfl)
      have hgg2 : Nat.gcd y (x % y) = g := by rw [← hgg, Nat.gcd_comm x y, Nat.gcd_rec y x, Nat.gcd_comm]
      have hlt := Nat.mod_lt x (show 0 < y by omega)
      have G2 := Lib.hid hgg2
      clear hgg hgg2
      go_wp2
      go_roundg (x % y)
      case measure => omega
      case rel => exact ⟨y, x % y, B, A % B, rfl, rfl, rfl, HB, HR, G2.out, HY, Lib.hid (by have := HY.out; omega), rfl⟩
def tmV (a b : Int) : Int := if (a * b).natAbs ≤ 1000000000000000000 then a * b else 0
def tmB (a b : Int) : Bool := decide ((a * b).natAbs ≤ 1000000000000000000)
set_option maxRecDepth 8000 in
set_option maxHeartbeats 1000000 in
theorem l09Times_any (a b : Int) (ha : -9223372036854775807 ≤ a ∧ a ≤ 9223372036854775807) (hb : -9223372036854775807 ≤ b ∧ b ≤ 9223372036854775807) (w : World) :
    Calls Tryz.prog 162 #[.int .i64 a, .int .i64 b] w fun e w' => e = .returned (.tuple #[.int .i64 (tmV a b), .bool (tmB a b)]) ∧ w = w' := by
  obtain ⟨rV, hrV⟩ : ∃ x, tmV a b = x := ⟨_, rfl⟩
  obtain ⟨rB, hrB⟩ : ∃ x, tmB a b = x := ⟨_, rfl⟩
  rw [hrV, hrB]
  unfold tmV at hrV
  unfold tmB at hrB
  by_cases a0 : a = 0
  · have hz : a * b = 0 := by rw [a0, Int.zero_mul]
    rw [hz] at hrV hrB
    obtain rfl : rV = 0 := by rw [← hrV]; rfl
    obtain rfl : rB = true := by rw [← hrB]; rfl
    subst a0
    clear hrV hrB hz
    go_enter Tryz.func162, Tryz.ntmps162
    go_wp2
    go_ret2
    exact ⟨rfl, rfl⟩
  · have fa : (a == 0) = false := by rw [beq_eq_false_iff_ne]; exact a0
    by_cases b0 : b = 0
    · have hz : a * b = 0 := by rw [b0, Int.mul_zero]
      rw [hz] at hrV hrB
      obtain rfl : rV = 0 := by rw [← hrV]; rfl
      obtain rfl : rB = true := by rw [← hrB]; rfl
      subst b0
      clear hrV hrB hz
      go_enter Tryz.func162, Tryz.ntmps162
      go_wp2
      go_ret2
      exact ⟨rfl, rfl⟩
    · have fb : (b == 0) = false := by rw [beq_eq_false_iff_ne]; exact b0
      have fa2 : (a != 0) = true := by rw [bne, fa]; rfl
      have fb2 : (b != 0) = true := by rw [bne, fb]; rfl
      obtain ⟨a1, a2⟩ := ha
      obtain ⟨b1, b2⟩ := hb
      have wa : IntKind.i64.wrap (-a) = -a := IntWalk.i64_in _ (by omega)
      have wb : IntKind.i64.wrap (-b) = -b := IntWalk.i64_in _ (by omega)
      obtain ⟨MA, hMA, HMA⟩ : ∃ x, max a (-a) = x ∧ Hid (x = ((a.natAbs : Nat) : Int)) := ⟨_, rfl, Lib.hid (by omega)⟩
      obtain ⟨MB, hMB, HMB⟩ : ∃ x, max b (-b) = x ∧ Hid (x = ((b.natAbs : Nat) : Int)) := ⟨_, rfl, Lib.hid (by omega)⟩
      have MB0 : MB ≠ 0 := by have := HMB.out; omega
      have MB1 : 0 < MB := by have := HMB.out; omega
      obtain ⟨Q, hQ, HQ, Q0, Q1⟩ : ∃ x, (1000000000000000000 : Int) / MB = x ∧ Hid (x = ((1000000000000000000 / b.natAbs : Nat) : Int)) ∧ 0 ≤ x ∧ x ≤ 1000000000000000000 := by
        have h1 := HMB.out
        refine ⟨_, rfl, Lib.hid (by rw [h1]; rfl), ?_, ?_⟩
        · exact Int.ediv_nonneg (by omega) (by omega)
        · exact Int.ediv_le_self _ (by omega)
      have hQt : (1000000000000000000 : Int).tdiv MB = Q := by rw [← hQ]; exact Int.tdiv_eq_ediv_of_nonneg (by omega)
      have wQ : IntKind.i64.wrap Q = Q := IntWalk.i64_in _ (by omega)
      have hiff : (a * b).natAbs ≤ 1000000000000000000 ↔ ¬ Q < MA := by
        rw [HMA.out, HQ.out, Int.natAbs_mul, ← Nat.le_div_iff_mul_le (by omega)]
        omega
      by_cases c : Q < MA
      · rw [if_neg (fun q => (hiff.1 q) c)] at hrV
        rw [decide_eq_false (fun q => (hiff.1 q) c)] at hrB
        subst hrV hrB
        clear hiff
        go_enter Tryz.func162, Tryz.ntmps162
        go_wp2
        go_ret2
        exact ⟨rfl, rfl⟩
      · have hle := hiff.2 c
        rw [if_pos hle] at hrV
        rw [decide_eq_true hle] at hrB
        have wp : IntKind.i64.wrap (a * b) = rV := by rw [← hrV]; exact IntWalk.i64_in _ (by omega)
        have wp2 : wrap64 (a * b) = rV := (IntWalk.i64_left (a * b)).symm.trans wp
        subst hrB
        clear hiff hle hrV
        go_enter Tryz.func162, Tryz.ntmps162
        go_wp2
        go_ret2
        exact ⟨rfl, rfl⟩
theorem l09Base_any (p c h : Int) (S : Nat) (hS : S ≤ 6) (w : World) :
    Calls Tryz.prog 114 #[.agg #[.int .i64 p, .int .i64 c, .int .i64 h, .int .i64 (S : Int)]] w fun e w' => e = .returned (.int .i64 ((S * S : Nat) : Int)) ∧ Below w.heap.size w w' := by
  have BV := Blk.new w #[.int .i64 p, .int .i64 c, .int .i64 h, .int .i64 (S : Int)] 25
  have hb : Below w.heap.size w (w.alloc (.cells #[.int .i64 p, .int .i64 c, .int .i64 h, .int .i64 (S : Int)] 25)) := (Below.refl _ _).alloc (Nat.le_refl _) _
  have hle : S * S ≤ 6 * 6 := Nat.mul_le_mul hS hS
  obtain ⟨B, wB, hB⟩ : ∃ B : Int, IntKind.i64.wrap ((S : Int) * (S : Int)) = B ∧ ((S * S : Nat) : Int) = B := by
    refine ⟨((S * S : Nat) : Int), ?_, rfl⟩
    rw [← Int.natCast_mul]
    exact IntWalk.i64_in _ (by omega)
  rw [hB]
  obtain ⟨x0, x1, x2, x3, xf, xl⟩ := BV.four
  clear hle hS hB
  go_enter Tryz.func114, Tryz.ntmps114
  go_wp2
  go_ret
  exact ⟨rfl, hb⟩
def slB (S : Nat) (d : Int) : Bool := decide (S = 1 ∨ d < nn S)
def slV (S : Nat) (d : Int) : Int := if slB S d = true then (scN S d.toNat : Int) else 0
theorem scN_one : ∀ k, scN 1 k = 1
  | 0 => rfl
  | k + 1 => by rw [scN_succ, scN_one k]
theorem slV_is {S : Nat} {d : Int} {k : Nat} (hb : slB S d = true) (hk : d.toNat = k ∨ S = 1) : slV S d = ((scN S k : Nat) : Int) := by
  unfold slV
  rw [if_pos hb]
  rcases hk with rfl | rfl
  · rfl
  · rw [scN_one, scN_one]
set_option maxRecDepth 8000 in
set_option maxHeartbeats 1000000 in
theorem l09Scale_any (p c h : Int) (S : Nat) (hS : 1 ≤ S ∧ S ≤ 6) (d : Int) (hd : d ≤ 9223372036854775807) (w : World) :
    Calls Tryz.prog 113 #[.agg #[.int .i64 p, .int .i64 c, .int .i64 h, .int .i64 (S : Int)], .int .i64 d] w fun e w' => e = .returned (.tuple #[.int .i64 (slV S d), .bool (slB S d)]) ∧ Below w.heap.size w w' := by
  have hn := nn_range hS
  have hbr := base_range hS
  have BV := Blk.new w #[.int .i64 p, .int .i64 c, .int .i64 h, .int .i64 (S : Int)] 25
  have hb : Below w.heap.size w (w.alloc (.cells #[.int .i64 p, .int .i64 c, .int .i64 h, .int .i64 (S : Int)] 25)) := (Below.refl _ _).alloc (Nat.le_refl _) _
  have hba := fun W => l09Base_any p c h S hS.2 W
  obtain ⟨B, hB⟩ : ∃ B : Int, ((S * S : Nat) : Int) = B := ⟨_, rfl⟩
  rw [hB] at hba
  have HB := Lib.hid hba
  have HBe := Lib.hid hB
  have B0 : 1 ≤ B ∧ B ≤ 36 := by omega
  obtain ⟨rV, hrV⟩ : ∃ x, slV S d = x := ⟨_, rfl⟩
  obtain ⟨rB, hrB⟩ : ∃ x, slB S d = x := ⟨_, rfl⟩
  rw [hrV, hrB]
  have HrV := Lib.hid hrV
  have HrB := Lib.hid hrB
  clear hba hB hrV hrB hbr
  go_enter Tryz.func113, Tryz.ntmps113
  go_wp2_with fail
  generalize (w.alloc (.cells #[.int .i64 p, .int .i64 c, .int .i64 h, .int .i64 (S : Int)] 25)) = v0 at *
  go_loopg [6, 7] (nn S) (fun m q6 q7 wr => ∃ (k : Nat) (C : Int), k < nn S ∧ m = nn S - k ∧ (k = 0 ∨ (k : Int) ≤ d) ∧ (S = 1 → k = 0) ∧ q6 = .int .i64 C ∧ q7 = .int .i64 (k : Int) ∧ Hid (C = ((scN S k : Nat) : Int)) ∧ Blk wr w.heap.size #[.int .i64 p, .int .i64 c, .int .i64 h, .int .i64 (S : Int)] 25 ∧ Below w.heap.size w wr)
  case atStart => exact ⟨0, 1, by omega, by omega, .inl rfl, fun _ => rfl, rfl, rfl, Lib.hid (by rw [scN_zero]; rfl), BV, hb⟩
  case round =>
    clear BV hb
    obtain ⟨k, C, hk, hm, hkd, hk1, rfl, rfl, HC, BV, hb⟩ := hrel
    obtain ⟨x0, x1, x2, x3, xf, xl⟩ := BV.four
    have hC := scN_in hS hk
    have hC1 := scN_pos hS.1 k
    obtain ⟨C1, C2⟩ : 1 ≤ C ∧ C ≤ 1000000000000000 := by have := HC.out; omega
    clear hC hC1
    have fin : slB S d = true → (d.toNat = k ∨ S = 1) → rV = C ∧ rB = true := fun q1 q2 => ⟨by rw [← HrV.out, slV_is q1 q2, HC.out], by rw [← HrB.out, q1]⟩
    have FIN := Lib.hid fin
    clear fin
    by_cases hlt : (k : Int) < d
    · by_cases hS1 : S = 1
      · obtain ⟨rfl, rfl⟩ := FIN.out (by unfold slB; rw [decide_eq_true (Or.inl hS1)]) (.inr hS1)
        have hB1 : B = 1 := by have := HBe.out; subst hS1; omega
        subst hB1
        clear FIN hkd hk1 hS1
        go_wp2_with (go_at_call 114; refine (HB.out _).mono ?_; rintro e w1 ⟨rfl, hb1⟩; replace BV := BV.below hb1; replace hb := chain hb hb1; clear hb1; obtain ⟨x0, x1, x2, x3, xf, xl⟩ := BV.four)
        go_ret2
        exact ⟨rfl, hb⟩
      · have hB4 : 1 < B := by
          have h2 := HBe.out
          have h3 : 2 * 2 ≤ S * S := Nat.mul_le_mul (by omega) (by omega)
          omega
        obtain ⟨D, wD, HD⟩ : ∃ D : Int, IntKind.i64.wrap (C * B) = D ∧ Hid (D = ((scN S (k + 1) : Nat) : Int)) := by
          refine ⟨C * B, ?_, Lib.hid (by rw [HC.out, ← HBe.out, scN_succ]; rfl)⟩
          have h1 : 0 ≤ C * B := Int.mul_nonneg (by omega) (by omega)
          have h2 : C * B ≤ 1000000000000000 * 36 := Int.mul_le_mul C2 B0.2 (by omega) (by omega)
          exact IntWalk.i64_in _ (by omega)
        by_cases hkn : k + 1 < nn S
        · have hD := scN_in hS hkn
          have D1 : D ≤ 1000000000000000 := by have := HD.out; omega
          clear hD FIN
          go_wp2_with (go_at_call 114; refine (HB.out _).mono ?_; rintro e w1 ⟨rfl, hb1⟩; replace BV := BV.below hb1; replace hb := chain hb hb1; clear hb1; obtain ⟨x0, x1, x2, x3, xf, xl⟩ := BV.four)
          go_roundg (nn S - (k + 1))
          case measure => omega
          case rel => exact ⟨k + 1, D, hkn, rfl, .inr (by omega), fun q => absurd q hS1, rfl, by go_num, HD, BV, hb⟩
        · have hD := (scN_top hS).2 (by omega)
          rw [show nn S = k + 1 by omega] at hD
          have D1 : 1000000000000000 < D := by have := HD.out; omega
          have hno : slB S d = false := by
            unfold slB
            rw [decide_eq_false (by omega)]
          obtain rfl : rB = false := by rw [← HrB.out]; exact hno
          obtain rfl : rV = 0 := by rw [← HrV.out]; unfold slV; rw [hno]; rfl
          clear hD FIN hno
          go_wp2_with (go_at_call 114; refine (HB.out _).mono ?_; rintro e w1 ⟨rfl, hb1⟩; replace BV := BV.below hb1; replace hb := chain hb hb1; clear hb1; obtain ⟨x0, x1, x2, x3, xf, xl⟩ := BV.four)
          go_ret2
          exact ⟨rfl, hb⟩
    · obtain ⟨rfl, rfl⟩ := FIN.out (by unfold slB; rw [decide_eq_true (by omega)]) (.inl (by omega))
      clear FIN
      go_wp2
      go_ret2
      exact ⟨rfl, hb⟩
theorem xvB_scale {S : Nat} {n d : Int} (hS : 1 ≤ S ∧ S ≤ 6) (h0 : 0 < d) (h : inB n (-1000000000000000000) 1000000000000000000 = true) :
    xvB S n d = (slB S d && (decide (1 < ((S * S : Nat) : Int)) && decide (n.tmod ((S * S : Nat) : Int) ≠ 0))) := by
  by_cases h1 : d < nn S
  · rw [xvB_rest (by omega) ⟨by omega, h1⟩ h, show slB S d = true by unfold slB; rw [decide_eq_true (.inr h1)], Bool.true_and]
    by_cases hS1 : S = 1
    · subst hS1
      simp
    · have h3 : 2 * 2 ≤ S * S := Nat.mul_le_mul (by omega) (by omega)
      rw [decide_eq_true (show 1 < ((S * S : Nat) : Int) by omega), Bool.true_and]
  · rw [xvB_depth (by omega)]
    by_cases hS1 : S = 1
    · subst hS1
      simp
    · rw [show slB S d = false by unfold slB; rw [decide_eq_false (by omega)], Bool.false_and]
set_option maxRecDepth 8000 in
set_option maxHeartbeats 2000000 in
theorem l09Valid_any (p c h : Int) (S : Nat) (hS : 1 ≤ S ∧ S ≤ 6) (xn xd : Int) (hd : xd ≤ 9223372036854775807) (w : World) :
    Calls Tryz.prog 63 #[.agg #[.int .i64 p, .int .i64 c, .int .i64 h, .int .i64 (S : Int)], .agg #[.int .i64 xn, .int .i64 xd]] w fun e w' => e = .returned (.bool (xvB S xn xd)) ∧ Below w.heap.size w w' := by
  obtain ⟨BV, BX, hb, hz⟩ := two_new w #[.int .i64 p, .int .i64 c, .int .i64 h, .int .i64 (S : Int)] #[.int .i64 xn, .int .i64 xd] 25 35
  have hin := fun W => l01In_any xn (-1000000000000000000) 1000000000000000000 W
  have hsc := fun W => l09Scale_any p c h S hS xd hd W
  have hba := fun W => l09Base_any p c h S hS.2 W
  by_cases c0 : xd < 0
  · rw [xvB_depth (by omega)]
    clear hin hsc hba
    obtain ⟨x0, x1, x2, x3, xf, xl⟩ := BV.four
    obtain ⟨z0, z1, zf, zl⟩ := BX.two
    go_enter Tryz.func63, Tryz.ntmps63
    go_wp2_with (first | fail)
    go_ret
    exact ⟨rfl, hb⟩
  · cases c1 : inB xn (-1000000000000000000) 1000000000000000000 with
    | false =>
      rw [xvB_num c1]
      rw [c1] at hin
      have HI := Lib.hid hin
      clear hin hsc hba c1
      obtain ⟨x0, x1, x2, x3, xf, xl⟩ := BV.four
      obtain ⟨z0, z1, zf, zl⟩ := BX.two
      go_enter Tryz.func63, Tryz.ntmps63
      go_wp2_with (first | (go_at_call 102; refine (HI.out _).mono ?_; clear HI; rintro e w1 ⟨rfl, rfl⟩))
      go_ret
      exact ⟨rfl, hb⟩
    | true =>
      by_cases c2 : xd = 0
      · have hv : xvB S xn xd = true := by rw [c2]; exact xvB_zero hS c1
        rw [hv]
        rw [c1] at hin
        have HI := Lib.hid hin
        have f0 : (xd == 0) = true := by rw [c2]; rfl
        clear hin hsc hba c1 hv c2
        obtain ⟨x0, x1, x2, x3, xf, xl⟩ := BV.four
        obtain ⟨z0, z1, zf, zl⟩ := BX.two
        go_enter Tryz.func63, Tryz.ntmps63
        go_wp2_with (first | (go_at_call 102; refine (HI.out _).mono ?_; clear HI; rintro e w1 ⟨rfl, rfl⟩))
        go_ret
        exact ⟨rfl, hb⟩
      · rw [xvB_scale hS (by omega) c1]
        rw [c1] at hin
        have HI := Lib.hid hin
        have f0 : (xd == 0) = false := by rw [beq_eq_false_iff_ne]; exact c2
        have hbr := base_range hS
        obtain ⟨B, hB⟩ : ∃ B : Int, ((S * S : Nat) : Int) = B := ⟨_, rfl⟩
        have hB0 : B ≠ 0 := by omega
        rw [hB] at hba ⊢
        obtain ⟨T, hT⟩ : ∃ T : Int, xn.tmod B = T := ⟨_, rfl⟩
        rw [hT, show decide (T ≠ 0) = (T != 0) by rw [Bool.eq_iff_iff]; simp]
        have HB := Lib.hid hba
        clear hba hin c1 hB hbr
        obtain ⟨sv, hsv⟩ : ∃ x, slV S xd = x := ⟨_, rfl⟩
        rw [hsv] at hsc
        cases hs : slB S xd with
        | false =>
          rw [hs] at hsc
          rw [Bool.false_and]
          have HSC := Lib.hid hsc
          clear hsc hs hsv
          obtain ⟨x0, x1, x2, x3, xf, xl⟩ := BV.four
          obtain ⟨z0, z1, zf, zl⟩ := BX.two
          go_enter Tryz.func63, Tryz.ntmps63
          go_wp2_with (first | (go_at_call 102; refine (HI.out _).mono ?_; clear HI; rintro e w1 ⟨rfl, rfl⟩) | (go_at_call 113; refine (HSC.out _).mono ?_; clear HSC; rintro e w2 ⟨rfl, hb2⟩; replace BV := BV.below hb2; replace BX := BX.below hb2; replace hb := chain hb hb2; clear hb2; obtain ⟨x0, x1, x2, x3, xf, xl⟩ := BV.four; obtain ⟨z0, z1, zf, zl⟩ := BX.two))
          clear x0 x1 x2 x3 xf xl z0 z1 zf zl
          have hd_ : w2.drew.heap.size = w2.heap.size := rfl
          replace BV := BV.drew
          replace BX := BX.drew
          replace hb := hb.drew
          refine wp_region_held_drew (S := fun w' => w'.cell? ⟨w.heap.size, 0, none⟩ = some (.int .i64 p) ∧ w'.cell? ⟨w.heap.size, 1, none⟩ = some (.int .i64 c) ∧ w'.cell? ⟨w.heap.size, 2, none⟩ = some (.int .i64 h) ∧ w'.cell? ⟨w.heap.size, 3, none⟩ = some (.int .i64 (S : Int)) ∧ w'.cell? ⟨(w.heap.size + 1), 0, none⟩ = some (.int .i64 xn) ∧ w'.cell? ⟨(w.heap.size + 1), 1, none⟩ = some (.int .i64 xd)) (by kernel_rfl) ⟨BV.four.1, BV.four.2.1, BV.four.2.2.1, BV.four.2.2.2.1, BX.two.1, BX.two.2.1⟩ (fun hHeld => ?_)
          clear hHeld
          generalize w2.drew = vd at *
          have hHeld : vd.cell? ⟨w.heap.size, 0, none⟩ = some (.int .i64 p) ∧ vd.cell? ⟨w.heap.size, 1, none⟩ = some (.int .i64 c) ∧ vd.cell? ⟨w.heap.size, 2, none⟩ = some (.int .i64 h) ∧ vd.cell? ⟨w.heap.size, 3, none⟩ = some (.int .i64 (S : Int)) ∧ vd.cell? ⟨(w.heap.size + 1), 0, none⟩ = some (.int .i64 xn) ∧ vd.cell? ⟨(w.heap.size + 1), 1, none⟩ = some (.int .i64 xd) := ⟨BV.four.1, BV.four.2.1, BV.four.2.2.1, BV.four.2.2.2.1, BX.two.1, BX.two.2.1⟩
          refine tk 0 26 ?_
          refine tk 1 27 ?_
          refine tkv 2 28 ?_
          refine tkv 3 29 ?_
          refine tkv 4 30 ?_
          refine tk 5 31 ?_
          refine tk 6 32 ?_
          refine tkv 7 33 ?_
          refine tkv 8 34 ?_
          refine tkv 9 35 ?_
          refine tkv 10 36 ?_
          refine tkv 11 37 ?_
          refine tkv 12 38 ?_
          refine tk 13 39 ?_
          refine tk 14 4 ?_
          refine wpAnyH_done (by kernel_rfl) ?_ _
          clear hHeld
          go_wp2_with fail
          go_ret
          exact ⟨rfl, hb⟩
        | true =>
          rw [hs] at hsc
          rw [Bool.true_and]
          have HSC := Lib.hid hsc
          clear hsc hs hsv
          by_cases c3 : 1 < B
          · have f3 : decide (1 < B) = true := decide_eq_true c3
            rw [f3, Bool.true_and]
            clear c3
            obtain ⟨x0, x1, x2, x3, xf, xl⟩ := BV.four
            obtain ⟨z0, z1, zf, zl⟩ := BX.two
            go_enter Tryz.func63, Tryz.ntmps63
            go_wp2_with (first | (go_at_call 102; refine (HI.out _).mono ?_; clear HI; rintro e w1 ⟨rfl, rfl⟩) | (go_at_call 113; refine (HSC.out _).mono ?_; clear HSC; rintro e w2 ⟨rfl, hb2⟩; replace BV := BV.below hb2; replace BX := BX.below hb2; replace hb := chain hb hb2; clear hb2; obtain ⟨x0, x1, x2, x3, xf, xl⟩ := BV.four; obtain ⟨z0, z1, zf, zl⟩ := BX.two))
            clear x0 x1 x2 x3 xf xl z0 z1 zf zl
            have hd_ : w2.drew.heap.size = w2.heap.size := rfl
            replace BV := BV.drew
            replace BX := BX.drew
            replace hb := hb.drew
            refine wp_region_held_drew (S := fun w' => w'.cell? ⟨w.heap.size, 0, none⟩ = some (.int .i64 p) ∧ w'.cell? ⟨w.heap.size, 1, none⟩ = some (.int .i64 c) ∧ w'.cell? ⟨w.heap.size, 2, none⟩ = some (.int .i64 h) ∧ w'.cell? ⟨w.heap.size, 3, none⟩ = some (.int .i64 (S : Int)) ∧ w'.cell? ⟨(w.heap.size + 1), 0, none⟩ = some (.int .i64 xn) ∧ w'.cell? ⟨(w.heap.size + 1), 1, none⟩ = some (.int .i64 xd)) (by kernel_rfl) ⟨BV.four.1, BV.four.2.1, BV.four.2.2.1, BV.four.2.2.2.1, BX.two.1, BX.two.2.1⟩ (fun hHeld => ?_)
            clear hHeld
            generalize w2.drew = vd at *
            have hHeld : vd.cell? ⟨w.heap.size, 0, none⟩ = some (.int .i64 p) ∧ vd.cell? ⟨w.heap.size, 1, none⟩ = some (.int .i64 c) ∧ vd.cell? ⟨w.heap.size, 2, none⟩ = some (.int .i64 h) ∧ vd.cell? ⟨w.heap.size, 3, none⟩ = some (.int .i64 (S : Int)) ∧ vd.cell? ⟨(w.heap.size + 1), 0, none⟩ = some (.int .i64 xn) ∧ vd.cell? ⟨(w.heap.size + 1), 1, none⟩ = some (.int .i64 xd) := ⟨BV.four.1, BV.four.2.1, BV.four.2.2.1, BV.four.2.2.2.1, BX.two.1, BX.two.2.1⟩
            refine tk 0 26 ?_
            refine tk 1 27 ?_
            refine tk 2 28 ?_
            refine rdk 3 29 fun K hK => ?_
            go_simp
            refine (HB.out _).mono ?_
            rintro e w3 ⟨rfl, hb3⟩
            replace BV := BV.below hb3
            replace BX := BX.below hb3
            replace hb := chain hb hb3
            clear hb3
            (try go_wp2_with fail)
            refine hko hK (Blk.f4 BV (Blk.l2 BX)) fun hHeld => ?_
            clear hK K
            refine tk 4 30 ?_
            refine tk 5 31 ?_
            refine tk 6 32 ?_
            refine tk 7 33 ?_
            refine tk 8 34 ?_
            refine tk 9 35 ?_
            refine rdk 10 36 fun K hK => ?_
            go_simp
            refine (HB.out _).mono ?_
            rintro e w4 ⟨rfl, hb4⟩
            replace BV := BV.below hb4
            replace BX := BX.below hb4
            replace hb := chain hb hb4
            clear hb4
            (try go_wp2_with fail)
            refine hko hK (Blk.f4 BV (Blk.l2 BX)) fun hHeld => ?_
            clear hK K
            refine tk 11 37 ?_
            refine tk 12 38 ?_
            refine tk 13 39 ?_
            refine tk 14 4 ?_
            refine wpAnyH_done (by kernel_rfl) ?_ _
            clear hHeld
            go_wp2_with fail
            go_ret
            exact ⟨rfl, hb⟩
          · have f3 : decide (1 < B) = false := decide_eq_false c3
            rw [f3, Bool.false_and]
            clear c3
            obtain ⟨x0, x1, x2, x3, xf, xl⟩ := BV.four
            obtain ⟨z0, z1, zf, zl⟩ := BX.two
            go_enter Tryz.func63, Tryz.ntmps63
            go_wp2_with (first | (go_at_call 102; refine (HI.out _).mono ?_; clear HI; rintro e w1 ⟨rfl, rfl⟩) | (go_at_call 113; refine (HSC.out _).mono ?_; clear HSC; rintro e w2 ⟨rfl, hb2⟩; replace BV := BV.below hb2; replace BX := BX.below hb2; replace hb := chain hb hb2; clear hb2; obtain ⟨x0, x1, x2, x3, xf, xl⟩ := BV.four; obtain ⟨z0, z1, zf, zl⟩ := BX.two))
            clear x0 x1 x2 x3 xf xl z0 z1 zf zl
            have hd_ : w2.drew.heap.size = w2.heap.size := rfl
            replace BV := BV.drew
            replace BX := BX.drew
            replace hb := hb.drew
            refine wp_region_held_drew (S := fun w' => w'.cell? ⟨w.heap.size, 0, none⟩ = some (.int .i64 p) ∧ w'.cell? ⟨w.heap.size, 1, none⟩ = some (.int .i64 c) ∧ w'.cell? ⟨w.heap.size, 2, none⟩ = some (.int .i64 h) ∧ w'.cell? ⟨w.heap.size, 3, none⟩ = some (.int .i64 (S : Int)) ∧ w'.cell? ⟨(w.heap.size + 1), 0, none⟩ = some (.int .i64 xn) ∧ w'.cell? ⟨(w.heap.size + 1), 1, none⟩ = some (.int .i64 xd)) (by kernel_rfl) ⟨BV.four.1, BV.four.2.1, BV.four.2.2.1, BV.four.2.2.2.1, BX.two.1, BX.two.2.1⟩ (fun hHeld => ?_)
            clear hHeld
            generalize w2.drew = vd at *
            have hHeld : vd.cell? ⟨w.heap.size, 0, none⟩ = some (.int .i64 p) ∧ vd.cell? ⟨w.heap.size, 1, none⟩ = some (.int .i64 c) ∧ vd.cell? ⟨w.heap.size, 2, none⟩ = some (.int .i64 h) ∧ vd.cell? ⟨w.heap.size, 3, none⟩ = some (.int .i64 (S : Int)) ∧ vd.cell? ⟨(w.heap.size + 1), 0, none⟩ = some (.int .i64 xn) ∧ vd.cell? ⟨(w.heap.size + 1), 1, none⟩ = some (.int .i64 xd) := ⟨BV.four.1, BV.four.2.1, BV.four.2.2.1, BV.four.2.2.2.1, BX.two.1, BX.two.2.1⟩
            refine tk 0 26 ?_
            refine tk 1 27 ?_
            refine tk 2 28 ?_
            refine rdk 3 29 fun K hK => ?_
            go_simp
            refine (HB.out _).mono ?_
            rintro e w3 ⟨rfl, hb3⟩
            replace BV := BV.below hb3
            replace BX := BX.below hb3
            replace hb := chain hb hb3
            clear hb3
            (try go_wp2_with fail)
            refine hko hK (Blk.f4 BV (Blk.l2 BX)) fun hHeld => ?_
            clear hK K
            refine tk 4 30 ?_
            refine tk 5 31 ?_
            refine tk 6 32 ?_
            refine tkv 7 33 ?_
            refine tkv 8 34 ?_
            refine tkv 9 35 ?_
            refine tkv 10 36 ?_
            refine tkv 11 37 ?_
            refine tkv 12 38 ?_
            refine tk 13 39 ?_
            refine tk 14 4 ?_
            refine wpAnyH_done (by kernel_rfl) ?_ _
            clear hHeld
            go_wp2_with fail
            go_ret
            exact ⟨rfl, hb⟩
theorem low_terms (S : Nat) (hS : 1 ≤ S) (a N b : Int) (D : Nat) (hb : 0 < b) (h : a * ((scN S D : Nat) : Int) = N * b) :
    ∃ (A B : Int) (g : Nat), Int.gcd a b = g ∧ 0 < g ∧ a.tdiv (g : Int) = A ∧ b / (g : Int) = B ∧ 0 < B ∧ B ≤ b ∧ A.natAbs ≤ a.natAbs ∧ Nat.Coprime A.natAbs B.natAbs ∧
      A.natAbs * scN S D = N.natAbs * B.natAbs ∧ (N < 0 ↔ A < 0) := by
  have hg : 0 < Int.gcd a b := Int.gcd_pos_of_ne_zero_right _ (by omega)
  obtain ⟨g, hge⟩ : ∃ g, Int.gcd a b = g := ⟨_, rfl⟩
  rw [hge] at hg
  have hg0 : (0 : Int) < (g : Int) := by omega
  obtain ⟨A, hA⟩ : ∃ A, a = (g : Int) * A := by have := Int.gcd_dvd_left a b; rw [hge] at this; exact this
  obtain ⟨B, hB⟩ : ∃ B, b = (g : Int) * B := by have := Int.gcd_dvd_right a b; rw [hge] at this; exact this
  have hBp : 0 < B := by
    rcases Int.lt_or_le 0 B with q | q
    · exact q
    · have := Int.mul_nonpos_of_nonneg_of_nonpos (show 0 ≤ (g : Int) by omega) q
      omega
  have hbn : b.natAbs = g * B.natAbs := by rw [hB, Int.natAbs_mul, Int.natAbs_natCast]
  have han : a.natAbs = g * A.natAbs := by rw [hA, Int.natAbs_mul, Int.natAbs_natCast]
  have hco : Nat.Coprime A.natAbs B.natAbs := by
    have h1 : Nat.gcd a.natAbs b.natAbs = g := hge
    rw [han, hbn, Nat.gcd_mul_left] at h1
    exact Nat.eq_of_mul_eq_mul_left hg (by rw [h1, Nat.mul_one])
  have hAB : A * ((scN S D : Nat) : Int) = N * B := by
    refine Int.eq_of_mul_eq_mul_left (show (g : Int) ≠ 0 by omega) ?_
    rw [← Int.mul_assoc, ← hA, h, hB]
    simp only [Int.mul_assoc, Int.mul_comm, Int.mul_left_comm]
  refine ⟨A, B, g, hge, hg, ?_, ?_, hBp, ?_, ?_, hco, ?_, ?_⟩
  · rw [hA]; exact Int.mul_tdiv_cancel_left _ (by omega)
  · rw [hB]; exact Int.mul_ediv_cancel_left _ (by omega)
  · have h2 := Nat.le_mul_of_pos_left B.natAbs hg
    rw [← hbn] at h2
    omega
  · rw [han]; exact Nat.le_mul_of_pos_left _ hg
  · have h2 := congrArg Int.natAbs hAB
    rw [Int.natAbs_mul, Int.natAbs_mul, Int.natAbs_natCast] at h2
    exact h2
  · have hsp := scN_pos hS D
    constructor
    · intro q
      have h3 := Int.mul_neg_of_neg_of_pos q hBp
      rw [← hAB] at h3
      rcases Int.lt_or_le A 0 with q2 | q2
      · exact q2
      · have := Int.mul_nonneg q2 (show (0 : Int) ≤ ((scN S D : Nat) : Int) by omega)
        omega
    · intro q
      have h3 := Int.mul_neg_of_neg_of_pos q (show (0 : Int) < ((scN S D : Nat) : Int) by omega)
      rw [hAB] at h3
      rcases Int.lt_or_le N 0 with q2 | q2
      · exact q2
      · have := Int.mul_nonneg q2 (show 0 ≤ B by omega)
        omega
theorem fit_found {S k D : Nat} {A B N : Int} (hS : 1 ≤ S ∧ S ≤ 6) (hB : 0 < B) (hco : Nat.Coprime A.natAbs B.natAbs) (h : A.natAbs * scN S D = N.natAbs * B.natAbs) (hs : N < 0 ↔ A < 0) (hk : k ≤ D) (hD : D < nn S)
    (h1 : scN S k % B.natAbs = 0) (h0 : ∀ j, j < k → scN S j % B.natAbs ≠ 0) :
    rdX S N D = if (A * ((scN S k / B.natAbs : Nat) : Int)).natAbs ≤ 1000000000000000000 then some (A * ((scN S k / B.natAbs : Nat) : Int), (k : Int)) else none := by
  have e := fit_end (B := S * S) (a := A.natAbs) (b := B.natAbs) (N := N.natAbs) (D := D) (k := k) (base_range hS).1 (by omega) hco h hk h1 h0
  unfold rdX
  rw [e]
  dsimp only
  have e2 : (A * ((scN S k / B.natAbs : Nat) : Int)).natAbs = A.natAbs * ((S * S) ^ k / B.natAbs) := by rw [Int.natAbs_mul, Int.natAbs_natCast]; rfl
  rw [e2]
  have e3 : sgI N (A.natAbs * ((S * S) ^ k / B.natAbs)) = A * ((scN S k / B.natAbs : Nat) : Int) := by
    unfold sgI scN
    generalize (S * S) ^ k / B.natAbs = T
    rw [Int.natCast_mul]
    by_cases q : N < 0
    · rw [if_pos q, ← Int.neg_mul]
      have := hs.1 q
      congr 1
      omega
    · rw [if_neg q]
      have : ¬ A < 0 := fun z => q (hs.2 z)
      congr 1
      omega
  rw [e3]
  by_cases q : A.natAbs * ((S * S) ^ k / B.natAbs) ≤ 1000000000000000000
  · rw [if_pos ⟨by omega, q⟩, if_pos q]
  · rw [if_neg (fun z => q z.2), if_neg q]
set_option maxRecDepth 8000 in
set_option maxHeartbeats 2000000 in
theorem l09Fit_any (p c h : Int) (S : Nat) (hS : 1 ≤ S ∧ S ≤ 6) (a N b : Int) (D : Nat) (hD : D < nn S) (hb0 : 0 < b ∧ b ≤ 1000000000000000) (ha : -9223372036854775807 ≤ a ∧ a ≤ 9223372036854775807) (hab : a * ((scN S D : Nat) : Int) = N * b) (w : World) :
    Calls Tryz.prog 125 #[.agg #[.int .i64 p, .int .i64 c, .int .i64 h, .int .i64 (S : Int)], .int .i64 a, .int .i64 b] w fun e w' => ∃ u v, e = .returned (.tuple #[.agg #[.int .i64 u, .int .i64 v], .bool (rdX S N D).isSome]) ∧ (∀ q, rdX S N D = some q → u = q.1 ∧ v = q.2) ∧ Below w.heap.size w w' := by
  obtain ⟨A, B, g, hg, hg0, hA, hB, hB0, hB1, hA1, hco, hAN, hsg⟩ := low_terms S hS.1 a N b D hb0.1 hab
  have hgc := fun W => l09Gcd_any a b ha (by omega) W
  rw [hg] at hgc
  obtain ⟨G, hG⟩ : ∃ G : Int, (g : Int) = G := ⟨_, rfl⟩
  rw [hG] at hgc hA hB
  have G0 : 0 < G := by omega
  have G1 : G ≠ 0 := by omega
  have hA3 : -9223372036854775807 ≤ A ∧ A ≤ 9223372036854775807 := by omega
  obtain ⟨A4, A5⟩ := hA3
  have wA : IntKind.i64.wrap A = A := IntWalk.i64_in _ (by omega)
  have wB : IntKind.i64.wrap B = B := IntWalk.i64_in _ (by omega)
  have hBt : b.tdiv G = B := by rw [← hB]; exact Int.tdiv_eq_ediv_of_nonneg (by omega)
  have hBn : B ≠ 0 := by omega
  have HG := Lib.hid hgc
  have HCO := Lib.hid hco
  have HAN := Lib.hid hAN
  have HSG := Lib.hid hsg
  have BB1 : B ≤ 1000000000000000 := by omega
  have hend : scN S D % B.natAbs = 0 := by
    rw [show scN S D = (S * S) ^ D from rfl, fit_iff (base_range hS).1 (by omega) hco hAN (Nat.le_refl D), Nat.sub_self, Nat.pow_zero, Nat.mod_one]
  have HEND := Lib.hid hend
  obtain ⟨R, hR⟩ : ∃ R, rdX S N D = R := ⟨_, rfl⟩
  rw [hR]
  have HR := Lib.hid hR
  clear hR
  obtain ⟨BV, BO, hb, hz⟩ := two_new w #[.int .i64 p, .int .i64 c, .int .i64 h, .int .i64 (S : Int)] #[.int .i64 0, .int .i64 0] 25 35
  obtain ⟨x0, x1, x2, x3, xf, xl⟩ := BV.four
  obtain ⟨z0, z1, zf, zl⟩ := BO.two
  clear hgc hco hAN hsg hend hab hg hG hA1 hg0 ha
  go_enter Tryz.func125, Tryz.ntmps125
  go_wp2_with (go_at_call 161; refine (HG.out _).mono ?_; clear HG; rintro e w1 ⟨rfl, rfl⟩)
  clear x0 x1 x2 x3 xf xl z0 z1 zf zl hA hB hBt
  generalize ((w.alloc (.cells #[.int .i64 p, .int .i64 c, .int .i64 h, .int .i64 (S : Int)] 25)).alloc (.cells #[.int .i64 0, .int .i64 0] 35)) = v0 at *
  go_loopg [9] D (fun m q9 wr => ∃ k : Nat, k ≤ D ∧ m = D - k ∧ q9 = .int .i64 (k : Int) ∧ Hid (∀ j, j < k → scN S j % B.natAbs ≠ 0) ∧ Blk wr w.heap.size #[.int .i64 p, .int .i64 c, .int .i64 h, .int .i64 (S : Int)] 25 ∧ Blk wr (w.heap.size + 1) #[.int .i64 0, .int .i64 0] 35 ∧ Below w.heap.size w wr)
  case atStart => exact ⟨0, by omega, by omega, rfl, Lib.hid (fun j hj => by omega), BV, BO, hb⟩
  case round =>
    clear BV BO hb
    obtain ⟨k, hk, hm, rfl, HALL, BV, BO, hb⟩ := hrel
    have hn := nn_range hS
    have hsc := fun W => l09Scale_any p c h S hS (k : Int) (by omega) W
    have hsb : slB S (k : Int) = true := by unfold slB; rw [decide_eq_true (.inr (by omega))]
    have hsv : slV S (k : Int) = ((scN S k : Nat) : Int) := slV_is hsb (.inl (Int.toNat_natCast k))
    have hCle := scN_in hS (show k < nn S by omega)
    have hCpos := scN_pos hS.1 k
    obtain ⟨C, hC⟩ : ∃ C : Int, ((scN S k : Nat) : Int) = C := ⟨_, rfl⟩
    rw [hsb, hsv, hC] at hsc
    have C0 : 1 ≤ C ∧ C ≤ 1000000000000000 := by omega
    obtain ⟨C1, C2⟩ := C0
    have HSC := Lib.hid hsc
    have hmod : ((scN S k % B.natAbs : Nat) : Int) = C % B := by rw [Int.natCast_emod, hC]; congr 1; omega
    have hmt : C.tmod B = C % B := Int.tmod_eq_emod_of_nonneg (by omega)
    by_cases cz : scN S k % B.natAbs = 0
    · have fz : (C % B == 0) = true := by rw [beq_iff_eq, ← hmod]; omega
      have hfound := fit_found hS hB0 HCO.out HAN.out HSG.out hk hD cz HALL.out
      obtain ⟨T, hT⟩ : ∃ T : Int, ((scN S k / B.natAbs : Nat) : Int) = T := ⟨_, rfl⟩
      rw [hT] at hfound
      have hdiv : C / B = T := by rw [← hT, Int.natCast_ediv, hC]; congr 1; omega
      have hdt : C.tdiv B = T := by rw [← hdiv]; exact Int.tdiv_eq_ediv_of_nonneg (by omega)
      have hT0 : 0 ≤ T ∧ T ≤ 1000000000000000 := by
        rw [← hT]
        exact ⟨Int.natCast_nonneg _, Int.ofNat_le.2 (Nat.le_trans (Nat.div_le_self _ _) hCle)⟩
      have wT : IntKind.i64.wrap T = T := IntWalk.i64_in _ (by omega)
      have htm := fun W => l09Times_any A T (by omega) (by omega) W
      unfold tmV tmB at htm
      by_cases c : (A * T).natAbs ≤ 1000000000000000000
      · rw [if_pos c] at hfound
        simp only [if_pos c, decide_eq_true c] at htm
        have hin := fun W => l01In_any (A * T) (-1000000000000000000) 1000000000000000000 W
        rw [show inB (A * T) (-1000000000000000000) 1000000000000000000 = true by unfold inB; rw [decide_eq_true (by omega)]] at hin
        obtain ⟨U, hU⟩ : ∃ U, A * T = U := ⟨_, rfl⟩
        rw [hU] at htm hin hfound
        obtain rfl : R = some (U, (k : Int)) := by rw [← HR.out]; exact hfound
        have HT := Lib.hid htm
        have HI := Lib.hid hin
        clear htm hin hfound c hU hmod hT hC hsc hsb hsv hCle hCpos cz hT0
        obtain ⟨x0, x1, x2, x3, xf, xl⟩ := BV.four
        obtain ⟨z0, z1, zf, zl⟩ := BO.two
        go_wp2_with (first | (go_at_call 113; refine (HSC.out _).mono ?_; clear HSC; rintro e w2 ⟨rfl, hb2⟩; replace BV := BV.below hb2; replace BO := BO.below hb2; replace hb := chain hb hb2; clear hb2; obtain ⟨x0, x1, x2, x3, xf, xl⟩ := BV.four; obtain ⟨z0, z1, zf, zl⟩ := BO.two) | (go_at_call 162; refine (HT.out _).mono ?_; clear HT; rintro e w3 ⟨rfl, rfl⟩) | (go_at_call 102; refine (HI.out _).mono ?_; clear HI; rintro e w4 ⟨rfl, rfl⟩))
        have BRn := BO.set2 (.int .i64 U) (.int .i64 (k : Int))
        obtain ⟨u0, u1, uf, ul⟩ := BRn.two
        refine bodyPost_ret (v := .tuple #[.agg #[.int .i64 U, .int .i64 (k : Int)], .bool true]) (by simp [results, Tryz.results125, go_sem, u0, u1]) rfl ?_
        exact ⟨_, _, rfl, fun q hq => by cases hq; exact ⟨rfl, rfl⟩, belowFar2 hb (by omega) _ _⟩
      · rw [if_neg c] at hfound
        simp only [if_neg c, decide_eq_false c] at htm
        obtain rfl : R = none := by rw [← HR.out]; exact hfound
        have HT := Lib.hid htm
        clear htm hfound c hmod hT hC hsc hsb hsv hCle hCpos cz hT0
        obtain ⟨x0, x1, x2, x3, xf, xl⟩ := BV.four
        obtain ⟨z0, z1, zf, zl⟩ := BO.two
        go_wp2_with (first | (go_at_call 113; refine (HSC.out _).mono ?_; clear HSC; rintro e w2 ⟨rfl, hb2⟩; replace BV := BV.below hb2; replace BO := BO.below hb2; replace hb := chain hb hb2; clear hb2; obtain ⟨x0, x1, x2, x3, xf, xl⟩ := BV.four; obtain ⟨z0, z1, zf, zl⟩ := BO.two) | (go_at_call 162; refine (HT.out _).mono ?_; clear HT; rintro e w3 ⟨rfl, rfl⟩))
        have BRn := BO.set2 (.int .i64 0) (.int .i64 (k : Int))
        obtain ⟨u0, u1, uf, ul⟩ := BRn.two
        refine bodyPost_ret (v := .tuple #[.agg #[.int .i64 0, .int .i64 (k : Int)], .bool false]) (by simp [results, Tryz.results125, go_sem, u0, u1]) rfl ?_
        exact ⟨_, _, rfl, (fun q hq => by cases hq), belowFar2 hb (by omega) _ _⟩
    · have fz : (C % B == 0) = false := by rw [beq_eq_false_iff_ne, ← hmod]; omega
      have hkD : k < D := by
        rcases Nat.lt_or_ge k D with q | q
        · exact q
        · exfalso
          have : k = D := by omega
          subst this
          exact cz HEND.out
      have HALL2 : Hid (∀ j, j < k + 1 → scN S j % B.natAbs ≠ 0) := Lib.hid (fun j hj => by
        by_cases e : j = k
        · subst e; exact cz
        · exact HALL.out j (by omega))
      clear cz hmod hC hsc hsb hsv hCle hCpos
      obtain ⟨x0, x1, x2, x3, xf, xl⟩ := BV.four
      obtain ⟨z0, z1, zf, zl⟩ := BO.two
      go_wp2_with (go_at_call 113; refine (HSC.out _).mono ?_; clear HSC; rintro e w2 ⟨rfl, hb2⟩; replace BV := BV.below hb2; replace BO := BO.below hb2; replace hb := chain hb hb2; clear hb2; obtain ⟨x0, x1, x2, x3, xf, xl⟩ := BV.four; obtain ⟨z0, z1, zf, zl⟩ := BO.two)
      go_roundg (D - (k + 1))
      case measure => omega
      case rel => exact ⟨k + 1, by omega, rfl, by go_num, HALL2, BV, BO, hb⟩
theorem rdX_some {S : Nat} {n : Int} {D : Nat} (hn : -1000000000000000000 ≤ n ∧ n ≤ 1000000000000000000) (hD : D < nn S) : ∃ u v, rdX S n D = some (u, v) := by
  have h := rdN_le (S * S) D n.natAbs
  unfold rdX
  rw [if_pos ⟨by omega, by omega⟩]
  exact ⟨_, _, rfl⟩
end Go.Proofs.YtlnljfbdicgkcaaGreat
