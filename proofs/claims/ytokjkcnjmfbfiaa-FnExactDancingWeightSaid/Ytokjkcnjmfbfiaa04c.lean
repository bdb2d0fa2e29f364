/- Contracts of the program's legal step from a place. -/
import Derived.Test.Ytokjkcnjmfbfiaa04b
namespace Go.Proofs.Ytokjkcnjmfbfiaa
open Go.ChangeShapes Go.WideShapes Go.ChangeAt Go.RowKit
set_option linter.unusedVariables false
set_option linter.unusedSimpArgs false
set_option maxRecDepth 4000

/-- Where a die leads a checker. -/
def toI (P k : Nat) (d : Int) : Int := if k = P ∨ d ≤ (k : Int) then (k : Int) - d else -1
/-- The rules allow a motion. -/
def alB (P : Nat) (h : Int) (xs ys : List Int) (k : Nat) (d : Int) : Bool :=
  if k = P then openB P ys ((k : Int) - d) else if d ≤ (k : Int) then decide (lastL xs xs.length < (P : Int)) && openB P ys ((k : Int) - d)
  else decide (lastL xs xs.length < h) && (decide ((k : Int) = d - 1) || decide ((k : Int) = lastL xs xs.length))
/-- The step that a die makes from a place, if it is legal (on a board that is not over). -/
def stepI (P : Nat) (h : Int) (xs ys : List Int) (k : Nat) (d : Int) : Option Stp :=
  if xs.getD k 0 = 0 then none else if alB P h xs ys k d = true then some ((k : Int), toI P k d, d, decide (toI P k d ≠ -1) && decide (0 < ys.getD (P - 1 - (toI P k d).toNat) 0)) else none
/-- A step and whether it is one. -/
def StepGot (r : Option Stp) (w : World) (e : Ending) (w' : World) : Prop :=
  ∃ (x : Stp) (ok : Bool), e = .returned (.tuple #[stV x, .bool ok]) ∧ r = (if ok = true then some x else none) ∧ Below w.heap.size w w'
theorem below_set4 {B g : Nat} {w W : World} (h : Below B w W) (hg : B ≤ g) (a b c d : Value) : Below B w ((((W.setCell ⟨g, 0, none⟩ a).setCell ⟨g, 1, none⟩ b).setCell ⟨g, 2, none⟩ c).setCell ⟨g, 3, none⟩ d) :=
  (((h.setCell hg _).setCell hg _).setCell hg _).setCell hg _
set_option maxRecDepth 8000 in
set_option maxHeartbeats 2000000 in
theorem stepFrom_none (P : Nat) (c h s : Int) (f1 f2 B : Nat) (xs ys : List Int) (w : World) (p0 : 2 ≤ P) (p1 : P ≤ 24) (n1 : xs.length = P + 1) (n2 : ys.length = P + 1) (hx : ∀ x ∈ xs, 0 ≤ x ∧ x ≤ 1000) (hy : ∀ y ∈ ys, 0 ≤ y ∧ y ≤ 1000) (q1 : Pays f1 B xs w) (q2 : Pays f2 B ys w) (k : Nat) (d : Int) (k1 : k ≤ P) (g0 : xs.getD k 0 = 0) :
    Calls Try.prog 160 #[.agg #[.int .i64 (P : Int), .int .i64 c, .int .i64 h, .int .i64 s], tv (P : Int) f1 f2 B, .int .i64 (k : Int), .int .i64 d] w (StepGot none w) := by
  have e199 := q1.1
  have hpk := fun W (hW : Below w.heap.size w W) => (q1.below hW).2 W (Below.refl _ _) k (by omega)
  rw [g0] at hpk
  have HP := Lib.hid hpk
  clear hpk g0
  obtain ⟨BV, BT, BR, hb, hz⟩ := three_new w #[.int .i64 (P : Int), .int .i64 c, .int .i64 h, .int .i64 s] #[.int .i64 (P : Int), fv f1 B, fv f2 B] #[.int .i64 0, .int .i64 0, .int .i64 0, .bool false] 32 151 112
  obtain ⟨x0, x1, x2, x3, xf, xl⟩ := BV.four
  obtain ⟨z0, z1, z2, zf, zl⟩ := BT.tri
  obtain ⟨r0, r1, r2, r3, rf, rl⟩ := BR.four
  go_enter Try.func160, Try.ntmps160
  go_wp2_with (first | (go_at_fn f1; refine (HP.out _ hb).mono ?_; rintro e w1 ⟨rfl, hb1⟩; obtain ⟨x0, x1, x2, x3, xf, xl⟩ := (BV.below hb1).four; obtain ⟨z0, z1, z2, zf, zl⟩ := (BT.below hb1).tri; obtain ⟨r0, r1, r2, r3, rf, rl⟩ := (BR.below hb1).four))
  refine bodyPost_ret (v := .tuple #[stV (0, 0, 0, false), .bool false]) (by simp [results, Try.results160, go_sem, *]) rfl ⟨(0, 0, 0, false), false, rfl, rfl, ?_⟩
  exact below_set4 (chain hb hb1) (by omega) _ _ _ _
theorem met_entering_from (x : Value) (w : World) : (method 315 195 x "loop.example/g00885/impl.from").run Try.prog w = .ok (201, x) w := by kernel_rfl
theorem met_entering_to (x : Value) (w : World) : (method 315 195 x "loop.example/g00885/impl.to").run Try.prog w = .ok (180, x) w := by kernel_rfl
theorem met_moving_from (x : Value) (w : World) : (method 315 197 x "loop.example/g00885/impl.from").run Try.prog w = .ok (202, x) w := by kernel_rfl
theorem met_moving_to (x : Value) (w : World) : (method 315 197 x "loop.example/g00885/impl.to").run Try.prog w = .ok (181, x) w := by kernel_rfl
theorem met_bearingOff_from (x : Value) (w : World) : (method 315 198 x "loop.example/g00885/impl.from").run Try.prog w = .ok (203, x) w := by kernel_rfl
theorem met_bearingOff_to (x : Value) (w : World) : (method 315 198 x "loop.example/g00885/impl.to").run Try.prog w = .ok (204, x) w := by kernel_rfl
set_option maxRecDepth 8000 in
set_option maxHeartbeats 2000000 in
theorem stepFrom_enter_false (P : Nat) (c h s : Int) (f1 f2 B : Nat) (xs ys : List Int) (w : World) (p0 : 2 ≤ P) (p1 : P ≤ 24) (n1 : xs.length = P + 1) (n2 : ys.length = P + 1) (hx : ∀ x ∈ xs, 0 ≤ x ∧ x ≤ 1000) (hy : ∀ y ∈ ys, 0 ≤ y ∧ y ≤ 1000) (q1 : Pays f1 B xs w) (q2 : Pays f2 B ys w) (d : Int) (d0 : 1 ≤ d) (d1 : d ≤ 1000) (g0 : ¬ xs.getD P 0 = 0) (hal : openB P ys ((P : Int) - d) = false) :
    Calls Try.prog 160 #[.agg #[.int .i64 (P : Int), .int .i64 c, .int .i64 h, .int .i64 s], tv (P : Int) f1 f2 B, .int .i64 (P : Int), .int .i64 d] w (StepGot none w) := by
  have e199 := q1.1
  have hpk := fun W (hW : Below w.heap.size w W) => (q1.below hW).2 W (Below.refl _ _) P (by omega)
  have hal0 := fun W (hW : Below w.heap.size w W) => allowsEnter_any P c h s f1 f2 B xs ys W p0 p1 n1 n2 hx hy (q1.below hW) (q2.below hW) (P : Int) d (by omega) (by omega) d0 d1
  rw [hal] at hal0
  have hmo : ∀ W, Calls Try.prog 174 #[tv (P : Int) f1 f2 B, .int .i64 (P : Int), .int .i64 d] W fun e w' => e = .returned (.iface 195 (.agg #[.int .i64 (P : Int), .int .i64 d])) ∧ Below W.heap.size W w' := fun W => by
    have q := motionOf_any P f1 f2 B (P : Int) d W
    rwa [show motV P (P : Int) d = .iface 195 (.agg #[.int .i64 (P : Int), .int .i64 d]) from by rw [motV, if_pos (by omega)]] at q
  obtain ⟨u, hu⟩ : ∃ u, xs.getD P 0 = u := ⟨_, rfl⟩
  rw [hu] at hpk g0
  have HP := Lib.hid hpk
  have HM := Lib.hid hmo
  have HA := Lib.hid hal0
  clear hpk hmo hal0 hal hu
  obtain ⟨BV, BT, BR, hb, hz⟩ := three_new w #[.int .i64 (P : Int), .int .i64 c, .int .i64 h, .int .i64 s] #[.int .i64 (P : Int), fv f1 B, fv f2 B] #[.int .i64 0, .int .i64 0, .int .i64 0, .bool false] 32 151 112
  obtain ⟨x0, x1, x2, x3, xf, xl⟩ := BV.four
  obtain ⟨z0, z1, z2, zf, zl⟩ := BT.tri
  obtain ⟨r0, r1, r2, r3, rf, rl⟩ := BR.four
  go_enter Try.func160, Try.ntmps160
  go_wp2_with (first | (go_at_fn f1; refine (HP.out _ hb).mono ?_; rintro e w1 ⟨rfl, hb1⟩; obtain ⟨x0, x1, x2, x3, xf, xl⟩ := (BV.below hb1).four; obtain ⟨z0, z1, z2, zf, zl⟩ := (BT.below hb1).tri; obtain ⟨r0, r1, r2, r3, rf, rl⟩ := (BR.below hb1).four) | (go_at_call 174; refine (HM.out _).mono ?_; rintro e w2 ⟨rfl, hb2⟩; obtain ⟨x0, x1, x2, x3, xf, xl⟩ := (BV.below (chain hb1 hb2)).four; obtain ⟨z0, z1, z2, zf, zl⟩ := (BT.below (chain hb1 hb2)).tri; obtain ⟨r0, r1, r2, r3, rf, rl⟩ := (BR.below (chain hb1 hb2)).four) | (go_at_call 175; refine (HA.out _ (chain hb (chain hb1 hb2))).mono ?_; rintro e w3 ⟨rfl, hb3⟩; obtain ⟨x0, x1, x2, x3, xf, xl⟩ := (BV.below (chain (chain hb1 hb2) hb3)).four; obtain ⟨z0, z1, z2, zf, zl⟩ := (BT.below (chain (chain hb1 hb2) hb3)).tri; obtain ⟨r0, r1, r2, r3, rf, rl⟩ := (BR.below (chain (chain hb1 hb2) hb3)).four))
  refine bodyPost_ret (v := .tuple #[stV (0, 0, 0, false), .bool false]) (by simp [results, Try.results160, go_sem, *]) rfl ⟨(0, 0, 0, false), false, rfl, rfl, ?_⟩
  exact below_set4 (chain hb (chain (chain hb1 hb2) hb3)) (by omega) _ _ _ _
set_option maxRecDepth 8000 in
set_option maxHeartbeats 2000000 in
theorem stepFrom_enter_true (P : Nat) (c h s : Int) (f1 f2 B : Nat) (xs ys : List Int) (w : World) (p0 : 2 ≤ P) (p1 : P ≤ 24) (n1 : xs.length = P + 1) (n2 : ys.length = P + 1) (hx : ∀ x ∈ xs, 0 ≤ x ∧ x ≤ 1000) (hy : ∀ y ∈ ys, 0 ≤ y ∧ y ≤ 1000) (q1 : Pays f1 B xs w) (q2 : Pays f2 B ys w) (d : Int) (d0 : 1 ≤ d) (d1 : d ≤ 1000) (g0 : ¬ xs.getD P 0 = 0) (hal : openB P ys ((P : Int) - d) = true) (t : Nat) (v : Int) (ht : (P : Int) - d = (t : Int)) (tP : t < P) (hv : ys.getD (P - 1 - t) 0 = v) :
    Calls Try.prog 160 #[.agg #[.int .i64 (P : Int), .int .i64 c, .int .i64 h, .int .i64 s], tv (P : Int) f1 f2 B, .int .i64 (P : Int), .int .i64 d] w (StepGot (some ((P : Int), (t : Int), d, decide (0 < v))) w) := by
  have e199 := q1.1
  have hpk := fun W (hW : Below w.heap.size w W) => (q1.below hW).2 W (Below.refl _ _) P (by omega)
  have hal0 := fun W (hW : Below w.heap.size w W) => allowsEnter_any P c h s f1 f2 B xs ys W p0 p1 n1 n2 hx hy (q1.below hW) (q2.below hW) (P : Int) d (by omega) (by omega) d0 d1
  rw [hal] at hal0
  have hmo : ∀ W, Calls Try.prog 174 #[tv (P : Int) f1 f2 B, .int .i64 (P : Int), .int .i64 d] W fun e w' => e = .returned (.iface 195 (.agg #[.int .i64 (P : Int), .int .i64 d])) ∧ Below W.heap.size W w' := fun W => by
    have q := motionOf_any P f1 f2 B (P : Int) d W
    rwa [show motV P (P : Int) d = .iface 195 (.agg #[.int .i64 (P : Int), .int .i64 d]) from by rw [motV, if_pos (by omega)]] at q
  obtain ⟨u, hu⟩ : ∃ u, xs.getD P 0 = u := ⟨_, rfl⟩
  rw [hu] at hpk g0
  have HP := Lib.hid hpk
  have HM := Lib.hid hmo
  have HA := Lib.hid hal0
  have hmf := fun (x : Value) (W : World) => met_entering_from x W
  have hmt := fun (x : Value) (W : World) => met_entering_to x W
  have hto := fun W => enterTo_any (P : Int) d W (by omega) (by omega) (by omega) d1
  rw [ht] at hto
  have HT := Lib.hid hto
  clear hto
  have hfk := fun W (hW : Below w.heap.size w W) => facing_any P t f1 f2 B ys W p1 tP n2 (q2.below hW)
  rw [hv] at hfk
  have HF := Lib.hid hfk
  clear hfk hv
  clear hpk hmo hal0 hal hu
  obtain ⟨BV, BT, BR, hb, hz⟩ := three_new w #[.int .i64 (P : Int), .int .i64 c, .int .i64 h, .int .i64 s] #[.int .i64 (P : Int), fv f1 B, fv f2 B] #[.int .i64 0, .int .i64 0, .int .i64 0, .bool false] 32 151 112
  obtain ⟨x0, x1, x2, x3, xf, xl⟩ := BV.four
  obtain ⟨z0, z1, z2, zf, zl⟩ := BT.tri
  obtain ⟨r0, r1, r2, r3, rf, rl⟩ := BR.four
  go_enter Try.func160, Try.ntmps160
  go_wp2_with (first | (go_at_fn f1; refine (HP.out _ hb).mono ?_; rintro e w1 ⟨rfl, hb1⟩; obtain ⟨x0, x1, x2, x3, xf, xl⟩ := (BV.below hb1).four; obtain ⟨z0, z1, z2, zf, zl⟩ := (BT.below hb1).tri; obtain ⟨r0, r1, r2, r3, rf, rl⟩ := (BR.below hb1).four) | (go_at_call 174; refine (HM.out _).mono ?_; rintro e w2 ⟨rfl, hb2⟩; obtain ⟨x0, x1, x2, x3, xf, xl⟩ := (BV.below (chain hb1 hb2)).four; obtain ⟨z0, z1, z2, zf, zl⟩ := (BT.below (chain hb1 hb2)).tri; obtain ⟨r0, r1, r2, r3, rf, rl⟩ := (BR.below (chain hb1 hb2)).four) | (go_at_call 175; refine (HA.out _ (chain hb (chain hb1 hb2))).mono ?_; rintro e w3 ⟨rfl, hb3⟩; obtain ⟨x0, x1, x2, x3, xf, xl⟩ := (BV.below (chain (chain hb1 hb2) hb3)).four; obtain ⟨z0, z1, z2, zf, zl⟩ := (BT.below (chain (chain hb1 hb2) hb3)).tri; obtain ⟨r0, r1, r2, r3, rf, rl⟩ := (BR.below (chain (chain hb1 hb2) hb3)).four) | (go_at_call 201; refine (enterFrom_any _ _ _).mono ?_; rintro e w4 ⟨rfl, hb4⟩; obtain ⟨x0, x1, x2, x3, xf, xl⟩ := (BV.below (chain (chain (chain hb1 hb2) hb3) hb4)).four; obtain ⟨z0, z1, z2, zf, zl⟩ := (BT.below (chain (chain (chain hb1 hb2) hb3) hb4)).tri; obtain ⟨r0, r1, r2, r3, rf, rl⟩ := (BR.below (chain (chain (chain hb1 hb2) hb3) hb4)).four) | (go_at_call 180; refine (HT.out _).mono ?_; rintro e w5 ⟨rfl, hb5⟩; obtain ⟨x0, x1, x2, x3, xf, xl⟩ := (BV.below (chain (chain (chain (chain hb1 hb2) hb3) hb4) hb5)).four; obtain ⟨z0, z1, z2, zf, zl⟩ := (BT.below (chain (chain (chain (chain hb1 hb2) hb3) hb4) hb5)).tri; obtain ⟨r0, r1, r2, r3, rf, rl⟩ := (BR.below (chain (chain (chain (chain hb1 hb2) hb3) hb4) hb5)).four) | (go_at_call 159; refine (HF.out _ ((chain hb (chain (chain (chain (chain hb1 hb2) hb3) hb4) hb5)).alloc (chain hb (chain (chain (chain (chain hb1 hb2) hb3) hb4) hb5)).size _)).mono ?_; rintro e w6 ⟨rfl, hb6⟩; obtain ⟨x0, x1, x2, x3, xf, xl⟩ := (BV.below (chain (chain (chain (chain (chain hb1 hb2) hb3) hb4) hb5) (from_alloc hb6))).four; obtain ⟨z0, z1, z2, zf, zl⟩ := (BT.below (chain (chain (chain (chain (chain hb1 hb2) hb3) hb4) hb5) (from_alloc hb6))).tri; obtain ⟨r0, r1, r2, r3, rf, rl⟩ := (BR.below (chain (chain (chain (chain (chain hb1 hb2) hb3) hb4) hb5) (from_alloc hb6))).four; obtain ⟨s0, s1, s2, s3, sf, sl⟩ := ((Blk.new w5 #[.int .i64 (P : Int), .int .i64 (t : Int), .int .i64 d, .bool false] 112).below hb6).four))
  refine bodyPost_ret (v := .tuple #[stV ((P : Int), (t : Int), d, decide (0 < v)), .bool true]) (by simp [results, Try.results160, go_sem, *]) rfl ⟨((P : Int), (t : Int), d, decide (0 < v)), true, rfl, rfl, ?_⟩
  exact below_set4 ((chain (chain hb (chain (chain (chain (chain hb1 hb2) hb3) hb4) hb5)) (from_alloc hb6)).setCell (chain hb (chain (chain (chain (chain hb1 hb2) hb3) hb4) hb5)).size _) (by omega) _ _ _ _
set_option maxRecDepth 8000 in
set_option maxHeartbeats 2000000 in
theorem stepFrom_move_false (P : Nat) (c h s : Int) (f1 f2 B : Nat) (xs ys : List Int) (w : World) (p0 : 2 ≤ P) (p1 : P ≤ 24) (n1 : xs.length = P + 1) (n2 : ys.length = P + 1) (hx : ∀ x ∈ xs, 0 ≤ x ∧ x ≤ 1000) (hy : ∀ y ∈ ys, 0 ≤ y ∧ y ≤ 1000) (q1 : Pays f1 B xs w) (q2 : Pays f2 B ys w) (k : Nat) (d : Int) (k1 : k ≤ P) (d0 : 1 ≤ d) (d1 : d ≤ 1000) (g0 : ¬ xs.getD k 0 = 0) (hk : k ≠ P) (hd : d ≤ (k : Int)) (hal : (decide (lastL xs xs.length < (P : Int)) && openB P ys ((k : Int) - d)) = false) :
    Calls Try.prog 160 #[.agg #[.int .i64 (P : Int), .int .i64 c, .int .i64 h, .int .i64 s], tv (P : Int) f1 f2 B, .int .i64 (k : Int), .int .i64 d] w (StepGot none w) := by
  have e199 := q1.1
  have hpk := fun W (hW : Below w.heap.size w W) => (q1.below hW).2 W (Below.refl _ _) k (by omega)
  have hal0 := fun W (hW : Below w.heap.size w W) => allowsMove_any P c h s f1 f2 B xs ys W p0 p1 n1 n2 hx hy (q1.below hW) (q2.below hW) (k : Int) d (by omega) (by omega) d0 d1 (by omega) (by omega)
  rw [hal] at hal0
  have hmo : ∀ W, Calls Try.prog 174 #[tv (P : Int) f1 f2 B, .int .i64 (k : Int), .int .i64 d] W fun e w' => e = .returned (.iface 197 (.agg #[.int .i64 (k : Int), .int .i64 d])) ∧ Below W.heap.size W w' := fun W => by
    have q := motionOf_any P f1 f2 B (k : Int) d W
    rwa [show motV P (k : Int) d = .iface 197 (.agg #[.int .i64 (k : Int), .int .i64 d]) from by rw [motV, if_neg (by omega), if_pos (by omega)]] at q
  obtain ⟨u, hu⟩ : ∃ u, xs.getD k 0 = u := ⟨_, rfl⟩
  rw [hu] at hpk g0
  have HP := Lib.hid hpk
  have HM := Lib.hid hmo
  have HA := Lib.hid hal0
  clear hpk hmo hal0 hal hu
  obtain ⟨BV, BT, BR, hb, hz⟩ := three_new w #[.int .i64 (P : Int), .int .i64 c, .int .i64 h, .int .i64 s] #[.int .i64 (P : Int), fv f1 B, fv f2 B] #[.int .i64 0, .int .i64 0, .int .i64 0, .bool false] 32 151 112
  obtain ⟨x0, x1, x2, x3, xf, xl⟩ := BV.four
  obtain ⟨z0, z1, z2, zf, zl⟩ := BT.tri
  obtain ⟨r0, r1, r2, r3, rf, rl⟩ := BR.four
  go_enter Try.func160, Try.ntmps160
  go_wp2_with (first | (go_at_fn f1; refine (HP.out _ hb).mono ?_; rintro e w1 ⟨rfl, hb1⟩; obtain ⟨x0, x1, x2, x3, xf, xl⟩ := (BV.below hb1).four; obtain ⟨z0, z1, z2, zf, zl⟩ := (BT.below hb1).tri; obtain ⟨r0, r1, r2, r3, rf, rl⟩ := (BR.below hb1).four) | (go_at_call 174; refine (HM.out _).mono ?_; rintro e w2 ⟨rfl, hb2⟩; obtain ⟨x0, x1, x2, x3, xf, xl⟩ := (BV.below (chain hb1 hb2)).four; obtain ⟨z0, z1, z2, zf, zl⟩ := (BT.below (chain hb1 hb2)).tri; obtain ⟨r0, r1, r2, r3, rf, rl⟩ := (BR.below (chain hb1 hb2)).four) | (go_at_call 175; refine (HA.out _ (chain hb (chain hb1 hb2))).mono ?_; rintro e w3 ⟨rfl, hb3⟩; obtain ⟨x0, x1, x2, x3, xf, xl⟩ := (BV.below (chain (chain hb1 hb2) hb3)).four; obtain ⟨z0, z1, z2, zf, zl⟩ := (BT.below (chain (chain hb1 hb2) hb3)).tri; obtain ⟨r0, r1, r2, r3, rf, rl⟩ := (BR.below (chain (chain hb1 hb2) hb3)).four))
  refine bodyPost_ret (v := .tuple #[stV (0, 0, 0, false), .bool false]) (by simp [results, Try.results160, go_sem, *]) rfl ⟨(0, 0, 0, false), false, rfl, rfl, ?_⟩
  exact below_set4 (chain hb (chain (chain hb1 hb2) hb3)) (by omega) _ _ _ _
set_option maxRecDepth 8000 in
set_option maxHeartbeats 2000000 in
theorem stepFrom_move_true (P : Nat) (c h s : Int) (f1 f2 B : Nat) (xs ys : List Int) (w : World) (p0 : 2 ≤ P) (p1 : P ≤ 24) (n1 : xs.length = P + 1) (n2 : ys.length = P + 1) (hx : ∀ x ∈ xs, 0 ≤ x ∧ x ≤ 1000) (hy : ∀ y ∈ ys, 0 ≤ y ∧ y ≤ 1000) (q1 : Pays f1 B xs w) (q2 : Pays f2 B ys w) (k : Nat) (d : Int) (k1 : k ≤ P) (d0 : 1 ≤ d) (d1 : d ≤ 1000) (g0 : ¬ xs.getD k 0 = 0) (hk : k ≠ P) (hd : d ≤ (k : Int)) (hal : (decide (lastL xs xs.length < (P : Int)) && openB P ys ((k : Int) - d)) = true) (t : Nat) (v : Int) (ht : (k : Int) - d = (t : Int)) (tP : t < P) (hv : ys.getD (P - 1 - t) 0 = v) :
    Calls Try.prog 160 #[.agg #[.int .i64 (P : Int), .int .i64 c, .int .i64 h, .int .i64 s], tv (P : Int) f1 f2 B, .int .i64 (k : Int), .int .i64 d] w (StepGot (some ((k : Int), (t : Int), d, decide (0 < v))) w) := by
  have e199 := q1.1
  have hpk := fun W (hW : Below w.heap.size w W) => (q1.below hW).2 W (Below.refl _ _) k (by omega)
  have hal0 := fun W (hW : Below w.heap.size w W) => allowsMove_any P c h s f1 f2 B xs ys W p0 p1 n1 n2 hx hy (q1.below hW) (q2.below hW) (k : Int) d (by omega) (by omega) d0 d1 (by omega) (by omega)
  rw [hal] at hal0
  have hmo : ∀ W, Calls Try.prog 174 #[tv (P : Int) f1 f2 B, .int .i64 (k : Int), .int .i64 d] W fun e w' => e = .returned (.iface 197 (.agg #[.int .i64 (k : Int), .int .i64 d])) ∧ Below W.heap.size W w' := fun W => by
    have q := motionOf_any P f1 f2 B (k : Int) d W
    rwa [show motV P (k : Int) d = .iface 197 (.agg #[.int .i64 (k : Int), .int .i64 d]) from by rw [motV, if_neg (by omega), if_pos (by omega)]] at q
  obtain ⟨u, hu⟩ : ∃ u, xs.getD k 0 = u := ⟨_, rfl⟩
  rw [hu] at hpk g0
  have HP := Lib.hid hpk
  have HM := Lib.hid hmo
  have HA := Lib.hid hal0
  have hmf := fun (x : Value) (W : World) => met_moving_from x W
  have hmt := fun (x : Value) (W : World) => met_moving_to x W
  have hto := fun W => moveTo_any (k : Int) d W (by omega) (by omega) (by omega) d1
  rw [ht] at hto
  have HT := Lib.hid hto
  clear hto
  have hfk := fun W (hW : Below w.heap.size w W) => facing_any P t f1 f2 B ys W p1 tP n2 (q2.below hW)
  rw [hv] at hfk
  have HF := Lib.hid hfk
  clear hfk hv
  clear hpk hmo hal0 hal hu
  obtain ⟨BV, BT, BR, hb, hz⟩ := three_new w #[.int .i64 (P : Int), .int .i64 c, .int .i64 h, .int .i64 s] #[.int .i64 (P : Int), fv f1 B, fv f2 B] #[.int .i64 0, .int .i64 0, .int .i64 0, .bool false] 32 151 112
  obtain ⟨x0, x1, x2, x3, xf, xl⟩ := BV.four
  obtain ⟨z0, z1, z2, zf, zl⟩ := BT.tri
  obtain ⟨r0, r1, r2, r3, rf, rl⟩ := BR.four
  go_enter Try.func160, Try.ntmps160
  go_wp2_with (first | (go_at_fn f1; refine (HP.out _ hb).mono ?_; rintro e w1 ⟨rfl, hb1⟩; obtain ⟨x0, x1, x2, x3, xf, xl⟩ := (BV.below hb1).four; obtain ⟨z0, z1, z2, zf, zl⟩ := (BT.below hb1).tri; obtain ⟨r0, r1, r2, r3, rf, rl⟩ := (BR.below hb1).four) | (go_at_call 174; refine (HM.out _).mono ?_; rintro e w2 ⟨rfl, hb2⟩; obtain ⟨x0, x1, x2, x3, xf, xl⟩ := (BV.below (chain hb1 hb2)).four; obtain ⟨z0, z1, z2, zf, zl⟩ := (BT.below (chain hb1 hb2)).tri; obtain ⟨r0, r1, r2, r3, rf, rl⟩ := (BR.below (chain hb1 hb2)).four) | (go_at_call 175; refine (HA.out _ (chain hb (chain hb1 hb2))).mono ?_; rintro e w3 ⟨rfl, hb3⟩; obtain ⟨x0, x1, x2, x3, xf, xl⟩ := (BV.below (chain (chain hb1 hb2) hb3)).four; obtain ⟨z0, z1, z2, zf, zl⟩ := (BT.below (chain (chain hb1 hb2) hb3)).tri; obtain ⟨r0, r1, r2, r3, rf, rl⟩ := (BR.below (chain (chain hb1 hb2) hb3)).four) | (go_at_call 202; refine (moveFrom_any _ _ _).mono ?_; rintro e w4 ⟨rfl, hb4⟩; obtain ⟨x0, x1, x2, x3, xf, xl⟩ := (BV.below (chain (chain (chain hb1 hb2) hb3) hb4)).four; obtain ⟨z0, z1, z2, zf, zl⟩ := (BT.below (chain (chain (chain hb1 hb2) hb3) hb4)).tri; obtain ⟨r0, r1, r2, r3, rf, rl⟩ := (BR.below (chain (chain (chain hb1 hb2) hb3) hb4)).four) | (go_at_call 181; refine (HT.out _).mono ?_; rintro e w5 ⟨rfl, hb5⟩; obtain ⟨x0, x1, x2, x3, xf, xl⟩ := (BV.below (chain (chain (chain (chain hb1 hb2) hb3) hb4) hb5)).four; obtain ⟨z0, z1, z2, zf, zl⟩ := (BT.below (chain (chain (chain (chain hb1 hb2) hb3) hb4) hb5)).tri; obtain ⟨r0, r1, r2, r3, rf, rl⟩ := (BR.below (chain (chain (chain (chain hb1 hb2) hb3) hb4) hb5)).four) | (go_at_call 159; refine (HF.out _ ((chain hb (chain (chain (chain (chain hb1 hb2) hb3) hb4) hb5)).alloc (chain hb (chain (chain (chain (chain hb1 hb2) hb3) hb4) hb5)).size _)).mono ?_; rintro e w6 ⟨rfl, hb6⟩; obtain ⟨x0, x1, x2, x3, xf, xl⟩ := (BV.below (chain (chain (chain (chain (chain hb1 hb2) hb3) hb4) hb5) (from_alloc hb6))).four; obtain ⟨z0, z1, z2, zf, zl⟩ := (BT.below (chain (chain (chain (chain (chain hb1 hb2) hb3) hb4) hb5) (from_alloc hb6))).tri; obtain ⟨r0, r1, r2, r3, rf, rl⟩ := (BR.below (chain (chain (chain (chain (chain hb1 hb2) hb3) hb4) hb5) (from_alloc hb6))).four; obtain ⟨s0, s1, s2, s3, sf, sl⟩ := ((Blk.new w5 #[.int .i64 (k : Int), .int .i64 (t : Int), .int .i64 d, .bool false] 112).below hb6).four))
  refine bodyPost_ret (v := .tuple #[stV ((k : Int), (t : Int), d, decide (0 < v)), .bool true]) (by simp [results, Try.results160, go_sem, *]) rfl ⟨((k : Int), (t : Int), d, decide (0 < v)), true, rfl, rfl, ?_⟩
  exact below_set4 ((chain (chain hb (chain (chain (chain (chain hb1 hb2) hb3) hb4) hb5)) (from_alloc hb6)).setCell (chain hb (chain (chain (chain (chain hb1 hb2) hb3) hb4) hb5)).size _) (by omega) _ _ _ _
set_option maxRecDepth 8000 in
set_option maxHeartbeats 2000000 in
theorem stepFrom_off_false (P : Nat) (c h s : Int) (f1 f2 B : Nat) (xs ys : List Int) (w : World) (p0 : 2 ≤ P) (p1 : P ≤ 24) (n1 : xs.length = P + 1) (n2 : ys.length = P + 1) (hx : ∀ x ∈ xs, 0 ≤ x ∧ x ≤ 1000) (hy : ∀ y ∈ ys, 0 ≤ y ∧ y ≤ 1000) (q1 : Pays f1 B xs w) (q2 : Pays f2 B ys w) (k : Nat) (d : Int) (k1 : k ≤ P) (d0 : 1 ≤ d) (d1 : d ≤ 1000) (g0 : ¬ xs.getD k 0 = 0) (hk : k ≠ P) (hd : (k : Int) < d) (hal : (decide (lastL xs xs.length < h) && (decide ((k : Int) = d - 1) || decide ((k : Int) = lastL xs xs.length))) = false) :
    Calls Try.prog 160 #[.agg #[.int .i64 (P : Int), .int .i64 c, .int .i64 h, .int .i64 s], tv (P : Int) f1 f2 B, .int .i64 (k : Int), .int .i64 d] w (StepGot none w) := by
  have e199 := q1.1
  have hpk := fun W (hW : Below w.heap.size w W) => (q1.below hW).2 W (Below.refl _ _) k (by omega)
  have hal0 := fun W (hW : Below w.heap.size w W) => allowsOff_any P c h s f1 f2 B xs ys W p0 p1 n1 n2 hx hy (q1.below hW) (q2.below hW) (k : Int) d (by omega) (by omega) d0 d1 (by omega) (by omega)
  rw [hal] at hal0
  have hmo : ∀ W, Calls Try.prog 174 #[tv (P : Int) f1 f2 B, .int .i64 (k : Int), .int .i64 d] W fun e w' => e = .returned (.iface 198 (.agg #[.int .i64 (k : Int), .int .i64 d])) ∧ Below W.heap.size W w' := fun W => by
    have q := motionOf_any P f1 f2 B (k : Int) d W
    rwa [show motV P (k : Int) d = .iface 198 (.agg #[.int .i64 (k : Int), .int .i64 d]) from by rw [motV, if_neg (by omega), if_neg (by omega)]] at q
  obtain ⟨u, hu⟩ : ∃ u, xs.getD k 0 = u := ⟨_, rfl⟩
  rw [hu] at hpk g0
  have HP := Lib.hid hpk
  have HM := Lib.hid hmo
  have HA := Lib.hid hal0
  clear hpk hmo hal0 hal hu
  obtain ⟨BV, BT, BR, hb, hz⟩ := three_new w #[.int .i64 (P : Int), .int .i64 c, .int .i64 h, .int .i64 s] #[.int .i64 (P : Int), fv f1 B, fv f2 B] #[.int .i64 0, .int .i64 0, .int .i64 0, .bool false] 32 151 112
  obtain ⟨x0, x1, x2, x3, xf, xl⟩ := BV.four
  obtain ⟨z0, z1, z2, zf, zl⟩ := BT.tri
  obtain ⟨r0, r1, r2, r3, rf, rl⟩ := BR.four
  go_enter Try.func160, Try.ntmps160
  go_wp2_with (first | (go_at_fn f1; refine (HP.out _ hb).mono ?_; rintro e w1 ⟨rfl, hb1⟩; obtain ⟨x0, x1, x2, x3, xf, xl⟩ := (BV.below hb1).four; obtain ⟨z0, z1, z2, zf, zl⟩ := (BT.below hb1).tri; obtain ⟨r0, r1, r2, r3, rf, rl⟩ := (BR.below hb1).four) | (go_at_call 174; refine (HM.out _).mono ?_; rintro e w2 ⟨rfl, hb2⟩; obtain ⟨x0, x1, x2, x3, xf, xl⟩ := (BV.below (chain hb1 hb2)).four; obtain ⟨z0, z1, z2, zf, zl⟩ := (BT.below (chain hb1 hb2)).tri; obtain ⟨r0, r1, r2, r3, rf, rl⟩ := (BR.below (chain hb1 hb2)).four) | (go_at_call 175; refine (HA.out _ (chain hb (chain hb1 hb2))).mono ?_; rintro e w3 ⟨rfl, hb3⟩; obtain ⟨x0, x1, x2, x3, xf, xl⟩ := (BV.below (chain (chain hb1 hb2) hb3)).four; obtain ⟨z0, z1, z2, zf, zl⟩ := (BT.below (chain (chain hb1 hb2) hb3)).tri; obtain ⟨r0, r1, r2, r3, rf, rl⟩ := (BR.below (chain (chain hb1 hb2) hb3)).four))
  refine bodyPost_ret (v := .tuple #[stV (0, 0, 0, false), .bool false]) (by simp [results, Try.results160, go_sem, *]) rfl ⟨(0, 0, 0, false), false, rfl, rfl, ?_⟩
  exact below_set4 (chain hb (chain (chain hb1 hb2) hb3)) (by omega) _ _ _ _
set_option maxRecDepth 8000 in
set_option maxHeartbeats 2000000 in
theorem stepFrom_off_true (P : Nat) (c h s : Int) (f1 f2 B : Nat) (xs ys : List Int) (w : World) (p0 : 2 ≤ P) (p1 : P ≤ 24) (n1 : xs.length = P + 1) (n2 : ys.length = P + 1) (hx : ∀ x ∈ xs, 0 ≤ x ∧ x ≤ 1000) (hy : ∀ y ∈ ys, 0 ≤ y ∧ y ≤ 1000) (q1 : Pays f1 B xs w) (q2 : Pays f2 B ys w) (k : Nat) (d : Int) (k1 : k ≤ P) (d0 : 1 ≤ d) (d1 : d ≤ 1000) (g0 : ¬ xs.getD k 0 = 0) (hk : k ≠ P) (hd : (k : Int) < d) (hal : (decide (lastL xs xs.length < h) && (decide ((k : Int) = d - 1) || decide ((k : Int) = lastL xs xs.length))) = true) :
    Calls Try.prog 160 #[.agg #[.int .i64 (P : Int), .int .i64 c, .int .i64 h, .int .i64 s], tv (P : Int) f1 f2 B, .int .i64 (k : Int), .int .i64 d] w (StepGot (some ((k : Int), -1, d, false)) w) := by
  have e199 := q1.1
  have hpk := fun W (hW : Below w.heap.size w W) => (q1.below hW).2 W (Below.refl _ _) k (by omega)
  have hal0 := fun W (hW : Below w.heap.size w W) => allowsOff_any P c h s f1 f2 B xs ys W p0 p1 n1 n2 hx hy (q1.below hW) (q2.below hW) (k : Int) d (by omega) (by omega) d0 d1 (by omega) (by omega)
  rw [hal] at hal0
  have hmo : ∀ W, Calls Try.prog 174 #[tv (P : Int) f1 f2 B, .int .i64 (k : Int), .int .i64 d] W fun e w' => e = .returned (.iface 198 (.agg #[.int .i64 (k : Int), .int .i64 d])) ∧ Below W.heap.size W w' := fun W => by
    have q := motionOf_any P f1 f2 B (k : Int) d W
    rwa [show motV P (k : Int) d = .iface 198 (.agg #[.int .i64 (k : Int), .int .i64 d]) from by rw [motV, if_neg (by omega), if_neg (by omega)]] at q
  obtain ⟨u, hu⟩ : ∃ u, xs.getD k 0 = u := ⟨_, rfl⟩
  rw [hu] at hpk g0
  have HP := Lib.hid hpk
  have HM := Lib.hid hmo
  have HA := Lib.hid hal0
  have hmf := fun (x : Value) (W : World) => met_bearingOff_from x W
  have hmt := fun (x : Value) (W : World) => met_bearingOff_to x W
  have hto := fun W => offTo_any (k : Int) d W
  have HT := Lib.hid hto
  clear hto
  clear hpk hmo hal0 hal hu
  obtain ⟨BV, BT, BR, hb, hz⟩ := three_new w #[.int .i64 (P : Int), .int .i64 c, .int .i64 h, .int .i64 s] #[.int .i64 (P : Int), fv f1 B, fv f2 B] #[.int .i64 0, .int .i64 0, .int .i64 0, .bool false] 32 151 112
  obtain ⟨x0, x1, x2, x3, xf, xl⟩ := BV.four
  obtain ⟨z0, z1, z2, zf, zl⟩ := BT.tri
  obtain ⟨r0, r1, r2, r3, rf, rl⟩ := BR.four
  go_enter Try.func160, Try.ntmps160
  go_wp2_with (first | (go_at_fn f1; refine (HP.out _ hb).mono ?_; rintro e w1 ⟨rfl, hb1⟩; obtain ⟨x0, x1, x2, x3, xf, xl⟩ := (BV.below hb1).four; obtain ⟨z0, z1, z2, zf, zl⟩ := (BT.below hb1).tri; obtain ⟨r0, r1, r2, r3, rf, rl⟩ := (BR.below hb1).four) | (go_at_call 174; refine (HM.out _).mono ?_; rintro e w2 ⟨rfl, hb2⟩; obtain ⟨x0, x1, x2, x3, xf, xl⟩ := (BV.below (chain hb1 hb2)).four; obtain ⟨z0, z1, z2, zf, zl⟩ := (BT.below (chain hb1 hb2)).tri; obtain ⟨r0, r1, r2, r3, rf, rl⟩ := (BR.below (chain hb1 hb2)).four) | (go_at_call 175; refine (HA.out _ (chain hb (chain hb1 hb2))).mono ?_; rintro e w3 ⟨rfl, hb3⟩; obtain ⟨x0, x1, x2, x3, xf, xl⟩ := (BV.below (chain (chain hb1 hb2) hb3)).four; obtain ⟨z0, z1, z2, zf, zl⟩ := (BT.below (chain (chain hb1 hb2) hb3)).tri; obtain ⟨r0, r1, r2, r3, rf, rl⟩ := (BR.below (chain (chain hb1 hb2) hb3)).four) | (go_at_call 203; refine (offFrom_any _ _ _).mono ?_; rintro e w4 ⟨rfl, hb4⟩; obtain ⟨x0, x1, x2, x3, xf, xl⟩ := (BV.below (chain (chain (chain hb1 hb2) hb3) hb4)).four; obtain ⟨z0, z1, z2, zf, zl⟩ := (BT.below (chain (chain (chain hb1 hb2) hb3) hb4)).tri; obtain ⟨r0, r1, r2, r3, rf, rl⟩ := (BR.below (chain (chain (chain hb1 hb2) hb3) hb4)).four) | (go_at_call 204; refine (HT.out _).mono ?_; rintro e w5 ⟨rfl, hb5⟩; obtain ⟨x0, x1, x2, x3, xf, xl⟩ := (BV.below (chain (chain (chain (chain hb1 hb2) hb3) hb4) hb5)).four; obtain ⟨z0, z1, z2, zf, zl⟩ := (BT.below (chain (chain (chain (chain hb1 hb2) hb3) hb4) hb5)).tri; obtain ⟨r0, r1, r2, r3, rf, rl⟩ := (BR.below (chain (chain (chain (chain hb1 hb2) hb3) hb4) hb5)).four))
  refine bodyPost_ret (v := .tuple #[stV ((k : Int), -1, d, false), .bool true]) (by simp [results, Try.results160, go_sem, *]) rfl ⟨((k : Int), -1, d, false), true, rfl, rfl, ?_⟩
  exact (below_set4 (chain hb (chain (chain (chain (chain hb1 hb2) hb3) hb4) hb5)) (by omega) _ _ _ _).alloc (by simpa using (chain hb (chain (chain (chain (chain hb1 hb2) hb3) hb4) hb5)).size) _
end Go.Proofs.Ytokjkcnjmfbfiaa
