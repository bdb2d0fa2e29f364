/- Texts of a proof, laid together. -/
import Derived.Test.YtciljbnailobgaaGreatV03
import Derived.Test.YtciljbnailobgaaGreatV02
namespace Go.Proofs.YtciljbnailobgaaGreat
open Go.ChangeShapes Go.WideShapes Go.ChangeAt Go.RowKit
set_option linter.unusedVariables false
set_option linter.unusedSimpArgs false
set_option maxRecDepth 4000
def toI (P k : Nat) (d : Int) : Int := if k = P ∨ d ≤ (k : Int) then (k : Int) - d else -1
def alB (P : Nat) (h : Int) (xs ys : List Int) (k : Nat) (d : Int) : Bool :=
  if k = P then openB P ys ((k : Int) - d) else if d ≤ (k : Int) then decide (lastL xs xs.length < (P : Int)) && openB P ys ((k : Int) - d)
  else decide (lastL xs xs.length < h) && (decide ((k : Int) = d - 1) || decide ((k : Int) = lastL xs xs.length))
def stepI (P : Nat) (h : Int) (xs ys : List Int) (k : Nat) (d : Int) : Option Stp :=
  if xs.getD k 0 = 0 then none else if alB P h xs ys k d = true then some ((k : Int), toI P k d, d, decide (toI P k d ≠ -1) && decide (0 < ys.getD (P - 1 - (toI P k d).toNat) 0)) else none
def StepGot (r : Option Stp) (w : World) (e : Ending) (w' : World) : Prop :=
  ∃ (x : Stp) (ok : Bool), e = .returned (.tuple #[stV x, .bool ok]) ∧ r = (if ok = true then some x else none) ∧ Below w.heap.size w w'
theorem below_set4 {B g : Nat} {w W : World} (h : Below B w W) (hg : B ≤ g) (a b c d : Value) : Below B w ((((W.setCell ⟨g, 0, none⟩ a).setCell ⟨g, 1, none⟩ b).setCell ⟨g, 2, none⟩ c).setCell ⟨g, 3, none⟩ d) :=
  (((h.setCell hg _).setCell hg _).setCell hg _).setCell hg _
set_option maxRecDepth 8000 in
set_option maxHeartbeats 2000000 in
theorem stepFrom_none (P : Nat) (c h s : Int) (f1 f2 B : Nat) (xs ys : List Int) (w : World) (p0 : 2 ≤ P) (p1 : P ≤ 24) (n1 : xs.length = P + 1) (n2 : ys.length = P + 1) (hx : ∀ x ∈ xs, 0 ≤ x ∧ x ≤ 1000) (hy : ∀ y ∈ ys, 0 ≤ y ∧ y ≤ 1000) (q1 : Pays f1 B xs w) (q2 : Pays f2 B ys w) (k : Nat) (d : Int) (k1 : k ≤ P) (g0 : xs.getD k 0 = 0) :
    Calls Tryz.prog 92 #[.agg #[.int .i64 (P : Int), .int .i64 c, .int .i64 h, .int .i64 s], tv (P : Int) f1 f2 B, .int .i64 (k : Int), .int .i64 d] w (StepGot none w) := by
  have e199 := q1.1
  have hpk := fun W (hW : Below w.heap.size w W) => (q1.below hW).2 W (Below.refl _ _) k (by omega)
  rw [g0] at hpk
  have HP := Lib.hid hpk
  clear hpk g0
  obtain ⟨BV, BT, BR, hb, hz⟩ := three_new w #[.int .i64 (P : Int), .int .i64 c, .int .i64 h, .int .i64 s] #[.int .i64 (P : Int), fv f1 B, fv f2 B] #[.int .i64 0, .int .i64 0, .int .i64 0, .bool false] 25 109 55
  obtain ⟨x0, x1, x2, x3, xf, xl⟩ := BV.four
  obtain ⟨z0, z1, z2, zf, zl⟩ := BT.tri
  obtain ⟨r0, r1, r2, r3, rf, rl⟩ := BR.four
  go_enter Tryz.func92, Tryz.ntmps92
  go_wp2_with (first | (go_at_fn f1; refine (HP.out _ hb).mono ?_; rintro e w1 ⟨rfl, hb1⟩; obtain ⟨x0, x1, x2, x3, xf, xl⟩ := (BV.below hb1).four; obtain ⟨z0, z1, z2, zf, zl⟩ := (BT.below hb1).tri; obtain ⟨r0, r1, r2, r3, rf, rl⟩ := (BR.below hb1).four))
  refine bodyPost_ret (v := .tuple #[stV (0, 0, 0, false), .bool false]) (by simp [results, Tryz.results92, go_sem, *]) rfl ⟨(0, 0, 0, false), false, rfl, rfl, ?_⟩
  exact below_set4 (chain hb hb1) (by omega) _ _ _ _
theorem met_entering_from (x : Value) (w : World) : (method 276 155 x "loop.example/g00885/impl.from").run Tryz.prog w = .ok (133, x) w := by kernel_rfl
theorem met_entering_to (x : Value) (w : World) : (method 276 155 x "loop.example/g00885/impl.to").run Tryz.prog w = .ok (112, x) w := by kernel_rfl
theorem met_moving_from (x : Value) (w : World) : (method 276 157 x "loop.example/g00885/impl.from").run Tryz.prog w = .ok (134, x) w := by kernel_rfl
theorem met_moving_to (x : Value) (w : World) : (method 276 157 x "loop.example/g00885/impl.to").run Tryz.prog w = .ok (113, x) w := by kernel_rfl
theorem met_bearingOff_from (x : Value) (w : World) : (method 276 158 x "loop.example/g00885/impl.from").run Tryz.prog w = .ok (135, x) w := by kernel_rfl
theorem met_bearingOff_to (x : Value) (w : World) : (method 276 158 x "loop.example/g00885/impl.to").run Tryz.prog w = .ok (136, x) w := by kernel_rfl
set_option maxRecDepth 8000 in
set_option maxHeartbeats 2000000 in
theorem stepFrom_enter_false (P : Nat) (c h s : Int) (f1 f2 B : Nat) (xs ys : List Int) (w : World) (p0 : 2 ≤ P) (p1 : P ≤ 24) (n1 : xs.length = P + 1) (n2 : ys.length = P + 1) (hx : ∀ x ∈ xs, 0 ≤ x ∧ x ≤ 1000) (hy : ∀ y ∈ ys, 0 ≤ y ∧ y ≤ 1000) (q1 : Pays f1 B xs w) (q2 : Pays f2 B ys w) (d : Int) (d0 : 1 ≤ d) (d1 : d ≤ 1000) (g0 : ¬ xs.getD P 0 = 0) (hal : openB P ys ((P : Int) - d) = false) :
    Calls Tryz.prog 92 #[.agg #[.int .i64 (P : Int), .int .i64 c, .int .i64 h, .int .i64 s], tv (P : Int) f1 f2 B, .int .i64 (P : Int), .int .i64 d] w (StepGot none w) := by
  have e199 := q1.1
  have hpk := fun W (hW : Below w.heap.size w W) => (q1.below hW).2 W (Below.refl _ _) P (by omega)
  have hal0 := fun W (hW : Below w.heap.size w W) => allowsEnter_any P c h s f1 f2 B xs ys W p0 p1 n1 n2 hx hy (q1.below hW) (q2.below hW) (P : Int) d (by omega) (by omega) d0 d1
  rw [hal] at hal0
  have hmo : ∀ W, Calls Tryz.prog 108 #[tv (P : Int) f1 f2 B, .int .i64 (P : Int), .int .i64 d] W fun e w' => e = .returned (.iface 155 (.agg #[.int .i64 (P : Int), .int .i64 d])) ∧ Below W.heap.size W w' := fun W => by
    have q := motionOf_any P f1 f2 B (P : Int) d W
    rwa [show motV P (P : Int) d = .iface 155 (.agg #[.int .i64 (P : Int), .int .i64 d]) from by rw [motV, if_pos (by omega)]] at q
  obtain ⟨u, hu⟩ : ∃ u, xs.getD P 0 = u := ⟨_, rfl⟩
  rw [hu] at hpk g0
  have HP := Lib.hid hpk
  have HM := Lib.hid hmo
  have HA := Lib.hid hal0
  clear hpk hmo hal0 hal hu
  obtain ⟨BV, BT, BR, hb, hz⟩ := three_new w #[.int .i64 (P : Int), .int .i64 c, .int .i64 h, .int .i64 s] #[.int .i64 (P : Int), fv f1 B, fv f2 B] #[.int .i64 0, .int .i64 0, .int .i64 0, .bool false] 25 109 55
  obtain ⟨x0, x1, x2, x3, xf, xl⟩ := BV.four
  obtain ⟨z0, z1, z2, zf, zl⟩ := BT.tri
  obtain ⟨r0, r1, r2, r3, rf, rl⟩ := BR.four
  go_enter Tryz.func92, Tryz.ntmps92
  go_wp2_with (first | (go_at_fn f1; refine (HP.out _ hb).mono ?_; rintro e w1 ⟨rfl, hb1⟩; obtain ⟨x0, x1, x2, x3, xf, xl⟩ := (BV.below hb1).four; obtain ⟨z0, z1, z2, zf, zl⟩ := (BT.below hb1).tri; obtain ⟨r0, r1, r2, r3, rf, rl⟩ := (BR.below hb1).four) | (go_at_call 108; refine (HM.out _).mono ?_; rintro e w2 ⟨rfl, hb2⟩; obtain ⟨x0, x1, x2, x3, xf, xl⟩ := (BV.below (chain hb1 hb2)).four; obtain ⟨z0, z1, z2, zf, zl⟩ := (BT.below (chain hb1 hb2)).tri; obtain ⟨r0, r1, r2, r3, rf, rl⟩ := (BR.below (chain hb1 hb2)).four) | (go_at_call 109; refine (HA.out _ (chain hb (chain hb1 hb2))).mono ?_; rintro e w3 ⟨rfl, hb3⟩; obtain ⟨x0, x1, x2, x3, xf, xl⟩ := (BV.below (chain (chain hb1 hb2) hb3)).four; obtain ⟨z0, z1, z2, zf, zl⟩ := (BT.below (chain (chain hb1 hb2) hb3)).tri; obtain ⟨r0, r1, r2, r3, rf, rl⟩ := (BR.below (chain (chain hb1 hb2) hb3)).four))
  refine bodyPost_ret (v := .tuple #[stV (0, 0, 0, false), .bool false]) (by simp [results, Tryz.results92, go_sem, *]) rfl ⟨(0, 0, 0, false), false, rfl, rfl, ?_⟩
  exact below_set4 (chain hb (chain (chain hb1 hb2) hb3)) (by omega) _ _ _ _
set_option maxRecDepth 8000 in
set_option maxHeartbeats 2000000 in
theorem stepFrom_enter_true (P : Nat) (c h s : Int) (f1 f2 B : Nat) (xs ys : List Int) (w : World) (p0 : 2 ≤ P) (p1 : P ≤ 24) (n1 : xs.length = P + 1) (n2 : ys.length = P + 1) (hx : ∀ x ∈ xs, 0 ≤ x ∧ x ≤ 1000) (hy : ∀ y ∈ ys, 0 ≤ y ∧ y ≤ 1000) (q1 : Pays f1 B xs w) (q2 : Pays f2 B ys w) (d : Int) (d0 : 1 ≤ d) (d1 : d ≤ 1000) (g0 : ¬ xs.getD P 0 = 0) (hal : openB P ys ((P : Int) - d) = true) (t : Nat) (v : Int) (ht : (P : Int) - d = (t : Int)) (tP : t < P) (hv : ys.getD (P - 1 - t) 0 = v) :
    Calls Tryz.prog 92 #[.agg #[.int .i64 (P : Int), .int .i64 c, .int .i64 h, .int .i64 s], tv (P : Int) f1 f2 B, .int .i64 (P : Int), .int .i64 d] w (StepGot (some ((P : Int), (t : Int), d, decide (0 < v))) w) := by
  have e199 := q1.1
  have hpk := fun W (hW : Below w.heap.size w W) => (q1.below hW).2 W (Below.refl _ _) P (by omega)
  have hal0 := fun W (hW : Below w.heap.size w W) => allowsEnter_any P c h s f1 f2 B xs ys W p0 p1 n1 n2 hx hy (q1.below hW) (q2.below hW) (P : Int) d (by omega) (by omega) d0 d1
  rw [hal] at hal0
  have hmo : ∀ W, Calls Tryz.prog 108 #[tv (P : Int) f1 f2 B, .int .i64 (P : Int), .int .i64 d] W fun e w' => e = .returned (.iface 155 (.agg #[.int .i64 (P : Int), .int .i64 d])) ∧ Below W.heap.size W w' := fun W => by
    have q := motionOf_any P f1 f2 B (P : Int) d W
    rwa [show motV P (P : Int) d = .iface 155 (.agg #[.int .i64 (P : Int), .int .i64 d]) from by rw [motV, if_pos (by omega)]] at q
  obtain ⟨u, hu⟩ : ∃ u, xs.getD P 0 = u := ⟨_, rfl⟩
  rw [hu] at hpk g0
  have HP := Lib.hid hpk
  have HM := Lib.hid hmo
  have HA := Lib.hid hal0
  have hmf := fun (x : Value) (W : World) => met_entering_from x W
  have hmt := fun (x : Value) (W : World) => met_entering_to x W
  have hto := fun W => enterTo_any (P : Int) d W (by omega) (by omega) (by omega) d1
  rw [ht] at hto
  have HT := Lib.hid hto
  clear hto
  have hfk := fun W (hW : Below w.heap.size w W) => facing_any P t f1 f2 B ys W p1 tP n2 (q2.below hW)
  rw [hv] at hfk
  have HF := Lib.hid hfk
  clear hfk hv
  clear hpk hmo hal0 hal hu
  obtain ⟨BV, BT, BR, hb, hz⟩ := three_new w #[.int .i64 (P : Int), .int .i64 c, .int .i64 h, .int .i64 s] #[.int .i64 (P : Int), fv f1 B, fv f2 B] #[.int .i64 0, .int .i64 0, .int .i64 0, .bool false] 25 109 55
  obtain ⟨x0, x1, x2, x3, xf, xl⟩ := BV.four
  obtain ⟨z0, z1, z2, zf, zl⟩ := BT.tri
  obtain ⟨r0, r1, r2, r3, rf, rl⟩ := BR.four
  go_enter Tryz.func92, Tryz.ntmps92
  go_wp2_with (first | (go_at_fn f1; refine (HP.out _ hb).mono ?_; rintro e w1 ⟨rfl, hb1⟩; obtain ⟨x0, x1, x2, x3, xf, xl⟩ := (BV.below hb1).four; obtain ⟨z0, z1, z2, zf, zl⟩ := (BT.below hb1).tri; obtain ⟨r0, r1, r2, r3, rf, rl⟩ := (BR.below hb1).four) | (go_at_call 108; refine (HM.out _).mono ?_; rintro e w2 ⟨rfl, hb2⟩; obtain ⟨x0, x1, x2, x3, xf, xl⟩ := (BV.below (chain hb1 hb2)).four; obtain ⟨z0, z1, z2, zf, zl⟩ := (BT.below (chain hb1 hb2)).tri; obtain ⟨r0, r1, r2, r3, rf, rl⟩ := (BR.below (chain hb1 hb2)).four) | (go_at_call 109; refine (HA.out _ (chain hb (chain hb1 hb2))).mono ?_; rintro e w3 ⟨rfl, hb3⟩; obtain ⟨x0, x1, x2, x3, xf, xl⟩ := (BV.below (chain (chain hb1 hb2) hb3)).four; obtain ⟨z0, z1, z2, zf, zl⟩ := (BT.below (chain (chain hb1 hb2) hb3)).tri; obtain ⟨r0, r1, r2, r3, rf, rl⟩ := (BR.below (chain (chain hb1 hb2) hb3)).four) | (go_at_call 133; refine (enterFrom_any _ _ _).mono ?_; rintro e w4 ⟨rfl, hb4⟩; obtain ⟨x0, x1, x2, x3, xf, xl⟩ := (BV.below (chain (chain (chain hb1 hb2) hb3) hb4)).four; obtain ⟨z0, z1, z2, zf, zl⟩ := (BT.below (chain (chain (chain hb1 hb2) hb3) hb4)).tri; obtain ⟨r0, r1, r2, r3, rf, rl⟩ := (BR.below (chain (chain (chain hb1 hb2) hb3) hb4)).four) | (go_at_call 112; refine (HT.out _).mono ?_; rintro e w5 ⟨rfl, hb5⟩; obtain ⟨x0, x1, x2, x3, xf, xl⟩ := (BV.below (chain (chain (chain (chain hb1 hb2) hb3) hb4) hb5)).four; obtain ⟨z0, z1, z2, zf, zl⟩ := (BT.below (chain (chain (chain (chain hb1 hb2) hb3) hb4) hb5)).tri; obtain ⟨r0, r1, r2, r3, rf, rl⟩ := (BR.below (chain (chain (chain (chain hb1 hb2) hb3) hb4) hb5)).four) | (go_at_call 100; refine (HF.out _ ((chain hb (chain (chain (chain (chain hb1 hb2) hb3) hb4) hb5)).alloc (chain hb (chain (chain (chain (chain hb1 hb2) hb3) hb4) hb5)).size _)).mono ?_; rintro e w6 ⟨rfl, hb6⟩; obtain ⟨x0, x1, x2, x3, xf, xl⟩ := (BV.below (chain (chain (chain (chain (chain hb1 hb2) hb3) hb4) hb5) (from_alloc hb6))).four; obtain ⟨z0, z1, z2, zf, zl⟩ := (BT.below (chain (chain (chain (chain (chain hb1 hb2) hb3) hb4) hb5) (from_alloc hb6))).tri; obtain ⟨r0, r1, r2, r3, rf, rl⟩ := (BR.below (chain (chain (chain (chain (chain hb1 hb2) hb3) hb4) hb5) (from_alloc hb6))).four; obtain ⟨s0, s1, s2, s3, sf, sl⟩ := ((Blk.new w5 #[.int .i64 (P : Int), .int .i64 (t : Int), .int .i64 d, .bool false] 55).below hb6).four))
  refine bodyPost_ret (v := .tuple #[stV ((P : Int), (t : Int), d, decide (0 < v)), .bool true]) (by simp [results, Tryz.results92, go_sem, *]) rfl ⟨((P : Int), (t : Int), d, decide (0 < v)), true, rfl, rfl, ?_⟩
  exact below_set4 ((chain (chain hb (chain (chain (chain (chain hb1 hb2) hb3) hb4) hb5)) (from_alloc hb6)).setCell (chain hb (chain (chain (chain (chain hb1 hb2) hb3) hb4) hb5)).size _) (by omega) _ _ _ _
set_option maxRecDepth 8000 in
set_option maxHeartbeats 2000000 in
theorem stepFrom_move_false (P : Nat) (c h s : Int) (f1 f2 B : Nat) (xs ys : List Int) (w : World) (p0 : 2 ≤ P) (p1 : P ≤ 24) (n1 : xs.length = P + 1) (n2 : ys.length = P + 1) (hx : ∀ x ∈ xs, 0 ≤ x ∧ x ≤ 1000) (hy : ∀ y ∈ ys, 0 ≤ y ∧ y ≤ 1000) (q1 : Pays f1 B xs w) (q2 : Pays f2 B ys w) (k : Nat) (d : Int) (k1 : k ≤ P) (d0 : 1 ≤ d) (d1 : d ≤ 1000) (g0 : ¬ xs.getD k 0 = 0) (hk : k ≠ P) (hd : d ≤ (k : Int)) (hal : (decide (lastL xs xs.length < (P : Int)) && openB P ys ((k : Int) - d)) = false) :
    Calls Tryz.prog 92 #[.agg #[.int .i64 (P : Int), .int .i64 c, .int .i64 h, .int .i64 s], tv (P : Int) f1 f2 B, .int .i64 (k : Int), .int .i64 d] w (StepGot none w) := by
  have e199 := q1.1
  have hpk := fun W (hW : Below w.heap.size w W) => (q1.below hW).2 W (Below.refl _ _) k (by omega)
  have hal0 := fun W (hW : Below w.heap.size w W) => allowsMove_any P c h s f1 f2 B xs ys W p0 p1 n1 n2 hx hy (q1.below hW) (q2.below hW) (k : Int) d (by omega) (by omega) d0 d1 (by omega) (by omega)
  rw [hal] at hal0
  have hmo : ∀ W, Calls Tryz.prog 108 #[tv (P : Int) f1 f2 B, .int .i64 (k : Int), .int .i64 d] W fun e w' => e = .returned (.iface 157 (.agg #[.int .i64 (k : Int), .int .i64 d])) ∧ Below W.heap.size W w' := fun W => by
    have q := motionOf_any P f1 f2 B (k : Int) d W
    rwa [show motV P (k : Int) d = .iface 157 (.agg #[.int .i64 (k : Int), .int .i64 d]) from by rw [motV, if_neg (by omega), if_pos (by omega)]] at q
  obtain ⟨u, hu⟩ : ∃ u, xs.getD k 0 = u := ⟨_, rfl⟩
  rw [hu] at hpk g0
  have HP := Lib.hid hpk
  have HM := Lib.hid hmo
  have HA := Lib.hid hal0
  clear hpk hmo hal0 hal hu
  obtain ⟨BV, BT, BR, hb, hz⟩ := three_new w #[.int .i64 (P : Int), .int .i64 c, .int .i64 h, .int .i64 s] #[.int .i64 (P : Int), fv f1 B, fv f2 B] #[.int .i64 0, .int .i64 0, .int .i64 0, .bool false] 25 109 55
  obtain ⟨x0, x1, x2, x3, xf, xl⟩ := BV.four
  obtain ⟨z0, z1, z2, zf, zl⟩ := BT.tri
  obtain ⟨r0, r1, r2, r3, rf, rl⟩ := BR.four
  go_enter Tryz.func92, Tryz.ntmps92
  go_wp2_with (first | (go_at_fn f1; refine (HP.out _ hb).mono ?_; rintro e w1 ⟨rfl, hb1⟩; obtain ⟨x0, x1, x2, x3, xf, xl⟩ := (BV.below hb1).four; obtain ⟨z0, z1, z2, zf, zl⟩ := (BT.below hb1).tri; obtain ⟨r0, r1, r2, r3, rf, rl⟩ := (BR.below hb1).four) | (go_at_call 108; refine (HM.out _).mono ?_; rintro e w2 ⟨rfl, hb2⟩; obtain ⟨x0, x1, x2, x3, xf, xl⟩ := (BV.below (chain hb1 hb2)).four; obtain ⟨z0, z1, z2, zf, zl⟩ := (BT.below (chain hb1 hb2)).tri; obtain ⟨r0, r1, r2, r3, rf, rl⟩ := (BR.below (chain hb1 hb2)).four) | (go_at_call 109; refine (HA.out _ (chain hb (chain hb1 hb2))).mono ?_; rintro e w3 ⟨rfl, hb3⟩; obtain ⟨x0, x1, x2, x3, xf, xl⟩ := (BV.below (chain (chain hb1 hb2) hb3)).four; obtain ⟨z0, z1, z2, zf, zl⟩ := (BT.below (chain (chain hb1 hb2) hb3)).tri; obtain ⟨r0, r1, r2, r3, rf, rl⟩ := (BR.below (chain (chain hb1 hb2) hb3)).four))
  refine bodyPost_ret (v := .tuple #[stV (0, 0, 0, false), .bool false]) (by simp [results, Tryz.results92, go_sem, *]) rfl ⟨(0, 0, 0, false), false, rfl, rfl, ?_⟩
  exact below_set4 (chain hb (chain (chain hb1 hb2) hb3)) (by omega) _ _ _ _
set_option maxRecDepth 8000 in
set_option maxHeartbeats 2000000 in
theorem stepFrom_move_true (P : Nat) (c h s : Int) (f1 f2 B : Nat) (xs ys : List Int) (w : World) (p0 : 2 ≤ P) (p1 : P ≤ 24) (n1 : xs.length = P + 1) (n2 : ys.length = P + 1) (hx : ∀ x ∈ xs, 0 ≤ x ∧ x ≤ 1000) (hy : ∀ y ∈ ys, 0 ≤ y ∧ y ≤ 1000) (q1 : Pays f1 B xs w) (q2 : Pays f2 B ys w) (k : Nat) (d : Int) (k1 : k ≤ P) (d0 : 1 ≤ d) (d1 : d ≤ 1000) (g0 : ¬ xs.getD k 0 = 0) (hk : k ≠ P) (hd : d ≤ (k : Int)) (hal : (decide (lastL xs xs.length < (P : Int)) && openB P ys ((k : Int) - d)) = true) (t : Nat) (v : Int) (ht : (k : Int) - d = (t : Int)) (tP : t < P) (hv : ys.getD (P - 1 - t) 0 = v) :
    Calls Tryz.prog 92 #[.agg #[.int .i64 (P : Int), .int .i64 c, .int .i64 h, .int .i64 s], tv (P : Int) f1 f2 B, .int .i64 (k : Int), .int .i64 d] w (StepGot (some ((k : Int), (t : Int), d, decide (0 < v))) w) := by
  have e199 := q1.1
  have hpk := fun W (hW : Below w.heap.size w W) => (q1.below hW).2 W (Below.refl _ _) k (by omega)
  have hal0 := fun W (hW : Below w.heap.size w W) => allowsMove_any P c h s f1 f2 B xs ys W p0 p1 n1 n2 hx hy (q1.below hW) (q2.below hW) (k : Int) d (by omega) (by omega) d0 d1 (by omega) (by omega)
  rw [hal] at hal0
  have hmo : ∀ W, Calls Tryz.prog 108 #[tv (P : Int) f1 f2 B, .int .i64 (k : Int), .int .i64 d] W fun e w' => e = .returned (.iface 157 (.agg #[.int .i64 (k : Int), .int .i64 d])) ∧ Below W.heap.size W w' := fun W => by
    have q := motionOf_any P f1 f2 B (k : Int) d W
    rwa [show motV P (k : Int) d = .iface 157 (.agg #[.int .i64 (k : Int), .int .i64 d]) from by rw [motV, if_neg (by omega), if_pos (by omega)]] at q
  obtain ⟨u, hu⟩ : ∃ u, xs.getD k 0 = u := ⟨_, rfl⟩
  rw [hu] at hpk g0
  have HP := Lib.hid hpk
  have HM := Lib.hid hmo
  have HA := Lib.hid hal0
  have hmf := fun (x : Value) (W : World) => met_moving_from x W
  have hmt := fun (x : Value) (W : World) => met_moving_to x W
  have hto := fun W => moveTo_any (k : Int) d W (by omega) (by omega) (by omega) d1
  rw [ht] at hto
  have HT := Lib.hid hto
  clear hto
  have hfk := fun W (hW : Below w.heap.size w W) => facing_any P t f1 f2 B ys W p1 tP n2 (q2.below hW)
  rw [hv] at hfk
  have HF := Lib.hid hfk
  clear hfk hv
  clear hpk hmo hal0 hal hu
  obtain ⟨BV, BT, BR, hb, hz⟩ := three_new w #[.int .i64 (P : Int), .int .i64 c, .int .i64 h, .int .i64 s] #[.int .i64 (P : Int), fv f1 B, fv f2 B] #[.int .i64 0, .int .i64 0, .int .i64 0, .bool false] 25 109 55
  obtain ⟨x0, x1, x2, x3, xf, xl⟩ := BV.four
  obtain ⟨z0, z1, z2, zf, zl⟩ := BT.tri
  obtain ⟨r0, r1, r2, r3, rf, rl⟩ := BR.four
  go_enter Tryz.func92, Tryz.ntmps92
  go_wp2_with (first | (go_at_fn f1; refine (HP.out _ hb).mono ?_; rintro e w1 ⟨rfl, hb1⟩; obtain ⟨x0, x1, x2, x3, xf, xl⟩ := (BV.below hb1).four; obtain ⟨z0, z1, z2, zf, zl⟩ := (BT.below hb1).tri; obtain ⟨r0, r1, r2, r3, rf, rl⟩ := (BR.below hb1).four) | (go_at_call 108; refine (HM.out _).mono ?_; rintro e w2 ⟨rfl, hb2⟩; obtain ⟨x0, x1, x2, x3, xf, xl⟩ := (BV.below (chain hb1 hb2)).four; obtain ⟨z0, z1, z2, zf, zl⟩ := (BT.below (chain hb1 hb2)).tri; obtain ⟨r0, r1, r2, r3, rf, rl⟩ := (BR.below (chain hb1 hb2)).four) | (go_at_call 109; refine (HA.out _ (chain hb (chain hb1 hb2))).mono ?_; rintro e w3 ⟨rfl, hb3⟩; obtain ⟨x0, x1, x2, x3, xf, xl⟩ := (BV.below (chain (chain hb1 hb2) hb3)).four; obtain ⟨z0, z1, z2, zf, zl⟩ := (BT.below (chain (chain hb1 hb2) hb3)).tri; obtain ⟨r0, r1, r2, r3, rf, rl⟩ := (BR.below (chain (chain hb1 hb2) hb3)).four) | (go_at_call 134; refine (moveFrom_any _ _ _).mono ?_; rintro e w4 ⟨rfl, hb4⟩; obtain ⟨x0, x1, x2, x3, xf, xl⟩ := (BV.below (chain (chain (chain hb1 hb2) hb3) hb4)).four; obtain ⟨z0, z1, z2, zf, zl⟩ := (BT.below (chain (chain (chain hb1 hb2) hb3) hb4)).tri; obtain ⟨r0, r1, r2, r3, rf, rl⟩ := (BR.below (chain (chain (chain hb1 hb2) hb3) hb4)).four) | (go_at_call 113; refine (HT.out _).mono ?_; rintro e w5 ⟨rfl, hb5⟩; obtain ⟨x0, x1, x2, x3, xf, xl⟩ := (BV.below (chain (chain (chain (chain hb1 hb2) hb3) hb4) hb5)).four; obtain ⟨z0, z1, z2, zf, zl⟩ := (BT.below (chain (chain (chain (chain hb1 hb2) hb3) hb4) hb5)).tri; obtain ⟨r0, r1, r2, r3, rf, rl⟩ := (BR.below (chain (chain (chain (chain hb1 hb2) hb3) hb4) hb5)).four) | (go_at_call 100; refine (HF.out _ ((chain hb (chain (chain (chain (chain hb1 hb2) hb3) hb4) hb5)).alloc (chain hb (chain (chain (chain (chain hb1 hb2) hb3) hb4) hb5)).size _)).mono ?_; rintro e w6 ⟨rfl, hb6⟩; obtain ⟨x0, x1, x2, x3, xf, xl⟩ := (BV.below (chain (chain (chain (chain (chain hb1 hb2) hb3) hb4) hb5) (from_alloc hb6))).four; obtain ⟨z0, z1, z2, zf, zl⟩ := (BT.below (chain (chain (chain (chain (chain hb1 hb2) hb3) hb4) hb5) (from_alloc hb6))).tri; obtain ⟨r0, r1, r2, r3, rf, rl⟩ := (BR.below (chain (chain (chain (chain (chain hb1 hb2) hb3) hb4) hb5) (from_alloc hb6))).four; obtain ⟨s0, s1, s2, s3, sf, sl⟩ := ((Blk.new w5 #[.int .i64 (k : Int), .int .i64 (t : Int), .int .i64 d, .bool false] 55).below hb6).four))
  refine bodyPost_ret (v := .tuple #[stV ((k : Int), (t : Int), d, decide (0 < v)), .bool true]) (by simp [results, Tryz.results92, go_sem, *]) rfl ⟨((k : Int), (t : Int), d, decide (0 < v)), true, rfl, rfl, ?_⟩
  exact below_set4 ((chain (chain hb (chain (chain (chain (chain hb1 hb2) hb3) hb4) hb5)) (from_alloc hb6)).setCell (chain hb (chain (chain (chain (chain hb1 hb2) hb3) hb4) hb5)).size _) (by omega) _ _ _ _
set_option maxRecDepth 8000 in
set_option maxHeartbeats 2000000 in
theorem stepFrom_off_false (P : Nat) (c h s : Int) (f1 f2 B : Nat) (xs ys : List Int) (w : World) (p0 : 2 ≤ P) (p1 : P ≤ 24) (n1 : xs.length = P + 1) (n2 : ys.length = P + 1) (hx : ∀ x ∈ xs, 0 ≤ x ∧ x ≤ 1000) (hy : ∀ y ∈ ys, 0 ≤ y ∧ y ≤ 1000) (q1 : Pays f1 B xs w) (q2 : Pays f2 B ys w) (k : Nat) (d : Int) (k1 : k ≤ P) (d0 : 1 ≤ d) (d1 : d ≤ 1000) (g0 : ¬ xs.getD k 0 = 0) (hk : k ≠ P) (hd : (k : Int) < d) (hal : (decide (lastL xs xs.length < h) && (decide ((k : Int) = d - 1) || decide ((k : Int) = lastL xs xs.length))) = false) :
    Calls Tryz.prog 92 #[.agg #[.int .i64 (P : Int), .int .i64 c, .int .i64 h, .int .i64 s], tv (P : Int) f1 f2 B, .int .i64 (k : Int), .int .i64 d] w (StepGot none w) := by
  have e199 := q1.1
  have hpk := fun W (hW : Below w.heap.size w W) => (q1.below hW).2 W (Below.refl _ _) k (by omega)
  have hal0 := fun W (hW : Below w.heap.size w W) => allowsOff_any P c h s f1 f2 B xs ys W p0 p1 n1 n2 hx hy (q1.below hW) (q2.below hW) (k : Int) d (by omega) (by omega) d0 d1 (by omega) (by omega)
  rw [hal] at hal0
  have hmo : ∀ W, Calls Tryz.prog 108 #[tv (P : Int) f1 f2 B, .int .i64 (k : Int), .int .i64 d] W fun e w' => e = .returned (.iface 158 (.agg #[.int .i64 (k : Int), .int .i64 d])) ∧ Below W.heap.size W w' := fun W => by
    have q := motionOf_any P f1 f2 B (k : Int) d W
    rwa [show motV P (k : Int) d = .iface 158 (.agg #[.int .i64 (k : Int), .int .i64 d]) from by rw [motV, if_neg (by omega), if_neg (by omega)]] at q
  obtain ⟨u, hu⟩ : ∃ u, xs.getD k 0 = u := ⟨_, rfl⟩
  rw [hu] at hpk g0
  have HP := Lib.hid hpk
  have HM := Lib.hid hmo
  have HA := Lib.hid hal0
  clear hpk hmo hal0 hal hu
  obtain ⟨BV, BT, BR, hb, hz⟩ := three_new w #[.int .i64 (P : Int), .int .i64 c, .int .i64 h, .int .i64 s] #[.int .i64 (P : Int), fv f1 B, fv f2 B] #[.int .i64 0, .int .i64 0, .int .i64 0, .bool false] 25 109 55
  obtain ⟨x0, x1, x2, x3, xf, xl⟩ := BV.four
  obtain ⟨z0, z1, z2, zf, zl⟩ := BT.tri
  obtain ⟨r0, r1, r2, r3, rf, rl⟩ := BR.four
  go_enter Tryz.func92, Tryz.ntmps92
  go_wp2_with (first | (go_at_fn f1; refine (HP.out _ hb).mono ?_; rintro e w1 ⟨rfl, hb1⟩; obtain ⟨x0, x1, x2, x3, xf, xl⟩ := (BV.below hb1).four; obtain ⟨z0, z1, z2, zf, zl⟩ := (BT.below hb1).tri; obtain ⟨r0, r1, r2, r3, rf, rl⟩ := (BR.below hb1).four) | (go_at_call 108; refine (HM.out _).mono ?_; rintro e w2 ⟨rfl, hb2⟩; obtain ⟨x0, x1, x2, x3, xf, xl⟩ := (BV.below (chain hb1 hb2)).four; obtain ⟨z0, z1, z2, zf, zl⟩ := (BT.below (chain hb1 hb2)).tri; obtain ⟨r0, r1, r2, r3, rf, rl⟩ := (BR.below (chain hb1 hb2)).four) | (go_at_call 109; refine (HA.out _ (chain hb (chain hb1 hb2))).mono ?_; rintro e w3 ⟨rfl, hb3⟩; obtain ⟨x0, x1, x2, x3, xf, xl⟩ := (BV.below (chain (chain hb1 hb2) hb3)).four; obtain ⟨z0, z1, z2, zf, zl⟩ := (BT.below (chain (chain hb1 hb2) hb3)).tri; obtain ⟨r0, r1, r2, r3, rf, rl⟩ := (BR.below (chain (chain hb1 hb2) hb3)).four))
  refine bodyPost_ret (v := .tuple #[stV (0, 0, 0, false), .bool false]) (by simp [results, Tryz.results92, go_sem, *]) rfl ⟨(0, 0, 0, false), false, rfl, rfl, ?_⟩
  exact below_set4 (chain hb (chain (chain hb1 hb2) hb3)) (by omega) _ _ _ _
set_option maxRecDepth 8000 in
set_option maxHeartbeats 2000000 in
theorem stepFrom_off_true (P : Nat) (c h s : Int) (f1 f2 B : Nat) (xs ys : List Int) (w : World) (p0 : 2 ≤ P) (p1 : P ≤ 24) (n1 : xs.length = P + 1) (n2 : ys.length = P + 1) (hx : ∀ x ∈ xs, 0 ≤ x ∧ x ≤ 1000) (hy : ∀ y ∈ ys, 0 ≤ y ∧ y ≤ 1000) (q1 : Pays f1 B xs w) (q2 : Pays f2 B ys w) (k : Nat) (d : Int) (k1 : k ≤ P) (d0 : 1 ≤ d) (d1 : d ≤ 1000) (g0 : ¬ xs.getD k 0 = 0) (hk : k ≠ P) (hd : (k : Int) < d) (hal : (decide (lastL xs xs.length < h) && (decide ((k : Int) = d - 1) || decide ((k : Int) = lastL xs xs.length))) = true) :
    Calls Tryz.prog 92 #[.agg #[.int .i64 (P : Int), .int .i64 c, .int .i64 h, .int .i64 s], tv (P : Int) f1 f2 B, .int .i64 (k : Int), .int .i64 d] w (StepGot (some ((k : Int), -1, d, false)) w) := by
  have e199 := q1.1
  have hpk := fun W (hW : Below w.heap.size w W) => (q1.below hW).2 W (Below.refl _ _) k (by omega)
  have hal0 := fun W (hW : Below w.heap.size w W) => allowsOff_any P c h s f1 f2 B xs ys W p0 p1 n1 n2 hx hy (q1.below hW) (q2.below hW) (k : Int) d (by omega) (by omega) d0 d1 (by omega) (by omega)
  rw [hal] at hal0
  have hmo : ∀ W, Calls Tryz.prog 108 #[tv (P : Int) f1 f2 B, .int .i64 (k : Int), .int .i64 d] W fun e w' => e = .returned (.iface 158 (.agg #[.int .i64 (k : Int), .int .i64 d])) ∧ Below W.heap.size W w' := fun W => by
    have q := motionOf_any P f1 f2 B (k : Int) d W
    rwa [show motV P (k : Int) d = .iface 158 (.agg #[.int .i64 (k : Int), .int .i64 d]) from by rw [motV, if_neg (by omega), if_neg (by omega)]] at q
  obtain ⟨u, hu⟩ : ∃ u, xs.getD k 0 = u := ⟨_, rfl⟩
  rw [hu] at hpk g0
  have HP := Lib.hid hpk
  have HM := Lib.hid hmo
  have HA := Lib.hid hal0
  have hmf := fun (x : Value) (W : World) => met_bearingOff_from x W
  have hmt := fun (x : Value) (W : World) => met_bearingOff_to x W
  have hto := fun W => offTo_any (k : Int) d W
  have HT := Lib.hid hto
  clear hto
  clear hpk hmo hal0 hal hu
  obtain ⟨BV, BT, BR, hb, hz⟩ := three_new w #[.int .i64 (P : Int), .int .i64 c, .int .i64 h, .int .i64 s] #[.int .i64 (P : Int), fv f1 B, fv f2 B] #[.int .i64 0, .int .i64 0, .int .i64 0, .bool false] 25 109 55
  obtain ⟨x0, x1, x2, x3, xf, xl⟩ := BV.four
  obtain ⟨z0, z1, z2, zf, zl⟩ := BT.tri
  obtain ⟨r0, r1, r2, r3, rf, rl⟩ := BR.four
  go_enter Tryz.func92, Tryz.ntmps92
  go_wp2_with (first | (go_at_fn f1; refine (HP.out _ hb).mono ?_; rintro e w1 ⟨rfl, hb1⟩; obtain ⟨x0, x1, x2, x3, xf, xl⟩ := (BV.below hb1).four; obtain ⟨z0, z1, z2, zf, zl⟩ := (BT.below hb1).tri; obtain ⟨r0, r1, r2, r3, rf, rl⟩ := (BR.below hb1).four) | (go_at_call 108; refine (HM.out _).mono ?_; rintro e w2 ⟨rfl, hb2⟩; obtain ⟨x0, x1, x2, x3, xf, xl⟩ := (BV.below (chain hb1 hb2)).four; obtain ⟨z0, z1, z2, zf, zl⟩ := (BT.below (chain hb1 hb2)).tri; obtain ⟨r0, r1, r2, r3, rf, rl⟩ := (BR.below (chain hb1 hb2)).four) | (go_at_call 109; refine (HA.out _ (chain hb (chain hb1 hb2))).mono ?_; rintro e w3 ⟨rfl, hb3⟩; obtain ⟨x0, x1, x2, x3, xf, xl⟩ := (BV.below (chain (chain hb1 hb2) hb3)).four; obtain ⟨z0, z1, z2, zf, zl⟩ := (BT.below (chain (chain hb1 hb2) hb3)).tri; obtain ⟨r0, r1, r2, r3, rf, rl⟩ := (BR.below (chain (chain hb1 hb2) hb3)).four) | (go_at_call 135; refine (offFrom_any _ _ _).mono ?_; rintro e w4 ⟨rfl, hb4⟩; obtain ⟨x0, x1, x2, x3, xf, xl⟩ := (BV.below (chain (chain (chain hb1 hb2) hb3) hb4)).four; obtain ⟨z0, z1, z2, zf, zl⟩ := (BT.below (chain (chain (chain hb1 hb2) hb3) hb4)).tri; obtain ⟨r0, r1, r2, r3, rf, rl⟩ := (BR.below (chain (chain (chain hb1 hb2) hb3) hb4)).four) | (go_at_call 136; refine (HT.out _).mono ?_; rintro e w5 ⟨rfl, hb5⟩; obtain ⟨x0, x1, x2, x3, xf, xl⟩ := (BV.below (chain (chain (chain (chain hb1 hb2) hb3) hb4) hb5)).four; obtain ⟨z0, z1, z2, zf, zl⟩ := (BT.below (chain (chain (chain (chain hb1 hb2) hb3) hb4) hb5)).tri; obtain ⟨r0, r1, r2, r3, rf, rl⟩ := (BR.below (chain (chain (chain (chain hb1 hb2) hb3) hb4) hb5)).four))
  refine bodyPost_ret (v := .tuple #[stV ((k : Int), -1, d, false), .bool true]) (by simp [results, Tryz.results92, go_sem, *]) rfl ⟨((k : Int), -1, d, false), true, rfl, rfl, ?_⟩
  exact (below_set4 (chain hb (chain (chain (chain (chain hb1 hb2) hb3) hb4) hb5)) (by omega) _ _ _ _).alloc (by simpa using (chain hb (chain (chain (chain (chain hb1 hb2) hb3) hb4) hb5)).size) _
theorem stepFrom_any (P : Nat) (c h s : Int) (f1 f2 B : Nat) (xs ys : List Int) (w : World) (p0 : 2 ≤ P) (p1 : P ≤ 24) (n1 : xs.length = P + 1) (n2 : ys.length = P + 1) (hx : ∀ x ∈ xs, 0 ≤ x ∧ x ≤ 1000) (hy : ∀ y ∈ ys, 0 ≤ y ∧ y ≤ 1000) (q1 : Pays f1 B xs w) (q2 : Pays f2 B ys w) (k : Nat) (d : Int) (k1 : k ≤ P) (d0 : 1 ≤ d) (d1 : d ≤ 1000) :
    Calls Tryz.prog 92 #[.agg #[.int .i64 (P : Int), .int .i64 c, .int .i64 h, .int .i64 s], tv (P : Int) f1 f2 B, .int .i64 (k : Int), .int .i64 d] w (StepGot (stepI P h xs ys k d) w) := by
  unfold stepI
  by_cases g0 : xs.getD k 0 = 0
  · rw [if_pos g0]
    exact stepFrom_none P c h s f1 f2 B xs ys w p0 p1 n1 n2 hx hy q1 q2 k d k1 g0
  rw [if_neg g0]
  have A1 : ∀ i : Int, openB P ys i = true → 0 ≤ i ∧ i < (P : Int) := fun i hi => by simp [openB] at hi; exact ⟨hi.1, hi.2.1⟩
  have D1 : ∀ t : Nat, decide ((t : Int) ≠ -1) = true := fun t => by simp
  unfold alB toI
  by_cases hk : k = P
  · subst hk
    simp only [if_true, true_or]
    cases hal : openB k ys ((k : Int) - d) with
    | false => exact stepFrom_enter_false k c h s f1 f2 B xs ys w p0 p1 n1 n2 hx hy q1 q2 d d0 d1 g0 hal
    | true =>
      obtain ⟨t0, t1⟩ := A1 _ hal
      obtain ⟨t, ht⟩ := Int.eq_ofNat_of_zero_le t0
      have q := stepFrom_enter_true k c h s f1 f2 B xs ys w p0 p1 n1 n2 hx hy q1 q2 d d0 d1 g0 hal t _ ht (by omega) rfl
      rw [if_pos rfl, ht, D1, Bool.true_and]
      exact q
  · rw [if_neg hk]
    by_cases hd : d ≤ (k : Int)
    · rw [if_pos hd, if_pos (Or.inr hd)]
      cases hal : (decide (lastL xs xs.length < (P : Int)) && openB P ys ((k : Int) - d)) with
      | false => exact stepFrom_move_false P c h s f1 f2 B xs ys w p0 p1 n1 n2 hx hy q1 q2 k d k1 d0 d1 g0 hk hd hal
      | true =>
        obtain ⟨t0, t1⟩ := A1 _ ((Bool.and_eq_true _ _).mp hal).2
        obtain ⟨t, ht⟩ := Int.eq_ofNat_of_zero_le t0
        have q := stepFrom_move_true P c h s f1 f2 B xs ys w p0 p1 n1 n2 hx hy q1 q2 k d k1 d0 d1 g0 hk hd hal t _ ht (by omega) rfl
        rw [if_pos rfl, ht, D1, Bool.true_and]
        exact q
    · rw [if_neg hd, if_neg (show ¬(k = P ∨ d ≤ (k : Int)) by simp [hk, hd])]
      cases hal : (decide (lastL xs xs.length < h) && (decide ((k : Int) = d - 1) || decide ((k : Int) = lastL xs xs.length))) with
      | false => exact stepFrom_off_false P c h s f1 f2 B xs ys w p0 p1 n1 n2 hx hy q1 q2 k d k1 d0 d1 g0 hk (by omega) hal
      | true => exact stepFrom_off_true P c h s f1 f2 B xs ys w p0 p1 n1 n2 hx hy q1 q2 k d k1 d0 d1 g0 hk (by omega) hal
theorem lastL_sum (xs : List Int) (hx : ∀ x ∈ xs, 0 ≤ x) : ∀ k : Nat, k ≤ xs.length → (lastL xs k < 0 ↔ (xs.take k).sum = 0)
  | 0, _ => by simp [lastL]
  | k + 1, h => by
    have ih := lastL_sum xs hx k (by omega)
    have h1 := sum_take xs k (by omega)
    have h2 := hx _ (getD_mem (show k < xs.length by omega))
    have h3 := sum_nonneg (xs.take k) (fun x hm => hx x (List.mem_of_mem_take hm))
    have h4 := (lastL_bound xs k).1
    rw [h1, lastL]
    split <;> omega
theorem overB_sum {xs ys : List Int} (hx : ∀ x ∈ xs, 0 ≤ x ∧ x ≤ 1000) (hy : ∀ x ∈ ys, 0 ≤ x ∧ x ≤ 1000) : overB xs ys = (decide (xs.sum = 0) || decide (ys.sum = 0)) := by
  have h1 := lastL_sum xs (fun x h => (hx x h).1) xs.length (Nat.le_refl _)
  have h2 := lastL_sum ys (fun x h => (hy x h).1) ys.length (Nat.le_refl _)
  rw [List.take_length] at h1 h2
  rw [overB, decide_eq_decide.2 h1, decide_eq_decide.2 h2]
set_option maxHeartbeats 1000000 in
theorem l02Over_any (a1 a2 : Option Addr) (n1 n2 c1 c2 : Nat) (xs ys : List Int) (w : World) (h1 : xs.length = n1) (h2 : ys.length = n2) (l1 : n1 ≤ 1000) (l2 : n2 ≤ 1000) (hx : ∀ x ∈ xs, 0 ≤ x ∧ x ≤ 1000) (hy : ∀ x ∈ ys, 0 ≤ x ∧ x ≤ 1000) (r1 : IRow w a1 xs) (r2 : IRow w a2 ys) :
    Calls Tryz.prog 94 #[.agg #[.slice a1 n1 c1, .slice a2 n2 c2]] w fun e w' => e = .returned (.bool (overB xs ys)) ∧ Below w.heap.size w w' := by
  rw [overB_sum hx hy]
  have hb : Below w.heap.size w (w.alloc (.cells #[.slice a1 n1 c1, .slice a2 n2 c2] 28)) := (Below.refl _ _).alloc (Nat.le_refl _) _
  obtain ⟨y0, y1, yf, yl⟩ := (Blk.new w #[.slice a1 n1 c1, .slice a2 n2 c2] 28).two
  have hs1 := l02Sum_any a1 n1 c1 xs _ h1 l1 hx (r1.below hb)
  have hs2 := l02Sum_any a2 n2 c2 ys _ h2 l2 hy (r2.below hb)
  have HS1 := Lib.hid hs1
  have HS2 := Lib.hid hs2
  clear hs1 hs2
  by_cases d1 : xs.sum = 0
  · have f1 : (xs.sum == 0) = true := by rw [beq_iff_eq]; exact d1
    have f2 : (decide (xs.sum = 0) || decide (ys.sum = 0)) = true := by simp [d1]
    rw [f2]
    clear f2 d1
    go_enter Tryz.func94, Tryz.ntmps94
    go_wp2_with (go_at_call 64; refine HS1.out.mono ?_; rintro e w1 ⟨rfl, rfl⟩)
    go_ret
    exact ⟨rfl, hb⟩
  · have f1 : (xs.sum == 0) = false := by rw [beq_eq_false_iff_ne]; exact d1
    have f2 : (decide (xs.sum = 0) || decide (ys.sum = 0)) = decide (ys.sum = 0) := by simp [d1]
    rw [f2]
    clear f2 d1
    go_enter Tryz.func94, Tryz.ntmps94
    go_wp2_with (go_at_call 64; with_reducible first | (refine HS1.out.mono ?_; rintro e w1 ⟨rfl, rfl⟩) | (refine HS2.out.mono ?_; rintro e w2 ⟨rfl, rfl⟩))
    go_ret
    exact ⟨by simp <;> rfl, hb⟩
theorem lastL_ge {xs : List Int} {k : Nat} (h : 0 < xs.getD k 0) : ∀ n, k < n → (k : Int) ≤ lastL xs n
  | 0, h0 => by omega
  | n + 1, h0 => by
    by_cases hk : k = n
    · subst hk
      rw [lastL_pos h]
      omega
    · have ih := lastL_ge h n (by omega)
      rw [lastL]
      split <;> omega
section
variable {P : Nat} {h : Int} {xs ys : List Int} {k : Nat} {d : Int}
theorem stepI_blocked (N1 : xs.length = P + 1) (hh : h ≤ (P : Int)) (k1 : k ≤ P) (d0 : 1 ≤ d) (hk : k ≠ P) (hp : 0 < xs.getD P 0) : stepI P h xs ys k d = none := by
  have hl : lastL xs xs.length = (P : Int) := by rw [N1]; exact lastL_pos hp
  unfold stepI alB
  rw [hl, if_neg hk]
  split
  · rfl
  · rw [if_neg]
    split <;> simp <;> omega
theorem stepI_pos (N1 : xs.length = P + 1) (N2 : ys.length = P + 1) (hy : ∀ y ∈ ys, 0 ≤ y ∧ y ≤ 1000) (hx : ∀ x ∈ xs, 0 ≤ x ∧ x ≤ 1000) (k1 : k ≤ P) (d0 : 1 ≤ d) (hf : ¬ (0 < xs.getD P 0 ∧ k ≠ P)) (g0 : xs.getD k 0 ≠ 0) (t : Nat) (ht : (k : Int) - d = (t : Int)) :
    stepI P h xs ys k d = if ys.getD (P - 1 - t) 0 ≤ 1 then some ((k : Int), (t : Int), d, decide (ys.getD (P - 1 - t) 0 = 1)) else none := by
  have hal : alB P h xs ys k d = decide (ys.getD (P - 1 - t) 0 ≤ 1) := by
    have ho : openB P ys ((k : Int) - d) = decide (ys.getD (P - 1 - t) 0 ≤ 1) := by
      unfold openB
      rw [ht, decide_eq_true (show (0 : Int) ≤ (t : Int) by omega), decide_eq_true (show (t : Int) < (P : Int) by omega)]
      simp
    unfold alB
    by_cases hk : k = P
    · rw [if_pos hk, ho]
    · rw [if_neg hk, if_pos (by omega), ho]
      have hz : xs.getD P 0 = 0 := by
        have := (hx _ (getD_mem (xs := xs) (k := P) (by omega))).1
        have : ¬ 0 < xs.getD P 0 := fun hp => hf ⟨hp, hk⟩
        omega
      have hl : lastL xs xs.length < (P : Int) := by
        rw [N1, lastL_not hz]
        exact (lastL_bound xs P).2
      rw [decide_eq_true hl, Bool.true_and]
  have hto : toI P k d = (t : Int) := by
    unfold toI
    by_cases hk : k = P
    · rw [if_pos (.inl hk), ht]
    · rw [if_pos (.inr (by omega)), ht]
  unfold stepI
  rw [if_neg g0, hal, hto]
  have hg := (hy _ (getD_mem (xs := ys) (k := P - 1 - t) (by omega))).1
  by_cases h1 : ys.getD (P - 1 - t) 0 ≤ 1
  · rw [if_pos (by simpa using h1), if_pos h1]
    have e1 : decide ((t : Int) ≠ -1) = true := by simp
    have e2 : (t : Int).toNat = t := by simp
    rw [e1, Bool.true_and, e2, decide_eq_decide.2 (show (0 < ys.getD (P - 1 - t) 0 ↔ ys.getD (P - 1 - t) 0 = 1) by omega)]
  · rw [if_neg (by simpa using h1), if_neg h1]
theorem stepI_neg (N1 : xs.length = P + 1) (hh : h ≤ (P : Int)) (k1 : k ≤ P) (d0 : 1 ≤ d) (hf : ¬ (0 < xs.getD P 0 ∧ k ≠ P)) (hx : ∀ x ∈ xs, 0 ≤ x ∧ x ≤ 1000) (g0 : xs.getD k 0 ≠ 0) (ht : (k : Int) - d < 0) :
    stepI P h xs ys k d = if h ≤ lastL xs xs.length ∨ ((k : Int) - d < -1 ∧ (k : Int) < lastL xs xs.length) then none else some ((k : Int), -1, d, false) := by
  have hg : 0 < xs.getD k 0 := by have := (hx _ (getD_mem (xs := xs) (k := k) (by omega))).1; omega
  have hge := lastL_ge hg xs.length (by omega)
  by_cases hk : k = P
  · subst hk
    have hl : lastL xs xs.length = (k : Int) := by rw [N1]; exact lastL_pos hg
    rw [if_pos (.inl (by omega))]
    unfold stepI alB
    rw [if_neg g0, if_pos rfl, if_neg]
    unfold openB
    rw [decide_eq_false (show ¬ (0 : Int) ≤ (k : Int) - d by omega), Bool.false_and]
    simp
  · have hto : toI P k d = -1 := by
      unfold toI
      rw [if_neg (by omega)]
    unfold stepI alB
    rw [if_neg g0, if_neg hk, if_neg (show ¬ d ≤ (k : Int) by omega), hto]
    generalize lastL xs xs.length = F at *
    by_cases hc : h ≤ F ∨ ((k : Int) - d < -1 ∧ (k : Int) < F)
    · rw [if_pos hc, if_neg]
      simp
      omega
    · rw [if_neg hc, if_pos]
      · simp
      · simp
        omega
end
def stepS (P : Nat) (h : Int) (xs ys : List Int) (k : Nat) (d : Int) : Option Stp := if overB xs ys = true then none else stepI P h xs ys k d
set_option maxHeartbeats 1000000 in
theorem l04Open_any (P : Nat) (c h s : Int) (a1 a2 : Option Addr) (n1 n2 c1 c2 : Nat) (xs ys : List Int) (w : World) (h1 : xs.length = n1) (h2 : ys.length = n2) (p0 : 2 ≤ P) (p1 : P ≤ 24) (N1 : xs.length = P + 1) (N2 : ys.length = P + 1) (hh0 : 1 ≤ h) (hh : h ≤ (P : Int)) (hx : ∀ x ∈ xs, 0 ≤ x ∧ x ≤ 1000) (hy : ∀ y ∈ ys, 0 ≤ y ∧ y ≤ 1000) (r1 : IRow w a1 xs) (r2 : IRow w a2 ys) (t : Nat) (tP : t < P) :
    Calls Tryz.prog 95 #[.agg #[.int .i64 (P : Int), .int .i64 c, .int .i64 h, .int .i64 s], .agg #[.slice a1 n1 c1, .slice a2 n2 c2], .int .i64 (t : Int)] w fun e w' => e = .returned (.bool (decide (ys.getD (P - 1 - t) 0 ≤ 1))) ∧ Below w.heap.size w w' := by
  obtain ⟨BV, BB, hb, hz⟩ := two_new w #[.int .i64 (P : Int), .int .i64 c, .int .i64 h, .int .i64 s] #[.slice a1 n1 c1, .slice a2 n2 c2] 25 28
  obtain ⟨x0, x1, x2, x3, xf, xl⟩ := BV.four
  obtain ⟨y0, y1, yf, yl⟩ := BB.two
  obtain ⟨b, o, rfl, hc⟩ := r2.below hb (P - 1 - t) (by omega)
  have e1 : ((P : Int) - 1 - (t : Int)) = ((P - 1 - t : Nat) : Int) := by omega
  have hlt : P - 1 - t < n2 := by omega
  have hltI : ((P - 1 - t : Nat) : Int) < (n2 : Int) := by omega
  obtain ⟨v, hv⟩ : ∃ v, ys.getD (P - 1 - t) 0 = v := ⟨_, rfl⟩
  obtain ⟨K, hK⟩ : ∃ K, P - 1 - t = K := ⟨_, rfl⟩
  rw [hv] at hc ⊢
  rw [hK] at hc e1 hlt hltI
  have wz1 : IntKind.i64.wrap ((P : Int) - 1 - (t : Int)) = (K : Int) := by rw [e1]; exact IntWalk.i64_in _ (by omega)
  clear hv hK e1 r1 r2 hx hy N1 N2 h1 h2
  go_enter Tryz.func95, Tryz.ntmps95
  go_wp2
  go_ret
  exact ⟨rfl, hb⟩
set_option maxRecDepth 8000 in
set_option maxHeartbeats 2000000 in
theorem l04Step_over (P : Nat) (c h s : Int) (a1 a2 : Option Addr) (n1 n2 c1 c2 : Nat) (xs ys : List Int) (w : World) (h1 : xs.length = n1) (h2 : ys.length = n2) (p0 : 2 ≤ P) (p1 : P ≤ 24) (N1 : xs.length = P + 1) (N2 : ys.length = P + 1) (hh0 : 1 ≤ h) (hh : h ≤ (P : Int)) (hx : ∀ x ∈ xs, 0 ≤ x ∧ x ≤ 1000) (hy : ∀ y ∈ ys, 0 ≤ y ∧ y ≤ 1000) (r1 : IRow w a1 xs) (r2 : IRow w a2 ys) (k : Nat) (d : Int) (k1 : k ≤ P) (d0 : 1 ≤ d) (d1 : d ≤ 1000) (g3 : overB xs ys = true) :
    Calls Tryz.prog 65 #[.agg #[.int .i64 (P : Int), .int .i64 c, .int .i64 h, .int .i64 s], .agg #[.slice a1 n1 c1, .slice a2 n2 c2], .int .i64 (k : Int), .int .i64 d] w (StepGot none w) := by
  have ho0 := fun W (hW : Below w.heap.size w W) => l02Over_any a1 a2 n1 n2 c1 c2 xs ys W h1 h2 (by omega) (by omega) hx hy (r1.below hW) (r2.below hW)
  rw [g3] at ho0
  have HOV := Lib.hid ho0
  clear ho0 g3
  obtain ⟨BV, BB, BR, hb, hz⟩ := three_new w #[.int .i64 (P : Int), .int .i64 c, .int .i64 h, .int .i64 s] #[.slice a1 n1 c1, .slice a2 n2 c2] #[.int .i64 0, .int .i64 0, .int .i64 0, .bool false] 25 28 55
  obtain ⟨x0, x1, x2, x3, xf, xl⟩ := BV.four
  obtain ⟨y0, y1, yf, yl⟩ := BB.two
  obtain ⟨s0, s1, s2, s3, sf, sl⟩ := BR.four
  go_enter Tryz.func65, Tryz.ntmps65
  go_wp2_with (first | (go_at_call 94; refine (HOV.out _ hb).mono ?_; rintro e w1 ⟨rfl, hb1⟩; obtain ⟨x0, x1, x2, x3, xf, xl⟩ := (BV.below hb1).four; obtain ⟨y0, y1, yf, yl⟩ := (BB.below hb1).two; obtain ⟨s0, s1, s2, s3, sf, sl⟩ := (BR.below hb1).four))
  refine bodyPost_ret (v := .tuple #[stV (0, 0, 0, false), .bool false]) (by simp [results, Tryz.results65, go_sem, *]) rfl ⟨(0, 0, 0, false), false, rfl, rfl, ?_⟩
  exact below_set4 (chain hb hb1) (by omega) _ _ _ _
set_option maxRecDepth 8000 in
set_option maxHeartbeats 2000000 in
theorem l04Step_none (P : Nat) (c h s : Int) (a1 a2 : Option Addr) (n1 n2 c1 c2 : Nat) (xs ys : List Int) (w : World) (h1 : xs.length = n1) (h2 : ys.length = n2) (p0 : 2 ≤ P) (p1 : P ≤ 24) (N1 : xs.length = P + 1) (N2 : ys.length = P + 1) (hh0 : 1 ≤ h) (hh : h ≤ (P : Int)) (hx : ∀ x ∈ xs, 0 ≤ x ∧ x ≤ 1000) (hy : ∀ y ∈ ys, 0 ≤ y ∧ y ≤ 1000) (r1 : IRow w a1 xs) (r2 : IRow w a2 ys) (k : Nat) (d : Int) (k1 : k ≤ P) (d0 : 1 ≤ d) (d1 : d ≤ 1000) (g3 : overB xs ys = false) (g0 : xs.getD k 0 = 0 ∨ (0 < xs.getD P 0 ∧ k ≠ P)) :
    Calls Tryz.prog 65 #[.agg #[.int .i64 (P : Int), .int .i64 c, .int .i64 h, .int .i64 s], .agg #[.slice a1 n1 c1, .slice a2 n2 c2], .int .i64 (k : Int), .int .i64 d] w (StepGot none w) := by
  have ho0 := fun W (hW : Below w.heap.size w W) => l02Over_any a1 a2 n1 n2 c1 c2 xs ys W h1 h2 (by omega) (by omega) hx hy (r1.below hW) (r2.below hW)
  rw [g3] at ho0
  have HOV := Lib.hid ho0
  obtain ⟨b, ob, rfl, -⟩ := r1 0 (by omega)
  have hck : ∀ W, Below w.heap.size w W → W.cell? ⟨b, ob + k, none⟩ = some (.int .i64 (xs.getD k 0)) := fun W hW => by
    obtain ⟨b', o', e, hc⟩ := r1.below hW k (by omega)
    simp at e
    obtain ⟨rfl, rfl⟩ := e
    exact hc
  have hcp : ∀ W, Below w.heap.size w W → W.cell? ⟨b, ob + P, none⟩ = some (.int .i64 (xs.getD P 0)) := fun W hW => by
    obtain ⟨b', o', e, hc⟩ := r1.below hW P (by omega)
    simp at e
    obtain ⟨rfl, rfl⟩ := e
    exact hc
  have hkn : k < n1 := by omega
  have hPn : P < n1 := by omega
  have hkI : (k : Int) < (n1 : Int) := by omega
  have hPI : (P : Int) < (n1 : Int) := by omega
  have hk0 : (0 : Int) ≤ (k : Int) := by omega
  obtain ⟨u, hu⟩ : ∃ u, xs.getD k 0 = u := ⟨_, rfl⟩
  obtain ⟨v, hv⟩ : ∃ v, xs.getD P 0 = v := ⟨_, rfl⟩
  have hv0 : 0 ≤ v := by rw [← hv]; exact (hx _ (getD_mem (show P < xs.length by omega))).1
  rw [hu] at hck
  rw [hv] at hcp
  have HC1 := Lib.hid hck
  have HC2 := Lib.hid hcp
  rw [hu, hv] at g0
  clear ho0 g3 hck hcp hu hv hx hy r1 r2
  by_cases gu : u = 0
  · subst gu
    clear g0
    obtain ⟨BV, BB, BR, hb, hz⟩ := three_new w #[.int .i64 (P : Int), .int .i64 c, .int .i64 h, .int .i64 s] #[.slice (some ⟨b, ob, none⟩) n1 c1, .slice a2 n2 c2] #[.int .i64 0, .int .i64 0, .int .i64 0, .bool false] 25 28 55
    obtain ⟨x0, x1, x2, x3, xf, xl⟩ := BV.four
    obtain ⟨y0, y1, yf, yl⟩ := BB.two
    obtain ⟨s0, s1, s2, s3, sf, sl⟩ := BR.four
    go_enter Tryz.func65, Tryz.ntmps65
    go_wp2_with (first | (go_at_call 94; refine (HOV.out _ hb).mono ?_; rintro e w1 ⟨rfl, hb1⟩; obtain ⟨x0, x1, x2, x3, xf, xl⟩ := (BV.below hb1).four; obtain ⟨y0, y1, yf, yl⟩ := (BB.below hb1).two; obtain ⟨s0, s1, s2, s3, sf, sl⟩ := (BR.below hb1).four; have ck := HC1.out w1 (chain hb hb1); have cp := HC2.out w1 (chain hb hb1)))
    refine bodyPost_ret (v := .tuple #[stV (0, 0, 0, false), .bool false]) (by simp [results, Tryz.results65, go_sem, *]) rfl ⟨(0, 0, 0, false), false, rfl, rfl, ?_⟩
    exact below_set4 (chain hb hb1) (by omega) _ _ _ _
  · have g1 : 0 < v ∧ k ≠ P := by omega
    obtain ⟨g1, g2⟩ := g1
    have g2' : ¬ (k : Int) = (P : Int) := by omega
    clear g0
    obtain ⟨BV, BB, BR, hb, hz⟩ := three_new w #[.int .i64 (P : Int), .int .i64 c, .int .i64 h, .int .i64 s] #[.slice (some ⟨b, ob, none⟩) n1 c1, .slice a2 n2 c2] #[.int .i64 0, .int .i64 0, .int .i64 0, .bool false] 25 28 55
    obtain ⟨x0, x1, x2, x3, xf, xl⟩ := BV.four
    obtain ⟨y0, y1, yf, yl⟩ := BB.two
    obtain ⟨s0, s1, s2, s3, sf, sl⟩ := BR.four
    go_enter Tryz.func65, Tryz.ntmps65
    go_wp2_with (first | (go_at_call 94; refine (HOV.out _ hb).mono ?_; rintro e w1 ⟨rfl, hb1⟩; obtain ⟨x0, x1, x2, x3, xf, xl⟩ := (BV.below hb1).four; obtain ⟨y0, y1, yf, yl⟩ := (BB.below hb1).two; obtain ⟨s0, s1, s2, s3, sf, sl⟩ := (BR.below hb1).four; have ck := HC1.out w1 (chain hb hb1); have cp := HC2.out w1 (chain hb hb1)))
    refine bodyPost_ret (v := .tuple #[stV (0, 0, 0, false), .bool false]) (by simp [results, Tryz.results65, go_sem, *]) rfl ⟨(0, 0, 0, false), false, rfl, rfl, ?_⟩
    exact below_set4 (chain hb hb1) (by omega) _ _ _ _
set_option maxRecDepth 8000 in
set_option maxHeartbeats 2000000 in
theorem l04Step_negP (P : Nat) (c h s : Int) (a1 a2 : Option Addr) (n1 n2 c1 c2 : Nat) (xs ys : List Int) (w : World) (h1 : xs.length = n1) (h2 : ys.length = n2) (p0 : 2 ≤ P) (p1 : P ≤ 24) (N1 : xs.length = P + 1) (N2 : ys.length = P + 1) (hh0 : 1 ≤ h) (hh : h ≤ (P : Int)) (hx : ∀ x ∈ xs, 0 ≤ x ∧ x ≤ 1000) (hy : ∀ y ∈ ys, 0 ≤ y ∧ y ≤ 1000) (r1 : IRow w a1 xs) (r2 : IRow w a2 ys) (d : Int) (d0 : 1 ≤ d) (d1 : d ≤ 1000) (g3 : overB xs ys = false) (gp : 0 < xs.getD P 0) (ht : (P : Int) - d < 0) :
    Calls Tryz.prog 65 #[.agg #[.int .i64 (P : Int), .int .i64 c, .int .i64 h, .int .i64 s], .agg #[.slice a1 n1 c1, .slice a2 n2 c2], .int .i64 (P : Int), .int .i64 d] w (StepGot none w) := by
  have ho0 := fun W (hW : Below w.heap.size w W) => l02Over_any a1 a2 n1 n2 c1 c2 xs ys W h1 h2 (by omega) (by omega) hx hy (r1.below hW) (r2.below hW)
  have hl0 := fun W (hW : Below w.heap.size w W) => l02Last_any a1 n1 c1 xs W h1 (by omega) (r1.below hW)
  have hl1 : lastL xs n1 = lastL xs xs.length := by rw [h1]
  rw [hl1] at hl0
  clear hl1
  have lb := lastL_bound xs xs.length
  have hFP : lastL xs xs.length = (P : Int) := by rw [N1]; exact lastL_pos gp
  obtain ⟨F, hF⟩ : ∃ F, lastL xs xs.length = F := ⟨_, rfl⟩
  rw [hF] at hl0 lb hFP
  have F0 : -1 ≤ F := lb.1
  have F1 : F ≤ (P : Int) := by omega
  have F2 : h ≤ F := by omega
  rw [g3] at ho0
  have HOV := Lib.hid ho0
  obtain ⟨b, ob, rfl, -⟩ := r1 0 (by omega)
  have hck : ∀ W, Below w.heap.size w W → W.cell? ⟨b, ob + P, none⟩ = some (.int .i64 (xs.getD P 0)) := fun W hW => by
    obtain ⟨b', o', e, hc⟩ := r1.below hW P (by omega)
    simp at e
    obtain ⟨rfl, rfl⟩ := e
    exact hc
  have hcp : ∀ W, Below w.heap.size w W → W.cell? ⟨b, ob + P, none⟩ = some (.int .i64 (xs.getD P 0)) := fun W hW => by
    obtain ⟨b', o', e, hc⟩ := r1.below hW P (by omega)
    simp at e
    obtain ⟨rfl, rfl⟩ := e
    exact hc
  have hkn : P < n1 := by omega
  have hPn : P < n1 := by omega
  have hkI : (P : Int) < (n1 : Int) := by omega
  have hPI : (P : Int) < (n1 : Int) := by omega
  have hk0 : (0 : Int) ≤ (P : Int) := by omega
  obtain ⟨u, hu⟩ : ∃ u, xs.getD P 0 = u := ⟨_, rfl⟩
  obtain ⟨v, hv⟩ : ∃ v, xs.getD P 0 = v := ⟨_, rfl⟩
  have hv0 : 0 ≤ v := by rw [← hv]; exact (hx _ (getD_mem (show P < xs.length by omega))).1
  rw [hu] at hck
  rw [hv] at hcp
  have HC1 := Lib.hid hck
  have HC2 := Lib.hid hcp
  have HLA := Lib.hid hl0
  
  rw [hv] at gp
  have g0 : ¬ v = 0 := by omega
  have huv : u = v := by rw [← hu, hv]
  subst huv
  have hkn : decide ((0 : Int) ≤ (P : Int) - d) = false := by simp; omega
  have eu : (u == 0) = false := by simpa using g0
  have hkd : (P : Int) - d ≤ -1 := by omega
  have hkd2 : -1000 ≤ (P : Int) - d := by omega
  have hk24 : (P : Int) ≤ 24 := by omega
  clear ho0 g3 hck hcp hu hv hx hy r1 r2 hl0 hFP hF lb
  obtain ⟨BV, BB, BR, hb, hz⟩ := three_new w #[.int .i64 (P : Int), .int .i64 c, .int .i64 h, .int .i64 s] #[.slice (some ⟨b, ob, none⟩) n1 c1, .slice a2 n2 c2] #[.int .i64 0, .int .i64 0, .int .i64 0, .bool false] 25 28 55
  obtain ⟨x0, x1, x2, x3, xf, xl⟩ := BV.four
  obtain ⟨y0, y1, yf, yl⟩ := BB.two
  obtain ⟨s0, s1, s2, s3, sf, sl⟩ := BR.four
  go_enter Tryz.func65, Tryz.ntmps65
  go_wp2_with (first | (go_at_call 94; refine (HOV.out _ hb).mono ?_; rintro e w1 ⟨rfl, hb1⟩; obtain ⟨x0, x1, x2, x3, xf, xl⟩ := (BV.below hb1).four; obtain ⟨y0, y1, yf, yl⟩ := (BB.below hb1).two; obtain ⟨s0, s1, s2, s3, sf, sl⟩ := (BR.below hb1).four; have ck := HC1.out w1 (chain hb hb1); have cp := HC2.out w1 (chain hb hb1)) | (go_at_call 96; refine (HLA.out _ (chain hb hb1)).mono ?_; rintro e w2 ⟨rfl, rfl⟩))
  refine bodyPost_ret (v := .tuple #[stV (0, 0, 0, false), .bool false]) (by simp [results, Tryz.results65, go_sem, *]) rfl ⟨(0, 0, 0, false), false, rfl, rfl, ?_⟩
  exact below_set4 (chain hb hb1) (by omega) _ _ _ _
set_option maxRecDepth 8000 in
set_option maxHeartbeats 2000000 in
theorem l04Step_negN (P : Nat) (c h s : Int) (a1 a2 : Option Addr) (n1 n2 c1 c2 : Nat) (xs ys : List Int) (w : World) (h1 : xs.length = n1) (h2 : ys.length = n2) (p0 : 2 ≤ P) (p1 : P ≤ 24) (N1 : xs.length = P + 1) (N2 : ys.length = P + 1) (hh0 : 1 ≤ h) (hh : h ≤ (P : Int)) (hx : ∀ x ∈ xs, 0 ≤ x ∧ x ≤ 1000) (hy : ∀ y ∈ ys, 0 ≤ y ∧ y ≤ 1000) (r1 : IRow w a1 xs) (r2 : IRow w a2 ys) (k : Nat) (d : Int) (k1 : k ≤ P) (d0 : 1 ≤ d) (d1 : d ≤ 1000) (g3 : overB xs ys = false) (gp : xs.getD P 0 = 0) (g0 : ¬ xs.getD k 0 = 0) (gk : ¬ (k : Int) = (P : Int)) (ht : (k : Int) - d < 0) :
    Calls Tryz.prog 65 #[.agg #[.int .i64 (P : Int), .int .i64 c, .int .i64 h, .int .i64 s], .agg #[.slice a1 n1 c1, .slice a2 n2 c2], .int .i64 (k : Int), .int .i64 d] w (StepGot (if h ≤ lastL xs xs.length ∨ ((k : Int) - d < -1 ∧ (k : Int) < lastL xs xs.length) then none else some ((k : Int), -1, d, false)) w) := by
  have ho0 := fun W (hW : Below w.heap.size w W) => l02Over_any a1 a2 n1 n2 c1 c2 xs ys W h1 h2 (by omega) (by omega) hx hy (r1.below hW) (r2.below hW)
  have hl0 := fun W (hW : Below w.heap.size w W) => l02Last_any a1 n1 c1 xs W h1 (by omega) (r1.below hW)
  have hl1 : lastL xs n1 = lastL xs xs.length := by rw [h1]
  rw [hl1] at hl0
  clear hl1
  have lb := lastL_bound xs xs.length
  
  obtain ⟨F, hF⟩ : ∃ F, lastL xs xs.length = F := ⟨_, rfl⟩
  rw [hF] at hl0 lb ⊢
  have F0 : -1 ≤ F := lb.1
  have F1 : F ≤ (P : Int) := by omega
  
  rw [g3] at ho0
  have HOV := Lib.hid ho0
  obtain ⟨b, ob, rfl, -⟩ := r1 0 (by omega)
  have hck : ∀ W, Below w.heap.size w W → W.cell? ⟨b, ob + k, none⟩ = some (.int .i64 (xs.getD k 0)) := fun W hW => by
    obtain ⟨b', o', e, hc⟩ := r1.below hW k (by omega)
    simp at e
    obtain ⟨rfl, rfl⟩ := e
    exact hc
  have hcp : ∀ W, Below w.heap.size w W → W.cell? ⟨b, ob + P, none⟩ = some (.int .i64 (xs.getD P 0)) := fun W hW => by
    obtain ⟨b', o', e, hc⟩ := r1.below hW P (by omega)
    simp at e
    obtain ⟨rfl, rfl⟩ := e
    exact hc
  have hkn : k < n1 := by omega
  have hPn : P < n1 := by omega
  have hkI : (k : Int) < (n1 : Int) := by omega
  have hPI : (P : Int) < (n1 : Int) := by omega
  have hk0 : (0 : Int) ≤ (k : Int) := by omega
  obtain ⟨u, hu⟩ : ∃ u, xs.getD k 0 = u := ⟨_, rfl⟩
  obtain ⟨v, hv⟩ : ∃ v, xs.getD P 0 = v := ⟨_, rfl⟩
  have hv0 : 0 ≤ v := by rw [← hv]; exact (hx _ (getD_mem (show P < xs.length by omega))).1
  rw [hu] at hck
  rw [hv] at hcp
  have HC1 := Lib.hid hck
  have HC2 := Lib.hid hcp
  have HLA := Lib.hid hl0
  rw [hu] at g0
  rw [hv] at gp
  subst gp
  
  have hkn : decide ((0 : Int) ≤ (k : Int) - d) = false := by simp; omega
  have eu : (u == 0) = false := by simpa using g0
  have hkd : (k : Int) - d ≤ -1 := by omega
  have hkd2 : -1000 ≤ (k : Int) - d := by omega
  have hk24 : (k : Int) ≤ 24 := by omega
  clear ho0 g3 hck hcp hu hv hx hy r1 r2 hl0  hF lb
  by_cases cA : h ≤ F
  · rw [if_pos (.inl cA)]
    obtain ⟨BV, BB, BR, hb, hz⟩ := three_new w #[.int .i64 (P : Int), .int .i64 c, .int .i64 h, .int .i64 s] #[.slice (some ⟨b, ob, none⟩) n1 c1, .slice a2 n2 c2] #[.int .i64 0, .int .i64 0, .int .i64 0, .bool false] 25 28 55
    obtain ⟨x0, x1, x2, x3, xf, xl⟩ := BV.four
    obtain ⟨y0, y1, yf, yl⟩ := BB.two
    obtain ⟨s0, s1, s2, s3, sf, sl⟩ := BR.four
    go_enter Tryz.func65, Tryz.ntmps65
    go_wp2_with (first | (go_at_call 94; refine (HOV.out _ hb).mono ?_; rintro e w1 ⟨rfl, hb1⟩; obtain ⟨x0, x1, x2, x3, xf, xl⟩ := (BV.below hb1).four; obtain ⟨y0, y1, yf, yl⟩ := (BB.below hb1).two; obtain ⟨s0, s1, s2, s3, sf, sl⟩ := (BR.below hb1).four; have ck := HC1.out w1 (chain hb hb1); have cp := HC2.out w1 (chain hb hb1)) | (go_at_call 96; refine (HLA.out _ (chain hb hb1)).mono ?_; rintro e w2 ⟨rfl, rfl⟩))
    refine bodyPost_ret (v := .tuple #[stV (0, 0, 0, false), .bool false]) (by simp [results, Tryz.results65, go_sem, *]) rfl ⟨(0, 0, 0, false), false, rfl, rfl, ?_⟩
    exact below_set4 (chain hb hb1) (by omega) _ _ _ _
  · have eA : decide (h ≤ F) = false := by simp; omega
    by_cases cB : (k : Int) - d < -1
    · by_cases cC : (k : Int) < F
      · rw [if_pos (.inr ⟨cB, cC⟩)]
        clear cA
        obtain ⟨BV, BB, BR, hb, hz⟩ := three_new w #[.int .i64 (P : Int), .int .i64 c, .int .i64 h, .int .i64 s] #[.slice (some ⟨b, ob, none⟩) n1 c1, .slice a2 n2 c2] #[.int .i64 0, .int .i64 0, .int .i64 0, .bool false] 25 28 55
        obtain ⟨x0, x1, x2, x3, xf, xl⟩ := BV.four
        obtain ⟨y0, y1, yf, yl⟩ := BB.two
        obtain ⟨s0, s1, s2, s3, sf, sl⟩ := BR.four
        go_enter Tryz.func65, Tryz.ntmps65
        go_wp2_with (first | (go_at_call 94; refine (HOV.out _ hb).mono ?_; rintro e w1 ⟨rfl, hb1⟩; obtain ⟨x0, x1, x2, x3, xf, xl⟩ := (BV.below hb1).four; obtain ⟨y0, y1, yf, yl⟩ := (BB.below hb1).two; obtain ⟨s0, s1, s2, s3, sf, sl⟩ := (BR.below hb1).four; have ck := HC1.out w1 (chain hb hb1); have cp := HC2.out w1 (chain hb hb1)) | (go_at_call 96; refine (HLA.out _ (chain hb hb1)).mono ?_; rintro e w2 ⟨rfl, rfl⟩))
        refine bodyPost_ret (v := .tuple #[stV (0, 0, 0, false), .bool false]) (by simp [results, Tryz.results65, go_sem, *]) rfl ⟨(0, 0, 0, false), false, rfl, rfl, ?_⟩
        exact below_set4 (chain hb hb1) (by omega) _ _ _ _
      · rw [if_neg (by omega)]
        have eC : decide ((k : Int) < F) = false := by simp; omega
        clear cA cC
        obtain ⟨BV, BB, BR, hb, hz⟩ := three_new w #[.int .i64 (P : Int), .int .i64 c, .int .i64 h, .int .i64 s] #[.slice (some ⟨b, ob, none⟩) n1 c1, .slice a2 n2 c2] #[.int .i64 0, .int .i64 0, .int .i64 0, .bool false] 25 28 55
        obtain ⟨x0, x1, x2, x3, xf, xl⟩ := BV.four
        obtain ⟨y0, y1, yf, yl⟩ := BB.two
        obtain ⟨s0, s1, s2, s3, sf, sl⟩ := BR.four
        go_enter Tryz.func65, Tryz.ntmps65
        go_wp2_with (first | (go_at_call 94; refine (HOV.out _ hb).mono ?_; rintro e w1 ⟨rfl, hb1⟩; obtain ⟨x0, x1, x2, x3, xf, xl⟩ := (BV.below hb1).four; obtain ⟨y0, y1, yf, yl⟩ := (BB.below hb1).two; obtain ⟨s0, s1, s2, s3, sf, sl⟩ := (BR.below hb1).four; have ck := HC1.out w1 (chain hb hb1); have cp := HC2.out w1 (chain hb hb1)) | (go_at_call 96; refine (HLA.out _ (chain hb hb1)).mono ?_; rintro e w2 ⟨rfl, rfl⟩))
        refine bodyPost_ret (v := .tuple #[stV ((k : Int), -1, d, false), .bool true]) (by simp [results, Tryz.results65, go_sem, *]) rfl ⟨((k : Int), -1, d, false), true, rfl, rfl, ?_⟩
        exact below_set4 (chain hb hb1) (by omega) _ _ _ _
    · rw [if_neg (by omega)]
      have eB : decide ((k : Int) - d < -1) = false := by simp; omega
      clear cA cB
      obtain ⟨BV, BB, BR, hb, hz⟩ := three_new w #[.int .i64 (P : Int), .int .i64 c, .int .i64 h, .int .i64 s] #[.slice (some ⟨b, ob, none⟩) n1 c1, .slice a2 n2 c2] #[.int .i64 0, .int .i64 0, .int .i64 0, .bool false] 25 28 55
      obtain ⟨x0, x1, x2, x3, xf, xl⟩ := BV.four
      obtain ⟨y0, y1, yf, yl⟩ := BB.two
      obtain ⟨s0, s1, s2, s3, sf, sl⟩ := BR.four
      go_enter Tryz.func65, Tryz.ntmps65
      go_wp2_with (first | (go_at_call 94; refine (HOV.out _ hb).mono ?_; rintro e w1 ⟨rfl, hb1⟩; obtain ⟨x0, x1, x2, x3, xf, xl⟩ := (BV.below hb1).four; obtain ⟨y0, y1, yf, yl⟩ := (BB.below hb1).two; obtain ⟨s0, s1, s2, s3, sf, sl⟩ := (BR.below hb1).four; have ck := HC1.out w1 (chain hb hb1); have cp := HC2.out w1 (chain hb hb1)) | (go_at_call 96; refine (HLA.out _ (chain hb hb1)).mono ?_; rintro e w2 ⟨rfl, rfl⟩))
      refine bodyPost_ret (v := .tuple #[stV ((k : Int), -1, d, false), .bool true]) (by simp [results, Tryz.results65, go_sem, *]) rfl ⟨((k : Int), -1, d, false), true, rfl, rfl, ?_⟩
      exact below_set4 (chain hb hb1) (by omega) _ _ _ _
end Go.Proofs.YtciljbnailobgaaGreat
