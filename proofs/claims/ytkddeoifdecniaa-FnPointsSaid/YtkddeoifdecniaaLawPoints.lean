/- The law of chapter 2 on the checkers of the points holds: for every code the law returns true and the code reads behind the call as it read before. No conditions. -/
import Derived.Test.YtkddeoifdecniaaPoints
import Derived.Test.YtkddeoifdecniaaOpen
import Derived.ChangeOld
namespace Go.Proofs.Ytkddeoifdecniaa
open Go.ChangeMaps (open_string shut_string)
open Go.ChangeShapes Go.WideShapes Go.ChangeAt Go.RowKit
set_option linter.unusedVariables false
set_option linter.unusedSimpArgs false
set_option maxRecDepth 4000

theorem code_of_ints {w : World} {x : Addr} {len : Nat} {zs : List Int} (hl : len ≤ zs.length) (_hz : True) (hcell : ∀ i, i < zs.length → w.cell? (x.add i) = some (.int .u8 (zs.getD i 0))) (hwz : ∀ n ∈ zs, (Lit.int .u8 n).wf = true) : CodeIn w.heap.size w (some x) len := by
  intro i hi
  obtain ⟨b, o, spot⟩ := x
  have hc := hcell i (by omega)
  have hspot : spot = none := by
    have hc0 := hcell 0 (by omega)
    simpa [Addr.add] using World.cell?_spot hc0
  subst hspot
  rw [show (⟨b, o, none⟩ : Addr).add i = ⟨b, o + i, none⟩ from by unfold Addr.add; split <;> simp_all] at hc
  have hm : zs.getD i 0 ∈ zs := by
    have : i < zs.length := by omega
    simp [List.getD, this]
  have hw := hwz _ hm
  have hr : 0 ≤ zs.getD i 0 ∧ zs.getD i 0 ≤ 255 := by simpa [Lit.wf, IntKind.min, IntKind.max, IntKind.signed, IntKind.bits] using hw
  exact ⟨b, o, zs.getD i 0, rfl, World.block_lt_of_cell? w _ hc, hc, hr.1, hr.2⟩
/-- The other player's checkers on the owner's first k points. -/
def revS (ys : List Int) (P : Nat) : Nat → Int
  | 0 => 0
  | k + 1 => revS ys P k + ys.getD (P - 1 - k) 0
theorem revS_take (ys : List Int) (P : Nat) (hP : P < ys.length) : ∀ k : Nat, k ≤ P → revS ys P k + (ys.take (P - k)).sum = (ys.take P).sum
  | 0, _ => by simp [revS]
  | k + 1, h => by
    have ih := revS_take ys P hP k (by omega)
    have h1 := sum_take ys (P - (k + 1)) (by omega)
    rw [show P - (k + 1) + 1 = P - k by omega] at h1
    rw [revS, show P - 1 - k = P - (k + 1) by omega]
    omega
theorem revS_nonneg {ys : List Int} (hy : ∀ y ∈ ys, 0 ≤ y ∧ y ≤ 1000) (P : Nat) (NY : ys.length = P + 1) : ∀ k : Nat, k ≤ P → 0 ≤ revS ys P k
  | 0, _ => by simp [revS]
  | k + 1, h => by
    have ih := revS_nonneg hy P NY k (by omega)
    have := (hy _ (getD_mem (show P - 1 - k < ys.length by omega))).1
    rw [revS]
    omega
theorem sum_last (xs : List Int) (P : Nat) (h : xs.length = P + 1) : (xs.take P).sum + xs.getD P 0 = xs.sum := by
  have h1 := sum_take xs P (by omega)
  rw [List.take_of_length_le (show xs.length ≤ P + 1 by omega)] at h1
  omega
theorem apart_at {P k : Nat} {xs ys : List Int} (h : apartB P xs ys = true) (hk : k < P) : ¬ (0 < xs.getD k 0 ∧ 0 < ys.getD (P - 1 - k) 0) := by
  rw [apartB, List.all_eq_true] at h
  have := h k (by simpa using hk)
  intro ⟨a, b⟩
  rw [show decide (0 < xs.getD k 0) = true from decide_eq_true a, show decide (0 < ys.getD (P - 1 - k) 0) = true from decide_eq_true b] at this
  simp at this
set_option maxHeartbeats 1500000 in
theorem fnPoints_walk (a : Option Addr) (len cap : Nat) (w : World) (hcode : CodeIn w.heap.size w a len) :
    Calls Try.prog 4 #[.slice a len cap] w fun e w' => e = .returned (.bool true) ∧ Below w.heap.size w w' := by
  by_cases hbig : 4096 < len
  · have f0 : decide (4096 < (len : Int)) = true := by simp; omega
    go_enter Try.func4, Try.ntmps4
    go_wp2_with fail
    refine (big_any _ _ _ _).mono ?_
    rintro e w1 ⟨rfl, rfl⟩
    go_wp2
    go_ret
    exact ⟨rfl, Below.refl _ _⟩
  · have f0 : decide (4096 < (len : Int)) = false := by simp; omega
    go_enter Try.func4, Try.ntmps4
    go_wp2_with fail
    refine (big_any _ _ _ _).mono ?_
    rintro e w0 ⟨rfl, rfl⟩
    go_wp2_with fail
    refine (drawPoint_any w.heap.size a len cap w (Nat.le_refl _) (by omega) hcode).mono ?_
    rintro e w1 ⟨p, c, h, s, g1, g2, n1, n2, c1, c2, xs, ys, i, rfl, hx, hy, l1, l2, R1, R2, hb⟩
    subst hx hy
    replace l1 : xs.length ≤ 1048576 := by omega
    replace l2 : ys.length ≤ 1048576 := by omega
    obtain ⟨BV, BB, hb2, hz⟩ := two_new w1 #[.int .i64 p, .int .i64 c, .int .i64 h, .int .i64 s] #[.slice (some ⟨g1, 0, none⟩) xs.length c1, .slice (some ⟨g2, 0, none⟩) ys.length c2] 25 28
    replace R1 := R1.below hb2
    replace R2 := R2.below hb2
    have r1 := R1.irow
    have r2 := R2.irow
    replace hb := chain hb hb2
    clear hb2
    obtain ⟨x0, x1, x2, x3, xf, xl⟩ := BV.four
    obtain ⟨y0, y1, yf, yl⟩ := BB.two
    go_wp2_with fail
    generalize ((w1.alloc (.cells #[.int .i64 p, .int .i64 c, .int .i64 h, .int .i64 s] 25)).alloc (.cells #[.slice (some ⟨g1, 0, none⟩) xs.length c1, .slice (some ⟨g2, 0, none⟩) ys.length c2] 28)) = v1 at *
    by_cases g : isB p c h s xs ys = true
    · obtain ⟨p0, p1, k0, k1, k2, k3, N1, N2, hx, hy, s0, s1, s2, s3⟩ := isB_parts g
      have gap : apartB p.toNat xs ys = true := by
        simp only [isB, Bool.and_eq_true] at g
        exact g.2.2.2.2
      obtain ⟨P, rfl⟩ := Int.eq_ofNat_of_zero_le (by omega : 0 ≤ p)
      rw [show ((P : Nat) : Int).toNat = P by omega] at gap
      have hIB := fun W (hW : Below v1.heap.size v1 W) => by
        have t := specIsBoard_any (P : Int) c h s _ _ _ _ c1 c2 xs ys W rfl rfl l1 l2 (r1.below hW) (r2.below hW)
        rw [g] at t
        exact t
      have HIB := Lib.hid hIB
      clear hIB
      have hBO := fun W (hW : Below v1.heap.size v1 W) => by
        have t := borneOff_any (P : Int) c h s _ _ _ _ c1 c2 xs ys W rfl rfl l1 l2 (r1.below hW) (r2.below hW)
        rw [if_pos g] at t
        exact t
      have HBO := Lib.hid hBO
      clear hBO
      have hpt := fun (k : Nat) (hk : k < P) W (hW : Below v1.heap.size v1 W) => by
        have t := pointCount_any (k : Int) (P : Int) c h s _ _ _ _ c1 c2 xs ys W rfl rfl l1 l2 (r1.below hW) (r2.below hW)
        rw [pointV, if_pos ⟨g, by omega, by omega⟩, show ((k : Nat) : Int).toNat = k by omega, show ((P : Int) - 1 - (k : Int)).toNat = P - 1 - k by omega] at t
        exact t
      have HPT := Lib.hid hpt
      clear hpt
      have NX1 : xs.length ≤ P + 1 := by omega
      have NX2 : P + 1 ≤ xs.length := by omega
      have NY1 : ys.length ≤ P + 1 := by omega
      have NY2 : P + 1 ≤ ys.length := by omega
      have HG := Lib.hid g
      have HAP := Lib.hid gap
      have HHX := Lib.hid hx
      have HHY := Lib.hid hy
      clear g gap hx hy
      refine (HIB.out _ (Below.refl _ _)).mono ?_
      rintro e w2 ⟨rfl, hb2⟩
      have hbc : Below v1.heap.size v1 w2 := hb2
      clear x0 x1 x2 x3 xf xl y0 y1 yf yl
      obtain ⟨x0, x1, x2, x3, xf, xl⟩ := (BV.below hbc).four
      obtain ⟨y0, y1, yf, yl⟩ := (BB.below hbc).two
      go_wp2_with fail
      go_loopg [6, 7, 8] P (fun m q6 q7 q8 wr => ∃ k : Nat, k ≤ P ∧ m = P - k ∧ q8 = .int .i64 k ∧ q6 = .int .i64 (xs.take k).sum ∧ q7 = .int .i64 (revS ys P k) ∧ Below v1.heap.size v1 wr)
      case atStart => exact ⟨0, by omega, by omega, rfl, rfl, rfl, hbc⟩
      case round =>
        obtain ⟨k, hk, hm, rfl, rfl, rfl, hbel⟩ := hrel
        clear x0 x1 x2 x3 xf xl y0 y1 yf yl
        obtain ⟨x0, x1, x2, x3, xf, xl⟩ := (BV.below hbel).four
        obtain ⟨y0, y1, yf, yl⟩ := (BB.below hbel).two
        have t1 := sum_nonneg (xs.take k) (fun x hx => (HHX.out x (List.mem_of_mem_take hx)).1)
        have t2 := sum_take_le xs k (fun x hx => (HHX.out x hx).1)
        have t3 := revS_take ys P (by omega) k hk
        have t4 := sum_nonneg (ys.take (P - k)) (fun x hx => (HHY.out x (List.mem_of_mem_take hx)).1)
        have t5 := sum_take_le ys P (fun x hx => (HHY.out x hx).1)
        by_cases hlt : k < P
        · have hlt' : (k : Int) < (P : Int) := by omega
          have hst := sum_take xs k (by omega)
          have hrv : revS ys P (k + 1) = revS ys P k + ys.getD (P - 1 - k) 0 := rfl
          have hap := apart_at HAP.out hlt
          have u1 := HHX.out _ (getD_mem (show k < xs.length by omega))
          have u2 := HHY.out _ (getD_mem (show P - 1 - k < ys.length by omega))
          have t6 := revS_take ys P (by omega) (k + 1) (by omega)
          have t7 := sum_nonneg (ys.take (P - (k + 1))) (fun x hx => (HHY.out x (List.mem_of_mem_take hx)).1)
          have t8 := sum_take_le xs (k + 1) (fun x hx => (HHX.out x hx).1)
          have hpk := HPT.out k hlt _ hbel
          have t9 := revS_nonneg HHY.out P (by omega) k hk
          obtain ⟨X, hX⟩ : ∃ X, xs.getD k 0 = X := ⟨_, rfl⟩
          obtain ⟨Y, hY⟩ : ∃ Y, ys.getD (P - 1 - k) 0 = Y := ⟨_, rfl⟩
          obtain ⟨O, hO⟩ : ∃ O, (xs.take k).sum = O := ⟨_, rfl⟩
          obtain ⟨Q, hQ⟩ : ∃ Q, revS ys P k = Q := ⟨_, rfl⟩
          rw [hX, hY] at hpk hap
          rw [hX, hO] at hst
          rw [hY, hQ] at hrv
          rw [hX] at u1
          rw [hY] at u2
          rw [hO] at t1 t2 ⊢
          rw [hQ] at t3 t9 ⊢
          rw [hst] at t8
          rw [hrv] at t6
          have b1 : O ≤ 15 := by omega
          have b2 : O + X ≤ 15 := by omega
          have b3 : Q ≤ 15 := by omega
          have b4 : Q + Y ≤ 15 := by omega
          have b5 : 0 ≤ X := u1.1
          have b6 : 0 ≤ Y := u2.1
          have HS := Lib.hid hst
          have HV := Lib.hid hrv
          have HA := Lib.hid hap
          clear hX hY hO hQ hst hrv hap t2 t3 t4 t5 t6 t7 t8 u1 u2
          go_wp2_with fail
          refine hpk.mono ?_
          rintro e w5 ⟨rfl, hb5⟩
          by_cases d : 0 < X - Y
          · have hY0 : Y = 0 := by have := HA.out; omega
            subst hY0
            go_wp2
            go_roundg (P - (k + 1))
            case measure => omega
            case rel => exact ⟨k + 1, by omega, rfl, by go_num, by first | (rw [HS.out]; done) | (rw [HS.out]; congr 1; done) | (rw [HS.out]; congr 1; omega), by first | (rw [HV.out]; done) | (rw [HV.out]; congr 1; done) | (rw [HV.out]; congr 1; omega), chain hbel hb5⟩
          · have hX0 : X = 0 := by have := HA.out; omega
            subst hX0
            go_wp2
            go_roundg (P - (k + 1))
            case measure => omega
            case rel => exact ⟨k + 1, by omega, rfl, by go_num, by first | (rw [HS.out]; done) | (rw [HS.out]; congr 1; done) | (rw [HS.out]; congr 1; omega), by first | (rw [HV.out]; done) | (rw [HV.out]; congr 1; done) | (rw [HV.out]; congr 1; omega), chain hbel hb5⟩
        · obtain rfl : P = k := by omega
          have q1 := sum_last xs P (by omega)
          have q2 := sum_last ys P (by omega)
          have q3 : revS ys P P = (ys.take P).sum := by have := revS_take ys P (by omega) P (Nat.le_refl _); simpa using this
          have q4 := revS_nonneg HHY.out P (by omega) P (Nat.le_refl _)
          have u1 := HHX.out _ (getD_mem (show P < xs.length by omega))
          have u2 := HHY.out _ (getD_mem (show P < ys.length by omega))
          clear t3 t4
          go_wp2_with fail
          refine (HBO.out _ hbel).mono ?_
          rintro e w6 ⟨rfl, hb6⟩
          have hbW := chain hbel hb6
          have d1 := (R1.below hbW).cell P (by omega)
          have d2 := (R2.below hbW).cell P (by omega)
          obtain ⟨XP, hXP⟩ : ∃ X, xs.getD P 0 = X := ⟨_, rfl⟩
          obtain ⟨YP, hYP⟩ : ∃ X, ys.getD P 0 = X := ⟨_, rfl⟩
          obtain ⟨Q, hQ⟩ : ∃ X, revS ys P P = X := ⟨_, rfl⟩
          obtain ⟨O, hO⟩ : ∃ X, (xs.take P).sum = X := ⟨_, rfl⟩
          obtain ⟨M, hM⟩ : ∃ X, c - xs.sum = X := ⟨_, rfl⟩
          obtain ⟨N, hN⟩ : ∃ X, c - ys.sum = X := ⟨_, rfl⟩
          rw [hXP] at d1 q1 u1
          rw [hYP] at d2 q2 u2
          rw [hQ] at q3 q4 ⊢
          rw [hO] at q1 t1 t2 ⊢
          rw [hM, hN]
          rw [← q3] at q2
          have v1' : 0 ≤ XP := u1.1
          have v2' : 0 ≤ YP := u2.1
          have v3' : O + XP ≤ 15 := by omega
          have v4' : Q + YP ≤ 15 := by omega
          have f1 : (O + XP + M == c) = true := by rw [beq_iff_eq]; omega
          have f2 : (Q + YP + N == c) = true := by rw [beq_iff_eq]; omega
          have wz1 : IntKind.i64.wrap (O + XP) = O + XP := IntWalk.i64_in _ (by omega)
          have wz2 : IntKind.i64.wrap (O + XP + M) = O + XP + M := IntWalk.i64_in _ (by omega)
          have wz3 : IntKind.i64.wrap (Q + YP) = Q + YP := IntWalk.i64_in _ (by omega)
          have wz4 : IntKind.i64.wrap (Q + YP + N) = Q + YP + N := IntWalk.i64_in _ (by omega)
          have hin1 : (P : Int) < (xs.length : Int) := by omega
          have hin2 : (P : Int) < (ys.length : Int) := by omega
          have hin3 : (0 : Int) ≤ (P : Int) := by omega
          clear hXP hYP hQ hO hM hN q1 q2 q3 q4 t1 t2 t5 u1 u2 x0 x1 x2 x3 xf xl y0 y1 yf yl N1 N2 s0 s1 s2 s3
          obtain ⟨x0, x1, x2, x3, xf, xl⟩ := (BV.below hbW).four
          obtain ⟨y0, y1, yf, yl⟩ := (BB.below hbW).two
          go_wp2_with fail
          refine wp_region_held_drew (S := fun w' => w'.cell? ⟨w1.heap.size, 0, none⟩ = some (.int .i64 (P : Int)) ∧ w'.cell? ⟨w1.heap.size, 1, none⟩ = some (.int .i64 c) ∧ w'.cell? ⟨w1.heap.size + 1, 0, none⟩ = some (.slice (some ⟨g1, 0, none⟩) xs.length c1) ∧ w'.cell? ⟨w1.heap.size + 1, 1, none⟩ = some (.slice (some ⟨g2, 0, none⟩) ys.length c2) ∧ w'.cell? ⟨g1, P, none⟩ = some (.int .i64 XP) ∧ w'.cell? ⟨g2, P, none⟩ = some (.int .i64 YP)) (by kernel_rfl) ⟨x0, x1, y0, y1, d1, d2⟩ (fun hHeld => ?_)
          refine wpAnyH_take (i := 0) (oi := { dst := some 52, op := _, type := _, pos := _, after := _, guard := _ }) (v := ?_) rfl (by kernel_rfl) (by kernel_rfl) (by kernel_rfl) (fun _ _ _ h => h) (Or.inl ⟨by rfl, ?_⟩) (by assumption) ?_
          rotate_left
          · intro w hSw
            (try dsimp only at hSw)
            go_simp
            (try (with_reducible rfl))
          try simp only [Act.put, List.setIfInBounds_toArray, List.set_cons_zero, List.set_cons_succ]
          refine wpAnyH_take (i := 1) (oi := { dst := some 53, op := _, type := _, pos := _, after := _, guard := _ }) (v := ?_) rfl (by kernel_rfl) (by kernel_rfl) (by kernel_rfl) (fun _ _ _ h => h) (Or.inl ⟨by rfl, ?_⟩) (by assumption) ?_
          rotate_left
          · intro w hSw
            (try dsimp only at hSw)
            go_simp
            (try (with_reducible rfl))
          try simp only [Act.put, List.setIfInBounds_toArray, List.set_cons_zero, List.set_cons_succ]
          refine wpAnyH_take (i := 2) (oi := { dst := some 54, op := _, type := _, pos := _, after := _, guard := _ }) (v := ?_) rfl (by kernel_rfl) (by kernel_rfl) (by kernel_rfl) (fun _ _ _ h => h) (Or.inl ⟨by rfl, ?_⟩) (by assumption) ?_
          rotate_left
          · intro w hSw
            (try dsimp only at hSw)
            go_simp
            (try (with_reducible rfl))
          try simp only [Act.put, List.setIfInBounds_toArray, List.set_cons_zero, List.set_cons_succ]
          refine wpAnyH_take (i := 3) (oi := { dst := some 55, op := _, type := _, pos := _, after := _, guard := _ }) (v := ?_) rfl (by kernel_rfl) (by kernel_rfl) (by kernel_rfl) (fun _ _ _ h => h) (Or.inl ⟨by rfl, ?_⟩) (by assumption) ?_
          rotate_left
          · intro w hSw
            (try dsimp only at hSw)
            go_simp
            (try (with_reducible rfl))
          try simp only [Act.put, List.setIfInBounds_toArray, List.set_cons_zero, List.set_cons_succ]
          refine wpAnyH_take (i := 4) (oi := { dst := some 56, op := _, type := _, pos := _, after := _, guard := _ }) (v := ?_) rfl (by kernel_rfl) (by kernel_rfl) (by kernel_rfl) (fun _ _ _ h => h) (Or.inl ⟨by rfl, ?_⟩) (by assumption) ?_
          rotate_left
          · intro w hSw
            (try dsimp only at hSw)
            go_simp
            (try (with_reducible rfl))
          try simp only [Act.put, List.setIfInBounds_toArray, List.set_cons_zero, List.set_cons_succ]
          refine wpAnyH_take (i := 5) (oi := { dst := some 57, op := _, type := _, pos := _, after := _, guard := _ }) (v := ?_) rfl (by kernel_rfl) (by kernel_rfl) (by kernel_rfl) (fun _ _ _ h => h) (Or.inl ⟨by rfl, ?_⟩) (by assumption) ?_
          rotate_left
          · intro w hSw
            (try dsimp only at hSw)
            go_simp
            (try (with_reducible rfl))
          try simp only [Act.put, List.setIfInBounds_toArray, List.set_cons_zero, List.set_cons_succ]
          refine wpAnyH_take (i := 6) (oi := { dst := some 58, op := _, type := _, pos := _, after := _, guard := _ }) (v := ?_) rfl (by kernel_rfl) (by kernel_rfl) (by kernel_rfl) (fun _ _ _ h => h) (Or.inl ⟨by rfl, ?_⟩) (by assumption) ?_
          rotate_left
          · intro w hSw
            (try dsimp only at hSw)
            go_simp
            (try (with_reducible rfl))
          try simp only [Act.put, List.setIfInBounds_toArray, List.set_cons_zero, List.set_cons_succ]
          refine wpAnyH_take (i := 7) (oi := { dst := some 59, op := _, type := _, pos := _, after := _, guard := _ }) (v := ?_) rfl (by kernel_rfl) (by kernel_rfl) (by kernel_rfl) (fun _ _ _ h => h) (Or.inl ⟨by rfl, ?_⟩) (by assumption) ?_
          rotate_left
          · intro w hSw
            (try dsimp only at hSw)
            go_simp
            (try (with_reducible rfl))
          try simp only [Act.put, List.setIfInBounds_toArray, List.set_cons_zero, List.set_cons_succ]
          refine wpAnyH_take (i := 8) (oi := { dst := some 60, op := _, type := _, pos := _, after := _, guard := _ }) (v := ?_) rfl (by kernel_rfl) (by kernel_rfl) (by kernel_rfl) (fun _ _ _ h => h) (Or.inl ⟨by rfl, ?_⟩) (by assumption) ?_
          rotate_left
          · intro w hSw
            (try dsimp only at hSw)
            go_simp
            (try (with_reducible rfl))
          try simp only [Act.put, List.setIfInBounds_toArray, List.set_cons_zero, List.set_cons_succ]
          refine wpAnyH_take (i := 9) (oi := { dst := some 61, op := _, type := _, pos := _, after := _, guard := _ }) (v := ?_) rfl (by kernel_rfl) (by kernel_rfl) (by kernel_rfl) (fun _ _ _ h => h) (Or.inl ⟨by rfl, ?_⟩) (by assumption) ?_
          rotate_left
          · intro w hSw
            (try dsimp only at hSw)
            go_simp
            (try (with_reducible rfl))
          try simp only [Act.put, List.setIfInBounds_toArray, List.set_cons_zero, List.set_cons_succ]
          refine wpAnyH_take (i := 10) (oi := { dst := some 62, op := _, type := _, pos := _, after := _, guard := _ }) (v := ?_) rfl (by kernel_rfl) (by kernel_rfl) (by kernel_rfl) (fun _ _ _ h => h) (Or.inl ⟨by rfl, ?_⟩) (by assumption) ?_
          rotate_left
          · intro w hSw
            (try dsimp only at hSw)
            go_simp
            (try (with_reducible rfl))
          try simp only [Act.put, List.setIfInBounds_toArray, List.set_cons_zero, List.set_cons_succ]
          refine wpAnyH_take (i := 11) (oi := { dst := some 63, op := _, type := _, pos := _, after := _, guard := _ }) (v := ?_) rfl (by kernel_rfl) (by kernel_rfl) (by kernel_rfl) (fun _ _ _ h => h) (Or.inl ⟨by rfl, ?_⟩) (by assumption) ?_
          rotate_left
          · intro w hSw
            (try dsimp only at hSw)
            go_simp
            (try (with_reducible rfl))
          try simp only [Act.put, List.setIfInBounds_toArray, List.set_cons_zero, List.set_cons_succ]
          refine wpAnyH_take (i := 12) (oi := { dst := some 64, op := _, type := _, pos := _, after := _, guard := _ }) (v := ?_) rfl (by kernel_rfl) (by kernel_rfl) (by kernel_rfl) (fun _ _ _ h => h) (Or.inl ⟨by rfl, ?_⟩) (by assumption) ?_
          rotate_left
          · intro w hSw
            (try dsimp only at hSw)
            go_simp
            (try (with_reducible rfl))
          try simp only [Act.put, List.setIfInBounds_toArray, List.set_cons_zero, List.set_cons_succ]
          refine wpAnyH_take (i := 13) (oi := { dst := some 65, op := _, type := _, pos := _, after := _, guard := _ }) (v := ?_) rfl (by kernel_rfl) (by kernel_rfl) (by kernel_rfl) (fun _ _ _ h => h) (Or.inl ⟨by rfl, ?_⟩) (by assumption) ?_
          rotate_left
          · intro w hSw
            (try dsimp only at hSw)
            go_simp
            (try (with_reducible rfl))
          try simp only [Act.put, List.setIfInBounds_toArray, List.set_cons_zero, List.set_cons_succ]
          refine wpAnyH_take (i := 14) (oi := { dst := some 66, op := _, type := _, pos := _, after := _, guard := _ }) (v := ?_) rfl (by kernel_rfl) (by kernel_rfl) (by kernel_rfl) (fun _ _ _ h => h) (Or.inl ⟨by rfl, ?_⟩) (by assumption) ?_
          rotate_left
          · intro w hSw
            (try dsimp only at hSw)
            go_simp
            (try (with_reducible rfl))
          try simp only [Act.put, List.setIfInBounds_toArray, List.set_cons_zero, List.set_cons_succ]
          refine wpAnyH_take (i := 15) (oi := { dst := some 67, op := _, type := _, pos := _, after := _, guard := _ }) (v := ?_) rfl (by kernel_rfl) (by kernel_rfl) (by kernel_rfl) (fun _ _ _ h => h) (Or.inl ⟨by rfl, ?_⟩) (by assumption) ?_
          rotate_left
          · intro w hSw
            (try dsimp only at hSw)
            go_simp
            (try (with_reducible rfl))
          try simp only [Act.put, List.setIfInBounds_toArray, List.set_cons_zero, List.set_cons_succ]
          refine wpAnyH_take (i := 16) (oi := { dst := some 68, op := _, type := _, pos := _, after := _, guard := _ }) (v := ?_) rfl (by kernel_rfl) (by kernel_rfl) (by kernel_rfl) (fun _ _ _ h => h) (Or.inl ⟨by rfl, ?_⟩) (by assumption) ?_
          rotate_left
          · intro w hSw
            (try dsimp only at hSw)
            go_simp
            (try (with_reducible rfl))
          try simp only [Act.put, List.setIfInBounds_toArray, List.set_cons_zero, List.set_cons_succ]
          refine wpAnyH_take (i := 17) (oi := { dst := some 69, op := _, type := _, pos := _, after := _, guard := _ }) (v := ?_) rfl (by kernel_rfl) (by kernel_rfl) (by kernel_rfl) (fun _ _ _ h => h) (Or.inl ⟨by rfl, ?_⟩) (by assumption) ?_
          rotate_left
          · intro w hSw
            (try dsimp only at hSw)
            go_simp
            (try (with_reducible rfl))
          try simp only [Act.put, List.setIfInBounds_toArray, List.set_cons_zero, List.set_cons_succ]
          refine wpAnyH_take (i := 18) (oi := { dst := some 70, op := _, type := _, pos := _, after := _, guard := _ }) (v := ?_) rfl (by kernel_rfl) (by kernel_rfl) (by kernel_rfl) (fun _ _ _ h => h) (Or.inl ⟨by rfl, ?_⟩) (by assumption) ?_
          rotate_left
          · intro w hSw
            (try dsimp only at hSw)
            go_simp
            (try (with_reducible rfl))
          try simp only [Act.put, List.setIfInBounds_toArray, List.set_cons_zero, List.set_cons_succ]
          refine wpAnyH_take (i := 19) (oi := { dst := some 71, op := _, type := _, pos := _, after := _, guard := _ }) (v := ?_) rfl (by kernel_rfl) (by kernel_rfl) (by kernel_rfl) (fun _ _ _ h => h) (Or.inl ⟨by rfl, ?_⟩) (by assumption) ?_
          rotate_left
          · intro w hSw
            (try dsimp only at hSw)
            go_simp
            (try (with_reducible rfl))
          try simp only [Act.put, List.setIfInBounds_toArray, List.set_cons_zero, List.set_cons_succ]
          refine wpAnyH_take (i := 20) (oi := { dst := some 72, op := _, type := _, pos := _, after := _, guard := _ }) (v := ?_) rfl (by kernel_rfl) (by kernel_rfl) (by kernel_rfl) (fun _ _ _ h => h) (Or.inl ⟨by rfl, ?_⟩) (by assumption) ?_
          rotate_left
          · intro w hSw
            (try dsimp only at hSw)
            go_simp
            (try (with_reducible rfl))
          try simp only [Act.put, List.setIfInBounds_toArray, List.set_cons_zero, List.set_cons_succ]
          refine wpAnyH_take (i := 21) (oi := { dst := some 73, op := _, type := _, pos := _, after := _, guard := _ }) (v := ?_) rfl (by kernel_rfl) (by kernel_rfl) (by kernel_rfl) (fun _ _ _ h => h) (Or.inl ⟨by rfl, ?_⟩) (by assumption) ?_
          rotate_left
          · intro w hSw
            (try dsimp only at hSw)
            go_simp
            (try (with_reducible rfl))
          try simp only [Act.put, List.setIfInBounds_toArray, List.set_cons_zero, List.set_cons_succ]
          refine wpAnyH_take (i := 22) (oi := { dst := some 74, op := _, type := _, pos := _, after := _, guard := _ }) (v := ?_) rfl (by kernel_rfl) (by kernel_rfl) (by kernel_rfl) (fun _ _ _ h => h) (Or.inl ⟨by rfl, ?_⟩) (by assumption) ?_
          rotate_left
          · intro w hSw
            (try dsimp only at hSw)
            go_simp
            (try (with_reducible rfl))
          try simp only [Act.put, List.setIfInBounds_toArray, List.set_cons_zero, List.set_cons_succ]
          refine wpAnyH_take (i := 23) (oi := { dst := some 75, op := _, type := _, pos := _, after := _, guard := _ }) (v := ?_) rfl (by kernel_rfl) (by kernel_rfl) (by kernel_rfl) (fun _ _ _ h => h) (Or.inl ⟨by rfl, ?_⟩) (by assumption) ?_
          rotate_left
          · intro w hSw
            (try dsimp only at hSw)
            go_simp
            (try (with_reducible rfl))
          try simp only [Act.put, List.setIfInBounds_toArray, List.set_cons_zero, List.set_cons_succ]
          refine wpAnyH_take (i := 24) (oi := { dst := some 76, op := _, type := _, pos := _, after := _, guard := _ }) (v := ?_) rfl (by kernel_rfl) (by kernel_rfl) (by kernel_rfl) (fun _ _ _ h => h) (Or.inl ⟨by rfl, ?_⟩) (by assumption) ?_
          rotate_left
          · intro w hSw
            (try dsimp only at hSw)
            go_simp
            (try (with_reducible rfl))
          try simp only [Act.put, List.setIfInBounds_toArray, List.set_cons_zero, List.set_cons_succ]
          refine wpAnyH_take (i := 25) (oi := { dst := some 77, op := _, type := _, pos := _, after := _, guard := _ }) (v := ?_) rfl (by kernel_rfl) (by kernel_rfl) (by kernel_rfl) (fun _ _ _ h => h) (Or.inl ⟨by rfl, ?_⟩) (by assumption) ?_
          rotate_left
          · intro w hSw
            (try dsimp only at hSw)
            go_simp
            (try (with_reducible rfl))
          try simp only [Act.put, List.setIfInBounds_toArray, List.set_cons_zero, List.set_cons_succ]
          refine wpAnyH_take (i := 26) (oi := { dst := some 78, op := _, type := _, pos := _, after := _, guard := _ }) (v := ?_) rfl (by kernel_rfl) (by kernel_rfl) (by kernel_rfl) (fun _ _ _ h => h) (Or.inl ⟨by rfl, ?_⟩) (by assumption) ?_
          rotate_left
          · intro w hSw
            (try dsimp only at hSw)
            go_simp
            (try (with_reducible rfl))
          try simp only [Act.put, List.setIfInBounds_toArray, List.set_cons_zero, List.set_cons_succ]
          refine wpAnyH_take (i := 27) (oi := { dst := some 79, op := _, type := _, pos := _, after := _, guard := _ }) (v := ?_) rfl (by kernel_rfl) (by kernel_rfl) (by kernel_rfl) (fun _ _ _ h => h) (Or.inl ⟨by rfl, ?_⟩) (by assumption) ?_
          rotate_left
          · intro w hSw
            (try dsimp only at hSw)
            go_simp
            (try (with_reducible rfl))
          try simp only [Act.put, List.setIfInBounds_toArray, List.set_cons_zero, List.set_cons_succ]
          refine wpAnyH_take (i := 28) (oi := { dst := some 2, op := _, type := _, pos := _, after := _, guard := _ }) (v := ?_) rfl (by kernel_rfl) (by kernel_rfl) (by kernel_rfl) (fun _ _ _ h => h) (Or.inl ⟨by rfl, ?_⟩) (by assumption) ?_
          rotate_left
          · intro w hSw
            (try dsimp only at hSw)
            go_simp
            (try (with_reducible rfl))
          try simp only [Act.put, List.setIfInBounds_toArray, List.set_cons_zero, List.set_cons_succ]
          refine wpAnyH_done (by kernel_rfl) ?_ _
          go_wp2
          go_ret
          exact ⟨rfl, (chain hb hbW).drew⟩
    · have t := specIsBoard_any p c h s _ _ _ _ c1 c2 xs ys v1 rfl rfl l1 l2 r1 r2
      rw [show isB p c h s xs ys = false by simpa using g] at t
      refine t.mono ?_
      rintro e w2 ⟨rfl, hb2⟩
      have t2 := pointCount_any 0 p c h s _ _ _ _ c1 c2 xs ys w2 rfl rfl l1 l2 (r1.below hb2) (r2.below hb2)
      rw [pointV, if_neg (fun k => g k.1)] at t2
      clear t x0 x1 x2 x3 xf xl y0 y1 yf yl
      obtain ⟨x0, x1, x2, x3, xf, xl⟩ := (BV.below hb2).four
      obtain ⟨y0, y1, yf, yl⟩ := (BB.below hb2).two
      go_wp2_with fail
      refine t2.mono ?_
      rintro e w3 ⟨rfl, hb3⟩
      go_wp2_with fail
      go_ret
      exact ⟨rfl, chain (chain hb hb2) hb3⟩
set_option maxRecDepth 100000 in
theorem fnPoints_lifted (os : Os) (started : os.Started) (H : Type) (enc : TypeId × Value → H) :
    ReturnsInHanded {} Try.checked os 4 .any (Rows.fnPointsSpec.pre6 enc Try.prog Try.f4 Rows.fnPointsRow.domain false) (Rows.fnPointsSpec.post enc Try.prog Try.f4 false true false false) := by
  refine returnsInHanded_of_change (C := Try.checked) own started (by kernel_rfl) Try.func4
    (ChangeSpec.witness6 (enc := enc) (C := Try.checked) false ⟨#[], #[.slice none 0 0], []⟩ 8 (by kernel_rfl) (by kernel_rfl) (by kernel_rfl) (by kernel_rfl)) ?_
  intro W base args ds gs before hval0 hW hcnd _
  have hval : ∀ (j : Nat) t v, Try.f4.params[j]? = some t → args[j]? = some v → Value.okWide Try.prog W .any base t v := hval0
  have hW' := hW
  obtain ⟨p, q, hA0, hV, rfl, hfz, hnd⟩ := hW
  have hA : DataW.TrodAll enc Try.prog W 0 (fun _ => true) true Try.f4.params.toList args.toList ds p := hA0
  rw [Try.params4] at hA hval
  obtain ⟨v0, vs0, d0, ds0, p0, q0, hargs, rfl, rfl, h0, r0⟩ := trodAll_cons hA
  obtain ⟨rfl, rfl, rfl⟩ := trodAll_nil r0
  obtain rfl : args = #[v0] := by cases args; simp_all
  obtain ⟨rfl, rfl⟩ := trodVars_none hV
  have k0 := h0
  have lt0 : ∀ x ∈ p0, x.block < W.heap.size := by obtain ⟨m, hm⟩ := k0; exact DataW.trod_lt m _ _ _ hm
  obtain ⟨sa_0, sl_0, sc_0, rfl⟩ := okWide_slice Try.underlying22 (hval 0 22 v0 rfl rfl)
  have hcode_0 : CodeIn W.heap.size W sa_0 sl_0 := by
    obtain ⟨fuel, hf⟩ := h0
    rcases open_ints Try.underlying22 Try.underlying5 (by kernel_rfl) hf with ⟨hcs, _⟩ | ⟨x, l, c, zs, hcs, _, hl, hm, hz, _, hcell, hwz⟩
    · simp [Value.cells] at hcs
      obtain ⟨rfl, rfl, rfl⟩ := hcs
      intro i hi
      omega
    · simp [Value.cells] at hcs
      obtain ⟨rfl, rfl, rfl⟩ := hcs
      exact code_of_ints (by have hz2 := hz; simp at hz2; omega) trivial hcell hwz
  clear hA0 hval0
  refine (fnPoints_walk sa_0 sl_0 sc_0 W hcode_0).mono fun e W' ⟨he, bel⟩ => ?_
  subst he
  exact ⟨_, rfl, _, _, _, [], _, [], hW', trodAll_mk1 (shut_bool Try.underlying4 _), (trodAll_cons_mk (Below.trod laidOut (by kernel_rfl) (of_decide_eq_true (by kernel_rfl)) k0 bel lt0) trodAll_mk0), rfl, bel.frame _, fun h => by cases h⟩
theorem fnPoints_holds : Rows.FnPointsSaid :=
  OpenClaim.holds_of_wide 4 Try.f4 rfl rfl rfl rfl rfl rfl rfl ⟨rfl, rfl, rfl, rfl, rfl⟩ rfl rfl rfl rfl rfl (by kernel_rfl) Try.func4 (by kernel_rfl)
    (of_decide_eq_true (by kernel_rfl)) (by unfold Func.isWrapper; first | (rw [if_pos (by decide +kernel)]; kernel_rfl) | (rw [if_neg (by decide +kernel)]; exact ⟨rfl, rfl⟩))
    (fun os started H enc _ => fnPoints_lifted os started H enc)
end Go.Proofs.Ytkddeoifdecniaa
