/- Contracts of the program's functions of chapter 2: points of both players, the end, contact, sides. -/
import Derived.Test.YtdciiocmddlhfaaImpl02a
import Derived.IntWalk
import Derived.BigGuard
import Derived.BigGuardPart
namespace Go.Proofs.Ytdciiocmddlhfaa
open Go.ChangeShapes Go.WideShapes Go.ChangeAt Go.RowKit
set_option linter.unusedVariables false
set_option linter.unusedSimpArgs false

set_option maxHeartbeats 1000000 in
theorem facing_any (P k : Nat) (f1 f2 B : Nat) (ys : List Int) (w : World) (p1 : P ≤ 24) (hk : k < P) (n2 : ys.length = P + 1) (q2 : Pays f2 B ys w) :
    Calls Try.prog 39 #[tv (P : Int) f1 f2 B, .int .i64 k] w fun e w' => e = .returned (.int .i64 (ys.getD (P - 1 - k) 0)) ∧ Below w.heap.size w w' := by
  go_enter Try.func39, Try.ntmps39
  have hb : Below w.heap.size w (w.alloc (.cells #[.int .i64 (P : Int), fv f1 B, fv f2 B] 53)) := (Below.refl _ _).alloc (Nat.le_refl _) _
  have B0 := Blk.new w #[.int .i64 (P : Int), fv f1 B, fv f2 B] 53
  have q20 := q2.below hb
  obtain ⟨z0, z1, z2, zf, zl⟩ := B0.tri
  have e199 := q2.1
  have hpk := q20.2 _ (Below.refl _ _) (P - 1 - k) (by omega)
  have e1 : ((P : Int) - 1 - (k : Int)) = ((P - 1 - k : Nat) : Int) := by omega
  obtain ⟨v, hv⟩ : ∃ v, ys.getD (P - 1 - k) 0 = v := ⟨_, rfl⟩
  rw [hv] at hpk ⊢
  rw [← e1] at hpk
  have HP := Lib.hid hpk
  clear hpk hv e1
  go_wp2_with (go_at_fn f2; refine HP.out.mono ?_; rintro e w5 ⟨rfl, hb5⟩)
  go_ret
  exact ⟨rfl, from_alloc hb5⟩
set_option maxHeartbeats 2000000 in
theorem sharesPoint_any (P : Nat) (f1 f2 B : Nat) (xs ys : List Int) (w : World) (p1 : P ≤ 24) (n1 : xs.length = P + 1) (n2 : ys.length = P + 1) (q1 : Pays f1 B xs w) (q2 : Pays f2 B ys w) :
    Calls Try.prog 34 #[tv (P : Int) f1 f2 B] w fun e w' => e = .returned (.bool (!apartB P xs ys)) ∧ Below w.heap.size w w' := by
  obtain ⟨R, hR⟩ : ∃ R, (!apartB P xs ys) = R := ⟨_, rfl⟩
  rw [hR]
  have HR := Lib.hid hR
  clear hR
  go_enter Try.func34, Try.ntmps34
  have hb : Below w.heap.size w (w.alloc (.cells #[.int .i64 (P : Int), fv f1 B, fv f2 B] 53)) := (Below.refl _ _).alloc (Nat.le_refl _) _
  have B0 := Blk.new w #[.int .i64 (P : Int), fv f1 B, fv f2 B] 53
  have q10 := q1.below hb
  have q20 := q2.below hb
  obtain ⟨z0, z1, z2, zf, zl⟩ := B0.tri
  have e199 := q1.1
  go_wp2
  generalize (w.alloc (.cells #[.int .i64 (P : Int), fv f1 B, fv f2 B] 53)) = v0 at *
  go_loopg [6] P (fun m i wr => ∃ k : Nat, k ≤ P ∧ m = P - k ∧ i = .int .i64 k ∧ (∀ j, j < k → (!(decide (0 < xs.getD j 0) && decide (0 < ys.getD (P - 1 - j) 0))) = true) ∧ Blk wr w.heap.size #[.int .i64 (P : Int), fv f1 B, fv f2 B] 53 ∧ Pays f1 B xs wr ∧ Pays f2 B ys wr ∧ Below w.heap.size w wr)
  case atStart => exact ⟨0, by omega, by omega, rfl, fun j hj => by omega, B0, q10, q20, hb⟩
  case round =>
    obtain ⟨k, hk, hm, rfl, hall, BV, q1w, q2w, hbel⟩ := hrel
    have HA := Lib.hid hall
    clear hall z0 z1 z2 zf zl
    obtain ⟨z0, z1, z2, zf, zl⟩ := BV.tri
    by_cases hlt : k < P
    · have hlt' : (k : Int) < (P : Int) := by omega
      have hpk := q1w.2 wr (Below.refl _ _) k (by omega)
      have hfk := fun W (hW : Below wr.heap.size wr W) => facing_any P k f1 f2 B ys W p1 hlt n2 (q2w.below hW)
      obtain ⟨u1, hu1⟩ : ∃ u, xs.getD k 0 = u := ⟨_, rfl⟩
      obtain ⟨u2, hu2⟩ : ∃ u, ys.getD (P - 1 - k) 0 = u := ⟨_, rfl⟩
      rw [hu1] at hpk
      rw [hu2] at hfk
      have U1 := Lib.hid hu1
      have U2 := Lib.hid hu2
      have HP := Lib.hid hpk
      have HF := Lib.hid hfk
      clear hu1 hu2 hpk hfk
      by_cases d1 : 0 < u1
      · have g1 : decide (0 < u1) = true := by simpa using d1
        by_cases d2 : 0 < u2
        · have g2 : decide (0 < u2) = true := by simpa using d2
          have hno : R = true := by
            rw [← HR.out]
            have : apartB P xs ys = false := by
              rw [apartB, List.all_eq_false]
              exact ⟨k, by simpa using hlt, by rw [U1.out, U2.out, g1, g2]; simp⟩
            rw [this]; rfl
          subst hno
          go_wp2_with (first | (go_at_fn f1; refine HP.out.mono ?_; rintro e w5 ⟨rfl, hb5⟩; obtain ⟨y0, y1, y2, yf, yl⟩ := (BV.below hb5).tri) | (go_at_call 39; refine (HF.out _ hb5).mono ?_; rintro e w6 ⟨rfl, hb6⟩))
          go_ret
          exact ⟨rfl, chain (chain hbel hb5) hb6⟩
        · have g2 : decide (0 < u2) = false := by simpa using d2
          go_wp2_with (first | (go_at_fn f1; refine HP.out.mono ?_; rintro e w5 ⟨rfl, hb5⟩; obtain ⟨y0, y1, y2, yf, yl⟩ := (BV.below hb5).tri) | (go_at_call 39; refine (HF.out _ hb5).mono ?_; rintro e w6 ⟨rfl, hb6⟩))
          go_roundg (P - (k + 1))
          case measure => omega
          case rel =>
            have hb56 := chain hb5 hb6
            refine ⟨k + 1, by omega, rfl, by go_num, fun j hj => ?_, BV.below hb56, q1w.below hb56, q2w.below hb56, chain hbel hb56⟩
            by_cases hjk : j = k
            · subst hjk
              rw [U1.out, U2.out, g1, g2]
              rfl
            · exact HA.out j (by omega)
      · have g1 : decide (0 < u1) = false := by simpa using d1
        go_wp2_with (go_at_fn f1; refine HP.out.mono ?_; rintro e w5 ⟨rfl, hb5⟩)
        go_roundg (P - (k + 1))
        case measure => omega
        case rel =>
          refine ⟨k + 1, by omega, rfl, by go_num, fun j hj => ?_, BV.below hb5, q1w.below hb5, q2w.below hb5, chain hbel hb5⟩
          by_cases hjk : j = k
          · subst hjk
            rw [U1.out, g1]
            rfl
          · exact HA.out j (by omega)
    · obtain rfl : k = P := by omega
      have hyes : R = false := by
        rw [← HR.out]
        have : apartB k xs ys = true := by
          rw [apartB, List.all_eq_true]
          intro j hj
          exact HA.out j (by simpa using hj)
        rw [this]; rfl
      subst hyes
      go_wp2
      go_ret
      exact ⟨rfl, hbel⟩
/-- One of the sides has no checker. -/
def overB (xs ys : List Int) : Bool := decide (lastL xs xs.length < 0) || decide (lastL ys ys.length < 0)
set_option maxHeartbeats 1000000 in
theorem over_any (p : Int) (f1 f2 B : Nat) (xs ys : List Int) (w : World) (p0 : 2 ≤ p) (p1 : p ≤ 24) (n1 : (xs.length : Int) = p + 1) (n2 : (ys.length : Int) = p + 1) (hx : ∀ x ∈ xs, 0 ≤ x ∧ x ≤ 1000) (hy : ∀ y ∈ ys, 0 ≤ y ∧ y ≤ 1000) (q1 : Pays f1 B xs w) (q2 : Pays f2 B ys w) :
    Calls Try.prog 40 #[tv p f1 f2 B] w fun e w' => e = .returned (.bool (overB xs ys)) ∧ Below w.heap.size w w' := by
  have hf1 := fun W (hW : Below w.heap.size w W) => farthest_any p f1 f2 B f1 B xs W (by omega) p1 n1 hx (q1.below hW)
  have hf2 := fun W (hW : Below w.heap.size w W) => farthest_any p f1 f2 B f2 B ys W (by omega) p1 n2 hy (q2.below hW)
  rw [overB]
  have lb1 := (lastL_bound xs xs.length).1
  have lb2 := (lastL_bound ys ys.length).1
  have hlen1 : xs.length ≤ 25 := by omega
  have hlen2 : ys.length ≤ 25 := by omega
  have lc1 := (lastL_bound xs xs.length).2
  have lc2 := (lastL_bound ys ys.length).2
  obtain ⟨u1, hu1⟩ : ∃ u, lastL xs xs.length = u := ⟨_, rfl⟩
  obtain ⟨u2, hu2⟩ : ∃ u, lastL ys ys.length = u := ⟨_, rfl⟩
  rw [hu1] at hf1 lb1 lc1
  rw [hu2] at hf2 lb2 lc2
  rw [hu1, hu2]
  have HF1 := Lib.hid hf1
  have HF2 := Lib.hid hf2
  clear hu1 hu2 hf1 hf2
  by_cases d1 : u1 < 0
  · have g1 : decide (u1 < 0) = true := by simpa using d1
    rw [g1, Bool.true_or]
    go_enter Try.func40, Try.ntmps40
    have hb : Below w.heap.size w (w.alloc (.cells #[.int .i64 p, fv f1 B, fv f2 B] 53)) := (Below.refl _ _).alloc (Nat.le_refl _) _
    have B0 := Blk.new w #[.int .i64 p, fv f1 B, fv f2 B] 53
    have q10 := q1.below hb
    have q20 := q2.below hb
    obtain ⟨z0, z1, z2, zf, zl⟩ := B0.tri
    go_wp2_with (go_at_call 41; refine (HF1.out _ hb).mono ?_; rintro e w5 ⟨rfl, hb5⟩)
    go_ret
    exact ⟨rfl, from_alloc hb5⟩
  · have g1 : decide (u1 < 0) = false := by simpa using d1
    rw [g1, Bool.false_or]
    go_enter Try.func40, Try.ntmps40
    have hb : Below w.heap.size w (w.alloc (.cells #[.int .i64 p, fv f1 B, fv f2 B] 53)) := (Below.refl _ _).alloc (Nat.le_refl _) _
    have B0 := Blk.new w #[.int .i64 p, fv f1 B, fv f2 B] 53
    have q10 := q1.below hb
    have q20 := q2.below hb
    obtain ⟨z0, z1, z2, zf, zl⟩ := B0.tri
    have B5 := fun W (hW : Below (w.alloc (.cells #[.int .i64 p, fv f1 B, fv f2 B] 53)).heap.size (w.alloc (.cells #[.int .i64 p, fv f1 B, fv f2 B] 53)) W) => (B0.below hW).tri
    go_wp2_with (go_at_call 41; first | (refine (HF2.out _ (from_alloc hb5)).mono ?_; rintro e w6 ⟨rfl, hb6⟩) | (refine (HF1.out _ hb).mono ?_; rintro e w5 ⟨rfl, hb5⟩; obtain ⟨y0, y1, y2, yf, yl⟩ := B5 _ hb5))
    go_ret
    exact ⟨rfl, from_alloc (chain hb5 hb6)⟩
theorem held3t {w W w2 : World} {g : Nat} {v0 v1 v2 : Value} (hS : W.cell? ⟨g, 0, none⟩ = some v0 ∧ W.cell? ⟨g, 1, none⟩ = some v1 ∧ W.cell? ⟨g, 2, none⟩ = some v2 ∧ Below w.heap.size w W ∧ g < W.heap.size) (hb : Below W.heap.size W w2) :
    w2.cell? ⟨g, 0, none⟩ = some v0 ∧ w2.cell? ⟨g, 1, none⟩ = some v1 ∧ w2.cell? ⟨g, 2, none⟩ = some v2 ∧ Below w.heap.size w w2 ∧ g < w2.heap.size := by
  obtain ⟨h0, h1, h2, h3, h4⟩ := hS
  obtain ⟨hc, _⟩ := bcell hb
  exact ⟨by rw [hc _ _ h4]; exact h0, by rw [hc _ _ h4]; exact h1, by rw [hc _ _ h4]; exact h2, chain h3 hb, Nat.lt_of_lt_of_le h4 hb.size⟩
/-- Some checkers have not passed each other. -/
def contB (p : Int) (xs ys : List Int) : Bool := !overB xs ys && decide (p ≤ lastL xs xs.length + lastL ys ys.length)
set_option maxHeartbeats 2000000 in
theorem contact_any (p : Int) (f1 f2 B : Nat) (xs ys : List Int) (w : World) (p0 : 2 ≤ p) (p1 : p ≤ 24) (n1 : (xs.length : Int) = p + 1) (n2 : (ys.length : Int) = p + 1) (hx : ∀ x ∈ xs, 0 ≤ x ∧ x ≤ 1000) (hy : ∀ y ∈ ys, 0 ≤ y ∧ y ≤ 1000) (q1 : Pays f1 B xs w) (q2 : Pays f2 B ys w) :
    Calls Try.prog 35 #[tv p f1 f2 B] w fun e w' => e = .returned (.bool (contB p xs ys)) ∧ Below w.heap.size w w' := by
  have hov := fun W (hW : Below w.heap.size w W) => over_any p f1 f2 B xs ys W p0 p1 n1 n2 hx hy (q1.below hW) (q2.below hW)
  have hf1 := fun W (hW : Below w.heap.size w W) => farthest_any p f1 f2 B f1 B xs W (by omega) p1 n1 hx (q1.below hW)
  have hf2 := fun W (hW : Below w.heap.size w W) => farthest_any p f1 f2 B f2 B ys W (by omega) p1 n2 hy (q2.below hW)
  rw [contB]
  have lb1 := (lastL_bound xs xs.length).1
  have lb2 := (lastL_bound ys ys.length).1
  have hlen1 : xs.length ≤ 25 := by omega
  have hlen2 : ys.length ≤ 25 := by omega
  have lc1 := (lastL_bound xs xs.length).2
  have lc2 := (lastL_bound ys ys.length).2
  obtain ⟨u1, hu1⟩ : ∃ u, lastL xs xs.length = u := ⟨_, rfl⟩
  obtain ⟨u2, hu2⟩ : ∃ u, lastL ys ys.length = u := ⟨_, rfl⟩
  obtain ⟨O, hO⟩ : ∃ O, overB xs ys = O := ⟨_, rfl⟩
  rw [hu1] at hf1 lb1 lc1
  rw [hu2] at hf2 lb2 lc2
  rw [hO] at hov ⊢
  rw [hu1, hu2]
  have HF1 := Lib.hid hf1
  have HF2 := Lib.hid hf2
  have HO := Lib.hid hov
  have hb : Below w.heap.size w (w.alloc (.cells #[.int .i64 p, fv f1 B, fv f2 B] 53)) := (Below.refl _ _).alloc (Nat.le_refl _) _
  have B0 := Blk.new w #[.int .i64 p, fv f1 B, fv f2 B] 53
  obtain ⟨z0, z1, z2, zf, zl⟩ := B0.tri
  have wz : IntKind.i64.wrap (u1 + u2) = u1 + u2 := IntWalk.i64_in _ (by omega)
  have ub1 : u1 ≤ 24 := by omega
  have ub2 : u2 ≤ 24 := by omega
  clear hu1 hu2 hf1 hf2 hO hov hlen1 hlen2 lc1 lc2 hx hy n1 n2 q1 q2
  cases O with
  | true =>
    rw [Bool.not_true, Bool.false_and]
    go_enter Try.func35, Try.ntmps35
    go_wp2_with fail
    generalize (w.alloc (.cells #[.int .i64 p, fv f1 B, fv f2 B] 53)) = v0 at * 
    refine wp_region_held_drew (S := fun w' => w'.cell? ⟨w.heap.size, 0, none⟩ = some (.int .i64 p) ∧ w'.cell? ⟨w.heap.size, 1, none⟩ = some (fv f1 B) ∧ w'.cell? ⟨w.heap.size, 2, none⟩ = some (fv f2 B) ∧ Below w.heap.size w w' ∧ w.heap.size < w'.heap.size) (by kernel_rfl) ⟨z0, z1, z2, hb.drew, zl⟩ (fun hHeld => ?_)
    refine tk 0 3 ?_
    refine rdk 1 4 fun K hK => ?_
    go_simp
    refine (HO.out _ hHeld.2.2.2.1).mono ?_
    rintro e w2 ⟨rfl, hb2⟩
    have hS := held3t hHeld hb2
    (try go_wp2_with fail)
    refine hko hK hS fun hHeld => ?_
    clear hK K
    refine tk 2 5 ?_
    refine tk 3 6 ?_
    refine tkv 4 7 ?_
    refine tkv 5 8 ?_
    refine tkv 6 9 ?_
    refine tkv 7 10 ?_
    refine tkv 8 11 ?_
    refine tkv 9 12 ?_
    refine tkv 10 13 ?_
    refine tkv 11 14 ?_
    refine tkv 12 15 ?_
    refine tkv 13 16 ?_
    refine tkv 14 17 ?_
    refine tkv 15 18 ?_
    refine tk 16 19 ?_
    refine tk 17 2 ?_
    refine wpAnyH_done (by kernel_rfl) ?_ _
    go_wp2
    go_ret
    exact ⟨rfl, hHeld.2.2.2.1⟩
  | false =>
    rw [Bool.not_false, Bool.true_and]
    go_enter Try.func35, Try.ntmps35
    go_wp2_with fail
    generalize (w.alloc (.cells #[.int .i64 p, fv f1 B, fv f2 B] 53)) = v0 at *
    refine wp_region_held_drew (S := fun w' => w'.cell? ⟨w.heap.size, 0, none⟩ = some (.int .i64 p) ∧ w'.cell? ⟨w.heap.size, 1, none⟩ = some (fv f1 B) ∧ w'.cell? ⟨w.heap.size, 2, none⟩ = some (fv f2 B) ∧ Below w.heap.size w w' ∧ w.heap.size < w'.heap.size) (by kernel_rfl) ⟨z0, z1, z2, hb.drew, zl⟩ (fun hHeld => ?_)
    refine tk 0 3 ?_
    refine rdk 1 4 fun K hK => ?_
    go_simp
    refine (HO.out _ hHeld.2.2.2.1).mono ?_
    rintro e w2 ⟨rfl, hb2⟩
    have hS := held3t hHeld hb2
    (try go_wp2_with fail)
    refine hko hK hS fun hHeld => ?_
    clear hK K
    refine tk 2 5 ?_
    refine tk 3 6 ?_
    refine tk 4 7 ?_
    refine tk 5 8 ?_
    refine tk 6 9 ?_
    refine tk 8 11 ?_
    refine tk 9 12 ?_
    refine tk 10 13 ?_
    refine tk 13 16 ?_
    refine tk 14 17 ?_
    refine rdk 7 10 fun K hK => ?_
    go_simp
    refine (HF1.out _ hHeld.2.2.2.1).mono ?_
    rintro e w2 ⟨rfl, hb2⟩
    have hS := held3t hHeld hb2
    (try go_wp2_with fail)
    refine hko hK hS fun hHeld => ?_
    clear hK K
    refine rdk 11 14 fun K hK => ?_
    go_simp
    refine (HF2.out _ hHeld.2.2.2.1).mono ?_
    rintro e w2 ⟨rfl, hb2⟩
    have hS := held3t hHeld hb2
    (try go_wp2_with fail)
    refine hko hK hS fun hHeld => ?_
    clear hK K
    refine tk 12 15 ?_
    refine tk 15 18 ?_
    refine tk 16 19 ?_
    refine tk 17 2 ?_
    refine wpAnyH_done (by kernel_rfl) ?_ _
    go_wp2
    go_ret
    exact ⟨by simp, hHeld.2.2.2.1⟩
end Go.Proofs.Ytdciiocmddlhfaa
