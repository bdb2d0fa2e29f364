/- Texts of a proof, laid together. -/
import Derived.Test.YtciljbnailobgaaGreatV02
import Derived.IntWalk
import Derived.BigGuard
import Derived.BigGuardPart
import Derived.Test.YtciljbnailobgaaGreatV01
namespace Go.Proofs.YtciljbnailobgaaGreat
open Go.ChangeShapes Go.WideShapes Go.ChangeAt Go.RowKit
set_option linter.unusedVariables false
set_option linter.unusedSimpArgs false
set_option maxHeartbeats 1000000 in
theorem facing_any (P k : Nat) (f1 f2 B : Nat) (ys : List Int) (w : World) (p1 : P ≤ 24) (hk : k < P) (n2 : ys.length = P + 1) (q2 : Pays f2 B ys w) :
    Calls Tryz.prog 100 #[tv (P : Int) f1 f2 B, .int .i64 k] w fun e w' => e = .returned (.int .i64 (ys.getD (P - 1 - k) 0)) ∧ Below w.heap.size w w' := by
  go_enter Tryz.func100, Tryz.ntmps100
  have hb : Below w.heap.size w (w.alloc (.cells #[.int .i64 (P : Int), fv f1 B, fv f2 B] 109)) := (Below.refl _ _).alloc (Nat.le_refl _) _
  have B0 := Blk.new w #[.int .i64 (P : Int), fv f1 B, fv f2 B] 109
  have q20 := q2.below hb
  obtain ⟨z0, z1, z2, zf, zl⟩ := B0.tri
  have e199 := q2.1
  have hpk := q20.2 _ (Below.refl _ _) (P - 1 - k) (by omega)
  have e1 : ((P : Int) - 1 - (k : Int)) = ((P - 1 - k : Nat) : Int) := by omega
  obtain ⟨v, hv⟩ : ∃ v, ys.getD (P - 1 - k) 0 = v := ⟨_, rfl⟩
  rw [hv] at hpk ⊢
  rw [← e1] at hpk
  have HP := Lib.hid hpk
  clear hpk hv e1
  go_wp2_with (go_at_fn f2; refine HP.out.mono ?_; rintro e w5 ⟨rfl, hb5⟩)
  go_ret
  exact ⟨rfl, from_alloc hb5⟩
set_option maxHeartbeats 2000000 in
theorem sharesPoint_any (P : Nat) (f1 f2 B : Nat) (xs ys : List Int) (w : World) (p1 : P ≤ 24) (n1 : xs.length = P + 1) (n2 : ys.length = P + 1) (q1 : Pays f1 B xs w) (q2 : Pays f2 B ys w) :
    Calls Tryz.prog 77 #[tv (P : Int) f1 f2 B] w fun e w' => e = .returned (.bool (!apartB P xs ys)) ∧ Below w.heap.size w w' := by
  obtain ⟨R, hR⟩ : ∃ R, (!apartB P xs ys) = R := ⟨_, rfl⟩
  rw [hR]
  have HR := Lib.hid hR
  clear hR
  go_enter Tryz.func77, Tryz.ntmps77
  have hb : Below w.heap.size w (w.alloc (.cells #[.int .i64 (P : Int), fv f1 B, fv f2 B] 109)) := (Below.refl _ _).alloc (Nat.le_refl _) _
  have B0 := Blk.new w #[.int .i64 (P : Int), fv f1 B, fv f2 B] 109
  have q10 := q1.below hb
  have q20 := q2.below hb
  obtain ⟨z0, z1, z2, zf, zl⟩ := B0.tri
  have e199 := q1.1
  go_wp2
  generalize (w.alloc (.cells #[.int .i64 (P : Int), fv f1 B, fv f2 B] 109)) = v0 at *
  go_loopg [6] P (fun m i wr => ∃ k : Nat, k ≤ P ∧ m = P - k ∧ i = .int .i64 k ∧ (∀ j, j < k → (!(decide (0 < xs.getD j 0) && decide (0 < ys.getD (P - 1 - j) 0))) = true) ∧ Blk wr w.heap.size #[.int .i64 (P : Int), fv f1 B, fv f2 B] 109 ∧ Pays f1 B xs wr ∧ Pays f2 B ys wr ∧ Below w.heap.size w wr)
  case atStart => exact ⟨0, by omega, by omega, rfl, fun j hj => by omega, B0, q10, q20, hb⟩
  case round =>
    obtain ⟨k, hk, hm, rfl, hall, BV, q1w, q2w, hbel⟩ := hrel
    have HA := Lib.hid hall
    clear hall z0 z1 z2 zf zl
    obtain ⟨z0, z1, z2, zf, zl⟩ := BV.tri
    by_cases hlt : k < P
    · have hlt' : (k : Int) < (P : Int) := by omega
      have hpk := q1w.2 wr (Below.refl _ _) k (by omega)
      have hfk := fun W (hW : Below wr.heap.size wr W) => facing_any P k f1 f2 B ys W p1 hlt n2 (q2w.below hW)
      obtain ⟨u1, hu1⟩ : ∃ u, xs.getD k 0 = u := ⟨_, rfl⟩
      obtain ⟨u2, hu2⟩ : ∃ u, ys.getD (P - 1 - k) 0 = u := ⟨_, rfl⟩
      rw [hu1] at hpk
      rw [hu2] at hfk
      have U1 := Lib.hid hu1
      have U2 := Lib.hid hu2
      have HP := Lib.hid hpk
      have HF := Lib.hid hfk
      clear hu1 hu2 hpk hfk
      by_cases d1 : 0 < u1
      · have g1 : decide (0 < u1) = true := by simpa using d1
        by_cases d2 : 0 < u2
        · have g2 : decide (0 < u2) = true := by simpa using d2
          have hno : R = true := by
            rw [← HR.out]
            have : apartB P xs ys = false := by
              rw [apartB, List.all_eq_false]
              exact ⟨k, by simpa using hlt, by rw [U1.out, U2.out, g1, g2]; simp⟩
            rw [this]; rfl
          subst hno
          go_wp2_with (first | (go_at_fn f1; refine HP.out.mono ?_; rintro e w5 ⟨rfl, hb5⟩; obtain ⟨y0, y1, y2, yf, yl⟩ := (BV.below hb5).tri) | (go_at_call 100; refine (HF.out _ hb5).mono ?_; rintro e w6 ⟨rfl, hb6⟩))
          go_ret
          exact ⟨rfl, chain (chain hbel hb5) hb6⟩
        · have g2 : decide (0 < u2) = false := by simpa using d2
          go_wp2_with (first | (go_at_fn f1; refine HP.out.mono ?_; rintro e w5 ⟨rfl, hb5⟩; obtain ⟨y0, y1, y2, yf, yl⟩ := (BV.below hb5).tri) | (go_at_call 100; refine (HF.out _ hb5).mono ?_; rintro e w6 ⟨rfl, hb6⟩))
          go_roundg (P - (k + 1))
          case measure => omega
          case rel =>
            have hb56 := chain hb5 hb6
            refine ⟨k + 1, by omega, rfl, by go_num, fun j hj => ?_, BV.below hb56, q1w.below hb56, q2w.below hb56, chain hbel hb56⟩
            by_cases hjk : j = k
            · subst hjk
              rw [U1.out, U2.out, g1, g2]
              rfl
            · exact HA.out j (by omega)
      · have g1 : decide (0 < u1) = false := by simpa using d1
        go_wp2_with (go_at_fn f1; refine HP.out.mono ?_; rintro e w5 ⟨rfl, hb5⟩)
        go_roundg (P - (k + 1))
        case measure => omega
        case rel =>
          refine ⟨k + 1, by omega, rfl, by go_num, fun j hj => ?_, BV.below hb5, q1w.below hb5, q2w.below hb5, chain hbel hb5⟩
          by_cases hjk : j = k
          · subst hjk
            rw [U1.out, g1]
            rfl
          · exact HA.out j (by omega)
    · obtain rfl : k = P := by omega
      have hyes : R = false := by
        rw [← HR.out]
        have : apartB k xs ys = true := by
          rw [apartB, List.all_eq_true]
          intro j hj
          exact HA.out j (by simpa using hj)
        rw [this]; rfl
      subst hyes
      go_wp2
      go_ret
      exact ⟨rfl, hbel⟩
def overB (xs ys : List Int) : Bool := decide (lastL xs xs.length < 0) || decide (lastL ys ys.length < 0)
set_option maxHeartbeats 1000000 in
theorem over_any (p : Int) (f1 f2 B : Nat) (xs ys : List Int) (w : World) (p0 : 2 ≤ p) (p1 : p ≤ 24) (n1 : (xs.length : Int) = p + 1) (n2 : (ys.length : Int) = p + 1) (hx : ∀ x ∈ xs, 0 ≤ x ∧ x ≤ 1000) (hy : ∀ y ∈ ys, 0 ≤ y ∧ y ≤ 1000) (q1 : Pays f1 B xs w) (q2 : Pays f2 B ys w) :
    Calls Tryz.prog 91 #[tv p f1 f2 B] w fun e w' => e = .returned (.bool (overB xs ys)) ∧ Below w.heap.size w w' := by
  have hf1 := fun W (hW : Below w.heap.size w W) => farthest_any p f1 f2 B f1 B xs W (by omega) p1 n1 hx (q1.below hW)
  have hf2 := fun W (hW : Below w.heap.size w W) => farthest_any p f1 f2 B f2 B ys W (by omega) p1 n2 hy (q2.below hW)
  rw [overB]
  have lb1 := (lastL_bound xs xs.length).1
  have lb2 := (lastL_bound ys ys.length).1
  have hlen1 : xs.length ≤ 25 := by omega
  have hlen2 : ys.length ≤ 25 := by omega
  have lc1 := (lastL_bound xs xs.length).2
  have lc2 := (lastL_bound ys ys.length).2
  obtain ⟨u1, hu1⟩ : ∃ u, lastL xs xs.length = u := ⟨_, rfl⟩
  obtain ⟨u2, hu2⟩ : ∃ u, lastL ys ys.length = u := ⟨_, rfl⟩
  rw [hu1] at hf1 lb1 lc1
  rw [hu2] at hf2 lb2 lc2
  rw [hu1, hu2]
  have HF1 := Lib.hid hf1
  have HF2 := Lib.hid hf2
  clear hu1 hu2 hf1 hf2
  by_cases d1 : u1 < 0
  · have g1 : decide (u1 < 0) = true := by simpa using d1
    rw [g1, Bool.true_or]
    go_enter Tryz.func91, Tryz.ntmps91
    have hb : Below w.heap.size w (w.alloc (.cells #[.int .i64 p, fv f1 B, fv f2 B] 109)) := (Below.refl _ _).alloc (Nat.le_refl _) _
    have B0 := Blk.new w #[.int .i64 p, fv f1 B, fv f2 B] 109
    have q10 := q1.below hb
    have q20 := q2.below hb
    obtain ⟨z0, z1, z2, zf, zl⟩ := B0.tri
    go_wp2_with (go_at_call 107; refine (HF1.out _ hb).mono ?_; rintro e w5 ⟨rfl, hb5⟩)
    go_ret
    exact ⟨rfl, from_alloc hb5⟩
  · have g1 : decide (u1 < 0) = false := by simpa using d1
    rw [g1, Bool.false_or]
    go_enter Tryz.func91, Tryz.ntmps91
    have hb : Below w.heap.size w (w.alloc (.cells #[.int .i64 p, fv f1 B, fv f2 B] 109)) := (Below.refl _ _).alloc (Nat.le_refl _) _
    have B0 := Blk.new w #[.int .i64 p, fv f1 B, fv f2 B] 109
    have q10 := q1.below hb
    have q20 := q2.below hb
    obtain ⟨z0, z1, z2, zf, zl⟩ := B0.tri
    have B5 := fun W (hW : Below (w.alloc (.cells #[.int .i64 p, fv f1 B, fv f2 B] 109)).heap.size (w.alloc (.cells #[.int .i64 p, fv f1 B, fv f2 B] 109)) W) => (B0.below hW).tri
    go_wp2_with (go_at_call 107; first | (refine (HF2.out _ (from_alloc hb5)).mono ?_; rintro e w6 ⟨rfl, hb6⟩) | (refine (HF1.out _ hb).mono ?_; rintro e w5 ⟨rfl, hb5⟩; obtain ⟨y0, y1, y2, yf, yl⟩ := B5 _ hb5))
    go_ret
    exact ⟨rfl, from_alloc (chain hb5 hb6)⟩
theorem held3t {w W w2 : World} {g : Nat} {v0 v1 v2 : Value} (hS : W.cell? ⟨g, 0, none⟩ = some v0 ∧ W.cell? ⟨g, 1, none⟩ = some v1 ∧ W.cell? ⟨g, 2, none⟩ = some v2 ∧ Below w.heap.size w W ∧ g < W.heap.size) (hb : Below W.heap.size W w2) :
    w2.cell? ⟨g, 0, none⟩ = some v0 ∧ w2.cell? ⟨g, 1, none⟩ = some v1 ∧ w2.cell? ⟨g, 2, none⟩ = some v2 ∧ Below w.heap.size w w2 ∧ g < w2.heap.size := by
  obtain ⟨h0, h1, h2, h3, h4⟩ := hS
  obtain ⟨hc, _⟩ := bcell hb
  exact ⟨by rw [hc _ _ h4]; exact h0, by rw [hc _ _ h4]; exact h1, by rw [hc _ _ h4]; exact h2, chain h3 hb, Nat.lt_of_lt_of_le h4 hb.size⟩
theorem sum_nonneg : ∀ (xs : List Int), (∀ x ∈ xs, 0 ≤ x) → 0 ≤ xs.sum
  | [], _ => by simp
  | x :: xs, h => by
    have h1 := h x (by simp)
    have h2 := sum_nonneg xs (fun y hy => h y (by simp [hy]))
    simp only [List.sum_cons]
    omega
theorem sum_take_le (xs : List Int) (k : Nat) (h : ∀ x ∈ xs, 0 ≤ x) : (xs.take k).sum ≤ xs.sum := by
  have h1 : xs.sum = (xs.take k).sum + (xs.drop k).sum := by rw [← List.sum_append, List.take_append_drop]
  have h2 := sum_nonneg (xs.drop k) (fun x hx => h x (List.mem_of_mem_drop hx))
  omega
def chkB (c : Int) (xs : List Int) : Bool := xs.all (fun x => inB x 0 c) && decide (xs.sum ≤ c)
theorem sideB_chk (p c : Int) (xs : List Int) : sideB p c xs = (decide ((xs.length : Int) = p + 1) && chkB c xs) := by simp [sideB, chkB, Bool.and_assoc]
set_option maxHeartbeats 2000000 in
theorem hasCheckers_any (p c h s : Int) (a : Option Addr) (n cap : Nat) (xs : List Int) (w : World) (g : vB p c h s = true) (hn : xs.length = n) (hle : n ≤ 9223372036854775807) (hr : IRow w a xs) :
    Calls Tryz.prog 99 #[.agg #[.int .i64 p, .int .i64 c, .int .i64 h, .int .i64 s], .slice a n cap] w fun e w' => e = .returned (.bool (chkB c xs)) ∧ Below w.heap.size w w' := by
  have hv := vB_iff.1 g
  have cc0 : 1 ≤ c := hv.2.2.1
  have cc1 : c ≤ 15 := hv.2.2.2.1
  clear hv g
  have B0 := Blk.new w #[.int .i64 p, .int .i64 c, .int .i64 h, .int .i64 s] 25
  have hb : Below w.heap.size w (w.alloc (.cells #[.int .i64 p, .int .i64 c, .int .i64 h, .int .i64 s] 25)) := (Below.refl _ _).alloc (Nat.le_refl _) _
  obtain ⟨R, hR⟩ : ∃ R, chkB c xs = R := ⟨_, rfl⟩
  rw [hR]
  have hr0 := hr.below hb
  subst hn
  have HR := Lib.hid hR
  clear hR
  obtain ⟨x0, x1, x2, x3, xf, xl⟩ := B0.four
  go_enter Tryz.func99, Tryz.ntmps99
  go_wp2
  clear x0 x1 x2 x3 xf xl
  generalize (w.alloc (.cells #[.int .i64 p, .int .i64 c, .int .i64 h, .int .i64 s] 25)) = v0 at *
  go_loopg [5, 12] xs.length (fun m l i wr => ∃ k : Nat, k ≤ xs.length ∧ m = xs.length - k ∧ i = .int .i64 k ∧ l = .int .i64 (c - (xs.take k).sum) ∧ 0 ≤ (xs.take k).sum ∧ (xs.take k).sum ≤ c ∧ (∀ j, j < k → inB (xs.getD j 0) 0 c = true) ∧ Below w.heap.size w wr)
  case atStart => exact ⟨0, by omega, by omega, rfl, by simp, by simp, by simp; omega, fun j hj => by omega, hb⟩
  case round =>
    obtain ⟨k, hk, hm, rfl, rfl, s0, s1, hall, hbel⟩ := hrel
    have HA := Lib.hid hall
    clear hall
    by_cases hlt : k < xs.length
    · have hlt' : (k : Int) < (xs.length : Int) := by omega
      have hk0 : (0 : Int) ≤ (k : Int) := by omega
      obtain ⟨b, o, rfl, hc⟩ := hr.below hbel k hlt
      have hst := sum_take xs k hlt
      obtain ⟨v, hv⟩ : ∃ v, xs.getD k 0 = v := ⟨_, rfl⟩
      obtain ⟨S, hS⟩ : ∃ S, (xs.take k).sum = S := ⟨_, rfl⟩
      rw [hv] at hc hst
      rw [hS] at s0 s1 hst ⊢
      have HV := Lib.hid hv
      have HS := Lib.hid hst
      clear hv hst hS
      have hmem : v ∈ xs := HV.out ▸ getD_mem hlt
      by_cases d1 : v < 0
      · have hR2 : R = false := by
          rw [← HR.out]
          have : xs.all (fun x => inB x 0 c) = false := by
            rw [List.all_eq_false]
            exact ⟨v, hmem, by simp [inB]; omega⟩
          simp [chkB, this]
        subst hR2
        go_wp2
        go_ret
        exact ⟨rfl, hbel⟩
      · by_cases d2 : c - S < v
        · have hR2 : R = false := by
            rw [← HR.out]
            by_cases hnn : ∀ x ∈ xs, 0 ≤ x
            · have h1 := sum_take_le xs (k + 1) hnn
              have h2 := HS.out
              have : decide (xs.sum ≤ c) = false := by rw [decide_eq_false_iff_not]; omega
              simp [chkB, this]
            · have : xs.all (fun x => inB x 0 c) = false := by
                rw [List.all_eq_false]
                simp only [Classical.not_forall] at hnn
                obtain ⟨x, hx, hx0⟩ := hnn
                exact ⟨x, hx, by simp [inB]; omega⟩
              simp [chkB, this]
          subst hR2
          go_wp2
          go_ret
          exact ⟨rfl, hbel⟩
        · go_wp2
          go_roundg (xs.length - (k + 1))
          case measure => omega
          case rel =>
            refine ⟨k + 1, by omega, rfl, by go_num, by rw [HS.out]; congr 1; omega, by rw [HS.out]; omega, by rw [HS.out]; omega, fun j hj => ?_, hbel⟩
            by_cases hjk : j = k
            · subst hjk
              rw [HV.out]
              simp [inB]
              omega
            · exact HA.out j (by omega)
    · obtain rfl : k = xs.length := by omega
      have hxs : ∀ x ∈ xs, inB x 0 c = true := fun x hx => by
        obtain ⟨j, hj, rfl⟩ := List.mem_iff_getElem.1 hx
        have := HA.out j hj
        rwa [show xs.getD j 0 = xs[j] by simp [hj]] at this
      have hR2 : R = true := by
        rw [← HR.out]
        have h1 : xs.all (fun x => inB x 0 c) = true := List.all_eq_true.2 hxs
        rw [List.take_length] at s1
        simp [chkB, h1, s1]
      subst hR2
      go_wp2
      go_ret
      exact ⟨rfl, hbel⟩
set_option maxHeartbeats 1000000 in
theorem isSide_any (p c h s : Int) (a : Option Addr) (n cap : Nat) (xs : List Int) (w : World) (g : vB p c h s = true) (hn : xs.length = n) (hle : n ≤ 9223372036854775807) (hr : IRow w a xs) :
    Calls Tryz.prog 75 #[.agg #[.int .i64 p, .int .i64 c, .int .i64 h, .int .i64 s], .slice a n cap] w fun e w' => e = .returned (.bool (sideB p c xs)) ∧ Below w.heap.size w w' := by
  have hK := fun W (r : IRow W a xs) => hasCheckers_any p c h s a n cap xs W g hn hle r
  have HK := Lib.hid hK
  have hv := vB_iff.1 g
  have p0 : 2 ≤ p := hv.1
  have p1 : p ≤ 24 := hv.2.1
  clear hv g hK
  have B0 := Blk.new w #[.int .i64 p, .int .i64 c, .int .i64 h, .int .i64 s] 25
  have hb : Below w.heap.size w (w.alloc (.cells #[.int .i64 p, .int .i64 c, .int .i64 h, .int .i64 s] 25)) := (Below.refl _ _).alloc (Nat.le_refl _) _
  rw [sideB_chk, hn]
  obtain ⟨x0, x1, x2, x3, xf, xl⟩ := B0.four
  by_cases hlen : (n : Int) = p + 1
  · have e0 : ((n : Int) == p + 1) = true := by rw [beq_iff_eq]; exact hlen
    rw [decide_eq_true hlen, Bool.true_and]
    have HL := Lib.hid hlen
    clear hlen
    go_enter Tryz.func75, Tryz.ntmps75
    go_wp2_with (go_at_call 99; refine (HK.out _ (hr.below hb)).mono ?_; rintro e w1 ⟨rfl, hb1⟩)
    go_ret
    exact ⟨rfl, chain hb hb1⟩
  · have e0 : ((n : Int) == p + 1) = false := by rw [beq_eq_false_iff_ne]; exact hlen
    rw [decide_eq_false hlen, Bool.false_and]
    have HL := Lib.hid hlen
    clear hlen
    go_enter Tryz.func75, Tryz.ntmps75
    go_wp2
    go_ret
    exact ⟨rfl, hb⟩
set_option maxHeartbeats 4000000 in
theorem isBoard_any (p c h s : Int) (a1 a2 : Option Addr) (n1 n2 c1 c2 : Nat) (xs ys : List Int) (w : World) (h1 : xs.length = n1) (h2 : ys.length = n2) (l1 : n1 ≤ 1048576) (l2 : n2 ≤ 1048576) (r1 : IRow w a1 xs) (r2 : IRow w a2 ys) :
    Calls Tryz.prog 47 #[.agg #[.int .i64 p, .int .i64 c, .int .i64 h, .int .i64 s], .agg #[.slice a1 n1 c1, .slice a2 n2 c2]] w fun e w' => e = .returned (.bool (isB p c h s xs ys)) ∧ Below w.heap.size w w' := by
  obtain ⟨BV, BB, hb, hz⟩ := two_new w #[.int .i64 p, .int .i64 c, .int .i64 h, .int .i64 s] #[.slice a1 n1 c1, .slice a2 n2 c2] 25 28
  clear hz
  obtain ⟨x0, x1, x2, x3, xf, xl⟩ := BV.four
  obtain ⟨y0, y1, yf, yl⟩ := BB.two
  by_cases g : vB p c h s = true
  rotate_left
  · replace g : vB p c h s = false := by simpa using g
    have e0 : isB p c h s xs ys = false := by simp [isB, g]
    rw [e0]
    clear e0
    have hv0 := fun W => valid_any p c h s W
    simp only [g] at hv0
    have HV0 := Lib.hid hv0
    clear hv0
    go_enter Tryz.func47, Tryz.ntmps47
    go_wp2_with (first | (go_at_call 74; refine (HV0.out _).mono ?_; rintro e w1 ⟨rfl, hb1⟩; obtain ⟨x0, x1, x2, x3, xf, xl⟩ := (BV.below hb1).four; obtain ⟨y0, y1, yf, yl⟩ := (BB.below hb1).two))
    go_ret
    exact ⟨rfl, chain hb hb1⟩
  by_cases sx : sideB p c xs = true
  rotate_left
  · replace sx : sideB p c xs = false := by simpa using sx
    have e0 : isB p c h s xs ys = false := by simp [isB, g, sx]
    rw [e0]
    clear e0
    have hv0 := fun W => valid_any p c h s W
    simp only [g] at hv0
    have HV0 := Lib.hid hv0
    clear hv0
    have hs1 := fun W (hr : IRow W a1 xs) => isSide_any p c h s a1 n1 c1 xs W g h1 (by omega) hr
    simp only [sx] at hs1
    have HS1 := Lib.hid hs1
    clear hs1
    go_enter Tryz.func47, Tryz.ntmps47
    go_wp2_with (first | (go_at_call 74; refine (HV0.out _).mono ?_; rintro e w1 ⟨rfl, hb1⟩; obtain ⟨x0, x1, x2, x3, xf, xl⟩ := (BV.below hb1).four; obtain ⟨y0, y1, yf, yl⟩ := (BB.below hb1).two) | (go_at_call 75; refine (HS1.out _ (r1.below (chain hb hb1))).mono ?_; rintro e w2 ⟨rfl, hb2⟩; obtain ⟨x0, x1, x2, x3, xf, xl⟩ := (BV.below (chain hb1 hb2)).four; obtain ⟨y0, y1, yf, yl⟩ := (BB.below (chain hb1 hb2)).two))
    go_ret
    exact ⟨rfl, chain (chain hb hb1) hb2⟩
  by_cases sy : sideB p c ys = true
  rotate_left
  · replace sy : sideB p c ys = false := by simpa using sy
    have e0 : isB p c h s xs ys = false := by simp [isB, g, sx, sy]
    rw [e0]
    clear e0
    have hv0 := fun W => valid_any p c h s W
    simp only [g] at hv0
    have HV0 := Lib.hid hv0
    clear hv0
    have hs1 := fun W (hr : IRow W a1 xs) => isSide_any p c h s a1 n1 c1 xs W g h1 (by omega) hr
    simp only [sx] at hs1
    have HS1 := Lib.hid hs1
    clear hs1
    have hs2 := fun W (hr : IRow W a2 ys) => isSide_any p c h s a2 n2 c2 ys W g h2 (by omega) hr
    simp only [sy] at hs2
    have HS2 := Lib.hid hs2
    clear hs2
    go_enter Tryz.func47, Tryz.ntmps47
    go_wp2_with (first | (go_at_call 74; refine (HV0.out _).mono ?_; rintro e w1 ⟨rfl, hb1⟩; obtain ⟨x0, x1, x2, x3, xf, xl⟩ := (BV.below hb1).four; obtain ⟨y0, y1, yf, yl⟩ := (BB.below hb1).two) | (go_at_call 75; refine (HS2.out _ (r2.below (chain (chain hb hb1) hb2))).mono ?_; rintro e w3 ⟨rfl, hb3⟩; obtain ⟨x0, x1, x2, x3, xf, xl⟩ := (BV.below (chain (chain hb1 hb2) hb3)).four; obtain ⟨y0, y1, yf, yl⟩ := (BB.below (chain (chain hb1 hb2) hb3)).two) | (go_at_call 75; refine (HS1.out _ (r1.below (chain hb hb1))).mono ?_; rintro e w2 ⟨rfl, hb2⟩; obtain ⟨x0, x1, x2, x3, xf, xl⟩ := (BV.below (chain hb1 hb2)).four; obtain ⟨y0, y1, yf, yl⟩ := (BB.below (chain hb1 hb2)).two))
    go_ret
    exact ⟨rfl, chain (chain (chain hb hb1) hb2) hb3⟩
  have hv0 := fun W => valid_any p c h s W
  simp only [g] at hv0
  have HV0 := Lib.hid hv0
  clear hv0
  have hs1 := fun W (hr : IRow W a1 xs) => isSide_any p c h s a1 n1 c1 xs W g h1 (by omega) hr
  simp only [sx] at hs1
  have HS1 := Lib.hid hs1
  clear hs1
  have hs2 := fun W (hr : IRow W a2 ys) => isSide_any p c h s a2 n2 c2 ys W g h2 (by omega) hr
  simp only [sy] at hs2
  have HS2 := Lib.hid hs2
  clear hs2
  have hv := vB_iff.1 g
  obtain ⟨m1, m2, m3⟩ := sideB_iff.1 sx
  obtain ⟨m4, m5, m6⟩ := sideB_iff.1 sy
  have sb1 := (sum_bound xs m2).1
  have sb2 := (sum_bound ys m5).1
  have q1 : xs.sum ≤ 15 := by omega
  have q2 : ys.sum ≤ 15 := by omega
  have p0 : 2 ≤ p := hv.1
  have p1 : p ≤ 24 := hv.2.1
  have hx : ∀ x ∈ xs, 0 ≤ x ∧ x ≤ 1000 := fun x hx => by have := m2 x hx; omega
  have hy : ∀ x ∈ ys, 0 ≤ x ∧ x ≤ 1000 := fun x hx => by have := m5 x hx; omega
  obtain ⟨P, rfl⟩ := Int.eq_ofNat_of_zero_le (by omega : 0 ≤ p)
  have N1 := m1
  have N2 := m4
  have wz : IntKind.i64.wrap (xs.sum + ys.sum) = xs.sum + ys.sum := IntWalk.i64_in _ (by omega)
  by_cases z : xs.sum + ys.sum = 0
  · have zz : decide (0 < xs.sum + ys.sum) = false := by rw [decide_eq_false_iff_not]; omega
    have e0 : isB (P : Int) c h s xs ys = false := by simp [isB, z]
    rw [e0]
    clear e0 z m1 m2 m3 m4 m5 m6 hv sb1 sb2 g sx sy
    go_enter Tryz.func47, Tryz.ntmps47
    go_wp2_with (first | (go_at_call 74; refine (HV0.out _).mono ?_; rintro e w1 ⟨rfl, hb1⟩; obtain ⟨x0, x1, x2, x3, xf, xl⟩ := (BV.below hb1).four; obtain ⟨y0, y1, yf, yl⟩ := (BB.below hb1).two) | (go_at_call 75; refine (HS2.out _ (r2.below (chain (chain hb hb1) hb2))).mono ?_; rintro e w3 ⟨rfl, hb3⟩; obtain ⟨x0, x1, x2, x3, xf, xl⟩ := (BV.below (chain (chain hb1 hb2) hb3)).four; obtain ⟨y0, y1, yf, yl⟩ := (BB.below (chain (chain hb1 hb2) hb3)).two) | (go_at_call 75; refine (HS1.out _ (r1.below (chain hb hb1))).mono ?_; rintro e w2 ⟨rfl, hb2⟩; obtain ⟨x0, x1, x2, x3, xf, xl⟩ := (BV.below (chain hb1 hb2)).four; obtain ⟨y0, y1, yf, yl⟩ := (BB.below (chain hb1 hb2)).two) | (go_at_call 58; refine (countsOf_any _ c h s a1 a2 n1 c1 n2 c2 xs ys _ h1 h2 (r1.below (chain (chain (chain hb hb1) hb2) hb3)) (r2.below (chain (chain (chain hb hb1) hb2) hb3))).mono ?_; rintro e w4 ⟨B, rfl, q1, q2, hb4⟩))
    have hK1 := fun W (hW : Below w4.heap.size w4 W) => checkers_any (P : Int) 88 89 B 88 B xs W (by omega) p1 N1 hx (q1.below hW)
    have hK2 := fun W (hW : Below w4.heap.size w4 W) => checkers_any (P : Int) 88 89 B 89 B ys W (by omega) p1 N2 hy (q2.below hW)
    have hK3 := fun W (hW : Below w4.heap.size w4 W) => sharesPoint_any P 88 89 B xs ys W (by omega) (by omega) (by omega) (q1.below hW) (q2.below hW)
    have HK1 := Lib.hid hK1
    have HK2 := Lib.hid hK2
    have HK3 := Lib.hid hK3
    clear hK1 hK2 hK3
    have hbc : Below w4.heap.size w4 (w4.alloc (.cells #[.int .i64 (P : Int), fv 88 B, fv 89 B] 109)) := (Below.refl _ _).alloc (Nat.le_refl _) _
    obtain ⟨z0, z1, z2, zf, zl⟩ := (Blk.new w4 #[.int .i64 (P : Int), fv 88 B, fv 89 B] 109).tri
    refine wp_region_held_drew (S := fun w' => w'.cell? ⟨w4.heap.size, 0, none⟩ = some (.int .i64 (P : Int)) ∧ w'.cell? ⟨w4.heap.size, 1, none⟩ = some (fv 88 B) ∧ w'.cell? ⟨w4.heap.size, 2, none⟩ = some (fv 89 B) ∧ Below w4.heap.size w4 w' ∧ w4.heap.size < w'.heap.size) (by kernel_rfl) ⟨z0, z1, z2, hbc.drew, zl⟩ (fun hHeld => ?_)
    refine tk 0 26 ?_
    refine tk 1 27 ?_
    refine tk 2 28 ?_
    refine tk 4 30 ?_
    refine tk 5 31 ?_
    refine tk 6 32 ?_
    refine rdk 3 29 fun K hK => ?_
    go_simp
    refine (HK1.out _ hHeld.2.2.2.1).mono ?_
    rintro e w8 ⟨rfl, hb8⟩
    have hS := held3t hHeld hb8
    (try go_wp2_with fail)
    refine hko hK hS fun hHeld => ?_
    clear hK K
    refine rdk 7 33 fun K hK => ?_
    go_simp
    refine (HK2.out _ hHeld.2.2.2.1).mono ?_
    rintro e w8 ⟨rfl, hb8⟩
    have hS := held3t hHeld hb8
    (try go_wp2_with fail)
    refine hko hK hS fun hHeld => ?_
    clear hK K
    refine tk 8 34 ?_
    refine tk 9 35 ?_
    refine tk 10 36 ?_
    refine tkv 11 37 ?_
    refine tkv 12 38 ?_
    refine tkv 13 39 ?_
    refine tk 14 40 ?_
    refine tk 15 4 ?_
    refine wpAnyH_done (by kernel_rfl) ?_ _
    go_wp2
    go_ret
    exact ⟨rfl, chain (chain (chain (chain (chain hb hb1) hb2) hb3) hb4) hHeld.2.2.2.1⟩
  · have zz : decide (0 < xs.sum + ys.sum) = true := by rw [decide_eq_true_iff]; omega
    have e0 : isB (P : Int) c h s xs ys = apartB P xs ys := by simp [isB, g, sx, sy, z]
    rw [e0]
    clear e0 z m1 m2 m3 m4 m5 m6 hv sb1 sb2 g sx sy
    go_enter Tryz.func47, Tryz.ntmps47
    go_wp2_with (first | (go_at_call 74; refine (HV0.out _).mono ?_; rintro e w1 ⟨rfl, hb1⟩; obtain ⟨x0, x1, x2, x3, xf, xl⟩ := (BV.below hb1).four; obtain ⟨y0, y1, yf, yl⟩ := (BB.below hb1).two) | (go_at_call 75; refine (HS2.out _ (r2.below (chain (chain hb hb1) hb2))).mono ?_; rintro e w3 ⟨rfl, hb3⟩; obtain ⟨x0, x1, x2, x3, xf, xl⟩ := (BV.below (chain (chain hb1 hb2) hb3)).four; obtain ⟨y0, y1, yf, yl⟩ := (BB.below (chain (chain hb1 hb2) hb3)).two) | (go_at_call 75; refine (HS1.out _ (r1.below (chain hb hb1))).mono ?_; rintro e w2 ⟨rfl, hb2⟩; obtain ⟨x0, x1, x2, x3, xf, xl⟩ := (BV.below (chain hb1 hb2)).four; obtain ⟨y0, y1, yf, yl⟩ := (BB.below (chain hb1 hb2)).two) | (go_at_call 58; refine (countsOf_any _ c h s a1 a2 n1 c1 n2 c2 xs ys _ h1 h2 (r1.below (chain (chain (chain hb hb1) hb2) hb3)) (r2.below (chain (chain (chain hb hb1) hb2) hb3))).mono ?_; rintro e w4 ⟨B, rfl, q1, q2, hb4⟩))
    have hK1 := fun W (hW : Below w4.heap.size w4 W) => checkers_any (P : Int) 88 89 B 88 B xs W (by omega) p1 N1 hx (q1.below hW)
    have hK2 := fun W (hW : Below w4.heap.size w4 W) => checkers_any (P : Int) 88 89 B 89 B ys W (by omega) p1 N2 hy (q2.below hW)
    have hK3 := fun W (hW : Below w4.heap.size w4 W) => sharesPoint_any P 88 89 B xs ys W (by omega) (by omega) (by omega) (q1.below hW) (q2.below hW)
    have HK1 := Lib.hid hK1
    have HK2 := Lib.hid hK2
    have HK3 := Lib.hid hK3
    clear hK1 hK2 hK3
    have hbc : Below w4.heap.size w4 (w4.alloc (.cells #[.int .i64 (P : Int), fv 88 B, fv 89 B] 109)) := (Below.refl _ _).alloc (Nat.le_refl _) _
    obtain ⟨z0, z1, z2, zf, zl⟩ := (Blk.new w4 #[.int .i64 (P : Int), fv 88 B, fv 89 B] 109).tri
    refine wp_region_held_drew (S := fun w' => w'.cell? ⟨w4.heap.size, 0, none⟩ = some (.int .i64 (P : Int)) ∧ w'.cell? ⟨w4.heap.size, 1, none⟩ = some (fv 88 B) ∧ w'.cell? ⟨w4.heap.size, 2, none⟩ = some (fv 89 B) ∧ Below w4.heap.size w4 w' ∧ w4.heap.size < w'.heap.size) (by kernel_rfl) ⟨z0, z1, z2, hbc.drew, zl⟩ (fun hHeld => ?_)
    refine tk 0 26 ?_
    refine tk 1 27 ?_
    refine tk 2 28 ?_
    refine tk 4 30 ?_
    refine tk 5 31 ?_
    refine tk 6 32 ?_
    refine rdk 3 29 fun K hK => ?_
    go_simp
    refine (HK1.out _ hHeld.2.2.2.1).mono ?_
    rintro e w8 ⟨rfl, hb8⟩
    have hS := held3t hHeld hb8
    (try go_wp2_with fail)
    refine hko hK hS fun hHeld => ?_
    clear hK K
    refine rdk 7 33 fun K hK => ?_
    go_simp
    refine (HK2.out _ hHeld.2.2.2.1).mono ?_
    rintro e w8 ⟨rfl, hb8⟩
    have hS := held3t hHeld hb8
    (try go_wp2_with fail)
    refine hko hK hS fun hHeld => ?_
    clear hK K
    refine tk 8 34 ?_
    refine tk 9 35 ?_
    refine tk 10 36 ?_
    refine tk 11 37 ?_
    refine rdk 12 38 fun K hK => ?_
    go_simp
    refine (HK3.out _ hHeld.2.2.2.1).mono ?_
    rintro e w8 ⟨rfl, hb8⟩
    have hS := held3t hHeld hb8
    (try go_wp2_with fail)
    refine hko hK hS fun hHeld => ?_
    clear hK K
    refine tk 13 39 ?_
    refine tk 14 40 ?_
    refine tk 15 4 ?_
    refine wpAnyH_done (by kernel_rfl) ?_ _
    go_wp2
    go_ret
    exact ⟨by simp, chain (chain (chain (chain (chain hb hb1) hb2) hb3) hb4) hHeld.2.2.2.1⟩
end Go.Proofs.YtciljbnailobgaaGreat
namespace Go.Proofs.YtciljbnailobgaaGreat
open Go.ChangeShapes Go.WideShapes Go.ChangeAt Go.RowKit
set_option linter.unusedVariables false
set_option linter.unusedSimpArgs false
set_option maxRecDepth 4000
theorem isB_parts {p c h s : Int} {xs ys : List Int} (g : isB p c h s xs ys = true) : 2 ≤ p ∧ p ≤ 24 ∧ 1 ≤ c ∧ c ≤ 15 ∧ 1 ≤ h ∧ h ≤ p ∧ (xs.length : Int) = p + 1 ∧ (ys.length : Int) = p + 1 ∧
    (∀ x ∈ xs, 0 ≤ x ∧ x ≤ 1000) ∧ (∀ x ∈ ys, 0 ≤ x ∧ x ≤ 1000) ∧ 0 ≤ xs.sum ∧ xs.sum ≤ c ∧ 0 ≤ ys.sum ∧ ys.sum ≤ c := by
  simp only [isB, Bool.and_eq_true] at g
  obtain ⟨g0, g1, g2, -, -⟩ := g
  obtain ⟨v0, v1, v2, v3, v4, v5, v6, v7⟩ := vB_iff.1 g0
  obtain ⟨m1, m2, m3⟩ := sideB_iff.1 g1
  obtain ⟨m4, m5, m6⟩ := sideB_iff.1 g2
  exact ⟨v0, v1, v2, v3, v4, v5, m1, m4, fun x hx => by have := m2 x hx; omega, fun x hx => by have := m5 x hx; omega, (sum_bound xs m2).1, m3, (sum_bound ys m5).1, m6⟩
theorem hasDie_any (p c h s d : Int) (w : World) :
    Calls Tryz.prog 78 #[.agg #[.int .i64 p, .int .i64 c, .int .i64 h, .int .i64 s], .int .i64 d] w fun e w' => e = .returned (.bool (inB d 1 s)) ∧ Below w.heap.size w w' := by
  have hb : Below w.heap.size w (w.alloc (.cells #[.int .i64 p, .int .i64 c, .int .i64 h, .int .i64 s] 25)) := (Below.refl _ _).alloc (Nat.le_refl _) _
  unfold inB
  rw [Bool.decide_and]
  by_cases g1 : 1 ≤ d
  · rw [decide_eq_true g1, Bool.true_and]
    go_enter Tryz.func78, Tryz.ntmps78
    go_wp2
    go_ret
    exact ⟨by first | rfl | (simp; done), hb⟩
  · rw [decide_eq_false g1, Bool.false_and]
    go_enter Tryz.func78, Tryz.ntmps78
    go_wp2
    go_ret
    exact ⟨by first | rfl | (simp; done), hb⟩
def placesB (p : Int) (t : Stp) : Bool := decide (0 ≤ t.1) && (decide (t.1 ≤ p) && (decide (-1 ≤ t.2.1) && decide (t.2.1 < p)))
theorem hasPlaces_any (p c h s : Int) (t : Stp) (w : World) :
    Calls Tryz.prog 90 #[.agg #[.int .i64 p, .int .i64 c, .int .i64 h, .int .i64 s], stV t] w fun e w' => e = .returned (.bool (placesB p t)) ∧ Below w.heap.size w w' := by
  obtain ⟨a, b, c', d⟩ := t
  have hb : Below w.heap.size w ((w.alloc (.cells #[.int .i64 p, .int .i64 c, .int .i64 h, .int .i64 s] 25)).alloc (.cells #[.int .i64 a, .int .i64 b, .int .i64 c', .bool d] 55)) := ((Below.refl _ _).alloc (Nat.le_refl _) _).alloc (by simp) _
  unfold placesB stV
  dsimp only
  by_cases g1 : 0 ≤ a
  · rw [decide_eq_true g1, Bool.true_and]
    by_cases g2 : a ≤ p
    · rw [decide_eq_true g2, Bool.true_and]
      by_cases g3 : -1 ≤ b
      · rw [decide_eq_true g3, Bool.true_and]
        go_enter Tryz.func90, Tryz.ntmps90
        go_wp2
        go_ret
        exact ⟨by first | rfl | (simp; done), hb⟩
      · rw [decide_eq_false g3, Bool.false_and]
        go_enter Tryz.func90, Tryz.ntmps90
        go_wp2
        go_ret
        exact ⟨by first | rfl | (simp; done), hb⟩
    · rw [decide_eq_false g2, Bool.false_and]
      go_enter Tryz.func90, Tryz.ntmps90
      go_wp2
      go_ret
      exact ⟨by first | rfl | (simp; done), hb⟩
  · rw [decide_eq_false g1, Bool.false_and]
    go_enter Tryz.func90, Tryz.ntmps90
    go_wp2
    go_ret
    exact ⟨by first | rfl | (simp; done), hb⟩
theorem enterTo_any (b d : Int) (w : World) (b0 : 0 ≤ b) (b1 : b ≤ 1000) (d0 : 0 ≤ d) (d1 : d ≤ 1000) :
    Calls Tryz.prog 112 #[.agg #[.int .i64 b, .int .i64 d]] w fun e w' => e = .returned (.int .i64 (b - d)) ∧ Below w.heap.size w w' := by
  go_enter Tryz.func112, Tryz.ntmps112
  go_wp2
  go_ret
  exact ⟨rfl, (Below.refl _ _).alloc (Nat.le_refl _) _⟩
theorem moveTo_any (b d : Int) (w : World) (b0 : 0 ≤ b) (b1 : b ≤ 1000) (d0 : 0 ≤ d) (d1 : d ≤ 1000) :
    Calls Tryz.prog 113 #[.agg #[.int .i64 b, .int .i64 d]] w fun e w' => e = .returned (.int .i64 (b - d)) ∧ Below w.heap.size w w' := by
  go_enter Tryz.func113, Tryz.ntmps113
  go_wp2
  go_ret
  exact ⟨rfl, (Below.refl _ _).alloc (Nat.le_refl _) _⟩
theorem offTo_any (b d : Int) (w : World) :
    Calls Tryz.prog 136 #[.agg #[.int .i64 b, .int .i64 d]] w fun e w' => e = .returned (.int .i64 (-1)) ∧ Below w.heap.size w w' := by
  go_enter Tryz.func136, Tryz.ntmps136
  go_wp2
  go_ret
  exact ⟨rfl, (Below.refl _ _).alloc (Nat.le_refl _) _⟩
theorem enterFrom_any (b d : Int) (w : World) :
    Calls Tryz.prog 133 #[.agg #[.int .i64 b, .int .i64 d]] w fun e w' => e = .returned (.int .i64 b) ∧ Below w.heap.size w w' := by
  go_enter Tryz.func133, Tryz.ntmps133
  go_wp2
  go_ret
  exact ⟨rfl, (Below.refl _ _).alloc (Nat.le_refl _) _⟩
theorem moveFrom_any (b d : Int) (w : World) :
    Calls Tryz.prog 134 #[.agg #[.int .i64 b, .int .i64 d]] w fun e w' => e = .returned (.int .i64 b) ∧ Below w.heap.size w w' := by
  go_enter Tryz.func134, Tryz.ntmps134
  go_wp2
  go_ret
  exact ⟨rfl, (Below.refl _ _).alloc (Nat.le_refl _) _⟩
theorem offFrom_any (b d : Int) (w : World) :
    Calls Tryz.prog 135 #[.agg #[.int .i64 b, .int .i64 d]] w fun e w' => e = .returned (.int .i64 b) ∧ Below w.heap.size w w' := by
  go_enter Tryz.func135, Tryz.ntmps135
  go_wp2
  go_ret
  exact ⟨rfl, (Below.refl _ _).alloc (Nat.le_refl _) _⟩
def openB (P : Nat) (ys : List Int) (i : Int) : Bool := decide (0 ≤ i) && (decide (i < (P : Int)) && decide (ys.getD (P - 1 - i.toNat) 0 ≤ 1))
theorem isOpen_any (P : Nat) (f1 f2 B : Nat) (ys : List Int) (i : Int) (w : World) (p1 : P ≤ 24) (n2 : ys.length = P + 1) (hy : ∀ y ∈ ys, 0 ≤ y ∧ y ≤ 1000) (q2 : Pays f2 B ys w) :
    Calls Tryz.prog 111 #[tv (P : Int) f1 f2 B, .int .i64 i] w fun e w' => e = .returned (.bool (openB P ys i)) ∧ Below w.heap.size w w' := by
  have hb : Below w.heap.size w (w.alloc (.cells #[.int .i64 (P : Int), fv f1 B, fv f2 B] 109)) := (Below.refl _ _).alloc (Nat.le_refl _) _
  unfold openB
  by_cases g1 : 0 ≤ i
  · rw [decide_eq_true g1, Bool.true_and]
    by_cases g2 : i < (P : Int)
    · rw [decide_eq_true g2, Bool.true_and]
      obtain ⟨k, rfl⟩ := Int.eq_ofNat_of_zero_le g1
      have hfk := facing_any P k f1 f2 B ys _ p1 (by omega) n2 (q2.below hb)
      obtain ⟨z0, z1, z2, zf, zl⟩ := (Blk.new w #[.int .i64 (P : Int), fv f1 B, fv f2 B] 109).tri
      have hgd := hy _ (getD_mem (xs := ys) (k := P - 1 - k) (by omega))
      have hk : (k : Int).toNat = k := by simp
      rw [hk]
      obtain ⟨u, hu⟩ : ∃ u, ys.getD (P - 1 - k) 0 = u := ⟨_, rfl⟩
      rw [hu] at hfk hgd ⊢
      have HF := Lib.hid hfk
      clear hu hfk hk
      go_enter Tryz.func111, Tryz.ntmps111
      go_wp2_with (go_at_call 100; refine HF.out.mono ?_; rintro e w5 ⟨rfl, hb5⟩)
      go_ret
      exact ⟨by first | rfl | (simp; done), from_alloc hb5⟩
    · rw [decide_eq_false g2, Bool.false_and]
      go_enter Tryz.func111, Tryz.ntmps111
      go_wp2
      go_ret
      exact ⟨by first | rfl | (simp; done), hb⟩
  · rw [decide_eq_false g1, Bool.false_and]
    go_enter Tryz.func111, Tryz.ntmps111
    go_wp2
    go_ret
    exact ⟨by first | rfl | (simp; done), hb⟩
def motV (P : Nat) (k d : Int) : Value := if k = (P : Int) then .iface 155 (.agg #[.int .i64 k, .int .i64 d]) else if d ≤ k then .iface 157 (.agg #[.int .i64 k, .int .i64 d]) else .iface 158 (.agg #[.int .i64 k, .int .i64 d])
theorem motionOf_any (P : Nat) (f1 f2 B : Nat) (k d : Int) (w : World) :
    Calls Tryz.prog 108 #[tv (P : Int) f1 f2 B, .int .i64 k, .int .i64 d] w fun e w' => e = .returned (motV P k d) ∧ Below w.heap.size w w' := by
  have hb : Below w.heap.size w (w.alloc (.cells #[.int .i64 (P : Int), fv f1 B, fv f2 B] 109)) := (Below.refl _ _).alloc (Nat.le_refl _) _
  unfold motV
  by_cases g1 : k = (P : Int)
  · rw [if_pos g1]
    subst g1
    go_enter Tryz.func108, Tryz.ntmps108
    go_wp2
    go_ret
    exact ⟨rfl, hb⟩
  · rw [if_neg g1]
    by_cases g2 : d ≤ k
    · rw [if_pos g2]
      go_enter Tryz.func108, Tryz.ntmps108
      go_wp2
      go_ret
      exact ⟨rfl, hb⟩
    · rw [if_neg g2]
      go_enter Tryz.func108, Tryz.ntmps108
      go_wp2
      go_ret
      exact ⟨rfl, hb⟩
theorem ta_entering_entering (x : Value) (w : World) : (Instr.typeAssert (.iface 155 x) 149 155 true).run Tryz.prog w = .ok (.tuple #[x, .bool true]) w := by kernel_rfl
theorem ta_entering_moving (x : Value) (w : World) : (Instr.typeAssert (.iface 155 x) 149 157 true).run Tryz.prog w = .ok (.tuple #[.agg #[.int .i64 0, .int .i64 0], .bool false]) w := by kernel_rfl
theorem ta_entering_bearingOff (x : Value) (w : World) : (Instr.typeAssert (.iface 155 x) 149 158 true).run Tryz.prog w = .ok (.tuple #[.agg #[.int .i64 0, .int .i64 0], .bool false]) w := by kernel_rfl
theorem ta_moving_entering (x : Value) (w : World) : (Instr.typeAssert (.iface 157 x) 149 155 true).run Tryz.prog w = .ok (.tuple #[.agg #[.int .i64 0, .int .i64 0], .bool false]) w := by kernel_rfl
theorem ta_moving_moving (x : Value) (w : World) : (Instr.typeAssert (.iface 157 x) 149 157 true).run Tryz.prog w = .ok (.tuple #[x, .bool true]) w := by kernel_rfl
theorem ta_moving_bearingOff (x : Value) (w : World) : (Instr.typeAssert (.iface 157 x) 149 158 true).run Tryz.prog w = .ok (.tuple #[.agg #[.int .i64 0, .int .i64 0], .bool false]) w := by kernel_rfl
theorem ta_bearingOff_entering (x : Value) (w : World) : (Instr.typeAssert (.iface 158 x) 149 155 true).run Tryz.prog w = .ok (.tuple #[.agg #[.int .i64 0, .int .i64 0], .bool false]) w := by kernel_rfl
theorem ta_bearingOff_moving (x : Value) (w : World) : (Instr.typeAssert (.iface 158 x) 149 157 true).run Tryz.prog w = .ok (.tuple #[.agg #[.int .i64 0, .int .i64 0], .bool false]) w := by kernel_rfl
theorem ta_bearingOff_bearingOff (x : Value) (w : World) : (Instr.typeAssert (.iface 158 x) 149 158 true).run Tryz.prog w = .ok (.tuple #[x, .bool true]) w := by kernel_rfl
set_option maxRecDepth 8000 in
set_option maxHeartbeats 1000000 in
theorem allowsOff_any (P : Nat) (c h s : Int) (f1 f2 B : Nat) (xs ys : List Int) (w : World) (p0 : 2 ≤ P) (p1 : P ≤ 24) (n1 : xs.length = P + 1) (n2 : ys.length = P + 1) (hx : ∀ x ∈ xs, 0 ≤ x ∧ x ≤ 1000) (hy : ∀ y ∈ ys, 0 ≤ y ∧ y ≤ 1000) (q1 : Pays f1 B xs w) (q2 : Pays f2 B ys w) (k d : Int) (k0 : 0 ≤ k) (k1 : k ≤ (P : Int)) (d0 : 1 ≤ d) (d1 : d ≤ 1000) (kd : k < d) (kp : k ≠ (P : Int)) :
    Calls Tryz.prog 109 #[.agg #[.int .i64 (P : Int), .int .i64 c, .int .i64 h, .int .i64 s], tv (P : Int) f1 f2 B, .iface 158 (.agg #[.int .i64 k, .int .i64 d])] w fun e w' => e = .returned (.bool (decide (lastL xs xs.length < h) && (decide (k = d - 1) || decide (k = lastL xs xs.length)))) ∧ Below w.heap.size w w' := by
  obtain ⟨BV, BT, hb, hz⟩ := two_new w #[.int .i64 (P : Int), .int .i64 c, .int .i64 h, .int .i64 s] #[.int .i64 (P : Int), fv f1 B, fv f2 B] 25 109
  obtain ⟨z0, z1, z2, zf, zl⟩ := BT.tri
  have hf := fun W (hW : Below w.heap.size w W) => farthest_any (P : Int) f1 f2 B f1 B xs W (by omega) (by omega) (by omega) hx (q1.below hW)
  have lb := lastL_bound xs xs.length
  obtain ⟨L, hL⟩ : ∃ L, lastL xs xs.length = L := ⟨_, rfl⟩
  rw [hL] at hf lb ⊢
  have HF := Lib.hid hf
  have lb0 : -1 ≤ L := lb.1
  have lb1 : L ≤ (P : Int) := by omega
  clear hf lb hL
  have ta := ta_bearingOff_entering
  have tb := ta_bearingOff_moving
  have tc := ta_bearingOff_bearingOff
  by_cases g1 : L < h
  · rw [decide_eq_true g1, Bool.true_and]
    by_cases g2 : k = d - 1
    · rw [decide_eq_true g2, Bool.true_or]
      go_enter Tryz.func109, Tryz.ntmps109
      go_wp2_with (go_at_call 107; refine (HF.out _ hb).mono ?_; rintro e w5 ⟨rfl, hb5⟩; obtain ⟨x0, x1, x2, x3, xf, xl⟩ := (BV.below hb5).four; obtain ⟨z0, z1, z2, zf, zl⟩ := (BT.below hb5).tri)
      go_ret
      exact ⟨by first | rfl | (simp; done), (chain hb hb5).alloc (chain hb hb5).size _⟩
    · rw [decide_eq_false g2, Bool.false_or]
      go_enter Tryz.func109, Tryz.ntmps109
      go_wp2_with (go_at_call 107; refine (HF.out _ hb).mono ?_; rintro e w5 ⟨rfl, hb5⟩; obtain ⟨x0, x1, x2, x3, xf, xl⟩ := (BV.below hb5).four; obtain ⟨z0, z1, z2, zf, zl⟩ := (BT.below hb5).tri)
      go_ret
      exact ⟨by first | rfl | (simp; done), (chain hb hb5).alloc (chain hb hb5).size _⟩
  · rw [decide_eq_false g1, Bool.false_and]
    go_enter Tryz.func109, Tryz.ntmps109
    go_wp2_with (go_at_call 107; refine (HF.out _ hb).mono ?_; rintro e w5 ⟨rfl, hb5⟩; obtain ⟨x0, x1, x2, x3, xf, xl⟩ := (BV.below hb5).four; obtain ⟨z0, z1, z2, zf, zl⟩ := (BT.below hb5).tri)
    go_ret
    exact ⟨by first | rfl | (simp; done), (chain hb hb5).alloc (chain hb hb5).size _⟩
set_option maxRecDepth 8000 in
set_option maxHeartbeats 1000000 in
theorem allowsEnter_any (P : Nat) (c h s : Int) (f1 f2 B : Nat) (xs ys : List Int) (w : World) (p0 : 2 ≤ P) (p1 : P ≤ 24) (n1 : xs.length = P + 1) (n2 : ys.length = P + 1) (hx : ∀ x ∈ xs, 0 ≤ x ∧ x ≤ 1000) (hy : ∀ y ∈ ys, 0 ≤ y ∧ y ≤ 1000) (q1 : Pays f1 B xs w) (q2 : Pays f2 B ys w) (k d : Int) (k0 : 0 ≤ k) (k1 : k ≤ (P : Int)) (d0 : 1 ≤ d) (d1 : d ≤ 1000)  :
    Calls Tryz.prog 109 #[.agg #[.int .i64 (P : Int), .int .i64 c, .int .i64 h, .int .i64 s], tv (P : Int) f1 f2 B, .iface 155 (.agg #[.int .i64 k, .int .i64 d])] w fun e w' => e = .returned (.bool (openB P ys (k - d))) ∧ Below w.heap.size w w' := by
  obtain ⟨BV, BT, hb, hz⟩ := two_new w #[.int .i64 (P : Int), .int .i64 c, .int .i64 h, .int .i64 s] #[.int .i64 (P : Int), fv f1 B, fv f2 B] 25 109
  obtain ⟨z0, z1, z2, zf, zl⟩ := BT.tri
  have hf := fun W (hW : Below w.heap.size w W) => farthest_any (P : Int) f1 f2 B f1 B xs W (by omega) (by omega) (by omega) hx (q1.below hW)
  have lb := lastL_bound xs xs.length
  obtain ⟨L, hL⟩ : ∃ L, lastL xs xs.length = L := ⟨_, rfl⟩
  rw [hL] at hf lb 
  have HF := Lib.hid hf
  have lb0 : -1 ≤ L := lb.1
  have lb1 : L ≤ (P : Int) := by omega
  clear hf lb hL
  have ta := ta_entering_entering
  have tb := ta_entering_moving
  have tc := ta_entering_bearingOff
  have HO0 := fun W (hW : Below w.heap.size w W) => isOpen_any P f1 f2 B ys (k - d) W p1 n2 hy (q2.below hW)
  obtain ⟨O, hO⟩ : ∃ O, openB P ys (k - d) = O := ⟨_, rfl⟩
  rw [hO] at HO0 ⊢
  have HO := Lib.hid HO0
  clear hO HO0
  go_enter Tryz.func109, Tryz.ntmps109
  go_wp2_with (go_at_call 107; refine (HF.out _ hb).mono ?_; rintro e w5 ⟨rfl, hb5⟩; obtain ⟨x0, x1, x2, x3, xf, xl⟩ := (BV.below hb5).four; obtain ⟨z0, z1, z2, zf, zl⟩ := (BT.below hb5).tri)
  have BM := Blk.new w5 #[.int .i64 k, .int .i64 d] 155
  have ha : Below w5.heap.size w5 (w5.alloc (.cells #[.int .i64 k, .int .i64 d] 155)) := (Below.refl _ _).alloc (Nat.le_refl _) _
  replace BV := (BV.below hb5).below ha
  replace BT := (BT.below hb5).below ha
  replace hb := chain (chain hb hb5) ha
  clear ha x0 x1 x2 x3 xf xl z0 z1 z2 zf zl
  generalize w5.alloc (.cells #[.int .i64 k, .int .i64 d] 155) = v2 at *
  obtain ⟨x0, x1, x2, x3, xf, xl⟩ := BV.four
  obtain ⟨z0, z1, z2, zf, zl⟩ := BT.tri
  obtain ⟨m0, m1, mf, ml⟩ := BM.two
  replace BV := BV.drew
  replace BT := BT.drew
  replace BM := BM.drew
  replace hb := hb.drew
  refine wp_region_held_drew (S := fun w' => w'.cell? ⟨w.heap.size, 0, none⟩ = some (.int .i64 (P : Int)) ∧ w'.cell? ⟨w.heap.size, 1, none⟩ = some (.int .i64 c) ∧ w'.cell? ⟨w.heap.size, 2, none⟩ = some (.int .i64 h) ∧ w'.cell? ⟨w.heap.size, 3, none⟩ = some (.int .i64 s) ∧ w'.cell? ⟨(w.heap.size + 1), 0, none⟩ = some (.int .i64 (P : Int)) ∧ w'.cell? ⟨(w.heap.size + 1), 1, none⟩ = some (fv f1 B) ∧ w'.cell? ⟨(w.heap.size + 1), 2, none⟩ = some (fv f2 B) ∧ w'.cell? ⟨w5.heap.size, 0, none⟩ = some (.int .i64 k) ∧ w'.cell? ⟨w5.heap.size, 1, none⟩ = some (.int .i64 d) ∧ Blk w' w.heap.size #[.int .i64 (P : Int), .int .i64 c, .int .i64 h, .int .i64 s] 25 ∧ Blk w' ((w.heap.size + 1)) #[.int .i64 (P : Int), fv f1 B, fv f2 B] 109 ∧ Blk w' w5.heap.size #[.int .i64 k, .int .i64 d] 155 ∧ Below w.heap.size w w') (by kernel_rfl) ⟨BV.four.1, BV.four.2.1, BV.four.2.2.1, BV.four.2.2.2.1, BT.tri.1, BT.tri.2.1, BT.tri.2.2.1, BM.two.1, BM.two.2.1, BV, BT, BM, hb⟩ (fun hHeld => ?_)
  refine tk 0 20 ?_
  refine tk 1 21 ?_
  refine rdk 2 22 fun K hK => ?_
  go_simp
  -- call
  have BV := hHeld.2.2.2.2.2.2.2.2.2.1
  have BT := hHeld.2.2.2.2.2.2.2.2.2.2.1
  have BM := hHeld.2.2.2.2.2.2.2.2.2.2.2.1
  have hb := hHeld.2.2.2.2.2.2.2.2.2.2.2.2
  clear hHeld
  refine (enterTo_any k d _ k0 (by omega) (by omega) d1).mono ?_
  rintro e wq1 ⟨rfl, hq1⟩
  replace BV := BV.below hq1
  replace BT := BT.below hq1
  replace BM := BM.below hq1
  replace hb := chain hb hq1
  (try go_wp2_with fail)
  refine hko hK (Blk.f4 BV (Blk.f3 BT (Blk.f2 BM ⟨BV, BT, BM, hb⟩))) fun hHeld => ?_
  clear hK K
  refine rdk 3 23 fun K hK => ?_
  go_simp
  -- call
  have BV := hHeld.2.2.2.2.2.2.2.2.2.1
  have BT := hHeld.2.2.2.2.2.2.2.2.2.2.1
  have BM := hHeld.2.2.2.2.2.2.2.2.2.2.2.1
  have hb := hHeld.2.2.2.2.2.2.2.2.2.2.2.2
  clear hHeld
  refine (HO.out _ hb).mono ?_
  rintro e wq2 ⟨rfl, hq2⟩
  replace BV := BV.below hq2
  replace BT := BT.below hq2
  replace BM := BM.below hq2
  replace hb := chain hb hq2
  (try go_wp2_with fail)
  refine hko hK (Blk.f4 BV (Blk.f3 BT (Blk.f2 BM ⟨BV, BT, BM, hb⟩))) fun hHeld => ?_
  clear hK K
  refine tk 4 6 ?_
  refine wpAnyH_done (by kernel_rfl) ?_ _
  have BV := hHeld.2.2.2.2.2.2.2.2.2.1
  have BT := hHeld.2.2.2.2.2.2.2.2.2.2.1
  have BM := hHeld.2.2.2.2.2.2.2.2.2.2.2.1
  have hb := hHeld.2.2.2.2.2.2.2.2.2.2.2.2
  clear hHeld
  go_wp2
  go_ret
  exact ⟨rfl, hb⟩
set_option maxRecDepth 8000 in
set_option maxHeartbeats 1000000 in
theorem allowsMove_any (P : Nat) (c h s : Int) (f1 f2 B : Nat) (xs ys : List Int) (w : World) (p0 : 2 ≤ P) (p1 : P ≤ 24) (n1 : xs.length = P + 1) (n2 : ys.length = P + 1) (hx : ∀ x ∈ xs, 0 ≤ x ∧ x ≤ 1000) (hy : ∀ y ∈ ys, 0 ≤ y ∧ y ≤ 1000) (q1 : Pays f1 B xs w) (q2 : Pays f2 B ys w) (k d : Int) (k0 : 0 ≤ k) (k1 : k ≤ (P : Int)) (d0 : 1 ≤ d) (d1 : d ≤ 1000) (kd : d ≤ k) (kp : k ≠ (P : Int)) :
    Calls Tryz.prog 109 #[.agg #[.int .i64 (P : Int), .int .i64 c, .int .i64 h, .int .i64 s], tv (P : Int) f1 f2 B, .iface 157 (.agg #[.int .i64 k, .int .i64 d])] w fun e w' => e = .returned (.bool (decide (lastL xs xs.length < (P : Int)) && openB P ys (k - d))) ∧ Below w.heap.size w w' := by
  obtain ⟨BV, BT, hb, hz⟩ := two_new w #[.int .i64 (P : Int), .int .i64 c, .int .i64 h, .int .i64 s] #[.int .i64 (P : Int), fv f1 B, fv f2 B] 25 109
  obtain ⟨z0, z1, z2, zf, zl⟩ := BT.tri
  have hf := fun W (hW : Below w.heap.size w W) => farthest_any (P : Int) f1 f2 B f1 B xs W (by omega) (by omega) (by omega) hx (q1.below hW)
  have lb := lastL_bound xs xs.length
  obtain ⟨L, hL⟩ : ∃ L, lastL xs xs.length = L := ⟨_, rfl⟩
  rw [hL] at hf lb ⊢
  have HF := Lib.hid hf
  have lb0 : -1 ≤ L := lb.1
  have lb1 : L ≤ (P : Int) := by omega
  clear hf lb hL
  have ta := ta_moving_entering
  have tb := ta_moving_moving
  have tc := ta_moving_bearingOff
  have HO0 := fun W (hW : Below w.heap.size w W) => isOpen_any P f1 f2 B ys (k - d) W p1 n2 hy (q2.below hW)
  obtain ⟨O, hO⟩ : ∃ O, openB P ys (k - d) = O := ⟨_, rfl⟩
  rw [hO] at HO0 ⊢
  have HO := Lib.hid HO0
  clear hO HO0
  by_cases g1 : L < (P : Int)
  · rw [decide_eq_true g1, Bool.true_and]
    have hd : decide (L < (P : Int)) = true := decide_eq_true g1
    go_enter Tryz.func109, Tryz.ntmps109
    go_wp2_with (go_at_call 107; refine (HF.out _ hb).mono ?_; rintro e w5 ⟨rfl, hb5⟩; obtain ⟨x0, x1, x2, x3, xf, xl⟩ := (BV.below hb5).four; obtain ⟨z0, z1, z2, zf, zl⟩ := (BT.below hb5).tri)
    have BM := Blk.new w5 #[.int .i64 k, .int .i64 d] 157
    have ha : Below w5.heap.size w5 (w5.alloc (.cells #[.int .i64 k, .int .i64 d] 157)) := (Below.refl _ _).alloc (Nat.le_refl _) _
    replace BV := (BV.below hb5).below ha
    replace BT := (BT.below hb5).below ha
    replace hb := chain (chain hb hb5) ha
    clear ha x0 x1 x2 x3 xf xl z0 z1 z2 zf zl
    generalize w5.alloc (.cells #[.int .i64 k, .int .i64 d] 157) = v2 at *
    obtain ⟨x0, x1, x2, x3, xf, xl⟩ := BV.four
    obtain ⟨z0, z1, z2, zf, zl⟩ := BT.tri
    obtain ⟨m0, m1, mf, ml⟩ := BM.two
    replace BV := BV.drew
    replace BT := BT.drew
    replace BM := BM.drew
    replace hb := hb.drew
    refine wp_region_held_drew (S := fun w' => w'.cell? ⟨w.heap.size, 0, none⟩ = some (.int .i64 (P : Int)) ∧ w'.cell? ⟨w.heap.size, 1, none⟩ = some (.int .i64 c) ∧ w'.cell? ⟨w.heap.size, 2, none⟩ = some (.int .i64 h) ∧ w'.cell? ⟨w.heap.size, 3, none⟩ = some (.int .i64 s) ∧ w'.cell? ⟨(w.heap.size + 1), 0, none⟩ = some (.int .i64 (P : Int)) ∧ w'.cell? ⟨(w.heap.size + 1), 1, none⟩ = some (fv f1 B) ∧ w'.cell? ⟨(w.heap.size + 1), 2, none⟩ = some (fv f2 B) ∧ w'.cell? ⟨w5.heap.size, 0, none⟩ = some (.int .i64 k) ∧ w'.cell? ⟨w5.heap.size, 1, none⟩ = some (.int .i64 d) ∧ Blk w' w.heap.size #[.int .i64 (P : Int), .int .i64 c, .int .i64 h, .int .i64 s] 25 ∧ Blk w' ((w.heap.size + 1)) #[.int .i64 (P : Int), fv f1 B, fv f2 B] 109 ∧ Blk w' w5.heap.size #[.int .i64 k, .int .i64 d] 157 ∧ Below w.heap.size w w') (by kernel_rfl) ⟨BV.four.1, BV.four.2.1, BV.four.2.2.1, BV.four.2.2.2.1, BT.tri.1, BT.tri.2.1, BT.tri.2.2.1, BM.two.1, BM.two.2.1, BV, BT, BM, hb⟩ (fun hHeld => ?_)
    refine tk 0 27 ?_
    refine tk 1 28 ?_
    refine tk 2 29 ?_
    refine tk 3 30 ?_
    refine tk 4 31 ?_
    refine tk 5 32 ?_
    refine tk 6 33 ?_
    refine rdk 7 34 fun K hK => ?_
    go_simp
    -- call
    have BV := hHeld.2.2.2.2.2.2.2.2.2.1
    have BT := hHeld.2.2.2.2.2.2.2.2.2.2.1
    have BM := hHeld.2.2.2.2.2.2.2.2.2.2.2.1
    have hb := hHeld.2.2.2.2.2.2.2.2.2.2.2.2
    clear hHeld
    refine (moveTo_any k d _ k0 (by omega) (by omega) d1).mono ?_
    rintro e wq1 ⟨rfl, hq1⟩
    replace BV := BV.below hq1
    replace BT := BT.below hq1
    replace BM := BM.below hq1
    replace hb := chain hb hq1
    (try go_wp2_with fail)
    refine hko hK (Blk.f4 BV (Blk.f3 BT (Blk.f2 BM ⟨BV, BT, BM, hb⟩))) fun hHeld => ?_
    clear hK K
    refine rdk 8 35 fun K hK => ?_
    go_simp
    -- call
    have BV := hHeld.2.2.2.2.2.2.2.2.2.1
    have BT := hHeld.2.2.2.2.2.2.2.2.2.2.1
    have BM := hHeld.2.2.2.2.2.2.2.2.2.2.2.1
    have hb := hHeld.2.2.2.2.2.2.2.2.2.2.2.2
    clear hHeld
    refine (HO.out _ hb).mono ?_
    rintro e wq2 ⟨rfl, hq2⟩
    replace BV := BV.below hq2
    replace BT := BT.below hq2
    replace BM := BM.below hq2
    replace hb := chain hb hq2
    (try go_wp2_with fail)
    refine hko hK (Blk.f4 BV (Blk.f3 BT (Blk.f2 BM ⟨BV, BT, BM, hb⟩))) fun hHeld => ?_
    clear hK K
    refine tk 9 36 ?_
    refine tk 10 6 ?_
    refine wpAnyH_done (by kernel_rfl) ?_ _
    have BV := hHeld.2.2.2.2.2.2.2.2.2.1
    have BT := hHeld.2.2.2.2.2.2.2.2.2.2.1
    have BM := hHeld.2.2.2.2.2.2.2.2.2.2.2.1
    have hb := hHeld.2.2.2.2.2.2.2.2.2.2.2.2
    clear hHeld
    go_wp2
    go_ret
    exact ⟨rfl, hb⟩
  · rw [decide_eq_false g1, Bool.false_and]
    have hd : decide (L < (P : Int)) = false := decide_eq_false g1
    go_enter Tryz.func109, Tryz.ntmps109
    go_wp2_with (go_at_call 107; refine (HF.out _ hb).mono ?_; rintro e w5 ⟨rfl, hb5⟩; obtain ⟨x0, x1, x2, x3, xf, xl⟩ := (BV.below hb5).four; obtain ⟨z0, z1, z2, zf, zl⟩ := (BT.below hb5).tri)
    have BM := Blk.new w5 #[.int .i64 k, .int .i64 d] 157
    have ha : Below w5.heap.size w5 (w5.alloc (.cells #[.int .i64 k, .int .i64 d] 157)) := (Below.refl _ _).alloc (Nat.le_refl _) _
    replace BV := (BV.below hb5).below ha
    replace BT := (BT.below hb5).below ha
    replace hb := chain (chain hb hb5) ha
    clear ha x0 x1 x2 x3 xf xl z0 z1 z2 zf zl
    generalize w5.alloc (.cells #[.int .i64 k, .int .i64 d] 157) = v2 at *
    obtain ⟨x0, x1, x2, x3, xf, xl⟩ := BV.four
    obtain ⟨z0, z1, z2, zf, zl⟩ := BT.tri
    obtain ⟨m0, m1, mf, ml⟩ := BM.two
    replace BV := BV.drew
    replace BT := BT.drew
    replace BM := BM.drew
    replace hb := hb.drew
    refine wp_region_held_drew (S := fun w' => w'.cell? ⟨w.heap.size, 0, none⟩ = some (.int .i64 (P : Int)) ∧ w'.cell? ⟨w.heap.size, 1, none⟩ = some (.int .i64 c) ∧ w'.cell? ⟨w.heap.size, 2, none⟩ = some (.int .i64 h) ∧ w'.cell? ⟨w.heap.size, 3, none⟩ = some (.int .i64 s) ∧ w'.cell? ⟨(w.heap.size + 1), 0, none⟩ = some (.int .i64 (P : Int)) ∧ w'.cell? ⟨(w.heap.size + 1), 1, none⟩ = some (fv f1 B) ∧ w'.cell? ⟨(w.heap.size + 1), 2, none⟩ = some (fv f2 B) ∧ w'.cell? ⟨w5.heap.size, 0, none⟩ = some (.int .i64 k) ∧ w'.cell? ⟨w5.heap.size, 1, none⟩ = some (.int .i64 d) ∧ Blk w' w.heap.size #[.int .i64 (P : Int), .int .i64 c, .int .i64 h, .int .i64 s] 25 ∧ Blk w' ((w.heap.size + 1)) #[.int .i64 (P : Int), fv f1 B, fv f2 B] 109 ∧ Blk w' w5.heap.size #[.int .i64 k, .int .i64 d] 157 ∧ Below w.heap.size w w') (by kernel_rfl) ⟨BV.four.1, BV.four.2.1, BV.four.2.2.1, BV.four.2.2.2.1, BT.tri.1, BT.tri.2.1, BT.tri.2.2.1, BM.two.1, BM.two.2.1, BV, BT, BM, hb⟩ (fun hHeld => ?_)
    refine tk 0 27 ?_
    refine tk 1 28 ?_
    refine tk 2 29 ?_
    refine tk 3 30 ?_
    refine tk 4 31 ?_
    refine tkv 5 32 ?_
    refine tkv 6 33 ?_
    refine tkv 7 34 ?_
    refine tkv 8 35 ?_
    refine tk 9 36 ?_
    refine tk 10 6 ?_
    refine wpAnyH_done (by kernel_rfl) ?_ _
    have BV := hHeld.2.2.2.2.2.2.2.2.2.1
    have BT := hHeld.2.2.2.2.2.2.2.2.2.2.1
    have BM := hHeld.2.2.2.2.2.2.2.2.2.2.2.1
    have hb := hHeld.2.2.2.2.2.2.2.2.2.2.2.2
    clear hHeld
    go_wp2
    go_ret
    exact ⟨rfl, hb⟩
end Go.Proofs.YtciljbnailobgaaGreat
