/- Texts of a proof, laid together. -/
import Derived.Test.YtciljbnailobgaaGreatV22
import Derived.Test.YtciljbnailobgaaGreatV25
import Derived.Test.YtciljbnailobgaaGreatV26
namespace Go.Proofs.YtciljbnailobgaaGreat
open Go.ChangeShapes Go.WideShapes Go.ChangeAt Go.RowKit
set_option linter.unusedVariables false
set_option linter.unusedSimpArgs false
def StepsGot2 (l : List Stp) (r : Int) (w : World) (e : Ending) (w' : World) : Prop :=
  ∃ a k, e = .returned (.tuple #[.slice a l.length k, .int .i64 r]) ∧ OSt w.heap.size w'.heap.size w' a l ∧ Below w.heap.size w w'
end Go.Proofs.YtciljbnailobgaaGreat
namespace Go.Proofs.YtciljbnailobgaaGreat
open Go.ChangeShapes Go.WideShapes Go.ChangeAt Go.RowKit
set_option linter.unusedVariables false
set_option linter.unusedSimpArgs false
set_option maxRecDepth 4000
set_option maxRecDepth 8000 in
set_option maxHeartbeats 2000000 in
theorem l04IsLegal_any (P : Nat) (c h s : Int) (a1 a2 : Option Addr) (n1 n2 c1 c2 : Nat) (xs ys : List Int) (w : World) (h1 : xs.length = n1) (h2 : ys.length = n2) (p0 : 2 ≤ P) (p1 : P ≤ 24) (N1 : xs.length = P + 1) (N2 : ys.length = P + 1) (hh0 : 1 ≤ h) (hh : h ≤ (P : Int)) (hx : ∀ x ∈ xs, 0 ≤ x ∧ x ≤ 1000) (hy : ∀ y ∈ ys, 0 ≤ y ∧ y ≤ 1000) (r1 : IRow w a1 xs) (r2 : IRow w a2 ys) (s6 : s ≤ 6) (t : Stp) :
    Calls Tryz.prog 39 #[.agg #[.int .i64 (P : Int), .int .i64 c, .int .i64 h, .int .i64 s], .agg #[.slice a1 n1 c1, .slice a2 n2 c2], stV t] w fun e w' => e = .returned (.bool (legB P h s xs ys t)) ∧ Below w.heap.size w w' := by
  rw [legB_S]
  obtain ⟨ta, tb, td, tq⟩ := t
  dsimp only
  obtain ⟨BV, BB, BS, hb, hz⟩ := three_new w #[.int .i64 (P : Int), .int .i64 c, .int .i64 h, .int .i64 s] #[.slice a1 n1 c1, .slice a2 n2 c2] #[.int .i64 ta, .int .i64 tb, .int .i64 td, .bool tq] 25 28 55
  obtain ⟨x0, x1, x2, x3, xf, xl⟩ := BV.four
  obtain ⟨y0, y1, yf, yl⟩ := BB.two
  obtain ⟨s0, s1, s2, s3, sf, sl⟩ := BS.four
  have hi1 := fun W => l01In_any td 1 s W
  have hi2 := fun W => l01In_any ta 0 (P : Int) W
  cases g1 : inB td 1 s with
  | false =>
    rw [g1] at hi1
    rw [Bool.false_and]
    have HI := Lib.hid hi1
    clear hi1 hi2
    go_enter Tryz.func39, Tryz.ntmps39
    go_wp2_with (go_at_call 37; refine (HI.out _).mono ?_; rintro e w2 ⟨rfl, rfl⟩)
    go_ret
    exact ⟨rfl, hb⟩
  | true =>
    rw [g1] at hi1
    rw [Bool.true_and]
    have g1' : 1 ≤ td ∧ td ≤ s := by simpa [inB] using g1
    cases g2 : inB ta 0 (P : Int) with
    | false =>
      rw [g2] at hi2
      rw [Bool.false_and]
      have HI := Lib.hid hi1
      have HI2 := Lib.hid hi2
      clear hi1 hi2
      go_enter Tryz.func39, Tryz.ntmps39
      go_wp2_with (go_at_call 37; with_reducible first | (refine (HI.out _).mono ?_; rintro e w2 ⟨rfl, rfl⟩) | (refine (HI2.out _).mono ?_; rintro e w3 ⟨rfl, rfl⟩))
      go_ret
      exact ⟨rfl, hb⟩
    | true =>
      rw [g2] at hi2
      rw [Bool.true_and]
      have g2' : 0 ≤ ta ∧ ta ≤ (P : Int) := by simpa [inB] using g2
      obtain ⟨k, rfl⟩ := Int.eq_ofNat_of_zero_le g2'.1
      rw [show (k : Int).toNat = k by simp]
      have hs0 := fun W (hW : Below w.heap.size w W) => l04Step_any P c h s a1 a2 n1 n2 c1 c2 xs ys W h1 h2 p0 p1 N1 N2 hh0 hh hx hy (r1.below hW) (r2.below hW) k td (by omega) g1'.1 (by omega)
      obtain ⟨r, hr0⟩ : ∃ r, stepS P h xs ys k td = r := ⟨_, rfl⟩
      rw [hr0] at hs0 ⊢
      have HI := Lib.hid hi1
      have HI2 := Lib.hid hi2
      have HS := Lib.hid hs0
      clear hi1 hi2 hs0 hr0 g1 g2
      go_enter Tryz.func39, Tryz.ntmps39
      go_wp2_with (first | (go_at_call 37; with_reducible first | (refine (HI.out _).mono ?_; rintro e w2 ⟨rfl, rfl⟩) | (refine (HI2.out _).mono ?_; rintro e w3 ⟨rfl, rfl⟩)) | (go_at_call 65; refine (HS.out _ hb).mono ?_; rintro e w4 ⟨x, ok, rfl, hr, hb4⟩; obtain ⟨e1, e2, e3, e4⟩ := x; obtain ⟨s0, s1, s2, s3, sf, sl⟩ := (BS.below hb4).four))
      all_goals (go_ret; refine ⟨?_, (chain hb hb4).alloc (chain hb hb4).size _⟩; clear HI HI2 HS hb4 hb r1 r2 BV BB BS hx hy; first | (simp [hr]; done) | (simp [hr, *]; done) | (simp_all; done))
def BoardGotN (xs ys : List Int) (r : Int) (w : World) (e : Ending) (w' : World) : Prop :=
  ∃ a1 a2 k1 k2, e = .returned (.tuple #[.agg #[.slice a1 xs.length k1, .slice a2 ys.length k2], .int .i64 r]) ∧ OBd w.heap.size w'.heap.size w' a1 a2 xs ys ∧ Below w.heap.size w w'
def asX (p c h s : Int) (xs ys : List Int) (t : Stp) : List Int := if isB p c h s xs ys = true then (if legB p.toNat h s xs ys t = true then mvX xs t.1 t.2.1 1 else []) else []
def asY (p c h s : Int) (xs ys : List Int) (t : Stp) : List Int := if isB p c h s xs ys = true then (if legB p.toNat h s xs ys t = true then mvY p.toNat ys t.2.1 t.2.2.2 1 else []) else []
def asR (p c h s : Int) (xs ys : List Int) (t : Stp) : Int := if isB p c h s xs ys = true then (if legB p.toNat h s xs ys t = true then 0 else 5) else 1
def lsL (p c h s : Int) (xs ys : List Int) (d : Int) : List Stp := if isB p c h s xs ys = true then (if inB d 1 s = true then legL p.toNat h xs ys d else []) else []
def lsR (p c h s : Int) (xs ys : List Int) (d : Int) : Int := if isB p c h s xs ys = true then (if inB d 1 s = true then 0 else 2) else 1
set_option maxRecDepth 8000 in
set_option maxHeartbeats 2000000 in
theorem specLegalSteps_any (d : Int) (p c h s : Int) (a1 a2 : Option Addr) (n1 n2 c1 c2 : Nat) (xs ys : List Int) (w : World) (h1 : xs.length = n1) (h2 : ys.length = n2) (l1 : n1 ≤ 1048576) (l2 : n2 ≤ 1048576) (r1 : IRow w a1 xs) (r2 : IRow w a2 ys) :
    Calls Tryz.prog 17 #[.agg #[.int .i64 p, .int .i64 c, .int .i64 h, .int .i64 s], .agg #[.slice a1 n1 c1, .slice a2 n2 c2], .int .i64 d] w (StepsGot2 (lsL p c h s xs ys d) (lsR p c h s xs ys d) w) := by
  obtain ⟨BV, BB, hb, hz⟩ := two_new w #[.int .i64 p, .int .i64 c, .int .i64 h, .int .i64 s] #[.slice a1 n1 c1, .slice a2 n2 c2] 25 28
  have hz1 : w.heap.size + 1 < ((w.alloc (.cells #[.int .i64 p, .int .i64 c, .int .i64 h, .int .i64 s] 25)).alloc (.cells #[.slice a1 n1 c1, .slice a2 n2 c2] 28)).heap.size := by rw [hz]; omega
  clear hz
  obtain ⟨x0, x1, x2, x3, xf, xl⟩ := BV.four
  obtain ⟨y0, y1, yf, yl⟩ := BB.two
  unfold lsL lsR
  by_cases g : isB p c h s xs ys = true
  · rw [if_pos g, if_pos g]
    obtain ⟨p0, p1, k0, k1, k2, k3, N1, N2, hx, hy, s0, s1, s2, s3⟩ := isB_parts g
    obtain ⟨P, rfl⟩ := Int.eq_ofNat_of_zero_le (by omega : 0 ≤ p)
    rw [show (P : Int).toNat = P by simp]
    have hB := fun W (q1 : IRow W a1 xs) (q2 : IRow W a2 ys) => specIsBoard_any (P : Int) c h s a1 a2 n1 n2 c1 c2 xs ys W h1 h2 l1 l2 q1 q2
    simp only [g] at hB
    have HB := Lib.hid hB
    clear hB
    have hd0 := fun W => l01In_any d 1 s W
    have hs6 := isB_sides g
    cases gi : inB d 1 s with
    | true =>
      have gi' : 1 ≤ d ∧ d ≤ s := by simpa [inB] using gi
      rw [gi] at hd0
      rw [if_pos rfl, if_pos rfl]
      have HD := Lib.hid hd0
      have hL0 := fun W (hW : Below w.heap.size w W) => l04Legal_any P c h s a1 a2 n1 n2 c1 c2 xs ys W h1 h2 (by omega) (by omega) (by omega) (by omega) (by omega) (by omega) hx hy (r1.below hW) (r2.below hW) d (by omega) (by omega)
      obtain ⟨L, hL⟩ : ∃ L, legL P h xs ys d = L := ⟨_, rfl⟩
      rw [hL] at hL0 ⊢
      have HL := Lib.hid hL0
      clear hd0 gi hL hL0
      go_enter Tryz.func17, Tryz.ntmps17
      go_wp2_with (first | (go_at_call 36; refine (HB.out _ (r1.below hb) (r2.below hb)).mono ?_; rintro e w1 ⟨rfl, hb1⟩; obtain ⟨x0, x1, x2, x3, xf, xl⟩ := (BV.below hb1).four; obtain ⟨y0, y1, yf, yl⟩ := (BB.below hb1).two) | (go_at_call 37; refine (HD.out _).mono ?_; rintro e w2 ⟨rfl, rfl⟩) | (go_at_call 38; refine (HL.out _ (chain hb hb1)).mono ?_; rintro e w3 ⟨aL, kL, rfl, OL, hb3⟩))
      refine bodyPost_ret (v := .tuple #[.slice aL L.length kL, .int .i64 0]) (by simp [results, Tryz.results17, go_sem]) rfl ?_
      exact ⟨aL, kL, rfl, OL.mono (chain hb hb1).size (Nat.le_refl _), chain (chain hb hb1) hb3⟩
    | false =>
      rw [gi] at hd0
      rw [if_neg (by simp), if_neg (by simp)]
      have HD := Lib.hid hd0
      clear hd0 gi
      go_enter Tryz.func17, Tryz.ntmps17
      go_wp2_with (first | (go_at_call 36; refine (HB.out _ (r1.below hb) (r2.below hb)).mono ?_; rintro e w1 ⟨rfl, hb1⟩; obtain ⟨x0, x1, x2, x3, xf, xl⟩ := (BV.below hb1).four; obtain ⟨y0, y1, yf, yl⟩ := (BB.below hb1).two) | (go_at_call 37; refine (HD.out _).mono ?_; rintro e w2 ⟨rfl, rfl⟩))
      refine bodyPost_ret (v := .tuple #[.slice (some ⟨w1.heap.size, 0, none⟩) 0 0, .int .i64 2]) (by simp [results, Tryz.results17, go_sem]) rfl ?_
      exact ⟨_, _, rfl, OSt.new _ _ (chain hb hb1).size, (chain hb hb1).alloc (chain hb hb1).size _⟩
  · rw [if_neg g, if_neg g]
    replace g : isB p c h s xs ys = false := by simpa using g
    have hB := fun W (q1 : IRow W a1 xs) (q2 : IRow W a2 ys) => specIsBoard_any p c h s a1 a2 n1 n2 c1 c2 xs ys W h1 h2 l1 l2 q1 q2
    simp only [g] at hB
    have HB := Lib.hid hB
    clear hB
    go_enter Tryz.func17, Tryz.ntmps17
    go_wp2_with (go_at_call 36; refine (HB.out _ (r1.below hb) (r2.below hb)).mono ?_; rintro e w1 ⟨rfl, hb1⟩; obtain ⟨x0, x1, x2, x3, xf, xl⟩ := (BV.below hb1).four; obtain ⟨y0, y1, yf, yl⟩ := (BB.below hb1).two)
    refine bodyPost_ret (v := .tuple #[.slice (some ⟨w1.heap.size, 0, none⟩) 0 0, .int .i64 1]) (by simp [results, Tryz.results17, go_sem]) rfl ?_
    exact ⟨_, _, rfl, OSt.new _ _ (chain hb hb1).size, (chain hb hb1).alloc (chain hb hb1).size _⟩
set_option maxRecDepth 8000 in
set_option maxHeartbeats 4000000 in
theorem specApplyStep_any (t : Stp) (p c h s : Int) (a1 a2 : Option Addr) (n1 n2 c1 c2 : Nat) (xs ys : List Int) (w : World) (h1 : xs.length = n1) (h2 : ys.length = n2) (l1 : n1 ≤ 1048576) (l2 : n2 ≤ 1048576) (r1 : IRow w a1 xs) (r2 : IRow w a2 ys) :
    Calls Tryz.prog 18 #[.agg #[.int .i64 p, .int .i64 c, .int .i64 h, .int .i64 s], .agg #[.slice a1 n1 c1, .slice a2 n2 c2], stV t] w (BoardGotN (asX p c h s xs ys t) (asY p c h s xs ys t) (asR p c h s xs ys t) w) := by
  unfold asX asY asR
  by_cases g : isB p c h s xs ys = true
  · rw [if_pos g, if_pos g, if_pos g]
    obtain ⟨p0, p1, k0, k1, k2, k3, N1, N2, hx, hy, s0, s1, s2, s3⟩ := isB_parts g
    obtain ⟨P, rfl⟩ := Int.eq_ofNat_of_zero_le (by omega : 0 ≤ p)
    rw [show (P : Int).toNat = P by simp]
    have hs6 := isB_sides g
    have hB := fun W (q1 : IRow W a1 xs) (q2 : IRow W a2 ys) => specIsBoard_any (P : Int) c h s a1 a2 n1 n2 c1 c2 xs ys W h1 h2 l1 l2 q1 q2
    simp only [g] at hB
    have HB := Lib.hid hB
    clear hB
    have hl0 := fun W (hW : Below w.heap.size w W) => l04IsLegal_any P c h s a1 a2 n1 n2 c1 c2 xs ys W h1 h2 (by omega) (by omega) (by omega) (by omega) (by omega) (by omega) hx hy (r1.below hW) (r2.below hW) (by omega) t
    cases gl : legB P h s xs ys t with
    | true =>
      rw [if_pos rfl, if_pos rfl, if_pos rfl]
      rw [gl] at hl0
      have hm0 := fun W (hW : Below w.heap.size w W) => l04Apply_any P c h s a1 a2 n1 n2 c1 c2 xs ys W h1 h2 (by omega) (by omega) (by omega) (by omega) (by omega) (by omega) hx hy (r1.below hW) (r2.below hW) t gl
      obtain ⟨X, hX⟩ : ∃ X, mvX xs t.1 t.2.1 1 = X := ⟨_, rfl⟩
      obtain ⟨Y, hY⟩ : ∃ Y, mvY P ys t.2.1 t.2.2.2 1 = Y := ⟨_, rfl⟩
      rw [hX, hY] at hm0
      rw [hX, hY]
      obtain ⟨ta, tb, td, tq⟩ := t
      have HL := Lib.hid hl0
      have HM := Lib.hid hm0
      clear hl0 hm0 hX hY gl
      obtain ⟨BV, BB, BS, BR, hb, hz⟩ := four_new w #[.int .i64 (P : Int), .int .i64 c, .int .i64 h, .int .i64 s] #[.slice a1 n1 c1, .slice a2 n2 c2] #[.int .i64 ta, .int .i64 tb, .int .i64 td, .bool tq] #[.slice none 0 0, .slice none 0 0] 25 28 55 28
      obtain ⟨x0, x1, x2, x3, xf, xl⟩ := BV.four
      obtain ⟨y0, y1, yf, yl⟩ := BB.two
      obtain ⟨s0, s1, s2, s3, sf, sl⟩ := BS.four
      obtain ⟨u0, u1, uf, ul⟩ := BR.two
      go_enter Tryz.func18, Tryz.ntmps18
      go_wp2_with (first | (go_at_call 36; refine (HB.out _ (r1.below hb) (r2.below hb)).mono ?_; rintro e w1 ⟨rfl, hb1⟩; obtain ⟨x0, x1, x2, x3, xf, xl⟩ := (BV.below hb1).four; obtain ⟨y0, y1, yf, yl⟩ := (BB.below hb1).two; obtain ⟨s0, s1, s2, s3, sf, sl⟩ := (BS.below hb1).four; obtain ⟨u0, u1, uf, ul⟩ := (BR.below hb1).two) | (go_at_call 39; refine (HL.out _ (chain hb hb1)).mono ?_; rintro e w3 ⟨rfl, hb3⟩; obtain ⟨x0, x1, x2, x3, xf, xl⟩ := (BV.below (chain hb1 hb3)).four; obtain ⟨y0, y1, yf, yl⟩ := (BB.below (chain hb1 hb3)).two; obtain ⟨s0, s1, s2, s3, sf, sl⟩ := (BS.below (chain hb1 hb3)).four; obtain ⟨u0, u1, uf, ul⟩ := (BR.below (chain hb1 hb3)).two) | (go_at_call 40; refine (HM.out _ (chain hb (chain hb1 hb3))).mono ?_; rintro e w4 ⟨d1, d2, k1, k2, rfl, O4, hb4⟩; obtain ⟨x0, x1, x2, x3, xf, xl⟩ := (BV.below (chain hb1 (chain hb3 hb4))).four; obtain ⟨y0, y1, yf, yl⟩ := (BB.below (chain hb1 (chain hb3 hb4))).two; obtain ⟨s0, s1, s2, s3, sf, sl⟩ := (BS.below (chain hb1 (chain hb3 hb4))).four; obtain ⟨u0, u1, uf, ul⟩ := (BR.below (chain hb1 (chain hb3 hb4))).two))
      have hbz := chain hb (chain hb1 (chain hb3 hb4))
      have hsz := (chain hb (chain hb1 hb3)).size
      have hszb := (chain hb1 hb3).size
      refine bodyPost_ret (v := .tuple #[.agg #[.slice d1 X.length k1, .slice d2 Y.length k2], .int .i64 0]) (by first | (simp [results, Tryz.results18, go_sem, u0, u1]; done) | (simp [results, Tryz.results18, go_sem, *]; done)) rfl ?_
      refine ⟨d1, d2, k1, k2, rfl, ?_, (hbz.setCell (by simp; omega) _).setCell (by simp; omega) _⟩
      rcases O4 with h | ⟨g1, g2, e1, e2, hne, b1, b2, b3, b4, q1, q2⟩
      · exact .inl h
      · exact .inr ⟨g1, g2, e1, e2, hne, by omega, by simpa using q1.lt, by omega, by simpa using q2.lt, (q1.other (by omega)).other (by omega), (q2.other (by omega)).other (by omega)⟩
    | false =>
      rw [if_neg (by simp), if_neg (by simp), if_neg (by simp)]
      rw [gl] at hl0
      obtain ⟨ta, tb, td, tq⟩ := t
      have HL := Lib.hid hl0
      clear hl0 gl
      obtain ⟨BV, BB, BS, BR, hb, hz⟩ := four_new w #[.int .i64 (P : Int), .int .i64 c, .int .i64 h, .int .i64 s] #[.slice a1 n1 c1, .slice a2 n2 c2] #[.int .i64 ta, .int .i64 tb, .int .i64 td, .bool tq] #[.slice none 0 0, .slice none 0 0] 25 28 55 28
      obtain ⟨x0, x1, x2, x3, xf, xl⟩ := BV.four
      obtain ⟨y0, y1, yf, yl⟩ := BB.two
      obtain ⟨s0, s1, s2, s3, sf, sl⟩ := BS.four
      obtain ⟨u0, u1, uf, ul⟩ := BR.two
      go_enter Tryz.func18, Tryz.ntmps18
      go_wp2_with (first | (go_at_call 36; refine (HB.out _ (r1.below hb) (r2.below hb)).mono ?_; rintro e w1 ⟨rfl, hb1⟩; obtain ⟨x0, x1, x2, x3, xf, xl⟩ := (BV.below hb1).four; obtain ⟨y0, y1, yf, yl⟩ := (BB.below hb1).two; obtain ⟨s0, s1, s2, s3, sf, sl⟩ := (BS.below hb1).four; obtain ⟨u0, u1, uf, ul⟩ := (BR.below hb1).two) | (go_at_call 39; refine (HL.out _ (chain hb hb1)).mono ?_; rintro e w3 ⟨rfl, hb3⟩; obtain ⟨x0, x1, x2, x3, xf, xl⟩ := (BV.below (chain hb1 hb3)).four; obtain ⟨y0, y1, yf, yl⟩ := (BB.below (chain hb1 hb3)).two; obtain ⟨s0, s1, s2, s3, sf, sl⟩ := (BS.below (chain hb1 hb3)).four; obtain ⟨u0, u1, uf, ul⟩ := (BR.below (chain hb1 hb3)).two))
      refine bodyPost_ret (v := .tuple #[.agg #[.slice none 0 0, .slice none 0 0], .int .i64 5]) (by first | (simp [results, Tryz.results18, go_sem, u0, u1]; done) | (simp [results, Tryz.results18, go_sem, *]; done)) rfl ?_
      exact ⟨none, none, 0, 0, rfl, .inl ⟨rfl, rfl, rfl, rfl⟩, ((chain hb (chain hb1 hb3)).setCell (by simp; omega) _).setCell (by simp; omega) _⟩
  · rw [if_neg g, if_neg g, if_neg g]
    replace g : isB p c h s xs ys = false := by simpa using g
    obtain ⟨ta, tb, td, tq⟩ := t
    have hB := fun W (q1 : IRow W a1 xs) (q2 : IRow W a2 ys) => specIsBoard_any p c h s a1 a2 n1 n2 c1 c2 xs ys W h1 h2 l1 l2 q1 q2
    simp only [g] at hB
    have HB := Lib.hid hB
    clear hB
    obtain ⟨BV, BB, BS, BR, hb, hz⟩ := four_new w #[.int .i64 p, .int .i64 c, .int .i64 h, .int .i64 s] #[.slice a1 n1 c1, .slice a2 n2 c2] #[.int .i64 ta, .int .i64 tb, .int .i64 td, .bool tq] #[.slice none 0 0, .slice none 0 0] 25 28 55 28
    obtain ⟨x0, x1, x2, x3, xf, xl⟩ := BV.four
    obtain ⟨y0, y1, yf, yl⟩ := BB.two
    obtain ⟨s0, s1, s2, s3, sf, sl⟩ := BS.four
    obtain ⟨u0, u1, uf, ul⟩ := BR.two
    go_enter Tryz.func18, Tryz.ntmps18
    go_wp2_with (go_at_call 36; refine (HB.out _ (r1.below hb) (r2.below hb)).mono ?_; rintro e w1 ⟨rfl, hb1⟩; obtain ⟨x0, x1, x2, x3, xf, xl⟩ := (BV.below hb1).four; obtain ⟨y0, y1, yf, yl⟩ := (BB.below hb1).two; obtain ⟨s0, s1, s2, s3, sf, sl⟩ := (BS.below hb1).four; obtain ⟨u0, u1, uf, ul⟩ := (BR.below hb1).two)
    refine bodyPost_ret (v := .tuple #[.agg #[.slice none 0 0, .slice none 0 0], .int .i64 1]) (by first | (simp [results, Tryz.results18, go_sem, u0, u1]; done) | (simp [results, Tryz.results18, go_sem, *]; done)) rfl ?_
    exact ⟨none, none, 0, 0, rfl, .inl ⟨rfl, rfl, rfl, rfl⟩, ((chain hb hb1).setCell (by simp; omega) _).setCell (by simp; omega) _⟩
end Go.Proofs.YtciljbnailobgaaGreat
namespace Go.Proofs.YtciljbnailobgaaGreat
set_option linter.unusedVariables false
theorem mem_legTo {P : Nat} {h : Int} {xs ys : List Int} {d : Int} {t : Stp} {k : Nat} (e : stepI P h xs ys k d = some t) : ∀ n, k < n → t ∈ legTo P h xs ys d n
  | 0, hk => by omega
  | n + 1, hk => by
    rw [legTo, List.mem_append]
    by_cases q : k = n
    · subst q
      exact .inl (by simp [e])
    · exact .inr (mem_legTo e n (by omega))
theorem leg_legL {P : Nat} {h s : Int} {xs ys : List Int} {t : Stp} (ht : legB P h s xs ys t = true) : t ∈ legL P h xs ys t.2.2.1 := by
  rw [legB_S] at ht
  simp only [Bool.and_eq_true, decide_eq_true_eq] at ht
  obtain ⟨-, h1, h2⟩ := ht
  unfold stepS at h2
  unfold legL
  split at h2
  · simp at h2
  · rename_i ho
    rw [if_neg ho]
    rw [inB_iff] at h1
    exact mem_legTo h2 _ (by omega)
theorem addP_has {out : List Ply} {p : Ply} : ∃ q ∈ addP out p, q.2 = p.2 := by
  unfold addP
  split
  · rename_i h
    rw [List.any_eq_true] at h
    obtain ⟨q, hq, e⟩ := h
    exact ⟨q, hq, by simpa using e⟩
  · exact ⟨p, by simp, rfl⟩
theorem addP_sub {out : List Ply} {p q : Ply} (h : q ∈ out) : q ∈ addP out p := by
  unfold addP
  split
  · exact h
  · exact List.mem_append_left _ h
theorem addAll_sub : ∀ (l out : List Ply) {q : Ply}, q ∈ out → q ∈ addAll out l
  | [], out, q, h => h
  | x :: l, out, q, h => addAll_sub l (addP out x) (addP_sub h)
theorem addAll_has : ∀ (l out : List Ply) {p : Ply}, p ∈ l → ∃ q ∈ addAll out l, q.2 = p.2
  | x :: l, out, p, h => by
    rcases List.mem_cons.1 h with rfl | h
    · obtain ⟨q, hq, e⟩ := addP_has (out := out) (p := p)
      exact ⟨q, addAll_sub l _ hq, e⟩
    · exact addAll_has l (addP out x) h
theorem folN_long (P : Nat) (h s : Int) : ∀ (o : List Int) (ts : List Stp) (b r : List Int × List Int) (l : List Ply), folN P h s o ts b = some r → (∃ q ∈ l, q.2 = b) → ts.length ≤ longN P h o l
  | o, [], b, r, l, _, _ => by simp
  | [], t :: ts, b, r, l, e, _ => by simp [folN] at e
  | o :: os, t :: ts, b, r, l, e, ⟨q, hq, hb⟩ => by
    rw [folN] at e
    split at e
    · rename_i hc
      obtain ⟨h1, h2⟩ := hc
      have h3 := leg_legL h2
      rw [h1, ← hb] at h3
      have h4 : oneMore P q t ∈ l.flatMap (cand P h o) := List.mem_flatMap.2 ⟨q, hq, List.mem_map.2 ⟨t, h3, rfl⟩⟩
      obtain ⟨q', hq', e'⟩ := addAll_has (l.flatMap (cand P h o)) [] h4
      have h5 : ∃ q ∈ nextP P h o l, q.2 = (mvX b.1 t.1 t.2.1 1, mvY P b.2 t.2.1 t.2.2.2 1) := ⟨q', hq', by rw [e', ← hb]; rfl⟩
      have h6 := folN_long P h s os ts _ r (nextP P h o l) e h5
      rw [longN, if_neg (by obtain ⟨q, hq, -⟩ := h5; rintro e; rw [e] at hq; simp at hq)]
      simp only [List.length_cons]
      omega
    · simp at e
theorem folN_used {P : Nat} {h s : Int} {xs ys : List Int} {o : List Int} {ts : List Stp} {r : List Int × List Int} (e : folN P h s o ts (xs, ys) = some r) : ts.length ≤ longN P h o (startP xs ys) :=
  folN_long P h s o ts (xs, ys) r _ e ⟨([], xs, ys), by simp [startP], rfl⟩
theorem longN_used (P : Nat) (h : Int) (xs ys : List Int) (ra rb : Int) : ∀ o ∈ ordersP ra rb, longN P h o (startP xs ys) ≤ usedP P h xs ys ra rb := by
  intro o ho
  unfold usedP
  unfold ordersP at ho ⊢
  split at ho
  · rename_i e
    simp only [List.mem_cons, List.not_mem_nil, or_false] at ho
    subst ho
    rw [if_pos e]
    simp only [List.map_cons, List.map_nil, List.foldl_cons, List.foldl_nil]
    omega
  · rename_i e
    simp only [List.mem_cons, List.not_mem_nil, or_false] at ho
    rw [if_neg e]
    simp only [List.map_cons, List.map_nil, List.foldl_cons, List.foldl_nil]
    rcases ho with rfl | rfl <;> omega
end Go.Proofs.YtciljbnailobgaaGreat
namespace Go.Proofs.YtciljbnailobgaaGreat
open Go.ChangeShapes Go.WideShapes Go.ChangeAt Go.RowKit
set_option linter.unusedVariables false
set_option linter.unusedSimpArgs false
set_option maxRecDepth 4000
set_option maxRecDepth 8000 in
set_option maxHeartbeats 1000000 in
theorem specDiceUsed_any (ra rb : Int) (p c h s : Int) (a1 a2 : Option Addr) (n1 n2 c1 c2 : Nat) (xs ys : List Int) (w : World) (h1 : xs.length = n1) (h2 : ys.length = n2) (l1 : n1 ≤ 1048576) (l2 : n2 ≤ 1048576) (r1 : IRow w a1 xs) (r2 : IRow w a2 ys) :
    Calls Tryz.prog 16 #[.agg #[.int .i64 p, .int .i64 c, .int .i64 h, .int .i64 s], .agg #[.slice a1 n1 c1, .slice a2 n2 c2], .agg #[.int .i64 ra, .int .i64 rb]] w fun e w' => e = .returned (duV p c h s xs ys ra rb) ∧ Below w.heap.size w w' := by
  have hC := fun W (q1 : IRow W a1 xs) (q2 : IRow W a2 ys) => l05Code_any ra rb p c h s a1 a2 n1 n2 c1 c2 xs ys W h1 h2 l1 l2 q1 q2
  unfold codeB at hC
  unfold duV
  by_cases g : isB p c h s xs ys = true
  · rw [if_pos g]
    rw [if_pos g] at hC
    obtain ⟨p0, p1, k0, k1, k2, k3, N1, N2, hx, hy, s0, s1, s2, s3⟩ := isB_parts g
    clear hx hy
    obtain ⟨P, rfl⟩ := Int.eq_ofNat_of_zero_le (by omega : 0 ≤ p)
    rw [show ((P : Int)).toNat = P by simp]
    obtain ⟨BV, BB, BR, hb, hz⟩ := three_new w #[.int .i64 (P : Int), .int .i64 c, .int .i64 h, .int .i64 s] #[.slice a1 n1 c1, .slice a2 n2 c2] #[.int .i64 ra, .int .i64 rb] 25 28 30
    clear hz
    obtain ⟨x0, x1, x2, x3, xf, xl⟩ := BV.four
    obtain ⟨y0, y1, yf, yl⟩ := BB.two
    obtain ⟨z0, z1, zf, zl⟩ := BR.two
    by_cases e : rlB s ra rb = true
    · rw [if_pos e] at hC
      rw [if_pos e]
      obtain ⟨e1, e2⟩ := rlB_two e
      have hU := fun W (q1 : IRow W a1 xs) (q2 : IRow W a2 ys) => l05Used_any P c h s ra rb a1 a2 n1 n2 c1 c2 xs ys W h1 h2 q1 q2 g e1 e2
      have HU := Lib.hid hU
      have HC := Lib.hid hC
      clear hU hC e e1 e2 g
      go_enter Tryz.func16, Tryz.ntmps16
      go_wp2_with (first | (go_at_call 24; refine (HC.out _ (r1.below hb) (r2.below hb)).mono ?_; clear HC; rintro e w1 ⟨rfl, hb1⟩; obtain ⟨x0, x1, x2, x3, xf, xl⟩ := (BV.below hb1).four; obtain ⟨y0, y1, yf, yl⟩ := (BB.below hb1).two; obtain ⟨z0, z1, zf, zl⟩ := (BR.below hb1).two) | (go_at_call 35; refine (HU.out _ (r1.below (chain hb hb1)) (r2.below (chain hb hb1))).mono ?_; rintro e w2 ⟨rfl, hb2⟩))
      go_ret2
      exact ⟨rfl, chain (chain hb hb1) hb2⟩
    · rw [if_neg e] at hC
      rw [if_neg e]
      have HC := Lib.hid hC
      clear hC e g
      go_enter Tryz.func16, Tryz.ntmps16
      go_wp2_with (first | (go_at_call 24; refine (HC.out _ (r1.below hb) (r2.below hb)).mono ?_; clear HC; rintro e w1 ⟨rfl, hb1⟩; obtain ⟨x0, x1, x2, x3, xf, xl⟩ := (BV.below hb1).four; obtain ⟨y0, y1, yf, yl⟩ := (BB.below hb1).two; obtain ⟨z0, z1, zf, zl⟩ := (BR.below hb1).two))
      go_ret2
      exact ⟨rfl, chain hb hb1⟩
  · rw [if_neg g]
    rw [if_neg g] at hC
    have HC := Lib.hid hC
    clear hC g
    obtain ⟨BV, BB, BR, hb, hz⟩ := three_new w #[.int .i64 p, .int .i64 c, .int .i64 h, .int .i64 s] #[.slice a1 n1 c1, .slice a2 n2 c2] #[.int .i64 ra, .int .i64 rb] 25 28 30
    clear hz
    obtain ⟨x0, x1, x2, x3, xf, xl⟩ := BV.four
    obtain ⟨y0, y1, yf, yl⟩ := BB.two
    obtain ⟨z0, z1, zf, zl⟩ := BR.two
    go_enter Tryz.func16, Tryz.ntmps16
    go_wp2_with (first | (go_at_call 24; refine (HC.out _ (r1.below hb) (r2.below hb)).mono ?_; clear HC; rintro e w1 ⟨rfl, hb1⟩; obtain ⟨x0, x1, x2, x3, xf, xl⟩ := (BV.below hb1).four; obtain ⟨y0, y1, yf, yl⟩ := (BB.below hb1).two; obtain ⟨z0, z1, zf, zl⟩ := (BR.below hb1).two))
    go_ret2
    exact ⟨rfl, chain hb hb1⟩
theorem longN_pos {P : Nat} {h d : Int} {o xs ys : List Int} : 0 < longN P h (d :: o) (startP xs ys) ↔ 0 < (legL P h xs ys d).length := by
  rw [longN]
  constructor
  · intro q
    split at q
    · omega
    · rename_i hn
      refine List.length_pos_iff.2 (fun e => hn ?_)
      unfold nextP startP
      simp [cand, e, addAll]
  · intro q
    rw [if_neg]
    · omega
    · intro e
      obtain ⟨t, ht⟩ := List.exists_mem_of_length_pos q
      have h4 : oneMore P ([], xs, ys) t ∈ (startP xs ys).flatMap (cand P h d) := List.mem_flatMap.2 ⟨([], xs, ys), by simp [startP], List.mem_map.2 ⟨t, ht, rfl⟩⟩
      obtain ⟨q', hq', -⟩ := addAll_has ((startP xs ys).flatMap (cand P h d)) [] h4
      have : q' ∈ nextP P h d (startP xs ys) := hq'
      rw [e] at this
      simp at this
set_option maxRecDepth 8000 in
set_option maxHeartbeats 2000000 in
theorem specFindPlay_any (ra rb : Int) (p c h s : Int) (a1 a2 : Option Addr) (n1 n2 c1 c2 : Nat) (xs ys : List Int) (b1 b2 : Option Addr) (m1 m2 d1 d2 : Nat) (us vs : List Int) (w : World) (h1 : xs.length = n1) (h2 : ys.length = n2) (l1 : n1 ≤ 1048576) (l2 : n2 ≤ 1048576) (r1 : IRow w a1 xs) (r2 : IRow w a2 ys) (g1 : us.length = m1) (g2 : vs.length = m2) (k1 : m1 ≤ 1048576) (k2 : m2 ≤ 1048576) (s1 : IRow w b1 us) (s2 : IRow w b2 vs) :
    Calls Tryz.prog 19 #[.agg #[.int .i64 p, .int .i64 c, .int .i64 h, .int .i64 s], .agg #[.slice a1 n1 c1, .slice a2 n2 c2], .agg #[.int .i64 ra, .int .i64 rb], .agg #[.slice b1 m1 d1, .slice b2 m2 d2]] w fun e w' => e = .returned (fpV p c h s xs ys ra rb us vs) ∧ Below w.heap.size w w' := by
  have hap := fun W (q1 : IRow W a1 xs) (q2 : IRow W a2 ys) => specAllPlays_any ra rb p c h s a1 a2 n1 n2 c1 c2 xs ys W h1 h2 l1 l2 q1 q2
  have hsm := apL_small (p := p) (c := c) (h := h) (s := s) (xs := xs) (ys := ys) (ra := ra) (rb := rb)
  have hln := apL_len (p := p) (c := c) (h := h) (s := s) (xs := xs) (ys := ys) (ra := ra) (rb := rb)
  unfold fpV
  unfold PlaysGot2 at hap
  obtain ⟨AC, hAC⟩ : ∃ z, apC p c h s xs ys ra rb = z := ⟨_, rfl⟩
  obtain ⟨AA, hAA⟩ : ∃ z, apL p c h s xs ys ra rb = z := ⟨_, rfl⟩
  rw [hAC, hAA] at hap
  rw [hAA] at hsm hln
  rw [hAC, hAA]
  have hfb := findP_bound (us, vs) AA 0
  obtain ⟨FF, hFF⟩ : ∃ z, findP (us, vs) AA 0 = z := ⟨_, rfl⟩
  rw [hFF] at hfb ⊢
  have HAP := Lib.hid hap
  have HSM := Lib.hid hsm
  have HFF := Lib.hid hFF
  clear hap hsm hAC hAA hFF
  have BV := ((((Blk.new w #[.int .i64 p, .int .i64 c, .int .i64 h, .int .i64 s] 25).alloc (.cells #[.slice a1 n1 c1, .slice a2 n2 c2] 28)).alloc (.cells #[.int .i64 ra, .int .i64 rb] 30)).alloc (.cells #[.slice b1 m1 d1, .slice b2 m2 d2] 28))
  obtain ⟨-, BB, BR, hb3, hz3⟩ := three_new w #[.int .i64 p, .int .i64 c, .int .i64 h, .int .i64 s] #[.slice a1 n1 c1, .slice a2 n2 c2] #[.int .i64 ra, .int .i64 rb] 25 28 30
  replace BB := BB.alloc (.cells #[.slice b1 m1 d1, .slice b2 m2 d2] 28)
  replace BR := BR.alloc (.cells #[.slice b1 m1 d1, .slice b2 m2 d2] 28)
  have BD := Blk.new (((w.alloc (.cells #[.int .i64 p, .int .i64 c, .int .i64 h, .int .i64 s] 25)).alloc (.cells #[.slice a1 n1 c1, .slice a2 n2 c2] 28)).alloc (.cells #[.int .i64 ra, .int .i64 rb] 30)) #[.slice b1 m1 d1, .slice b2 m2 d2] 28
  rw [hz3] at BD
  have hb : Below w.heap.size w ((((w.alloc (.cells #[.int .i64 p, .int .i64 c, .int .i64 h, .int .i64 s] 25)).alloc (.cells #[.slice a1 n1 c1, .slice a2 n2 c2] 28)).alloc (.cells #[.int .i64 ra, .int .i64 rb] 30)).alloc (.cells #[.slice b1 m1 d1, .slice b2 m2 d2] 28)) := hb3.alloc hb3.size _
  clear hb3 hz3
  obtain ⟨x0, x1, x2, x3, xf, xl⟩ := BV.four
  obtain ⟨y0, y1, yf, yl⟩ := BB.two
  obtain ⟨z0, z1, zf, zl⟩ := BR.two
  by_cases e0 : AC = 0
  · subst e0
    rw [if_pos rfl]
    obtain ⟨RV, hRV⟩ : ∃ z, (if FF < 0 then (.tuple #[.int .i64 0, .int .i64 4] : Value) else .tuple #[.int .i64 FF, .int .i64 0]) = z := ⟨_, rfl⟩
    rw [hRV]
    have HRV := Lib.hid hRV
    clear hRV
    go_enter Tryz.func19, Tryz.ntmps19
    go_wp2_with fail
    clear x0 x1 x2 x3 xf xl y0 y1 yf yl z0 z1 zf zl
    generalize ((((w.alloc (.cells #[.int .i64 p, .int .i64 c, .int .i64 h, .int .i64 s] 25)).alloc (.cells #[.slice a1 n1 c1, .slice a2 n2 c2] 28)).alloc (.cells #[.int .i64 ra, .int .i64 rb] 30)).alloc (.cells #[.slice b1 m1 d1, .slice b2 m2 d2] 28)) = v0 at *
    refine (HAP.out _ (r1.below hb) (r2.below hb)).mono ?_
    rintro e w1 ⟨aL, kL, L, rfl, hLm, hLO, hLA, hb1⟩
    have hLl : L.length ≤ 1000000 := by have := congrArg List.length hLm; rw [List.length_map] at this; omega
    have hbox : w.heap.size < v0.heap.size := by have := BV.lt; omega
    have HLM := Lib.hid hLm
    clear hLm
    have hsec := l05Find_any v0.heap.size w1.heap.size aL L.length kL L b1 b2 m1 m2 d1 d2 us vs w1 rfl (by omega) hLO hLA (fun x hx => HSM.out x.2 (by rw [← HLM.out]; exact List.mem_map.2 ⟨x, hx, rfl⟩)) g1 g2 k1 k2 (s1.below (chain hb hb1)) (s2.below (chain hb hb1))
    rw [HLM.out] at hsec
    rw [HFF.out] at hsec
    have HSEC := Lib.hid hsec
    clear hsec
    obtain ⟨u0, u1, uf, ul⟩ := (BD.below hb1).two
    go_wp2_with fail
    refine (HSEC.out).mono ?_
    rintro e w2 ⟨rfl, hb2⟩
    have hrv := HRV.out
    clear HRV
    by_cases f0 : FF < 0
    · rw [if_pos f0] at hrv
      subst hrv
      go_wp2
      go_ret2
      exact ⟨rfl, chain (chain hb hb1) hb2⟩
    · rw [if_neg f0] at hrv
      subst hrv
      go_wp2
      go_ret2
      exact ⟨rfl, chain (chain hb hb1) hb2⟩
  · rw [if_neg e0]
    have f1 : (AC != 0) = true := by rw [bne_iff_ne]; exact e0
    go_enter Tryz.func19, Tryz.ntmps19
    go_wp2_with fail
    clear x0 x1 x2 x3 xf xl y0 y1 yf yl z0 z1 zf zl
    generalize ((((w.alloc (.cells #[.int .i64 p, .int .i64 c, .int .i64 h, .int .i64 s] 25)).alloc (.cells #[.slice a1 n1 c1, .slice a2 n2 c2] 28)).alloc (.cells #[.int .i64 ra, .int .i64 rb] 30)).alloc (.cells #[.slice b1 m1 d1, .slice b2 m2 d2] 28)) = v0 at *
    refine (HAP.out _ (r1.below hb) (r2.below hb)).mono ?_
    rintro e w1 ⟨aL, kL, L, rfl, -, -, -, hb1⟩
    go_wp2
    go_ret2
    exact ⟨rfl, chain hb hb1⟩
end Go.Proofs.YtciljbnailobgaaGreat
namespace Go.Proofs.YtciljbnailobgaaGreat
set_option linter.unusedVariables false
theorem folN_in (P : Nat) (h s : Int) : ∀ (o : List Int) (ts : List Stp) (b r : List Int × List Int) (l : List Ply), folN P h s o ts b = some r → ts.length = longN P h o l → (∃ q ∈ l, q.2 = b) → ∃ q ∈ longP P h o l, q.2 = r
  | o, [], b, r, l, e, hn, hq => by
    rw [folN_nil] at e
    cases e
    cases o with
    | nil => exact hq
    | cons d ds =>
      rw [longN] at hn
      rw [longP]
      split at hn
      · rename_i hc
        rw [if_pos hc]
        exact hq
      · simp at hn
  | [], t :: ts, b, r, l, e, _, _ => by simp [folN] at e
  | o :: os, t :: ts, b, r, l, e, hn, ⟨q, hq, hb⟩ => by
    rw [folN] at e
    split at e
    · rename_i hc
      obtain ⟨h1, h2⟩ := hc
      have h3 := leg_legL h2
      rw [h1, ← hb] at h3
      have h4 : oneMore P q t ∈ l.flatMap (cand P h o) := List.mem_flatMap.2 ⟨q, hq, List.mem_map.2 ⟨t, h3, rfl⟩⟩
      obtain ⟨q', hq', e'⟩ := addAll_has (l.flatMap (cand P h o)) [] h4
      have h5 : ∃ q ∈ nextP P h o l, q.2 = (mvX b.1 t.1 t.2.1 1, mvY P b.2 t.2.1 t.2.2.2 1) := ⟨q', hq', by rw [e', ← hb]; rfl⟩
      have hne : nextP P h o l ≠ [] := by obtain ⟨q, hq, -⟩ := h5; rintro e; rw [e] at hq; simp at hq
      rw [longN, if_neg hne] at hn
      rw [longP, if_neg hne]
      exact folN_in P h s os ts _ r (nextP P h o l) e (by simpa using hn) h5
    · cases e
theorem every_play {P : Nat} {h s : Int} {xs ys : List Int} {ra rb : Int} {o : List Int} {ts : List Stp} {r : List Int × List Int} (ho : o ∈ legalO P h xs ys (usedP P h xs ys ra rb) (ordersP ra rb)) (e : folN P h s o ts (xs, ys) = some r) (hn : ts.length = usedP P h xs ys ra rb) : ∃ q ∈ allP P h xs ys ra rb, q.2 = r := by
  have hl : longN P h o (startP xs ys) = usedP P h xs ys ra rb := by
    unfold legalO at ho
    have ho' : o ∈ (ordersP ra rb).filter (fun o => longN P h o (startP xs ys) == usedP P h xs ys ra rb) := by
      split at ho
      · exact List.mem_of_mem_take ho
      · exact ho
    rw [List.mem_filter] at ho'
    simpa using ho'.2
  obtain ⟨q, hq, hr⟩ := folN_in P h s o ts (xs, ys) r (startP xs ys) e (by omega) ⟨([], xs, ys), by simp [startP], rfl⟩
  unfold allP
  rw [← legalO_all]
  obtain ⟨q', hq', e'⟩ := addAll_has ((legalO P h xs ys (usedP P h xs ys ra rb) (ordersP ra rb)).flatMap (fun o => longP P h o (startP xs ys))) [] (List.mem_flatMap.2 ⟨o, ho, hq⟩)
  exact ⟨q', hq', e'.trans hr⟩
theorem legalO_mem {P : Nat} {h : Int} {xs ys : List Int} {ra rb : Int} {o : List Int} (ho : o ∈ ordersP ra rb) (hl : longN P h o (startP xs ys) = usedP P h xs ys ra rb) (hx : ¬ (usedP P h xs ys ra rb = 1 ∧ ra ≠ rb ∧ o ≠ [ra, rb] ∧ 0 < (legL P h xs ys ra).length)) :
    o ∈ legalO P h xs ys (usedP P h xs ys ra rb) (ordersP ra rb) := by
  have hf : o ∈ (ordersP ra rb).filter (fun o => longN P h o (startP xs ys) == usedP P h xs ys ra rb) := List.mem_filter.2 ⟨ho, by simpa using hl⟩
  unfold legalO
  by_cases u1 : usedP P h xs ys ra rb = 1
  · rw [if_pos u1]
    by_cases e : ra = rb
    · have hO : (ordersP ra rb).length = 1 := by unfold ordersP; rw [if_pos e]; rfl
      rw [List.take_of_length_le (Nat.le_trans (List.length_filter_le _ _) (by omega))]
      exact hf
    · have hO : ordersP ra rb = [[ra, rb], [rb, ra]] := by unfold ordersP; rw [if_neg e]
      by_cases q : longN P h [ra, rb] (startP xs ys) = usedP P h xs ys ra rb
      · have h3 : 0 < (legL P h xs ys ra).length := longN_pos.1 (by rw [q, u1]; omega : 0 < longN P h (ra :: [rb]) (startP xs ys))
        have ho2 : o = [ra, rb] := by
          by_cases oe : o = [ra, rb]
          · exact oe
          · exact absurd ⟨u1, e, oe, h3⟩ hx
        rw [hO, List.filter_cons_of_pos (by simpa using q), ho2]
        simp
      · rw [hO, List.filter_cons_of_neg (by simpa using q)] at hf ⊢
        rw [List.take_of_length_le (Nat.le_trans (List.length_filter_le _ _) (by simp))]
        exact hf
  · rw [if_neg u1]
    exact hf
end Go.Proofs.YtciljbnailobgaaGreat
