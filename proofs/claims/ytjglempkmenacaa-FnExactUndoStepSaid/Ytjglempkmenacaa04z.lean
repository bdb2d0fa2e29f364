/- Contract of the model's board ahead of a step. -/
import Derived.Test.Ytjglempkmenacaa04w
import Derived.Test.Ytjglempkmenacaa04y1
import Derived.Test.Ytjglempkmenacaa04y2
import Derived.Test.Ytjglempkmenacaa04y3
import Derived.Test.Ytjglempkmenacaa04y4
import Derived.Test.Ytjglempkmenacaa04y5
namespace Go.Proofs.Ytjglempkmenacaa
open Go.ChangeShapes Go.WideShapes Go.ChangeAt Go.RowKit
set_option linter.unusedVariables false
set_option linter.unusedSimpArgs false
set_option maxRecDepth 4000

theorem udOk_off (p c h s : Int) (xs ys : List Int) (a d : Int) (q : Bool) (hq : q = true) : udOk p c h s xs ys (a, -1, d, q) = false := by
  subst hq
  unfold udOk lgB
  cases gl : legB p.toNat h s (mvX xs a (-1) (-1)) (mvY p.toNat ys (-1) true (-1)) (a, -1, d, true) with
  | false => simp [gl]
  | true =>
    obtain ⟨f, _, _, h1⟩ := legB_form gl
    rcases h1 with ⟨_, h2⟩ | ⟨t, h2, _⟩
    · simp at h2
    · omega
set_option maxRecDepth 8000 in
set_option maxHeartbeats 4000000 in
theorem specUndoStep_any (t : Stp) (p c h s : Int) (a1 a2 : Option Addr) (n1 n2 c1 c2 : Nat) (xs ys : List Int) (w : World) (h1 : xs.length = n1) (h2 : ys.length = n2) (l1 : n1 ≤ 1048576) (l2 : n2 ≤ 1048576) (r1 : IRow w a1 xs) (r2 : IRow w a2 ys) :
    Calls Try.prog 48 #[.agg #[.int .i64 p, .int .i64 c, .int .i64 h, .int .i64 s], .agg #[.slice a1 n1 c1, .slice a2 n2 c2], stV t] w (BoardGotN (udX p c h s xs ys t) (udY p c h s xs ys t) (udR p c h s xs ys t) w) := by
  unfold udX udY udR
  by_cases g : isB p c h s xs ys = true
  · rw [if_pos g, if_pos g, if_pos g]
    obtain ⟨p0, p1, k0, k1, k2, k3, N1, N2, hx, hy, s0, s1, s2, s3⟩ := isB_parts g
    obtain ⟨P, rfl⟩ := Int.eq_ofNat_of_zero_le (by omega : 0 ≤ p)
    rw [show (P : Int).toNat = P by simp]
    have hB := fun W (q1 : IRow W a1 xs) (q2 : IRow W a2 ys) => specIsBoard_any (P : Int) c h s a1 a2 n1 n2 c1 c2 xs ys W h1 h2 l1 l2 q1 q2
    simp only [g] at hB
    have HB := Lib.hid hB
    clear hB
    obtain ⟨ta, tb, td, tq⟩ := t
    have hi1 := fun W => l01In_any ta 0 (P : Int) W
    have hi2 := fun W => l01In_any tb (-1) ((P : Int) - 1) W
    have hPI : (P : Int) ≤ 24 := p1
    cases ga : inB ta 0 (P : Int) with
    | false =>
      have e0 : udOk (P : Int) c h s xs ys (ta, tb, td, tq) = false := by
        have ga' : ¬ (0 ≤ ta ∧ ta ≤ (P : Int)) := by simpa [inB] using ga
        unfold udOk placesB
        dsimp only
        by_cases q0 : 0 ≤ ta
        · rw [decide_eq_false (show ¬ ta ≤ (P : Int) from fun q1 => ga' ⟨q0, q1⟩)]
          simp
        · rw [decide_eq_false q0]
          simp
      rw [e0, if_neg (by simp), if_neg (by simp), if_neg (by simp)]
      rw [ga] at hi1
      have HI1 := Lib.hid hi1
      have HI2 := Lib.hid hi2
      clear hi1 hi2 e0 ga
      obtain ⟨BV, BB, BS, BR, hb, hz⟩ := four_new w #[.int .i64 (P : Int), .int .i64 c, .int .i64 h, .int .i64 s] #[.slice a1 n1 c1, .slice a2 n2 c2] #[.int .i64 ta, .int .i64 tb, .int .i64 td, .bool tq] #[.slice none 0 0, .slice none 0 0] 25 28 30 28
      obtain ⟨x0, x1, x2, x3, xf, xl⟩ := BV.four
      obtain ⟨y0, y1, yf, yl⟩ := BB.two
      obtain ⟨s0, s1, s2, s3, sf, sl⟩ := BS.four
      obtain ⟨u0, u1, uf, ul⟩ := BR.two
      go_enter Try.func48, Try.ntmps48
      go_wp2_with (first | (go_at_call 21; refine (HB.out _ (r1.below hb) (r2.below hb)).mono ?_; rintro e w1 ⟨rfl, hb1⟩; obtain ⟨x0, x1, x2, x3, xf, xl⟩ := (BV.below hb1).four; obtain ⟨y0, y1, yf, yl⟩ := (BB.below hb1).two; obtain ⟨s0, s1, s2, s3, sf, sl⟩ := (BS.below hb1).four; obtain ⟨u0, u1, uf, ul⟩ := (BR.below hb1).two) | (go_at_call 71; with_reducible first | (refine (HI1.out _).mono ?_; rintro e w2 ⟨rfl, rfl⟩) | (refine (HI2.out _).mono ?_; rintro e w3 ⟨rfl, rfl⟩)))
      refine bodyPost_ret (v := .tuple #[.agg #[.slice none 0 0, .slice none 0 0], .int .i64 4]) (by first | (simp [results, Try.results48, go_sem, u0, u1]; done) | (simp [results, Try.results48, go_sem, *]; done)) rfl ?_
      exact ⟨none, none, 0, 0, rfl, .inl ⟨rfl, rfl, rfl, rfl⟩, ((chain hb hb1).setCell (by simp; omega) _).setCell (by simp; omega) _⟩
    | true =>
      rw [ga] at hi1
      have ga' : 0 ≤ ta ∧ ta ≤ (P : Int) := by simpa [inB] using ga
      cases gt : inB tb (-1) ((P : Int) - 1) with
      | false =>
        have e0 : udOk (P : Int) c h s xs ys (ta, tb, td, tq) = false := by
          have gt' : ¬ (-1 ≤ tb ∧ tb ≤ (P : Int) - 1) := by simpa [inB] using gt
          unfold udOk placesB
          dsimp only
          by_cases q0 : -1 ≤ tb
          · rw [decide_eq_false (show ¬ tb < (P : Int) by omega)]
            simp
          · rw [decide_eq_false q0]
            simp
        rw [e0, if_neg (by simp), if_neg (by simp), if_neg (by simp)]
        rw [gt] at hi2
        have HI1 := Lib.hid hi1
        have HI2 := Lib.hid hi2
        clear hi1 hi2 e0 ga gt
        obtain ⟨BV, BB, BS, BR, hb, hz⟩ := four_new w #[.int .i64 (P : Int), .int .i64 c, .int .i64 h, .int .i64 s] #[.slice a1 n1 c1, .slice a2 n2 c2] #[.int .i64 ta, .int .i64 tb, .int .i64 td, .bool tq] #[.slice none 0 0, .slice none 0 0] 25 28 30 28
        obtain ⟨x0, x1, x2, x3, xf, xl⟩ := BV.four
        obtain ⟨y0, y1, yf, yl⟩ := BB.two
        obtain ⟨s0, s1, s2, s3, sf, sl⟩ := BS.four
        obtain ⟨u0, u1, uf, ul⟩ := BR.two
        go_enter Try.func48, Try.ntmps48
        go_wp2_with (first | (go_at_call 21; refine (HB.out _ (r1.below hb) (r2.below hb)).mono ?_; rintro e w1 ⟨rfl, hb1⟩; obtain ⟨x0, x1, x2, x3, xf, xl⟩ := (BV.below hb1).four; obtain ⟨y0, y1, yf, yl⟩ := (BB.below hb1).two; obtain ⟨s0, s1, s2, s3, sf, sl⟩ := (BS.below hb1).four; obtain ⟨u0, u1, uf, ul⟩ := (BR.below hb1).two) | (go_at_call 71; with_reducible first | (refine (HI1.out _).mono ?_; rintro e w2 ⟨rfl, rfl⟩) | (refine (HI2.out _).mono ?_; rintro e w3 ⟨rfl, rfl⟩)))
        refine bodyPost_ret (v := .tuple #[.agg #[.slice none 0 0, .slice none 0 0], .int .i64 4]) (by first | (simp [results, Try.results48, go_sem, u0, u1]; done) | (simp [results, Try.results48, go_sem, *]; done)) rfl ?_
        exact ⟨none, none, 0, 0, rfl, .inl ⟨rfl, rfl, rfl, rfl⟩, ((chain hb hb1).setCell (by simp; omega) _).setCell (by simp; omega) _⟩
      | true =>
        rw [gt] at hi2
        have gt' : -1 ≤ tb ∧ tb ≤ (P : Int) - 1 := by simpa [inB] using gt
        have gp : placesB (P : Int) (ta, tb, td, tq) = true := by simp [placesB]; omega
        have e1 : udOk (P : Int) c h s xs ys (ta, tb, td, tq) = lgB (P : Int) c h s (mvX xs ta tb (-1)) (mvY P ys tb tq (-1)) (ta, tb, td, tq) := by unfold udOk; rw [gp, Bool.true_and]; simp
        obtain ⟨f, rfl⟩ := Int.eq_ofNat_of_zero_le ga'.1
        by_cases hb1 : tb = -1
        · subst hb1
          cases tq with
          | true =>
            rw [udOk_off (P : Int) c h s xs ys (f : Int) td true rfl, if_neg (by simp), if_neg (by simp), if_neg (by simp)]
            have HI1 := Lib.hid hi1
            have HI2 := Lib.hid hi2
            clear hi1 hi2 e1 ga gt gp
            obtain ⟨BV, BB, BS, BR, hb, hz⟩ := four_new w #[.int .i64 (P : Int), .int .i64 c, .int .i64 h, .int .i64 s] #[.slice a1 n1 c1, .slice a2 n2 c2] #[.int .i64 (f : Int), .int .i64 (-1), .int .i64 td, .bool true] #[.slice none 0 0, .slice none 0 0] 25 28 30 28
            obtain ⟨x0, x1, x2, x3, xf, xl⟩ := BV.four
            obtain ⟨y0, y1, yf, yl⟩ := BB.two
            obtain ⟨s0, s1, s2, s3, sf, sl⟩ := BS.four
            obtain ⟨u0, u1, uf, ul⟩ := BR.two
            go_enter Try.func48, Try.ntmps48
            go_wp2_with (first | (go_at_call 21; refine (HB.out _ (r1.below hb) (r2.below hb)).mono ?_; rintro e w1 ⟨rfl, hb1⟩; obtain ⟨x0, x1, x2, x3, xf, xl⟩ := (BV.below hb1).four; obtain ⟨y0, y1, yf, yl⟩ := (BB.below hb1).two; obtain ⟨s0, s1, s2, s3, sf, sl⟩ := (BS.below hb1).four; obtain ⟨u0, u1, uf, ul⟩ := (BR.below hb1).two) | (go_at_call 71; with_reducible first | (refine (HI1.out _).mono ?_; rintro e w2 ⟨rfl, rfl⟩) | (refine (HI2.out _).mono ?_; rintro e w3 ⟨rfl, rfl⟩)))
            refine bodyPost_ret (v := .tuple #[.agg #[.slice none 0 0, .slice none 0 0], .int .i64 4]) (by first | (simp [results, Try.results48, go_sem, u0, u1]; done) | (simp [results, Try.results48, go_sem, *]; done)) rfl ?_
            exact ⟨none, none, 0, 0, rfl, .inl ⟨rfl, rfl, rfl, rfl⟩, ((chain hb hb1).setCell (by simp; omega) _).setCell (by simp; omega) _⟩
          | false =>
            rw [e1]
            exact specUndo_off_false P c h s a1 a2 n1 n2 c1 c2 xs ys w h1 h2 l1 l2 r1 r2 g f td (by omega)
        · obtain ⟨t, rfl⟩ := Int.eq_ofNat_of_zero_le (by omega : 0 ≤ tb)
          rw [e1]
          by_cases hne : t = f
          · subst hne
            cases tq with
            | true => exact specUndo_same_true P c h s a1 a2 n1 n2 c1 c2 xs ys w h1 h2 l1 l2 r1 r2 g t td (by omega) (by omega)
            | false => exact specUndo_same_false P c h s a1 a2 n1 n2 c1 c2 xs ys w h1 h2 l1 l2 r1 r2 g t td (by omega) (by omega)
          · cases tq with
            | true => exact specUndo_far_true P c h s a1 a2 n1 n2 c1 c2 xs ys w h1 h2 l1 l2 r1 r2 g f td (by omega) t (by omega) hne
            | false => exact specUndo_far_false P c h s a1 a2 n1 n2 c1 c2 xs ys w h1 h2 l1 l2 r1 r2 g f td (by omega) t (by omega) hne
  · rw [if_neg g, if_neg g, if_neg g]
    replace g : isB p c h s xs ys = false := by simpa using g
    obtain ⟨ta, tb, td, tq⟩ := t
    have hB := fun W (q1 : IRow W a1 xs) (q2 : IRow W a2 ys) => specIsBoard_any p c h s a1 a2 n1 n2 c1 c2 xs ys W h1 h2 l1 l2 q1 q2
    simp only [g] at hB
    have HB := Lib.hid hB
    clear hB
    obtain ⟨BV, BB, BS, BR, hb, hz⟩ := four_new w #[.int .i64 p, .int .i64 c, .int .i64 h, .int .i64 s] #[.slice a1 n1 c1, .slice a2 n2 c2] #[.int .i64 ta, .int .i64 tb, .int .i64 td, .bool tq] #[.slice none 0 0, .slice none 0 0] 25 28 30 28
    obtain ⟨x0, x1, x2, x3, xf, xl⟩ := BV.four
    obtain ⟨y0, y1, yf, yl⟩ := BB.two
    obtain ⟨s0, s1, s2, s3, sf, sl⟩ := BS.four
    obtain ⟨u0, u1, uf, ul⟩ := BR.two
    go_enter Try.func48, Try.ntmps48
    go_wp2_with (go_at_call 21; refine (HB.out _ (r1.below hb) (r2.below hb)).mono ?_; rintro e w1 ⟨rfl, hb1⟩; obtain ⟨x0, x1, x2, x3, xf, xl⟩ := (BV.below hb1).four; obtain ⟨y0, y1, yf, yl⟩ := (BB.below hb1).two; obtain ⟨s0, s1, s2, s3, sf, sl⟩ := (BS.below hb1).four; obtain ⟨u0, u1, uf, ul⟩ := (BR.below hb1).two)
    refine bodyPost_ret (v := .tuple #[.agg #[.slice none 0 0, .slice none 0 0], .int .i64 1]) (by first | (simp [results, Try.results48, go_sem, u0, u1]; done) | (simp [results, Try.results48, go_sem, *]; done)) rfl ?_
    exact ⟨none, none, 0, 0, rfl, .inl ⟨rfl, rfl, rfl, rfl⟩, ((chain hb hb1).setCell (by simp; omega) _).setCell (by simp; omega) _⟩
end Go.Proofs.Ytjglempkmenacaa
