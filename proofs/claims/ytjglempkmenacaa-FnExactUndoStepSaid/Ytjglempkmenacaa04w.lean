/- Contract of the model's application of a step. -/
import Derived.Test.Ytjglempkmenacaa04v
namespace Go.Proofs.Ytjglempkmenacaa
open Go.ChangeShapes Go.WideShapes Go.ChangeAt Go.RowKit
set_option linter.unusedVariables false
set_option linter.unusedSimpArgs false
set_option maxRecDepth 4000

theorem legB_form {P : Nat} {h s : Int} {xs ys : List Int} {a b d : Int} {q : Bool} (g : legB P h s xs ys (a, b, d, q) = true) : ∃ f : Nat, a = (f : Int) ∧ f ≤ P ∧ ((b = -1 ∧ q = false) ∨ ∃ t : Nat, b = (t : Int) ∧ t < P ∧ ¬ t = f) := by
  have hp := legB_places g
  unfold legB at g
  simp only [placesB, Bool.and_eq_true, decide_eq_true_eq] at g hp
  obtain ⟨g1, _, _, g2⟩ := g
  have g1' : 1 ≤ d ∧ d ≤ s := by simpa [inB] using g1
  obtain ⟨p1, p2, p3, p4⟩ := hp
  obtain ⟨f, rfl⟩ := Int.eq_ofNat_of_zero_le p1
  refine ⟨f, rfl, by omega, ?_⟩
  rw [show (f : Int).toNat = f by simp] at g2
  unfold stepI at g2
  split at g2
  · simp at g2
  · split at g2
    · simp only [Option.some.injEq, Prod.mk.injEq] at g2
      obtain ⟨_, g3, _, g4⟩ := g2
      by_cases hb : b = -1
      · left
        refine ⟨hb, ?_⟩
        rw [← g4, g3, hb]
        rfl
      · right
        obtain ⟨t, rfl⟩ := Int.eq_ofNat_of_zero_le (by omega : 0 ≤ b)
        refine ⟨t, rfl, by omega, ?_⟩
        unfold toI at g3
        split at g3
        · omega
        · omega
    · simp at g2
theorem l04Apply_any (P : Nat) (c h s : Int) (a1 a2 : Option Addr) (n1 n2 c1 c2 : Nat) (xs ys : List Int) (w : World) (h1 : xs.length = n1) (h2 : ys.length = n2) (p0 : 2 ≤ P) (p1 : P ≤ 24) (N1 : xs.length = P + 1) (N2 : ys.length = P + 1) (hh0 : 1 ≤ h) (hh : h ≤ (P : Int)) (hx : ∀ x ∈ xs, 0 ≤ x ∧ x ≤ 1000) (hy : ∀ y ∈ ys, 0 ≤ y ∧ y ≤ 1000) (r1 : IRow w a1 xs) (r2 : IRow w a2 ys) (t : Stp) (gl : legB P h s xs ys t = true) :
    Calls Try.prog 62 #[.agg #[.int .i64 (P : Int), .int .i64 c, .int .i64 h, .int .i64 s], .agg #[.slice a1 n1 c1, .slice a2 n2 c2], stV t] w (BoardGot (mvX xs t.1 t.2.1 1) (mvY P ys t.2.1 t.2.2.2 1) w) := by
  obtain ⟨a, b, d, q⟩ := t
  obtain ⟨f, rfl, fP, hc⟩ := legB_form gl
  dsimp only
  rcases hc with ⟨rfl, rfl⟩ | ⟨t, rfl, tP, hne⟩
  · exact l04Apply_off_false P c h s a1 a2 n1 n2 c1 c2 xs ys w h1 h2 p0 p1 N1 N2 hh0 hh hx hy r1 r2 f d fP
  · cases q with
    | true => exact l04Apply_far_true P c h s a1 a2 n1 n2 c1 c2 xs ys w h1 h2 p0 p1 N1 N2 hh0 hh hx hy r1 r2 f d fP t tP hne
    | false => exact l04Apply_far_false P c h s a1 a2 n1 n2 c1 c2 xs ys w h1 h2 p0 p1 N1 N2 hh0 hh hx hy r1 r2 f d fP t tP hne
set_option maxRecDepth 8000 in
set_option maxHeartbeats 4000000 in
theorem specApplyStep_any (t : Stp) (p c h s : Int) (a1 a2 : Option Addr) (n1 n2 c1 c2 : Nat) (xs ys : List Int) (w : World) (h1 : xs.length = n1) (h2 : ys.length = n2) (l1 : n1 ≤ 1048576) (l2 : n2 ≤ 1048576) (r1 : IRow w a1 xs) (r2 : IRow w a2 ys) :
    Calls Try.prog 17 #[.agg #[.int .i64 p, .int .i64 c, .int .i64 h, .int .i64 s], .agg #[.slice a1 n1 c1, .slice a2 n2 c2], stV t] w (BoardGotN (asX p c h s xs ys t) (asY p c h s xs ys t) (asR p c h s xs ys t) w) := by
  unfold asX asY asR
  by_cases g : isB p c h s xs ys = true
  · rw [if_pos g, if_pos g, if_pos g]
    obtain ⟨p0, p1, k0, k1, k2, k3, N1, N2, hx, hy, s0, s1, s2, s3⟩ := isB_parts g
    obtain ⟨P, rfl⟩ := Int.eq_ofNat_of_zero_le (by omega : 0 ≤ p)
    rw [show (P : Int).toNat = P by simp]
    have hs6 := isB_sides g
    have hB := fun W (q1 : IRow W a1 xs) (q2 : IRow W a2 ys) => specIsBoard_any (P : Int) c h s a1 a2 n1 n2 c1 c2 xs ys W h1 h2 l1 l2 q1 q2
    simp only [g] at hB
    have HB := Lib.hid hB
    clear hB
    have hl0 := fun W (hW : Below w.heap.size w W) => l04IsLegal_any P c h s a1 a2 n1 n2 c1 c2 xs ys W h1 h2 (by omega) (by omega) (by omega) (by omega) (by omega) (by omega) hx hy (r1.below hW) (r2.below hW) (by omega) t
    cases gl : legB P h s xs ys t with
    | true =>
      rw [if_pos rfl, if_pos rfl, if_pos rfl]
      rw [gl] at hl0
      have hm0 := fun W (hW : Below w.heap.size w W) => l04Apply_any P c h s a1 a2 n1 n2 c1 c2 xs ys W h1 h2 (by omega) (by omega) (by omega) (by omega) (by omega) (by omega) hx hy (r1.below hW) (r2.below hW) t gl
      obtain ⟨X, hX⟩ : ∃ X, mvX xs t.1 t.2.1 1 = X := ⟨_, rfl⟩
      obtain ⟨Y, hY⟩ : ∃ Y, mvY P ys t.2.1 t.2.2.2 1 = Y := ⟨_, rfl⟩
      rw [hX, hY] at hm0
      rw [hX, hY]
      obtain ⟨ta, tb, td, tq⟩ := t
      have HL := Lib.hid hl0
      have HM := Lib.hid hm0
      clear hl0 hm0 hX hY gl
      obtain ⟨BV, BB, BS, BR, hb, hz⟩ := four_new w #[.int .i64 (P : Int), .int .i64 c, .int .i64 h, .int .i64 s] #[.slice a1 n1 c1, .slice a2 n2 c2] #[.int .i64 ta, .int .i64 tb, .int .i64 td, .bool tq] #[.slice none 0 0, .slice none 0 0] 25 28 30 28
      obtain ⟨x0, x1, x2, x3, xf, xl⟩ := BV.four
      obtain ⟨y0, y1, yf, yl⟩ := BB.two
      obtain ⟨s0, s1, s2, s3, sf, sl⟩ := BS.four
      obtain ⟨u0, u1, uf, ul⟩ := BR.two
      go_enter Try.func17, Try.ntmps17
      go_wp2_with (first | (go_at_call 21; refine (HB.out _ (r1.below hb) (r2.below hb)).mono ?_; rintro e w1 ⟨rfl, hb1⟩; obtain ⟨x0, x1, x2, x3, xf, xl⟩ := (BV.below hb1).four; obtain ⟨y0, y1, yf, yl⟩ := (BB.below hb1).two; obtain ⟨s0, s1, s2, s3, sf, sl⟩ := (BS.below hb1).four; obtain ⟨u0, u1, uf, ul⟩ := (BR.below hb1).two) | (go_at_call 61; refine (HL.out _ (chain hb hb1)).mono ?_; rintro e w3 ⟨rfl, hb3⟩; obtain ⟨x0, x1, x2, x3, xf, xl⟩ := (BV.below (chain hb1 hb3)).four; obtain ⟨y0, y1, yf, yl⟩ := (BB.below (chain hb1 hb3)).two; obtain ⟨s0, s1, s2, s3, sf, sl⟩ := (BS.below (chain hb1 hb3)).four; obtain ⟨u0, u1, uf, ul⟩ := (BR.below (chain hb1 hb3)).two) | (go_at_call 62; refine (HM.out _ (chain hb (chain hb1 hb3))).mono ?_; rintro e w4 ⟨d1, d2, k1, k2, rfl, O4, hb4⟩; obtain ⟨x0, x1, x2, x3, xf, xl⟩ := (BV.below (chain hb1 (chain hb3 hb4))).four; obtain ⟨y0, y1, yf, yl⟩ := (BB.below (chain hb1 (chain hb3 hb4))).two; obtain ⟨s0, s1, s2, s3, sf, sl⟩ := (BS.below (chain hb1 (chain hb3 hb4))).four; obtain ⟨u0, u1, uf, ul⟩ := (BR.below (chain hb1 (chain hb3 hb4))).two))
      have hbz := chain hb (chain hb1 (chain hb3 hb4))
      have hsz := (chain hb (chain hb1 hb3)).size
      have hszb := (chain hb1 hb3).size
      refine bodyPost_ret (v := .tuple #[.agg #[.slice d1 X.length k1, .slice d2 Y.length k2], .int .i64 0]) (by first | (simp [results, Try.results17, go_sem, u0, u1]; done) | (simp [results, Try.results17, go_sem, *]; done)) rfl ?_
      refine ⟨d1, d2, k1, k2, rfl, ?_, (hbz.setCell (by simp; omega) _).setCell (by simp; omega) _⟩
      rcases O4 with h | ⟨g1, g2, e1, e2, hne, b1, b2, b3, b4, q1, q2⟩
      · exact .inl h
      · exact .inr ⟨g1, g2, e1, e2, hne, by omega, by simpa using q1.lt, by omega, by simpa using q2.lt, (q1.other (by omega)).other (by omega), (q2.other (by omega)).other (by omega)⟩
    | false =>
      rw [if_neg (by simp), if_neg (by simp), if_neg (by simp)]
      rw [gl] at hl0
      obtain ⟨ta, tb, td, tq⟩ := t
      have HL := Lib.hid hl0
      clear hl0 gl
      obtain ⟨BV, BB, BS, BR, hb, hz⟩ := four_new w #[.int .i64 (P : Int), .int .i64 c, .int .i64 h, .int .i64 s] #[.slice a1 n1 c1, .slice a2 n2 c2] #[.int .i64 ta, .int .i64 tb, .int .i64 td, .bool tq] #[.slice none 0 0, .slice none 0 0] 25 28 30 28
      obtain ⟨x0, x1, x2, x3, xf, xl⟩ := BV.four
      obtain ⟨y0, y1, yf, yl⟩ := BB.two
      obtain ⟨s0, s1, s2, s3, sf, sl⟩ := BS.four
      obtain ⟨u0, u1, uf, ul⟩ := BR.two
      go_enter Try.func17, Try.ntmps17
      go_wp2_with (first | (go_at_call 21; refine (HB.out _ (r1.below hb) (r2.below hb)).mono ?_; rintro e w1 ⟨rfl, hb1⟩; obtain ⟨x0, x1, x2, x3, xf, xl⟩ := (BV.below hb1).four; obtain ⟨y0, y1, yf, yl⟩ := (BB.below hb1).two; obtain ⟨s0, s1, s2, s3, sf, sl⟩ := (BS.below hb1).four; obtain ⟨u0, u1, uf, ul⟩ := (BR.below hb1).two) | (go_at_call 61; refine (HL.out _ (chain hb hb1)).mono ?_; rintro e w3 ⟨rfl, hb3⟩; obtain ⟨x0, x1, x2, x3, xf, xl⟩ := (BV.below (chain hb1 hb3)).four; obtain ⟨y0, y1, yf, yl⟩ := (BB.below (chain hb1 hb3)).two; obtain ⟨s0, s1, s2, s3, sf, sl⟩ := (BS.below (chain hb1 hb3)).four; obtain ⟨u0, u1, uf, ul⟩ := (BR.below (chain hb1 hb3)).two))
      refine bodyPost_ret (v := .tuple #[.agg #[.slice none 0 0, .slice none 0 0], .int .i64 5]) (by first | (simp [results, Try.results17, go_sem, u0, u1]; done) | (simp [results, Try.results17, go_sem, *]; done)) rfl ?_
      exact ⟨none, none, 0, 0, rfl, .inl ⟨rfl, rfl, rfl, rfl⟩, ((chain hb (chain hb1 hb3)).setCell (by simp; omega) _).setCell (by simp; omega) _⟩
  · rw [if_neg g, if_neg g, if_neg g]
    replace g : isB p c h s xs ys = false := by simpa using g
    obtain ⟨ta, tb, td, tq⟩ := t
    have hB := fun W (q1 : IRow W a1 xs) (q2 : IRow W a2 ys) => specIsBoard_any p c h s a1 a2 n1 n2 c1 c2 xs ys W h1 h2 l1 l2 q1 q2
    simp only [g] at hB
    have HB := Lib.hid hB
    clear hB
    obtain ⟨BV, BB, BS, BR, hb, hz⟩ := four_new w #[.int .i64 p, .int .i64 c, .int .i64 h, .int .i64 s] #[.slice a1 n1 c1, .slice a2 n2 c2] #[.int .i64 ta, .int .i64 tb, .int .i64 td, .bool tq] #[.slice none 0 0, .slice none 0 0] 25 28 30 28
    obtain ⟨x0, x1, x2, x3, xf, xl⟩ := BV.four
    obtain ⟨y0, y1, yf, yl⟩ := BB.two
    obtain ⟨s0, s1, s2, s3, sf, sl⟩ := BS.four
    obtain ⟨u0, u1, uf, ul⟩ := BR.two
    go_enter Try.func17, Try.ntmps17
    go_wp2_with (go_at_call 21; refine (HB.out _ (r1.below hb) (r2.below hb)).mono ?_; rintro e w1 ⟨rfl, hb1⟩; obtain ⟨x0, x1, x2, x3, xf, xl⟩ := (BV.below hb1).four; obtain ⟨y0, y1, yf, yl⟩ := (BB.below hb1).two; obtain ⟨s0, s1, s2, s3, sf, sl⟩ := (BS.below hb1).four; obtain ⟨u0, u1, uf, ul⟩ := (BR.below hb1).two)
    refine bodyPost_ret (v := .tuple #[.agg #[.slice none 0 0, .slice none 0 0], .int .i64 1]) (by first | (simp [results, Try.results17, go_sem, u0, u1]; done) | (simp [results, Try.results17, go_sem, *]; done)) rfl ?_
    exact ⟨none, none, 0, 0, rfl, .inl ⟨rfl, rfl, rfl, rfl⟩, ((chain hb hb1).setCell (by simp; omega) _).setCell (by simp; omega) _⟩
end Go.Proofs.Ytjglempkmenacaa
