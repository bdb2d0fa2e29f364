/- Contracts of the program's board behind a step. -/
import Derived.Test.Ytjglempkmenacaa04n
namespace Go.Proofs.Ytjglempkmenacaa
open Go.ChangeShapes Go.WideShapes Go.ChangeAt Go.RowKit
set_option linter.unusedVariables false
set_option linter.unusedSimpArgs false
set_option maxRecDepth 4000

theorem four_new (w : World) (v1 v2 v3 v4 : Array Value) (t1 t2 t3 t4 : TypeId) :
    Blk ((((w.alloc (.cells v1 t1)).alloc (.cells v2 t2)).alloc (.cells v3 t3)).alloc (.cells v4 t4)) w.heap.size v1 t1 ∧ Blk ((((w.alloc (.cells v1 t1)).alloc (.cells v2 t2)).alloc (.cells v3 t3)).alloc (.cells v4 t4)) (w.heap.size + 1) v2 t2 ∧
    Blk ((((w.alloc (.cells v1 t1)).alloc (.cells v2 t2)).alloc (.cells v3 t3)).alloc (.cells v4 t4)) (w.heap.size + 1 + 1) v3 t3 ∧ Blk ((((w.alloc (.cells v1 t1)).alloc (.cells v2 t2)).alloc (.cells v3 t3)).alloc (.cells v4 t4)) (w.heap.size + 1 + 1 + 1) v4 t4 ∧
    Below w.heap.size w ((((w.alloc (.cells v1 t1)).alloc (.cells v2 t2)).alloc (.cells v3 t3)).alloc (.cells v4 t4)) ∧ ((((w.alloc (.cells v1 t1)).alloc (.cells v2 t2)).alloc (.cells v3 t3)).alloc (.cells v4 t4)).heap.size = w.heap.size + 1 + 1 + 1 + 1 := by
  obtain ⟨b1, b2, b3, hb, hz⟩ := three_new w v1 v2 v3 t1 t2 t3
  have b4 := Blk.new (((w.alloc (.cells v1 t1)).alloc (.cells v2 t2)).alloc (.cells v3 t3)) v4 t4
  rw [hz] at b4
  exact ⟨b1.alloc _, b2.alloc _, b3.alloc _, b4, hb.alloc hb.size _, by simp⟩
/-- A board and a number have been made and are handed back. -/
def BoardGotN (xs ys : List Int) (r : Int) (w : World) (e : Ending) (w' : World) : Prop :=
  ∃ a1 a2 k1 k2, e = .returned (.tuple #[.agg #[.slice a1 xs.length k1, .slice a2 ys.length k2], .int .i64 r]) ∧ OBd w.heap.size w'.heap.size w' a1 a2 xs ys ∧ Below w.heap.size w w'
def asX (p c h s : Int) (xs ys : List Int) (t : Stp) : List Int := if isB p c h s xs ys = true then (if legB p.toNat h s xs ys t = true then mvX xs t.1 t.2.1 1 else []) else []
def asY (p c h s : Int) (xs ys : List Int) (t : Stp) : List Int := if isB p c h s xs ys = true then (if legB p.toNat h s xs ys t = true then mvY p.toNat ys t.2.1 t.2.2.2 1 else []) else []
def asR (p c h s : Int) (xs ys : List Int) (t : Stp) : Int := if isB p c h s xs ys = true then (if legB p.toNat h s xs ys t = true then 0 else 5) else 1
theorem as_length (p c h s : Int) (xs ys : List Int) (t : Stp) : (asX p c h s xs ys t).length ≤ 1048576 ∧ (asY p c h s xs ys t).length ≤ 1048576 := by
  unfold asX asY
  split
  · rename_i g
    obtain ⟨p0, p1, k0, k1, k2, k3, N1, N2, hx, hy, s0, s1, s2, s3⟩ := isB_parts g
    split
    · rw [mvX_length, mvY_length]
      omega
    · simp
  · simp
theorem legB_places {P : Nat} {h s : Int} {xs ys : List Int} {t : Stp} (g : legB P h s xs ys t = true) : placesB (P : Int) t = true := by
  unfold legB at g
  simp only [Bool.and_eq_true] at g
  exact g.2.1
set_option maxRecDepth 8000 in
set_option maxHeartbeats 4000000 in
theorem applyStep_any (t : Stp) (p c h s : Int) (a1 a2 : Option Addr) (n1 n2 c1 c2 : Nat) (xs ys : List Int) (w : World) (h1 : xs.length = n1) (h2 : ys.length = n2) (l1 : n1 ≤ 1048576) (l2 : n2 ≤ 1048576) (r1 : IRow w a1 xs) (r2 : IRow w a2 ys) :
    Calls Try.prog 16 #[.agg #[.int .i64 p, .int .i64 c, .int .i64 h, .int .i64 s], .agg #[.slice a1 n1 c1, .slice a2 n2 c2], stV t] w (BoardGotN (asX p c h s xs ys t) (asY p c h s xs ys t) (asR p c h s xs ys t) w) := by
  unfold asX asY asR
  by_cases g : isB p c h s xs ys = true
  · rw [if_pos g, if_pos g, if_pos g]
    obtain ⟨p0, p1, k0, k1, k2, k3, N1, N2, hx, hy, s0, s1, s2, s3⟩ := isB_parts g
    obtain ⟨P, rfl⟩ := Int.eq_ofNat_of_zero_le (by omega : 0 ≤ p)
    rw [show (P : Int).toNat = P by simp]
    have hs6 := isB_sides g
    have hB := fun W (q1 : IRow W a1 xs) (q2 : IRow W a2 ys) => isBoard_any (P : Int) c h s a1 a2 n1 n2 c1 c2 xs ys W h1 h2 l1 l2 q1 q2
    simp only [g] at hB
    have HB := Lib.hid hB
    clear hB
    have hl0 := fun W f1 f2 B (q1 : Pays f1 B xs W) (q2 : Pays f2 B ys W) => isLegal_any P c h s f1 f2 B xs ys W (by omega) (by omega) (by omega) (by omega) hx hy q1 q2 (by omega) t
    cases gl : legB P h s xs ys t with
    | true =>
      rw [if_pos rfl, if_pos rfl, if_pos rfl]
      rw [gl] at hl0
      have hm0 := fun W f1 f2 B (q1 : Pays f1 B xs W) (q2 : Pays f2 B ys W) => moved_any P f1 f2 B xs ys W (by omega) (by omega) (by omega) (by omega) hx hy q1 q2 t 1 (by omega) (by omega) (legB_places gl)
      obtain ⟨X, hX⟩ : ∃ X, mvX xs t.1 t.2.1 1 = X := ⟨_, rfl⟩
      obtain ⟨Y, hY⟩ : ∃ Y, mvY P ys t.2.1 t.2.2.2 1 = Y := ⟨_, rfl⟩
      rw [hX, hY] at hm0
      rw [hX, hY]
      obtain ⟨ta, tb, td, tq⟩ := t
      have HL := Lib.hid hl0
      have HM := Lib.hid hm0
      clear hl0 hm0 hX hY gl
      obtain ⟨BV, BB, BS, BR, hb, hz⟩ := four_new w #[.int .i64 (P : Int), .int .i64 c, .int .i64 h, .int .i64 s] #[.slice a1 n1 c1, .slice a2 n2 c2] #[.int .i64 ta, .int .i64 tb, .int .i64 td, .bool tq] #[.slice none 0 0, .slice none 0 0] 25 28 30 28
      obtain ⟨x0, x1, x2, x3, xf, xl⟩ := BV.four
      obtain ⟨y0, y1, yf, yl⟩ := BB.two
      obtain ⟨s0, s1, s2, s3, sf, sl⟩ := BS.four
      obtain ⟨u0, u1, uf, ul⟩ := BR.two
      go_enter Try.func16, Try.ntmps16
      go_wp2_with (first | (go_at_call 57; refine (HB.out _ (r1.below hb) (r2.below hb)).mono ?_; rintro e w1 ⟨rfl, hb1⟩; obtain ⟨x0, x1, x2, x3, xf, xl⟩ := (BV.below hb1).four; obtain ⟨y0, y1, yf, yl⟩ := (BB.below hb1).two; obtain ⟨s0, s1, s2, s3, sf, sl⟩ := (BS.below hb1).four; obtain ⟨u0, u1, uf, ul⟩ := (BR.below hb1).two) | (go_at_call 58; refine (countsOf_any _ c h s a1 a2 n1 c1 n2 c2 xs ys _ h1 h2 (r1.below (chain hb hb1)) (r2.below (chain hb hb1))).mono ?_; rintro e w2 ⟨B, rfl, q1, q2, hb2⟩; obtain ⟨x0, x1, x2, x3, xf, xl⟩ := (BV.below (chain hb1 hb2)).four; obtain ⟨y0, y1, yf, yl⟩ := (BB.below (chain hb1 hb2)).two; obtain ⟨s0, s1, s2, s3, sf, sl⟩ := (BS.below (chain hb1 hb2)).four; obtain ⟨u0, u1, uf, ul⟩ := (BR.below (chain hb1 hb2)).two) | (go_at_call 59; refine (HL.out _ _ _ B (q1.below ((Below.refl w2.heap.size w2).alloc (Nat.le_refl _) _)) (q2.below ((Below.refl w2.heap.size w2).alloc (Nat.le_refl _) _))).mono ?_; rintro e w3 ⟨rfl, hb3⟩; obtain ⟨x0, x1, x2, x3, xf, xl⟩ := (BV.below (chain hb1 (chain hb2 (from_alloc hb3)))).four; obtain ⟨y0, y1, yf, yl⟩ := (BB.below (chain hb1 (chain hb2 (from_alloc hb3)))).two; obtain ⟨s0, s1, s2, s3, sf, sl⟩ := (BS.below (chain hb1 (chain hb2 (from_alloc hb3)))).four; obtain ⟨u0, u1, uf, ul⟩ := (BR.below (chain hb1 (chain hb2 (from_alloc hb3)))).two; obtain ⟨z0, z1, z2, zf, zl⟩ := ((Blk.new w2 #[.int .i64 (P : Int), fv 97 B, fv 98 B] 74).below hb3).tri) | (go_at_call 60; refine (HM.out _ _ _ B (q1.below (from_alloc hb3)) (q2.below (from_alloc hb3))).mono ?_; rintro e w4 ⟨g1, g2, rfl, gg1, gg2, R1, R2, hb4⟩; obtain ⟨x0, x1, x2, x3, xf, xl⟩ := (BV.below (chain hb1 (chain hb2 (chain (from_alloc hb3) hb4)))).four; obtain ⟨y0, y1, yf, yl⟩ := (BB.below (chain hb1 (chain hb2 (chain (from_alloc hb3) hb4)))).two; obtain ⟨s0, s1, s2, s3, sf, sl⟩ := (BS.below (chain hb1 (chain hb2 (chain (from_alloc hb3) hb4)))).four; obtain ⟨u0, u1, uf, ul⟩ := (BR.below (chain hb1 (chain hb2 (chain (from_alloc hb3) hb4)))).two))
      have hbz := chain hb (chain hb1 (chain hb2 (chain (from_alloc hb3) hb4)))
      have hl1 := R1.lt
      have hl2 := R2.lt
      have hsz := (chain hb (chain hb1 (chain hb2 (from_alloc hb3)))).size
      have hszb := (chain hb1 (chain hb2 (from_alloc hb3))).size
      refine bodyPost_ret (v := .tuple #[.agg #[.slice (some ⟨g1, 0, none⟩) X.length X.length, .slice (some ⟨g2, 0, none⟩) Y.length Y.length], .int .i64 0]) (by first | (simp [results, Try.results16, go_sem, u0, u1]; done) | (simp [results, Try.results16, go_sem, *]; done)) rfl ?_
      exact ⟨some ⟨g1, 0, none⟩, some ⟨g2, 0, none⟩, X.length, Y.length, rfl, .inr ⟨g1, g2, rfl, rfl, by omega, by omega, by simpa using hl1, by omega, by simpa using hl2, (R1.other (by omega)).other (by omega), (R2.other (by omega)).other (by omega)⟩, (hbz.setCell (by simp; omega) _).setCell (by simp; omega) _⟩
    | false =>
      rw [if_neg (by simp), if_neg (by simp), if_neg (by simp)]
      rw [gl] at hl0
      obtain ⟨ta, tb, td, tq⟩ := t
      have HL := Lib.hid hl0
      clear hl0 gl
      obtain ⟨BV, BB, BS, BR, hb, hz⟩ := four_new w #[.int .i64 (P : Int), .int .i64 c, .int .i64 h, .int .i64 s] #[.slice a1 n1 c1, .slice a2 n2 c2] #[.int .i64 ta, .int .i64 tb, .int .i64 td, .bool tq] #[.slice none 0 0, .slice none 0 0] 25 28 30 28
      obtain ⟨x0, x1, x2, x3, xf, xl⟩ := BV.four
      obtain ⟨y0, y1, yf, yl⟩ := BB.two
      obtain ⟨s0, s1, s2, s3, sf, sl⟩ := BS.four
      obtain ⟨u0, u1, uf, ul⟩ := BR.two
      go_enter Try.func16, Try.ntmps16
      go_wp2_with (first | (go_at_call 57; refine (HB.out _ (r1.below hb) (r2.below hb)).mono ?_; rintro e w1 ⟨rfl, hb1⟩; obtain ⟨x0, x1, x2, x3, xf, xl⟩ := (BV.below hb1).four; obtain ⟨y0, y1, yf, yl⟩ := (BB.below hb1).two; obtain ⟨s0, s1, s2, s3, sf, sl⟩ := (BS.below hb1).four; obtain ⟨u0, u1, uf, ul⟩ := (BR.below hb1).two) | (go_at_call 58; refine (countsOf_any _ c h s a1 a2 n1 c1 n2 c2 xs ys _ h1 h2 (r1.below (chain hb hb1)) (r2.below (chain hb hb1))).mono ?_; rintro e w2 ⟨B, rfl, q1, q2, hb2⟩; obtain ⟨x0, x1, x2, x3, xf, xl⟩ := (BV.below (chain hb1 hb2)).four; obtain ⟨y0, y1, yf, yl⟩ := (BB.below (chain hb1 hb2)).two; obtain ⟨s0, s1, s2, s3, sf, sl⟩ := (BS.below (chain hb1 hb2)).four; obtain ⟨u0, u1, uf, ul⟩ := (BR.below (chain hb1 hb2)).two) | (go_at_call 59; refine (HL.out _ _ _ B (q1.below ((Below.refl w2.heap.size w2).alloc (Nat.le_refl _) _)) (q2.below ((Below.refl w2.heap.size w2).alloc (Nat.le_refl _) _))).mono ?_; rintro e w3 ⟨rfl, hb3⟩; obtain ⟨x0, x1, x2, x3, xf, xl⟩ := (BV.below (chain hb1 (chain hb2 (from_alloc hb3)))).four; obtain ⟨y0, y1, yf, yl⟩ := (BB.below (chain hb1 (chain hb2 (from_alloc hb3)))).two; obtain ⟨s0, s1, s2, s3, sf, sl⟩ := (BS.below (chain hb1 (chain hb2 (from_alloc hb3)))).four; obtain ⟨u0, u1, uf, ul⟩ := (BR.below (chain hb1 (chain hb2 (from_alloc hb3)))).two))
      refine bodyPost_ret (v := .tuple #[.agg #[.slice none 0 0, .slice none 0 0], .int .i64 5]) (by first | (simp [results, Try.results16, go_sem, u0, u1]; done) | (simp [results, Try.results16, go_sem, *]; done)) rfl ?_
      exact ⟨none, none, 0, 0, rfl, .inl ⟨rfl, rfl, rfl, rfl⟩, ((chain hb (chain hb1 (chain hb2 (from_alloc hb3)))).setCell (by simp; omega) _).setCell (by simp; omega) _⟩
  · rw [if_neg g, if_neg g, if_neg g]
    replace g : isB p c h s xs ys = false := by simpa using g
    obtain ⟨ta, tb, td, tq⟩ := t
    have hB := fun W (q1 : IRow W a1 xs) (q2 : IRow W a2 ys) => isBoard_any p c h s a1 a2 n1 n2 c1 c2 xs ys W h1 h2 l1 l2 q1 q2
    simp only [g] at hB
    have HB := Lib.hid hB
    clear hB
    obtain ⟨BV, BB, BS, BR, hb, hz⟩ := four_new w #[.int .i64 p, .int .i64 c, .int .i64 h, .int .i64 s] #[.slice a1 n1 c1, .slice a2 n2 c2] #[.int .i64 ta, .int .i64 tb, .int .i64 td, .bool tq] #[.slice none 0 0, .slice none 0 0] 25 28 30 28
    obtain ⟨x0, x1, x2, x3, xf, xl⟩ := BV.four
    obtain ⟨y0, y1, yf, yl⟩ := BB.two
    obtain ⟨s0, s1, s2, s3, sf, sl⟩ := BS.four
    obtain ⟨u0, u1, uf, ul⟩ := BR.two
    go_enter Try.func16, Try.ntmps16
    go_wp2_with (go_at_call 57; refine (HB.out _ (r1.below hb) (r2.below hb)).mono ?_; rintro e w1 ⟨rfl, hb1⟩; obtain ⟨x0, x1, x2, x3, xf, xl⟩ := (BV.below hb1).four; obtain ⟨y0, y1, yf, yl⟩ := (BB.below hb1).two; obtain ⟨s0, s1, s2, s3, sf, sl⟩ := (BS.below hb1).four; obtain ⟨u0, u1, uf, ul⟩ := (BR.below hb1).two)
    refine bodyPost_ret (v := .tuple #[.agg #[.slice none 0 0, .slice none 0 0], .int .i64 1]) (by first | (simp [results, Try.results16, go_sem, u0, u1]; done) | (simp [results, Try.results16, go_sem, *]; done)) rfl ?_
    exact ⟨none, none, 0, 0, rfl, .inl ⟨rfl, rfl, rfl, rfl⟩, ((chain hb hb1).setCell (by simp; omega) _).setCell (by simp; omega) _⟩
end Go.Proofs.Ytjglempkmenacaa
