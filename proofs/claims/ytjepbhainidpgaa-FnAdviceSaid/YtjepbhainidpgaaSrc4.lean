/- The model's draws of variants, sometimes one that is not valid. -/
import Derived.Test.YtjepbhainidpgaaSrc3
namespace Go.Proofs.Ytjepbhainidpgaa
open Go.ChangeShapes Go.WideShapes Go.ChangeAt Go.RowKit
set_option linter.unusedVariables false
set_option linter.unusedSimpArgs false
set_option maxHeartbeats 1000000 in
theorem drawAny_any (B g : Nat) (a : Option Addr) (len cap : Nat) (w : World) (hS : Src B w g a len cap) :
    Calls Try.prog 88 #[.pointer (some ⟨g, 0, none⟩)] w (VarPost B g a len cap w) := by
  have hl := hS.lt
  have hBg := hS.base
  go_enter Try.func88, Try.ntmps88
  go_wp2_with fail
  have B0 := Blk.new w #[.int .i64 0, .int .i64 0, .int .i64 0, .int .i64 0] 26
  have hG : w.grownBy (w.alloc (.cells #[.int .i64 0, .int .i64 0, .int .i64 0, .int .i64 0] 26)) (some g) := World.grownBy_alloc w _ _
  refine (drawValid_any B g a len cap _ (hS.alloc _)).mono ?_
  rintro e w1 ⟨p, c, h, s, rfl, bp, bc, bh, bs, hS, hg⟩
  replace B0 := B0.grown hg (by omega)
  replace hG := grown_trans hG hg
  clear hg
  have Bv := Blk.new w1 #[.int .i64 p, .int .i64 c, .int .i64 h, .int .i64 s] 26
  have hz1 := B0.lt
  have hl1 := hS.lt
  go_wp2_with fail
  refine (next_any B g a len cap 40 _ (hS.alloc _) (by omega)).mono ?_
  rintro e w2 ⟨r2, rfl, q2, u2, hS, hg⟩
  replace B0 := (B0.alloc _).grown hg (by omega)
  replace Bv := (Bv).grown hg (by omega)
  replace hG := grown_trans (grown_alloc hG _) hg
  clear hg
  rcases (by omega : r2 = 0 ∨ r2 = 1 ∨ r2 = 2 ∨ r2 = 3 ∨ 4 ≤ r2) with rfl | rfl | rfl | rfl | hr
  · have Ba := Blk.new w2 #[.int .i64 1, .int .i64 25, .int .i64 (-1), .int .i64 24] 2
    have hl2 := hS.lt
    have hv2 := Bv.lt
    have h02 := B0.lt
    go_wp2_with fail
    refine (next_any B g a len cap 4 _ (hS.alloc _) (by omega)).mono ?_
    rintro e w3 ⟨r3, rfl, q3, u3, hS, hg⟩
    replace B0 := (B0.alloc _).grown hg (by omega)
    replace Bv := (Bv.alloc _).grown hg (by omega)
    replace Ba := (Ba).grown hg (by omega)
    replace hG := grown_trans (grown_alloc hG _) hg
    clear hg
    obtain ⟨z0, z1, z2, z3, zf, zl⟩ := Ba.four
    rcases (by omega : r3 = 0 ∨ r3 = 1 ∨ r3 = 2 ∨ r3 = 3) with rfl | rfl | rfl | rfl
    · skip
      have hne : w1.heap.size ≠ w.heap.size := by omega
      have hne' : w.heap.size ≠ w1.heap.size := by omega
      obtain ⟨y0, y1, y2, y3, yf, yl⟩ := B0.four
      obtain ⟨x0, x1, x2, x3, xf, xl⟩ := Bv.four
      go_wp2_with fail
      refine bodyPost_ret (v := .agg #[.int .i64 (1), .int .i64 (c), .int .i64 (h), .int .i64 (s)]) (by simp [results, Try.results88, go_sem, y0, y1, y2, y3]) rfl ?_
      exact ⟨_, _, _, _, rfl, by omega, by omega, by omega, by omega, (((((hS.set (by omega) (by omega)).set (by omega) (by omega)).set (by omega) (by omega)).set (by omega) (by omega)).set (by omega) (by omega)), (grown_new (grown_new (grown_new (grown_new (grown_new hG (by omega)) (by omega)) (by omega)) (by omega)) (by omega))⟩
    · skip
      have hne : w1.heap.size ≠ w.heap.size := by omega
      have hne' : w.heap.size ≠ w1.heap.size := by omega
      obtain ⟨y0, y1, y2, y3, yf, yl⟩ := B0.four
      obtain ⟨x0, x1, x2, x3, xf, xl⟩ := Bv.four
      go_wp2_with fail
      refine bodyPost_ret (v := .agg #[.int .i64 (25), .int .i64 (c), .int .i64 (h), .int .i64 (s)]) (by simp [results, Try.results88, go_sem, y0, y1, y2, y3]) rfl ?_
      exact ⟨_, _, _, _, rfl, by omega, by omega, by omega, by omega, (((((hS.set (by omega) (by omega)).set (by omega) (by omega)).set (by omega) (by omega)).set (by omega) (by omega)).set (by omega) (by omega)), (grown_new (grown_new (grown_new (grown_new (grown_new hG (by omega)) (by omega)) (by omega)) (by omega)) (by omega))⟩
    · skip
      have hne : w1.heap.size ≠ w.heap.size := by omega
      have hne' : w.heap.size ≠ w1.heap.size := by omega
      obtain ⟨y0, y1, y2, y3, yf, yl⟩ := B0.four
      obtain ⟨x0, x1, x2, x3, xf, xl⟩ := Bv.four
      go_wp2_with fail
      refine bodyPost_ret (v := .agg #[.int .i64 (-1), .int .i64 (c), .int .i64 (h), .int .i64 (s)]) (by simp [results, Try.results88, go_sem, y0, y1, y2, y3]) rfl ?_
      exact ⟨_, _, _, _, rfl, by omega, by omega, by omega, by omega, (((((hS.set (by omega) (by omega)).set (by omega) (by omega)).set (by omega) (by omega)).set (by omega) (by omega)).set (by omega) (by omega)), (grown_new (grown_new (grown_new (grown_new (grown_new hG (by omega)) (by omega)) (by omega)) (by omega)) (by omega))⟩
    · skip
      have hne : w1.heap.size ≠ w.heap.size := by omega
      have hne' : w.heap.size ≠ w1.heap.size := by omega
      obtain ⟨y0, y1, y2, y3, yf, yl⟩ := B0.four
      obtain ⟨x0, x1, x2, x3, xf, xl⟩ := Bv.four
      go_wp2_with fail
      refine bodyPost_ret (v := .agg #[.int .i64 (24), .int .i64 (c), .int .i64 (h), .int .i64 (s)]) (by simp [results, Try.results88, go_sem, y0, y1, y2, y3]) rfl ?_
      exact ⟨_, _, _, _, rfl, by omega, by omega, by omega, by omega, (((((hS.set (by omega) (by omega)).set (by omega) (by omega)).set (by omega) (by omega)).set (by omega) (by omega)).set (by omega) (by omega)), (grown_new (grown_new (grown_new (grown_new (grown_new hG (by omega)) (by omega)) (by omega)) (by omega)) (by omega))⟩
  · go_wp2_with fail
    refine (next_any B g a len cap 2 _ hS (by omega)).mono ?_
    rintro e w3 ⟨r3, rfl, q3, u3, hS, hg⟩
    replace B0 := (B0).grown hg (by omega)
    replace Bv := (Bv).grown hg (by omega)
    replace hG := grown_trans (hG) hg
    clear hg
    have hne : w1.heap.size ≠ w.heap.size := by omega
    have hne' : w.heap.size ≠ w1.heap.size := by omega
    obtain ⟨y0, y1, y2, y3, yf, yl⟩ := B0.four
    obtain ⟨x0, x1, x2, x3, xf, xl⟩ := Bv.four
    go_wp2_with fail
    refine bodyPost_ret (v := .agg #[.int .i64 (p), .int .i64 (16 * r3), .int .i64 (h), .int .i64 (s)]) (by simp [results, Try.results88, go_sem, y0, y1, y2, y3]) rfl ?_
    exact ⟨_, _, _, _, rfl, by omega, by omega, by omega, by omega, (((((hS.set (by omega) (by omega)).set (by omega) (by omega)).set (by omega) (by omega)).set (by omega) (by omega)).set (by omega) (by omega)), (grown_new (grown_new (grown_new (grown_new (grown_new hG (by omega)) (by omega)) (by omega)) (by omega)) (by omega))⟩
  · skip
    have hne : w1.heap.size ≠ w.heap.size := by omega
    have hne' : w.heap.size ≠ w1.heap.size := by omega
    obtain ⟨y0, y1, y2, y3, yf, yl⟩ := B0.four
    obtain ⟨x0, x1, x2, x3, xf, xl⟩ := Bv.four
    go_wp2_with fail
    refine bodyPost_ret (v := .agg #[.int .i64 (p), .int .i64 (c), .int .i64 (p + 1), .int .i64 (s)]) (by simp [results, Try.results88, go_sem, y0, y1, y2, y3]) rfl ?_
    exact ⟨_, _, _, _, rfl, by omega, by omega, by omega, by omega, (((((hS.set (by omega) (by omega)).set (by omega) (by omega)).set (by omega) (by omega)).set (by omega) (by omega)).set (by omega) (by omega)), (grown_new (grown_new (grown_new (grown_new (grown_new hG (by omega)) (by omega)) (by omega)) (by omega)) (by omega))⟩
  · go_wp2_with fail
    refine (next_any B g a len cap 2 _ hS (by omega)).mono ?_
    rintro e w3 ⟨r3, rfl, q3, u3, hS, hg⟩
    replace B0 := (B0).grown hg (by omega)
    replace Bv := (Bv).grown hg (by omega)
    replace hG := grown_trans (hG) hg
    clear hg
    have hne : w1.heap.size ≠ w.heap.size := by omega
    have hne' : w.heap.size ≠ w1.heap.size := by omega
    obtain ⟨y0, y1, y2, y3, yf, yl⟩ := B0.four
    obtain ⟨x0, x1, x2, x3, xf, xl⟩ := Bv.four
    go_wp2_with fail
    refine bodyPost_ret (v := .agg #[.int .i64 (p), .int .i64 (c), .int .i64 (h), .int .i64 (7 * r3)]) (by simp [results, Try.results88, go_sem, y0, y1, y2, y3]) rfl ?_
    exact ⟨_, _, _, _, rfl, by omega, by omega, by omega, by omega, (((((hS.set (by omega) (by omega)).set (by omega) (by omega)).set (by omega) (by omega)).set (by omega) (by omega)).set (by omega) (by omega)), (grown_new (grown_new (grown_new (grown_new (grown_new hG (by omega)) (by omega)) (by omega)) (by omega)) (by omega))⟩
  · have f0 : (r2 == 0) = false := by rw [beq_eq_false_iff_ne]; omega
    have f1 : (r2 == 1) = false := by rw [beq_eq_false_iff_ne]; omega
    have f2 : (r2 == 2) = false := by rw [beq_eq_false_iff_ne]; omega
    have f3 : (r2 == 3) = false := by rw [beq_eq_false_iff_ne]; omega
    have hne : w1.heap.size ≠ w.heap.size := by omega
    have hne' : w.heap.size ≠ w1.heap.size := by omega
    obtain ⟨y0, y1, y2, y3, yf, yl⟩ := B0.four
    obtain ⟨x0, x1, x2, x3, xf, xl⟩ := Bv.four
    go_wp2_with fail
    refine bodyPost_ret (v := .agg #[.int .i64 (p), .int .i64 (c), .int .i64 (h), .int .i64 (s)]) (by simp [results, Try.results88, go_sem, y0, y1, y2, y3]) rfl ?_
    exact ⟨_, _, _, _, rfl, by omega, by omega, by omega, by omega, ((((hS.set (by omega) (by omega)).set (by omega) (by omega)).set (by omega) (by omega)).set (by omega) (by omega)), (grown_new (grown_new (grown_new (grown_new hG (by omega)) (by omega)) (by omega)) (by omega))⟩
end Go.Proofs.Ytjepbhainidpgaa
