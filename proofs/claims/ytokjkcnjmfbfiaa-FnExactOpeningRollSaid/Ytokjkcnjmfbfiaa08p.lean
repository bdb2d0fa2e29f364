/- Contract of the program on the game behind an opening roll. -/
import Derived.Test.Ytokjkcnjmfbfiaa08i
import Derived.Test.YtokjkcnjmfbfiaaSwapI
import Derived.Test.Ytokjkcnjmfbfiaa07a
namespace Go.Proofs.Ytokjkcnjmfbfiaa
open Go.ChangeShapes Go.WideShapes Go.ChangeAt Go.RowKit
set_option linter.unusedVariables false
set_option linter.unusedSimpArgs false
set_option maxRecDepth 4000

set_option maxRecDepth 8000 in
set_option maxHeartbeats 2000000 in
theorem opened_any (P : Nat) (c h s : Int) (a1 a2 : Option Addr) (n1 n2 c1 c2 : Nat) (xs ys : List Int) (pl ra rb ph wi re tu : Int) (fa fb : Int) (w : World) (p1 : P ≤ 24) (h1 : xs.length = P + 1) (h2 : ys.length = P + 1) (e1 : xs.length = n1) (e2 : ys.length = n2) (r1 : IRow w a1 xs) (r2 : IRow w a2 ys) :
    Calls Try.prog 99 #[.agg #[.int .i64 (P : Int), .int .i64 c, .int .i64 h, .int .i64 s], .agg #[.slice a1 n1 c1, .slice a2 n2 c2, .int .i64 pl, .int .i64 ra, .int .i64 rb, .int .i64 ph, .int .i64 wi, .int .i64 re, .int .i64 tu], .int .i64 fa, .int .i64 fb] w (GameOwn (if fa < fb then ys else xs) (if fa < fb then xs else ys) (P + 1) (P + 1) (if fa < fb then 1 else 0) (prR fa fb).1 (prR fa fb).2 2 0 0 0 w) := by
  have hRF := fun W => rollOfFaces_any fa fb W
  obtain ⟨ra', hra⟩ : ∃ q, (prR fa fb).1 = q := ⟨_, rfl⟩
  obtain ⟨rb', hrb⟩ : ∃ q, (prR fa fb).2 = q := ⟨_, rfl⟩
  rw [hra, hrb] at hRF ⊢
  have HRF := Lib.hid hRF
  clear hRF hra hrb
  obtain ⟨BV, BG, BO, hb, hz⟩ := three_new w #[.int .i64 (P : Int), .int .i64 c, .int .i64 h, .int .i64 s] #[.slice a1 n1 c1, .slice a2 n2 c2, .int .i64 pl, .int .i64 ra, .int .i64 rb, .int .i64 ph, .int .i64 wi, .int .i64 re, .int .i64 tu] #[.slice none 0 0, .slice none 0 0, .int .i64 0, .int .i64 0, .int .i64 0, .int .i64 0, .int .i64 0, .int .i64 0, .int .i64 0] 32 70 70
  replace r1 := r1.below hb
  replace r2 := r2.below hb
  by_cases hgt : fa < fb
  · rw [if_pos hgt, if_pos hgt, if_pos hgt]
    have f0 : decide (fa < fb) = true := decide_eq_true hgt
    clear hgt
    go_enter Try.func99, Try.ntmps99
    obtain ⟨x0, x1, x2, x3, xf, xl⟩ := BV.four
    obtain ⟨ga0, ga1, ga2, ga3, ga4, ga5, ga6, ga7, ga8, gaf, gal⟩ := BG.nine
    go_wp2_with fail
    clear x0 x1 x2 x3 xf xl
    clear ga0 ga1 ga2 ga3 ga4 ga5 ga6 ga7 ga8 gaf gal
    generalize (((w.alloc (.cells #[.int .i64 (P : Int), .int .i64 c, .int .i64 h, .int .i64 s] 32)).alloc (.cells #[.slice a1 n1 c1, .slice a2 n2 c2, .int .i64 pl, .int .i64 ra, .int .i64 rb, .int .i64 ph, .int .i64 wi, .int .i64 re, .int .i64 tu] 70)).alloc (.cells #[.slice none 0 0, .slice none 0 0, .int .i64 0, .int .i64 0, .int .i64 0, .int .i64 0, .int .i64 0, .int .i64 0, .int .i64 0] 70)) = v0 at *
    refine (countsOf_any (P : Int) c h s a1 a2 n1 c1 n2 c2 xs ys _ e1 e2 r1 r2).mono ?_
    rintro e w1 ⟨B, rfl, q1, q2, hb1⟩
    have hz1 := hb1.size
    replace BO := BO.below hb1
    replace hb := chain hb hb1
    clear BV BG r1 r2 hb1
    go_wp2_with fail
    have hal : Below w1.heap.size w1 (w1.alloc (.cells #[.int .i64 (P : Int), fv 157 B, fv 158 B] 151)) := (Below.refl _ _).alloc (Nat.le_refl _) _
    have BT := Blk.new w1 #[.int .i64 (P : Int), fv 157 B, fv 158 B] 151
    replace BO := BO.below hal
    replace hb := chain hb hal
    replace q1 := q1.below hal
    replace q2 := q2.below hal
    have hz2 : w1.heap.size + 1 ≤ (w1.alloc (.cells #[.int .i64 (P : Int), fv 157 B, fv 158 B] 151)).heap.size := by simp
    clear hal
    generalize (w1.alloc (.cells #[.int .i64 (P : Int), fv 157 B, fv 158 B] 151)) = v1 at *
    refine (board_any P _ _ _ _ xs ys _ p1 h1 h2 q1 q2).mono ?_
    rintro e w2 ⟨g1, g2, rfl, hg1, hg2, R1, R2, hb2⟩
    have hz3 := hb2.size
    have hl1 := R1.lt
    have hl2 := R2.lt
    replace BO := BO.below hb2
    replace BT := BT.below hb2
    replace hb := chain hb hb2
    replace q1 := q1.below hb2
    replace q2 := q2.below hb2
    clear hb2
    rw [h1, h2]
    go_wp2_with fail
    refine (HRF.out _).mono ?_
    rintro e w3 ⟨rfl, hb3⟩
    have hz4 := hb3.size
    replace BO := BO.below hb3
    replace BT := BT.below hb3
    replace hb := chain hb hb3
    replace q1 := q1.below hb3
    replace q2 := q2.below hb3
    replace R1 := R1.below hb3
    replace R2 := R2.below hb3
    clear hb3
    obtain ⟨x0, x1, x2, xf, xl⟩ := BT.tri
    go_wp2_with fail
    clear x0 x1 x2 xf xl
    have hal : Below w3.heap.size w3 (w3.alloc (.cells #[.slice (some ⟨g1, 0, none⟩) (P + 1) (P + 1), .slice (some ⟨g2, 0, none⟩) (P + 1) (P + 1), .int .i64 0, .int .i64 ra', .int .i64 rb', .int .i64 2, .int .i64 0, .int .i64 0, .int .i64 0] 70)) := (Below.refl _ _).alloc (Nat.le_refl _) _
    have BN := Blk.new w3 #[.slice (some ⟨g1, 0, none⟩) (P + 1) (P + 1), .slice (some ⟨g2, 0, none⟩) (P + 1) (P + 1), .int .i64 0, .int .i64 ra', .int .i64 rb', .int .i64 2, .int .i64 0, .int .i64 0, .int .i64 0] 70
    replace BO := BO.below hal
    replace hb := chain hb hal
    replace R1 := R1.below hal
    replace R2 := R2.below hal
    have hz5 : w3.heap.size + 1 ≤ (w3.alloc (.cells #[.slice (some ⟨g1, 0, none⟩) (P + 1) (P + 1), .slice (some ⟨g2, 0, none⟩) (P + 1) (P + 1), .int .i64 0, .int .i64 ra', .int .i64 rb', .int .i64 2, .int .i64 0, .int .i64 0, .int .i64 0] 70)).heap.size := by simp
    replace q1 := q1.below hal
    replace q2 := q2.below hal
    clear hal BT
    generalize (w3.alloc (.cells #[.slice (some ⟨g1, 0, none⟩) (P + 1) (P + 1), .slice (some ⟨g2, 0, none⟩) (P + 1) (P + 1), .int .i64 0, .int .i64 ra', .int .i64 rb', .int .i64 2, .int .i64 0, .int .i64 0, .int .i64 0] 70)) = v2 at *
    refine (swapped_any (P : Int) _ _ _ _ _).mono ?_
    rintro e w4 ⟨rfl, hb4⟩
    have hz6 := hb4.size
    replace BO := BO.below hb4
    replace BN := BN.below hb4
    replace hb := chain hb hb4
    replace q1 := q1.below hb4
    replace q2 := q2.below hb4
    clear hb4 R1 R2
    go_wp2_with fail
    refine (board_any P _ _ _ _ ys xs _ p1 h2 h1 q2 q1).mono ?_
    rintro e w5 ⟨g3, g4, rfl, hg3, hg4, R3, R4, hb5⟩
    have hz7 := hb5.size
    have hl3 := R3.lt
    have hl4 := R4.lt
    replace BO := BO.below hb5
    replace BN := BN.below hb5
    replace hb := chain hb hb5
    clear hb5 q1 q2
    rw [h1, h2]
    have hlN := BN.lt
    have dd0 : w3.heap.size ≠ w.heap.size + 1 + 1 := by omega
    have dd1 : w.heap.size + 1 + 1 ≠ w3.heap.size := by omega
    have dd2 : w3.heap.size ≠ w.heap.size + 2 := by omega
    have dd3 : w.heap.size + 2 ≠ w3.heap.size := by omega
    have dd4 : w3.heap.size ≠ w1.heap.size := by omega
    have dd5 : w1.heap.size ≠ w3.heap.size := by omega
    obtain ⟨y0, y1, y2, y3, y4, y5, y6, y7, y8, yf, yl⟩ := BN.nine
    obtain ⟨go0, go1, go2, go3, go4, go5, go6, go7, go8, gof, gol⟩ := BO.nine
    go_wp2_with fail
    clear go0 go1 go2 go3 go4 go5 go6 go7 go8 gof gol y0 y1 y2 y3 y4 y5 y6 y7 y8 yf yl
    have MN := BO.farG3 (B := w3.heap.size) (by omega) (.slice (some ⟨g3, 0, none⟩) (P + 1) (P + 1)) (.slice (some ⟨g4, 0, none⟩) (P + 1) (P + 1)) (.int .i64 1)
    have T3 := R3.farG3 (B := w3.heap.size) (by omega) (.slice (some ⟨g3, 0, none⟩) (P + 1) (P + 1)) (.slice (some ⟨g4, 0, none⟩) (P + 1) (P + 1)) (.int .i64 1)
    have T4 := R4.farG3 (B := w3.heap.size) (by omega) (.slice (some ⟨g3, 0, none⟩) (P + 1) (P + 1)) (.slice (some ⟨g4, 0, none⟩) (P + 1) (P + 1)) (.int .i64 1)
    have hT := Below.farG3 hb (B := w3.heap.size) (by omega) (.slice (some ⟨g3, 0, none⟩) (P + 1) (P + 1)) (.slice (some ⟨g4, 0, none⟩) (P + 1) (P + 1)) (.int .i64 1)
    clear BO hb R3 R4
    generalize (((w5.setCell ⟨w3.heap.size, 0, none⟩ (.slice (some ⟨g3, 0, none⟩) (P + 1) (P + 1))).setCell ⟨w3.heap.size, 1, none⟩ (.slice (some ⟨g4, 0, none⟩) (P + 1) (P + 1))).setCell ⟨w3.heap.size, 2, none⟩ (.int .i64 1)) = w6 at *
    have BO := MN
    have hb := hT
    have MO := (BO.setG9 (.slice (some ⟨g3, 0, none⟩) (P + 1) (P + 1)) (.slice (some ⟨g4, 0, none⟩) (P + 1) (P + 1)) (.int .i64 1) (.int .i64 ra') (.int .i64 rb') (.int .i64 2) (.int .i64 0) (.int .i64 0) (.int .i64 0))
    have M1 := (T3.farG9 (B := w.heap.size + 1 + 1) (by omega) (.slice (some ⟨g3, 0, none⟩) (P + 1) (P + 1)) (.slice (some ⟨g4, 0, none⟩) (P + 1) (P + 1)) (.int .i64 1) (.int .i64 ra') (.int .i64 rb') (.int .i64 2) (.int .i64 0) (.int .i64 0) (.int .i64 0))
    have M2 := (T4.farG9 (B := w.heap.size + 1 + 1) (by omega) (.slice (some ⟨g3, 0, none⟩) (P + 1) (P + 1)) (.slice (some ⟨g4, 0, none⟩) (P + 1) (P + 1)) (.int .i64 1) (.int .i64 ra') (.int .i64 rb') (.int .i64 2) (.int .i64 0) (.int .i64 0) (.int .i64 0))
    have hM0 := Below.farG9 hb (B := w.heap.size + 1 + 1) (by omega) (.slice (some ⟨g3, 0, none⟩) (P + 1) (P + 1)) (.slice (some ⟨g4, 0, none⟩) (P + 1) (P + 1)) (.int .i64 1) (.int .i64 ra') (.int .i64 rb') (.int .i64 2) (.int .i64 0) (.int .i64 0) (.int .i64 0)
    have hM := hM0
    clear BO hb T3 T4 hM0 BN
    generalize (((((((((w6.setCell ⟨(w.heap.size + 1 + 1), 0, none⟩ (.slice (some ⟨g3, 0, none⟩) (P + 1) (P + 1))).setCell ⟨(w.heap.size + 1 + 1), 1, none⟩ (.slice (some ⟨g4, 0, none⟩) (P + 1) (P + 1))).setCell ⟨(w.heap.size + 1 + 1), 2, none⟩ (.int .i64 1)).setCell ⟨(w.heap.size + 1 + 1), 3, none⟩ (.int .i64 ra')).setCell ⟨(w.heap.size + 1 + 1), 4, none⟩ (.int .i64 rb')).setCell ⟨(w.heap.size + 1 + 1), 5, none⟩ (.int .i64 2)).setCell ⟨(w.heap.size + 1 + 1), 6, none⟩ (.int .i64 0)).setCell ⟨(w.heap.size + 1 + 1), 7, none⟩ (.int .i64 0)).setCell ⟨(w.heap.size + 1 + 1), 8, none⟩ (.int .i64 0)) = we at *
    obtain ⟨gO, hgO⟩ : ∃ gO, w.heap.size + 1 + 1 = gO := ⟨_, rfl⟩
    rw [hgO] at MO ⊢
    clear hgO
    obtain ⟨go0, go1, go2, go3, go4, go5, go6, go7, go8, gof, gol⟩ := MO.nine
    refine bodyPost_ret (v := .agg #[.slice (some ⟨g3, 0, none⟩) (P + 1) (P + 1), .slice (some ⟨g4, 0, none⟩) (P + 1) (P + 1), .int .i64 1, .int .i64 ra', .int .i64 rb', .int .i64 2, .int .i64 0, .int .i64 0, .int .i64 0]) (by simp [results, Try.results99, go_sem, go0, go1, go2, go3, go4, go5, go6, go7, go8]) rfl ?_
    exact ⟨g3, g4, rfl, by omega, by omega, by omega, M1, M2, hM⟩
  · rw [if_neg hgt, if_neg hgt, if_neg hgt]
    have f0 : decide (fa < fb) = false := decide_eq_false hgt
    clear hgt
    go_enter Try.func99, Try.ntmps99
    obtain ⟨x0, x1, x2, x3, xf, xl⟩ := BV.four
    obtain ⟨ga0, ga1, ga2, ga3, ga4, ga5, ga6, ga7, ga8, gaf, gal⟩ := BG.nine
    go_wp2_with fail
    clear x0 x1 x2 x3 xf xl
    clear ga0 ga1 ga2 ga3 ga4 ga5 ga6 ga7 ga8 gaf gal
    generalize (((w.alloc (.cells #[.int .i64 (P : Int), .int .i64 c, .int .i64 h, .int .i64 s] 32)).alloc (.cells #[.slice a1 n1 c1, .slice a2 n2 c2, .int .i64 pl, .int .i64 ra, .int .i64 rb, .int .i64 ph, .int .i64 wi, .int .i64 re, .int .i64 tu] 70)).alloc (.cells #[.slice none 0 0, .slice none 0 0, .int .i64 0, .int .i64 0, .int .i64 0, .int .i64 0, .int .i64 0, .int .i64 0, .int .i64 0] 70)) = v0 at *
    refine (countsOf_any (P : Int) c h s a1 a2 n1 c1 n2 c2 xs ys _ e1 e2 r1 r2).mono ?_
    rintro e w1 ⟨B, rfl, q1, q2, hb1⟩
    have hz1 := hb1.size
    replace BO := BO.below hb1
    replace hb := chain hb hb1
    clear BV BG r1 r2 hb1
    go_wp2_with fail
    have hal : Below w1.heap.size w1 (w1.alloc (.cells #[.int .i64 (P : Int), fv 157 B, fv 158 B] 151)) := (Below.refl _ _).alloc (Nat.le_refl _) _
    have BT := Blk.new w1 #[.int .i64 (P : Int), fv 157 B, fv 158 B] 151
    replace BO := BO.below hal
    replace hb := chain hb hal
    replace q1 := q1.below hal
    replace q2 := q2.below hal
    have hz2 : w1.heap.size + 1 ≤ (w1.alloc (.cells #[.int .i64 (P : Int), fv 157 B, fv 158 B] 151)).heap.size := by simp
    clear hal
    generalize (w1.alloc (.cells #[.int .i64 (P : Int), fv 157 B, fv 158 B] 151)) = v1 at *
    refine (board_any P _ _ _ _ xs ys _ p1 h1 h2 q1 q2).mono ?_
    rintro e w2 ⟨g1, g2, rfl, hg1, hg2, R1, R2, hb2⟩
    have hz3 := hb2.size
    have hl1 := R1.lt
    have hl2 := R2.lt
    replace BO := BO.below hb2
    replace BT := BT.below hb2
    replace hb := chain hb hb2
    replace q1 := q1.below hb2
    replace q2 := q2.below hb2
    clear hb2
    rw [h1, h2]
    go_wp2_with fail
    refine (HRF.out _).mono ?_
    rintro e w3 ⟨rfl, hb3⟩
    have hz4 := hb3.size
    replace BO := BO.below hb3
    replace BT := BT.below hb3
    replace hb := chain hb hb3
    replace q1 := q1.below hb3
    replace q2 := q2.below hb3
    replace R1 := R1.below hb3
    replace R2 := R2.below hb3
    clear hb3
    obtain ⟨x0, x1, x2, xf, xl⟩ := BT.tri
    have dd0 : w3.heap.size ≠ w.heap.size + 1 + 1 := by omega
    have dd1 : w.heap.size + 1 + 1 ≠ w3.heap.size := by omega
    have dd2 : w3.heap.size ≠ w.heap.size + 2 := by omega
    have dd3 : w.heap.size + 2 ≠ w3.heap.size := by omega
    have dd4 : w3.heap.size ≠ w1.heap.size := by omega
    have dd5 : w1.heap.size ≠ w3.heap.size := by omega
    obtain ⟨go0, go1, go2, go3, go4, go5, go6, go7, go8, gof, gol⟩ := BO.nine
    go_wp2_with fail
    clear x0 x1 x2 xf xl go0 go1 go2 go3 go4 go5 go6 go7 go8 gof gol
    have MO := (BO.setG9 (.slice (some ⟨g1, 0, none⟩) (P + 1) (P + 1)) (.slice (some ⟨g2, 0, none⟩) (P + 1) (P + 1)) (.int .i64 0) (.int .i64 ra') (.int .i64 rb') (.int .i64 2) (.int .i64 0) (.int .i64 0) (.int .i64 0)).alloc (.cells #[.slice (some ⟨g1, 0, none⟩) (P + 1) (P + 1), .slice (some ⟨g2, 0, none⟩) (P + 1) (P + 1), .int .i64 0, .int .i64 ra', .int .i64 rb', .int .i64 2, .int .i64 0, .int .i64 0, .int .i64 0] 70)
    have M1 := (R1.farG9 (B := w.heap.size + 1 + 1) (by omega) (.slice (some ⟨g1, 0, none⟩) (P + 1) (P + 1)) (.slice (some ⟨g2, 0, none⟩) (P + 1) (P + 1)) (.int .i64 0) (.int .i64 ra') (.int .i64 rb') (.int .i64 2) (.int .i64 0) (.int .i64 0) (.int .i64 0)).alloc (.cells #[.slice (some ⟨g1, 0, none⟩) (P + 1) (P + 1), .slice (some ⟨g2, 0, none⟩) (P + 1) (P + 1), .int .i64 0, .int .i64 ra', .int .i64 rb', .int .i64 2, .int .i64 0, .int .i64 0, .int .i64 0] 70)
    have M2 := (R2.farG9 (B := w.heap.size + 1 + 1) (by omega) (.slice (some ⟨g1, 0, none⟩) (P + 1) (P + 1)) (.slice (some ⟨g2, 0, none⟩) (P + 1) (P + 1)) (.int .i64 0) (.int .i64 ra') (.int .i64 rb') (.int .i64 2) (.int .i64 0) (.int .i64 0) (.int .i64 0)).alloc (.cells #[.slice (some ⟨g1, 0, none⟩) (P + 1) (P + 1), .slice (some ⟨g2, 0, none⟩) (P + 1) (P + 1), .int .i64 0, .int .i64 ra', .int .i64 rb', .int .i64 2, .int .i64 0, .int .i64 0, .int .i64 0] 70)
    have hM0 := Below.farG9 hb (B := w.heap.size + 1 + 1) (by omega) (.slice (some ⟨g1, 0, none⟩) (P + 1) (P + 1)) (.slice (some ⟨g2, 0, none⟩) (P + 1) (P + 1)) (.int .i64 0) (.int .i64 ra') (.int .i64 rb') (.int .i64 2) (.int .i64 0) (.int .i64 0) (.int .i64 0)
    have hM := hM0.alloc hM0.size (.cells #[.slice (some ⟨g1, 0, none⟩) (P + 1) (P + 1), .slice (some ⟨g2, 0, none⟩) (P + 1) (P + 1), .int .i64 0, .int .i64 ra', .int .i64 rb', .int .i64 2, .int .i64 0, .int .i64 0, .int .i64 0] 70)
    clear BO hb R1 R2 hM0 
    generalize ((((((((((w3.setCell ⟨(w.heap.size + 1 + 1), 0, none⟩ (.slice (some ⟨g1, 0, none⟩) (P + 1) (P + 1))).setCell ⟨(w.heap.size + 1 + 1), 1, none⟩ (.slice (some ⟨g2, 0, none⟩) (P + 1) (P + 1))).setCell ⟨(w.heap.size + 1 + 1), 2, none⟩ (.int .i64 0)).setCell ⟨(w.heap.size + 1 + 1), 3, none⟩ (.int .i64 ra')).setCell ⟨(w.heap.size + 1 + 1), 4, none⟩ (.int .i64 rb')).setCell ⟨(w.heap.size + 1 + 1), 5, none⟩ (.int .i64 2)).setCell ⟨(w.heap.size + 1 + 1), 6, none⟩ (.int .i64 0)).setCell ⟨(w.heap.size + 1 + 1), 7, none⟩ (.int .i64 0)).setCell ⟨(w.heap.size + 1 + 1), 8, none⟩ (.int .i64 0)).alloc (.cells #[.slice (some ⟨g1, 0, none⟩) (P + 1) (P + 1), .slice (some ⟨g2, 0, none⟩) (P + 1) (P + 1), .int .i64 0, .int .i64 ra', .int .i64 rb', .int .i64 2, .int .i64 0, .int .i64 0, .int .i64 0] 70)) = we at *
    obtain ⟨gO, hgO⟩ : ∃ gO, w.heap.size + 1 + 1 = gO := ⟨_, rfl⟩
    rw [hgO] at MO ⊢
    clear hgO
    obtain ⟨go0, go1, go2, go3, go4, go5, go6, go7, go8, gof, gol⟩ := MO.nine
    refine bodyPost_ret (v := .agg #[.slice (some ⟨g1, 0, none⟩) (P + 1) (P + 1), .slice (some ⟨g2, 0, none⟩) (P + 1) (P + 1), .int .i64 0, .int .i64 ra', .int .i64 rb', .int .i64 2, .int .i64 0, .int .i64 0, .int .i64 0]) (by simp [results, Try.results99, go_sem, go0, go1, go2, go3, go4, go5, go6, go7, go8]) rfl ?_
    exact ⟨g1, g2, rfl, by omega, by omega, by omega, M1, M2, hM⟩
end Go.Proofs.Ytokjkcnjmfbfiaa
