/- Contract of the model on the game behind an opening roll. -/
import Derived.Test.Ytokjkcnjmfbfiaa08m
import Derived.Test.Ytokjkcnjmfbfiaa08k
import Derived.Test.Ytokjkcnjmfbfiaa08i
import Derived.Test.YtokjkcnjmfbfiaaSwapS
import Derived.Test.Ytokjkcnjmfbfiaa07a
namespace Go.Proofs.Ytokjkcnjmfbfiaa
open Go.ChangeShapes Go.WideShapes Go.ChangeAt Go.RowKit
set_option linter.unusedVariables false
set_option linter.unusedSimpArgs false
set_option maxRecDepth 4000

theorem IRow.keepS {w : World} {a : Option Addr} {xs : List Int} (h : IRow w a xs) (g i : Nat) (v : Value) (hf : ∀ b o s, a = some ⟨b, o, s⟩ → b < g) : IRow (w.setCell ⟨g, i, none⟩ v) a xs := by
  intro j hj
  obtain ⟨b, q, e, hc⟩ := h j hj
  have hne : b ≠ g := by have := hf b q none e; omega
  exact ⟨b, q, e, by rw [World.cell?_setCell_far _ _ _ _ (by simp; omega)]; exact hc⟩
theorem obd_own {lo hi : Nat} {w : World} {a1 a2 : Option Addr} {xs ys : List Int} (h : OBd lo hi w a1 a2 xs ys) (hx : xs ≠ []) : ∃ g1 g2, a1 = some ⟨g1, 0, none⟩ ∧ a2 = some ⟨g2, 0, none⟩ ∧ g1 ≠ g2 ∧ lo ≤ g1 ∧ g1 < hi ∧ lo ≤ g2 ∧ g2 < hi ∧ Row w g1 xs ∧ Row w g2 ys := by
  rcases h with ⟨_, _, e, _⟩ | h
  · exact absurd e hx
  · exact h
set_option maxRecDepth 8000 in
set_option maxHeartbeats 4000000 in
theorem l08Open_any (a1 a2 : Option Addr) (n c1 c2 : Nat) (xs ys : List Int) (pl ra rb ph wi re tu : Int) (fa fb : Int) (w : World) (h1 : xs.length = n) (h2 : ys.length = n) (l1 : 0 < n) (m1 : n ≤ 1048576) (r1 : IRow w a1 xs) (r2 : IRow w a2 ys) (u1 : ∀ b o s, a1 = some ⟨b, o, s⟩ → b < w.heap.size) (u2 : ∀ b o s, a2 = some ⟨b, o, s⟩ → b < w.heap.size) :
    Calls Try.prog 95 #[.agg #[.slice a1 n c1, .slice a2 n c2, .int .i64 pl, .int .i64 ra, .int .i64 rb, .int .i64 ph, .int .i64 wi, .int .i64 re, .int .i64 tu], .int .i64 fa, .int .i64 fb] w (GameOwnK (if fa < fb then ys else xs) (if fa < fb then xs else ys) n n (if fa < fb then 1 else pl) (if fa = fb then ra else (prR fa fb).1) (if fa = fb then rb else (prR fa fb).2) (if fa = fb then ph else 2) wi re tu w) := by
  have hP := fun W => l07Pair_any fa fb W
  obtain ⟨ra', hra⟩ : ∃ q, (prR fa fb).1 = q := ⟨_, rfl⟩
  obtain ⟨rb', hrb⟩ : ∃ q, (prR fa fb).2 = q := ⟨_, rfl⟩
  rw [hra, hrb] at hP ⊢
  have hC := fun (W : World) (r1 : IRow W a1 xs) (r2 : IRow W a2 ys) => l08Own_any a1 a2 n n c1 c2 xs ys pl ra rb ph wi re tu W h1 h2 l1 l1 m1 m1 r1 r2
  have hS := fun (W : World) (r1 : IRow W a1 xs) (r2 : IRow W a2 ys) => l02Swap_any a1 a2 n n c1 c2 xs ys W h1 h2 l1 l1 m1 m1 r1 r2
  have hny : ys ≠ [] := by intro e; rw [e] at h2; simp at h2; omega
  have HP := Lib.hid hP
  have HC := Lib.hid hC
  have HS := Lib.hid hS
  clear hP hC hS hra hrb
  obtain ⟨BG, BO, hb, hz⟩ := two_new' w #[.slice a1 n c1, .slice a2 n c2, .int .i64 pl, .int .i64 ra, .int .i64 rb, .int .i64 ph, .int .i64 wi, .int .i64 re, .int .i64 tu] #[.slice none 0 0, .slice none 0 0, .int .i64 0, .int .i64 0, .int .i64 0, .int .i64 0, .int .i64 0, .int .i64 0, .int .i64 0] 70 70
  replace r1 := r1.below hb
  replace r2 := r2.below hb
  rcases (by omega : fa = fb ∨ fb < fa ∨ fa < fb) with e | e | e
  · have f0 : (fa == fb) = true := by rw [beq_iff_eq]; exact e
    rw [if_neg (by omega), if_neg (by omega), if_neg (by omega), if_pos e, if_pos e, if_pos e]
    clear e HP HS u1 u2
    go_enter Try.func95, Try.ntmps95
    obtain ⟨ga0, ga1, ga2, ga3, ga4, ga5, ga6, ga7, ga8, gaf, gal⟩ := BG.nine
    go_wp2_with fail
    clear ga0 ga1 ga2 ga3 ga4 ga5 ga6 ga7 ga8 gaf gal
    generalize ((w.alloc (.cells #[.slice a1 n c1, .slice a2 n c2, .int .i64 pl, .int .i64 ra, .int .i64 rb, .int .i64 ph, .int .i64 wi, .int .i64 re, .int .i64 tu] 70)).alloc (.cells #[.slice none 0 0, .slice none 0 0, .int .i64 0, .int .i64 0, .int .i64 0, .int .i64 0, .int .i64 0, .int .i64 0, .int .i64 0] 70)) = v0 at *
    refine (HC.out _ r1 r2).mono ?_
    rintro e w1 ⟨b1, b2, k1, k2, rfl, hne, hq1, hq2, R1, R2, hb1⟩
    have hl1 := R1.lt
    have hl2 := R2.lt
    replace BG := BG.below hb1
    replace BO := BO.below hb1
    replace r1 := r1.below hb1
    replace r2 := r2.below hb1
    have hz_hb1 := hb1.size
    replace hb := chain hb hb1
    clear hb1
    have dd0 : w1.heap.size ≠ w.heap.size := by omega
    have dd1 : w.heap.size ≠ w1.heap.size := by omega
    have dd2 : w1.heap.size ≠ w.heap.size + 1 := by omega
    have dd3 : w.heap.size + 1 ≠ w1.heap.size := by omega
    obtain ⟨go0, go1, go2, go3, go4, go5, go6, go7, go8, gof, gol⟩ := BO.nine
    go_wp2_with fail
    clear go0 go1 go2 go3 go4 go5 go6 go7 go8 gof gol
    have MO := (BO.setG9 (.slice (some ⟨b1, 0, none⟩) n k1) (.slice (some ⟨b2, 0, none⟩) n k2) (.int .i64 pl) (.int .i64 ra) (.int .i64 rb) (.int .i64 ph) (.int .i64 wi) (.int .i64 re) (.int .i64 tu)).alloc (.cells #[.slice (some ⟨b1, 0, none⟩) n k1, .slice (some ⟨b2, 0, none⟩) n k2, .int .i64 pl, .int .i64 ra, .int .i64 rb, .int .i64 ph, .int .i64 wi, .int .i64 re, .int .i64 tu] 70)
    have M1 := (R1.farG9 (B := w.heap.size + 1) (by omega) (.slice (some ⟨b1, 0, none⟩) n k1) (.slice (some ⟨b2, 0, none⟩) n k2) (.int .i64 pl) (.int .i64 ra) (.int .i64 rb) (.int .i64 ph) (.int .i64 wi) (.int .i64 re) (.int .i64 tu)).alloc (.cells #[.slice (some ⟨b1, 0, none⟩) n k1, .slice (some ⟨b2, 0, none⟩) n k2, .int .i64 pl, .int .i64 ra, .int .i64 rb, .int .i64 ph, .int .i64 wi, .int .i64 re, .int .i64 tu] 70)
    have M2 := (R2.farG9 (B := w.heap.size + 1) (by omega) (.slice (some ⟨b1, 0, none⟩) n k1) (.slice (some ⟨b2, 0, none⟩) n k2) (.int .i64 pl) (.int .i64 ra) (.int .i64 rb) (.int .i64 ph) (.int .i64 wi) (.int .i64 re) (.int .i64 tu)).alloc (.cells #[.slice (some ⟨b1, 0, none⟩) n k1, .slice (some ⟨b2, 0, none⟩) n k2, .int .i64 pl, .int .i64 ra, .int .i64 rb, .int .i64 ph, .int .i64 wi, .int .i64 re, .int .i64 tu] 70)
    have hM0 := Below.farG9 hb (B := w.heap.size + 1) (by omega) (.slice (some ⟨b1, 0, none⟩) n k1) (.slice (some ⟨b2, 0, none⟩) n k2) (.int .i64 pl) (.int .i64 ra) (.int .i64 rb) (.int .i64 ph) (.int .i64 wi) (.int .i64 re) (.int .i64 tu)
    have hM := hM0.alloc hM0.size (.cells #[.slice (some ⟨b1, 0, none⟩) n k1, .slice (some ⟨b2, 0, none⟩) n k2, .int .i64 pl, .int .i64 ra, .int .i64 rb, .int .i64 ph, .int .i64 wi, .int .i64 re, .int .i64 tu] 70)
    clear BO hb R1 R2 hM0 
    generalize ((((((((((w1.setCell ⟨(w.heap.size + 1), 0, none⟩ (.slice (some ⟨b1, 0, none⟩) n k1)).setCell ⟨(w.heap.size + 1), 1, none⟩ (.slice (some ⟨b2, 0, none⟩) n k2)).setCell ⟨(w.heap.size + 1), 2, none⟩ (.int .i64 pl)).setCell ⟨(w.heap.size + 1), 3, none⟩ (.int .i64 ra)).setCell ⟨(w.heap.size + 1), 4, none⟩ (.int .i64 rb)).setCell ⟨(w.heap.size + 1), 5, none⟩ (.int .i64 ph)).setCell ⟨(w.heap.size + 1), 6, none⟩ (.int .i64 wi)).setCell ⟨(w.heap.size + 1), 7, none⟩ (.int .i64 re)).setCell ⟨(w.heap.size + 1), 8, none⟩ (.int .i64 tu)).alloc (.cells #[.slice (some ⟨b1, 0, none⟩) n k1, .slice (some ⟨b2, 0, none⟩) n k2, .int .i64 pl, .int .i64 ra, .int .i64 rb, .int .i64 ph, .int .i64 wi, .int .i64 re, .int .i64 tu] 70)) = we at *
    obtain ⟨gO, hgO⟩ : ∃ gO, (w.heap.size + 1) = gO := ⟨_, rfl⟩
    rw [hgO] at MO ⊢
    clear hgO
    obtain ⟨go0, go1, go2, go3, go4, go5, go6, go7, go8, gof, gol⟩ := MO.nine
    refine bodyPost_ret (v := .agg #[.slice (some ⟨b1, 0, none⟩) n k1, .slice (some ⟨b2, 0, none⟩) n k2, .int .i64 pl, .int .i64 ra, .int .i64 rb, .int .i64 ph, .int .i64 wi, .int .i64 re, .int .i64 tu]) (by simp [results, Try.results95, go_sem, go0, go1, go2, go3, go4, go5, go6, go7, go8]) rfl ?_
    exact ⟨b1, b2, _, _, rfl, by omega, by omega, by omega, M1, M2, hM⟩
  · have f0 : (fa == fb) = false := by rw [beq_eq_false_iff_ne]; omega
    have f1 : decide (fa < fb) = false := by rw [decide_eq_false_iff_not]; omega
    rw [if_neg (by omega), if_neg (by omega), if_neg (by omega), if_neg (by omega), if_neg (by omega), if_neg (by omega)]
    clear e HS u1 u2
    go_enter Try.func95, Try.ntmps95
    obtain ⟨ga0, ga1, ga2, ga3, ga4, ga5, ga6, ga7, ga8, gaf, gal⟩ := BG.nine
    go_wp2_with fail
    clear ga0 ga1 ga2 ga3 ga4 ga5 ga6 ga7 ga8 gaf gal
    generalize ((w.alloc (.cells #[.slice a1 n c1, .slice a2 n c2, .int .i64 pl, .int .i64 ra, .int .i64 rb, .int .i64 ph, .int .i64 wi, .int .i64 re, .int .i64 tu] 70)).alloc (.cells #[.slice none 0 0, .slice none 0 0, .int .i64 0, .int .i64 0, .int .i64 0, .int .i64 0, .int .i64 0, .int .i64 0, .int .i64 0] 70)) = v0 at *
    refine (HC.out _ r1 r2).mono ?_
    rintro e w1 ⟨b1, b2, k1, k2, rfl, hne, hq1, hq2, R1, R2, hb1⟩
    have hl1 := R1.lt
    have hl2 := R2.lt
    replace BG := BG.below hb1
    replace BO := BO.below hb1
    replace r1 := r1.below hb1
    replace r2 := r2.below hb1
    have hz_hb1 := hb1.size
    replace hb := chain hb hb1
    clear hb1
    have dd0 : w1.heap.size ≠ w.heap.size := by omega
    have dd1 : w.heap.size ≠ w1.heap.size := by omega
    have dd2 : w1.heap.size ≠ w.heap.size + 1 := by omega
    have dd3 : w.heap.size + 1 ≠ w1.heap.size := by omega
    obtain ⟨ga0, ga1, ga2, ga3, ga4, ga5, ga6, ga7, ga8, gaf, gal⟩ := BG.nine
    obtain ⟨go0, go1, go2, go3, go4, go5, go6, go7, go8, gof, gol⟩ := BO.nine
    go_wp2_with fail
    clear ga0 ga1 ga2 ga3 ga4 ga5 ga6 ga7 ga8 gaf gal
    clear go0 go1 go2 go3 go4 go5 go6 go7 go8 gof gol
    have hal : Below w1.heap.size w1 (w1.alloc (.cells #[.slice (some ⟨b1, 0, none⟩) n k1, .slice (some ⟨b2, 0, none⟩) n k2, .int .i64 pl, .int .i64 ra, .int .i64 rb, .int .i64 2, .int .i64 wi, .int .i64 re, .int .i64 tu] 70)) := (Below.refl _ _).alloc (Nat.le_refl _) _
    have BN := Blk.new w1 #[.slice (some ⟨b1, 0, none⟩) n k1, .slice (some ⟨b2, 0, none⟩) n k2, .int .i64 pl, .int .i64 ra, .int .i64 rb, .int .i64 2, .int .i64 wi, .int .i64 re, .int .i64 tu] 70
    have hza : w1.heap.size + 1 ≤ (w1.alloc (.cells #[.slice (some ⟨b1, 0, none⟩) n k1, .slice (some ⟨b2, 0, none⟩) n k2, .int .i64 pl, .int .i64 ra, .int .i64 rb, .int .i64 2, .int .i64 wi, .int .i64 re, .int .i64 tu] 70)).heap.size := by simp
    replace BG := BG.below hal
    replace BO := BO.below hal
    replace r1 := r1.below hal
    replace r2 := r2.below hal
    replace R1 := R1.below hal
    replace R2 := R2.below hal
    have hz_hal := hal.size
    replace hb := chain hb hal
    clear hal
    generalize (w1.alloc (.cells #[.slice (some ⟨b1, 0, none⟩) n k1, .slice (some ⟨b2, 0, none⟩) n k2, .int .i64 pl, .int .i64 ra, .int .i64 rb, .int .i64 2, .int .i64 wi, .int .i64 re, .int .i64 tu] 70)) = v2 at *
    refine (HP.out _).mono ?_
    rintro e w2 ⟨rfl, hb2⟩
    replace BG := BG.below hb2
    replace BO := BO.below hb2
    replace BN := BN.below hb2
    replace r1 := r1.below hb2
    replace r2 := r2.below hb2
    replace R1 := R1.below hb2
    replace R2 := R2.below hb2
    have hz_hb2 := hb2.size
    replace hb := chain hb hb2
    clear hb2
    obtain ⟨y0, y1, y2, y3, y4, y5, y6, y7, y8, yf, yl⟩ := BN.nine
    obtain ⟨go0, go1, go2, go3, go4, go5, go6, go7, go8, gof, gol⟩ := BO.nine
    go_wp2_with fail
    clear y0 y1 y2 y3 y4 y5 y6 y7 y8 yf yl
    clear go0 go1 go2 go3 go4 go5 go6 go7 go8 gof gol
    have MO := (BO.other (g := w1.heap.size) (o := 3) (v := .int .i64 ra') (by omega)).other (g := w1.heap.size) (o := 4) (v := .int .i64 rb') (by omega)
    have M1 := (R1.other (g := w1.heap.size) (o := 3) (v := .int .i64 ra') (by omega)).other (g := w1.heap.size) (o := 4) (v := .int .i64 rb') (by omega)
    have M2 := (R2.other (g := w1.heap.size) (o := 3) (v := .int .i64 ra') (by omega)).other (g := w1.heap.size) (o := 4) (v := .int .i64 rb') (by omega)
    have hT := (hb.setCell (p := ⟨w1.heap.size, 3, none⟩) (by simp; omega) (.int .i64 ra')).setCell (p := ⟨w1.heap.size, 4, none⟩) (by simp; omega) (.int .i64 rb')
    have hzt2 : ((w2.setCell ⟨w1.heap.size, 3, none⟩ (.int .i64 ra')).setCell ⟨w1.heap.size, 4, none⟩ (.int .i64 rb')).heap.size = w2.heap.size := by simp
    clear BO R1 R2 hb BN BG r1 r2
    generalize ((w2.setCell ⟨w1.heap.size, 3, none⟩ (.int .i64 ra')).setCell ⟨w1.heap.size, 4, none⟩ (.int .i64 rb')) = w5 at *
    have BO := MO
    have R1 := M1
    have R2 := M2
    have hb := hT
    clear MO M1 M2 hT
    have MO := (BO.setG9 (.slice (some ⟨b1, 0, none⟩) n k1) (.slice (some ⟨b2, 0, none⟩) n k2) (.int .i64 pl) (.int .i64 ra') (.int .i64 rb') (.int .i64 2) (.int .i64 wi) (.int .i64 re) (.int .i64 tu))
    have M1 := (R1.farG9 (B := w.heap.size + 1) (by omega) (.slice (some ⟨b1, 0, none⟩) n k1) (.slice (some ⟨b2, 0, none⟩) n k2) (.int .i64 pl) (.int .i64 ra') (.int .i64 rb') (.int .i64 2) (.int .i64 wi) (.int .i64 re) (.int .i64 tu))
    have M2 := (R2.farG9 (B := w.heap.size + 1) (by omega) (.slice (some ⟨b1, 0, none⟩) n k1) (.slice (some ⟨b2, 0, none⟩) n k2) (.int .i64 pl) (.int .i64 ra') (.int .i64 rb') (.int .i64 2) (.int .i64 wi) (.int .i64 re) (.int .i64 tu))
    have hM0 := Below.farG9 hb (B := w.heap.size + 1) (by omega) (.slice (some ⟨b1, 0, none⟩) n k1) (.slice (some ⟨b2, 0, none⟩) n k2) (.int .i64 pl) (.int .i64 ra') (.int .i64 rb') (.int .i64 2) (.int .i64 wi) (.int .i64 re) (.int .i64 tu)
    have hM := hM0
    clear BO hb R1 R2 hM0 
    generalize (((((((((w5.setCell ⟨(w.heap.size + 1), 0, none⟩ (.slice (some ⟨b1, 0, none⟩) n k1)).setCell ⟨(w.heap.size + 1), 1, none⟩ (.slice (some ⟨b2, 0, none⟩) n k2)).setCell ⟨(w.heap.size + 1), 2, none⟩ (.int .i64 pl)).setCell ⟨(w.heap.size + 1), 3, none⟩ (.int .i64 ra')).setCell ⟨(w.heap.size + 1), 4, none⟩ (.int .i64 rb')).setCell ⟨(w.heap.size + 1), 5, none⟩ (.int .i64 2)).setCell ⟨(w.heap.size + 1), 6, none⟩ (.int .i64 wi)).setCell ⟨(w.heap.size + 1), 7, none⟩ (.int .i64 re)).setCell ⟨(w.heap.size + 1), 8, none⟩ (.int .i64 tu)) = we at *
    obtain ⟨gO, hgO⟩ : ∃ gO, (w.heap.size + 1) = gO := ⟨_, rfl⟩
    rw [hgO] at MO ⊢
    clear hgO
    obtain ⟨go0, go1, go2, go3, go4, go5, go6, go7, go8, gof, gol⟩ := MO.nine
    refine bodyPost_ret (v := .agg #[.slice (some ⟨b1, 0, none⟩) n k1, .slice (some ⟨b2, 0, none⟩) n k2, .int .i64 pl, .int .i64 ra', .int .i64 rb', .int .i64 2, .int .i64 wi, .int .i64 re, .int .i64 tu]) (by simp [results, Try.results95, go_sem, go0, go1, go2, go3, go4, go5, go6, go7, go8]) rfl ?_
    exact ⟨b1, b2, k1, k2, rfl, by omega, by omega, by omega, M1, M2, hM⟩
  · have f0 : (fa == fb) = false := by rw [beq_eq_false_iff_ne]; omega
    have f1 : decide (fa < fb) = true := by rw [decide_eq_true_iff]; omega
    rw [if_pos (by omega), if_pos (by omega), if_pos (by omega), if_neg (by omega), if_neg (by omega), if_neg (by omega)]
    clear e
    go_enter Try.func95, Try.ntmps95
    obtain ⟨ga0, ga1, ga2, ga3, ga4, ga5, ga6, ga7, ga8, gaf, gal⟩ := BG.nine
    go_wp2_with fail
    clear ga0 ga1 ga2 ga3 ga4 ga5 ga6 ga7 ga8 gaf gal
    generalize ((w.alloc (.cells #[.slice a1 n c1, .slice a2 n c2, .int .i64 pl, .int .i64 ra, .int .i64 rb, .int .i64 ph, .int .i64 wi, .int .i64 re, .int .i64 tu] 70)).alloc (.cells #[.slice none 0 0, .slice none 0 0, .int .i64 0, .int .i64 0, .int .i64 0, .int .i64 0, .int .i64 0, .int .i64 0, .int .i64 0] 70)) = v0 at *
    refine (HC.out _ r1 r2).mono ?_
    rintro e w1 ⟨b1, b2, k1, k2, rfl, hne, hq1, hq2, R1, R2, hb1⟩
    have hl1 := R1.lt
    have hl2 := R2.lt
    replace BG := BG.below hb1
    replace BO := BO.below hb1
    replace r1 := r1.below hb1
    replace r2 := r2.below hb1
    have hz_hb1 := hb1.size
    replace hb := chain hb hb1
    clear hb1
    have dd0 : w1.heap.size ≠ w.heap.size := by omega
    have dd1 : w.heap.size ≠ w1.heap.size := by omega
    have dd2 : w1.heap.size ≠ w.heap.size + 1 := by omega
    have dd3 : w.heap.size + 1 ≠ w1.heap.size := by omega
    have hf1 : ∀ b o s, a1 = some ⟨b, o, s⟩ → b < w1.heap.size := fun b o s q => by have := u1 b o s q; omega
    have hf2 : ∀ b o s, a2 = some ⟨b, o, s⟩ → b < w1.heap.size := fun b o s q => by have := u2 b o s q; omega
    clear u1 u2
    obtain ⟨ga0, ga1, ga2, ga3, ga4, ga5, ga6, ga7, ga8, gaf, gal⟩ := BG.nine
    obtain ⟨go0, go1, go2, go3, go4, go5, go6, go7, go8, gof, gol⟩ := BO.nine
    go_wp2_with fail
    clear ga0 ga1 ga2 ga3 ga4 ga5 ga6 ga7 ga8 gaf gal
    clear go0 go1 go2 go3 go4 go5 go6 go7 go8 gof gol
    have hal : Below w1.heap.size w1 (w1.alloc (.cells #[.slice (some ⟨b1, 0, none⟩) n k1, .slice (some ⟨b2, 0, none⟩) n k2, .int .i64 pl, .int .i64 ra, .int .i64 rb, .int .i64 2, .int .i64 wi, .int .i64 re, .int .i64 tu] 70)) := (Below.refl _ _).alloc (Nat.le_refl _) _
    have BN := Blk.new w1 #[.slice (some ⟨b1, 0, none⟩) n k1, .slice (some ⟨b2, 0, none⟩) n k2, .int .i64 pl, .int .i64 ra, .int .i64 rb, .int .i64 2, .int .i64 wi, .int .i64 re, .int .i64 tu] 70
    have hza : w1.heap.size + 1 ≤ (w1.alloc (.cells #[.slice (some ⟨b1, 0, none⟩) n k1, .slice (some ⟨b2, 0, none⟩) n k2, .int .i64 pl, .int .i64 ra, .int .i64 rb, .int .i64 2, .int .i64 wi, .int .i64 re, .int .i64 tu] 70)).heap.size := by simp
    replace BG := BG.below hal
    replace BO := BO.below hal
    replace r1 := r1.below hal
    replace r2 := r2.below hal
    replace R1 := R1.below hal
    replace R2 := R2.below hal
    have hz_hal := hal.size
    replace hb := chain hb hal
    clear hal
    generalize (w1.alloc (.cells #[.slice (some ⟨b1, 0, none⟩) n k1, .slice (some ⟨b2, 0, none⟩) n k2, .int .i64 pl, .int .i64 ra, .int .i64 rb, .int .i64 2, .int .i64 wi, .int .i64 re, .int .i64 tu] 70)) = v2 at *
    refine (HP.out _).mono ?_
    rintro e w2 ⟨rfl, hb2⟩
    replace BG := BG.below hb2
    replace BO := BO.below hb2
    replace BN := BN.below hb2
    replace r1 := r1.below hb2
    replace r2 := r2.below hb2
    replace R1 := R1.below hb2
    replace R2 := R2.below hb2
    have hz_hb2 := hb2.size
    replace hb := chain hb hb2
    clear hb2
    obtain ⟨ga0, ga1, ga2, ga3, ga4, ga5, ga6, ga7, ga8, gaf, gal⟩ := BG.nine
    obtain ⟨y0, y1, y2, y3, y4, y5, y6, y7, y8, yf, yl⟩ := BN.nine
    go_wp2_with fail
    clear ga0 ga1 ga2 ga3 ga4 ga5 ga6 ga7 ga8 gaf gal
    clear y0 y1 y2 y3 y4 y5 y6 y7 y8 yf yl
    have MN := ((BN.set (i := 3) (.int .i64 ra')).set (i := 4) (.int .i64 rb')).set (i := 2) (.int .i64 1)
    simp only [List.setIfInBounds_toArray, List.set_cons_zero, List.set_cons_succ] at MN
    have hlN := BN.lt
    have MG := ((BG.other (g := w1.heap.size) (o := 3) (v := .int .i64 ra') (by omega)).other (g := w1.heap.size) (o := 4) (v := .int .i64 rb') (by omega)).other (g := w1.heap.size) (o := 2) (v := .int .i64 1) (by omega)
    have MO := ((BO.other (g := w1.heap.size) (o := 3) (v := .int .i64 ra') (by omega)).other (g := w1.heap.size) (o := 4) (v := .int .i64 rb') (by omega)).other (g := w1.heap.size) (o := 2) (v := .int .i64 1) (by omega)
    have hT := ((hb.setCell (p := ⟨w1.heap.size, 3, none⟩) (by simp; omega) (.int .i64 ra')).setCell (p := ⟨w1.heap.size, 4, none⟩) (by simp; omega) (.int .i64 rb')).setCell (p := ⟨w1.heap.size, 2, none⟩) (by simp; omega) (.int .i64 1)
    have s1 := ((r1.keepS w1.heap.size 3 (.int .i64 ra') hf1).keepS w1.heap.size 4 (.int .i64 rb') hf1).keepS w1.heap.size 2 (.int .i64 1) hf1
    have s2 := ((r2.keepS w1.heap.size 3 (.int .i64 ra') hf2).keepS w1.heap.size 4 (.int .i64 rb') hf2).keepS w1.heap.size 2 (.int .i64 1) hf2
    have hzt : (((w2.setCell ⟨w1.heap.size, 3, none⟩ (.int .i64 ra')).setCell ⟨w1.heap.size, 4, none⟩ (.int .i64 rb')).setCell ⟨w1.heap.size, 2, none⟩ (.int .i64 1)).heap.size = w2.heap.size := by simp
    clear BN BG BO hb r1 r2 R1 R2
    generalize (((w2.setCell ⟨w1.heap.size, 3, none⟩ (.int .i64 ra')).setCell ⟨w1.heap.size, 4, none⟩ (.int .i64 rb')).setCell ⟨w1.heap.size, 2, none⟩ (.int .i64 1)) = w3 at *
    refine (HS.out _ s1 s2).mono ?_
    rintro e w4 ⟨d1, d2, j1, j2, rfl, hO, hb4⟩
    obtain ⟨g1, g2, rfl, rfl, hne2, hg1, hg2, hg3, hg4, R1, R2⟩ := obd_own hO hny
    have hb := hT
    have BN := MN
    have BO := MO
    clear hT MN MO MG s1 s2
    replace BO := BO.below hb4
    replace BN := BN.below hb4
    have hz_hb4 := hb4.size
    replace hb := chain hb hb4
    clear hb4
    have de0 : w1.heap.size ≠ w.heap.size := by omega
    have de1 : w.heap.size ≠ w1.heap.size := by omega
    have de2 : w1.heap.size ≠ w.heap.size + 1 := by omega
    have de3 : w.heap.size + 1 ≠ w1.heap.size := by omega
    obtain ⟨y0, y1, y2, y3, y4, y5, y6, y7, y8, yf, yl⟩ := BN.nine
    obtain ⟨go0, go1, go2, go3, go4, go5, go6, go7, go8, gof, gol⟩ := BO.nine
    rw [h1, h2]
    go_wp2_with fail
    clear y0 y1 y2 y3 y4 y5 y6 y7 y8 yf yl
    clear go0 go1 go2 go3 go4 go5 go6 go7 go8 gof gol
    have MO := (BO.other (g := w1.heap.size) (o := 0) (v := .slice (some ⟨g1, 0, none⟩) n j1) (by omega)).other (g := w1.heap.size) (o := 1) (v := .slice (some ⟨g2, 0, none⟩) n j2) (by omega)
    have M1 := (R1.other (g := w1.heap.size) (o := 0) (v := .slice (some ⟨g1, 0, none⟩) n j1) (by omega)).other (g := w1.heap.size) (o := 1) (v := .slice (some ⟨g2, 0, none⟩) n j2) (by omega)
    have M2 := (R2.other (g := w1.heap.size) (o := 0) (v := .slice (some ⟨g1, 0, none⟩) n j1) (by omega)).other (g := w1.heap.size) (o := 1) (v := .slice (some ⟨g2, 0, none⟩) n j2) (by omega)
    have hT := (hb.setCell (p := ⟨w1.heap.size, 0, none⟩) (by simp; omega) (.slice (some ⟨g1, 0, none⟩) n j1)).setCell (p := ⟨w1.heap.size, 1, none⟩) (by simp; omega) (.slice (some ⟨g2, 0, none⟩) n j2)
    have hzt2 : ((w4.setCell ⟨w1.heap.size, 0, none⟩ (.slice (some ⟨g1, 0, none⟩) n j1)).setCell ⟨w1.heap.size, 1, none⟩ (.slice (some ⟨g2, 0, none⟩) n j2)).heap.size = w4.heap.size := by simp
    clear BO R1 R2 hb BN hO
    generalize ((w4.setCell ⟨w1.heap.size, 0, none⟩ (.slice (some ⟨g1, 0, none⟩) n j1)).setCell ⟨w1.heap.size, 1, none⟩ (.slice (some ⟨g2, 0, none⟩) n j2)) = w5 at *
    have BO := MO
    have R1 := M1
    have R2 := M2
    have hb := hT
    clear MO M1 M2 hT
    have MO := (BO.setG9 (.slice (some ⟨g1, 0, none⟩) n j1) (.slice (some ⟨g2, 0, none⟩) n j2) (.int .i64 1) (.int .i64 ra') (.int .i64 rb') (.int .i64 2) (.int .i64 wi) (.int .i64 re) (.int .i64 tu))
    have M1 := (R1.farG9 (B := w.heap.size + 1) (by omega) (.slice (some ⟨g1, 0, none⟩) n j1) (.slice (some ⟨g2, 0, none⟩) n j2) (.int .i64 1) (.int .i64 ra') (.int .i64 rb') (.int .i64 2) (.int .i64 wi) (.int .i64 re) (.int .i64 tu))
    have M2 := (R2.farG9 (B := w.heap.size + 1) (by omega) (.slice (some ⟨g1, 0, none⟩) n j1) (.slice (some ⟨g2, 0, none⟩) n j2) (.int .i64 1) (.int .i64 ra') (.int .i64 rb') (.int .i64 2) (.int .i64 wi) (.int .i64 re) (.int .i64 tu))
    have hM0 := Below.farG9 hb (B := w.heap.size + 1) (by omega) (.slice (some ⟨g1, 0, none⟩) n j1) (.slice (some ⟨g2, 0, none⟩) n j2) (.int .i64 1) (.int .i64 ra') (.int .i64 rb') (.int .i64 2) (.int .i64 wi) (.int .i64 re) (.int .i64 tu)
    have hM := hM0
    clear BO hb R1 R2 hM0 
    generalize (((((((((w5.setCell ⟨(w.heap.size + 1), 0, none⟩ (.slice (some ⟨g1, 0, none⟩) n j1)).setCell ⟨(w.heap.size + 1), 1, none⟩ (.slice (some ⟨g2, 0, none⟩) n j2)).setCell ⟨(w.heap.size + 1), 2, none⟩ (.int .i64 1)).setCell ⟨(w.heap.size + 1), 3, none⟩ (.int .i64 ra')).setCell ⟨(w.heap.size + 1), 4, none⟩ (.int .i64 rb')).setCell ⟨(w.heap.size + 1), 5, none⟩ (.int .i64 2)).setCell ⟨(w.heap.size + 1), 6, none⟩ (.int .i64 wi)).setCell ⟨(w.heap.size + 1), 7, none⟩ (.int .i64 re)).setCell ⟨(w.heap.size + 1), 8, none⟩ (.int .i64 tu)) = we at *
    obtain ⟨gO, hgO⟩ : ∃ gO, (w.heap.size + 1) = gO := ⟨_, rfl⟩
    rw [hgO] at MO ⊢
    clear hgO
    obtain ⟨go0, go1, go2, go3, go4, go5, go6, go7, go8, gof, gol⟩ := MO.nine
    refine bodyPost_ret (v := .agg #[.slice (some ⟨g1, 0, none⟩) n j1, .slice (some ⟨g2, 0, none⟩) n j2, .int .i64 1, .int .i64 ra', .int .i64 rb', .int .i64 2, .int .i64 wi, .int .i64 re, .int .i64 tu]) (by simp [results, Try.results95, go_sem, go0, go1, go2, go3, go4, go5, go6, go7, go8]) rfl ?_
    exact ⟨g1, g2, j1, j2, rfl, by omega, by omega, by omega, M1, M2, hM⟩
end Go.Proofs.Ytokjkcnjmfbfiaa
