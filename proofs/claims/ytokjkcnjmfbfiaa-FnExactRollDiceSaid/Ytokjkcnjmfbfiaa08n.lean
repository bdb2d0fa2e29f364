/- Contracts of the model on rolls and resignations. -/
import Derived.Test.Ytokjkcnjmfbfiaa08k
import Derived.Test.Ytokjkcnjmfbfiaa08h
import Derived.Test.Ytokjkcnjmfbfiaa08m
namespace Go.Proofs.Ytokjkcnjmfbfiaa
open Go.ChangeShapes Go.WideShapes Go.ChangeAt Go.RowKit
set_option linter.unusedVariables false
set_option linter.unusedSimpArgs false
set_option maxRecDepth 4000

set_option maxRecDepth 8000 in
set_option maxHeartbeats 4000000 in
theorem rollDiceS_any (p c h s : Int) (a1 a2 : Option Addr) (n1 n2 c1 c2 : Nat) (xs ys : List Int) (w : World) (h1 : xs.length = n1) (h2 : ys.length = n2) (l1 : n1 ≤ 1048576) (l2 : n2 ≤ 1048576) (r1 : IRow w a1 xs) (r2 : IRow w a2 ys) (pl ra rb ph wi re tu : Int) (qa qb : Int) : Calls Try.prog 55 #[.agg #[.int .i64 p, .int .i64 c, .int .i64 h, .int .i64 s], .agg #[.slice a1 n1 c1, .slice a2 n2 c2, .int .i64 pl, .int .i64 ra, .int .i64 rb, .int .i64 ph, .int .i64 wi, .int .i64 re, .int .i64 tu], .agg #[.int .i64 qa, .int .i64 qb]] w (GameGot (rollDiceV p c h s ⟨xs, ys, pl, ra, rb, ph, wi, re, tu⟩ qa qb) (rollDiceC p c h s ⟨xs, ys, pl, ra, rb, ph, wi, re, tu⟩ qa qb) w) := by
  have hV := fun (W : World) (r1 : IRow W a1 xs) (r2 : IRow W a2 ys) => l08Valid_any p c h s a1 a2 n1 n2 c1 c2 xs ys W h1 h2 l1 l2 r1 r2 pl ra rb ph wi re tu
  have hg : gmB p c h s xs ys pl ra rb ph wi re tu = true → vB p c h s = true ∧ 0 < n1 ∧ 0 < n2 ∧ 0 ≤ pl ∧ pl ≤ 1 := by
    intro g
    unfold gmB hgB at g
    simp only [Bool.and_eq_true, Bool.or_eq_true, beq_iff_eq] at g
    have := isB_parts g.2.1
    exact ⟨g.1.1, by omega, by omega, by omega, by omega⟩
  unfold rollDiceV rollDiceC pcC
  dsimp only
  obtain ⟨A, hA⟩ : ∃ q, gmB p c h s xs ys pl ra rb ph wi re tu = q := ⟨_, rfl⟩
  rw [hA] at hV hg ⊢
  have HV := Lib.hid hV
  clear hV hA
  obtain ⟨BV, BG, BR, BO, hb, hz⟩ := four_new w #[.int .i64 p, .int .i64 c, .int .i64 h, .int .i64 s] #[.slice a1 n1 c1, .slice a2 n2 c2, .int .i64 pl, .int .i64 ra, .int .i64 rb, .int .i64 ph, .int .i64 wi, .int .i64 re, .int .i64 tu] #[.int .i64 qa, .int .i64 qb] #[.slice none 0 0, .slice none 0 0, .int .i64 0, .int .i64 0, .int .i64 0, .int .i64 0, .int .i64 0, .int .i64 0, .int .i64 0] 32 70 36 70
  replace r1 := r1.below hb
  replace r2 := r2.below hb
  cases A with
  | false =>
    simp only [Bool.false_eq_true, if_false, show ((1 : Int) = 0) = False from by simp]
    clear hg
    go_enter Try.func55, Try.ntmps55
    obtain ⟨x0, x1, x2, x3, xf, xl⟩ := BV.four
    obtain ⟨ga0, ga1, ga2, ga3, ga4, ga5, ga6, ga7, ga8, gaf, gal⟩ := BG.nine
    obtain ⟨y0, y1, yf, yl⟩ := BR.two
    obtain ⟨go0, go1, go2, go3, go4, go5, go6, go7, go8, gof, gol⟩ := BO.nine
    go_wp2_with fail
    clear x0 x1 x2 x3 xf xl
    clear ga0 ga1 ga2 ga3 ga4 ga5 ga6 ga7 ga8 gaf gal
    clear go0 go1 go2 go3 go4 go5 go6 go7 go8 gof gol
    clear y0 y1 yf yl
    generalize ((((w.alloc (.cells #[.int .i64 p, .int .i64 c, .int .i64 h, .int .i64 s] 32)).alloc (.cells #[.slice a1 n1 c1, .slice a2 n2 c2, .int .i64 pl, .int .i64 ra, .int .i64 rb, .int .i64 ph, .int .i64 wi, .int .i64 re, .int .i64 tu] 70)).alloc (.cells #[.int .i64 qa, .int .i64 qb] 36)).alloc (.cells #[.slice none 0 0, .slice none 0 0, .int .i64 0, .int .i64 0, .int .i64 0, .int .i64 0, .int .i64 0, .int .i64 0, .int .i64 0] 70)) = v0 at *
    obtain ⟨gO, hgO⟩ : ∃ gO, w.heap.size + 1 + 1 + 1 = gO := ⟨_, rfl⟩
    rw [hgO] at BO ⊢
    have hO1 : w.heap.size + 1 + 1 + 1 ≤ gO := by omega
    have hO2 : gO ≤ w.heap.size + 1 + 1 + 1 := by omega
    have hz4 : gO + 1 ≤ v0.heap.size := by omega
    clear hgO hz
    refine (HV.out _ r1 r2).mono ?_
    rintro e w1 ⟨rfl, hb1⟩
    replace BV := BV.below hb1
    replace BG := BG.below hb1
    replace BR := BR.below hb1
    replace BO := BO.below hb1
    replace r1 := r1.below hb1
    replace r2 := r2.below hb1
    have hz_hb1 := hb1.size
    replace hb := chain hb hb1
    clear hb1
    obtain ⟨x0, x1, x2, x3, xf, xl⟩ := BV.four
    obtain ⟨ga0, ga1, ga2, ga3, ga4, ga5, ga6, ga7, ga8, gaf, gal⟩ := BG.nine
    obtain ⟨y0, y1, yf, yl⟩ := BR.two
    obtain ⟨go0, go1, go2, go3, go4, go5, go6, go7, go8, gof, gol⟩ := BO.nine
    go_wp2
    clear x0 x1 x2 x3 xf xl
    clear ga0 ga1 ga2 ga3 ga4 ga5 ga6 ga7 ga8 gaf gal
    clear go0 go1 go2 go3 go4 go5 go6 go7 go8 gof gol
    clear y0 y1 yf yl
    have MO := BO.setG9 (.slice none 0 0) (.slice none 0 0) (.int .i64 0) (.int .i64 0) (.int .i64 0) (.int .i64 0) (.int .i64 0) (.int .i64 0) (.int .i64 0)
    have hM0 := Below.farG9 hb (B := gO) (by omega) (.slice none 0 0) (.slice none 0 0) (.int .i64 0) (.int .i64 0) (.int .i64 0) (.int .i64 0) (.int .i64 0) (.int .i64 0) (.int .i64 0)
    have hM := hM0
    have hsz := size_farG9 w1 gO (.slice none 0 0) (.slice none 0 0) (.int .i64 0) (.int .i64 0) (.int .i64 0) (.int .i64 0) (.int .i64 0) (.int .i64 0) (.int .i64 0)
    clear BO hb BV BG BR r1 r2 hM0
    generalize (((((((((w1.setCell ⟨gO, 0, none⟩ (.slice none 0 0)).setCell ⟨gO, 1, none⟩ (.slice none 0 0)).setCell ⟨gO, 2, none⟩ (.int .i64 0)).setCell ⟨gO, 3, none⟩ (.int .i64 0)).setCell ⟨gO, 4, none⟩ (.int .i64 0)).setCell ⟨gO, 5, none⟩ (.int .i64 0)).setCell ⟨gO, 6, none⟩ (.int .i64 0)).setCell ⟨gO, 7, none⟩ (.int .i64 0)).setCell ⟨gO, 8, none⟩ (.int .i64 0)) = we at *
    obtain ⟨go0, go1, go2, go3, go4, go5, go6, go7, go8, gof, gol⟩ := MO.nine
    refine bodyPost_ret (v := .tuple #[.agg #[.slice none 0 0, .slice none 0 0, .int .i64 0, .int .i64 0, .int .i64 0, .int .i64 0, .int .i64 0, .int .i64 0, .int .i64 0], .int .i64 1]) (by simp [results, Try.results55, go_sem, go0, go1, go2, go3, go4, go5, go6, go7, go8]) rfl ?_
    exact ⟨none, none, 0, 0, rfl, .inl ⟨rfl, rfl, rfl, rfl⟩, hM⟩
  | true =>
    obtain ⟨gv, t1, t2, hpl⟩ := hg rfl
    simp only [if_true]
    clear hg
    by_cases q1 : ph = 1
    · have k1 : (ph == 1) = true := by rw [beq_iff_eq]; exact q1
      have j1 : (ph != 1) = false := by rw [bne_eq_false_iff_eq]; exact q1
      simp only [show ph ∈ [1] from by simp [q1], if_true]
      clear q1
      have hR := fun W => isRoll_any p c h s qa qb W gv
      obtain ⟨R, hRe⟩ : ∃ q, rlB s qa qb = q := ⟨_, rfl⟩
      rw [hRe] at hR ⊢
      have hL := fun (W : World) (r1 : IRow W a1 xs) (r2 : IRow W a2 ys) => l08Own_any a1 a2 n1 n2 c1 c2 xs ys pl ra rb ph wi re tu W h1 h2 t1 t2 l1 l2 r1 r2
      have wz : IntKind.i64.wrap (1 - pl) = 1 - pl := IntWalk.i64_in _ (by omega)
      have HR := Lib.hid hR
      have HL := Lib.hid hL
      clear hR hL hRe gv hpl
      cases R with
      | false =>
        simp only [Bool.false_eq_true, if_false]
        go_enter Try.func55, Try.ntmps55
        obtain ⟨x0, x1, x2, x3, xf, xl⟩ := BV.four
        obtain ⟨ga0, ga1, ga2, ga3, ga4, ga5, ga6, ga7, ga8, gaf, gal⟩ := BG.nine
        obtain ⟨y0, y1, yf, yl⟩ := BR.two
        obtain ⟨go0, go1, go2, go3, go4, go5, go6, go7, go8, gof, gol⟩ := BO.nine
        go_wp2_with fail
        clear x0 x1 x2 x3 xf xl
        clear ga0 ga1 ga2 ga3 ga4 ga5 ga6 ga7 ga8 gaf gal
        clear go0 go1 go2 go3 go4 go5 go6 go7 go8 gof gol
        clear y0 y1 yf yl
        generalize ((((w.alloc (.cells #[.int .i64 p, .int .i64 c, .int .i64 h, .int .i64 s] 32)).alloc (.cells #[.slice a1 n1 c1, .slice a2 n2 c2, .int .i64 pl, .int .i64 ra, .int .i64 rb, .int .i64 ph, .int .i64 wi, .int .i64 re, .int .i64 tu] 70)).alloc (.cells #[.int .i64 qa, .int .i64 qb] 36)).alloc (.cells #[.slice none 0 0, .slice none 0 0, .int .i64 0, .int .i64 0, .int .i64 0, .int .i64 0, .int .i64 0, .int .i64 0, .int .i64 0] 70)) = v0 at *
        obtain ⟨gO, hgO⟩ : ∃ gO, w.heap.size + 1 + 1 + 1 = gO := ⟨_, rfl⟩
        rw [hgO] at BO ⊢
        have hO1 : w.heap.size + 1 + 1 + 1 ≤ gO := by omega
        have hO2 : gO ≤ w.heap.size + 1 + 1 + 1 := by omega
        have hz4 : gO + 1 ≤ v0.heap.size := by omega
        clear hgO hz
        refine (HV.out _ r1 r2).mono ?_
        rintro e w1 ⟨rfl, hb1⟩
        replace BV := BV.below hb1
        replace BG := BG.below hb1
        replace BR := BR.below hb1
        replace BO := BO.below hb1
        replace r1 := r1.below hb1
        replace r2 := r2.below hb1
        have hz_hb1 := hb1.size
        replace hb := chain hb hb1
        clear hb1
        obtain ⟨x0, x1, x2, x3, xf, xl⟩ := BV.four
        obtain ⟨ga0, ga1, ga2, ga3, ga4, ga5, ga6, ga7, ga8, gaf, gal⟩ := BG.nine
        obtain ⟨y0, y1, yf, yl⟩ := BR.two
        obtain ⟨go0, go1, go2, go3, go4, go5, go6, go7, go8, gof, gol⟩ := BO.nine
        go_wp2_with fail
        clear x0 x1 x2 x3 xf xl
        clear ga0 ga1 ga2 ga3 ga4 ga5 ga6 ga7 ga8 gaf gal
        clear go0 go1 go2 go3 go4 go5 go6 go7 go8 gof gol
        clear y0 y1 yf yl
        refine (HR.out _).mono ?_
        rintro e w2 ⟨rfl, hb2⟩
        replace BV := BV.below hb2
        replace BG := BG.below hb2
        replace BR := BR.below hb2
        replace BO := BO.below hb2
        replace r1 := r1.below hb2
        replace r2 := r2.below hb2
        have hz_hb2 := hb2.size
        replace hb := chain hb hb2
        clear hb2
        obtain ⟨x0, x1, x2, x3, xf, xl⟩ := BV.four
        obtain ⟨ga0, ga1, ga2, ga3, ga4, ga5, ga6, ga7, ga8, gaf, gal⟩ := BG.nine
        obtain ⟨y0, y1, yf, yl⟩ := BR.two
        obtain ⟨go0, go1, go2, go3, go4, go5, go6, go7, go8, gof, gol⟩ := BO.nine
        go_wp2
        clear x0 x1 x2 x3 xf xl
        clear ga0 ga1 ga2 ga3 ga4 ga5 ga6 ga7 ga8 gaf gal
        clear go0 go1 go2 go3 go4 go5 go6 go7 go8 gof gol
        clear y0 y1 yf yl
        have MO := BO.setG9 (.slice none 0 0) (.slice none 0 0) (.int .i64 0) (.int .i64 0) (.int .i64 0) (.int .i64 0) (.int .i64 0) (.int .i64 0) (.int .i64 0)
        have hM0 := Below.farG9 hb (B := gO) (by omega) (.slice none 0 0) (.slice none 0 0) (.int .i64 0) (.int .i64 0) (.int .i64 0) (.int .i64 0) (.int .i64 0) (.int .i64 0) (.int .i64 0)
        have hM := hM0
        have hsz := size_farG9 w2 gO (.slice none 0 0) (.slice none 0 0) (.int .i64 0) (.int .i64 0) (.int .i64 0) (.int .i64 0) (.int .i64 0) (.int .i64 0) (.int .i64 0)
        clear BO hb BV BG BR r1 r2 hM0
        generalize (((((((((w2.setCell ⟨gO, 0, none⟩ (.slice none 0 0)).setCell ⟨gO, 1, none⟩ (.slice none 0 0)).setCell ⟨gO, 2, none⟩ (.int .i64 0)).setCell ⟨gO, 3, none⟩ (.int .i64 0)).setCell ⟨gO, 4, none⟩ (.int .i64 0)).setCell ⟨gO, 5, none⟩ (.int .i64 0)).setCell ⟨gO, 6, none⟩ (.int .i64 0)).setCell ⟨gO, 7, none⟩ (.int .i64 0)).setCell ⟨gO, 8, none⟩ (.int .i64 0)) = we at *
        obtain ⟨go0, go1, go2, go3, go4, go5, go6, go7, go8, gof, gol⟩ := MO.nine
        refine bodyPost_ret (v := .tuple #[.agg #[.slice none 0 0, .slice none 0 0, .int .i64 0, .int .i64 0, .int .i64 0, .int .i64 0, .int .i64 0, .int .i64 0, .int .i64 0], .int .i64 2]) (by simp [results, Try.results55, go_sem, go0, go1, go2, go3, go4, go5, go6, go7, go8]) rfl ?_
        exact ⟨none, none, 0, 0, rfl, .inl ⟨rfl, rfl, rfl, rfl⟩, hM⟩
      | true =>
        simp only [if_true]
        go_enter Try.func55, Try.ntmps55
        obtain ⟨x0, x1, x2, x3, xf, xl⟩ := BV.four
        obtain ⟨ga0, ga1, ga2, ga3, ga4, ga5, ga6, ga7, ga8, gaf, gal⟩ := BG.nine
        obtain ⟨y0, y1, yf, yl⟩ := BR.two
        obtain ⟨go0, go1, go2, go3, go4, go5, go6, go7, go8, gof, gol⟩ := BO.nine
        go_wp2_with fail
        clear x0 x1 x2 x3 xf xl
        clear ga0 ga1 ga2 ga3 ga4 ga5 ga6 ga7 ga8 gaf gal
        clear go0 go1 go2 go3 go4 go5 go6 go7 go8 gof gol
        clear y0 y1 yf yl
        generalize ((((w.alloc (.cells #[.int .i64 p, .int .i64 c, .int .i64 h, .int .i64 s] 32)).alloc (.cells #[.slice a1 n1 c1, .slice a2 n2 c2, .int .i64 pl, .int .i64 ra, .int .i64 rb, .int .i64 ph, .int .i64 wi, .int .i64 re, .int .i64 tu] 70)).alloc (.cells #[.int .i64 qa, .int .i64 qb] 36)).alloc (.cells #[.slice none 0 0, .slice none 0 0, .int .i64 0, .int .i64 0, .int .i64 0, .int .i64 0, .int .i64 0, .int .i64 0, .int .i64 0] 70)) = v0 at *
        obtain ⟨gO, hgO⟩ : ∃ gO, w.heap.size + 1 + 1 + 1 = gO := ⟨_, rfl⟩
        rw [hgO] at BO ⊢
        have hO1 : w.heap.size + 1 + 1 + 1 ≤ gO := by omega
        have hO2 : gO ≤ w.heap.size + 1 + 1 + 1 := by omega
        have hz4 : gO + 1 ≤ v0.heap.size := by omega
        clear hgO hz
        refine (HV.out _ r1 r2).mono ?_
        rintro e w1 ⟨rfl, hb1⟩
        replace BV := BV.below hb1
        replace BG := BG.below hb1
        replace BR := BR.below hb1
        replace BO := BO.below hb1
        replace r1 := r1.below hb1
        replace r2 := r2.below hb1
        have hz_hb1 := hb1.size
        replace hb := chain hb hb1
        clear hb1
        obtain ⟨x0, x1, x2, x3, xf, xl⟩ := BV.four
        obtain ⟨ga0, ga1, ga2, ga3, ga4, ga5, ga6, ga7, ga8, gaf, gal⟩ := BG.nine
        obtain ⟨y0, y1, yf, yl⟩ := BR.two
        obtain ⟨go0, go1, go2, go3, go4, go5, go6, go7, go8, gof, gol⟩ := BO.nine
        go_wp2_with fail
        clear x0 x1 x2 x3 xf xl
        clear ga0 ga1 ga2 ga3 ga4 ga5 ga6 ga7 ga8 gaf gal
        clear go0 go1 go2 go3 go4 go5 go6 go7 go8 gof gol
        clear y0 y1 yf yl
        refine (HR.out _).mono ?_
        rintro e w2 ⟨rfl, hb2⟩
        replace BV := BV.below hb2
        replace BG := BG.below hb2
        replace BR := BR.below hb2
        replace BO := BO.below hb2
        replace r1 := r1.below hb2
        replace r2 := r2.below hb2
        have hz_hb2 := hb2.size
        replace hb := chain hb hb2
        clear hb2
        obtain ⟨x0, x1, x2, x3, xf, xl⟩ := BV.four
        obtain ⟨ga0, ga1, ga2, ga3, ga4, ga5, ga6, ga7, ga8, gaf, gal⟩ := BG.nine
        obtain ⟨y0, y1, yf, yl⟩ := BR.two
        obtain ⟨go0, go1, go2, go3, go4, go5, go6, go7, go8, gof, gol⟩ := BO.nine
        go_wp2_with fail
        clear x0 x1 x2 x3 xf xl
        clear ga0 ga1 ga2 ga3 ga4 ga5 ga6 ga7 ga8 gaf gal
        clear go0 go1 go2 go3 go4 go5 go6 go7 go8 gof gol
        clear y0 y1 yf yl
        refine (HL.out _ r1 r2).mono ?_
        rintro e w3 ⟨b1, b2, k1, k2, rfl, hne, hq1, hq2, R1, R2, hb3⟩
        replace BV := BV.below hb3
        replace BG := BG.below hb3
        replace BR := BR.below hb3
        replace BO := BO.below hb3
        replace r1 := r1.below hb3
        replace r2 := r2.below hb3
        have hz_hb3 := hb3.size
        replace hb := chain hb hb3
        clear hb3
        have v1_ := BV.lt
        have v2_ := BG.lt
        have v3_ := BO.lt
        have v4_ := BR.lt
        have dd0 : w3.heap.size ≠ w.heap.size := by omega
        have dd1 : w.heap.size ≠ w3.heap.size := by omega
        have dd2 : w3.heap.size ≠ w.heap.size + 1 := by omega
        have dd3 : w.heap.size + 1 ≠ w3.heap.size := by omega
        have dd4 : w3.heap.size ≠ gO := by omega
        have dd5 : gO ≠ w3.heap.size := by omega
        have dd6 : w3.heap.size ≠ w.heap.size + 1 + 1 := by omega
        have dd7 : w.heap.size + 1 + 1 ≠ w3.heap.size := by omega
        have dd8 : w3.heap.size ≠ w.heap.size + 2 := by omega
        have dd9 : w.heap.size + 2 ≠ w3.heap.size := by omega
        obtain ⟨x0, x1, x2, x3, xf, xl⟩ := BV.four
        obtain ⟨ga0, ga1, ga2, ga3, ga4, ga5, ga6, ga7, ga8, gaf, gal⟩ := BG.nine
        obtain ⟨y0, y1, yf, yl⟩ := BR.two
        obtain ⟨go0, go1, go2, go3, go4, go5, go6, go7, go8, gof, gol⟩ := BO.nine
        go_wp2
        clear x0 x1 x2 x3 xf xl
        clear ga0 ga1 ga2 ga3 ga4 ga5 ga6 ga7 ga8 gaf gal
        clear go0 go1 go2 go3 go4 go5 go6 go7 go8 gof gol
        clear y0 y1 yf yl
        have MO := (BO.setG9 (.slice (some ⟨b1, 0, none⟩) n1 k1) (.slice (some ⟨b2, 0, none⟩) n2 k2) (.int .i64 pl) (.int .i64 qa) (.int .i64 qb) (.int .i64 2) (.int .i64 wi) (.int .i64 re) (.int .i64 tu)).alloc (.cells #[.slice (some ⟨b1, 0, none⟩) n1 k1, .slice (some ⟨b2, 0, none⟩) n2 k2, .int .i64 pl, .int .i64 qa, .int .i64 qb, .int .i64 2, .int .i64 wi, .int .i64 re, .int .i64 tu] 70)
        have u1 := R1.lt
        have u2 := R2.lt
        have M1 := (R1.farG9 (B := gO) (by omega) (.slice (some ⟨b1, 0, none⟩) n1 k1) (.slice (some ⟨b2, 0, none⟩) n2 k2) (.int .i64 pl) (.int .i64 qa) (.int .i64 qb) (.int .i64 2) (.int .i64 wi) (.int .i64 re) (.int .i64 tu)).alloc (.cells #[.slice (some ⟨b1, 0, none⟩) n1 k1, .slice (some ⟨b2, 0, none⟩) n2 k2, .int .i64 pl, .int .i64 qa, .int .i64 qb, .int .i64 2, .int .i64 wi, .int .i64 re, .int .i64 tu] 70)
        have M2 := (R2.farG9 (B := gO) (by omega) (.slice (some ⟨b1, 0, none⟩) n1 k1) (.slice (some ⟨b2, 0, none⟩) n2 k2) (.int .i64 pl) (.int .i64 qa) (.int .i64 qb) (.int .i64 2) (.int .i64 wi) (.int .i64 re) (.int .i64 tu)).alloc (.cells #[.slice (some ⟨b1, 0, none⟩) n1 k1, .slice (some ⟨b2, 0, none⟩) n2 k2, .int .i64 pl, .int .i64 qa, .int .i64 qb, .int .i64 2, .int .i64 wi, .int .i64 re, .int .i64 tu] 70)
        clear R1 R2
        have hM0 := Below.farG9 hb (B := gO) (by omega) (.slice (some ⟨b1, 0, none⟩) n1 k1) (.slice (some ⟨b2, 0, none⟩) n2 k2) (.int .i64 pl) (.int .i64 qa) (.int .i64 qb) (.int .i64 2) (.int .i64 wi) (.int .i64 re) (.int .i64 tu)
        have hM := hM0.alloc hM0.size (.cells #[.slice (some ⟨b1, 0, none⟩) n1 k1, .slice (some ⟨b2, 0, none⟩) n2 k2, .int .i64 pl, .int .i64 qa, .int .i64 qb, .int .i64 2, .int .i64 wi, .int .i64 re, .int .i64 tu] 70)
        have hsz := size_farG9 w3 gO (.slice (some ⟨b1, 0, none⟩) n1 k1) (.slice (some ⟨b2, 0, none⟩) n2 k2) (.int .i64 pl) (.int .i64 qa) (.int .i64 qb) (.int .i64 2) (.int .i64 wi) (.int .i64 re) (.int .i64 tu)
        have hsa : (((((((((w3.setCell ⟨gO, 0, none⟩ (.slice (some ⟨b1, 0, none⟩) n1 k1)).setCell ⟨gO, 1, none⟩ (.slice (some ⟨b2, 0, none⟩) n2 k2)).setCell ⟨gO, 2, none⟩ (.int .i64 pl)).setCell ⟨gO, 3, none⟩ (.int .i64 qa)).setCell ⟨gO, 4, none⟩ (.int .i64 qb)).setCell ⟨gO, 5, none⟩ (.int .i64 2)).setCell ⟨gO, 6, none⟩ (.int .i64 wi)).setCell ⟨gO, 7, none⟩ (.int .i64 re)).setCell ⟨gO, 8, none⟩ (.int .i64 tu)).heap.size + 1 ≤ ((((((((((w3.setCell ⟨gO, 0, none⟩ (.slice (some ⟨b1, 0, none⟩) n1 k1)).setCell ⟨gO, 1, none⟩ (.slice (some ⟨b2, 0, none⟩) n2 k2)).setCell ⟨gO, 2, none⟩ (.int .i64 pl)).setCell ⟨gO, 3, none⟩ (.int .i64 qa)).setCell ⟨gO, 4, none⟩ (.int .i64 qb)).setCell ⟨gO, 5, none⟩ (.int .i64 2)).setCell ⟨gO, 6, none⟩ (.int .i64 wi)).setCell ⟨gO, 7, none⟩ (.int .i64 re)).setCell ⟨gO, 8, none⟩ (.int .i64 tu)).alloc (.cells #[.slice (some ⟨b1, 0, none⟩) n1 k1, .slice (some ⟨b2, 0, none⟩) n2 k2, .int .i64 pl, .int .i64 qa, .int .i64 qb, .int .i64 2, .int .i64 wi, .int .i64 re, .int .i64 tu] 70)).heap.size := by simp
        clear BO hb BV BG BR r1 r2 hM0
        generalize ((((((((((w3.setCell ⟨gO, 0, none⟩ (.slice (some ⟨b1, 0, none⟩) n1 k1)).setCell ⟨gO, 1, none⟩ (.slice (some ⟨b2, 0, none⟩) n2 k2)).setCell ⟨gO, 2, none⟩ (.int .i64 pl)).setCell ⟨gO, 3, none⟩ (.int .i64 qa)).setCell ⟨gO, 4, none⟩ (.int .i64 qb)).setCell ⟨gO, 5, none⟩ (.int .i64 2)).setCell ⟨gO, 6, none⟩ (.int .i64 wi)).setCell ⟨gO, 7, none⟩ (.int .i64 re)).setCell ⟨gO, 8, none⟩ (.int .i64 tu)).alloc (.cells #[.slice (some ⟨b1, 0, none⟩) n1 k1, .slice (some ⟨b2, 0, none⟩) n2 k2, .int .i64 pl, .int .i64 qa, .int .i64 qb, .int .i64 2, .int .i64 wi, .int .i64 re, .int .i64 tu] 70)) = we at *
        obtain ⟨go0, go1, go2, go3, go4, go5, go6, go7, go8, gof, gol⟩ := MO.nine
        refine bodyPost_ret (v := .tuple #[.agg #[.slice (some ⟨b1, 0, none⟩) n1 k1, .slice (some ⟨b2, 0, none⟩) n2 k2, .int .i64 pl, .int .i64 qa, .int .i64 qb, .int .i64 2, .int .i64 wi, .int .i64 re, .int .i64 tu], .int .i64 0]) (by simp [results, Try.results55, go_sem, go0, go1, go2, go3, go4, go5, go6, go7, go8]) rfl ?_
        subst h1 h2
        exact ⟨_, _, _, _, rfl, .inr ⟨b1, b2, rfl, rfl, hne, by omega, by omega, by omega, by omega, M1, M2⟩, hM⟩
    · have k1 : (ph == 1) = false := by rw [beq_eq_false_iff_ne]; exact q1
      have j1 : (ph != 1) = true := by rw [bne_iff_ne]; exact q1
      simp only [show (ph ∈ [1]) = False from by simp [q1], if_false, show ((5 : Int) = 0) = False from by simp]
      clear q1
      go_enter Try.func55, Try.ntmps55
      obtain ⟨x0, x1, x2, x3, xf, xl⟩ := BV.four
      obtain ⟨ga0, ga1, ga2, ga3, ga4, ga5, ga6, ga7, ga8, gaf, gal⟩ := BG.nine
      obtain ⟨y0, y1, yf, yl⟩ := BR.two
      obtain ⟨go0, go1, go2, go3, go4, go5, go6, go7, go8, gof, gol⟩ := BO.nine
      go_wp2_with fail
      clear x0 x1 x2 x3 xf xl
      clear ga0 ga1 ga2 ga3 ga4 ga5 ga6 ga7 ga8 gaf gal
      clear go0 go1 go2 go3 go4 go5 go6 go7 go8 gof gol
      clear y0 y1 yf yl
      generalize ((((w.alloc (.cells #[.int .i64 p, .int .i64 c, .int .i64 h, .int .i64 s] 32)).alloc (.cells #[.slice a1 n1 c1, .slice a2 n2 c2, .int .i64 pl, .int .i64 ra, .int .i64 rb, .int .i64 ph, .int .i64 wi, .int .i64 re, .int .i64 tu] 70)).alloc (.cells #[.int .i64 qa, .int .i64 qb] 36)).alloc (.cells #[.slice none 0 0, .slice none 0 0, .int .i64 0, .int .i64 0, .int .i64 0, .int .i64 0, .int .i64 0, .int .i64 0, .int .i64 0] 70)) = v0 at *
      obtain ⟨gO, hgO⟩ : ∃ gO, w.heap.size + 1 + 1 + 1 = gO := ⟨_, rfl⟩
      rw [hgO] at BO ⊢
      have hO1 : w.heap.size + 1 + 1 + 1 ≤ gO := by omega
      have hO2 : gO ≤ w.heap.size + 1 + 1 + 1 := by omega
      have hz4 : gO + 1 ≤ v0.heap.size := by omega
      clear hgO hz
      refine (HV.out _ r1 r2).mono ?_
      rintro e w1 ⟨rfl, hb1⟩
      replace BV := BV.below hb1
      replace BG := BG.below hb1
      replace BR := BR.below hb1
      replace BO := BO.below hb1
      replace r1 := r1.below hb1
      replace r2 := r2.below hb1
      have hz_hb1 := hb1.size
      replace hb := chain hb hb1
      clear hb1
      obtain ⟨x0, x1, x2, x3, xf, xl⟩ := BV.four
      obtain ⟨ga0, ga1, ga2, ga3, ga4, ga5, ga6, ga7, ga8, gaf, gal⟩ := BG.nine
      obtain ⟨y0, y1, yf, yl⟩ := BR.two
      obtain ⟨go0, go1, go2, go3, go4, go5, go6, go7, go8, gof, gol⟩ := BO.nine
      go_wp2
      clear x0 x1 x2 x3 xf xl
      clear ga0 ga1 ga2 ga3 ga4 ga5 ga6 ga7 ga8 gaf gal
      clear go0 go1 go2 go3 go4 go5 go6 go7 go8 gof gol
      clear y0 y1 yf yl
      have MO := BO.setG9 (.slice none 0 0) (.slice none 0 0) (.int .i64 0) (.int .i64 0) (.int .i64 0) (.int .i64 0) (.int .i64 0) (.int .i64 0) (.int .i64 0)
      have hM0 := Below.farG9 hb (B := gO) (by omega) (.slice none 0 0) (.slice none 0 0) (.int .i64 0) (.int .i64 0) (.int .i64 0) (.int .i64 0) (.int .i64 0) (.int .i64 0) (.int .i64 0)
      have hM := hM0
      have hsz := size_farG9 w1 gO (.slice none 0 0) (.slice none 0 0) (.int .i64 0) (.int .i64 0) (.int .i64 0) (.int .i64 0) (.int .i64 0) (.int .i64 0) (.int .i64 0)
      clear BO hb BV BG BR r1 r2 hM0
      generalize (((((((((w1.setCell ⟨gO, 0, none⟩ (.slice none 0 0)).setCell ⟨gO, 1, none⟩ (.slice none 0 0)).setCell ⟨gO, 2, none⟩ (.int .i64 0)).setCell ⟨gO, 3, none⟩ (.int .i64 0)).setCell ⟨gO, 4, none⟩ (.int .i64 0)).setCell ⟨gO, 5, none⟩ (.int .i64 0)).setCell ⟨gO, 6, none⟩ (.int .i64 0)).setCell ⟨gO, 7, none⟩ (.int .i64 0)).setCell ⟨gO, 8, none⟩ (.int .i64 0)) = we at *
      obtain ⟨go0, go1, go2, go3, go4, go5, go6, go7, go8, gof, gol⟩ := MO.nine
      refine bodyPost_ret (v := .tuple #[.agg #[.slice none 0 0, .slice none 0 0, .int .i64 0, .int .i64 0, .int .i64 0, .int .i64 0, .int .i64 0, .int .i64 0, .int .i64 0], .int .i64 5]) (by simp [results, Try.results55, go_sem, go0, go1, go2, go3, go4, go5, go6, go7, go8]) rfl ?_
      exact ⟨none, none, 0, 0, rfl, .inl ⟨rfl, rfl, rfl, rfl⟩, hM⟩
set_option maxRecDepth 8000 in
set_option maxHeartbeats 4000000 in
theorem resignGameS_any (p c h s : Int) (a1 a2 : Option Addr) (n1 n2 c1 c2 : Nat) (xs ys : List Int) (w : World) (h1 : xs.length = n1) (h2 : ys.length = n2) (l1 : n1 ≤ 1048576) (l2 : n2 ≤ 1048576) (r1 : IRow w a1 xs) (r2 : IRow w a2 ys) (pl ra rb ph wi re tu : Int) (rs : Int) : Calls Try.prog 59 #[.agg #[.int .i64 p, .int .i64 c, .int .i64 h, .int .i64 s], .agg #[.slice a1 n1 c1, .slice a2 n2 c2, .int .i64 pl, .int .i64 ra, .int .i64 rb, .int .i64 ph, .int .i64 wi, .int .i64 re, .int .i64 tu], .int .i64 rs] w (GameGot (resignGameV p c h s ⟨xs, ys, pl, ra, rb, ph, wi, re, tu⟩ rs) (resignGameC p c h s ⟨xs, ys, pl, ra, rb, ph, wi, re, tu⟩ rs) w) := by
  have hV := fun (W : World) (r1 : IRow W a1 xs) (r2 : IRow W a2 ys) => l08Valid_any p c h s a1 a2 n1 n2 c1 c2 xs ys W h1 h2 l1 l2 r1 r2 pl ra rb ph wi re tu
  have hg : gmB p c h s xs ys pl ra rb ph wi re tu = true → vB p c h s = true ∧ 0 < n1 ∧ 0 < n2 ∧ 0 ≤ pl ∧ pl ≤ 1 := by
    intro g
    unfold gmB hgB at g
    simp only [Bool.and_eq_true, Bool.or_eq_true, beq_iff_eq] at g
    have := isB_parts g.2.1
    exact ⟨g.1.1, by omega, by omega, by omega, by omega⟩
  unfold resignGameV resignGameC pcC
  dsimp only
  obtain ⟨A, hA⟩ : ∃ q, gmB p c h s xs ys pl ra rb ph wi re tu = q := ⟨_, rfl⟩
  rw [hA] at hV hg ⊢
  have HV := Lib.hid hV
  clear hV hA
  obtain ⟨BV, BG, BO, hb, hz⟩ := three_new' w #[.int .i64 p, .int .i64 c, .int .i64 h, .int .i64 s] #[.slice a1 n1 c1, .slice a2 n2 c2, .int .i64 pl, .int .i64 ra, .int .i64 rb, .int .i64 ph, .int .i64 wi, .int .i64 re, .int .i64 tu] #[.slice none 0 0, .slice none 0 0, .int .i64 0, .int .i64 0, .int .i64 0, .int .i64 0, .int .i64 0, .int .i64 0, .int .i64 0] 32 70 70
  replace r1 := r1.below hb
  replace r2 := r2.below hb
  cases A with
  | false =>
    simp only [Bool.false_eq_true, if_false, show ((1 : Int) = 0) = False from by simp]
    clear hg
    go_enter Try.func59, Try.ntmps59
    obtain ⟨x0, x1, x2, x3, xf, xl⟩ := BV.four
    obtain ⟨ga0, ga1, ga2, ga3, ga4, ga5, ga6, ga7, ga8, gaf, gal⟩ := BG.nine
    obtain ⟨go0, go1, go2, go3, go4, go5, go6, go7, go8, gof, gol⟩ := BO.nine
    go_wp2_with fail
    clear x0 x1 x2 x3 xf xl
    clear ga0 ga1 ga2 ga3 ga4 ga5 ga6 ga7 ga8 gaf gal
    clear go0 go1 go2 go3 go4 go5 go6 go7 go8 gof gol
    generalize (((w.alloc (.cells #[.int .i64 p, .int .i64 c, .int .i64 h, .int .i64 s] 32)).alloc (.cells #[.slice a1 n1 c1, .slice a2 n2 c2, .int .i64 pl, .int .i64 ra, .int .i64 rb, .int .i64 ph, .int .i64 wi, .int .i64 re, .int .i64 tu] 70)).alloc (.cells #[.slice none 0 0, .slice none 0 0, .int .i64 0, .int .i64 0, .int .i64 0, .int .i64 0, .int .i64 0, .int .i64 0, .int .i64 0] 70)) = v0 at *
    obtain ⟨gO, hgO⟩ : ∃ gO, w.heap.size + 1 + 1 = gO := ⟨_, rfl⟩
    rw [hgO] at BO ⊢
    have hO1 : w.heap.size + 1 + 1 ≤ gO := by omega
    have hO2 : gO ≤ w.heap.size + 1 + 1 := by omega
    have hz4 : gO + 1 ≤ v0.heap.size := by omega
    clear hgO hz
    refine (HV.out _ r1 r2).mono ?_
    rintro e w1 ⟨rfl, hb1⟩
    replace BV := BV.below hb1
    replace BG := BG.below hb1
    replace BO := BO.below hb1
    replace r1 := r1.below hb1
    replace r2 := r2.below hb1
    have hz_hb1 := hb1.size
    replace hb := chain hb hb1
    clear hb1
    obtain ⟨x0, x1, x2, x3, xf, xl⟩ := BV.four
    obtain ⟨ga0, ga1, ga2, ga3, ga4, ga5, ga6, ga7, ga8, gaf, gal⟩ := BG.nine
    obtain ⟨go0, go1, go2, go3, go4, go5, go6, go7, go8, gof, gol⟩ := BO.nine
    go_wp2
    clear x0 x1 x2 x3 xf xl
    clear ga0 ga1 ga2 ga3 ga4 ga5 ga6 ga7 ga8 gaf gal
    clear go0 go1 go2 go3 go4 go5 go6 go7 go8 gof gol
    have MO := BO.setG9 (.slice none 0 0) (.slice none 0 0) (.int .i64 0) (.int .i64 0) (.int .i64 0) (.int .i64 0) (.int .i64 0) (.int .i64 0) (.int .i64 0)
    have hM0 := Below.farG9 hb (B := gO) (by omega) (.slice none 0 0) (.slice none 0 0) (.int .i64 0) (.int .i64 0) (.int .i64 0) (.int .i64 0) (.int .i64 0) (.int .i64 0) (.int .i64 0)
    have hM := hM0
    have hsz := size_farG9 w1 gO (.slice none 0 0) (.slice none 0 0) (.int .i64 0) (.int .i64 0) (.int .i64 0) (.int .i64 0) (.int .i64 0) (.int .i64 0) (.int .i64 0)
    clear BO hb BV BG r1 r2 hM0
    generalize (((((((((w1.setCell ⟨gO, 0, none⟩ (.slice none 0 0)).setCell ⟨gO, 1, none⟩ (.slice none 0 0)).setCell ⟨gO, 2, none⟩ (.int .i64 0)).setCell ⟨gO, 3, none⟩ (.int .i64 0)).setCell ⟨gO, 4, none⟩ (.int .i64 0)).setCell ⟨gO, 5, none⟩ (.int .i64 0)).setCell ⟨gO, 6, none⟩ (.int .i64 0)).setCell ⟨gO, 7, none⟩ (.int .i64 0)).setCell ⟨gO, 8, none⟩ (.int .i64 0)) = we at *
    obtain ⟨go0, go1, go2, go3, go4, go5, go6, go7, go8, gof, gol⟩ := MO.nine
    refine bodyPost_ret (v := .tuple #[.agg #[.slice none 0 0, .slice none 0 0, .int .i64 0, .int .i64 0, .int .i64 0, .int .i64 0, .int .i64 0, .int .i64 0, .int .i64 0], .int .i64 1]) (by simp [results, Try.results59, go_sem, go0, go1, go2, go3, go4, go5, go6, go7, go8]) rfl ?_
    exact ⟨none, none, 0, 0, rfl, .inl ⟨rfl, rfl, rfl, rfl⟩, hM⟩
  | true =>
    obtain ⟨gv, t1, t2, hpl⟩ := hg rfl
    simp only [if_true]
    clear hg
    by_cases q1 : ph = 1
    · have k1 : (ph == 1) = true := by rw [beq_iff_eq]; exact q1
      have j1 : (ph != 1) = false := by rw [bne_eq_false_iff_eq]; exact q1
      simp only [show ph ∈ [1, 2] from by simp [q1], if_true]
      clear q1
      have hR := fun W => l01In_b rs 1 3 W
      obtain ⟨R, hRe⟩ : ∃ q, inB rs 1 3 = q := ⟨_, rfl⟩
      rw [hRe] at hR ⊢
      have hL := fun (W : World) (r1 : IRow W a1 xs) (r2 : IRow W a2 ys) => l08Own_any a1 a2 n1 n2 c1 c2 xs ys pl ra rb ph wi re tu W h1 h2 t1 t2 l1 l2 r1 r2
      have wz : IntKind.i64.wrap (1 - pl) = 1 - pl := IntWalk.i64_in _ (by omega)
      have HR := Lib.hid hR
      have HL := Lib.hid hL
      clear hR hL hRe gv hpl
      cases R with
      | false =>
        simp only [Bool.false_eq_true, if_false]
        go_enter Try.func59, Try.ntmps59
        obtain ⟨x0, x1, x2, x3, xf, xl⟩ := BV.four
        obtain ⟨ga0, ga1, ga2, ga3, ga4, ga5, ga6, ga7, ga8, gaf, gal⟩ := BG.nine
        obtain ⟨go0, go1, go2, go3, go4, go5, go6, go7, go8, gof, gol⟩ := BO.nine
        go_wp2_with fail
        clear x0 x1 x2 x3 xf xl
        clear ga0 ga1 ga2 ga3 ga4 ga5 ga6 ga7 ga8 gaf gal
        clear go0 go1 go2 go3 go4 go5 go6 go7 go8 gof gol
        generalize (((w.alloc (.cells #[.int .i64 p, .int .i64 c, .int .i64 h, .int .i64 s] 32)).alloc (.cells #[.slice a1 n1 c1, .slice a2 n2 c2, .int .i64 pl, .int .i64 ra, .int .i64 rb, .int .i64 ph, .int .i64 wi, .int .i64 re, .int .i64 tu] 70)).alloc (.cells #[.slice none 0 0, .slice none 0 0, .int .i64 0, .int .i64 0, .int .i64 0, .int .i64 0, .int .i64 0, .int .i64 0, .int .i64 0] 70)) = v0 at *
        obtain ⟨gO, hgO⟩ : ∃ gO, w.heap.size + 1 + 1 = gO := ⟨_, rfl⟩
        rw [hgO] at BO ⊢
        have hO1 : w.heap.size + 1 + 1 ≤ gO := by omega
        have hO2 : gO ≤ w.heap.size + 1 + 1 := by omega
        have hz4 : gO + 1 ≤ v0.heap.size := by omega
        clear hgO hz
        refine (HV.out _ r1 r2).mono ?_
        rintro e w1 ⟨rfl, hb1⟩
        replace BV := BV.below hb1
        replace BG := BG.below hb1
        replace BO := BO.below hb1
        replace r1 := r1.below hb1
        replace r2 := r2.below hb1
        have hz_hb1 := hb1.size
        replace hb := chain hb hb1
        clear hb1
        obtain ⟨x0, x1, x2, x3, xf, xl⟩ := BV.four
        obtain ⟨ga0, ga1, ga2, ga3, ga4, ga5, ga6, ga7, ga8, gaf, gal⟩ := BG.nine
        obtain ⟨go0, go1, go2, go3, go4, go5, go6, go7, go8, gof, gol⟩ := BO.nine
        go_wp2_with fail
        clear x0 x1 x2 x3 xf xl
        clear ga0 ga1 ga2 ga3 ga4 ga5 ga6 ga7 ga8 gaf gal
        clear go0 go1 go2 go3 go4 go5 go6 go7 go8 gof gol
        refine (HR.out _).mono ?_
        rintro e w2 ⟨rfl, hb2⟩
        replace BV := BV.below hb2
        replace BG := BG.below hb2
        replace BO := BO.below hb2
        replace r1 := r1.below hb2
        replace r2 := r2.below hb2
        have hz_hb2 := hb2.size
        replace hb := chain hb hb2
        clear hb2
        obtain ⟨x0, x1, x2, x3, xf, xl⟩ := BV.four
        obtain ⟨ga0, ga1, ga2, ga3, ga4, ga5, ga6, ga7, ga8, gaf, gal⟩ := BG.nine
        obtain ⟨go0, go1, go2, go3, go4, go5, go6, go7, go8, gof, gol⟩ := BO.nine
        go_wp2
        clear x0 x1 x2 x3 xf xl
        clear ga0 ga1 ga2 ga3 ga4 ga5 ga6 ga7 ga8 gaf gal
        clear go0 go1 go2 go3 go4 go5 go6 go7 go8 gof gol
        have MO := BO.setG9 (.slice none 0 0) (.slice none 0 0) (.int .i64 0) (.int .i64 0) (.int .i64 0) (.int .i64 0) (.int .i64 0) (.int .i64 0) (.int .i64 0)
        have hM0 := Below.farG9 hb (B := gO) (by omega) (.slice none 0 0) (.slice none 0 0) (.int .i64 0) (.int .i64 0) (.int .i64 0) (.int .i64 0) (.int .i64 0) (.int .i64 0) (.int .i64 0)
        have hM := hM0
        have hsz := size_farG9 w2 gO (.slice none 0 0) (.slice none 0 0) (.int .i64 0) (.int .i64 0) (.int .i64 0) (.int .i64 0) (.int .i64 0) (.int .i64 0) (.int .i64 0)
        clear BO hb BV BG r1 r2 hM0
        generalize (((((((((w2.setCell ⟨gO, 0, none⟩ (.slice none 0 0)).setCell ⟨gO, 1, none⟩ (.slice none 0 0)).setCell ⟨gO, 2, none⟩ (.int .i64 0)).setCell ⟨gO, 3, none⟩ (.int .i64 0)).setCell ⟨gO, 4, none⟩ (.int .i64 0)).setCell ⟨gO, 5, none⟩ (.int .i64 0)).setCell ⟨gO, 6, none⟩ (.int .i64 0)).setCell ⟨gO, 7, none⟩ (.int .i64 0)).setCell ⟨gO, 8, none⟩ (.int .i64 0)) = we at *
        obtain ⟨go0, go1, go2, go3, go4, go5, go6, go7, go8, gof, gol⟩ := MO.nine
        refine bodyPost_ret (v := .tuple #[.agg #[.slice none 0 0, .slice none 0 0, .int .i64 0, .int .i64 0, .int .i64 0, .int .i64 0, .int .i64 0, .int .i64 0, .int .i64 0], .int .i64 2]) (by simp [results, Try.results59, go_sem, go0, go1, go2, go3, go4, go5, go6, go7, go8]) rfl ?_
        exact ⟨none, none, 0, 0, rfl, .inl ⟨rfl, rfl, rfl, rfl⟩, hM⟩
      | true =>
        simp only [if_true]
        go_enter Try.func59, Try.ntmps59
        obtain ⟨x0, x1, x2, x3, xf, xl⟩ := BV.four
        obtain ⟨ga0, ga1, ga2, ga3, ga4, ga5, ga6, ga7, ga8, gaf, gal⟩ := BG.nine
        obtain ⟨go0, go1, go2, go3, go4, go5, go6, go7, go8, gof, gol⟩ := BO.nine
        go_wp2_with fail
        clear x0 x1 x2 x3 xf xl
        clear ga0 ga1 ga2 ga3 ga4 ga5 ga6 ga7 ga8 gaf gal
        clear go0 go1 go2 go3 go4 go5 go6 go7 go8 gof gol
        generalize (((w.alloc (.cells #[.int .i64 p, .int .i64 c, .int .i64 h, .int .i64 s] 32)).alloc (.cells #[.slice a1 n1 c1, .slice a2 n2 c2, .int .i64 pl, .int .i64 ra, .int .i64 rb, .int .i64 ph, .int .i64 wi, .int .i64 re, .int .i64 tu] 70)).alloc (.cells #[.slice none 0 0, .slice none 0 0, .int .i64 0, .int .i64 0, .int .i64 0, .int .i64 0, .int .i64 0, .int .i64 0, .int .i64 0] 70)) = v0 at *
        obtain ⟨gO, hgO⟩ : ∃ gO, w.heap.size + 1 + 1 = gO := ⟨_, rfl⟩
        rw [hgO] at BO ⊢
        have hO1 : w.heap.size + 1 + 1 ≤ gO := by omega
        have hO2 : gO ≤ w.heap.size + 1 + 1 := by omega
        have hz4 : gO + 1 ≤ v0.heap.size := by omega
        clear hgO hz
        refine (HV.out _ r1 r2).mono ?_
        rintro e w1 ⟨rfl, hb1⟩
        replace BV := BV.below hb1
        replace BG := BG.below hb1
        replace BO := BO.below hb1
        replace r1 := r1.below hb1
        replace r2 := r2.below hb1
        have hz_hb1 := hb1.size
        replace hb := chain hb hb1
        clear hb1
        obtain ⟨x0, x1, x2, x3, xf, xl⟩ := BV.four
        obtain ⟨ga0, ga1, ga2, ga3, ga4, ga5, ga6, ga7, ga8, gaf, gal⟩ := BG.nine
        obtain ⟨go0, go1, go2, go3, go4, go5, go6, go7, go8, gof, gol⟩ := BO.nine
        go_wp2_with fail
        clear x0 x1 x2 x3 xf xl
        clear ga0 ga1 ga2 ga3 ga4 ga5 ga6 ga7 ga8 gaf gal
        clear go0 go1 go2 go3 go4 go5 go6 go7 go8 gof gol
        refine (HR.out _).mono ?_
        rintro e w2 ⟨rfl, hb2⟩
        replace BV := BV.below hb2
        replace BG := BG.below hb2
        replace BO := BO.below hb2
        replace r1 := r1.below hb2
        replace r2 := r2.below hb2
        have hz_hb2 := hb2.size
        replace hb := chain hb hb2
        clear hb2
        obtain ⟨x0, x1, x2, x3, xf, xl⟩ := BV.four
        obtain ⟨ga0, ga1, ga2, ga3, ga4, ga5, ga6, ga7, ga8, gaf, gal⟩ := BG.nine
        obtain ⟨go0, go1, go2, go3, go4, go5, go6, go7, go8, gof, gol⟩ := BO.nine
        go_wp2_with fail
        clear x0 x1 x2 x3 xf xl
        clear ga0 ga1 ga2 ga3 ga4 ga5 ga6 ga7 ga8 gaf gal
        clear go0 go1 go2 go3 go4 go5 go6 go7 go8 gof gol
        refine (HL.out _ r1 r2).mono ?_
        rintro e w3 ⟨b1, b2, k1, k2, rfl, hne, hq1, hq2, R1, R2, hb3⟩
        replace BV := BV.below hb3
        replace BG := BG.below hb3
        replace BO := BO.below hb3
        replace r1 := r1.below hb3
        replace r2 := r2.below hb3
        have hz_hb3 := hb3.size
        replace hb := chain hb hb3
        clear hb3
        have v1_ := BV.lt
        have v2_ := BG.lt
        have v3_ := BO.lt
        have dd0 : w3.heap.size ≠ w.heap.size := by omega
        have dd1 : w.heap.size ≠ w3.heap.size := by omega
        have dd2 : w3.heap.size ≠ w.heap.size + 1 := by omega
        have dd3 : w.heap.size + 1 ≠ w3.heap.size := by omega
        have dd4 : w3.heap.size ≠ gO := by omega
        have dd5 : gO ≠ w3.heap.size := by omega
        have dd6 : w3.heap.size ≠ w.heap.size + 1 + 1 := by omega
        have dd7 : w.heap.size + 1 + 1 ≠ w3.heap.size := by omega
        have dd8 : w3.heap.size ≠ w.heap.size + 2 := by omega
        have dd9 : w.heap.size + 2 ≠ w3.heap.size := by omega
        obtain ⟨x0, x1, x2, x3, xf, xl⟩ := BV.four
        obtain ⟨ga0, ga1, ga2, ga3, ga4, ga5, ga6, ga7, ga8, gaf, gal⟩ := BG.nine
        obtain ⟨go0, go1, go2, go3, go4, go5, go6, go7, go8, gof, gol⟩ := BO.nine
        go_wp2
        clear x0 x1 x2 x3 xf xl
        clear ga0 ga1 ga2 ga3 ga4 ga5 ga6 ga7 ga8 gaf gal
        clear go0 go1 go2 go3 go4 go5 go6 go7 go8 gof gol
        have MO := (BO.setG9 (.slice (some ⟨b1, 0, none⟩) n1 k1) (.slice (some ⟨b2, 0, none⟩) n2 k2) (.int .i64 pl) (.int .i64 0) (.int .i64 0) (.int .i64 3) (.int .i64 (1 - pl)) (.int .i64 rs) (.int .i64 tu)).alloc (.cells #[.slice (some ⟨b1, 0, none⟩) n1 k1, .slice (some ⟨b2, 0, none⟩) n2 k2, .int .i64 pl, .int .i64 0, .int .i64 0, .int .i64 3, .int .i64 (1 - pl), .int .i64 rs, .int .i64 tu] 70)
        have u1 := R1.lt
        have u2 := R2.lt
        have M1 := (R1.farG9 (B := gO) (by omega) (.slice (some ⟨b1, 0, none⟩) n1 k1) (.slice (some ⟨b2, 0, none⟩) n2 k2) (.int .i64 pl) (.int .i64 0) (.int .i64 0) (.int .i64 3) (.int .i64 (1 - pl)) (.int .i64 rs) (.int .i64 tu)).alloc (.cells #[.slice (some ⟨b1, 0, none⟩) n1 k1, .slice (some ⟨b2, 0, none⟩) n2 k2, .int .i64 pl, .int .i64 0, .int .i64 0, .int .i64 3, .int .i64 (1 - pl), .int .i64 rs, .int .i64 tu] 70)
        have M2 := (R2.farG9 (B := gO) (by omega) (.slice (some ⟨b1, 0, none⟩) n1 k1) (.slice (some ⟨b2, 0, none⟩) n2 k2) (.int .i64 pl) (.int .i64 0) (.int .i64 0) (.int .i64 3) (.int .i64 (1 - pl)) (.int .i64 rs) (.int .i64 tu)).alloc (.cells #[.slice (some ⟨b1, 0, none⟩) n1 k1, .slice (some ⟨b2, 0, none⟩) n2 k2, .int .i64 pl, .int .i64 0, .int .i64 0, .int .i64 3, .int .i64 (1 - pl), .int .i64 rs, .int .i64 tu] 70)
        clear R1 R2
        have hM0 := Below.farG9 hb (B := gO) (by omega) (.slice (some ⟨b1, 0, none⟩) n1 k1) (.slice (some ⟨b2, 0, none⟩) n2 k2) (.int .i64 pl) (.int .i64 0) (.int .i64 0) (.int .i64 3) (.int .i64 (1 - pl)) (.int .i64 rs) (.int .i64 tu)
        have hM := hM0.alloc hM0.size (.cells #[.slice (some ⟨b1, 0, none⟩) n1 k1, .slice (some ⟨b2, 0, none⟩) n2 k2, .int .i64 pl, .int .i64 0, .int .i64 0, .int .i64 3, .int .i64 (1 - pl), .int .i64 rs, .int .i64 tu] 70)
        have hsz := size_farG9 w3 gO (.slice (some ⟨b1, 0, none⟩) n1 k1) (.slice (some ⟨b2, 0, none⟩) n2 k2) (.int .i64 pl) (.int .i64 0) (.int .i64 0) (.int .i64 3) (.int .i64 (1 - pl)) (.int .i64 rs) (.int .i64 tu)
        have hsa : (((((((((w3.setCell ⟨gO, 0, none⟩ (.slice (some ⟨b1, 0, none⟩) n1 k1)).setCell ⟨gO, 1, none⟩ (.slice (some ⟨b2, 0, none⟩) n2 k2)).setCell ⟨gO, 2, none⟩ (.int .i64 pl)).setCell ⟨gO, 3, none⟩ (.int .i64 0)).setCell ⟨gO, 4, none⟩ (.int .i64 0)).setCell ⟨gO, 5, none⟩ (.int .i64 3)).setCell ⟨gO, 6, none⟩ (.int .i64 (1 - pl))).setCell ⟨gO, 7, none⟩ (.int .i64 rs)).setCell ⟨gO, 8, none⟩ (.int .i64 tu)).heap.size + 1 ≤ ((((((((((w3.setCell ⟨gO, 0, none⟩ (.slice (some ⟨b1, 0, none⟩) n1 k1)).setCell ⟨gO, 1, none⟩ (.slice (some ⟨b2, 0, none⟩) n2 k2)).setCell ⟨gO, 2, none⟩ (.int .i64 pl)).setCell ⟨gO, 3, none⟩ (.int .i64 0)).setCell ⟨gO, 4, none⟩ (.int .i64 0)).setCell ⟨gO, 5, none⟩ (.int .i64 3)).setCell ⟨gO, 6, none⟩ (.int .i64 (1 - pl))).setCell ⟨gO, 7, none⟩ (.int .i64 rs)).setCell ⟨gO, 8, none⟩ (.int .i64 tu)).alloc (.cells #[.slice (some ⟨b1, 0, none⟩) n1 k1, .slice (some ⟨b2, 0, none⟩) n2 k2, .int .i64 pl, .int .i64 0, .int .i64 0, .int .i64 3, .int .i64 (1 - pl), .int .i64 rs, .int .i64 tu] 70)).heap.size := by simp
        clear BO hb BV BG r1 r2 hM0
        generalize ((((((((((w3.setCell ⟨gO, 0, none⟩ (.slice (some ⟨b1, 0, none⟩) n1 k1)).setCell ⟨gO, 1, none⟩ (.slice (some ⟨b2, 0, none⟩) n2 k2)).setCell ⟨gO, 2, none⟩ (.int .i64 pl)).setCell ⟨gO, 3, none⟩ (.int .i64 0)).setCell ⟨gO, 4, none⟩ (.int .i64 0)).setCell ⟨gO, 5, none⟩ (.int .i64 3)).setCell ⟨gO, 6, none⟩ (.int .i64 (1 - pl))).setCell ⟨gO, 7, none⟩ (.int .i64 rs)).setCell ⟨gO, 8, none⟩ (.int .i64 tu)).alloc (.cells #[.slice (some ⟨b1, 0, none⟩) n1 k1, .slice (some ⟨b2, 0, none⟩) n2 k2, .int .i64 pl, .int .i64 0, .int .i64 0, .int .i64 3, .int .i64 (1 - pl), .int .i64 rs, .int .i64 tu] 70)) = we at *
        obtain ⟨go0, go1, go2, go3, go4, go5, go6, go7, go8, gof, gol⟩ := MO.nine
        refine bodyPost_ret (v := .tuple #[.agg #[.slice (some ⟨b1, 0, none⟩) n1 k1, .slice (some ⟨b2, 0, none⟩) n2 k2, .int .i64 pl, .int .i64 0, .int .i64 0, .int .i64 3, .int .i64 (1 - pl), .int .i64 rs, .int .i64 tu], .int .i64 0]) (by simp [results, Try.results59, go_sem, go0, go1, go2, go3, go4, go5, go6, go7, go8]) rfl ?_
        subst h1 h2
        exact ⟨_, _, _, _, rfl, .inr ⟨b1, b2, rfl, rfl, hne, by omega, by omega, by omega, by omega, M1, M2⟩, hM⟩
    · have k1 : (ph == 1) = false := by rw [beq_eq_false_iff_ne]; exact q1
      have j1 : (ph != 1) = true := by rw [bne_iff_ne]; exact q1
      by_cases q2 : ph = 2
      · have k2 : (ph == 2) = true := by rw [beq_iff_eq]; exact q2
        have j2 : (ph != 2) = false := by rw [bne_eq_false_iff_eq]; exact q2
        clear q1
        simp only [show ph ∈ [1, 2] from by simp [q2], if_true]
        clear q2
        have hR := fun W => l01In_b rs 1 3 W
        obtain ⟨R, hRe⟩ : ∃ q, inB rs 1 3 = q := ⟨_, rfl⟩
        rw [hRe] at hR ⊢
        have hL := fun (W : World) (r1 : IRow W a1 xs) (r2 : IRow W a2 ys) => l08Own_any a1 a2 n1 n2 c1 c2 xs ys pl ra rb ph wi re tu W h1 h2 t1 t2 l1 l2 r1 r2
        have wz : IntKind.i64.wrap (1 - pl) = 1 - pl := IntWalk.i64_in _ (by omega)
        have HR := Lib.hid hR
        have HL := Lib.hid hL
        clear hR hL hRe gv hpl
        cases R with
        | false =>
          simp only [Bool.false_eq_true, if_false]
          go_enter Try.func59, Try.ntmps59
          obtain ⟨x0, x1, x2, x3, xf, xl⟩ := BV.four
          obtain ⟨ga0, ga1, ga2, ga3, ga4, ga5, ga6, ga7, ga8, gaf, gal⟩ := BG.nine
          obtain ⟨go0, go1, go2, go3, go4, go5, go6, go7, go8, gof, gol⟩ := BO.nine
          go_wp2_with fail
          clear x0 x1 x2 x3 xf xl
          clear ga0 ga1 ga2 ga3 ga4 ga5 ga6 ga7 ga8 gaf gal
          clear go0 go1 go2 go3 go4 go5 go6 go7 go8 gof gol
          generalize (((w.alloc (.cells #[.int .i64 p, .int .i64 c, .int .i64 h, .int .i64 s] 32)).alloc (.cells #[.slice a1 n1 c1, .slice a2 n2 c2, .int .i64 pl, .int .i64 ra, .int .i64 rb, .int .i64 ph, .int .i64 wi, .int .i64 re, .int .i64 tu] 70)).alloc (.cells #[.slice none 0 0, .slice none 0 0, .int .i64 0, .int .i64 0, .int .i64 0, .int .i64 0, .int .i64 0, .int .i64 0, .int .i64 0] 70)) = v0 at *
          obtain ⟨gO, hgO⟩ : ∃ gO, w.heap.size + 1 + 1 = gO := ⟨_, rfl⟩
          rw [hgO] at BO ⊢
          have hO1 : w.heap.size + 1 + 1 ≤ gO := by omega
          have hO2 : gO ≤ w.heap.size + 1 + 1 := by omega
          have hz4 : gO + 1 ≤ v0.heap.size := by omega
          clear hgO hz
          refine (HV.out _ r1 r2).mono ?_
          rintro e w1 ⟨rfl, hb1⟩
          replace BV := BV.below hb1
          replace BG := BG.below hb1
          replace BO := BO.below hb1
          replace r1 := r1.below hb1
          replace r2 := r2.below hb1
          have hz_hb1 := hb1.size
          replace hb := chain hb hb1
          clear hb1
          obtain ⟨x0, x1, x2, x3, xf, xl⟩ := BV.four
          obtain ⟨ga0, ga1, ga2, ga3, ga4, ga5, ga6, ga7, ga8, gaf, gal⟩ := BG.nine
          obtain ⟨go0, go1, go2, go3, go4, go5, go6, go7, go8, gof, gol⟩ := BO.nine
          go_wp2_with fail
          clear x0 x1 x2 x3 xf xl
          clear ga0 ga1 ga2 ga3 ga4 ga5 ga6 ga7 ga8 gaf gal
          clear go0 go1 go2 go3 go4 go5 go6 go7 go8 gof gol
          refine (HR.out _).mono ?_
          rintro e w2 ⟨rfl, hb2⟩
          replace BV := BV.below hb2
          replace BG := BG.below hb2
          replace BO := BO.below hb2
          replace r1 := r1.below hb2
          replace r2 := r2.below hb2
          have hz_hb2 := hb2.size
          replace hb := chain hb hb2
          clear hb2
          obtain ⟨x0, x1, x2, x3, xf, xl⟩ := BV.four
          obtain ⟨ga0, ga1, ga2, ga3, ga4, ga5, ga6, ga7, ga8, gaf, gal⟩ := BG.nine
          obtain ⟨go0, go1, go2, go3, go4, go5, go6, go7, go8, gof, gol⟩ := BO.nine
          go_wp2
          clear x0 x1 x2 x3 xf xl
          clear ga0 ga1 ga2 ga3 ga4 ga5 ga6 ga7 ga8 gaf gal
          clear go0 go1 go2 go3 go4 go5 go6 go7 go8 gof gol
          have MO := BO.setG9 (.slice none 0 0) (.slice none 0 0) (.int .i64 0) (.int .i64 0) (.int .i64 0) (.int .i64 0) (.int .i64 0) (.int .i64 0) (.int .i64 0)
          have hM0 := Below.farG9 hb (B := gO) (by omega) (.slice none 0 0) (.slice none 0 0) (.int .i64 0) (.int .i64 0) (.int .i64 0) (.int .i64 0) (.int .i64 0) (.int .i64 0) (.int .i64 0)
          have hM := hM0
          have hsz := size_farG9 w2 gO (.slice none 0 0) (.slice none 0 0) (.int .i64 0) (.int .i64 0) (.int .i64 0) (.int .i64 0) (.int .i64 0) (.int .i64 0) (.int .i64 0)
          clear BO hb BV BG r1 r2 hM0
          generalize (((((((((w2.setCell ⟨gO, 0, none⟩ (.slice none 0 0)).setCell ⟨gO, 1, none⟩ (.slice none 0 0)).setCell ⟨gO, 2, none⟩ (.int .i64 0)).setCell ⟨gO, 3, none⟩ (.int .i64 0)).setCell ⟨gO, 4, none⟩ (.int .i64 0)).setCell ⟨gO, 5, none⟩ (.int .i64 0)).setCell ⟨gO, 6, none⟩ (.int .i64 0)).setCell ⟨gO, 7, none⟩ (.int .i64 0)).setCell ⟨gO, 8, none⟩ (.int .i64 0)) = we at *
          obtain ⟨go0, go1, go2, go3, go4, go5, go6, go7, go8, gof, gol⟩ := MO.nine
          refine bodyPost_ret (v := .tuple #[.agg #[.slice none 0 0, .slice none 0 0, .int .i64 0, .int .i64 0, .int .i64 0, .int .i64 0, .int .i64 0, .int .i64 0, .int .i64 0], .int .i64 2]) (by simp [results, Try.results59, go_sem, go0, go1, go2, go3, go4, go5, go6, go7, go8]) rfl ?_
          exact ⟨none, none, 0, 0, rfl, .inl ⟨rfl, rfl, rfl, rfl⟩, hM⟩
        | true =>
          simp only [if_true]
          go_enter Try.func59, Try.ntmps59
          obtain ⟨x0, x1, x2, x3, xf, xl⟩ := BV.four
          obtain ⟨ga0, ga1, ga2, ga3, ga4, ga5, ga6, ga7, ga8, gaf, gal⟩ := BG.nine
          obtain ⟨go0, go1, go2, go3, go4, go5, go6, go7, go8, gof, gol⟩ := BO.nine
          go_wp2_with fail
          clear x0 x1 x2 x3 xf xl
          clear ga0 ga1 ga2 ga3 ga4 ga5 ga6 ga7 ga8 gaf gal
          clear go0 go1 go2 go3 go4 go5 go6 go7 go8 gof gol
          generalize (((w.alloc (.cells #[.int .i64 p, .int .i64 c, .int .i64 h, .int .i64 s] 32)).alloc (.cells #[.slice a1 n1 c1, .slice a2 n2 c2, .int .i64 pl, .int .i64 ra, .int .i64 rb, .int .i64 ph, .int .i64 wi, .int .i64 re, .int .i64 tu] 70)).alloc (.cells #[.slice none 0 0, .slice none 0 0, .int .i64 0, .int .i64 0, .int .i64 0, .int .i64 0, .int .i64 0, .int .i64 0, .int .i64 0] 70)) = v0 at *
          obtain ⟨gO, hgO⟩ : ∃ gO, w.heap.size + 1 + 1 = gO := ⟨_, rfl⟩
          rw [hgO] at BO ⊢
          have hO1 : w.heap.size + 1 + 1 ≤ gO := by omega
          have hO2 : gO ≤ w.heap.size + 1 + 1 := by omega
          have hz4 : gO + 1 ≤ v0.heap.size := by omega
          clear hgO hz
          refine (HV.out _ r1 r2).mono ?_
          rintro e w1 ⟨rfl, hb1⟩
          replace BV := BV.below hb1
          replace BG := BG.below hb1
          replace BO := BO.below hb1
          replace r1 := r1.below hb1
          replace r2 := r2.below hb1
          have hz_hb1 := hb1.size
          replace hb := chain hb hb1
          clear hb1
          obtain ⟨x0, x1, x2, x3, xf, xl⟩ := BV.four
          obtain ⟨ga0, ga1, ga2, ga3, ga4, ga5, ga6, ga7, ga8, gaf, gal⟩ := BG.nine
          obtain ⟨go0, go1, go2, go3, go4, go5, go6, go7, go8, gof, gol⟩ := BO.nine
          go_wp2_with fail
          clear x0 x1 x2 x3 xf xl
          clear ga0 ga1 ga2 ga3 ga4 ga5 ga6 ga7 ga8 gaf gal
          clear go0 go1 go2 go3 go4 go5 go6 go7 go8 gof gol
          refine (HR.out _).mono ?_
          rintro e w2 ⟨rfl, hb2⟩
          replace BV := BV.below hb2
          replace BG := BG.below hb2
          replace BO := BO.below hb2
          replace r1 := r1.below hb2
          replace r2 := r2.below hb2
          have hz_hb2 := hb2.size
          replace hb := chain hb hb2
          clear hb2
          obtain ⟨x0, x1, x2, x3, xf, xl⟩ := BV.four
          obtain ⟨ga0, ga1, ga2, ga3, ga4, ga5, ga6, ga7, ga8, gaf, gal⟩ := BG.nine
          obtain ⟨go0, go1, go2, go3, go4, go5, go6, go7, go8, gof, gol⟩ := BO.nine
          go_wp2_with fail
          clear x0 x1 x2 x3 xf xl
          clear ga0 ga1 ga2 ga3 ga4 ga5 ga6 ga7 ga8 gaf gal
          clear go0 go1 go2 go3 go4 go5 go6 go7 go8 gof gol
          refine (HL.out _ r1 r2).mono ?_
          rintro e w3 ⟨b1, b2, k1, k2, rfl, hne, hq1, hq2, R1, R2, hb3⟩
          replace BV := BV.below hb3
          replace BG := BG.below hb3
          replace BO := BO.below hb3
          replace r1 := r1.below hb3
          replace r2 := r2.below hb3
          have hz_hb3 := hb3.size
          replace hb := chain hb hb3
          clear hb3
          have v1_ := BV.lt
          have v2_ := BG.lt
          have v3_ := BO.lt
          have dd0 : w3.heap.size ≠ w.heap.size := by omega
          have dd1 : w.heap.size ≠ w3.heap.size := by omega
          have dd2 : w3.heap.size ≠ w.heap.size + 1 := by omega
          have dd3 : w.heap.size + 1 ≠ w3.heap.size := by omega
          have dd4 : w3.heap.size ≠ gO := by omega
          have dd5 : gO ≠ w3.heap.size := by omega
          have dd6 : w3.heap.size ≠ w.heap.size + 1 + 1 := by omega
          have dd7 : w.heap.size + 1 + 1 ≠ w3.heap.size := by omega
          have dd8 : w3.heap.size ≠ w.heap.size + 2 := by omega
          have dd9 : w.heap.size + 2 ≠ w3.heap.size := by omega
          obtain ⟨x0, x1, x2, x3, xf, xl⟩ := BV.four
          obtain ⟨ga0, ga1, ga2, ga3, ga4, ga5, ga6, ga7, ga8, gaf, gal⟩ := BG.nine
          obtain ⟨go0, go1, go2, go3, go4, go5, go6, go7, go8, gof, gol⟩ := BO.nine
          go_wp2
          clear x0 x1 x2 x3 xf xl
          clear ga0 ga1 ga2 ga3 ga4 ga5 ga6 ga7 ga8 gaf gal
          clear go0 go1 go2 go3 go4 go5 go6 go7 go8 gof gol
          have MO := (BO.setG9 (.slice (some ⟨b1, 0, none⟩) n1 k1) (.slice (some ⟨b2, 0, none⟩) n2 k2) (.int .i64 pl) (.int .i64 0) (.int .i64 0) (.int .i64 3) (.int .i64 (1 - pl)) (.int .i64 rs) (.int .i64 tu)).alloc (.cells #[.slice (some ⟨b1, 0, none⟩) n1 k1, .slice (some ⟨b2, 0, none⟩) n2 k2, .int .i64 pl, .int .i64 0, .int .i64 0, .int .i64 3, .int .i64 (1 - pl), .int .i64 rs, .int .i64 tu] 70)
          have u1 := R1.lt
          have u2 := R2.lt
          have M1 := (R1.farG9 (B := gO) (by omega) (.slice (some ⟨b1, 0, none⟩) n1 k1) (.slice (some ⟨b2, 0, none⟩) n2 k2) (.int .i64 pl) (.int .i64 0) (.int .i64 0) (.int .i64 3) (.int .i64 (1 - pl)) (.int .i64 rs) (.int .i64 tu)).alloc (.cells #[.slice (some ⟨b1, 0, none⟩) n1 k1, .slice (some ⟨b2, 0, none⟩) n2 k2, .int .i64 pl, .int .i64 0, .int .i64 0, .int .i64 3, .int .i64 (1 - pl), .int .i64 rs, .int .i64 tu] 70)
          have M2 := (R2.farG9 (B := gO) (by omega) (.slice (some ⟨b1, 0, none⟩) n1 k1) (.slice (some ⟨b2, 0, none⟩) n2 k2) (.int .i64 pl) (.int .i64 0) (.int .i64 0) (.int .i64 3) (.int .i64 (1 - pl)) (.int .i64 rs) (.int .i64 tu)).alloc (.cells #[.slice (some ⟨b1, 0, none⟩) n1 k1, .slice (some ⟨b2, 0, none⟩) n2 k2, .int .i64 pl, .int .i64 0, .int .i64 0, .int .i64 3, .int .i64 (1 - pl), .int .i64 rs, .int .i64 tu] 70)
          clear R1 R2
          have hM0 := Below.farG9 hb (B := gO) (by omega) (.slice (some ⟨b1, 0, none⟩) n1 k1) (.slice (some ⟨b2, 0, none⟩) n2 k2) (.int .i64 pl) (.int .i64 0) (.int .i64 0) (.int .i64 3) (.int .i64 (1 - pl)) (.int .i64 rs) (.int .i64 tu)
          have hM := hM0.alloc hM0.size (.cells #[.slice (some ⟨b1, 0, none⟩) n1 k1, .slice (some ⟨b2, 0, none⟩) n2 k2, .int .i64 pl, .int .i64 0, .int .i64 0, .int .i64 3, .int .i64 (1 - pl), .int .i64 rs, .int .i64 tu] 70)
          have hsz := size_farG9 w3 gO (.slice (some ⟨b1, 0, none⟩) n1 k1) (.slice (some ⟨b2, 0, none⟩) n2 k2) (.int .i64 pl) (.int .i64 0) (.int .i64 0) (.int .i64 3) (.int .i64 (1 - pl)) (.int .i64 rs) (.int .i64 tu)
          have hsa : (((((((((w3.setCell ⟨gO, 0, none⟩ (.slice (some ⟨b1, 0, none⟩) n1 k1)).setCell ⟨gO, 1, none⟩ (.slice (some ⟨b2, 0, none⟩) n2 k2)).setCell ⟨gO, 2, none⟩ (.int .i64 pl)).setCell ⟨gO, 3, none⟩ (.int .i64 0)).setCell ⟨gO, 4, none⟩ (.int .i64 0)).setCell ⟨gO, 5, none⟩ (.int .i64 3)).setCell ⟨gO, 6, none⟩ (.int .i64 (1 - pl))).setCell ⟨gO, 7, none⟩ (.int .i64 rs)).setCell ⟨gO, 8, none⟩ (.int .i64 tu)).heap.size + 1 ≤ ((((((((((w3.setCell ⟨gO, 0, none⟩ (.slice (some ⟨b1, 0, none⟩) n1 k1)).setCell ⟨gO, 1, none⟩ (.slice (some ⟨b2, 0, none⟩) n2 k2)).setCell ⟨gO, 2, none⟩ (.int .i64 pl)).setCell ⟨gO, 3, none⟩ (.int .i64 0)).setCell ⟨gO, 4, none⟩ (.int .i64 0)).setCell ⟨gO, 5, none⟩ (.int .i64 3)).setCell ⟨gO, 6, none⟩ (.int .i64 (1 - pl))).setCell ⟨gO, 7, none⟩ (.int .i64 rs)).setCell ⟨gO, 8, none⟩ (.int .i64 tu)).alloc (.cells #[.slice (some ⟨b1, 0, none⟩) n1 k1, .slice (some ⟨b2, 0, none⟩) n2 k2, .int .i64 pl, .int .i64 0, .int .i64 0, .int .i64 3, .int .i64 (1 - pl), .int .i64 rs, .int .i64 tu] 70)).heap.size := by simp
          clear BO hb BV BG r1 r2 hM0
          generalize ((((((((((w3.setCell ⟨gO, 0, none⟩ (.slice (some ⟨b1, 0, none⟩) n1 k1)).setCell ⟨gO, 1, none⟩ (.slice (some ⟨b2, 0, none⟩) n2 k2)).setCell ⟨gO, 2, none⟩ (.int .i64 pl)).setCell ⟨gO, 3, none⟩ (.int .i64 0)).setCell ⟨gO, 4, none⟩ (.int .i64 0)).setCell ⟨gO, 5, none⟩ (.int .i64 3)).setCell ⟨gO, 6, none⟩ (.int .i64 (1 - pl))).setCell ⟨gO, 7, none⟩ (.int .i64 rs)).setCell ⟨gO, 8, none⟩ (.int .i64 tu)).alloc (.cells #[.slice (some ⟨b1, 0, none⟩) n1 k1, .slice (some ⟨b2, 0, none⟩) n2 k2, .int .i64 pl, .int .i64 0, .int .i64 0, .int .i64 3, .int .i64 (1 - pl), .int .i64 rs, .int .i64 tu] 70)) = we at *
          obtain ⟨go0, go1, go2, go3, go4, go5, go6, go7, go8, gof, gol⟩ := MO.nine
          refine bodyPost_ret (v := .tuple #[.agg #[.slice (some ⟨b1, 0, none⟩) n1 k1, .slice (some ⟨b2, 0, none⟩) n2 k2, .int .i64 pl, .int .i64 0, .int .i64 0, .int .i64 3, .int .i64 (1 - pl), .int .i64 rs, .int .i64 tu], .int .i64 0]) (by simp [results, Try.results59, go_sem, go0, go1, go2, go3, go4, go5, go6, go7, go8]) rfl ?_
          subst h1 h2
          exact ⟨_, _, _, _, rfl, .inr ⟨b1, b2, rfl, rfl, hne, by omega, by omega, by omega, by omega, M1, M2⟩, hM⟩
      · have k2 : (ph == 2) = false := by rw [beq_eq_false_iff_ne]; exact q2
        have j2 : (ph != 2) = true := by rw [bne_iff_ne]; exact q2
        simp only [show (ph ∈ [1, 2]) = False from by simp [q1, q2], if_false, show ((5 : Int) = 0) = False from by simp]
        clear q1 q2
        go_enter Try.func59, Try.ntmps59
        obtain ⟨x0, x1, x2, x3, xf, xl⟩ := BV.four
        obtain ⟨ga0, ga1, ga2, ga3, ga4, ga5, ga6, ga7, ga8, gaf, gal⟩ := BG.nine
        obtain ⟨go0, go1, go2, go3, go4, go5, go6, go7, go8, gof, gol⟩ := BO.nine
        go_wp2_with fail
        clear x0 x1 x2 x3 xf xl
        clear ga0 ga1 ga2 ga3 ga4 ga5 ga6 ga7 ga8 gaf gal
        clear go0 go1 go2 go3 go4 go5 go6 go7 go8 gof gol
        generalize (((w.alloc (.cells #[.int .i64 p, .int .i64 c, .int .i64 h, .int .i64 s] 32)).alloc (.cells #[.slice a1 n1 c1, .slice a2 n2 c2, .int .i64 pl, .int .i64 ra, .int .i64 rb, .int .i64 ph, .int .i64 wi, .int .i64 re, .int .i64 tu] 70)).alloc (.cells #[.slice none 0 0, .slice none 0 0, .int .i64 0, .int .i64 0, .int .i64 0, .int .i64 0, .int .i64 0, .int .i64 0, .int .i64 0] 70)) = v0 at *
        obtain ⟨gO, hgO⟩ : ∃ gO, w.heap.size + 1 + 1 = gO := ⟨_, rfl⟩
        rw [hgO] at BO ⊢
        have hO1 : w.heap.size + 1 + 1 ≤ gO := by omega
        have hO2 : gO ≤ w.heap.size + 1 + 1 := by omega
        have hz4 : gO + 1 ≤ v0.heap.size := by omega
        clear hgO hz
        refine (HV.out _ r1 r2).mono ?_
        rintro e w1 ⟨rfl, hb1⟩
        replace BV := BV.below hb1
        replace BG := BG.below hb1
        replace BO := BO.below hb1
        replace r1 := r1.below hb1
        replace r2 := r2.below hb1
        have hz_hb1 := hb1.size
        replace hb := chain hb hb1
        clear hb1
        obtain ⟨x0, x1, x2, x3, xf, xl⟩ := BV.four
        obtain ⟨ga0, ga1, ga2, ga3, ga4, ga5, ga6, ga7, ga8, gaf, gal⟩ := BG.nine
        obtain ⟨go0, go1, go2, go3, go4, go5, go6, go7, go8, gof, gol⟩ := BO.nine
        go_wp2
        clear x0 x1 x2 x3 xf xl
        clear ga0 ga1 ga2 ga3 ga4 ga5 ga6 ga7 ga8 gaf gal
        clear go0 go1 go2 go3 go4 go5 go6 go7 go8 gof gol
        have MO := BO.setG9 (.slice none 0 0) (.slice none 0 0) (.int .i64 0) (.int .i64 0) (.int .i64 0) (.int .i64 0) (.int .i64 0) (.int .i64 0) (.int .i64 0)
        have hM0 := Below.farG9 hb (B := gO) (by omega) (.slice none 0 0) (.slice none 0 0) (.int .i64 0) (.int .i64 0) (.int .i64 0) (.int .i64 0) (.int .i64 0) (.int .i64 0) (.int .i64 0)
        have hM := hM0
        have hsz := size_farG9 w1 gO (.slice none 0 0) (.slice none 0 0) (.int .i64 0) (.int .i64 0) (.int .i64 0) (.int .i64 0) (.int .i64 0) (.int .i64 0) (.int .i64 0)
        clear BO hb BV BG r1 r2 hM0
        generalize (((((((((w1.setCell ⟨gO, 0, none⟩ (.slice none 0 0)).setCell ⟨gO, 1, none⟩ (.slice none 0 0)).setCell ⟨gO, 2, none⟩ (.int .i64 0)).setCell ⟨gO, 3, none⟩ (.int .i64 0)).setCell ⟨gO, 4, none⟩ (.int .i64 0)).setCell ⟨gO, 5, none⟩ (.int .i64 0)).setCell ⟨gO, 6, none⟩ (.int .i64 0)).setCell ⟨gO, 7, none⟩ (.int .i64 0)).setCell ⟨gO, 8, none⟩ (.int .i64 0)) = we at *
        obtain ⟨go0, go1, go2, go3, go4, go5, go6, go7, go8, gof, gol⟩ := MO.nine
        refine bodyPost_ret (v := .tuple #[.agg #[.slice none 0 0, .slice none 0 0, .int .i64 0, .int .i64 0, .int .i64 0, .int .i64 0, .int .i64 0, .int .i64 0, .int .i64 0], .int .i64 5]) (by simp [results, Try.results59, go_sem, go0, go1, go2, go3, go4, go5, go6, go7, go8]) rfl ?_
        exact ⟨none, none, 0, 0, rfl, .inl ⟨rfl, rfl, rfl, rfl⟩, hM⟩
end Go.Proofs.Ytokjkcnjmfbfiaa
