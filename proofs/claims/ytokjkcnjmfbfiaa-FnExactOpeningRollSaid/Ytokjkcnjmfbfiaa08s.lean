/- Contract of the model on opening rolls. -/
import Derived.Test.Ytokjkcnjmfbfiaa08q
import Derived.Test.Ytokjkcnjmfbfiaa08r
import Derived.Test.Ytokjkcnjmfbfiaa08h
namespace Go.Proofs.Ytokjkcnjmfbfiaa
open Go.ChangeShapes Go.WideShapes Go.ChangeAt Go.RowKit
set_option linter.unusedVariables false
set_option linter.unusedSimpArgs false
set_option maxRecDepth 4000

theorem openedG_eq (xs ys : List Int) (ra rb fa fb : Int) : openedG ⟨xs, ys, 0, ra, rb, 0, 0, 0, 0⟩ fa fb = ⟨if fa < fb then ys else xs, if fa < fb then xs else ys, if fa < fb then 1 else 0, if fa = fb then ra else (prR fa fb).1, if fa = fb then rb else (prR fa fb).2, if fa = fb then 0 else 2, 0, 0, 0⟩ := by
  unfold openedG
  by_cases e : fa = fb
  · rw [if_pos e, if_neg (by omega), if_neg (by omega), if_neg (by omega), if_pos e, if_pos e, if_pos e]
  · rw [if_neg e, if_neg e, if_neg e, if_neg e]
theorem IRow.lt {w : World} {a : Option Addr} {xs : List Int} (h : IRow w a xs) (hl : 0 < xs.length) : ∀ b o s, a = some ⟨b, o, s⟩ → b < w.heap.size := by
  intro b o s e
  obtain ⟨b', o', e', hc⟩ := h 0 hl
  rw [e] at e'
  simp at e'
  have := World.block_lt_of_cell? w _ hc
  simp at this
  omega
set_option maxRecDepth 8000 in
set_option maxHeartbeats 4000000 in
theorem openingRollS_any (p c h s : Int) (a1 a2 : Option Addr) (n1 n2 c1 c2 : Nat) (xs ys : List Int) (w : World) (h1 : xs.length = n1) (h2 : ys.length = n2) (l1 : n1 ≤ 1048576) (l2 : n2 ≤ 1048576) (r1 : IRow w a1 xs) (r2 : IRow w a2 ys) (pl ra rb ph wi re tu : Int) (fa fb : Int) : Calls Try.prog 51 #[.agg #[.int .i64 p, .int .i64 c, .int .i64 h, .int .i64 s], .agg #[.slice a1 n1 c1, .slice a2 n2 c2, .int .i64 pl, .int .i64 ra, .int .i64 rb, .int .i64 ph, .int .i64 wi, .int .i64 re, .int .i64 tu], .int .i64 fa, .int .i64 fb] w (GameGot (openingV p c h s ⟨xs, ys, pl, ra, rb, ph, wi, re, tu⟩ fa fb) (openingC p c h s ⟨xs, ys, pl, ra, rb, ph, wi, re, tu⟩ fa fb) w) := by
  have hV := fun (W : World) (r1 : IRow W a1 xs) (r2 : IRow W a2 ys) => l08Valid_any p c h s a1 a2 n1 n2 c1 c2 xs ys W h1 h2 l1 l2 r1 r2 pl ra rb ph wi re tu
  have hg : gmB p c h s xs ys pl ra rb ph wi re tu = true → ph = 0 → isB p c h s xs ys = true ∧ pl = 0 ∧ wi = 0 ∧ re = 0 ∧ tu = 0 := gmB_open
  unfold openingV openingC pcC
  dsimp only
  obtain ⟨A, hA⟩ : ∃ q, gmB p c h s xs ys pl ra rb ph wi re tu = q := ⟨_, rfl⟩
  rw [hA] at hV hg ⊢
  have HV := Lib.hid hV
  clear hV hA
  obtain ⟨BV, BG, BO, hb, hz⟩ := three_new w #[.int .i64 p, .int .i64 c, .int .i64 h, .int .i64 s] #[.slice a1 n1 c1, .slice a2 n2 c2, .int .i64 pl, .int .i64 ra, .int .i64 rb, .int .i64 ph, .int .i64 wi, .int .i64 re, .int .i64 tu] #[.slice none 0 0, .slice none 0 0, .int .i64 0, .int .i64 0, .int .i64 0, .int .i64 0, .int .i64 0, .int .i64 0, .int .i64 0] 32 70 70
  replace r1 := r1.below hb
  replace r2 := r2.below hb
  cases A with
  | false =>
    simp only [Bool.false_eq_true, if_false, show ((1 : Int) = 0) = False from by simp]
    clear hg
    go_enter Try.func51, Try.ntmps51
    obtain ⟨x0, x1, x2, x3, xf, xl⟩ := BV.four
    obtain ⟨ga0, ga1, ga2, ga3, ga4, ga5, ga6, ga7, ga8, gaf, gal⟩ := BG.nine
    obtain ⟨go0, go1, go2, go3, go4, go5, go6, go7, go8, gof, gol⟩ := BO.nine
    go_wp2_with fail
    clear x0 x1 x2 x3 xf xl
    clear ga0 ga1 ga2 ga3 ga4 ga5 ga6 ga7 ga8 gaf gal
    clear go0 go1 go2 go3 go4 go5 go6 go7 go8 gof gol
    generalize (((w.alloc (.cells #[.int .i64 p, .int .i64 c, .int .i64 h, .int .i64 s] 32)).alloc (.cells #[.slice a1 n1 c1, .slice a2 n2 c2, .int .i64 pl, .int .i64 ra, .int .i64 rb, .int .i64 ph, .int .i64 wi, .int .i64 re, .int .i64 tu] 70)).alloc (.cells #[.slice none 0 0, .slice none 0 0, .int .i64 0, .int .i64 0, .int .i64 0, .int .i64 0, .int .i64 0, .int .i64 0, .int .i64 0] 70)) = v0 at *
    obtain ⟨gO, hgO⟩ : ∃ gO, w.heap.size + 1 + 1 = gO := ⟨_, rfl⟩
    rw [hgO] at BO ⊢
    have hO1 : w.heap.size + 1 + 1 ≤ gO := by omega
    have hO2 : gO ≤ w.heap.size + 1 + 1 := by omega
    have hz4 : gO + 1 ≤ v0.heap.size := by omega
    clear hgO hz
    refine (HV.out _ r1 r2).mono ?_
    rintro e w1 ⟨rfl, hb1⟩
    replace BV := BV.below hb1
    replace BG := BG.below hb1
    replace BO := BO.below hb1
    replace r1 := r1.below hb1
    replace r2 := r2.below hb1
    have hz_hb1 := hb1.size
    replace hb := chain hb hb1
    clear hb1
    obtain ⟨x0, x1, x2, x3, xf, xl⟩ := BV.four
    obtain ⟨ga0, ga1, ga2, ga3, ga4, ga5, ga6, ga7, ga8, gaf, gal⟩ := BG.nine
    obtain ⟨go0, go1, go2, go3, go4, go5, go6, go7, go8, gof, gol⟩ := BO.nine
    go_wp2
    clear x0 x1 x2 x3 xf xl
    clear ga0 ga1 ga2 ga3 ga4 ga5 ga6 ga7 ga8 gaf gal
    clear go0 go1 go2 go3 go4 go5 go6 go7 go8 gof gol
    have MO := BO.setG9 (.slice none 0 0) (.slice none 0 0) (.int .i64 0) (.int .i64 0) (.int .i64 0) (.int .i64 0) (.int .i64 0) (.int .i64 0) (.int .i64 0)
    have hM := Below.farG9 hb (B := gO) (by omega) (.slice none 0 0) (.slice none 0 0) (.int .i64 0) (.int .i64 0) (.int .i64 0) (.int .i64 0) (.int .i64 0) (.int .i64 0) (.int .i64 0)
    have hsz := size_farG9 w1 gO (.slice none 0 0) (.slice none 0 0) (.int .i64 0) (.int .i64 0) (.int .i64 0) (.int .i64 0) (.int .i64 0) (.int .i64 0) (.int .i64 0)
    clear BO hb BV BG r1 r2
    generalize (((((((((w1.setCell ⟨gO, 0, none⟩ (.slice none 0 0)).setCell ⟨gO, 1, none⟩ (.slice none 0 0)).setCell ⟨gO, 2, none⟩ (.int .i64 0)).setCell ⟨gO, 3, none⟩ (.int .i64 0)).setCell ⟨gO, 4, none⟩ (.int .i64 0)).setCell ⟨gO, 5, none⟩ (.int .i64 0)).setCell ⟨gO, 6, none⟩ (.int .i64 0)).setCell ⟨gO, 7, none⟩ (.int .i64 0)).setCell ⟨gO, 8, none⟩ (.int .i64 0)) = we at *
    obtain ⟨go0, go1, go2, go3, go4, go5, go6, go7, go8, gof, gol⟩ := MO.nine
    refine bodyPost_ret (v := .tuple #[.agg #[.slice none 0 0, .slice none 0 0, .int .i64 0, .int .i64 0, .int .i64 0, .int .i64 0, .int .i64 0, .int .i64 0, .int .i64 0], .int .i64 1]) (by simp [results, Try.results51, go_sem, go0, go1, go2, go3, go4, go5, go6, go7, go8]) rfl ?_
    exact ⟨none, none, 0, 0, rfl, .inl ⟨rfl, rfl, rfl, rfl⟩, hM⟩
  | true =>
    simp only [if_true]
    by_cases hph : ph = 0
    rotate_left
    · simp only [show (ph ∈ [0]) = False from by simp [hph], if_false, show ((5 : Int) = 0) = False from by simp]
      have f0 : (ph != 0) = true := by rw [bne_iff_ne]; exact hph
      clear hph hg
      go_enter Try.func51, Try.ntmps51
      obtain ⟨x0, x1, x2, x3, xf, xl⟩ := BV.four
      obtain ⟨ga0, ga1, ga2, ga3, ga4, ga5, ga6, ga7, ga8, gaf, gal⟩ := BG.nine
      obtain ⟨go0, go1, go2, go3, go4, go5, go6, go7, go8, gof, gol⟩ := BO.nine
      go_wp2_with fail
      clear x0 x1 x2 x3 xf xl
      clear ga0 ga1 ga2 ga3 ga4 ga5 ga6 ga7 ga8 gaf gal
      clear go0 go1 go2 go3 go4 go5 go6 go7 go8 gof gol
      generalize (((w.alloc (.cells #[.int .i64 p, .int .i64 c, .int .i64 h, .int .i64 s] 32)).alloc (.cells #[.slice a1 n1 c1, .slice a2 n2 c2, .int .i64 pl, .int .i64 ra, .int .i64 rb, .int .i64 ph, .int .i64 wi, .int .i64 re, .int .i64 tu] 70)).alloc (.cells #[.slice none 0 0, .slice none 0 0, .int .i64 0, .int .i64 0, .int .i64 0, .int .i64 0, .int .i64 0, .int .i64 0, .int .i64 0] 70)) = v0 at *
      obtain ⟨gO, hgO⟩ : ∃ gO, w.heap.size + 1 + 1 = gO := ⟨_, rfl⟩
      rw [hgO] at BO ⊢
      have hO1 : w.heap.size + 1 + 1 ≤ gO := by omega
      have hO2 : gO ≤ w.heap.size + 1 + 1 := by omega
      have hz4 : gO + 1 ≤ v0.heap.size := by omega
      clear hgO hz
      refine (HV.out _ r1 r2).mono ?_
      rintro e w1 ⟨rfl, hb1⟩
      replace BV := BV.below hb1
      replace BG := BG.below hb1
      replace BO := BO.below hb1
      replace r1 := r1.below hb1
      replace r2 := r2.below hb1
      have hz_hb1 := hb1.size
      replace hb := chain hb hb1
      clear hb1
      obtain ⟨x0, x1, x2, x3, xf, xl⟩ := BV.four
      obtain ⟨ga0, ga1, ga2, ga3, ga4, ga5, ga6, ga7, ga8, gaf, gal⟩ := BG.nine
      obtain ⟨go0, go1, go2, go3, go4, go5, go6, go7, go8, gof, gol⟩ := BO.nine
      go_wp2
      clear x0 x1 x2 x3 xf xl
      clear ga0 ga1 ga2 ga3 ga4 ga5 ga6 ga7 ga8 gaf gal
      clear go0 go1 go2 go3 go4 go5 go6 go7 go8 gof gol
      have MO := BO.setG9 (.slice none 0 0) (.slice none 0 0) (.int .i64 0) (.int .i64 0) (.int .i64 0) (.int .i64 0) (.int .i64 0) (.int .i64 0) (.int .i64 0)
      have hM := Below.farG9 hb (B := gO) (by omega) (.slice none 0 0) (.slice none 0 0) (.int .i64 0) (.int .i64 0) (.int .i64 0) (.int .i64 0) (.int .i64 0) (.int .i64 0) (.int .i64 0)
      have hsz := size_farG9 w1 gO (.slice none 0 0) (.slice none 0 0) (.int .i64 0) (.int .i64 0) (.int .i64 0) (.int .i64 0) (.int .i64 0) (.int .i64 0) (.int .i64 0)
      clear BO hb BV BG r1 r2
      generalize (((((((((w1.setCell ⟨gO, 0, none⟩ (.slice none 0 0)).setCell ⟨gO, 1, none⟩ (.slice none 0 0)).setCell ⟨gO, 2, none⟩ (.int .i64 0)).setCell ⟨gO, 3, none⟩ (.int .i64 0)).setCell ⟨gO, 4, none⟩ (.int .i64 0)).setCell ⟨gO, 5, none⟩ (.int .i64 0)).setCell ⟨gO, 6, none⟩ (.int .i64 0)).setCell ⟨gO, 7, none⟩ (.int .i64 0)).setCell ⟨gO, 8, none⟩ (.int .i64 0)) = we at *
      obtain ⟨go0, go1, go2, go3, go4, go5, go6, go7, go8, gof, gol⟩ := MO.nine
      refine bodyPost_ret (v := .tuple #[.agg #[.slice none 0 0, .slice none 0 0, .int .i64 0, .int .i64 0, .int .i64 0, .int .i64 0, .int .i64 0, .int .i64 0, .int .i64 0], .int .i64 5]) (by simp [results, Try.results51, go_sem, go0, go1, go2, go3, go4, go5, go6, go7, go8]) rfl ?_
      exact ⟨none, none, 0, 0, rfl, .inl ⟨rfl, rfl, rfl, rfl⟩, hM⟩
    · obtain ⟨gi, e1, e2, e3, e4⟩ := hg rfl hph
      subst hph e1 e2 e3 e4
      simp only [show ((0 : Int) ∈ [0]) = True from by simp, if_true]
      have gp := isB_parts gi
      have t1 : 0 < n1 := by omega
      obtain rfl : n1 = n2 := by omega
      have hA := fun W => l01In_b fa 1 s W
      have hB := fun W => l01In_b fb 1 s W
      obtain ⟨A, hAe⟩ : ∃ q, inB fa 1 s = q := ⟨_, rfl⟩
      obtain ⟨B, hBe⟩ : ∃ q, inB fb 1 s = q := ⟨_, rfl⟩
      rw [hAe] at hA ⊢
      rw [hBe] at hB ⊢
      have hO := fun (W : World) (r1 : IRow W a1 xs) (r2 : IRow W a2 ys) => l08Open_any a1 a2 n1 c1 c2 xs ys 0 ra rb 0 0 0 0 fa fb W h1 h2 t1 l1 r1 r2 (r1.lt (by omega)) (r2.lt (by omega))
      have HA := Lib.hid hA
      have HB := Lib.hid hB
      clear hA hB hAe hBe gi gp hg
      cases A with
      | false =>
        rw [Bool.false_and, if_neg (by simp), if_neg (by simp)]
        clear hO
        go_enter Try.func51, Try.ntmps51
        obtain ⟨x0, x1, x2, x3, xf, xl⟩ := BV.four
        obtain ⟨ga0, ga1, ga2, ga3, ga4, ga5, ga6, ga7, ga8, gaf, gal⟩ := BG.nine
        obtain ⟨go0, go1, go2, go3, go4, go5, go6, go7, go8, gof, gol⟩ := BO.nine
        go_wp2_with fail
        clear x0 x1 x2 x3 xf xl
        clear ga0 ga1 ga2 ga3 ga4 ga5 ga6 ga7 ga8 gaf gal
        clear go0 go1 go2 go3 go4 go5 go6 go7 go8 gof gol
        generalize (((w.alloc (.cells #[.int .i64 p, .int .i64 c, .int .i64 h, .int .i64 s] 32)).alloc (.cells #[.slice a1 n1 c1, .slice a2 n1 c2, .int .i64 0, .int .i64 ra, .int .i64 rb, .int .i64 0, .int .i64 0, .int .i64 0, .int .i64 0] 70)).alloc (.cells #[.slice none 0 0, .slice none 0 0, .int .i64 0, .int .i64 0, .int .i64 0, .int .i64 0, .int .i64 0, .int .i64 0, .int .i64 0] 70)) = v0 at *
        obtain ⟨gO, hgO⟩ : ∃ gO, w.heap.size + 1 + 1 = gO := ⟨_, rfl⟩
        rw [hgO] at BO ⊢
        have hO1 : w.heap.size + 1 + 1 ≤ gO := by omega
        have hO2 : gO ≤ w.heap.size + 1 + 1 := by omega
        have hz4 : gO + 1 ≤ v0.heap.size := by omega
        clear hgO hz
        refine (HV.out _ r1 r2).mono ?_
        rintro e w1 ⟨rfl, hb1⟩
        replace BV := BV.below hb1
        replace BG := BG.below hb1
        replace BO := BO.below hb1
        replace r1 := r1.below hb1
        replace r2 := r2.below hb1
        have hz_hb1 := hb1.size
        replace hb := chain hb hb1
        clear hb1
        obtain ⟨x0, x1, x2, x3, xf, xl⟩ := BV.four
        obtain ⟨ga0, ga1, ga2, ga3, ga4, ga5, ga6, ga7, ga8, gaf, gal⟩ := BG.nine
        obtain ⟨go0, go1, go2, go3, go4, go5, go6, go7, go8, gof, gol⟩ := BO.nine
        go_wp2_with fail
        clear x0 x1 x2 x3 xf xl
        clear ga0 ga1 ga2 ga3 ga4 ga5 ga6 ga7 ga8 gaf gal
        clear go0 go1 go2 go3 go4 go5 go6 go7 go8 gof gol
        refine (HA.out _).mono ?_
        rintro e w2 ⟨rfl, hb2⟩
        replace BV := BV.below hb2
        replace BG := BG.below hb2
        replace BO := BO.below hb2
        replace r1 := r1.below hb2
        replace r2 := r2.below hb2
        have hz_hb2 := hb2.size
        replace hb := chain hb hb2
        clear hb2
        obtain ⟨x0, x1, x2, x3, xf, xl⟩ := BV.four
        obtain ⟨ga0, ga1, ga2, ga3, ga4, ga5, ga6, ga7, ga8, gaf, gal⟩ := BG.nine
        obtain ⟨go0, go1, go2, go3, go4, go5, go6, go7, go8, gof, gol⟩ := BO.nine
        go_wp2
        clear x0 x1 x2 x3 xf xl
        clear ga0 ga1 ga2 ga3 ga4 ga5 ga6 ga7 ga8 gaf gal
        clear go0 go1 go2 go3 go4 go5 go6 go7 go8 gof gol
        have MO := BO.setG9 (.slice none 0 0) (.slice none 0 0) (.int .i64 0) (.int .i64 0) (.int .i64 0) (.int .i64 0) (.int .i64 0) (.int .i64 0) (.int .i64 0)
        have hM := Below.farG9 hb (B := gO) (by omega) (.slice none 0 0) (.slice none 0 0) (.int .i64 0) (.int .i64 0) (.int .i64 0) (.int .i64 0) (.int .i64 0) (.int .i64 0) (.int .i64 0)
        have hsz := size_farG9 w2 gO (.slice none 0 0) (.slice none 0 0) (.int .i64 0) (.int .i64 0) (.int .i64 0) (.int .i64 0) (.int .i64 0) (.int .i64 0) (.int .i64 0)
        clear BO hb BV BG r1 r2
        generalize (((((((((w2.setCell ⟨gO, 0, none⟩ (.slice none 0 0)).setCell ⟨gO, 1, none⟩ (.slice none 0 0)).setCell ⟨gO, 2, none⟩ (.int .i64 0)).setCell ⟨gO, 3, none⟩ (.int .i64 0)).setCell ⟨gO, 4, none⟩ (.int .i64 0)).setCell ⟨gO, 5, none⟩ (.int .i64 0)).setCell ⟨gO, 6, none⟩ (.int .i64 0)).setCell ⟨gO, 7, none⟩ (.int .i64 0)).setCell ⟨gO, 8, none⟩ (.int .i64 0)) = we at *
        obtain ⟨go0, go1, go2, go3, go4, go5, go6, go7, go8, gof, gol⟩ := MO.nine
        refine bodyPost_ret (v := .tuple #[.agg #[.slice none 0 0, .slice none 0 0, .int .i64 0, .int .i64 0, .int .i64 0, .int .i64 0, .int .i64 0, .int .i64 0, .int .i64 0], .int .i64 2]) (by simp [results, Try.results51, go_sem, go0, go1, go2, go3, go4, go5, go6, go7, go8]) rfl ?_
        exact ⟨none, none, 0, 0, rfl, .inl ⟨rfl, rfl, rfl, rfl⟩, hM⟩
      | true =>
        rw [Bool.true_and]
        cases B with
        | false =>
          rw [if_neg (by simp), if_neg (by simp)]
          clear hO
          go_enter Try.func51, Try.ntmps51
          obtain ⟨x0, x1, x2, x3, xf, xl⟩ := BV.four
          obtain ⟨ga0, ga1, ga2, ga3, ga4, ga5, ga6, ga7, ga8, gaf, gal⟩ := BG.nine
          obtain ⟨go0, go1, go2, go3, go4, go5, go6, go7, go8, gof, gol⟩ := BO.nine
          go_wp2_with fail
          clear x0 x1 x2 x3 xf xl
          clear ga0 ga1 ga2 ga3 ga4 ga5 ga6 ga7 ga8 gaf gal
          clear go0 go1 go2 go3 go4 go5 go6 go7 go8 gof gol
          generalize (((w.alloc (.cells #[.int .i64 p, .int .i64 c, .int .i64 h, .int .i64 s] 32)).alloc (.cells #[.slice a1 n1 c1, .slice a2 n1 c2, .int .i64 0, .int .i64 ra, .int .i64 rb, .int .i64 0, .int .i64 0, .int .i64 0, .int .i64 0] 70)).alloc (.cells #[.slice none 0 0, .slice none 0 0, .int .i64 0, .int .i64 0, .int .i64 0, .int .i64 0, .int .i64 0, .int .i64 0, .int .i64 0] 70)) = v0 at *
          obtain ⟨gO, hgO⟩ : ∃ gO, w.heap.size + 1 + 1 = gO := ⟨_, rfl⟩
          rw [hgO] at BO ⊢
          have hO1 : w.heap.size + 1 + 1 ≤ gO := by omega
          have hO2 : gO ≤ w.heap.size + 1 + 1 := by omega
          have hz4 : gO + 1 ≤ v0.heap.size := by omega
          clear hgO hz
          refine (HV.out _ r1 r2).mono ?_
          rintro e w1 ⟨rfl, hb1⟩
          replace BV := BV.below hb1
          replace BG := BG.below hb1
          replace BO := BO.below hb1
          replace r1 := r1.below hb1
          replace r2 := r2.below hb1
          have hz_hb1 := hb1.size
          replace hb := chain hb hb1
          clear hb1
          obtain ⟨x0, x1, x2, x3, xf, xl⟩ := BV.four
          obtain ⟨ga0, ga1, ga2, ga3, ga4, ga5, ga6, ga7, ga8, gaf, gal⟩ := BG.nine
          obtain ⟨go0, go1, go2, go3, go4, go5, go6, go7, go8, gof, gol⟩ := BO.nine
          go_wp2_with fail
          clear x0 x1 x2 x3 xf xl
          clear ga0 ga1 ga2 ga3 ga4 ga5 ga6 ga7 ga8 gaf gal
          clear go0 go1 go2 go3 go4 go5 go6 go7 go8 gof gol
          refine (HA.out _).mono ?_
          rintro e w2 ⟨rfl, hb2⟩
          replace BV := BV.below hb2
          replace BG := BG.below hb2
          replace BO := BO.below hb2
          replace r1 := r1.below hb2
          replace r2 := r2.below hb2
          have hz_hb2 := hb2.size
          replace hb := chain hb hb2
          clear hb2
          obtain ⟨x0, x1, x2, x3, xf, xl⟩ := BV.four
          obtain ⟨ga0, ga1, ga2, ga3, ga4, ga5, ga6, ga7, ga8, gaf, gal⟩ := BG.nine
          obtain ⟨go0, go1, go2, go3, go4, go5, go6, go7, go8, gof, gol⟩ := BO.nine
          go_wp2_with fail
          clear x0 x1 x2 x3 xf xl
          clear ga0 ga1 ga2 ga3 ga4 ga5 ga6 ga7 ga8 gaf gal
          clear go0 go1 go2 go3 go4 go5 go6 go7 go8 gof gol
          refine (HB.out _).mono ?_
          rintro e w3 ⟨rfl, hb3⟩
          replace BV := BV.below hb3
          replace BG := BG.below hb3
          replace BO := BO.below hb3
          replace r1 := r1.below hb3
          replace r2 := r2.below hb3
          have hz_hb3 := hb3.size
          replace hb := chain hb hb3
          clear hb3
          obtain ⟨x0, x1, x2, x3, xf, xl⟩ := BV.four
          obtain ⟨ga0, ga1, ga2, ga3, ga4, ga5, ga6, ga7, ga8, gaf, gal⟩ := BG.nine
          obtain ⟨go0, go1, go2, go3, go4, go5, go6, go7, go8, gof, gol⟩ := BO.nine
          go_wp2
          clear x0 x1 x2 x3 xf xl
          clear ga0 ga1 ga2 ga3 ga4 ga5 ga6 ga7 ga8 gaf gal
          clear go0 go1 go2 go3 go4 go5 go6 go7 go8 gof gol
          have MO := BO.setG9 (.slice none 0 0) (.slice none 0 0) (.int .i64 0) (.int .i64 0) (.int .i64 0) (.int .i64 0) (.int .i64 0) (.int .i64 0) (.int .i64 0)
          have hM := Below.farG9 hb (B := gO) (by omega) (.slice none 0 0) (.slice none 0 0) (.int .i64 0) (.int .i64 0) (.int .i64 0) (.int .i64 0) (.int .i64 0) (.int .i64 0) (.int .i64 0)
          have hsz := size_farG9 w3 gO (.slice none 0 0) (.slice none 0 0) (.int .i64 0) (.int .i64 0) (.int .i64 0) (.int .i64 0) (.int .i64 0) (.int .i64 0) (.int .i64 0)
          clear BO hb BV BG r1 r2
          generalize (((((((((w3.setCell ⟨gO, 0, none⟩ (.slice none 0 0)).setCell ⟨gO, 1, none⟩ (.slice none 0 0)).setCell ⟨gO, 2, none⟩ (.int .i64 0)).setCell ⟨gO, 3, none⟩ (.int .i64 0)).setCell ⟨gO, 4, none⟩ (.int .i64 0)).setCell ⟨gO, 5, none⟩ (.int .i64 0)).setCell ⟨gO, 6, none⟩ (.int .i64 0)).setCell ⟨gO, 7, none⟩ (.int .i64 0)).setCell ⟨gO, 8, none⟩ (.int .i64 0)) = we at *
          obtain ⟨go0, go1, go2, go3, go4, go5, go6, go7, go8, gof, gol⟩ := MO.nine
          refine bodyPost_ret (v := .tuple #[.agg #[.slice none 0 0, .slice none 0 0, .int .i64 0, .int .i64 0, .int .i64 0, .int .i64 0, .int .i64 0, .int .i64 0, .int .i64 0], .int .i64 2]) (by simp [results, Try.results51, go_sem, go0, go1, go2, go3, go4, go5, go6, go7, go8]) rfl ?_
          exact ⟨none, none, 0, 0, rfl, .inl ⟨rfl, rfl, rfl, rfl⟩, hM⟩
        | true =>
          rw [if_pos rfl, if_pos rfl, openedG_eq]
          obtain ⟨XX, hXX⟩ : ∃ q, (if fa < fb then ys else xs) = q := ⟨_, rfl⟩
          obtain ⟨YY, hYY⟩ : ∃ q, (if fa < fb then xs else ys) = q := ⟨_, rfl⟩
          obtain ⟨pn, hpn⟩ : ∃ q : Int, (if fa < fb then 1 else 0) = q := ⟨_, rfl⟩
          obtain ⟨ra', hra⟩ : ∃ q, (if fa = fb then ra else (prR fa fb).1) = q := ⟨_, rfl⟩
          obtain ⟨rb', hrb⟩ : ∃ q, (if fa = fb then rb else (prR fa fb).2) = q := ⟨_, rfl⟩
          obtain ⟨ph', hph⟩ : ∃ q : Int, (if fa = fb then 0 else 2) = q := ⟨_, rfl⟩
          have hlX : XX.length = n1 := by rw [← hXX]; split <;> first | exact h1 | exact h2
          have hlY : YY.length = n1 := by rw [← hYY]; split <;> first | exact h1 | exact h2
          rw [hXX, hYY, hpn, hra, hrb, hph] at hO ⊢
          have HO := Lib.hid hO
          have HLX := Lib.hid hlX
          have HLY := Lib.hid hlY
          clear hO hXX hYY hpn hra hrb hlX hlY hph
          go_enter Try.func51, Try.ntmps51
          obtain ⟨x0, x1, x2, x3, xf, xl⟩ := BV.four
          obtain ⟨ga0, ga1, ga2, ga3, ga4, ga5, ga6, ga7, ga8, gaf, gal⟩ := BG.nine
          obtain ⟨go0, go1, go2, go3, go4, go5, go6, go7, go8, gof, gol⟩ := BO.nine
          go_wp2_with fail
          clear x0 x1 x2 x3 xf xl
          clear ga0 ga1 ga2 ga3 ga4 ga5 ga6 ga7 ga8 gaf gal
          clear go0 go1 go2 go3 go4 go5 go6 go7 go8 gof gol
          generalize (((w.alloc (.cells #[.int .i64 p, .int .i64 c, .int .i64 h, .int .i64 s] 32)).alloc (.cells #[.slice a1 n1 c1, .slice a2 n1 c2, .int .i64 0, .int .i64 ra, .int .i64 rb, .int .i64 0, .int .i64 0, .int .i64 0, .int .i64 0] 70)).alloc (.cells #[.slice none 0 0, .slice none 0 0, .int .i64 0, .int .i64 0, .int .i64 0, .int .i64 0, .int .i64 0, .int .i64 0, .int .i64 0] 70)) = v0 at *
          obtain ⟨gO, hgO⟩ : ∃ gO, w.heap.size + 1 + 1 = gO := ⟨_, rfl⟩
          rw [hgO] at BO ⊢
          have hO1 : w.heap.size + 1 + 1 ≤ gO := by omega
          have hO2 : gO ≤ w.heap.size + 1 + 1 := by omega
          have hz4 : gO + 1 ≤ v0.heap.size := by omega
          clear hgO hz
          refine (HV.out _ r1 r2).mono ?_
          rintro e w1 ⟨rfl, hb1⟩
          replace BV := BV.below hb1
          replace BG := BG.below hb1
          replace BO := BO.below hb1
          replace r1 := r1.below hb1
          replace r2 := r2.below hb1
          have hz_hb1 := hb1.size
          replace hb := chain hb hb1
          clear hb1
          obtain ⟨x0, x1, x2, x3, xf, xl⟩ := BV.four
          obtain ⟨ga0, ga1, ga2, ga3, ga4, ga5, ga6, ga7, ga8, gaf, gal⟩ := BG.nine
          obtain ⟨go0, go1, go2, go3, go4, go5, go6, go7, go8, gof, gol⟩ := BO.nine
          go_wp2_with fail
          clear x0 x1 x2 x3 xf xl
          clear ga0 ga1 ga2 ga3 ga4 ga5 ga6 ga7 ga8 gaf gal
          clear go0 go1 go2 go3 go4 go5 go6 go7 go8 gof gol
          refine (HA.out _).mono ?_
          rintro e w2 ⟨rfl, hb2⟩
          replace BV := BV.below hb2
          replace BG := BG.below hb2
          replace BO := BO.below hb2
          replace r1 := r1.below hb2
          replace r2 := r2.below hb2
          have hz_hb2 := hb2.size
          replace hb := chain hb hb2
          clear hb2
          obtain ⟨x0, x1, x2, x3, xf, xl⟩ := BV.four
          obtain ⟨ga0, ga1, ga2, ga3, ga4, ga5, ga6, ga7, ga8, gaf, gal⟩ := BG.nine
          obtain ⟨go0, go1, go2, go3, go4, go5, go6, go7, go8, gof, gol⟩ := BO.nine
          go_wp2_with fail
          clear x0 x1 x2 x3 xf xl
          clear ga0 ga1 ga2 ga3 ga4 ga5 ga6 ga7 ga8 gaf gal
          clear go0 go1 go2 go3 go4 go5 go6 go7 go8 gof gol
          refine (HB.out _).mono ?_
          rintro e w3 ⟨rfl, hb3⟩
          replace BV := BV.below hb3
          replace BG := BG.below hb3
          replace BO := BO.below hb3
          replace r1 := r1.below hb3
          replace r2 := r2.below hb3
          have hz_hb3 := hb3.size
          replace hb := chain hb hb3
          clear hb3
          obtain ⟨x0, x1, x2, x3, xf, xl⟩ := BV.four
          obtain ⟨ga0, ga1, ga2, ga3, ga4, ga5, ga6, ga7, ga8, gaf, gal⟩ := BG.nine
          obtain ⟨go0, go1, go2, go3, go4, go5, go6, go7, go8, gof, gol⟩ := BO.nine
          go_wp2_with fail
          clear x0 x1 x2 x3 xf xl
          clear ga0 ga1 ga2 ga3 ga4 ga5 ga6 ga7 ga8 gaf gal
          clear go0 go1 go2 go3 go4 go5 go6 go7 go8 gof gol
          refine (HO.out _ r1 r2).mono ?_
          rintro e w4 ⟨b1, b2, k1, k2, rfl, hne, hq1, hq2, R1, R2, hb4⟩
          replace BV := BV.below hb4
          replace BG := BG.below hb4
          replace BO := BO.below hb4
          replace r1 := r1.below hb4
          replace r2 := r2.below hb4
          have hz_hb4 := hb4.size
          replace hb := chain hb hb4
          clear hb4
          obtain ⟨x0, x1, x2, x3, xf, xl⟩ := BV.four
          obtain ⟨ga0, ga1, ga2, ga3, ga4, ga5, ga6, ga7, ga8, gaf, gal⟩ := BG.nine
          obtain ⟨go0, go1, go2, go3, go4, go5, go6, go7, go8, gof, gol⟩ := BO.nine
          go_wp2
          clear x0 x1 x2 x3 xf xl
          clear ga0 ga1 ga2 ga3 ga4 ga5 ga6 ga7 ga8 gaf gal
          clear go0 go1 go2 go3 go4 go5 go6 go7 go8 gof gol
          have MO := BO.setG9 (.slice (some ⟨b1, 0, none⟩) n1 k1) (.slice (some ⟨b2, 0, none⟩) n1 k2) (.int .i64 pn) (.int .i64 ra') (.int .i64 rb') (.int .i64 ph') (.int .i64 0) (.int .i64 0) (.int .i64 0)
          have u1 := R1.lt
          have u2 := R2.lt
          have M1 := R1.farG9 (B := gO) (by omega) (.slice (some ⟨b1, 0, none⟩) n1 k1) (.slice (some ⟨b2, 0, none⟩) n1 k2) (.int .i64 pn) (.int .i64 ra') (.int .i64 rb') (.int .i64 ph') (.int .i64 0) (.int .i64 0) (.int .i64 0)
          have M2 := R2.farG9 (B := gO) (by omega) (.slice (some ⟨b1, 0, none⟩) n1 k1) (.slice (some ⟨b2, 0, none⟩) n1 k2) (.int .i64 pn) (.int .i64 ra') (.int .i64 rb') (.int .i64 ph') (.int .i64 0) (.int .i64 0) (.int .i64 0)
          clear R1 R2
          have hM := Below.farG9 hb (B := gO) (by omega) (.slice (some ⟨b1, 0, none⟩) n1 k1) (.slice (some ⟨b2, 0, none⟩) n1 k2) (.int .i64 pn) (.int .i64 ra') (.int .i64 rb') (.int .i64 ph') (.int .i64 0) (.int .i64 0) (.int .i64 0)
          have hsz := size_farG9 w4 gO (.slice (some ⟨b1, 0, none⟩) n1 k1) (.slice (some ⟨b2, 0, none⟩) n1 k2) (.int .i64 pn) (.int .i64 ra') (.int .i64 rb') (.int .i64 ph') (.int .i64 0) (.int .i64 0) (.int .i64 0)
          clear BO hb BV BG r1 r2
          generalize (((((((((w4.setCell ⟨gO, 0, none⟩ (.slice (some ⟨b1, 0, none⟩) n1 k1)).setCell ⟨gO, 1, none⟩ (.slice (some ⟨b2, 0, none⟩) n1 k2)).setCell ⟨gO, 2, none⟩ (.int .i64 pn)).setCell ⟨gO, 3, none⟩ (.int .i64 ra')).setCell ⟨gO, 4, none⟩ (.int .i64 rb')).setCell ⟨gO, 5, none⟩ (.int .i64 ph')).setCell ⟨gO, 6, none⟩ (.int .i64 0)).setCell ⟨gO, 7, none⟩ (.int .i64 0)).setCell ⟨gO, 8, none⟩ (.int .i64 0)) = we at *
          obtain ⟨go0, go1, go2, go3, go4, go5, go6, go7, go8, gof, gol⟩ := MO.nine
          refine bodyPost_ret (v := .tuple #[.agg #[.slice (some ⟨b1, 0, none⟩) n1 k1, .slice (some ⟨b2, 0, none⟩) n1 k2, .int .i64 pn, .int .i64 ra', .int .i64 rb', .int .i64 ph', .int .i64 0, .int .i64 0, .int .i64 0], .int .i64 0]) (by simp [results, Try.results51, go_sem, go0, go1, go2, go3, go4, go5, go6, go7, go8]) rfl ?_
          refine ⟨some ⟨b1, 0, none⟩, some ⟨b2, 0, none⟩, k1, k2, ?_, .inr ⟨b1, b2, rfl, rfl, hne, by omega, by omega, by omega, by omega, M1, M2⟩, hM⟩
          simp only [gmV, HLX.out, HLY.out]
end Go.Proofs.Ytokjkcnjmfbfiaa
