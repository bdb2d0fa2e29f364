/- Contracts of the program on rolls and resignations. -/
import Derived.Test.Ytokjkcnjmfbfiaa08j
namespace Go.Proofs.Ytokjkcnjmfbfiaa
open Go.ChangeShapes Go.WideShapes Go.ChangeAt Go.RowKit
set_option linter.unusedVariables false
set_option linter.unusedSimpArgs false
set_option maxRecDepth 4000

theorem lit_row (w : World) (L : List Int) : Row (w.alloc (.cells (ints L).toArray 2)) w.heap.size L := ⟨_, Blk.new _ _ _, by simp [ints], List.take_of_length_le (by simp [ints])⟩
theorem three_new' (w : World) (v1 v2 v3 : Array Value) (t1 t2 t3 : TypeId) :
    Blk (((w.alloc (.cells v1 t1)).alloc (.cells v2 t2)).alloc (.cells v3 t3)) w.heap.size v1 t1 ∧ Blk (((w.alloc (.cells v1 t1)).alloc (.cells v2 t2)).alloc (.cells v3 t3)) (w.heap.size + 1) v2 t2 ∧ Blk (((w.alloc (.cells v1 t1)).alloc (.cells v2 t2)).alloc (.cells v3 t3)) (w.heap.size + 1 + 1) v3 t3 ∧
    Below w.heap.size w (((w.alloc (.cells v1 t1)).alloc (.cells v2 t2)).alloc (.cells v3 t3)) ∧ (((w.alloc (.cells v1 t1)).alloc (.cells v2 t2)).alloc (.cells v3 t3)).heap.size = w.heap.size + 1 + 1 + 1 := by
  obtain ⟨h1, h2, h3, h4, h5⟩ := three_new w v1 v2 v3 t1 t2 t3
  exact ⟨h1, h2, h3, h4, h5⟩
theorem four_new (w : World) (v1 v2 v3 v4 : Array Value) (t1 t2 t3 t4 : TypeId) :
    Blk ((((w.alloc (.cells v1 t1)).alloc (.cells v2 t2)).alloc (.cells v3 t3)).alloc (.cells v4 t4)) w.heap.size v1 t1 ∧ Blk ((((w.alloc (.cells v1 t1)).alloc (.cells v2 t2)).alloc (.cells v3 t3)).alloc (.cells v4 t4)) (w.heap.size + 1) v2 t2 ∧ Blk ((((w.alloc (.cells v1 t1)).alloc (.cells v2 t2)).alloc (.cells v3 t3)).alloc (.cells v4 t4)) (w.heap.size + 1 + 1) v3 t3 ∧
    Blk ((((w.alloc (.cells v1 t1)).alloc (.cells v2 t2)).alloc (.cells v3 t3)).alloc (.cells v4 t4)) (w.heap.size + 1 + 1 + 1) v4 t4 ∧
    Below w.heap.size w ((((w.alloc (.cells v1 t1)).alloc (.cells v2 t2)).alloc (.cells v3 t3)).alloc (.cells v4 t4)) ∧ ((((w.alloc (.cells v1 t1)).alloc (.cells v2 t2)).alloc (.cells v3 t3)).alloc (.cells v4 t4)).heap.size = w.heap.size + 1 + 1 + 1 + 1 := by
  obtain ⟨h1, h2, h3, h4, h5⟩ := three_new w v1 v2 v3 t1 t2 t3
  have hn := Blk.new (((w.alloc (.cells v1 t1)).alloc (.cells v2 t2)).alloc (.cells v3 t3)) v4 t4
  rw [h5] at hn
  exact ⟨h1.alloc _, h2.alloc _, h3.alloc _, hn, h4.alloc h4.size _, by simp⟩
/-- What rolling dice gives. -/
def rollDiceC (p c h s : Int) (G : Gm) (qa qb : Int) : Int := if pcC (gmB p c h s G.xs G.ys G.pl G.ra G.rb G.ph G.wi G.re G.tu) G.ph [1] = 0 then (if rlB s qa qb = true then 0 else 2) else pcC (gmB p c h s G.xs G.ys G.pl G.ra G.rb G.ph G.wi G.re G.tu) G.ph [1]
def rollDiceV (p c h s : Int) (G : Gm) (qa qb : Int) : Gm := if pcC (gmB p c h s G.xs G.ys G.pl G.ra G.rb G.ph G.wi G.re G.tu) G.ph [1] = 0 then (if rlB s qa qb = true then ⟨G.xs, G.ys, G.pl, qa, qb, 2, G.wi, G.re, G.tu⟩ else gm0) else gm0
/-- What a resignation gives. -/
def resignGameC (p c h s : Int) (G : Gm) (rs : Int) : Int := if pcC (gmB p c h s G.xs G.ys G.pl G.ra G.rb G.ph G.wi G.re G.tu) G.ph [1, 2] = 0 then (if inB rs 1 3 = true then 0 else 2) else pcC (gmB p c h s G.xs G.ys G.pl G.ra G.rb G.ph G.wi G.re G.tu) G.ph [1, 2]
def resignGameV (p c h s : Int) (G : Gm) (rs : Int) : Gm := if pcC (gmB p c h s G.xs G.ys G.pl G.ra G.rb G.ph G.wi G.re G.tu) G.ph [1, 2] = 0 then (if inB rs 1 3 = true then ⟨G.xs, G.ys, G.pl, 0, 0, 3, 1 - G.pl, rs, G.tu⟩ else gm0) else gm0
set_option maxRecDepth 8000 in
set_option maxHeartbeats 4000000 in
theorem rollDice_any (p c h s : Int) (a1 a2 : Option Addr) (n1 n2 c1 c2 : Nat) (xs ys : List Int) (w : World) (h1 : xs.length = n1) (h2 : ys.length = n2) (l1 : n1 ≤ 1048576) (l2 : n2 ≤ 1048576) (r1 : IRow w a1 xs) (r2 : IRow w a2 ys) (pl ra rb ph wi re tu : Int) (qa qb : Int) : Calls Try.prog 56 #[.agg #[.int .i64 p, .int .i64 c, .int .i64 h, .int .i64 s], .agg #[.slice a1 n1 c1, .slice a2 n2 c2, .int .i64 pl, .int .i64 ra, .int .i64 rb, .int .i64 ph, .int .i64 wi, .int .i64 re, .int .i64 tu], .agg #[.int .i64 qa, .int .i64 qb]] w (GameGot (rollDiceV p c h s ⟨xs, ys, pl, ra, rb, ph, wi, re, tu⟩ qa qb) (rollDiceC p c h s ⟨xs, ys, pl, ra, rb, ph, wi, re, tu⟩ qa qb) w) := by
  have hP := fun (a3 : Option Addr) (W : World) (r1 : IRow W a1 xs) (r2 : IRow W a2 ys) (r3 : IRow W a3 [1]) => phaseCode_any p c h s a1 a2 n1 n2 c1 c2 xs ys W h1 h2 l1 l2 r1 r2 pl ra rb ph wi re tu a3 1 1 [1] rfl (by omega) r3
  unfold rollDiceV rollDiceC
  dsimp only
  obtain ⟨P, hPe⟩ : ∃ q, pcC (gmB p c h s xs ys pl ra rb ph wi re tu) ph [1] = q := ⟨_, rfl⟩
  have hg : P = 0 → isB p c h s xs ys = true ∧ 0 ≤ pl ∧ pl ≤ 1 := by
    intro e
    rw [← hPe] at e
    unfold pcC at e
    split at e
    · rename_i g
      unfold gmB at g
      simp only [Bool.and_eq_true, Bool.or_eq_true, beq_iff_eq] at g
      exact ⟨g.2.1, by omega, by omega⟩
    · omega
  rw [hPe] at hP ⊢
  have HP := Lib.hid hP
  clear hP hPe
  obtain ⟨BV, BG, BR, BO, hb, hz⟩ := four_new w #[.int .i64 p, .int .i64 c, .int .i64 h, .int .i64 s] #[.slice a1 n1 c1, .slice a2 n2 c2, .int .i64 pl, .int .i64 ra, .int .i64 rb, .int .i64 ph, .int .i64 wi, .int .i64 re, .int .i64 tu] #[.int .i64 qa, .int .i64 qb] #[.slice none 0 0, .slice none 0 0, .int .i64 0, .int .i64 0, .int .i64 0, .int .i64 0, .int .i64 0, .int .i64 0, .int .i64 0] 32 70 36 70
  replace r1 := r1.below hb
  replace r2 := r2.below hb
  by_cases e0 : P = 0
  rotate_left
  · have f0 : (P != 0) = true := by rw [bne_iff_ne]; exact e0
    have f1 : (P == 0) = false := by rw [beq_eq_false_iff_ne]; exact e0
    rw [if_neg e0, if_neg e0]
    clear e0 hg
    go_enter Try.func56, Try.ntmps56
    obtain ⟨x0, x1, x2, x3, xf, xl⟩ := BV.four
    obtain ⟨ga0, ga1, ga2, ga3, ga4, ga5, ga6, ga7, ga8, gaf, gal⟩ := BG.nine
    obtain ⟨y0, y1, yf, yl⟩ := BR.two
    obtain ⟨go0, go1, go2, go3, go4, go5, go6, go7, go8, gof, gol⟩ := BO.nine
    go_wp2_with fail
    clear x0 x1 x2 x3 xf xl
    clear ga0 ga1 ga2 ga3 ga4 ga5 ga6 ga7 ga8 gaf gal
    clear go0 go1 go2 go3 go4 go5 go6 go7 go8 gof gol
    clear y0 y1 yf yl
    generalize ((((w.alloc (.cells #[.int .i64 p, .int .i64 c, .int .i64 h, .int .i64 s] 32)).alloc (.cells #[.slice a1 n1 c1, .slice a2 n2 c2, .int .i64 pl, .int .i64 ra, .int .i64 rb, .int .i64 ph, .int .i64 wi, .int .i64 re, .int .i64 tu] 70)).alloc (.cells #[.int .i64 qa, .int .i64 qb] 36)).alloc (.cells #[.slice none 0 0, .slice none 0 0, .int .i64 0, .int .i64 0, .int .i64 0, .int .i64 0, .int .i64 0, .int .i64 0, .int .i64 0] 70)) = v0 at *
    obtain ⟨gO, hgO⟩ : ∃ gO, w.heap.size + 1 + 1 + 1 = gO := ⟨_, rfl⟩
    rw [hgO] at BO ⊢
    have hzE : v0.heap.size = gO + 1 := by omega
    have hO1 : w.heap.size + 1 + 1 + 1 ≤ gO := by omega
    have hO2 : gO ≤ w.heap.size + 1 + 1 + 1 := by omega
    clear hgO
    have hal : Below v0.heap.size v0 (v0.alloc (.cells #[.int .i64 1] 2)) := (Below.refl _ _).alloc (Nat.le_refl _) _
    have R3 : IRow (v0.alloc (.cells #[.int .i64 1] 2)) (some ⟨gO + 1, 0, none⟩) [1] := by
      have q := (lit_row v0 [1]).irow
      rw [hzE] at q
      exact q
    have hz4 : gO + 1 ≤ v0.heap.size := by omega
    clear hzE hz
    replace BV := BV.below hal
    replace BG := BG.below hal
    replace BR := BR.below hal
    replace BO := BO.below hal
    replace r1 := r1.below hal
    replace r2 := r2.below hal
    replace hb := chain hb hal
    obtain ⟨g0, hg0⟩ : ∃ g0, gO + 1 = g0 := ⟨_, rfl⟩
    rw [hg0] at R3 ⊢
    have hz5 := hal.size
    clear hg0
    clear hal
    generalize (v0.alloc (.cells #[.int .i64 1] 2)) = v1 at *
    refine (HP.out _ _ r1 r2 R3).mono ?_
    rintro e w1 ⟨rfl, hb1⟩
    replace BV := BV.below hb1
    replace BG := BG.below hb1
    replace BR := BR.below hb1
    replace BO := BO.below hb1
    replace r1 := r1.below hb1
    replace r2 := r2.below hb1
    have hz1 := hb1.size
    replace hb := chain hb hb1
    clear hb1 R3
    obtain ⟨x0, x1, x2, x3, xf, xl⟩ := BV.four
    obtain ⟨ga0, ga1, ga2, ga3, ga4, ga5, ga6, ga7, ga8, gaf, gal⟩ := BG.nine
    obtain ⟨y0, y1, yf, yl⟩ := BR.two
    obtain ⟨go0, go1, go2, go3, go4, go5, go6, go7, go8, gof, gol⟩ := BO.nine
    go_wp2
    clear x0 x1 x2 x3 xf xl
    clear ga0 ga1 ga2 ga3 ga4 ga5 ga6 ga7 ga8 gaf gal
    clear go0 go1 go2 go3 go4 go5 go6 go7 go8 gof gol
    clear y0 y1 yf yl
    have MO := BO.setG9 (.slice none 0 0) (.slice none 0 0) (.int .i64 0) (.int .i64 0) (.int .i64 0) (.int .i64 0) (.int .i64 0) (.int .i64 0) (.int .i64 0)
    have hM := Below.farG9 hb (B := gO) (by omega) (.slice none 0 0) (.slice none 0 0) (.int .i64 0) (.int .i64 0) (.int .i64 0) (.int .i64 0) (.int .i64 0) (.int .i64 0) (.int .i64 0)
    have hsz := size_farG9 w1 gO (.slice none 0 0) (.slice none 0 0) (.int .i64 0) (.int .i64 0) (.int .i64 0) (.int .i64 0) (.int .i64 0) (.int .i64 0) (.int .i64 0)
    clear BO hb BV BG BR r1 r2
    generalize (((((((((w1.setCell ⟨gO, 0, none⟩ (.slice none 0 0)).setCell ⟨gO, 1, none⟩ (.slice none 0 0)).setCell ⟨gO, 2, none⟩ (.int .i64 0)).setCell ⟨gO, 3, none⟩ (.int .i64 0)).setCell ⟨gO, 4, none⟩ (.int .i64 0)).setCell ⟨gO, 5, none⟩ (.int .i64 0)).setCell ⟨gO, 6, none⟩ (.int .i64 0)).setCell ⟨gO, 7, none⟩ (.int .i64 0)).setCell ⟨gO, 8, none⟩ (.int .i64 0)) = we at *
    obtain ⟨go0, go1, go2, go3, go4, go5, go6, go7, go8, gof, gol⟩ := MO.nine
    refine bodyPost_ret (v := .tuple #[.agg #[.slice none 0 0, .slice none 0 0, .int .i64 0, .int .i64 0, .int .i64 0, .int .i64 0, .int .i64 0, .int .i64 0, .int .i64 0], .int .i64 P]) (by simp [results, Try.results56, go_sem, go0, go1, go2, go3, go4, go5, go6, go7, go8]) rfl ?_
    exact ⟨none, none, 0, 0, rfl, .inl ⟨rfl, rfl, rfl, rfl⟩, hM⟩
  · obtain ⟨gi, hpl⟩ := hg e0
    subst e0
    have t1 : 0 < n1 := by have := isB_parts gi; omega
    have t2 : 0 < n2 := by have := isB_parts gi; omega
    rw [if_pos rfl, if_pos rfl]
    have hR := fun W => hasRoll_any p c h s qa qb W
    obtain ⟨R, hRe⟩ : ∃ q, rlB s qa qb = q := ⟨_, rfl⟩
    rw [hRe] at hR ⊢
    have hL := fun (W : World) (r1 : IRow W a1 xs) (r2 : IRow W a2 ys) => rolled_any a1 a2 n1 n2 c1 c2 xs ys pl ra rb ph wi re tu qa qb W h1 h2 t1 t2 l1 l2 r1 r2
    have HR := Lib.hid hR
    have HL := Lib.hid hL
    clear hR hL hRe hg gi hpl
    cases R with
    | false =>
      rw [if_neg (by simp), if_neg (by simp)]
      go_enter Try.func56, Try.ntmps56
      obtain ⟨x0, x1, x2, x3, xf, xl⟩ := BV.four
      obtain ⟨ga0, ga1, ga2, ga3, ga4, ga5, ga6, ga7, ga8, gaf, gal⟩ := BG.nine
      obtain ⟨y0, y1, yf, yl⟩ := BR.two
      obtain ⟨go0, go1, go2, go3, go4, go5, go6, go7, go8, gof, gol⟩ := BO.nine
      go_wp2_with fail
      clear x0 x1 x2 x3 xf xl
      clear ga0 ga1 ga2 ga3 ga4 ga5 ga6 ga7 ga8 gaf gal
      clear go0 go1 go2 go3 go4 go5 go6 go7 go8 gof gol
      clear y0 y1 yf yl
      generalize ((((w.alloc (.cells #[.int .i64 p, .int .i64 c, .int .i64 h, .int .i64 s] 32)).alloc (.cells #[.slice a1 n1 c1, .slice a2 n2 c2, .int .i64 pl, .int .i64 ra, .int .i64 rb, .int .i64 ph, .int .i64 wi, .int .i64 re, .int .i64 tu] 70)).alloc (.cells #[.int .i64 qa, .int .i64 qb] 36)).alloc (.cells #[.slice none 0 0, .slice none 0 0, .int .i64 0, .int .i64 0, .int .i64 0, .int .i64 0, .int .i64 0, .int .i64 0, .int .i64 0] 70)) = v0 at *
      obtain ⟨gO, hgO⟩ : ∃ gO, w.heap.size + 1 + 1 + 1 = gO := ⟨_, rfl⟩
      rw [hgO] at BO ⊢
      have hzE : v0.heap.size = gO + 1 := by omega
      have hO1 : w.heap.size + 1 + 1 + 1 ≤ gO := by omega
      have hO2 : gO ≤ w.heap.size + 1 + 1 + 1 := by omega
      clear hgO
      have hal : Below v0.heap.size v0 (v0.alloc (.cells #[.int .i64 1] 2)) := (Below.refl _ _).alloc (Nat.le_refl _) _
      have R3 : IRow (v0.alloc (.cells #[.int .i64 1] 2)) (some ⟨gO + 1, 0, none⟩) [1] := by
        have q := (lit_row v0 [1]).irow
        rw [hzE] at q
        exact q
      have hz4 : gO + 1 ≤ v0.heap.size := by omega
      clear hzE hz
      replace BV := BV.below hal
      replace BG := BG.below hal
      replace BR := BR.below hal
      replace BO := BO.below hal
      replace r1 := r1.below hal
      replace r2 := r2.below hal
      replace hb := chain hb hal
      obtain ⟨g0, hg0⟩ : ∃ g0, gO + 1 = g0 := ⟨_, rfl⟩
      rw [hg0] at R3 ⊢
      have hz5 := hal.size
      clear hg0
      clear hal
      generalize (v0.alloc (.cells #[.int .i64 1] 2)) = v1 at *
      refine (HP.out _ _ r1 r2 R3).mono ?_
      rintro e w1 ⟨rfl, hb1⟩
      replace BV := BV.below hb1
      replace BG := BG.below hb1
      replace BR := BR.below hb1
      replace BO := BO.below hb1
      replace r1 := r1.below hb1
      replace r2 := r2.below hb1
      have hz1 := hb1.size
      replace hb := chain hb hb1
      clear hb1 R3
      obtain ⟨x0, x1, x2, x3, xf, xl⟩ := BV.four
      obtain ⟨ga0, ga1, ga2, ga3, ga4, ga5, ga6, ga7, ga8, gaf, gal⟩ := BG.nine
      obtain ⟨y0, y1, yf, yl⟩ := BR.two
      obtain ⟨go0, go1, go2, go3, go4, go5, go6, go7, go8, gof, gol⟩ := BO.nine
      go_wp2_with fail
      clear x0 x1 x2 x3 xf xl
      clear ga0 ga1 ga2 ga3 ga4 ga5 ga6 ga7 ga8 gaf gal
      clear go0 go1 go2 go3 go4 go5 go6 go7 go8 gof gol
      clear y0 y1 yf yl
      refine (HR.out _).mono ?_
      rintro e w2 ⟨rfl, hb2⟩
      replace BV := BV.below hb2
      replace BG := BG.below hb2
      replace BR := BR.below hb2
      replace BO := BO.below hb2
      replace r1 := r1.below hb2
      replace r2 := r2.below hb2
      have hz2 := hb2.size
      replace hb := chain hb hb2
      clear hb2
      obtain ⟨x0, x1, x2, x3, xf, xl⟩ := BV.four
      obtain ⟨ga0, ga1, ga2, ga3, ga4, ga5, ga6, ga7, ga8, gaf, gal⟩ := BG.nine
      obtain ⟨y0, y1, yf, yl⟩ := BR.two
      obtain ⟨go0, go1, go2, go3, go4, go5, go6, go7, go8, gof, gol⟩ := BO.nine
      go_wp2
      clear x0 x1 x2 x3 xf xl
      clear ga0 ga1 ga2 ga3 ga4 ga5 ga6 ga7 ga8 gaf gal
      clear go0 go1 go2 go3 go4 go5 go6 go7 go8 gof gol
      clear y0 y1 yf yl
      have MO := BO.setG9 (.slice none 0 0) (.slice none 0 0) (.int .i64 0) (.int .i64 0) (.int .i64 0) (.int .i64 0) (.int .i64 0) (.int .i64 0) (.int .i64 0)
      have hM := Below.farG9 hb (B := gO) (by omega) (.slice none 0 0) (.slice none 0 0) (.int .i64 0) (.int .i64 0) (.int .i64 0) (.int .i64 0) (.int .i64 0) (.int .i64 0) (.int .i64 0)
      have hsz := size_farG9 w2 gO (.slice none 0 0) (.slice none 0 0) (.int .i64 0) (.int .i64 0) (.int .i64 0) (.int .i64 0) (.int .i64 0) (.int .i64 0) (.int .i64 0)
      clear BO hb BV BG BR r1 r2
      generalize (((((((((w2.setCell ⟨gO, 0, none⟩ (.slice none 0 0)).setCell ⟨gO, 1, none⟩ (.slice none 0 0)).setCell ⟨gO, 2, none⟩ (.int .i64 0)).setCell ⟨gO, 3, none⟩ (.int .i64 0)).setCell ⟨gO, 4, none⟩ (.int .i64 0)).setCell ⟨gO, 5, none⟩ (.int .i64 0)).setCell ⟨gO, 6, none⟩ (.int .i64 0)).setCell ⟨gO, 7, none⟩ (.int .i64 0)).setCell ⟨gO, 8, none⟩ (.int .i64 0)) = we at *
      obtain ⟨go0, go1, go2, go3, go4, go5, go6, go7, go8, gof, gol⟩ := MO.nine
      refine bodyPost_ret (v := .tuple #[.agg #[.slice none 0 0, .slice none 0 0, .int .i64 0, .int .i64 0, .int .i64 0, .int .i64 0, .int .i64 0, .int .i64 0, .int .i64 0], .int .i64 2]) (by simp [results, Try.results56, go_sem, go0, go1, go2, go3, go4, go5, go6, go7, go8]) rfl ?_
      exact ⟨none, none, 0, 0, rfl, .inl ⟨rfl, rfl, rfl, rfl⟩, hM⟩
    | true =>
      rw [if_pos rfl, if_pos rfl]
      go_enter Try.func56, Try.ntmps56
      obtain ⟨x0, x1, x2, x3, xf, xl⟩ := BV.four
      obtain ⟨ga0, ga1, ga2, ga3, ga4, ga5, ga6, ga7, ga8, gaf, gal⟩ := BG.nine
      obtain ⟨y0, y1, yf, yl⟩ := BR.two
      obtain ⟨go0, go1, go2, go3, go4, go5, go6, go7, go8, gof, gol⟩ := BO.nine
      go_wp2_with fail
      clear x0 x1 x2 x3 xf xl
      clear ga0 ga1 ga2 ga3 ga4 ga5 ga6 ga7 ga8 gaf gal
      clear go0 go1 go2 go3 go4 go5 go6 go7 go8 gof gol
      clear y0 y1 yf yl
      generalize ((((w.alloc (.cells #[.int .i64 p, .int .i64 c, .int .i64 h, .int .i64 s] 32)).alloc (.cells #[.slice a1 n1 c1, .slice a2 n2 c2, .int .i64 pl, .int .i64 ra, .int .i64 rb, .int .i64 ph, .int .i64 wi, .int .i64 re, .int .i64 tu] 70)).alloc (.cells #[.int .i64 qa, .int .i64 qb] 36)).alloc (.cells #[.slice none 0 0, .slice none 0 0, .int .i64 0, .int .i64 0, .int .i64 0, .int .i64 0, .int .i64 0, .int .i64 0, .int .i64 0] 70)) = v0 at *
      obtain ⟨gO, hgO⟩ : ∃ gO, w.heap.size + 1 + 1 + 1 = gO := ⟨_, rfl⟩
      rw [hgO] at BO ⊢
      have hzE : v0.heap.size = gO + 1 := by omega
      have hO1 : w.heap.size + 1 + 1 + 1 ≤ gO := by omega
      have hO2 : gO ≤ w.heap.size + 1 + 1 + 1 := by omega
      clear hgO
      have hal : Below v0.heap.size v0 (v0.alloc (.cells #[.int .i64 1] 2)) := (Below.refl _ _).alloc (Nat.le_refl _) _
      have R3 : IRow (v0.alloc (.cells #[.int .i64 1] 2)) (some ⟨gO + 1, 0, none⟩) [1] := by
        have q := (lit_row v0 [1]).irow
        rw [hzE] at q
        exact q
      have hz4 : gO + 1 ≤ v0.heap.size := by omega
      clear hzE hz
      replace BV := BV.below hal
      replace BG := BG.below hal
      replace BR := BR.below hal
      replace BO := BO.below hal
      replace r1 := r1.below hal
      replace r2 := r2.below hal
      replace hb := chain hb hal
      obtain ⟨g0, hg0⟩ : ∃ g0, gO + 1 = g0 := ⟨_, rfl⟩
      rw [hg0] at R3 ⊢
      have hz5 := hal.size
      clear hg0
      clear hal
      generalize (v0.alloc (.cells #[.int .i64 1] 2)) = v1 at *
      refine (HP.out _ _ r1 r2 R3).mono ?_
      rintro e w1 ⟨rfl, hb1⟩
      replace BV := BV.below hb1
      replace BG := BG.below hb1
      replace BR := BR.below hb1
      replace BO := BO.below hb1
      replace r1 := r1.below hb1
      replace r2 := r2.below hb1
      have hz1 := hb1.size
      replace hb := chain hb hb1
      clear hb1 R3
      obtain ⟨x0, x1, x2, x3, xf, xl⟩ := BV.four
      obtain ⟨ga0, ga1, ga2, ga3, ga4, ga5, ga6, ga7, ga8, gaf, gal⟩ := BG.nine
      obtain ⟨y0, y1, yf, yl⟩ := BR.two
      obtain ⟨go0, go1, go2, go3, go4, go5, go6, go7, go8, gof, gol⟩ := BO.nine
      go_wp2_with fail
      clear x0 x1 x2 x3 xf xl
      clear ga0 ga1 ga2 ga3 ga4 ga5 ga6 ga7 ga8 gaf gal
      clear go0 go1 go2 go3 go4 go5 go6 go7 go8 gof gol
      clear y0 y1 yf yl
      refine (HR.out _).mono ?_
      rintro e w2 ⟨rfl, hb2⟩
      replace BV := BV.below hb2
      replace BG := BG.below hb2
      replace BR := BR.below hb2
      replace BO := BO.below hb2
      replace r1 := r1.below hb2
      replace r2 := r2.below hb2
      have hz2 := hb2.size
      replace hb := chain hb hb2
      clear hb2
      obtain ⟨x0, x1, x2, x3, xf, xl⟩ := BV.four
      obtain ⟨ga0, ga1, ga2, ga3, ga4, ga5, ga6, ga7, ga8, gaf, gal⟩ := BG.nine
      obtain ⟨y0, y1, yf, yl⟩ := BR.two
      obtain ⟨go0, go1, go2, go3, go4, go5, go6, go7, go8, gof, gol⟩ := BO.nine
      go_wp2_with fail
      clear x0 x1 x2 x3 xf xl
      clear ga0 ga1 ga2 ga3 ga4 ga5 ga6 ga7 ga8 gaf gal
      clear go0 go1 go2 go3 go4 go5 go6 go7 go8 gof gol
      clear y0 y1 yf yl
      refine (HL.out _ r1 r2).mono ?_
      rintro e w3 ⟨b1, b2, rfl, hne, hq1, hq2, R1, R2, hb3⟩
      replace BV := BV.below hb3
      replace BG := BG.below hb3
      replace BR := BR.below hb3
      replace BO := BO.below hb3
      replace r1 := r1.below hb3
      replace r2 := r2.below hb3
      have hz3 := hb3.size
      replace hb := chain hb hb3
      clear hb3
      obtain ⟨x0, x1, x2, x3, xf, xl⟩ := BV.four
      obtain ⟨ga0, ga1, ga2, ga3, ga4, ga5, ga6, ga7, ga8, gaf, gal⟩ := BG.nine
      obtain ⟨y0, y1, yf, yl⟩ := BR.two
      obtain ⟨go0, go1, go2, go3, go4, go5, go6, go7, go8, gof, gol⟩ := BO.nine
      go_wp2
      clear x0 x1 x2 x3 xf xl
      clear ga0 ga1 ga2 ga3 ga4 ga5 ga6 ga7 ga8 gaf gal
      clear go0 go1 go2 go3 go4 go5 go6 go7 go8 gof gol
      clear y0 y1 yf yl
      have MO := BO.setG9 (.slice (some ⟨b1, 0, none⟩) n1 n1) (.slice (some ⟨b2, 0, none⟩) n2 n2) (.int .i64 pl) (.int .i64 qa) (.int .i64 qb) (.int .i64 2) (.int .i64 wi) (.int .i64 re) (.int .i64 tu)
      have u1 := R1.lt
      have u2 := R2.lt
      have M1 := R1.farG9 (B := gO) (by omega) (.slice (some ⟨b1, 0, none⟩) n1 n1) (.slice (some ⟨b2, 0, none⟩) n2 n2) (.int .i64 pl) (.int .i64 qa) (.int .i64 qb) (.int .i64 2) (.int .i64 wi) (.int .i64 re) (.int .i64 tu)
      have M2 := R2.farG9 (B := gO) (by omega) (.slice (some ⟨b1, 0, none⟩) n1 n1) (.slice (some ⟨b2, 0, none⟩) n2 n2) (.int .i64 pl) (.int .i64 qa) (.int .i64 qb) (.int .i64 2) (.int .i64 wi) (.int .i64 re) (.int .i64 tu)
      clear R1 R2
      have hM := Below.farG9 hb (B := gO) (by omega) (.slice (some ⟨b1, 0, none⟩) n1 n1) (.slice (some ⟨b2, 0, none⟩) n2 n2) (.int .i64 pl) (.int .i64 qa) (.int .i64 qb) (.int .i64 2) (.int .i64 wi) (.int .i64 re) (.int .i64 tu)
      have hsz := size_farG9 w3 gO (.slice (some ⟨b1, 0, none⟩) n1 n1) (.slice (some ⟨b2, 0, none⟩) n2 n2) (.int .i64 pl) (.int .i64 qa) (.int .i64 qb) (.int .i64 2) (.int .i64 wi) (.int .i64 re) (.int .i64 tu)
      clear BO hb BV BG BR r1 r2
      generalize (((((((((w3.setCell ⟨gO, 0, none⟩ (.slice (some ⟨b1, 0, none⟩) n1 n1)).setCell ⟨gO, 1, none⟩ (.slice (some ⟨b2, 0, none⟩) n2 n2)).setCell ⟨gO, 2, none⟩ (.int .i64 pl)).setCell ⟨gO, 3, none⟩ (.int .i64 qa)).setCell ⟨gO, 4, none⟩ (.int .i64 qb)).setCell ⟨gO, 5, none⟩ (.int .i64 2)).setCell ⟨gO, 6, none⟩ (.int .i64 wi)).setCell ⟨gO, 7, none⟩ (.int .i64 re)).setCell ⟨gO, 8, none⟩ (.int .i64 tu)) = we at *
      obtain ⟨go0, go1, go2, go3, go4, go5, go6, go7, go8, gof, gol⟩ := MO.nine
      refine bodyPost_ret (v := .tuple #[.agg #[.slice (some ⟨b1, 0, none⟩) n1 n1, .slice (some ⟨b2, 0, none⟩) n2 n2, .int .i64 pl, .int .i64 qa, .int .i64 qb, .int .i64 2, .int .i64 wi, .int .i64 re, .int .i64 tu], .int .i64 0]) (by simp [results, Try.results56, go_sem, go0, go1, go2, go3, go4, go5, go6, go7, go8]) rfl ?_
      subst h1 h2
      exact ⟨_, _, _, _, rfl, .inr ⟨b1, b2, rfl, rfl, hne, by omega, by omega, by omega, by omega, M1, M2⟩, hM⟩
set_option maxRecDepth 8000 in
set_option maxHeartbeats 4000000 in
theorem resignGame_any (p c h s : Int) (a1 a2 : Option Addr) (n1 n2 c1 c2 : Nat) (xs ys : List Int) (w : World) (h1 : xs.length = n1) (h2 : ys.length = n2) (l1 : n1 ≤ 1048576) (l2 : n2 ≤ 1048576) (r1 : IRow w a1 xs) (r2 : IRow w a2 ys) (pl ra rb ph wi re tu : Int) (rs : Int) : Calls Try.prog 60 #[.agg #[.int .i64 p, .int .i64 c, .int .i64 h, .int .i64 s], .agg #[.slice a1 n1 c1, .slice a2 n2 c2, .int .i64 pl, .int .i64 ra, .int .i64 rb, .int .i64 ph, .int .i64 wi, .int .i64 re, .int .i64 tu], .int .i64 rs] w (GameGot (resignGameV p c h s ⟨xs, ys, pl, ra, rb, ph, wi, re, tu⟩ rs) (resignGameC p c h s ⟨xs, ys, pl, ra, rb, ph, wi, re, tu⟩ rs) w) := by
  have hP := fun (a3 : Option Addr) (W : World) (r1 : IRow W a1 xs) (r2 : IRow W a2 ys) (r3 : IRow W a3 [1, 2]) => phaseCode_any p c h s a1 a2 n1 n2 c1 c2 xs ys W h1 h2 l1 l2 r1 r2 pl ra rb ph wi re tu a3 2 2 [1, 2] rfl (by omega) r3
  unfold resignGameV resignGameC
  dsimp only
  obtain ⟨P, hPe⟩ : ∃ q, pcC (gmB p c h s xs ys pl ra rb ph wi re tu) ph [1, 2] = q := ⟨_, rfl⟩
  have hg : P = 0 → isB p c h s xs ys = true ∧ 0 ≤ pl ∧ pl ≤ 1 := by
    intro e
    rw [← hPe] at e
    unfold pcC at e
    split at e
    · rename_i g
      unfold gmB at g
      simp only [Bool.and_eq_true, Bool.or_eq_true, beq_iff_eq] at g
      exact ⟨g.2.1, by omega, by omega⟩
    · omega
  rw [hPe] at hP ⊢
  have HP := Lib.hid hP
  clear hP hPe
  obtain ⟨BV, BG, BO, hb, hz⟩ := three_new' w #[.int .i64 p, .int .i64 c, .int .i64 h, .int .i64 s] #[.slice a1 n1 c1, .slice a2 n2 c2, .int .i64 pl, .int .i64 ra, .int .i64 rb, .int .i64 ph, .int .i64 wi, .int .i64 re, .int .i64 tu] #[.slice none 0 0, .slice none 0 0, .int .i64 0, .int .i64 0, .int .i64 0, .int .i64 0, .int .i64 0, .int .i64 0, .int .i64 0] 32 70 70
  replace r1 := r1.below hb
  replace r2 := r2.below hb
  by_cases e0 : P = 0
  rotate_left
  · have f0 : (P != 0) = true := by rw [bne_iff_ne]; exact e0
    have f1 : (P == 0) = false := by rw [beq_eq_false_iff_ne]; exact e0
    rw [if_neg e0, if_neg e0]
    clear e0 hg
    go_enter Try.func60, Try.ntmps60
    obtain ⟨x0, x1, x2, x3, xf, xl⟩ := BV.four
    obtain ⟨ga0, ga1, ga2, ga3, ga4, ga5, ga6, ga7, ga8, gaf, gal⟩ := BG.nine
    obtain ⟨go0, go1, go2, go3, go4, go5, go6, go7, go8, gof, gol⟩ := BO.nine
    go_wp2_with fail
    clear x0 x1 x2 x3 xf xl
    clear ga0 ga1 ga2 ga3 ga4 ga5 ga6 ga7 ga8 gaf gal
    clear go0 go1 go2 go3 go4 go5 go6 go7 go8 gof gol
    generalize (((w.alloc (.cells #[.int .i64 p, .int .i64 c, .int .i64 h, .int .i64 s] 32)).alloc (.cells #[.slice a1 n1 c1, .slice a2 n2 c2, .int .i64 pl, .int .i64 ra, .int .i64 rb, .int .i64 ph, .int .i64 wi, .int .i64 re, .int .i64 tu] 70)).alloc (.cells #[.slice none 0 0, .slice none 0 0, .int .i64 0, .int .i64 0, .int .i64 0, .int .i64 0, .int .i64 0, .int .i64 0, .int .i64 0] 70)) = v0 at *
    obtain ⟨gO, hgO⟩ : ∃ gO, w.heap.size + 1 + 1 = gO := ⟨_, rfl⟩
    rw [hgO] at BO ⊢
    have hzE : v0.heap.size = gO + 1 := by omega
    have hO1 : w.heap.size + 1 + 1 ≤ gO := by omega
    have hO2 : gO ≤ w.heap.size + 1 + 1 := by omega
    clear hgO
    have hal : Below v0.heap.size v0 (v0.alloc (.cells #[.int .i64 1, .int .i64 2] 2)) := (Below.refl _ _).alloc (Nat.le_refl _) _
    have R3 : IRow (v0.alloc (.cells #[.int .i64 1, .int .i64 2] 2)) (some ⟨gO + 1, 0, none⟩) [1, 2] := by
      have q := (lit_row v0 [1, 2]).irow
      rw [hzE] at q
      exact q
    have hz4 : gO + 1 ≤ v0.heap.size := by omega
    clear hzE hz
    replace BV := BV.below hal
    replace BG := BG.below hal
    replace BO := BO.below hal
    replace r1 := r1.below hal
    replace r2 := r2.below hal
    replace hb := chain hb hal
    obtain ⟨g0, hg0⟩ : ∃ g0, gO + 1 = g0 := ⟨_, rfl⟩
    rw [hg0] at R3 ⊢
    have hz5 := hal.size
    clear hg0
    clear hal
    generalize (v0.alloc (.cells #[.int .i64 1, .int .i64 2] 2)) = v1 at *
    refine (HP.out _ _ r1 r2 R3).mono ?_
    rintro e w1 ⟨rfl, hb1⟩
    replace BV := BV.below hb1
    replace BG := BG.below hb1
    replace BO := BO.below hb1
    replace r1 := r1.below hb1
    replace r2 := r2.below hb1
    have hz1 := hb1.size
    replace hb := chain hb hb1
    clear hb1 R3
    obtain ⟨x0, x1, x2, x3, xf, xl⟩ := BV.four
    obtain ⟨ga0, ga1, ga2, ga3, ga4, ga5, ga6, ga7, ga8, gaf, gal⟩ := BG.nine
    obtain ⟨go0, go1, go2, go3, go4, go5, go6, go7, go8, gof, gol⟩ := BO.nine
    go_wp2
    clear x0 x1 x2 x3 xf xl
    clear ga0 ga1 ga2 ga3 ga4 ga5 ga6 ga7 ga8 gaf gal
    clear go0 go1 go2 go3 go4 go5 go6 go7 go8 gof gol
    have MO := BO.setG9 (.slice none 0 0) (.slice none 0 0) (.int .i64 0) (.int .i64 0) (.int .i64 0) (.int .i64 0) (.int .i64 0) (.int .i64 0) (.int .i64 0)
    have hM := Below.farG9 hb (B := gO) (by omega) (.slice none 0 0) (.slice none 0 0) (.int .i64 0) (.int .i64 0) (.int .i64 0) (.int .i64 0) (.int .i64 0) (.int .i64 0) (.int .i64 0)
    have hsz := size_farG9 w1 gO (.slice none 0 0) (.slice none 0 0) (.int .i64 0) (.int .i64 0) (.int .i64 0) (.int .i64 0) (.int .i64 0) (.int .i64 0) (.int .i64 0)
    clear BO hb BV BG r1 r2
    generalize (((((((((w1.setCell ⟨gO, 0, none⟩ (.slice none 0 0)).setCell ⟨gO, 1, none⟩ (.slice none 0 0)).setCell ⟨gO, 2, none⟩ (.int .i64 0)).setCell ⟨gO, 3, none⟩ (.int .i64 0)).setCell ⟨gO, 4, none⟩ (.int .i64 0)).setCell ⟨gO, 5, none⟩ (.int .i64 0)).setCell ⟨gO, 6, none⟩ (.int .i64 0)).setCell ⟨gO, 7, none⟩ (.int .i64 0)).setCell ⟨gO, 8, none⟩ (.int .i64 0)) = we at *
    obtain ⟨go0, go1, go2, go3, go4, go5, go6, go7, go8, gof, gol⟩ := MO.nine
    refine bodyPost_ret (v := .tuple #[.agg #[.slice none 0 0, .slice none 0 0, .int .i64 0, .int .i64 0, .int .i64 0, .int .i64 0, .int .i64 0, .int .i64 0, .int .i64 0], .int .i64 P]) (by simp [results, Try.results60, go_sem, go0, go1, go2, go3, go4, go5, go6, go7, go8]) rfl ?_
    exact ⟨none, none, 0, 0, rfl, .inl ⟨rfl, rfl, rfl, rfl⟩, hM⟩
  · obtain ⟨gi, hpl⟩ := hg e0
    subst e0
    have t1 : 0 < n1 := by have := isB_parts gi; omega
    have t2 : 0 < n2 := by have := isB_parts gi; omega
    rw [if_pos rfl, if_pos rfl]
    have hR := fun W => isResult_any rs W
    obtain ⟨R, hRe⟩ : ∃ q, inB rs 1 3 = q := ⟨_, rfl⟩
    rw [hRe] at hR ⊢
    have hL := fun (W : World) (r1 : IRow W a1 xs) (r2 : IRow W a2 ys) => resigned_any a1 a2 n1 n2 c1 c2 xs ys pl ra rb ph wi re tu rs W h1 h2 t1 t2 l1 l2 r1 r2 hpl
    have HR := Lib.hid hR
    have HL := Lib.hid hL
    clear hR hL hRe hg gi hpl
    cases R with
    | false =>
      rw [if_neg (by simp), if_neg (by simp)]
      go_enter Try.func60, Try.ntmps60
      obtain ⟨x0, x1, x2, x3, xf, xl⟩ := BV.four
      obtain ⟨ga0, ga1, ga2, ga3, ga4, ga5, ga6, ga7, ga8, gaf, gal⟩ := BG.nine
      obtain ⟨go0, go1, go2, go3, go4, go5, go6, go7, go8, gof, gol⟩ := BO.nine
      go_wp2_with fail
      clear x0 x1 x2 x3 xf xl
      clear ga0 ga1 ga2 ga3 ga4 ga5 ga6 ga7 ga8 gaf gal
      clear go0 go1 go2 go3 go4 go5 go6 go7 go8 gof gol
      generalize (((w.alloc (.cells #[.int .i64 p, .int .i64 c, .int .i64 h, .int .i64 s] 32)).alloc (.cells #[.slice a1 n1 c1, .slice a2 n2 c2, .int .i64 pl, .int .i64 ra, .int .i64 rb, .int .i64 ph, .int .i64 wi, .int .i64 re, .int .i64 tu] 70)).alloc (.cells #[.slice none 0 0, .slice none 0 0, .int .i64 0, .int .i64 0, .int .i64 0, .int .i64 0, .int .i64 0, .int .i64 0, .int .i64 0] 70)) = v0 at *
      obtain ⟨gO, hgO⟩ : ∃ gO, w.heap.size + 1 + 1 = gO := ⟨_, rfl⟩
      rw [hgO] at BO ⊢
      have hzE : v0.heap.size = gO + 1 := by omega
      have hO1 : w.heap.size + 1 + 1 ≤ gO := by omega
      have hO2 : gO ≤ w.heap.size + 1 + 1 := by omega
      clear hgO
      have hal : Below v0.heap.size v0 (v0.alloc (.cells #[.int .i64 1, .int .i64 2] 2)) := (Below.refl _ _).alloc (Nat.le_refl _) _
      have R3 : IRow (v0.alloc (.cells #[.int .i64 1, .int .i64 2] 2)) (some ⟨gO + 1, 0, none⟩) [1, 2] := by
        have q := (lit_row v0 [1, 2]).irow
        rw [hzE] at q
        exact q
      have hz4 : gO + 1 ≤ v0.heap.size := by omega
      clear hzE hz
      replace BV := BV.below hal
      replace BG := BG.below hal
      replace BO := BO.below hal
      replace r1 := r1.below hal
      replace r2 := r2.below hal
      replace hb := chain hb hal
      obtain ⟨g0, hg0⟩ : ∃ g0, gO + 1 = g0 := ⟨_, rfl⟩
      rw [hg0] at R3 ⊢
      have hz5 := hal.size
      clear hg0
      clear hal
      generalize (v0.alloc (.cells #[.int .i64 1, .int .i64 2] 2)) = v1 at *
      refine (HP.out _ _ r1 r2 R3).mono ?_
      rintro e w1 ⟨rfl, hb1⟩
      replace BV := BV.below hb1
      replace BG := BG.below hb1
      replace BO := BO.below hb1
      replace r1 := r1.below hb1
      replace r2 := r2.below hb1
      have hz1 := hb1.size
      replace hb := chain hb hb1
      clear hb1 R3
      obtain ⟨x0, x1, x2, x3, xf, xl⟩ := BV.four
      obtain ⟨ga0, ga1, ga2, ga3, ga4, ga5, ga6, ga7, ga8, gaf, gal⟩ := BG.nine
      obtain ⟨go0, go1, go2, go3, go4, go5, go6, go7, go8, gof, gol⟩ := BO.nine
      go_wp2_with fail
      clear x0 x1 x2 x3 xf xl
      clear ga0 ga1 ga2 ga3 ga4 ga5 ga6 ga7 ga8 gaf gal
      clear go0 go1 go2 go3 go4 go5 go6 go7 go8 gof gol
      refine (HR.out _).mono ?_
      rintro e w2 ⟨rfl, hb2⟩
      replace BV := BV.below hb2
      replace BG := BG.below hb2
      replace BO := BO.below hb2
      replace r1 := r1.below hb2
      replace r2 := r2.below hb2
      have hz2 := hb2.size
      replace hb := chain hb hb2
      clear hb2
      obtain ⟨x0, x1, x2, x3, xf, xl⟩ := BV.four
      obtain ⟨ga0, ga1, ga2, ga3, ga4, ga5, ga6, ga7, ga8, gaf, gal⟩ := BG.nine
      obtain ⟨go0, go1, go2, go3, go4, go5, go6, go7, go8, gof, gol⟩ := BO.nine
      go_wp2
      clear x0 x1 x2 x3 xf xl
      clear ga0 ga1 ga2 ga3 ga4 ga5 ga6 ga7 ga8 gaf gal
      clear go0 go1 go2 go3 go4 go5 go6 go7 go8 gof gol
      have MO := BO.setG9 (.slice none 0 0) (.slice none 0 0) (.int .i64 0) (.int .i64 0) (.int .i64 0) (.int .i64 0) (.int .i64 0) (.int .i64 0) (.int .i64 0)
      have hM := Below.farG9 hb (B := gO) (by omega) (.slice none 0 0) (.slice none 0 0) (.int .i64 0) (.int .i64 0) (.int .i64 0) (.int .i64 0) (.int .i64 0) (.int .i64 0) (.int .i64 0)
      have hsz := size_farG9 w2 gO (.slice none 0 0) (.slice none 0 0) (.int .i64 0) (.int .i64 0) (.int .i64 0) (.int .i64 0) (.int .i64 0) (.int .i64 0) (.int .i64 0)
      clear BO hb BV BG r1 r2
      generalize (((((((((w2.setCell ⟨gO, 0, none⟩ (.slice none 0 0)).setCell ⟨gO, 1, none⟩ (.slice none 0 0)).setCell ⟨gO, 2, none⟩ (.int .i64 0)).setCell ⟨gO, 3, none⟩ (.int .i64 0)).setCell ⟨gO, 4, none⟩ (.int .i64 0)).setCell ⟨gO, 5, none⟩ (.int .i64 0)).setCell ⟨gO, 6, none⟩ (.int .i64 0)).setCell ⟨gO, 7, none⟩ (.int .i64 0)).setCell ⟨gO, 8, none⟩ (.int .i64 0)) = we at *
      obtain ⟨go0, go1, go2, go3, go4, go5, go6, go7, go8, gof, gol⟩ := MO.nine
      refine bodyPost_ret (v := .tuple #[.agg #[.slice none 0 0, .slice none 0 0, .int .i64 0, .int .i64 0, .int .i64 0, .int .i64 0, .int .i64 0, .int .i64 0, .int .i64 0], .int .i64 2]) (by simp [results, Try.results60, go_sem, go0, go1, go2, go3, go4, go5, go6, go7, go8]) rfl ?_
      exact ⟨none, none, 0, 0, rfl, .inl ⟨rfl, rfl, rfl, rfl⟩, hM⟩
    | true =>
      rw [if_pos rfl, if_pos rfl]
      go_enter Try.func60, Try.ntmps60
      obtain ⟨x0, x1, x2, x3, xf, xl⟩ := BV.four
      obtain ⟨ga0, ga1, ga2, ga3, ga4, ga5, ga6, ga7, ga8, gaf, gal⟩ := BG.nine
      obtain ⟨go0, go1, go2, go3, go4, go5, go6, go7, go8, gof, gol⟩ := BO.nine
      go_wp2_with fail
      clear x0 x1 x2 x3 xf xl
      clear ga0 ga1 ga2 ga3 ga4 ga5 ga6 ga7 ga8 gaf gal
      clear go0 go1 go2 go3 go4 go5 go6 go7 go8 gof gol
      generalize (((w.alloc (.cells #[.int .i64 p, .int .i64 c, .int .i64 h, .int .i64 s] 32)).alloc (.cells #[.slice a1 n1 c1, .slice a2 n2 c2, .int .i64 pl, .int .i64 ra, .int .i64 rb, .int .i64 ph, .int .i64 wi, .int .i64 re, .int .i64 tu] 70)).alloc (.cells #[.slice none 0 0, .slice none 0 0, .int .i64 0, .int .i64 0, .int .i64 0, .int .i64 0, .int .i64 0, .int .i64 0, .int .i64 0] 70)) = v0 at *
      obtain ⟨gO, hgO⟩ : ∃ gO, w.heap.size + 1 + 1 = gO := ⟨_, rfl⟩
      rw [hgO] at BO ⊢
      have hzE : v0.heap.size = gO + 1 := by omega
      have hO1 : w.heap.size + 1 + 1 ≤ gO := by omega
      have hO2 : gO ≤ w.heap.size + 1 + 1 := by omega
      clear hgO
      have hal : Below v0.heap.size v0 (v0.alloc (.cells #[.int .i64 1, .int .i64 2] 2)) := (Below.refl _ _).alloc (Nat.le_refl _) _
      have R3 : IRow (v0.alloc (.cells #[.int .i64 1, .int .i64 2] 2)) (some ⟨gO + 1, 0, none⟩) [1, 2] := by
        have q := (lit_row v0 [1, 2]).irow
        rw [hzE] at q
        exact q
      have hz4 : gO + 1 ≤ v0.heap.size := by omega
      clear hzE hz
      replace BV := BV.below hal
      replace BG := BG.below hal
      replace BO := BO.below hal
      replace r1 := r1.below hal
      replace r2 := r2.below hal
      replace hb := chain hb hal
      obtain ⟨g0, hg0⟩ : ∃ g0, gO + 1 = g0 := ⟨_, rfl⟩
      rw [hg0] at R3 ⊢
      have hz5 := hal.size
      clear hg0
      clear hal
      generalize (v0.alloc (.cells #[.int .i64 1, .int .i64 2] 2)) = v1 at *
      refine (HP.out _ _ r1 r2 R3).mono ?_
      rintro e w1 ⟨rfl, hb1⟩
      replace BV := BV.below hb1
      replace BG := BG.below hb1
      replace BO := BO.below hb1
      replace r1 := r1.below hb1
      replace r2 := r2.below hb1
      have hz1 := hb1.size
      replace hb := chain hb hb1
      clear hb1 R3
      obtain ⟨x0, x1, x2, x3, xf, xl⟩ := BV.four
      obtain ⟨ga0, ga1, ga2, ga3, ga4, ga5, ga6, ga7, ga8, gaf, gal⟩ := BG.nine
      obtain ⟨go0, go1, go2, go3, go4, go5, go6, go7, go8, gof, gol⟩ := BO.nine
      go_wp2_with fail
      clear x0 x1 x2 x3 xf xl
      clear ga0 ga1 ga2 ga3 ga4 ga5 ga6 ga7 ga8 gaf gal
      clear go0 go1 go2 go3 go4 go5 go6 go7 go8 gof gol
      refine (HR.out _).mono ?_
      rintro e w2 ⟨rfl, hb2⟩
      replace BV := BV.below hb2
      replace BG := BG.below hb2
      replace BO := BO.below hb2
      replace r1 := r1.below hb2
      replace r2 := r2.below hb2
      have hz2 := hb2.size
      replace hb := chain hb hb2
      clear hb2
      obtain ⟨x0, x1, x2, x3, xf, xl⟩ := BV.four
      obtain ⟨ga0, ga1, ga2, ga3, ga4, ga5, ga6, ga7, ga8, gaf, gal⟩ := BG.nine
      obtain ⟨go0, go1, go2, go3, go4, go5, go6, go7, go8, gof, gol⟩ := BO.nine
      go_wp2_with fail
      clear x0 x1 x2 x3 xf xl
      clear ga0 ga1 ga2 ga3 ga4 ga5 ga6 ga7 ga8 gaf gal
      clear go0 go1 go2 go3 go4 go5 go6 go7 go8 gof gol
      refine (HL.out _ r1 r2).mono ?_
      rintro e w3 ⟨b1, b2, rfl, hne, hq1, hq2, R1, R2, hb3⟩
      replace BV := BV.below hb3
      replace BG := BG.below hb3
      replace BO := BO.below hb3
      replace r1 := r1.below hb3
      replace r2 := r2.below hb3
      have hz3 := hb3.size
      replace hb := chain hb hb3
      clear hb3
      obtain ⟨x0, x1, x2, x3, xf, xl⟩ := BV.four
      obtain ⟨ga0, ga1, ga2, ga3, ga4, ga5, ga6, ga7, ga8, gaf, gal⟩ := BG.nine
      obtain ⟨go0, go1, go2, go3, go4, go5, go6, go7, go8, gof, gol⟩ := BO.nine
      go_wp2
      clear x0 x1 x2 x3 xf xl
      clear ga0 ga1 ga2 ga3 ga4 ga5 ga6 ga7 ga8 gaf gal
      clear go0 go1 go2 go3 go4 go5 go6 go7 go8 gof gol
      have MO := BO.setG9 (.slice (some ⟨b1, 0, none⟩) n1 n1) (.slice (some ⟨b2, 0, none⟩) n2 n2) (.int .i64 pl) (.int .i64 0) (.int .i64 0) (.int .i64 3) (.int .i64 (1 - pl)) (.int .i64 rs) (.int .i64 tu)
      have u1 := R1.lt
      have u2 := R2.lt
      have M1 := R1.farG9 (B := gO) (by omega) (.slice (some ⟨b1, 0, none⟩) n1 n1) (.slice (some ⟨b2, 0, none⟩) n2 n2) (.int .i64 pl) (.int .i64 0) (.int .i64 0) (.int .i64 3) (.int .i64 (1 - pl)) (.int .i64 rs) (.int .i64 tu)
      have M2 := R2.farG9 (B := gO) (by omega) (.slice (some ⟨b1, 0, none⟩) n1 n1) (.slice (some ⟨b2, 0, none⟩) n2 n2) (.int .i64 pl) (.int .i64 0) (.int .i64 0) (.int .i64 3) (.int .i64 (1 - pl)) (.int .i64 rs) (.int .i64 tu)
      clear R1 R2
      have hM := Below.farG9 hb (B := gO) (by omega) (.slice (some ⟨b1, 0, none⟩) n1 n1) (.slice (some ⟨b2, 0, none⟩) n2 n2) (.int .i64 pl) (.int .i64 0) (.int .i64 0) (.int .i64 3) (.int .i64 (1 - pl)) (.int .i64 rs) (.int .i64 tu)
      have hsz := size_farG9 w3 gO (.slice (some ⟨b1, 0, none⟩) n1 n1) (.slice (some ⟨b2, 0, none⟩) n2 n2) (.int .i64 pl) (.int .i64 0) (.int .i64 0) (.int .i64 3) (.int .i64 (1 - pl)) (.int .i64 rs) (.int .i64 tu)
      clear BO hb BV BG r1 r2
      generalize (((((((((w3.setCell ⟨gO, 0, none⟩ (.slice (some ⟨b1, 0, none⟩) n1 n1)).setCell ⟨gO, 1, none⟩ (.slice (some ⟨b2, 0, none⟩) n2 n2)).setCell ⟨gO, 2, none⟩ (.int .i64 pl)).setCell ⟨gO, 3, none⟩ (.int .i64 0)).setCell ⟨gO, 4, none⟩ (.int .i64 0)).setCell ⟨gO, 5, none⟩ (.int .i64 3)).setCell ⟨gO, 6, none⟩ (.int .i64 (1 - pl))).setCell ⟨gO, 7, none⟩ (.int .i64 rs)).setCell ⟨gO, 8, none⟩ (.int .i64 tu)) = we at *
      obtain ⟨go0, go1, go2, go3, go4, go5, go6, go7, go8, gof, gol⟩ := MO.nine
      refine bodyPost_ret (v := .tuple #[.agg #[.slice (some ⟨b1, 0, none⟩) n1 n1, .slice (some ⟨b2, 0, none⟩) n2 n2, .int .i64 pl, .int .i64 0, .int .i64 0, .int .i64 3, .int .i64 (1 - pl), .int .i64 rs, .int .i64 tu], .int .i64 0]) (by simp [results, Try.results60, go_sem, go0, go1, go2, go3, go4, go5, go6, go7, go8]) rfl ?_
      subst h1 h2
      exact ⟨_, _, _, _, rfl, .inr ⟨b1, b2, rfl, rfl, hne, by omega, by omega, by omega, by omega, M1, M2⟩, hM⟩
end Go.Proofs.Ytokjkcnjmfbfiaa
