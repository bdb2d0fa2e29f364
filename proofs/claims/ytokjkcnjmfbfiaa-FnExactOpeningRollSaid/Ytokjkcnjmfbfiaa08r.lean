/- Contract of the program on opening rolls. -/
import Derived.Test.Ytokjkcnjmfbfiaa08p
import Derived.Test.Ytokjkcnjmfbfiaa08k
namespace Go.Proofs.Ytokjkcnjmfbfiaa
open Go.ChangeShapes Go.WideShapes Go.ChangeAt Go.RowKit
set_option linter.unusedVariables false
set_option linter.unusedSimpArgs false
set_option maxRecDepth 4000

/-- What an opening roll gives. -/
def openingC (p c h s : Int) (G : Gm) (fa fb : Int) : Int := if pcC (gmB p c h s G.xs G.ys G.pl G.ra G.rb G.ph G.wi G.re G.tu) G.ph [0] = 0 then (if (inB fa 1 s && inB fb 1 s) = true then 0 else 2) else pcC (gmB p c h s G.xs G.ys G.pl G.ra G.rb G.ph G.wi G.re G.tu) G.ph [0]
def openedG (G : Gm) (fa fb : Int) : Gm := if fa = fb then G else ⟨if fa < fb then G.ys else G.xs, if fa < fb then G.xs else G.ys, if fa < fb then 1 else 0, (prR fa fb).1, (prR fa fb).2, 2, 0, 0, 0⟩
def openingV (p c h s : Int) (G : Gm) (fa fb : Int) : Gm := if pcC (gmB p c h s G.xs G.ys G.pl G.ra G.rb G.ph G.wi G.re G.tu) G.ph [0] = 0 then (if (inB fa 1 s && inB fb 1 s) = true then openedG G fa fb else gm0) else gm0
theorem gmB_open {p c h s : Int} {xs ys : List Int} {pl ra rb ph wi re tu : Int} (g : gmB p c h s xs ys pl ra rb ph wi re tu = true) (e : ph = 0) : isB p c h s xs ys = true ∧ pl = 0 ∧ wi = 0 ∧ re = 0 ∧ tu = 0 := by
  subst e
  unfold gmB phB at g
  simp only [Bool.and_eq_true, decide_eq_true_eq, if_true] at g
  have e := g.2.2.2.2.2
  simp only [openG, Gm.mk.injEq] at e
  exact ⟨g.2.1, e.2.2.1, e.2.2.2.2.2.2.1, e.2.2.2.2.2.2.2.1, e.2.2.2.2.2.2.2.2⟩
theorem opened_any' (p : Int) (P : Nat) (hp : p = (P : Int)) (c h s : Int) (a1 a2 : Option Addr) (n1 n2 c1 c2 : Nat) (xs ys : List Int) (pl ra rb ph wi re tu : Int) (fa fb : Int) (w : World) (p1 : P ≤ 24) (h1 : xs.length = P + 1) (h2 : ys.length = P + 1) (e1 : xs.length = n1) (e2 : ys.length = n2) (r1 : IRow w a1 xs) (r2 : IRow w a2 ys) :
    Calls Try.prog 99 #[.agg #[.int .i64 p, .int .i64 c, .int .i64 h, .int .i64 s], .agg #[.slice a1 n1 c1, .slice a2 n2 c2, .int .i64 pl, .int .i64 ra, .int .i64 rb, .int .i64 ph, .int .i64 wi, .int .i64 re, .int .i64 tu], .int .i64 fa, .int .i64 fb] w (GameOwn (if fa < fb then ys else xs) (if fa < fb then xs else ys) (P + 1) (P + 1) (if fa < fb then 1 else 0) (prR fa fb).1 (prR fa fb).2 2 0 0 0 w) := by
  subst hp
  exact opened_any P c h s a1 a2 n1 n2 c1 c2 xs ys pl ra rb ph wi re tu fa fb w p1 h1 h2 e1 e2 r1 r2
set_option maxRecDepth 8000 in
set_option maxHeartbeats 4000000 in
theorem openingRoll_any (p c h s : Int) (a1 a2 : Option Addr) (n1 n2 c1 c2 : Nat) (xs ys : List Int) (w : World) (h1 : xs.length = n1) (h2 : ys.length = n2) (l1 : n1 ≤ 1048576) (l2 : n2 ≤ 1048576) (r1 : IRow w a1 xs) (r2 : IRow w a2 ys) (pl ra rb ph wi re tu : Int) (fa fb : Int) : Calls Try.prog 52 #[.agg #[.int .i64 p, .int .i64 c, .int .i64 h, .int .i64 s], .agg #[.slice a1 n1 c1, .slice a2 n2 c2, .int .i64 pl, .int .i64 ra, .int .i64 rb, .int .i64 ph, .int .i64 wi, .int .i64 re, .int .i64 tu], .int .i64 fa, .int .i64 fb] w (GameGot (openingV p c h s ⟨xs, ys, pl, ra, rb, ph, wi, re, tu⟩ fa fb) (openingC p c h s ⟨xs, ys, pl, ra, rb, ph, wi, re, tu⟩ fa fb) w) := by
  have hP := fun (a3 : Option Addr) (W : World) (r1 : IRow W a1 xs) (r2 : IRow W a2 ys) (r3 : IRow W a3 [0]) => phaseCode_any p c h s a1 a2 n1 n2 c1 c2 xs ys W h1 h2 l1 l2 r1 r2 pl ra rb ph wi re tu a3 1 1 [0] rfl (by omega) r3
  unfold openingV openingC
  dsimp only
  obtain ⟨Q, hQe⟩ : ∃ q, pcC (gmB p c h s xs ys pl ra rb ph wi re tu) ph [0] = q := ⟨_, rfl⟩
  have hg : Q = 0 → isB p c h s xs ys = true ∧ ph = 0 := by
    intro e
    rw [← hQe] at e
    unfold pcC at e
    split at e
    · rename_i g
      split at e
      · rename_i q
        simp at q
        exact ⟨(gmB_open g q).1, q⟩
      · omega
    · omega
  rw [hQe] at hP ⊢
  have HP := Lib.hid hP
  clear hP hQe
  obtain ⟨BV, BG, BO, hb, hz⟩ := three_new w #[.int .i64 p, .int .i64 c, .int .i64 h, .int .i64 s] #[.slice a1 n1 c1, .slice a2 n2 c2, .int .i64 pl, .int .i64 ra, .int .i64 rb, .int .i64 ph, .int .i64 wi, .int .i64 re, .int .i64 tu] #[.slice none 0 0, .slice none 0 0, .int .i64 0, .int .i64 0, .int .i64 0, .int .i64 0, .int .i64 0, .int .i64 0, .int .i64 0] 32 70 70
  replace r1 := r1.below hb
  replace r2 := r2.below hb
  by_cases e0 : Q = 0
  rotate_left
  · have f0 : (Q != 0) = true := by rw [bne_iff_ne]; exact e0
    rw [if_neg e0, if_neg e0]
    clear e0 hg
    go_enter Try.func52, Try.ntmps52
    obtain ⟨x0, x1, x2, x3, xf, xl⟩ := BV.four
    obtain ⟨ga0, ga1, ga2, ga3, ga4, ga5, ga6, ga7, ga8, gaf, gal⟩ := BG.nine
    obtain ⟨go0, go1, go2, go3, go4, go5, go6, go7, go8, gof, gol⟩ := BO.nine
    go_wp2_with fail
    clear x0 x1 x2 x3 xf xl
    clear ga0 ga1 ga2 ga3 ga4 ga5 ga6 ga7 ga8 gaf gal
    clear go0 go1 go2 go3 go4 go5 go6 go7 go8 gof gol
    generalize (((w.alloc (.cells #[.int .i64 p, .int .i64 c, .int .i64 h, .int .i64 s] 32)).alloc (.cells #[.slice a1 n1 c1, .slice a2 n2 c2, .int .i64 pl, .int .i64 ra, .int .i64 rb, .int .i64 ph, .int .i64 wi, .int .i64 re, .int .i64 tu] 70)).alloc (.cells #[.slice none 0 0, .slice none 0 0, .int .i64 0, .int .i64 0, .int .i64 0, .int .i64 0, .int .i64 0, .int .i64 0, .int .i64 0] 70)) = v0 at *
    obtain ⟨gO, hgO⟩ : ∃ gO, w.heap.size + 1 + 1 = gO := ⟨_, rfl⟩
    rw [hgO] at BO ⊢
    have hzE : v0.heap.size = gO + 1 := by omega
    have hO1 : w.heap.size + 1 + 1 ≤ gO := by omega
    have hO2 : gO ≤ w.heap.size + 1 + 1 := by omega
    clear hgO
    have hal : Below v0.heap.size v0 (v0.alloc (.cells #[.int .i64 0] 2)) := (Below.refl _ _).alloc (Nat.le_refl _) _
    have R3 : IRow (v0.alloc (.cells #[.int .i64 0] 2)) (some ⟨gO + 1, 0, none⟩) [0] := by
      have q := (lit_row v0 [0]).irow
      rw [hzE] at q
      exact q
    have hz4 : gO + 1 ≤ v0.heap.size := by omega
    clear hzE hz
    replace BV := BV.below hal
    replace BG := BG.below hal
    replace BO := BO.below hal
    replace r1 := r1.below hal
    replace r2 := r2.below hal
    have hz_hal := hal.size
    replace hb := chain hb hal
    clear hal
    obtain ⟨g0, hg0⟩ : ∃ g0, gO + 1 = g0 := ⟨_, rfl⟩
    rw [hg0] at R3 ⊢
    clear hg0
    generalize (v0.alloc (.cells #[.int .i64 0] 2)) = v1 at *
    refine (HP.out _ _ r1 r2 R3).mono ?_
    rintro e w1 ⟨rfl, hb1⟩
    replace BV := BV.below hb1
    replace BG := BG.below hb1
    replace BO := BO.below hb1
    replace r1 := r1.below hb1
    replace r2 := r2.below hb1
    have hz_hb1 := hb1.size
    replace hb := chain hb hb1
    clear hb1
    clear R3
    obtain ⟨x0, x1, x2, x3, xf, xl⟩ := BV.four
    obtain ⟨ga0, ga1, ga2, ga3, ga4, ga5, ga6, ga7, ga8, gaf, gal⟩ := BG.nine
    obtain ⟨go0, go1, go2, go3, go4, go5, go6, go7, go8, gof, gol⟩ := BO.nine
    go_wp2
    clear x0 x1 x2 x3 xf xl
    clear ga0 ga1 ga2 ga3 ga4 ga5 ga6 ga7 ga8 gaf gal
    clear go0 go1 go2 go3 go4 go5 go6 go7 go8 gof gol
    have MO := BO.setG9 (.slice none 0 0) (.slice none 0 0) (.int .i64 0) (.int .i64 0) (.int .i64 0) (.int .i64 0) (.int .i64 0) (.int .i64 0) (.int .i64 0)
    have hM := Below.farG9 hb (B := gO) (by omega) (.slice none 0 0) (.slice none 0 0) (.int .i64 0) (.int .i64 0) (.int .i64 0) (.int .i64 0) (.int .i64 0) (.int .i64 0) (.int .i64 0)
    have hsz := size_farG9 w1 gO (.slice none 0 0) (.slice none 0 0) (.int .i64 0) (.int .i64 0) (.int .i64 0) (.int .i64 0) (.int .i64 0) (.int .i64 0) (.int .i64 0)
    clear BO hb BV BG r1 r2
    generalize (((((((((w1.setCell ⟨gO, 0, none⟩ (.slice none 0 0)).setCell ⟨gO, 1, none⟩ (.slice none 0 0)).setCell ⟨gO, 2, none⟩ (.int .i64 0)).setCell ⟨gO, 3, none⟩ (.int .i64 0)).setCell ⟨gO, 4, none⟩ (.int .i64 0)).setCell ⟨gO, 5, none⟩ (.int .i64 0)).setCell ⟨gO, 6, none⟩ (.int .i64 0)).setCell ⟨gO, 7, none⟩ (.int .i64 0)).setCell ⟨gO, 8, none⟩ (.int .i64 0)) = we at *
    obtain ⟨go0, go1, go2, go3, go4, go5, go6, go7, go8, gof, gol⟩ := MO.nine
    refine bodyPost_ret (v := .tuple #[.agg #[.slice none 0 0, .slice none 0 0, .int .i64 0, .int .i64 0, .int .i64 0, .int .i64 0, .int .i64 0, .int .i64 0, .int .i64 0], .int .i64 Q]) (by simp [results, Try.results52, go_sem, go0, go1, go2, go3, go4, go5, go6, go7, go8]) rfl ?_
    exact ⟨none, none, 0, 0, rfl, .inl ⟨rfl, rfl, rfl, rfl⟩, hM⟩
  · obtain ⟨gi, hph⟩ := hg e0
    subst e0
    rw [if_pos rfl, if_pos rfl]
    clear hg
    have gp := isB_parts gi
    obtain ⟨P, hpP⟩ := Int.eq_ofNat_of_zero_le (by omega : 0 ≤ p)
    have t1 : 0 < n1 := by omega
    have t2 : 0 < n2 := by omega
    have q1 : xs.length = P + 1 := by omega
    have q2 : ys.length = P + 1 := by omega
    have p24 : P ≤ 24 := by omega
    have hA := fun W => hasDie_any p c h s fa W
    have hB := fun W => hasDie_any p c h s fb W
    obtain ⟨A, hAe⟩ : ∃ q, inB fa 1 s = q := ⟨_, rfl⟩
    obtain ⟨B, hBe⟩ : ∃ q, inB fb 1 s = q := ⟨_, rfl⟩
    rw [hAe] at hA ⊢
    rw [hBe] at hB ⊢
    have hC := fun (W : World) (r1 : IRow W a1 xs) (r2 : IRow W a2 ys) => gameCopied_any a1 a2 n1 n2 c1 c2 xs ys pl ra rb ph wi re tu W h1 h2 t1 t2 l1 l2 r1 r2
    have hO := fun (W : World) (r1 : IRow W a1 xs) (r2 : IRow W a2 ys) => opened_any' p P hpP c h s a1 a2 n1 n2 c1 c2 xs ys pl ra rb ph wi re tu fa fb W p24 q1 q2 h1 h2 r1 r2
    have HA := Lib.hid hA
    have HB := Lib.hid hB
    have HC := Lib.hid hC
    have HQ1 := Lib.hid q1
    have HQ2 := Lib.hid q2
    clear hA hB hC hAe hBe gi gp hph q1 q2
    cases A with
    | false =>
      rw [Bool.false_and, if_neg (by simp), if_neg (by simp)]
      clear hO hpP p24
      go_enter Try.func52, Try.ntmps52
      obtain ⟨x0, x1, x2, x3, xf, xl⟩ := BV.four
      obtain ⟨ga0, ga1, ga2, ga3, ga4, ga5, ga6, ga7, ga8, gaf, gal⟩ := BG.nine
      obtain ⟨go0, go1, go2, go3, go4, go5, go6, go7, go8, gof, gol⟩ := BO.nine
      go_wp2_with fail
      clear x0 x1 x2 x3 xf xl
      clear ga0 ga1 ga2 ga3 ga4 ga5 ga6 ga7 ga8 gaf gal
      clear go0 go1 go2 go3 go4 go5 go6 go7 go8 gof gol
      generalize (((w.alloc (.cells #[.int .i64 p, .int .i64 c, .int .i64 h, .int .i64 s] 32)).alloc (.cells #[.slice a1 n1 c1, .slice a2 n2 c2, .int .i64 pl, .int .i64 ra, .int .i64 rb, .int .i64 ph, .int .i64 wi, .int .i64 re, .int .i64 tu] 70)).alloc (.cells #[.slice none 0 0, .slice none 0 0, .int .i64 0, .int .i64 0, .int .i64 0, .int .i64 0, .int .i64 0, .int .i64 0, .int .i64 0] 70)) = v0 at *
      obtain ⟨gO, hgO⟩ : ∃ gO, w.heap.size + 1 + 1 = gO := ⟨_, rfl⟩
      rw [hgO] at BO ⊢
      have hzE : v0.heap.size = gO + 1 := by omega
      have hO1 : w.heap.size + 1 + 1 ≤ gO := by omega
      have hO2 : gO ≤ w.heap.size + 1 + 1 := by omega
      clear hgO
      have hal : Below v0.heap.size v0 (v0.alloc (.cells #[.int .i64 0] 2)) := (Below.refl _ _).alloc (Nat.le_refl _) _
      have R3 : IRow (v0.alloc (.cells #[.int .i64 0] 2)) (some ⟨gO + 1, 0, none⟩) [0] := by
        have q := (lit_row v0 [0]).irow
        rw [hzE] at q
        exact q
      have hz4 : gO + 1 ≤ v0.heap.size := by omega
      clear hzE hz
      replace BV := BV.below hal
      replace BG := BG.below hal
      replace BO := BO.below hal
      replace r1 := r1.below hal
      replace r2 := r2.below hal
      have hz_hal := hal.size
      replace hb := chain hb hal
      clear hal
      obtain ⟨g0, hg0⟩ : ∃ g0, gO + 1 = g0 := ⟨_, rfl⟩
      rw [hg0] at R3 ⊢
      clear hg0
      generalize (v0.alloc (.cells #[.int .i64 0] 2)) = v1 at *
      refine (HP.out _ _ r1 r2 R3).mono ?_
      rintro e w1 ⟨rfl, hb1⟩
      replace BV := BV.below hb1
      replace BG := BG.below hb1
      replace BO := BO.below hb1
      replace r1 := r1.below hb1
      replace r2 := r2.below hb1
      have hz_hb1 := hb1.size
      replace hb := chain hb hb1
      clear hb1
      clear R3
      obtain ⟨x0, x1, x2, x3, xf, xl⟩ := BV.four
      obtain ⟨ga0, ga1, ga2, ga3, ga4, ga5, ga6, ga7, ga8, gaf, gal⟩ := BG.nine
      obtain ⟨go0, go1, go2, go3, go4, go5, go6, go7, go8, gof, gol⟩ := BO.nine
      go_wp2_with fail
      clear x0 x1 x2 x3 xf xl
      clear ga0 ga1 ga2 ga3 ga4 ga5 ga6 ga7 ga8 gaf gal
      clear go0 go1 go2 go3 go4 go5 go6 go7 go8 gof gol
      refine (HA.out _).mono ?_
      rintro e w2 ⟨rfl, hb2⟩
      replace BV := BV.below hb2
      replace BG := BG.below hb2
      replace BO := BO.below hb2
      replace r1 := r1.below hb2
      replace r2 := r2.below hb2
      have hz_hb2 := hb2.size
      replace hb := chain hb hb2
      clear hb2
      obtain ⟨x0, x1, x2, x3, xf, xl⟩ := BV.four
      obtain ⟨ga0, ga1, ga2, ga3, ga4, ga5, ga6, ga7, ga8, gaf, gal⟩ := BG.nine
      obtain ⟨go0, go1, go2, go3, go4, go5, go6, go7, go8, gof, gol⟩ := BO.nine
      go_wp2
      clear x0 x1 x2 x3 xf xl
      clear ga0 ga1 ga2 ga3 ga4 ga5 ga6 ga7 ga8 gaf gal
      clear go0 go1 go2 go3 go4 go5 go6 go7 go8 gof gol
      have MO := BO.setG9 (.slice none 0 0) (.slice none 0 0) (.int .i64 0) (.int .i64 0) (.int .i64 0) (.int .i64 0) (.int .i64 0) (.int .i64 0) (.int .i64 0)
      have hM := Below.farG9 hb (B := gO) (by omega) (.slice none 0 0) (.slice none 0 0) (.int .i64 0) (.int .i64 0) (.int .i64 0) (.int .i64 0) (.int .i64 0) (.int .i64 0) (.int .i64 0)
      have hsz := size_farG9 w2 gO (.slice none 0 0) (.slice none 0 0) (.int .i64 0) (.int .i64 0) (.int .i64 0) (.int .i64 0) (.int .i64 0) (.int .i64 0) (.int .i64 0)
      clear BO hb BV BG r1 r2
      generalize (((((((((w2.setCell ⟨gO, 0, none⟩ (.slice none 0 0)).setCell ⟨gO, 1, none⟩ (.slice none 0 0)).setCell ⟨gO, 2, none⟩ (.int .i64 0)).setCell ⟨gO, 3, none⟩ (.int .i64 0)).setCell ⟨gO, 4, none⟩ (.int .i64 0)).setCell ⟨gO, 5, none⟩ (.int .i64 0)).setCell ⟨gO, 6, none⟩ (.int .i64 0)).setCell ⟨gO, 7, none⟩ (.int .i64 0)).setCell ⟨gO, 8, none⟩ (.int .i64 0)) = we at *
      obtain ⟨go0, go1, go2, go3, go4, go5, go6, go7, go8, gof, gol⟩ := MO.nine
      refine bodyPost_ret (v := .tuple #[.agg #[.slice none 0 0, .slice none 0 0, .int .i64 0, .int .i64 0, .int .i64 0, .int .i64 0, .int .i64 0, .int .i64 0, .int .i64 0], .int .i64 2]) (by simp [results, Try.results52, go_sem, go0, go1, go2, go3, go4, go5, go6, go7, go8]) rfl ?_
      exact ⟨none, none, 0, 0, rfl, .inl ⟨rfl, rfl, rfl, rfl⟩, hM⟩
    | true =>
      rw [Bool.true_and]
      cases B with
      | false =>
        rw [if_neg (by simp), if_neg (by simp)]
        clear hO hpP p24
        go_enter Try.func52, Try.ntmps52
        obtain ⟨x0, x1, x2, x3, xf, xl⟩ := BV.four
        obtain ⟨ga0, ga1, ga2, ga3, ga4, ga5, ga6, ga7, ga8, gaf, gal⟩ := BG.nine
        obtain ⟨go0, go1, go2, go3, go4, go5, go6, go7, go8, gof, gol⟩ := BO.nine
        go_wp2_with fail
        clear x0 x1 x2 x3 xf xl
        clear ga0 ga1 ga2 ga3 ga4 ga5 ga6 ga7 ga8 gaf gal
        clear go0 go1 go2 go3 go4 go5 go6 go7 go8 gof gol
        generalize (((w.alloc (.cells #[.int .i64 p, .int .i64 c, .int .i64 h, .int .i64 s] 32)).alloc (.cells #[.slice a1 n1 c1, .slice a2 n2 c2, .int .i64 pl, .int .i64 ra, .int .i64 rb, .int .i64 ph, .int .i64 wi, .int .i64 re, .int .i64 tu] 70)).alloc (.cells #[.slice none 0 0, .slice none 0 0, .int .i64 0, .int .i64 0, .int .i64 0, .int .i64 0, .int .i64 0, .int .i64 0, .int .i64 0] 70)) = v0 at *
        obtain ⟨gO, hgO⟩ : ∃ gO, w.heap.size + 1 + 1 = gO := ⟨_, rfl⟩
        rw [hgO] at BO ⊢
        have hzE : v0.heap.size = gO + 1 := by omega
        have hO1 : w.heap.size + 1 + 1 ≤ gO := by omega
        have hO2 : gO ≤ w.heap.size + 1 + 1 := by omega
        clear hgO
        have hal : Below v0.heap.size v0 (v0.alloc (.cells #[.int .i64 0] 2)) := (Below.refl _ _).alloc (Nat.le_refl _) _
        have R3 : IRow (v0.alloc (.cells #[.int .i64 0] 2)) (some ⟨gO + 1, 0, none⟩) [0] := by
          have q := (lit_row v0 [0]).irow
          rw [hzE] at q
          exact q
        have hz4 : gO + 1 ≤ v0.heap.size := by omega
        clear hzE hz
        replace BV := BV.below hal
        replace BG := BG.below hal
        replace BO := BO.below hal
        replace r1 := r1.below hal
        replace r2 := r2.below hal
        have hz_hal := hal.size
        replace hb := chain hb hal
        clear hal
        obtain ⟨g0, hg0⟩ : ∃ g0, gO + 1 = g0 := ⟨_, rfl⟩
        rw [hg0] at R3 ⊢
        clear hg0
        generalize (v0.alloc (.cells #[.int .i64 0] 2)) = v1 at *
        refine (HP.out _ _ r1 r2 R3).mono ?_
        rintro e w1 ⟨rfl, hb1⟩
        replace BV := BV.below hb1
        replace BG := BG.below hb1
        replace BO := BO.below hb1
        replace r1 := r1.below hb1
        replace r2 := r2.below hb1
        have hz_hb1 := hb1.size
        replace hb := chain hb hb1
        clear hb1
        clear R3
        obtain ⟨x0, x1, x2, x3, xf, xl⟩ := BV.four
        obtain ⟨ga0, ga1, ga2, ga3, ga4, ga5, ga6, ga7, ga8, gaf, gal⟩ := BG.nine
        obtain ⟨go0, go1, go2, go3, go4, go5, go6, go7, go8, gof, gol⟩ := BO.nine
        go_wp2_with fail
        clear x0 x1 x2 x3 xf xl
        clear ga0 ga1 ga2 ga3 ga4 ga5 ga6 ga7 ga8 gaf gal
        clear go0 go1 go2 go3 go4 go5 go6 go7 go8 gof gol
        refine (HA.out _).mono ?_
        rintro e w2 ⟨rfl, hb2⟩
        replace BV := BV.below hb2
        replace BG := BG.below hb2
        replace BO := BO.below hb2
        replace r1 := r1.below hb2
        replace r2 := r2.below hb2
        have hz_hb2 := hb2.size
        replace hb := chain hb hb2
        clear hb2
        obtain ⟨x0, x1, x2, x3, xf, xl⟩ := BV.four
        obtain ⟨ga0, ga1, ga2, ga3, ga4, ga5, ga6, ga7, ga8, gaf, gal⟩ := BG.nine
        obtain ⟨go0, go1, go2, go3, go4, go5, go6, go7, go8, gof, gol⟩ := BO.nine
        go_wp2_with fail
        clear x0 x1 x2 x3 xf xl
        clear ga0 ga1 ga2 ga3 ga4 ga5 ga6 ga7 ga8 gaf gal
        clear go0 go1 go2 go3 go4 go5 go6 go7 go8 gof gol
        refine (HB.out _).mono ?_
        rintro e w3 ⟨rfl, hb3⟩
        replace BV := BV.below hb3
        replace BG := BG.below hb3
        replace BO := BO.below hb3
        replace r1 := r1.below hb3
        replace r2 := r2.below hb3
        have hz_hb3 := hb3.size
        replace hb := chain hb hb3
        clear hb3
        obtain ⟨x0, x1, x2, x3, xf, xl⟩ := BV.four
        obtain ⟨ga0, ga1, ga2, ga3, ga4, ga5, ga6, ga7, ga8, gaf, gal⟩ := BG.nine
        obtain ⟨go0, go1, go2, go3, go4, go5, go6, go7, go8, gof, gol⟩ := BO.nine
        go_wp2
        clear x0 x1 x2 x3 xf xl
        clear ga0 ga1 ga2 ga3 ga4 ga5 ga6 ga7 ga8 gaf gal
        clear go0 go1 go2 go3 go4 go5 go6 go7 go8 gof gol
        have MO := BO.setG9 (.slice none 0 0) (.slice none 0 0) (.int .i64 0) (.int .i64 0) (.int .i64 0) (.int .i64 0) (.int .i64 0) (.int .i64 0) (.int .i64 0)
        have hM := Below.farG9 hb (B := gO) (by omega) (.slice none 0 0) (.slice none 0 0) (.int .i64 0) (.int .i64 0) (.int .i64 0) (.int .i64 0) (.int .i64 0) (.int .i64 0) (.int .i64 0)
        have hsz := size_farG9 w3 gO (.slice none 0 0) (.slice none 0 0) (.int .i64 0) (.int .i64 0) (.int .i64 0) (.int .i64 0) (.int .i64 0) (.int .i64 0) (.int .i64 0)
        clear BO hb BV BG r1 r2
        generalize (((((((((w3.setCell ⟨gO, 0, none⟩ (.slice none 0 0)).setCell ⟨gO, 1, none⟩ (.slice none 0 0)).setCell ⟨gO, 2, none⟩ (.int .i64 0)).setCell ⟨gO, 3, none⟩ (.int .i64 0)).setCell ⟨gO, 4, none⟩ (.int .i64 0)).setCell ⟨gO, 5, none⟩ (.int .i64 0)).setCell ⟨gO, 6, none⟩ (.int .i64 0)).setCell ⟨gO, 7, none⟩ (.int .i64 0)).setCell ⟨gO, 8, none⟩ (.int .i64 0)) = we at *
        obtain ⟨go0, go1, go2, go3, go4, go5, go6, go7, go8, gof, gol⟩ := MO.nine
        refine bodyPost_ret (v := .tuple #[.agg #[.slice none 0 0, .slice none 0 0, .int .i64 0, .int .i64 0, .int .i64 0, .int .i64 0, .int .i64 0, .int .i64 0, .int .i64 0], .int .i64 2]) (by simp [results, Try.results52, go_sem, go0, go1, go2, go3, go4, go5, go6, go7, go8]) rfl ?_
        exact ⟨none, none, 0, 0, rfl, .inl ⟨rfl, rfl, rfl, rfl⟩, hM⟩
      | true =>
        rw [if_pos rfl, if_pos rfl]
        unfold openedG
        dsimp only
        by_cases ef : fa = fb
        · have f1 : (fa == fb) = true := by rw [beq_iff_eq]; exact ef
          rw [if_pos ef]
          clear ef hO hpP p24
          go_enter Try.func52, Try.ntmps52
          obtain ⟨x0, x1, x2, x3, xf, xl⟩ := BV.four
          obtain ⟨ga0, ga1, ga2, ga3, ga4, ga5, ga6, ga7, ga8, gaf, gal⟩ := BG.nine
          obtain ⟨go0, go1, go2, go3, go4, go5, go6, go7, go8, gof, gol⟩ := BO.nine
          go_wp2_with fail
          clear x0 x1 x2 x3 xf xl
          clear ga0 ga1 ga2 ga3 ga4 ga5 ga6 ga7 ga8 gaf gal
          clear go0 go1 go2 go3 go4 go5 go6 go7 go8 gof gol
          generalize (((w.alloc (.cells #[.int .i64 p, .int .i64 c, .int .i64 h, .int .i64 s] 32)).alloc (.cells #[.slice a1 n1 c1, .slice a2 n2 c2, .int .i64 pl, .int .i64 ra, .int .i64 rb, .int .i64 ph, .int .i64 wi, .int .i64 re, .int .i64 tu] 70)).alloc (.cells #[.slice none 0 0, .slice none 0 0, .int .i64 0, .int .i64 0, .int .i64 0, .int .i64 0, .int .i64 0, .int .i64 0, .int .i64 0] 70)) = v0 at *
          obtain ⟨gO, hgO⟩ : ∃ gO, w.heap.size + 1 + 1 = gO := ⟨_, rfl⟩
          rw [hgO] at BO ⊢
          have hzE : v0.heap.size = gO + 1 := by omega
          have hO1 : w.heap.size + 1 + 1 ≤ gO := by omega
          have hO2 : gO ≤ w.heap.size + 1 + 1 := by omega
          clear hgO
          have hal : Below v0.heap.size v0 (v0.alloc (.cells #[.int .i64 0] 2)) := (Below.refl _ _).alloc (Nat.le_refl _) _
          have R3 : IRow (v0.alloc (.cells #[.int .i64 0] 2)) (some ⟨gO + 1, 0, none⟩) [0] := by
            have q := (lit_row v0 [0]).irow
            rw [hzE] at q
            exact q
          have hz4 : gO + 1 ≤ v0.heap.size := by omega
          clear hzE hz
          replace BV := BV.below hal
          replace BG := BG.below hal
          replace BO := BO.below hal
          replace r1 := r1.below hal
          replace r2 := r2.below hal
          have hz_hal := hal.size
          replace hb := chain hb hal
          clear hal
          obtain ⟨g0, hg0⟩ : ∃ g0, gO + 1 = g0 := ⟨_, rfl⟩
          rw [hg0] at R3 ⊢
          clear hg0
          generalize (v0.alloc (.cells #[.int .i64 0] 2)) = v1 at *
          refine (HP.out _ _ r1 r2 R3).mono ?_
          rintro e w1 ⟨rfl, hb1⟩
          replace BV := BV.below hb1
          replace BG := BG.below hb1
          replace BO := BO.below hb1
          replace r1 := r1.below hb1
          replace r2 := r2.below hb1
          have hz_hb1 := hb1.size
          replace hb := chain hb hb1
          clear hb1
          clear R3
          obtain ⟨x0, x1, x2, x3, xf, xl⟩ := BV.four
          obtain ⟨ga0, ga1, ga2, ga3, ga4, ga5, ga6, ga7, ga8, gaf, gal⟩ := BG.nine
          obtain ⟨go0, go1, go2, go3, go4, go5, go6, go7, go8, gof, gol⟩ := BO.nine
          go_wp2_with fail
          clear x0 x1 x2 x3 xf xl
          clear ga0 ga1 ga2 ga3 ga4 ga5 ga6 ga7 ga8 gaf gal
          clear go0 go1 go2 go3 go4 go5 go6 go7 go8 gof gol
          refine (HA.out _).mono ?_
          rintro e w2 ⟨rfl, hb2⟩
          replace BV := BV.below hb2
          replace BG := BG.below hb2
          replace BO := BO.below hb2
          replace r1 := r1.below hb2
          replace r2 := r2.below hb2
          have hz_hb2 := hb2.size
          replace hb := chain hb hb2
          clear hb2
          obtain ⟨x0, x1, x2, x3, xf, xl⟩ := BV.four
          obtain ⟨ga0, ga1, ga2, ga3, ga4, ga5, ga6, ga7, ga8, gaf, gal⟩ := BG.nine
          obtain ⟨go0, go1, go2, go3, go4, go5, go6, go7, go8, gof, gol⟩ := BO.nine
          go_wp2_with fail
          clear x0 x1 x2 x3 xf xl
          clear ga0 ga1 ga2 ga3 ga4 ga5 ga6 ga7 ga8 gaf gal
          clear go0 go1 go2 go3 go4 go5 go6 go7 go8 gof gol
          refine (HB.out _).mono ?_
          rintro e w3 ⟨rfl, hb3⟩
          replace BV := BV.below hb3
          replace BG := BG.below hb3
          replace BO := BO.below hb3
          replace r1 := r1.below hb3
          replace r2 := r2.below hb3
          have hz_hb3 := hb3.size
          replace hb := chain hb hb3
          clear hb3
          obtain ⟨x0, x1, x2, x3, xf, xl⟩ := BV.four
          obtain ⟨ga0, ga1, ga2, ga3, ga4, ga5, ga6, ga7, ga8, gaf, gal⟩ := BG.nine
          obtain ⟨go0, go1, go2, go3, go4, go5, go6, go7, go8, gof, gol⟩ := BO.nine
          go_wp2_with fail
          clear x0 x1 x2 x3 xf xl
          clear ga0 ga1 ga2 ga3 ga4 ga5 ga6 ga7 ga8 gaf gal
          clear go0 go1 go2 go3 go4 go5 go6 go7 go8 gof gol
          refine (HC.out _ r1 r2).mono ?_
          rintro e w4 ⟨b1, b2, rfl, hne, hq1, hq2, R1, R2, hb4⟩
          replace BV := BV.below hb4
          replace BG := BG.below hb4
          replace BO := BO.below hb4
          replace r1 := r1.below hb4
          replace r2 := r2.below hb4
          have hz_hb4 := hb4.size
          replace hb := chain hb hb4
          clear hb4
          obtain ⟨x0, x1, x2, x3, xf, xl⟩ := BV.four
          obtain ⟨ga0, ga1, ga2, ga3, ga4, ga5, ga6, ga7, ga8, gaf, gal⟩ := BG.nine
          obtain ⟨go0, go1, go2, go3, go4, go5, go6, go7, go8, gof, gol⟩ := BO.nine
          go_wp2
          clear x0 x1 x2 x3 xf xl
          clear ga0 ga1 ga2 ga3 ga4 ga5 ga6 ga7 ga8 gaf gal
          clear go0 go1 go2 go3 go4 go5 go6 go7 go8 gof gol
          have MO := BO.setG9 (.slice (some ⟨b1, 0, none⟩) n1 n1) (.slice (some ⟨b2, 0, none⟩) n2 n2) (.int .i64 pl) (.int .i64 ra) (.int .i64 rb) (.int .i64 ph) (.int .i64 wi) (.int .i64 re) (.int .i64 tu)
          have u1 := R1.lt
          have u2 := R2.lt
          have M1 := R1.farG9 (B := gO) (by omega) (.slice (some ⟨b1, 0, none⟩) n1 n1) (.slice (some ⟨b2, 0, none⟩) n2 n2) (.int .i64 pl) (.int .i64 ra) (.int .i64 rb) (.int .i64 ph) (.int .i64 wi) (.int .i64 re) (.int .i64 tu)
          have M2 := R2.farG9 (B := gO) (by omega) (.slice (some ⟨b1, 0, none⟩) n1 n1) (.slice (some ⟨b2, 0, none⟩) n2 n2) (.int .i64 pl) (.int .i64 ra) (.int .i64 rb) (.int .i64 ph) (.int .i64 wi) (.int .i64 re) (.int .i64 tu)
          clear R1 R2
          have hM := Below.farG9 hb (B := gO) (by omega) (.slice (some ⟨b1, 0, none⟩) n1 n1) (.slice (some ⟨b2, 0, none⟩) n2 n2) (.int .i64 pl) (.int .i64 ra) (.int .i64 rb) (.int .i64 ph) (.int .i64 wi) (.int .i64 re) (.int .i64 tu)
          have hsz := size_farG9 w4 gO (.slice (some ⟨b1, 0, none⟩) n1 n1) (.slice (some ⟨b2, 0, none⟩) n2 n2) (.int .i64 pl) (.int .i64 ra) (.int .i64 rb) (.int .i64 ph) (.int .i64 wi) (.int .i64 re) (.int .i64 tu)
          clear BO hb BV BG r1 r2
          generalize (((((((((w4.setCell ⟨gO, 0, none⟩ (.slice (some ⟨b1, 0, none⟩) n1 n1)).setCell ⟨gO, 1, none⟩ (.slice (some ⟨b2, 0, none⟩) n2 n2)).setCell ⟨gO, 2, none⟩ (.int .i64 pl)).setCell ⟨gO, 3, none⟩ (.int .i64 ra)).setCell ⟨gO, 4, none⟩ (.int .i64 rb)).setCell ⟨gO, 5, none⟩ (.int .i64 ph)).setCell ⟨gO, 6, none⟩ (.int .i64 wi)).setCell ⟨gO, 7, none⟩ (.int .i64 re)).setCell ⟨gO, 8, none⟩ (.int .i64 tu)) = we at *
          obtain ⟨go0, go1, go2, go3, go4, go5, go6, go7, go8, gof, gol⟩ := MO.nine
          refine bodyPost_ret (v := .tuple #[.agg #[.slice (some ⟨b1, 0, none⟩) n1 n1, .slice (some ⟨b2, 0, none⟩) n2 n2, .int .i64 pl, .int .i64 ra, .int .i64 rb, .int .i64 ph, .int .i64 wi, .int .i64 re, .int .i64 tu], .int .i64 0]) (by simp [results, Try.results52, go_sem, go0, go1, go2, go3, go4, go5, go6, go7, go8]) rfl ?_
          subst h1 h2
          exact ⟨_, _, _, _, rfl, .inr ⟨b1, b2, rfl, rfl, hne, by omega, by omega, by omega, by omega, M1, M2⟩, hM⟩
        · have f1 : (fa == fb) = false := by rw [beq_eq_false_iff_ne]; exact ef
          rw [if_neg ef]
          clear ef
          obtain ⟨XX, hXX⟩ : ∃ q, (if fa < fb then ys else xs) = q := ⟨_, rfl⟩
          obtain ⟨YY, hYY⟩ : ∃ q, (if fa < fb then xs else ys) = q := ⟨_, rfl⟩
          obtain ⟨pn, hpn⟩ : ∃ q : Int, (if fa < fb then 1 else 0) = q := ⟨_, rfl⟩
          obtain ⟨ra', hra⟩ : ∃ q, (prR fa fb).1 = q := ⟨_, rfl⟩
          obtain ⟨rb', hrb⟩ : ∃ q, (prR fa fb).2 = q := ⟨_, rfl⟩
          have hlX : XX.length = P + 1 := by rw [← hXX]; split <;> first | exact HQ1.out | exact HQ2.out
          have hlY : YY.length = P + 1 := by rw [← hYY]; split <;> first | exact HQ1.out | exact HQ2.out
          rw [hXX, hYY, hpn, hra, hrb] at hO ⊢
          have HO := Lib.hid hO
          have HLX := Lib.hid hlX
          have HLY := Lib.hid hlY
          clear hpP p24 hO hXX hYY hpn hra hrb hlX hlY
          go_enter Try.func52, Try.ntmps52
          obtain ⟨x0, x1, x2, x3, xf, xl⟩ := BV.four
          obtain ⟨ga0, ga1, ga2, ga3, ga4, ga5, ga6, ga7, ga8, gaf, gal⟩ := BG.nine
          obtain ⟨go0, go1, go2, go3, go4, go5, go6, go7, go8, gof, gol⟩ := BO.nine
          go_wp2_with fail
          clear x0 x1 x2 x3 xf xl
          clear ga0 ga1 ga2 ga3 ga4 ga5 ga6 ga7 ga8 gaf gal
          clear go0 go1 go2 go3 go4 go5 go6 go7 go8 gof gol
          generalize (((w.alloc (.cells #[.int .i64 p, .int .i64 c, .int .i64 h, .int .i64 s] 32)).alloc (.cells #[.slice a1 n1 c1, .slice a2 n2 c2, .int .i64 pl, .int .i64 ra, .int .i64 rb, .int .i64 ph, .int .i64 wi, .int .i64 re, .int .i64 tu] 70)).alloc (.cells #[.slice none 0 0, .slice none 0 0, .int .i64 0, .int .i64 0, .int .i64 0, .int .i64 0, .int .i64 0, .int .i64 0, .int .i64 0] 70)) = v0 at *
          obtain ⟨gO, hgO⟩ : ∃ gO, w.heap.size + 1 + 1 = gO := ⟨_, rfl⟩
          rw [hgO] at BO ⊢
          have hzE : v0.heap.size = gO + 1 := by omega
          have hO1 : w.heap.size + 1 + 1 ≤ gO := by omega
          have hO2 : gO ≤ w.heap.size + 1 + 1 := by omega
          clear hgO
          have hal : Below v0.heap.size v0 (v0.alloc (.cells #[.int .i64 0] 2)) := (Below.refl _ _).alloc (Nat.le_refl _) _
          have R3 : IRow (v0.alloc (.cells #[.int .i64 0] 2)) (some ⟨gO + 1, 0, none⟩) [0] := by
            have q := (lit_row v0 [0]).irow
            rw [hzE] at q
            exact q
          have hz4 : gO + 1 ≤ v0.heap.size := by omega
          clear hzE hz
          replace BV := BV.below hal
          replace BG := BG.below hal
          replace BO := BO.below hal
          replace r1 := r1.below hal
          replace r2 := r2.below hal
          have hz_hal := hal.size
          replace hb := chain hb hal
          clear hal
          obtain ⟨g0, hg0⟩ : ∃ g0, gO + 1 = g0 := ⟨_, rfl⟩
          rw [hg0] at R3 ⊢
          clear hg0
          generalize (v0.alloc (.cells #[.int .i64 0] 2)) = v1 at *
          refine (HP.out _ _ r1 r2 R3).mono ?_
          rintro e w1 ⟨rfl, hb1⟩
          replace BV := BV.below hb1
          replace BG := BG.below hb1
          replace BO := BO.below hb1
          replace r1 := r1.below hb1
          replace r2 := r2.below hb1
          have hz_hb1 := hb1.size
          replace hb := chain hb hb1
          clear hb1
          clear R3
          obtain ⟨x0, x1, x2, x3, xf, xl⟩ := BV.four
          obtain ⟨ga0, ga1, ga2, ga3, ga4, ga5, ga6, ga7, ga8, gaf, gal⟩ := BG.nine
          obtain ⟨go0, go1, go2, go3, go4, go5, go6, go7, go8, gof, gol⟩ := BO.nine
          go_wp2_with fail
          clear x0 x1 x2 x3 xf xl
          clear ga0 ga1 ga2 ga3 ga4 ga5 ga6 ga7 ga8 gaf gal
          clear go0 go1 go2 go3 go4 go5 go6 go7 go8 gof gol
          refine (HA.out _).mono ?_
          rintro e w2 ⟨rfl, hb2⟩
          replace BV := BV.below hb2
          replace BG := BG.below hb2
          replace BO := BO.below hb2
          replace r1 := r1.below hb2
          replace r2 := r2.below hb2
          have hz_hb2 := hb2.size
          replace hb := chain hb hb2
          clear hb2
          obtain ⟨x0, x1, x2, x3, xf, xl⟩ := BV.four
          obtain ⟨ga0, ga1, ga2, ga3, ga4, ga5, ga6, ga7, ga8, gaf, gal⟩ := BG.nine
          obtain ⟨go0, go1, go2, go3, go4, go5, go6, go7, go8, gof, gol⟩ := BO.nine
          go_wp2_with fail
          clear x0 x1 x2 x3 xf xl
          clear ga0 ga1 ga2 ga3 ga4 ga5 ga6 ga7 ga8 gaf gal
          clear go0 go1 go2 go3 go4 go5 go6 go7 go8 gof gol
          refine (HB.out _).mono ?_
          rintro e w3 ⟨rfl, hb3⟩
          replace BV := BV.below hb3
          replace BG := BG.below hb3
          replace BO := BO.below hb3
          replace r1 := r1.below hb3
          replace r2 := r2.below hb3
          have hz_hb3 := hb3.size
          replace hb := chain hb hb3
          clear hb3
          obtain ⟨x0, x1, x2, x3, xf, xl⟩ := BV.four
          obtain ⟨ga0, ga1, ga2, ga3, ga4, ga5, ga6, ga7, ga8, gaf, gal⟩ := BG.nine
          obtain ⟨go0, go1, go2, go3, go4, go5, go6, go7, go8, gof, gol⟩ := BO.nine
          go_wp2_with fail
          clear x0 x1 x2 x3 xf xl
          clear ga0 ga1 ga2 ga3 ga4 ga5 ga6 ga7 ga8 gaf gal
          clear go0 go1 go2 go3 go4 go5 go6 go7 go8 gof gol
          refine (HO.out _ r1 r2).mono ?_
          rintro e w4 ⟨b1, b2, rfl, hne, hq1, hq2, R1, R2, hb4⟩
          replace BV := BV.below hb4
          replace BG := BG.below hb4
          replace BO := BO.below hb4
          replace r1 := r1.below hb4
          replace r2 := r2.below hb4
          have hz_hb4 := hb4.size
          replace hb := chain hb hb4
          clear hb4
          obtain ⟨x0, x1, x2, x3, xf, xl⟩ := BV.four
          obtain ⟨ga0, ga1, ga2, ga3, ga4, ga5, ga6, ga7, ga8, gaf, gal⟩ := BG.nine
          obtain ⟨go0, go1, go2, go3, go4, go5, go6, go7, go8, gof, gol⟩ := BO.nine
          go_wp2
          clear x0 x1 x2 x3 xf xl
          clear ga0 ga1 ga2 ga3 ga4 ga5 ga6 ga7 ga8 gaf gal
          clear go0 go1 go2 go3 go4 go5 go6 go7 go8 gof gol
          have MO := BO.setG9 (.slice (some ⟨b1, 0, none⟩) (P + 1) (P + 1)) (.slice (some ⟨b2, 0, none⟩) (P + 1) (P + 1)) (.int .i64 pn) (.int .i64 ra') (.int .i64 rb') (.int .i64 2) (.int .i64 0) (.int .i64 0) (.int .i64 0)
          have u1 := R1.lt
          have u2 := R2.lt
          have M1 := R1.farG9 (B := gO) (by omega) (.slice (some ⟨b1, 0, none⟩) (P + 1) (P + 1)) (.slice (some ⟨b2, 0, none⟩) (P + 1) (P + 1)) (.int .i64 pn) (.int .i64 ra') (.int .i64 rb') (.int .i64 2) (.int .i64 0) (.int .i64 0) (.int .i64 0)
          have M2 := R2.farG9 (B := gO) (by omega) (.slice (some ⟨b1, 0, none⟩) (P + 1) (P + 1)) (.slice (some ⟨b2, 0, none⟩) (P + 1) (P + 1)) (.int .i64 pn) (.int .i64 ra') (.int .i64 rb') (.int .i64 2) (.int .i64 0) (.int .i64 0) (.int .i64 0)
          clear R1 R2
          have hM := Below.farG9 hb (B := gO) (by omega) (.slice (some ⟨b1, 0, none⟩) (P + 1) (P + 1)) (.slice (some ⟨b2, 0, none⟩) (P + 1) (P + 1)) (.int .i64 pn) (.int .i64 ra') (.int .i64 rb') (.int .i64 2) (.int .i64 0) (.int .i64 0) (.int .i64 0)
          have hsz := size_farG9 w4 gO (.slice (some ⟨b1, 0, none⟩) (P + 1) (P + 1)) (.slice (some ⟨b2, 0, none⟩) (P + 1) (P + 1)) (.int .i64 pn) (.int .i64 ra') (.int .i64 rb') (.int .i64 2) (.int .i64 0) (.int .i64 0) (.int .i64 0)
          clear BO hb BV BG r1 r2
          generalize (((((((((w4.setCell ⟨gO, 0, none⟩ (.slice (some ⟨b1, 0, none⟩) (P + 1) (P + 1))).setCell ⟨gO, 1, none⟩ (.slice (some ⟨b2, 0, none⟩) (P + 1) (P + 1))).setCell ⟨gO, 2, none⟩ (.int .i64 pn)).setCell ⟨gO, 3, none⟩ (.int .i64 ra')).setCell ⟨gO, 4, none⟩ (.int .i64 rb')).setCell ⟨gO, 5, none⟩ (.int .i64 2)).setCell ⟨gO, 6, none⟩ (.int .i64 0)).setCell ⟨gO, 7, none⟩ (.int .i64 0)).setCell ⟨gO, 8, none⟩ (.int .i64 0)) = we at *
          obtain ⟨go0, go1, go2, go3, go4, go5, go6, go7, go8, gof, gol⟩ := MO.nine
          refine bodyPost_ret (v := .tuple #[.agg #[.slice (some ⟨b1, 0, none⟩) (P + 1) (P + 1), .slice (some ⟨b2, 0, none⟩) (P + 1) (P + 1), .int .i64 pn, .int .i64 ra', .int .i64 rb', .int .i64 2, .int .i64 0, .int .i64 0, .int .i64 0], .int .i64 0]) (by simp [results, Try.results52, go_sem, go0, go1, go2, go3, go4, go5, go6, go7, go8]) rfl ?_
          refine ⟨some ⟨b1, 0, none⟩, some ⟨b2, 0, none⟩, P + 1, P + 1, ?_, .inr ⟨b1, b2, rfl, rfl, hne, by omega, by omega, by omega, by omega, M1, M2⟩, hM⟩
          simp only [gmV, HLX.out, HLY.out]
end Go.Proofs.Ytokjkcnjmfbfiaa
